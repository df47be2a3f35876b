/- Package ack's book: Ask, Open, of any book. -/
import Derived.Test.YthcaljelmchkcaaAck
import Derived.Test.YthcaljelmchkcaaEls
import Derived.Test.YthcaljelmchkcaaKB
import Derived.Lib.LazyBuf
import Derived.Deep.DeepCutAuto
namespace Go.Proofs.Ythcaljelmchkcaa
open Go.ChangeShapes Go.WideShapes Go.ChangeAt Go.RowKit
set_option linter.unusedVariables false
set_option linter.unusedSimpArgs false

theorem ackO : CellsOf Try.prog 36 23 3 24 := ⟨Try.underlying36, by kernel_rfl⟩
def byB (n : Int) : Bool := decide (0 ≤ n) && decide (n ≤ 255)
def ackV (x : Int × Int) : List Value := [.bool false, .int .i64 x.1, .int .i64 x.2]
def acksV (l : List (Int × Int)) : List (List Value) := l.map ackV
theorem acksV_m (l : List (Int × Int)) : ∀ x ∈ acksV l, x.length = 3 := fun x hx => by obtain ⟨y, _, rfl⟩ := List.mem_map.1 hx; rfl
theorem acksV_1 (l : List (Int × Int)) : ∀ y ∈ acksV l, ∀ u ∈ y, u.oneCell' = true := fun x hx u hu => by
  obtain ⟨y, _, rfl⟩ := List.mem_map.1 hx
  simp only [ackV, List.mem_cons, List.not_mem_nil, or_false] at hu
  rcases hu with rfl | rfl | rfl <;> rfl
theorem acksV_at {l : List (Int × Int)} {k : Nat} {x : Int × Int} (h : l[k]? = some x) : (acksV l)[k]? = some [.bool false, .int .i64 x.1, .int .i64 x.2] := by
  simp [acksV, h, ackV]
/-- A book in memory. -/
def BookAt (w : World) (base p : Nat) (l : List (Int × Int)) (y n o : Int) : Prop := ∃ a cap, w.heap[p]? = some (.cells #[.bool true, .slice a l.length cap, .int .i64 y, .int .i64 n, .int .i64 o] 53 (0, 0)) ∧ OwnE 23 w base 3 (.slice a l.length cap) l.length (acksV l).flatten
def askS (l : List (Int × Int)) (c i : Int) : List (Int × Int) × Bool := if (byB c && byB i && decide (l.length < 16)) = true then (l ++ [(c, i)], true) else (l, false)
def placeS (l : List (Int × Int)) (c i : Int) : Nat := l.findIdx (fun x => x.1 == c && x.2 == i)
theorem placeS_no {l : List (Int × Int)} {c i : Int} {k : Nat} {x : Int × Int} (hk : k < placeS l c i) (hx : l[k]? = some x) : (x.1 == c && x.2 == i) = false := by
  have h := List.not_of_lt_findIdx hk
  have hl := (List.getElem?_eq_some_iff.1 hx)
  obtain ⟨h1, rfl⟩ := hl
  simpa using h
theorem placeS_yes {l : List (Int × Int)} {c i : Int} {x : Int × Int} (hx : l[placeS l c i]? = some x) : x.1 = c ∧ x.2 = i := by
  obtain ⟨h1, rfl⟩ := List.getElem?_eq_some_iff.1 hx
  have := List.findIdx_getElem (p := fun x : Int × Int => x.1 == c && x.2 == i) (w := h1)
  unfold placeS
  simpa using this
theorem placeS_le (l : List (Int × Int)) (c i : Int) : placeS l c i ≤ l.length := List.findIdx_le_length
structure St where
  l : List (Int × Int)
  y : Int
  n : Int
  o : Int
def hearS (s : St) (yes : Bool) (c i : Int) : St × Bool :=
  if placeS s.l c i < s.l.length then (⟨s.l.eraseIdx (placeS s.l c i), if yes then s.y + 1 else s.y, if yes then s.n else s.n + 1, s.o⟩, true) else (⟨s.l, s.y, s.n, s.o + 1⟩, false)
/-- What a call on a book at p may change. -/
structure BookEff (base p : Nat) (w w' : World) : Prop where
  below : Below base w w'
  owp : Owp p 1 w w'
theorem BookEff.refl (base p : Nat) (w : World) : BookEff base p w w := ⟨Below.refl _ _, Owp.refl _ _ _⟩
theorem BookEff.trans {base p : Nat} {a b c : World} (h : BookEff base p a b) (k : BookEff base p b c) : BookEff base p a c := ⟨h.below.trans k.below, h.owp.trans k.owp⟩
theorem BookEff.after {base p : Nat} {w w' : World} (hb : base ≤ w.heap.size) (hp : p < w.heap.size) (h : After w w') : BookEff base p w w' := ⟨Below.mono h hb, Owp.after hp h⟩
theorem isbyte_any (n : Int) (w : World) : Calls Try.prog 29 #[.int .i64 n] w fun e w' => e = .returned (.bool (byB n)) ∧ w' = w := by
  unfold byB
  by_cases h1 : 0 ≤ n
  · by_cases h2 : n ≤ 255
    · go_enter Try.func29, Try.ntmps29
      go_wp2_with fail
      all_goals go_ret
      all_goals exact ⟨ret_bool (by first | (simp [h1, h2]; done) | (simp; omega)), rfl⟩
    · go_enter Try.func29, Try.ntmps29
      go_wp2_with fail
      all_goals go_ret
      all_goals exact ⟨ret_bool (by first | (simp [h1, h2]; done) | (simp; omega)), rfl⟩
  · go_enter Try.func29, Try.ntmps29
    go_wp2_with fail
    all_goals go_ret
    all_goals exact ⟨ret_bool (by first | (simp [h1]; done) | (simp; omega)), rfl⟩
theorem octet19_any (n : Int) (w : World) : Calls Try.prog 30 #[.int .i64 n] w fun e w' => e = .returned (.bool (byB n)) ∧ w' = w := by
  unfold byB
  by_cases h1 : 0 ≤ n
  · by_cases h2 : n ≤ 255
    · go_enter Try.func30, Try.ntmps30
      go_wp2_with fail
      all_goals go_ret
      all_goals exact ⟨ret_bool (by first | (simp [h1, h2]; done) | (simp; omega)), rfl⟩
    · go_enter Try.func30, Try.ntmps30
      go_wp2_with fail
      all_goals go_ret
      all_goals exact ⟨ret_bool (by first | (simp [h1, h2]; done) | (simp; omega)), rfl⟩
  · go_enter Try.func30, Try.ntmps30
    go_wp2_with fail
    all_goals go_ret
    all_goals exact ⟨ret_bool (by first | (simp [h1]; done) | (simp; omega)), rfl⟩
set_option maxRecDepth 100000 in
set_option maxHeartbeats 4000000 in
theorem ask_any (base p : Nat) (l : List (Int × Int)) (y n o c i : Int) (w : World) (hk : BookAt w base p l y n o) (hl : l.length ≤ 16) (hb : base ≤ p) : Calls Try.prog 14 #[.pointer (some ⟨p, 0, none⟩), .int .i64 c, .int .i64 i] w fun e w' => e = .returned (.bool (askS l c i).2) ∧ BookAt w' base p (askS l c i).1 y n o ∧ BookEff base p w w' := by
  obtain ⟨a, cap, hp, hO⟩ := hk
  have kr := hid (fun W h => right_at p true (.slice a l.length cap) y n o W h)
  have k1 := hid (fun W => isbyte_any c W)
  have k2 := hid (fun W => isbyte_any i W)
  have hlt := held_lt hp
  have hO2 := hid hO
  clear hO
  have hp2 := hid hp
  have hl2 : (l.length : Int) ≤ 16 := by omega
  have c0 := held_cell hp 0 _ rfl
  have c1 := held_cell hp 1 _ rfl
  have c2 := held_cell hp 2 _ rfl
  have c3 := held_cell hp 3 _ rfl
  have c4 := held_cell hp 4 _ rfl
  clear hp
  cases h1 : byB c
  · rw [h1] at k1
    have e : askS l c i = (l, false) := by unfold askS; rw [if_neg (by rw [h1]; simp)]
    rw [e]
    clear e hl hl2
    go_enter Try.func14, Try.ntmps14
    go_wp2_with fail
    refine (kr.out _ hp2.out).mono ?_
    rintro e V ⟨rfl, rfl⟩
    go_wp2_with fail
    refine (k1.out _).mono ?_
    rintro e V ⟨rfl, rfl⟩
    go_wp2_with fail
    go_ret
    exact ⟨rfl, ⟨a, cap, hp2.out, hO2.out⟩, BookEff.refl _ _ _⟩
  rw [h1] at k1
  cases h2 : byB i
  · rw [h2] at k2
    have e : askS l c i = (l, false) := by unfold askS; rw [if_neg (by rw [h1, h2]; simp)]
    rw [e]
    clear e hl hl2
    go_enter Try.func14, Try.ntmps14
    go_wp2_with fail
    refine (kr.out _ hp2.out).mono ?_
    rintro e V ⟨rfl, rfl⟩
    go_wp2_with fail
    refine (k1.out _).mono ?_
    rintro e V ⟨rfl, rfl⟩
    go_wp2_with fail
    refine (k2.out _).mono ?_
    rintro e V ⟨rfl, rfl⟩
    go_wp2_with fail
    go_ret
    exact ⟨rfl, ⟨a, cap, hp2.out, hO2.out⟩, BookEff.refl _ _ _⟩
  rw [h2] at k2
  by_cases h3 : (16 : Int) ≤ l.length
  · have h3n : ¬ l.length < 16 := by omega
    have e : askS l c i = (l, false) := by unfold askS; rw [if_neg (by rw [h1, h2]; simp; omega)]
    rw [e]
    clear e hl hl2
    go_enter Try.func14, Try.ntmps14
    go_wp2_with fail
    refine (kr.out _ hp2.out).mono ?_
    rintro e V ⟨rfl, rfl⟩
    go_wp2_with fail
    refine (k1.out _).mono ?_
    rintro e V ⟨rfl, rfl⟩
    go_wp2_with fail
    refine (k2.out _).mono ?_
    rintro e V ⟨rfl, rfl⟩
    go_wp2_with fail
    go_ret
    exact ⟨rfl, ⟨a, cap, hp2.out, hO2.out⟩, BookEff.refl _ _ _⟩
  have h3n : l.length < 16 := by omega
  have e : askS l c i = (l ++ [(c, i)], true) := by unfold askS; rw [if_pos (by rw [h1, h2]; simp; omega)]
  rw [e]
  clear e h1 h2 hl hl2
  have hA := (alloc_new w (.cells #[.bool false, .int .i64 c, .int .i64 i] 23)).2.1
  have hE := els_one w #[.bool false, .int .i64 c, .int .i64 i] 23 3 rfl
  have hO3 := hO2.out.below hA
  have hp3 := held_after hA hp2.out
  have sA := hA.size
  have hbs : base ≤ (w.alloc (.cells #[.bool false, .int .i64 c, .int .i64 i] 23)).heap.size := by omega
  have f1 := fun (W : World) (h : W.heap[p]? = some (.cells #[.bool true, .slice a l.length cap, .int .i64 y, .int .i64 n, .int .i64 o] 53 (0, 0))) => held_free h 1
  have hne : (Value.slice a l.length cap).ownBlock ≠ some p := hO3.ne hp3 (by decide)
  have hef0 := hid (BookEff.after (base := base) (p := p) (by omega) hlt hA)
  have hw0 := hid (wown_at hp3 (j := 1) (v := .slice a l.length cap) rfl)
  replace hne := hid hne
  replace hO3 := hid hO3
  replace hp3 := hid hp3
  replace hE := hid hE
  replace f1 := hid f1
  clear hA
  go_enter Try.func14, Try.ntmps14
  go_wp2_with fail
  refine (kr.out _ hp2.out).mono ?_
  rintro e V ⟨rfl, rfl⟩
  go_wp2_with fail
  refine (k1.out _).mono ?_
  rintro e V ⟨rfl, rfl⟩
  go_wp2_with fail
  refine (k2.out _).mono ?_
  rintro e V ⟨rfl, rfl⟩
  go_wp2_with (first | (at_builtin; refine wpList_appE rfl (.tmp 32) (.tmp 36) 36 rfl base 23 3 24 ackO (by decide) (.slice a l.length cap) l.length (acksV l).flatten rfl hO3.out (some ⟨_, 0, none⟩) 1 1 [ackV (c, i)] rfl hE.out (acksV_1 [(c, i)]) (by unfold maxLen; omega) (by omega) hbs ?_))
  intro a' cap' W9 hO9 hG hN
  have hp9 := (hG.block p (by omega) (fun e => hne.out e.symm)).trans hp3.out
  have z0 := held_cell hp9 1 _ rfl
  have z1 := held_free hp9 1
  obtain ⟨S1, hS1, s1, o1⟩ := st1 hp9 1 (.slice a' (l.length + 1) cap')
  have hfin : BookAt S1 base p (l ++ [(c, i)]) y n o := ⟨a', cap', (by rw [List.length_append]; exact s1), (by rw [List.length_append, show acksV (l ++ [(c, i)]) = acksV l ++ [ackV (c, i)] from by simp [acksV], List.flatten_append]; exact (hO9.kept (fun g hg => o1.block g (fun e => by subst e; exact (hO9.ne hp9 (by decide)) hg))))⟩
  have hef : BookEff base p V S1 := hef0.out.trans ⟨((Below.refl _ _).grown hG hbs (fun k e => (hO3.out.lt k e).1)).trans ⟨o1.os, o1.tape, o1.output, by rw [o1.size]; exact Nat.le_refl _, fun k hk => o1.block k (by omega)⟩, by rw [← hS1]; exact Owp.set hp9 (by simp) hG (fun k e => by rw [hw0.out]; exact e) (fun k e => by rw [hw0.out, World.size_alloc]; exact hN k e)⟩
  clear hO9 hp9 hG hN o1 s1
  replace hfin := hid hfin
  replace hef := hid hef
  go_wp2_with fail
  go_ret
  exact ⟨rfl, hfin.out, hef.out⟩
set_option maxRecDepth 100000 in
set_option maxHeartbeats 2000000 in
theorem clonea_any (a : Option Addr) (len cap : Nat) (xs : List (List Value)) (w : World) (hl : len ≤ 1000) (hE : Els w 3 a len cap xs) (h1 : ∀ y ∈ xs, ∀ u ∈ y, u.oneCell' = true) : Calls Try.prog 32 #[.slice a len cap] w fun e w' => ∃ a' cap', e = .returned (.slice a' len cap') ∧ Els w' 3 a' len cap' xs ∧ After w w' := by
  cases a with
  | none =>
    obtain ⟨q1, q2, q3, q4, q5⟩ := hE
    obtain rfl : cap = 0 := q4 rfl
    obtain rfl : len = 0 := by omega
    obtain rfl : xs = [] := List.eq_nil_of_length_eq_zero q1
    have hnil := run_eql_slice_nil (P := Try.prog) w 36 23 none 0 0 Try.underlying36
    go_enter Try.func32, Try.ntmps32
    go_wp2_with fail
    go_ret
    exact ⟨none, 0, rfl, Els.nil _ _, After.refl _⟩
  | some x =>
    have hA := (alloc_new w (.cells #[] 23)).2.1
    have hO := OwnE.lit (E := 23) w #[] 0 w.heap.size 3 (Nat.le_refl _) (by unfold maxLen; omega) rfl
    have hE2 := hE.below hA
    have sA := hA.size
    have hnil := run_eql_slice_nil (P := Try.prog) w 36 23 (some x) len cap Try.underlying36
    have hm : ∀ y ∈ xs, y.length = 3 := fun y hy => by obtain ⟨i, hi, rfl⟩ := List.getElem_of_mem hy; exact (hE.2.2.2.2 i _ (List.getElem?_eq_getElem hi)).1
    have hlx := hE.1
    replace hE2 := hid hE2
    replace hE := hid hE
    replace hm := hid hm
    replace hlx := hid hlx
    replace hA := hid hA
    replace hO := hid hO
    go_enter Try.func32, Try.ntmps32
    go_wp2_with (first | (at_builtin; refine wpList_appE rfl (.tmp 5) (.tmp 6) 36 rfl w.heap.size 23 3 24 ackO (by decide) (.slice (some ⟨w.heap.size, 0, none⟩) 0 0) 0 [] rfl hO.out (some x) len cap xs rfl hE2.out h1 (by unfold maxLen; omega) (by omega) sA ?_))
    try simp only [Nat.zero_add, List.nil_append]
    intro a' cap' W9 hO9 hG hN
    try simp only [Nat.zero_add, List.nil_append] at hO9 hN
    have hfin := hid (hO9.els hlx.out hm.out)
    have hB9 := hid (hA.out.grown hG sA (fun k e => (hO.out.lt k e).1))
    clear hO9 hG hN
    go_wp2_with fail
    go_ret
    exact ⟨a', cap', by simp, hfin.out, hB9.out⟩
set_option maxRecDepth 100000 in
set_option maxHeartbeats 2000000 in
theorem open_any (base p : Nat) (l : List (Int × Int)) (y n o : Int) (w : World) (hk : BookAt w base p l y n o) (hl : l.length ≤ 16) : Calls Try.prog 20 #[.pointer (some ⟨p, 0, none⟩)] w fun e w' => ∃ a' cap', e = .returned (.slice a' l.length cap') ∧ Els w' 3 a' l.length cap' (acksV l) ∧ After w w' := by
  obtain ⟨a, cap, hp, hO⟩ := hk
  have hE := hO.els (by simp [acksV]) (acksV_m l)
  clear hO
  have kr := hid (fun W h => right_at p true (.slice a l.length cap) y n o W h)
  have kc := hid (fun W h => clonea_any a l.length cap (acksV l) W (by omega) h (acksV_1 l))
  replace hE := hid hE
  have c0 := held_cell hp 0 _ rfl
  have c1 := held_cell hp 1 _ rfl
  have c2 := held_cell hp 2 _ rfl
  have c3 := held_cell hp 3 _ rfl
  have c4 := held_cell hp 4 _ rfl
  replace hp := hid hp
  go_enter Try.func20, Try.ntmps20
  go_wp2_with fail
  refine (kr.out _ hp.out).mono ?_
  rintro e V ⟨rfl, rfl⟩
  go_wp2_with fail
  refine (kc.out _ hE.out).mono ?_
  rintro e V2 ⟨a', cap', rfl, hE2, hA⟩
  replace hE2 := hid hE2
  replace hA := hid hA
  go_wp2_with fail
  go_ret
  exact ⟨a', cap', rfl, hE2.out, hA.out⟩

end Go.Proofs.Ythcaljelmchkcaa
