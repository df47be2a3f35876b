/- Rows of fields: pens and eyes. -/
import Derived.Test.YtobgibmpodggkaaGreatDoorKB
import Derived.Test.YtobgibmpodggkaaGreatDoorEls
import Derived.Test.YtobgibmpodggkaaGreatDoorDec10
import Derived.Lib.LazyBuf
import Derived.Deep.DeepCutAuto
namespace Go.Proofs.YtobgibmpodggkaaGreatDoor
open Go.ChangeShapes Go.WideShapes Go.ChangeAt Go.RowKit
set_option linter.unusedVariables false
set_option linter.unusedSimpArgs false

def strC23 (f : ByteArray) : List Value := [.string f]
def strV23 (F : List ByteArray) : List (List Value) := F.map strC23
theorem strV23_len (F : List ByteArray) : (strV23 F).length = F.length := by simp [strV23]
theorem strV23_m (F : List ByteArray) : ∀ x ∈ strV23 F, x.length = 1 := fun x hx => by
  obtain ⟨f, -, rfl⟩ := List.mem_map.1 hx; rfl
theorem strV23_one (F : List ByteArray) : ∀ y ∈ strV23 F, ∀ u ∈ y, u.oneCell' = true := fun y hy u hu => by
  obtain ⟨f, -, rfl⟩ := List.mem_map.1 hy
  obtain rfl := List.mem_singleton.1 hu; rfl
theorem strV23_app (F G : List ByteArray) : (strV23 (F ++ G)).flatten = (strV23 F).flatten ++ (strV23 G).flatten := by simp [strV23]
theorem strO23 : CellsOf Tryz.prog 22 9 1 16 := ⟨Tryz.underlying22, by kernel_rfl⟩
/-- The first error. -/
def kp (e x : Int) : Int := if e = 0 then x else e
theorem kp_zero (x : Int) : kp 0 x = x := rfl
theorem kp_no {e : Int} (x : Int) (h : e ≠ 0) : kp e x = e := if_neg h
theorem kp_bd {e x : Int} (h1 : 0 ≤ e ∧ e ≤ 9) (h2 : 0 ≤ x ∧ x ≤ 9) : 0 ≤ kp e x ∧ kp e x ≤ 9 := by unfold kp; split <;> assumption
theorem kp_ok {e x : Int} (h : kp e x = 0) : e = 0 ∧ x = 0 := by
  unfold kp at h; split at h
  · rename_i h1; exact ⟨h1, h⟩
  · rename_i h1; exact absurd h h1
/-- All blocks below base stay, and all but that of the object and of its slice. -/
structure PEff (base p j : Nat) (w w' : World) : Prop where
  below : Below base w w'
  owp : Owp p j w w'
theorem PEff.refl (base p j : Nat) (w : World) : PEff base p j w w := ⟨Below.refl _ _, Owp.refl _ _ _⟩
theorem PEff.trans {base p j : Nat} {a b c : World} (h : PEff base p j a b) (k : PEff base p j b c) : PEff base p j a c := ⟨h.below.trans k.below, h.owp.trans k.owp⟩
theorem PEff.after {base p j : Nat} {w w' : World} (hb : base ≤ w.heap.size) (hp : p < w.heap.size) (h : After w w') : PEff base p j w w' := ⟨Below.mono h hb, Owp.after hp h⟩
theorem PEff.cell {base p i j : Nat} {w w' : World} {c : Array Value} {T : TypeId} {v : Value} (hb : base ≤ p) (hH : w.heap[p]? = some (.cells c T (0, 0))) (hij : i ≠ j) (hj : j < c.size) (hS : w.setCell ⟨p, i, none⟩ v = w') (hO : Only p w w') : PEff base p j w w' :=
  ⟨⟨hO.os, hO.tape, hO.output, by rw [hO.size]; exact Nat.le_refl _, fun k hk => hO.block k (by omega)⟩, by rw [← hS]; exact Owp.cell hH hij hj⟩
/-- A pen in memory. -/
def PenIn (w : World) (base B : Nat) (e : Int) (L : List ByteArray) : Prop := ∃ a cap, w.heap[B]? = some (.cells #[.bool true, .int .i64 e, .slice a L.length cap] 82 (0, 0)) ∧ OwnE 9 w base 1 (.slice a L.length cap) L.length (strV23 L).flatten
theorem PenIn.aft {w w2 : World} {base B : Nat} {e : Int} {L : List ByteArray} (h : PenIn w base B e L) (hA : After w w2) : PenIn w2 base B e L := by
  obtain ⟨a, cap, h1, h2⟩ := h
  exact ⟨a, cap, held_after hA h1, h2.below hA⟩
theorem PenIn.lt {w : World} {base B : Nat} {e : Int} {L : List ByteArray} (h : PenIn w base B e L) : B < w.heap.size := by
  obtain ⟨_, _, h1, _⟩ := h
  exact held_lt h1
/-- What stands beside a pen stays. -/
theorem PenIn.besides {w w2 : World} {base B D : Nat} {e : Int} {L : List ByteArray} {c : Array Value} {T : TypeId} (h : PenIn w base B e L) (hK : PEff base B 2 w w2) (hD : w.heap[D]? = some (.cells c T (0, 0))) (hne : D ≠ B) (hT : T ≠ 9) : w2.heap[D]? = some (.cells c T (0, 0)) := by
  obtain ⟨a, cap, h1, h2⟩ := h
  rw [hK.owp.block D (held_lt hD) hne (by rw [wown_at h1 (j := 2) rfl]; exact fun e => h2.ne hD hT e.symm)]
  exact hD
theorem eff_set24 {g j : Nat} (w : World) (v : Value) : Eff g w (w.setCell ⟨g, j, none⟩ v) := ⟨rfl, rfl, rfl, by simp [World.setCell], fun k _ h => Below.heap_setCell w ⟨g, j, none⟩ v k h⟩
theorem eff_refl24 (g : Nat) (w : World) : Eff g w w := ⟨rfl, rfl, rfl, Nat.le_refl _, fun _ _ _ => rfl⟩
theorem eff_trans24 {g : Nat} {a b c : World} (h : Eff g a b) (k : Eff g b c) : Eff g a c := ⟨k.os.trans h.os, k.tape.trans h.tape, k.output.trans h.output, Nat.le_trans h.size k.size, fun j h1 h2 => (k.block j (Nat.lt_of_lt_of_le h1 h.size) h2).trans (h.block j h1 h2)⟩
theorem eff_after24 {g : Nat} {a b : World} (h : After a b) : Eff g a b := ⟨h.os, h.tape, h.output, h.size, fun j h1 _ => h.block j h1⟩
theorem eff_only24 {g : Nat} {a b : World} (h : Only g a b) : Eff g a b := ⟨h.os, h.tape, h.output, by rw [h.size]; exact Nat.le_refl _, fun j _ h2 => h.block j h2⟩
theorem eff_below24 {M g : Nat} {a b c : World} (h : Below M a b) (k : Eff g b c) (hg : M ≤ g) (hM : M ≤ b.heap.size) : Below M a c := h.trans ⟨k.os, k.tape, k.output, k.size, fun j hj => k.block j (by omega) (by omega)⟩
theorem eff_block24 {B k : Nat} {A A' : World} {o : Obj} (h : Eff B A A') (hk : A.heap[k]? = some o) (hn : k ≠ B) : A'.heap[k]? = some o := (h.block k (held_lt hk) hn).trans hk
theorem els_eff24 {w w' : World} {g m : Nat} {a : Option Addr} {len cap : Nat} {xs : List (List Value)} (h : Els w m a len cap xs) (k : Eff g w w') (hne : ∀ x, a = some x → x.block ≠ g) : Els w' m a len cap xs :=
  ⟨h.1, h.2.1, h.2.2.1, h.2.2.2.1, fun i x hx => by
    obtain ⟨h1, b, off, e, hc⟩ := h.2.2.2.2 i x hx
    exact ⟨h1, b, off, e, fun j v hj => (World.cell?_of_block (w := w) (a := ⟨b, off + i * m + j, none⟩) (k.block b (World.block_lt_of_cell? w _ (hc j v hj)) (hne _ e))).trans (hc j v hj)⟩⟩
/-- An eye in memory. -/
def EyeIn (w : World) (B : Nat) (e : Int) (L : List ByteArray) : Prop := ∃ a cap, w.heap[B]? = some (.cells #[.bool true, .int .i64 e, .slice a L.length cap] 79 (0, 0)) ∧ Els w 1 a L.length cap (strV23 L) ∧ ∀ x, a = some x → x.block ≠ B
theorem EyeIn.aft {w w2 : World} {B : Nat} {e : Int} {L : List ByteArray} (h : EyeIn w B e L) (hA : After w w2) : EyeIn w2 B e L := by
  obtain ⟨a, cap, h1, h2, h3⟩ := h
  exact ⟨a, cap, held_after hA h1, h2.below hA, h3⟩
theorem EyeIn.lt {w : World} {B : Nat} {e : Int} {L : List ByteArray} (h : EyeIn w B e L) : B < w.heap.size := by
  obtain ⟨_, _, h1, _⟩ := h
  exact held_lt h1
def txS (e : Int) : List ByteArray → ByteArray × Int × List ByteArray
  | [] => (⟨#[]⟩, kp e 3, [])
  | s :: r => (s, e, r)
/-- A number is read: it, and what the eye is then. -/
def nmS (e : Int) (L : List ByteArray) (W M F lo hi : Int) : (Bool × Int) × Int × List ByteArray :=
  (((takD (txS e L).1 W M F lo hi).1, (takD (txS e L).1 W M F lo hi).2.1), kp (txS e L).2.1 (takD (txS e L).1 W M F lo hi).2.2, (txS e L).2.2)
def agS (e : Int) (L : List ByteArray) (lat : Bool) : (Bool × Int) × Int × List ByteArray :=
  (((tkaD (txS e L).1 (txS (txS e L).2.1 (txS e L).2.2).1 lat).1, (tkaD (txS e L).1 (txS (txS e L).2.1 (txS e L).2.2).1 lat).2.1),
    kp (txS (txS e L).2.1 (txS e L).2.2).2.1 (tkaD (txS e L).1 (txS (txS e L).2.1 (txS e L).2.2).1 lat).2.2, (txS (txS e L).2.1 (txS e L).2.2).2.2)
set_option maxRecDepth 100000 in
theorem cutE23 (a : Option Addr) (len cap : Nat) (hc : len ≤ cap) (hn : 1 ≤ len) : ∃ a2 : Option Addr, (∀ W : World, (Instr.slice 22 (.slice a len cap) (some (.int .i64 1)) none none).run Tryz.prog W = .ok (.slice a2 (len - 1) (cap - 1)) W) ∧ (∀ (U : World) (xs : List (List Value)), Els U 1 a len cap xs → Els U 1 a2 (len - 1) (cap - 1) (xs.drop 1)) ∧ (∀ x, a2 = some x → ∃ y, a = some y ∧ y.block = x.block) := by
  have e : ∀ W : World, (Instr.slice 22 (.slice a len cap) (some (.int .i64 1)) none none).run Tryz.prog W = .ok (.slice (if cap = 1 then a else a.map (·.add 1)) (len - 1) (cap - 1)) W := by
    intro W
    rw [run_slice_l W 22 a len cap (by rfl) .i64 1 (by omega) (by omega)]
    go_simp <;> simp [sliced]
  by_cases c : cap = 1
  · refine ⟨a, ?_, ?_, fun x hx => ⟨x, hx, rfl⟩⟩
    · intro W; rw [e W, if_pos c]
    · intro U xs h
      obtain ⟨h1, h2, h3, h4, h5⟩ := h
      refine ⟨by rw [List.length_drop, h1], by omega, by omega, fun e => by omega, fun i x hx => ?_⟩
      have hx2 := (List.getElem?_eq_some_iff.1 hx).1
      rw [List.length_drop] at hx2
      omega
  · refine ⟨a.map (·.add 1), ?_, ?_, fun x hx => ?_⟩
    · intro W; rw [e W, if_neg c]
    · intro U xs h
      exact h.drop 1 hn
    · cases a with
      | none => cases hx
      | some y => refine ⟨y, rfl, ?_⟩; cases hx; unfold Addr.add; split <;> rfl
theorem p23right (B : Nat) (b : Bool) (v1 v2 : Value) (w : World) (h : w.heap[B]? = some (.cells #[.bool b, v1, v2] 82 (0, 0))) : Calls Tryz.prog 44 #[.pointer (some ⟨B, 0, none⟩)] w fun r w' => r = .returned (.bool b) ∧ w' = w := by
  have z0 := held_cell h 0 _ rfl
  clear h
  go_enter Tryz.func44, Tryz.ntmps44
  go_wp2_with fail
  go_ret
  exact ⟨rfl, rfl⟩
theorem p23right_nil (w : World) : Calls Tryz.prog 44 #[.pointer none] w fun r w' => r = .returned (.bool false) ∧ w' = w := by
  go_enter Tryz.func44, Tryz.ntmps44
  go_wp2_with fail
  go_ret
  exact ⟨rfl, rfl⟩
theorem e23right (B : Nat) (b : Bool) (v1 v2 : Value) (w : World) (h : w.heap[B]? = some (.cells #[.bool b, v1, v2] 79 (0, 0))) : Calls Tryz.prog 39 #[.pointer (some ⟨B, 0, none⟩)] w fun r w' => r = .returned (.bool b) ∧ w' = w := by
  have z0 := held_cell h 0 _ rfl
  clear h
  go_enter Tryz.func39, Tryz.ntmps39
  go_wp2_with fail
  go_ret
  exact ⟨rfl, rfl⟩
theorem e23right_nil (w : World) : Calls Tryz.prog 39 #[.pointer none] w fun r w' => r = .returned (.bool false) ∧ w' = w := by
  go_enter Tryz.func39, Tryz.ntmps39
  go_wp2_with fail
  go_ret
  exact ⟨rfl, rfl⟩
theorem keep23_any (base B : Nat) (T : TypeId) (v0 v2 : Value) (e x : Int) (w : World) (h : w.heap[B]? = some (.cells #[v0, .int .i64 e, v2] T (0, 0))) (hb : base ≤ B) : Calls Tryz.prog 40 #[.pointer (some ⟨B, 0, none⟩), .int .i64 x] w fun r w' => r = .returned (.tuple #[]) ∧ w'.heap[B]? = some (.cells #[v0, .int .i64 (kp e x), v2] T (0, 0)) ∧ PEff base B 2 w w' ∧ Only B w w' := by
  have z1 := held_cell h 1 _ rfl
  have z2 := held_free h 1
  by_cases c : e = 0
  case neg =>
    have q : (e == 0) = false := by simpa using c
    have hk := hid (kp_no x c)
    replace h := hid h
    clear c
    go_enter Tryz.func40, Tryz.ntmps40
    go_wp2_with fail
    go_end0
    exact ⟨rfl, by rw [hk.out]; exact h.out, PEff.refl _ _ _ _, ⟨rfl, rfl, rfl, rfl, fun _ _ => rfl⟩⟩
  subst c
  obtain ⟨S1, hS1, s1, o1⟩ := st1 h 1 (.int .i64 x)
  have hp := hid (PEff.cell (base := base) (j := 2) hb h (by decide) (by simp) hS1 o1)
  have hs := hid s1
  have ho := hid o1
  clear h s1 o1
  go_enter Tryz.func40, Tryz.ntmps40
  go_wp2_with fail
  go_end0
  exact ⟨rfl, hs.out, hp.out, ho.out⟩
set_option maxRecDepth 100000 in
set_option maxHeartbeats 2000000 in
theorem ptext_any (base B : Nat) (e x : Int) (L : List ByteArray) (s : ByteArray) (w : World) (hP : PenIn w base B e L) (hl : L.length ≤ 1000) (hb : base ≤ B) : Calls Tryz.prog 34 #[.pointer (some ⟨B, 0, none⟩), .string s, .int .i64 x] w fun r w' => r = .returned (.tuple #[]) ∧ PenIn w' base B (kp e x) (L ++ [s]) ∧ PEff base B 2 w w' := by
  obtain ⟨a, cap, hp, hO⟩ := hP
  have hlt := held_lt hp
  have kr := hid (fun W h => p23right B true (.int .i64 e) (.slice a L.length cap) W h)
  have kk := hid (fun W h => keep23_any base B 82 (.bool true) (.slice a L.length cap) e x W h hb)
  obtain ⟨n, hn⟩ : ∃ n, L.length = n := ⟨_, rfl⟩
  have hLn := hid (show (L ++ [s]).length = n + 1 by rw [List.length_append, hn]; rfl)
  rw [hn] at hp hO kr kk hl
  clear hn
  obtain ⟨E, hE⟩ : ∃ E, kp e x = E := ⟨_, rfl⟩
  rw [hE] at kk ⊢
  clear hE
  replace hp := hid hp
  replace hO := hid hO
  go_enter Tryz.func34, Tryz.ntmps34
  go_wp2_with fail
  refine (kr.out _ hp.out).mono ?_
  rintro r V ⟨rfl, hv⟩
  obtain rfl : w = V := hv.symm
  go_wp2_with fail
  refine (kk.out _ hp.out).mono ?_
  rintro r V ⟨rfl, hq, hK, hN⟩
  have hO2 := hO.out.kept (w' := V) (fun g hg => hN.block g (fun e => by subst e; exact (hO.out.ne hp.out (by decide)) hg))
  have z2 := held_cell hq 2 _ rfl
  have hA := (alloc_new V (.cells #[.string s] 9)).2.1
  have hE := els_one V #[.string s] 9 1 rfl
  have hO3 := hO2.below hA
  have hp3 := held_after hA hq
  have sA := hA.size
  have hltV : B < V.heap.size := held_lt hq
  have hbs : base ≤ (V.alloc (.cells #[.string s] 9)).heap.size := by omega
  have hne : (Value.slice a n cap).ownBlock ≠ some B := hO3.ne hp3 (by decide)
  have hef0 := hid (hK.trans (PEff.after (base := base) (p := B) (j := 2) (by omega) hltV hA))
  have hw0 := hid (wown_at hp3 (j := 2) (v := .slice a n cap) rfl)
  replace hne := hid hne
  replace hO3 := hid hO3
  replace hp3 := hid hp3
  replace hE := hid hE
  clear hA hq hK hN hO2 hO hp
  go_wp2_with (first | (at_builtin; refine wpList_appE rfl (.tmp 18) (.tmp 20) 22 rfl base 9 1 16 strO23 (by decide) (.slice a n cap) n (strV23 L).flatten rfl hO3.out (some ⟨_, 0, none⟩) 1 1 [[.string s]] rfl hE.out (strV23_one [s]) (by unfold maxLen; omega) (by omega) hbs ?_))
  intro a' cap' W9 hO9 hG hN
  have hp9 := (hG.block B (by omega) (fun e => hne.out e.symm)).trans hp3.out
  have y0 := held_cell hp9 2 _ rfl
  have y1 := held_free hp9 2
  obtain ⟨S1, hS1, s1, o1⟩ := st1 hp9 2 (.slice a' (n + 1) cap')
  have hfin : PenIn S1 base B E (L ++ [s]) := ⟨a', cap', (by rw [hLn.out]; exact s1), (by rw [hLn.out, strV23_app]; exact (hO9.kept (fun g hg => o1.block g (fun e => by subst e; exact (hO9.ne hp9 (by decide)) hg))))⟩
  have hef : PEff base B 2 w S1 := hef0.out.trans ⟨((Below.refl _ _).grown hG hbs (fun k e => (hO3.out.lt k e).1)).trans ⟨o1.os, o1.tape, o1.output, by rw [o1.size]; exact Nat.le_refl _, fun k hk => o1.block k (by omega)⟩, by rw [← hS1]; exact Owp.set hp9 (by simp) hG (fun k e => by rw [hw0.out]; exact e) (fun k e => by rw [hw0.out, World.size_alloc]; exact hN k e)⟩
  clear hO9 hp9 hG hN o1 s1
  replace hfin := hid hfin
  replace hef := hid hef
  go_wp2_with fail
  go_end0
  exact ⟨rfl, hfin.out, hef.out⟩
set_option maxRecDepth 100000 in
set_option maxHeartbeats 2000000 in
theorem clone23_any (a : Option Addr) (len cap : Nat) (L : List ByteArray) (w : World) (hl : len ≤ 1000) (hE : Els w 1 a len cap (strV23 L)) : Calls Tryz.prog 38 #[.slice a len cap] w fun e w' => ∃ a' cap', e = .returned (.slice a' len cap') ∧ Els w' 1 a' len cap' (strV23 L) ∧ (∀ x, a' = some x → x.block < w'.heap.size) ∧ After w w' := by
  cases a with
  | none =>
    obtain ⟨q1, q2, q3, q4, q5⟩ := hE
    obtain rfl : cap = 0 := q4 rfl
    obtain rfl : len = 0 := by omega
    obtain rfl : L = [] := List.eq_nil_of_length_eq_zero (by rw [← strV23_len]; exact q1)
    have hnil := run_eql_slice_nil (P := Tryz.prog) w 22 9 none 0 0 Tryz.underlying22
    go_enter Tryz.func38, Tryz.ntmps38
    go_wp2_with fail
    go_ret
    exact ⟨none, 0, rfl, Els.nil _ _, (fun x hx => by cases hx), After.refl _⟩
  | some x =>
    have hA := (alloc_new w (.cells #[] 9)).2.1
    have hO := OwnE.lit (E := 9) w #[] 0 w.heap.size 1 (Nat.le_refl _) (by unfold maxLen; omega) rfl
    have hE2 := hE.below hA
    have sA := hA.size
    have hnil := run_eql_slice_nil (P := Tryz.prog) w 22 9 (some x) len cap Tryz.underlying22
    have hm := strV23_m L
    have h1 := strV23_one L
    have hlx := hE.1
    obtain ⟨xs, hxs⟩ : ∃ xs, strV23 L = xs := ⟨_, rfl⟩
    rw [hxs] at hE2 hE hm hlx h1 ⊢
    clear hxs
    replace hE2 := hid hE2
    replace hE := hid hE
    replace hm := hid hm
    replace hlx := hid hlx
    replace hA := hid hA
    replace hO := hid hO
    replace h1 := hid h1
    go_enter Tryz.func38, Tryz.ntmps38
    go_wp2_with (first | (at_builtin; refine wpList_appE rfl (.tmp 5) (.tmp 6) 22 rfl w.heap.size 9 1 16 strO23 (by decide) (.slice (some ⟨w.heap.size, 0, none⟩) 0 0) 0 [] rfl hO.out (some x) len cap xs rfl hE2.out h1.out (by unfold maxLen; omega) (by omega) sA ?_))
    try simp only [Nat.zero_add, List.nil_append]
    intro a' cap' W9 hO9 hG hN
    try simp only [Nat.zero_add, List.nil_append] at hO9 hN
    have hfin := hid (hO9.els hlx.out hm.out)
    have hB9 := hid (hA.out.grown hG sA (fun k e => (hO.out.lt k e).1))
    have hbk : ∀ x, a' = some x → x.block < W9.heap.size := fun x hx => by
      obtain ⟨a2, c2, e2, -, -, -, h6⟩ := hO9.sl
      have hb := hO9.lt x.block
      cases e2
      obtain ⟨q1, q2, -⟩ := h6 x hx
      refine (hb ?_).2.1
      subst hx
      obtain ⟨b, o, s⟩ := x
      dsimp only at q1 q2
      subst q1 q2
      rfl
    replace hbk := hid hbk
    clear hO9 hG hN
    go_wp2_with fail
    go_ret
    exact ⟨a', cap', by simp, hfin.out, hbk.out, hB9.out⟩
set_option maxRecDepth 100000 in
set_option maxHeartbeats 2000000 in
/-- The fields, or the first error. -/
def DnOk (w : World) (e : Int) (L : List ByteArray) (r : Ending) (w' : World) : Prop := ∃ a cap, r = .returned (.tuple #[.slice a (if e = 0 then L else []).length cap, .int .i64 e]) ∧ Els w' 1 a (if e = 0 then L else []).length cap (strV23 (if e = 0 then L else [])) ∧ (∀ x, a = some x → x.block < w'.heap.size) ∧ After w w'
set_option maxRecDepth 100000 in
set_option maxHeartbeats 2000000 in
theorem pdone_any (base B : Nat) (e : Int) (L : List ByteArray) (w : World) (hP : PenIn w base B e L) (hl : L.length ≤ 1000) : Calls Tryz.prog 37 #[.pointer (some ⟨B, 0, none⟩)] w fun r w' => DnOk w e L r w' := by
  obtain ⟨a, cap, hp, hO⟩ := hP
  have hE := hO.els (strV23_len L) (strV23_m L)
  have kr := hid (fun W h => p23right B true (.int .i64 e) (.slice a L.length cap) W h)
  have kc := hid (fun W h => clone23_any a L.length cap L W hl h)
  have z1 := held_cell hp 1 _ rfl
  have z2 := held_cell hp 2 _ rfl
  replace hp := hid hp
  replace hE := hid hE
  clear hO
  by_cases c : e = 0
  case neg =>
    have q : (e != 0) = true := by simpa using c
    have hd2 := hid (fun (w2 : World) (hB : After w w2) => (⟨none, 0, by rw [if_neg c]; rfl, by rw [if_neg c]; exact Els.nil _ _, (fun x hx => by cases hx), hB⟩ : DnOk w e L (.returned (.tuple #[.slice none 0 0, .int .i64 e])) w2))
    clear c kc
    go_enter Tryz.func37, Tryz.ntmps37
    go_wp2_with fail
    refine (kr.out _ hp.out).mono ?_
    rintro r V ⟨rfl, hv⟩
    obtain rfl : w = V := hv.symm
    go_upto_region 4 with (fail)
    apply wp_region_seg (w := w) (S := [.q [], .q [], .q [], .q [], .q [], .q [], .q []]) (E := [.q0 _, .q0 _, .q0 _, .q0 _, .q0 _, .q0 _, .q0 _]) (by kernel_rfl) rfl (by kernel_rfl) rfl rfl
    intro th hge hne
    iterate 4 refine Seg.sq ?_
    refine Seg.sq ?_ (ht := Or.inl ⟨by rfl, fun U hU => vp_quiet (by (have h0 := held_cell (held_after hU.1 hp.out) 1 _ rfl; go_simp <;> exact rfl))⟩)
    refine Seg.sq ?_
    refine Seg.sq ?_
    refine Seg.stop (fun U1 hU hk => ?_)
    clear hk hge hne
    have sz1 := hU.size
    have hB : Below w.heap.size w U1 := hU
    clear hU
    go_wp2_with fail
    go_ret2
    exact hd2.out _ hB
  subst c
  go_enter Tryz.func37, Tryz.ntmps37
  go_wp2_with fail
  refine (kr.out _ hp.out).mono ?_
  rintro r V ⟨rfl, hv⟩
  obtain rfl : w = V := hv.symm
  go_wp2_with fail
  refine (kc.out _ hE.out).mono ?_
  rintro r V ⟨a', cap', rfl, h1, h2, h3⟩
  replace h1 := hid h1
  replace h2 := hid h2
  replace h3 := hid h3
  go_wp2_with fail
  go_ret2
  exact ⟨a', cap', rfl, h1.out, h2.out, h3.out⟩
set_option maxRecDepth 100000 in
set_option maxHeartbeats 2000000 in
theorem prow_any (base : Nat) (w : World) (hb : base ≤ w.heap.size) : Calls Tryz.prog 33 #[] w fun r w' => ∃ B, r = .returned (.pointer (some ⟨B, 0, none⟩)) ∧ PenIn w' base B 0 [] ∧ After w w' ∧ base ≤ B := by
  have nw := alloc_new w (.cells #[.bool false, .int .i64 0, .slice none 0 0] 82)
  obtain ⟨S1, hS1, s1, o1⟩ := st1 nw.2.2 0 (.bool true)
  have z1 := held_cell nw.2.2 0 _ rfl
  have z2 := held_free nw.2.2 0
  have hfin : PenIn S1 base w.heap.size 0 [] := ⟨none, 0, s1, OwnE.nil _ _ _ _⟩
  have hB : After w S1 := belowS nw.2.1 o1 (Nat.le_refl _)
  replace hfin := hid hfin
  replace hB := hid hB
  clear s1 o1 nw
  go_enter Tryz.func33, Tryz.ntmps33
  go_wp2_with fail
  go_ret
  exact ⟨_, rfl, hfin.out, hB.out, hb⟩
set_option maxRecDepth 100000 in
set_option maxHeartbeats 2000000 in
theorem look_any (a : Option Addr) (len cap : Nat) (L : List ByteArray) (w : World) (hlen : L.length = len) (hl : len ≤ 1000) (hE : Els w 1 a len cap (strV23 L)) : Calls Tryz.prog 13 #[.slice a len cap] w fun r w' => ∃ B, r = .returned (.pointer (some ⟨B, 0, none⟩)) ∧ EyeIn w' B 0 L ∧ After w w' ∧ w.heap.size ≤ B := by
  have kc := hid (clone23_any a len cap L w hl hE)
  replace hlen := hid hlen
  clear hE
  go_enter Tryz.func13, Tryz.ntmps13
  go_wp2_with fail
  refine (kc.out).mono ?_
  rintro r V ⟨a', cap', rfl, h1, h2, h3⟩
  have nw := alloc_new V (.cells #[.bool false, .int .i64 0, .slice a' len cap'] 79)
  obtain ⟨S1, hS1, s1, o1⟩ := st1 nw.2.2 0 (.bool true)
  have z1 := held_cell nw.2.2 0 _ rfl
  have z2 := held_free nw.2.2 0
  have hE1 := h1.below nw.2.1
  have hne : ∀ x, a' = some x → x.block ≠ V.heap.size := fun x hx => by have := h2 x hx; omega
  have hfin : EyeIn S1 V.heap.size 0 L := ⟨a', cap', by rw [hlen.out]; exact s1, by rw [hlen.out]; exact els_eff24 hE1 (eff_only24 o1) hne, hne⟩
  have hB : After w S1 := bthen h3 (belowS nw.2.1 o1 (Nat.le_refl _))
  have hsz := h3.size
  replace hfin := hid hfin
  replace hB := hid hB
  clear s1 o1 nw hE1 hne h1 h2 h3
  go_wp2_with fail
  go_ret
  exact ⟨_, rfl, hfin.out, hB.out, hsz⟩
set_option maxRecDepth 100000 in
set_option maxHeartbeats 4000000 in
theorem etext_raw (B : Nat) (e : Int) (L : List ByteArray) (a : Option Addr) (cap : Nat) (hl : L.length ≤ 1000) (hc : L.length ≤ cap) (hne : ∀ x, a = some x → x.block ≠ B) : ∃ a2 cap2, (∀ U : World, U.heap[B]? = some (.cells #[.bool true, .int .i64 e, .slice a L.length cap] 79 (0, 0)) → Els U 1 a L.length cap (strV23 L) → Calls Tryz.prog 15 #[.pointer (some ⟨B, 0, none⟩)] U fun r U' => r = .returned (.string (txS e L).1) ∧ Eff B U U' ∧ U'.heap[B]? = some (.cells #[.bool true, .int .i64 (txS e L).2.1, .slice a2 (txS e L).2.2.length cap2] 79 (0, 0))) ∧ (∀ U : World, Els U 1 a L.length cap (strV23 L) → Els U 1 a2 (txS e L).2.2.length cap2 (strV23 (txS e L).2.2)) ∧ (∀ x, a2 = some x → x.block ≠ B) ∧ (txS e L).2.2.length ≤ cap2 := by
  have kr := hid (fun W h => e23right B true (.int .i64 e) (.slice a L.length cap) W h)
  cases L with
  | nil =>
    refine ⟨a, cap, fun U hp hE => ?_, fun U h => h, hne, Nat.zero_le _⟩
    have kk := hid (fun W h => keep23_any 0 B 79 (.bool true) (.slice a ([] : List ByteArray).length cap) e 3 W h (Nat.zero_le _))
    have z2 := held_cell hp 2 _ rfl
    replace hp := hid hp
    clear hE hne hl hc
    dsimp only [txS]
    simp only [List.length_nil] at kk kr z2 hp ⊢
    go_enter Tryz.func15, Tryz.ntmps15
    go_wp2_with fail
    refine (kr.out _ hp.out).mono ?_
    rintro r V ⟨rfl, hv⟩
    obtain rfl : U = V := hv.symm
    go_wp2_with fail
    refine (kk.out _ hp.out).mono ?_
    rintro r V ⟨rfl, hq, hK, hN⟩
    have hef := hid (eff_only24 hN)
    replace hq := hid hq
    clear hK hN
    go_wp2_with fail
    go_ret
    exact ⟨rfl, hef.out, hq.out⟩
  | cons s R =>
    obtain ⟨n, hn⟩ : ∃ n, R.length = n := ⟨_, rfl⟩
    have hlen : (s :: R).length = n + 1 := by rw [List.length_cons, hn]
    rw [hlen] at hl hc kr ⊢
    obtain ⟨a2, hcut, hcE, hcb⟩ := cutE23 a (n + 1) cap hc (by omega)
    simp only [Nat.add_sub_cancel] at hcut hcE
    dsimp only [txS]
    rw [hn]
    refine ⟨a2, cap - 1, fun U hp hE => ?_, fun U h => hcE U _ h, fun x hx => (by obtain ⟨y, hy, hyb⟩ := hcb x hx; rw [← hyb]; exact hne y hy), by omega⟩
    obtain ⟨b, off, rfl, hc1⟩ := hE.at1 (i := 0) (v0 := .string s) rfl
    rw [Nat.add_zero] at hc1
    have z2 := held_cell hp 2 _ rfl
    have z3 := held_free hp 2
    obtain ⟨S1, hS1, s1, o1⟩ := st1 hp 2 (.slice a2 n (cap - 1))
    have hef := hid (eff_only24 o1)
    have q : (((n + 1 : Nat) : Int) == 0) = false := by simp; omega
    have q2 : ((n : Int) + 1 == 0) = false := by simp; omega
    replace hp := hid hp
    replace s1 := hid s1
    clear o1 hne hE hcE hcb hn hlen
    go_enter Tryz.func15, Tryz.ntmps15
    go_wp2_with fail
    refine (kr.out _ hp.out).mono ?_
    rintro r V ⟨rfl, hv⟩
    obtain rfl : U = V := hv.symm
    go_wp2_with fail
    go_ret
    exact ⟨rfl, hef.out, s1.out⟩
theorem etext_any (B : Nat) (e : Int) (L : List ByteArray) (w : World) (hP : EyeIn w B e L) (hl : L.length ≤ 1000) : Calls Tryz.prog 15 #[.pointer (some ⟨B, 0, none⟩)] w fun r w' => r = .returned (.string (txS e L).1) ∧ EyeIn w' B (txS e L).2.1 (txS e L).2.2 ∧ Eff B w w' := by
  obtain ⟨a, cap, hp, hE, hne⟩ := hP
  obtain ⟨a2, cap2, h1, h2, h3, -⟩ := etext_raw B e L a cap hl hE.2.1 hne
  refine (h1 w hp hE).mono ?_
  rintro r V ⟨rfl, hef, hq⟩
  exact ⟨rfl, ⟨a2, cap2, hq, els_eff24 (h2 _ hE) hef h3, h3⟩, hef⟩
theorem eerr_any (B : Nat) (e : Int) (L : List ByteArray) (w : World) (hP : EyeIn w B e L) : Calls Tryz.prog 23 #[.pointer (some ⟨B, 0, none⟩)] w fun r w' => r = .returned (.int .i64 e) ∧ w' = w := by
  obtain ⟨a, cap, hp, hE, hne⟩ := hP
  have kr := hid (fun W h => e23right B true (.int .i64 e) (.slice a L.length cap) W h)
  have z1 := held_cell hp 1 _ rfl
  have z2 := held_cell hp 2 _ rfl
  replace hp := hid hp
  clear hE hne
  generalize L.length = n at *
  go_enter Tryz.func23, Tryz.ntmps23
  go_wp2_with fail
  refine (kr.out _ hp.out).mono ?_
  rintro r V ⟨rfl, hv⟩
  obtain rfl : w = V := hv.symm
  go_wp2_with fail
  go_ret
  exact ⟨rfl, rfl⟩
theorem efail_any (B : Nat) (e x : Int) (L : List ByteArray) (w : World) (hP : EyeIn w B e L) : Calls Tryz.prog 16 #[.pointer (some ⟨B, 0, none⟩), .int .i64 x] w fun r w' => r = .returned (.tuple #[]) ∧ EyeIn w' B (kp e x) L ∧ Eff B w w' := by
  obtain ⟨a, cap, hp, hE, hne⟩ := hP
  have kr := hid (fun W h => e23right B true (.int .i64 e) (.slice a L.length cap) W h)
  have kk := hid (fun W h => keep23_any 0 B 79 (.bool true) (.slice a L.length cap) e x W h (Nat.zero_le _))
  replace hp := hid hp
  replace hE := hid hE
  replace hne := hid hne
  go_enter Tryz.func16, Tryz.ntmps16
  go_wp2_with fail
  refine (kr.out _ hp.out).mono ?_
  rintro r V ⟨rfl, hv⟩
  obtain rfl : w = V := hv.symm
  go_wp2_with fail
  refine (kk.out _ hp.out).mono ?_
  rintro r V ⟨rfl, hq, hK, hN⟩
  have hfin := hid (show EyeIn V B (kp e x) L from ⟨a, cap, hq, els_eff24 hE.out (eff_only24 hN) hne.out, hne.out⟩)
  have hef := hid (eff_only24 hN)
  clear hq hK hN
  go_wp2_with fail
  go_end0
  exact ⟨rfl, hfin.out, hef.out⟩
theorem ekeep_any (B : Nat) (e x : Int) (L : List ByteArray) (w : World) (hP : EyeIn w B e L) : Calls Tryz.prog 40 #[.pointer (some ⟨B, 0, none⟩), .int .i64 x] w fun r w' => r = .returned (.tuple #[]) ∧ EyeIn w' B (kp e x) L ∧ Eff B w w' := by
  obtain ⟨a, cap, hp, hE, hne⟩ := hP
  refine (keep23_any 0 B 79 (.bool true) (.slice a L.length cap) e x w hp (Nat.zero_le _)).mono ?_
  rintro r V ⟨rfl, hq, hK, hN⟩
  exact ⟨rfl, ⟨a, cap, hq, els_eff24 hE (eff_only24 hN) hne, hne⟩, eff_only24 hN⟩

end Go.Proofs.YtobgibmpodggkaaGreatDoor
