/- Package clock: three, hundredths. -/
import Derived.Test.YthnoomdhgbaecaaGreatDoorClock5
import Derived.Deep.DeepCutAuto
namespace Go.Proofs.YthnoomdhgbaecaaGreatDoor

open Go.ChangeShapes Go.WideShapes Go.ChangeAt Go.RowKit

set_option linter.unusedVariables false

def gN (pre : List (Int × Bool)) (i : Nat) : Int := (pre.map Prod.fst).getD i 0
def okAll (l : List (Int × Bool)) : Bool := l.all Prod.snd
def threeT (l : List (Int × Bool)) : Value := if okAll l = true then .tuple #[.agg #[.int .i64 (gN l 0), .int .i64 (gN l 1), .int .i64 (gN l 2)], .bool true] else .tuple #[.agg #[.int .i64 0, .int .i64 0, .int .i64 0], .bool false]
theorem okAll_pre {pre l : List (Int × Bool)} (h : pre <+: l) (hx : okAll pre = false) : okAll l = false := by
  obtain ⟨r, rfl⟩ := h
  unfold okAll at *
  rw [List.all_append, hx]; rfl
theorem okAll_snoc {pre : List (Int × Bool)} (x : Int × Bool) (h : okAll pre = true) : okAll (pre ++ [x]) = x.2 := by
  unfold okAll at *
  rw [List.all_append, h]; simp
theorem prS_len : ∀ l : List Nat, l.length = 6 → (prS l).length ≤ 3
  | [a, b, c, d, e, f], _ => by
    unfold prS; split
    · unfold prS; split
      · unfold prS; split
        · simp [prS]
        · simp
      · simp
    · simp
theorem bel_eff {C B : Nat} {w A A' : World} (h : Below C w A) (e : Eff B A A') (hB : C ≤ B) (hC : C ≤ A.heap.size) : Below C w A' :=
  h.trans ⟨e.os, e.tape, e.output, e.size, fun k hk => e.block k (by omega) (by omega)⟩
theorem five_new (V : World) (a b c d e : Obj) : ∃ W0, ((((V.alloc a).alloc b).alloc c).alloc d).alloc e = W0 ∧ W0.heap[V.heap.size]? = some a ∧ W0.heap[V.heap.size + 1]? = some b ∧ W0.heap[V.heap.size + 1 + 1]? = some c ∧ W0.heap[V.heap.size + 1 + 1 + 1]? = some d ∧ W0.heap[V.heap.size + 1 + 1 + 1 + 1]? = some e ∧ W0.heap.size = V.heap.size + 1 + 1 + 1 + 1 + 1 ∧ After V W0 := by
  obtain ⟨h1, h2, h3, h4, h5⟩ := three_new V a b c
  generalize ((V.alloc a).alloc b).alloc c = U at *
  have g1 := World.alloc_heap_new U d
  have g2 := World.alloc_heap_new (U.alloc d) e
  rw [World.size_alloc, h4] at g2
  rw [h4] at g1
  have k1 : After U (U.alloc d) := (Below.refl _ U).alloc (Nat.le_refl _) _
  have k2 : After (U.alloc d) ((U.alloc d).alloc e) := (Below.refl _ _).alloc (Nat.le_refl _) _
  exact ⟨_, rfl, held_after k2 (held_after k1 h1), held_after k2 (held_after k1 h2), held_after k2 (held_after k1 h3), held_after k2 g1, g2, by rw [World.size_alloc, World.size_alloc, h4], bthen (bthen h5 k1) k2⟩
theorem pre3 {β : Type} : ∀ pre : List β, pre.length < 3 → pre = [] ∨ (∃ a, pre = [a]) ∨ ∃ a b, pre = [a, b]
  | [], _ => .inl rfl
  | [a], _ => .inr (.inl ⟨a, rfl⟩)
  | [a, b], _ => .inr (.inr ⟨a, b, rfl⟩)
  | a :: b :: c :: r, h => by simp at h; omega
theorem set3h {U : World} {p : Nat} {v0 v1 v2 : Value} {T : TypeId} (h : U.heap[p]? = some (.cells #[v0, v1, v2] T (0, 0))) (u0 u1 u2 : Value) : (((U.setCell ⟨p, 0, none⟩ u0).setCell ⟨p, 1, none⟩ u1).setCell ⟨p, 2, none⟩ u2).heap[p]? = some (.cells #[u0, u1, u2] T (0, 0)) :=
  held_set (held_set (held_set h 0 u0) 1 u1) 2 u2
theorem held3 {U : World} {p q : Nat} {o : Obj} {a b c : Value} (h : p ≠ q) (hp : U.heap[p]? = some o) : (((U.setCell ⟨q, 0, none⟩ a).setCell ⟨q, 1, none⟩ b).setCell ⟨q, 2, none⟩ c).heap[p]? = some o := held_oth h (held_oth h (held_oth h hp))
theorem below3 {C : Nat} {w U : World} {q : Nat} {a b c : Value} (h : Below C w U) (hq : C ≤ q) : Below C w (((U.setCell ⟨q, 0, none⟩ a).setCell ⟨q, 1, none⟩ b).setCell ⟨q, 2, none⟩ c) := ((h.setCell (p := ⟨q, 0, none⟩) hq _).setCell (p := ⟨q, 1, none⟩) hq _).setCell (p := ⟨q, 2, none⟩) hq _
theorem held_put24 {W : World} {D g : Nat} {c : Array Value} {T : TypeId} {f : Nat × Nat} (h : W.heap[g]? = some (.cells c T f)) (hK : W.heap[D]? = some (.deferred (some []))) (o : Obj) : (W.putObj D o).heap[g]? = some (.cells c T f) := by
  rw [World.putObj_heap_other (fun e => by subst e; rw [h] at hK; cases hK)]; exact h
attribute [local go_sem] Oper.semAt_some

set_option maxRecDepth 100000 in
set_option maxHeartbeats 4000000 in
theorem three_any (s : ByteArray) (w : World) (hs : s.size ≤ 100000) : Calls Tryz.prog 89 #[.string s] w fun e w' => e = .returned (if s.size = 6 then threeT (prS (sb s)) else .tuple #[.agg #[.int .i64 0, .int .i64 0, .int .i64 0], .bool false]) ∧ Below w.heap.size w w' := by
  by_cases h6 : s.size = 6
  · rw [if_pos h6]
    have i6 : (s.size : Int) = 6 := by omega
    refine calls_of_marks Tryz.func89 rfl ?_
    simp only [Tryz.ntmps89, List.size_toArray, List.length_cons, List.length_nil, Nat.reduceAdd, Nat.reduceSub, Array.replicate_succ, Array.replicate_zero, List.push_toArray, List.append_toArray, List.nil_append, List.cons_append]
    go_wp2_with fail
    have hsb : (sb s).length = 6 := by rw [sb_len]; exact h6
    have hL3 := prS_len _ hsb
    refine (pairs_any s _).mono ?_
    rintro e w3 ⟨rfl, rfl⟩
    go_wp2_with fail
    obtain ⟨W0, eW, b0, b1, b2, b3, b4, hz, hA⟩ := five_new w (.cells #[.int .i64 0, .int .i64 0, .int .i64 0] 97) (.cells #[.bool false] 4) (.cells #[.int .i64 0, .int .i64 0, .int .i64 0] 97) (.cells #[.int .i64 0] 3) (.cells #[.string s] 9)
    rw [eW]
    clear eW
    have hT := pairs_tells s (w.heap.size + 1 + 1 + 1 + 1) W0 (by omega) b4 hs
    obtain ⟨q, hq⟩ : ∃ q, w.heap.size = q := ⟨_, rfl⟩
    rw [hq] at b0 b1 b2 b3 b4 hz hT ⊢
    replace hq := hid hq
    have hA2 : Below q w W0 := by rw [← hq.out]; exact hA
    clear hA
    refine wp_rangeFunc_cell (gf := 118) (lb := #[.pointer (some ⟨q + 1 + 1 + 1 + 1, 0, none⟩)]) rfl (enters_of Tryz.func118 (by kernel_rfl) rfl) hT (by omega) (fun _ => rfl)
      (fun pre W => W.heap[q]? = some (.cells #[.int .i64 0, .int .i64 0, .int .i64 0] 97 (0, 0)) ∧ W.heap[q + 1]? = some (.cells #[.bool false] 4 (0, 0)) ∧ W.heap[q + 1 + 1]? = some (.cells #[.int .i64 (gN pre 0), .int .i64 (gN pre 1), .int .i64 (gN pre 2)] 97 (0, 0)) ∧ W.heap[q + 1 + 1 + 1]? = some (.cells #[.int .i64 (pre.length : Int)] 3 (0, 0)) ∧ okAll pre = true ∧ Below q w W)
      (fun pre W => W.heap[q]? = some (.cells #[.int .i64 0, .int .i64 0, .int .i64 0] 97 (0, 0)) ∧ W.heap[q + 1]? = some (.cells #[.bool false] 4 (0, 0)) ∧ okAll pre = false ∧ Below q w W)
      ?own ?ownx ?stays ?start
      (fun x => { tmps := #[.string s, undef, .pointer (some ⟨q, 0, none⟩), .pointer (some ⟨q + 1, 0, none⟩), .pointer (some ⟨q + 1 + 1, 0, none⟩), .pointer (some ⟨q + 1 + 1 + 1, 0, none⟩), .int .i64 x.1, .bool x.2, .string s, .int .i64 6, .bool false, undef, .string s, .func (.func 118) #[] #[.pointer (some ⟨q + 1 + 1 + 1 + 1, 0, none⟩)], .int .i64 x.1, .bool x.2, undef, undef, undef, undef, undef, undef, undef, undef, undef], defers := [] })
      ?assign ?body ?done ?stop
    case own =>
      rintro pre A B row ⟨k1, k2, k3, k4, k5, k6⟩ hg hr
      exact ⟨keeps_row k1 rfl hg hr, keeps_row k2 rfl hg hr, keeps_row k3 rfl hg hr, keeps_row k4 rfl hg hr, k5, keeps_below k6 (by omega) (by have := k6.size; have := hq.out; omega) hg hr⟩
    case ownx =>
      rintro pre A B row ⟨k1, k2, k3, k4⟩ hg hr
      exact ⟨keeps_row k1 rfl hg hr, keeps_row k2 rfl hg hr, k3, keeps_below k4 (by omega) (by have := k4.size; have := hq.out; omega) hg hr⟩
    case stays =>
      rintro pre A A' ⟨k1, k2, k3, k4, k5, k6⟩ e
      exact ⟨eff_block e k1 (by omega), eff_block e k2 (by omega), eff_block e k3 (by omega), eff_block e k4 (by omega), k5, bel_eff k6 e (by omega) (by have := k6.size; have := hq.out; omega)⟩
    case start => exact ⟨b0, b1, b2, b3, rfl, hA2⟩
    case assign =>
      intro l i W K hK
      gi_wp2
      exact hK
    case stop =>
      rintro D pre W hD hp ⟨r2, r3, hx, hB⟩ hK
      have hno := hid (okAll_pre hp hx)
      have s2 := held_put24 r2 hK (.deferred none)
      have s3 := held_put24 r3 hK (.deferred none)
      have e0 := held_cell s2 0 _ rfl
      have e1 := held_cell s2 1 _ rfl
      have e2 := held_cell s2 2 _ rfl
      have e4 := held_cell s3 0 _ rfl
      go_wp2_with fail
      refine marks_ret1 (v := .tuple #[.agg #[.int .i64 0, .int .i64 0, .int .i64 0], .bool false]) hK ?_ ⟨?_, ?_⟩
      · simp [results, Tryz.results89, go_sem, e0, e1, e2, e4]
      · unfold threeT; rw [hno.out]; rfl
      · rw [hq.out]; exact below_mark (W0 := W0) hB (by omega) hD hK
    case body =>
      rintro l pre ⟨n, ok⟩ W ⟨hZ, hF, hO, hC, hk, hB⟩ hlen
      dsimp only
      apply wpIn_block
      have z0 := held_cell hZ 0 _ rfl
      have z1 := held_cell hZ 1 _ rfl
      have z2 := held_cell hZ 2 _ rfl
      have y0 := held_free hZ 0
      have y1 := held_free hZ 1
      have y2 := held_free hZ 2
      have f0 := held_cell hF 0 _ rfl
      have f1 := held_free hF 0
      have hsn := hid (okAll_snoc (n, ok) hk)
      replace hB := hid hB
      cases ok
      · replace hZ := hid hZ
        replace hF := hid hF
        replace hO := hid hO
        replace hC := hid hC
        gi_wp2
        refine ⟨?_, ?_, ?_, hsn.out, ?_⟩
        · exact (((KeepsOthers.setCell _ _ _).trans (KeepsOthers.setCell _ _ _)).trans (KeepsOthers.setCell _ _ _)).trans (KeepsOthers.setCell _ _ _)
        · exact held_oth (by omega) (set3h hZ.out _ _ _)
        · exact held_set (held3 (by omega) hF.out) 0 _
        · exact (below3 hB.out (by omega)).setCell (p := ⟨q + 1, 0, none⟩) (by show q ≤ q + 1; omega) _
      · obtain rfl | ⟨a, rfl⟩ | ⟨a, b, rfl⟩ := pre3 pre (by omega)
        · replace hO : W.heap[q + 1 + 1]? = some (.cells #[.int .i64 0, .int .i64 0, .int .i64 0] 97 (0, 0)) := hO
          replace hC : W.heap[q + 1 + 1 + 1]? = some (.cells #[.int .i64 0] 3 (0, 0)) := hC
          have o0 := held_cell hO 0 _ rfl
          have o1 := held_free hO 0
          have c0 := held_cell hC 0 _ rfl
          have c1 := held_free hC 0
          replace hZ := hid hZ
          replace hF := hid hF
          replace hO := hid hO
          replace hC := hid hC
          gi_wp2
          refine ⟨(KeepsOthers.setCell _ _ _).trans (KeepsOthers.setCell _ _ _), ⟨by simp, ?_⟩, ?_, ?_, ?_, ?_, hsn.out, ?_⟩
          · rw [Below.heap_setCell _ _ _ _ (by show q + 1 + 1 + 1 + 1 ≠ q + 1 + 1 + 1; omega), Below.heap_setCell _ _ _ _ (by show q + 1 + 1 + 1 + 1 ≠ q + 1 + 1; omega)]
          · exact held_oth (by omega) (held_oth (by omega) hZ.out)
          · exact held_oth (by omega) (held_oth (by omega) hF.out)
          · exact held_oth (by omega) (held_set hO.out 0 _)
          · exact held_set (held_oth (by omega) hC.out) 0 _
          · exact (hB.out.setCell (p := ⟨q + 1 + 1, 0, none⟩) (by show q ≤ q + 1 + 1; omega) _).setCell (p := ⟨q + 1 + 1 + 1, 0, none⟩) (by show q ≤ q + 1 + 1 + 1; omega) _
        · replace hO : W.heap[q + 1 + 1]? = some (.cells #[.int .i64 a.1, .int .i64 0, .int .i64 0] 97 (0, 0)) := hO
          replace hC : W.heap[q + 1 + 1 + 1]? = some (.cells #[.int .i64 1] 3 (0, 0)) := hC
          have o0 := held_cell hO 1 _ rfl
          have o1 := held_free hO 1
          have c0 := held_cell hC 0 _ rfl
          have c1 := held_free hC 0
          replace hZ := hid hZ
          replace hF := hid hF
          replace hO := hid hO
          replace hC := hid hC
          gi_wp2
          refine ⟨(KeepsOthers.setCell _ _ _).trans (KeepsOthers.setCell _ _ _), ⟨by simp, ?_⟩, ?_, ?_, ?_, ?_, hsn.out, ?_⟩
          · rw [Below.heap_setCell _ _ _ _ (by show q + 1 + 1 + 1 + 1 ≠ q + 1 + 1 + 1; omega), Below.heap_setCell _ _ _ _ (by show q + 1 + 1 + 1 + 1 ≠ q + 1 + 1; omega)]
          · exact held_oth (by omega) (held_oth (by omega) hZ.out)
          · exact held_oth (by omega) (held_oth (by omega) hF.out)
          · exact held_oth (by omega) (held_set hO.out 1 _)
          · exact held_set (held_oth (by omega) hC.out) 0 _
          · exact (hB.out.setCell (p := ⟨q + 1 + 1, 1, none⟩) (by show q ≤ q + 1 + 1; omega) _).setCell (p := ⟨q + 1 + 1 + 1, 0, none⟩) (by show q ≤ q + 1 + 1 + 1; omega) _
        · replace hO : W.heap[q + 1 + 1]? = some (.cells #[.int .i64 a.1, .int .i64 b.1, .int .i64 0] 97 (0, 0)) := hO
          replace hC : W.heap[q + 1 + 1 + 1]? = some (.cells #[.int .i64 2] 3 (0, 0)) := hC
          have o0 := held_cell hO 2 _ rfl
          have o1 := held_free hO 2
          have c0 := held_cell hC 0 _ rfl
          have c1 := held_free hC 0
          replace hZ := hid hZ
          replace hF := hid hF
          replace hO := hid hO
          replace hC := hid hC
          gi_wp2
          refine ⟨(KeepsOthers.setCell _ _ _).trans (KeepsOthers.setCell _ _ _), ⟨by simp, ?_⟩, ?_, ?_, ?_, ?_, hsn.out, ?_⟩
          · rw [Below.heap_setCell _ _ _ _ (by show q + 1 + 1 + 1 + 1 ≠ q + 1 + 1 + 1; omega), Below.heap_setCell _ _ _ _ (by show q + 1 + 1 + 1 + 1 ≠ q + 1 + 1; omega)]
          · exact held_oth (by omega) (held_oth (by omega) hZ.out)
          · exact held_oth (by omega) (held_oth (by omega) hF.out)
          · exact held_oth (by omega) (held_set hO.out 2 _)
          · exact held_set (held_oth (by omega) hC.out) 0 _
          · exact (hB.out.setCell (p := ⟨q + 1 + 1, 2, none⟩) (by show q ≤ q + 1 + 1; omega) _).setCell (p := ⟨q + 1 + 1 + 1, 0, none⟩) (by show q ≤ q + 1 + 1 + 1; omega) _
    case done =>
      rintro D xs W hD rfl ⟨hZ, hF, hO, hC, hk, hB⟩ hK
      have hyes := hid hk
      obtain ⟨L, hL⟩ : ∃ L, prS (sb s) = L := ⟨_, rfl⟩
      rw [hL] at hyes hO
      replace hL := hid hL
      have z0 := held_cell hZ 0 _ rfl
      have z1 := held_cell hZ 1 _ rfl
      have z2 := held_cell hZ 2 _ rfl
      have y0 := held_free hZ 0
      have y1 := held_free hZ 1
      have y2 := held_free hZ 2
      have f0 := held_cell hF 0 _ rfl
      have f1 := held_free hF 0
      have o0 := held_cell hO 0 _ rfl
      have o1 := held_cell hO 1 _ rfl
      have o2 := held_cell hO 2 _ rfl
      have r2 := held_oth (q := q + 1) (j := 0) (v := .bool true) (by omega) (set3h hZ (.int .i64 (gN L 0)) (.int .i64 (gN L 1)) (.int .i64 (gN L 2)))
      have r3 := held_set (held3 (p := q + 1) (q := q) (a := .int .i64 (gN L 0)) (b := .int .i64 (gN L 1)) (c := .int .i64 (gN L 2)) (by omega) hF) 0 (.bool true)
      have hK2 : ((((W.setCell ⟨q, 0, none⟩ (.int .i64 (gN L 0))).setCell ⟨q, 1, none⟩ (.int .i64 (gN L 1))).setCell ⟨q, 2, none⟩ (.int .i64 (gN L 2))).setCell ⟨q + 1, 0, none⟩ (.bool true)).heap[D]? = some (.deferred (some [])) := held_oth (by omega) (held3 (by omega) hK)
      have hB2 := (below3 (a := .int .i64 (gN L 0)) (b := .int .i64 (gN L 1)) (c := .int .i64 (gN L 2)) hB (Nat.le_refl q)).setCell (p := ⟨q + 1, 0, none⟩) (by show q ≤ q + 1; omega) (.bool true)
      replace hB2 := hid hB2
      replace r2 := hid r2
      replace r3 := hid r3
      replace hK2 := hid hK2
      clear hK hO hC hB hF hZ
      go_wp2_with fail
      have s2 := held_put24 r2.out hK2.out (.deferred none)
      have s3 := held_put24 r3.out hK2.out (.deferred none)
      have e0 := held_cell s2 0 _ rfl
      have e1 := held_cell s2 1 _ rfl
      have e2 := held_cell s2 2 _ rfl
      have e4 := held_cell s3 0 _ rfl
      refine marks_ret1 (v := .tuple #[.agg #[.int .i64 (gN L 0), .int .i64 (gN L 1), .int .i64 (gN L 2)], .bool true]) hK2.out ?_ ⟨?_, ?_⟩
      · generalize World.putObj _ D _ = V at *
        simp [results, Tryz.results89, go_sem, e0, e1, e2, e4]
      · unfold threeT; rw [hL.out, if_pos hyes.out]
      · rw [hq.out]; exact below_mark (W0 := W0) hB2.out (by omega) hD hK2.out
  · rw [if_neg h6]
    have i6 : ((s.size : Int) != 6) = true := by simp; omega
    refine calls_of_marks Tryz.func89 rfl ?_
    simp only [Tryz.ntmps89, List.size_toArray, List.length_cons, List.length_nil, Nat.reduceAdd, Nat.reduceSub, Array.replicate_succ, Array.replicate_zero, List.push_toArray, List.append_toArray, List.nil_append, List.cons_append]
    go_wp2_with fail
    exact marks_ret0 (v := .tuple #[.agg #[.int .i64 0, .int .i64 0, .int .i64 0], .bool false]) (by simp [results, Tryz.results89, go_sem]) ⟨rfl, (three_new w _ _ _).2.2.2.2⟩
def h2 (c d : Nat) : Int × Bool := if (dgB c && dgB d) = true then (pairN c d, true) else (0, false)
def hunS (l : List Nat) : Int × Bool := if l = [] then (0, true) else if l.getD 0 0 = 46 ∧ 2 ≤ l.length ∧ l.length ≤ 3 then h2 (l.getD 1 0) (if l.length = 2 then 48 else l.getD 2 0) else (0, false)
theorem sb_append (s t : ByteArray) : sb (s ++ t) = sb s ++ sb t := by unfold sb; simp [ByteArray.data_append]
theorem len2 {l : List Nat} (h : l.length = 2) : ∃ a b, l = [a, b] := by
  match l, h with
  | [a, b], _ => exact ⟨a, b, rfl⟩
theorem len3 {l : List Nat} (h : l.length = 3) : ∃ a b c, l = [a, b, c] := by
  match l, h with
  | [a, b, c], _ => exact ⟨a, b, c, rfl⟩
theorem prS_two (c d : Nat) : prS [c, d] = [h2 c d] := by unfold prS h2; split <;> simp [prS]
theorem two_new (V : World) (a b : Obj) : ((V.alloc a).alloc b).heap[V.heap.size]? = some a ∧ ((V.alloc a).alloc b).heap[V.heap.size + 1]? = some b ∧ ((V.alloc a).alloc b).heap.size = V.heap.size + 1 + 1 ∧ After V ((V.alloc a).alloc b) := by
  have h1 := World.alloc_heap_new V a
  have h2 := World.alloc_heap_new (V.alloc a) b
  simp only [World.size_alloc] at h2
  refine ⟨?_, h2, by simp only [World.size_alloc], (((Below.refl _ V).alloc (Nat.le_refl _) a).alloc (by simp) b)⟩
  rw [Below.heap_alloc _ _ _ (by simp)]; exact h1
set_option maxRecDepth 100000 in
set_option maxHeartbeats 4000000 in
theorem hun_any (s : ByteArray) (w : World) (hs : s.size ≤ 100000) : Calls Tryz.prog 90 #[.string s] w fun e w' => e = .returned (.tuple #[.int .i64 (hunS (sb s)).1, .bool (hunS (sb s)).2]) ∧ Below w.heap.size w w' := by
  have hl := sb_len s
  obtain ⟨q2, q3, qz, qA⟩ := two_new w (.cells #[.int .i64 0] 2) (.cells #[.bool false] 4)
  by_cases h0 : s.size = 0
  · have e : hunS (sb s) = (0, true) := by rw [sb_none s h0]; rfl
    rw [e]
    clear e hl
    have hE : s.toList.isEmpty = true := by rw [emp_iff]; simp [h0]
    refine calls_of_marks Tryz.func90 rfl ?_
    simp only [Tryz.ntmps90, List.size_toArray, List.length_cons, List.length_nil, Nat.reduceAdd, Nat.reduceSub, Array.replicate_succ, Array.replicate_zero, List.push_toArray, List.append_toArray, List.nil_append, List.cons_append]
    go_wp2_with fail
    exact marks_ret0 (v := .tuple #[.int .i64 0, .bool true]) (by simp [results, Tryz.results90, go_sem]) ⟨rfl, (two_new w _ _).2.2.2⟩
  have hE : s.toList.isEmpty = false := by rw [emp_iff]; simp [h0]
  have hg0 := hid (sb_get s 0 (by omega))
  by_cases c0 : (sb s).getD 0 0 = 46
  case neg =>
    have e : hunS (sb s) = (0, false) := by unfold hunS; rw [if_neg (by intro h; rw [h] at hl; simp at hl; omega), if_neg (fun h => c0 h.1)]
    rw [e]
    have i0 : (((s[0]'(by omega)).toNat : Int) != 46) = true := by have := hg0.out; exact bne_iff_ne.2 (by omega)
    clear e
    refine calls_of_marks Tryz.func90 rfl ?_
    simp only [Tryz.ntmps90, List.size_toArray, List.length_cons, List.length_nil, Nat.reduceAdd, Nat.reduceSub, Array.replicate_succ, Array.replicate_zero, List.push_toArray, List.append_toArray, List.nil_append, List.cons_append]
    go_wp2_with fail
    all_goals exact marks_ret0 (v := .tuple #[.int .i64 0, .bool false]) (by simp [results, Tryz.results90, go_sem]) ⟨rfl, (two_new w _ _).2.2.2⟩
  have i00 : ((s[0]'(by omega)).toNat : Int) = 46 := by have := hg0.out; omega
  have i0 : (((s[0]'(by omega)).toNat : Int) != 46) = false := by rw [i00]; rfl
  by_cases c2 : 2 ≤ s.size
  case neg =>
    have e : hunS (sb s) = (0, false) := by unfold hunS; rw [if_neg (by intro h; rw [h] at hl; simp at hl; omega), if_neg (fun h => by omega)]
    rw [e]
    have i2 : (s.size : Int) < 2 := by omega
    clear e
    refine calls_of_marks Tryz.func90 rfl ?_
    simp only [Tryz.ntmps90, List.size_toArray, List.length_cons, List.length_nil, Nat.reduceAdd, Nat.reduceSub, Array.replicate_succ, Array.replicate_zero, List.push_toArray, List.append_toArray, List.nil_append, List.cons_append]
    go_wp2_with fail
    all_goals exact marks_ret0 (v := .tuple #[.int .i64 0, .bool false]) (by simp [results, Tryz.results90, go_sem]) ⟨rfl, (two_new w _ _).2.2.2⟩
  by_cases c3 : s.size ≤ 3
  case neg =>
    have e : hunS (sb s) = (0, false) := by unfold hunS; rw [if_neg (by intro h; rw [h] at hl; simp at hl; omega), if_neg (fun h => by omega)]
    rw [e]
    have i2 : (3 : Int) < s.size := by omega
    clear e
    refine calls_of_marks Tryz.func90 rfl ?_
    simp only [Tryz.ntmps90, List.size_toArray, List.length_cons, List.length_nil, Nat.reduceAdd, Nat.reduceSub, Array.replicate_succ, Array.replicate_zero, List.push_toArray, List.append_toArray, List.nil_append, List.cons_append]
    go_wp2_with fail
    all_goals exact marks_ret0 (v := .tuple #[.int .i64 0, .bool false]) (by simp [results, Tryz.results90, go_sem]) ⟨rfl, (two_new w _ _).2.2.2⟩
  clear hg0
  by_cases c : s.size = 2
  · have c22 : s.size = 2 := c
    clear c
    obtain ⟨x0, x1, hx⟩ := len2 (l := sb s) (by omega)
    have e : hunS (sb s) = h2 x1 48 := by rw [hx] at c0 ⊢; have c0 : x0 = 46 := c0; unfold hunS; simp [c0]
    have eU : sb ((s ++ { data := #[48] }).extract 1 3) = [x1, 48] := by rw [sb_extract, sb_append, hx]; rfl
    rw [e]
    clear e c0 hx
    refine calls_of_marks Tryz.func90 rfl ?_
    simp only [Tryz.ntmps90, List.size_toArray, List.length_cons, List.length_nil, Nat.reduceAdd, Nat.reduceSub, Array.replicate_succ, Array.replicate_zero, List.push_toArray, List.append_toArray, List.nil_append, List.cons_append]
    go_wp2_with fail
    have sU : ((s ++ { data := #[48] }).extract 1 3).size ≤ 100000 := by rw [← sb_len, eU]; simp
    generalize ((s ++ { data := #[48] }).extract 1 3) = U at *
    have eP : prS (sb U) = [h2 x1 48] := by rw [eU, prS_two]
    obtain ⟨X, hX⟩ : ∃ X, h2 x1 48 = X := ⟨_, rfl⟩
    rw [hX] at eP
    replace hX := hid hX
    replace eP := hid eP
    clear eU
    refine (pairs_any U _).mono ?_
    rintro e w3 ⟨rfl, rfl⟩
    go_wp2_with fail
    generalize (w.alloc (.cells #[.int .i64 0] 2)).alloc (.cells #[.bool false] 4) = V at *
    have hb := World.alloc_heap_new V (.cells #[.string U] 9)
    have hVA : After V (V.alloc (.cells #[.string U] 9)) := (Below.refl _ V).alloc (Nat.le_refl _) _
    have hz3 : (V.alloc (.cells #[.string U] 9)).heap.size = w.heap.size + 1 + 1 + 1 := by rw [World.size_alloc, qz]
    rw [qz] at hb
    replace q2 := held_after hVA q2
    replace q3 := held_after hVA q3
    replace qA := bthen qA hVA
    generalize V.alloc (.cells #[.string U] 9) = W0 at *
    clear hVA qz
    have hT := pairs_tells U (w.heap.size + 1 + 1) W0 (by omega) hb sU
    rw [eP.out] at hT
    obtain ⟨q, hq⟩ : ∃ q, w.heap.size = q := ⟨_, rfl⟩
    rw [hq] at q2 q3 hb hz3 hT qA ⊢
    replace hq := hid hq
    refine wp_rangeFunc_cell (gf := 118) (lb := #[.pointer (some ⟨q + 1 + 1, 0, none⟩)]) rfl (enters_of Tryz.func118 (by kernel_rfl) rfl) hT (by omega) (fun _ => rfl)
      (fun pre W => pre = [] ∧ W.heap[q]? = some (.cells #[.int .i64 0] 2 (0, 0)) ∧ W.heap[q + 1]? = some (.cells #[.bool false] 4 (0, 0)) ∧ Below q w W)
      (fun pre W => ∃ x : Int × Bool, pre = [x] ∧ W.heap[q]? = some (.cells #[.int .i64 x.1] 2 (0, 0)) ∧ W.heap[q + 1]? = some (.cells #[.bool x.2] 4 (0, 0)) ∧ Below q w W)
      ?own ?ownx ?stays ?start
      (fun x => { tmps := #[.string (s ++ { data := #[48] }), undef, .pointer (some ⟨q, 0, none⟩), .pointer (some ⟨q + 1, 0, none⟩), .int .i64 x.1, .bool x.2, .string s, .bool false, .string s, .int .u8 46, .bool false, .bool false, .string s, .int .i64 2, .bool false, .bool false, .bool false, .string s, .int .i64 2, .bool false, .bool false, .string s, .int .i64 2, .bool true, .string s, .string (s ++ { data := #[48] }), .string (s ++ { data := #[48] }), .string U, .func (.func 118) #[] #[.pointer (some ⟨q + 1 + 1, 0, none⟩)], .int .i64 x.1, .bool x.2, undef, undef], defers := [] })
      ?assign ?body ?done ?stop
    case own =>
      rintro pre A B row ⟨k1, k2, k3, k4⟩ hg hr
      exact ⟨k1, keeps_row k2 rfl hg hr, keeps_row k3 rfl hg hr, keeps_below k4 (by omega) (by have := k4.size; have := hq.out; omega) hg hr⟩
    case ownx =>
      rintro pre A B row ⟨x, k1, k2, k3, k4⟩ hg hr
      exact ⟨x, k1, keeps_row k2 rfl hg hr, keeps_row k3 rfl hg hr, keeps_below k4 (by omega) (by have := k4.size; have := hq.out; omega) hg hr⟩
    case stays =>
      rintro pre A A' ⟨k1, k2, k3, k4⟩ e
      exact ⟨k1, eff_block e k2 (by omega), eff_block e k3 (by omega), bel_eff k4 e (by omega) (by have := k4.size; have := hq.out; omega)⟩
    case start => exact ⟨rfl, q2, q3, qA⟩
    case assign =>
      intro l i W K hK
      gi_wp2
      exact hK
    case stop =>
      rintro D pre W hD hp ⟨x, rfl, r2, r3, hB⟩ hK
      obtain rfl : x = X := by obtain ⟨r, hr⟩ := hp; simp at hr; exact hr.1
      have s2 := held_put24 r2 hK (.deferred none)
      have s3 := held_put24 r3 hK (.deferred none)
      have e0 := held_cell s2 0 _ rfl
      have e4 := held_cell s3 0 _ rfl
      go_wp2_with fail
      refine marks_ret1 (v := .tuple #[.int .i64 x.1, .bool x.2]) hK ?_ ⟨by rw [hX.out], ?_⟩
      · simp [results, Tryz.results90, go_sem, e0, e4]
      · rw [hq.out]; exact below_mark (W0 := W0) hB (by omega) hD hK
    case body =>
      rintro l pre ⟨n, ok⟩ W ⟨rfl, hZ, hF, hB⟩ hlen
      dsimp only
      apply wpIn_block
      have z0 := held_cell hZ 0 _ rfl
      have y0 := held_free hZ 0
      have f0 := held_cell hF 0 _ rfl
      have f1 := held_free hF 0
      replace hB := hid hB
      replace hZ := hid hZ
      replace hF := hid hF
      gi_wp2
      refine ⟨(KeepsOthers.setCell _ _ _).trans (KeepsOthers.setCell _ _ _), (n, ok), rfl, ?_, ?_, ?_⟩
      · exact held_oth (by omega) (held_set hZ.out 0 _)
      · exact held_set (held_oth (by omega) hF.out) 0 _
      · exact (hB.out.setCell (p := ⟨q, 0, none⟩) (Nat.le_refl q) _).setCell (p := ⟨q + 1, 0, none⟩) (by show q ≤ q + 1; omega) _
    case done =>
      rintro D xs W hD rfl ⟨h, -⟩ hK
      cases h
    -- 2
  · have c33 : s.size = 3 := by omega
    obtain ⟨x0, x1, x2, hx⟩ := len3 (l := sb s) (by omega)
    have e : hunS (sb s) = h2 x1 x2 := by rw [hx] at c0 ⊢; have c0 : x0 = 46 := c0; unfold hunS; simp [c0]
    have eU : sb (s.extract 1 3) = [x1, x2] := by rw [sb_extract, hx]; rfl
    rw [e]
    clear e c0 hx
    refine calls_of_marks Tryz.func90 rfl ?_
    simp only [Tryz.ntmps90, List.size_toArray, List.length_cons, List.length_nil, Nat.reduceAdd, Nat.reduceSub, Array.replicate_succ, Array.replicate_zero, List.push_toArray, List.append_toArray, List.nil_append, List.cons_append]
    go_wp2_with fail
    have sU : (s.extract 1 3).size ≤ 100000 := by rw [← sb_len, eU]; simp
    generalize (s.extract 1 3) = U at *
    have eP : prS (sb U) = [h2 x1 x2] := by rw [eU, prS_two]
    obtain ⟨X, hX⟩ : ∃ X, h2 x1 x2 = X := ⟨_, rfl⟩
    rw [hX] at eP
    replace hX := hid hX
    replace eP := hid eP
    clear eU
    refine (pairs_any U _).mono ?_
    rintro e w3 ⟨rfl, rfl⟩
    go_wp2_with fail
    generalize (w.alloc (.cells #[.int .i64 0] 2)).alloc (.cells #[.bool false] 4) = V at *
    have hb := World.alloc_heap_new V (.cells #[.string U] 9)
    have hVA : After V (V.alloc (.cells #[.string U] 9)) := (Below.refl _ V).alloc (Nat.le_refl _) _
    have hz3 : (V.alloc (.cells #[.string U] 9)).heap.size = w.heap.size + 1 + 1 + 1 := by rw [World.size_alloc, qz]
    rw [qz] at hb
    replace q2 := held_after hVA q2
    replace q3 := held_after hVA q3
    replace qA := bthen qA hVA
    generalize V.alloc (.cells #[.string U] 9) = W0 at *
    clear hVA qz
    have hT := pairs_tells U (w.heap.size + 1 + 1) W0 (by omega) hb sU
    rw [eP.out] at hT
    obtain ⟨q, hq⟩ : ∃ q, w.heap.size = q := ⟨_, rfl⟩
    rw [hq] at q2 q3 hb hz3 hT qA ⊢
    replace hq := hid hq
    refine wp_rangeFunc_cell (gf := 118) (lb := #[.pointer (some ⟨q + 1 + 1, 0, none⟩)]) rfl (enters_of Tryz.func118 (by kernel_rfl) rfl) hT (by omega) (fun _ => rfl)
      (fun pre W => pre = [] ∧ W.heap[q]? = some (.cells #[.int .i64 0] 2 (0, 0)) ∧ W.heap[q + 1]? = some (.cells #[.bool false] 4 (0, 0)) ∧ Below q w W)
      (fun pre W => ∃ x : Int × Bool, pre = [x] ∧ W.heap[q]? = some (.cells #[.int .i64 x.1] 2 (0, 0)) ∧ W.heap[q + 1]? = some (.cells #[.bool x.2] 4 (0, 0)) ∧ Below q w W)
      ?own ?ownx ?stays ?start
      (fun x => { tmps := #[.string s, undef, .pointer (some ⟨q, 0, none⟩), .pointer (some ⟨q + 1, 0, none⟩), .int .i64 x.1, .bool x.2, .string s, .bool false, .string s, .int .u8 46, .bool false, .bool false, .string s, .int .i64 3, .bool false, .bool false, .bool false, .string s, .int .i64 3, .bool false, .bool false, .string s, .int .i64 3, .bool false, undef, undef, .string s, .string U, .func (.func 118) #[] #[.pointer (some ⟨q + 1 + 1, 0, none⟩)], .int .i64 x.1, .bool x.2, undef, undef], defers := [] })
      ?assign ?body ?done ?stop
    case own =>
      rintro pre A B row ⟨k1, k2, k3, k4⟩ hg hr
      exact ⟨k1, keeps_row k2 rfl hg hr, keeps_row k3 rfl hg hr, keeps_below k4 (by omega) (by have := k4.size; have := hq.out; omega) hg hr⟩
    case ownx =>
      rintro pre A B row ⟨x, k1, k2, k3, k4⟩ hg hr
      exact ⟨x, k1, keeps_row k2 rfl hg hr, keeps_row k3 rfl hg hr, keeps_below k4 (by omega) (by have := k4.size; have := hq.out; omega) hg hr⟩
    case stays =>
      rintro pre A A' ⟨k1, k2, k3, k4⟩ e
      exact ⟨k1, eff_block e k2 (by omega), eff_block e k3 (by omega), bel_eff k4 e (by omega) (by have := k4.size; have := hq.out; omega)⟩
    case start => exact ⟨rfl, q2, q3, qA⟩
    case assign =>
      intro l i W K hK
      gi_wp2
      exact hK
    case stop =>
      rintro D pre W hD hp ⟨x, rfl, r2, r3, hB⟩ hK
      obtain rfl : x = X := by obtain ⟨r, hr⟩ := hp; simp at hr; exact hr.1
      have s2 := held_put24 r2 hK (.deferred none)
      have s3 := held_put24 r3 hK (.deferred none)
      have e0 := held_cell s2 0 _ rfl
      have e4 := held_cell s3 0 _ rfl
      go_wp2_with fail
      refine marks_ret1 (v := .tuple #[.int .i64 x.1, .bool x.2]) hK ?_ ⟨by rw [hX.out], ?_⟩
      · simp [results, Tryz.results90, go_sem, e0, e4]
      · rw [hq.out]; exact below_mark (W0 := W0) hB (by omega) hD hK
    case body =>
      rintro l pre ⟨n, ok⟩ W ⟨rfl, hZ, hF, hB⟩ hlen
      dsimp only
      apply wpIn_block
      have z0 := held_cell hZ 0 _ rfl
      have y0 := held_free hZ 0
      have f0 := held_cell hF 0 _ rfl
      have f1 := held_free hF 0
      replace hB := hid hB
      replace hZ := hid hZ
      replace hF := hid hF
      gi_wp2
      refine ⟨(KeepsOthers.setCell _ _ _).trans (KeepsOthers.setCell _ _ _), (n, ok), rfl, ?_, ?_, ?_⟩
      · exact held_oth (by omega) (held_set hZ.out 0 _)
      · exact held_set (held_oth (by omega) hF.out) 0 _
      · exact (hB.out.setCell (p := ⟨q, 0, none⟩) (Nat.le_refl q) _).setCell (p := ⟨q + 1, 0, none⟩) (by show q ≤ q + 1; omega) _
    case done =>
      rintro D xs W hD rfl ⟨h, -⟩ hK
      cases h
    -- 3

end Go.Proofs.YthnoomdhgbaecaaGreatDoor
