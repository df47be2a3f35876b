/- Stage 29: num, Views, knows. -/
import Derived.Test.YtobgibmpodggkaaDoorGsv8
import Derived.Laws.Tables
import Derived.Laws.StructEq
import Derived.Deep.DeepCutAuto
namespace Go.Proofs.YtobgibmpodggkaaDoor
open Go.ChangeShapes Go.WideShapes Go.ChangeAt Go.RowKit
set_option linter.unusedVariables false
set_option linter.unusedSimpArgs false

theorem num29_any (n : Int) (w : World) : Calls Tryd.prog 12 #[.int .i64 n] w fun e w' => e = .returned (.int .i64 n) ∧ After w w' := by
  go_enter Tryd.func12, Tryd.ntmps12
  go_wp2_with fail
  go_ret
  exact ⟨rfl, After.refl _⟩
set_option maxRecDepth 100000 in
theorem eqN29 (i : Bool) (n : Int) (w : World) : (Op.equalIn 9999 64 (.agg #[.bool i, .int .i64 n]) (.agg #[.bool i, .int .i64 n])).run Tryd.prog w = .ok true w := by
  rw [show (9999 : Nat) = 9998 + 1 from rfl, run_equalIn_agg w 9998 _ _ _ (by kernel_rfl) (by kernel_rfl)]
  go_simp
set_option maxRecDepth 100000 in
set_option maxHeartbeats 4000000 in
theorem eqV29 (i0 : Bool) (m0 : Int) (i1 : Bool) (m1 : Int) (i2 : Bool) (m2 : Int) (i3 : Bool) (m3 : Int) (w : World) : (Op.equalIn 10000 69 (.agg #[.bool i0, .int .i64 m0, .bool i1, .int .i64 m1, .bool i2, .int .i64 m2, .bool i3, .int .i64 m3]) (.agg #[.bool i0, .int .i64 m0, .bool i1, .int .i64 m1, .bool i2, .int .i64 m2, .bool i3, .int .i64 m3])).run Tryd.prog w = .ok true w := by
  have e := fun i n W => eqN29 i n W
  rw [show (10000 : Nat) = 9999 + 1 from rfl, run_equalIn_struct w 9999 _ _ _ (by rfl) (by kernel_rfl)]
  go_simp
theorem els_lt29 {w : World} {m : Nat} {a : Option Addr} {len cap : Nat} {xs : List (List Value)} (h : Els w m a len cap xs) (hm : 0 < m) : ∀ x, a = some x → 0 < len → x.block < w.heap.size := by
  intro x hx h0
  obtain ⟨y, hy⟩ : ∃ y, xs[0]? = some y := ⟨_, List.getElem?_eq_getElem (by have := h.1; omega)⟩
  obtain ⟨h1, b, off, e, hc⟩ := h.2.2.2.2 0 y hy
  rw [hx] at e
  obtain rfl := Option.some.inj e
  obtain ⟨v, hv⟩ : ∃ v, y[0]? = some v := ⟨_, List.getElem?_eq_getElem (by omega)⟩
  have := World.block_lt_of_cell? w _ (hc 0 v hv)
  exact this
theorem views_of (xs : List (List Value)) (h : ∀ x ∈ xs, (∃ (c0 : Bool) (c1 : Int) (c2 : Bool) (c3 : Int) (c4 : Bool) (c5 : Int) (c6 : Bool) (c7 : Int), x = [.bool c0, .int .i64 c1, .bool c2, .int .i64 c3, .bool c4, .int .i64 c5, .bool c6, .int .i64 c7] ∧ ((Lit.int .i64 c1).wf = true) ∧ ((Lit.int .i64 c3).wf = true) ∧ ((Lit.int .i64 c5).wf = true) ∧ ((Lit.int .i64 c7).wf = true))) : ∃ vs : List V4, xs = vs.map enV ∧ ∀ v ∈ vs, okV v := by
  induction xs with
  | nil => exact ⟨[], rfl, fun v hv => by cases hv⟩
  | cons x xs ih =>
    obtain ⟨vs, rfl, h2⟩ := ih (fun y hy => h y (List.mem_cons_of_mem _ hy))
    obtain ⟨c0, c1, c2, c3, c4, c5, c6, c7, rfl, b1, b3, b5, b7⟩ := h x (List.mem_cons_self ..)
    refine ⟨((c0, c1), (c2, c3), (c4, c5), c6, c7) :: vs, rfl, ?_⟩
    intro v hv
    rcases List.mem_cons.1 hv with rfl | hv
    · exact ⟨bounds_i64 b1, bounds_i64 b3, bounds_i64 b5, bounds_i64 b7⟩
    · exact h2 v hv
set_option maxRecDepth 100000 in
set_option maxHeartbeats 8000000 in
theorem views29_any (a1 a2 : Option Addr) (c1 c2 m : Nat) (vs : List V4) (w : World) (hm : vs.length = m) (h1 : Els w 8 a1 m c1 (vs.map enV)) (h2 : Els w 8 a2 m c2 (vs.map enV)) (hb : m ≤ 100000) : Calls Tryd.prog 20 #[.slice a1 m c1, .slice a2 m c2] w fun e w' => e = .returned (.bool true) ∧ After w w' := by
  replace h1 := hid h1
  replace h2 := hid h2
  replace hm := hid hm
  go_enter Tryd.func20, Tryd.ntmps20
  go_upto_region 0 with (fail)
  go_wp2_with fail
  go_loopw [5] (fun ix wr => ∃ k : Nat, k ≤ m ∧ ix = .int .i64 k ∧ After w wr) (fun ix _ => m - (intOf ix).toNat)
  case atStart => exact ⟨0, by omega, rfl, Below.refl _ _⟩
  case round =>
    obtain ⟨k, hk, rfl, hA⟩ := hrel
    by_cases hlt : (k : Int) < m
    case neg =>
      replace hA := hid hA
      go_wp2_with fail
      go_ret
      exact ⟨rfl, hA.out⟩
    obtain ⟨x, hx⟩ : ∃ x, vs[k]? = some x := ⟨_, List.getElem?_eq_getElem (show k < vs.length by have := hm.out; omega)⟩
    have hxk : (vs.map enV)[k]? = some (enV x) := by rw [List.getElem?_map, hx]; rfl
    obtain ⟨⟨i0, m0⟩, ⟨i1, m1⟩, ⟨i2, m2⟩, i3, m3⟩ := x
    obtain ⟨p1, o1, e1, g0, g1, g2, g3, g4, g5, g6, g7⟩ := (h1.out.below hA).at8 hxk
    obtain ⟨p2, o2, e2, q0, q1, q2, q3, q4, q5, q6, q7⟩ := (h2.out.below hA).at8 hxk
    cases e1
    cases e2
    have kz : (0 : Int) ≤ k := by omega
    have wk : IntKind.i64.wrap ((k : Int) + 1) = (k : Int) + 1 := by rw [IntKind.wrap_i64]; omega
    have hk1 := hid (show k + 1 ≤ m by omega)
    have eqx := fun W => eqV29 i0 m0 i1 m1 i2 m2 i3 m3 W
    have hA2 := hid hA.drew
    clear hx hxk hA hk
    go_upto_region 6 with (fail)
    refine wp_region_R (by kernel_rfl) ?_
    refine wpAnyR_take 0 rfl (by kernel_rfl) (by kernel_rfl) (by kernel_rfl) (fun _ _ _ _ h => h) ⟨_, Or.inl ⟨by rfl, fun w2 hb2 => by (go_simp; try with_reducible rfl)⟩, _, by (go_simp; try rfl), ?_⟩
    refine wpAnyR_take 1 rfl (by kernel_rfl) (by kernel_rfl) (by kernel_rfl) (fun _ _ _ _ h => h) ⟨_, Or.inl ⟨by rfl, fun w2 hb2 => by (go_simp; try with_reducible rfl)⟩, _, by (go_simp; try rfl), ?_⟩
    refine wpAnyR_take 2 rfl (by kernel_rfl) (by kernel_rfl) (by kernel_rfl) (fun _ _ _ _ h => h) ⟨_, Or.inl ⟨by rfl, fun w2 hb2 => by (go_simp; try with_reducible rfl)⟩, _, by (go_simp; try rfl), ?_⟩
    refine wpAnyR_take 3 rfl (by kernel_rfl) (by kernel_rfl) (by kernel_rfl) (fun _ _ _ _ h => h) ⟨_, Or.inl ⟨by rfl, fun w2 hb2 => by (have h0 := (Below.cell hb2 (World.block_lt_of_cell? wr _ g0)).trans g0; have h1 := (Below.cell hb2 (World.block_lt_of_cell? wr _ g1)).trans g1; have h2 := (Below.cell hb2 (World.block_lt_of_cell? wr _ g2)).trans g2; have h3 := (Below.cell hb2 (World.block_lt_of_cell? wr _ g3)).trans g3; have h4 := (Below.cell hb2 (World.block_lt_of_cell? wr _ g4)).trans g4; have h5 := (Below.cell hb2 (World.block_lt_of_cell? wr _ g5)).trans g5; have h6 := (Below.cell hb2 (World.block_lt_of_cell? wr _ g6)).trans g6; have h7 := (Below.cell hb2 (World.block_lt_of_cell? wr _ g7)).trans g7; go_simp; try with_reducible rfl)⟩, _, by (go_simp; try rfl), ?_⟩
    refine wpAnyR_take 4 rfl (by kernel_rfl) (by kernel_rfl) (by kernel_rfl) (fun _ _ _ _ h => h) ⟨_, Or.inl ⟨by rfl, fun w2 hb2 => by (go_simp; try with_reducible rfl)⟩, _, by (go_simp; try rfl), ?_⟩
    refine wpAnyR_take 5 rfl (by kernel_rfl) (by kernel_rfl) (by kernel_rfl) (fun _ _ _ _ h => h) ⟨_, Or.inl ⟨by rfl, fun w2 hb2 => by (go_simp; try with_reducible rfl)⟩, _, by (go_simp; try rfl), ?_⟩
    refine wpAnyR_take 6 rfl (by kernel_rfl) (by kernel_rfl) (by kernel_rfl) (fun _ _ _ _ h => h) ⟨_, Or.inl ⟨by rfl, fun w2 hb2 => by (go_simp; try with_reducible rfl)⟩, _, by (go_simp; try rfl), ?_⟩
    refine wpAnyR_take 7 rfl (by kernel_rfl) (by kernel_rfl) (by kernel_rfl) (fun _ _ _ _ h => h) ⟨_, Or.inl ⟨by rfl, fun w2 hb2 => by (have h0 := (Below.cell hb2 (World.block_lt_of_cell? wr _ q0)).trans q0; have h1 := (Below.cell hb2 (World.block_lt_of_cell? wr _ q1)).trans q1; have h2 := (Below.cell hb2 (World.block_lt_of_cell? wr _ q2)).trans q2; have h3 := (Below.cell hb2 (World.block_lt_of_cell? wr _ q3)).trans q3; have h4 := (Below.cell hb2 (World.block_lt_of_cell? wr _ q4)).trans q4; have h5 := (Below.cell hb2 (World.block_lt_of_cell? wr _ q5)).trans q5; have h6 := (Below.cell hb2 (World.block_lt_of_cell? wr _ q6)).trans q6; have h7 := (Below.cell hb2 (World.block_lt_of_cell? wr _ q7)).trans q7; go_simp; try with_reducible rfl)⟩, _, by (go_simp; try rfl), ?_⟩
    refine wpAnyR_take 8 rfl (by kernel_rfl) (by kernel_rfl) (by kernel_rfl) (fun _ _ _ _ h => h) ⟨_, Or.inl ⟨by rfl, fun w2 hb2 => by (go_simp; try with_reducible rfl)⟩, _, by (go_simp; try rfl), ?_⟩
    refine wpAnyR_done (by kernel_rfl) ?_ _
    clear eqx
    go_wp2_with fail
    go_roundw
    case rel => exact ⟨k + 1, hk1.out, by simp, hA2.out⟩
    case measure => simp [intOf]; omega
set_option maxRecDepth 100000 in
set_option maxHeartbeats 8000000 in
theorem knows29_any (w : World) (hT : Tab w) : Calls Tryd.prog 8 #[] w fun e w' => e = .returned (.bool true) ∧ After w w' := by
  have hE : gvE 2 1 5 [] = 0 := by kernel_rfl
  have hL : fL (gvI 2 1 5 []) = [nb [50], nb [49], ⟨#[53]⟩] := by kernel_rfl
  have kP := fun U hh => gvput_any 2 1 5 none 0 0 [] U (by decide) (fun v hv => by cases hv) (Els.nil _ _) hh
  rw [hE, hL] at kP
  replace kP := hid kP
  clear hE hL
  replace hT := hid hT
  go_enter Tryd.func8, Tryd.ntmps8
  go_wp2_with fail
  refine (bnew29_any _).mono ?_
  rintro r V ⟨rfl, hv⟩
  have nw := alloc_new w (.cells #[.bool true, .int .i64 0, .int .i64 0, .slice none 0 0] 56)
  rw [← hv] at nw
  obtain ⟨n1, n2, n3⟩ := nw
  have hbk : BkIn w.heap.size w.heap.size 0 0 [] V := ⟨none, 0, 0, n3, OwnE.nil _ _ _ _, rfl⟩
  have hB := hid n2
  replace hbk := hid hbk
  clear hv n1 n2 n3
  obtain ⟨B, hBe⟩ : ∃ B, w.heap.size = B := ⟨_, rfl⟩
  have hB2 : Below B w V := by rw [← hBe]; exact hB.out
  replace hB := hid hB2
  clear hB2
  rw [hBe] at hbk ⊢
  replace hBe := hid hBe
  go_wp2_with fail
  refine (badd29_any B B 0 0 [] 1 1 0 none 0 0 [] _ hbk.out (Nat.le_refl _) (by decide) (Els.nil _ _) (fun x hx => by cases hx)).mono ?_
  rintro r V2 ⟨-, hK, a, n, c, rfl, hE⟩
  obtain rfl : n = 0 := hE.1.symm
  have hA2 : After w V2 := by show Below w.heap.size w V2; rw [hBe.out]; exact hB.out.trans hK.below
  replace hT := hid (hT.out.on hA2)
  replace hA2 := hid hA2
  clear hK hE hbk hB hBe
  go_wp2_with fail
  refine (kP.out _ hT.out).mono ?_
  rintro r V3 ⟨a3, c3, rfl, hE3, -, hA⟩
  replace hA2 := hid (bthen hA2.out hA)
  clear hA
  rw [if_pos rfl] at hE3 ⊢
  obtain ⟨b, o, rfl, d0⟩ := hE3.at1 (i := 2) (v0 := .string ⟨#[53]⟩) rfl
  clear hE3 kP hT
  obtain ⟨n3, hn3⟩ : ∃ n, ([nb [50], nb [49], ⟨#[53]⟩] : List ByteArray).length = n := ⟨_, rfl⟩
  rw [hn3]
  have d3 : ((n3 : Int) == 3) = true := by rw [← hn3]; rfl
  have l3 : (2 : Int) < (n3 : Int) := by rw [← hn3]; decide
  replace hn3 := hid hn3
  go_wp2_with fail
  refine (num29_any 0 _).mono ?_
  rintro e V4 ⟨rfl, hA⟩
  replace hA2 := hid (bthen hA2.out hA)
  clear hA
  go_wp2_with fail
  go_ret
  exact ⟨ret_bool (by simp), hA2.out⟩

end Go.Proofs.YtobgibmpodggkaaDoor
