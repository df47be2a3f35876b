/- Package block: the same entries. -/
import Derived.Test.YtlfbhfmchdbnoaaBlk10
import Derived.Laws.StructEq
import Derived.ChangeKeysEq
import Derived.Deep.DeepCutAuto
namespace Go.Proofs.Ytlfbhfmchdbnoaa
open Go.ChangeShapes Go.WideShapes Go.ChangeAt Go.RowKit
set_option linter.unusedVariables false
set_option linter.unusedSimpArgs false

set_option maxRecDepth 100000 in
set_option maxHeartbeats 2000000 in
theorem eqA12 (v0 v1 v2 v3 v4 v5 v6 v7 v8 v9 v10 v11 : Int) (w : World) : (Op.equalIn 9998 63 (.agg #[.int .i32 v0, .int .i32 v1, .int .i32 v2, .int .i32 v3, .int .i32 v4, .int .i32 v5, .int .i32 v6, .int .i32 v7, .int .i32 v8, .int .i32 v9, .int .i32 v10, .int .i32 v11]) (.agg #[.int .i32 v0, .int .i32 v1, .int .i32 v2, .int .i32 v3, .int .i32 v4, .int .i32 v5, .int .i32 v6, .int .i32 v7, .int .i32 v8, .int .i32 v9, .int .i32 v10, .int .i32 v11])).run Try.prog w = .ok true w := by
  have hi : ∃ i, Try.prog.info? 21 = some i := ⟨_, rfl⟩
  obtain ⟨i, hi⟩ := hi
  have hc : Try.prog.cellsOf 21 = 1 := by kernel_rfl
  rw [show (9998 : Nat) = 9997 + 1 from rfl, run_equalIn_array (i := i) w 9997 _ _ Try.underlying63 hi, hc, show List.range 12 = [0, 1, 2, 3, 4, 5, 6, 7, 8, 9, 10, 11] from rfl]
  have e : ∀ (x y : Int) (W : World), (Op.equalIn 9997 21 (.int .i32 x) (.int .i32 y)).run Try.prog W = .ok (x == y) W := fun x y W => run_equalIn_int W 9996 21 .i32 .i32 x y Try.underlying21
  simp [Op.eqItems, go_sem, e]
set_option maxRecDepth 100000 in
set_option maxHeartbeats 2000000 in
theorem eqR13 (t v0 v1 v2 v3 v4 v5 v6 v7 v8 v9 v10 v11 : Int) (w : World) : (Op.equalIn 9999 65 (.agg #[.int .u32 t, .int .i32 v0, .int .i32 v1, .int .i32 v2, .int .i32 v3, .int .i32 v4, .int .i32 v5, .int .i32 v6, .int .i32 v7, .int .i32 v8, .int .i32 v9, .int .i32 v10, .int .i32 v11]) (.agg #[.int .u32 t, .int .i32 v0, .int .i32 v1, .int .i32 v2, .int .i32 v3, .int .i32 v4, .int .i32 v5, .int .i32 v6, .int .i32 v7, .int .i32 v8, .int .i32 v9, .int .i32 v10, .int .i32 v11])).run Try.prog w = .ok true w := by
  have eA := fun W => eqA12 v0 v1 v2 v3 v4 v5 v6 v7 v8 v9 v10 v11 W
  rw [show (9999 : Nat) = 9998 + 1 from rfl, run_equalIn_struct w 9998 _ _ _ (by rfl) (by kernel_rfl)]
  go_simp
set_option maxRecDepth 100000 in
set_option maxHeartbeats 2000000 in
theorem eqE14 (kb : Bool) (u b0 b1 b2 b3 b4 b5 b6 b7 b8 b9 b10 b11 : Int) (w : World) : (Op.equalIn 10000 71 (.agg #[.bool kb, .int .u32 u, .int .i32 b0, .int .i32 b1, .int .i32 b2, .int .i32 b3, .int .i32 b4, .int .i32 b5, .int .i32 b6, .int .i32 b7, .int .i32 b8, .int .i32 b9, .int .i32 b10, .int .i32 b11]) (.agg #[.bool kb, .int .u32 u, .int .i32 b0, .int .i32 b1, .int .i32 b2, .int .i32 b3, .int .i32 b4, .int .i32 b5, .int .i32 b6, .int .i32 b7, .int .i32 b8, .int .i32 b9, .int .i32 b10, .int .i32 b11])).run Try.prog w = .ok true w := by
  have eR := fun W => eqR13 u b0 b1 b2 b3 b4 b5 b6 b7 b8 b9 b10 b11 W
  rw [show (10000 : Nat) = 9999 + 1 from rfl, run_equalIn_struct w 9999 _ _ _ (by rfl) (by kernel_rfl)]
  go_simp
set_option maxRecDepth 100000 in
set_option maxHeartbeats 8000000 in
theorem entries_same (a1 a2 : Option Addr) (c1 c2 m : Nat) (l : List En) (w : World) (hm : l.length = m) (h1 : Els w 14 a1 m c1 (entsV l)) (h2 : Els w 14 a2 m c2 (entsV l)) (h255 : m ≤ 100000) (hl : ∀ x ∈ l, EnOk x) : Calls Try.prog 34 #[.slice a1 m c1, .slice a2 m c2] w fun e w' => e = .returned (.bool true) ∧ After w w' := by
  replace h1 := hid h1
  replace h2 := hid h2
  replace hl := hid hl
  replace hm := hid hm
  go_enter Try.func34, Try.ntmps34
  go_upto_region 0 with (fail)
  go_wp2_with fail
  go_loopw [5] (fun ix wr => ∃ k : Nat, k ≤ m ∧ ix = .int .i64 k ∧ After w wr) (fun ix _ => m - (intOf ix).toNat)
  case atStart => exact ⟨0, by omega, rfl, Below.refl _ _⟩
  case round =>
    obtain ⟨k, hk, rfl, hA⟩ := hrel
    by_cases hlt : (k : Int) < m
    case neg =>
      replace hA := hid hA
      go_wp2_with fail
      go_ret
      exact ⟨rfl, hA.out⟩
    obtain ⟨x, hx⟩ : ∃ x, l[k]? = some x := ⟨_, List.getElem?_eq_getElem (show k < l.length by have := hm.out; omega)⟩
    obtain ⟨kb, u, bl⟩ := x
    obtain ⟨hu, hbl, hbb⟩ := hl.out _ (List.mem_of_getElem? hx)
    dsimp only at hu hbl hbb
    obtain ⟨b0, b1, b2, b3, b4, b5, b6, b7, b8, b9, b10, b11, rfl⟩ := list12 hbl
    obtain ⟨p1, o1, e1, g0, g1, g2, g3, g4, g5, g6, g7, g8, g9, g10, g11, g12, g13⟩ := (h1.out.below hA).at14 (entsV_at hx)
    obtain ⟨p2, o2, e2, q0, q1, q2, q3, q4, q5, q6, q7, q8, q9, q10, q11, q12, q13⟩ := (h2.out.below hA).at14 (entsV_at hx)
    cases e1
    cases e2
    have kz : (0 : Int) ≤ k := by omega
    have wk : IntKind.i64.wrap ((k : Int) + 1) = (k : Int) + 1 := by rw [IntKind.wrap_i64]; omega
    have hk1 := hid (show k + 1 ≤ m by omega)
    have eqx := fun W => eqE14 kb u b0 b1 b2 b3 b4 b5 b6 b7 b8 b9 b10 b11 W
    have hA2 := hid hA.drew
    clear hx hu hbl hbb hA hk
    go_upto_region 6 with (fail)
    refine wp_region_R (by kernel_rfl) ?_
    refine wpAnyR_take 0 rfl (by kernel_rfl) (by kernel_rfl) (by kernel_rfl) (fun _ _ _ _ h => h) ⟨_, Or.inl ⟨by rfl, fun w2 hb2 => by (go_simp; try with_reducible rfl)⟩, _, by (go_simp; try rfl), ?_⟩
    refine wpAnyR_take 1 rfl (by kernel_rfl) (by kernel_rfl) (by kernel_rfl) (fun _ _ _ _ h => h) ⟨_, Or.inl ⟨by rfl, fun w2 hb2 => by (go_simp; try with_reducible rfl)⟩, _, by (go_simp; try rfl), ?_⟩
    refine wpAnyR_take 2 rfl (by kernel_rfl) (by kernel_rfl) (by kernel_rfl) (fun _ _ _ _ h => h) ⟨_, Or.inl ⟨by rfl, fun w2 hb2 => by (go_simp; try with_reducible rfl)⟩, _, by (go_simp; try rfl), ?_⟩
    refine wpAnyR_take 3 rfl (by kernel_rfl) (by kernel_rfl) (by kernel_rfl) (fun _ _ _ _ h => h) ⟨_, Or.inl ⟨by rfl, fun w2 hb2 => by (have h0 := (Below.cell hb2 (World.block_lt_of_cell? wr _ g0)).trans g0; have h1 := (Below.cell hb2 (World.block_lt_of_cell? wr _ g1)).trans g1; have h2 := (Below.cell hb2 (World.block_lt_of_cell? wr _ g2)).trans g2; have h3 := (Below.cell hb2 (World.block_lt_of_cell? wr _ g3)).trans g3; have h4 := (Below.cell hb2 (World.block_lt_of_cell? wr _ g4)).trans g4; have h5 := (Below.cell hb2 (World.block_lt_of_cell? wr _ g5)).trans g5; have h6 := (Below.cell hb2 (World.block_lt_of_cell? wr _ g6)).trans g6; have h7 := (Below.cell hb2 (World.block_lt_of_cell? wr _ g7)).trans g7; have h8 := (Below.cell hb2 (World.block_lt_of_cell? wr _ g8)).trans g8; have h9 := (Below.cell hb2 (World.block_lt_of_cell? wr _ g9)).trans g9; have h10 := (Below.cell hb2 (World.block_lt_of_cell? wr _ g10)).trans g10; have h11 := (Below.cell hb2 (World.block_lt_of_cell? wr _ g11)).trans g11; have h12 := (Below.cell hb2 (World.block_lt_of_cell? wr _ g12)).trans g12; have h13 := (Below.cell hb2 (World.block_lt_of_cell? wr _ g13)).trans g13; go_simp; try with_reducible rfl)⟩, _, by (go_simp; try rfl), ?_⟩
    refine wpAnyR_take 4 rfl (by kernel_rfl) (by kernel_rfl) (by kernel_rfl) (fun _ _ _ _ h => h) ⟨_, Or.inl ⟨by rfl, fun w2 hb2 => by (go_simp; try with_reducible rfl)⟩, _, by (go_simp; try rfl), ?_⟩
    refine wpAnyR_take 5 rfl (by kernel_rfl) (by kernel_rfl) (by kernel_rfl) (fun _ _ _ _ h => h) ⟨_, Or.inl ⟨by rfl, fun w2 hb2 => by (go_simp; try with_reducible rfl)⟩, _, by (go_simp; try rfl), ?_⟩
    refine wpAnyR_take 6 rfl (by kernel_rfl) (by kernel_rfl) (by kernel_rfl) (fun _ _ _ _ h => h) ⟨_, Or.inl ⟨by rfl, fun w2 hb2 => by (go_simp; try with_reducible rfl)⟩, _, by (go_simp; try rfl), ?_⟩
    refine wpAnyR_take 7 rfl (by kernel_rfl) (by kernel_rfl) (by kernel_rfl) (fun _ _ _ _ h => h) ⟨_, Or.inl ⟨by rfl, fun w2 hb2 => by (have h0 := (Below.cell hb2 (World.block_lt_of_cell? wr _ q0)).trans q0; have h1 := (Below.cell hb2 (World.block_lt_of_cell? wr _ q1)).trans q1; have h2 := (Below.cell hb2 (World.block_lt_of_cell? wr _ q2)).trans q2; have h3 := (Below.cell hb2 (World.block_lt_of_cell? wr _ q3)).trans q3; have h4 := (Below.cell hb2 (World.block_lt_of_cell? wr _ q4)).trans q4; have h5 := (Below.cell hb2 (World.block_lt_of_cell? wr _ q5)).trans q5; have h6 := (Below.cell hb2 (World.block_lt_of_cell? wr _ q6)).trans q6; have h7 := (Below.cell hb2 (World.block_lt_of_cell? wr _ q7)).trans q7; have h8 := (Below.cell hb2 (World.block_lt_of_cell? wr _ q8)).trans q8; have h9 := (Below.cell hb2 (World.block_lt_of_cell? wr _ q9)).trans q9; have h10 := (Below.cell hb2 (World.block_lt_of_cell? wr _ q10)).trans q10; have h11 := (Below.cell hb2 (World.block_lt_of_cell? wr _ q11)).trans q11; have h12 := (Below.cell hb2 (World.block_lt_of_cell? wr _ q12)).trans q12; have h13 := (Below.cell hb2 (World.block_lt_of_cell? wr _ q13)).trans q13; go_simp; try with_reducible rfl)⟩, _, by (go_simp; try rfl), ?_⟩
    refine wpAnyR_take 8 rfl (by kernel_rfl) (by kernel_rfl) (by kernel_rfl) (fun _ _ _ _ h => h) ⟨_, Or.inl ⟨by rfl, fun w2 hb2 => by (go_simp; try with_reducible rfl)⟩, _, by (go_simp; try rfl), ?_⟩
    refine wpAnyR_done (by kernel_rfl) ?_ _
    clear eqx
    go_wp2_with fail
    go_roundw
    case rel => exact ⟨k + 1, hk1.out, by simp, hA2.out⟩
    case measure => simp [intOf]; omega
set_option maxRecDepth 100000 in
set_option maxHeartbeats 8000000 in
theorem sameB_any (no : Int) (a1 a2 : Option Addr) (c1 c2 m : Nat) (l : List En) (w : World) (hm : l.length = m) (h1 : Els w 14 a1 m c1 (entsV l)) (h2 : Els w 14 a2 m c2 (entsV l)) (h255 : m ≤ 100000) (hl : ∀ x ∈ l, EnOk x) : Calls Try.prog 24 #[.agg #[.int .u32 no, .slice a1 m c1], .agg #[.int .u32 no, .slice a2 m c2]] w fun e w' => e = .returned (.bool true) ∧ After w w' := by
  go_enter Try.func24, Try.ntmps24
  go_upto_region 0 with (fail)
  apply wp_region_seg0 (w := w) (S := [.al 1000, .al 1000, .q []]) (E := [.al ((fun p => .pointer (some ⟨p, 0, none⟩)), _) 1000, .al ((fun p => .pointer (some ⟨p, 0, none⟩)), _) 1000, .q0 _]) rfl (by kernel_rfl) rfl rfl
  intro th hge hne
  refine Seg.step _ rfl ⟨by rfl, fun U hU => ?_⟩ ?_
  · go_simp; exact vp_alloc rfl rfl rfl
  refine ⟨_, by (simp only [Ent.val]; go_simp <;> exact rfl), ?_⟩
  refine Seg.step _ rfl ⟨by rfl, fun U hU => ?_⟩ ?_
  · go_simp; exact vp_alloc rfl rfl rfl
  refine ⟨_, by (simp only [Ent.val]; go_simp <;> exact rfl), ?_⟩
  refine Seg.step _ rfl (Or.inl ⟨by rfl, fun U hU => vp_quiet (by (go_simp <;> exact rfl))⟩) ⟨_, by (simp only [Ent.val]; go_simp <;> exact rfl), ?_⟩
  refine Seg.stop (fun U1 hU hk => ?_)
  have nb0 := hge 0 _ _ rfl
  have rb0 := (hk 0 _ _ rfl trivial).1.2 (by simp)
  have nb1 := hge 1 _ _ rfl
  have rb1 := (hk 1 _ _ rfl trivial).1.2 (by simp)
  have ne0_1 := hne 0 1 _ _ _ _ rfl rfl (by omega)
  clear hk hge hne
  generalize th (0 + 0) = p0_0 at *
  dsimp only at rb0
  generalize th (0 + 1) = p0_1 at *
  dsimp only at rb1
  have r_p0_0 := rb0
  clear rb0
  have n_p0_0 := nb0
  clear nb0
  have d_p0_0_p0_1 := ne0_1
  clear ne0_1
  have r_p0_1 := rb1
  clear rb1
  have n_p0_1 := nb1
  clear nb1
  have sz1 := hU.size
  have hB : Below w.heap.size w U1 := hU
  clear hU
  have x0 := held_cell r_p0_0 0 _ rfl
  have x1 := held_cell r_p0_0 1 _ rfl
  have y0 := held_cell r_p0_1 0 _ rfl
  have y1 := held_cell r_p0_1 1 _ rfl
  have e1 := h1.below hB
  have e2 := h2.below hB
  clear h1 h2
  replace hB := hid hB
  go_wp2_with fail
  refine (entries_same a1 a2 c1 c2 m l _ hm e1 e2 h255 hl).mono ?_
  rintro e V ⟨rfl, hA⟩
  have hB9 := hid (bthen hB.out hA)
  clear hA e1 e2
  go_wp2_with fail
  go_ret
  exact ⟨rfl, hB9.out⟩

end Go.Proofs.Ytlfbhfmchdbnoaa
