/- Several texts in one: Res, Res2, Res3, Res4. -/
import Derived.Test.YtlfbhfmchdbnoaaKF
import Derived.Test.YtlfbhfmchdbnoaaBlk10
import Derived.Test.YtlfbhfmchdbnoaaBlk12
import Derived.Laws.StructEq
import Derived.ChangeKeysEq
import Derived.Deep.DeepCutAuto
import Derived.Test.YtlfbhfmchdbnoaaBlk11
import Derived.Test.YtlfbhfmchdbnoaaKP
import Derived.Test.YtlfbhfmchdbnoaaPre2
import Derived.Test.YtlfbhfmchdbnoaaKI

/- Package rescue: Records; the same lists. -/
namespace Go.Proofs.Ytlfbhfmchdbnoaa
open Go.ChangeShapes Go.WideShapes Go.ChangeAt Go.RowKit
set_option linter.unusedVariables false
set_option linter.unusedSimpArgs false

/-- The records of some entries. -/
def recsOf (l : List En) : List Rc := l.map Prod.snd
theorem recO : CellsOf Try.prog 28 65 13 52 := ⟨Try.underlying28, by kernel_rfl⟩
theorem recsV_len (l : List Rc) : (recsV l).length = l.length := by simp [recsV]
theorem recsV_m {l : List Rc} (h : ∀ r ∈ l, StK r) : ∀ x ∈ recsV l, x.length = 13 := fun x hx => by
  obtain ⟨y, hy, rfl⟩ := List.mem_map.1 hx
  have := (h y hy).2.1
  simp [recL, this]
theorem recL_one (x : Rc) : ∀ y ∈ [recL x], ∀ u ∈ y, u.oneCell' = true := by
  intro y hy u hu
  rw [List.mem_singleton] at hy; subst hy
  unfold recL at hu
  rw [List.mem_cons] at hu
  rcases hu with rfl | hu
  · rfl
  · obtain ⟨z, _, rfl⟩ := List.mem_map.1 hu; rfl
theorem recsV_snoc (l : List Rc) (x : Rc) : (recsV (l ++ [x])).flatten = (recsV l).flatten ++ recL x := by simp [recsV]
theorem recsOf_len (l : List En) : (recsOf l).length = l.length := by simp [recsOf]
theorem recsOf_take {l : List En} {k : Nat} {x : En} (hx : l[k]? = some x) : recsOf (l.take (k + 1)) = recsOf (l.take k) ++ [x.2] := by
  rw [take_snocE hx]; simp [recsOf]
theorem recsOf_ok {l : List En} (h : ∀ x ∈ l, EnOk x) : ∀ r ∈ recsOf l, StK r := fun r hr => by
  obtain ⟨x, hx, rfl⟩ := List.mem_map.1 hr
  exact h x hx
def RsOk (w : World) (l : List Rc) (e : Ending) (w' : World) : Prop := ∃ a cap, e = .returned (.slice a l.length cap) ∧ OwnE 65 w' w.heap.size 13 (.slice a l.length cap) l.length (recsV l).flatten ∧ After w w'
set_option maxRecDepth 100000 in
set_option maxHeartbeats 8000000 in
theorem resrec_any (no : Int) (a : Option Addr) (m cap : Nat) (l : List En) (w : World) (hm : l.length = m) (hE : Els w 14 a m cap (entsV l)) (h1000 : m ≤ 1000) (hl : ∀ x ∈ l, EnOk x) : Calls Try.prog 14 #[.agg #[.int .u32 no, .slice a m cap]] w (RsOk w (recsOf l)) := by
  have hall := hid (show l.take m = l by rw [← hm, List.take_length])
  have hrl := hid (show (recsOf l).length = m by rw [recsOf_len, hm])
  replace hE := hid hE
  replace hl := hid hl
  replace hm := hid hm
  go_enter Try.func14, Try.ntmps14
  go_upto_region 0 with (fail)
  apply wp_region_seg0 (w := w) (S := [.al 1000, .q []]) (E := [.al ((fun p => .pointer (some ⟨p, 0, none⟩)), _) 1000, .q0 _]) rfl (by kernel_rfl) rfl rfl
  intro th hge hne
  refine Seg.step _ rfl ⟨by rfl, fun U hU => ?_⟩ ?_
  · go_simp; exact vp_alloc rfl rfl rfl
  refine ⟨_, by (simp only [Ent.val]; go_simp <;> exact rfl), ?_⟩
  refine Seg.step _ rfl (Or.inl ⟨by rfl, fun U hU => vp_quiet (by (go_simp <;> exact rfl))⟩) ⟨_, by (simp only [Ent.val]; go_simp <;> exact rfl), ?_⟩
  refine Seg.stop (fun U1 hU hk => ?_)
  have nb0 := hge 0 _ _ rfl
  have rb0 := (hk 0 _ _ rfl trivial).1.2 (by simp)
  clear hk hge hne
  generalize th (0 + 0) = p0_0 at *
  dsimp only at rb0
  have r_p0_0 := rb0
  clear rb0
  have n_p0_0 := nb0
  clear nb0
  have sz1 := hU.size
  have hB : Below w.heap.size w U1 := hU
  clear hU
  have r0 := hid r_p0_0
  have hBh := hid hB
  have z0 := held_cell r_p0_0 0 _ rfl
  have z1 := held_cell r_p0_0 1 _ rfl
  clear r_p0_0 hB
  go_wp2_with fail
  go_loopw [3, 9] (fun ov ix wr => ∃ (k : Nat) (oa : Option Addr) (oc : Nat), k ≤ m ∧ ix = .int .i64 k ∧ ov = .slice oa k oc ∧ OwnE 65 wr w.heap.size 13 (.slice oa k oc) k (recsV (recsOf (l.take k))).flatten ∧ wr.heap[p0_0]? = some (.cells #[.int .u32 no, .slice a m cap] 26 (0, 0)) ∧ Below w.heap.size w wr) (fun _ ix _ => m - (intOf ix).toNat)
  case atStart => exact ⟨0, none, 0, by omega, rfl, rfl, OwnE.nil _ _ _ _, r0.out, hBh.out⟩
  case round =>
    clear r0 hBh z0 z1
    obtain ⟨k, oa, oc, hk, rfl, rfl, hO, r0, hB⟩ := hrel
    have sB := hB.size
    have z1 := held_cell r0 1 _ rfl
    by_cases hlt : (k : Int) < m
    case neg =>
      obtain rfl : k = m := by omega
      rw [hall.out] at hO
      replace hO := hid hO
      replace hB := hid hB
      go_wp2_with fail
      go_ret
      exact ⟨oa, oc, by rw [hrl.out]; rfl, by rw [hrl.out]; exact hO.out, hB.out⟩
    obtain ⟨x, hx⟩ : ∃ x, l[k]? = some x := ⟨_, List.getElem?_eq_getElem (show k < l.length by have := hm.out; omega)⟩
    have hxo := hl.out x (List.mem_of_getElem? hx)
    have htk := hid (recsOf_take hx)
    obtain ⟨kb, u, bl⟩ := x
    obtain ⟨hu, hbl, hbb⟩ := hxo
    dsimp only at hu hbl hbb
    obtain ⟨b0, b1, b2, b3, b4, b5, b6, b7, b8, b9, b10, b11, rfl⟩ := list12 hbl
    obtain ⟨xb, xo, e9, g0, g1, g2, g3, g4, g5, g6, g7, g8, g9, g10, g11, g12, g13⟩ := (hE.out.below hB).at14 (entsV_at hx)
    subst e9
    have kz : (0 : Int) ≤ k := by omega
    have wk : IntKind.i64.wrap ((k : Int) + 1) = (k : Int) + 1 := by rw [IntKind.wrap_i64]; omega
    have hk1 := hid (show k + 1 ≤ m by omega)
    clear hx hu hbl hbb hk
    have nA := alloc_new wr (.cells #[.bool kb, .int .u32 u, .int .i32 b0, .int .i32 b1, .int .i32 b2, .int .i32 b3, .int .i32 b4, .int .i32 b5, .int .i32 b6, .int .i32 b7, .int .i32 b8, .int .i32 b9, .int .i32 b10, .int .i32 b11] 71)
    have hA := nA.2.1
    have rx := nA.2.2
    have hO1 := hO.below hA
    have r1 := held_after hA r0
    have hB1 := bthen hB hA
    clear nA hA hO r0 hB
    go_upto_region 5 with (fail)
    obtain ⟨W1, hW1⟩ : ∃ X, wr.alloc (.cells #[.bool kb, .int .u32 u, .int .i32 b0, .int .i32 b1, .int .i32 b2, .int .i32 b3, .int .i32 b4, .int .i32 b5, .int .i32 b6, .int .i32 b7, .int .i32 b8, .int .i32 b9, .int .i32 b10, .int .i32 b11] 71) = X := ⟨_, rfl⟩
    rw [hW1] at rx hO1 r1 hB1
    try rw [hW1]
    obtain ⟨px, hpx⟩ : ∃ X, wr.heap.size = X := ⟨_, rfl⟩
    rw [hpx] at rx sB
    try rw [hpx]
    clear hW1 hpx g0 g1 g2 g3 g4 g5 g6 g7 g8 g9 g10 g11 g12 g13
    have x0 := held_cell rx 0 _ rfl
    have x1 := held_cell rx 1 _ rfl
    have x2 := held_cell rx 2 _ rfl
    have x3 := held_cell rx 3 _ rfl
    have x4 := held_cell rx 4 _ rfl
    have x5 := held_cell rx 5 _ rfl
    have x6 := held_cell rx 6 _ rfl
    have x7 := held_cell rx 7 _ rfl
    have x8 := held_cell rx 8 _ rfl
    have x9 := held_cell rx 9 _ rfl
    have x10 := held_cell rx 10 _ rfl
    have x11 := held_cell rx 11 _ rfl
    have x12 := held_cell rx 12 _ rfl
    have x13 := held_cell rx 13 _ rfl
    have s1 := hB1.size
    have nC := alloc_new W1 (.cells #[.int .u32 u, .int .i32 b0, .int .i32 b1, .int .i32 b2, .int .i32 b3, .int .i32 b4, .int .i32 b5, .int .i32 b6, .int .i32 b7, .int .i32 b8, .int .i32 b9, .int .i32 b10, .int .i32 b11] 65)
    have hAC := nC.2.1
    have hE6 : Els (W1.alloc (.cells #[.int .u32 u, .int .i32 b0, .int .i32 b1, .int .i32 b2, .int .i32 b3, .int .i32 b4, .int .i32 b5, .int .i32 b6, .int .i32 b7, .int .i32 b8, .int .i32 b9, .int .i32 b10, .int .i32 b11] 65)) 13 (some ⟨W1.heap.size, 0, none⟩) 1 1 [recL (u, [b0, b1, b2, b3, b4, b5, b6, b7, b8, b9, b10, b11])] := els_blk (m := 13) nC.2.2 rfl
    have hO2 := hid (hO1.below hAC)
    have r2 := hid (held_after hAC r1)
    have hB2 := hid (bthen hB1 hAC)
    obtain ⟨W2, hW2⟩ : ∃ X, W1.alloc (.cells #[.int .u32 u, .int .i32 b0, .int .i32 b1, .int .i32 b2, .int .i32 b3, .int .i32 b4, .int .i32 b5, .int .i32 b6, .int .i32 b7, .int .i32 b8, .int .i32 b9, .int .i32 b10, .int .i32 b11] 65) = X := ⟨_, rfl⟩
    rw [hW2] at hE6 hO2 r2 hB2
    obtain ⟨pc, hpc⟩ : ∃ X, W1.heap.size = X := ⟨_, rfl⟩
    rw [hpc] at hE6
    replace hE6 := hid hE6
    have s2 := hB2.out.size
    clear nC hAC hO1 r1 hB1
    go_wp2_with (first | (at_builtin; refine wpList_appE rfl (.tmp 13) (.tmp 16) 28 rfl w.heap.size 65 13 52 recO (by decide) (.slice oa k oc) k (recsV (recsOf (l.take k))).flatten rfl hO2.out (some ⟨pc, 0, none⟩) 1 1 [recL (u, [b0, b1, b2, b3, b4, b5, b6, b7, b8, b9, b10, b11])] rfl hE6.out (recL_one _) (by unfold maxLen; omega) (by omega) s2 ?_))
    intro a9 c9 W9 hO9 hG hN
    have r9 := hid ((hG.block p0_0 (held_lt r2.out) (fun e2 => hO2.out.ne r2.out (by decide) e2.symm)).trans r2.out)
    have hB9 := hid (hB2.out.grown hG s2 (fun g e => (hO2.out.lt g e).1))
    rw [← recsV_snoc, ← htk.out] at hO9
    replace hO9 := hid hO9
    clear hG hN hE6 hO2 r2 hB2
    go_wp2_with fail
    go_roundw
    case rel => exact ⟨k + 1, a9, c9, hk1.out, by simp, rfl, hO9.out, r9.out, hB9.out⟩
    case measure => simp [intOf]; omega
set_option maxRecDepth 100000 in
set_option maxHeartbeats 8000000 in
theorem rresrec_any (no : Int) (a : Option Addr) (m cap : Nat) (l : List En) (w : World) (hm : l.length = m) (hE : Els w 14 a m cap (entsV l)) (h1000 : m ≤ 1000) (hl : ∀ x ∈ l, EnOk x) : Calls Try.prog 15 #[.agg #[.int .u32 no, .slice a m cap]] w (RsOk w (recsOf l)) := by
  have hall := hid (show l.take m = l by rw [← hm, List.take_length])
  have hrl := hid (show (recsOf l).length = m by rw [recsOf_len, hm])
  replace hE := hid hE
  replace hl := hid hl
  replace hm := hid hm
  go_enter Try.func15, Try.ntmps15
  go_upto_region 0 with (fail)
  apply wp_region_seg0 (w := w) (S := [.al 1000, .q []]) (E := [.al ((fun p => .pointer (some ⟨p, 0, none⟩)), _) 1000, .q0 _]) rfl (by kernel_rfl) rfl rfl
  intro th hge hne
  refine Seg.step _ rfl ⟨by rfl, fun U hU => ?_⟩ ?_
  · go_simp; exact vp_alloc rfl rfl rfl
  refine ⟨_, by (simp only [Ent.val]; go_simp <;> exact rfl), ?_⟩
  refine Seg.step _ rfl (Or.inl ⟨by rfl, fun U hU => vp_quiet (by (go_simp <;> exact rfl))⟩) ⟨_, by (simp only [Ent.val]; go_simp <;> exact rfl), ?_⟩
  refine Seg.stop (fun U1 hU hk => ?_)
  have nb0 := hge 0 _ _ rfl
  have rb0 := (hk 0 _ _ rfl trivial).1.2 (by simp)
  clear hk hge hne
  generalize th (0 + 0) = p0_0 at *
  dsimp only at rb0
  have r_p0_0 := rb0
  clear rb0
  have n_p0_0 := nb0
  clear nb0
  have sz1 := hU.size
  have hB : Below w.heap.size w U1 := hU
  clear hU
  have r0 := hid r_p0_0
  have hBh := hid hB
  have z0 := held_cell r_p0_0 0 _ rfl
  have z1 := held_cell r_p0_0 1 _ rfl
  clear r_p0_0 hB
  go_wp2_with fail
  go_loopw [3, 4] (fun ov ix wr => ∃ (k : Nat) (oa : Option Addr) (oc : Nat), k ≤ m ∧ ix = .int .i64 k ∧ ov = .slice oa k oc ∧ OwnE 65 wr w.heap.size 13 (.slice oa k oc) k (recsV (recsOf (l.take k))).flatten ∧ wr.heap[p0_0]? = some (.cells #[.int .u32 no, .slice a m cap] 26 (0, 0)) ∧ Below w.heap.size w wr) (fun _ ix _ => m - (intOf ix).toNat)
  case atStart => exact ⟨0, none, 0, by omega, rfl, rfl, OwnE.nil _ _ _ _, r0.out, hBh.out⟩
  case round =>
    clear r0 hBh z0 z1
    obtain ⟨k, oa, oc, hk, rfl, rfl, hO, r0, hB⟩ := hrel
    have sB := hB.size
    have z1 := held_cell r0 1 _ rfl
    by_cases hlt : (k : Int) < m
    case neg =>
      obtain rfl : k = m := by omega
      rw [hall.out] at hO
      replace hO := hid hO
      replace hB := hid hB
      go_wp2_with fail
      go_ret
      exact ⟨oa, oc, by rw [hrl.out]; rfl, by rw [hrl.out]; exact hO.out, hB.out⟩
    obtain ⟨x, hx⟩ : ∃ x, l[k]? = some x := ⟨_, List.getElem?_eq_getElem (show k < l.length by have := hm.out; omega)⟩
    have hxo := hl.out x (List.mem_of_getElem? hx)
    have htk := hid (recsOf_take hx)
    obtain ⟨kb, u, bl⟩ := x
    obtain ⟨hu, hbl, hbb⟩ := hxo
    dsimp only at hu hbl hbb
    obtain ⟨b0, b1, b2, b3, b4, b5, b6, b7, b8, b9, b10, b11, rfl⟩ := list12 hbl
    obtain ⟨xb, xo, e9, g0, g1, g2, g3, g4, g5, g6, g7, g8, g9, g10, g11, g12, g13⟩ := (hE.out.below hB).at14 (entsV_at hx)
    subst e9
    have kz : (0 : Int) ≤ k := by omega
    have wk : IntKind.i64.wrap ((k : Int) + 1) = (k : Int) + 1 := by rw [IntKind.wrap_i64]; omega
    have hk1 := hid (show k + 1 ≤ m by omega)
    clear hx hu hbl hbb hk
    have s1 := sB
    have nC := alloc_new wr (.cells #[.int .u32 u, .int .i32 b0, .int .i32 b1, .int .i32 b2, .int .i32 b3, .int .i32 b4, .int .i32 b5, .int .i32 b6, .int .i32 b7, .int .i32 b8, .int .i32 b9, .int .i32 b10, .int .i32 b11] 65)
    have hAC := nC.2.1
    have hE6 : Els (wr.alloc (.cells #[.int .u32 u, .int .i32 b0, .int .i32 b1, .int .i32 b2, .int .i32 b3, .int .i32 b4, .int .i32 b5, .int .i32 b6, .int .i32 b7, .int .i32 b8, .int .i32 b9, .int .i32 b10, .int .i32 b11] 65)) 13 (some ⟨wr.heap.size, 0, none⟩) 1 1 [recL (u, [b0, b1, b2, b3, b4, b5, b6, b7, b8, b9, b10, b11])] := els_blk (m := 13) nC.2.2 rfl
    have hO2 := hid (hO.below hAC)
    have r2 := hid (held_after hAC r0)
    have hB2 := hid (bthen hB hAC)
    obtain ⟨W2, hW2⟩ : ∃ X, wr.alloc (.cells #[.int .u32 u, .int .i32 b0, .int .i32 b1, .int .i32 b2, .int .i32 b3, .int .i32 b4, .int .i32 b5, .int .i32 b6, .int .i32 b7, .int .i32 b8, .int .i32 b9, .int .i32 b10, .int .i32 b11] 65) = X := ⟨_, rfl⟩
    rw [hW2] at hE6 hO2 r2 hB2
    obtain ⟨pc, hpc⟩ : ∃ X, wr.heap.size = X := ⟨_, rfl⟩
    rw [hpc] at hE6
    replace hE6 := hid hE6
    have s2 := hB2.out.size
    clear nC hAC hO r0 hB
    go_wp2_with (first | (at_builtin; refine wpList_appE rfl (.tmp 12) (.tmp 19) 28 rfl w.heap.size 65 13 52 recO (by decide) (.slice oa k oc) k (recsV (recsOf (l.take k))).flatten rfl hO2.out (some ⟨pc, 0, none⟩) 1 1 [recL (u, [b0, b1, b2, b3, b4, b5, b6, b7, b8, b9, b10, b11])] rfl hE6.out (recL_one _) (by unfold maxLen; omega) (by omega) s2 ?_))
    intro a9 c9 W9 hO9 hG hN
    have r9 := hid ((hG.block p0_0 (held_lt r2.out) (fun e2 => hO2.out.ne r2.out (by decide) e2.symm)).trans r2.out)
    have hB9 := hid (hB2.out.grown hG s2 (fun g e => (hO2.out.lt g e).1))
    rw [← recsV_snoc, ← htk.out] at hO9
    replace hO9 := hid hO9
    clear hG hN hE6 hO2 r2 hB2
    go_wp2_with fail
    go_roundw
    case rel => exact ⟨k + 1, a9, c9, hk1.out, by simp, rfl, hO9.out, r9.out, hB9.out⟩
    case measure => simp [intOf]; omega
set_option maxRecDepth 100000 in
set_option maxHeartbeats 2000000 in
theorem eqA12r (v0 v1 v2 v3 v4 v5 v6 v7 v8 v9 v10 v11 : Int) (w : World) : (Op.equalIn 9999 63 (.agg #[.int .i32 v0, .int .i32 v1, .int .i32 v2, .int .i32 v3, .int .i32 v4, .int .i32 v5, .int .i32 v6, .int .i32 v7, .int .i32 v8, .int .i32 v9, .int .i32 v10, .int .i32 v11]) (.agg #[.int .i32 v0, .int .i32 v1, .int .i32 v2, .int .i32 v3, .int .i32 v4, .int .i32 v5, .int .i32 v6, .int .i32 v7, .int .i32 v8, .int .i32 v9, .int .i32 v10, .int .i32 v11])).run Try.prog w = .ok true w := by
  have hi : ∃ i, Try.prog.info? 21 = some i := ⟨_, rfl⟩
  obtain ⟨i, hi⟩ := hi
  have hc : Try.prog.cellsOf 21 = 1 := by kernel_rfl
  rw [show (9999 : Nat) = 9998 + 1 from rfl, run_equalIn_array (i := i) w 9998 _ _ Try.underlying63 hi, hc, show List.range 12 = [0, 1, 2, 3, 4, 5, 6, 7, 8, 9, 10, 11] from rfl]
  have e : ∀ (x y : Int) (W : World), (Op.equalIn 9998 21 (.int .i32 x) (.int .i32 y)).run Try.prog W = .ok (x == y) W := fun x y W => run_equalIn_int W 9997 21 .i32 .i32 x y Try.underlying21
  simp [Op.eqItems, go_sem, e]
set_option maxRecDepth 100000 in
set_option maxHeartbeats 2000000 in
theorem eqRr (t v0 v1 v2 v3 v4 v5 v6 v7 v8 v9 v10 v11 : Int) (w : World) : (Op.equalIn 10000 65 (.agg #[.int .u32 t, .int .i32 v0, .int .i32 v1, .int .i32 v2, .int .i32 v3, .int .i32 v4, .int .i32 v5, .int .i32 v6, .int .i32 v7, .int .i32 v8, .int .i32 v9, .int .i32 v10, .int .i32 v11]) (.agg #[.int .u32 t, .int .i32 v0, .int .i32 v1, .int .i32 v2, .int .i32 v3, .int .i32 v4, .int .i32 v5, .int .i32 v6, .int .i32 v7, .int .i32 v8, .int .i32 v9, .int .i32 v10, .int .i32 v11])).run Try.prog w = .ok true w := by
  have eA := fun W => eqA12r v0 v1 v2 v3 v4 v5 v6 v7 v8 v9 v10 v11 W
  rw [show (10000 : Nat) = 9999 + 1 from rfl, run_equalIn_struct w 9999 _ _ _ (by rfl) (by kernel_rfl)]
  go_simp
set_option maxRecDepth 100000 in
set_option maxHeartbeats 8000000 in
theorem recs_same (a1 a2 : Option Addr) (c1 c2 m : Nat) (l : List Rc) (w : World) (hm : l.length = m) (h1 : Els w 13 a1 m c1 (recsV l)) (h2 : Els w 13 a2 m c2 (recsV l)) (h255 : m ≤ 100000) (hl : ∀ x ∈ l, StK x) : Calls Try.prog 12 #[.slice a1 m c1, .slice a2 m c2] w fun e w' => e = .returned (.bool true) ∧ After w w' := by
  replace h1 := hid h1
  replace h2 := hid h2
  replace hl := hid hl
  replace hm := hid hm
  go_enter Try.func12, Try.ntmps12
  go_upto_region 0 with (fail)
  go_wp2_with fail
  go_loopw [5] (fun ix wr => ∃ k : Nat, k ≤ m ∧ ix = .int .i64 k ∧ After w wr) (fun ix _ => m - (intOf ix).toNat)
  case atStart => exact ⟨0, by omega, rfl, Below.refl _ _⟩
  case round =>
    obtain ⟨k, hk, rfl, hA⟩ := hrel
    by_cases hlt : (k : Int) < m
    case neg =>
      replace hA := hid hA
      go_wp2_with fail
      go_ret
      exact ⟨rfl, hA.out⟩
    obtain ⟨x, hx⟩ : ∃ x, l[k]? = some x := ⟨_, List.getElem?_eq_getElem (show k < l.length by have := hm.out; omega)⟩
    obtain ⟨u, bl⟩ := x
    obtain ⟨hu, hbl, hbb⟩ := hl.out _ (List.mem_of_getElem? hx)
    dsimp only at hu hbl hbb
    obtain ⟨b0, b1, b2, b3, b4, b5, b6, b7, b8, b9, b10, b11, rfl⟩ := list12 hbl
    obtain ⟨p1, o1, e1, g0, g1, g2, g3, g4, g5, g6, g7, g8, g9, g10, g11, g12⟩ := (h1.out.below hA).at13 (recsV_at hx)
    obtain ⟨p2, o2, e2, q0, q1, q2, q3, q4, q5, q6, q7, q8, q9, q10, q11, q12⟩ := (h2.out.below hA).at13 (recsV_at hx)
    cases e1
    cases e2
    have kz : (0 : Int) ≤ k := by omega
    have wk : IntKind.i64.wrap ((k : Int) + 1) = (k : Int) + 1 := by rw [IntKind.wrap_i64]; omega
    have hk1 := hid (show k + 1 ≤ m by omega)
    have eqx := fun W => eqRr u b0 b1 b2 b3 b4 b5 b6 b7 b8 b9 b10 b11 W
    have hA2 := hid hA.drew
    clear hx hu hbl hbb hA hk
    go_upto_region 6 with (fail)
    refine wp_region_R (by kernel_rfl) ?_
    refine wpAnyR_take 0 rfl (by kernel_rfl) (by kernel_rfl) (by kernel_rfl) (fun _ _ _ _ h => h) ⟨_, Or.inl ⟨by rfl, fun w2 hb2 => by (go_simp; try with_reducible rfl)⟩, _, by (go_simp; try rfl), ?_⟩
    refine wpAnyR_take 1 rfl (by kernel_rfl) (by kernel_rfl) (by kernel_rfl) (fun _ _ _ _ h => h) ⟨_, Or.inl ⟨by rfl, fun w2 hb2 => by (go_simp; try with_reducible rfl)⟩, _, by (go_simp; try rfl), ?_⟩
    refine wpAnyR_take 2 rfl (by kernel_rfl) (by kernel_rfl) (by kernel_rfl) (fun _ _ _ _ h => h) ⟨_, Or.inl ⟨by rfl, fun w2 hb2 => by (go_simp; try with_reducible rfl)⟩, _, by (go_simp; try rfl), ?_⟩
    refine wpAnyR_take 3 rfl (by kernel_rfl) (by kernel_rfl) (by kernel_rfl) (fun _ _ _ _ h => h) ⟨_, Or.inl ⟨by rfl, fun w2 hb2 => by (have h0 := (Below.cell hb2 (World.block_lt_of_cell? wr _ g0)).trans g0; have h1 := (Below.cell hb2 (World.block_lt_of_cell? wr _ g1)).trans g1; have h2 := (Below.cell hb2 (World.block_lt_of_cell? wr _ g2)).trans g2; have h3 := (Below.cell hb2 (World.block_lt_of_cell? wr _ g3)).trans g3; have h4 := (Below.cell hb2 (World.block_lt_of_cell? wr _ g4)).trans g4; have h5 := (Below.cell hb2 (World.block_lt_of_cell? wr _ g5)).trans g5; have h6 := (Below.cell hb2 (World.block_lt_of_cell? wr _ g6)).trans g6; have h7 := (Below.cell hb2 (World.block_lt_of_cell? wr _ g7)).trans g7; have h8 := (Below.cell hb2 (World.block_lt_of_cell? wr _ g8)).trans g8; have h9 := (Below.cell hb2 (World.block_lt_of_cell? wr _ g9)).trans g9; have h10 := (Below.cell hb2 (World.block_lt_of_cell? wr _ g10)).trans g10; have h11 := (Below.cell hb2 (World.block_lt_of_cell? wr _ g11)).trans g11; have h12 := (Below.cell hb2 (World.block_lt_of_cell? wr _ g12)).trans g12; go_simp; try with_reducible rfl)⟩, _, by (go_simp; try rfl), ?_⟩
    refine wpAnyR_take 4 rfl (by kernel_rfl) (by kernel_rfl) (by kernel_rfl) (fun _ _ _ _ h => h) ⟨_, Or.inl ⟨by rfl, fun w2 hb2 => by (go_simp; try with_reducible rfl)⟩, _, by (go_simp; try rfl), ?_⟩
    refine wpAnyR_take 5 rfl (by kernel_rfl) (by kernel_rfl) (by kernel_rfl) (fun _ _ _ _ h => h) ⟨_, Or.inl ⟨by rfl, fun w2 hb2 => by (go_simp; try with_reducible rfl)⟩, _, by (go_simp; try rfl), ?_⟩
    refine wpAnyR_take 6 rfl (by kernel_rfl) (by kernel_rfl) (by kernel_rfl) (fun _ _ _ _ h => h) ⟨_, Or.inl ⟨by rfl, fun w2 hb2 => by (go_simp; try with_reducible rfl)⟩, _, by (go_simp; try rfl), ?_⟩
    refine wpAnyR_take 7 rfl (by kernel_rfl) (by kernel_rfl) (by kernel_rfl) (fun _ _ _ _ h => h) ⟨_, Or.inl ⟨by rfl, fun w2 hb2 => by (have h0 := (Below.cell hb2 (World.block_lt_of_cell? wr _ q0)).trans q0; have h1 := (Below.cell hb2 (World.block_lt_of_cell? wr _ q1)).trans q1; have h2 := (Below.cell hb2 (World.block_lt_of_cell? wr _ q2)).trans q2; have h3 := (Below.cell hb2 (World.block_lt_of_cell? wr _ q3)).trans q3; have h4 := (Below.cell hb2 (World.block_lt_of_cell? wr _ q4)).trans q4; have h5 := (Below.cell hb2 (World.block_lt_of_cell? wr _ q5)).trans q5; have h6 := (Below.cell hb2 (World.block_lt_of_cell? wr _ q6)).trans q6; have h7 := (Below.cell hb2 (World.block_lt_of_cell? wr _ q7)).trans q7; have h8 := (Below.cell hb2 (World.block_lt_of_cell? wr _ q8)).trans q8; have h9 := (Below.cell hb2 (World.block_lt_of_cell? wr _ q9)).trans q9; have h10 := (Below.cell hb2 (World.block_lt_of_cell? wr _ q10)).trans q10; have h11 := (Below.cell hb2 (World.block_lt_of_cell? wr _ q11)).trans q11; have h12 := (Below.cell hb2 (World.block_lt_of_cell? wr _ q12)).trans q12; go_simp; try with_reducible rfl)⟩, _, by (go_simp; try rfl), ?_⟩
    refine wpAnyR_take 8 rfl (by kernel_rfl) (by kernel_rfl) (by kernel_rfl) (fun _ _ _ _ h => h) ⟨_, Or.inl ⟨by rfl, fun w2 hb2 => by (go_simp; try with_reducible rfl)⟩, _, by (go_simp; try rfl), ?_⟩
    refine wpAnyR_done (by kernel_rfl) ?_ _
    clear eqx
    go_wp2_with fail
    go_roundw
    case rel => exact ⟨k + 1, hk1.out, by simp, hA2.out⟩
    case measure => simp [intOf]; omega
set_option maxRecDepth 100000 in
set_option maxHeartbeats 8000000 in
theorem ints_same (a1 a2 : Option Addr) (c1 c2 m : Nat) (zs : List Int) (w : World) (h1 : Sl .i64 w a1 m c1 zs) (h2 : Sl .i64 w a2 m c2 zs) (h255 : m ≤ 100000) : Calls Try.prog 13 #[.slice a1 m c1, .slice a2 m c2] w fun e w' => e = .returned (.bool true) ∧ After w w' := by
  have hm := hid h1.1
  replace h1 := hid h1
  replace h2 := hid h2
  go_enter Try.func13, Try.ntmps13
  go_upto_region 0 with (fail)
  go_wp2_with fail
  go_loopw [5] (fun ix wr => ∃ k : Nat, k ≤ m ∧ ix = .int .i64 k ∧ After w wr) (fun ix _ => m - (intOf ix).toNat)
  case atStart => exact ⟨0, by omega, rfl, Below.refl _ _⟩
  case round =>
    obtain ⟨k, hk, rfl, hA⟩ := hrel
    by_cases hlt : (k : Int) < m
    case neg =>
      replace hA := hid hA
      go_wp2_with fail
      go_ret
      exact ⟨rfl, hA.out⟩
    obtain ⟨p1, o1, rfl, g0⟩ := (h1.out.below hA).2.2.2.2 k (by have := hm.out; omega)
    obtain ⟨p2, o2, rfl, q0⟩ := (h2.out.below hA).2.2.2.2 k (by have := hm.out; omega)
    generalize zs.getD k 0 = X at *
    have kz : (0 : Int) ≤ k := by omega
    have wk : IntKind.i64.wrap ((k : Int) + 1) = (k : Int) + 1 := by rw [IntKind.wrap_i64]; omega
    have hk1 := hid (show k + 1 ≤ m by omega)
    have hA2 := hid hA.drew
    clear hA hk
    go_upto_region 6 with (fail)
    refine wp_region_R (by kernel_rfl) ?_
    refine wpAnyR_take 0 rfl (by kernel_rfl) (by kernel_rfl) (by kernel_rfl) (fun _ _ _ _ h => h) ⟨_, Or.inl ⟨by rfl, fun w2 hb2 => by (go_simp; try with_reducible rfl)⟩, _, by (go_simp; try rfl), ?_⟩
    refine wpAnyR_take 1 rfl (by kernel_rfl) (by kernel_rfl) (by kernel_rfl) (fun _ _ _ _ h => h) ⟨_, Or.inl ⟨by rfl, fun w2 hb2 => by (go_simp; try with_reducible rfl)⟩, _, by (go_simp; try rfl), ?_⟩
    refine wpAnyR_take 2 rfl (by kernel_rfl) (by kernel_rfl) (by kernel_rfl) (fun _ _ _ _ h => h) ⟨_, Or.inl ⟨by rfl, fun w2 hb2 => by (go_simp; try with_reducible rfl)⟩, _, by (go_simp; try rfl), ?_⟩
    refine wpAnyR_take 3 rfl (by kernel_rfl) (by kernel_rfl) (by kernel_rfl) (fun _ _ _ _ h => h) ⟨_, Or.inl ⟨by rfl, fun w2 hb2 => by (have hg := (Below.cell hb2 (World.block_lt_of_cell? wr _ g0)).trans g0; go_simp; try with_reducible rfl)⟩, _, by (go_simp; try rfl), ?_⟩
    refine wpAnyR_take 4 rfl (by kernel_rfl) (by kernel_rfl) (by kernel_rfl) (fun _ _ _ _ h => h) ⟨_, Or.inl ⟨by rfl, fun w2 hb2 => by (go_simp; try with_reducible rfl)⟩, _, by (go_simp; try rfl), ?_⟩
    refine wpAnyR_take 5 rfl (by kernel_rfl) (by kernel_rfl) (by kernel_rfl) (fun _ _ _ _ h => h) ⟨_, Or.inl ⟨by rfl, fun w2 hb2 => by (go_simp; try with_reducible rfl)⟩, _, by (go_simp; try rfl), ?_⟩
    refine wpAnyR_take 6 rfl (by kernel_rfl) (by kernel_rfl) (by kernel_rfl) (fun _ _ _ _ h => h) ⟨_, Or.inl ⟨by rfl, fun w2 hb2 => by (go_simp; try with_reducible rfl)⟩, _, by (go_simp; try rfl), ?_⟩
    refine wpAnyR_take 7 rfl (by kernel_rfl) (by kernel_rfl) (by kernel_rfl) (fun _ _ _ _ h => h) ⟨_, Or.inl ⟨by rfl, fun w2 hb2 => by (have hq := (Below.cell hb2 (World.block_lt_of_cell? wr _ q0)).trans q0; go_simp; try with_reducible rfl)⟩, _, by (go_simp; try rfl), ?_⟩
    refine wpAnyR_take 8 rfl (by kernel_rfl) (by kernel_rfl) (by kernel_rfl) (fun _ _ _ _ h => h) ⟨_, Or.inl ⟨by rfl, fun w2 hb2 => by (go_simp; try with_reducible rfl)⟩, _, by (go_simp; try rfl), ?_⟩
    refine wpAnyR_done (by kernel_rfl) ?_ _
    go_wp2_with fail
    go_roundw
    case rel => exact ⟨k + 1, hk1.out, by simp, hA2.out⟩
    case measure => simp [intOf]; omega

end Go.Proofs.Ytlfbhfmchdbnoaa

/- Package rescue: what is read; the papers' Read. -/
namespace Go.Proofs.Ytlfbhfmchdbnoaa
open Go.ChangeShapes Go.WideShapes Go.ChangeAt Go.RowKit
set_option linter.unusedVariables false
set_option linter.unusedSimpArgs false

def chunk (zs : List Int) (i : Nat) : List Int := (zs.drop (256 * i)).take 256
def goodC (zs : List Int) (k : Nat) : Bool := decide ((takB (chunk zs k)).2.2 = 0 ∧ (takB (chunk zs k)).1 = (k : Int))
/-- The records of the first k whole blocks, and which are not good. -/
def readS (zs : List Int) : Nat → List Rc × List Int
  | 0 => ([], [])
  | k + 1 => if goodC zs k then ((readS zs k).1 ++ recsOf (takB (chunk zs k)).2.1, (readS zs k).2) else ((readS zs k).1, (readS zs k).2 ++ [(k : Int)])
theorem chunk_wf {zs : List Int} (h : ∀ x ∈ zs, (Lit.int .u8 x).wf = true) (i : Nat) : ∀ x ∈ chunk zs i, (Lit.int .u8 x).wf = true := fun x hx => h x (List.mem_of_mem_drop (List.mem_of_mem_take hx))
theorem takB_l {zs : List Int} (hz : ∀ x ∈ zs, (Lit.int .u8 x).wf = true) : (takB zs).2.1.length ≤ 82 ∧ (∀ x ∈ (takB zs).2.1, EnOk x) ∧ 0 ≤ (takB zs).1 ∧ (takB zs).1 ≤ 4294967295 := by
  by_cases h : (takB zs).2.2 = 0
  · obtain ⟨⟨no, l, e⟩, hr⟩ : ∃ r, takB zs = r := ⟨_, rfl⟩
    rw [hr] at h ⊢
    dsimp only at h ⊢
    subst h
    obtain ⟨h1, h2, h3, h4, h5⟩ := takB_back hz hr
    refine ⟨?_, h3, h4, h5⟩
    have := entS_ge l (0, zer12) stK0.2.2 h3
    have h6 : (putB no l).2 = 0 := by rw [h1]
    unfold putB at h6
    by_cases hk : keyed l = true
    · rw [if_pos hk] at h6
      by_cases hb : 248 < (entS (0, zer12) l).length
      · rw [if_pos hb] at h6; simp at h6
      · omega
    · rw [if_neg hk] at h6; simp at h6
  · rw [takB_bad h]
    exact ⟨by simp, (fun x hx => by cases hx), by simp, by simp⟩
theorem readS_ok {zs : List Int} (hz : ∀ x ∈ zs, (Lit.int .u8 x).wf = true) : ∀ k, (readS zs k).1.length ≤ 82 * k ∧ (∀ r ∈ (readS zs k).1, StK r) ∧ (readS zs k).2.length ≤ k
  | 0 => ⟨by simp [readS], (fun r hr => by cases hr), by simp [readS]⟩
  | k + 1 => by
    obtain ⟨h1, h2, h3⟩ := readS_ok hz k
    obtain ⟨t1, t2, _⟩ := takB_l (chunk_wf hz k)
    unfold readS
    split
    · dsimp only
      refine ⟨by rw [List.length_append, recsOf_len]; omega, fun r hr => ?_, by omega⟩
      rcases List.mem_append.1 hr with hr | hr
      · exact h2 r hr
      · exact recsOf_ok t2 r hr
    · dsimp only
      exact ⟨by omega, h2, by rw [List.length_append]; simp; omega⟩
theorem readS_good {zs : List Int} {k : Nat} (h : goodC zs k = true) : readS zs (k + 1) = ((readS zs k).1 ++ recsOf (takB (chunk zs k)).2.1, (readS zs k).2) := by
  show (if goodC zs k then _ else _) = _
  rw [h]; rfl
theorem readS_bad {zs : List Int} {k : Nat} (h : goodC zs k = false) : readS zs (k + 1) = ((readS zs k).1, (readS zs k).2 ++ [(k : Int)]) := by
  show (if goodC zs k then _ else _) = _
  rw [h]; rfl
theorem intOf37 : IntsOf Try.prog 29 3 .i64 8 := ⟨Try.underlying29, by kernel_rfl⟩
set_option maxRecDepth 100000 in
theorem cutLH37 (a : Option Addr) (len cap p q : Nat) (hc : len ≤ cap) (hp : p < q) (hq : q ≤ len) : ∃ a2 : Option Addr, (∀ W : World, (Instr.slice 22 (.slice a len cap) (some (.int .i64 (p : Int))) (some (.int .i64 (q : Int))) none).run Try.prog W = .ok (.slice a2 (q - p) (cap - p)) W) ∧ (∀ (U : World) (zs : List Int), Sl .u8 U a len cap zs → Sl .u8 U a2 (q - p) (cap - p) ((zs.drop p).take (q - p))) := by
  refine ⟨a.map (·.add p), ?_, ?_⟩
  · intro W
    rw [run_slice_lh W 22 a len cap (by rfl) .i64 .i64 (p : Int) (q : Int) (by omega) (by omega) (by omega)]
    have e : ¬ cap = p := by omega
    go_simp <;> simp [sliced, e]
  · intro U zs h
    exact (h.drop p (by omega)).take (q - p) (by omega)
theorem own_kpE2 {k1 : IntKind} {E1 E2 : TypeId} {W w' : World} {b1 b2 m n : Nat} {v1 v2 : Value} {z1 : List Int} {xs : List Value} (h : Own k1 E1 W b1 v1 z1) (hO : OwnE E2 W b2 m v2 n xs) (hG : W.grownBy w' v2.ownBlock) (hT : E1 ≠ E2) : Own k1 E1 w' b1 v1 z1 := by
  refine World.ownsRow.kept h hG ?_
  rcases h.2 with ⟨rfl, _⟩ | ⟨g, cap, cur, rfl, _, hgb, _⟩
  · exact .inl rfl
  · exact .inr fun e' => hO.ne hgb hT (by simpa [Value.ownBlock] using e'.symm)
theorem ownE_kp {k1 : IntKind} {E1 E2 : TypeId} {W w' : World} {b1 b2 m n : Nat} {v1 v2 : Value} {z1 : List Int} {xs : List Value} (hO : OwnE E2 W b2 m v2 n xs) (h : Own k1 E1 W b1 v1 z1) (hG : W.grownBy w' v1.ownBlock) (hT : E2 ≠ E1) : OwnE E2 w' b2 m v2 n xs :=
  hO.kept (fun g hg => by
    obtain ⟨_, hlt, cur, hc⟩ := hO.lt g hg
    exact hG.block g hlt (own_ne h hc hT))
def RdOk (w : World) (r : List Rc × List Int) (e : Ending) (w' : World) : Prop := ∃ ra rc ba bc, e = .returned (.tuple #[.slice ra r.1.length rc, .slice ba r.2.length bc]) ∧ OwnE 65 w' w.heap.size 13 (.slice ra r.1.length rc) r.1.length (recsV r.1).flatten ∧ Own .i64 3 w' w.heap.size (.slice ba r.2.length bc) r.2 ∧ After w w'
theorem recs_one (l : List Rc) : ∀ y ∈ recsV l, ∀ u ∈ y, u.oneCell' = true := by
  intro y hy
  obtain ⟨x, _, rfl⟩ := List.mem_map.1 hy
  exact recL_one x _ (by simp)
set_option maxRecDepth 100000 in
set_option maxHeartbeats 16000000 in
theorem rread_any (a : Option Addr) (len cap : Nat) (zs : List Int) (w : World) (hS : Sl .u8 w a len cap zs) (hz : ∀ x ∈ zs, (Lit.int .u8 x).wf = true) (hl : len ≤ 100000) : Calls Try.prog 11 #[.slice a len cap] w (RdOk w (readS zs (len / 256))) := by
  obtain ⟨nb, hnb⟩ : ∃ z, len / 256 = z := ⟨_, rfl⟩
  rw [hnb]
  have hnl : 256 * nb ≤ len := by omega
  have hnb2 : nb ≤ 400 := by omega
  have wq0 : IntKind.i64.wrap (Int.tdiv (len : Int) 256) = (nb : Int) := by rw [Int.tdiv_eq_ediv_of_nonneg (by omega), IntKind.wrap_i64]; omega
  have wq1 : Int.tdiv (len : Int) 256 = (nb : Int) := by rw [Int.tdiv_eq_ediv_of_nonneg (by omega)]; omega
  have wnb : IntKind.i64.wrap (nb : Int) = (nb : Int) := by rw [IntKind.wrap_i64]; omega
  have hcc := hS.2.1
  replace hnb := hid hnb
  replace hS := hid hS
  replace hz := hid hz
  go_enter Try.func11, Try.ntmps11
  go_upto_region 0 with (fail)
  go_wp2_with fail
  go_loopw [4, 5, 6] (fun ov bv ix wr => ∃ (k : Nat) (oa : Option Addr) (on oc : Nat) (ba : Option Addr) (bn bc : Nat) (O : List Rc) (Bd : List Int), k ≤ nb ∧ ix = .int .i64 k ∧ ov = .slice oa on oc ∧ bv = .slice ba bn bc ∧ OwnE 65 wr w.heap.size 13 (.slice oa on oc) on (recsV O).flatten ∧ Own .i64 3 wr w.heap.size (.slice ba bn bc) Bd ∧ Hid (readS zs k = (O, Bd)) ∧ Hid (O.length = on) ∧ Hid (Bd.length = bn) ∧ After w wr) (fun _ _ ix _ => nb - (intOf ix).toNat)
  case atStart => exact ⟨0, none, 0, 0, none, 0, 0, [], [], by omega, rfl, rfl, rfl, OwnE.nil _ _ _ _, Own.nil _ _ _ _, hid rfl, hid rfl, hid rfl, Below.refl _ _⟩
  case round =>
    obtain ⟨k, oa, on, oc, ba, bn, bc, O, Bd, hk, rfl, rfl, rfl, hO, hI, hr, hon, hbn, hA⟩ := hrel
    have hok := readS_ok hz.out k
    rw [hr.out] at hok
    dsimp only at hok
    rw [hon.out, hbn.out] at hok
    have hb1 := hok.1
    have hb2 := hok.2.2
    clear hok
    replace hO := hid hO
    replace hI := hid hI
    by_cases hlt : (k : Int) < nb
    case neg =>
      obtain rfl : k = nb := by omega
      replace hA := hid hA
      go_wp2_with fail
      go_ret2
      rw [hr.out]
      exact ⟨oa, oc, ba, bc, by rw [hon.out, hbn.out]; rfl, by dsimp only; rw [hon.out]; exact hO.out, by dsimp only; rw [hbn.out]; exact hI.out, hA.out⟩
    have kz : (0 : Int) ≤ k := by omega
    have wk : IntKind.i64.wrap ((k : Int) + 1) = (k : Int) + 1 := by rw [IntKind.wrap_i64]; omega
    have wku : IntKind.u64.wrap (k : Int) = (k : Int) := by rw [IntKind.wrap_u64]; omega
    have hk1 := hid (show k + 1 ≤ nb by omega)
    obtain ⟨p, hp⟩ : ∃ p, 256 * k = p := ⟨_, rfl⟩
    have wp : IntKind.i64.wrap (256 * (k : Int)) = (p : Int) := by rw [IntKind.wrap_i64]; omega
    obtain ⟨q, hq⟩ : ∃ q, p + 256 = q := ⟨_, rfl⟩
    have wq : IntKind.i64.wrap ((p : Int) + 256) = (q : Int) := by rw [IntKind.wrap_i64]; omega
    have hql : q ≤ len := by omega
    have hqp : q - p = 256 := by omega
    obtain ⟨ca, hcut, hcs⟩ := cutLH37 a len cap p q hcc (by omega) hql
    have hch := hcs w zs hS.out
    clear hcs
    rw [hqp] at hcut hch
    have hce : (zs.drop p).take 256 = chunk zs k := by unfold chunk; rw [hp]
    rw [hce] at hch
    clear hce
    have hcw := chunk_wf hz.out k
    have htl := takB_l hcw
    have hte := takB_e (chunk zs k)
    have hg := readS_good (zs := zs) (k := k)
    have hbd := readS_bad (zs := zs) (k := k)
    have hgd : goodC zs k = decide ((takB (chunk zs k)).2.2 = 0 ∧ (takB (chunk zs k)).1 = (k : Int)) := rfl
    obtain ⟨c2, hc2⟩ : ∃ z, cap - p = z := ⟨_, rfl⟩
    rw [hc2] at hcut hch
    clear hc2
    have kT := fun U h => rbtake_any ca 256 c2 (chunk zs k) U h hcw (by omega)
    obtain ⟨⟨no, l, ee⟩, ht⟩ : ∃ r, takB (chunk zs k) = r := ⟨_, rfl⟩
    rw [ht] at kT htl hte hg hgd
    rw [hr.out] at hg hbd
    dsimp only at hg hbd htl hte hgd
    obtain ⟨hl82, hlo, hno1, hno2⟩ := htl
    replace hg := hid hg
    replace hbd := hid hbd
    replace hgd := hid hgd
    replace hlo := hid hlo
    replace kT := hid kT
    have hch2 := hid (hch.below hA)
    have qz : (0 : Int) ≤ p := by omega
    have qz2 : (p : Int) ≤ q := by omega
    have qz3 : (q : Int) ≤ cap := by omega
    clear ht hcw hch hr hk
    replace hp := hid hp
    replace hq := hid hq
    replace hA := hid hA
    clear hqp
    go_upto_region 6 with (fail)
    go_wp2_with fail
    refine (kT.out _ hch2.out).mono ?_
    rintro e V2 ⟨xa, xc, rfl, hEx, hA2⟩
    dsimp only at hEx ⊢
    obtain ⟨m, hm⟩ : ∃ z, l.length = z := ⟨_, rfl⟩
    rw [hm] at hEx hl82 ⊢
    replace hm := hid hm
    have hO2 := hO.out.below hA2
    have hI2 := hI.out.below hA2
    have hA3 := bthen hA.out hA2
    clear hA2 hO hI hA kT hch2 hcut
    have nw := alloc_new V2 (.cells #[.int .u32 no, .slice xa m xc] 26)
    have hA4 := bthen hA3 nw.2.1
    have rb := nw.2.2
    have hE4 := hid (hEx.below nw.2.1)
    have hO4 := hid (hO2.below nw.2.1)
    have hI4 := hid (hI2.below nw.2.1)
    clear nw hA3 hEx hO2 hI2
    go_upto_region 7 with (fail)
    obtain ⟨W3, hW3⟩ : ∃ X, V2.alloc (.cells #[.int .u32 no, .slice xa m xc] 26) = X := ⟨_, rfl⟩
    rw [hW3] at hA4 rb hE4 hO4 hI4
    try rw [hW3]
    obtain ⟨pb, hpb⟩ : ∃ X, V2.heap.size = X := ⟨_, rfl⟩
    rw [hpb] at rb
    try rw [hpb]
    clear hW3 hpb
    have x0 := held_cell rb 0 _ rfl
    have x1 := held_cell rb 1 _ rfl
    have s4 := hA4.size
    have wno : IntKind.u64.wrap no = no := by rw [IntKind.wrap_u64]; omega
    by_cases hee : ee = 0
    case neg =>
      have hne : (ee != 0) = true := by simp [hee]
      have hnot : ¬ (ee = 0 ∧ no = (k : Int)) := fun h => hee h.1
      replace hee := hid hee
      have hr9 := hid (hbd.out (by rw [hgd.out]; exact decide_eq_false (fun h => hnot h)))
      clear hnot hg hbd hgd
      have nC := alloc_new W3 (.cells #[.int .i64 (k : Int)] 3)
      have slk : Sl .i64 (W3.alloc (.cells #[.int .i64 (k : Int)] 3)) (some ⟨W3.heap.size, 0, none⟩) 1 1 [(k : Int)] := (Own.lit .i64 3 W3 [(k : Int)] W3.heap.size (Nat.le_refl _) (by unfold maxLen; simp) #[.int .i64 (k : Int)] rfl).slf
      have hO5 := hid (hO4.out.below nC.2.1)
      have hI5 := hid (hI4.out.below nC.2.1)
      have hA5 := bthen hA4 nC.2.1
      clear nC hO4 hI4 hE4 hA4 rb
      obtain ⟨W4, hW4⟩ : ∃ X, W3.alloc (.cells #[.int .i64 (k : Int)] 3) = X := ⟨_, rfl⟩
      rw [hW4] at slk hO5 hI5 hA5
      obtain ⟨pk, hpk⟩ : ∃ X, W3.heap.size = X := ⟨_, rfl⟩
      rw [hpk] at slk
      replace slk := hid slk
      have s5 := hA5.size
      have hla := hid (show Bd.length + [(k : Int)].length ≤ 140737488355328 / 8 by rw [hbn.out]; simp; omega)
      go_wp2_with (first | (at_builtin; refine wpList_app _ rfl (.tmp 37) (.tmp 39) 29 rfl w.heap.size 3 .i64 8 intOf37 (.slice ba bn bc) Bd rfl hI5.out (some ⟨pk, 0, none⟩) 1 [(k : Int)] rfl slk.out.2.2.2.2 slk.out.2.2.2.1 hla.out (by omega) s5 ?_))
      intro v9 w9 hI9 hG
      obtain ⟨ga, gc, hv9, -⟩ := hI9.sl
      subst hv9
      have hO9 := hid (ownE_kp hO5.out hI5.out hG (by decide))
      have hA9 := hid (hI5.out.grew hG hA5 (Nat.le_refl _) s5)
      have hl9 : (Bd ++ [(k : Int)]).length = bn + 1 := by rw [List.length_append, hbn.out]; rfl
      rw [hl9] at hI9 ⊢
      replace hI9 := hid hI9
      replace hl9 := hid hl9
      clear hG hA5
      go_wp2_with fail
      go_roundw
      case rel => exact ⟨k + 1, oa, on, oc, ga, bn + 1, gc, O, Bd ++ [(k : Int)], hk1.out, by simp, rfl, rfl, hO9.out, hI9.out, hr9, hon, hl9, hA9.out⟩
      case measure => simp [intOf]; omega
    subst hee
    by_cases hnk : no = (k : Int)
    case neg =>
      have hne : (no != (k : Int)) = true := by simpa using hnk
      have hnot : ¬ ((0 : Int) = 0 ∧ no = (k : Int)) := fun h => hnk h.2
      replace hnk := hid hnk
      have hr9 := hid (hbd.out (by rw [hgd.out]; exact decide_eq_false (fun h => hnot h)))
      clear hnot hg hbd hgd
      have nC := alloc_new W3 (.cells #[.int .i64 (k : Int)] 3)
      have slk : Sl .i64 (W3.alloc (.cells #[.int .i64 (k : Int)] 3)) (some ⟨W3.heap.size, 0, none⟩) 1 1 [(k : Int)] := (Own.lit .i64 3 W3 [(k : Int)] W3.heap.size (Nat.le_refl _) (by unfold maxLen; simp) #[.int .i64 (k : Int)] rfl).slf
      have hO5 := hid (hO4.out.below nC.2.1)
      have hI5 := hid (hI4.out.below nC.2.1)
      have hA5 := bthen hA4 nC.2.1
      clear nC hO4 hI4 hE4 hA4 rb
      obtain ⟨W4, hW4⟩ : ∃ X, W3.alloc (.cells #[.int .i64 (k : Int)] 3) = X := ⟨_, rfl⟩
      rw [hW4] at slk hO5 hI5 hA5
      obtain ⟨pk, hpk⟩ : ∃ X, W3.heap.size = X := ⟨_, rfl⟩
      rw [hpk] at slk
      replace slk := hid slk
      have s5 := hA5.size
      have hla := hid (show Bd.length + [(k : Int)].length ≤ 140737488355328 / 8 by rw [hbn.out]; simp; omega)
      go_wp2_with (first | (at_builtin; refine wpList_app _ rfl (.tmp 37) (.tmp 39) 29 rfl w.heap.size 3 .i64 8 intOf37 (.slice ba bn bc) Bd rfl hI5.out (some ⟨pk, 0, none⟩) 1 [(k : Int)] rfl slk.out.2.2.2.2 slk.out.2.2.2.1 hla.out (by omega) s5 ?_))
      intro v9 w9 hI9 hG
      obtain ⟨ga, gc, hv9, -⟩ := hI9.sl
      subst hv9
      have hO9 := hid (ownE_kp hO5.out hI5.out hG (by decide))
      have hA9 := hid (hI5.out.grew hG hA5 (Nat.le_refl _) s5)
      have hl9 : (Bd ++ [(k : Int)]).length = bn + 1 := by rw [List.length_append, hbn.out]; rfl
      rw [hl9] at hI9 ⊢
      replace hI9 := hid hI9
      replace hl9 := hid hl9
      clear hG hA5
      go_wp2_with fail
      go_roundw
      case rel => exact ⟨k + 1, oa, on, oc, ga, bn + 1, gc, O, Bd ++ [(k : Int)], hk1.out, by simp, rfl, rfl, hO9.out, hI9.out, hr9, hon, hl9, hA9.out⟩
      case measure => simp [intOf]; omega
    subst hnk
    have hr9 := hid (hg.out (by rw [hgd.out]; exact decide_eq_true ⟨rfl, rfl⟩))
    clear hg hbd hgd
    have kR := hid (fun U h => rresrec_any (k : Int) xa m xc l U hm.out h (by omega) hlo.out)
    replace hA4 := hid hA4
    go_wp2_with fail
    refine (kR.out _ hE4.out).mono ?_
    rintro e V5 ⟨ra, rc, rfl, hOr, hA5⟩
    rw [recsOf_len, hm.out] at hOr ⊢
    have hEr := hid (hOr.els (by rw [recsV_len, recsOf_len, hm.out]) (recsV_m (recsOf_ok hlo.out)))
    have hO5 := hid (hO4.out.below hA5)
    have hI5 := hid (hI4.out.below hA5)
    have hA6 := bthen hA4.out hA5
    have s5 := hA6.size
    clear hOr hA5 hO4 hI4 hE4 hA4 rb kR x0 x1
    go_wp2_with (first | (at_builtin; refine wpList_appE rfl (.tmp 41) (.tmp 43) 28 rfl w.heap.size 65 13 52 recO (by decide) (.slice oa on oc) on (recsV O).flatten rfl hO5.out ra m rc (recsV (recsOf l)) rfl hEr.out (recs_one _) (by unfold maxLen; omega) (by omega) s5 ?_))
    intro a9 c9 W9 hO9 hG hN
    have hI9 := hid (own_kpE2 hI5.out hO5.out hG (by decide))
    have hA9 := hid (Below.trans hA6 ((Below.refl w.heap.size V5).grown hG s5 (fun g e => (hO5.out.lt g e).1)))
    have e9 : (recsV O).flatten ++ (recsV (recsOf l)).flatten = (recsV (O ++ recsOf l)).flatten := by simp [recsV]
    rw [e9] at hO9
    replace hO9 := hid hO9
    have hl9 := hid (show (O ++ recsOf l).length = on + m by rw [List.length_append, recsOf_len, hon.out, hm.out])
    clear hG hN hA6 e9
    go_wp2_with fail
    go_roundw
    case rel => exact ⟨k + 1, a9, on + m, c9, ba, bn, bc, O ++ recsOf l, Bd, hk1.out, by simp, rfl, rfl, hO9.out, hI9.out, hr9, hl9, hbn, hA9.out⟩
    case measure => simp [intOf]; omega

end Go.Proofs.Ytlfbhfmchdbnoaa

/- Package rescue: cut and its iterator. -/
namespace Go.Proofs.Ytlfbhfmchdbnoaa
open Go.ChangeShapes Go.WideShapes Go.ChangeAt Go.RowKit
set_option linter.unusedVariables false
set_option linter.unusedSimpArgs false

/-- What cut hands over: number, place (or -1), the block's number, where its entries lie, the entries. -/
abbrev E37 := Int × Int × Int × Option Addr × Nat × List En
def enc37 (x : E37) : Array Value := #[.int .i64 x.1, .agg #[.int .i64 x.2.1, .int .u32 x.2.2.1, .slice x.2.2.2.1 x.2.2.2.2.2.length x.2.2.2.2.1]]
def el37 (x : E37) (W : World) : Prop := Els W 14 x.2.2.2.1 x.2.2.2.2.2.length x.2.2.2.2.1 (entsV x.2.2.2.2.2) ∧ x.2.2.2.2.2.length ≤ 82 ∧ (∀ y ∈ x.2.2.2.2.2, EnOk y) ∧ 0 ≤ x.1 ∧ x.1 ≤ 400
def stp37 (r : List Rc × List Int) (x : E37) : List Rc × List Int := if x.2.1 < 0 then (r.1, r.2 ++ [x.1]) else (r.1 ++ recsOf x.2.2.2.2.2, r.2)
def acc37 (xs : List E37) : List Rc × List Int := xs.foldl stp37 ([], [])
theorem acc37_snoc (xs : List E37) (x : E37) : acc37 (xs ++ [x]) = stp37 (acc37 xs) x := by simp [acc37]
theorem acc_bad {pre : List E37} {zs : List Int} {k : Nat} {no : Int} {xa : Option Addr} {xc : Nat} {l : List En} (h : acc37 pre = readS zs k) (hg : goodC zs k = false) : acc37 (pre ++ [((k : Int), -1, no, xa, xc, l)]) = readS zs (k + 1) := by
  rw [acc37_snoc, h, readS_bad hg]
  rfl
theorem acc_good {pre : List E37} {zs : List Int} {k p : Nat} {no : Int} {xa : Option Addr} {xc : Nat} {l : List En} (h : acc37 pre = readS zs k) (hg : goodC zs k = true) (hl : (takB (chunk zs k)).2.1 = l) : acc37 (pre ++ [((k : Int), (p : Int), no, xa, xc, l)]) = readS zs (k + 1) := by
  rw [acc37_snoc, h, readS_good hg, hl]
  unfold stp37
  dsimp only
  rw [if_neg (by omega)]
/-- The blocks below L stay, and the block B. -/
def KpZ (L B : Nat) (A A' : World) : Prop := A.heap.size ≤ A'.heap.size ∧ ∀ k, (k < L ∨ k = B) → A'.heap[k]? = A.heap[k]?
theorem kpZ_t {L B : Nat} {A A1 A2 : World} (h : KpZ L B A A1) (k : KpZ L B A1 A2) : KpZ L B A A2 := ⟨Nat.le_trans h.1 k.1, fun j h1 => (k.2 j h1).trans (h.2 j h1)⟩
theorem kpZ_b {L B M : Nat} (hL : L ≤ M) (hB : B < M) (W : World) (l : Nat) (o' : Obj) (h : M ≤ l) : KpZ L B W (W.putObj l o') := ⟨by simp, fun k hk => World.putObj_heap_other (by omega)⟩
theorem kpZ_after {L B : Nat} {A A' : World} (h : After A A') (hL : L ≤ A.heap.size) (hB : B < A.heap.size) : KpZ L B A A' := ⟨h.size, fun k hk => h.block k (by omega)⟩
theorem kpZ_held {L B : Nat} {A A' : World} {o : Obj} (h : KpZ L B A A') (hg : A.heap[B]? = some o) : A'.heap[B]? = some o := (h.2 B (.inr rfl)).trans hg
theorem sl_kpZ {L B : Nat} {k : IntKind} {w w' : World} {a : Option Addr} {len cap : Nat} {zs : List Int} (h : Sl k w a len cap zs) (hk : KpZ L B w w') (hb : ∀ b off, a = some ⟨b, off, none⟩ → 0 < len → b < L) : Sl k w' a len cap zs :=
  ⟨h.1, h.2.1, h.2.2.1, h.2.2.2.1, fun i hi => by
    obtain ⟨b, off, e, hc⟩ := h.2.2.2.2 i hi
    have h2 := hb b off e (by have := h.1; omega)
    exact ⟨b, off, e, (World.cell?_of_block (w := w) (hk.2 b (.inl h2))).trans hc⟩⟩
theorem els_own {W W' : World} {row : Option Nat} {B m : Nat} {a : Option Addr} {len cap : Nat} {xs : List (List Value)} (h : Els W m a len cap xs) (hg : W.grownBy W' row) (hr : ∀ r, row = some r → B ≤ r ∧ ∃ o : Obj, W.heap[r]? = some o ∧ o.isCells = false) : Els W' m a len cap xs := by
  refine ⟨h.1, h.2.1, h.2.2.1, h.2.2.2.1, fun i x hx => ?_⟩
  obtain ⟨h1, b, off, e, hc⟩ := h.2.2.2.2 i x hx
  refine ⟨h1, b, off, e, fun j v hj => ?_⟩
  have hc := hc j v hj
  have hlt := World.block_lt_of_cell? (w := W) _ hc
  refine (World.cell?_of_block (w := W) (hg.block _ hlt fun e2 => ?_)).trans hc
  obtain ⟨_, o, ho, hcl⟩ := hr _ e2.symm
  unfold World.cell? at hc
  rw [ho] at hc
  cases o <;> simp_all [Obj.isCells]
theorem cut_any (a : Option Addr) (len cap : Nat) (w : World) : Calls Try.prog 26 #[.slice a len cap] w fun e w' => e = .returned (.func (.func 35) #[] #[.pointer (some ⟨w.heap.size, 0, none⟩)]) ∧ w' = w.alloc (.cells #[.slice a len cap] 22) := by
  have hmf : ∀ (fn : Fn) (first cap : Array Value) (w : World), (Instr.makeFunc fn first cap).run Try.prog w = .ok (.func fn first cap) w := fun _ _ _ _ => rfl
  go_enter Try.func26, Try.ntmps26
  go_wp2_with fail
  go_ret
  exact ⟨rfl, rfl⟩
attribute [local go_sem] Oper.semAt_some
set_option maxRecDepth 100000 in
set_option maxHeartbeats 16000000 in
theorem cut_tells (a : Option Addr) (len cap nb : Nat) (zs : List Int) (L B : Nat) (w0 : World) (hL : L ≤ w0.heap.size) (hB : B < w0.heap.size) (hc : w0.heap[B]? = some (.cells #[.slice a len cap] 22 (0, 0))) (hS : Sl .u8 w0 a len cap zs) (hSb : ∀ b off, a = some ⟨b, off, none⟩ → 0 < len → b < L) (hz : ∀ x ∈ zs, (Lit.int .u8 x).wf = true) (hl : len ≤ 100000) (hnb : len / 256 = nb) :
    TellsE Try.prog 35 #[.pointer (some ⟨B, 0, none⟩)] enc37 el37 (KpZ L B) (fun xs => acc37 xs = readS zs nb) (fun _ => True) nb w0 := by
  intro ly J Jx W hW hst hY h0
  have hc0 := (hW.block B hB).trans hc
  refine callsIn_of_wp Try.func35 rfl trivial ?_ rfl
  simp only [Try.ntmps35, List.size_toArray, List.length_cons, List.length_nil, Nat.reduceAdd, Nat.reduceSub, Array.replicate_succ, Array.replicate_zero, List.push_toArray, List.append_toArray, List.nil_append, List.cons_append]
  have hS0 := hS.below hW
  have hWM := hW.size
  have hcc := hS.2.1
  have hnl : 256 * nb ≤ len := by omega
  have hnb2 : nb ≤ 400 := by omega
  have wq0 : IntKind.i64.wrap (Int.tdiv (len : Int) 256) = (nb : Int) := by rw [Int.tdiv_eq_ediv_of_nonneg (by omega), IntKind.wrap_i64]; omega
  have wq1 : Int.tdiv (len : Int) 256 = (nb : Int) := by rw [Int.tdiv_eq_ediv_of_nonneg (by omega)]; omega
  have wnb : IntKind.i64.wrap (nb : Int) = (nb : Int) := by rw [IntKind.wrap_i64]; omega
  have hMB : B < W.heap.size := by omega
  have hML : L ≤ W.heap.size := by omega
  have b0 := held_cell hc0 0 _ rfl
  clear hS hc hW hnb hL hB hWM
  replace hst := hid hst
  replace hY := hid hY
  replace hz := hid hz
  replace hSb := hid hSb
  replace hS0 := hid hS0
  replace hc0 := hid hc0
  gi_wp2
  gi_loopw [10] (fun ix wr => ∃ (k : Nat) (pre : List E37), ix = .int .i64 k ∧ k ≤ nb ∧ Hid (pre.length = k) ∧ Hid (acc37 pre = readS zs k) ∧ J pre wr ∧ Sl .u8 wr a len cap zs ∧ wr.heap[B]? = some (.cells #[.slice a len cap] 22 (0, 0)) ∧ W.heap.size ≤ wr.heap.size) (fun ix _ => nb - (intOf ix).toNat)
  case atStart => exact ⟨0, [], rfl, by omega, hid rfl, hid rfl, h0, hS0.out, hc0.out, Nat.le_refl _⟩
  case round =>
    clear h0 hS0 hc0 b0
    obtain ⟨k, pre, rfl, hk, hpn, hac, hJ, hS1, rb, hMr⟩ := hrel
    have bx := held_cell rb 0 _ rfl
    by_cases hlt : (k : Int) < nb
    case neg =>
      obtain rfl : k = nb := by omega
      replace hS1 := hid hS1
      replace hMr := hid hMr
      clear hk
      gi_wp2
      go_end0
      exact ⟨⟨_, rfl⟩, .inl ⟨_, hac.out, hJ⟩⟩
    have kz : (0 : Int) ≤ k := by omega
    have wk : IntKind.i64.wrap ((k : Int) + 1) = (k : Int) + 1 := by rw [IntKind.wrap_i64]; omega
    have hk1 := hid (show k + 1 ≤ nb by omega)
    obtain ⟨p, hp⟩ : ∃ p, 256 * k = p := ⟨_, rfl⟩
    have wp : IntKind.i64.wrap ((k : Int) * 256) = (p : Int) := by rw [IntKind.wrap_i64]; omega
    obtain ⟨q, hq⟩ : ∃ q, p + 256 = q := ⟨_, rfl⟩
    have wq : IntKind.i64.wrap ((p : Int) + 256) = (q : Int) := by rw [IntKind.wrap_i64]; omega
    have hql : q ≤ len := by omega
    have hqp : q - p = 256 := by omega
    obtain ⟨ca, hcut, hcs⟩ := cutLH37 a len cap p q hcc (by omega) hql
    have hch := hcs wr zs hS1
    clear hcs
    rw [hqp] at hcut hch
    have hce : (zs.drop p).take 256 = chunk zs k := by unfold chunk; rw [hp]
    rw [hce] at hch
    clear hce
    have hcw := chunk_wf hz.out k
    have htl := takB_l hcw
    have hgd : goodC zs k = decide ((takB (chunk zs k)).2.2 = 0 ∧ (takB (chunk zs k)).1 = (k : Int)) := rfl
    obtain ⟨c2, hc2⟩ : ∃ z, cap - p = z := ⟨_, rfl⟩
    rw [hc2] at hcut hch
    clear hc2
    have kT := fun U h => btake_any ca 256 c2 (chunk zs k) U h hcw (by omega)
    have hgo := fun (no : Int) (xa : Option Addr) (xc : Nat) (h : goodC zs k = true) => acc_good (p := p) (no := no) (xa := xa) (xc := xc) hac.out h rfl
    have hbo := fun (no : Int) (xa : Option Addr) (xc : Nat) (l : List En) (h : goodC zs k = false) => acc_bad (no := no) (xa := xa) (xc := xc) (l := l) hac.out h
    obtain ⟨⟨no, l, ee⟩, ht⟩ : ∃ r, takB (chunk zs k) = r := ⟨_, rfl⟩
    rw [ht] at kT htl hgd
    simp only [ht] at hgo
    dsimp only at htl hgd
    obtain ⟨hl82, hlo, hno1, hno2⟩ := htl
    replace hgd := hid hgd
    replace hgo := hid hgo
    replace hbo := hid hbo
    replace hlo := hid hlo
    replace kT := hid kT
    replace hch := hid hch
    replace hS1 := hid hS1
    replace hMr := hid hMr
    have hlen := hid (show pre.length < nb by rw [hpn.out]; omega)
    have hpn2 := hid (show ∀ x : E37, (pre ++ [x]).length = k + 1 from fun x => by rw [List.length_append, hpn.out]; rfl)
    have hk4 := hid (show (0 : Int) ≤ k ∧ (k : Int) ≤ 400 by omega)
    have qz : (0 : Int) ≤ p := by omega
    have qz2 : (p : Int) ≤ q := by omega
    have qz3 : (q : Int) ≤ cap := by omega
    clear ht hcw hk
    replace hp := hid hp
    replace hq := hid hq
    clear hqp
    gi_wp2
    refine ⟨trivial, ((callsIn_wide (n := _)).2 (kT.out _ hch.out)).mono ?_⟩
    rintro e V2 ⟨xa, xc, rfl, hEx, hA2⟩
    dsimp only at hEx ⊢
    have hJ2 := hst.out _ _ _ hJ hA2
    have nw := alloc_new V2 (.cells #[.int .u32 no, .slice xa l.length xc] 26)
    have rb2 := nw.2.2
    have hA3 := bthen hA2 nw.2.1
    have hE3 := hid (hEx.below nw.2.1)
    have hJ3 := hst.out _ _ _ hJ2 nw.2.1
    obtain ⟨W3, hW3⟩ : ∃ X, V2.alloc (.cells #[.int .u32 no, .slice xa l.length xc] 26) = X := ⟨_, rfl⟩
    obtain ⟨pb, hpb⟩ : ∃ X, V2.heap.size = X := ⟨_, rfl⟩
    rw [hW3] at rb2 hA3 hE3 hJ3
    rw [hpb] at rb2
    have x0 := held_cell rb2 0 _ rfl
    have x1 := held_cell rb2 1 _ rfl
    have hS3 := hid (hS1.out.below hA3)
    have rb3 := hid (held_after hA3 rb)
    have hM3 := hid (Nat.le_trans hMr.out hA3.size)
    have wno : IntKind.i64.wrap no = no := by rw [IntKind.wrap_i64]; omega
    clear nw hA2 hA3 hEx hJ2 hJ rb bx rb2 hch kT hcut hS1 hMr
    by_cases hee : ee = 0
    case neg =>
      have hne : (ee != 0) = true := by simp [hee]
      have hacc := hid (hbo.out no xa xc l (by rw [hgd.out]; exact decide_eq_false (fun h => hee h.1)))
      clear hbo hgo hgd
      replace hee := hid hee
      obtain ⟨fn, tmps, assign, body, hy, hR⟩ := hY.out pre ((k : Int), (-1), no, xa, xc, l) W3 hJ3 ⟨hE3.out, hl82, hlo.out, hk4.out.1, hk4.out.2⟩ hlen.out
      replace hy : (Instr.yield ly #[.int .i64 (k : Int), .agg #[.int .i64 (-1), .int .u32 no, .slice xa l.length xc]]).run Try.prog W3 = .ok (.round ly fn tmps assign body) W3 := hy
      gi_wp2
      refine hR.mono ?_
      rintro e W4 (⟨rfl, hJ4, hk4b⟩ | ⟨rfl, hJx4⟩)
      · have hS4 := hid (sl_kpZ hS3.out hk4b hSb.out)
        have rb4 := hid (kpZ_held hk4b rb3.out)
        have hM4 := hid (Nat.le_trans hM3.out hk4b.1)
        clear hk4b
        gi_wp2
        go_roundw
        case rel => exact ⟨k + 1, pre ++ [((k : Int), (-1), no, xa, xc, l)], by simp, hk1.out, hid (hpn2.out _), hacc, hJ4, hS4.out, rb4.out, hM4.out⟩
        case measure => simp [intOf]; omega
      · gi_wp2
        refine bodyPost_ret (results_none rfl _ _ _) rfl ?_
        exact ⟨⟨_, rfl⟩, .inr ⟨_, trivial, hJx4⟩⟩
    subst hee
    by_cases hnk : no = (k : Int)
    case neg =>
      have hne : (no != (k : Int)) = true := by simpa using hnk
      have hacc := hid (hbo.out no xa xc l (by rw [hgd.out]; exact decide_eq_false (fun h => hnk h.2)))
      clear hbo hgo hgd
      replace hnk := hid hnk
      obtain ⟨fn, tmps, assign, body, hy, hR⟩ := hY.out pre ((k : Int), (-1), no, xa, xc, l) W3 hJ3 ⟨hE3.out, hl82, hlo.out, hk4.out.1, hk4.out.2⟩ hlen.out
      replace hy : (Instr.yield ly #[.int .i64 (k : Int), .agg #[.int .i64 (-1), .int .u32 no, .slice xa l.length xc]]).run Try.prog W3 = .ok (.round ly fn tmps assign body) W3 := hy
      gi_wp2
      refine hR.mono ?_
      rintro e W4 (⟨rfl, hJ4, hk4b⟩ | ⟨rfl, hJx4⟩)
      · have hS4 := hid (sl_kpZ hS3.out hk4b hSb.out)
        have rb4 := hid (kpZ_held hk4b rb3.out)
        have hM4 := hid (Nat.le_trans hM3.out hk4b.1)
        clear hk4b
        gi_wp2
        go_roundw
        case rel => exact ⟨k + 1, pre ++ [((k : Int), (-1), no, xa, xc, l)], by simp, hk1.out, hid (hpn2.out _), hacc, hJ4, hS4.out, rb4.out, hM4.out⟩
        case measure => simp [intOf]; omega
      · gi_wp2
        refine bodyPost_ret (results_none rfl _ _ _) rfl ?_
        exact ⟨⟨_, rfl⟩, .inr ⟨_, trivial, hJx4⟩⟩
    subst hnk
    have hacc := hid (hgo.out (k : Int) xa xc (by rw [hgd.out]; exact decide_eq_true ⟨rfl, rfl⟩))
    clear hbo hgo hgd
    obtain ⟨fn, tmps, assign, body, hy, hR⟩ := hY.out pre ((k : Int), (p : Int), (k : Int), xa, xc, l) W3 hJ3 ⟨hE3.out, hl82, hlo.out, hk4.out.1, hk4.out.2⟩ hlen.out
    replace hy : (Instr.yield ly #[.int .i64 (k : Int), .agg #[.int .i64 (p : Int), .int .u32 (k : Int), .slice xa l.length xc]]).run Try.prog W3 = .ok (.round ly fn tmps assign body) W3 := hy
    gi_wp2
    refine hR.mono ?_
    rintro e W4 (⟨rfl, hJ4, hk4b⟩ | ⟨rfl, hJx4⟩)
    · have hS4 := hid (sl_kpZ hS3.out hk4b hSb.out)
      have rb4 := hid (kpZ_held hk4b rb3.out)
      have hM4 := hid (Nat.le_trans hM3.out hk4b.1)
      clear hk4b
      gi_wp2
      go_roundw
      case rel => exact ⟨k + 1, pre ++ [((k : Int), (p : Int), (k : Int), xa, xc, l)], by simp, hk1.out, hid (hpn2.out _), hacc, hJ4, hS4.out, rb4.out, hM4.out⟩
      case measure => simp [intOf]; omega
    · gi_wp2
      refine bodyPost_ret (results_none rfl _ _ _) rfl ?_
      exact ⟨⟨_, rfl⟩, .inr ⟨_, trivial, hJx4⟩⟩

end Go.Proofs.Ytlfbhfmchdbnoaa

/- Package rescue: Read. -/
namespace Go.Proofs.Ytlfbhfmchdbnoaa
open Go.ChangeShapes Go.WideShapes Go.ChangeAt Go.RowKit
set_option linter.unusedVariables false
set_option linter.unusedSimpArgs false

theorem kpZ_grown {L B : Nat} {A A' : World} {v : Value} (hG : A.grownBy A' v.ownBlock) (hL : L ≤ A.heap.size) (hB : B < A.heap.size) (hv : ∀ g, v.ownBlock = some g → L ≤ g ∧ g ≠ B) : KpZ L B A A' :=
  ⟨hG.size, fun j hj => hG.block j (by omega) (fun e => by have := hv j e.symm; omega)⟩
theorem kpZ_set {L B : Nat} (A : World) (j i : Nat) (v : Value) (h1 : L ≤ j) (h2 : j ≠ B) : KpZ L B A (A.setCell ⟨j, i, none⟩ v) := ⟨by simp [World.setCell], fun k hk => Below.heap_setCell A ⟨j, i, none⟩ v k (show k ≠ j by omega)⟩
theorem ownE_put37 {E : TypeId} {W : World} {base m D : Nat} {v : Value} {n : Nat} {xs : List Value} (h : OwnE E W base m v n xs) (hK : W.heap[D]? = some (.deferred (some []))) (o : Obj) : OwnE E (W.putObj D o) base m v n xs :=
  h.kept (fun g hg => by
    obtain ⟨_, _, cur, hc⟩ := h.lt g hg
    exact World.putObj_heap_other (fun e => by subst e; rw [hc] at hK; cases hK))
attribute [local go_sem] Oper.semAt_some
set_option maxRecDepth 100000 in
set_option maxHeartbeats 16000000 in
theorem read_any (a : Option Addr) (len cap : Nat) (zs : List Int) (w : World) (hS : Sl .u8 w a len cap zs) (hz : ∀ x ∈ zs, (Lit.int .u8 x).wf = true) (hl : len ≤ 100000) : Calls Try.prog 10 #[.slice a len cap] w (RdOk w (readS zs (len / 256))) := by
  obtain ⟨nb, hnb⟩ : ∃ z, len / 256 = z := ⟨_, rfl⟩
  rw [hnb]
  have hnb2 := hid (show nb ≤ 400 by omega)
  have hbk : ∀ b off, a = some ⟨b, off, none⟩ → 0 < len → b < w.heap.size := by
    intro b off e h
    obtain ⟨b2, o2, e2, g⟩ := hS.2.2.2.2 0 (by rw [hS.1]; exact h)
    rw [e] at e2
    cases e2
    exact World.block_lt_of_cell? w _ g
  replace hnb := hid hnb
  replace hbk := hid hbk
  have hS0 := hid hS
  clear hS
  replace hz := hid hz
  have nA := alloc_new w (.cells #[.slice none 0 0] 28)
  have r4 := nA.2.2
  have hA := nA.2.1
  clear nA
  have nB := alloc_new (w.alloc (.cells #[.slice none 0 0] 28)) (.cells #[.slice none 0 0] 29)
  have r5 := nB.2.2
  replace r4 := held_after nB.2.1 r4
  have hB := bthen hA nB.2.1
  have h45 : w.heap.size < (w.alloc (.cells #[.slice none 0 0] 28)).heap.size := by have := held_lt (alloc_new w (.cells #[.slice none 0 0] 28)).2.2; exact this
  clear nB hA
  refine calls_of_marks Try.func10 rfl ?_
  simp only [Try.ntmps10, List.size_toArray, List.length_cons, List.length_nil, Nat.reduceAdd, Nat.reduceSub, Array.replicate_succ, Array.replicate_zero, List.push_toArray, List.append_toArray, List.nil_append, List.cons_append]
  go_upto_region 3 with (fail)
  obtain ⟨W6, hW6⟩ : ∃ X, (w.alloc (.cells #[.slice none 0 0] 28)).alloc (.cells #[.slice none 0 0] 29) = X := ⟨_, rfl⟩
  have es : (w.alloc (.cells #[.slice none 0 0] 28)).heap.size = w.heap.size + 1 := by simp
  rw [es] at r5
  rw [hW6] at r4 r5 hB
  rw [hW6]
  obtain ⟨p4, hp4⟩ : ∃ X, w.heap.size = X := ⟨_, rfl⟩
  have n4 : w.heap.size ≤ p4 := by omega
  obtain ⟨p5, hp5⟩ : ∃ X, p4 + 1 = X := ⟨_, rfl⟩
  have d45 : p4 ≠ p5 := by omega
  have n5 : w.heap.size ≤ p5 := by omega
  rw [hp4, hp5] at r5
  rw [hp4] at r4
  rw [hp4, hp5]
  clear hW6 es h45
  replace hp4 := hid hp4
  replace hp5 := hid hp5
  have aX := alloc_new W6 (.cells #[.slice a len cap] 22)
  obtain ⟨W0, hW0⟩ : ∃ X, W6.alloc (.cells #[.slice a len cap] 22) = X := ⟨_, rfl⟩
  replace hW0 := hid hW0
  obtain ⟨Bx, hBx⟩ : ∃ X, W6.heap.size = X := ⟨_, rfl⟩
  have l4 := held_lt r4
  have l5 := held_lt r5
  rw [hBx] at l4 l5
  replace hBx := hid hBx
  rw [hW0.out, hBx.out] at aX
  obtain ⟨aX1, aX2, aX3⟩ := aX
  have s4 := hid (held_after aX2 r4)
  have s5 := hid (held_after aX2 r5)
  have hB1 := hid (bthen hB aX2)
  have hMw := hid hB1.out.size
  have lB := held_lt aX3
  have hLB : w.heap.size ≤ Bx := by omega
  have hT := hid (cut_tells a len cap nb zs w.heap.size Bx W0 hMw.out lB aX3 (hS0.out.below (hB1.out)) hbk.out hz.out hl hnb.out)
  clear aX1 aX2 aX3 r4 r5 hB
  go_wp2_with fail
  refine (cut_any a len cap _).mono ?_
  rintro e V ⟨rfl, rfl⟩
  rw [hW0.out, hBx.out]
  go_wp2_with fail
  refine wp_rangeFunc_box (gf := 35) (lb := #[.pointer (some ⟨Bx, 0, none⟩)]) rfl (enters_of Try.func35 (by kernel_rfl) rfl) hT.out (fun h k => kpZ_t h k) (fun W l o h => kpZ_b hMw.out lB W l o h) ?el (fun _ => rfl)
    (fun pre W => (∃ (oa : Option Addr) (oc : Nat), W.heap[p4]? = some (.cells #[.slice oa (acc37 pre).1.length oc] 28 (0, 0)) ∧ OwnE 65 W W0.heap.size 13 (.slice oa (acc37 pre).1.length oc) (acc37 pre).1.length (recsV (acc37 pre).1).flatten) ∧ (∃ (ba : Option Addr) (bc : Nat), W.heap[p5]? = some (.cells #[.slice ba (acc37 pre).2.length bc] 29 (0, 0)) ∧ Own .i64 3 W W0.heap.size (.slice ba (acc37 pre).2.length bc) (acc37 pre).2) ∧ ((acc37 pre).1.length ≤ 82 * pre.length ∧ (acc37 pre).2.length ≤ pre.length) ∧ Below w.heap.size w W ∧ W0.heap.size ≤ W.heap.size)
    (fun pre W => False)
    ?own ?ownx ?stays ?start (fun x => #[.int .i64 x.2.1, .int .u32 x.2.2.1, .slice x.2.2.2.1 x.2.2.2.2.2.length x.2.2.2.2.1]) 61 ?a1 ?ela ?kp ?assign ?body ?done ?stop
  case assign =>
    intro l9 i W K p W2 hp hW2 hK
    have e1 := hp.symm
    have e2 := hW2.symm
    clear hp hW2
    unfold enc37
    gi_wp2
    exact hK
  case el =>
    rintro x A B row ⟨h1, h2⟩ hg hr
    exact ⟨els_own h1 hg hr, h2⟩
  case ela =>
    rintro x A A2 ⟨h1, h2⟩ hA
    exact ⟨h1.below hA, h2⟩
  case kp =>
    rintro pre A A2 ⟨_, _, _, _, k8⟩ h
    exact kpZ_after h (Nat.le_trans hMw.out k8) (Nat.lt_of_lt_of_le lB k8)
  case own =>
    rintro pre A B row ⟨⟨oa, oc, k1, k2⟩, ⟨ba, bc, k3, k4⟩, k5, k7, k8⟩ hg hr
    exact ⟨⟨oa, oc, keeps_row k1 rfl hg hr, keeps_ownE k2 hg hr⟩, ⟨ba, bc, keeps_row k3 rfl hg hr, keeps_own k4 hg hr⟩, k5, keeps_below k7 hMw.out k7.size hg hr, Nat.le_trans k8 hg.size⟩
  case ownx =>
    intro pre A B row h
    exact h.elim
  case stays =>
    rintro pre A A2 ⟨⟨oa, oc, k1, k2⟩, ⟨ba, bc, k3, k4⟩, k5, k7, k8⟩ e
    exact ⟨⟨oa, oc, held_after e k1, k2.below e⟩, ⟨ba, bc, held_after e k3, k4.below e⟩, k5, bthen k7 e, Nat.le_trans k8 e.size⟩
  case start => exact ⟨⟨none, 0, s4.out, OwnE.nil _ _ _ _⟩, ⟨none, 0, s5.out, Own.nil _ _ _ _⟩, ⟨by simp [acc37], by simp [acc37]⟩, hB1.out, Nat.le_refl _⟩
  case stop =>
    intro D pre W hD hp h
    exact h.elim
  case done =>
    rintro D xs W hD hSx ⟨⟨oa, oc, r4, hO⟩, ⟨ba, bc, r5, hI⟩, hln, hB, hM⟩ hK
    rw [hSx] at r4 hO r5 hI
    clear hSx hln
    obtain ⟨⟨O, Bd⟩, hq⟩ : ∃ r, readS zs nb = r := ⟨_, rfl⟩
    rw [hq] at r4 hO r5 hI
    dsimp only at r4 hO r5 hI
    have m4 := held_cell r4 0 _ rfl
    have m5 := held_cell r5 0 _ rfl
    have hKd : W.drew.heap[D]? = some (.deferred (some [])) := hK
    have hO2 := hid ((ownE_put37 (hO.below (Below.refl _ W).drew) hKd (.deferred none)).base hMw.out)
    have hI2 := hid ((own_put (hI.below (Below.refl _ W).drew) hKd (.deferred none)).base hMw.out)
    have hB2 := hid (below_mark (W0 := W0) hB.drew hMw.out hD hKd)
    replace hKd := hid hKd
    replace hq := hid hq
    clear hO hI hB hK r4 r5 hM
    go_wp2_with fail
    go_region
    all_goals go_wp2_with fail
    all_goals refine marks_ret1 (v := .tuple #[.slice oa O.length oc, .slice ba Bd.length bc]) hKd.out ?_ (by rw [hq.out]; exact ⟨oa, oc, ba, bc, rfl, hO2.out, hI2.out, hB2.out⟩)
    all_goals simp [results, Try.results10, go_sem]
  case body =>
    rintro fl pre ⟨i, at_, no, xa, xc, l⟩ p W ⟨⟨oa, oc, r4, hO⟩, ⟨ba, bc, r5, hI⟩, ⟨hl1, hl2⟩, hB, hM⟩ ⟨hE, hl82, hlo, hi0, hi4⟩ hp rp hlen
    dsimp only at hE hl82 hlo hi0 hi4 rp ⊢
    apply wpIn_block
    have hsn := hid (acc37_snoc pre ((i, at_, no, xa, xc, l) : E37))
    obtain ⟨⟨O, Bd⟩, hq⟩ : ∃ r, acc37 pre = r := ⟨_, rfl⟩
    rw [hq] at hsn r4 hO r5 hI hl1 hl2
    dsimp only at r4 hO r5 hI hl1 hl2
    clear hq
    have hnb4 := hnb2.out
    have hplen := hid (show ∀ x : E37, (pre ++ [x]).length = pre.length + 1 from fun x => by rw [List.length_append]; rfl)
    obtain ⟨m, hm⟩ : ∃ z, l.length = z := ⟨_, rfl⟩
    rw [hm] at hE hl82 rp
    obtain ⟨on, hon⟩ : ∃ z, O.length = z := ⟨_, rfl⟩
    rw [hon] at r4 hO hl1
    obtain ⟨bn, hbn⟩ : ∃ z, Bd.length = z := ⟨_, rfl⟩
    rw [hbn] at r5 hI hl2
    replace hm := hid hm
    replace hon := hid hon
    replace hbn := hid hbn
    have x0 := held_cell rp 0 _ rfl
    have x1 := held_cell rp 1 _ rfl
    have x2 := held_cell rp 2 _ rfl
    have y4 := held_cell r4 0 _ rfl
    have y5 := held_cell r5 0 _ rfl
    have f4 := held_free r4 0
    have f5 := held_free r5 0
    have sM := hM
    by_cases hat : at_ < 0
    case pos =>
      have hst : acc37 (pre ++ [((i, at_, no, xa, xc, l) : E37)]) = (O, Bd ++ [i]) := by rw [hsn.out]; exact if_pos hat
      replace hst := hid hst
      have hAe := (alloc_new W (.cells #[.int .i64 i] 3)).2.1
      have hS1 := hid (Own.lit .i64 3 W [i] W.heap.size (Nat.le_refl _) (by unfold maxLen; simp) #[.int .i64 i] rfl).slf
      have k4 := held_after hAe r4
      have k5 := held_after hAe r5
      have hO2 := hid (hO.below hAe)
      have hI2 := hid (hI.below hAe)
      have hB2 := hid (bthen hB hAe)
      have sA := hAe.size
      have hMu := hid (Nat.le_trans hM sA)
      have kA2 := hid (keepsOthers_after hAe)
      have kZ2 := hid (kpZ_after (L := w.heap.size) (B := Bx) hAe (Nat.le_trans hMw.out hM) (Nat.lt_of_lt_of_le lB hM))
      have hla := hid (show Bd.length + [i].length ≤ 140737488355328 / 8 by rw [hbn.out, List.length_singleton]; omega)
      have hMv := hid hM
      clear hAe hO hI hB hM r4 r5 hE rp hp sA
      gi_wp2_with (first | (gi_at_builtin; refine wpListIn_app _ rfl (.tmp 15) (.tmp 17) 29 rfl W0.heap.size 3 .i64 8 intOf37 (.slice ba bn bc) Bd rfl hI2.out (some ⟨_, 0, none⟩) 1 [i] rfl hS1.out.2.2.2.2 (fun e => by cases e) hla.out (by omega) hMu.out ?_) | (refine wpListIn_plain rfl (fun K hK => wpIn_of_plain (by intro c e; cases e) ?_); go_simp; refine hK _ _ ?_; clear hK))
      intro a9 c9 w9 hI9 hG
      have hO9 := hid (ownE_kp hO2.out hI2.out hG (by decide))
      have j4 := held_grown k4 hG (own_ne hI2.out k4 (by decide))
      have j5 := held_grown k5 hG (own_ne hI2.out k5 (by decide))
      have kA9 := hid (kA2.out.trans (KeepsOthers.of_grownBy hG (fun j ob e hj => own_cells hI2.out e hj)))
      have kZ9 := hid (kpZ_t kZ2.out (kpZ_grown (L := w.heap.size) (B := Bx) hG (Nat.le_trans hMw.out hMu.out) (Nat.lt_of_lt_of_le lB hMu.out) (fun g e => by have := (hI2.out.lt g e).1; have := hMw.out; omega)))
      have hB9 := hid (hI2.out.grew hG hB2.out hMw.out (Nat.le_trans hMw.out hMu.out))
      have s9 := hid (Nat.le_trans hMu.out hG.size)
      have z9 := held_cell j5 0 _ rfl
      have g9 := held_free j5 0
      have hl9 : (Bd ++ [i]).length = Bd.length + 1 := by simp
      replace hI9 := hid hI9
      clear hG k4 k5 y4 y5 f4 f5 hS1 hO2 hI2 hB2 x0 x1 x2
      gi_wp2_with (refine wpListIn_plain rfl (fun K hK => wpIn_of_plain (by intro c e; cases e) ?_); go_simp; refine hK _ _ ?_; clear hK)
      refine ⟨kA9.out.trans (KeepsOthers.setCell _ _ _), kpZ_t kZ9.out (kpZ_set _ _ _ _ n5 (by omega)), ?_⟩
      dsimp only
      rw [hst.out]
      dsimp only
      refine ⟨⟨oa, oc, ?_, ?_⟩, ⟨a9, c9, ?_, ?_⟩, ⟨?_, ?_⟩, hB9.out.setCell (p := ⟨p5, 0, none⟩) n5 _, ?_⟩
      · rw [hon.out]; exact held_oth d45 j4
      · rw [hon.out]; exact hO9.out.kept (fun g hg => Below.heap_setCell w9 ⟨p5, 0, none⟩ _ g (fun e2 => by subst e2; exact (hO9.out.ne j5 (by decide)) hg))
      · rw [hl9]; exact held_set j5 0 _
      · rw [hl9]; exact hI9.out.oth j5 (by decide) 0 _
      · rw [hon.out, hplen.out]; omega
      · rw [hl9, hplen.out]; have := hbn.out; omega
      · refine Nat.le_trans s9.out (kpZ_set (L := 0) (B := p4) w9 p5 0 _ (by omega) (Ne.symm d45)).1
    have hst : acc37 (pre ++ [((i, at_, no, xa, xc, l) : E37)]) = (O ++ recsOf l, Bd) := by rw [hsn.out]; exact if_neg hat
    replace hst := hid hst
    have kR := hid (fun U h => resrec_any no xa m xc l U hm.out h (by omega) hlo)
    have r4d : W.drew.heap[p4]? = _ := r4
    have r5d : W.drew.heap[p5]? = _ := r5
    have hOd := hid (hO.below (Below.refl _ W).drew)
    have hId := hid (hI.below (Below.refl _ W).drew)
    have hBd := hid hB.drew
    have hEd := hid (hE.below (Below.refl _ W).drew)
    have rpd : W.drew.heap[p]? = _ := rp
    have dA := hid (show After W W.drew from (Below.refl _ W).drew)
    have hMd := hid hM
    clear hO hI hB hE r4 r5 rp x1 x2 y4 y5 f4 f5 hM
    gi_wp2
    refine wpIn_region_preI 4 2 (by kernel_rfl) (fun ⟨_, _, h⟩ => h) (by simp only [List.extract_toArray, List.extract_eq_take_drop, Nat.sub_zero, List.drop_zero, List.take_succ_cons, List.take_zero]; rfl) (by kernel_rfl) rfl (by kernel_rfl) ?_
    refine wpAnyR_take 0 rfl (by kernel_rfl) (by kernel_rfl) (by kernel_rfl) (fun _ _ _ _ h => by cases h.1) ⟨_, Or.inl ⟨by rfl, fun w2 hb2 => by (have hx := held_cell (held_after hb2 r4d) 0 _ rfl; go_simp; try with_reducible rfl)⟩, _, by (go_simp; try rfl), ?_⟩
    refine wpAnyR_take 1 rfl (by kernel_rfl) (by kernel_rfl) (by kernel_rfl) (fun _ _ _ _ h => by cases h.1) ⟨_, Or.inl ⟨by rfl, fun w2 hb2 => by (go_simp; try with_reducible rfl)⟩, _, by (go_simp; try rfl), ?_⟩
    refine wpAnyR_take 2 rfl (by kernel_rfl) (by kernel_rfl) (by kernel_rfl) (fun _ _ _ _ h => by cases h.1) ⟨_, Or.inl ⟨by rfl, fun w2 hb2 => by (have hr := held_after hb2 rpd; have hx1 := held_cell hr 1 _ rfl; have hx2 := held_cell hr 2 _ rfl; go_simp; try with_reducible rfl)⟩, _, by (go_simp; try rfl), ?_⟩
    refine wpAnyR_only 3 rfl (by kernel_rfl) (by rfl) (fun K hK => ?_)
    go_simp
    refine (kR.out _ hEd.out).mono ?_
    rintro e V5 ⟨ra, rc, rfl, hOr, hA5⟩
    go_simp
    refine hK _ _ ⟨hA5, ?_⟩
    clear hK
    refine wpAnyR_done (by kernel_rfl) ?_ _
    refine ⟨rfl, ?_⟩
    rw [recsOf_len, hm.out] at hOr
    try rw [recsOf_len, hm.out]
    have hEr := hid (hOr.els (by rw [recsV_len, recsOf_len, hm.out]) (recsV_m (recsOf_ok hlo)))
    have k4 := held_after hA5 r4d
    have k5 := held_after hA5 r5d
    have hO2 := hid (hOd.out.below hA5)
    have hI2 := hid (hId.out.below hA5)
    have hB2 := hid (bthen hBd.out hA5)
    have aD := bthen dA.out hA5
    have kA2 := hid (keepsOthers_after aD)
    have kZ2 := hid (kpZ_after (L := w.heap.size) (B := Bx) aD (Nat.le_trans hMw.out hMd.out) (Nat.lt_of_lt_of_le lB hMd.out))
    have hMu := hid (Nat.le_trans hMd.out aD.size)
    clear hOd hId hBd hEd rpd r4d r5d dA aD hA5 hOr
    refine Seg.only (m := 4) (k := 1) rfl (by kernel_rfl) (by rfl) (fun K hK => ?_)
    refine wp_appE (.tmp 19) (.tmp 22) 28 rfl W0.heap.size 65 13 52 recO (by decide) (.slice oa on oc) on (recsV O).flatten rfl hO2.out ra m rc (recsV (recsOf l)) rfl hEr.out (recs_one _) (by unfold maxLen; omega) (by omega) hMu.out ?_
    intro a9 c9 w9 hO9 hG hN
    have hI9 := hid (own_kpE2 hI2.out hO2.out hG (by decide))
    have j4 := (hG.block p4 (held_lt k4) (fun e2 => hO2.out.ne k4 (by decide) e2.symm)).trans k4
    have j5 := (hG.block p5 (held_lt k5) (fun e2 => hO2.out.ne k5 (by decide) e2.symm)).trans k5
    have kA9 := hid (kA2.out.trans (KeepsOthers.of_grownBy hG (fun j ob e hj => ownE_cells hO2.out e hj)))
    have kZ9 := hid (kpZ_t kZ2.out (kpZ_grown (L := w.heap.size) (B := Bx) hG (Nat.le_trans hMw.out hMu.out) (Nat.lt_of_lt_of_le lB hMu.out) (fun g e => by have := (hO2.out.lt g e).1; have := hMw.out; omega)))
    have hB9 := hid (hB2.out.grown hG (Nat.le_trans hMw.out hMu.out) (fun g e => Nat.le_trans hMw.out (hO2.out.lt g e).1))
    have s9 := hid (Nat.le_trans hMu.out hG.size)
    have z9 := held_cell j4 0 _ rfl
    have g9 := held_free j4 0
    have e9 : (recsV O).flatten ++ (recsV (recsOf l)).flatten = (recsV (O ++ recsOf l)).flatten := by simp [recsV]
    rw [e9] at hO9
    have hl9 : (O ++ recsOf l).length = on + m := by rw [List.length_append, recsOf_len, hon.out, hm.out]
    replace hO9 := hid hO9
    clear hG hN k4 k5 hO2 hI2 hB2 hEr e9
    refine hK _ _ ?_
    clear hK
    refine Seg.only (m := 5) (k := 0) rfl (by kernel_rfl) (by rfl) (fun K hK => ?_)
    go_simp
    refine hK _ _ (Seg.finish ?_ _)
    clear hK
    gi_wp2
    refine ⟨kA9.out.trans (KeepsOthers.setCell _ _ _), kpZ_t kZ9.out (kpZ_set _ _ _ _ n4 (by omega)), ?_⟩
    dsimp only
    rw [hst.out]
    dsimp only
    refine ⟨⟨a9, c9, ?_, ?_⟩, ⟨ba, bc, ?_, ?_⟩, ⟨?_, ?_⟩, hB9.out.setCell (p := ⟨p4, 0, none⟩) n4 _, ?_⟩
    · rw [hl9]; exact held_set j4 0 _
    · rw [hl9]; exact hO9.out.kept (fun g hg => Below.heap_setCell w9 ⟨p4, 0, none⟩ _ g (fun e2 => by subst e2; exact (hO9.out.ne j4 (by decide)) hg))
    · rw [hbn.out]; exact held_oth (Ne.symm d45) j5
    · rw [hbn.out]; exact hI9.out.oth j4 (by decide) 0 _
    · rw [hl9, hplen.out]; omega
    · rw [hbn.out, hplen.out]; omega
    · refine Nat.le_trans s9.out (kpZ_set (L := 0) (B := p5) w9 p4 0 _ (by omega) d45).1

end Go.Proofs.Ytlfbhfmchdbnoaa
