/- Rows of fields: pens and eyes that no call made. -/
import Derived.Test.YtelffhelelbfiaaDoorRow
import Derived.Test.YtelffhelelbfiaaDoorDec3
import Derived.Test.YtelffhelelbfiaaDoorDec9
import Derived.Deep.DeepCutAuto
namespace Go.Proofs.YtelffhelelbfiaaDoor
open Go.ChangeShapes Go.WideShapes Go.ChangeAt Go.RowKit
set_option linter.unusedVariables false
set_option linter.unusedSimpArgs false

/-- A pointer to nothing, or to what no call made. -/
def Bad23 (T : TypeId) (p : Option Addr) (w : World) : Prop := p = none ∨ ∃ B, p = some ⟨B, 0, none⟩ ∧ w.heap[B]? = some (.cells #[.bool false, .int .i64 0, .slice none 0 0] T (0, 0))
theorem Bad23.aft {T : TypeId} {p : Option Addr} {w w' : World} (h : Bad23 T p w) (hA : After w w') : Bad23 T p w' := by
  rcases h with rfl | ⟨B, rfl, hB⟩
  · exact .inl rfl
  · exact .inr ⟨B, rfl, held_after hA hB⟩
theorem p23bad (p : Option Addr) (w : World) (h : Bad23 58 p w) : Calls Tryd.prog 45 #[.pointer p] w fun r w' => r = .returned (.bool false) ∧ w' = w := by
  rcases h with rfl | ⟨B, rfl, hB⟩
  · exact p23right_nil w
  · exact p23right B false _ _ w hB
theorem e23bad (p : Option Addr) (w : World) (h : Bad23 59 p w) : Calls Tryd.prog 47 #[.pointer p] w fun r w' => r = .returned (.bool false) ∧ w' = w := by
  rcases h with rfl | ⟨B, rfl, hB⟩
  · exact e23right_nil w
  · exact e23right B false _ _ w hB
set_option maxRecDepth 100000 in
set_option maxHeartbeats 2000000 in
theorem ptext_bad (p : Option Addr) (s : ByteArray) (x : Int) (w : World) (h : Bad23 58 p w) : Calls Tryd.prog 23 #[.pointer p, .string s, .int .i64 x] w fun r w' => r = .returned (.tuple #[]) ∧ w' = w := by
  have kr := hid (p23bad p w h)
  clear h
  go_enter Tryd.func23, Tryd.ntmps23
  go_wp2_with fail
  refine (kr.out).mono ?_
  rintro r V ⟨rfl, hv⟩
  obtain rfl : w = V := hv.symm
  go_wp2_with fail
  first | go_end0 | refine bodyPost_ret (results_none rfl _ _ _) rfl ?_
  exact ⟨rfl, rfl⟩
set_option maxRecDepth 100000 in
set_option maxHeartbeats 2000000 in
theorem pdone_bad (p : Option Addr)  (w : World) (h : Bad23 58 p w) : Calls Tryd.prog 25 #[.pointer p] w fun r w' => r = .returned (.tuple #[.slice none 0 0, .int .i64 1]) ∧ w' = w := by
  have kr := hid (p23bad p w h)
  clear h
  go_enter Tryd.func25, Tryd.ntmps25
  go_wp2_with fail
  refine (kr.out).mono ?_
  rintro r V ⟨rfl, hv⟩
  obtain rfl : w = V := hv.symm
  go_wp2_with fail
  go_ret2
  exact ⟨rfl, rfl⟩
set_option maxRecDepth 100000 in
set_option maxHeartbeats 2000000 in
theorem efail_bad (p : Option Addr) (x : Int) (w : World) (h : Bad23 59 p w) : Calls Tryd.prog 24 #[.pointer p, .int .i64 x] w fun r w' => r = .returned (.tuple #[]) ∧ w' = w := by
  have kr := hid (e23bad p w h)
  clear h
  go_enter Tryd.func24, Tryd.ntmps24
  go_wp2_with fail
  refine (kr.out).mono ?_
  rintro r V ⟨rfl, hv⟩
  obtain rfl : w = V := hv.symm
  go_wp2_with fail
  go_end0
  exact ⟨rfl, rfl⟩
set_option maxRecDepth 100000 in
set_option maxHeartbeats 2000000 in
theorem etext_bad (p : Option Addr)  (w : World) (h : Bad23 59 p w) : Calls Tryd.prog 28 #[.pointer p] w fun r w' => r = .returned (.string ⟨#[]⟩) ∧ w' = w := by
  have kr := hid (e23bad p w h)
  clear h
  go_enter Tryd.func28, Tryd.ntmps28
  go_wp2_with fail
  refine (kr.out).mono ?_
  rintro r V ⟨rfl, hv⟩
  obtain rfl : w = V := hv.symm
  go_wp2_with fail
  go_ret
  exact ⟨rfl, rfl⟩
set_option maxRecDepth 100000 in
set_option maxHeartbeats 2000000 in
theorem eleft_bad (p : Option Addr)  (w : World) (h : Bad23 59 p w) : Calls Tryd.prog 29 #[.pointer p] w fun r w' => r = .returned (.int .i64 0) ∧ w' = w := by
  have kr := hid (e23bad p w h)
  clear h
  go_enter Tryd.func29, Tryd.ntmps29
  go_wp2_with fail
  refine (kr.out).mono ?_
  rintro r V ⟨rfl, hv⟩
  obtain rfl : w = V := hv.symm
  go_wp2_with fail
  go_ret
  exact ⟨rfl, rfl⟩
set_option maxRecDepth 100000 in
set_option maxHeartbeats 2000000 in
theorem eerr_bad (p : Option Addr)  (w : World) (h : Bad23 59 p w) : Calls Tryd.prog 30 #[.pointer p] w fun r w' => r = .returned (.int .i64 1) ∧ w' = w := by
  have kr := hid (e23bad p w h)
  clear h
  go_enter Tryd.func30, Tryd.ntmps30
  go_wp2_with fail
  refine (kr.out).mono ?_
  rintro r V ⟨rfl, hv⟩
  obtain rfl : w = V := hv.symm
  go_wp2_with fail
  go_ret
  exact ⟨rfl, rfl⟩
set_option maxRecDepth 100000 in
set_option maxHeartbeats 4000000 in
theorem pnum_bad (p : Option Addr) (is : Bool) (m W M F lo hi : Int) (w : World) (hP : Bad23 58 p w) (hm : (-9223372036854775808 ≤ m ∧ m ≤ 9223372036854775807)) (hlb : (-9223372036854775808 ≤ lo ∧ lo ≤ 9223372036854775807) ∧ (-9223372036854775808 ≤ hi ∧ hi ≤ 9223372036854775807)) (hT : Tab w) : Calls Tryd.prog 21 #[.pointer p, .agg #[.bool is, .int .i64 m], .agg #[.int .i64 W, .int .i64 M, .int .i64 F, .int .i64 lo, .int .i64 hi]] w fun r w' => r = .returned (.tuple #[]) ∧ After w w' := by
  obtain ⟨⟨PL, x⟩, hpd⟩ : ∃ r, putD is m W M F lo hi = r := ⟨_, rfl⟩
  have kP := hid (fun U (h : Tab U) => hpd ▸ put23_any is m W M F lo hi U hm hlb h)
  dsimp only at kP
  generalize nb PL = TX at *
  clear hpd hm hlb
  have kt := hid (fun U (h : Bad23 58 p U) => ptext_bad p TX x U h)
  replace hP := hid hP
  replace hT := hid hT
  go_enter Tryd.func21, Tryd.ntmps21
  go_upto_region 0 with (fail)
  apply wp_region_seg0 (w := w) (S := [.al 1000, .al 1000]) (E := [.al ((fun p => .pointer (some ⟨p, 0, none⟩)), _) 1000, .al ((fun p => .pointer (some ⟨p, 0, none⟩)), _) 1000]) rfl (by kernel_rfl) rfl rfl
  intro th hge hne
  refine Seg.step _ rfl ⟨by rfl, fun U hU => ?_⟩ ?_
  · go_simp; exact vp_alloc rfl rfl rfl
  refine ⟨_, by (simp only [Ent.val]; go_simp <;> exact rfl), ?_⟩
  refine Seg.step _ rfl ⟨by rfl, fun U hU => ?_⟩ ?_
  · go_simp; exact vp_alloc rfl rfl rfl
  refine ⟨_, by (simp only [Ent.val]; go_simp <;> exact rfl), ?_⟩
  refine Seg.stop (fun U1 hU hk => ?_)
  have nb0 := hge 0 _ _ rfl
  have rb0 := (hk 0 _ _ rfl trivial).1.2 (by simp)
  have nb1 := hge 1 _ _ rfl
  have rb1 := (hk 1 _ _ rfl trivial).1.2 (by simp)
  have ne0_1 := hne 0 1 _ _ _ _ rfl rfl (by omega)
  clear hk hge hne
  generalize th (0 + 0) = p0_0 at *
  dsimp only at rb0
  generalize th (0 + 1) = p0_1 at *
  dsimp only at rb1
  have r_p0_0 := rb0
  clear rb0
  have n_p0_0 := nb0
  clear nb0
  have d_p0_0_p0_1 := ne0_1
  clear ne0_1
  have r_p0_1 := rb1
  clear rb1
  have n_p0_1 := nb1
  clear nb1
  have sz1 := hU.size
  have hB : Below w.heap.size w U1 := hU
  clear hU
  replace hP := hid (hP.out.aft hB)
  replace hT := hid (hT.out.on hB)
  have x0 := held_cell r_p0_0 0 _ rfl
  have x1 := held_cell r_p0_0 1 _ rfl
  have y0 := held_cell r_p0_1 0 _ rfl
  have y1 := held_cell r_p0_1 1 _ rfl
  have y2 := held_cell r_p0_1 2 _ rfl
  have y3 := held_cell r_p0_1 3 _ rfl
  have y4 := held_cell r_p0_1 4 _ rfl
  clear r_p0_0 r_p0_1 n_p0_0 n_p0_1 d_p0_0_p0_1
  replace hB := hid hB
  go_wp2_with fail
  refine (kP.out _ hT.out).mono ?_
  rintro r V ⟨rfl, hA⟩
  replace hP := hid (hP.out.aft hA)
  replace hB := hid (bthen hB.out hA)
  clear hA hT x0 x1 y0 y1 y2 y3 y4
  go_wp2_with fail
  refine (kt.out _ hP.out).mono ?_
  rintro r V2 ⟨rfl, hv⟩
  obtain rfl : V = V2 := hv.symm
  go_wp2_with fail
  go_end0
  exact ⟨rfl, hB.out⟩
set_option maxRecDepth 100000 in
set_option maxHeartbeats 4000000 in
theorem pang_bad (p : Option Addr) (is : Bool) (m : Int) (lat : Bool) (w : World) (hP : Bad23 58 p w) (hm : (-9223372036854775808 ≤ m ∧ m ≤ 9223372036854775807)) (hT : Tab w) : Calls Tryd.prog 22 #[.pointer p, .agg #[.bool is, .int .i64 m], .bool lat] w fun r w' => r = .returned (.tuple #[]) ∧ After w w' := by
  obtain ⟨⟨PA, PB, x⟩, hpd⟩ : ∃ r, angD is m lat = r := ⟨_, rfl⟩
  have kP := hid (fun U (h : Tab U) => hpd ▸ angle_any is m lat U hm h)
  dsimp only at kP
  generalize nb PA = TX at *
  generalize nb PB = TY at *
  clear hpd hm
  have kt := hid (fun U (h : Bad23 58 p U) => ptext_bad p TX x U h)
  have ku := hid (fun U (h : Bad23 58 p U) => ptext_bad p TY 0 U h)
  replace hP := hid hP
  replace hT := hid hT
  go_enter Tryd.func22, Tryd.ntmps22
  go_upto_region 0 with (fail)
  apply wp_region_seg0 (w := w) (S := [.al 1000]) (E := [.al ((fun p => .pointer (some ⟨p, 0, none⟩)), _) 1000]) rfl (by kernel_rfl) rfl rfl
  intro th hge hne
  refine Seg.step _ rfl ⟨by rfl, fun U hU => ?_⟩ ?_
  · go_simp; exact vp_alloc rfl rfl rfl
  refine ⟨_, by (simp only [Ent.val]; go_simp <;> exact rfl), ?_⟩
  refine Seg.stop (fun U1 hU hk => ?_)
  have nb0 := hge 0 _ _ rfl
  have rb0 := (hk 0 _ _ rfl trivial).1.2 (by simp)
  clear hk hge hne
  generalize th (0 + 0) = p0_0 at *
  dsimp only at rb0
  have r_p0_0 := rb0
  clear rb0
  have n_p0_0 := nb0
  clear nb0
  have sz1 := hU.size
  have hB : Below w.heap.size w U1 := hU
  clear hU
  replace hP := hid (hP.out.aft hB)
  replace hT := hid (hT.out.on hB)
  have x0 := held_cell r_p0_0 0 _ rfl
  have x1 := held_cell r_p0_0 1 _ rfl
  clear r_p0_0 n_p0_0
  replace hB := hid hB
  go_wp2_with fail
  refine (kP.out _ hT.out).mono ?_
  rintro r V ⟨rfl, hA⟩
  replace hP := hid (hP.out.aft hA)
  replace hB := hid (bthen hB.out hA)
  clear hA hT x0 x1
  go_wp2_with fail
  refine (kt.out _ hP.out).mono ?_
  rintro r V2 ⟨rfl, hv⟩
  obtain rfl : V = V2 := hv.symm
  go_wp2_with fail
  refine (ku.out _ hP.out).mono ?_
  rintro r V2 ⟨rfl, hv⟩
  obtain rfl : V = V2 := hv.symm
  go_wp2_with fail
  go_end0
  exact ⟨rfl, hB.out⟩
set_option maxRecDepth 100000 in
set_option maxHeartbeats 4000000 in
theorem enum_bad (p : Option Addr) (W M F lo hi : Int) (w : World) (hP : Bad23 59 p w) : Calls Tryd.prog 26 #[.pointer p, .agg #[.int .i64 W, .int .i64 M, .int .i64 F, .int .i64 lo, .int .i64 hi]] w fun r w' => r = .returned (.agg #[.bool false, .int .i64 0]) ∧ After w w' := by
  have kr := hid (fun U (h : Bad23 59 p U) => e23bad p U h)
  replace hP := hid hP
  go_enter Tryd.func26, Tryd.ntmps26
  go_upto_region 0 with (fail)
  apply wp_region_seg0 (w := w) (S := [.al 1000, .al 1000]) (E := [.al ((fun p => .pointer (some ⟨p, 0, none⟩)), _) 1000, .al ((fun p => .pointer (some ⟨p, 0, none⟩)), _) 1000]) rfl (by kernel_rfl) rfl rfl
  intro th hge hne
  refine Seg.step _ rfl ⟨by rfl, fun U hU => ?_⟩ ?_
  · go_simp; exact vp_alloc rfl rfl rfl
  refine ⟨_, by (simp only [Ent.val]; go_simp <;> exact rfl), ?_⟩
  refine Seg.step _ rfl ⟨by rfl, fun U hU => ?_⟩ ?_
  · go_simp; exact vp_alloc rfl rfl rfl
  refine ⟨_, by (simp only [Ent.val]; go_simp <;> exact rfl), ?_⟩
  refine Seg.stop (fun U1 hU hk => ?_)
  have nb0 := hge 0 _ _ rfl
  have rb0 := (hk 0 _ _ rfl trivial).1.2 (by simp)
  have nb1 := hge 1 _ _ rfl
  have rb1 := (hk 1 _ _ rfl trivial).1.2 (by simp)
  have ne0_1 := hne 0 1 _ _ _ _ rfl rfl (by omega)
  clear hk hge hne
  generalize th (0 + 0) = p0_0 at *
  dsimp only at rb0
  generalize th (0 + 1) = p0_1 at *
  dsimp only at rb1
  have r_p0_0 := rb0
  clear rb0
  have n_p0_0 := nb0
  clear nb0
  have d_p0_0_p0_1 := ne0_1
  clear ne0_1
  have r_p0_1 := rb1
  clear rb1
  have n_p0_1 := nb1
  clear nb1
  have sz1 := hU.size
  have hB : Below w.heap.size w U1 := hU
  clear hU
  replace hP := hid (hP.out.aft hB)
  have z0 := held_cell r_p0_1 0 _ rfl
  have z1 := held_cell r_p0_1 1 _ rfl
  have g0 := held_free r_p0_1 0
  have g1 := held_free r_p0_1 1
  obtain ⟨W9, hW9, ya, yO⟩ := st2 r_p0_1 (.bool false) (.int .i64 0)
  have hB9 := hid (belowS hB yO (by omega))
  have ez0 := held_cell ya 0 _ rfl
  have ez1 := held_cell ya 1 _ rfl
  clear ya yO r_p0_1 hB
  go_wp2_with fail
  refine (kr.out _ hP.out).mono ?_
  rintro r V ⟨rfl, hv⟩
  obtain rfl : U1 = V := hv.symm
  go_wp2_with fail
  refine bodyPost_ret (v := .agg #[.bool false, .int .i64 0]) (by simp [results, Tryd.results26, go_sem, ez0, ez1]) rfl ⟨rfl, hB9.out⟩
set_option maxRecDepth 100000 in
set_option maxHeartbeats 4000000 in
theorem eang_bad (p : Option Addr) (lat : Bool) (w : World) (hP : Bad23 59 p w) : Calls Tryd.prog 27 #[.pointer p, .bool lat] w fun r w' => r = .returned (.agg #[.bool false, .int .i64 0]) ∧ After w w' := by
  have kr := hid (fun U (h : Bad23 59 p U) => e23bad p U h)
  replace hP := hid hP
  go_enter Tryd.func27, Tryd.ntmps27
  go_upto_region 0 with (fail)
  apply wp_region_seg0 (w := w) (S := [.al 1000]) (E := [.al ((fun p => .pointer (some ⟨p, 0, none⟩)), _) 1000]) rfl (by kernel_rfl) rfl rfl
  intro th hge hne
  refine Seg.step _ rfl ⟨by rfl, fun U hU => ?_⟩ ?_
  · go_simp; exact vp_alloc rfl rfl rfl
  refine ⟨_, by (simp only [Ent.val]; go_simp <;> exact rfl), ?_⟩
  refine Seg.stop (fun U1 hU hk => ?_)
  have nb0 := hge 0 _ _ rfl
  have rb0 := (hk 0 _ _ rfl trivial).1.2 (by simp)
  clear hk hge hne
  generalize th (0 + 0) = p0_0 at *
  dsimp only at rb0
  have r_p0_0 := rb0
  clear rb0
  have n_p0_0 := nb0
  clear nb0
  have sz1 := hU.size
  have hB : Below w.heap.size w U1 := hU
  clear hU
  replace hP := hid (hP.out.aft hB)
  have z0 := held_cell r_p0_0 0 _ rfl
  have z1 := held_cell r_p0_0 1 _ rfl
  have g0 := held_free r_p0_0 0
  have g1 := held_free r_p0_0 1
  obtain ⟨W9, hW9, ya, yO⟩ := st2 r_p0_0 (.bool false) (.int .i64 0)
  have hB9 := hid (belowS hB yO (by omega))
  have ez0 := held_cell ya 0 _ rfl
  have ez1 := held_cell ya 1 _ rfl
  clear ya yO r_p0_0 hB
  go_wp2_with fail
  refine (kr.out _ hP.out).mono ?_
  rintro r V ⟨rfl, hv⟩
  obtain rfl : U1 = V := hv.symm
  go_wp2_with fail
  refine bodyPost_ret (v := .agg #[.bool false, .int .i64 0]) (by simp [results, Tryd.results27, go_sem, ez0, ez1]) rfl ⟨rfl, hB9.out⟩

end Go.Proofs.YtelffhelelbfiaaDoor
