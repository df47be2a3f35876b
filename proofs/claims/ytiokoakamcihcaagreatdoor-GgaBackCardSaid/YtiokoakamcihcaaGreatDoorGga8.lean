/- Package gga: knows. -/
import Derived.Test.YtiokoakamcihcaaGreatDoorGga7
import Derived.Test.YtiokoakamcihcaaGreatDoorGga3
import Derived.Laws.StructEq
import Derived.Deep.DeepCutAuto
namespace Go.Proofs.YtiokoakamcihcaaGreatDoor
open Go.ChangeShapes Go.WideShapes Go.ChangeAt Go.RowKit
set_option linter.unusedVariables false
set_option linter.unusedSimpArgs false

set_option maxRecDepth 100000 in
set_option maxHeartbeats 8000000 in
theorem ktake25 (w : World) (a : Option Addr) (hEl : Els w 1 a 14 14 (strV23 [⟨#[]⟩, ⟨#[]⟩, ⟨#[]⟩, ⟨#[]⟩, ⟨#[]⟩, ⟨#[48]⟩, ⟨#[]⟩, ⟨#[]⟩, ⟨#[]⟩, ⟨#[]⟩, ⟨#[]⟩, ⟨#[]⟩, ⟨#[]⟩, ⟨#[]⟩])) : Calls Tryz.prog 12 #[.slice a 14 14] w fun r w' => r = .returned (.tuple #[.agg #[.bool false, .int .i64 0, .int .i64 0, .int .i64 0, .int .i64 0, .bool false, .int .i64 0, .bool false, .int .i64 0, .int .i64 0, .bool false, .int .i64 0, .bool false, .int .i64 0, .bool false, .int .i64 0, .bool false, .int .i64 0, .bool false, .int .i64 0, .bool false, .int .i64 0], .int .i64 0]) ∧ After w w' := by
  have hV : takeV (sb ⟨#[]⟩) = .tuple #[.agg #[.bool false, .int .i64 0, .int .i64 0, .int .i64 0, .int .i64 0], .int .i64 0] := by rfl
  have h1 : ∀ lat, tkaD ⟨#[]⟩ ⟨#[]⟩ lat = (false, 0, 0) := fun lat => rfl
  have h3 : dgS ⟨#[48]⟩ 0 8 = (0, 0) := by decide +kernel
  have hN : takD ⟨#[]⟩ 1 2 0 0 99 = (false, 0, 0) ∧ takD ⟨#[]⟩ 1 3 2 0 99999 = (false, 0, 0) ∧ takD ⟨#[]⟩ 1 6 1 (-9999999) 9999999 = (false, 0, 0) ∧ takD ⟨#[]⟩ 1 4 1 (-99999) 99999 = (false, 0, 0) ∧ takD ⟨#[]⟩ 1 4 1 0 99999 = (false, 0, 0) ∧ takD ⟨#[]⟩ 1 4 0 0 1023 = (false, 0, 0) := by decide +kernel
  obtain ⟨n1, n2, n3, n4, n5, n6⟩ := hN
  have hE : kE [0, 0, 0, 0, 0, 0, 0, (unE ⟨#[]⟩ ⟨#[77]⟩ false), 0, (unE ⟨#[]⟩ ⟨#[77]⟩ false), 0, 0] = 0 := by decide +kernel
  have k1 := gtake_any ⟨#[]⟩ ⟨#[]⟩ ⟨#[]⟩ ⟨#[]⟩ ⟨#[]⟩ ⟨#[48]⟩ ⟨#[]⟩ ⟨#[]⟩ ⟨#[]⟩ ⟨#[]⟩ ⟨#[]⟩ ⟨#[]⟩ ⟨#[]⟩ ⟨#[]⟩ hV (h1 _) (h1 _) h3 n1 n2 n3 n4 n5 n6 hE w a 14 hEl (by decide +kernel)
  unfold ggR at k1
  rw [if_pos rfl] at k1
  exact k1
set_option maxRecDepth 100000 in
set_option maxHeartbeats 8000000 in
theorem kput25 (U : World) (h : Tab U) : Calls Tryz.prog 6 #[.agg #[.bool false, .int .i64 0, .int .i64 0, .int .i64 0, .int .i64 0, .bool false, .int .i64 0, .bool false, .int .i64 0, .int .i64 0, .bool false, .int .i64 0, .bool false, .int .i64 0, .bool false, .int .i64 0, .bool false, .int .i64 0, .bool false, .int .i64 0, .bool false, .int .i64 0]] U fun r w' => DnOk U 0 [⟨#[]⟩, ⟨#[]⟩, ⟨#[]⟩, ⟨#[]⟩, ⟨#[]⟩, ⟨#[48]⟩, ⟨#[]⟩, ⟨#[]⟩, ⟨#[]⟩, ⟨#[]⟩, ⟨#[]⟩, ⟨#[]⟩, ⟨#[]⟩, ⟨#[]⟩] r w' := by
  have hL : fL (ggI ⟨#[]⟩ 0 false 0 false 0 0 false 0 false 0 false 0 false 0 false 0 false 0) = [⟨#[]⟩, ⟨#[]⟩, ⟨#[]⟩, ⟨#[]⟩, ⟨#[]⟩, ⟨#[48]⟩, ⟨#[]⟩, ⟨#[]⟩, ⟨#[]⟩, ⟨#[]⟩, ⟨#[]⟩, ⟨#[]⟩, ⟨#[]⟩, ⟨#[]⟩] := by decide +kernel
  have hE0 : fE (ggI ⟨#[]⟩ 0 false 0 false 0 0 false 0 false 0 false 0 false 0 false 0 false 0) = 0 := by decide +kernel
  have k2 := gput_any false 0 0 0 0 false 0 false 0 0 false 0 false 0 false 0 false 0 false 0 false 0 ⟨#[]⟩ 0 (by rfl) U (by decide) h
  rw [hL, hE0] at k2
  exact k2
set_option maxRecDepth 100000 in
set_option maxHeartbeats 8000000 in
theorem knows25_any (w : World) (hT : Tab w) : Calls Tryz.prog 10 #[] w fun e w' => e = .returned (.bool true) ∧ After w w' := by
  have k1 := hid (fun (U : World) p (h : U.heap[p]? = some (.cells #[.string ⟨#[]⟩, .string ⟨#[]⟩, .string ⟨#[]⟩, .string ⟨#[]⟩, .string ⟨#[]⟩, .string ⟨#[48]⟩, .string ⟨#[]⟩, .string ⟨#[]⟩, .string ⟨#[]⟩, .string ⟨#[]⟩, .string ⟨#[]⟩, .string ⟨#[]⟩, .string ⟨#[]⟩, .string ⟨#[]⟩] 9 (0, 0))) => ktake25 U (some ⟨p, 0, none⟩) (els_row23 [⟨#[]⟩, ⟨#[]⟩, ⟨#[]⟩, ⟨#[]⟩, ⟨#[]⟩, ⟨#[48]⟩, ⟨#[]⟩, ⟨#[]⟩, ⟨#[]⟩, ⟨#[]⟩, ⟨#[]⟩, ⟨#[]⟩, ⟨#[]⟩, ⟨#[]⟩] U p 14 _ rfl (by decide) rfl h))
  have k2 := hid (fun U (h : Tab U) => kput25 U h)
  replace hT := hid hT
  go_enter Tryz.func10, Tryz.ntmps10
  go_upto_region 0 with (fail)
  go_upto_region 1 with (fail)
  apply wp_region_seg0 (w := w) (S := [.al 1000, .q [], .q [], .q [], .q [], .al 6, .st 5 [], .q []]) (E := [.al ((fun p => .slice (some ⟨p, 0, none⟩) 14 14), _) 1000, .c0 _, .q0 _, .q0 _, .q0 _, .al ((fun p => .pointer (some ⟨p, 0, none⟩)), _) 6, .s0 5 (.cells _ _), .q0 _]) rfl (by kernel_rfl) rfl rfl
  intro th hge hne
  refine Seg.step _ rfl ⟨by rfl, fun U hU => ?_⟩ ?_
  · go_simp; exact vp_alloc rfl rfl rfl
  refine ⟨_, by (simp only [Ent.val]; go_simp <;> exact rfl), ?_⟩
  refine Seg.step _ rfl (Or.inl ⟨by rfl, fun U hU => ?_⟩) ?_
  · go_simp
    refine vp_call (k1.out _ _ ((hU.2.1 0 _ _ rfl (by decide)).1.2 (by simp)))
  refine ⟨_, by (simp only [Ent.val]; go_simp <;> exact rfl), ?_⟩
  refine Seg.step _ rfl (Or.inl ⟨by rfl, fun U hU => vp_quiet (by (go_simp <;> exact rfl))⟩) ⟨_, by (simp only [Ent.val]; go_simp <;> exact rfl), ?_⟩
  refine Seg.step _ rfl (Or.inl ⟨by rfl, fun U hU => vp_quiet (by (go_simp <;> exact rfl))⟩) ⟨_, by (simp only [Ent.val]; go_simp <;> exact rfl), ?_⟩
  refine Seg.step _ rfl (Or.inl ⟨by rfl, fun U hU => vp_quiet (by (go_simp <;> exact rfl))⟩) ⟨_, by (simp only [Ent.val]; go_simp <;> exact rfl), ?_⟩
  refine Seg.step _ rfl ⟨by rfl, fun U hU => ?_⟩ ?_
  · go_simp; exact vp_alloc rfl rfl rfl
  refine ⟨_, by (simp only [Ent.val]; go_simp <;> exact rfl), ?_⟩
  refine Seg.step _ rfl ⟨by rfl, fun U z k hz hU hc => ?_⟩ ?_
  · have hz2 := Option.some.inj hz
    cases hz2; clear hz
    exact vp_store_agg _ _ _ rfl hc rfl rfl (by kernel_rfl) rfl (by rfl)
  refine ⟨_, by (simp only [Ent.val]; go_simp <;> exact rfl), ?_⟩
  refine Seg.step _ rfl (Or.inl ⟨by rfl, fun U hU => vp_quiet (by (go_simp <;> exact rfl))⟩) ⟨_, by (simp only [Ent.val]; go_simp <;> exact rfl), ?_⟩
  refine Seg.stop (fun U1 hU hk => ?_)
  have nb0 := hge 0 _ _ rfl
  have rb0 := (hk 0 _ _ rfl trivial).1.2 (by simp)
  have nb5 := hge 5 _ _ rfl
  have rb5 := (hk 5 _ 6 rfl trivial).1.1 trivial _ (Nat.zero_le _) rfl
  have ne0_5 := hne 0 5 _ _ _ _ rfl rfl (by omega)
  clear hk hge hne
  generalize th (0 + 0) = p1_0 at *
  dsimp only at rb0
  generalize th (0 + 5) = p1_5 at *
  simp only [Ent.obj] at rb5
  have r_p1_0 := rb0
  clear rb0
  have n_p1_0 := nb0
  clear nb0
  have d_p1_0_p1_5 := ne0_5
  clear ne0_5
  have r_p1_5 := rb5
  clear rb5
  have n_p1_5 := nb5
  clear nb5
  have sz1 := hU.size
  have hB : Below w.heap.size w U1 := hU
  clear hU
  replace hT := hid (hT.out.on hB)
  have r1 := hid r_p1_5
  replace hB := hid hB
  clear r_p1_5 r_p1_0 n_p1_0 n_p1_5 d_p1_0_p1_5 k1
  go_upto_region 2 with (fail)
  go_wp2_with (first | (refine wpList_load_row rfl 27 (.tmp 1) rfl p1_5 rfl 27 #[.bool false, .int .i64 0, .int .i64 0, .int .i64 0, .int .i64 0, .bool false, .int .i64 0, .bool false, .int .i64 0, .int .i64 0, .bool false, .int .i64 0, .bool false, .int .i64 0, .bool false, .int .i64 0, .bool false, .int .i64 0, .bool false, .int .i64 0, .bool false, .int .i64 0] (0, 0) _ r1.out Tryz.underlying27 rfl (by kernel_rfl) ?_))
  refine (k2.out _ hT.out).mono ?_
  rintro r V3 ⟨a9, c9, rfl, g1, -, hA2⟩
  replace r1 := hid (held_after hA2 r1.out)
  replace hB := hid (bthen hB.out hA2)
  clear hA2 hT k2
  simp only [if_true, List.length_cons, List.length_nil, Nat.zero_add, Nat.reduceAdd] at g1
  obtain ⟨b5, o5, rfl, d5⟩ := g1.at1 (i := 5) (v0 := .string ⟨#[48]⟩) rfl
  obtain ⟨b9, o9, e9, d9⟩ := g1.at1 (i := 9) (v0 := .string ⟨#[]⟩) rfl
  cases e9
  have hq := fun W => eqG22 false 0 0 0 0 false 0 false 0 0 false 0 false 0 false 0 false 0 false 0 false 0 W
  clear g1
  try simp only [if_true, List.length_cons, List.length_nil, Nat.zero_add, Nat.reduceAdd]
  go_wp2_with (first | (refine wpList_load_row rfl 27 (.tmp 1) rfl p1_5 rfl 27 #[.bool false, .int .i64 0, .int .i64 0, .int .i64 0, .int .i64 0, .bool false, .int .i64 0, .bool false, .int .i64 0, .int .i64 0, .bool false, .int .i64 0, .bool false, .int .i64 0, .bool false, .int .i64 0, .bool false, .int .i64 0, .bool false, .int .i64 0, .bool false, .int .i64 0] (0, 0) _ r1.out Tryz.underlying27 rfl (by kernel_rfl) ?_))
  refine (num25_any 0 _).mono ?_
  rintro r V ⟨rfl, hv⟩
  obtain rfl : V3 = V := hv.symm
  go_wp2_with fail
  refine (num25_any 0 _).mono ?_
  rintro r V ⟨rfl, hv⟩
  obtain rfl : V3 = V := hv.symm
  go_wp2_with fail
  go_ret
  exact ⟨ret_bool (by simp), hB.out⟩

end Go.Proofs.YtiokoakamcihcaaGreatDoor
