/- The laws of layer 27: GsaPuts. -/
import Derived.Test.YtpbekdkobmgndaaGreatDoorGX3
import Derived.Test.YtpbekdkobmgndaaGreatDoorGX2
import Derived.Laws.StructEq
import Derived.Laws.Tables
import Derived.Deep.DeepCutAuto
namespace Go.Proofs.YtpbekdkobmgndaaGreatDoor
open Go.ChangeShapes Go.WideShapes Go.ChangeAt Go.RowKit
set_option linter.unusedVariables false
set_option linter.unusedSimpArgs false

theorem gsI_len (au : Bool) (fx : Int) (zs : List Int) (pi : Bool) (pn : Int) (hi : Bool) (hn : Int) (vi : Bool) (vn : Int) : (fL (gsI au fx zs pi pn hi hn vi vn)).length ≤ 100 := by
  rw [gsI_L]
  simp only [List.length_append, plT_len, plN_len, List.length_cons, List.length_nil]
  omega
set_option maxRecDepth 100000 in
set_option maxHeartbeats 16000000 in
theorem law_GsaPuts (a0_0 : Bool) (a0_1 : Int) (a0_2 : Option Addr) (len0_2 cap0_2 : Nat) (z0_2 : List Int) (a0_3 : Bool) (a0_4 : Int) (a0_5 : Bool) (a0_6 : Int) (a0_7 : Bool) (a0_8 : Int) (W : World) (w0_1 : (Lit.int .i64 a0_1).wf = true) (w0_2 : Sl .i64 W a0_2 len0_2 cap0_2 z0_2) (t0_2 : ∀ n ∈ z0_2, (Lit.int .i64 n).wf = true) (w0_4 : (Lit.int .i64 a0_4).wf = true) (w0_6 : (Lit.int .i64 a0_6).wf = true) (w0_8 : (Lit.int .i64 a0_8).wf = true) (hT : Tab W) :
    Calls Tryz.prog 3 #[.agg #[.bool a0_0, .int .i64 a0_1, .slice a0_2 len0_2 cap0_2, .bool a0_3, .int .i64 a0_4, .bool a0_5, .int .i64 a0_6, .bool a0_7, .int .i64 a0_8]] W fun e w' => e = .returned (.bool true) ∧ Below W.heap.size W w' := by
  have hz : ∀ x ∈ z0_2, -9223372036854775808 ≤ x ∧ x ≤ 9223372036854775807 := fun x hx => bounds_i64 (t0_2 x hx)
  have hbd := And.intro (bounds_i64 w0_4) (And.intro (bounds_i64 w0_6) (bounds_i64 w0_8))
  have hb1 := bounds_i64 w0_1
  clear w0_1 w0_4 w0_6 w0_8 t0_2
  by_cases hl : 20 < len0_2
  case pos =>
    have d1 : decide ((20 : Int) < (len0_2 : Int)) = true := by simp; omega
    clear hl hz hbd hb1 w0_2 hT
    go_enter Tryz.func3, Tryz.ntmps3
    go_upto_region 0 with (fail)
    apply wp_region_seg0 (w := W) (S := [.al 1000, .q []]) (E := [.al ((fun p => .pointer (some ⟨p, 0, none⟩)), _) 1000, .q0 _]) rfl (by kernel_rfl) rfl rfl
    intro th hge hne
    refine Seg.step _ rfl ⟨by rfl, fun U hU => ?_⟩ ?_
    · go_simp; exact vp_alloc rfl rfl rfl
    refine Seg.sa ?_
    refine Seg.sq ?_
    refine Seg.stop (fun U1 hU hk => ?_)
    have nb0 := hge 0 _ _ rfl
    have rb0 := (hk 0 _ _ rfl trivial).1.2 (by simp)
    clear hk hge hne
    generalize th (0 + 0) = p0_0 at *
    dsimp only at rb0
    have r_p0_0 := rb0
    clear rb0
    have n_p0_0 := nb0
    clear nb0
    have sz1 := hU.size
    have hB : Below W.heap.size W U1 := hU
    clear hU
    have z2 := held_cell r_p0_0 2 _ rfl
    go_wp2_with fail
    refine (knows27_any _).mono ?_
    rintro r V ⟨rfl, hA⟩
    replace hB := bthen hB hA
    go_wp2_with fail
    go_ret
    exact ⟨rfl, hB⟩
  have d1 : decide ((20 : Int) < (len0_2 : Int)) = false := by simp; omega
  have k1 := hid (fun U (hA : After W U) (hTU : Tab U) => gsput_any a0_0 a0_1 a0_2 len0_2 cap0_2 z0_2 a0_3 a0_4 a0_5 a0_6 a0_7 a0_8 hz U hbd (w0_2.below hA) hTU)
  have k2 := hid (fun U (hA : After W U) => rgsput_any a0_0 a0_1 a0_2 len0_2 cap0_2 z0_2 a0_3 a0_4 a0_5 a0_6 a0_7 a0_8 hz U hbd (w0_2.below hA))
  obtain ⟨E, hE⟩ : ∃ E, gsE a0_0 a0_1 z0_2 a0_3 a0_4 a0_5 a0_6 a0_7 a0_8 = E := ⟨_, rfl⟩
  obtain ⟨L, hL⟩ : ∃ L, fL (gsI a0_0 a0_1 z0_2 a0_3 a0_4 a0_5 a0_6 a0_7 a0_8) = L := ⟨_, rfl⟩
  rw [hE, hL] at k1 k2
  have hLl : L.length ≤ 100 := by rw [← hL]; exact gsI_len a0_0 a0_1 z0_2 a0_3 a0_4 a0_5 a0_6 a0_7 a0_8
  obtain ⟨F, hF⟩ : ∃ F, (if E = 0 then L else []) = F := ⟨_, rfl⟩
  have hFl : F.length ≤ 100 := by rw [← hF]; split <;> first | omega | simp
  clear hE hL hbd hLl hz hb1 w0_2 hl
  replace hT := hid hT
  replace hF := hid hF
  go_enter Tryz.func3, Tryz.ntmps3
  go_upto_region 0 with (fail)
  apply wp_region_seg0 (w := W) (S := [.al 1000, .q []]) (E := [.al ((fun p => .pointer (some ⟨p, 0, none⟩)), _) 1000, .q0 _]) rfl (by kernel_rfl) rfl rfl
  intro th hge hne
  refine Seg.step _ rfl ⟨by rfl, fun U hU => ?_⟩ ?_
  · go_simp; exact vp_alloc rfl rfl rfl
  refine Seg.sa ?_
  refine Seg.sq ?_
  refine Seg.stop (fun U1 hU hk => ?_)
  have nb0 := hge 0 _ _ rfl
  have rb0 := (hk 0 _ _ rfl trivial).1.2 (by simp)
  clear hk hge hne
  generalize th (0 + 0) = p0_0 at *
  dsimp only at rb0
  have r_p0_0 := rb0
  clear rb0
  have n_p0_0 := nb0
  clear nb0
  have sz1 := hU.size
  have hB : Below W.heap.size W U1 := hU
  clear hU
  replace hT := hid (hT.out.on hB)
  replace hB := hid hB
  have r1 := hid r_p0_0
  clear r_p0_0 n_p0_0
  have z2 := held_cell r1.out 2 _ rfl
  go_wp2_with fail
  refine (knows27_any _).mono ?_
  rintro r V0 ⟨rfl, hA⟩
  replace hT := hid (hT.out.on hA)
  replace r1 := hid (held_after hA r1.out)
  replace hB := hid (bthen hB.out hA)
  clear hA z2
  go_wp2_with (first | (refine wpList_load_row rfl 26 (.tmp 1) rfl p0_0 rfl 26 #[.bool a0_0, .int .i64 a0_1, .slice a0_2 len0_2 cap0_2, .bool a0_3, .int .i64 a0_4, .bool a0_5, .int .i64 a0_6, .bool a0_7, .int .i64 a0_8] (0, 0) _ r1.out Tryz.underlying26 rfl (by kernel_rfl) ?_))
  refine (k1.out _ hB.out hT.out).mono ?_
  rintro e V1 ⟨a1, c1, rfl, g1, -, hA⟩
  rw [hF.out] at g1 ⊢
  replace g1 := hid g1
  replace hB := hid (bthen hB.out hA)
  replace r1 := hid (held_after hA r1.out)
  clear hA
  obtain ⟨m, hm⟩ : ∃ m, F.length = m := ⟨_, rfl⟩
  rw [hm] at hFl
  rw [hm]
  replace g1 := hid (show Els V1 1 a1 m c1 (strV23 F) from hm ▸ g1.out)
  go_wp2_with (first | (refine wpList_load_row rfl 26 (.tmp 1) rfl p0_0 rfl 26 #[.bool a0_0, .int .i64 a0_1, .slice a0_2 len0_2 cap0_2, .bool a0_3, .int .i64 a0_4, .bool a0_5, .int .i64 a0_6, .bool a0_7, .int .i64 a0_8] (0, 0) _ r1.out Tryz.underlying26 rfl (by kernel_rfl) ?_))
  refine (k2.out _ hB.out).mono ?_
  rintro e V2 ⟨a2, c2, rfl, g2, -, hA⟩
  rw [hF.out] at g2 ⊢
  rw [hm]
  replace g2 := hid (show Els V2 1 a2 m c2 (strV23 F) from hm ▸ g2)
  replace g1 := hid (g1.out.below hA)
  replace hB := hid (bthen hB.out hA)
  clear hA r1
  have hFb := hid hFl
  have hm2 := hid hm
  clear hFl hm
  go_wp2_with fail
  refine (texts23_same a1 a2 c1 c2 m F _ hm2.out g1.out g2.out (by have := hFb.out; omega)).mono ?_
  rintro e V3 ⟨rfl, hA⟩
  replace hB := hid (bthen hB.out hA)
  clear hA
  go_wp2_with fail
  refine (num27_any E _).mono ?_
  rintro e V4 ⟨rfl, hA⟩
  replace hB := hid (bthen hB.out hA)
  clear hA
  go_wp2_with fail
  refine (num27_any E _).mono ?_
  rintro e V5 ⟨rfl, hA⟩
  replace hB := hid (bthen hB.out hA)
  clear hA
  go_wp2_with fail
  go_ret
  exact ⟨ret_bool (by simp), hB.out⟩

end Go.Proofs.YtpbekdkobmgndaaGreatDoor
