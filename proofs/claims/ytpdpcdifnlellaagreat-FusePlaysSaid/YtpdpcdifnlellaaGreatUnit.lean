/- Package unit: doubling. -/
import Derived.Test.YtpdpcdifnlellaaGreatUnitMath
import Derived.Test.YtpdpcdifnlellaaGreatVec8
import Derived.Test.YtpdpcdifnlellaaGreatKB
import Derived.Deep.DeepCutAuto
import Derived.Handy
namespace Go.Proofs.YtpdpcdifnlellaaGreat
open Go.ChangeShapes Go.WideShapes Go.ChangeAt Go.RowKit
set_option maxRecDepth 100000
set_option linter.unusedVariables false

def cell4 (w : World) (b : Nat) : Nat := (cellInt w b 0).natAbs + (cellInt w b 1).natAbs + (cellInt w b 2).natAbs + (cellInt w b 3).natAbs
def room4 (w : World) (b : Nat) : Nat := 17179869184 - cell4 w b
theorem room4_of {T : TypeId} {w : World} {b : Nat} {x y z t : Int} (h : Row .i32 T w b [x, y, z, t]) : room4 w b = 17179869184 - (x.natAbs + y.natAbs + z.natAbs + t.natAbs) := by
  unfold room4 cell4
  rw [cellInt_of (h.cellAt 0 (show 0 < 4 by omega)), cellInt_of (h.cellAt 1 (show 1 < 4 by omega)), cellInt_of (h.cellAt 2 (show 2 < 4 by omega)), cellInt_of (h.cellAt 3 (show 3 < 4 by omega))]
  rfl
theorem index4_0 (x y z t : Int) (w : World) : (Instr.index 94 (.agg #[.int .i32 x, .int .i32 y, .int .i32 z, .int .i32 t]) (.int .i64 0)).run Tryz.prog w = .ok (.int .i32 x) w := by rfl
theorem index4_1 (x y z t : Int) (w : World) : (Instr.index 94 (.agg #[.int .i32 x, .int .i32 y, .int .i32 z, .int .i32 t]) (.int .i64 1)).run Tryz.prog w = .ok (.int .i32 y) w := by rfl
theorem index4_2 (x y z t : Int) (w : World) : (Instr.index 94 (.agg #[.int .i32 x, .int .i32 y, .int .i32 z, .int .i32 t]) (.int .i64 2)).run Tryz.prog w = .ok (.int .i32 z) w := by rfl
theorem index4_3 (x y z t : Int) (w : World) : (Instr.index 94 (.agg #[.int .i32 x, .int .i32 y, .int .i32 z, .int .i32 t]) (.int .i64 3)).run Tryz.prog w = .ok (.int .i32 t) w := by rfl

set_option maxRecDepth 100000 in
set_option maxHeartbeats 16000000 in
theorem grown_any (x y z t X0 Y0 Z0 T0 : Int) (w : World) (hz : ¬ (x = 0 ∧ y = 0 ∧ z = 0 ∧ t = 0)) (p0 : B32 x) (p1 : B32 y) (p2 : B32 z) (p3 : B32 t) (hd : dbl4 33 x y z t = (X0, Y0, Z0, T0)) :
    Calls Tryz.prog 104 #[.agg #[.int .i32 x, .int .i32 y, .int .i32 z, .int .i32 t]] w fun e w' => e = .returned (.agg #[.int .i32 X0, .int .i32 Y0, .int .i32 Z0, .int .i32 T0]) ∧ Below w.heap.size w w' := by
  have hr0 := hid (reach4_start hz p0 p1 p2 p3)
  replace hd := hid hd
  clear hz p0 p1 p2 p3
  go_enter Tryz.func104, Tryz.ntmps104
  go_upto_region 0 with (fail)
  apply wp_region_seg0 (w := w) (S := [.al 1000, .al 1000]) (E := [.al ((fun p => .pointer (some ⟨p, 0, none⟩)), _) 1000, .al ((fun p => .pointer (some ⟨p, 0, none⟩)), _) 1000]) rfl (by kernel_rfl) rfl rfl
  intro th hge hne
  refine Seg.step _ rfl ⟨by rfl, fun U hU => ?_⟩ ?_
  · go_simp; exact vp_alloc rfl rfl rfl
  refine Seg.sa ?_
  refine Seg.step _ rfl ⟨by rfl, fun U hU => ?_⟩ ?_
  · go_simp; exact vp_alloc rfl rfl rfl
  refine Seg.sa ?_
  refine Seg.stop (fun U1 hU hk => ?_)
  have nb0 := hge 0 _ _ rfl
  have rb0 := (hk 0 _ _ rfl trivial).1.2 (by simp)
  have nb1 := hge 1 _ _ rfl
  have rb1 := (hk 1 _ _ rfl trivial).1.2 (by simp)
  have ne0_1 := hne 0 1 _ _ _ _ rfl rfl (by omega)
  clear hk hge hne
  generalize th (0 + 0) = p0_0 at *
  dsimp only at rb0
  generalize th (0 + 1) = p0_1 at *
  dsimp only at rb1
  have r_p0_0 := rb0
  clear rb0
  have n_p0_0 := nb0
  clear nb0
  have d_p0_0_p0_1 := ne0_1
  clear ne0_1
  have r_p0_1 := rb1
  clear rb1
  have n_p0_1 := nb1
  clear nb1
  have sz1 := hU.size
  have hB : Below w.heap.size w U1 := hU
  clear hU
  go_upto_region 1 with (fail)
  apply wp_region_seg0 (w := U1) (S := [.al 1000]) (E := [.al ((fun p => .pointer (some ⟨p, 0, none⟩)), _) 1000]) rfl (by kernel_rfl) rfl rfl
  intro th hge hne
  refine Seg.step _ rfl ⟨by rfl, fun U hU => ?_⟩ ?_
  · go_simp; exact vp_alloc rfl rfl rfl
  refine Seg.sa ?_
  refine Seg.stop (fun U2 hU hk => ?_)
  have nb0 := hge 0 _ _ rfl
  have rb0 := (hk 0 _ _ rfl trivial).1.2 (by simp)
  clear hk hge hne
  generalize th (0 + 0) = p1_0 at *
  dsimp only at rb0
  have df_p0_0_p1_0 : p0_0 ≠ p1_0 := by have := held_lt r_p0_0; omega
  have df_p0_1_p1_0 : p0_1 ≠ p1_0 := by have := held_lt r_p0_1; omega
  replace r_p0_0 := held_after hU r_p0_0
  replace r_p0_1 := held_after hU r_p0_1
  have r_p1_0 := rb0
  clear rb0
  have n_p1_0 := nb0
  clear nb0
  have sz2 := hU.size
  replace hB := bthen hB hU
  clear hU
  have ra : Row .i32 94 U2 p0_0 [x, y, z, t] := r_p0_0
  have rr : Row .i32 94 U2 p0_1 [0, 0, 0, 0] := r_p0_1
  have rn : Row .i32 94 U2 p1_0 [0, 0, 0, 0] := r_p1_0
  clear r_p0_0 r_p0_1 r_p1_0
  have sP : w.heap.size ≤ p0_0 := n_p0_0
  have sR : w.heap.size ≤ p0_1 := n_p0_1
  have sN : w.heap.size ≤ p1_0 := by omega
  have dPR : p0_0 ≠ p0_1 := d_p0_0_p0_1
  have dPN : p0_0 ≠ p1_0 := df_p0_0_p1_0
  have dRN : p0_1 ≠ p1_0 := df_p0_1_p1_0
  clear n_p0_0 n_p0_1 n_p1_0 d_p0_0_p0_1 df_p0_0_p1_0 df_p0_1_p1_0 sz1 sz2
  go_wp2_with fail
  go_loopw [7] (fun _ wr => ∃ X Y Z T A B C D : Int, Row .i32 94 wr p0_0 [X, Y, Z, T] ∧ Row .i32 94 wr p1_0 [A, B, C, D] ∧ Row .i32 94 wr p0_1 [0, 0, 0, 0] ∧ Reach4 x y z t X Y Z T ∧ Below w.heap.size w wr) (fun _ wr => room4 wr p0_0)
  case atStart => exact ⟨_, _, _, _, _, _, _, _, ra, rn, rr, hr0.out, hB⟩
  case round =>
    clear ra rr rn hB
    obtain ⟨X, Y, Z, T, A, B, C, D, ra, rn, rr, hre, hB⟩ := hrel
    obtain ⟨a0, a1, a2, a3, f0, f1, f2, f3⟩ := ra.four
    obtain ⟨c0, c1, c2, c3, g0, g1, g2, g3⟩ := rn.four
    obtain ⟨z0, z1, z2, z3, h0, h1, h2, h3⟩ := rr.four
    have i0 := fun v => index4_0 X Y Z T v
    have i1 := fun v => index4_1 X Y Z T v
    have i2 := fun v => index4_2 X Y Z T v
    have i3 := fun v => index4_3 X Y Z T v
    obtain ⟨⟨x1, x2⟩, ⟨y1, y2⟩, ⟨w1, w2⟩, ⟨t1, t2⟩⟩ := reach4_b hre
    by_cases e0hi : 1073741824 ≤ X
    · have hf : far4 X Y Z T = true := by unfold far4; rw [farP_yes (n := X) (Or.inl e0hi)]; simp
      have hdd := reach4_done hre hf
      rw [hd.out] at hdd
      simp only [Prod.mk.injEq] at hdd
      obtain ⟨rfl, rfl, rfl, rfl⟩ := hdd
      clear hre hf ra rn rr hd hr0
      go_wp2_with fail
      go_rounds 1
      refine bodyPost_ret (v := .agg #[.int .i32 X0, .int .i32 Y0, .int .i32 Z0, .int .i32 T0]) (by simp [results, Tryz.results104, go_sem, z0, z1, z2, z3]) rfl ⟨rfl, ?_⟩
      exact below4 hB _ _ _ _ _ sR
    by_cases e0lo : X ≤ -1073741824
    · have hf : far4 X Y Z T = true := by unfold far4; rw [farP_yes (n := X) (Or.inr e0lo)]; simp
      have hdd := reach4_done hre hf
      rw [hd.out] at hdd
      simp only [Prod.mk.injEq] at hdd
      obtain ⟨rfl, rfl, rfl, rfl⟩ := hdd
      clear hre hf ra rn rr hd hr0
      go_wp2_with fail
      go_rounds 1
      refine bodyPost_ret (v := .agg #[.int .i32 X0, .int .i32 Y0, .int .i32 Z0, .int .i32 T0]) (by simp [results, Tryz.results104, go_sem, z0, z1, z2, z3]) rfl ⟨rfl, ?_⟩
      exact below4 hB _ _ _ _ _ sR
    by_cases e1hi : 1073741824 ≤ Y
    · have hf : far4 X Y Z T = true := by unfold far4; rw [farP_yes (n := Y) (Or.inl e1hi)]; simp
      have hdd := reach4_done hre hf
      rw [hd.out] at hdd
      simp only [Prod.mk.injEq] at hdd
      obtain ⟨rfl, rfl, rfl, rfl⟩ := hdd
      clear hre hf ra rn rr hd hr0
      go_wp2_with fail
      go_rounds 2
      have hB0 := (hB).setCell (p := ⟨p1_0, 0, none⟩) sN (.int .i32 (2 * X0))
      refine bodyPost_ret (v := .agg #[.int .i32 X0, .int .i32 Y0, .int .i32 Z0, .int .i32 T0]) (by simp [results, Tryz.results104, go_sem, z0, z1, z2, z3]) rfl ⟨rfl, ?_⟩
      exact below4 hB0 _ _ _ _ _ sR
    by_cases e1lo : Y ≤ -1073741824
    · have hf : far4 X Y Z T = true := by unfold far4; rw [farP_yes (n := Y) (Or.inr e1lo)]; simp
      have hdd := reach4_done hre hf
      rw [hd.out] at hdd
      simp only [Prod.mk.injEq] at hdd
      obtain ⟨rfl, rfl, rfl, rfl⟩ := hdd
      clear hre hf ra rn rr hd hr0
      go_wp2_with fail
      go_rounds 2
      have hB0 := (hB).setCell (p := ⟨p1_0, 0, none⟩) sN (.int .i32 (2 * X0))
      refine bodyPost_ret (v := .agg #[.int .i32 X0, .int .i32 Y0, .int .i32 Z0, .int .i32 T0]) (by simp [results, Tryz.results104, go_sem, z0, z1, z2, z3]) rfl ⟨rfl, ?_⟩
      exact below4 hB0 _ _ _ _ _ sR
    by_cases e2hi : 1073741824 ≤ Z
    · have hf : far4 X Y Z T = true := by unfold far4; rw [farP_yes (n := Z) (Or.inl e2hi)]; simp
      have hdd := reach4_done hre hf
      rw [hd.out] at hdd
      simp only [Prod.mk.injEq] at hdd
      obtain ⟨rfl, rfl, rfl, rfl⟩ := hdd
      clear hre hf ra rn rr hd hr0
      go_wp2_with fail
      go_rounds 3
      have hB0 := (hB).setCell (p := ⟨p1_0, 0, none⟩) sN (.int .i32 (2 * X0))
      have hB1 := (hB0).setCell (p := ⟨p1_0, 1, none⟩) sN (.int .i32 (2 * Y0))
      refine bodyPost_ret (v := .agg #[.int .i32 X0, .int .i32 Y0, .int .i32 Z0, .int .i32 T0]) (by simp [results, Tryz.results104, go_sem, z0, z1, z2, z3]) rfl ⟨rfl, ?_⟩
      exact below4 hB1 _ _ _ _ _ sR
    by_cases e2lo : Z ≤ -1073741824
    · have hf : far4 X Y Z T = true := by unfold far4; rw [farP_yes (n := Z) (Or.inr e2lo)]; simp
      have hdd := reach4_done hre hf
      rw [hd.out] at hdd
      simp only [Prod.mk.injEq] at hdd
      obtain ⟨rfl, rfl, rfl, rfl⟩ := hdd
      clear hre hf ra rn rr hd hr0
      go_wp2_with fail
      go_rounds 3
      have hB0 := (hB).setCell (p := ⟨p1_0, 0, none⟩) sN (.int .i32 (2 * X0))
      have hB1 := (hB0).setCell (p := ⟨p1_0, 1, none⟩) sN (.int .i32 (2 * Y0))
      refine bodyPost_ret (v := .agg #[.int .i32 X0, .int .i32 Y0, .int .i32 Z0, .int .i32 T0]) (by simp [results, Tryz.results104, go_sem, z0, z1, z2, z3]) rfl ⟨rfl, ?_⟩
      exact below4 hB1 _ _ _ _ _ sR
    by_cases e3hi : 1073741824 ≤ T
    · have hf : far4 X Y Z T = true := by unfold far4; rw [farP_yes (n := T) (Or.inl e3hi)]; simp
      have hdd := reach4_done hre hf
      rw [hd.out] at hdd
      simp only [Prod.mk.injEq] at hdd
      obtain ⟨rfl, rfl, rfl, rfl⟩ := hdd
      clear hre hf ra rn rr hd hr0
      go_wp2_with fail
      go_rounds 4
      have hB0 := (hB).setCell (p := ⟨p1_0, 0, none⟩) sN (.int .i32 (2 * X0))
      have hB1 := (hB0).setCell (p := ⟨p1_0, 1, none⟩) sN (.int .i32 (2 * Y0))
      have hB2 := (hB1).setCell (p := ⟨p1_0, 2, none⟩) sN (.int .i32 (2 * Z0))
      refine bodyPost_ret (v := .agg #[.int .i32 X0, .int .i32 Y0, .int .i32 Z0, .int .i32 T0]) (by simp [results, Tryz.results104, go_sem, z0, z1, z2, z3]) rfl ⟨rfl, ?_⟩
      exact below4 hB2 _ _ _ _ _ sR
    by_cases e3lo : T ≤ -1073741824
    · have hf : far4 X Y Z T = true := by unfold far4; rw [farP_yes (n := T) (Or.inr e3lo)]; simp
      have hdd := reach4_done hre hf
      rw [hd.out] at hdd
      simp only [Prod.mk.injEq] at hdd
      obtain ⟨rfl, rfl, rfl, rfl⟩ := hdd
      clear hre hf ra rn rr hd hr0
      go_wp2_with fail
      go_rounds 4
      have hB0 := (hB).setCell (p := ⟨p1_0, 0, none⟩) sN (.int .i32 (2 * X0))
      have hB1 := (hB0).setCell (p := ⟨p1_0, 1, none⟩) sN (.int .i32 (2 * Y0))
      have hB2 := (hB1).setCell (p := ⟨p1_0, 2, none⟩) sN (.int .i32 (2 * Z0))
      refine bodyPost_ret (v := .agg #[.int .i32 X0, .int .i32 Y0, .int .i32 Z0, .int .i32 T0]) (by simp [results, Tryz.results104, go_sem, z0, z1, z2, z3]) rfl ⟨rfl, ?_⟩
      exact below4 hB2 _ _ _ _ _ sR
    have hf : far4 X Y Z T = false := by unfold far4; rw [farP_no e0hi e0lo, farP_no e1hi e1lo, farP_no e2hi e2lo, farP_no e3hi e3lo]; rfl
    have hmore := hid (reach4_more hre hf)
    have hroom := hid (room4_of ra)
    have hsum := reach4_sum hre
    obtain ⟨m1, m2, m3, m4, m5, m6, m7, m8⟩ := near4 hf
    replace ra := hid ra
    replace rn := hid rn
    replace rr := hid rr
    clear hre hf hd hr0
    go_wp2_with fail
    go_rounds 5
    have rn := Row.set4 rn.out (2 * X) (2 * Y) (2 * Z) (2 * T)
    have ra := Row.oth4 (g' := p1_0) ra.out dPN (.int .i32 (2 * X)) (.int .i32 (2 * Y)) (.int .i32 (2 * Z)) (.int .i32 (2 * T))
    have rr := Row.oth4 (g' := p1_0) rr.out dRN (.int .i32 (2 * X)) (.int .i32 (2 * Y)) (.int .i32 (2 * Z)) (.int .i32 (2 * T))
    have hB := below4 hB p1_0 (.int .i32 (2 * X)) (.int .i32 (2 * Y)) (.int .i32 (2 * Z)) (.int .i32 (2 * T)) sN
    obtain ⟨V, hV⟩ : ∃ V, (((wr.setCell ⟨p1_0, 0, none⟩ (.int .i32 (2 * X))).setCell ⟨p1_0, 1, none⟩ (.int .i32 (2 * Y))).setCell ⟨p1_0, 2, none⟩ (.int .i32 (2 * Z))).setCell ⟨p1_0, 3, none⟩ (.int .i32 (2 * T)) = V := ⟨_, rfl⟩
    rw [hV] at ra rn rr hB ⊢
    clear hV a0 a1 a2 a3 f0 f1 f2 f3 c0 c1 c2 c3 g0 g1 g2 g3 z0 z1 z2 z3 h0 h1 h2 h3 i0 i1 i2 i3
    apply wp_region_part (w := V) (S := [.q [], .q []]) (E := [.q0 _, .q0 _]) 2 1 (by kernel_rfl) rfl (by kernel_rfl) rfl rfl rfl
    intro th hge hne
    refine Seg.sq ?_
    refine Seg.sq ?_
    refine Seg.stop (fun U3 hU hk => ?_)
    clear hk hge hne
    replace ra := ra.below hU
    replace rn := rn.below hU
    replace rr := rr.below hU
    have sz3 := hU.size
    replace hB := bthen hB hU
    clear hU
    refine Seg.only (m := 2) (k := 0) rfl (by kernel_rfl) (by rfl) (fun K hK => ?_)
    refine wp_copyI (.tmp 23) (.tmp 24) 75 rfl 94 21 .i32 4 ⟨by kernel_rfl, by kernel_rfl⟩ p0_0 0 4 4 _ ra rfl (by simp) _ 4 4 _ rfl (rn.sl (by unfold maxLen; simp)) ?_
    intro w9 q1 q2
    have rn := rn.only q2 (Ne.symm dPN)
    have rr := rr.only q2 (Ne.symm dPR)
    have hB := bonly hB q2 sP
    have ra : Row .i32 94 w9 p0_0 [2 * X, 2 * Y, 2 * Z, 2 * T] := q1
    refine hK _ _ (Seg.finish ?_ _)
    clear hK q1 q2
    go_wp2_with fail
    go_roundw
    case rel => ((repeat apply Exists.intro); exact ⟨⟨2 * X, 2 * Y, 2 * Z, 2 * T, _, _, _, _, ra, rn, rr, hmore.out, hB⟩, rfl⟩)
    case measure => rw [hroom.out, room4_of ra]; omega

end Go.Proofs.YtpdpcdifnlellaaGreat
