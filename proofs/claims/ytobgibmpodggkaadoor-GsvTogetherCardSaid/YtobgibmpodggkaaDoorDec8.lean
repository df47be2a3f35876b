/- Package decim: Take. -/
import Derived.Test.YtobgibmpodggkaaDoorDec7
import Derived.Test.YtobgibmpodggkaaDoorKB
import Derived.Deep.DeepCutAuto
namespace Go.Proofs.YtobgibmpodggkaaDoor
open Go.ChangeShapes Go.WideShapes Go.ChangeAt Go.RowKit
set_option linter.unusedVariables false
set_option linter.unusedSimpArgs false

theorem temp_iff (t : ByteArray) : t.toList.isEmpty = decide (t.size = 0) := by
  rw [ByteArray.toList_eq]
  have h : t.data.toList.length = t.size := by simp
  cases e : t.data.toList with
  | nil => rw [e] at h; simp at h; simp [← h]
  | cons a r => rw [e] at h; simp at h; have : t.size ≠ 0 := by omega
                simp [this]
def takO (o : Option Nat) (q : Nat) (lo hi : Int) : Bool × Int × Int := match o with
  | none => (false, 0, 3)
  | some m => if sgnI q * (m : Int) < lo ∨ hi < sgnI q * (m : Int) then (false, 0, 5) else (true, sgnI q * (m : Int), 0)
theorem takO_no (q : Nat) (lo hi : Int) : takO none q lo hi = (false, 0, 3) := rfl
theorem takO_some (m q : Nat) (lo hi : Int) : takO (some m) q lo hi = if sgnI q * (m : Int) < lo ∨ hi < sgnI q * (m : Int) then (false, 0, 5) else (true, sgnI q * (m : Int), 0) := rfl
/-- The number of a text in a column, and why there is none. -/
def takD (s : ByteArray) (W M F lo hi : Int) : Bool × Int × Int :=
  if rightC W M F lo hi = false then (false, 0, 1) else if s.size = 0 then (false, 0, 0) else
  takO (fixP (sb s) (fixQ true s) 1 M.toNat F.toNat) (fixQ true s) lo hi
theorem fixP_lt {zs : List Nat} {q least most frac n : Nat} (hm : most ≤ 12) (hf : frac ≤ 6) (h : fixP zs q least most frac = some n) : n ≤ 1000000000001000000 := by
  have hv := cntM_val (zs.drop q) most
  have hl := cntM_le (zs.drop q) most
  have h1 : valN 0 ((zs.drop q).take (cntM (zs.drop q) most)) < 1000000000000 := Nat.lt_of_lt_of_le hv (tpow (b := 12) (by omega))
  have hP : 10 ^ frac ≤ 1000000 := tpow (b := 6) hf
  have hN : valN 0 ((zs.drop q).take (cntM (zs.drop q) most)) * 10 ^ frac ≤ 1000000000000000000 := Nat.mul_le_mul (show _ ≤ 1000000000000 by omega) hP
  unfold fixP at h
  split at h
  · split at h
    · rename_i hd hc
      have hv2 := cntM_val (zs.drop (q + cntM (zs.drop q) most + 1)) frac
      have hl2 := cntM_le (zs.drop (q + cntM (zs.drop q) most + 1)) frac
      obtain rfl := Option.some.inj h
      obtain ⟨b, hb⟩ : ∃ b, cntM (zs.drop (q + cntM (zs.drop q) most + 1)) frac = b := ⟨_, rfl⟩
      rw [hb] at hv2 hl2 ⊢
      have hX : valN 0 ((zs.drop (q + cntM (zs.drop q) most + 1)).take b) * 10 ^ (frac - b) ≤ 10 ^ frac := by
        have e : 10 ^ frac = 10 ^ b * 10 ^ (frac - b) := by rw [← Nat.pow_add]; congr 1; omega
        rw [e]
        exact Nat.mul_le_mul (by omega) (Nat.le_refl _)
      omega
    · cases h
  · split at h
    · obtain rfl := Option.some.inj h
      omega
    · cases h
set_option maxRecDepth 100000 in
set_option maxHeartbeats 8000000 in
theorem take23_any (s : ByteArray) (W M F lo hi : Int) (w : World) (hs : s.size ≤ 1000) (hlb : (-9223372036854775808 ≤ lo ∧ lo ≤ 9223372036854775807) ∧ (-9223372036854775808 ≤ hi ∧ hi ≤ 9223372036854775807)) : Calls Tryd.prog 53 #[.string s, .agg #[.int .i64 W, .int .i64 M, .int .i64 F, .int .i64 lo, .int .i64 hi]] w fun e w' => e = .returned (.tuple #[.agg #[.bool (takD s W M F lo hi).1, .int .i64 (takD s W M F lo hi).2.1], .int .i64 (takD s W M F lo hi).2.2]) ∧ After w w' := by
  have kR := hid (fun U => right23_any W M F lo hi hlb U)
  have hE := temp_iff s
  cases hr : rightC W M F lo hi
  · have eT := hid (show takD s W M F lo hi = (false, 0, 1) by unfold takD; rw [if_pos hr])
    rw [hr] at kR
    clear hr hE
    go_enter Tryd.func53, Tryd.ntmps53
    go_upto_region 0 with (fail)
    apply wp_region_seg0 (w := w) (S := [.al 1000, .al 1000, .q []]) (E := [.al ((fun p => .pointer (some ⟨p, 0, none⟩)), _) 1000, .al ((fun p => .pointer (some ⟨p, 0, none⟩)), _) 1000, .q0 _]) rfl (by kernel_rfl) rfl rfl
    intro th hge hne
    refine Seg.step _ rfl ⟨by rfl, fun U hU => ?_⟩ ?_
    · go_simp; exact vp_alloc rfl rfl rfl
    refine Seg.sa ?_
    refine Seg.step _ rfl ⟨by rfl, fun U hU => ?_⟩ ?_
    · go_simp; exact vp_alloc rfl rfl rfl
    refine Seg.sa ?_
    refine Seg.sq ?_
    refine Seg.stop (fun U1 hU hk => ?_)
    have nb0 := hge 0 _ _ rfl
    have rb0 := (hk 0 _ _ rfl trivial).1.2 (by simp)
    have nb1 := hge 1 _ _ rfl
    have rb1 := (hk 1 _ _ rfl trivial).1.2 (by simp)
    have ne0_1 := hne 0 1 _ _ _ _ rfl rfl (by omega)
    clear hk hge hne
    generalize th (0 + 0) = p0_0 at *
    dsimp only at rb0
    generalize th (0 + 1) = p0_1 at *
    dsimp only at rb1
    have r_p0_0 := rb0
    clear rb0
    have n_p0_0 := nb0
    clear nb0
    have d_p0_0_p0_1 := ne0_1
    clear ne0_1
    have r_p0_1 := rb1
    clear rb1
    have n_p0_1 := nb1
    clear nb1
    have sz1 := hU.size
    have hB : Below w.heap.size w U1 := hU
    clear hU
    have nP : w.heap.size ≤ p0_1 := n_p0_1
    have y0 := held_cell r_p0_0 0 _ rfl
    have y1 := held_cell r_p0_0 1 _ rfl
    have y2 := held_cell r_p0_0 2 _ rfl
    have y3 := held_cell r_p0_0 3 _ rfl
    have y4 := held_cell r_p0_0 4 _ rfl
    replace hB := hid hB
    have rc := hid r_p0_0
    have rm := hid r_p0_1
    clear r_p0_0 r_p0_1
    go_wp2_with fail
    refine (kR.out _).mono ?_
    rintro e V1 ⟨rfl, hA⟩
    replace hB := hid (bthen hB.out hA)
    replace rm := hid (held_after hA rm.out)
    replace rc := hid (held_after hA rc.out)
    clear hA y0 y1 y2 y3 y4
    have z0 := held_cell rm.out 0 _ rfl
    have z1 := held_cell rm.out 1 _ rfl
    have g0 := held_free rm.out 0
    have g1 := held_free rm.out 1
    obtain ⟨W9, hW9, ya, yO⟩ := st2 rm.out (.bool false) (.int .i64 0)
    replace hB := hid (belowS hB.out yO nP)
    have ez0 := held_cell ya 0 _ rfl
    have ez1 := held_cell ya 1 _ rfl
    clear yO ya
    go_wp2_with fail
    refine bodyPost_ret (v := .tuple #[.agg #[.bool false, .int .i64 0], .int .i64 1]) (by simp [results, Tryd.results53, go_sem, ez0, ez1]) rfl ⟨by rw [eT.out], hB.out⟩
  rw [hr] at kR
  by_cases h0 : s.size = 0
  case pos =>
    have eT := hid (show takD s W M F lo hi = (false, 0, 0) by unfold takD; rw [if_neg (by rw [hr]; simp), if_pos h0])
    rw [decide_eq_true h0] at hE
    clear hr h0
    go_enter Tryd.func53, Tryd.ntmps53
    go_upto_region 0 with (fail)
    apply wp_region_seg0 (w := w) (S := [.al 1000, .al 1000, .q []]) (E := [.al ((fun p => .pointer (some ⟨p, 0, none⟩)), _) 1000, .al ((fun p => .pointer (some ⟨p, 0, none⟩)), _) 1000, .q0 _]) rfl (by kernel_rfl) rfl rfl
    intro th hge hne
    refine Seg.step _ rfl ⟨by rfl, fun U hU => ?_⟩ ?_
    · go_simp; exact vp_alloc rfl rfl rfl
    refine Seg.sa ?_
    refine Seg.step _ rfl ⟨by rfl, fun U hU => ?_⟩ ?_
    · go_simp; exact vp_alloc rfl rfl rfl
    refine Seg.sa ?_
    refine Seg.sq ?_
    refine Seg.stop (fun U1 hU hk => ?_)
    have nb0 := hge 0 _ _ rfl
    have rb0 := (hk 0 _ _ rfl trivial).1.2 (by simp)
    have nb1 := hge 1 _ _ rfl
    have rb1 := (hk 1 _ _ rfl trivial).1.2 (by simp)
    have ne0_1 := hne 0 1 _ _ _ _ rfl rfl (by omega)
    clear hk hge hne
    generalize th (0 + 0) = p0_0 at *
    dsimp only at rb0
    generalize th (0 + 1) = p0_1 at *
    dsimp only at rb1
    have r_p0_0 := rb0
    clear rb0
    have n_p0_0 := nb0
    clear nb0
    have d_p0_0_p0_1 := ne0_1
    clear ne0_1
    have r_p0_1 := rb1
    clear rb1
    have n_p0_1 := nb1
    clear nb1
    have sz1 := hU.size
    have hB : Below w.heap.size w U1 := hU
    clear hU
    have nP : w.heap.size ≤ p0_1 := n_p0_1
    have y0 := held_cell r_p0_0 0 _ rfl
    have y1 := held_cell r_p0_0 1 _ rfl
    have y2 := held_cell r_p0_0 2 _ rfl
    have y3 := held_cell r_p0_0 3 _ rfl
    have y4 := held_cell r_p0_0 4 _ rfl
    replace hB := hid hB
    have rc := hid r_p0_0
    have rm := hid r_p0_1
    clear r_p0_0 r_p0_1
    go_wp2_with fail
    refine (kR.out _).mono ?_
    rintro e V1 ⟨rfl, hA⟩
    replace hB := hid (bthen hB.out hA)
    replace rm := hid (held_after hA rm.out)
    replace rc := hid (held_after hA rc.out)
    clear hA y0 y1 y2 y3 y4
    have z0 := held_cell rm.out 0 _ rfl
    have z1 := held_cell rm.out 1 _ rfl
    have g0 := held_free rm.out 0
    have g1 := held_free rm.out 1
    obtain ⟨W9, hW9, ya, yO⟩ := st2 rm.out (.bool false) (.int .i64 0)
    replace hB := hid (belowS hB.out yO nP)
    have ez0 := held_cell ya 0 _ rfl
    have ez1 := held_cell ya 1 _ rfl
    clear yO ya
    go_wp2_with fail
    refine bodyPost_ret (v := .tuple #[.agg #[.bool false, .int .i64 0], .int .i64 0]) (by simp [results, Tryd.results53, go_sem, ez0, ez1]) rfl ⟨by rw [eT.out], hB.out⟩
  rw [decide_eq_false h0] at hE
  have hc := rightC_is.1 hr
  obtain ⟨c0, c1, c2, c3, c4, c5, c6, c7⟩ := hc
  obtain ⟨m, rfl⟩ := Int.eq_ofNat_of_zero_le (show 0 ≤ M by omega)
  obtain ⟨f, rfl⟩ := Int.eq_ofNat_of_zero_le c3
  have hm12 : m ≤ 12 := by omega
  have hf6 : f ≤ 6 := by omega
  obtain ⟨q, hq⟩ : ∃ q, fixQ true s = q := ⟨_, rfl⟩
  have hq01 : q = 0 ∨ q = 1 := by rw [← hq]; unfold fixQ; split <;> simp
  obtain ⟨o, ho⟩ : ∃ o, fixP (sb s) q 1 m f = o := ⟨_, rfl⟩
  have hT := hid (show takD s W m f lo hi = takO o q lo hi by unfold takD; rw [if_neg (by rw [hr]; simp), if_neg h0, hq, Int.toNat_natCast, Int.toNat_natCast, ho])
  have kF := hid (fun U => fixed_any s true 1 m f U hs (by omega) hm12 hf6)
  rw [hq, ho] at kF
  clear hr c6 c7 h0
  replace hq := hid hq
  cases o with
  | none =>
    have eT := hid (hT.out.trans (takO_no _ _ _))
    clear hT
    rw [show fixR none q = .tuple #[.int .i64 0, .bool false] from rfl] at kF
    go_enter Tryd.func53, Tryd.ntmps53
    go_upto_region 0 with (fail)
    apply wp_region_seg0 (w := w) (S := [.al 1000, .al 1000, .q []]) (E := [.al ((fun p => .pointer (some ⟨p, 0, none⟩)), _) 1000, .al ((fun p => .pointer (some ⟨p, 0, none⟩)), _) 1000, .q0 _]) rfl (by kernel_rfl) rfl rfl
    intro th hge hne
    refine Seg.step _ rfl ⟨by rfl, fun U hU => ?_⟩ ?_
    · go_simp; exact vp_alloc rfl rfl rfl
    refine Seg.sa ?_
    refine Seg.step _ rfl ⟨by rfl, fun U hU => ?_⟩ ?_
    · go_simp; exact vp_alloc rfl rfl rfl
    refine Seg.sa ?_
    refine Seg.sq ?_
    refine Seg.stop (fun U1 hU hk => ?_)
    have nb0 := hge 0 _ _ rfl
    have rb0 := (hk 0 _ _ rfl trivial).1.2 (by simp)
    have nb1 := hge 1 _ _ rfl
    have rb1 := (hk 1 _ _ rfl trivial).1.2 (by simp)
    have ne0_1 := hne 0 1 _ _ _ _ rfl rfl (by omega)
    clear hk hge hne
    generalize th (0 + 0) = p0_0 at *
    dsimp only at rb0
    generalize th (0 + 1) = p0_1 at *
    dsimp only at rb1
    have r_p0_0 := rb0
    clear rb0
    have n_p0_0 := nb0
    clear nb0
    have d_p0_0_p0_1 := ne0_1
    clear ne0_1
    have r_p0_1 := rb1
    clear rb1
    have n_p0_1 := nb1
    clear nb1
    have sz1 := hU.size
    have hB : Below w.heap.size w U1 := hU
    clear hU
    have nP : w.heap.size ≤ p0_1 := n_p0_1
    have y0 := held_cell r_p0_0 0 _ rfl
    have y1 := held_cell r_p0_0 1 _ rfl
    have y2 := held_cell r_p0_0 2 _ rfl
    have y3 := held_cell r_p0_0 3 _ rfl
    have y4 := held_cell r_p0_0 4 _ rfl
    replace hB := hid hB
    have rc := hid r_p0_0
    have rm := hid r_p0_1
    clear r_p0_0 r_p0_1
    go_wp2_with fail
    refine (kR.out _).mono ?_
    rintro e V1 ⟨rfl, hA⟩
    replace hB := hid (bthen hB.out hA)
    replace rm := hid (held_after hA rm.out)
    replace rc := hid (held_after hA rc.out)
    clear hA y0 y1 y2 y3 y4
    have y0 := held_cell rc.out 0 _ rfl
    have y1 := held_cell rc.out 1 _ rfl
    have y2 := held_cell rc.out 2 _ rfl
    have y3 := held_cell rc.out 3 _ rfl
    have y4 := held_cell rc.out 4 _ rfl
    go_wp2_with fail
    refine (kF.out _).mono ?_
    rintro e V2 ⟨rfl, hA⟩
    replace hB := hid (bthen hB.out hA)
    replace rm := hid (held_after hA rm.out)
    replace rc := hid (held_after hA rc.out)
    clear hA y0 y1 y2 y3 y4
    have y0 := held_cell rc.out 0 _ rfl
    have y1 := held_cell rc.out 1 _ rfl
    have y2 := held_cell rc.out 2 _ rfl
    have y3 := held_cell rc.out 3 _ rfl
    have y4 := held_cell rc.out 4 _ rfl
    have z0 := held_cell rm.out 0 _ rfl
    have z1 := held_cell rm.out 1 _ rfl
    have g0 := held_free rm.out 0
    have g1 := held_free rm.out 1
    obtain ⟨W9, hW9, ya, yO⟩ := st2 rm.out (.bool false) (.int .i64 0)
    replace hB := hid (belowS hB.out yO nP)
    have ez0 := held_cell ya 0 _ rfl
    have ez1 := held_cell ya 1 _ rfl
    clear yO ya
    go_wp2_with fail
    refine bodyPost_ret (v := .tuple #[.agg #[.bool false, .int .i64 0], .int .i64 3]) (by simp [results, Tryd.results53, go_sem, ez0, ez1]) rfl ⟨by rw [eT.out], hB.out⟩
  | some m1 =>
    have hml := fixP_lt (hm12) hf6 ho
    replace ho := hid ho
    obtain ⟨X, hX⟩ : ∃ X, sgnI q * (m1 : Int) = X := ⟨_, rfl⟩
    have hT2 := hT.out
    rw [takO_some, hX] at hT2
    have kX : fixR (some m1) q = .tuple #[.int .i64 X, .bool true] := by rw [← hX]; rfl
    rw [kX] at kF
    clear kX hX hT
    by_cases l1 : X < lo
    · have eT := hid (show takD s W m f lo hi = (false, 0, 5) by rw [hT2, if_pos (.inl l1)])
      clear hT2
      go_enter Tryd.func53, Tryd.ntmps53
      go_upto_region 0 with (fail)
      apply wp_region_seg0 (w := w) (S := [.al 1000, .al 1000, .q []]) (E := [.al ((fun p => .pointer (some ⟨p, 0, none⟩)), _) 1000, .al ((fun p => .pointer (some ⟨p, 0, none⟩)), _) 1000, .q0 _]) rfl (by kernel_rfl) rfl rfl
      intro th hge hne
      refine Seg.step _ rfl ⟨by rfl, fun U hU => ?_⟩ ?_
      · go_simp; exact vp_alloc rfl rfl rfl
      refine Seg.sa ?_
      refine Seg.step _ rfl ⟨by rfl, fun U hU => ?_⟩ ?_
      · go_simp; exact vp_alloc rfl rfl rfl
      refine Seg.sa ?_
      refine Seg.sq ?_
      refine Seg.stop (fun U1 hU hk => ?_)
      have nb0 := hge 0 _ _ rfl
      have rb0 := (hk 0 _ _ rfl trivial).1.2 (by simp)
      have nb1 := hge 1 _ _ rfl
      have rb1 := (hk 1 _ _ rfl trivial).1.2 (by simp)
      have ne0_1 := hne 0 1 _ _ _ _ rfl rfl (by omega)
      clear hk hge hne
      generalize th (0 + 0) = p0_0 at *
      dsimp only at rb0
      generalize th (0 + 1) = p0_1 at *
      dsimp only at rb1
      have r_p0_0 := rb0
      clear rb0
      have n_p0_0 := nb0
      clear nb0
      have d_p0_0_p0_1 := ne0_1
      clear ne0_1
      have r_p0_1 := rb1
      clear rb1
      have n_p0_1 := nb1
      clear nb1
      have sz1 := hU.size
      have hB : Below w.heap.size w U1 := hU
      clear hU
      have nP : w.heap.size ≤ p0_1 := n_p0_1
      have y0 := held_cell r_p0_0 0 _ rfl
      have y1 := held_cell r_p0_0 1 _ rfl
      have y2 := held_cell r_p0_0 2 _ rfl
      have y3 := held_cell r_p0_0 3 _ rfl
      have y4 := held_cell r_p0_0 4 _ rfl
      replace hB := hid hB
      have rc := hid r_p0_0
      have rm := hid r_p0_1
      clear r_p0_0 r_p0_1
      go_wp2_with fail
      refine (kR.out _).mono ?_
      rintro e V1 ⟨rfl, hA⟩
      replace hB := hid (bthen hB.out hA)
      replace rm := hid (held_after hA rm.out)
      replace rc := hid (held_after hA rc.out)
      clear hA y0 y1 y2 y3 y4
      have y0 := held_cell rc.out 0 _ rfl
      have y1 := held_cell rc.out 1 _ rfl
      have y2 := held_cell rc.out 2 _ rfl
      have y3 := held_cell rc.out 3 _ rfl
      have y4 := held_cell rc.out 4 _ rfl
      go_wp2_with fail
      refine (kF.out _).mono ?_
      rintro e V2 ⟨rfl, hA⟩
      replace hB := hid (bthen hB.out hA)
      replace rm := hid (held_after hA rm.out)
      replace rc := hid (held_after hA rc.out)
      clear hA y0 y1 y2 y3 y4
      have y0 := held_cell rc.out 0 _ rfl
      have y1 := held_cell rc.out 1 _ rfl
      have y2 := held_cell rc.out 2 _ rfl
      have y3 := held_cell rc.out 3 _ rfl
      have y4 := held_cell rc.out 4 _ rfl
      have z0 := held_cell rm.out 0 _ rfl
      have z1 := held_cell rm.out 1 _ rfl
      have g0 := held_free rm.out 0
      have g1 := held_free rm.out 1
      obtain ⟨W9, hW9, ya, yO⟩ := st2 rm.out (.bool false) (.int .i64 0)
      replace hB := hid (belowS hB.out yO nP)
      have ez0 := held_cell ya 0 _ rfl
      have ez1 := held_cell ya 1 _ rfl
      clear yO ya
      go_wp2_with fail
      refine bodyPost_ret (v := .tuple #[.agg #[.bool false, .int .i64 0], .int .i64 5]) (by simp [results, Tryd.results53, go_sem, ez0, ez1]) rfl ⟨by rw [eT.out], hB.out⟩
    by_cases l2 : hi < X
    · have eT := hid (show takD s W m f lo hi = (false, 0, 5) by rw [hT2, if_pos (.inr l2)])
      clear hT2
      go_enter Tryd.func53, Tryd.ntmps53
      go_upto_region 0 with (fail)
      apply wp_region_seg0 (w := w) (S := [.al 1000, .al 1000, .q []]) (E := [.al ((fun p => .pointer (some ⟨p, 0, none⟩)), _) 1000, .al ((fun p => .pointer (some ⟨p, 0, none⟩)), _) 1000, .q0 _]) rfl (by kernel_rfl) rfl rfl
      intro th hge hne
      refine Seg.step _ rfl ⟨by rfl, fun U hU => ?_⟩ ?_
      · go_simp; exact vp_alloc rfl rfl rfl
      refine Seg.sa ?_
      refine Seg.step _ rfl ⟨by rfl, fun U hU => ?_⟩ ?_
      · go_simp; exact vp_alloc rfl rfl rfl
      refine Seg.sa ?_
      refine Seg.sq ?_
      refine Seg.stop (fun U1 hU hk => ?_)
      have nb0 := hge 0 _ _ rfl
      have rb0 := (hk 0 _ _ rfl trivial).1.2 (by simp)
      have nb1 := hge 1 _ _ rfl
      have rb1 := (hk 1 _ _ rfl trivial).1.2 (by simp)
      have ne0_1 := hne 0 1 _ _ _ _ rfl rfl (by omega)
      clear hk hge hne
      generalize th (0 + 0) = p0_0 at *
      dsimp only at rb0
      generalize th (0 + 1) = p0_1 at *
      dsimp only at rb1
      have r_p0_0 := rb0
      clear rb0
      have n_p0_0 := nb0
      clear nb0
      have d_p0_0_p0_1 := ne0_1
      clear ne0_1
      have r_p0_1 := rb1
      clear rb1
      have n_p0_1 := nb1
      clear nb1
      have sz1 := hU.size
      have hB : Below w.heap.size w U1 := hU
      clear hU
      have nP : w.heap.size ≤ p0_1 := n_p0_1
      have y0 := held_cell r_p0_0 0 _ rfl
      have y1 := held_cell r_p0_0 1 _ rfl
      have y2 := held_cell r_p0_0 2 _ rfl
      have y3 := held_cell r_p0_0 3 _ rfl
      have y4 := held_cell r_p0_0 4 _ rfl
      replace hB := hid hB
      have rc := hid r_p0_0
      have rm := hid r_p0_1
      clear r_p0_0 r_p0_1
      go_wp2_with fail
      refine (kR.out _).mono ?_
      rintro e V1 ⟨rfl, hA⟩
      replace hB := hid (bthen hB.out hA)
      replace rm := hid (held_after hA rm.out)
      replace rc := hid (held_after hA rc.out)
      clear hA y0 y1 y2 y3 y4
      have y0 := held_cell rc.out 0 _ rfl
      have y1 := held_cell rc.out 1 _ rfl
      have y2 := held_cell rc.out 2 _ rfl
      have y3 := held_cell rc.out 3 _ rfl
      have y4 := held_cell rc.out 4 _ rfl
      go_wp2_with fail
      refine (kF.out _).mono ?_
      rintro e V2 ⟨rfl, hA⟩
      replace hB := hid (bthen hB.out hA)
      replace rm := hid (held_after hA rm.out)
      replace rc := hid (held_after hA rc.out)
      clear hA y0 y1 y2 y3 y4
      have y0 := held_cell rc.out 0 _ rfl
      have y1 := held_cell rc.out 1 _ rfl
      have y2 := held_cell rc.out 2 _ rfl
      have y3 := held_cell rc.out 3 _ rfl
      have y4 := held_cell rc.out 4 _ rfl
      have z0 := held_cell rm.out 0 _ rfl
      have z1 := held_cell rm.out 1 _ rfl
      have g0 := held_free rm.out 0
      have g1 := held_free rm.out 1
      obtain ⟨W9, hW9, ya, yO⟩ := st2 rm.out (.bool false) (.int .i64 0)
      replace hB := hid (belowS hB.out yO nP)
      have ez0 := held_cell ya 0 _ rfl
      have ez1 := held_cell ya 1 _ rfl
      clear yO ya
      go_wp2_with fail
      refine bodyPost_ret (v := .tuple #[.agg #[.bool false, .int .i64 0], .int .i64 5]) (by simp [results, Tryd.results53, go_sem, ez0, ez1]) rfl ⟨by rw [eT.out], hB.out⟩
    have eT := hid (show takD s W m f lo hi = (true, X, 0) by rw [hT2, if_neg (by omega)])
    clear hT2
    go_enter Tryd.func53, Tryd.ntmps53
    go_upto_region 0 with (fail)
    apply wp_region_seg0 (w := w) (S := [.al 1000, .al 1000, .q []]) (E := [.al ((fun p => .pointer (some ⟨p, 0, none⟩)), _) 1000, .al ((fun p => .pointer (some ⟨p, 0, none⟩)), _) 1000, .q0 _]) rfl (by kernel_rfl) rfl rfl
    intro th hge hne
    refine Seg.step _ rfl ⟨by rfl, fun U hU => ?_⟩ ?_
    · go_simp; exact vp_alloc rfl rfl rfl
    refine Seg.sa ?_
    refine Seg.step _ rfl ⟨by rfl, fun U hU => ?_⟩ ?_
    · go_simp; exact vp_alloc rfl rfl rfl
    refine Seg.sa ?_
    refine Seg.sq ?_
    refine Seg.stop (fun U1 hU hk => ?_)
    have nb0 := hge 0 _ _ rfl
    have rb0 := (hk 0 _ _ rfl trivial).1.2 (by simp)
    have nb1 := hge 1 _ _ rfl
    have rb1 := (hk 1 _ _ rfl trivial).1.2 (by simp)
    have ne0_1 := hne 0 1 _ _ _ _ rfl rfl (by omega)
    clear hk hge hne
    generalize th (0 + 0) = p0_0 at *
    dsimp only at rb0
    generalize th (0 + 1) = p0_1 at *
    dsimp only at rb1
    have r_p0_0 := rb0
    clear rb0
    have n_p0_0 := nb0
    clear nb0
    have d_p0_0_p0_1 := ne0_1
    clear ne0_1
    have r_p0_1 := rb1
    clear rb1
    have n_p0_1 := nb1
    clear nb1
    have sz1 := hU.size
    have hB : Below w.heap.size w U1 := hU
    clear hU
    have nP : w.heap.size ≤ p0_1 := n_p0_1
    have y0 := held_cell r_p0_0 0 _ rfl
    have y1 := held_cell r_p0_0 1 _ rfl
    have y2 := held_cell r_p0_0 2 _ rfl
    have y3 := held_cell r_p0_0 3 _ rfl
    have y4 := held_cell r_p0_0 4 _ rfl
    replace hB := hid hB
    have rc := hid r_p0_0
    have rm := hid r_p0_1
    clear r_p0_0 r_p0_1
    go_wp2_with fail
    refine (kR.out _).mono ?_
    rintro e V1 ⟨rfl, hA⟩
    replace hB := hid (bthen hB.out hA)
    replace rm := hid (held_after hA rm.out)
    replace rc := hid (held_after hA rc.out)
    clear hA y0 y1 y2 y3 y4
    have y0 := held_cell rc.out 0 _ rfl
    have y1 := held_cell rc.out 1 _ rfl
    have y2 := held_cell rc.out 2 _ rfl
    have y3 := held_cell rc.out 3 _ rfl
    have y4 := held_cell rc.out 4 _ rfl
    go_wp2_with fail
    refine (kF.out _).mono ?_
    rintro e V2 ⟨rfl, hA⟩
    replace hB := hid (bthen hB.out hA)
    replace rm := hid (held_after hA rm.out)
    replace rc := hid (held_after hA rc.out)
    clear hA y0 y1 y2 y3 y4
    have y0 := held_cell rc.out 0 _ rfl
    have y1 := held_cell rc.out 1 _ rfl
    have y2 := held_cell rc.out 2 _ rfl
    have y3 := held_cell rc.out 3 _ rfl
    have y4 := held_cell rc.out 4 _ rfl
    have z0 := held_cell rm.out 0 _ rfl
    have z1 := held_cell rm.out 1 _ rfl
    have g0 := held_free rm.out 0
    have g1 := held_free rm.out 1
    obtain ⟨W9, hW9, ya, yO⟩ := st2 rm.out (.bool true) (.int .i64 X)
    replace hB := hid (belowS hB.out yO nP)
    have ez0 := held_cell ya 0 _ rfl
    have ez1 := held_cell ya 1 _ rfl
    clear yO ya
    go_wp2_with fail
    refine bodyPost_ret (v := .tuple #[.agg #[.bool true, .int .i64 X], .int .i64 0]) (by simp [results, Tryd.results53, go_sem, ez0, ez1]) rfl ⟨by rw [eT.out], hB.out⟩
end Go.Proofs.YtobgibmpodggkaaDoor
