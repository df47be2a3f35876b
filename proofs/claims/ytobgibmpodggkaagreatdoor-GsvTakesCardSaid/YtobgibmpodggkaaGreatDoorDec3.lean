/- Package decim: Put. -/
import Derived.Test.YtobgibmpodggkaaGreatDoorDec2
import Derived.Deep.DeepCutAuto
namespace Go.Proofs.YtobgibmpodggkaaGreatDoor
open Go.ChangeShapes Go.WideShapes Go.ChangeAt Go.RowKit
set_option linter.unusedVariables false
set_option linter.unusedSimpArgs false

theorem tsz1 (S T : ByteArray) (h : S.size ≤ 1) (h1 : T.size ≤ 20) : S.size + T.size ≤ 1000000 := by omega
theorem tsz (S T U : ByteArray) (h : S.size ≤ 1) (h1 : T.size ≤ 20) (h2 : U.size ≤ 7) : S.size + T.size + U.size ≤ 1000000 := by omega
set_option maxRecDepth 100000 in
set_option maxHeartbeats 8000000 in
theorem put23_any (is : Bool) (n W M F lo hi : Int) (w : World) (hb : (-9223372036854775808 ≤ n ∧ n ≤ 9223372036854775807)) (hlb : (-9223372036854775808 ≤ lo ∧ lo ≤ 9223372036854775807) ∧ (-9223372036854775808 ≤ hi ∧ hi ≤ 9223372036854775807)) (hT : Tab w) : Calls Tryz.prog 45 #[.agg #[.bool is, .int .i64 n], .agg #[.int .i64 W, .int .i64 M, .int .i64 F, .int .i64 lo, .int .i64 hi]] w fun e w' => e = .returned (.tuple #[.string (nb (putD is n W M F lo hi).1), .int .i64 (putD is n W M F lo hi).2]) ∧ After w w' := by
  have kR := hid (fun U => right23_any W M F lo hi hlb U)
  have kM := hid (fun U => missing_any is n lo hi U)
  cases hr : rightC W M F lo hi
  · have e : putD is n W M F lo hi = ([], 1) := by unfold putD; rw [if_pos hr]
    rw [e]
    rw [hr] at kR
    clear e hr kM
    go_enter Tryz.func45, Tryz.ntmps45
    go_upto_region 0 with (fail)
    apply wp_region_seg0 (w := w) (S := [.al 1000, .al 1000, .q [], .q []]) (E := [.al ((fun p => .pointer (some ⟨p, 0, none⟩)), _) 1000, .al ((fun p => .pointer (some ⟨p, 0, none⟩)), _) 1000, .q0 _, .q0 _]) rfl (by kernel_rfl) rfl rfl
    intro th hge hne
    refine Seg.step _ rfl ⟨by rfl, fun U hU => ?_⟩ ?_
    · go_simp; exact vp_alloc rfl rfl rfl
    refine Seg.sa ?_
    refine Seg.step _ rfl ⟨by rfl, fun U hU => ?_⟩ ?_
    · go_simp; exact vp_alloc rfl rfl rfl
    refine Seg.sa ?_
    refine Seg.sq ?_
    refine Seg.sq ?_
    refine Seg.stop (fun U1 hU hk => ?_)
    have nb0 := hge 0 _ _ rfl
    have rb0 := (hk 0 _ _ rfl trivial).1.2 (by simp)
    have nb1 := hge 1 _ _ rfl
    have rb1 := (hk 1 _ _ rfl trivial).1.2 (by simp)
    have ne0_1 := hne 0 1 _ _ _ _ rfl rfl (by omega)
    clear hk hge hne
    generalize th (0 + 0) = p0_0 at *
    dsimp only at rb0
    generalize th (0 + 1) = p0_1 at *
    dsimp only at rb1
    have r_p0_0 := rb0
    clear rb0
    have n_p0_0 := nb0
    clear nb0
    have d_p0_0_p0_1 := ne0_1
    clear ne0_1
    have r_p0_1 := rb1
    clear rb1
    have n_p0_1 := nb1
    clear nb1
    have sz1 := hU.size
    have hB : Below w.heap.size w U1 := hU
    clear hU
    have y0 := held_cell r_p0_1 0 _ rfl
    have y1 := held_cell r_p0_1 1 _ rfl
    have y2 := held_cell r_p0_1 2 _ rfl
    have y3 := held_cell r_p0_1 3 _ rfl
    have y4 := held_cell r_p0_1 4 _ rfl
    replace hB := hid hB
    have rn := hid r_p0_0
    have rc := hid r_p0_1
    clear r_p0_0 r_p0_1
    go_wp2_with fail
    refine (kR.out _).mono ?_
    rintro e V1 ⟨rfl, hA⟩
    replace hB := hid (bthen hB.out hA)
    replace rn := hid (held_after hA rn.out)
    replace rc := hid (held_after hA rc.out)
    clear hA y0 y1 y2 y3 y4
    go_wp2_with fail
    go_ret2
    exact ⟨rfl, hB.out⟩
  by_cases hm : missE is n lo hi = 0
  case neg =>
    have hm5 : missE is n lo hi = 5 := by
      unfold missE at hm ⊢; split
      · rfl
      · rename_i h; rw [if_neg h] at hm; exact absurd rfl hm
    have e : putD is n W M F lo hi = ([], 5) := by unfold putD; rw [if_neg (by rw [hr]; simp), if_pos hm]
    rw [e]
    rw [hr] at kR
    clear e hr
    unfold missE at hm5
    have kM5 := hid (fun U => (show Calls Tryz.prog 50 #[.agg #[.bool is, .int .i64 n], .int .i64 lo, .int .i64 hi] U (fun e w' => e = .returned (.tuple #[.bool false, .int .i64 5]) ∧ After U w') from by have h := kM.out U; unfold missE at h; rw [hm5] at h; exact h))
    replace kM := kM5
    clear kM5 hm5 hm
    go_enter Tryz.func45, Tryz.ntmps45
    go_upto_region 0 with (fail)
    apply wp_region_seg0 (w := w) (S := [.al 1000, .al 1000, .q [], .q []]) (E := [.al ((fun p => .pointer (some ⟨p, 0, none⟩)), _) 1000, .al ((fun p => .pointer (some ⟨p, 0, none⟩)), _) 1000, .q0 _, .q0 _]) rfl (by kernel_rfl) rfl rfl
    intro th hge hne
    refine Seg.step _ rfl ⟨by rfl, fun U hU => ?_⟩ ?_
    · go_simp; exact vp_alloc rfl rfl rfl
    refine Seg.sa ?_
    refine Seg.step _ rfl ⟨by rfl, fun U hU => ?_⟩ ?_
    · go_simp; exact vp_alloc rfl rfl rfl
    refine Seg.sa ?_
    refine Seg.sq ?_
    refine Seg.sq ?_
    refine Seg.stop (fun U1 hU hk => ?_)
    have nb0 := hge 0 _ _ rfl
    have rb0 := (hk 0 _ _ rfl trivial).1.2 (by simp)
    have nb1 := hge 1 _ _ rfl
    have rb1 := (hk 1 _ _ rfl trivial).1.2 (by simp)
    have ne0_1 := hne 0 1 _ _ _ _ rfl rfl (by omega)
    clear hk hge hne
    generalize th (0 + 0) = p0_0 at *
    dsimp only at rb0
    generalize th (0 + 1) = p0_1 at *
    dsimp only at rb1
    have r_p0_0 := rb0
    clear rb0
    have n_p0_0 := nb0
    clear nb0
    have d_p0_0_p0_1 := ne0_1
    clear ne0_1
    have r_p0_1 := rb1
    clear rb1
    have n_p0_1 := nb1
    clear nb1
    have sz1 := hU.size
    have hB : Below w.heap.size w U1 := hU
    clear hU
    have y0 := held_cell r_p0_1 0 _ rfl
    have y1 := held_cell r_p0_1 1 _ rfl
    have y2 := held_cell r_p0_1 2 _ rfl
    have y3 := held_cell r_p0_1 3 _ rfl
    have y4 := held_cell r_p0_1 4 _ rfl
    replace hB := hid hB
    have rn := hid r_p0_0
    have rc := hid r_p0_1
    clear r_p0_0 r_p0_1
    go_wp2_with fail
    refine (kR.out _).mono ?_
    rintro e V1 ⟨rfl, hA⟩
    replace hB := hid (bthen hB.out hA)
    replace rn := hid (held_after hA rn.out)
    replace rc := hid (held_after hA rc.out)
    clear hA y0 y1 y2 y3 y4
    have x0 := held_cell rn.out 0 _ rfl
    have x1 := held_cell rn.out 1 _ rfl
    have y0 := held_cell rc.out 0 _ rfl
    have y1 := held_cell rc.out 1 _ rfl
    have y2 := held_cell rc.out 2 _ rfl
    have y3 := held_cell rc.out 3 _ rfl
    have y4 := held_cell rc.out 4 _ rfl
    go_wp2_with fail
    refine (kM.out _).mono ?_
    rintro e V2 ⟨rfl, hA⟩
    replace hB := hid (bthen hB.out hA)
    replace rn := hid (held_after hA rn.out)
    replace rc := hid (held_after hA rc.out)
    clear hA y0 y1 y2 y3 y4 x0 x1
    go_wp2_with fail
    go_ret2
    exact ⟨rfl, hB.out⟩
  cases is
  · have n0 : n = 0 := by
      refine Decidable.byContradiction fun h => ?_
      unfold missE at hm; rw [if_pos (.inl ⟨rfl, h⟩)] at hm; exact absurd hm (by decide)
    have e : putD false n W M F lo hi = ([], 0) := by unfold putD; rw [if_neg (by rw [hr]; simp), if_neg (by rw [hm]; simp), if_pos rfl]
    rw [e]
    rw [hr] at kR
    clear e hr
    have kM5 := hid (fun U => (show Calls Tryz.prog 50 #[.agg #[.bool false, .int .i64 n], .int .i64 lo, .int .i64 hi] U (fun e w' => e = .returned (.tuple #[.bool true, .int .i64 0]) ∧ After U w') from by have h := kM.out U; rw [hm] at h; exact h))
    replace kM := kM5
    clear kM5 hm
    subst n0
    go_enter Tryz.func45, Tryz.ntmps45
    go_upto_region 0 with (fail)
    apply wp_region_seg0 (w := w) (S := [.al 1000, .al 1000, .q [], .q []]) (E := [.al ((fun p => .pointer (some ⟨p, 0, none⟩)), _) 1000, .al ((fun p => .pointer (some ⟨p, 0, none⟩)), _) 1000, .q0 _, .q0 _]) rfl (by kernel_rfl) rfl rfl
    intro th hge hne
    refine Seg.step _ rfl ⟨by rfl, fun U hU => ?_⟩ ?_
    · go_simp; exact vp_alloc rfl rfl rfl
    refine Seg.sa ?_
    refine Seg.step _ rfl ⟨by rfl, fun U hU => ?_⟩ ?_
    · go_simp; exact vp_alloc rfl rfl rfl
    refine Seg.sa ?_
    refine Seg.sq ?_
    refine Seg.sq ?_
    refine Seg.stop (fun U1 hU hk => ?_)
    have nb0 := hge 0 _ _ rfl
    have rb0 := (hk 0 _ _ rfl trivial).1.2 (by simp)
    have nb1 := hge 1 _ _ rfl
    have rb1 := (hk 1 _ _ rfl trivial).1.2 (by simp)
    have ne0_1 := hne 0 1 _ _ _ _ rfl rfl (by omega)
    clear hk hge hne
    generalize th (0 + 0) = p0_0 at *
    dsimp only at rb0
    generalize th (0 + 1) = p0_1 at *
    dsimp only at rb1
    have r_p0_0 := rb0
    clear rb0
    have n_p0_0 := nb0
    clear nb0
    have d_p0_0_p0_1 := ne0_1
    clear ne0_1
    have r_p0_1 := rb1
    clear rb1
    have n_p0_1 := nb1
    clear nb1
    have sz1 := hU.size
    have hB : Below w.heap.size w U1 := hU
    clear hU
    have y0 := held_cell r_p0_1 0 _ rfl
    have y1 := held_cell r_p0_1 1 _ rfl
    have y2 := held_cell r_p0_1 2 _ rfl
    have y3 := held_cell r_p0_1 3 _ rfl
    have y4 := held_cell r_p0_1 4 _ rfl
    replace hB := hid hB
    have rn := hid r_p0_0
    have rc := hid r_p0_1
    clear r_p0_0 r_p0_1
    go_wp2_with fail
    refine (kR.out _).mono ?_
    rintro e V1 ⟨rfl, hA⟩
    replace hB := hid (bthen hB.out hA)
    replace rn := hid (held_after hA rn.out)
    replace rc := hid (held_after hA rc.out)
    clear hA y0 y1 y2 y3 y4
    have x0 := held_cell rn.out 0 _ rfl
    have x1 := held_cell rn.out 1 _ rfl
    have y0 := held_cell rc.out 0 _ rfl
    have y1 := held_cell rc.out 1 _ rfl
    have y2 := held_cell rc.out 2 _ rfl
    have y3 := held_cell rc.out 3 _ rfl
    have y4 := held_cell rc.out 4 _ rfl
    go_wp2_with fail
    refine (kM.out _).mono ?_
    rintro e V2 ⟨rfl, hA⟩
    replace hB := hid (bthen hB.out hA)
    replace rn := hid (held_after hA rn.out)
    replace rc := hid (held_after hA rc.out)
    clear hA y0 y1 y2 y3 y4 x0 x1
    go_wp2_with fail
    go_ret2
    exact ⟨rfl, hB.out⟩
  have hc := rightC_is.1 hr
  have hn : lo ≤ n ∧ n ≤ hi := by
    refine Decidable.byContradiction fun h => ?_
    unfold missE at hm; rw [if_pos (.inr ⟨rfl, by omega⟩)] at hm; exact absurd hm (by decide)
  have e : putD true n W M F lo hi = (sgnV n ++ numV n.natAbs W.toNat F.toNat, 0) := by unfold putD; rw [if_neg (by rw [hr]; simp), if_neg (by rw [hm]; simp), if_neg (by simp)]
  rw [e]
  rw [hr] at kR
  clear e hr
  obtain ⟨c0, c1, c2, c3, c4, c5, c6, c7⟩ := hc
  obtain ⟨wn, rfl⟩ := Int.eq_ofNat_of_zero_le (show 0 ≤ W by omega)
  obtain ⟨f, rfl⟩ := Int.eq_ofNat_of_zero_le c3
  have hp18 := p10_le (k := (M + (f : Int)).toNat) (by omega)
  have hpM := p10_mono (a := f) (b := 6) (by omega)
  have hp0 := p10_pos f
  have hp6 : p10 6 = 1000000 := by decide +kernel
  obtain ⟨a, ha⟩ : ∃ a, n.natAbs = a := ⟨_, rfl⟩
  have ha18 : a < 1000000000000000000 := by omega
  rw [ha, Int.toNat_natCast, Int.toNat_natCast]
  have kM5 := hid (fun U => (show Calls Tryz.prog 50 #[.agg #[.bool true, .int .i64 n], .int .i64 lo, .int .i64 hi] U (fun e w' => e = .returned (.tuple #[.bool false, .int .i64 0]) ∧ After U w') from by have h := kM.out U; rw [hm] at h; exact h))
  replace kM := kM5
  clear kM5
  clear hm c6 c7 hp18 hlb
  have kW := hid (fun U => power10_any f (by omega) U)
  obtain ⟨P, hP⟩ : ∃ P : Nat, 10 ^ f = P := ⟨_, rfl⟩
  have hPi : p10 f = (P : Int) := by unfold p10; rw [hP]
  rw [hPi] at kW hp0 hpM
  have hml : a % P < 10 ^ f := by rw [hP]; exact Nat.mod_lt _ (by omega)
  have hdl := Nat.div_le_self a P
  have kD := hid (fun U (h : Tab U) => padV_dig (n := a / P) (show 1 ≤ wn by omega) ▸ padded_any (a / P) wn U h (by omega) (by omega) (by omega))
  have kB := hid (fun U (h : Tab U) => behind_any (a % P) f U h (by omega) hml)
  have ed : ((a : Int)).tdiv P = ((a / P : Nat) : Int) := by rw [Int.tdiv_eq_ediv_of_nonneg (by omega)]; simp
  have em : ((a : Int)).tmod P = ((a % P : Nat) : Int) := by rw [Int.tmod_eq_emod_of_nonneg (by omega)]; simp
  have hout : nb (sgnV n ++ numV a wn f) = nb (sgnV n) ++ nb (digV (a / P) wn) ++ nb (behV f (a % P)) := by unfold numV; rw [hP, ← List.append_assoc, nb_app, nb_app]
  have s1 : (nb (digV (a / P) wn)).size ≤ 20 := by
    rw [nb_size, digV_len]
    have := nd_le (n := a / P) (k := 18) (by have h18 : (10 : Nat) ^ 18 = 1000000000000000000 := rfl; omega)
    omega
  have s2 : (nb (behV f (a % P))).size ≤ 7 := by rw [nb_size]; have := behV_len f (a % P); omega
  rw [hout]
  clear hout hml
  generalize nb (digV (a / P) wn) = T1 at *
  generalize nb (behV f (a % P)) = T2 at *
  obtain ⟨q, hq⟩ : ∃ q, a / P = q := ⟨_, rfl⟩
  obtain ⟨m, hm⟩ : ∃ m, a % P = m := ⟨_, rfl⟩
  have hmP : m < P := by rw [← hm]; exact Nat.mod_lt _ (by omega)
  rw [hq] at kD ed hdl
  rw [hm] at kB em
  clear hq hm hP hPi hp6
  have wq : IntKind.i64.wrap (q : Int) = q := by rw [IntKind.wrap_i64] <;> omega
  have pz : ((P : Int) == 0) = false := by simp; omega
  have pz2 : ¬ P = 0 := by omega
  by_cases hs : n < 0
  · have eS : nb (sgnV n) = ⟨#[45]⟩ := by unfold sgnV; rw [if_pos hs]; rfl
    rw [eS]
    clear eS
    have k1 := fun U => tadd (P := Tryz.prog) ⟨#[45]⟩ T1 (tsz1 ⟨#[45]⟩ T1 (by decide +kernel) s1) U
    have k2 := fun U => tadd (P := Tryz.prog) (⟨#[45]⟩ ++ T1) T2 (by rw [ByteArray.size_append]; exact tsz ⟨#[45]⟩ T1 T2 (by decide +kernel) s1 s2) U
    skip
    have en : n = -(a : Int) := by omega
    have a0 : 0 < (a : Int) := by omega
    clear ha
    subst en
    have wn2 : IntKind.i64.wrap (a : Int) = a := by rw [IntKind.wrap_i64] <;> omega
    go_enter Tryz.func45, Tryz.ntmps45
    go_upto_region 0 with (fail)
    apply wp_region_seg0 (w := w) (S := [.al 1000, .al 1000, .q [], .q []]) (E := [.al ((fun p => .pointer (some ⟨p, 0, none⟩)), _) 1000, .al ((fun p => .pointer (some ⟨p, 0, none⟩)), _) 1000, .q0 _, .q0 _]) rfl (by kernel_rfl) rfl rfl
    intro th hge hne
    refine Seg.step _ rfl ⟨by rfl, fun U hU => ?_⟩ ?_
    · go_simp; exact vp_alloc rfl rfl rfl
    refine Seg.sa ?_
    refine Seg.step _ rfl ⟨by rfl, fun U hU => ?_⟩ ?_
    · go_simp; exact vp_alloc rfl rfl rfl
    refine Seg.sa ?_
    refine Seg.sq ?_
    refine Seg.sq ?_
    refine Seg.stop (fun U1 hU hk => ?_)
    have nb0 := hge 0 _ _ rfl
    have rb0 := (hk 0 _ _ rfl trivial).1.2 (by simp)
    have nb1 := hge 1 _ _ rfl
    have rb1 := (hk 1 _ _ rfl trivial).1.2 (by simp)
    have ne0_1 := hne 0 1 _ _ _ _ rfl rfl (by omega)
    clear hk hge hne
    generalize th (0 + 0) = p0_0 at *
    dsimp only at rb0
    generalize th (0 + 1) = p0_1 at *
    dsimp only at rb1
    have r_p0_0 := rb0
    clear rb0
    have n_p0_0 := nb0
    clear nb0
    have d_p0_0_p0_1 := ne0_1
    clear ne0_1
    have r_p0_1 := rb1
    clear rb1
    have n_p0_1 := nb1
    clear nb1
    have sz1 := hU.size
    have hB : Below w.heap.size w U1 := hU
    clear hU
    have y0 := held_cell r_p0_1 0 _ rfl
    have y1 := held_cell r_p0_1 1 _ rfl
    have y2 := held_cell r_p0_1 2 _ rfl
    have y3 := held_cell r_p0_1 3 _ rfl
    have y4 := held_cell r_p0_1 4 _ rfl
    replace hB := hid hB
    have rn := hid r_p0_0
    have rc := hid r_p0_1
    clear r_p0_0 r_p0_1
    go_wp2_with fail
    refine (kR.out _).mono ?_
    rintro e V1 ⟨rfl, hA⟩
    replace hB := hid (bthen hB.out hA)
    replace rn := hid (held_after hA rn.out)
    replace rc := hid (held_after hA rc.out)
    clear hA y0 y1 y2 y3 y4
    have x0 := held_cell rn.out 0 _ rfl
    have x1 := held_cell rn.out 1 _ rfl
    have y0 := held_cell rc.out 0 _ rfl
    have y1 := held_cell rc.out 1 _ rfl
    have y2 := held_cell rc.out 2 _ rfl
    have y3 := held_cell rc.out 3 _ rfl
    have y4 := held_cell rc.out 4 _ rfl
    go_wp2_with fail
    refine (kM.out _).mono ?_
    rintro e V2 ⟨rfl, hA⟩
    replace hB := hid (bthen hB.out hA)
    replace rn := hid (held_after hA rn.out)
    replace rc := hid (held_after hA rc.out)
    clear hA y0 y1 y2 y3 y4 x0 x1
    go_upto_region 6 with (fail)
    replace hB := hB.out
    apply wp_region_seg (w := V2) (S := [.q [], .q [], .q [], .q []]) (E := [.q0 _, .q0 _, .q0 _, .q0 _]) (by kernel_rfl) rfl (by kernel_rfl) rfl rfl
    intro th hge hne
    refine Seg.sq ?_
    refine Seg.sq ?_ (ht := Or.inl ⟨by rfl, fun U hU => vp_quiet (by (have h0 := held_cell (held_after hU.1 rn.out) 1 _ rfl; go_simp <;> exact rfl))⟩)
    refine Seg.sq ?_
    refine Seg.sq ?_
    refine Seg.stop (fun U2 hU hk => ?_)
    clear hk hge hne
    have sz2 := hU.size
    replace hB := bthen hB hU
    replace rc := hid (held_after hU rc.out)
    replace rn := hid (held_after hU rn.out)
    clear hU
    replace hB := hid hB
    have x0 := held_cell rn.out 0 _ rfl
    have x1 := held_cell rn.out 1 _ rfl
    have y0 := held_cell rc.out 0 _ rfl
    have y1 := held_cell rc.out 1 _ rfl
    have y2 := held_cell rc.out 2 _ rfl
    have y3 := held_cell rc.out 3 _ rfl
    have y4 := held_cell rc.out 4 _ rfl
    go_wp2_with fail
    refine (kW.out _).mono ?_
    rintro e V ⟨rfl, hv⟩
    obtain rfl : U2 = V := hv.symm
    clear hv
    go_upto_region 10 with (fail)
    have hTb := hid (hT.on hB.out)
    replace hB := hB.out
    apply wp_region_seg (w := U2) (S := [.q [], .q [], .q [], .q [], .q [], .q [], .q [], .q [], .q [], .q [], .q [], .q [], .q [], .q [], .q [], .q [], .q []]) (E := [.q0 _, .q0 _, .q0 _, .q0 _, .q0 _, .q0 _, .c0 _, .q0 _, .q0 _, .q0 _, .q0 _, .q0 _, .q0 _, .c0 _, .q0 _, .q0 _, .q0 _]) (by kernel_rfl) rfl (by kernel_rfl) rfl rfl
    intro th hge hne
    iterate 5 refine Seg.sq ?_
    refine Seg.sq ?_ (ht := Or.inl ⟨by rfl, fun U hU => vp_quiet (by (have h0 := held_cell (held_after hU.1 rc.out) 0 _ rfl; go_simp <;> exact rfl))⟩)
    refine Seg.step _ rfl (Or.inl ⟨by rfl, fun U hU => ?_⟩) ?_
    · go_simp
      refine vp_call (kD.out _ (hTb.out.on hU.1))
    refine Seg.sa ?_
    iterate 5 refine Seg.sq ?_
    refine Seg.sq ?_ (ht := Or.inl ⟨by rfl, fun U hU => vp_quiet (by (have h0 := held_cell (held_after hU.1 rc.out) 2 _ rfl; go_simp <;> exact rfl))⟩)
    refine Seg.step _ rfl (Or.inl ⟨by rfl, fun U hU => ?_⟩) ?_
    · go_simp
      refine vp_call (kB.out _ (hTb.out.on hU.1))
    refine Seg.sa ?_
    iterate 3 refine Seg.sq ?_
    refine Seg.stop (fun U3 hU hk => ?_)
    clear hk hge hne
    have sz3 := hU.size
    replace hB := bthen hB hU
    clear hU
    go_wp2_with fail
    go_ret2
    exact ⟨rfl, hB⟩
  · have eS : nb (sgnV n) = ⟨#[]⟩ := by unfold sgnV; rw [if_neg hs]; rfl
    rw [eS]
    clear eS
    have k1 := fun U => tadd (P := Tryz.prog) ⟨#[]⟩ T1 (tsz1 ⟨#[]⟩ T1 (by decide +kernel) s1) U
    have k2 := fun U => tadd (P := Tryz.prog) (⟨#[]⟩ ++ T1) T2 (by rw [ByteArray.size_append]; exact tsz ⟨#[]⟩ T1 T2 (by decide +kernel) s1 s2) U
    skip
    have en : n = (a : Int) := by omega
    subst en
    go_enter Tryz.func45, Tryz.ntmps45
    go_upto_region 0 with (fail)
    apply wp_region_seg0 (w := w) (S := [.al 1000, .al 1000, .q [], .q []]) (E := [.al ((fun p => .pointer (some ⟨p, 0, none⟩)), _) 1000, .al ((fun p => .pointer (some ⟨p, 0, none⟩)), _) 1000, .q0 _, .q0 _]) rfl (by kernel_rfl) rfl rfl
    intro th hge hne
    refine Seg.step _ rfl ⟨by rfl, fun U hU => ?_⟩ ?_
    · go_simp; exact vp_alloc rfl rfl rfl
    refine Seg.sa ?_
    refine Seg.step _ rfl ⟨by rfl, fun U hU => ?_⟩ ?_
    · go_simp; exact vp_alloc rfl rfl rfl
    refine Seg.sa ?_
    refine Seg.sq ?_
    refine Seg.sq ?_
    refine Seg.stop (fun U1 hU hk => ?_)
    have nb0 := hge 0 _ _ rfl
    have rb0 := (hk 0 _ _ rfl trivial).1.2 (by simp)
    have nb1 := hge 1 _ _ rfl
    have rb1 := (hk 1 _ _ rfl trivial).1.2 (by simp)
    have ne0_1 := hne 0 1 _ _ _ _ rfl rfl (by omega)
    clear hk hge hne
    generalize th (0 + 0) = p0_0 at *
    dsimp only at rb0
    generalize th (0 + 1) = p0_1 at *
    dsimp only at rb1
    have r_p0_0 := rb0
    clear rb0
    have n_p0_0 := nb0
    clear nb0
    have d_p0_0_p0_1 := ne0_1
    clear ne0_1
    have r_p0_1 := rb1
    clear rb1
    have n_p0_1 := nb1
    clear nb1
    have sz1 := hU.size
    have hB : Below w.heap.size w U1 := hU
    clear hU
    have y0 := held_cell r_p0_1 0 _ rfl
    have y1 := held_cell r_p0_1 1 _ rfl
    have y2 := held_cell r_p0_1 2 _ rfl
    have y3 := held_cell r_p0_1 3 _ rfl
    have y4 := held_cell r_p0_1 4 _ rfl
    replace hB := hid hB
    have rn := hid r_p0_0
    have rc := hid r_p0_1
    clear r_p0_0 r_p0_1
    go_wp2_with fail
    refine (kR.out _).mono ?_
    rintro e V1 ⟨rfl, hA⟩
    replace hB := hid (bthen hB.out hA)
    replace rn := hid (held_after hA rn.out)
    replace rc := hid (held_after hA rc.out)
    clear hA y0 y1 y2 y3 y4
    have x0 := held_cell rn.out 0 _ rfl
    have x1 := held_cell rn.out 1 _ rfl
    have y0 := held_cell rc.out 0 _ rfl
    have y1 := held_cell rc.out 1 _ rfl
    have y2 := held_cell rc.out 2 _ rfl
    have y3 := held_cell rc.out 3 _ rfl
    have y4 := held_cell rc.out 4 _ rfl
    go_wp2_with fail
    refine (kM.out _).mono ?_
    rintro e V2 ⟨rfl, hA⟩
    replace hB := hid (bthen hB.out hA)
    replace rn := hid (held_after hA rn.out)
    replace rc := hid (held_after hA rc.out)
    clear hA y0 y1 y2 y3 y4 x0 x1
    go_upto_region 6 with (fail)
    replace hB := hB.out
    apply wp_region_seg (w := V2) (S := [.q [], .q [], .q [], .q []]) (E := [.q0 _, .q0 _, .q0 _, .q0 _]) (by kernel_rfl) rfl (by kernel_rfl) rfl rfl
    intro th hge hne
    refine Seg.sq ?_
    refine Seg.sq ?_ (ht := Or.inl ⟨by rfl, fun U hU => vp_quiet (by (have h0 := held_cell (held_after hU.1 rn.out) 1 _ rfl; go_simp <;> exact rfl))⟩)
    refine Seg.sq ?_
    refine Seg.sq ?_
    refine Seg.stop (fun U2 hU hk => ?_)
    clear hk hge hne
    have sz2 := hU.size
    replace hB := bthen hB hU
    replace rc := hid (held_after hU rc.out)
    replace rn := hid (held_after hU rn.out)
    clear hU
    replace hB := hid hB
    have x0 := held_cell rn.out 0 _ rfl
    have x1 := held_cell rn.out 1 _ rfl
    have y0 := held_cell rc.out 0 _ rfl
    have y1 := held_cell rc.out 1 _ rfl
    have y2 := held_cell rc.out 2 _ rfl
    have y3 := held_cell rc.out 3 _ rfl
    have y4 := held_cell rc.out 4 _ rfl
    go_wp2_with fail
    refine (kW.out _).mono ?_
    rintro e V ⟨rfl, hv⟩
    obtain rfl : U2 = V := hv.symm
    clear hv
    go_upto_region 10 with (fail)
    have hTb := hid (hT.on hB.out)
    replace hB := hB.out
    apply wp_region_seg (w := U2) (S := [.q [], .q [], .q [], .q [], .q [], .q [], .q [], .q [], .q [], .q [], .q [], .q [], .q [], .q [], .q [], .q [], .q []]) (E := [.q0 _, .q0 _, .q0 _, .q0 _, .q0 _, .q0 _, .c0 _, .q0 _, .q0 _, .q0 _, .q0 _, .q0 _, .q0 _, .c0 _, .q0 _, .q0 _, .q0 _]) (by kernel_rfl) rfl (by kernel_rfl) rfl rfl
    intro th hge hne
    iterate 5 refine Seg.sq ?_
    refine Seg.sq ?_ (ht := Or.inl ⟨by rfl, fun U hU => vp_quiet (by (have h0 := held_cell (held_after hU.1 rc.out) 0 _ rfl; go_simp <;> exact rfl))⟩)
    refine Seg.step _ rfl (Or.inl ⟨by rfl, fun U hU => ?_⟩) ?_
    · go_simp
      refine vp_call (kD.out _ (hTb.out.on hU.1))
    refine Seg.sa ?_
    iterate 5 refine Seg.sq ?_
    refine Seg.sq ?_ (ht := Or.inl ⟨by rfl, fun U hU => vp_quiet (by (have h0 := held_cell (held_after hU.1 rc.out) 2 _ rfl; go_simp <;> exact rfl))⟩)
    refine Seg.step _ rfl (Or.inl ⟨by rfl, fun U hU => ?_⟩) ?_
    · go_simp
      refine vp_call (kB.out _ (hTb.out.on hU.1))
    refine Seg.sa ?_
    iterate 3 refine Seg.sq ?_
    refine Seg.stop (fun U3 hU hk => ?_)
    clear hk hge hne
    have sz3 := hU.size
    replace hB := bthen hB hU
    clear hU
    go_wp2_with fail
    go_ret2
    exact ⟨rfl, hB⟩
end Go.Proofs.YtobgibmpodggkaaGreatDoor
