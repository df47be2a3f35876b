/- The papers' number, Take. -/
import Derived.Test.YtfihdgichmocmaaShape9
import Derived.Deep.DeepCutAuto
namespace Go.Proofs.Ytfihdgichmocmaa
open Go.ChangeShapes Go.WideShapes Go.ChangeAt Go.RowKit
set_option linter.unusedVariables false
set_option linter.unusedSimpArgs false

def numU (sg : Bool) (n : Nat) (bs : List Int) : Int := if sg then sgn n (numB bs n) else (numB bs n : Int) % 9223372036854775808
def numK (sg : Bool) (n : Nat) (bs : List Int) : Bool := if sg then true else decide ((numB bs n : Int) < 9223372036854775808)
theorem num_ok {sg : Bool} {n : Nat} {bs : List Int} (h : numK sg n bs = true) : numU sg n bs = numF sg n bs := by
  unfold numU numF
  cases sg
  · unfold numK at h
    simp only [Bool.false_eq_true, if_false, decide_eq_true_eq] at h
    simp only [Bool.false_eq_true, if_false]
    rw [IntKind.wrap_i64]
    omega
  · rfl
theorem num_no {sg : Bool} {n : Nat} {bs : List Int} (h : numK sg n bs = false) (hb : ∀ x ∈ bs, 0 ≤ x ∧ x ≤ 255) (h8 : n ≤ 8) : sg = false ∧ numF sg n bs < 0 := by
  cases sg
  · refine ⟨rfl, ?_⟩
    unfold numK at h
    simp only [Bool.false_eq_true, if_false, decide_eq_false_iff_not] at h
    have h3 := numB_lt bs (fun i => by have := getD_bd hb i; omega) n
    have h4 : 256 ^ n ≤ 256 ^ 8 := Nat.pow_le_pow_right (by decide) h8
    have h5 : (256 : Nat) ^ 8 = 18446744073709551616 := by decide
    unfold numF
    simp only [Bool.false_eq_true, if_false]
    rw [IntKind.wrap_i64]
    omega
  · cases h
set_option maxRecDepth 100000 in
set_option maxHeartbeats 2000000 in
theorem rnum_false (n : Nat) (lo hi : Int) (n1 : 1 ≤ n) (n8 : n ≤ 8) (a : Option Addr) (cap : Nat) (bs : List Int) (w : World) (hS : Sl .u8 w a n cap bs) (hb : ∀ x ∈ bs, 0 ≤ x ∧ x ≤ 255) : Calls Try.prog 50 #[.agg #[.int .i64 n, .bool false, .int .i64 lo, .int .i64 hi], .slice a n cap] w fun e w' => e = .returned (.tuple #[.int .i64 (numU false n bs), .bool (numK false n bs)]) ∧ After w w' := by
  have hW := alloc_new w (.cells #[.int .i64 n, .bool false, .int .i64 lo, .int .i64 hi] 35)
  have hA := hid hW.2.1
  have kn := rnumber_any a n cap bs _ (hS.below hW.2.1) hb n8
  have hl := hS.1
  have en : numR bs = numB bs n := by rw [numR_all, hl]
  rw [en] at kn
  have hlt := numB_lt bs (fun i => by have := getD_bd hb i; omega) n
  unfold numU numK
  simp only [Bool.false_eq_true, if_false]
  have hlt2 : 256 ^ n ≤ 256 ^ 8 := Nat.pow_le_pow_right (by decide) n8
  have h5 : (256 : Nat) ^ 8 = 18446744073709551616 := by decide
  generalize numB bs n = N at *
  have hN0 : (0 : Int) ≤ N := by omega
  have hN : (N : Int) < 18446744073709551616 := by omega
  clear hlt hlt2 h5
  generalize (N : Int) = M at *
  replace hN := hid hN
  replace kn := hid kn
  clear hW en hS hb hl
  go_enter Try.func50, Try.ntmps50
  go_wp2_with fail
  refine kn.out.mono ?_
  rintro e V ⟨rfl, rfl⟩
  go_wp2_with fail
  go_ret2
  exact ⟨rfl, hA.out⟩
set_option maxRecDepth 100000 in
set_option maxHeartbeats 2000000 in
theorem rnum_true (n : Nat) (lo hi : Int) (n1 : 1 ≤ n) (n8 : n ≤ 8) (a : Option Addr) (cap : Nat) (bs : List Int) (w : World) (hS : Sl .u8 w a n cap bs) (hb : ∀ x ∈ bs, 0 ≤ x ∧ x ≤ 255) : Calls Try.prog 50 #[.agg #[.int .i64 n, .bool true, .int .i64 lo, .int .i64 hi], .slice a n cap] w fun e w' => e = .returned (.tuple #[.int .i64 (numU true n bs), .bool (numK true n bs)]) ∧ After w w' := by
  have hW := alloc_new w (.cells #[.int .i64 n, .bool true, .int .i64 lo, .int .i64 hi] 35)
  have hA := hid hW.2.1
  have kn := rnumber_any a n cap bs _ (hS.below hW.2.1) hb n8
  have hl := hS.1
  have en : numR bs = numB bs n := by rw [numR_all, hl]
  rw [en] at kn
  have hlt := numB_lt bs (fun i => by have := getD_bd hb i; omega) n
  have ks := fun W => rsigned_any n n1 n8 _ hlt W
  unfold numU numK
  simp only [if_true]
  generalize sgn n (numB bs n) = S at *
  generalize numB bs n = N at *
  replace ks := hid ks
  clear hlt
  replace kn := hid kn
  clear hW en hS hb hl
  go_enter Try.func50, Try.ntmps50
  go_wp2_with fail
  refine kn.out.mono ?_
  rintro e V ⟨rfl, rfl⟩
  go_wp2_with fail
  refine (ks.out _).mono ?_
  rintro e V ⟨rfl, rfl⟩
  go_wp2_with fail
  go_ret2
  exact ⟨rfl, hA.out⟩
theorem range_next (g : Nat → Int) (k : Nat) : (List.range (k + 1)).map g = (List.range k).map g ++ [g k] := by rw [List.range_succ, List.map_append]; rfl
set_option maxRecDepth 100000 in
set_option maxHeartbeats 4000000 in
theorem rstake_any (a : Option Addr) (len cap : Nat) (f0 : Nat → Int) (f1 : Nat → Bool) (f2 f3 : Nat → Int) (ba : Option Addr) (bl bc : Nat) (zs : List Int) (w : World) (hF : Flds w a len cap f0 f1 f2 f3) (hS : Sl .u8 w ba bl bc zs) (hz : ∀ x ∈ zs, (Lit.int .u8 x).wf = true) (h200 : len ≤ 1000) (hbl : bl ≤ 100000) : Calls Try.prog 31 #[.slice a len cap, .slice ba bl bc] w (NsOk w (takF f0 f1 f2 f3 len zs)) := by
  have kr := fun v : World => fun h : Flds v a len cap f0 f1 f2 f3 => rrightl_any a len cap f0 f1 f2 f3 v h
  have kw := fun v : World => fun h : Flds v a len cap f0 f1 f2 f3 => rwidth_any a len cap f0 f1 f2 f3 v h h200
  have ezl := hS.1
  have hz2 := bytes_bd hz
  have hcm := hS.2.2.1
  unfold maxLen at hcm
  have hlc := hS.2.1
  cases hal : allR f0 f1 f2 f3 len
  · have hV : takF f0 f1 f2 f3 len zs = ([], 1) := by unfold takF; rw [if_neg (by rw [hal]; simp)]
    rw [hV]
    rw [hal] at kr
    clear hV hal hz hz2
    replace kr := hid kr
    replace kw := hid kw
    replace hF := hid hF
    replace hS := hid hS
    replace ezl := hid ezl
    go_enter Try.func31, Try.ntmps31
    go_wp2_with fail
    refine (kr.out _ hF.out).mono ?_
    rintro e V ⟨rfl, hst⟩
    replace hst := hid hst
    go_wp2_with fail
    go_ret2
    exact NsOk.no hst.out
  have hG : takF f0 f1 f2 f3 len zs = (if (zs.length : Int) < sumW f0 len then ([], 2) else if sumW f0 len < (zs.length : Int) then ([], 7) else if inV f2 f3 (numAt f0 f1 zs) len = true then ((List.range len).map (numAt f0 f1 zs), 0) else ([], 5)) := by unfold takF; rw [if_pos hal]
  obtain ⟨r, hr⟩ : ∃ r, takF f0 f1 f2 f3 len zs = r := ⟨_, rfl⟩
  rw [hr] at hG
  rw [hr]
  clear hr
  have hWd : widthS f0 f1 f2 f3 len = sumW f0 len := by unfold widthS; rw [if_pos hal]
  have sbd := sumW_bd hal len (Nat.le_refl _)
  have hsum := hid (fun k (hk : k ≤ len) => sumW_bd hal k hk)
  have hmono := hid (fun k (hk : k < len) => sumW_le hal (len - (k + 1)) (k + 1) (by omega))
  obtain ⟨SW, hSW⟩ : ∃ SW, sumW f0 len = SW := ⟨_, rfl⟩
  rw [hWd] at kw
  rw [hSW] at kw hG sbd
  rw [hal] at kr
  rw [ezl] at hG
  replace hG := hid hG
  replace hSW := hid hSW
  replace hal := hid hal
  replace hz2 := hid hz2
  clear hWd hz
  replace kr := hid kr
  replace kw := hid kw
  replace hF := hid hF
  replace hS := hid hS
  replace ezl := hid ezl
  go_enter Try.func31, Try.ntmps31
  go_wp2_with fail
  refine (kr.out _ hF.out).mono ?_
  rintro e V ⟨rfl, hst⟩
  replace hst := hid hst
  go_wp2_with fail
  refine (kw.out _ (hF.out.below hst.out)).mono ?_
  rintro e VA ⟨rfl, hst2⟩
  replace hst := hid (bthen hst.out hst2)
  clear hst2
  by_cases c1 : (bl : Int) < SW
  case pos =>
    replace hG := hid (hG.out.trans (if_pos c1))
    go_wp2_with fail
    go_ret2
    rw [hG.out]
    exact NsOk.no hst.out
  replace hG := hid (hG.out.trans (if_neg c1))
  go_wp2_with fail
  refine (kw.out _ (hF.out.below hst.out)).mono ?_
  rintro e VB ⟨rfl, hst2⟩
  replace hst := hid (bthen hst.out hst2)
  clear hst2
  by_cases c2 : SW < (bl : Int)
  case pos =>
    replace hG := hid (hG.out.trans (if_pos c2))
    go_wp2_with fail
    go_ret2
    rw [hG.out]
    exact NsOk.no hst.out
  replace hG := hid (hG.out.trans (if_neg c2))
  have eSW : SW = bl := by omega
  replace eSW := hid eSW
  have hszV := hst.out.size
  go_wp2_with fail
  obtain ⟨g, hgg⟩ : ∃ g, numAt f0 f1 zs = g := ⟨_, rfl⟩
  rw [hgg] at hG
  replace hgg := hid hgg
  go_loopw [6, 7, 8] (fun o m i wr => ∃ (k M : Nat) (oa : Option Addr) (oc : Nat), k ≤ len ∧ i = .int .i64 k ∧ Go.RowKit.Hid (sumW f0 k = (M : Int)) ∧ m = .int .i64 M ∧ o = .slice oa k oc ∧ Go.RowKit.Hid (inV f2 f3 g k = true) ∧ Own .i64 2 wr w.heap.size (.slice oa k oc) ((List.range k).map g) ∧ Below w.heap.size w wr) (fun _ _ i _ => len - (intOf i).toNat)
  case atStart => exact ⟨0, 0, none, 0, by omega, rfl, hid rfl, rfl, rfl, hid rfl, Own.nil _ _ _ _, hst.out⟩
  case round =>
    clear hst
    obtain ⟨k, M, oa, oc, hk, rfl, hM, rfl, rfl, hd, hO, hB⟩ := hrel
    have hws := hB.size
    by_cases hlt : (k : Int) < len
    case neg =>
      obtain rfl : k = len := by omega
      replace hG := hid (hG.out.trans (if_pos hd.out))
      have el : ((List.range k).map g).length = k := by simp
      replace hB := hid hB
      replace hO := hid hO
      replace el := hid el
      go_wp2_with fail
      go_ret2
      rw [hG.out]
      exact ⟨oa, oc, by rw [el.out]; rfl, by rw [el.out]; exact hO.out, hB.out⟩
    have hlt2 : k < len := by omega
    obtain ⟨b, off, rfl, l0, l1, l2, l3⟩ := (hF.out.below hB).2.2.2 k hlt2
    have kz : (0 : Int) ≤ k := by omega
    have hri := allR_at hal.out hlt2
    have hr5 := right_sz hri
    have n1 := hr5.1
    have n8 := hr5.2.1
    have sm := hmono.out k hlt2
    rw [show k + 1 + (len - (k + 1)) = len by omega, hSW.out, eSW.out] at sm
    have hsn : sumW f0 (k + 1) = sumW f0 k + f0 k := rfl
    rw [hM.out] at hsn
    rw [hsn] at sm
    have hgk : g k = numF (f1 k) (f0 k).toNat ((zs.drop M).take (f0 k).toNat) := by rw [← hgg.out]; unfold numAt pcs; rw [hM.out]; rfl
    have hlon : f1 k = false → 0 ≤ f2 k := fun h => by have := hr5.2.2.2.1; rw [h] at this; simpa [loS] using this
    have hy := fun (h1 : f2 k ≤ g k) (h2 : g k ≤ f3 k) => inV_yes hd.out h1 h2
    have hn := fun (h : ¬ (f2 k ≤ g k ∧ g k ≤ f3 k)) => inV_no h len hlt2
    have hrn := range_next g k
    clear hri hr5
    generalize hx0 : f0 k = x0 at *
    generalize hx1 : f1 k = x1 at *
    generalize hx2 : f2 k = x2 at *
    generalize hx3 : f3 k = x3 at *
    generalize hy9 : g k = y at *
    clear hx1 hx2 hx3 hy9
    obtain ⟨n, rfl⟩ := Int.eq_ofNat_of_zero_le (show 0 ≤ x0 by omega)
    replace hx0 := hid hx0
    rw [Int.toNat_natCast] at hgk
    have n8b : n ≤ 8 := by omega
    have n1b : 1 ≤ n := by omega
    have hSd := (((hS.out).below hB).drop M (by omega)).take n (by omega)
    have hpb : ∀ x ∈ (zs.drop M).take n, 0 ≤ x ∧ x ≤ 255 := fun x hx => hz2.out x (List.mem_of_mem_drop (List.mem_of_mem_take hx))
    generalize (zs.drop M).take n = ps at *
    obtain ⟨gb, go, hba, -⟩ := hSd.2.2.2.2 0 (by rw [hSd.1]; omega)
    obtain ⟨pb, rfl, hpb2⟩ : ∃ pb, ba = some pb ∧ pb.add M = ⟨gb, go, none⟩ := by
      cases ba with
      | none => cases hba
      | some pb => exact ⟨pb, rfl, Option.some.inj hba⟩
    have fs : IntKind.i64.wrap ((M : Int) + n) = M + n := by rw [IntKind.wrap_i64]; omega
    have s1 : (0 : Int) ≤ M := by omega
    have s2 : (M : Int) ≤ M + n := by omega
    have s3 : (M : Int) + n ≤ bl := by omega
    have s4 : (M : Int) + n ≤ bc := by omega
    have s5 : (M : Int) < bc := by omega
    have s6 : ((M : Int) + n).toNat = M + n := by omega
    have s7 : M + n - M = n := by omega
    have s8 : ¬ bc = M := by omega
    have hSe : Sl .u8 wr (some (pb.add M)) n (bc - M) ps := hSd
    clear hSd
    have hSd := hSe
    clear hSe
    have e2 : Go.RowKit.Hid (sumW f0 (k + 1) = ((M + n : Nat) : Int)) := hid (by rw [hsn]; omega)
    clear hsn sm hM hpb2 hba
    replace hy := hid hy
    replace hn := hid hn
    replace hgk := hid hgk
    replace hlon := hid hlon
    replace hrn := hid hrn
    replace hO := hid hO
    replace hd := hid hd.out
    replace hSd := hid hSd
    replace hpb := hid hpb
    cases x1
    · have kn := hid (fun (U : World) (hA : After wr U) => rnum_false n x2 x3 n1b n8b _ _ ps U (hSd.out.below hA) hpb.out)
      go_upto_region 12 with (fail)
      apply wp_region_seg (w := wr) (S := [.q [], .q [], .q [], .q [], .q [], .q [], .q [], .q [], .q [], .q [], .q [], .q [], .q [], .q [], .q [], .q [], .q [], .q [], .q [], .q []]) (E := [.q0 _, .q0 _, .q0 _, .q0 _, .q0 _, .q0 _, .q0 _, .q0 _, .q0 _, .q0 _, .q0 _, .q0 _, .q0 _, .q0 _, .c0 _, .q0 _, .q0 _, .q0 _, .q0 _, .q0 _]) (by kernel_rfl) rfl (by kernel_rfl) rfl rfl
      intro th hge hne
      refine Seg.step _ rfl (Or.inl ⟨by rfl, fun U hU => vp_quiet (by (go_simp <;> exact rfl))⟩) ⟨_, by (simp only [Ent.val]; go_simp <;> exact rfl), ?_⟩
      refine Seg.step _ rfl (Or.inl ⟨by rfl, fun U hU => vp_quiet (by (go_simp <;> exact rfl))⟩) ⟨_, by (simp only [Ent.val]; go_simp <;> exact rfl), ?_⟩
      refine Seg.step _ rfl (Or.inl ⟨by rfl, fun U hU => vp_quiet (by (go_simp <;> exact rfl))⟩) ⟨_, by (simp only [Ent.val]; go_simp <;> exact rfl), ?_⟩
      refine Seg.step _ rfl (Or.inl ⟨by rfl, fun U hU => vp_quiet (by (have h0 := hU.1.cellB l0; have h1 := hU.1.cellB l1; have h2 := hU.1.cellB l2; have h3 := hU.1.cellB l3; go_simp <;> exact rfl))⟩) ⟨_, by (simp only [Ent.val]; go_simp <;> exact rfl), ?_⟩
      refine Seg.step _ rfl (Or.inl ⟨by rfl, fun U hU => vp_quiet (by (go_simp <;> exact rfl))⟩) ⟨_, by (simp only [Ent.val]; go_simp <;> exact rfl), ?_⟩
      refine Seg.step _ rfl (Or.inl ⟨by rfl, fun U hU => vp_quiet (by (go_simp <;> exact rfl))⟩) ⟨_, by (simp only [Ent.val]; go_simp <;> exact rfl), ?_⟩
      refine Seg.step _ rfl (Or.inl ⟨by rfl, fun U hU => vp_quiet (by (go_simp <;> exact rfl))⟩) ⟨_, by (simp only [Ent.val]; go_simp <;> exact rfl), ?_⟩
      refine Seg.step _ rfl (Or.inl ⟨by rfl, fun U hU => vp_quiet (by (go_simp <;> exact rfl))⟩) ⟨_, by (simp only [Ent.val]; go_simp <;> exact rfl), ?_⟩
      refine Seg.step _ rfl (Or.inl ⟨by rfl, fun U hU => vp_quiet (by (go_simp <;> exact rfl))⟩) ⟨_, by (simp only [Ent.val]; go_simp <;> exact rfl), ?_⟩
      refine Seg.step _ rfl (Or.inl ⟨by rfl, fun U hU => vp_quiet (by (go_simp <;> exact rfl))⟩) ⟨_, by (simp only [Ent.val]; go_simp <;> exact rfl), ?_⟩
      refine Seg.step _ rfl (Or.inl ⟨by rfl, fun U hU => vp_quiet (by (go_simp <;> exact rfl))⟩) ⟨_, by (simp only [Ent.val]; go_simp <;> exact rfl), ?_⟩
      refine Seg.step _ rfl (Or.inl ⟨by rfl, fun U hU => vp_quiet (by (have h0 := hU.1.cellB l0; go_simp <;> exact rfl))⟩) ⟨_, by (simp only [Ent.val]; go_simp <;> exact rfl), ?_⟩
      refine Seg.step _ rfl (Or.inl ⟨by rfl, fun U hU => vp_quiet (by (go_simp <;> exact rfl))⟩) ⟨_, by (simp only [Ent.val]; go_simp <;> exact rfl), ?_⟩
      refine Seg.step _ rfl (Or.inl ⟨by rfl, fun U hU => vp_quiet (by (go_simp <;> exact rfl))⟩) ⟨_, by (simp only [Ent.val]; go_simp <;> exact rfl), ?_⟩
      refine Seg.step _ rfl (Or.inl ⟨by rfl, fun U hU => ?_⟩) ?_
      · go_simp
        refine vp_call (kn.out _ hU.1)
      refine ⟨_, by (simp only [Ent.val]; go_simp <;> exact rfl), ?_⟩
      refine Seg.step _ rfl (Or.inl ⟨by rfl, fun U hU => vp_quiet (by (go_simp <;> exact rfl))⟩) ⟨_, by (simp only [Ent.val]; go_simp <;> exact rfl), ?_⟩
      refine Seg.step _ rfl (Or.inl ⟨by rfl, fun U hU => vp_quiet (by (go_simp <;> exact rfl))⟩) ⟨_, by (simp only [Ent.val]; go_simp <;> exact rfl), ?_⟩
      refine Seg.step _ rfl (Or.inl ⟨by rfl, fun U hU => vp_quiet (by (go_simp <;> exact rfl))⟩) ⟨_, by (simp only [Ent.val]; go_simp <;> exact rfl), ?_⟩
      refine Seg.step _ rfl (Or.inl ⟨by rfl, fun U hU => vp_quiet (by (go_simp <;> exact rfl))⟩) ⟨_, by (simp only [Ent.val]; go_simp <;> exact rfl), ?_⟩
      refine Seg.step _ rfl (Or.inl ⟨by rfl, fun U hU => vp_quiet (by (go_simp <;> exact rfl))⟩) ⟨_, by (simp only [Ent.val]; go_simp <;> exact rfl), ?_⟩
      refine Seg.stop (fun U1 hU hk => ?_)
      clear hk hge hne
      have sz1 := hU.size
      replace hB := bthen hB hU
      replace l0 := hU.cellB l0
      replace l1 := hU.cellB l1
      replace l2 := hU.cellB l2
      replace l3 := hU.cellB l3
      have hO1 := hid (hO.out.below hU)
      clear hU hO
      replace hB := hid hB
      cases hK : numK false n ps
      · have hno := num_no hK hpb.out n8b
        rw [← hgk.out] at hno
        have := hlon.out hno.1
        generalize numU false n ps = yy at *
        clear hK
        replace hG := hid (hG.out.trans (if_neg (by rw [hn.out (by omega)]; simp)))
        go_wp2_with fail
        go_ret2
        rw [hG.out]
        exact NsOk.no hB.out
      · have huo := num_ok hK
        rw [← hgk.out] at huo
        rw [huo]
        clear hK huo
        by_cases c1 : y < x2
        case pos =>
          replace hG := hid (hG.out.trans (if_neg (by rw [hn.out (by omega)]; simp)))
          go_wp2_with fail
          go_ret2
          rw [hG.out]
          exact NsOk.no hB.out
        by_cases c2 : x3 < y
        case pos =>
          replace hG := hid (hG.out.trans (if_neg (by rw [hn.out (by omega)]; simp)))
          go_wp2_with fail
          go_ret2
          rw [hG.out]
          exact NsOk.no hB.out
        replace hd := hid (hy.out (by omega) (by omega))
        have hszU := hB.out.size
        have hlk : ((List.range k).map g).length = k := by simp
        generalize (List.range k).map g = os at *
        skip
        go_wp2_with (first | (at_builtin; refine wpList_app1 U1 w rfl (.tmp 68) (.tmp 70) 30 rfl w.heap.size w.heap.size 2 .i64 8 i64s (.slice oa k oc) os rfl hO1.out y rfl (by omega) (by decide) hB.out (Nat.le_refl _) hszU ?_))
        intro a1 c1 W9 own1 bel1
        rw [← hrn.out] at own1
        replace own1 := hid own1
        skip
        obtain ⟨b9, o9, hb9, l9, -⟩ := (hF.out.below bel1).2.2.2 k hlt2
        cases hb9
        rw [hx0.out] at l9
        replace bel1 := hid bel1
        go_wp2_with fail
        go_roundw
        case rel => exact ⟨k + 1, M + n, a1, c1, by omega, by simp, e2, by simp, rfl, hd, own1.out, bel1.out⟩
        case measure => simp [intOf]; omega
    · have kn := hid (fun (U : World) (hA : After wr U) => rnum_true n x2 x3 n1b n8b _ _ ps U (hSd.out.below hA) hpb.out)
      go_upto_region 12 with (fail)
      apply wp_region_seg (w := wr) (S := [.q [], .q [], .q [], .q [], .q [], .q [], .q [], .q [], .q [], .q [], .q [], .q [], .q [], .q [], .q [], .q [], .q [], .q [], .q [], .q []]) (E := [.q0 _, .q0 _, .q0 _, .q0 _, .q0 _, .q0 _, .q0 _, .q0 _, .q0 _, .q0 _, .q0 _, .q0 _, .q0 _, .q0 _, .c0 _, .q0 _, .q0 _, .q0 _, .q0 _, .q0 _]) (by kernel_rfl) rfl (by kernel_rfl) rfl rfl
      intro th hge hne
      refine Seg.step _ rfl (Or.inl ⟨by rfl, fun U hU => vp_quiet (by (go_simp <;> exact rfl))⟩) ⟨_, by (simp only [Ent.val]; go_simp <;> exact rfl), ?_⟩
      refine Seg.step _ rfl (Or.inl ⟨by rfl, fun U hU => vp_quiet (by (go_simp <;> exact rfl))⟩) ⟨_, by (simp only [Ent.val]; go_simp <;> exact rfl), ?_⟩
      refine Seg.step _ rfl (Or.inl ⟨by rfl, fun U hU => vp_quiet (by (go_simp <;> exact rfl))⟩) ⟨_, by (simp only [Ent.val]; go_simp <;> exact rfl), ?_⟩
      refine Seg.step _ rfl (Or.inl ⟨by rfl, fun U hU => vp_quiet (by (have h0 := hU.1.cellB l0; have h1 := hU.1.cellB l1; have h2 := hU.1.cellB l2; have h3 := hU.1.cellB l3; go_simp <;> exact rfl))⟩) ⟨_, by (simp only [Ent.val]; go_simp <;> exact rfl), ?_⟩
      refine Seg.step _ rfl (Or.inl ⟨by rfl, fun U hU => vp_quiet (by (go_simp <;> exact rfl))⟩) ⟨_, by (simp only [Ent.val]; go_simp <;> exact rfl), ?_⟩
      refine Seg.step _ rfl (Or.inl ⟨by rfl, fun U hU => vp_quiet (by (go_simp <;> exact rfl))⟩) ⟨_, by (simp only [Ent.val]; go_simp <;> exact rfl), ?_⟩
      refine Seg.step _ rfl (Or.inl ⟨by rfl, fun U hU => vp_quiet (by (go_simp <;> exact rfl))⟩) ⟨_, by (simp only [Ent.val]; go_simp <;> exact rfl), ?_⟩
      refine Seg.step _ rfl (Or.inl ⟨by rfl, fun U hU => vp_quiet (by (go_simp <;> exact rfl))⟩) ⟨_, by (simp only [Ent.val]; go_simp <;> exact rfl), ?_⟩
      refine Seg.step _ rfl (Or.inl ⟨by rfl, fun U hU => vp_quiet (by (go_simp <;> exact rfl))⟩) ⟨_, by (simp only [Ent.val]; go_simp <;> exact rfl), ?_⟩
      refine Seg.step _ rfl (Or.inl ⟨by rfl, fun U hU => vp_quiet (by (go_simp <;> exact rfl))⟩) ⟨_, by (simp only [Ent.val]; go_simp <;> exact rfl), ?_⟩
      refine Seg.step _ rfl (Or.inl ⟨by rfl, fun U hU => vp_quiet (by (go_simp <;> exact rfl))⟩) ⟨_, by (simp only [Ent.val]; go_simp <;> exact rfl), ?_⟩
      refine Seg.step _ rfl (Or.inl ⟨by rfl, fun U hU => vp_quiet (by (have h0 := hU.1.cellB l0; go_simp <;> exact rfl))⟩) ⟨_, by (simp only [Ent.val]; go_simp <;> exact rfl), ?_⟩
      refine Seg.step _ rfl (Or.inl ⟨by rfl, fun U hU => vp_quiet (by (go_simp <;> exact rfl))⟩) ⟨_, by (simp only [Ent.val]; go_simp <;> exact rfl), ?_⟩
      refine Seg.step _ rfl (Or.inl ⟨by rfl, fun U hU => vp_quiet (by (go_simp <;> exact rfl))⟩) ⟨_, by (simp only [Ent.val]; go_simp <;> exact rfl), ?_⟩
      refine Seg.step _ rfl (Or.inl ⟨by rfl, fun U hU => ?_⟩) ?_
      · go_simp
        refine vp_call (kn.out _ hU.1)
      refine ⟨_, by (simp only [Ent.val]; go_simp <;> exact rfl), ?_⟩
      refine Seg.step _ rfl (Or.inl ⟨by rfl, fun U hU => vp_quiet (by (go_simp <;> exact rfl))⟩) ⟨_, by (simp only [Ent.val]; go_simp <;> exact rfl), ?_⟩
      refine Seg.step _ rfl (Or.inl ⟨by rfl, fun U hU => vp_quiet (by (go_simp <;> exact rfl))⟩) ⟨_, by (simp only [Ent.val]; go_simp <;> exact rfl), ?_⟩
      refine Seg.step _ rfl (Or.inl ⟨by rfl, fun U hU => vp_quiet (by (go_simp <;> exact rfl))⟩) ⟨_, by (simp only [Ent.val]; go_simp <;> exact rfl), ?_⟩
      refine Seg.step _ rfl (Or.inl ⟨by rfl, fun U hU => vp_quiet (by (go_simp <;> exact rfl))⟩) ⟨_, by (simp only [Ent.val]; go_simp <;> exact rfl), ?_⟩
      refine Seg.step _ rfl (Or.inl ⟨by rfl, fun U hU => vp_quiet (by (go_simp <;> exact rfl))⟩) ⟨_, by (simp only [Ent.val]; go_simp <;> exact rfl), ?_⟩
      refine Seg.stop (fun U1 hU hk => ?_)
      clear hk hge hne
      have sz1 := hU.size
      replace hB := bthen hB hU
      replace l0 := hU.cellB l0
      replace l1 := hU.cellB l1
      replace l2 := hU.cellB l2
      replace l3 := hU.cellB l3
      have hO1 := hid (hO.out.below hU)
      clear hU hO
      replace hB := hid hB
      cases hK : numK true n ps
      · exact absurd (num_no hK hpb.out n8b).1 (by simp)
      · have huo := num_ok hK
        rw [← hgk.out] at huo
        rw [huo]
        clear hK huo
        by_cases c1 : y < x2
        case pos =>
          replace hG := hid (hG.out.trans (if_neg (by rw [hn.out (by omega)]; simp)))
          go_wp2_with fail
          go_ret2
          rw [hG.out]
          exact NsOk.no hB.out
        by_cases c2 : x3 < y
        case pos =>
          replace hG := hid (hG.out.trans (if_neg (by rw [hn.out (by omega)]; simp)))
          go_wp2_with fail
          go_ret2
          rw [hG.out]
          exact NsOk.no hB.out
        replace hd := hid (hy.out (by omega) (by omega))
        have hszU := hB.out.size
        have hlk : ((List.range k).map g).length = k := by simp
        generalize (List.range k).map g = os at *
        skip
        go_wp2_with (first | (at_builtin; refine wpList_app1 U1 w rfl (.tmp 68) (.tmp 70) 30 rfl w.heap.size w.heap.size 2 .i64 8 i64s (.slice oa k oc) os rfl hO1.out y rfl (by omega) (by decide) hB.out (Nat.le_refl _) hszU ?_))
        intro a1 c1 W9 own1 bel1
        rw [← hrn.out] at own1
        replace own1 := hid own1
        skip
        obtain ⟨b9, o9, hb9, l9, -⟩ := (hF.out.below bel1).2.2.2 k hlt2
        cases hb9
        rw [hx0.out] at l9
        replace bel1 := hid bel1
        go_wp2_with fail
        go_roundw
        case rel => exact ⟨k + 1, M + n, a1, c1, by omega, by simp, e2, by simp, rfl, hd, own1.out, bel1.out⟩
        case measure => simp [intOf]; omega

end Go.Proofs.Ytfihdgichmocmaa
