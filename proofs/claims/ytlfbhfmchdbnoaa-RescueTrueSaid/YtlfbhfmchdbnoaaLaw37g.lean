/- Laws of package rescue: RescueTrue. -/
import Derived.Test.YtlfbhfmchdbnoaaLaw37
import Derived.Test.YtlfbhfmchdbnoaaRes8
import Derived.Test.YtlfbhfmchdbnoaaLaw36
import Derived.Test.YtlfbhfmchdbnoaaBlk12
import Derived.Deep.DeepCutAuto
namespace Go.Proofs.Ytlfbhfmchdbnoaa
open Go.ChangeShapes Go.WideShapes Go.ChangeAt Go.RowKit
set_option linter.unusedVariables false
set_option linter.unusedSimpArgs false

theorem i64_bd38 {x : Int} (h : (Lit.int .i64 x).wf = true) : -9223372036854775808 ≤ x ∧ x ≤ 9223372036854775807 := by
  have h3 : IntKind.i64.min = -9223372036854775808 := rfl
  have h4 : IntKind.i64.max = 9223372036854775807 := rfl
  simp [Lit.wf, h3, h4] at h; exact h
theorem set_wf {zs : List Int} (h : ∀ x ∈ zs, (Lit.int .u8 x).wf = true) {j : Nat} {y : Int} (hy : (Lit.int .u8 y).wf = true) : ∀ x ∈ zs.set j y, (Lit.int .u8 x).wf = true := fun x hx => by
  rcases List.mem_or_eq_of_mem_set hx with h1 | h1
  · exact h x h1
  · rw [h1]; exact hy
set_option maxRecDepth 100000 in
set_option maxHeartbeats 16000000 in
theorem law_RescueTrue (a0 : Int) (a1 : Option Addr) (len1 cap1 : Nat) (x1 : List (List Value)) (a2 : Option Addr) (len2 cap2 : Nat) (x2 : List (List Value)) (W : World) (w0 : (Lit.int .i64 a0).wf = true) (w1 : Els W 13 a1 len1 cap1 x1) (t1 : ∀ x ∈ x1, (∃ (c0 : Int) (c1 : Int) (c2 : Int) (c3 : Int) (c4 : Int) (c5 : Int) (c6 : Int) (c7 : Int) (c8 : Int) (c9 : Int) (c10 : Int) (c11 : Int) (c12 : Int), x = [.int .u32 c0, .int .i32 c1, .int .i32 c2, .int .i32 c3, .int .i32 c4, .int .i32 c5, .int .i32 c6, .int .i32 c7, .int .i32 c8, .int .i32 c9, .int .i32 c10, .int .i32 c11, .int .i32 c12] ∧ ((Lit.int .u32 c0).wf = true) ∧ ((Lit.int .i32 c1).wf = true) ∧ ((Lit.int .i32 c2).wf = true) ∧ ((Lit.int .i32 c3).wf = true) ∧ ((Lit.int .i32 c4).wf = true) ∧ ((Lit.int .i32 c5).wf = true) ∧ ((Lit.int .i32 c6).wf = true) ∧ ((Lit.int .i32 c7).wf = true) ∧ ((Lit.int .i32 c8).wf = true) ∧ ((Lit.int .i32 c9).wf = true) ∧ ((Lit.int .i32 c10).wf = true) ∧ ((Lit.int .i32 c11).wf = true) ∧ ((Lit.int .i32 c12).wf = true))) (w2 : Els W 2 a2 len2 cap2 x2) (t2 : ∀ x ∈ x2, (∃ (c0 : Int) (c1 : Int), x = [.int .i64 c0, .int .u8 c1] ∧ ((Lit.int .i64 c0).wf = true) ∧ ((Lit.int .u8 c1).wf = true))) :
    Calls Try.prog 5 #[.int .i64 a0, .slice a1 len1 cap1, .slice a2 len2 cap2] W fun e w' => e = .returned (.bool true) ∧ Below W.heap.size W w' := by
  clear w0
  have hX := hid w2
  have hxl := hid w2.1
  have ht2 := hid t2
  clear w2 t2
  obtain ⟨l, rfl, hl⟩ := els_recs t1
  obtain rfl : l.length = len1 := by have := w1.1; simpa [recsV] using this
  clear t1
  obtain ⟨n, hn⟩ : ∃ n, l.length = n := ⟨_, rfl⟩
  rw [hn] at w1 ⊢
  have hE := hid w1
  clear w1
  replace hl := hid hl
  replace hn := hid hn
  have hB := hid (Below.refl W.heap.size W)
  by_cases cb : (40 : Int) < n
  case pos =>
    go_enter Try.func5, Try.ntmps5
    go_wp2_with fail
    refine (knows37_any _).mono ?_
    rintro e V ⟨rfl, hst⟩
    replace hst := hid (bthen hB.out hst)
    go_wp2_with fail
    go_ret
    exact ⟨rfl, hst.out⟩
  have h60 : n ≤ 40 := by omega
  by_cases c60 : (60 : Int) < len2
  case pos =>
    go_enter Try.func5, Try.ntmps5
    go_wp2_with fail
    refine (knows37_any _).mono ?_
    rintro e V ⟨rfl, hst⟩
    replace hst := hid (bthen hB.out hst)
    go_wp2_with fail
    go_ret
    exact ⟨rfl, hst.out⟩
  go_enter Try.func5, Try.ntmps5
  go_wp2_with fail
  refine (knows37_any _).mono ?_
  rintro e V0 ⟨rfl, hA⟩
  replace hX := hid (hX.out.below hA)
  replace hE := hid (hE.out.below hA)
  replace hB := hid (bthen hB.out hA)
  clear hA
  go_wp2_with fail
  by_cases hbad : a0 < 1 ∨ 255 < a0
  case pos =>
    refine (rwrite_bad a0 _ _ hbad).mono ?_
    rintro e V1 ⟨ta, tc, rfl, hO, hA⟩
    dsimp only [List.length_nil] at hO ⊢
    have hB1 := hid (bthen hB.out hA)
    clear hO hA hB
    go_wp2_with fail
    go_ret
    exact ⟨rfl, hB1.out⟩
  obtain ⟨ev, hev⟩ : ∃ ev : Nat, a0 = ev := ⟨a0.toNat, by omega⟩
  subst hev
  have he1 : 1 ≤ ev := by omega
  have he2 : ev ≤ 255 := by omega
  clear hbad
  obtain ⟨bs, nb, hw1, hw2, hnb, hnn, hLl, hww, hw3, hw4, hw5⟩ := log_of (ev := ev) hl.out hn.out (by omega)
  have kW := rwrite_any ev a1 n cap1 l V0 he1 he2 hn.out (by omega) hE.out hl.out
  rw [hw1] at kW
  obtain ⟨L, hL⟩ : ∃ z, catB 0 bs = z := ⟨_, rfl⟩
  rw [hL] at kW hLl hww hw5
  obtain ⟨ln, hln⟩ : ∃ z, L.length = z := ⟨_, rfl⟩
  rw [hln] at hLl
  have hL2 : ln ≤ 256 * nb := by omega
  have hL3 : 256 * nb ≤ ln := by omega
  have hlq : ln / 256 = nb := by omega
  clear hw1 hLl
  replace hL := hid hL
  replace hw2 := hid hw2
  replace hw3 := hid hw3
  replace hw4 := hid hw4
  replace hw5 := hid hw5
  replace hww := hid hww
  replace hln := hid hln
  replace hnb := hid hnb
  replace kW := hid kW
  replace hlq := hid hlq
  refine kW.out.mono ?_
  rintro e V1 ⟨ta, tc, rfl, hO, hA⟩
  rw [hln.out] at hO ⊢
  have hS := hid hO.slf
  clear hO kW he1 he2
  replace hX := hid (hX.out.below hA)
  replace hE := hid (hE.out.below hA)
  replace hB := hid (bthen hB.out hA)
  clear hA
  have htc := hS.out.2.1
  have h260 : len2 ≤ 60 := by omega
  have nE := alloc_new V1 (.cells #[] 5)
  have ownE := Own.lit .u8 5 V1 [] V1.heap.size (Nat.le_refl _) (by simp) #[] rfl
  have hAE := nE.2.1
  have slA := hS.out.below hAE
  clear nE
  go_wp2_with (at_builtin; go_loud (refine wpList_appK rfl (.tmp 43) (.tmp 44) 22 rfl V1.heap.size 5 .u8 1 bytesOf _ [] rfl ownE ta ln tc L rfl slA (by simp <;> omega) (by decide) hAE.size ?_))
  intro a8 c8 V8 hO8 hG8 hq8
  have hA8 := hid (ownE.grew hG8 hAE (Nat.le_refl _) hAE.size)
  have ownF : Own .u8 5 V8 V1.heap.size (.slice a8 ln c8) L := by first | exact hO8 | (have := hO8; rwa [List.nil_append, show ([] : List Int).length + ln = ln from Nat.zero_add _] at this)
  clear hO8 hq8 hG8 ownE slA hAE
  try rw [show ([] : List Int).length + ln = ln from Nat.zero_add _]
  have hc8 := ownF.slf.2.1
  replace ownF := hid ownF
  go_wp2_with fail
  go_loopw [10] (fun ix wr => ∃ (k : Nat) (Z : List Int), ix = .int .i64 k ∧ k ≤ len2 ∧ Hid (Z.length = ln) ∧ Hid (∀ x ∈ Z, (Lit.int .u8 x).wf = true) ∧ Own .u8 5 wr V1.heap.size (.slice a8 ln c8) Z ∧ After V1 wr) (fun ix _ => len2 - (intOf ix).toNat)
  case atStart => exact ⟨0, L, rfl, by omega, hln, hww, ownF.out, hA8.out⟩
  case round =>
    clear ownF hA8
    obtain ⟨k, Z, rfl, hk, hZl, hZw, hO, hA⟩ := hrel
    by_cases hlt : (k : Int) < len2
    case pos =>
      obtain ⟨x, hx⟩ : ∃ x, x2[k]? = some x := ⟨_, List.getElem?_eq_getElem (show k < x2.length by have := hxl.out; omega)⟩
      obtain ⟨d0, d1, rfl, hw0, hw1⟩ := ht2.out x (List.mem_of_getElem? hx)
      obtain ⟨pb, off, e9, g0, g1⟩ := (hX.out.below hA).at2 hx
      subst e9
      have hdb := i64_bd38 hw0
      have kz : (0 : Int) ≤ k := by omega
      have wk : IntKind.i64.wrap ((k : Int) + 1) = (k : Int) + 1 := by rw [IntKind.wrap_i64]; omega
      have hk1 := hid (show k + 1 ≤ len2 by omega)
      have hms := hid (show len2 - (k + 1) < len2 - k by omega)
      clear hx hw0 hk
      by_cases q1 : d0 < 0
      case pos =>
        have q2 : ¬ (0 : Int) ≤ d0 := by omega
        have q3 : ¬ d0 ≥ (0 : Int) := by omega
        replace hO := hid hO
        replace hA := hid hA
        go_wp2_with fail
        go_roundw
        case rel => exact ⟨k + 1, Z, by simp, hk1.out, hZl, hZw, hO.out, hA.out⟩
        case measure => simp [intOf]; exact hms.out
      obtain ⟨J, hJ⟩ : ∃ J : Nat, d0 = J := ⟨d0.toNat, by omega⟩
      subst hJ
      have q2 : (0 : Int) ≤ J := by omega
      have q3 : (J : Int) ≥ 0 := by omega
      by_cases q4 : (J : Int) < ln
      case neg =>
        have q5 : ¬ J < ln := by omega
        replace hO := hid hO
        replace hA := hid hA
        go_wp2_with fail
        go_roundw
        case rel => exact ⟨k + 1, Z, by simp, hk1.out, hZl, hZw, hO.out, hA.out⟩
        case measure => simp [intOf]; exact hms.out
      have q5 : J < ln := by omega
      obtain ⟨g, hga, hgb, hgc, hgf, hgs⟩ := hO.set J (by rw [hZl.out]; exact q5)
      subst hga
      generalize Z.getD J 0 = Y0 at hgc
      have g0d : (wr.drew).cell? _ = _ := g0
      have g1d : (wr.drew).cell? _ = _ := g1
      have hgc2 : (wr.drew).cell? ⟨g, J, none⟩ = some (.int .u8 Y0) := hgc
      have hgf2 : (wr.drew).frozen? ⟨g, J, none⟩ = false := hgf
      have hfin := hid (show After V1 (wr.drew.setCell ⟨g, J, none⟩ (.int .u8 d1)) from hA.drew.setCell hgb _)
      have hown2 := hid (show Own .u8 5 (wr.drew.setCell ⟨g, J, none⟩ (.int .u8 d1)) V1.heap.size (.slice (some ⟨g, 0, none⟩) ln c8) (Z.set J d1) from hgs d1)
      have hZl2 := hid (show (Z.set J d1).length = ln by rw [List.length_set]; exact hZl.out)
      have hZw2 := hid (set_wf hZw.out (j := J) hw1)
      clear hgs hO hA hdb hw1
      go_wp2_with fail
      go_region
      all_goals go_wp2_with fail
      all_goals go_roundw
      all_goals first | exact ⟨k + 1, _, by simp, hk1.out, hZl2, hZw2, hown2.out, hfin.out⟩ | (simp [intOf]; exact hms.out)
    have hZs := hid hO.slf
    clear hO
    obtain rfl : k = len2 := by omega
    replace hE := hid (hE.out.below hA)
    replace hS := hid (hS.out.below hA)
    replace hB := hid (bthen hB.out hA)
    clear hA
    obtain ⟨⟨O, Bd⟩, hq⟩ : ∃ r, readS Z nb = r := ⟨_, rfl⟩
    have hrk := readS_ok hZw.out nb
    rw [hq] at hrk
    have hq8 := hid (show readS Z (ln / 256) = (O, Bd) by rw [hlq.out]; exact hq)
    dsimp only at hrk
    obtain ⟨on, hon⟩ : ∃ z, O.length = z := ⟨_, rfl⟩
    obtain ⟨bn, hbn⟩ : ∃ z, Bd.length = z := ⟨_, rfl⟩
    rw [hon, hbn] at hrk
    have ho1 : on ≤ 100000 := by omega
    have hok := hid hrk.2.1
    clear hrk
    have hqq := hid hq
    clear hq
    replace hon := hid hon
    replace hbn := hid hbn
    go_wp2_with fail
    refine (read_any a8 ln c8 Z _ hZs.out hZw.out (by omega)).mono ?_
    rintro e V4 ⟨ra, rc2, ba, bc, rfl, hO, hI, hA⟩
    rw [hq8.out] at hO hI ⊢
    dsimp only at hO hI ⊢
    have hEo := hO.els (xs := recsV O) (by rw [recsV_len]) (recsV_m hok.out)
    have hIo := hI.slf
    rw [hon.out] at hEo ⊢
    rw [hbn.out] at hIo ⊢
    replace hEo := hid hEo
    replace hIo := hid hIo
    clear hO hI
    replace hE := hid (hE.out.below hA)
    replace hS := hid (hS.out.below hA)
    replace hZs := hid (hZs.out.below hA)
    replace hB := hid (bthen hB.out hA)
    clear hA
    go_wp2_with fail
    go_loopw [13, 14, 15] (fun wv av ix wz => ∃ (i c : Nat) (ga : Option Addr) (gn gc : Nat) (G : List Rc), i ≤ nb ∧ ix = .int .i64 i ∧ av = .int .i64 c ∧ c ≤ nb ∧ wv = .slice ga gn gc ∧ OwnE 65 wz V4.heap.size 13 (.slice ga gn gc) gn (recsV G).flatten ∧ Hid ((readS Z i).1 = G) ∧ Hid (G.length = gn) ∧ Hid ((readS Z i).2.length = c) ∧ After V4 wz) (fun _ _ ix _ => nb - (intOf ix).toNat)
    case atStart => exact ⟨0, 0, none, 0, 0, [], by omega, rfl, rfl, by omega, rfl, OwnE.nil _ _ _ _, hid rfl, hid rfl, hid rfl, Below.refl _ _⟩
    case round =>
      obtain ⟨i, c, ga, gn, gc, G, hi, rfl, rfl, hcn, rfl, hO, hG, hGl, hc, hA⟩ := hrel
      have iz : (0 : Int) ≤ i := by omega
      have wi : IntKind.i64.wrap ((i : Int) + 1) = (i : Int) + 1 := by rw [IntKind.wrap_i64]; omega
      obtain ⟨p, hp⟩ : ∃ p, 256 * i = p := ⟨_, rfl⟩
      have wp : IntKind.i64.wrap (256 * (i : Int)) = (p : Int) := by rw [IntKind.wrap_i64]; omega
      replace hO := hid hO
      by_cases hlt : (p : Int) < ln
      case neg =>
        obtain rfl : i = nb := by omega
        have hGe : O = G := by rw [← hG.out, hqq.out]
        have hce : c = bn := by rw [← hc.out, hqq.out]; exact hbn.out
        subst hGe
        subst hce
        obtain rfl : gn = on := by rw [← hGl.out, hon.out]
        have hEg := hid (hO.out.els (xs := recsV O) (by rw [recsV_len]; exact hon.out) (recsV_m hok.out))
        clear hO
        replace hc := hid hc
        replace hp := hid hp
        replace hE := hid (hE.out.below hA)
        replace hEo := hid (hEo.out.below hA)
        replace hB := hid (bthen hB.out hA)
        clear hA
        go_wp2_with fail
        refine (recs_same ra ga rc2 gc gn O _ hon.out hEo.out hEg.out (by omega) hok.out).mono ?_
        rintro e V11 ⟨rfl, hA⟩
        have hB9 := hid (bthen hB.out hA)
        clear hA
        go_wp2_with fail
        go_ret
        exact ⟨rfl, hB9.out⟩
      have hib : i < nb := by omega
      obtain ⟨q, hq⟩ : ∃ q, p + 256 = q := ⟨_, rfl⟩
      have wq : IntKind.i64.wrap ((p : Int) + 256) = (q : Int) := by rw [IntKind.wrap_i64]; omega
      have hql : q ≤ ln := by omega
      have hgL := log_good hw2.out (by have := hnb.out; omega) (show i < bs.length by have := hnb.out; omega)
      obtain ⟨bl, hbl⟩ : ∃ x, bs[i]? = some x := ⟨_, List.getElem?_eq_getElem (show i < bs.length by have := hnb.out; omega)⟩
      have htk := log_chunk hw2.out (by have := hnb.out; omega) hbl
      rw [hL.out] at htk hgL
      have hgw := hww.out
      have hcwL := chunk_wf hgw i
      have hcwZ := chunk_wf hZw.out i
      obtain ⟨ca, hcut, hcs⟩ := cutLH37 ta ln tc p q htc (by omega) hql
      have hWas := hcs _ L hS.out
      obtain ⟨cb, hcut2, hcs2⟩ := cutLH37 a8 ln c8 p q hc8 (by omega) hql
      have hIs := hcs2 _ Z hZs.out
      clear hcs hcs2
      rw [show q - p = 256 by omega] at hcut hcut2 hWas hIs
      rw [show (L.drop p).take 256 = chunk L i by unfold chunk; rw [hp]] at hWas
      rw [show (Z.drop p).take 256 = chunk Z i by unfold chunk; rw [hp]] at hIs
      obtain ⟨c2, hc2⟩ : ∃ z, tc - p = z := ⟨_, rfl⟩
      rw [hc2] at hcut hWas
      obtain ⟨d2, hd2⟩ : ∃ z, c8 - p = z := ⟨_, rfl⟩
      rw [hd2] at hcut2 hIs
      clear hc2 hd2
      have kT1 := fun U hs => rbtake_any ca 256 c2 (chunk L i) U hs hcwL (by omega)
      rw [htk] at kT1
      have kT2 := fun U hs => rbtake_any cb 256 d2 (chunk Z i) U hs hcwZ (by omega)
      have hbl82 := (takB_l hcwL).1
      have hblo := (takB_l hcwL).2.1
      rw [htk] at hbl82 hblo
      dsimp only at hbl82 hblo
      have htl := takB_l hcwZ
      have hgd : goodC Z i = decide ((takB (chunk Z i)).2.2 = 0 ∧ (takB (chunk Z i)).1 = (i : Int)) := rfl
      have hsame := hid (fun e : chunk L i = chunk Z i => show goodC Z i = true by have h := hgL; unfold goodC at h ⊢; rw [← e]; exact h)
      have hsamt := hid (fun e : chunk L i = chunk Z i => show takB (chunk Z i) = ((i : Int), bl, 0) by rw [← e]; exact htk)
      have hgo := fun h => readS_good (zs := Z) (k := i) h
      have hbo := fun h => readS_bad (zs := Z) (k := i) h
      have hba := fun h => bad_at (zs := Z) (k := i) hib h
      have hga_ := fun h => good_at (zs := Z) (k := i) hib h
      simp only [hqq.out, hc.out, hG.out] at hgo hbo hba hga_
      try dsimp only at hba hga_
      rw [hbn.out] at hba hga_
      have hbdL := bytes_bd hcwL
      have hbdZ := bytes_bd hcwZ
      have hne := hid (fun e : chunk L i ≠ chunk Z i => text_ne _ _ hbdL hbdZ e)
      have heq := hid (fun e : chunk L i = chunk Z i => text_eq _ _ e)
      have hgn := (readS_ok hZw.out i).1
      rw [hG.out, hGl.out] at hgn
      obtain ⟨⟨no, l2, ee⟩, ht⟩ : ∃ r, takB (chunk Z i) = r := ⟨_, rfl⟩
      rw [ht] at kT2 htl hgd hgo
      simp only [ht] at hsamt
      dsimp only at htl hgd hgo
      obtain ⟨hm82, hlo2, hno1, hno2⟩ := htl
      obtain ⟨m1, hm1⟩ : ∃ z, bl.length = z := ⟨_, rfl⟩
      obtain ⟨m2, hm2⟩ : ∃ z, l2.length = z := ⟨_, rfl⟩
      rw [hm1] at hbl82
      rw [hm2] at hm82
      have hgn2 : gn ≤ 3300 := by omega
      have t0 := fun U h => txt36 (h : Sl .u8 U ca 256 c2 (chunk L i))
      have t9 := fun U h => txt36 (h : Sl .u8 U cb 256 d2 (chunk Z i))
      obtain ⟨CL, hCL⟩ : ∃ z, chunk L i = z := ⟨_, rfl⟩
      obtain ⟨CZ, hCZ⟩ : ∃ z, chunk Z i = z := ⟨_, rfl⟩
      rw [hCL] at hWas kT1 hsame hsamt hne heq t0
      rw [hCZ] at hIs kT2 hsame hsamt hne heq t9
      obtain ⟨TL, hTL⟩ : ∃ z, textOf CL = z := ⟨_, rfl⟩
      obtain ⟨TZ, hTZ⟩ : ∃ z, textOf CZ = z := ⟨_, rfl⟩
      rw [hTL] at hne heq t0
      rw [hTZ] at hne heq t9
      have hk1 := hid (show i + 1 ≤ nb by omega)
      have hms := hid (show nb - (i + 1) < nb - i by omega)
      have hWas := hid (hWas.below hA)
      have hIs := hid (hIs.below hA)
      have hIb := hid (hIo.out.below hA)
      have qz : (0 : Int) ≤ p := by omega
      have qz2 : (p : Int) ≤ q := by omega
      have qz3 : (q : Int) ≤ tc := by omega
      have qz4 : (q : Int) ≤ c8 := by omega
      have cz : (0 : Int) ≤ c := by omega
      replace hgo := hid hgo
      replace hbo := hid hbo
      replace hba := hid hba
      replace hga_ := hid hga_
      replace hgd := hid hgd
      replace hlo2 := hid hlo2
      replace hblo := hid hblo
      replace hm1 := hid hm1
      replace hm2 := hid hm2
      replace kT1 := hid kT1
      replace kT2 := hid kT2
      replace hA := hid hA
      replace hp := hid hp
      replace hq := hid hq
      replace t0 := hid t0
      replace t9 := hid t9
      clear htk hgL hcwL hcwZ hbdL hbdZ hbl ht hCL hCZ hTL hTZ hgw hgn
      go_wp2_with fail
      refine (kT1.out _ hWas.out).mono ?_
      rintro e V7 ⟨ya, yc, rfl, hEb, hA2⟩
      try dsimp only at hEb ⊢
      rw [hm1.out] at hEb ⊢
      have nw_ := alloc_new V7 (.cells #[.int .u32 (i : Int), .slice ya m1 yc] 26)
      have hA3 := bthen hA2 nw_.2.1
      have rb := nw_.2.2
      have hEy := hid (hEb.below nw_.2.1)
      have hO3 := hid (hO.out.below hA3)
      have hW3s := hid (hWas.out.below hA3)
      have hI3s := hid (hIs.out.below hA3)
      have hIb3 := hid (hIb.out.below hA3)
      have hA4 := hid (bthen hA.out hA3)
      clear nw_ hA2 hA3 hEb hO hWas hIs hIb hA kT1
      go_upto_region 21 with (fail)
      obtain ⟨W3, hW3⟩ : ∃ X, V7.alloc (.cells #[.int .u32 (i : Int), .slice ya m1 yc] 26) = X := ⟨_, rfl⟩
      rw [hW3] at rb hEy hO3 hW3s hI3s hIb3 hA4
      try rw [hW3]
      obtain ⟨pb, hpb⟩ : ∃ X, V7.heap.size = X := ⟨_, rfl⟩
      rw [hpb] at rb
      try rw [hpb]
      clear hW3 hpb
      replace rb := hid rb
      have tx1 := t0.out W3 hW3s.out
      have tx2 := t9.out W3 hI3s.out
      by_cases hgz : goodC Z i = false
      case pos =>
        obtain ⟨hb1, hb2⟩ := hba.out hgz
        have hb3 : (c : Int) < bn := by omega
        obtain ⟨pq, oq, e8, gq⟩ := hIb3.out.2.2.2.2 c (by rw [hbn.out]; exact hb1)
        subst e8
        rw [hb2] at gq
        have hnl : CL ≠ CZ := fun e => by have := hsame.out e; rw [hgz] at this; cases this
        have htt := hne.out hnl
        have wc : IntKind.i64.wrap ((c : Int) + 1) = (c : Int) + 1 := by rw [IntKind.wrap_i64]; omega
        have hb9 := hbo.out hgz
        have hG2 := hid (show (readS Z (i + 1)).1 = G by rw [hb9])
        have hc2 := hid (show (readS Z (i + 1)).2.length = c + 1 by rw [hb9]; dsimp only; rw [List.length_append, List.length_singleton, hc.out])
        have hcn2 := hid (show c + 1 ≤ nb by have := (readS_ok hZw.out nb).2.2; rw [hqq.out] at this; dsimp only at this; rw [hbn.out] at this; omega)
        clear hb9 hgo hbo hba hga_ hgd hsame hsamt hne heq hb2
        replace hgz := hid hgz
        replace hnl := hid hnl
        go_wp2_with fail
        go_roundw
        case rel => exact ⟨i + 1, c + 1, ga, gn, gc, G, hk1.out, by simp, by simp, hcn2.out, rfl, hO3.out, hG2, hGl, hc2, hA4.out⟩
        case measure => simp [intOf]; exact hms.out
      have hgt : goodC Z i = true := by simpa using hgz
      rw [hgd.out] at hgt
      have hgt2 := of_decide_eq_true hgt
      obtain ⟨he0, hnoi⟩ := hgt2
      subst he0
      subst hnoi
      have hg9 := hgo.out (by rw [hgd.out]; exact hgt)
      have hna := hga_.out (by rw [hgd.out]; exact hgt)
      have hG2 := hid (show (readS Z (i + 1)).1 = G ++ recsOf l2 by rw [hg9])
      have hc2 := hid (show (readS Z (i + 1)).2.length = c by rw [hg9]; exact hc.out)
      have hGl2 := hid (show (G ++ recsOf l2).length = gn + m2 by rw [List.length_append, recsOf_len, hGl.out, hm2.out])
      clear hg9 hgt hgz hgo hbo hba hga_ hgd hsame
      by_cases hcb : c < bn
      case pos =>
        have hb3 : (c : Int) < bn := by omega
        have hv := hna hcb
        obtain ⟨pq, oq, e8, gq⟩ := hIb3.out.2.2.2.2 c (by rw [hbn.out]; exact hcb)
        subst e8
        generalize Bd.getD c 0 = BV at *
        have hv2 : (BV == (i : Int)) = false := by simpa using hv
        clear hna
        replace hv := hid hv
        go_wp2_with fail
        refine (kT2.out _ hI3s.out).mono ?_
        rintro e V9 ⟨za, zc, rfl, hEb, hA2⟩
        try dsimp only at hEb ⊢
        rw [hm2.out] at hEb ⊢
        have nw_ := alloc_new V9 (.cells #[.int .u32 (i : Int), .slice za m2 zc] 26)
        have hA3 := bthen hA2 nw_.2.1
        have rb9 := nw_.2.2
        have hEz := hid (hEb.below nw_.2.1)
        have hEy4 := hid (hEy.out.below hA3)
        have rb4 := held_after hA3 rb.out
        have hO4 := hid (hO3.out.below hA3)
        have hW4 := hid (hW3s.out.below hA3)
        have hI4 := hid (hI3s.out.below hA3)
        have hA5 := hid (bthen hA4.out hA3)
        clear nw_ hA2 hA3 hEb hO3 hW3s hI3s hIb3 hA4 kT2 tx1 tx2
        go_upto_region 26 with (fail)
        obtain ⟨W5, hW5⟩ : ∃ X, V9.alloc (.cells #[.int .u32 (i : Int), .slice za m2 zc] 26) = X := ⟨_, rfl⟩
        rw [hW5] at rb9 hEz hEy4 rb4 hO4 hW4 hI4 hA5
        try rw [hW5]
        obtain ⟨pc, hpc⟩ : ∃ X, V9.heap.size = X := ⟨_, rfl⟩
        rw [hpc] at rb9
        try rw [hpc]
        clear hW5 hpc
        have tx1 := t0.out W5 hW4.out
        have tx2 := t9.out W5 hI4.out
        have x0 := held_cell rb9 0 _ rfl
        have x1 := held_cell rb9 1 _ rfl
        have y0 := held_cell rb4 0 _ rfl
        have y1 := held_cell rb4 1 _ rfl
        have kR := hid (fun U h => rresrec_any (i : Int) za m2 zc l2 U hm2.out h (by omega) hlo2.out)
        by_cases hst : CL = CZ
        case pos =>
          have htt := heq.out hst
          have hst3 := hsamt.out hst
          obtain rfl : l2 = bl := by simpa using hst3
          obtain rfl : m2 = m1 := by rw [← hm1.out, hm2.out]
          clear hst3 hsamt hne heq
          replace hst := hid hst
          go_wp2_with fail
          refine (sameB_any (i : Int) za ya zc yc m2 l2 _ hm2.out hEz.out hEy4.out (by omega) hlo2.out).mono ?_
          rintro e V8 ⟨rfl, hA8⟩
          replace hEz := hid (hEz.out.below hA8)
          replace hO4 := hid (hO4.out.below hA8)
          replace hA5 := hid (bthen hA5.out hA8)
          replace rb9 := held_after hA8 rb9
          clear hA8 x0 x1 y0 y1 tx1 tx2
          have x0 := held_cell rb9 0 _ rfl
          have x1 := held_cell rb9 1 _ rfl
          go_wp2_with fail
          refine (kR.out _ hEz.out).mono ?_
          rintro e V5 ⟨ua, uc, rfl, hOr2, hA7⟩
          rw [recsOf_len, hm2.out] at hOr2 ⊢
          have hEr := hid (hOr2.els (by rw [recsV_len, recsOf_len, hm2.out]) (recsV_m (recsOf_ok hlo2.out)))
          have hO5 := hid (hO4.out.below hA7)
          have hA6 := hid (bthen hA5.out hA7)
          have s5 := hid hA6.out.size
          clear hOr2 hA7 hO4 hA5 kR hEz
          go_wp2_with (first | (at_builtin; refine wpList_appE rfl (.tmp 150) (.tmp 152) 28 rfl V4.heap.size 65 13 52 recO (by decide) (.slice ga gn gc) gn (recsV G).flatten rfl hO5.out ua m2 uc (recsV (recsOf l2)) rfl hEr.out (recs_one _) (by unfold maxLen; omega) (by omega) s5.out ?_))
          intro a7 c7 W9 hO9_ hG8 hN
          have hA9 := hid (hA6.out.grown hG8 s5.out (fun g e => (hO5.out.lt g e).1))
          have e9 : (recsV G).flatten ++ (recsV (recsOf l2)).flatten = (recsV (G ++ recsOf l2)).flatten := by simp [recsV]
          rw [e9] at hO9_
          replace hO9_ := hid hO9_
          clear hG8 hN hA6 e9
          go_wp2_with fail
          go_roundw
          case rel => exact ⟨i + 1, c, a7, gn + m2, c7, G ++ recsOf l2, hk1.out, by simp, rfl, hcn, rfl, hO9_.out, hG2, hGl2, hc2, hA9.out⟩
          case measure => simp [intOf]; exact hms.out
        have htt := hne.out hst
        clear hsamt hne heq
        replace hst := hid hst
        go_wp2_with fail
        refine (kR.out _ hEz.out).mono ?_
        rintro e V5 ⟨ua, uc, rfl, hOr2, hA7⟩
        rw [recsOf_len, hm2.out] at hOr2 ⊢
        have hEr := hid (hOr2.els (by rw [recsV_len, recsOf_len, hm2.out]) (recsV_m (recsOf_ok hlo2.out)))
        have hO5 := hid (hO4.out.below hA7)
        have hA6 := hid (bthen hA5.out hA7)
        have s5 := hid hA6.out.size
        clear hOr2 hA7 hO4 hA5 kR hEz
        go_wp2_with (first | (at_builtin; refine wpList_appE rfl (.tmp 150) (.tmp 152) 28 rfl V4.heap.size 65 13 52 recO (by decide) (.slice ga gn gc) gn (recsV G).flatten rfl hO5.out ua m2 uc (recsV (recsOf l2)) rfl hEr.out (recs_one _) (by unfold maxLen; omega) (by omega) s5.out ?_))
        intro a7 c7 W9 hO9_ hG8 hN
        have hA9 := hid (hA6.out.grown hG8 s5.out (fun g e => (hO5.out.lt g e).1))
        have e9 : (recsV G).flatten ++ (recsV (recsOf l2)).flatten = (recsV (G ++ recsOf l2)).flatten := by simp [recsV]
        rw [e9] at hO9_
        replace hO9_ := hid hO9_
        clear hG8 hN hA6 e9
        go_wp2_with fail
        go_roundw
        case rel => exact ⟨i + 1, c, a7, gn + m2, c7, G ++ recsOf l2, hk1.out, by simp, rfl, hcn, rfl, hO9_.out, hG2, hGl2, hc2, hA9.out⟩
        case measure => simp [intOf]; exact hms.out
      have hb3 : ¬ (c : Int) < bn := by omega
      have hb4 : ¬ c < bn := hcb
      clear hna
      go_wp2_with fail
      refine (kT2.out _ hI3s.out).mono ?_
      rintro e V9 ⟨za, zc, rfl, hEb, hA2⟩
      try dsimp only at hEb ⊢
      rw [hm2.out] at hEb ⊢
      have nw_ := alloc_new V9 (.cells #[.int .u32 (i : Int), .slice za m2 zc] 26)
      have hA3 := bthen hA2 nw_.2.1
      have rb9 := nw_.2.2
      have hEz := hid (hEb.below nw_.2.1)
      have hEy4 := hid (hEy.out.below hA3)
      have rb4 := held_after hA3 rb.out
      have hO4 := hid (hO3.out.below hA3)
      have hW4 := hid (hW3s.out.below hA3)
      have hI4 := hid (hI3s.out.below hA3)
      have hA5 := hid (bthen hA4.out hA3)
      clear nw_ hA2 hA3 hEb hO3 hW3s hI3s hIb3 hA4 kT2 tx1 tx2
      go_upto_region 26 with (fail)
      obtain ⟨W5, hW5⟩ : ∃ X, V9.alloc (.cells #[.int .u32 (i : Int), .slice za m2 zc] 26) = X := ⟨_, rfl⟩
      rw [hW5] at rb9 hEz hEy4 rb4 hO4 hW4 hI4 hA5
      try rw [hW5]
      obtain ⟨pc, hpc⟩ : ∃ X, V9.heap.size = X := ⟨_, rfl⟩
      rw [hpc] at rb9
      try rw [hpc]
      clear hW5 hpc
      have tx1 := t0.out W5 hW4.out
      have tx2 := t9.out W5 hI4.out
      have x0 := held_cell rb9 0 _ rfl
      have x1 := held_cell rb9 1 _ rfl
      have y0 := held_cell rb4 0 _ rfl
      have y1 := held_cell rb4 1 _ rfl
      have kR := hid (fun U h => rresrec_any (i : Int) za m2 zc l2 U hm2.out h (by omega) hlo2.out)
      by_cases hst : CL = CZ
      case pos =>
        have htt := heq.out hst
        have hst3 := hsamt.out hst
        obtain rfl : l2 = bl := by simpa using hst3
        obtain rfl : m2 = m1 := by rw [← hm1.out, hm2.out]
        clear hst3 hsamt hne heq
        replace hst := hid hst
        go_wp2_with fail
        refine (sameB_any (i : Int) za ya zc yc m2 l2 _ hm2.out hEz.out hEy4.out (by omega) hlo2.out).mono ?_
        rintro e V8 ⟨rfl, hA8⟩
        replace hEz := hid (hEz.out.below hA8)
        replace hO4 := hid (hO4.out.below hA8)
        replace hA5 := hid (bthen hA5.out hA8)
        replace rb9 := held_after hA8 rb9
        clear hA8 x0 x1 y0 y1 tx1 tx2
        have x0 := held_cell rb9 0 _ rfl
        have x1 := held_cell rb9 1 _ rfl
        go_wp2_with fail
        refine (kR.out _ hEz.out).mono ?_
        rintro e V5 ⟨ua, uc, rfl, hOr2, hA7⟩
        rw [recsOf_len, hm2.out] at hOr2 ⊢
        have hEr := hid (hOr2.els (by rw [recsV_len, recsOf_len, hm2.out]) (recsV_m (recsOf_ok hlo2.out)))
        have hO5 := hid (hO4.out.below hA7)
        have hA6 := hid (bthen hA5.out hA7)
        have s5 := hid hA6.out.size
        clear hOr2 hA7 hO4 hA5 kR hEz
        go_wp2_with (first | (at_builtin; refine wpList_appE rfl (.tmp 150) (.tmp 152) 28 rfl V4.heap.size 65 13 52 recO (by decide) (.slice ga gn gc) gn (recsV G).flatten rfl hO5.out ua m2 uc (recsV (recsOf l2)) rfl hEr.out (recs_one _) (by unfold maxLen; omega) (by omega) s5.out ?_))
        intro a7 c7 W9 hO9_ hG8 hN
        have hA9 := hid (hA6.out.grown hG8 s5.out (fun g e => (hO5.out.lt g e).1))
        have e9 : (recsV G).flatten ++ (recsV (recsOf l2)).flatten = (recsV (G ++ recsOf l2)).flatten := by simp [recsV]
        rw [e9] at hO9_
        replace hO9_ := hid hO9_
        clear hG8 hN hA6 e9
        go_wp2_with fail
        go_roundw
        case rel => exact ⟨i + 1, c, a7, gn + m2, c7, G ++ recsOf l2, hk1.out, by simp, rfl, hcn, rfl, hO9_.out, hG2, hGl2, hc2, hA9.out⟩
        case measure => simp [intOf]; exact hms.out
      have htt := hne.out hst
      clear hsamt hne heq
      replace hst := hid hst
      go_wp2_with fail
      refine (kR.out _ hEz.out).mono ?_
      rintro e V5 ⟨ua, uc, rfl, hOr2, hA7⟩
      rw [recsOf_len, hm2.out] at hOr2 ⊢
      have hEr := hid (hOr2.els (by rw [recsV_len, recsOf_len, hm2.out]) (recsV_m (recsOf_ok hlo2.out)))
      have hO5 := hid (hO4.out.below hA7)
      have hA6 := hid (bthen hA5.out hA7)
      have s5 := hid hA6.out.size
      clear hOr2 hA7 hO4 hA5 kR hEz
      go_wp2_with (first | (at_builtin; refine wpList_appE rfl (.tmp 150) (.tmp 152) 28 rfl V4.heap.size 65 13 52 recO (by decide) (.slice ga gn gc) gn (recsV G).flatten rfl hO5.out ua m2 uc (recsV (recsOf l2)) rfl hEr.out (recs_one _) (by unfold maxLen; omega) (by omega) s5.out ?_))
      intro a7 c7 W9 hO9_ hG8 hN
      have hA9 := hid (hA6.out.grown hG8 s5.out (fun g e => (hO5.out.lt g e).1))
      have e9 : (recsV G).flatten ++ (recsV (recsOf l2)).flatten = (recsV (G ++ recsOf l2)).flatten := by simp [recsV]
      rw [e9] at hO9_
      replace hO9_ := hid hO9_
      clear hG8 hN hA6 e9
      go_wp2_with fail
      go_roundw
      case rel => exact ⟨i + 1, c, a7, gn + m2, c7, G ++ recsOf l2, hk1.out, by simp, rfl, hcn, rfl, hO9_.out, hG2, hGl2, hc2, hA9.out⟩
      case measure => simp [intOf]; exact hms.out


end Go.Proofs.Ytlfbhfmchdbnoaa
