/- Laws of package rescue: RescueFound. -/
import Derived.Test.YtlfbhfmchdbnoaaLaw37
import Derived.Test.YtlfbhfmchdbnoaaRes8
import Derived.Test.YtlfbhfmchdbnoaaLaw36
import Derived.Test.YtlfbhfmchdbnoaaRes7
import Derived.Deep.DeepCutAuto
namespace Go.Proofs.Ytlfbhfmchdbnoaa
open Go.ChangeShapes Go.WideShapes Go.ChangeAt Go.RowKit
set_option linter.unusedVariables false
set_option linter.unusedSimpArgs false

/-- Bytes without 76. -/
def jk (zs : List Int) : List Int := zs.filter (fun x => decide (x ≠ 76))
theorem jk_76 {zs : List Int} : ∀ x ∈ jk zs, x ≠ 76 := fun x hx => by
  have := (List.mem_filter.1 hx).2
  simpa using this
theorem jk_wf {zs : List Int} (h : ∀ x ∈ zs, (Lit.int .u8 x).wf = true) : ∀ x ∈ jk zs, (Lit.int .u8 x).wf = true := fun x hx => h x (List.mem_filter.1 hx).1
theorem jk_skip {zs : List Int} {k : Nat} (hk : k < zs.length) (h : zs.getD k 0 = 76) : jk (zs.take (k + 1)) = jk (zs.take k) := by
  have e : zs.getD k 0 = zs[k] := by rw [List.getD_eq_getElem?_getD, List.getElem?_eq_getElem hk]; rfl
  rw [List.take_add_one, List.getElem?_eq_getElem hk, Option.toList_some]
  unfold jk
  rw [List.filter_append]
  rw [e] at h
  simp [h]
theorem jk_more {zs : List Int} {k : Nat} (hk : k < zs.length) (h : zs.getD k 0 ≠ 76) : jk (zs.take (k + 1)) = jk (zs.take k) ++ [zs.getD k 0] := by
  have e : zs.getD k 0 = zs[k] := by rw [List.getD_eq_getElem?_getD, List.getElem?_eq_getElem hk]; rfl
  rw [List.take_add_one, List.getElem?_eq_getElem hk, Option.toList_some]
  unfold jk
  rw [List.filter_append]
  rw [e] at h ⊢
  simp [h]
set_option maxRecDepth 100000 in
set_option maxHeartbeats 16000000 in
theorem law_RescueFound (a0 : Option Addr) (len0 cap0 : Nat) (z0 : List Int) (a1 : Int) (a2 : Option Addr) (len2 cap2 : Nat) (x2 : List (List Value)) (W : World) (w0 : IsRow .u8 W a0 len0 cap0 z0) (w1 : (Lit.int .i64 a1).wf = true) (w2 : Els W 13 a2 len2 cap2 x2) (t2 : ∀ x ∈ x2, (∃ (c0 : Int) (c1 : Int) (c2 : Int) (c3 : Int) (c4 : Int) (c5 : Int) (c6 : Int) (c7 : Int) (c8 : Int) (c9 : Int) (c10 : Int) (c11 : Int) (c12 : Int), x = [.int .u32 c0, .int .i32 c1, .int .i32 c2, .int .i32 c3, .int .i32 c4, .int .i32 c5, .int .i32 c6, .int .i32 c7, .int .i32 c8, .int .i32 c9, .int .i32 c10, .int .i32 c11, .int .i32 c12] ∧ ((Lit.int .u32 c0).wf = true) ∧ ((Lit.int .i32 c1).wf = true) ∧ ((Lit.int .i32 c2).wf = true) ∧ ((Lit.int .i32 c3).wf = true) ∧ ((Lit.int .i32 c4).wf = true) ∧ ((Lit.int .i32 c5).wf = true) ∧ ((Lit.int .i32 c6).wf = true) ∧ ((Lit.int .i32 c7).wf = true) ∧ ((Lit.int .i32 c8).wf = true) ∧ ((Lit.int .i32 c9).wf = true) ∧ ((Lit.int .i32 c10).wf = true) ∧ ((Lit.int .i32 c11).wf = true) ∧ ((Lit.int .i32 c12).wf = true))) :
    Calls Try.prog 8 #[.slice a0 len0 cap0, .int .i64 a1, .slice a2 len2 cap2] W fun e w' => e = .returned (.bool true) ∧ Below W.heap.size W w' := by
  clear w1
  obtain ⟨hs1, hw1⟩ := w0.sl
  generalize z0.take len0 = zs at hs1 hw1
  clear w0
  have hzl := hid hs1.1
  replace hs1 := hid hs1
  replace hw1 := hid hw1
  obtain ⟨l, rfl, hl⟩ := els_recs t2
  obtain rfl : l.length = len2 := by have := w2.1; simpa [recsV] using this
  clear t2
  obtain ⟨n, hn⟩ : ∃ n, l.length = n := ⟨_, rfl⟩
  rw [hn] at w2 ⊢
  have hE := hid w2
  clear w2
  replace hl := hid hl
  replace hn := hid hn
  have hB := hid (Below.refl W.heap.size W)
  by_cases c200 : (200 : Int) < len0
  case pos =>
    go_enter Try.func8, Try.ntmps8
    go_wp2_with fail
    refine (knows37_any _).mono ?_
    rintro e V ⟨rfl, hst⟩
    replace hst := hid (bthen hB.out hst)
    go_wp2_with fail
    go_ret
    exact ⟨rfl, hst.out⟩
  by_cases cb : (20 : Int) < n
  case pos =>
    go_enter Try.func8, Try.ntmps8
    go_wp2_with fail
    refine (knows37_any _).mono ?_
    rintro e V ⟨rfl, hst⟩
    replace hst := hid (bthen hB.out hst)
    go_wp2_with fail
    go_ret
    exact ⟨rfl, hst.out⟩
  have h60 : n ≤ 20 := by omega
  go_enter Try.func8, Try.ntmps8
  go_wp2_with fail
  refine (knows37_any _).mono ?_
  rintro e V0 ⟨rfl, hA⟩
  replace hs1 := hid (hs1.out.below hA)
  replace hE := hid (hE.out.below hA)
  replace hB := hid (bthen hB.out hA)
  clear hA
  go_wp2_with fail
  by_cases hbad : a1 < 1 ∨ 255 < a1
  case pos =>
    refine (rwrite_bad a1 _ _ hbad).mono ?_
    rintro e V1 ⟨ta, tc, rfl, hO, hA⟩
    dsimp only [List.length_nil] at hO ⊢
    have hB1 := hid (bthen hB.out hA)
    clear hO hA hB
    go_wp2_with fail
    go_ret
    exact ⟨rfl, hB1.out⟩
  obtain ⟨ev, hev⟩ : ∃ ev : Nat, a1 = ev := ⟨a1.toNat, by omega⟩
  subst hev
  have he1 : 1 ≤ ev := by omega
  have he2 : ev ≤ 255 := by omega
  clear hbad
  obtain ⟨bs, nb, hw1, hw2, hnb, hnn, hLl, hww, hw3, hw4, hw5⟩ := log_of (ev := ev) hl.out hn.out (by omega)
  have kW := rwrite_any ev a2 n cap2 l V0 he1 he2 hn.out (by omega) hE.out hl.out
  rw [hw1] at kW
  obtain ⟨L, hL⟩ : ∃ z, catB 0 bs = z := ⟨_, rfl⟩
  rw [hL] at kW hLl hww hw5
  obtain ⟨ln, hln⟩ : ∃ z, L.length = z := ⟨_, rfl⟩
  rw [hln] at hLl
  have hL2 : ln ≤ 256 * nb := by omega
  have hL3 : 256 * nb ≤ ln := by omega
  have hlq : ln / 256 = nb := by omega
  clear hw1 hLl
  replace hL := hid hL
  replace hw2 := hid hw2
  replace hw3 := hid hw3
  replace hw4 := hid hw4
  replace hw5 := hid hw5
  replace hww := hid hww
  replace hln := hid hln
  replace hnb := hid hnb
  replace kW := hid kW
  replace hlq := hid hlq
  refine kW.out.mono ?_
  rintro e V1 ⟨ta, tc, rfl, hO, hA⟩
  rw [hln.out] at hO ⊢
  have hS := hid hO.slf
  clear hO kW he1 he2
  replace hs1 := hid (hs1.out.below hA)
  replace hE := hid (hE.out.below hA)
  replace hB := hid (bthen hB.out hA)
  clear hA
  have htc := hS.out.2.1
  go_wp2_with fail
  have h200 : len0 ≤ 200 := by omega
  have nE := alloc_new V1 (.cells #[] 5)
  have ownE := Own.lit .u8 5 V1 [] V1.heap.size (Nat.le_refl _) (by simp) #[] rfl
  have hAE := nE.2.1
  clear nE
  obtain ⟨W2, hW2⟩ : ∃ X, V1.alloc (.cells #[] 5) = X := ⟨_, rfl⟩
  rw [hW2] at ownE hAE
  obtain ⟨pE, hpE⟩ : ∃ X, V1.heap.size = X := ⟨_, rfl⟩
  rw [hpE] at ownE
  replace ownE := hid ownE
  replace hAE := hid hAE
  go_loopw [9, 10] (fun ov ix wr => ∃ (k : Nat) (oa : Option Addr) (ol oc : Nat) (Bk : List Int), k ≤ len0 ∧ ix = .int .i64 k ∧ ov = .slice oa ol oc ∧ Hid (Bk.length = ol) ∧ ol ≤ k ∧ Hid (Bk = jk (zs.take k)) ∧ Own .u8 5 wr pE (.slice oa ol oc) Bk ∧ After V1 wr) (fun _ ix _ => len0 - (intOf ix).toNat)
  case atStart => subst hpE; subst hW2; exact ⟨0, some ⟨V1.heap.size, 0, none⟩, 0, 0, [], by omega, rfl, rfl, hid rfl, by omega, hid (by simp [jk]), ownE.out, hAE.out⟩
  case round =>
    clear ownE hAE hW2
    replace hpE := hid hpE
    obtain ⟨k, oa, ol, oc, Bk, hk, rfl, rfl, hbl, holk, hbk, hO, hA⟩ := hrel
    replace hO := hid hO
    by_cases hlt : (k : Int) < len0
    case pos =>
      obtain ⟨b, off, hae, hcb⟩ := (hs1.out.below hA).2.2.2.2 k (by have := hzl.out; omega)
      subst hae
      have hsk := jk_skip (zs := zs) (k := k) (by have := hzl.out; omega)
      have hmo := jk_more (zs := zs) (k := k) (by have := hzl.out; omega)
      obtain ⟨Z, hZ⟩ : ∃ Z, zs.getD k 0 = Z := ⟨_, rfl⟩
      rw [hZ] at hcb hsk hmo
      have kz : (0 : Int) ≤ k := by omega
      have wk : IntKind.i64.wrap ((k : Int) + 1) = (k : Int) + 1 := by rw [IntKind.wrap_i64]; omega
      have hk1 := hid (show k + 1 ≤ len0 by omega)
      have hms := hid (show len0 - (k + 1) < len0 - k by omega)
      clear hZ
      replace hA := hid hA
      by_cases h76 : Z = 76
      case pos =>
        have hne : (Z != 76) = false := by simp [h76]
        have hbk2 := hid (show Bk = jk (zs.take (k + 1)) by rw [hsk h76]; exact hbk.out)
        have hol2 := hid (show ol ≤ k + 1 by omega)
        clear hsk hmo
        replace h76 := hid h76
        go_wp2_with fail
        go_roundw
        case rel => exact ⟨k + 1, oa, ol, oc, Bk, hk1.out, by simp, rfl, hbl, hol2.out, hbk2, hO.out, hA.out⟩
        case measure => simp [intOf]; exact hms.out
      have hne : (Z != 76) = true := by simpa using h76
      have hbk2 := hid (show Bk ++ [Z] = jk (zs.take (k + 1)) by rw [hmo h76, ← hbk.out])
      clear hsk hmo
      replace h76 := hid h76
      have hol2 := hid (show ol + 1 ≤ k + 1 by omega)
      have nC := alloc_new wr (.cells #[.int .u8 Z] 5)
      have slk : Sl .u8 (wr.alloc (.cells #[.int .u8 Z] 5)) (some ⟨wr.heap.size, 0, none⟩) 1 1 [Z] := (Own.lit .u8 5 wr [Z] wr.heap.size (Nat.le_refl _) (by unfold maxLen; simp) #[.int .u8 Z] rfl).slf
      have hO5 := hid (hO.out.below nC.2.1)
      have hA5 := hid (bthen hA.out nC.2.1)
      clear nC hO hA
      obtain ⟨W4, hW4⟩ : ∃ X, wr.alloc (.cells #[.int .u8 Z] 5) = X := ⟨_, rfl⟩
      rw [hW4] at slk hO5 hA5
      obtain ⟨pk, hpk⟩ : ∃ X, wr.heap.size = X := ⟨_, rfl⟩
      rw [hpk] at slk
      replace slk := hid slk
      have s5 := hid (show pE ≤ W4.heap.size by have := hA5.out.size; have := hpE.out; omega)
      have hla := hid (show Bk.length + [Z].length ≤ 140737488355328 by rw [hbl.out]; simp; omega)
      go_wp2_with (first | (at_builtin; refine wpList_app _ rfl (.tmp 47) (.tmp 52) 22 rfl pE 5 .u8 1 bytesOf (.slice oa ol oc) Bk rfl hO5.out (some ⟨pk, 0, none⟩) 1 [Z] rfl slk.out.2.2.2.2 slk.out.2.2.2.1 (by have := hla.out; omega) (by omega) s5.out ?_))
      intro v9 w9 hI9 hG
      obtain ⟨ga, gc, hv9, -⟩ := hI9.sl
      subst hv9
      have hA9 := hid (show After V1 w9 from hO5.out.grew hG hA5.out (by rw [hpE.out]; exact Nat.le_refl _) hA5.out.size)
      have hl9 : (Bk ++ [Z]).length = ol + 1 := by rw [List.length_append, hbl.out]; rfl
      rw [hl9] at hI9 ⊢
      replace hI9 := hid hI9
      replace hl9 := hid hl9
      clear hG hA5 hO5
      go_wp2_with fail
      go_roundw
      case rel => exact ⟨k + 1, ga, ol + 1, gc, Bk ++ [Z], hk1.out, by simp, rfl, hl9, hol2.out, hbk2, hI9.out, hA9.out⟩
      case measure => simp [intOf]; exact hms.out
    obtain rfl : k = len0 := by omega
    have hbj := hbk.out
    rw [List.take_of_length_le (by have := hzl.out; omega)] at hbj
    have hb76 := hid (show ∀ x ∈ Bk, x ≠ 76 by rw [hbj]; exact jk_76)
    have hbw := hid (show ∀ x ∈ Bk, (Lit.int .u8 x).wf = true by rw [hbj]; exact jk_wf hw1.out)
    clear hbj
    have hBk := hid hO.out.slf
    clear hO
    replace hs1 := hid (hs1.out.below hA)
    replace hE := hid (hE.out.below hA)
    replace hS := hid (hS.out.below hA)
    replace hB := hid (bthen hB.out hA)
    clear hA
    have nE := alloc_new wr (.cells #[] 5)
    have ownE := Own.lit .u8 5 wr [] wr.heap.size (Nat.le_refl _) (by simp) #[] rfl
    have hAE := nE.2.1
    have slA := hBk.out.below hAE
    clear nE
    go_wp2_with (at_builtin; go_loud (refine wpList_appK rfl (.tmp 54) (.tmp 55) 22 rfl wr.heap.size 5 .u8 1 bytesOf _ [] rfl ownE oa ol oc Bk rfl slA (by simp <;> omega) (by decide) hAE.size ?_))
    intro a8 c8 V8 hO8 hG8 hq8
    have hA8 := ownE.grew hG8 hAE (Nat.le_refl _) hAE.size
    have ownF : Own .u8 5 V8 wr.heap.size (.slice a8 ol c8) Bk := by first | exact hO8 | (have := hO8; rwa [List.nil_append, show ([] : List Int).length + ol = ol from Nat.zero_add _] at this)
    have slB := hS.out.below hA8
    clear hO8 hq8 hG8 ownE slA hAE
    try rw [show ([] : List Int).length + ol = ol from Nat.zero_add _]
    have hLN := hid ownF.slf.1
    go_wp2_with (at_builtin; go_loud (refine wpList_appK rfl (.tmp 56) (.tmp 57) 22 rfl wr.heap.size 5 .u8 1 bytesOf _ Bk rfl ownF ta ln tc L rfl slB (by have := hLN.out; omega) (by decide) hA8.size ?_))
    intro a9 c9 V9 hO9 hG9 hq9
    have hA := ownF.grew hG9 hA8 (Nat.le_refl _) hA8.size
    replace hO9 := hid hO9.slf
    clear hG9 hq9 ownF slB hA8
    replace hs1 := hid (hs1.out.below hA)
    replace hE := hid (hE.out.below hA)
    replace hS := hid (hS.out.below hA)
    replace hBk := hid (hBk.out.below hA)
    replace hB := hid (bthen hB.out hA)
    clear hA
    have hsc := scanS_log hw2.out (by have := hnb.out; omega) hb76.out
    rw [hL.out, hbl.out] at hsc
    have hgl := gap_log ol bs
    have hll := logF_len ol 0 bs
    rw [hnb.out] at hll
    have hat := fun (i : Nat) (b : List En) (h : bs[i]? = some b) => logF_at ol bs 0 i b h
    obtain ⟨G, hG⟩ : ∃ G, logF ol 0 bs = G := ⟨_, rfl⟩
    rw [hG] at hsc hgl hll
    simp only [hG, Nat.zero_add] at hat
    have hwA := hid (show ∀ x ∈ Bk ++ L, (Lit.int .u8 x).wf = true from fun x hx => by rcases List.mem_append.1 hx with hx | hx; exact hbw.out x hx; exact hww.out x hx)
    have hok := scanF_ok hwA.out (by rw [List.length_append, hbl.out, hln.out]; omega) ((Bk ++ L).length + 1) 0
    change ∀ x ∈ scanS (Bk ++ L), OkS x at hok
    rw [hsc] at hok
    have hnos := hid (show ∀ x ∈ nosS G, 0 ≤ x ∧ x ≤ 4294967295 from fun x hx => by obtain ⟨y, hy, rfl⟩ := List.mem_map.1 hx; exact (hok y hy).2.1)
    replace hsc := hid hsc
    replace hgl := hid hgl
    replace hll := hid hll
    replace hat := hid hat
    replace hok := hid hok
    replace hG := hid hG
    try rw [hbl.out] at hO9
    try rw [hbl.out]
    go_wp2_with fail
    refine (scan_any a9 (ol + ln) c9 (Bk ++ L) _ hO9.out hwA.out (by omega)).mono ?_
    rintro e V10 ⟨xs, xa, xc, hst, rfl, hO, hel, hA⟩
    rw [hsc.out] at hst
    have hxm : xs.length = nb := by rw [strip_len hst, hll.out]
    rw [hxm] at hO ⊢
    have hEx := hid (hO.els (by rw [vals_len, hxm]) (vals_m _))
    replace hel := hid hel
    replace hst := hid hst
    replace hxm := hid hxm
    clear hO
    replace hs1 := hid (hs1.out.below hA)
    replace hE := hid (hE.out.below hA)
    replace hS := hid (hS.out.below hA)
    replace hBk := hid (hBk.out.below hA)
    replace hO9 := hid (hO9.out.below hA)
    replace hB := hid (bthen hB.out hA)
    clear hA
    go_wp2_with fail
    go_loopw [12, 13] (fun ov ix wz => ∃ (i : Nat) (ga : Option Addr) (gn gc : Nat) (O : List Rc), i ≤ nb ∧ ix = .int .i64 i ∧ ov = .slice ga gn gc ∧ OwnE 65 wz V10.heap.size 13 (.slice ga gn gc) gn (recsV O).flatten ∧ Hid (O = recsB (bs.take i)) ∧ Hid (O.length = gn) ∧ gn ≤ 40 ∧ After V10 wz) (fun _ ix _ => nb - (intOf ix).toNat)
    case atStart => exact ⟨0, none, 0, 0, [], by omega, rfl, rfl, OwnE.nil _ _ _ _, hid rfl, hid rfl, by omega, Below.refl _ _⟩
    case round =>
      obtain ⟨i, ga, gn, gc, O, hi, rfl, rfl, hO, hOr, hOl, hg40, hA⟩ := hrel
      have iz : (0 : Int) ≤ i := by omega
      have wi : IntKind.i64.wrap ((i : Int) + 1) = (i : Int) + 1 := by rw [IntKind.wrap_i64]; omega
      replace hO := hid hO
      by_cases hlt : (i : Int) < nb
      case neg =>
        obtain rfl : i = nb := by omega
        have hOe : O = l := by rw [hOr.out, ← hnb.out, List.take_length]; exact hw4.out
        subst hOe
        have hgn : gn = n := by rw [← hOl.out, hn.out]
        subst hgn
        have hEg := hid (hO.out.els (by rw [recsV_len]; exact hn.out) (recsV_m hl.out))
        clear hO
        replace hE := hid (hE.out.below hA)
        replace hEx := hid (hEx.out.below hA)
        replace hB := hid (bthen hB.out hA)
        clear hA
        go_wp2_with fail
        refine (recs_same ga a2 gc cap2 gn O _ hn.out hEg.out hE.out (by omega) hl.out).mono ?_
        rintro e V11 ⟨rfl, hA⟩
        replace hEx := hid (hEx.out.below hA)
        replace hB := hid (bthen hB.out hA)
        clear hA
        go_wp2_with fail
        refine (gaps_any xa xc i xs _ hxm.out hEx.out (by omega) (by rw [hst.out]; exact hnos.out)).mono ?_
        rintro e V12 ⟨rfl, hA⟩
        rw [hst.out, hgl.out]
        have hB9 := hid (bthen hB.out hA)
        clear hA
        go_wp2_with fail
        go_ret
        exact ⟨rfl, hB9.out⟩
      obtain ⟨x, gx⟩ : ∃ x, xs[i]? = some x := ⟨_, List.getElem?_eq_getElem (show i < xs.length by have := hxm.out; omega)⟩
      obtain ⟨bl, hbl2⟩ : ∃ x, bs[i]? = some x := ⟨_, List.getElem?_eq_getElem (show i < bs.length by have := hnb.out; omega)⟩
      have hxg : some (strip38 x) = some (((ol + 256 * i : Nat) : Int), ((i : Nat) : Int), bl) := by rw [← hat.out i bl hbl2, ← hst.out, List.getElem?_map, gx]; rfl
      have ox := hok.out (((ol + 256 * i : Nat) : Int), ((i : Nat) : Int), bl) (List.mem_of_getElem? (hat.out i bl hbl2))
      have lx := hel.out x (List.mem_of_getElem? gx)
      obtain ⟨x1, x2, x3, x4, x5⟩ := x
      unfold strip38 at hxg
      dsimp only at hxg ox
      obtain ⟨rfl, rfl, rfl⟩ : x1 = ((ol + 256 * i : Nat) : Int) ∧ x2 = ((i : Nat) : Int) ∧ x5 = bl := by simpa using hxg
      obtain ⟨pb, off, e9, g0, g1, g2⟩ := (hEx.out.below hA).at3 (vals_at gx)
      cases e9
      dsimp only at g0 g1 g2
      have le := hid (lx.1.below hA)
      obtain ⟨-, -, o3, o4⟩ := ox
      dsimp only at o3 o4
      replace o4 := hid o4
      have hrs : recsB (bs.take (i + 1)) = recsB (bs.take i) ++ recsOf x5 := by rw [List.take_add_one, hbl2, Option.toList_some, recsB_snoc]
      have hr9 := hid (show O ++ recsOf x5 = recsB (bs.take (i + 1)) by rw [hrs, ← hOr.out])
      have hle40 := hid (show gn + x5.length ≤ 40 by have := cnt_le bs (i + 1); rw [← recsB_len, hrs, ← hOr.out, List.length_append, recsOf_len, hOl.out, hw3.out] at this; omega)
      obtain ⟨m, hm⟩ : ∃ m, x5.length = m := ⟨_, rfl⟩
      dsimp only at le
      rw [hm] at le g2 o3 hle40
      replace hm := hid hm
      obtain ⟨p, hp⟩ : ∃ p, 256 * i = p := ⟨_, rfl⟩
      have wp : IntKind.i64.wrap (256 * (i : Int)) = (p : Int) := by rw [IntKind.wrap_i64]; omega
      rw [hp] at g0
      have wop : IntKind.i64.wrap ((ol : Int) + (p : Int)) = ((ol + p : Nat) : Int) := by rw [IntKind.wrap_i64]; omega
      have wi2 : IntKind.i64.wrap (i : Int) = (i : Int) := by rw [IntKind.wrap_i64]; omega
      have hk1 := hid (show i + 1 ≤ nb by omega)
      have hms := hid (show nb - (i + 1) < nb - i by omega)
      obtain ⟨op, hop⟩ : ∃ z, ol + p = z := ⟨_, rfl⟩
      rw [hop] at g0 wop
      clear gx hbl2 hxg lx hrs
      replace hA := hid hA
      replace hp := hid hp
      replace hop := hid hop
      replace hi := hid hi
      have kR := hid (fun U h => rresrec_any ((i : Nat) : Int) x3 m x4 x5 U hm.out h (by omega) o4.out)
      go_wp2_with fail
      refine (kR.out _ le.out).mono ?_
      rintro e V5 ⟨ra, rc, rfl, hOr2, hA5⟩
      rw [recsOf_len, hm.out] at hOr2 ⊢
      have hEr := hid (hOr2.els (by rw [recsV_len, recsOf_len, hm.out]) (recsV_m (recsOf_ok o4.out)))
      have hO5 := hid (hO.out.below hA5)
      have hA6 := hid (bthen hA.out hA5)
      have s5 := hid hA6.out.size
      clear hOr2 hA5 hO hA kR le
      go_wp2_with (first | (at_builtin; refine wpList_appE rfl (.tmp 88) (.tmp 94) 28 rfl V10.heap.size 65 13 52 recO (by decide) (.slice ga gn gc) gn (recsV O).flatten rfl hO5.out ra m rc (recsV (recsOf x5)) rfl hEr.out (recs_one _) (by have := hle40.out; unfold maxLen; omega) (by have := hle40.out; omega) s5.out ?_))
      intro a7 c7 W9 hO9_ hG hN
      have hA9 := hid (hA6.out.grown hG s5.out (fun g e => (hO5.out.lt g e).1))
      have e9 : (recsV O).flatten ++ (recsV (recsOf x5)).flatten = (recsV (O ++ recsOf x5)).flatten := by simp [recsV]
      rw [e9] at hO9_
      replace hO9_ := hid hO9_
      have hl9 := hid (show (O ++ recsOf x5).length = gn + m by rw [List.length_append, recsOf_len, hOl.out, hm.out])
      clear hG hN hA6 e9
      go_wp2_with fail
      go_roundw
      case rel => exact ⟨i + 1, a7, gn + m, c7, O ++ recsOf x5, hk1.out, by simp, rfl, hO9_.out, hr9, hl9, hle40.out, hA9.out⟩
      case measure => simp [intOf]; exact hms.out


end Go.Proofs.Ytlfbhfmchdbnoaa
