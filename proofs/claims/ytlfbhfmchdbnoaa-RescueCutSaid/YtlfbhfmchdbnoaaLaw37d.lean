/- Laws of package rescue: RescueCut. -/
import Derived.Test.YtlfbhfmchdbnoaaLaw37
import Derived.Test.YtlfbhfmchdbnoaaRes8
import Derived.Test.YtlfbhfmchdbnoaaLaw36
import Derived.Deep.DeepCutAuto
namespace Go.Proofs.Ytlfbhfmchdbnoaa
open Go.ChangeShapes Go.WideShapes Go.ChangeAt Go.RowKit
set_option linter.unusedVariables false
set_option linter.unusedSimpArgs false

set_option maxRecDepth 100000 in
set_option maxHeartbeats 16000000 in
theorem law_RescueCut (a0 : Int) (a1 : Option Addr) (len1 cap1 : Nat) (x1 : List (List Value)) (a2 : Int) (W : World) (w0 : (Lit.int .i64 a0).wf = true) (w1 : Els W 13 a1 len1 cap1 x1) (t1 : ∀ x ∈ x1, (∃ (c0 : Int) (c1 : Int) (c2 : Int) (c3 : Int) (c4 : Int) (c5 : Int) (c6 : Int) (c7 : Int) (c8 : Int) (c9 : Int) (c10 : Int) (c11 : Int) (c12 : Int), x = [.int .u32 c0, .int .i32 c1, .int .i32 c2, .int .i32 c3, .int .i32 c4, .int .i32 c5, .int .i32 c6, .int .i32 c7, .int .i32 c8, .int .i32 c9, .int .i32 c10, .int .i32 c11, .int .i32 c12] ∧ ((Lit.int .u32 c0).wf = true) ∧ ((Lit.int .i32 c1).wf = true) ∧ ((Lit.int .i32 c2).wf = true) ∧ ((Lit.int .i32 c3).wf = true) ∧ ((Lit.int .i32 c4).wf = true) ∧ ((Lit.int .i32 c5).wf = true) ∧ ((Lit.int .i32 c6).wf = true) ∧ ((Lit.int .i32 c7).wf = true) ∧ ((Lit.int .i32 c8).wf = true) ∧ ((Lit.int .i32 c9).wf = true) ∧ ((Lit.int .i32 c10).wf = true) ∧ ((Lit.int .i32 c11).wf = true) ∧ ((Lit.int .i32 c12).wf = true))) (w2 : (Lit.int .i64 a2).wf = true) :
    Calls Try.prog 6 #[.int .i64 a0, .slice a1 len1 cap1, .int .i64 a2] W fun e w' => e = .returned (.bool true) ∧ Below W.heap.size W w' := by
  clear w2 w0
  obtain ⟨l, rfl, hl⟩ := els_recs t1
  obtain rfl : l.length = len1 := by have := w1.1; simpa [recsV] using this
  clear t1
  obtain ⟨n, hn⟩ : ∃ n, l.length = n := ⟨_, rfl⟩
  rw [hn] at w1 ⊢
  have hE := hid w1
  clear w1
  replace hl := hid hl
  replace hn := hid hn
  have hB := hid (Below.refl W.heap.size W)
  by_cases cb : (40 : Int) < n
  case pos =>
    go_enter Try.func6, Try.ntmps6
    go_wp2_with fail
    refine (knows37_any _).mono ?_
    rintro e V ⟨rfl, hst⟩
    replace hst := hid (bthen hB.out hst)
    go_wp2_with fail
    go_ret
    exact ⟨rfl, hst.out⟩
  have h60 : n ≤ 40 := by omega
  go_enter Try.func6, Try.ntmps6
  go_wp2_with fail
  refine (knows37_any _).mono ?_
  rintro e V0 ⟨rfl, hA⟩
  replace hE := hid (hE.out.below hA)
  replace hB := hid (bthen hB.out hA)
  clear hA
  go_wp2_with fail
  by_cases hbad : a0 < 1 ∨ 255 < a0
  case pos =>
    refine (rwrite_bad a0 _ _ hbad).mono ?_
    rintro e V1 ⟨ta, tc, rfl, hO, hA⟩
    dsimp only [List.length_nil] at hO ⊢
    have hB1 := hid (bthen hB.out hA)
    clear hO hA hB
    go_wp2_with fail
    go_ret
    exact ⟨rfl, hB1.out⟩
  obtain ⟨ev, hev⟩ : ∃ ev : Nat, a0 = ev := ⟨a0.toNat, by omega⟩
  subst hev
  have he1 : 1 ≤ ev := by omega
  have he2 : ev ≤ 255 := by omega
  clear hbad
  obtain ⟨bs, nb, hw1, hw2, hnb, hnn, hLl, hww, hw3, hw4, hw5⟩ := log_of (ev := ev) hl.out hn.out (by omega)
  have kW := rwrite_any ev a1 n cap1 l V0 he1 he2 hn.out (by omega) hE.out hl.out
  rw [hw1] at kW
  obtain ⟨L, hL⟩ : ∃ z, catB 0 bs = z := ⟨_, rfl⟩
  rw [hL] at kW hLl hww hw5
  obtain ⟨ln, hln⟩ : ∃ z, L.length = z := ⟨_, rfl⟩
  rw [hln] at hLl
  have hL2 : ln ≤ 256 * nb := by omega
  have hL3 : 256 * nb ≤ ln := by omega
  have hlq : ln / 256 = nb := by omega
  clear hw1 hLl
  replace hL := hid hL
  replace hw2 := hid hw2
  replace hw3 := hid hw3
  replace hw4 := hid hw4
  replace hw5 := hid hw5
  replace hww := hid hww
  replace hln := hid hln
  replace hnb := hid hnb
  replace kW := hid kW
  replace hlq := hid hlq
  refine kW.out.mono ?_
  rintro e V1 ⟨ta, tc, rfl, hO, hA⟩
  rw [hln.out] at hO ⊢
  have hS := hid hO.slf
  clear hO kW he1 he2
  replace hE := hid (hE.out.below hA)
  replace hB := hid (bthen hB.out hA)
  clear hA
  have htc := hS.out.2.1
  go_wp2_with fail
  have hq0 := hid (show readS L (ln / 256) = (l, []) by rw [hlq.out]; exact hw5.out)
  refine (read_any ta ln tc L _ hS.out hww.out (by omega)).mono ?_
  rintro e V2 ⟨ra1, rc1, ba1, bc1, rfl, hO, hI, hA⟩
  rw [hq0.out] at hO hI ⊢
  dsimp only at hO hI ⊢
  simp only [List.length_nil] at hI ⊢
  rw [hn.out] at hO ⊢
  have hE1 := hid (hO.els (xs := recsV l) (by rw [recsV_len]; exact hn.out) (recsV_m hl.out))
  clear hO hI
  replace hE := hid (hE.out.below hA)
  replace hS := hid (hS.out.below hA)
  replace hB := hid (bthen hB.out hA)
  clear hA
  go_wp2_with fail
  refine (recs_same ra1 a1 rc1 cap1 n l _ hn.out hE1.out hE.out (by omega) hl.out).mono ?_
  rintro e V3 ⟨rfl, hA⟩
  replace hE := hid (hE.out.below hA)
  replace hS := hid (hS.out.below hA)
  replace hE1 := hid (hE1.out.below hA)
  replace hB := hid (bthen hB.out hA)
  clear hA
  by_cases hN : a2 < 0 ∨ (ln : Int) < a2
  case pos =>
    have key : ∀ {P : Prop}, (a2 < 0 → P) → (0 ≤ a2 → (ln : Int) < a2 → P) → P := fun h1 h2 => if c : a2 < 0 then h1 c else h2 (by omega) (by omega)
    refine key (fun c1 => ?_) (fun c1 c2 => ?_)
    · clear hN key
      go_wp2_with fail
      refine (recs_same ra1 a1 rc1 cap1 n l _ hn.out hE1.out hE.out (by omega) hl.out).mono ?_
      rintro e V4 ⟨rfl, hA⟩
      have hB9 := hid (bthen hB.out hA)
      clear hA
      go_wp2_with fail
      go_ret
      exact ⟨rfl, hB9.out⟩
    · clear hN key
      have c3 : ¬ a2 < 0 := by omega
      go_wp2_with fail
      refine (recs_same ra1 a1 rc1 cap1 n l _ hn.out hE1.out hE.out (by omega) hl.out).mono ?_
      rintro e V4 ⟨rfl, hA⟩
      have hB9 := hid (bthen hB.out hA)
      clear hA
      go_wp2_with fail
      go_ret
      exact ⟨rfl, hB9.out⟩
  obtain ⟨N, hNe⟩ : ∃ N : Nat, a2 = N := ⟨a2.toNat, by omega⟩
  subst hNe
  have hN1 : ¬ (N : Int) < 0 := by omega
  have hN2 : ¬ (ln : Int) < N := by omega
  have hN3 : N ≤ ln := by omega
  clear hN
  obtain ⟨nw, hnw⟩ : ∃ z, N / 256 = z := ⟨_, rfl⟩
  have hq1 : Int.tdiv (N : Int) 256 = (nw : Int) := by rw [Int.tdiv_eq_ediv_of_nonneg (by omega)]; omega
  have hq2 : IntKind.i64.wrap (Int.tdiv (N : Int) 256) = (nw : Int) := by rw [hq1, IntKind.wrap_i64]; omega
  have wnw : IntKind.i64.wrap (nw : Int) = (nw : Int) := by rw [IntKind.wrap_i64]; omega
  have hnwb : nw ≤ nb := by omega
  have hn256 : 256 * nw ≤ N := by omega
  have cH := fun W => cutH37 ta ln tc N (by omega) W
  have hcut := hid (hS.out.take N hN3)
  have hr2 := readS_log hw2.out (by have := hnb.out; omega) (zs := L.take N) nw (by have := hnb.out; omega) (fun i hi => by rw [hL.out]; exact chunk_take (by omega))
  have hrt := recsB_take hw2.out (by rw [hw3.out, hn.out]) nw
  rw [hrt] at hr2
  obtain ⟨c, hc⟩ : ∃ z, cntB (bs.take nw) = z := ⟨_, rfl⟩
  rw [hc] at hr2
  have hcn : c ≤ n := by have := cnt_le bs nw; rw [hc, hw3.out] at this; exact this
  have hr3 := hid (show readS (L.take N) (N / 256) = (l.take c, []) by rw [hnw]; exact hr2)
  have hlc := hid (show (l.take c).length = c by rw [List.length_take, hn.out]; omega)
  have hlk := hid (show ∀ r ∈ l.take c, StK r from fun r hr => hl.out r (List.mem_of_mem_take hr))
  have hwt := hid (show ∀ x ∈ L.take N, (Lit.int .u8 x).wf = true from fun x hx => hww.out x (List.mem_of_mem_take hx))
  clear hr2 hrt
  replace hc := hid hc
  replace hnw := hid hnw
  have hEt := hid (hE.out.take c cap1 hcn (by have := hE.out.2.1; omega) (Nat.le_refl _))
  have e13 : (recsV l).take c = recsV (l.take c) := by unfold recsV; rw [List.map_take]
  rw [e13] at hEt
  clear e13
  have cR := fun W => cutR37 a1 n cap1 c (by have := hE.out.2.1; omega) W
  go_wp2_with fail
  refine (read_any ta N tc (L.take N) _ hcut.out hwt.out (by omega)).mono ?_
  rintro e V4 ⟨ra2, rc2, ba2, bc2, rfl, hO, hI, hA⟩
  rw [hr3.out] at hO hI ⊢
  dsimp only at hO hI ⊢
  simp only [List.length_nil] at hI ⊢
  rw [hlc.out] at hO ⊢
  have hE2 := hid (hO.els (xs := recsV (l.take c)) (by rw [recsV_len]; exact hlc.out) (recsV_m hlk.out))
  clear hO hI
  replace hE := hid (hE.out.below hA)
  replace hS := hid (hS.out.below hA)
  replace hE1 := hid (hE1.out.below hA)
  replace hcut := hid (hcut.out.below hA)
  replace hEt := hid (hEt.out.below hA)
  replace hB := hid (bthen hB.out hA)
  clear hA
  go_wp2_with fail
  have hV := hid (Below.refl V4.heap.size V4)
  go_loopw [13, 14] (fun av ix wr => ∃ (i d : Nat), i ≤ nw ∧ ix = .int .i64 i ∧ av = .int .i64 d ∧ Hid (d = cntB (bs.take i)) ∧ d ≤ n ∧ After V4 wr) (fun _ ix _ => nw - (intOf ix).toNat)
  case atStart => exact ⟨0, 0, by omega, rfl, rfl, hid rfl, by omega, Below.refl _ _⟩
  case round =>
    obtain ⟨i, d, hi, rfl, rfl, hd, hdn, hA⟩ := hrel
    have iz : (0 : Int) ≤ i := by omega
    have wi : IntKind.i64.wrap ((i : Int) + 1) = (i : Int) + 1 := by rw [IntKind.wrap_i64]; omega
    by_cases hlt : (i : Int) < nw
    case neg =>
      obtain rfl : i = nw := by omega
      have hdc : d = c := by rw [hd.out, hc.out]
      subst hdc
      replace hd := hid hd
      replace hE2 := hid (hE2.out.below hA)
      replace hEt := hid (hEt.out.below hA)
      replace hB := hid (bthen hB.out hA)
      clear hA
      have dz : (0 : Int) ≤ d := by omega
      have dl : (d : Int) ≤ n := by omega
      go_wp2_with fail
      refine (recs_same ra2 a1 rc2 cap1 d (l.take d) _ hlc.out hE2.out hEt.out (by omega) hlk.out).mono ?_
      rintro e V6 ⟨rfl, hA⟩
      have hB9 := hid (bthen hB.out hA)
      clear hA
      go_wp2_with fail
      go_ret
      exact ⟨rfl, hB9.out⟩
    obtain ⟨p, hp⟩ : ∃ p, 256 * i = p := ⟨_, rfl⟩
    have wp : IntKind.i64.wrap (256 * (i : Int)) = (p : Int) := by rw [IntKind.wrap_i64]; omega
    obtain ⟨q, hq⟩ : ∃ q, p + 256 = q := ⟨_, rfl⟩
    have wq : IntKind.i64.wrap ((p : Int) + 256) = (q : Int) := by rw [IntKind.wrap_i64]; omega
    obtain ⟨bl, hbl⟩ : ∃ x, bs[i]? = some x := ⟨_, List.getElem?_eq_getElem (show i < bs.length by have := hnb.out; omega)⟩
    have htk := log_chunk hw2.out (by have := hnb.out; omega) hbl
    rw [hL.out] at htk
    have hct := cnt_take bs hbl
    have hcle := cnt_le bs (i + 1)
    rw [hct, hw3.out, ← hd.out] at hcle
    rw [← hd.out] at hct
    obtain ⟨m, hm⟩ : ∃ z, bl.length = z := ⟨_, rfl⟩
    rw [hm] at hct hcle
    obtain ⟨ca, hcut2, hcs⟩ := cutLH37 ta ln tc p q htc (by omega) (by omega)
    have hch := hcs _ L hS.out
    clear hcs
    rw [show q - p = 256 by omega] at hcut2 hch
    have hce : (L.drop p).take 256 = chunk L i := by unfold chunk; rw [hp]
    rw [hce] at hch
    clear hce
    have hcw := chunk_wf hww.out i
    obtain ⟨c2, hc2⟩ : ∃ z, tc - p = z := ⟨_, rfl⟩
    rw [hc2] at hcut2 hch
    clear hc2
    have kT := fun U h => rbtake_any ca 256 c2 (chunk L i) U h hcw (by omega)
    rw [htk] at kT
    replace kT := hid kT
    have hch2 := hid (hch.below hA)
    have qz : (0 : Int) ≤ p := by omega
    have qz2 : (p : Int) ≤ q := by omega
    have qz3 : (q : Int) ≤ tc := by omega
    have hk1 := hid (show i + 1 ≤ nw by omega)
    have wd : IntKind.i64.wrap ((d : Int) + (m : Int)) = ((d + m : Nat) : Int) := by rw [IntKind.wrap_i64]; omega
    have hd9 := hid hct.symm
    have hdn9 := hid hcle
    clear htk hct hcle hcw hch hbl
    replace hp := hid hp
    replace hq := hid hq
    replace hm := hid hm
    replace hA := hid hA
    go_wp2_with fail
    refine (kT.out _ hch2.out).mono ?_
    rintro e V7 ⟨ba, bc, rfl, hEb, hA2⟩
    try dsimp only at hEb ⊢
    rw [hm.out] at hEb ⊢
    have hA3 := hid (bthen hA.out hA2)
    clear hA2 hEb kT hch2 hcut2 hA
    have nw_ := alloc_new V7 (.cells #[.int .u32 (i : Int), .slice ba m bc] 26)
    have hA4 := hid (bthen hA3.out nw_.2.1)
    have rb := nw_.2.2
    clear nw_ hA3
    go_upto_region 15 with (fail)
    obtain ⟨W3, hW3⟩ : ∃ X, V7.alloc (.cells #[.int .u32 (i : Int), .slice ba m bc] 26) = X := ⟨_, rfl⟩
    rw [hW3] at hA4 rb
    try rw [hW3]
    obtain ⟨pb, hpb⟩ : ∃ X, V7.heap.size = X := ⟨_, rfl⟩
    rw [hpb] at rb
    try rw [hpb]
    clear hW3 hpb
    have x0 := held_cell rb 0 _ rfl
    have x1 := held_cell rb 1 _ rfl
    go_wp2_with fail
    go_roundw
    case rel => exact ⟨i + 1, d + m, hk1.out, by simp, rfl, hd9, hdn9.out, hA4.out⟩
    case measure => simp [intOf]; have := hk1.out; omega


end Go.Proofs.Ytlfbhfmchdbnoaa
