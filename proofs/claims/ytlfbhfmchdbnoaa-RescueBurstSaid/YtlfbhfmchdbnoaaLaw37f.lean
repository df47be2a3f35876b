/- Laws of package rescue: RescueBurst. -/
import Derived.Test.YtlfbhfmchdbnoaaLaw37
import Derived.Test.YtlfbhfmchdbnoaaRes8
import Derived.Test.YtlfbhfmchdbnoaaLaw36
import Derived.Test.YtlfbhfmchdbnoaaLaw35d
import Derived.Deep.DeepCutAuto
namespace Go.Proofs.Ytlfbhfmchdbnoaa
open Go.ChangeShapes Go.WideShapes Go.ChangeAt Go.RowKit
set_option linter.unusedVariables false
set_option linter.unusedSimpArgs false

theorem i64_bd37 {x : Int} (h : (Lit.int .i64 x).wf = true) : -9223372036854775808 ≤ x ∧ x ≤ 9223372036854775807 := by
  have h3 : IntKind.i64.min = -9223372036854775808 := rfl
  have h4 : IntKind.i64.max = 9223372036854775807 := rfl
  simp [Lit.wf, h3, h4] at h; exact h
theorem seal_none {ys : List Int} (h : ys.length = 256) (hb : ∀ c ∈ ys, 0 ≤ c ∧ c ≤ 255) (h0 : crcF 65535 ys ≠ 0) : takB ys = (0, [], 4) := by
  refine takB_sum h ?_
  unfold crcOpen
  rw [if_neg (by omega)]
  by_cases c : crcSeal (ys.take (ys.length - 2)) = ys
  · rw [h] at c
    exact absurd ((crcOpen_zero ys 254 (by omega) hb).1 (by simpa using c)) h0
  · rw [if_neg c]
theorem turned_bad {ev : Nat} {recs : List Rc} {at_ no : Nat} {l : List En} {ys : List Int} {k m n : Nat} (hg : blkGood ev recs at_ l) (hT : TurnedAs (putB (no : Int) l).1 k m n ys) (hk : k < 8 * (putB (no : Int) l).1.length) (hn : n ≤ 16) (hm : m % 2 ^ n ≠ 0) : takB ys = (0, [], 4) := by
  have hp := put_told (no := no) hg.2.2.2 hg.2.1 hg.2.2.1
  have hl := good_len hg no
  obtain ⟨Z, h1, h2, h3⟩ := putB_seal hp hg.2.2.2
  have hb : ∀ c ∈ (putB (no : Int) l).1, 0 ≤ c ∧ c ≤ 255 := fun c hc => bytes_bd (bytes_wf (putB_wf (no := (no : Int)) hg.2.2.2)) c hc
  rw [hp] at hT hk hl hb
  dsimp only at hT hk hl hb
  obtain ⟨t1, t2, t3⟩ := hT
  have h16 : m % 2 ^ n < 65536 := Nat.lt_of_lt_of_le (Nat.mod_lt _ (Nat.two_pow_pos n)) (Nat.pow_le_pow_right (n := 2) (by decide) hn)
  have hB := crc_burst _ ys k (m % 2 ^ n) hb t2 t1 h3 t3 h16 (by omega)
  exact seal_none (by omega) t2 (fun h => hm (hB.1 h))
theorem turned_eq {L ys : List Int} {k m n : Nat} (hb : ∀ c ∈ L, 0 ≤ c ∧ c ≤ 255) (hT : TurnedAs L k m n ys) (hm : m % 2 ^ n = 0) : ys = L := by
  obtain ⟨t1, t2, t3⟩ := hT
  rw [hm, Nat.mul_zero, Nat.xor_zero] at t3
  exact numL_inj t2 hb t1 t3
/-- Bytes with one block of 256 put in another's place. -/
def putC (L ys : List Int) (h : Nat) : List Int := L.take (256 * h) ++ ys ++ L.drop (256 * h + 256)
theorem putC_len {L ys : List Int} {h : Nat} (hy : ys.length = 256) (hL : 256 * h + 256 ≤ L.length) : (putC L ys h).length = L.length := by
  unfold putC
  rw [List.length_append, List.length_append, List.length_take, List.length_drop]; omega
theorem putC_at {L ys : List Int} {h : Nat} (hy : ys.length = 256) (hL : 256 * h + 256 ≤ L.length) : chunk (putC L ys h) h = ys := by
  unfold chunk putC
  have e : (L.take (256 * h)).length = 256 * h := by rw [List.length_take]; omega
  rw [List.append_assoc, List.drop_left' e, List.take_left' hy]
theorem putC_other {L ys : List Int} {h i : Nat} (hy : ys.length = 256) (hL : 256 * h + 256 ≤ L.length) (hi : i ≠ h) : chunk (putC L ys h) i = chunk L i := by
  unfold chunk putC
  have e : (L.take (256 * h)).length = 256 * h := by rw [List.length_take]; omega
  refine List.ext_getElem? fun j => ?_
  rw [List.getElem?_take, List.getElem?_take]
  by_cases hj : j < 256
  · rw [if_pos hj, if_pos hj, List.getElem?_drop, List.getElem?_drop]
    by_cases c : i < h
    · rw [List.append_assoc, List.getElem?_append_left (by omega), List.getElem?_take, if_pos (by omega)]
    · rw [List.getElem?_append_right (by rw [List.length_append, e, hy]; omega), List.length_append, e, hy, List.getElem?_drop]
      rw [show 256 * h + 256 + (256 * i + j - (256 * h + 256)) = 256 * i + j by omega]
  · rw [if_neg hj, if_neg hj]
theorem putC_same {L : List Int} {h : Nat} : putC L (chunk L h) h = L := by
  unfold putC chunk
  rw [← List.take_add, List.take_append_drop]
set_option maxRecDepth 100000 in
set_option maxHeartbeats 16000000 in
theorem law_RescueBurst (a0 : Int) (a1 : Option Addr) (len1 cap1 : Nat) (x1 : List (List Value)) (a2 : Int) (a3 : Int) (a4 : Int) (W : World) (w0 : (Lit.int .i64 a0).wf = true) (w1 : Els W 13 a1 len1 cap1 x1) (t1 : ∀ x ∈ x1, (∃ (c0 : Int) (c1 : Int) (c2 : Int) (c3 : Int) (c4 : Int) (c5 : Int) (c6 : Int) (c7 : Int) (c8 : Int) (c9 : Int) (c10 : Int) (c11 : Int) (c12 : Int), x = [.int .u32 c0, .int .i32 c1, .int .i32 c2, .int .i32 c3, .int .i32 c4, .int .i32 c5, .int .i32 c6, .int .i32 c7, .int .i32 c8, .int .i32 c9, .int .i32 c10, .int .i32 c11, .int .i32 c12] ∧ ((Lit.int .u32 c0).wf = true) ∧ ((Lit.int .i32 c1).wf = true) ∧ ((Lit.int .i32 c2).wf = true) ∧ ((Lit.int .i32 c3).wf = true) ∧ ((Lit.int .i32 c4).wf = true) ∧ ((Lit.int .i32 c5).wf = true) ∧ ((Lit.int .i32 c6).wf = true) ∧ ((Lit.int .i32 c7).wf = true) ∧ ((Lit.int .i32 c8).wf = true) ∧ ((Lit.int .i32 c9).wf = true) ∧ ((Lit.int .i32 c10).wf = true) ∧ ((Lit.int .i32 c11).wf = true) ∧ ((Lit.int .i32 c12).wf = true))) (w2 : (Lit.int .i64 a2).wf = true) (w3 : (Lit.int .u16 a3).wf = true) (w4 : (Lit.int .i64 a4).wf = true) :
    Calls Try.prog 7 #[.int .i64 a0, .slice a1 len1 cap1, .int .i64 a2, .int .u16 a3, .int .i64 a4] W fun e w' => e = .returned (.bool true) ∧ Below W.heap.size W w' := by
  have b2 := i64_bd37 w2
  obtain ⟨mk, hmk, hm16⟩ : ∃ mk : Nat, a3 = mk ∧ mk < 65536 := by
    have h3 : IntKind.u16.min = 0 := rfl
    have h4 : IntKind.u16.max = 65535 := rfl
    simp [Lit.wf, h3, h4] at w3
    exact ⟨a3.toNat, by omega, by omega⟩
  subst hmk
  have hm := hid hm16
  have hb2 := hid b2
  clear w0 w2 w3 w4 hm16 b2
  obtain ⟨l, rfl, hl⟩ := els_recs t1
  obtain rfl : l.length = len1 := by have := w1.1; simpa [recsV] using this
  clear t1
  obtain ⟨n, hn⟩ : ∃ n, l.length = n := ⟨_, rfl⟩
  rw [hn] at w1 ⊢
  have hE := hid w1
  clear w1
  replace hl := hid hl
  replace hn := hid hn
  have hB := hid (Below.refl W.heap.size W)
  by_cases cb : (40 : Int) < n
  case pos =>
    go_enter Try.func7, Try.ntmps7
    go_wp2_with fail
    refine (knows37_any _).mono ?_
    rintro e V ⟨rfl, hst⟩
    replace hst := hid (bthen hB.out hst)
    go_wp2_with fail
    go_ret
    exact ⟨rfl, hst.out⟩
  have h60 : n ≤ 40 := by omega
  go_enter Try.func7, Try.ntmps7
  go_wp2_with fail
  refine (knows37_any _).mono ?_
  rintro e V0 ⟨rfl, hA⟩
  replace hE := hid (hE.out.below hA)
  replace hB := hid (bthen hB.out hA)
  clear hA
  go_wp2_with fail
  by_cases hbad : a0 < 1 ∨ 255 < a0
  case pos =>
    refine (rwrite_bad a0 _ _ hbad).mono ?_
    rintro e V1 ⟨ta, tc, rfl, hO, hA⟩
    dsimp only [List.length_nil] at hO ⊢
    have hB1 := hid (bthen hB.out hA)
    clear hO hA hB
    go_wp2_with fail
    go_ret
    exact ⟨rfl, hB1.out⟩
  obtain ⟨ev, hev⟩ : ∃ ev : Nat, a0 = ev := ⟨a0.toNat, by omega⟩
  subst hev
  have he1 : 1 ≤ ev := by omega
  have he2 : ev ≤ 255 := by omega
  clear hbad
  obtain ⟨bs, nb, hw1, hw2, hnb, hnn, hLl, hww, hw3, hw4, hw5⟩ := log_of (ev := ev) hl.out hn.out (by omega)
  have kW := rwrite_any ev a1 n cap1 l V0 he1 he2 hn.out (by omega) hE.out hl.out
  rw [hw1] at kW
  obtain ⟨L, hL⟩ : ∃ z, catB 0 bs = z := ⟨_, rfl⟩
  rw [hL] at kW hLl hww hw5
  obtain ⟨ln, hln⟩ : ∃ z, L.length = z := ⟨_, rfl⟩
  rw [hln] at hLl
  have hL2 : ln ≤ 256 * nb := by omega
  have hL3 : 256 * nb ≤ ln := by omega
  have hlq : ln / 256 = nb := by omega
  clear hw1 hLl
  replace hL := hid hL
  replace hw2 := hid hw2
  replace hw3 := hid hw3
  replace hw4 := hid hw4
  replace hw5 := hid hw5
  replace hww := hid hww
  replace hln := hid hln
  replace hnb := hid hnb
  replace kW := hid kW
  replace hlq := hid hlq
  refine kW.out.mono ?_
  rintro e V1 ⟨ta, tc, rfl, hO, hA⟩
  rw [hln.out] at hO ⊢
  have hS := hid hO.slf
  clear hO kW he1 he2
  replace hE := hid (hE.out.below hA)
  replace hB := hid (bthen hB.out hA)
  clear hA
  have htc := hS.out.2.1
  have hq2 : Int.tdiv (ln : Int) 256 = (nb : Int) := by rw [Int.tdiv_eq_ediv_of_nonneg (by omega)]; omega
  have hq3 : IntKind.i64.wrap (Int.tdiv (ln : Int) 256) = (nb : Int) := by rw [hq2, IntKind.wrap_i64]; omega
  have wnb : IntKind.i64.wrap (nb : Int) = (nb : Int) := by rw [IntKind.wrap_i64]; omega
  by_cases c1 : a4 < 0
  case pos =>
    go_wp2_with fail
    go_ret
    exact ⟨rfl, hB.out⟩
  by_cases c2 : a4 ≥ (nb : Int)
  case pos =>
    have c3 : ¬ a4 < (nb : Int) := by omega
    have c4 : (nb : Int) ≤ a4 := c2
    go_wp2_with fail
    go_ret
    exact ⟨rfl, hB.out⟩
  obtain ⟨h, hh⟩ : ∃ h : Nat, a4 = h := ⟨a4.toNat, by omega⟩
  subst hh
  have hlt : h < nb := by omega
  have c3 : ¬ (nb : Int) ≤ h := by omega
  have c5 : ¬ nb ≤ h := by omega
  clear c2
  obtain ⟨p, hp⟩ : ∃ p, 256 * h = p := ⟨_, rfl⟩
  obtain ⟨q, hq⟩ : ∃ q, p + 256 = q := ⟨_, rfl⟩
  have wp : IntKind.i64.wrap (256 * (h : Int)) = (p : Int) := by rw [IntKind.wrap_i64]; omega
  have wq : IntKind.i64.wrap ((p : Int) + 256) = (q : Int) := by rw [IntKind.wrap_i64]; omega
  have hql : q ≤ ln := by omega
  obtain ⟨bl, hbl⟩ : ∃ x, bs[h]? = some x := ⟨_, List.getElem?_eq_getElem (show h < bs.length by have := hnb.out; omega)⟩
  obtain ⟨hch, hgd⟩ := catB_at (i := 0) hw2.out hbl
  have htk := log_chunk hw2.out (by have := hnb.out; omega) hbl
  rw [hL.out] at htk hch
  rw [Nat.zero_add] at hch
  change chunk L h = _ at hch
  have hcw := chunk_wf hww.out h
  have hcl : (chunk L h).length = 256 := by unfold chunk; rw [List.length_take, List.length_drop, hln.out]; omega
  obtain ⟨ca, hcut, hcs⟩ := cutLH37 ta ln tc p q htc (by omega) hql
  have hcq := hcs _ L hS.out
  clear hcs
  rw [show q - p = 256 by omega] at hcut hcq
  have hce : (L.drop p).take 256 = chunk L h := by unfold chunk; rw [hp]
  rw [hce] at hcq
  clear hce
  obtain ⟨c2, hc2⟩ : ∃ z, tc - p = z := ⟨_, rfl⟩
  rw [hc2] at hcut hcq
  clear hc2
  have kTu := fun U hs => turned_any ca 256 c2 (chunk L h) a2 mk U (by omega) hs hcw hb2.out.1 hb2.out.2 hm.out
  have kTk := fun U hs => rbtake_any ca 256 c2 (chunk L h) U hs hcw (by omega)
  rw [htk] at kTk
  have hys := hid (fun (k n : Nat) (ys : List Int) (hT : TurnedAs (chunk L h) k mk n ys) (hk : k < 8 * (chunk L h).length) (hn : n ≤ 16) (hm : mk % 2 ^ n ≠ 0) => turned_bad (no := h) hgd (by rw [← hch]; exact hT) (by rw [← hch]; exact hk) hn hm)
  have hcb := hid (bytes_bd hcw)
  obtain ⟨CH, hCH⟩ : ∃ z, chunk L h = z := ⟨_, rfl⟩
  rw [hCH] at hcq kTu kTk hys hcb hcl hcw
  obtain ⟨m, hmm⟩ : ∃ z, bl.length = z := ⟨_, rfl⟩
  have hmb := good_few hgd
  rw [hmm] at hmb
  have hcq := hid hcq
  replace kTu := hid kTu
  replace kTk := hid kTk
  replace hCH := hid hCH
  replace htk := hid htk
  replace hgd := hid hgd
  replace hbl := hid hbl
  replace hch := hid hch
  replace hcl := hid hcl
  replace hcw := hid hcw
  replace hp := hid hp
  replace hq := hid hq
  replace hmm := hid hmm
  have qz : (0 : Int) ≤ p := by omega
  have qz2 : (p : Int) ≤ q := by have := hq.out; omega
  have qz3 : (q : Int) ≤ tc := by omega
  have hz0 : (0 : Int) ≤ h := by omega
  go_wp2_with fail
  refine (kTu.out _ hcq.out).mono ?_
  rintro e V2 ⟨xa, xc, ys, any, rfl, hO, hA, hany⟩
  rw [hcl.out] at hO ⊢
  have hYs := hid hO.slf
  clear hO
  replace hE := hid (hE.out.below hA)
  replace hS := hid (hS.out.below hA)
  replace hcq := hid (hcq.out.below hA)
  replace hB := hid (bthen hB.out hA)
  clear hA
  have hyl := hid hYs.out.1
  have hyb : any = true ∧ takB ys = (0, [], 4) ∨ any = false ∧ ys = CH := by
    rcases hany with ⟨e1, e2⟩ | ⟨k, n, e1, e2, e3, e4, e5⟩
    · exact .inr ⟨e1, e2⟩
    · by_cases c : mk % 2 ^ n = 0
      · exact .inr ⟨by rw [e5]; simp [c], turned_eq hcb.out e4 c⟩
      · exact .inl ⟨by rw [e5]; simp [c], hys.out k n ys e4 e2 e3 c⟩
  have hyw := hid (show ∀ x ∈ ys, (Lit.int .u8 x).wf = true from by
    rcases hany with ⟨e1, e2⟩ | ⟨k, n, e1, e2, e3, e4, e5⟩
    · rw [e2]; exact hcw.out
    · exact bytes_wf e4.2.1)
  replace hyb := hid hyb
  clear hany hys kTu
  have cH := fun W => cutH37 ta ln tc p (by omega) W
  obtain ⟨da, hcutD, hcsD⟩ := cutSl ta ln tc q htc hql
  have hLp := hid (hS.out.take p (by have := hq.out; omega))
  have hLd := hid (hcsD _ L hS.out)
  clear hcsD
  obtain ⟨r, hr⟩ : ∃ r, ln - q = r := ⟨_, rfl⟩
  rw [hr] at hcutD hLd
  obtain ⟨rc, hrc⟩ : ∃ r, tc - q = r := ⟨_, rfl⟩
  rw [hrc] at hcutD hLd
  clear hrc
  have hsum : p + 256 + r = ln := by have := hq.out; omega
  replace hr := hid hr
  have q4 : (p : Int) ≤ tc := by omega
  have q5 : (q : Int) ≤ ln := by omega
  have q6 : (0 : Int) ≤ q := by omega
  go_upto_region 7 with (fail)
  obtain ⟨QQ, hQQ⟩ : ∃ QQ, V2.drew = QQ := ⟨_, rfl⟩
  have hAQ : After V2 QQ := by rw [← hQQ]; exact (Below.refl _ V2).drew
  refine wp_region_K (N := QQ.heap.size) (X := []) (by kernel_rfl) ?_
  rw [hQQ]
  refine wpAnyK_take 1 rfl (by kernel_rfl) (by kernel_rfl) (by kernel_rfl) (fun _ _ _ _ h => h) ⟨_, Or.inl ⟨by rfl, fun w2 hb => by (go_simp; try with_reducible rfl)⟩, _, by (go_simp; try rfl), ?_⟩
  refine wpAnyK_take 2 rfl (by kernel_rfl) (by kernel_rfl) (by kernel_rfl) (fun _ _ _ _ h => h) ⟨_, Or.inl ⟨by rfl, fun w2 hb => by (go_simp; try with_reducible rfl)⟩, _, by (go_simp; try rfl), ?_⟩
  refine wpAnyK_take 3 rfl (by kernel_rfl) (by kernel_rfl) (by kernel_rfl) (fun _ _ _ _ h => h) ⟨_, Or.inl ⟨by rfl, fun w2 hb => by (go_simp; try with_reducible rfl)⟩, _, by (go_simp; try rfl), ?_⟩
  refine wpAnyK_take 4 rfl (by kernel_rfl) (by kernel_rfl) (by kernel_rfl) (fun _ _ _ _ h => h) ⟨_, Or.inl ⟨by rfl, fun w2 hb => by (go_simp; try with_reducible rfl)⟩, _, by (go_simp; try rfl), ?_⟩
  refine wpAnyK_take 6 rfl (by kernel_rfl) (by kernel_rfl) (by kernel_rfl) (fun _ _ _ _ h => h) ⟨_, Or.inl ⟨by rfl, fun w2 hb => by (go_simp; try with_reducible rfl)⟩, _, by (go_simp; try rfl), ?_⟩
  refine wpAnyK_take 8 rfl (by kernel_rfl) (by kernel_rfl) (by kernel_rfl) (fun _ _ _ _ h => h) ⟨_, Or.inl ⟨by rfl, fun w2 hb => by (go_simp; try with_reducible rfl)⟩, _, by (go_simp; try rfl), ?_⟩
  refine wpAnyK_take 9 rfl (by kernel_rfl) (by kernel_rfl) (by kernel_rfl) (fun _ _ _ _ h => h) ⟨_, Or.inl ⟨by rfl, fun w2 hb => by (go_simp; try with_reducible rfl)⟩, _, by (go_simp; try rfl), ?_⟩
  refine wpAnyK_take 10 rfl (by kernel_rfl) (by kernel_rfl) (by kernel_rfl) (fun _ _ _ _ h => h) ⟨_, Or.inl ⟨by rfl, fun w2 hb => by (go_simp; try with_reducible rfl)⟩, _, by (go_simp; try rfl), ?_⟩
  refine wpAnyK_take 11 rfl (by kernel_rfl) (by kernel_rfl) (by kernel_rfl) (fun _ _ _ _ h => h) ⟨_, Or.inl ⟨by rfl, fun w2 hb => by (go_simp; try with_reducible rfl)⟩, _, by (go_simp; try rfl), ?_⟩
  refine wpAnyK_take 12 rfl (by kernel_rfl) (by kernel_rfl) (by kernel_rfl) (fun _ _ _ _ h => h) ⟨_, Or.inl ⟨by rfl, fun w2 hb => by (go_simp; try with_reducible rfl)⟩, _, by (go_simp; try rfl), ?_⟩
  refine wpAnyK_only 0 rfl (by kernel_rfl) (by rfl) (fun K hK => ?_)
  go_simp
  have nw := alloc_new QQ (.cells #[] 5)
  have kp := Kp.of (N := QQ.heap.size) (X := []) nw.2.1 (Nat.le_refl _)
  have own0 := Own.lit .u8 5 QQ [] QQ.heap.size (Nat.le_refl _) (by simp) #[] rfl
  have hB7 := nw.2.1
  have hA7 := bthen hAQ hB7
  have slp := hLp.out.below hA7
  have sly := hYs.out.below hA7
  have sld := hLd.out.below hA7
  clear nw hA7
  refine hK _ _ ⟨kp, ?_⟩
  clear hK
  clear kp
  refine wpAnyK_only 5 rfl (by kernel_rfl) (by rfl) (fun K hK => ?_)
  refine wp_appK (.tmp 60) (.tmp 64) 22 rfl QQ.heap.size 5 .u8 1 bytesOf _ [] rfl own0 ta p tc (L.take p) rfl slp (by first | (simp <;> omega) | (rw [List.length_nil]; omega)) (by decide) hB7.size ?_
  intro b5 d5 Y5 hO5 hG hq9
  have kp := Kp.of_grown (N := QQ.heap.size) (X := []) hG hB7.size (fun k e => own_geb own0 e)
  have hB8 := own0.grew hG hB7 (Nat.le_refl _) hB7.size
  have hA7 := bthen hAQ hB8
  replace sly := hYs.out.below hA7
  replace sld := hLd.out.below hA7
  clear hq9 hB7 hA7 hG own0
  have hB7 := hB8
  clear hB8
  have own5 : Own .u8 5 Y5 QQ.heap.size (.slice b5 p d5) (L.take p) := by first | exact hO5 | (have := hO5; rwa [List.nil_append, show ([] : List Int).length + p = p from Nat.zero_add _] at this)
  clear hO5 slp
  try rw [show ([] : List Int).length + p = p from Nat.zero_add _]
  have l5 := own5.slf.1
  refine hK _ _ ⟨kp, ?_⟩
  clear hK
  clear kp
  refine wpAnyK_only 7 rfl (by kernel_rfl) (by rfl) (fun K hK => ?_)
  refine wp_appK (.tmp 65) (.tmp 66) 22 rfl QQ.heap.size 5 .u8 1 bytesOf _ (L.take p) rfl own5 xa 256 xc ys rfl sly (by first | (simp <;> omega) | (rw [l5]; omega)) (by decide) hB7.size ?_
  intro b7 d7 Y7 hO7 hG hq9
  have kp := Kp.of_grown (N := QQ.heap.size) (X := []) hG hB7.size (fun k e => own_geb own5 e)
  have hB8 := own5.grew hG hB7 (Nat.le_refl _) hB7.size
  have hA7 := bthen hAQ hB8
  replace sld := hLd.out.below hA7
  clear hq9 hB7 hA7 hG own5
  have hB7 := hB8
  clear hB8
  rw [l5] at hO7
  try rw [l5]
  have own7 := hO7
  have l7 := own7.slf.1
  clear hO7 sly
  refine hK _ _ ⟨kp, ?_⟩
  clear hK
  clear kp
  refine wpAnyK_only 13 rfl (by kernel_rfl) (by rfl) (fun K hK => ?_)
  refine wp_appK (.tmp 67) (.tmp 72) 22 rfl QQ.heap.size 5 .u8 1 bytesOf _ (L.take p ++ ys) rfl own7 da r rc (L.drop q) rfl sld (by first | (simp <;> omega) | (rw [l7]; omega)) (by decide) hB7.size ?_
  intro b13 d13 Y13 hO13 hG hq9
  have kp := Kp.of_grown (N := QQ.heap.size) (X := []) hG hB7.size (fun k e => own_geb own7 e)
  have hB8 := own7.grew hG hB7 (Nat.le_refl _) hB7.size
  have hA7 := bthen hAQ hB8
  clear hq9 hB7 hA7 hG own7
  have hB7 := hB8
  clear hB8
  rw [l7, hsum] at hO13
  try rw [l7, hsum]
  have own9 := hO13
  clear hO13 sld
  refine hK _ _ ⟨kp, ?_⟩
  clear hK
  clear kp
  refine wpAnyK_take 14 rfl (by kernel_rfl) (by kernel_rfl) (by kernel_rfl) (fun _ _ _ _ h => h) ⟨_, Or.inl ⟨by rfl, fun w2 hb => by (go_simp; try with_reducible rfl)⟩, _, by (go_simp; try rfl), ?_⟩
  refine wpAnyK_done (by kernel_rfl) ?_ _
  have hO9 := hid own9.slf
  have hA := hid (bthen hAQ hB7)
  clear own9 hB7 hAQ
  replace hA := hA.out
  clear hLp hLd hQQ
  replace hE := hid (hE.out.below hA)
  replace hS := hid (hS.out.below hA)
  replace hcq := hid (hcq.out.below hA)
  replace hYs := hid (hYs.out.below hA)
  replace hB := hid (bthen hB.out hA)
  clear hA
  have hpc : L.take p ++ ys ++ L.drop q = putC L ys h := by unfold putC; rw [hp.out, hq.out]
  rw [hpc] at hO9
  have hpl := putC_len (h := h) hyl.out (L := L) (by rw [hp.out, hln.out]; have := hq.out; omega)
  rw [hln.out] at hpl
  have hpa := putC_at (h := h) hyl.out (L := L) (by rw [hp.out, hln.out]; have := hq.out; omega)
  have hpo := fun i => putC_other (h := h) (i := i) hyl.out (L := L) (by rw [hp.out, hln.out]; have := hq.out; omega)
  have hpw := hid (show ∀ x ∈ putC L ys h, (Lit.int .u8 x).wf = true from fun x hx => by rcases List.mem_append.1 hx with hx | hx; rcases List.mem_append.1 hx with hx | hx; exact hww.out x (List.mem_of_mem_take hx); exact hyw.out x hx; exact hww.out x (List.mem_of_mem_drop hx))
  clear hpc
  have hsm := fun e : ys = CH => show putC L ys h = L by rw [e, ← hCH.out]; exact putC_same
  have hbd := fun e : takB ys = (0, [], 4) => (readS_one hw2.out (by have := hnb.out; omega) (zs := putC L ys h) (q := h) (by have := hnb.out; omega) (by unfold goodC; rw [hpa, e]; simp) nb (by have := hnb.out; omega) (fun i hi hn => by rw [hL.out]; exact hpo i hn))
  rw [if_pos hlt, if_pos hlt, show bs.getD h [] = bl by rw [List.getD_eq_getElem?_getD, hbl.out]; rfl, hmm.out, ← hnb.out, List.take_length, hw3.out, hnb.out] at hbd
  obtain ⟨G, hG⟩ : ∃ G, putC L ys h = G := ⟨_, rfl⟩
  rw [hG] at hO9 hpl hbd hpw hsm
  clear hpa hpo
  replace hG := hid hG
  replace hsm := hid hsm
  replace hbd := hid hbd
  replace hpl := hid hpl
  replace hO9 := hid hO9.out
  obtain ⟨⟨O, Bd⟩, hq9⟩ : ∃ r, readS G nb = r := ⟨_, rfl⟩
  have hrk := readS_ok hpw.out nb
  rw [hq9] at hrk
  have hq8 := hid (show readS G (ln / 256) = (O, Bd) by rw [hlq.out]; exact hq9)
  dsimp only at hrk
  obtain ⟨on, hon⟩ : ∃ z, O.length = z := ⟨_, rfl⟩
  obtain ⟨bn, hbn⟩ : ∃ z, Bd.length = z := ⟨_, rfl⟩
  rw [hon, hbn] at hrk
  have ho1 : on ≤ 100000 := by omega
  have hok := hid hrk.2.1
  clear hrk
  replace hq9 := hid hq9
  replace hon := hid hon
  replace hbn := hid hbn
  go_wp2_with fail
  refine (read_any b13 ln d13 G _ hO9.out hpw.out (by omega)).mono ?_
  rintro e V4 ⟨ra, rc2, ba, bc, rfl, hO, hI, hA⟩
  rw [hq8.out] at hO hI ⊢
  dsimp only at hO hI ⊢
  have hEo := hO.els (xs := recsV O) (by rw [recsV_len]) (recsV_m hok.out)
  have hIo := hI.slf
  rw [hon.out] at hEo ⊢
  rw [hbn.out] at hIo ⊢
  replace hEo := hid hEo
  replace hIo := hid hIo
  clear hO hI
  replace hE := hid (hE.out.below hA)
  replace hcq := hid (hcq.out.below hA)
  replace hB := hid (bthen hB.out hA)
  clear hA
  rcases hyb.out with ⟨rfl, hy⟩ | ⟨rfl, hy⟩
  · have hbd2 := hbd.out hy
    rw [hq9.out] at hbd2
    dsimp only at hbd2
    obtain ⟨hb1, hb3⟩ := hbd2
    subst hb1
    rw [hon.out] at hb3
    obtain rfl : bn = 1 := by rw [← hbn.out]; rfl
    clear hbd hsm hyb hy
    have wd : IntKind.i64.wrap ((n : Int) - (m : Int)) = (on : Int) := by rw [IntKind.wrap_i64]; omega
    replace hb3 := hid hb3
    go_wp2_with fail
    refine (kTk.out _ hcq.out).mono ?_
    rintro e V5 ⟨ya, yc, rfl, hEb, hA⟩
    try dsimp only at hEb ⊢
    rw [hmm.out] at hEb ⊢
    clear hEb kTk
    replace hE := hid (hE.out.below hA)
    replace hcq := hid (hcq.out.below hA)
    replace hEo := hid (hEo.out.below hA)
    replace hIo := hid (hIo.out.below hA)
    replace hB := hid (bthen hB.out hA)
    clear hA
    have nw_ := alloc_new V5 (.cells #[.int .u32 (h : Int), .slice ya m yc] 26)
    have hA := nw_.2.1
    have rb := nw_.2.2
    clear nw_
    go_upto_region 12 with (fail)
    obtain ⟨W3, hW3⟩ : ∃ X, V5.alloc (.cells #[.int .u32 (h : Int), .slice ya m yc] 26) = X := ⟨_, rfl⟩
    rw [hW3] at hA rb
    try rw [hW3]
    obtain ⟨pb, hpb⟩ : ∃ X, V5.heap.size = X := ⟨_, rfl⟩
    rw [hpb] at rb
    try rw [hpb]
    have hpb2 := hid hpb
    clear hW3 hpb
    replace hE := hid (hE.out.below hA)
    replace hcq := hid (hcq.out.below hA)
    replace hEo := hid (hEo.out.below hA)
    replace hIo := hid (hIo.out.below hA)
    replace hB := hid (bthen hB.out hA)
    clear hA
    have nC := alloc_new W3 (.cells #[.int .i64 (h : Int)] 3)
    have slk : Sl .i64 (W3.alloc (.cells #[.int .i64 (h : Int)] 3)) (some ⟨W3.heap.size, 0, none⟩) 1 1 [(h : Int)] := (Own.lit .i64 3 W3 [(h : Int)] W3.heap.size (Nat.le_refl _) (by unfold maxLen; simp) #[.int .i64 (h : Int)] rfl).slf
    have hA := nC.2.1
    replace rb := held_after hA rb
    replace slk := hid slk
    clear nC
    replace hE := hid (hE.out.below hA)
    replace hcq := hid (hcq.out.below hA)
    replace hEo := hid (hEo.out.below hA)
    replace hIo := hid (hIo.out.below hA)
    replace hB := hid (bthen hB.out hA)
    clear hA
    have x1 := held_cell rb 1 _ rfl
    go_wp2_with fail
    refine (ints_same ba _ bc 1 1 [(h : Int)] _ hIo.out slk.out (by omega)).mono ?_
    rintro e V6 ⟨rfl, hA⟩
    replace rb := held_after hA rb
    clear x1
    have x1 := held_cell rb 1 _ rfl
    have hB9 := hid (bthen hB.out hA)
    clear hA
    go_wp2_with fail
    go_ret
    exact ⟨rfl, hB9.out⟩
  · have hsm2 := hsm.out hy
    have hw9 := hw5.out
    rw [← hsm2, hq9.out] at hw9
    obtain ⟨rfl, rfl⟩ : O = l ∧ Bd = [] := by simpa using hw9
    obtain rfl : on = n := by rw [← hon.out, hn.out]
    obtain rfl : bn = 0 := by rw [← hbn.out]; rfl
    clear hbd hsm hyb hy hsm2 hw9
    go_wp2_with fail
    refine (recs_same ra a1 rc2 cap1 on O _ hn.out hEo.out hE.out (by omega) hl.out).mono ?_
    rintro e V5 ⟨rfl, hA⟩
    have hB9 := hid (bthen hB.out hA)
    clear hA
    go_wp2_with fail
    go_ret
    exact ⟨rfl, hB9.out⟩


end Go.Proofs.Ytlfbhfmchdbnoaa
