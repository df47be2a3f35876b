/- The laws of layer 36: FlogLog. -/
import Derived.Test.YtkpncailoekjpaaLaw36
import Derived.Laws.StructEq
import Derived.ChangeKeysEq
import Derived.Deep.DeepCutAuto
namespace Go.Proofs.Ytkpncailoekjpaa
open Go.ChangeShapes Go.WideShapes Go.ChangeAt Go.RowKit
set_option linter.unusedVariables false
set_option linter.unusedSimpArgs false

set_option maxRecDepth 100000 in
set_option maxHeartbeats 2000000 in
theorem eqA12f (v0 v1 v2 v3 v4 v5 v6 v7 v8 v9 v10 v11 : Int) (w : World) : (Op.equalIn 9999 31 (.agg #[.int .i32 v0, .int .i32 v1, .int .i32 v2, .int .i32 v3, .int .i32 v4, .int .i32 v5, .int .i32 v6, .int .i32 v7, .int .i32 v8, .int .i32 v9, .int .i32 v10, .int .i32 v11]) (.agg #[.int .i32 v0, .int .i32 v1, .int .i32 v2, .int .i32 v3, .int .i32 v4, .int .i32 v5, .int .i32 v6, .int .i32 v7, .int .i32 v8, .int .i32 v9, .int .i32 v10, .int .i32 v11])).run Try.prog w = .ok true w := by
  have hi : ∃ i, Try.prog.info? 21 = some i := ⟨_, rfl⟩
  obtain ⟨i, hi⟩ := hi
  have hc : Try.prog.cellsOf 21 = 1 := by kernel_rfl
  rw [show (9999 : Nat) = 9998 + 1 from rfl, run_equalIn_array (i := i) w 9998 _ _ Try.underlying31 hi, hc, show List.range 12 = [0, 1, 2, 3, 4, 5, 6, 7, 8, 9, 10, 11] from rfl]
  have e : ∀ (x y : Int) (W : World), (Op.equalIn 9998 21 (.int .i32 x) (.int .i32 y)).run Try.prog W = .ok (x == y) W := fun x y W => run_equalIn_int W 9997 21 .i32 .i32 x y Try.underlying21
  simp [Op.eqItems, go_sem, e]
set_option maxRecDepth 100000 in
set_option maxHeartbeats 2000000 in
theorem eqRf (t v0 v1 v2 v3 v4 v5 v6 v7 v8 v9 v10 v11 : Int) (w : World) : (Op.equalIn 10000 33 (.agg #[.int .u32 t, .int .i32 v0, .int .i32 v1, .int .i32 v2, .int .i32 v3, .int .i32 v4, .int .i32 v5, .int .i32 v6, .int .i32 v7, .int .i32 v8, .int .i32 v9, .int .i32 v10, .int .i32 v11]) (.agg #[.int .u32 t, .int .i32 v0, .int .i32 v1, .int .i32 v2, .int .i32 v3, .int .i32 v4, .int .i32 v5, .int .i32 v6, .int .i32 v7, .int .i32 v8, .int .i32 v9, .int .i32 v10, .int .i32 v11])).run Try.prog w = .ok true w := by
  have eA := fun W => eqA12f v0 v1 v2 v3 v4 v5 v6 v7 v8 v9 v10 v11 W
  rw [show (10000 : Nat) = 9999 + 1 from rfl, run_equalIn_struct w 9999 _ _ _ (by rfl) (by kernel_rfl)]
  go_simp
set_option maxRecDepth 100000 in
theorem cutLH (a : Option Addr) (len cap p q : Nat) (hc : len ≤ cap) (hp : p < q) (hq : q ≤ len) : ∃ a2 : Option Addr, (∀ W : World, (Instr.slice 29 (.slice a len cap) (some (.int .i64 (p : Int))) (some (.int .i64 (q : Int))) none).run Try.prog W = .ok (.slice a2 (q - p) (cap - p)) W) ∧ (∀ (U : World) (zs : List Int), Sl .u8 U a len cap zs → Sl .u8 U a2 (q - p) (cap - p) ((zs.drop p).take (q - p))) := by
  refine ⟨a.map (·.add p), ?_, ?_⟩
  · intro W
    rw [run_slice_lh W 29 a len cap (by rfl) .i64 .i64 (p : Int) (q : Int) (by omega) (by omega) (by omega)]
    have e : ¬ cap = p := by omega
    go_simp <;> simp [sliced, e]
  · intro U zs h
    exact (h.drop p (by omega)).take (q - p) (by omega)
theorem int_zero36 (k : Nat) : ((k : Int) == 0) = decide (k = 0) := by
  by_cases h : k = 0
  · subst h; rfl
  · have e1 : ((k : Int) == 0) = false := by simpa using h
    rw [e1]; simp [h]
theorem blocks_few {ev : Nat} {recs : List Rc} : ∀ {bs : List (List En)} {at_ : Nat}, allB ev recs at_ bs → bs.length ≤ cntB bs
  | [], _, _ => Nat.le_refl _
  | l :: bs, at_, h => by
    have h1 := keyed_pos h.1.2.1
    have h2 := blocks_few h.2
    show bs.length + 1 ≤ l.length + cntB bs
    omega
set_option maxRecDepth 100000 in
set_option maxHeartbeats 16000000 in
theorem law_FlogLog (a0 : Int) (a1 : Option Addr) (len1 cap1 : Nat) (x1 : List (List Value)) (W : World) (w0 : (Lit.int .i64 a0).wf = true) (w1 : Els W 13 a1 len1 cap1 x1) (t1 : ∀ x ∈ x1, (∃ (c0 : Int) (c1 : Int) (c2 : Int) (c3 : Int) (c4 : Int) (c5 : Int) (c6 : Int) (c7 : Int) (c8 : Int) (c9 : Int) (c10 : Int) (c11 : Int) (c12 : Int), x = [.int .u32 c0, .int .i32 c1, .int .i32 c2, .int .i32 c3, .int .i32 c4, .int .i32 c5, .int .i32 c6, .int .i32 c7, .int .i32 c8, .int .i32 c9, .int .i32 c10, .int .i32 c11, .int .i32 c12] ∧ ((Lit.int .u32 c0).wf = true) ∧ ((Lit.int .i32 c1).wf = true) ∧ ((Lit.int .i32 c2).wf = true) ∧ ((Lit.int .i32 c3).wf = true) ∧ ((Lit.int .i32 c4).wf = true) ∧ ((Lit.int .i32 c5).wf = true) ∧ ((Lit.int .i32 c6).wf = true) ∧ ((Lit.int .i32 c7).wf = true) ∧ ((Lit.int .i32 c8).wf = true) ∧ ((Lit.int .i32 c9).wf = true) ∧ ((Lit.int .i32 c10).wf = true) ∧ ((Lit.int .i32 c11).wf = true) ∧ ((Lit.int .i32 c12).wf = true))) :
    Calls Try.prog 5 #[.int .i64 a0, .slice a1 len1 cap1] W fun e w' => e = .returned (.bool true) ∧ Below W.heap.size W w' := by
  obtain ⟨l, rfl, hl⟩ := els_recs t1
  obtain rfl : l.length = len1 := by have := w1.1; simpa [recsV] using this
  clear t1
  obtain ⟨n, hn⟩ : ∃ n, l.length = n := ⟨_, rfl⟩
  rw [hn] at w1 ⊢
  have hE := hid w1
  clear w1
  replace hl := hid hl
  replace hn := hid hn
  by_cases cb : (60 : Int) < n
  case pos =>
    go_enter Try.func5, Try.ntmps5
    go_wp2_with fail
    refine (knows36_any _).mono ?_
    rintro e V ⟨rfl, hst⟩
    replace hst := hid hst
    go_wp2_with fail
    go_ret
    exact ⟨rfl, hst.out⟩
  have h60 : n ≤ 60 := by omega
  go_enter Try.func5, Try.ntmps5
  go_wp2_with fail
  refine (knows36_any _).mono ?_
  rintro e V0 ⟨rfl, hB⟩
  have hE0 := hid (hE.out.below hB)
  replace hB := hid hB
  go_wp2_with fail
  by_cases hbad : a0 < 1 ∨ 255 < a0
  case pos =>
    refine (lwrite_bad a0 _ _ hbad).mono ?_
    rintro e V1 ⟨ta, tc, rfl, hO, hA⟩
    dsimp only [List.length_nil] at hO ⊢
    have hB1 := hid (bthen hB.out hA)
    clear hO hA hB
    go_wp2_with fail
    refine (num36_any 1 _ (by omega) (by omega)).mono ?_
    rintro e V ⟨rfl, hv⟩
    obtain rfl : V1 = V := hv.symm
    clear hv
    by_cases h1 : a0 < 1
    case pos =>
      go_wp2_with fail
      go_ret
      exact ⟨rfl, hB1.out⟩
    have h2 : 255 < a0 := by omega
    clear hbad
    go_wp2_with fail
    go_ret
    exact ⟨rfl, hB1.out⟩
  obtain ⟨ev, hev⟩ : ∃ ev : Nat, a0 = ev := ⟨a0.toNat, by omega⟩
  subst hev
  have he1 : 1 ≤ ev := by omega
  have he2 : ev ≤ 255 := by omega
  clear hbad w0
  obtain ⟨bs, hw1, hw2, hw3⟩ := write_log (ev := ev) hl.out
  have kW := lwrite_any ev a1 n cap1 l V0 he1 he2 hn.out (by omega) hE0.out hl.out
  rw [hw1] at kW
  have hLl := catB_len (i := 0) hw2
  obtain ⟨L, hL⟩ : ∃ z, catB 0 bs = z := ⟨_, rfl⟩
  rw [hL] at kW hLl
  replace hL := hid hL
  obtain ⟨ln, hln⟩ : ∃ z, L.length = z := ⟨_, rfl⟩
  obtain ⟨nb, hnb⟩ : ∃ z, bs.length = z := ⟨_, rfl⟩
  rw [hnb, hln] at hLl
  have hL2 : ln ≤ 256 * nb := by omega
  have hL3 : 256 * nb ≤ ln := by omega
  have hbl := blocks_few hw2
  rw [hw3, hn.out, hnb] at hbl
  replace hw2 := hid hw2
  replace hw3 := hid hw3
  replace hln := hid hln
  replace hnb := hid hnb
  clear hw1 hLl
  replace kW := hid kW
  refine kW.out.mono ?_
  rintro e V1 ⟨ta, tc, rfl, hO, hA⟩
  rw [hln.out] at hO ⊢
  have hS := hid hO.slf
  have hE1 := hid (hE0.out.below hA)
  have hB1 := hid (bthen hB.out hA)
  clear hO hA hB hE0 kW
  go_wp2_with fail
  refine (num36_any 0 _ (by omega) (by omega)).mono ?_
  rintro e V ⟨rfl, hv⟩
  obtain rfl : V1 = V := hv.symm
  clear hv
  go_wp2_with fail
  go_loopw [7, 8] (fun av ix wr => ∃ (i c : Nat), i ≤ nb ∧ ix = .int .i64 i ∧ av = .int .i64 c ∧ Hid (c = cntB (bs.take i)) ∧ c ≤ n ∧ After V1 wr) (fun _ ix _ => nb - (intOf ix).toNat)
  case atStart => exact ⟨0, 0, by omega, rfl, rfl, hid rfl, by omega, Below.refl _ _⟩
  case round =>
    obtain ⟨i, c, hi, rfl, rfl, hc, hcn, hA⟩ := hrel
    have iz : (0 : Int) ≤ i := by omega
    have wi : IntKind.i64.wrap ((i : Int) + 1) = (i : Int) + 1 := by rw [IntKind.wrap_i64]; omega
    obtain ⟨p, hp⟩ : ∃ p, 256 * i = p := ⟨_, rfl⟩
    have wp : IntKind.i64.wrap (256 * (i : Int)) = (p : Int) := by rw [IntKind.wrap_i64]; omega
    by_cases hlt : (p : Int) < ln
    case neg =>
      obtain rfl : i = nb := by omega
      have hcl : c = n := by rw [hc.out, ← hnb.out, List.take_length, hw3.out, hn.out]
      subst hcl
      have hst := hid (bthen hB1.out hA)
      clear hA
      have hp2 := hid hp
      clear hp
      go_wp2_with fail
      go_ret
      exact ⟨rfl, hst.out⟩
    have hi2 : i < nb := by omega
    obtain ⟨bl, hbl2⟩ : ∃ x, bs[i]? = some x := ⟨_, List.getElem?_eq_getElem (show i < bs.length by have := hnb.out; omega)⟩
    obtain ⟨hch, hgd⟩ := catB_at (i := 0) hw2.out hbl2
    rw [hL.out, Nat.zero_add, hp] at hch
    rw [Nat.zero_add, ← hc.out] at hgd
    have hct := cnt_take bs hbl2
    have hcle := cnt_le bs (i + 1)
    rw [hct, ← hc.out, hw3.out, hn.out] at hcle
    replace hct := hid (hct.trans (by rw [← hc.out]))
    have hge := entS_ge bl (0, zer12) stK0.2.2 hgd.2.2.2
    have hg248 := hgd.2.2.1
    have hbm : bl.length ≤ 82 := by omega
    have htk := takB_put (no := (i : Int)) (l := bl) (by omega) (by omega) hgd.2.2.2 (by rw [put_told hgd.2.2.2 hgd.2.1 hgd.2.2.1])
    have hz8 := bytes_wf (putB_wf (no := (i : Int)) hgd.2.2.2)
    rw [← hch] at htk hz8
    clear hch hge hg248
    obtain ⟨q, hq⟩ : ∃ q, p + 256 = q := ⟨_, rfl⟩
    have wq : IntKind.i64.wrap ((p : Int) + 256) = (q : Int) := by rw [IntKind.wrap_i64]; omega
    have hql : ¬ (ln : Int) < q := by omega
    have hqp : q - p = 256 := by omega
    obtain ⟨ca, hcut, hcs⟩ := cutLH ta ln tc p q hS.out.2.1 (by omega) (by omega)
    have hch2 := hid (hcs V1 L hS.out)
    clear hcs
    rw [hqp] at hcut hch2
    obtain ⟨CH, hCH⟩ : ∃ z, (L.drop p).take 256 = z := ⟨_, rfl⟩
    rw [hCH] at htk hz8 hch2
    clear hCH
    obtain ⟨c2, hc2⟩ : ∃ z, tc - p = z := ⟨_, rfl⟩
    rw [hc2] at hcut hch2
    clear hc2
    have kT := fun U h => rbtake_any ca 256 c2 CH U h hz8 (by omega)
    rw [htk.2] at kT
    try dsimp only at kT
    clear htk
    replace kT := hid kT
    replace hz8 := hid hz8
    replace hgd := hid hgd
    replace hp := hid hp
    replace hq := hid hq
    have hbd := hid (And.intro hbl2 hbl2)
    clear hbl2 hbd
    have hk1 := hid (show i + 1 ≤ nb by omega)
    have qz : (0 : Int) ≤ p := by omega
    have qz2 : (p : Int) ≤ q := by omega
    have qz3 : (q : Int) ≤ tc := by have := hS.out.2.1; omega
    clear hqp
    have hch3 := hid (hch2.out.below hA)
    go_upto_region 12 with (fail)
    go_wp2_with fail
    refine (kT.out _ hch3.out).mono ?_
    rintro e V2 ⟨ba, bc, rfl, hEb, hA2⟩
    try dsimp only at hEb ⊢
    have hA3 := hid (Below.trans hA (hA2.mono hA.size))
    replace hEb := hid hEb
    clear hA hA2 kT hch3 hch2 hcut hz8
    obtain ⟨m, hm⟩ : ∃ z, bl.length = z := ⟨_, rfl⟩
    rw [hm] at hEb hbm hcle hct ⊢
    have nw := alloc_new V2 (.cells #[.int .u32 (i : Int), .slice ba m bc] 53)
    have hA4 := hid (bthen hA3.out nw.2.1)
    have rb := hid nw.2.2
    have hEb2 := hid (hEb.out.below nw.2.1)
    clear nw hA3 hEb
    go_upto_region 13 with (fail)
    obtain ⟨W3, hW3⟩ : ∃ X, V2.alloc (.cells #[.int .u32 (i : Int), .slice ba m bc] 53) = X := ⟨_, rfl⟩
    rw [hW3] at hA4 rb hEb2
    try rw [hW3]
    obtain ⟨pb, hpb⟩ : ∃ X, V2.heap.size = X := ⟨_, rfl⟩
    rw [hpb] at rb
    try rw [hpb]
    clear hW3 hpb
    have x0 := held_cell rb.out 0 _ rfl
    have x1 := held_cell rb.out 1 _ rfl
    have wi2 : IntKind.i64.wrap (i : Int) = (i : Int) := by rw [IntKind.wrap_i64]; omega
    have wd : IntKind.i64.wrap ((n : Int) - (c : Int)) = (n : Int) - (c : Int) := by rw [IntKind.wrap_i64]; omega
    have hmx : ¬ (n : Int) - (c : Int) < (m : Int) := by omega
    replace hm := hid hm
    go_wp2_with fail
    refine (num36_any 0 _ (by omega) (by omega)).mono ?_
    rintro e V ⟨rfl, hv⟩
    obtain rfl : W3 = V := hv.symm
    clear hv
    go_wp2_with fail
    go_loopw [7, 11] (fun av ix wr => ∃ (k d : Nat), k ≤ m ∧ ix = .int .i64 k ∧ av = .int .i64 d ∧ Hid (d = c + k) ∧ d ≤ n ∧ After W3 wr) (fun _ ix _ => m - (intOf ix).toNat)
    case atStart => exact ⟨0, c, by omega, rfl, rfl, hid rfl, hcn, Below.refl _ _⟩
    case round =>
      clear x0 x1
      obtain ⟨k, d, hk, rfl, rfl, hd, hdn, hA⟩ := hrel
      have rbw := held_after hA rb.out
      have x1 := held_cell rbw 1 _ rfl
      by_cases hkm : (k : Int) < m
      case neg =>
        obtain rfl : k = m := by omega
        have hdc : d = cntB (bs.take (i + 1)) := by rw [hct.out, hd.out]
        have hA9 := hid (bthen hA4.out hA)
        replace hdc := hid hdc
        clear hA rbw
        go_wp2_with fail
        go_roundw
        case rel => exact ⟨i + 1, d, hk1.out, by simp, rfl, hdc, hdn, hA9.out⟩
        case measure => simp [intOf]; omega
      obtain ⟨x, hx⟩ : ∃ x, bl[k]? = some x := ⟨_, List.getElem?_eq_getElem (show k < bl.length by have := hm.out; omega)⟩
      obtain ⟨r, hr1, rfl⟩ := hgd.out.1 k x hx
      rw [← hd.out] at hr1 hx
      have hdn2 : d < n := by have := (List.getElem?_eq_some_iff.1 hr1).1; have := hn.out; omega
      obtain ⟨hu, hbl, hbb⟩ := hl.out r (List.mem_of_getElem? hr1)
      obtain ⟨u, bz⟩ := r
      dsimp only at hu hbl hbb
      obtain ⟨b0, b1, b2, b3, b4, b5, b6, b7, b8, b9, b10, b11, rfl⟩ := list12 hbl
      obtain ⟨D, hD⟩ : ∃ z, decide (k = 0 ∨ d % ev = 0) = z := ⟨_, rfl⟩
      rw [hD] at hx
      obtain ⟨xb1, xo1, e1, g0, g1, g2, g3, g4, g5, g6, g7, g8, g9, g10, g11, g12, g13⟩ := (hEb2.out.below hA).at14 (entsV_at hx)
      cases e1
      obtain ⟨xb2, xo2, e2, q0, q1, q2, q3, q4, q5, q6, q7, q8, q9, q10, q11, q12⟩ := (hE1.out.below (bthen hA4.out hA)).at13 (recsV_at hr1)
      cases e2
      have kz : (0 : Int) ≤ k := by omega
      have dz : (0 : Int) ≤ d := by omega
      have wk : IntKind.i64.wrap ((k : Int) + 1) = (k : Int) + 1 := by rw [IntKind.wrap_i64]; omega
      have wdd : IntKind.i64.wrap ((d : Int) + 1) = (d : Int) + 1 := by rw [IntKind.wrap_i64]; omega
      have hk3 := hid (show k + 1 ≤ m by omega)
      have hd3 := hid (show d + 1 = c + (k + 1) by have := hd.out; omega)
      have hdn3 := hid (show d + 1 ≤ n by omega)
      have eqx := fun W => eqRf u b0 b1 b2 b3 b4 b5 b6 b7 b8 b9 b10 b11 W
      have hAd := hid hA.drew
      have rD := (show wr.drew.heap[pb]? = _ from rbw)
      clear hx hr1 hu hbl hbb rbw hk hdn hd hmx wd
      by_cases hk0 : k = 0
      case pos =>
        have hDt : D = true := by rw [← hD, hk0]; simp
        subst hDt
        have qk : ((k : Int) == 0) = true := by rw [int_zero36, hk0]; rfl
        clear hD
        replace hk0 := hid hk0
        go_upto_region 18 with (fail)
        refine wp_region_R (by kernel_rfl) ?_
        refine wpAnyR_take 0 rfl (by kernel_rfl) (by kernel_rfl) (by kernel_rfl) (fun _ _ _ _ h => h) ⟨_, Or.inl ⟨by rfl, fun w2 hb2 => by (go_simp; try with_reducible rfl)⟩, _, by (go_simp; try rfl), ?_⟩
        refine wpAnyR_take 1 rfl (by kernel_rfl) (by kernel_rfl) (by kernel_rfl) (fun _ _ _ _ h => h) ⟨_, Or.inl ⟨by rfl, fun w2 hb2 => by (have hr9 := held_after hb2 rD; have y1 := held_cell hr9 1 _ rfl; go_simp; try with_reducible rfl)⟩, _, by (go_simp; try rfl), ?_⟩
        refine wpAnyR_take 2 rfl (by kernel_rfl) (by kernel_rfl) (by kernel_rfl) (fun _ _ _ _ h => h) ⟨_, Or.inl ⟨by rfl, fun w2 hb2 => by (go_simp; try with_reducible rfl)⟩, _, by (go_simp; try rfl), ?_⟩
        refine wpAnyR_take 3 rfl (by kernel_rfl) (by kernel_rfl) (by kernel_rfl) (fun _ _ _ _ h => h) ⟨_, Or.inl ⟨by rfl, fun w2 hb2 => by (go_simp; try with_reducible rfl)⟩, _, by (go_simp; try rfl), ?_⟩
        refine wpAnyR_take 4 rfl (by kernel_rfl) (by kernel_rfl) (by kernel_rfl) (fun _ _ _ _ h => h) ⟨_, Or.inl ⟨by rfl, fun w2 hb2 => by (go_simp; try with_reducible rfl)⟩, _, by (go_simp; try rfl), ?_⟩
        refine wpAnyR_take 5 rfl (by kernel_rfl) (by kernel_rfl) (by kernel_rfl) (fun _ _ _ _ h => h) ⟨_, Or.inl ⟨by rfl, fun w2 hb2 => by (have h1 := (Below.cell hb2 (World.block_lt_of_cell? wr _ g1)).trans g1; have h2 := (Below.cell hb2 (World.block_lt_of_cell? wr _ g2)).trans g2; have h3 := (Below.cell hb2 (World.block_lt_of_cell? wr _ g3)).trans g3; have h4 := (Below.cell hb2 (World.block_lt_of_cell? wr _ g4)).trans g4; have h5 := (Below.cell hb2 (World.block_lt_of_cell? wr _ g5)).trans g5; have h6 := (Below.cell hb2 (World.block_lt_of_cell? wr _ g6)).trans g6; have h7 := (Below.cell hb2 (World.block_lt_of_cell? wr _ g7)).trans g7; have h8 := (Below.cell hb2 (World.block_lt_of_cell? wr _ g8)).trans g8; have h9 := (Below.cell hb2 (World.block_lt_of_cell? wr _ g9)).trans g9; have h10 := (Below.cell hb2 (World.block_lt_of_cell? wr _ g10)).trans g10; have h11 := (Below.cell hb2 (World.block_lt_of_cell? wr _ g11)).trans g11; have h12 := (Below.cell hb2 (World.block_lt_of_cell? wr _ g12)).trans g12; have h13 := (Below.cell hb2 (World.block_lt_of_cell? wr _ g13)).trans g13; go_simp; try with_reducible rfl)⟩, _, by (go_simp; try rfl), ?_⟩
        refine wpAnyR_take 6 rfl (by kernel_rfl) (by kernel_rfl) (by kernel_rfl) (fun _ _ _ _ h => h) ⟨_, Or.inl ⟨by rfl, fun w2 hb2 => by (go_simp; try with_reducible rfl)⟩, _, by (go_simp; try rfl), ?_⟩
        refine wpAnyR_take 7 rfl (by kernel_rfl) (by kernel_rfl) (by kernel_rfl) (fun _ _ _ _ h => h) ⟨_, Or.inl ⟨by rfl, fun w2 hb2 => by (go_simp; try with_reducible rfl)⟩, _, by (go_simp; try rfl), ?_⟩
        refine wpAnyR_take 8 rfl (by kernel_rfl) (by kernel_rfl) (by kernel_rfl) (fun _ _ _ _ h => h) ⟨_, Or.inl ⟨by rfl, fun w2 hb2 => by (go_simp; try with_reducible rfl)⟩, _, by (go_simp; try rfl), ?_⟩
        refine wpAnyR_take 9 rfl (by kernel_rfl) (by kernel_rfl) (by kernel_rfl) (fun _ _ _ _ h => h) ⟨_, Or.inl ⟨by rfl, fun w2 hb2 => by (have v0 := (Below.cell hb2 (World.block_lt_of_cell? wr _ q0)).trans q0; have v1 := (Below.cell hb2 (World.block_lt_of_cell? wr _ q1)).trans q1; have v2 := (Below.cell hb2 (World.block_lt_of_cell? wr _ q2)).trans q2; have v3 := (Below.cell hb2 (World.block_lt_of_cell? wr _ q3)).trans q3; have v4 := (Below.cell hb2 (World.block_lt_of_cell? wr _ q4)).trans q4; have v5 := (Below.cell hb2 (World.block_lt_of_cell? wr _ q5)).trans q5; have v6 := (Below.cell hb2 (World.block_lt_of_cell? wr _ q6)).trans q6; have v7 := (Below.cell hb2 (World.block_lt_of_cell? wr _ q7)).trans q7; have v8 := (Below.cell hb2 (World.block_lt_of_cell? wr _ q8)).trans q8; have v9 := (Below.cell hb2 (World.block_lt_of_cell? wr _ q9)).trans q9; have v10 := (Below.cell hb2 (World.block_lt_of_cell? wr _ q10)).trans q10; have v11 := (Below.cell hb2 (World.block_lt_of_cell? wr _ q11)).trans q11; have v12 := (Below.cell hb2 (World.block_lt_of_cell? wr _ q12)).trans q12; go_simp; try with_reducible rfl)⟩, _, by (go_simp; try rfl), ?_⟩
        refine wpAnyR_take 10 rfl (by kernel_rfl) (by kernel_rfl) (by kernel_rfl) (fun _ _ _ _ h => h) ⟨_, Or.inl ⟨by rfl, fun w2 hb2 => by (go_simp; try with_reducible rfl)⟩, _, by (go_simp; try rfl), ?_⟩
        refine wpAnyR_take 11 rfl (by kernel_rfl) (by kernel_rfl) (by kernel_rfl) (fun _ _ _ _ h => h) ⟨_, Or.inl ⟨by rfl, fun w2 hb2 => by (go_simp; try with_reducible rfl)⟩, _, by (go_simp; try rfl), ?_⟩
        refine wpAnyR_take 12 rfl (by kernel_rfl) (by kernel_rfl) (by kernel_rfl) (fun _ _ _ _ h => h) ⟨_, Or.inl ⟨by rfl, fun w2 hb2 => by (go_simp; try with_reducible rfl)⟩, _, by (go_simp; try rfl), ?_⟩
        refine wpAnyR_take 13 rfl (by kernel_rfl) (by kernel_rfl) (by kernel_rfl) (fun _ _ _ _ h => h) ⟨_, Or.inl ⟨by rfl, fun w2 hb2 => by (go_simp; try with_reducible rfl)⟩, _, by (go_simp; try rfl), ?_⟩
        refine wpAnyR_take 14 rfl (by kernel_rfl) (by kernel_rfl) (by kernel_rfl) (fun _ _ _ _ h => h) ⟨_, Or.inl ⟨by rfl, fun w2 hb2 => by (go_simp; try with_reducible rfl)⟩, _, by (go_simp; try rfl), ?_⟩
        refine wpAnyR_take 15 rfl (by kernel_rfl) (by kernel_rfl) (by kernel_rfl) (fun _ _ _ _ h => h) ⟨_, Or.inr ⟨by rfl, rfl⟩, _, by (go_simp; try rfl), ?_⟩
        refine wpAnyR_take 16 rfl (by kernel_rfl) (by kernel_rfl) (by kernel_rfl) (fun _ _ _ _ h => h) ⟨_, Or.inr ⟨by rfl, rfl⟩, _, by (go_simp; try rfl), ?_⟩
        refine wpAnyR_take 17 rfl (by kernel_rfl) (by kernel_rfl) (by kernel_rfl) (fun _ _ _ _ h => h) ⟨_, Or.inr ⟨by rfl, rfl⟩, _, by (go_simp; try rfl), ?_⟩
        refine wpAnyR_take 18 rfl (by kernel_rfl) (by kernel_rfl) (by kernel_rfl) (fun _ _ _ _ h => h) ⟨_, Or.inr ⟨by rfl, rfl⟩, _, by (go_simp; try rfl), ?_⟩
        refine wpAnyR_take 19 rfl (by kernel_rfl) (by kernel_rfl) (by kernel_rfl) (fun _ _ _ _ h => h) ⟨_, Or.inl ⟨by rfl, fun w2 hb2 => by (go_simp; try with_reducible rfl)⟩, _, by (go_simp; try rfl), ?_⟩
        refine wpAnyR_take 20 rfl (by kernel_rfl) (by kernel_rfl) (by kernel_rfl) (fun _ _ _ _ h => h) ⟨_, Or.inl ⟨by rfl, fun w2 hb2 => by (go_simp; try with_reducible rfl)⟩, _, by (go_simp; try rfl), ?_⟩
        refine wpAnyR_take 21 rfl (by kernel_rfl) (by kernel_rfl) (by kernel_rfl) (fun _ _ _ _ h => h) ⟨_, Or.inl ⟨by rfl, fun w2 hb2 => by (have hr9 := held_after hb2 rD; have y1 := held_cell hr9 1 _ rfl; go_simp; try with_reducible rfl)⟩, _, by (go_simp; try rfl), ?_⟩
        refine wpAnyR_take 22 rfl (by kernel_rfl) (by kernel_rfl) (by kernel_rfl) (fun _ _ _ _ h => h) ⟨_, Or.inl ⟨by rfl, fun w2 hb2 => by (go_simp; try with_reducible rfl)⟩, _, by (go_simp; try rfl), ?_⟩
        refine wpAnyR_take 23 rfl (by kernel_rfl) (by kernel_rfl) (by kernel_rfl) (fun _ _ _ _ h => h) ⟨_, Or.inl ⟨by rfl, fun w2 hb2 => by (go_simp; try with_reducible rfl)⟩, _, by (go_simp; try rfl), ?_⟩
        refine wpAnyR_take 24 rfl (by kernel_rfl) (by kernel_rfl) (by kernel_rfl) (fun _ _ _ _ h => h) ⟨_, Or.inl ⟨by rfl, fun w2 hb2 => by (go_simp; try with_reducible rfl)⟩, _, by (go_simp; try rfl), ?_⟩
        refine wpAnyR_take 25 rfl (by kernel_rfl) (by kernel_rfl) (by kernel_rfl) (fun _ _ _ _ h => h) ⟨_, Or.inl ⟨by rfl, fun w2 hb2 => by (have h0 := (Below.cell hb2 (World.block_lt_of_cell? wr _ g0)).trans g0; go_simp; try with_reducible rfl)⟩, _, by (go_simp; try rfl), ?_⟩
        refine wpAnyR_take 26 rfl (by kernel_rfl) (by kernel_rfl) (by kernel_rfl) (fun _ _ _ _ h => h) ⟨_, Or.inl ⟨by rfl, fun w2 hb2 => by (go_simp; try with_reducible rfl)⟩, _, by (go_simp; try rfl), ?_⟩
        refine wpAnyR_take 27 rfl (by kernel_rfl) (by kernel_rfl) (by kernel_rfl) (fun _ _ _ _ h => h) ⟨_, Or.inl ⟨by rfl, fun w2 hb2 => by (go_simp; try with_reducible rfl)⟩, _, by (go_simp; try rfl), ?_⟩
        refine wpAnyR_done (by kernel_rfl) ?_ _
        clear eqx rD g0 g1 g2 g3 g4 g5 g6 g7 g8 g9 g10 g11 g12 g13 q0 q1 q2 q3 q4 q5 q6 q7 q8 q9 q10 q11 q12
        go_wp2_with fail
        go_roundw
        case rel => exact ⟨k + 1, d + 1, hk3.out, by simp, by simp, hd3, hdn3.out, hAd.out⟩
        case measure => simp [intOf]; omega
      have hDt : decide (d % ev = 0) = D := by rw [← hD]; simp [hk0]
      have qk : ((k : Int) == 0) = false := by rw [int_zero36]; simpa using hk0
      have qr : (Int.tmod (d : Int) (ev : Int) == 0) = D := by rw [rem_is (by omega)]; exact hDt
      have hez : (ev : Int) ≠ 0 := by omega
      have hen : ¬ ev = 0 := by omega
      have wr9 : IntKind.i64.wrap (Int.tmod (d : Int) (ev : Int)) = Int.tmod (d : Int) (ev : Int) := by rw [Int.tmod_eq_emod_of_nonneg (by omega), IntKind.wrap_i64]; have := Int.emod_lt_of_pos (d : Int) (show (0 : Int) < ev by omega); have := Int.emod_nonneg (d : Int) hez; omega
      clear hD hDt
      replace hk0 := hid hk0
      go_upto_region 18 with (fail)
      refine wp_region_R (by kernel_rfl) ?_
      refine wpAnyR_take 0 rfl (by kernel_rfl) (by kernel_rfl) (by kernel_rfl) (fun _ _ _ _ h => h) ⟨_, Or.inl ⟨by rfl, fun w2 hb2 => by (go_simp; try with_reducible rfl)⟩, _, by (go_simp; try rfl), ?_⟩
      refine wpAnyR_take 1 rfl (by kernel_rfl) (by kernel_rfl) (by kernel_rfl) (fun _ _ _ _ h => h) ⟨_, Or.inl ⟨by rfl, fun w2 hb2 => by (have hr9 := held_after hb2 rD; have y1 := held_cell hr9 1 _ rfl; go_simp; try with_reducible rfl)⟩, _, by (go_simp; try rfl), ?_⟩
      refine wpAnyR_take 2 rfl (by kernel_rfl) (by kernel_rfl) (by kernel_rfl) (fun _ _ _ _ h => h) ⟨_, Or.inl ⟨by rfl, fun w2 hb2 => by (go_simp; try with_reducible rfl)⟩, _, by (go_simp; try rfl), ?_⟩
      refine wpAnyR_take 3 rfl (by kernel_rfl) (by kernel_rfl) (by kernel_rfl) (fun _ _ _ _ h => h) ⟨_, Or.inl ⟨by rfl, fun w2 hb2 => by (go_simp; try with_reducible rfl)⟩, _, by (go_simp; try rfl), ?_⟩
      refine wpAnyR_take 4 rfl (by kernel_rfl) (by kernel_rfl) (by kernel_rfl) (fun _ _ _ _ h => h) ⟨_, Or.inl ⟨by rfl, fun w2 hb2 => by (go_simp; try with_reducible rfl)⟩, _, by (go_simp; try rfl), ?_⟩
      refine wpAnyR_take 5 rfl (by kernel_rfl) (by kernel_rfl) (by kernel_rfl) (fun _ _ _ _ h => h) ⟨_, Or.inl ⟨by rfl, fun w2 hb2 => by (have h1 := (Below.cell hb2 (World.block_lt_of_cell? wr _ g1)).trans g1; have h2 := (Below.cell hb2 (World.block_lt_of_cell? wr _ g2)).trans g2; have h3 := (Below.cell hb2 (World.block_lt_of_cell? wr _ g3)).trans g3; have h4 := (Below.cell hb2 (World.block_lt_of_cell? wr _ g4)).trans g4; have h5 := (Below.cell hb2 (World.block_lt_of_cell? wr _ g5)).trans g5; have h6 := (Below.cell hb2 (World.block_lt_of_cell? wr _ g6)).trans g6; have h7 := (Below.cell hb2 (World.block_lt_of_cell? wr _ g7)).trans g7; have h8 := (Below.cell hb2 (World.block_lt_of_cell? wr _ g8)).trans g8; have h9 := (Below.cell hb2 (World.block_lt_of_cell? wr _ g9)).trans g9; have h10 := (Below.cell hb2 (World.block_lt_of_cell? wr _ g10)).trans g10; have h11 := (Below.cell hb2 (World.block_lt_of_cell? wr _ g11)).trans g11; have h12 := (Below.cell hb2 (World.block_lt_of_cell? wr _ g12)).trans g12; have h13 := (Below.cell hb2 (World.block_lt_of_cell? wr _ g13)).trans g13; go_simp; try with_reducible rfl)⟩, _, by (go_simp; try rfl), ?_⟩
      refine wpAnyR_take 6 rfl (by kernel_rfl) (by kernel_rfl) (by kernel_rfl) (fun _ _ _ _ h => h) ⟨_, Or.inl ⟨by rfl, fun w2 hb2 => by (go_simp; try with_reducible rfl)⟩, _, by (go_simp; try rfl), ?_⟩
      refine wpAnyR_take 7 rfl (by kernel_rfl) (by kernel_rfl) (by kernel_rfl) (fun _ _ _ _ h => h) ⟨_, Or.inl ⟨by rfl, fun w2 hb2 => by (go_simp; try with_reducible rfl)⟩, _, by (go_simp; try rfl), ?_⟩
      refine wpAnyR_take 8 rfl (by kernel_rfl) (by kernel_rfl) (by kernel_rfl) (fun _ _ _ _ h => h) ⟨_, Or.inl ⟨by rfl, fun w2 hb2 => by (go_simp; try with_reducible rfl)⟩, _, by (go_simp; try rfl), ?_⟩
      refine wpAnyR_take 9 rfl (by kernel_rfl) (by kernel_rfl) (by kernel_rfl) (fun _ _ _ _ h => h) ⟨_, Or.inl ⟨by rfl, fun w2 hb2 => by (have v0 := (Below.cell hb2 (World.block_lt_of_cell? wr _ q0)).trans q0; have v1 := (Below.cell hb2 (World.block_lt_of_cell? wr _ q1)).trans q1; have v2 := (Below.cell hb2 (World.block_lt_of_cell? wr _ q2)).trans q2; have v3 := (Below.cell hb2 (World.block_lt_of_cell? wr _ q3)).trans q3; have v4 := (Below.cell hb2 (World.block_lt_of_cell? wr _ q4)).trans q4; have v5 := (Below.cell hb2 (World.block_lt_of_cell? wr _ q5)).trans q5; have v6 := (Below.cell hb2 (World.block_lt_of_cell? wr _ q6)).trans q6; have v7 := (Below.cell hb2 (World.block_lt_of_cell? wr _ q7)).trans q7; have v8 := (Below.cell hb2 (World.block_lt_of_cell? wr _ q8)).trans q8; have v9 := (Below.cell hb2 (World.block_lt_of_cell? wr _ q9)).trans q9; have v10 := (Below.cell hb2 (World.block_lt_of_cell? wr _ q10)).trans q10; have v11 := (Below.cell hb2 (World.block_lt_of_cell? wr _ q11)).trans q11; have v12 := (Below.cell hb2 (World.block_lt_of_cell? wr _ q12)).trans q12; go_simp; try with_reducible rfl)⟩, _, by (go_simp; try rfl), ?_⟩
      refine wpAnyR_take 10 rfl (by kernel_rfl) (by kernel_rfl) (by kernel_rfl) (fun _ _ _ _ h => h) ⟨_, Or.inl ⟨by rfl, fun w2 hb2 => by (go_simp; try with_reducible rfl)⟩, _, by (go_simp; try rfl), ?_⟩
      refine wpAnyR_take 11 rfl (by kernel_rfl) (by kernel_rfl) (by kernel_rfl) (fun _ _ _ _ h => h) ⟨_, Or.inl ⟨by rfl, fun w2 hb2 => by (go_simp; try with_reducible rfl)⟩, _, by (go_simp; try rfl), ?_⟩
      refine wpAnyR_take 12 rfl (by kernel_rfl) (by kernel_rfl) (by kernel_rfl) (fun _ _ _ _ h => h) ⟨_, Or.inl ⟨by rfl, fun w2 hb2 => by (go_simp; try with_reducible rfl)⟩, _, by (go_simp; try rfl), ?_⟩
      refine wpAnyR_take 13 rfl (by kernel_rfl) (by kernel_rfl) (by kernel_rfl) (fun _ _ _ _ h => h) ⟨_, Or.inl ⟨by rfl, fun w2 hb2 => by (go_simp; try with_reducible rfl)⟩, _, by (go_simp; try rfl), ?_⟩
      refine wpAnyR_take 14 rfl (by kernel_rfl) (by kernel_rfl) (by kernel_rfl) (fun _ _ _ _ h => h) ⟨_, Or.inl ⟨by rfl, fun w2 hb2 => by (go_simp; try with_reducible rfl)⟩, _, by (go_simp; try rfl), ?_⟩
      refine wpAnyR_take 15 rfl (by kernel_rfl) (by kernel_rfl) (by kernel_rfl) (fun _ _ _ _ h => h) ⟨_, Or.inl ⟨by rfl, fun w2 hb2 => by (go_simp; try with_reducible rfl)⟩, _, by (go_simp; try rfl), ?_⟩
      refine wpAnyR_take 16 rfl (by kernel_rfl) (by kernel_rfl) (by kernel_rfl) (fun _ _ _ _ h => h) ⟨_, Or.inl ⟨by rfl, fun w2 hb2 => by (go_simp; try with_reducible rfl)⟩, _, by (go_simp; try rfl), ?_⟩
      refine wpAnyR_take 17 rfl (by kernel_rfl) (by kernel_rfl) (by kernel_rfl) (fun _ _ _ _ h => h) ⟨_, Or.inl ⟨by rfl, fun w2 hb2 => by (go_simp; try with_reducible rfl)⟩, _, by (go_simp; try rfl), ?_⟩
      refine wpAnyR_take 18 rfl (by kernel_rfl) (by kernel_rfl) (by kernel_rfl) (fun _ _ _ _ h => h) ⟨_, Or.inl ⟨by rfl, fun w2 hb2 => by (go_simp; try with_reducible rfl)⟩, _, by (go_simp; try rfl), ?_⟩
      refine wpAnyR_take 19 rfl (by kernel_rfl) (by kernel_rfl) (by kernel_rfl) (fun _ _ _ _ h => h) ⟨_, Or.inl ⟨by rfl, fun w2 hb2 => by (go_simp; try with_reducible rfl)⟩, _, by (go_simp; try rfl), ?_⟩
      refine wpAnyR_take 20 rfl (by kernel_rfl) (by kernel_rfl) (by kernel_rfl) (fun _ _ _ _ h => h) ⟨_, Or.inl ⟨by rfl, fun w2 hb2 => by (go_simp; try with_reducible rfl)⟩, _, by (go_simp; try rfl), ?_⟩
      refine wpAnyR_take 21 rfl (by kernel_rfl) (by kernel_rfl) (by kernel_rfl) (fun _ _ _ _ h => h) ⟨_, Or.inl ⟨by rfl, fun w2 hb2 => by (have hr9 := held_after hb2 rD; have y1 := held_cell hr9 1 _ rfl; go_simp; try with_reducible rfl)⟩, _, by (go_simp; try rfl), ?_⟩
      refine wpAnyR_take 22 rfl (by kernel_rfl) (by kernel_rfl) (by kernel_rfl) (fun _ _ _ _ h => h) ⟨_, Or.inl ⟨by rfl, fun w2 hb2 => by (go_simp; try with_reducible rfl)⟩, _, by (go_simp; try rfl), ?_⟩
      refine wpAnyR_take 23 rfl (by kernel_rfl) (by kernel_rfl) (by kernel_rfl) (fun _ _ _ _ h => h) ⟨_, Or.inl ⟨by rfl, fun w2 hb2 => by (go_simp; try with_reducible rfl)⟩, _, by (go_simp; try rfl), ?_⟩
      refine wpAnyR_take 24 rfl (by kernel_rfl) (by kernel_rfl) (by kernel_rfl) (fun _ _ _ _ h => h) ⟨_, Or.inl ⟨by rfl, fun w2 hb2 => by (go_simp; try with_reducible rfl)⟩, _, by (go_simp; try rfl), ?_⟩
      refine wpAnyR_take 25 rfl (by kernel_rfl) (by kernel_rfl) (by kernel_rfl) (fun _ _ _ _ h => h) ⟨_, Or.inl ⟨by rfl, fun w2 hb2 => by (have h0 := (Below.cell hb2 (World.block_lt_of_cell? wr _ g0)).trans g0; go_simp; try with_reducible rfl)⟩, _, by (go_simp; try rfl), ?_⟩
      refine wpAnyR_take 26 rfl (by kernel_rfl) (by kernel_rfl) (by kernel_rfl) (fun _ _ _ _ h => h) ⟨_, Or.inl ⟨by rfl, fun w2 hb2 => by (go_simp; try with_reducible rfl)⟩, _, by (go_simp; try rfl), ?_⟩
      refine wpAnyR_take 27 rfl (by kernel_rfl) (by kernel_rfl) (by kernel_rfl) (fun _ _ _ _ h => h) ⟨_, Or.inl ⟨by rfl, fun w2 hb2 => by (go_simp; try with_reducible rfl)⟩, _, by (go_simp; try rfl), ?_⟩
      refine wpAnyR_done (by kernel_rfl) ?_ _
      clear eqx rD g0 g1 g2 g3 g4 g5 g6 g7 g8 g9 g10 g11 g12 g13 q0 q1 q2 q3 q4 q5 q6 q7 q8 q9 q10 q11 q12
      go_wp2_with fail
      go_roundw
      case rel => exact ⟨k + 1, d + 1, hk3.out, by simp, by simp, hd3, hdn3.out, hAd.out⟩
      case measure => simp [intOf]; omega

end Go.Proofs.Ytkpncailoekjpaa
