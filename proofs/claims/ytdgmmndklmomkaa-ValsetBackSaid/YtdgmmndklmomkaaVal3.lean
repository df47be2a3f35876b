/- Package valset: Put. -/
import Derived.Test.YtdgmmndklmomkaaVal2
import Derived.Test.YtdgmmndklmomkaaKA
import Derived.Laws.OwnMore
import Derived.Deep.DeepCutAuto
namespace Go.Proofs.Ytdgmmndklmomkaa
open Go.ChangeShapes Go.WideShapes Go.ChangeAt Go.RowKit
set_option linter.unusedVariables false
set_option linter.unusedSimpArgs false

set_option maxRecDepth 100000 in
set_option maxHeartbeats 8000000 in
theorem putV_any (layers : Int) (a : Option Addr) (len cap : Nat) (l : List (Int × Int)) (w : World) (hE : Els w 2 a len cap (prsV l)) (hln : l.length = len) (h40 : len ≤ 40) (hly : -9223372036854775808 ≤ layers ∧ layers ≤ 9223372036854775807) (hwf : ∀ x ∈ l, (-9223372036854775808 ≤ x.1 ∧ x.1 ≤ 9223372036854775807) ∧ (-9223372036854775808 ≤ x.2 ∧ x.2 ≤ 9223372036854775807)) : Calls Try.prog 7 #[.agg #[.int .i64 layers, .slice a len cap]] w (BsOk w (putVS layers l)) := by
  have hcap := hE.2.1
  have hcm := hE.2.2.1
  have hmm : maxLen ≤ 9223372036854775807 := by decide
  have h40i : (len : Int) ≤ 40 := by omega
  have hcl := catS_len
  replace hE := hid hE
  replace hwf := hid hwf
  replace hcl := hid hcl
  have hE0w := hE
  by_cases hbig : (32 : Int) < len
  case pos =>
    have e : putVS layers l = ([], 7) := by unfold putVS; rw [if_pos (by omega)]
    rw [e]
    clear e
    go_enter Try.func7, Try.ntmps7
    go_upto_region 0 with (fail)
    apply wp_region_seg0 (w := w) (S := [.al 1000, .q [], .q []]) (E := [.al ((fun p => .pointer (some ⟨p, 0, none⟩)), _) 1000, .q0 _, .q0 _]) rfl (by kernel_rfl) rfl rfl
    intro th hge hne
    refine Seg.step _ rfl ⟨by rfl, fun U hU => ?_⟩ ?_
    · go_simp; exact vp_alloc rfl rfl rfl
    refine ⟨_, by (simp only [Ent.val]; go_simp <;> exact rfl), ?_⟩
    refine Seg.step _ rfl (Or.inl ⟨by rfl, fun U hU => vp_quiet (by (go_simp <;> exact rfl))⟩) ⟨_, by (simp only [Ent.val]; go_simp <;> exact rfl), ?_⟩
    refine Seg.step _ rfl (Or.inl ⟨by rfl, fun U hU => vp_quiet (by (go_simp <;> exact rfl))⟩) ⟨_, by (simp only [Ent.val]; go_simp <;> exact rfl), ?_⟩
    refine Seg.stop (fun U1 hU hk => ?_)
    have nb0 := hge 0 _ _ rfl
    have rb0 := (hk 0 _ _ rfl trivial).1.2 (by simp)
    clear hk hge hne
    generalize th (0 + 0) = p0_0 at *
    dsimp only at rb0
    have r_p0_0 := rb0
    clear rb0
    have n_p0_0 := nb0
    clear nb0
    have sz1 := hU.size
    have hB : Below w.heap.size w U1 := hU
    clear hU
    replace hB := hid hB
    have z0 := held_cell r_p0_0 0 _ rfl
    have z1 := held_cell r_p0_0 1 _ rfl
    go_wp2_with fail
    go_ret2
    exact BsOk.no hB.out
  have hbn : ¬ (32 < l.length) := by omega
  obtain ⟨⟨hb, he⟩, hr⟩ : ∃ r, putL HL [0, layers, 0] = r := ⟨_, rfl⟩
  have hb0 := put_len hr (by decide)
  have hpe := putF_e (fN HL) (fS HL) (fL HL) (fH HL) HL.length [0, layers, 0]
  change 0 ≤ (putL HL [0, layers, 0]).2 ∧ (putL HL [0, layers, 0]).2 ≤ 9 at hpe
  rw [hr] at hpe
  dsimp only at hpe
  have hG : putVS layers l = if he ≠ 0 then ([], he) else if errS l = 0 then (hb ++ catS l, 0) else ([], errS l) := by unfold putVS; rw [if_neg hbn, hr]
  obtain ⟨PV, hPV⟩ : ∃ r, putVS layers l = r := ⟨_, rfl⟩
  rw [hPV]
  rw [hPV] at hG
  clear hPV
  replace hG := hid hG
  have hb3 : ∀ x ∈ [0, layers, 0], -9223372036854775808 ≤ x ∧ x ≤ 9223372036854775807 := by
    intro x hx
    simp at hx
    rcases hx with rfl | rfl | rfl
    · omega
    · exact hly
    · omega
  have hbl := hb0.1
  replace hb3 := hid hb3
  replace hr := hid hr
  clear hb0 hly
  go_enter Try.func7, Try.ntmps7
  go_upto_region 0 with (fail)
  apply wp_region_seg0 (w := w) (S := [.al 1000, .q [], .q []]) (E := [.al ((fun p => .pointer (some ⟨p, 0, none⟩)), _) 1000, .q0 _, .q0 _]) rfl (by kernel_rfl) rfl rfl
  intro th hge hne
  refine Seg.step _ rfl ⟨by rfl, fun U hU => ?_⟩ ?_
  · go_simp; exact vp_alloc rfl rfl rfl
  refine ⟨_, by (simp only [Ent.val]; go_simp <;> exact rfl), ?_⟩
  refine Seg.step _ rfl (Or.inl ⟨by rfl, fun U hU => vp_quiet (by (go_simp <;> exact rfl))⟩) ⟨_, by (simp only [Ent.val]; go_simp <;> exact rfl), ?_⟩
  refine Seg.step _ rfl (Or.inl ⟨by rfl, fun U hU => vp_quiet (by (go_simp <;> exact rfl))⟩) ⟨_, by (simp only [Ent.val]; go_simp <;> exact rfl), ?_⟩
  refine Seg.stop (fun U1 hU hk => ?_)
  have nb0 := hge 0 _ _ rfl
  have rb0 := (hk 0 _ _ rfl trivial).1.2 (by simp)
  clear hk hge hne
  generalize th (0 + 0) = p0_0 at *
  dsimp only at rb0
  have r_p0_0 := rb0
  clear rb0
  have n_p0_0 := nb0
  clear nb0
  have sz1 := hU.size
  have hB : Below w.heap.size w U1 := hU
  clear hU
  have nB := n_p0_0
  replace hE := hid (hE.out.below hB)
  have z0 := held_cell r_p0_0 0 _ rfl
  have z1 := held_cell r_p0_0 1 _ rfl
  go_upto_region 3 with (fail)
  clear z0 z1
  have hBs := hB.size
  have hB0 := hid hB.drew
  have rb := (show U1.drew.heap[p0_0]? = _ from r_p0_0)
  replace hE := hid (show Els U1.drew 2 _ _ _ _ from hE.out)
  clear hB r_p0_0
  refine wp_region_T none 9 (by kernel_rfl) ?_
  refine wpAnyT_take 1 rfl (by kernel_rfl) (by kernel_rfl) (by kernel_rfl) (by kernel_rfl) (fun _ _ _ _ h => h) ⟨_, Or.inl ⟨by rfl, fun w2 hb2 => by (go_simp; try with_reducible rfl)⟩, _, by (go_simp; try rfl), ?_⟩
  refine wpAnyT_take 2 rfl (by kernel_rfl) (by kernel_rfl) (by kernel_rfl) (by kernel_rfl) (fun _ _ _ _ h => h) ⟨_, Or.inl ⟨by rfl, fun w2 hb2 => by (have hx := held_cell (hb2.held rb (by simp)) 0 _ rfl; go_simp; try with_reducible rfl)⟩, _, by (go_simp; try rfl), ?_⟩
  refine wpAnyT_pair 0 3 rfl rfl (by kernel_rfl) (by rfl) (by rfl) (fun K hK => ?_) (fun K hK => ?_)
  · go_simp
    refine (fieldsV_any _).mono ?_
    rintro e V1 ⟨fa, fc, rfl, hF, hA1⟩
    have hB1 := hid (hB0.out.trans (hA1.mono (show w.heap.size ≤ U1.drew.heap.size from hBs)))
    have hs1 := hB1.out.size
    replace hF := hid hF
    have rb1 := held_after hA1 rb
    have hE1 := hid (hE.out.below hA1)
    go_simp
    refine hK _ _ ⟨fun _ => rx_after hA1, ?_⟩
    clear hK
    refine wpAnyT_only 3 rfl (by kernel_rfl) (by rfl) (fun K hK => ?_)
    go_simp
    have hS := hid (row_lit .i64 2 V1 [0, layers, 0] _ 3 V1.heap.size rfl rfl (by unfold maxLen; omega) rfl)
    have hA2 := (alloc_new V1 (.cells #[.int .i64 0, .int .i64 layers, .int .i64 0] 2)).2.1
    replace hB1 := hid (hB1.out.trans (hA2.mono hs1))
    replace hF := hid (hF.out.below hA2)
    replace rb1 := held_after hA2 rb1
    replace hE1 := hid (hE1.out.below hA2)
    refine hK _ _ ⟨fun _ => RX.alloc _ _ _, ?_⟩
    clear hK
    refine wpAnyT_only 4 rfl (by kernel_rfl) (by rfl) (fun K hK => ?_)
    go_simp
    refine (sput_any fa 3 fc (fN HL) (fS HL) (fL HL) (fH HL) (some ⟨_, 0, none⟩) 3 3 [0, layers, 0] _ hF.out hS.out hb3.out (by omega)).mono ?_
    rintro e V2 ⟨ra, rc, rfl, hO, hA2⟩
    have hs9 := hB1.out.size
    have hB9 := hid (hB1.out.trans (hA2.mono hs9))
    have rb9 := held_after hA2 rb1
    have hE9 := hid (hE1.out.below hA2)
    have e1 : (putF (fN HL) (fS HL) (fL HL) (fH HL) 3 [0, layers, 0]) = (hb, he) := hr.out
    rw [e1]
    rw [e1] at hO
    dsimp only at hO ⊢
    have hO9 := hid (hO.base hs9)
    clear e1
    go_simp
    refine hK _ _ ⟨fun _ => rx_after hA2, ?_⟩
    clear hK
    clear hA2 hO
    refine wpAnyT_take 5 rfl (by kernel_rfl) (by kernel_rfl) (by kernel_rfl) (by kernel_rfl) (fun _ _ _ _ h => h) ⟨_, Or.inl ⟨by rfl, fun w2 hb2 => by (go_simp; try with_reducible rfl)⟩, _, by (go_simp; try rfl), ?_⟩
    refine wpAnyT_take 6 rfl (by kernel_rfl) (by kernel_rfl) (by kernel_rfl) (by kernel_rfl) (fun _ _ _ _ h => h) ⟨_, Or.inl ⟨by rfl, fun w2 hb2 => by (go_simp; try with_reducible rfl)⟩, _, by (go_simp; try rfl), ?_⟩
    refine wpAnyT_take 7 rfl (by kernel_rfl) (by kernel_rfl) (by kernel_rfl) (by kernel_rfl) (fun _ _ _ _ h => h) ⟨_, Or.inl ⟨by rfl, fun w2 hb2 => by (go_simp; try with_reducible rfl)⟩, _, by (go_simp; try rfl), ?_⟩
    refine wpAnyT_take 8 rfl (by kernel_rfl) (by kernel_rfl) (by kernel_rfl) (by kernel_rfl) (fun _ _ _ _ h => h) ⟨_, Or.inl ⟨by rfl, fun w2 hb2 => by (go_simp; try with_reducible rfl)⟩, _, by (go_simp; try rfl), ?_⟩
    refine wpAnyT_only 9 rfl (by kernel_rfl) (by rfl) (fun K hK => ?_)
    go_simp
    refine hK _ _ ⟨fun h => (h rfl).elim, ?_⟩
    clear hK
    refine wpAnyT_done (by kernel_rfl) ?_ _
    clear hF hS hB1 rb1 hE1 rb hE hB0
    by_cases hen : he = 0
    case neg =>
      have hG2 := hid (hG.out.trans (if_pos hen))
      have hnz : (he != 0) = true := by simp [hen]
      go_wp2_with fail
      go_ret2
      rw [hG2.out]
      exact BsOk.no hB9.out
    have hG2 := hid (hG.out.trans (if_neg (by simp [hen])))
    subst hen
    clear hG
    go_wp2_with fail
    refine (make_any _).mono ?_
    rintro e V3 ⟨rfl, hM, hA⟩
    have sV2 := hB9.out.size
    have hWS := hid (wst_new hM (Nat.le_trans sV2 hA.size))
    have hBW : w.heap.size ≤ V2.heap.size := sV2
    have hbne : p0_0 ≠ V2.heap.size := by have := held_lt rb9; omega
    have rbA := held_after hA rb9
    have hEA := hid (hE9.out.below hA)
    have hBA := hid (hB9.out.trans (hA.mono sV2))
    have hOA := hid (hO9.out.below hA)
    clear hM hA rb9 hE9 hB9 hO9
    generalize V2.heap.size = Bk at *
    go_wp2_with fail
    refine (wraw_st Bk w.heap.size w.heap.size [] hb false ra hb.length rc _ hWS.out (by simp) hOA.out.slf (by omega) hBW (Nat.le_refl _)).mono ?_
    rintro e V4 ⟨rfl, hWS2, hBw⟩
    have rb4 := wst_held hWS.out rbA (by decide) hbne hBw
    have hE4 := hid (hE0w.out.below (hBA.out.trans hBw.1))
    have hB4 := hid (hBA.out.trans hBw.1)
    have hWS4 := hid (show WSt Bk w.heap.size V4 (hb ++ catS (l.take 0)) false from by simpa [gotW, catS] using hWS2)
    clear hWS2 hBw hWS rbA hEA hBA hOA
    have z0 := held_cell rb4 0 _ rfl
    have z1 := held_cell rb4 1 _ rfl
    go_wp2_with fail
    go_loopw [33] (fun ix wr => ∃ k : Nat, k ≤ len ∧ ix = .int .i64 k ∧ WSt Bk w.heap.size wr (hb ++ catS (l.take k)) false ∧ Hid (errS l = errS (l.drop k)) ∧ wr.heap[p0_0]? = some (.cells #[.int .i64 layers, .slice a len cap] 24 (0, 0)) ∧ Below w.heap.size w wr) (fun ix _ => len - (intOf ix).toNat)
    case atStart => exact ⟨0, by omega, rfl, hWS4.out, hid rfl, rb4, hB4.out⟩
    case round =>
      clear rb4 hB4 hWS4 z0 z1 hE4
      obtain ⟨k, hk, rfl, hW, hd, rb, hB⟩ := hrel
      have hct := hcl.out (l.take k)
      have htl : (l.take k).length ≤ 40 := by rw [List.length_take]; omega
      have hlen : (hb ++ catS (l.take k)).length ≤ 100000 := by rw [List.length_append]; omega
      by_cases hlt : (k : Int) < len
      case neg =>
        obtain rfl : k = len := by omega
        have e0 : errS l = 0 := by rw [hd.out, List.drop_of_length_le (by omega)]; rfl
        have hG3 := hid (hG2.out.trans (if_pos e0))
        rw [List.take_of_length_le (by omega)] at hW hlen
        obtain ⟨LL, hLL⟩ : ∃ x, hb ++ catS l = x := ⟨_, rfl⟩
        rw [hLL] at hW hlen hG3
        replace hB := hid hB
        replace hW := hid hW
        clear hct htl hd hG2 e0
        go_wp2_with fail
        refine (wbytes_st Bk w.heap.size LL false _ (by omega) hW.out).mono ?_
        rintro e V9 ⟨oa, oc, rfl, hO, hA⟩
        have hOf := hid (hO.base hB.out.size)
        have hBf := hid (hB.out.trans (hA.mono hB.out.size))
        clear hO hA
        go_wp2_with fail
        go_ret2
        rw [hG3.out]
        exact ⟨oa, oc, rfl, hOf.out, hBf.out⟩
      obtain ⟨x, hx⟩ : ∃ x, l[k]? = some x := ⟨_, List.getElem?_eq_getElem (show k < l.length by omega)⟩
      have hxw := hwf.out x (List.mem_of_getElem? hx)
      obtain ⟨bb, off, rfl, g0, g1⟩ := (hE0w.out.below hB).at2 (prsV_at hx)
      have herr := errS_at hx
      have hcat := catS_at hx
      have kz : (0 : Int) ≤ k := by omega
      have hk1 := hid (show k + 1 ≤ len by omega)
      obtain ⟨key, val⟩ := x
      dsimp only at g0 g1 hxw
      obtain ⟨⟨x1, x2⟩, x3, x4⟩ := hxw
      have kf := hid (fun W : World => of_any key W x1 x2)
      have hkb := fun h => kind_bd (key := key) h
      have hk5 := kindS_le key
      have hok1 := fun h => okK_bad (x := (key, val)) h
      have hok2 := fun h h2 => okK_rng (x := (key, val)) h h2
      have hok3 := fun h h2 h3 => okK_ok (x := (key, val)) h h2 h3
      dsimp only at hok1 hok2 hok3
      have hpB : pB (key, val) = bytesL key 4 ++ bytesL val (szT (kindS key)).toNat := rfl
      obtain ⟨d, hdd⟩ : ∃ d, kindS key = d := ⟨_, rfl⟩
      rw [hdd] at kf hkb hk5 hok1 hok2 hok3 hpB
      have hsm := fun h => sz_mo (d := d) h hk5
      clear hx hdd
      obtain ⟨ok, hok⟩ : ∃ b, decide (d ≠ 0) = b := ⟨_, rfl⟩
      have hv : ofV d = .tuple #[.agg #[.int .i64 (szT d), .int .i64 (moT d)], .bool ok] := by rw [← hok]; rfl
      rw [hv] at kf
      clear hv
      obtain ⟨s, hs⟩ : ∃ s, szT d = s := ⟨_, rfl⟩
      obtain ⟨m, hm⟩ : ∃ m, moT d = m := ⟨_, rfl⟩
      rw [hs] at kf hsm hpB
      rw [hm] at kf hok2 hok3 hsm
      clear hs hm
      have z0 := held_cell rb 0 _ rfl
      have z1 := held_cell rb 1 _ rfl
      replace hok1 := hid hok1
      replace hok2 := hid hok2
      replace hok3 := hid hok3
      replace hkb := hid hkb
      replace hsm := hid hsm
      replace herr := hid herr
      replace hcat := hid (hcat.trans (by rw [hpB]))
      clear hct htl hpB
      have nA8 := alloc_new wr (.cells #[.int .i64 key, .int .i64 val] 43)
      have q8 := nA8.2.2
      have hA8 := nA8.2.1
      have sB := hB.size
      obtain ⟨t8, ht8⟩ : ∃ q, wr.heap.size = q := ⟨_, rfl⟩
      rw [ht8] at q8
      have rb8 := held_after hA8 rb
      have hB8 := hid (hB.trans (hA8.mono sB))
      have hW8 := hid (hW.later hA8)
      have hn8 : t8 ≠ Bk := by have := hW.1; omega
      clear nA8 hA8 hB hW rb
      go_upto_region 11 with (fail)
      clear z0 z1 g0 g1
      try rw [ht8]
      obtain ⟨W8, hW8e⟩ : ∃ W, wr.alloc (.cells #[.int .i64 key, .int .i64 val] 43) = W := ⟨_, rfl⟩
      rw [hW8e] at q8 rb8 hB8 hW8 ⊢
      clear hW8e ht8
      have q80 := held_cell q8 0 _ rfl
      have q81 := held_cell q8 1 _ rfl
      go_wp2_with fail
      refine (kf.out _).mono ?_
      rintro e V5 ⟨rfl, hA5⟩
      have nA9 := alloc_new V5 (.cells #[.int .i64 s, .int .i64 m] 52)
      have hA9 := bthen hA5 nA9.2.1
      have q9 := nA9.2.2
      obtain ⟨t9, ht9⟩ : ∃ q, V5.heap.size = q := ⟨_, rfl⟩
      rw [ht9] at q9
      have q8b := held_after hA9 q8
      have rb9 := held_after hA9 rb8
      have hB9 := hid (hB8.out.trans (hA9.mono hB8.out.size))
      have hW9 := hid (hW8.out.later hA9)
      have hn9 : t9 ≠ Bk := by have := hW8.out.1; have := hA5.size; omega
      clear nA9 hA9 hA5 hB8 hW8 rb8 q8 q80 q81
      go_upto_region 12 with (fail)
      try rw [ht9]
      obtain ⟨W9, hW9e⟩ : ∃ W, V5.alloc (.cells #[.int .i64 s, .int .i64 m] 52) = W := ⟨_, rfl⟩
      rw [hW9e] at q9 q8b rb9 hB9 hW9 ⊢
      clear hW9e ht9
      have q80 := held_cell q8b 0 _ rfl
      have q81 := held_cell q8b 1 _ rfl
      have q90 := held_cell q9 0 _ rfl
      have q91 := held_cell q9 1 _ rfl
      by_cases hd0 : d = 0
      case pos =>
        obtain rfl : ok = false := by rw [← hok]; simp [hd0]
        have e6 := hok1.out hd0
        have eE : errS l = 6 := by rw [hd.out, herr.out, e6]; rfl
        have hG3 := hid (hG2.out.trans (if_neg (by rw [eE]; decide)))
        rw [eE] at hG3
        clear hd hG2 e6 eE hok hd0
        go_wp2_with fail
        go_ret2
        rw [hG3.out]
        exact BsOk.no hB9.out
      obtain rfl : ok = true := by rw [← hok]; simp [hd0]
      clear hok
      obtain ⟨k1, k2, k3⟩ := hkb.out hd0
      obtain ⟨s1, s2, m1, m2, m3⟩ := hsm.out hd0
      by_cases cv : val < 0 ∨ m < val
      case pos =>
        have e5 := hok2.out hd0 cv
        have eE : errS l = 5 := by rw [hd.out, herr.out, e5]; rfl
        have hG3 := hid (hG2.out.trans (if_neg (by rw [eE]; decide)))
        rw [eE] at hG3
        clear hd hG2 e5 eE m2
        by_cases c1 : val < 0
        · go_wp2_with fail
          go_ret2
          rw [hG3.out]
          exact BsOk.no hB9.out
        · have c2 : m < val := by omega
          go_wp2_with fail
          go_ret2
          rw [hG3.out]
          exact BsOk.no hB9.out
      have c1 : 0 ≤ val := by omega
      have c2 : val ≤ m := by omega
      have e0 := hok3.out hd0 c1 c2
      have hd2 := hid (show errS l = errS (l.drop (k + 1)) by rw [hd.out, herr.out, if_pos e0])
      have f1 : fitU 4 key = true := decide_eq_true ⟨by omega, by omega, by show key < 256 ^ 4; omega⟩
      have f2 : fitU s val = true := decide_eq_true ⟨s1, s2, by omega⟩
      have wk : IntKind.u64.wrap key = key := by rw [IntKind.wrap_u64]; omega
      have wv : IntKind.u64.wrap val = val := by rw [IntKind.wrap_u64]; omega
      clear hd herr e0 m2 cv hok1 hok2 hok3 hkb hsm
      replace f1 := hid f1
      replace f2 := hid f2
      obtain ⟨L0, hL0⟩ : ∃ x, hb ++ catS (l.take k) = x := ⟨_, rfl⟩
      have hcat2 := hid (show hb ++ catS (l.take (k + 1)) = L0 ++ bytesL key 4 ++ bytesL val s.toNat by rw [hcat.out, ← List.append_assoc, hL0, List.append_assoc])
      rw [hL0] at hW9 hlen
      clear hL0 hcat
      go_wp2_with fail
      refine (wu_st Bk w.heap.size w.heap.size L0 false 4 key (by omega) (by omega) _ hW9.out (by omega) hBW (Nat.le_refl _)).mono ?_
      rintro e V6 ⟨rfl, hW6, hBw⟩
      have q8c := wst_held hW9.out q8b (by decide) hn8 hBw
      have q9c := wst_held hW9.out q9 (by decide) hn9 hBw
      have rb6 := wst_held hW9.out rb9 (by decide) hbne hBw
      have hB6 := hid (hB9.out.trans hBw.1)
      have hW6b := hid (show WSt Bk w.heap.size V6 (L0 ++ bytesL key 4) false from by rw [f1.out] at hW6; exact hW6)
      clear hW6 hBw hW9 q8b q9 rb9 hB9 q80 q81 q90 q91
      have q80 := held_cell q8c 0 _ rfl
      have q81 := held_cell q8c 1 _ rfl
      have q90 := held_cell q9c 0 _ rfl
      have q91 := held_cell q9c 1 _ rfl
      have hl6 : (L0 ++ bytesL key 4).length ≤ 1000000 := by rw [List.length_append, bytesL_len]; omega
      go_wp2_with fail
      refine (wu_st Bk w.heap.size w.heap.size (L0 ++ bytesL key 4) false s val (by omega) (by omega) _ hW6b.out hl6 hBW (Nat.le_refl _)).mono ?_
      rintro e V7 ⟨rfl, hW7, hBw⟩
      have rb7 := hid (wst_held hW6b.out rb6 (by decide) hbne hBw)
      have hB7 := hid (hB6.out.trans hBw.1)
      have hW7b := hid (show WSt Bk w.heap.size V7 (hb ++ catS (l.take (k + 1))) false from by rw [f2.out] at hW7; rw [hcat2.out]; exact hW7)
      clear hW7 hBw hW6b q8c q9c rb6 hB6 q80 q81 q90 q91
      go_wp2_with fail
      go_roundw
      case rel => exact ⟨k + 1, hk1.out, by simp, hW7b.out, hd2, rb7.out, hB7.out⟩
      case measure => simp [intOf]; omega
  · go_simp
    have hS := hid (row_lit .i64 2 U1.drew [0, layers, 0] _ 3 U1.heap.size rfl rfl (by unfold maxLen; omega) rfl)
    have hB1 := hid (hB0.out.alloc (show w.heap.size ≤ U1.drew.heap.size from hBs) (.cells #[.int .i64 0, .int .i64 layers, .int .i64 0] 2))
    have nA := (alloc_new U1.drew (.cells #[.int .i64 0, .int .i64 layers, .int .i64 0] 2)).2.1
    have rb0 := held_after nA rb
    have hE0 := hid (hE.out.below nA)
    clear nA
    refine hK _ _ ⟨fun _ => RX.alloc _ _ _, ?_⟩
    clear hK
    refine wpAnyT_only 0 rfl (by kernel_rfl) (by rfl) (fun K hK => ?_)
    go_simp
    refine (fieldsV_any _).mono ?_
    rintro e V1 ⟨fa, fc, rfl, hF, hA1⟩
    have hs1 := hB1.out.size
    replace hB1 := hid (hB1.out.trans (hA1.mono hs1))
    replace hS := hid (hS.out.below hA1)
    replace hF := hid hF
    have rb1 := held_after hA1 rb0
    have hE1 := hid (hE0.out.below hA1)
    go_simp
    refine hK _ _ ⟨fun _ => rx_after hA1, ?_⟩
    clear hK
    refine wpAnyT_only 4 rfl (by kernel_rfl) (by rfl) (fun K hK => ?_)
    go_simp
    refine (sput_any fa 3 fc (fN HL) (fS HL) (fL HL) (fH HL) (some ⟨_, 0, none⟩) 3 3 [0, layers, 0] _ hF.out hS.out hb3.out (by omega)).mono ?_
    rintro e V2 ⟨ra, rc, rfl, hO, hA2⟩
    have hs9 := hB1.out.size
    have hB9 := hid (hB1.out.trans (hA2.mono hs9))
    have rb9 := held_after hA2 rb1
    have hE9 := hid (hE1.out.below hA2)
    have e1 : (putF (fN HL) (fS HL) (fL HL) (fH HL) 3 [0, layers, 0]) = (hb, he) := hr.out
    rw [e1]
    rw [e1] at hO
    dsimp only at hO ⊢
    have hO9 := hid (hO.base hs9)
    clear e1
    go_simp
    refine hK _ _ ⟨fun _ => rx_after hA2, ?_⟩
    clear hK
    clear hA2 hO
    refine wpAnyT_take 5 rfl (by kernel_rfl) (by kernel_rfl) (by kernel_rfl) (by kernel_rfl) (fun _ _ _ _ h => h) ⟨_, Or.inl ⟨by rfl, fun w2 hb2 => by (go_simp; try with_reducible rfl)⟩, _, by (go_simp; try rfl), ?_⟩
    refine wpAnyT_take 6 rfl (by kernel_rfl) (by kernel_rfl) (by kernel_rfl) (by kernel_rfl) (fun _ _ _ _ h => h) ⟨_, Or.inl ⟨by rfl, fun w2 hb2 => by (go_simp; try with_reducible rfl)⟩, _, by (go_simp; try rfl), ?_⟩
    refine wpAnyT_take 7 rfl (by kernel_rfl) (by kernel_rfl) (by kernel_rfl) (by kernel_rfl) (fun _ _ _ _ h => h) ⟨_, Or.inl ⟨by rfl, fun w2 hb2 => by (go_simp; try with_reducible rfl)⟩, _, by (go_simp; try rfl), ?_⟩
    refine wpAnyT_take 8 rfl (by kernel_rfl) (by kernel_rfl) (by kernel_rfl) (by kernel_rfl) (fun _ _ _ _ h => h) ⟨_, Or.inl ⟨by rfl, fun w2 hb2 => by (go_simp; try with_reducible rfl)⟩, _, by (go_simp; try rfl), ?_⟩
    refine wpAnyT_only 9 rfl (by kernel_rfl) (by rfl) (fun K hK => ?_)
    go_simp
    refine hK _ _ ⟨fun h => (h rfl).elim, ?_⟩
    clear hK
    refine wpAnyT_done (by kernel_rfl) ?_ _
    clear hF hS hB1 rb1 hE1 rb hE hB0
    by_cases hen : he = 0
    case neg =>
      have hG2 := hid (hG.out.trans (if_pos hen))
      have hnz : (he != 0) = true := by simp [hen]
      go_wp2_with fail
      go_ret2
      rw [hG2.out]
      exact BsOk.no hB9.out
    have hG2 := hid (hG.out.trans (if_neg (by simp [hen])))
    subst hen
    clear hG
    go_wp2_with fail
    refine (make_any _).mono ?_
    rintro e V3 ⟨rfl, hM, hA⟩
    have sV2 := hB9.out.size
    have hWS := hid (wst_new hM (Nat.le_trans sV2 hA.size))
    have hBW : w.heap.size ≤ V2.heap.size := sV2
    have hbne : p0_0 ≠ V2.heap.size := by have := held_lt rb9; omega
    have rbA := held_after hA rb9
    have hEA := hid (hE9.out.below hA)
    have hBA := hid (hB9.out.trans (hA.mono sV2))
    have hOA := hid (hO9.out.below hA)
    clear hM hA rb9 hE9 hB9 hO9
    generalize V2.heap.size = Bk at *
    go_wp2_with fail
    refine (wraw_st Bk w.heap.size w.heap.size [] hb false ra hb.length rc _ hWS.out (by simp) hOA.out.slf (by omega) hBW (Nat.le_refl _)).mono ?_
    rintro e V4 ⟨rfl, hWS2, hBw⟩
    have rb4 := wst_held hWS.out rbA (by decide) hbne hBw
    have hE4 := hid (hE0w.out.below (hBA.out.trans hBw.1))
    have hB4 := hid (hBA.out.trans hBw.1)
    have hWS4 := hid (show WSt Bk w.heap.size V4 (hb ++ catS (l.take 0)) false from by simpa [gotW, catS] using hWS2)
    clear hWS2 hBw hWS rbA hEA hBA hOA
    have z0 := held_cell rb4 0 _ rfl
    have z1 := held_cell rb4 1 _ rfl
    go_wp2_with fail
    go_loopw [33] (fun ix wr => ∃ k : Nat, k ≤ len ∧ ix = .int .i64 k ∧ WSt Bk w.heap.size wr (hb ++ catS (l.take k)) false ∧ Hid (errS l = errS (l.drop k)) ∧ wr.heap[p0_0]? = some (.cells #[.int .i64 layers, .slice a len cap] 24 (0, 0)) ∧ Below w.heap.size w wr) (fun ix _ => len - (intOf ix).toNat)
    case atStart => exact ⟨0, by omega, rfl, hWS4.out, hid rfl, rb4, hB4.out⟩
    case round =>
      clear rb4 hB4 hWS4 z0 z1 hE4
      obtain ⟨k, hk, rfl, hW, hd, rb, hB⟩ := hrel
      have hct := hcl.out (l.take k)
      have htl : (l.take k).length ≤ 40 := by rw [List.length_take]; omega
      have hlen : (hb ++ catS (l.take k)).length ≤ 100000 := by rw [List.length_append]; omega
      by_cases hlt : (k : Int) < len
      case neg =>
        obtain rfl : k = len := by omega
        have e0 : errS l = 0 := by rw [hd.out, List.drop_of_length_le (by omega)]; rfl
        have hG3 := hid (hG2.out.trans (if_pos e0))
        rw [List.take_of_length_le (by omega)] at hW hlen
        obtain ⟨LL, hLL⟩ : ∃ x, hb ++ catS l = x := ⟨_, rfl⟩
        rw [hLL] at hW hlen hG3
        replace hB := hid hB
        replace hW := hid hW
        clear hct htl hd hG2 e0
        go_wp2_with fail
        refine (wbytes_st Bk w.heap.size LL false _ (by omega) hW.out).mono ?_
        rintro e V9 ⟨oa, oc, rfl, hO, hA⟩
        have hOf := hid (hO.base hB.out.size)
        have hBf := hid (hB.out.trans (hA.mono hB.out.size))
        clear hO hA
        go_wp2_with fail
        go_ret2
        rw [hG3.out]
        exact ⟨oa, oc, rfl, hOf.out, hBf.out⟩
      obtain ⟨x, hx⟩ : ∃ x, l[k]? = some x := ⟨_, List.getElem?_eq_getElem (show k < l.length by omega)⟩
      have hxw := hwf.out x (List.mem_of_getElem? hx)
      obtain ⟨bb, off, rfl, g0, g1⟩ := (hE0w.out.below hB).at2 (prsV_at hx)
      have herr := errS_at hx
      have hcat := catS_at hx
      have kz : (0 : Int) ≤ k := by omega
      have hk1 := hid (show k + 1 ≤ len by omega)
      obtain ⟨key, val⟩ := x
      dsimp only at g0 g1 hxw
      obtain ⟨⟨x1, x2⟩, x3, x4⟩ := hxw
      have kf := hid (fun W : World => of_any key W x1 x2)
      have hkb := fun h => kind_bd (key := key) h
      have hk5 := kindS_le key
      have hok1 := fun h => okK_bad (x := (key, val)) h
      have hok2 := fun h h2 => okK_rng (x := (key, val)) h h2
      have hok3 := fun h h2 h3 => okK_ok (x := (key, val)) h h2 h3
      dsimp only at hok1 hok2 hok3
      have hpB : pB (key, val) = bytesL key 4 ++ bytesL val (szT (kindS key)).toNat := rfl
      obtain ⟨d, hdd⟩ : ∃ d, kindS key = d := ⟨_, rfl⟩
      rw [hdd] at kf hkb hk5 hok1 hok2 hok3 hpB
      have hsm := fun h => sz_mo (d := d) h hk5
      clear hx hdd
      obtain ⟨ok, hok⟩ : ∃ b, decide (d ≠ 0) = b := ⟨_, rfl⟩
      have hv : ofV d = .tuple #[.agg #[.int .i64 (szT d), .int .i64 (moT d)], .bool ok] := by rw [← hok]; rfl
      rw [hv] at kf
      clear hv
      obtain ⟨s, hs⟩ : ∃ s, szT d = s := ⟨_, rfl⟩
      obtain ⟨m, hm⟩ : ∃ m, moT d = m := ⟨_, rfl⟩
      rw [hs] at kf hsm hpB
      rw [hm] at kf hok2 hok3 hsm
      clear hs hm
      have z0 := held_cell rb 0 _ rfl
      have z1 := held_cell rb 1 _ rfl
      replace hok1 := hid hok1
      replace hok2 := hid hok2
      replace hok3 := hid hok3
      replace hkb := hid hkb
      replace hsm := hid hsm
      replace herr := hid herr
      replace hcat := hid (hcat.trans (by rw [hpB]))
      clear hct htl hpB
      have nA8 := alloc_new wr (.cells #[.int .i64 key, .int .i64 val] 43)
      have q8 := nA8.2.2
      have hA8 := nA8.2.1
      have sB := hB.size
      obtain ⟨t8, ht8⟩ : ∃ q, wr.heap.size = q := ⟨_, rfl⟩
      rw [ht8] at q8
      have rb8 := held_after hA8 rb
      have hB8 := hid (hB.trans (hA8.mono sB))
      have hW8 := hid (hW.later hA8)
      have hn8 : t8 ≠ Bk := by have := hW.1; omega
      clear nA8 hA8 hB hW rb
      go_upto_region 11 with (fail)
      clear z0 z1 g0 g1
      try rw [ht8]
      obtain ⟨W8, hW8e⟩ : ∃ W, wr.alloc (.cells #[.int .i64 key, .int .i64 val] 43) = W := ⟨_, rfl⟩
      rw [hW8e] at q8 rb8 hB8 hW8 ⊢
      clear hW8e ht8
      have q80 := held_cell q8 0 _ rfl
      have q81 := held_cell q8 1 _ rfl
      go_wp2_with fail
      refine (kf.out _).mono ?_
      rintro e V5 ⟨rfl, hA5⟩
      have nA9 := alloc_new V5 (.cells #[.int .i64 s, .int .i64 m] 52)
      have hA9 := bthen hA5 nA9.2.1
      have q9 := nA9.2.2
      obtain ⟨t9, ht9⟩ : ∃ q, V5.heap.size = q := ⟨_, rfl⟩
      rw [ht9] at q9
      have q8b := held_after hA9 q8
      have rb9 := held_after hA9 rb8
      have hB9 := hid (hB8.out.trans (hA9.mono hB8.out.size))
      have hW9 := hid (hW8.out.later hA9)
      have hn9 : t9 ≠ Bk := by have := hW8.out.1; have := hA5.size; omega
      clear nA9 hA9 hA5 hB8 hW8 rb8 q8 q80 q81
      go_upto_region 12 with (fail)
      try rw [ht9]
      obtain ⟨W9, hW9e⟩ : ∃ W, V5.alloc (.cells #[.int .i64 s, .int .i64 m] 52) = W := ⟨_, rfl⟩
      rw [hW9e] at q9 q8b rb9 hB9 hW9 ⊢
      clear hW9e ht9
      have q80 := held_cell q8b 0 _ rfl
      have q81 := held_cell q8b 1 _ rfl
      have q90 := held_cell q9 0 _ rfl
      have q91 := held_cell q9 1 _ rfl
      by_cases hd0 : d = 0
      case pos =>
        obtain rfl : ok = false := by rw [← hok]; simp [hd0]
        have e6 := hok1.out hd0
        have eE : errS l = 6 := by rw [hd.out, herr.out, e6]; rfl
        have hG3 := hid (hG2.out.trans (if_neg (by rw [eE]; decide)))
        rw [eE] at hG3
        clear hd hG2 e6 eE hok hd0
        go_wp2_with fail
        go_ret2
        rw [hG3.out]
        exact BsOk.no hB9.out
      obtain rfl : ok = true := by rw [← hok]; simp [hd0]
      clear hok
      obtain ⟨k1, k2, k3⟩ := hkb.out hd0
      obtain ⟨s1, s2, m1, m2, m3⟩ := hsm.out hd0
      by_cases cv : val < 0 ∨ m < val
      case pos =>
        have e5 := hok2.out hd0 cv
        have eE : errS l = 5 := by rw [hd.out, herr.out, e5]; rfl
        have hG3 := hid (hG2.out.trans (if_neg (by rw [eE]; decide)))
        rw [eE] at hG3
        clear hd hG2 e5 eE m2
        by_cases c1 : val < 0
        · go_wp2_with fail
          go_ret2
          rw [hG3.out]
          exact BsOk.no hB9.out
        · have c2 : m < val := by omega
          go_wp2_with fail
          go_ret2
          rw [hG3.out]
          exact BsOk.no hB9.out
      have c1 : 0 ≤ val := by omega
      have c2 : val ≤ m := by omega
      have e0 := hok3.out hd0 c1 c2
      have hd2 := hid (show errS l = errS (l.drop (k + 1)) by rw [hd.out, herr.out, if_pos e0])
      have f1 : fitU 4 key = true := decide_eq_true ⟨by omega, by omega, by show key < 256 ^ 4; omega⟩
      have f2 : fitU s val = true := decide_eq_true ⟨s1, s2, by omega⟩
      have wk : IntKind.u64.wrap key = key := by rw [IntKind.wrap_u64]; omega
      have wv : IntKind.u64.wrap val = val := by rw [IntKind.wrap_u64]; omega
      clear hd herr e0 m2 cv hok1 hok2 hok3 hkb hsm
      replace f1 := hid f1
      replace f2 := hid f2
      obtain ⟨L0, hL0⟩ : ∃ x, hb ++ catS (l.take k) = x := ⟨_, rfl⟩
      have hcat2 := hid (show hb ++ catS (l.take (k + 1)) = L0 ++ bytesL key 4 ++ bytesL val s.toNat by rw [hcat.out, ← List.append_assoc, hL0, List.append_assoc])
      rw [hL0] at hW9 hlen
      clear hL0 hcat
      go_wp2_with fail
      refine (wu_st Bk w.heap.size w.heap.size L0 false 4 key (by omega) (by omega) _ hW9.out (by omega) hBW (Nat.le_refl _)).mono ?_
      rintro e V6 ⟨rfl, hW6, hBw⟩
      have q8c := wst_held hW9.out q8b (by decide) hn8 hBw
      have q9c := wst_held hW9.out q9 (by decide) hn9 hBw
      have rb6 := wst_held hW9.out rb9 (by decide) hbne hBw
      have hB6 := hid (hB9.out.trans hBw.1)
      have hW6b := hid (show WSt Bk w.heap.size V6 (L0 ++ bytesL key 4) false from by rw [f1.out] at hW6; exact hW6)
      clear hW6 hBw hW9 q8b q9 rb9 hB9 q80 q81 q90 q91
      have q80 := held_cell q8c 0 _ rfl
      have q81 := held_cell q8c 1 _ rfl
      have q90 := held_cell q9c 0 _ rfl
      have q91 := held_cell q9c 1 _ rfl
      have hl6 : (L0 ++ bytesL key 4).length ≤ 1000000 := by rw [List.length_append, bytesL_len]; omega
      go_wp2_with fail
      refine (wu_st Bk w.heap.size w.heap.size (L0 ++ bytesL key 4) false s val (by omega) (by omega) _ hW6b.out hl6 hBW (Nat.le_refl _)).mono ?_
      rintro e V7 ⟨rfl, hW7, hBw⟩
      have rb7 := hid (wst_held hW6b.out rb6 (by decide) hbne hBw)
      have hB7 := hid (hB6.out.trans hBw.1)
      have hW7b := hid (show WSt Bk w.heap.size V7 (hb ++ catS (l.take (k + 1))) false from by rw [f2.out] at hW7; rw [hcat2.out]; exact hW7)
      clear hW7 hBw hW6b q8c q9c rb6 hB6 q80 q81 q90 q91
      go_wp2_with fail
      go_roundw
      case rel => exact ⟨k + 1, hk1.out, by simp, hW7b.out, hd2, rb7.out, hB7.out⟩
      case measure => simp [intOf]; omega

end Go.Proofs.Ytdgmmndklmomkaa
