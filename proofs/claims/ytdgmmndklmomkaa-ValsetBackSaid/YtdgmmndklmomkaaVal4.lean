/- The papers' Put. -/
import Derived.Test.YtdgmmndklmomkaaVal3
import Derived.Laws.OwnMore
import Derived.Deep.DeepCutAuto
namespace Go.Proofs.Ytdgmmndklmomkaa
open Go.ChangeShapes Go.WideShapes Go.ChangeAt Go.RowKit
set_option linter.unusedVariables false
set_option linter.unusedSimpArgs false

theorem Own.tyne {k : IntKind} {E : TypeId} {w : World} {base : Nat} {v : Value} {zs : List Int} (h : Own k E w base v zs) {p : Nat} {c : Array Value} {T : TypeId} (hp : w.heap[p]? = some (.cells c T (0, 0))) (hT : T ≠ E) : v.ownBlock ≠ some p := by
  intro e
  rcases h.2 with ⟨h1, _⟩ | ⟨g, c2, cur, h1, _, hg, _⟩
  · subst h1; cases e
  · subst h1
    have e2 : g = p := Option.some.inj e
    subst e2
    rw [hp] at hg; cases hg; exact hT rfl
set_option maxRecDepth 100000 in
set_option maxHeartbeats 8000000 in
theorem rputV_any (layers : Int) (a : Option Addr) (len cap : Nat) (l : List (Int × Int)) (w : World) (hE : Els w 2 a len cap (prsV l)) (hln : l.length = len) (h40 : len ≤ 40) (hly : -9223372036854775808 ≤ layers ∧ layers ≤ 9223372036854775807) (hwf : ∀ x ∈ l, (-9223372036854775808 ≤ x.1 ∧ x.1 ≤ 9223372036854775807) ∧ (-9223372036854775808 ≤ x.2 ∧ x.2 ≤ 9223372036854775807)) : Calls Try.prog 8 #[.agg #[.int .i64 layers, .slice a len cap]] w (BsOk w (putVS layers l)) := by
  have hcap := hE.2.1
  have hcm := hE.2.2.1
  have hmm : maxLen ≤ 9223372036854775807 := by decide
  have h40i : (len : Int) ≤ 40 := by omega
  have hcl := catS_len
  replace hE := hid hE
  replace hwf := hid hwf
  replace hcl := hid hcl
  have hE0w := hE
  by_cases hbig : (32 : Int) < len
  case pos =>
    have e : putVS layers l = ([], 7) := by unfold putVS; rw [if_pos (by omega)]
    rw [e]
    clear e
    go_enter Try.func8, Try.ntmps8
    go_upto_region 0 with (fail)
    apply wp_region_seg0 (w := w) (S := [.al 1000, .q [], .q []]) (E := [.al ((fun p => .pointer (some ⟨p, 0, none⟩)), _) 1000, .q0 _, .q0 _]) rfl (by kernel_rfl) rfl rfl
    intro th hge hne
    refine Seg.step _ rfl ⟨by rfl, fun U hU => ?_⟩ ?_
    · go_simp; exact vp_alloc rfl rfl rfl
    refine ⟨_, by (simp only [Ent.val]; go_simp <;> exact rfl), ?_⟩
    refine Seg.step _ rfl (Or.inl ⟨by rfl, fun U hU => vp_quiet (by (go_simp <;> exact rfl))⟩) ⟨_, by (simp only [Ent.val]; go_simp <;> exact rfl), ?_⟩
    refine Seg.step _ rfl (Or.inl ⟨by rfl, fun U hU => vp_quiet (by (go_simp <;> exact rfl))⟩) ⟨_, by (simp only [Ent.val]; go_simp <;> exact rfl), ?_⟩
    refine Seg.stop (fun U1 hU hk => ?_)
    have nb0 := hge 0 _ _ rfl
    have rb0 := (hk 0 _ _ rfl trivial).1.2 (by simp)
    clear hk hge hne
    generalize th (0 + 0) = p0_0 at *
    dsimp only at rb0
    have r_p0_0 := rb0
    clear rb0
    have n_p0_0 := nb0
    clear nb0
    have sz1 := hU.size
    have hB : Below w.heap.size w U1 := hU
    clear hU
    replace hB := hid hB
    have z0 := held_cell r_p0_0 0 _ rfl
    have z1 := held_cell r_p0_0 1 _ rfl
    go_wp2_with fail
    go_ret2
    exact BsOk.no hB.out
  have hbn : ¬ (32 < l.length) := by omega
  obtain ⟨⟨hb, he⟩, hr⟩ : ∃ r, putL HL [0, layers, 0] = r := ⟨_, rfl⟩
  have hb0 := put_len hr (by decide)
  have hpe := putF_e (fN HL) (fS HL) (fL HL) (fH HL) HL.length [0, layers, 0]
  change 0 ≤ (putL HL [0, layers, 0]).2 ∧ (putL HL [0, layers, 0]).2 ≤ 9 at hpe
  rw [hr] at hpe
  dsimp only at hpe
  have hG : putVS layers l = if he ≠ 0 then ([], he) else if errS l = 0 then (hb ++ catS l, 0) else ([], errS l) := by unfold putVS; rw [if_neg hbn, hr]
  obtain ⟨PV, hPV⟩ : ∃ r, putVS layers l = r := ⟨_, rfl⟩
  rw [hPV]
  rw [hPV] at hG
  clear hPV
  replace hG := hid hG
  have hb3 : ∀ x ∈ [0, layers, 0], -9223372036854775808 ≤ x ∧ x ≤ 9223372036854775807 := by
    intro x hx
    simp at hx
    rcases hx with rfl | rfl | rfl
    · omega
    · exact hly
    · omega
  have hbl := hb0.1
  replace hb3 := hid hb3
  replace hr := hid hr
  clear hb0 hly
  go_enter Try.func8, Try.ntmps8
  go_upto_region 0 with (fail)
  apply wp_region_seg0 (w := w) (S := [.al 1000, .q [], .q []]) (E := [.al ((fun p => .pointer (some ⟨p, 0, none⟩)), _) 1000, .q0 _, .q0 _]) rfl (by kernel_rfl) rfl rfl
  intro th hge hne
  refine Seg.step _ rfl ⟨by rfl, fun U hU => ?_⟩ ?_
  · go_simp; exact vp_alloc rfl rfl rfl
  refine ⟨_, by (simp only [Ent.val]; go_simp <;> exact rfl), ?_⟩
  refine Seg.step _ rfl (Or.inl ⟨by rfl, fun U hU => vp_quiet (by (go_simp <;> exact rfl))⟩) ⟨_, by (simp only [Ent.val]; go_simp <;> exact rfl), ?_⟩
  refine Seg.step _ rfl (Or.inl ⟨by rfl, fun U hU => vp_quiet (by (go_simp <;> exact rfl))⟩) ⟨_, by (simp only [Ent.val]; go_simp <;> exact rfl), ?_⟩
  refine Seg.stop (fun U1 hU hk => ?_)
  have nb0 := hge 0 _ _ rfl
  have rb0 := (hk 0 _ _ rfl trivial).1.2 (by simp)
  clear hk hge hne
  generalize th (0 + 0) = p0_0 at *
  dsimp only at rb0
  have r_p0_0 := rb0
  clear rb0
  have n_p0_0 := nb0
  clear nb0
  have sz1 := hU.size
  have hB : Below w.heap.size w U1 := hU
  clear hU
  have nB := n_p0_0
  replace hE := hid (hE.out.below hB)
  have z0 := held_cell r_p0_0 0 _ rfl
  have z1 := held_cell r_p0_0 1 _ rfl
  go_upto_region 3 with (fail)
  clear z0 z1
  have hBs := hB.size
  have hB0 := hid hB.drew
  have rb := (show U1.drew.heap[p0_0]? = _ from r_p0_0)
  replace hE := hid (show Els U1.drew 2 _ _ _ _ from hE.out)
  clear hB r_p0_0
  refine wp_region_T none 9 (by kernel_rfl) ?_
  refine wpAnyT_take 1 rfl (by kernel_rfl) (by kernel_rfl) (by kernel_rfl) (by kernel_rfl) (fun _ _ _ _ h => h) ⟨_, Or.inl ⟨by rfl, fun w2 hb2 => by (go_simp; try with_reducible rfl)⟩, _, by (go_simp; try rfl), ?_⟩
  refine wpAnyT_take 2 rfl (by kernel_rfl) (by kernel_rfl) (by kernel_rfl) (by kernel_rfl) (fun _ _ _ _ h => h) ⟨_, Or.inl ⟨by rfl, fun w2 hb2 => by (have hx := held_cell (hb2.held rb (by simp)) 0 _ rfl; go_simp; try with_reducible rfl)⟩, _, by (go_simp; try rfl), ?_⟩
  refine wpAnyT_pair 0 3 rfl rfl (by kernel_rfl) (by rfl) (by rfl) (fun K hK => ?_) (fun K hK => ?_)
  · go_simp
    refine (rfieldsV_any _).mono ?_
    rintro e V1 ⟨fa, fc, rfl, hF, hA1⟩
    have hB1 := hid (hB0.out.trans (hA1.mono (show w.heap.size ≤ U1.drew.heap.size from hBs)))
    have hs1 := hB1.out.size
    replace hF := hid hF
    have rb1 := held_after hA1 rb
    have hE1 := hid (hE.out.below hA1)
    go_simp
    refine hK _ _ ⟨fun _ => rx_after hA1, ?_⟩
    clear hK
    refine wpAnyT_only 3 rfl (by kernel_rfl) (by rfl) (fun K hK => ?_)
    go_simp
    have hS := hid (row_lit .i64 2 V1 [0, layers, 0] _ 3 V1.heap.size rfl rfl (by unfold maxLen; omega) rfl)
    have hA2 := (alloc_new V1 (.cells #[.int .i64 0, .int .i64 layers, .int .i64 0] 2)).2.1
    replace hB1 := hid (hB1.out.trans (hA2.mono hs1))
    replace hF := hid (hF.out.below hA2)
    replace rb1 := held_after hA2 rb1
    replace hE1 := hid (hE1.out.below hA2)
    refine hK _ _ ⟨fun _ => RX.alloc _ _ _, ?_⟩
    clear hK
    refine wpAnyT_only 4 rfl (by kernel_rfl) (by rfl) (fun K hK => ?_)
    go_simp
    refine (rsput_any fa 3 fc (fN HL) (fS HL) (fL HL) (fH HL) (some ⟨_, 0, none⟩) 3 3 [0, layers, 0] _ hF.out hS.out hb3.out (by omega)).mono ?_
    rintro e V2 ⟨ra, rc, rfl, hO, hA2⟩
    have hs9 := hB1.out.size
    have hB9 := hid (hB1.out.trans (hA2.mono hs9))
    have rb9 := held_after hA2 rb1
    have hE9 := hid (hE1.out.below hA2)
    have e1 : (putF (fN HL) (fS HL) (fL HL) (fH HL) 3 [0, layers, 0]) = (hb, he) := hr.out
    rw [e1]
    rw [e1] at hO
    dsimp only at hO ⊢
    have hO9 := hid (hO.base hs9)
    clear e1
    go_simp
    refine hK _ _ ⟨fun _ => rx_after hA2, ?_⟩
    clear hK
    clear hA2 hO
    refine wpAnyT_take 5 rfl (by kernel_rfl) (by kernel_rfl) (by kernel_rfl) (by kernel_rfl) (fun _ _ _ _ h => h) ⟨_, Or.inl ⟨by rfl, fun w2 hb2 => by (go_simp; try with_reducible rfl)⟩, _, by (go_simp; try rfl), ?_⟩
    refine wpAnyT_take 6 rfl (by kernel_rfl) (by kernel_rfl) (by kernel_rfl) (by kernel_rfl) (fun _ _ _ _ h => h) ⟨_, Or.inl ⟨by rfl, fun w2 hb2 => by (go_simp; try with_reducible rfl)⟩, _, by (go_simp; try rfl), ?_⟩
    refine wpAnyT_take 7 rfl (by kernel_rfl) (by kernel_rfl) (by kernel_rfl) (by kernel_rfl) (fun _ _ _ _ h => h) ⟨_, Or.inl ⟨by rfl, fun w2 hb2 => by (go_simp; try with_reducible rfl)⟩, _, by (go_simp; try rfl), ?_⟩
    refine wpAnyT_take 8 rfl (by kernel_rfl) (by kernel_rfl) (by kernel_rfl) (by kernel_rfl) (fun _ _ _ _ h => h) ⟨_, Or.inl ⟨by rfl, fun w2 hb2 => by (go_simp; try with_reducible rfl)⟩, _, by (go_simp; try rfl), ?_⟩
    refine wpAnyT_only 9 rfl (by kernel_rfl) (by rfl) (fun K hK => ?_)
    go_simp
    refine hK _ _ ⟨fun h => (h rfl).elim, ?_⟩
    clear hK
    refine wpAnyT_done (by kernel_rfl) ?_ _
    clear hF hS hB1 rb1 hE1 rb hE hB0
    by_cases hen : he = 0
    case neg =>
      have hG2 := hid (hG.out.trans (if_pos hen))
      have hnz : (he != 0) = true := by simp [hen]
      go_wp2_with fail
      go_ret2
      rw [hG2.out]
      exact BsOk.no hB9.out
    have hG2 := hid (hG.out.trans (if_neg (by simp [hen])))
    subst hen
    clear hG
    have sV2 := hB9.out.size
    have hOA := hid (show Own .u8 5 V2 w.heap.size (.slice ra (hb ++ catS (l.take 0)).length rc) (hb ++ catS (l.take 0)) from by simpa [catS] using hO9.out)
    have eL : (hb ++ catS (l.take 0)).length = hb.length := by simp [catS]
    clear hO9 hE9
    go_wp2_with fail
    go_loopw [4, 6] (fun out ix wr => ∃ (k : Nat) (oa : Option Addr) (oc : Nat), k ≤ len ∧ ix = .int .i64 k ∧ out = .slice oa (hb ++ catS (l.take k)).length oc ∧ Own .u8 5 wr w.heap.size (.slice oa (hb ++ catS (l.take k)).length oc) (hb ++ catS (l.take k)) ∧ Hid (errS l = errS (l.drop k)) ∧ wr.heap[p0_0]? = some (.cells #[.int .i64 layers, .slice a len cap] 24 (0, 0)) ∧ Below w.heap.size w wr) (fun _ ix _ => len - (intOf ix).toNat)
    case atStart => exact ⟨0, ra, rc, by omega, rfl, by rw [eL], hOA.out, hid rfl, rb9, hB9.out⟩
    case round =>
      clear rb9 hB9 hOA eL
      obtain ⟨k, oa, oc, hk, rfl, rfl, hO, hd, rb, hB⟩ := hrel
      have hct := hcl.out (l.take k)
      have htl : (l.take k).length ≤ 40 := by rw [List.length_take]; omega
      have hlen : (hb ++ catS (l.take k)).length ≤ 100000 := by rw [List.length_append]; omega
      have z0 := held_cell rb 0 _ rfl
      have z1 := held_cell rb 1 _ rfl
      by_cases hlt : (k : Int) < len
      case neg =>
        obtain rfl : k = len := by omega
        have e0 : errS l = 0 := by rw [hd.out, List.drop_of_length_le (by omega)]; rfl
        have hG3 := hid (hG2.out.trans (if_pos e0))
        rw [List.take_of_length_le (by omega)] at hO hlen ⊢
        obtain ⟨LL, hLL⟩ : ∃ x, hb ++ catS l = x := ⟨_, rfl⟩
        rw [hLL] at hO hlen hG3 ⊢
        replace hB := hid hB
        replace hO := hid hO
        clear hct htl hd hG2 e0
        go_wp2_with fail
        go_ret2
        rw [hG3.out]
        exact ⟨oa, oc, rfl, hO.out, hB.out⟩
      obtain ⟨L0, hL0⟩ : ∃ x, hb ++ catS (l.take k) = x := ⟨_, rfl⟩
      rw [hL0] at hO hlen ⊢
      replace hL0 := hid hL0
      obtain ⟨x, hx⟩ : ∃ x, l[k]? = some x := ⟨_, List.getElem?_eq_getElem (show k < l.length by omega)⟩
      have hxw := hwf.out x (List.mem_of_getElem? hx)
      have hEk := hid (hE0w.out.below hB)
      obtain ⟨bb, off, rfl, g0, g1⟩ := (hE0w.out.below hB).at2 (prsV_at hx)
      have herr := errS_at hx
      have hcat := catS_at hx
      have hxx := hid (prsV_at hx)
      have kz : (0 : Int) ≤ k := by omega
      have w1 : IntKind.i64.wrap ((k : Int) + 1) = (k : Int) + 1 := by rw [IntKind.wrap_i64]; omega
      have hk1 := hid (show k + 1 ≤ len by omega)
      obtain ⟨key, val⟩ := x
      dsimp only at g0 g1 hxw hxx
      obtain ⟨⟨x1, x2⟩, x3, x4⟩ := hxw
      have kf := hid (fun W : World => vrsize_any key W x1 x2)
      have km := hid (fun W : World => vrmost_any key W x1 x2)
      have hkb := fun h => kind_bd (key := key) h
      have hk5 := kindS_le key
      have hok1 := fun h => okK_bad (x := (key, val)) h
      have hok2 := fun h h2 => okK_rng (x := (key, val)) h h2
      have hok3 := fun h h2 h3 => okK_ok (x := (key, val)) h h2 h3
      dsimp only at hok1 hok2 hok3
      have hpB : pB (key, val) = bytesL key 4 ++ bytesL val (szT (kindS key)).toNat := rfl
      obtain ⟨d, hdd⟩ : ∃ d, kindS key = d := ⟨_, rfl⟩
      rw [hdd] at kf km hkb hk5 hok1 hok2 hok3 hpB
      have hsm := fun h => sz_mo (d := d) h hk5
      clear hx hdd
      obtain ⟨ok, hok⟩ : ∃ b, decide (d ≠ 0) = b := ⟨_, rfl⟩
      rw [hok] at kf
      obtain ⟨s, hs⟩ : ∃ s, szT d = s := ⟨_, rfl⟩
      obtain ⟨m, hm⟩ : ∃ m, moT d = m := ⟨_, rfl⟩
      rw [hs] at kf hsm hpB
      rw [hm] at km hok2 hok3 hsm
      clear hs hm
      replace hok1 := hid hok1
      replace hok2 := hid hok2
      replace hok3 := hid hok3
      replace hkb := hid hkb
      replace hsm := hid hsm
      replace herr := hid herr
      replace hcat := hid (hcat.trans (by rw [hpB]))
      clear hct htl hpB
      replace hO := hid hO
      have sB := hB.size
      replace hB := hid hB
      go_wp2_with fail
      refine (kf.out _).mono ?_
      rintro e V5 ⟨rfl, hA5⟩
      have rb5 := held_after hA5 rb
      have hB5 := hid (hB.out.trans (hA5.mono sB))
      have hO5 := hid (hO.out.below hA5)
      obtain ⟨b5, o5, e5, g05, g15⟩ := (hE0w.out.below hB5.out).at2 hxx.out
      cases e5
      clear hA5 hB hO rb g0 g1 z0 z1
      have z0 := held_cell rb5 0 _ rfl
      have z1 := held_cell rb5 1 _ rfl
      by_cases hd0 : d = 0
      case pos =>
        obtain rfl : ok = false := by rw [← hok]; simp [hd0]
        have e6 := hok1.out hd0
        have eE : errS l = 6 := by rw [hd.out, herr.out, e6]; rfl
        have hG3 := hid (hG2.out.trans (if_neg (by rw [eE]; decide)))
        rw [eE] at hG3
        clear hd hG2 e6 eE hok hd0
        go_wp2_with fail
        go_ret2
        rw [hG3.out]
        exact BsOk.no hB5.out
      obtain rfl : ok = true := by rw [← hok]; simp [hd0]
      clear hok
      obtain ⟨k1, k2, k3⟩ := hkb.out hd0
      obtain ⟨s1, s2, m1, m2, m3⟩ := hsm.out hd0
      go_upto_region 12 with (fail)
      have rb6 := (show V5.drew.heap[p0_0]? = _ from rb5)
      have hO6 := hid (show Own .u8 5 V5.drew _ _ _ from hO5.out)
      have hB6 := hid hB5.out.drew
      have g06 := (show V5.drew.cell? _ = _ from g05)
      have g16 := (show V5.drew.cell? _ = _ from g15)
      clear rb5 hO5 hB5 g05 g15 z0 z1
      by_cases c1 : val < 0
      case pos =>
        have e5 := hok2.out hd0 (.inl c1)
        have eE : errS l = 5 := by rw [hd.out, herr.out, e5]; rfl
        have hG3 := hid (hG2.out.trans (if_neg (by rw [eE]; decide)))
        rw [eE] at hG3
        clear hd hG2 e5 eE m2
        refine wp_region_R (by kernel_rfl) ?_
        refine wpAnyR_take 0 rfl (by kernel_rfl) (by kernel_rfl) (by kernel_rfl) (fun _ _ _ _ h => h) ⟨_, Or.inl ⟨by rfl, fun w2 hb2 => by (go_simp; try with_reducible rfl)⟩, _, by (go_simp; try rfl), ?_⟩
        refine wpAnyR_take 1 rfl (by kernel_rfl) (by kernel_rfl) (by kernel_rfl) (fun _ _ _ _ h => h) ⟨_, Or.inl ⟨by rfl, fun w2 hb2 => by (have hx0 := held_cell (held_after hb2 rb6) 1 _ rfl; go_simp; try with_reducible rfl)⟩, _, by (go_simp; try rfl), ?_⟩
        refine wpAnyR_take 2 rfl (by kernel_rfl) (by kernel_rfl) (by kernel_rfl) (fun _ _ _ _ h => h) ⟨_, Or.inl ⟨by rfl, fun w2 hb2 => by (go_simp; try with_reducible rfl)⟩, _, by (go_simp; try rfl), ?_⟩
        refine wpAnyR_take 3 rfl (by kernel_rfl) (by kernel_rfl) (by kernel_rfl) (fun _ _ _ _ h => h) ⟨_, Or.inl ⟨by rfl, fun w2 hb2 => by (go_simp; try with_reducible rfl)⟩, _, by (go_simp; try rfl), ?_⟩
        refine wpAnyR_take 4 rfl (by kernel_rfl) (by kernel_rfl) (by kernel_rfl) (fun _ _ _ _ h => h) ⟨_, Or.inl ⟨by rfl, fun w2 hb2 => by (go_simp; try with_reducible rfl)⟩, _, by (go_simp; try rfl), ?_⟩
        refine wpAnyR_take 5 rfl (by kernel_rfl) (by kernel_rfl) (by kernel_rfl) (fun _ _ _ _ h => h) ⟨_, Or.inl ⟨by rfl, fun w2 hb2 => by (have hx := hb2.cellB g16; go_simp; try with_reducible rfl)⟩, _, by (go_simp; try rfl), ?_⟩
        refine wpAnyR_take 6 rfl (by kernel_rfl) (by kernel_rfl) (by kernel_rfl) (fun _ _ _ _ h => h) ⟨_, Or.inl ⟨by rfl, fun w2 hb2 => by (go_simp; try with_reducible rfl)⟩, _, by (go_simp; try rfl), ?_⟩
        refine wpAnyR_take 7 rfl (by kernel_rfl) (by kernel_rfl) (by kernel_rfl) (fun _ _ _ _ h => h) ⟨_, Or.inl ⟨by rfl, fun w2 hb2 => by (go_simp; try with_reducible rfl)⟩, _, by (go_simp; try rfl), ?_⟩
        refine wpAnyR_take 8 rfl (by kernel_rfl) (by kernel_rfl) (by kernel_rfl) (fun _ _ _ _ h => h) ⟨_, Or.inr ⟨by rfl, rfl⟩, _, by (go_simp; try rfl), ?_⟩
        refine wpAnyR_take 9 rfl (by kernel_rfl) (by kernel_rfl) (by kernel_rfl) (fun _ _ _ _ h => h) ⟨_, Or.inr ⟨by rfl, rfl⟩, _, by (go_simp; try rfl), ?_⟩
        refine wpAnyR_take 10 rfl (by kernel_rfl) (by kernel_rfl) (by kernel_rfl) (fun _ _ _ _ h => h) ⟨_, Or.inr ⟨by rfl, rfl⟩, _, by (go_simp; try rfl), ?_⟩
        refine wpAnyR_take 11 rfl (by kernel_rfl) (by kernel_rfl) (by kernel_rfl) (fun _ _ _ _ h => h) ⟨_, Or.inr ⟨by rfl, rfl⟩, _, by (go_simp; try rfl), ?_⟩
        refine wpAnyR_take 12 rfl (by kernel_rfl) (by kernel_rfl) (by kernel_rfl) (fun _ _ _ _ h => h) ⟨_, Or.inr ⟨by rfl, rfl⟩, _, by (go_simp; try rfl), ?_⟩
        refine wpAnyR_take 13 rfl (by kernel_rfl) (by kernel_rfl) (by kernel_rfl) (fun _ _ _ _ h => h) ⟨_, Or.inr ⟨by rfl, rfl⟩, _, by (go_simp; try rfl), ?_⟩
        refine wpAnyR_take 14 rfl (by kernel_rfl) (by kernel_rfl) (by kernel_rfl) (fun _ _ _ _ h => h) ⟨_, Or.inr ⟨by rfl, rfl⟩, _, by (go_simp; try rfl), ?_⟩
        refine wpAnyR_take 15 rfl (by kernel_rfl) (by kernel_rfl) (by kernel_rfl) (fun _ _ _ _ h => h) ⟨_, Or.inr ⟨by rfl, rfl⟩, _, by (go_simp; try rfl), ?_⟩
        refine wpAnyR_take 16 rfl (by kernel_rfl) (by kernel_rfl) (by kernel_rfl) (fun _ _ _ _ h => h) ⟨_, Or.inr ⟨by rfl, rfl⟩, _, by (go_simp; try rfl), ?_⟩
        refine wpAnyR_take 17 rfl (by kernel_rfl) (by kernel_rfl) (by kernel_rfl) (fun _ _ _ _ h => h) ⟨_, Or.inr ⟨by rfl, rfl⟩, _, by (go_simp; try rfl), ?_⟩
        refine wpAnyR_take 18 rfl (by kernel_rfl) (by kernel_rfl) (by kernel_rfl) (fun _ _ _ _ h => h) ⟨_, Or.inr ⟨by rfl, rfl⟩, _, by (go_simp; try rfl), ?_⟩
        refine wpAnyR_take 19 rfl (by kernel_rfl) (by kernel_rfl) (by kernel_rfl) (fun _ _ _ _ h => h) ⟨_, Or.inr ⟨by rfl, rfl⟩, _, by (go_simp; try rfl), ?_⟩
        refine wpAnyR_take 20 rfl (by kernel_rfl) (by kernel_rfl) (by kernel_rfl) (fun _ _ _ _ h => h) ⟨_, Or.inr ⟨by rfl, rfl⟩, _, by (go_simp; try rfl), ?_⟩
        refine wpAnyR_take 21 rfl (by kernel_rfl) (by kernel_rfl) (by kernel_rfl) (fun _ _ _ _ h => h) ⟨_, Or.inr ⟨by rfl, rfl⟩, _, by (go_simp; try rfl), ?_⟩
        refine wpAnyR_take 22 rfl (by kernel_rfl) (by kernel_rfl) (by kernel_rfl) (fun _ _ _ _ h => h) ⟨_, Or.inl ⟨by rfl, fun w2 hb2 => by (go_simp; try with_reducible rfl)⟩, _, by (go_simp; try rfl), ?_⟩
        refine wpAnyR_done (by kernel_rfl) ?_ _
        go_wp2_with fail
        go_ret2
        rw [hG3.out]
        exact BsOk.no hB6.out
      refine wp_region_R (by kernel_rfl) ?_
      refine wpAnyR_take 0 rfl (by kernel_rfl) (by kernel_rfl) (by kernel_rfl) (fun _ _ _ _ h => h) ⟨_, Or.inl ⟨by rfl, fun w2 hb2 => by (go_simp; try with_reducible rfl)⟩, _, by (go_simp; try rfl), ?_⟩
      refine wpAnyR_take 1 rfl (by kernel_rfl) (by kernel_rfl) (by kernel_rfl) (fun _ _ _ _ h => h) ⟨_, Or.inl ⟨by rfl, fun w2 hb2 => by (have hx0 := held_cell (held_after hb2 rb6) 1 _ rfl; go_simp; try with_reducible rfl)⟩, _, by (go_simp; try rfl), ?_⟩
      refine wpAnyR_take 2 rfl (by kernel_rfl) (by kernel_rfl) (by kernel_rfl) (fun _ _ _ _ h => h) ⟨_, Or.inl ⟨by rfl, fun w2 hb2 => by (go_simp; try with_reducible rfl)⟩, _, by (go_simp; try rfl), ?_⟩
      refine wpAnyR_take 3 rfl (by kernel_rfl) (by kernel_rfl) (by kernel_rfl) (fun _ _ _ _ h => h) ⟨_, Or.inl ⟨by rfl, fun w2 hb2 => by (go_simp; try with_reducible rfl)⟩, _, by (go_simp; try rfl), ?_⟩
      refine wpAnyR_take 4 rfl (by kernel_rfl) (by kernel_rfl) (by kernel_rfl) (fun _ _ _ _ h => h) ⟨_, Or.inl ⟨by rfl, fun w2 hb2 => by (go_simp; try with_reducible rfl)⟩, _, by (go_simp; try rfl), ?_⟩
      refine wpAnyR_take 5 rfl (by kernel_rfl) (by kernel_rfl) (by kernel_rfl) (fun _ _ _ _ h => h) ⟨_, Or.inl ⟨by rfl, fun w2 hb2 => by (have hx := hb2.cellB g16; go_simp; try with_reducible rfl)⟩, _, by (go_simp; try rfl), ?_⟩
      refine wpAnyR_take 6 rfl (by kernel_rfl) (by kernel_rfl) (by kernel_rfl) (fun _ _ _ _ h => h) ⟨_, Or.inl ⟨by rfl, fun w2 hb2 => by (go_simp; try with_reducible rfl)⟩, _, by (go_simp; try rfl), ?_⟩
      refine wpAnyR_take 7 rfl (by kernel_rfl) (by kernel_rfl) (by kernel_rfl) (fun _ _ _ _ h => h) ⟨_, Or.inl ⟨by rfl, fun w2 hb2 => by (go_simp; try with_reducible rfl)⟩, _, by (go_simp; try rfl), ?_⟩
      refine wpAnyR_take 8 rfl (by kernel_rfl) (by kernel_rfl) (by kernel_rfl) (fun _ _ _ _ h => h) ⟨_, Or.inl ⟨by rfl, fun w2 hb2 => by (go_simp; try with_reducible rfl)⟩, _, by (go_simp; try rfl), ?_⟩
      refine wpAnyR_take 9 rfl (by kernel_rfl) (by kernel_rfl) (by kernel_rfl) (fun _ _ _ _ h => h) ⟨_, Or.inl ⟨by rfl, fun w2 hb2 => by (have hx0 := held_cell (held_after hb2 rb6) 1 _ rfl; go_simp; try with_reducible rfl)⟩, _, by (go_simp; try rfl), ?_⟩
      refine wpAnyR_take 10 rfl (by kernel_rfl) (by kernel_rfl) (by kernel_rfl) (fun _ _ _ _ h => h) ⟨_, Or.inl ⟨by rfl, fun w2 hb2 => by (go_simp; try with_reducible rfl)⟩, _, by (go_simp; try rfl), ?_⟩
      refine wpAnyR_take 11 rfl (by kernel_rfl) (by kernel_rfl) (by kernel_rfl) (fun _ _ _ _ h => h) ⟨_, Or.inl ⟨by rfl, fun w2 hb2 => by (go_simp; try with_reducible rfl)⟩, _, by (go_simp; try rfl), ?_⟩
      refine wpAnyR_take 12 rfl (by kernel_rfl) (by kernel_rfl) (by kernel_rfl) (fun _ _ _ _ h => h) ⟨_, Or.inl ⟨by rfl, fun w2 hb2 => by (go_simp; try with_reducible rfl)⟩, _, by (go_simp; try rfl), ?_⟩
      refine wpAnyR_take 13 rfl (by kernel_rfl) (by kernel_rfl) (by kernel_rfl) (fun _ _ _ _ h => h) ⟨_, Or.inl ⟨by rfl, fun w2 hb2 => by (have hx := hb2.cellB g16; go_simp; try with_reducible rfl)⟩, _, by (go_simp; try rfl), ?_⟩
      refine wpAnyR_take 14 rfl (by kernel_rfl) (by kernel_rfl) (by kernel_rfl) (fun _ _ _ _ h => h) ⟨_, Or.inl ⟨by rfl, fun w2 hb2 => by (go_simp; try with_reducible rfl)⟩, _, by (go_simp; try rfl), ?_⟩
      refine wpAnyR_take 15 rfl (by kernel_rfl) (by kernel_rfl) (by kernel_rfl) (fun _ _ _ _ h => h) ⟨_, Or.inl ⟨by rfl, fun w2 hb2 => by (have hx0 := held_cell (held_after hb2 rb6) 1 _ rfl; go_simp; try with_reducible rfl)⟩, _, by (go_simp; try rfl), ?_⟩
      refine wpAnyR_take 16 rfl (by kernel_rfl) (by kernel_rfl) (by kernel_rfl) (fun _ _ _ _ h => h) ⟨_, Or.inl ⟨by rfl, fun w2 hb2 => by (go_simp; try with_reducible rfl)⟩, _, by (go_simp; try rfl), ?_⟩
      refine wpAnyR_take 17 rfl (by kernel_rfl) (by kernel_rfl) (by kernel_rfl) (fun _ _ _ _ h => h) ⟨_, Or.inl ⟨by rfl, fun w2 hb2 => by (go_simp; try with_reducible rfl)⟩, _, by (go_simp; try rfl), ?_⟩
      refine wpAnyR_take 18 rfl (by kernel_rfl) (by kernel_rfl) (by kernel_rfl) (fun _ _ _ _ h => h) ⟨_, Or.inl ⟨by rfl, fun w2 hb2 => by (go_simp; try with_reducible rfl)⟩, _, by (go_simp; try rfl), ?_⟩
      refine wpAnyR_take 19 rfl (by kernel_rfl) (by kernel_rfl) (by kernel_rfl) (fun _ _ _ _ h => h) ⟨_, Or.inl ⟨by rfl, fun w2 hb2 => by (have hx := hb2.cellB g06; go_simp; try with_reducible rfl)⟩, _, by (go_simp; try rfl), ?_⟩
      refine wpAnyR_only 20 rfl (by kernel_rfl) (by rfl) (fun K hK => ?_)
      go_simp
      refine (km.out _).mono ?_
      rintro e V6 ⟨rfl, hA6⟩
      go_simp
      refine hK _ _ ⟨hA6, ?_⟩
      clear hK
      have rb7 := held_after hA6 rb6
      have hO7 := hid (hO6.out.below hA6)
      have hB7 := hid (hB6.out.trans (hA6.mono hB6.out.size))
      clear rb6 hO6 hB6 hA6 g06 g16
      refine wpAnyR_take 21 rfl (by kernel_rfl) (by kernel_rfl) (by kernel_rfl) (fun _ _ _ _ h => h) ⟨_, Or.inl ⟨by rfl, fun w2 hb2 => by (go_simp; try with_reducible rfl)⟩, _, by (go_simp; try rfl), ?_⟩
      refine wpAnyR_take 22 rfl (by kernel_rfl) (by kernel_rfl) (by kernel_rfl) (fun _ _ _ _ h => h) ⟨_, Or.inl ⟨by rfl, fun w2 hb2 => by (go_simp; try with_reducible rfl)⟩, _, by (go_simp; try rfl), ?_⟩
      refine wpAnyR_done (by kernel_rfl) ?_ _
      have z0 := held_cell rb7 0 _ rfl
      have z1 := held_cell rb7 1 _ rfl
      obtain ⟨b5, o5, e5, g07, g17⟩ := (hE0w.out.below hB7.out).at2 hxx.out
      cases e5
      by_cases c2 : m < val
      case pos =>
        have e5 := hok2.out hd0 (.inr c2)
        have eE : errS l = 5 := by rw [hd.out, herr.out, e5]; rfl
        have hG3 := hid (hG2.out.trans (if_neg (by rw [eE]; decide)))
        rw [eE] at hG3
        clear hd hG2 e5 eE m2
        go_wp2_with fail
        go_ret2
        rw [hG3.out]
        exact BsOk.no hB7.out
      have e0 := hok3.out hd0 (by omega) (by omega)
      have hd2 := hid (show errS l = errS (l.drop (k + 1)) by rw [hd.out, herr.out, if_pos e0])
      have wk : IntKind.u64.wrap key = key := by rw [IntKind.wrap_u64]; omega
      have wv : IntKind.u64.wrap val = val := by rw [IntKind.wrap_u64]; omega
      clear hd herr e0 m2 hok1 hok2 hok3 hkb hsm
      have hcat2 := hid (show hb ++ catS (l.take (k + 1)) = L0 ++ bytesL key 4 ++ bytesL val s.toNat by rw [hcat.out, ← List.append_assoc, hL0.out, List.append_assoc])
      clear hL0 hcat
      have kb4 : ∀ W : World, Calls Try.prog 28 #[.int .i64 4, .int .u64 key] W (BytesOk W (bytesL key 4)) := fun W => by
        obtain ⟨K, rfl⟩ := Int.eq_ofNat_of_zero_le (show 0 ≤ key by omega)
        exact rbytes_any 4 (by omega) K (by omega) W
      have kbs : ∀ W : World, Calls Try.prog 28 #[.int .i64 s, .int .u64 val] W (BytesOk W (bytesL val s.toNat)) := fun W => by
        obtain ⟨K, rfl⟩ := Int.eq_ofNat_of_zero_le (show 0 ≤ val by omega)
        obtain ⟨n, rfl⟩ := Int.eq_ofNat_of_zero_le (show 0 ≤ s by omega)
        exact rbytes_any n (by omega) K (by omega) W
      replace kb4 := hid kb4
      replace kbs := hid kbs
      go_wp2_with fail
      refine (kb4.out _).mono ?_
      rintro e V8 ⟨ua, uc, rfl, hU, hA8⟩
      have rb8 := held_after hA8 rb7
      have hO8 := hid (hO7.out.below hA8)
      have hB8 := hid (hB7.out.trans (hA8.mono hB7.out.size))
      have hUs := hid hU.slf
      have sB8 := hB8.out.size
      have hl4 : (bytesL key 4).length = 4 := bytesL_len _ _
      clear hA8 hU rb7 hO7 hB7 g07 g17 z0 z1
      rw [hl4] at hUs ⊢
      go_wp2_with (first | (at_builtin; refine wpList_appK rfl (.tmp 66) (.tmp 74) 26 rfl w.heap.size 5 .u8 1 bytesOf (.slice oa L0.length oc) L0 rfl hO8.out ua 4 uc (bytesL key 4) rfl hUs.out (by simp; omega) (by decide) sB8 ?_))
      intro a9 c9 V9 hO9 hG9 hq9
      have rb9 := (hG9.block p0_0 (held_lt rb8) (fun e => by have e2 := Own.tyne hO8.out rb8 (by decide); exact e2 e.symm)).trans rb8
      have hB9 := hid (Own.grew hO8.out hG9 hB8.out (Nat.le_refl _) sB8)
      have el9 : L0.length + 4 = (L0 ++ bytesL key 4).length := by rw [List.length_append, hl4]
      rw [el9] at hO9 ⊢
      replace hO9 := hid hO9
      clear hG9 hq9 rb8 hO8 hB8 hUs
      have z0 := held_cell rb9 0 _ rfl
      have z1 := held_cell rb9 1 _ rfl
      obtain ⟨b5, o5, e5, g08, g18⟩ := (hE0w.out.below hB9.out).at2 hxx.out
      cases e5
      have hl6 : (L0 ++ bytesL key 4).length ≤ 200000 := by omega
      obtain ⟨L1, hL1⟩ : ∃ x, L0 ++ bytesL key 4 = x := ⟨_, rfl⟩
      rw [hL1] at hO9 hcat2 hl6 el9 ⊢
      clear hL1
      go_wp2_with fail
      refine (kbs.out _).mono ?_
      rintro e V10 ⟨ua2, uc2, rfl, hU, hA8⟩
      have rb10 := held_after hA8 rb9
      have hO10 := hid (hO9.out.below hA8)
      have hB10 := hid (hB9.out.trans (hA8.mono hB9.out.size))
      have hUs := hid hU.slf
      have sB10 := hB10.out.size
      have hls : (bytesL val s.toNat).length ≤ 8 := by rw [bytesL_len]; omega
      obtain ⟨Y, hY⟩ : ∃ x, bytesL val s.toNat = x := ⟨_, rfl⟩
      rw [hY] at hUs hls hcat2 ⊢
      clear hA8 hU rb9 hO9 hB9 g08 g18 z0 z1 hY
      go_wp2_with (first | (at_builtin; refine wpList_appK rfl (.tmp 76) (.tmp 85) 26 rfl w.heap.size 5 .u8 1 bytesOf (.slice a9 L1.length c9) L1 rfl hO10.out ua2 Y.length uc2 Y rfl hUs.out (by simp; omega) (by decide) sB10 ?_))
      intro a7 c7 V7 hO11 hG9 hq9
      have rb11 := hid ((hG9.block p0_0 (held_lt rb10) (fun e => by have e2 := Own.tyne hO10.out rb10 (by decide); exact e2 e.symm)).trans rb10)
      have hB11 := hid (Own.grew hO10.out hG9 hB10.out (Nat.le_refl _) sB10)
      have el11 := hid (show L1.length + Y.length = (hb ++ catS (l.take (k + 1))).length by rw [hcat2.out, List.length_append])
      have hO12 := hid (show Own .u8 5 V7 w.heap.size (.slice a7 (hb ++ catS (l.take (k + 1))).length c7) (hb ++ catS (l.take (k + 1))) from by rw [hcat2.out, List.length_append]; exact hO11)
      clear hO11 hG9 hq9 rb10 hO10 hB10 hUs
      go_wp2_with fail
      go_roundw
      case rel => exact ⟨k + 1, a7, c7, hk1.out, by simp, by rw [el11.out], hO12.out, hd2, rb11.out, hB11.out⟩
      case measure => simp [intOf]; omega
  · go_simp
    have hS := hid (row_lit .i64 2 U1.drew [0, layers, 0] _ 3 U1.heap.size rfl rfl (by unfold maxLen; omega) rfl)
    have hB1 := hid (hB0.out.alloc (show w.heap.size ≤ U1.drew.heap.size from hBs) (.cells #[.int .i64 0, .int .i64 layers, .int .i64 0] 2))
    have nA := (alloc_new U1.drew (.cells #[.int .i64 0, .int .i64 layers, .int .i64 0] 2)).2.1
    have rb0 := held_after nA rb
    have hE0 := hid (hE.out.below nA)
    clear nA
    refine hK _ _ ⟨fun _ => RX.alloc _ _ _, ?_⟩
    clear hK
    refine wpAnyT_only 0 rfl (by kernel_rfl) (by rfl) (fun K hK => ?_)
    go_simp
    refine (rfieldsV_any _).mono ?_
    rintro e V1 ⟨fa, fc, rfl, hF, hA1⟩
    have hs1 := hB1.out.size
    replace hB1 := hid (hB1.out.trans (hA1.mono hs1))
    replace hS := hid (hS.out.below hA1)
    replace hF := hid hF
    have rb1 := held_after hA1 rb0
    have hE1 := hid (hE0.out.below hA1)
    go_simp
    refine hK _ _ ⟨fun _ => rx_after hA1, ?_⟩
    clear hK
    refine wpAnyT_only 4 rfl (by kernel_rfl) (by rfl) (fun K hK => ?_)
    go_simp
    refine (rsput_any fa 3 fc (fN HL) (fS HL) (fL HL) (fH HL) (some ⟨_, 0, none⟩) 3 3 [0, layers, 0] _ hF.out hS.out hb3.out (by omega)).mono ?_
    rintro e V2 ⟨ra, rc, rfl, hO, hA2⟩
    have hs9 := hB1.out.size
    have hB9 := hid (hB1.out.trans (hA2.mono hs9))
    have rb9 := held_after hA2 rb1
    have hE9 := hid (hE1.out.below hA2)
    have e1 : (putF (fN HL) (fS HL) (fL HL) (fH HL) 3 [0, layers, 0]) = (hb, he) := hr.out
    rw [e1]
    rw [e1] at hO
    dsimp only at hO ⊢
    have hO9 := hid (hO.base hs9)
    clear e1
    go_simp
    refine hK _ _ ⟨fun _ => rx_after hA2, ?_⟩
    clear hK
    clear hA2 hO
    refine wpAnyT_take 5 rfl (by kernel_rfl) (by kernel_rfl) (by kernel_rfl) (by kernel_rfl) (fun _ _ _ _ h => h) ⟨_, Or.inl ⟨by rfl, fun w2 hb2 => by (go_simp; try with_reducible rfl)⟩, _, by (go_simp; try rfl), ?_⟩
    refine wpAnyT_take 6 rfl (by kernel_rfl) (by kernel_rfl) (by kernel_rfl) (by kernel_rfl) (fun _ _ _ _ h => h) ⟨_, Or.inl ⟨by rfl, fun w2 hb2 => by (go_simp; try with_reducible rfl)⟩, _, by (go_simp; try rfl), ?_⟩
    refine wpAnyT_take 7 rfl (by kernel_rfl) (by kernel_rfl) (by kernel_rfl) (by kernel_rfl) (fun _ _ _ _ h => h) ⟨_, Or.inl ⟨by rfl, fun w2 hb2 => by (go_simp; try with_reducible rfl)⟩, _, by (go_simp; try rfl), ?_⟩
    refine wpAnyT_take 8 rfl (by kernel_rfl) (by kernel_rfl) (by kernel_rfl) (by kernel_rfl) (fun _ _ _ _ h => h) ⟨_, Or.inl ⟨by rfl, fun w2 hb2 => by (go_simp; try with_reducible rfl)⟩, _, by (go_simp; try rfl), ?_⟩
    refine wpAnyT_only 9 rfl (by kernel_rfl) (by rfl) (fun K hK => ?_)
    go_simp
    refine hK _ _ ⟨fun h => (h rfl).elim, ?_⟩
    clear hK
    refine wpAnyT_done (by kernel_rfl) ?_ _
    clear hF hS hB1 rb1 hE1 rb hE hB0
    by_cases hen : he = 0
    case neg =>
      have hG2 := hid (hG.out.trans (if_pos hen))
      have hnz : (he != 0) = true := by simp [hen]
      go_wp2_with fail
      go_ret2
      rw [hG2.out]
      exact BsOk.no hB9.out
    have hG2 := hid (hG.out.trans (if_neg (by simp [hen])))
    subst hen
    clear hG
    have sV2 := hB9.out.size
    have hOA := hid (show Own .u8 5 V2 w.heap.size (.slice ra (hb ++ catS (l.take 0)).length rc) (hb ++ catS (l.take 0)) from by simpa [catS] using hO9.out)
    have eL : (hb ++ catS (l.take 0)).length = hb.length := by simp [catS]
    clear hO9 hE9
    go_wp2_with fail
    go_loopw [4, 6] (fun out ix wr => ∃ (k : Nat) (oa : Option Addr) (oc : Nat), k ≤ len ∧ ix = .int .i64 k ∧ out = .slice oa (hb ++ catS (l.take k)).length oc ∧ Own .u8 5 wr w.heap.size (.slice oa (hb ++ catS (l.take k)).length oc) (hb ++ catS (l.take k)) ∧ Hid (errS l = errS (l.drop k)) ∧ wr.heap[p0_0]? = some (.cells #[.int .i64 layers, .slice a len cap] 24 (0, 0)) ∧ Below w.heap.size w wr) (fun _ ix _ => len - (intOf ix).toNat)
    case atStart => exact ⟨0, ra, rc, by omega, rfl, by rw [eL], hOA.out, hid rfl, rb9, hB9.out⟩
    case round =>
      clear rb9 hB9 hOA eL
      obtain ⟨k, oa, oc, hk, rfl, rfl, hO, hd, rb, hB⟩ := hrel
      have hct := hcl.out (l.take k)
      have htl : (l.take k).length ≤ 40 := by rw [List.length_take]; omega
      have hlen : (hb ++ catS (l.take k)).length ≤ 100000 := by rw [List.length_append]; omega
      have z0 := held_cell rb 0 _ rfl
      have z1 := held_cell rb 1 _ rfl
      by_cases hlt : (k : Int) < len
      case neg =>
        obtain rfl : k = len := by omega
        have e0 : errS l = 0 := by rw [hd.out, List.drop_of_length_le (by omega)]; rfl
        have hG3 := hid (hG2.out.trans (if_pos e0))
        rw [List.take_of_length_le (by omega)] at hO hlen ⊢
        obtain ⟨LL, hLL⟩ : ∃ x, hb ++ catS l = x := ⟨_, rfl⟩
        rw [hLL] at hO hlen hG3 ⊢
        replace hB := hid hB
        replace hO := hid hO
        clear hct htl hd hG2 e0
        go_wp2_with fail
        go_ret2
        rw [hG3.out]
        exact ⟨oa, oc, rfl, hO.out, hB.out⟩
      obtain ⟨L0, hL0⟩ : ∃ x, hb ++ catS (l.take k) = x := ⟨_, rfl⟩
      rw [hL0] at hO hlen ⊢
      replace hL0 := hid hL0
      obtain ⟨x, hx⟩ : ∃ x, l[k]? = some x := ⟨_, List.getElem?_eq_getElem (show k < l.length by omega)⟩
      have hxw := hwf.out x (List.mem_of_getElem? hx)
      have hEk := hid (hE0w.out.below hB)
      obtain ⟨bb, off, rfl, g0, g1⟩ := (hE0w.out.below hB).at2 (prsV_at hx)
      have herr := errS_at hx
      have hcat := catS_at hx
      have hxx := hid (prsV_at hx)
      have kz : (0 : Int) ≤ k := by omega
      have w1 : IntKind.i64.wrap ((k : Int) + 1) = (k : Int) + 1 := by rw [IntKind.wrap_i64]; omega
      have hk1 := hid (show k + 1 ≤ len by omega)
      obtain ⟨key, val⟩ := x
      dsimp only at g0 g1 hxw hxx
      obtain ⟨⟨x1, x2⟩, x3, x4⟩ := hxw
      have kf := hid (fun W : World => vrsize_any key W x1 x2)
      have km := hid (fun W : World => vrmost_any key W x1 x2)
      have hkb := fun h => kind_bd (key := key) h
      have hk5 := kindS_le key
      have hok1 := fun h => okK_bad (x := (key, val)) h
      have hok2 := fun h h2 => okK_rng (x := (key, val)) h h2
      have hok3 := fun h h2 h3 => okK_ok (x := (key, val)) h h2 h3
      dsimp only at hok1 hok2 hok3
      have hpB : pB (key, val) = bytesL key 4 ++ bytesL val (szT (kindS key)).toNat := rfl
      obtain ⟨d, hdd⟩ : ∃ d, kindS key = d := ⟨_, rfl⟩
      rw [hdd] at kf km hkb hk5 hok1 hok2 hok3 hpB
      have hsm := fun h => sz_mo (d := d) h hk5
      clear hx hdd
      obtain ⟨ok, hok⟩ : ∃ b, decide (d ≠ 0) = b := ⟨_, rfl⟩
      rw [hok] at kf
      obtain ⟨s, hs⟩ : ∃ s, szT d = s := ⟨_, rfl⟩
      obtain ⟨m, hm⟩ : ∃ m, moT d = m := ⟨_, rfl⟩
      rw [hs] at kf hsm hpB
      rw [hm] at km hok2 hok3 hsm
      clear hs hm
      replace hok1 := hid hok1
      replace hok2 := hid hok2
      replace hok3 := hid hok3
      replace hkb := hid hkb
      replace hsm := hid hsm
      replace herr := hid herr
      replace hcat := hid (hcat.trans (by rw [hpB]))
      clear hct htl hpB
      replace hO := hid hO
      have sB := hB.size
      replace hB := hid hB
      go_wp2_with fail
      refine (kf.out _).mono ?_
      rintro e V5 ⟨rfl, hA5⟩
      have rb5 := held_after hA5 rb
      have hB5 := hid (hB.out.trans (hA5.mono sB))
      have hO5 := hid (hO.out.below hA5)
      obtain ⟨b5, o5, e5, g05, g15⟩ := (hE0w.out.below hB5.out).at2 hxx.out
      cases e5
      clear hA5 hB hO rb g0 g1 z0 z1
      have z0 := held_cell rb5 0 _ rfl
      have z1 := held_cell rb5 1 _ rfl
      by_cases hd0 : d = 0
      case pos =>
        obtain rfl : ok = false := by rw [← hok]; simp [hd0]
        have e6 := hok1.out hd0
        have eE : errS l = 6 := by rw [hd.out, herr.out, e6]; rfl
        have hG3 := hid (hG2.out.trans (if_neg (by rw [eE]; decide)))
        rw [eE] at hG3
        clear hd hG2 e6 eE hok hd0
        go_wp2_with fail
        go_ret2
        rw [hG3.out]
        exact BsOk.no hB5.out
      obtain rfl : ok = true := by rw [← hok]; simp [hd0]
      clear hok
      obtain ⟨k1, k2, k3⟩ := hkb.out hd0
      obtain ⟨s1, s2, m1, m2, m3⟩ := hsm.out hd0
      go_upto_region 12 with (fail)
      have rb6 := (show V5.drew.heap[p0_0]? = _ from rb5)
      have hO6 := hid (show Own .u8 5 V5.drew _ _ _ from hO5.out)
      have hB6 := hid hB5.out.drew
      have g06 := (show V5.drew.cell? _ = _ from g05)
      have g16 := (show V5.drew.cell? _ = _ from g15)
      clear rb5 hO5 hB5 g05 g15 z0 z1
      by_cases c1 : val < 0
      case pos =>
        have e5 := hok2.out hd0 (.inl c1)
        have eE : errS l = 5 := by rw [hd.out, herr.out, e5]; rfl
        have hG3 := hid (hG2.out.trans (if_neg (by rw [eE]; decide)))
        rw [eE] at hG3
        clear hd hG2 e5 eE m2
        refine wp_region_R (by kernel_rfl) ?_
        refine wpAnyR_take 0 rfl (by kernel_rfl) (by kernel_rfl) (by kernel_rfl) (fun _ _ _ _ h => h) ⟨_, Or.inl ⟨by rfl, fun w2 hb2 => by (go_simp; try with_reducible rfl)⟩, _, by (go_simp; try rfl), ?_⟩
        refine wpAnyR_take 1 rfl (by kernel_rfl) (by kernel_rfl) (by kernel_rfl) (fun _ _ _ _ h => h) ⟨_, Or.inl ⟨by rfl, fun w2 hb2 => by (have hx0 := held_cell (held_after hb2 rb6) 1 _ rfl; go_simp; try with_reducible rfl)⟩, _, by (go_simp; try rfl), ?_⟩
        refine wpAnyR_take 2 rfl (by kernel_rfl) (by kernel_rfl) (by kernel_rfl) (fun _ _ _ _ h => h) ⟨_, Or.inl ⟨by rfl, fun w2 hb2 => by (go_simp; try with_reducible rfl)⟩, _, by (go_simp; try rfl), ?_⟩
        refine wpAnyR_take 3 rfl (by kernel_rfl) (by kernel_rfl) (by kernel_rfl) (fun _ _ _ _ h => h) ⟨_, Or.inl ⟨by rfl, fun w2 hb2 => by (go_simp; try with_reducible rfl)⟩, _, by (go_simp; try rfl), ?_⟩
        refine wpAnyR_take 4 rfl (by kernel_rfl) (by kernel_rfl) (by kernel_rfl) (fun _ _ _ _ h => h) ⟨_, Or.inl ⟨by rfl, fun w2 hb2 => by (go_simp; try with_reducible rfl)⟩, _, by (go_simp; try rfl), ?_⟩
        refine wpAnyR_take 5 rfl (by kernel_rfl) (by kernel_rfl) (by kernel_rfl) (fun _ _ _ _ h => h) ⟨_, Or.inl ⟨by rfl, fun w2 hb2 => by (have hx := hb2.cellB g16; go_simp; try with_reducible rfl)⟩, _, by (go_simp; try rfl), ?_⟩
        refine wpAnyR_take 6 rfl (by kernel_rfl) (by kernel_rfl) (by kernel_rfl) (fun _ _ _ _ h => h) ⟨_, Or.inl ⟨by rfl, fun w2 hb2 => by (go_simp; try with_reducible rfl)⟩, _, by (go_simp; try rfl), ?_⟩
        refine wpAnyR_take 7 rfl (by kernel_rfl) (by kernel_rfl) (by kernel_rfl) (fun _ _ _ _ h => h) ⟨_, Or.inl ⟨by rfl, fun w2 hb2 => by (go_simp; try with_reducible rfl)⟩, _, by (go_simp; try rfl), ?_⟩
        refine wpAnyR_take 8 rfl (by kernel_rfl) (by kernel_rfl) (by kernel_rfl) (fun _ _ _ _ h => h) ⟨_, Or.inr ⟨by rfl, rfl⟩, _, by (go_simp; try rfl), ?_⟩
        refine wpAnyR_take 9 rfl (by kernel_rfl) (by kernel_rfl) (by kernel_rfl) (fun _ _ _ _ h => h) ⟨_, Or.inr ⟨by rfl, rfl⟩, _, by (go_simp; try rfl), ?_⟩
        refine wpAnyR_take 10 rfl (by kernel_rfl) (by kernel_rfl) (by kernel_rfl) (fun _ _ _ _ h => h) ⟨_, Or.inr ⟨by rfl, rfl⟩, _, by (go_simp; try rfl), ?_⟩
        refine wpAnyR_take 11 rfl (by kernel_rfl) (by kernel_rfl) (by kernel_rfl) (fun _ _ _ _ h => h) ⟨_, Or.inr ⟨by rfl, rfl⟩, _, by (go_simp; try rfl), ?_⟩
        refine wpAnyR_take 12 rfl (by kernel_rfl) (by kernel_rfl) (by kernel_rfl) (fun _ _ _ _ h => h) ⟨_, Or.inr ⟨by rfl, rfl⟩, _, by (go_simp; try rfl), ?_⟩
        refine wpAnyR_take 13 rfl (by kernel_rfl) (by kernel_rfl) (by kernel_rfl) (fun _ _ _ _ h => h) ⟨_, Or.inr ⟨by rfl, rfl⟩, _, by (go_simp; try rfl), ?_⟩
        refine wpAnyR_take 14 rfl (by kernel_rfl) (by kernel_rfl) (by kernel_rfl) (fun _ _ _ _ h => h) ⟨_, Or.inr ⟨by rfl, rfl⟩, _, by (go_simp; try rfl), ?_⟩
        refine wpAnyR_take 15 rfl (by kernel_rfl) (by kernel_rfl) (by kernel_rfl) (fun _ _ _ _ h => h) ⟨_, Or.inr ⟨by rfl, rfl⟩, _, by (go_simp; try rfl), ?_⟩
        refine wpAnyR_take 16 rfl (by kernel_rfl) (by kernel_rfl) (by kernel_rfl) (fun _ _ _ _ h => h) ⟨_, Or.inr ⟨by rfl, rfl⟩, _, by (go_simp; try rfl), ?_⟩
        refine wpAnyR_take 17 rfl (by kernel_rfl) (by kernel_rfl) (by kernel_rfl) (fun _ _ _ _ h => h) ⟨_, Or.inr ⟨by rfl, rfl⟩, _, by (go_simp; try rfl), ?_⟩
        refine wpAnyR_take 18 rfl (by kernel_rfl) (by kernel_rfl) (by kernel_rfl) (fun _ _ _ _ h => h) ⟨_, Or.inr ⟨by rfl, rfl⟩, _, by (go_simp; try rfl), ?_⟩
        refine wpAnyR_take 19 rfl (by kernel_rfl) (by kernel_rfl) (by kernel_rfl) (fun _ _ _ _ h => h) ⟨_, Or.inr ⟨by rfl, rfl⟩, _, by (go_simp; try rfl), ?_⟩
        refine wpAnyR_take 20 rfl (by kernel_rfl) (by kernel_rfl) (by kernel_rfl) (fun _ _ _ _ h => h) ⟨_, Or.inr ⟨by rfl, rfl⟩, _, by (go_simp; try rfl), ?_⟩
        refine wpAnyR_take 21 rfl (by kernel_rfl) (by kernel_rfl) (by kernel_rfl) (fun _ _ _ _ h => h) ⟨_, Or.inr ⟨by rfl, rfl⟩, _, by (go_simp; try rfl), ?_⟩
        refine wpAnyR_take 22 rfl (by kernel_rfl) (by kernel_rfl) (by kernel_rfl) (fun _ _ _ _ h => h) ⟨_, Or.inl ⟨by rfl, fun w2 hb2 => by (go_simp; try with_reducible rfl)⟩, _, by (go_simp; try rfl), ?_⟩
        refine wpAnyR_done (by kernel_rfl) ?_ _
        go_wp2_with fail
        go_ret2
        rw [hG3.out]
        exact BsOk.no hB6.out
      refine wp_region_R (by kernel_rfl) ?_
      refine wpAnyR_take 0 rfl (by kernel_rfl) (by kernel_rfl) (by kernel_rfl) (fun _ _ _ _ h => h) ⟨_, Or.inl ⟨by rfl, fun w2 hb2 => by (go_simp; try with_reducible rfl)⟩, _, by (go_simp; try rfl), ?_⟩
      refine wpAnyR_take 1 rfl (by kernel_rfl) (by kernel_rfl) (by kernel_rfl) (fun _ _ _ _ h => h) ⟨_, Or.inl ⟨by rfl, fun w2 hb2 => by (have hx0 := held_cell (held_after hb2 rb6) 1 _ rfl; go_simp; try with_reducible rfl)⟩, _, by (go_simp; try rfl), ?_⟩
      refine wpAnyR_take 2 rfl (by kernel_rfl) (by kernel_rfl) (by kernel_rfl) (fun _ _ _ _ h => h) ⟨_, Or.inl ⟨by rfl, fun w2 hb2 => by (go_simp; try with_reducible rfl)⟩, _, by (go_simp; try rfl), ?_⟩
      refine wpAnyR_take 3 rfl (by kernel_rfl) (by kernel_rfl) (by kernel_rfl) (fun _ _ _ _ h => h) ⟨_, Or.inl ⟨by rfl, fun w2 hb2 => by (go_simp; try with_reducible rfl)⟩, _, by (go_simp; try rfl), ?_⟩
      refine wpAnyR_take 4 rfl (by kernel_rfl) (by kernel_rfl) (by kernel_rfl) (fun _ _ _ _ h => h) ⟨_, Or.inl ⟨by rfl, fun w2 hb2 => by (go_simp; try with_reducible rfl)⟩, _, by (go_simp; try rfl), ?_⟩
      refine wpAnyR_take 5 rfl (by kernel_rfl) (by kernel_rfl) (by kernel_rfl) (fun _ _ _ _ h => h) ⟨_, Or.inl ⟨by rfl, fun w2 hb2 => by (have hx := hb2.cellB g16; go_simp; try with_reducible rfl)⟩, _, by (go_simp; try rfl), ?_⟩
      refine wpAnyR_take 6 rfl (by kernel_rfl) (by kernel_rfl) (by kernel_rfl) (fun _ _ _ _ h => h) ⟨_, Or.inl ⟨by rfl, fun w2 hb2 => by (go_simp; try with_reducible rfl)⟩, _, by (go_simp; try rfl), ?_⟩
      refine wpAnyR_take 7 rfl (by kernel_rfl) (by kernel_rfl) (by kernel_rfl) (fun _ _ _ _ h => h) ⟨_, Or.inl ⟨by rfl, fun w2 hb2 => by (go_simp; try with_reducible rfl)⟩, _, by (go_simp; try rfl), ?_⟩
      refine wpAnyR_take 8 rfl (by kernel_rfl) (by kernel_rfl) (by kernel_rfl) (fun _ _ _ _ h => h) ⟨_, Or.inl ⟨by rfl, fun w2 hb2 => by (go_simp; try with_reducible rfl)⟩, _, by (go_simp; try rfl), ?_⟩
      refine wpAnyR_take 9 rfl (by kernel_rfl) (by kernel_rfl) (by kernel_rfl) (fun _ _ _ _ h => h) ⟨_, Or.inl ⟨by rfl, fun w2 hb2 => by (have hx0 := held_cell (held_after hb2 rb6) 1 _ rfl; go_simp; try with_reducible rfl)⟩, _, by (go_simp; try rfl), ?_⟩
      refine wpAnyR_take 10 rfl (by kernel_rfl) (by kernel_rfl) (by kernel_rfl) (fun _ _ _ _ h => h) ⟨_, Or.inl ⟨by rfl, fun w2 hb2 => by (go_simp; try with_reducible rfl)⟩, _, by (go_simp; try rfl), ?_⟩
      refine wpAnyR_take 11 rfl (by kernel_rfl) (by kernel_rfl) (by kernel_rfl) (fun _ _ _ _ h => h) ⟨_, Or.inl ⟨by rfl, fun w2 hb2 => by (go_simp; try with_reducible rfl)⟩, _, by (go_simp; try rfl), ?_⟩
      refine wpAnyR_take 12 rfl (by kernel_rfl) (by kernel_rfl) (by kernel_rfl) (fun _ _ _ _ h => h) ⟨_, Or.inl ⟨by rfl, fun w2 hb2 => by (go_simp; try with_reducible rfl)⟩, _, by (go_simp; try rfl), ?_⟩
      refine wpAnyR_take 13 rfl (by kernel_rfl) (by kernel_rfl) (by kernel_rfl) (fun _ _ _ _ h => h) ⟨_, Or.inl ⟨by rfl, fun w2 hb2 => by (have hx := hb2.cellB g16; go_simp; try with_reducible rfl)⟩, _, by (go_simp; try rfl), ?_⟩
      refine wpAnyR_take 14 rfl (by kernel_rfl) (by kernel_rfl) (by kernel_rfl) (fun _ _ _ _ h => h) ⟨_, Or.inl ⟨by rfl, fun w2 hb2 => by (go_simp; try with_reducible rfl)⟩, _, by (go_simp; try rfl), ?_⟩
      refine wpAnyR_take 15 rfl (by kernel_rfl) (by kernel_rfl) (by kernel_rfl) (fun _ _ _ _ h => h) ⟨_, Or.inl ⟨by rfl, fun w2 hb2 => by (have hx0 := held_cell (held_after hb2 rb6) 1 _ rfl; go_simp; try with_reducible rfl)⟩, _, by (go_simp; try rfl), ?_⟩
      refine wpAnyR_take 16 rfl (by kernel_rfl) (by kernel_rfl) (by kernel_rfl) (fun _ _ _ _ h => h) ⟨_, Or.inl ⟨by rfl, fun w2 hb2 => by (go_simp; try with_reducible rfl)⟩, _, by (go_simp; try rfl), ?_⟩
      refine wpAnyR_take 17 rfl (by kernel_rfl) (by kernel_rfl) (by kernel_rfl) (fun _ _ _ _ h => h) ⟨_, Or.inl ⟨by rfl, fun w2 hb2 => by (go_simp; try with_reducible rfl)⟩, _, by (go_simp; try rfl), ?_⟩
      refine wpAnyR_take 18 rfl (by kernel_rfl) (by kernel_rfl) (by kernel_rfl) (fun _ _ _ _ h => h) ⟨_, Or.inl ⟨by rfl, fun w2 hb2 => by (go_simp; try with_reducible rfl)⟩, _, by (go_simp; try rfl), ?_⟩
      refine wpAnyR_take 19 rfl (by kernel_rfl) (by kernel_rfl) (by kernel_rfl) (fun _ _ _ _ h => h) ⟨_, Or.inl ⟨by rfl, fun w2 hb2 => by (have hx := hb2.cellB g06; go_simp; try with_reducible rfl)⟩, _, by (go_simp; try rfl), ?_⟩
      refine wpAnyR_only 20 rfl (by kernel_rfl) (by rfl) (fun K hK => ?_)
      go_simp
      refine (km.out _).mono ?_
      rintro e V6 ⟨rfl, hA6⟩
      go_simp
      refine hK _ _ ⟨hA6, ?_⟩
      clear hK
      have rb7 := held_after hA6 rb6
      have hO7 := hid (hO6.out.below hA6)
      have hB7 := hid (hB6.out.trans (hA6.mono hB6.out.size))
      clear rb6 hO6 hB6 hA6 g06 g16
      refine wpAnyR_take 21 rfl (by kernel_rfl) (by kernel_rfl) (by kernel_rfl) (fun _ _ _ _ h => h) ⟨_, Or.inl ⟨by rfl, fun w2 hb2 => by (go_simp; try with_reducible rfl)⟩, _, by (go_simp; try rfl), ?_⟩
      refine wpAnyR_take 22 rfl (by kernel_rfl) (by kernel_rfl) (by kernel_rfl) (fun _ _ _ _ h => h) ⟨_, Or.inl ⟨by rfl, fun w2 hb2 => by (go_simp; try with_reducible rfl)⟩, _, by (go_simp; try rfl), ?_⟩
      refine wpAnyR_done (by kernel_rfl) ?_ _
      have z0 := held_cell rb7 0 _ rfl
      have z1 := held_cell rb7 1 _ rfl
      obtain ⟨b5, o5, e5, g07, g17⟩ := (hE0w.out.below hB7.out).at2 hxx.out
      cases e5
      by_cases c2 : m < val
      case pos =>
        have e5 := hok2.out hd0 (.inr c2)
        have eE : errS l = 5 := by rw [hd.out, herr.out, e5]; rfl
        have hG3 := hid (hG2.out.trans (if_neg (by rw [eE]; decide)))
        rw [eE] at hG3
        clear hd hG2 e5 eE m2
        go_wp2_with fail
        go_ret2
        rw [hG3.out]
        exact BsOk.no hB7.out
      have e0 := hok3.out hd0 (by omega) (by omega)
      have hd2 := hid (show errS l = errS (l.drop (k + 1)) by rw [hd.out, herr.out, if_pos e0])
      have wk : IntKind.u64.wrap key = key := by rw [IntKind.wrap_u64]; omega
      have wv : IntKind.u64.wrap val = val := by rw [IntKind.wrap_u64]; omega
      clear hd herr e0 m2 hok1 hok2 hok3 hkb hsm
      have hcat2 := hid (show hb ++ catS (l.take (k + 1)) = L0 ++ bytesL key 4 ++ bytesL val s.toNat by rw [hcat.out, ← List.append_assoc, hL0.out, List.append_assoc])
      clear hL0 hcat
      have kb4 : ∀ W : World, Calls Try.prog 28 #[.int .i64 4, .int .u64 key] W (BytesOk W (bytesL key 4)) := fun W => by
        obtain ⟨K, rfl⟩ := Int.eq_ofNat_of_zero_le (show 0 ≤ key by omega)
        exact rbytes_any 4 (by omega) K (by omega) W
      have kbs : ∀ W : World, Calls Try.prog 28 #[.int .i64 s, .int .u64 val] W (BytesOk W (bytesL val s.toNat)) := fun W => by
        obtain ⟨K, rfl⟩ := Int.eq_ofNat_of_zero_le (show 0 ≤ val by omega)
        obtain ⟨n, rfl⟩ := Int.eq_ofNat_of_zero_le (show 0 ≤ s by omega)
        exact rbytes_any n (by omega) K (by omega) W
      replace kb4 := hid kb4
      replace kbs := hid kbs
      go_wp2_with fail
      refine (kb4.out _).mono ?_
      rintro e V8 ⟨ua, uc, rfl, hU, hA8⟩
      have rb8 := held_after hA8 rb7
      have hO8 := hid (hO7.out.below hA8)
      have hB8 := hid (hB7.out.trans (hA8.mono hB7.out.size))
      have hUs := hid hU.slf
      have sB8 := hB8.out.size
      have hl4 : (bytesL key 4).length = 4 := bytesL_len _ _
      clear hA8 hU rb7 hO7 hB7 g07 g17 z0 z1
      rw [hl4] at hUs ⊢
      go_wp2_with (first | (at_builtin; refine wpList_appK rfl (.tmp 66) (.tmp 74) 26 rfl w.heap.size 5 .u8 1 bytesOf (.slice oa L0.length oc) L0 rfl hO8.out ua 4 uc (bytesL key 4) rfl hUs.out (by simp; omega) (by decide) sB8 ?_))
      intro a9 c9 V9 hO9 hG9 hq9
      have rb9 := (hG9.block p0_0 (held_lt rb8) (fun e => by have e2 := Own.tyne hO8.out rb8 (by decide); exact e2 e.symm)).trans rb8
      have hB9 := hid (Own.grew hO8.out hG9 hB8.out (Nat.le_refl _) sB8)
      have el9 : L0.length + 4 = (L0 ++ bytesL key 4).length := by rw [List.length_append, hl4]
      rw [el9] at hO9 ⊢
      replace hO9 := hid hO9
      clear hG9 hq9 rb8 hO8 hB8 hUs
      have z0 := held_cell rb9 0 _ rfl
      have z1 := held_cell rb9 1 _ rfl
      obtain ⟨b5, o5, e5, g08, g18⟩ := (hE0w.out.below hB9.out).at2 hxx.out
      cases e5
      have hl6 : (L0 ++ bytesL key 4).length ≤ 200000 := by omega
      obtain ⟨L1, hL1⟩ : ∃ x, L0 ++ bytesL key 4 = x := ⟨_, rfl⟩
      rw [hL1] at hO9 hcat2 hl6 el9 ⊢
      clear hL1
      go_wp2_with fail
      refine (kbs.out _).mono ?_
      rintro e V10 ⟨ua2, uc2, rfl, hU, hA8⟩
      have rb10 := held_after hA8 rb9
      have hO10 := hid (hO9.out.below hA8)
      have hB10 := hid (hB9.out.trans (hA8.mono hB9.out.size))
      have hUs := hid hU.slf
      have sB10 := hB10.out.size
      have hls : (bytesL val s.toNat).length ≤ 8 := by rw [bytesL_len]; omega
      obtain ⟨Y, hY⟩ : ∃ x, bytesL val s.toNat = x := ⟨_, rfl⟩
      rw [hY] at hUs hls hcat2 ⊢
      clear hA8 hU rb9 hO9 hB9 g08 g18 z0 z1 hY
      go_wp2_with (first | (at_builtin; refine wpList_appK rfl (.tmp 76) (.tmp 85) 26 rfl w.heap.size 5 .u8 1 bytesOf (.slice a9 L1.length c9) L1 rfl hO10.out ua2 Y.length uc2 Y rfl hUs.out (by simp; omega) (by decide) sB10 ?_))
      intro a7 c7 V7 hO11 hG9 hq9
      have rb11 := hid ((hG9.block p0_0 (held_lt rb10) (fun e => by have e2 := Own.tyne hO10.out rb10 (by decide); exact e2 e.symm)).trans rb10)
      have hB11 := hid (Own.grew hO10.out hG9 hB10.out (Nat.le_refl _) sB10)
      have el11 := hid (show L1.length + Y.length = (hb ++ catS (l.take (k + 1))).length by rw [hcat2.out, List.length_append])
      have hO12 := hid (show Own .u8 5 V7 w.heap.size (.slice a7 (hb ++ catS (l.take (k + 1))).length c7) (hb ++ catS (l.take (k + 1))) from by rw [hcat2.out, List.length_append]; exact hO11)
      clear hO11 hG9 hq9 rb10 hO10 hB10 hUs
      go_wp2_with fail
      go_roundw
      case rel => exact ⟨k + 1, a7, c7, hk1.out, by simp, by rw [el11.out], hO12.out, hd2, rb11.out, hB11.out⟩
      case measure => simp [intOf]; omega

end Go.Proofs.Ytdgmmndklmomkaa
