/- The papers' Take. -/
import Derived.Test.YtdgmmndklmomkaaVal6
import Derived.Test.YtdgmmndklmomkaaKO5
import Derived.Laws.OwnMore
import Derived.WalkMore
import Derived.Deep.DeepCutAuto
namespace Go.Proofs.Ytdgmmndklmomkaa
open Go.ChangeShapes Go.WideShapes Go.ChangeAt Go.RowKit
set_option linter.unusedVariables false
set_option linter.unusedSimpArgs false

set_option maxRecDepth 100000 in
set_option maxHeartbeats 8000000 in
theorem rtakeV_any (ba : Option Addr) (bl bc : Nat) (bs : List Int) (w : World) (hS : Sl .u8 w ba bl bc bs) (hz : ∀ x ∈ bs, (Lit.int .u8 x).wf = true) (hbl : bl ≤ 100000) : Calls Try.prog 17 #[.slice ba bl bc] w (VtOk w (takVS bs)) := by
  obtain ⟨r, hr⟩ : ∃ r, takVS bs = r := ⟨_, rfl⟩
  rw [hr]
  have hl0 := hid hS.1
  have hcap := hS.2.1
  have hcm := hS.2.2.1
  have hmm : maxLen ≤ 9223372036854775807 := by decide
  have hS0 := hid hS
  replace hS := hid hS
  replace hz := hid hz
  go_enter Try.func17, Try.ntmps17
  go_upto_region 0 with (fail)
  apply wp_region_seg0 (w := w) (S := [.al 1000, .q []]) (E := [.al ((fun p => .pointer (some ⟨p, 0, none⟩)), _) 1000, .q0 _]) rfl (by kernel_rfl) rfl rfl
  intro th hge hne
  refine Seg.step _ rfl ⟨by rfl, fun U hU => ?_⟩ ?_
  · go_simp; exact vp_alloc rfl rfl rfl
  refine ⟨_, by (simp only [Ent.val]; go_simp <;> exact rfl), ?_⟩
  refine Seg.step _ rfl (Or.inl ⟨by rfl, fun U hU => vp_quiet (by (go_simp <;> exact rfl))⟩) ⟨_, by (simp only [Ent.val]; go_simp <;> exact rfl), ?_⟩
  refine Seg.stop (fun U1 hU hk => ?_)
  have nb0 := hge 0 _ _ rfl
  have rb0 := (hk 0 _ _ rfl trivial).1.2 (by simp)
  clear hk hge hne
  generalize th (0 + 0) = p0_0 at *
  dsimp only at rb0
  have r_p0_0 := rb0
  clear rb0
  have n_p0_0 := nb0
  clear nb0
  have sz1 := hU.size
  have hB : Below w.heap.size w U1 := hU
  clear hU
  have np0 := n_p0_0
  have hBs := hB.size
  replace hB := hid hB
  replace r_p0_0 := hid r_p0_0
  by_cases c4 : (bl : Int) < 4
  case pos =>
    have e := hid (show r = (0, [], 2) by rw [← hr]; unfold takVS; rw [if_pos (by have := hl0.out; omega)])
    clear hr
    have r0 := r_p0_0.out
    have y0 := held_cell r0 0 _ rfl
    have y1 := held_cell r0 1 _ rfl
    have f0 := held_free r0 0
    have f1 := held_free r0 1
    obtain ⟨W4, hW4, ya, yO⟩ := st2 r0 (.int .i64 0) (.slice none 0 0)
    have ez0 := held_cell ya 0 _ rfl
    have ez1 := held_cell ya 1 _ rfl
    have hB4 := hid (belowS hB.out yO np0)
    clear yO ya
    replace r0 := hid r0
    go_wp2_with fail
    try rw [Exit.noGoto_ret]
    refine bodyPost_ret (v := .tuple #[.agg #[.int .i64 0, .slice none 0 0], .int .i64 2]) (by simp [results, Try.results17, go_sem, ez0, ez1]) rfl ?_
    rw [e.out]
    exact VtOk.no hB4.out
  have c4n : ¬ bs.length < 4 := by have := hl0.out; omega
  obtain ⟨⟨P, he⟩, hq⟩ : ∃ q, takL HL (bs.take 4) = q := ⟨_, rfl⟩
  have hG : r = if he ≠ 0 then (0, [], he) else if (tkS 33 (bs.drop 4) []).2 ≠ 0 then (0, [], (tkS 33 (bs.drop 4) []).2) else (P.getD 1 0, (tkS 33 (bs.drop 4) []).1, 0) := by rw [← hr]; unfold takVS; rw [if_neg c4n, hq]
  have te := takF_e (fN HL) (fS HL) (fL HL) (fH HL) HL.length (bs.take 4)
  change 0 ≤ (takL HL (bs.take 4)).2 ∧ (takL HL (bs.take 4)).2 ≤ 9 at te
  rw [hq] at te
  dsimp only at te
  have hP8 := hid (fun h : he = 0 => (tak_spec (h ▸ hq)).2.2.2)
  replace hG := hid hG
  replace hq := hid hq
  clear hr
  obtain ⟨b, off, rfl⟩ : ∃ b off, ba = some ⟨b, off, none⟩ := by obtain ⟨b, off, e, _⟩ := hS0.out.2.2.2.2 0 (by have := hl0.out; omega); exact ⟨b, off, e⟩
  have hS4 := hid ((hS0.out.take 4 (by omega)))
  have hb4c : (4 : Int) ≤ bc := by omega
  have hb4l : (4 : Int) ≤ bl := by omega
  go_upto_region 3 with (fail)
  obtain ⟨UD, hUD⟩ : ∃ W, U1.drew = W := ⟨_, rfl⟩
  have r1 := (show U1.drew.heap[p0_0]? = _ from r_p0_0.out)
  have hB1 := hid hB.out.drew
  clear hB r_p0_0 hUD
  refine wp_region_R (by kernel_rfl) ?_
  refine wpAnyR_take 1 rfl (by kernel_rfl) (by kernel_rfl) (by kernel_rfl) (fun _ _ _ _ h => h) ⟨_, Or.inl ⟨by rfl, fun w2 hb2 => by (go_simp; try with_reducible rfl)⟩, _, by (go_simp; try rfl), ?_⟩
  refine wpAnyR_take 2 rfl (by kernel_rfl) (by kernel_rfl) (by kernel_rfl) (fun _ _ _ _ h => h) ⟨_, Or.inl ⟨by rfl, fun w2 hb2 => by (go_simp; try with_reducible rfl)⟩, _, by (go_simp; try rfl), ?_⟩
  refine wpAnyR_only 0 rfl (by kernel_rfl) (by rfl) (fun K hK => ?_)
  go_simp
  refine (rfieldsV_any _).mono ?_
  rintro e V1 ⟨fa, fc, rfl, hF, hA⟩
  go_simp
  refine hK _ _ ⟨hA, ?_⟩
  clear hK
  have r2 := held_after hA r1
  have hB2 := hid (hB1.out.trans (hA.mono (show w.heap.size ≤ U1.drew.heap.size from hBs)))
  have sV1 := hB2.out.size
  replace hF := hid hF
  clear hA r1 hB1
  refine wpAnyR_only 3 rfl (by kernel_rfl) (by rfl) (fun K hK => ?_)
  go_simp
  refine (rstake_any fa 3 fc (fN HL) (fS HL) (fL HL) (fH HL) (some ⟨b, off, none⟩) 4 bc (bs.take 4) _ hF.out (hS4.out.below hB2.out) (fun x hx => hz.out x (List.mem_of_mem_take hx)) (by omega) (by omega)).mono ?_
  rintro e V2 ⟨ra, rc, rfl, hO, hA⟩
  have e1 : (takF (fN HL) (fS HL) (fL HL) (fH HL) 3 (bs.take 4)) = (P, he) := hq.out
  rw [e1]
  rw [e1] at hO
  dsimp only at hO ⊢
  clear e1
  go_simp
  refine hK _ _ ⟨hA, ?_⟩
  clear hK
  have r3 := held_after hA r2
  have hB3 := hid (hB2.out.trans (hA.mono sV1))
  replace hO := hid hO
  clear hA r2 hB2 hF
  refine wpAnyR_take 4 rfl (by kernel_rfl) (by kernel_rfl) (by kernel_rfl) (fun _ _ _ _ h => h) ⟨_, Or.inl ⟨by rfl, fun w2 hb2 => by (go_simp; try with_reducible rfl)⟩, _, by (go_simp; try rfl), ?_⟩
  refine wpAnyR_take 5 rfl (by kernel_rfl) (by kernel_rfl) (by kernel_rfl) (fun _ _ _ _ h => h) ⟨_, Or.inl ⟨by rfl, fun w2 hb2 => by (go_simp; try with_reducible rfl)⟩, _, by (go_simp; try rfl), ?_⟩
  refine wpAnyR_take 6 rfl (by kernel_rfl) (by kernel_rfl) (by kernel_rfl) (fun _ _ _ _ h => h) ⟨_, Or.inl ⟨by rfl, fun w2 hb2 => by (go_simp; try with_reducible rfl)⟩, _, by (go_simp; try rfl), ?_⟩
  refine wpAnyR_take 7 rfl (by kernel_rfl) (by kernel_rfl) (by kernel_rfl) (fun _ _ _ _ h => h) ⟨_, Or.inl ⟨by rfl, fun w2 hb2 => by (go_simp; try with_reducible rfl)⟩, _, by (go_simp; try rfl), ?_⟩
  refine wpAnyR_take 8 rfl (by kernel_rfl) (by kernel_rfl) (by kernel_rfl) (fun _ _ _ _ h => h) ⟨_, Or.inl ⟨by rfl, fun w2 hb2 => by (go_simp; try with_reducible rfl)⟩, _, by (go_simp; try rfl), ?_⟩
  refine wpAnyR_done (by kernel_rfl) ?_ _
  have sV2 := hB3.out.size
  by_cases hen : he = 0
  case neg =>
    have e := hid (hG.out.trans (if_pos hen))
    have hnz : (he != 0) = true := by simp [hen]
    have y0 := held_cell r3 0 _ rfl
    have y1 := held_cell r3 1 _ rfl
    have f0 := held_free r3 0
    have f1 := held_free r3 1
    obtain ⟨W4, hW4, ya, yO⟩ := st2 r3 (.int .i64 0) (.slice none 0 0)
    have ez0 := held_cell ya 0 _ rfl
    have ez1 := held_cell ya 1 _ rfl
    have hB4 := hid (belowS hB3.out yO np0)
    clear yO ya
    go_wp2_with fail
    try rw [Exit.noGoto_ret]
    refine bodyPost_ret (v := .tuple #[.agg #[.int .i64 0, .slice none 0 0], .int .i64 he]) (by simp [results, Try.results17, go_sem, ez0, ez1]) rfl ?_
    rw [e.out]
    exact VtOk.no hB4.out
  have hG2 := hid (hG.out.trans (if_neg (by simp [hen])))
  subst hen
  clear hG
  have hPl : P.length = 3 := by rw [hP8.out rfl]; simp [HL]
  obtain ⟨x0, x1, x2, rfl⟩ := list3 hPl
  replace hG2 : Hid (r = if (tkS 33 (bs.drop 4) []).2 ≠ 0 then (0, [], (tkS 33 (bs.drop 4) []).2) else (x1, (tkS 33 (bs.drop 4) []).1, 0)) := hG2
  obtain ⟨qb, qo, rfl, v1⟩ := hO.out.slf.2.2.2.2 1 (by simp)
  replace v1 : V2.cell? ⟨qb, qo + 1, none⟩ = some (.int .i64 x1) := v1
  clear hP8 hPl te hO hq
  have nA6 := alloc_new V2 (.cells #[.int .i64 x1, .slice none 0 0] 24)
  have q6 := nA6.2.2
  have hA6 := nA6.2.1
  obtain ⟨t6, ht6⟩ : ∃ q, V2.heap.size = q := ⟨_, rfl⟩
  rw [ht6] at q6
  have r4 := held_after hA6 r3
  have hB4 := hid (hB3.out.trans (hA6.mono sV2))
  have n6 : w.heap.size ≤ t6 := by omega
  have p06 : p0_0 ≠ t6 := by have := held_lt r3; omega
  clear nA6 hA6
  go_upto_region 7 with (fail)
  clear v1
  try rw [ht6]
  obtain ⟨W6, hW6e⟩ : ∃ W, V2.alloc (.cells #[.int .i64 x1, .slice none 0 0] 24) = W := ⟨_, rfl⟩
  rw [hW6e] at q6 r4 hB4 ⊢
  clear hW6e ht6 r3 hB3
  have s6 := hB4.out.size
  have v1 := hid q6
  go_wp2_with fail
  go_loopw [7] (fun s7 wr => ∃ (at_ : Nat) (acc : List (Int × Int)) (ma : Option Addr) (mc : Nat), at_ ≤ bl ∧ s7 = .int .i64 at_ ∧ wr.heap[t6]? = some (.cells #[.int .i64 x1, .slice ma acc.length mc] 24 (0, 0)) ∧ OwnE 43 wr w.heap.size 2 (.slice ma acc.length mc) acc.length (prsV acc).flatten ∧ wr.heap[p0_0]? = some (.cells #[.int .i64 0, .slice none 0 0] 24 (0, 0)) ∧ Hid (tkS 33 (bs.drop 4) [] = tkS (33 - acc.length) (bs.drop at_) acc) ∧ acc.length ≤ 32 ∧ Below w.heap.size w wr) (fun s7 _ => bl - (intOf s7).toNat)
  case atStart => exact ⟨4, [], none, 0, by omega, rfl, q6, OwnE.nil _ _ _ _, r4, hid rfl, by decide, hB4.out⟩
  case round =>
    clear v1 q6 r4 hB4
    obtain ⟨at_, acc, ma, mc, hat, rfl, q7, hO, r5, hd, h32, hB5⟩ := hrel
    have hlz : (bs.drop at_).length = bl - at_ := by rw [List.length_drop, hl0.out]
    obtain ⟨Z, hZ⟩ : ∃ Z, bs.drop at_ = Z := ⟨_, rfl⟩
    rw [hZ] at hd hlz
    have hzz := hid (show ∀ x ∈ Z, (Lit.int .u8 x).wf = true from fun x hx => hz.out x (by rw [← hZ] at hx; exact List.mem_of_mem_drop hx))
    obtain ⟨f, hf⟩ : ∃ f, 33 - acc.length = f + 1 := ⟨32 - acc.length, by omega⟩
    have hlf : f = 32 - acc.length := by omega
    rw [hf] at hd
    replace hlz := hid hlz
    replace hZ := hid hZ
    replace hO := hid hO
    have sB := hB5.size
    replace hB5 := hid hB5
    have z0 := held_cell q7 0 _ rfl
    have z1 := held_cell q7 1 _ rfl
    have kz : (0 : Int) ≤ at_ := by omega
    by_cases c0 : (at_ : Int) < bl
    case neg =>
      have eT := hd.out.trans (tkS_0 (by have := hlz.out; omega))
      have e := hid (hG2.out.trans (if_neg (by rw [eT]; simp)))
      rw [eT] at e
      have r6 := r5
      have y0 := held_cell r6 0 _ rfl
      have y1 := held_cell r6 1 _ rfl
      have f0 := held_free r6 0
      have f1 := held_free r6 1
      obtain ⟨W4, hW4, ya, yO⟩ := st2 r6 (.int .i64 x1) (.slice ma acc.length mc)
      have ez0 := held_cell ya 0 _ rfl
      have ez1 := held_cell ya 1 _ rfl
      have hB4 := hid (belowS hB5.out yO np0)
      have hO4 := hid ((hO.out.kept (w' := W4) (fun g hg => yO.block g (fun e2 => by subst e2; exact (hO.out.ne r6 (by decide)) hg))).els (by simp [prsV]) (prsV_m acc))
      clear yO ya hd eT
      go_wp2_with fail
      try rw [Exit.noGoto_ret]
      refine bodyPost_ret (v := .tuple #[.agg #[.int .i64 x1, .slice ma acc.length mc], .int .i64 0]) (by simp [results, Try.results17, go_sem, ez0, ez1]) rfl ?_
      rw [e.out]
      exact ⟨ma, mc, rfl, hO4.out, hB4.out⟩
    have c0n : Z.length ≠ 0 := by have := hlz.out; omega
    by_cases c32 : acc.length = 32
    case pos =>
      have eT := hd.out.trans (tkS_32 c0n c32)
      have e := hid (hG2.out.trans (if_pos (by rw [eT]; simp)))
      rw [eT] at e
      have r6 := r5
      have c32i : (32 : Int) ≤ acc.length := by omega
      have y0 := held_cell r6 0 _ rfl
      have y1 := held_cell r6 1 _ rfl
      have f0 := held_free r6 0
      have f1 := held_free r6 1
      obtain ⟨W4, hW4, ya, yO⟩ := st2 r6 (.int .i64 0) (.slice none 0 0)
      have ez0 := held_cell ya 0 _ rfl
      have ez1 := held_cell ya 1 _ rfl
      have hB4 := hid (belowS hB5.out yO np0)
      clear yO ya
      clear hd eT c32
      go_wp2_with fail
      try rw [Exit.noGoto_ret]
      refine bodyPost_ret (v := .tuple #[.agg #[.int .i64 0, .slice none 0 0], .int .i64 7]) (by simp [results, Try.results17, go_sem, ez0, ez1]) rfl ?_
      rw [e.out]
      exact VtOk.no hB4.out
    have c32i : ¬ (32 : Int) ≤ acc.length := by omega
    have hno := fun h => hd.out.trans (tkS_no c0n c32 h)
    have hon := fun h => hd.out.trans (tkS_on c0n c32 h)
    have hps : pairS Z = if Z.length < 4 then ((0, 0), 2) else if kindS (keyS Z) = 0 then ((0, 0), 6) else if Z.length < pairN Z then ((0, 0), 2) else if moT (kindS (keyS Z)) < valS Z then ((0, 0), 5) else ((keyS Z, valS Z), 0) := rfl
    clear hd
    obtain ⟨q, hq9⟩ : ∃ q, pairS Z = q := ⟨_, rfl⟩
    rw [hq9] at hno hon hps
    clear hq9
    have hk := keyS_bd hzz.out
    have hvb := valS_bd hzz.out
    have wa4 : IntKind.i64.wrap ((at_ : Int) + 4) = (at_ : Int) + 4 := by rw [IntKind.wrap_i64]; omega
    by_cases c4a : (bl : Int) < (at_ : Int) + 4
    case pos =>
      have hq2 : q = ((0, 0), 2) := by rw [hps, if_pos (by have := hlz.out; omega)]
      subst hq2
      have eT := hno (by decide)
      have e := hid (hG2.out.trans (if_pos (by rw [eT]; decide)))
      rw [eT] at e
      have y0 := held_cell r5 0 _ rfl
      have y1 := held_cell r5 1 _ rfl
      have f0 := held_free r5 0
      have f1 := held_free r5 1
      obtain ⟨W4, hW4, ya, yO⟩ := st2 r5 (.int .i64 0) (.slice none 0 0)
      have ez0 := held_cell ya 0 _ rfl
      have ez1 := held_cell ya 1 _ rfl
      have hB4 := hid (belowS hB5.out yO np0)
      clear yO ya
      clear eT hno hon hps
      go_wp2_with fail
      try rw [Exit.noGoto_ret]
      refine bodyPost_ret (v := .tuple #[.agg #[.int .i64 0, .slice none 0 0], .int .i64 2]) (by simp [results, Try.results17, go_sem, ez0, ez1]) rfl ?_
      rw [e.out]
      exact VtOk.no hB4.out
    have c4z : ¬ Z.length < 4 := by have := hlz.out; omega
    rw [if_neg c4z] at hps
    have hkr : numR (Z.take 4) = numB (Z.take 4) 4 := by rw [numR_all]; congr 1; rw [List.length_take]; omega
    have kn := hid (fun W (h : Sl .u8 W (some ⟨b, off + at_, none⟩) 4 (bc - at_) (Z.take 4)) => rnumber_any (some ⟨b, off + at_, none⟩) 4 (bc - at_) (Z.take 4) W h (fun x hx => bytes_bd hzz.out x (List.mem_of_mem_take hx)) (by omega))
    rw [hkr, show ((numB (Z.take 4) 4 : Nat) : Int) = keyS Z from rfl] at kn
    have hSn := hid (fun (W : World) (hW : Below w.heap.size w W) => (show Sl .u8 W (some ⟨b, off + at_, none⟩) (bl - at_) (bc - at_) Z from by have h := (hS0.out.drop at_ hat).below hW; rw [hZ.out] at h; simpa [add_at] using h))
    have n1 : (at_ : Int) ≤ (at_ : Int) + 4 := by omega
    have n2 : (at_ : Int) + 4 ≤ bc := by omega
    have n3 : ((at_ : Int) + 4).toNat = at_ + 4 := by omega
    have n4 : ¬ bc = at_ := by omega
    have n5 : (0 : Int) ≤ (at_ : Int) + 4 := by omega
    have kf := hid (fun W : World => vrsize_any (keyS Z) W (by omega) (by omega))
    have km := hid (fun W : World => vrmost_any (keyS Z) W (by omega) (by omega))
    have hN : pairN Z = 4 + (szT (kindS (keyS Z))).toNat := rfl
    have hV : valS Z = (numB ((Z.drop 4).take (szT (kindS (keyS Z))).toNat) (szT (kindS (keyS Z))).toNat : Nat) := rfl
    have wk : IntKind.i64.wrap (keyS Z) = keyS Z := by rw [IntKind.wrap_i64]; omega
    obtain ⟨key, hkey⟩ : ∃ k, keyS Z = k := ⟨_, rfl⟩
    rw [hkey] at kn kf km hN hV hps wk hk
    have hk5 := kindS_le key
    obtain ⟨d, hdd⟩ : ∃ d, kindS key = d := ⟨_, rfl⟩
    rw [hdd] at kf km hN hV hps hk5
    have hsm := fun h => sz_mo (d := d) h hk5
    obtain ⟨ok, hok⟩ : ∃ b, decide (d ≠ 0) = b := ⟨_, rfl⟩
    rw [hok] at kf
    obtain ⟨s, hs⟩ : ∃ s, szT d = s := ⟨_, rfl⟩
    obtain ⟨m, hm⟩ : ∃ m, moT d = m := ⟨_, rfl⟩
    rw [hs] at kf hsm hN hV
    rw [hm] at km hsm hps
    obtain ⟨val, hval⟩ : ∃ v, valS Z = v := ⟨_, rfl⟩
    rw [hval] at hV hps hvb
    obtain ⟨n, hn⟩ : ∃ n, pairN Z = n := ⟨_, rfl⟩
    rw [hn] at hN hps hon
    clear hs hm hdd hkey hval hn hkr
    replace hps := hid hps
    replace hV := hid hV
    replace hsm := hid hsm
    replace hno := hid hno
    replace hon := hid hon
    replace r5 := hid r5
    go_wp2_with fail
    refine (kn.out _ ((hSn.out _ hB5.out).take 4 (by have := hlz.out; omega))).mono ?_
    rintro e9 V ⟨rfl, hv⟩
    obtain rfl : wr = V := hv.symm
    clear hv
    go_wp2_with fail
    refine (kf.out _).mono ?_
    rintro e9 V4 ⟨rfl, hA⟩
    have q8 := held_after hA q7
    have r6 := held_after hA r5.out
    have hO6 := hid (hO.out.below hA)
    have hB6 := hid (hB5.out.trans (hA.mono sB))
    have sB6 := hB6.out.size
    clear hA q7 r5 hO hB5 z0 z1
    have z0 := held_cell q8 0 _ rfl
    have z1 := held_cell q8 1 _ rfl
    by_cases hd0 : d = 0
    case pos =>
      obtain rfl : ok = false := by rw [← hok]; simp [hd0]
      have hq2 : q = ((0, 0), 6) := hps.out.trans (if_pos hd0)
      subst hq2
      have eT := hno.out (by decide)
      have e := hid (hG2.out.trans (if_pos (by rw [eT]; decide)))
      rw [eT] at e
      have y0 := held_cell r6 0 _ rfl
      have y1 := held_cell r6 1 _ rfl
      have f0 := held_free r6 0
      have f1 := held_free r6 1
      obtain ⟨W4, hW4, ya, yO⟩ := st2 r6 (.int .i64 0) (.slice none 0 0)
      have ez0 := held_cell ya 0 _ rfl
      have ez1 := held_cell ya 1 _ rfl
      have hB4 := hid (belowS hB6.out yO np0)
      clear yO ya
      clear eT hno hon hps hok hd0
      go_wp2_with fail
      try rw [Exit.noGoto_ret]
      refine bodyPost_ret (v := .tuple #[.agg #[.int .i64 0, .slice none 0 0], .int .i64 6]) (by simp [results, Try.results17, go_sem, ez0, ez1]) rfl ?_
      rw [e.out]
      exact VtOk.no hB4.out
    obtain rfl : ok = true := by rw [← hok]; simp [hd0]
    clear hok
    replace hps := hid (hps.out.trans (if_neg hd0))
    obtain ⟨s1, s2, m1, m2, m3⟩ := hsm.out hd0
    obtain ⟨sn, rfl⟩ := Int.eq_ofNat_of_zero_le (show 0 ≤ s by omega)
    rw [Int.toNat_natCast] at hN hV
    clear hsm m2
    have wa5 : IntKind.i64.wrap ((at_ : Int) + 4 + sn) = (at_ : Int) + 4 + sn := by rw [IntKind.wrap_i64]; omega
    by_cases c5 : (bl : Int) < (at_ : Int) + 4 + sn
    case pos =>
      have hq2 : q = ((0, 0), 2) := hps.out.trans (if_pos (by have := hlz.out; omega))
      subst hq2
      have eT := hno.out (by decide)
      have e := hid (hG2.out.trans (if_pos (by rw [eT]; decide)))
      rw [eT] at e
      have y0 := held_cell r6 0 _ rfl
      have y1 := held_cell r6 1 _ rfl
      have f0 := held_free r6 0
      have f1 := held_free r6 1
      obtain ⟨W4, hW4, ya, yO⟩ := st2 r6 (.int .i64 0) (.slice none 0 0)
      have ez0 := held_cell ya 0 _ rfl
      have ez1 := held_cell ya 1 _ rfl
      have hB4 := hid (belowS hB6.out yO np0)
      clear yO ya
      clear eT hno hon hps hd0
      go_wp2_with fail
      try rw [Exit.noGoto_ret]
      refine bodyPost_ret (v := .tuple #[.agg #[.int .i64 0, .slice none 0 0], .int .i64 2]) (by simp [results, Try.results17, go_sem, ez0, ez1]) rfl ?_
      rw [e.out]
      exact VtOk.no hB4.out
    replace hps := hid (hps.out.trans (if_neg (by have := hlz.out; omega)))
    have hkr2 : numR ((Z.drop 4).take sn) = numB ((Z.drop 4).take sn) sn := by rw [numR_all]; congr 1; rw [List.length_take, List.length_drop]; have := hlz.out; omega
    have kn2 := hid (fun W (h : Sl .u8 W (some ⟨b, off + (at_ + 4), none⟩) sn (bc - (at_ + 4)) ((Z.drop 4).take sn)) => rnumber_any (some ⟨b, off + (at_ + 4), none⟩) sn (bc - (at_ + 4)) ((Z.drop 4).take sn) W h (fun x hx => bytes_bd hzz.out x (List.mem_of_mem_drop (List.mem_of_mem_take hx))) (by omega))
    rw [hkr2, ← hV.out] at kn2
    have hSm := hid (fun (W : World) (hW : Below w.heap.size w W) => (show Sl .u8 W (some ⟨b, off + (at_ + 4), none⟩) sn (bc - (at_ + 4)) ((Z.drop 4).take sn) from by have h := ((hS0.out.drop (at_ + 4) (by omega)).take sn (by omega)).below hW; rw [← List.drop_drop, hZ.out] at h; simpa [add_at] using h))
    have o1 : (at_ : Int) + 4 ≤ (at_ : Int) + 4 + sn := by omega
    have o2 : (at_ : Int) + 4 + sn ≤ bc := by omega
    have o3 : ((at_ : Int) + 4 + sn).toNat = at_ + 4 + sn := by omega
    have o4 : ¬ bc = at_ + 4 := by omega
    have o5 : at_ + 4 + sn - (at_ + 4) = sn := by omega
    have wm : IntKind.u64.wrap m = m := by rw [IntKind.wrap_u64]; omega
    clear hkr2 hV kn hSn
    replace r6 := hid r6
    go_wp2_with fail
    refine (kn2.out _ (hSm.out _ hB6.out)).mono ?_
    rintro e9 V ⟨rfl, hv⟩
    obtain rfl : V4 = V := hv.symm
    clear hv
    go_wp2_with fail
    refine (km.out _).mono ?_
    rintro e9 V5 ⟨rfl, hA⟩
    have q9 := held_after hA q8
    have r7 := held_after hA r6.out
    have hO7 := hid (hO6.out.below hA)
    have hB7 := hid (hB6.out.trans (hA.mono sB6))
    clear hA q8 r6 hO6 hB6 z0 z1
    have z0 := held_cell q9 0 _ rfl
    have z1 := held_cell q9 1 _ rfl
    by_cases c7 : m < val
    case pos =>
      have hq2 : q = ((0, 0), 5) := hps.out.trans (if_pos c7)
      subst hq2
      have eT := hno.out (by decide)
      have e := hid (hG2.out.trans (if_pos (by rw [eT]; decide)))
      rw [eT] at e
      have y0 := held_cell r7 0 _ rfl
      have y1 := held_cell r7 1 _ rfl
      have f0 := held_free r7 0
      have f1 := held_free r7 1
      obtain ⟨W4, hW4, ya, yO⟩ := st2 r7 (.int .i64 0) (.slice none 0 0)
      have ez0 := held_cell ya 0 _ rfl
      have ez1 := held_cell ya 1 _ rfl
      have hB4 := hid (belowS hB7.out yO np0)
      clear yO ya
      clear eT hno hon hps hd0
      go_wp2_with fail
      try rw [Exit.noGoto_ret]
      refine bodyPost_ret (v := .tuple #[.agg #[.int .i64 0, .slice none 0 0], .int .i64 5]) (by simp [results, Try.results17, go_sem, ez0, ez1]) rfl ?_
      rw [e.out]
      exact VtOk.no hB4.out
    have hq2 : q = ((key, val), 0) := hps.out.trans (if_neg c7)
    subst hq2
    have hd2 := hon.out rfl
    clear hno hon hps
    have wv : IntKind.i64.wrap val = val := by rw [IntKind.wrap_i64]; omega
    have hAe := (alloc_new V5 (.cells #[.int .i64 key, .int .i64 val] 43)).2.1
    have hEe := hid (els_one V5 #[.int .i64 key, .int .i64 val] 43 2 rfl)
    have hO8 := hid (hO7.out.below hAe)
    have q11 := held_after hAe q9
    have r8 := held_after hAe r7
    have hB8 := hid (hB7.out.trans (hAe.mono hB7.out.size))
    have sb8 := hB8.out.size
    clear hAe hO7 r7 hB7
    go_wp2_with (first | (at_builtin; refine wpList_appE rfl (.tmp 85) (.tmp 90) 22 rfl w.heap.size 43 2 16 pairO (by decide) (.slice ma acc.length mc) acc.length (prsV acc).flatten rfl hO8.out (some ⟨_, 0, none⟩) 1 1 [prV (key, val)] rfl hEe.out (prsV_1 [(key, val)]) (by unfold maxLen; omega) (by omega) sb8 ?_))
    intro a9 c9 W9 hO9 hG9 hN9
    have q12 := (hG9.block t6 (held_lt q11) (fun e2 => hO8.out.ne q11 (by decide) e2.symm)).trans q11
    have r9 := (hG9.block p0_0 (held_lt r8) (fun e2 => hO8.out.ne r8 (by decide) e2.symm)).trans r8
    have hB9 := hB8.out.grown hG9 sb8 (fun k2 e2 => (hO8.out.lt k2 e2).1)
    have z3 := held_cell q12 1 _ rfl
    have f3 := held_free q12 1
    obtain ⟨S1, hS1, s1h, o9⟩ := st1 q12 1 (.slice a9 (acc.length + 1) c9)
    have hfin := hid (show OwnE 43 S1 w.heap.size 2 (.slice a9 (acc ++ [(key, val)]).length c9) (acc ++ [(key, val)]).length (prsV (acc ++ [(key, val)])).flatten from by rw [List.length_append, show prsV (acc ++ [(key, val)]) = prsV acc ++ [prV (key, val)] from by simp [prsV], List.flatten_append]; exact hO9.kept (fun g hg => o9.block g (fun e2 => by subst e2; exact (hO9.ne q12 (by decide)) hg)))
    have r10 := hid ((o9.block p0_0 p06).trans r9)
    have hBf := hid (belowS hB9 o9 n6)
    have s2h := hid (show S1.heap[t6]? = some (.cells #[.int .i64 x1, .slice a9 (acc ++ [(key, val)]).length c9] 24 (0, 0)) from by rw [List.length_append]; exact s1h)
    clear hO9 hG9 hN9 q12 r9 hB9 o9 s1h q11 r8 hB8 hO8 hEe q9
    have hd3 := hid (show tkS 33 (bs.drop 4) [] = tkS (33 - (acc ++ [(key, val)]).length) (bs.drop (at_ + 4 + sn)) (acc ++ [(key, val)]) from by rw [hd2, List.length_append, ← hZ.out, List.drop_drop, hN, ← Nat.add_assoc]; congr 1; simp; omega)
    have hat2 := hid (show at_ + 4 + sn ≤ bl by omega)
    clear hd2
    go_wp2_with fail
    go_roundw
    case rel => exact ⟨at_ + 4 + sn, acc ++ [(key, val)], a9, c9, hat2.out, by simp, s2h.out, hfin.out, r10.out, hd3, by rw [List.length_append]; simp; omega, hBf.out⟩
    case measure => simp [intOf]; omega

end Go.Proofs.Ytdgmmndklmomkaa
