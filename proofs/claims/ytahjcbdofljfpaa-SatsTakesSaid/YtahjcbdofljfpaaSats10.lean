/- Package sats: the papers' Take. -/
import Derived.Test.YtahjcbdofljfpaaSats9
import Derived.Deep.DeepCutAuto
namespace Go.Proofs.Ytahjcbdofljfpaa
open Go.ChangeShapes Go.WideShapes Go.ChangeAt Go.RowKit
set_option linter.unusedVariables false
set_option linter.unusedSimpArgs false

theorem els_blk {w : World} {cs : Array Value} {E : TypeId} {p m : Nat} (h : w.heap[p]? = some (.cells cs E (0, 0))) (hm : cs.size = m) : Els w m (some ⟨p, 0, none⟩) 1 1 [cs.toList] := by
  refine ⟨rfl, Nat.le_refl _, by unfold maxLen; omega, (fun e => by cases e), fun i x hx => ?_⟩
  obtain rfl : i = 0 := by
    have := (List.getElem?_eq_some_iff.1 hx).1
    simp at this; exact this
  simp at hx
  subst hx
  refine ⟨by simpa using hm, _, 0, rfl, fun j v hj => ?_⟩
  rw [Nat.zero_mul, Nat.add_zero, Nat.zero_add]
  exact held_cell h _ v (by simpa using hj)
set_option maxRecDepth 100000 in
set_option maxHeartbeats 8000000 in
theorem rtakeS_any (ba : Option Addr) (bl bc : Nat) (bs : List Int) (w : World) (hS : Sl .u8 w ba bl bc bs) (hz : ∀ x ∈ bs, (Lit.int .u8 x).wf = true) (hbl : bl ≤ 10000) : Calls Try.prog 13 #[.slice ba bl bc] w (StOk w (takSS bs)) := by
  obtain ⟨r, hr⟩ : ∃ r, takSS bs = r := ⟨_, rfl⟩
  rw [hr]
  have hl0 := hid hS.1
  have hcc := hS.2.1
  have hcm : bc ≤ 9223372036854775807 := Nat.le_trans hS.2.2.1 (by decide)
  have hS0 := hid hS
  clear hS
  replace hz := hid hz
  go_enter Try.func13, Try.ntmps13
  go_upto_region 0 with (fail)
  apply wp_region_seg0 (w := w) (S := [.al 1000, .q []]) (E := [.al ((fun p => .pointer (some ⟨p, 0, none⟩)), _) 1000, .q0 _]) rfl (by kernel_rfl) rfl rfl
  intro th hge hne
  refine Seg.step _ rfl ⟨by rfl, fun U hU => ?_⟩ ?_
  · go_simp; exact vp_alloc rfl rfl rfl
  refine ⟨_, by (simp only [Ent.val]; go_simp <;> exact rfl), ?_⟩
  refine Seg.step _ rfl (Or.inl ⟨by rfl, fun U hU => vp_quiet (by (go_simp <;> exact rfl))⟩) ⟨_, by (simp only [Ent.val]; go_simp <;> exact rfl), ?_⟩
  refine Seg.stop (fun U1 hU hk => ?_)
  have nb0 := hge 0 _ _ rfl
  have rb0 := (hk 0 _ _ rfl trivial).1.2 (by simp)
  clear hk hge hne
  generalize th (0 + 0) = p0_0 at *
  dsimp only at rb0
  have r_p0_0 := rb0
  clear rb0
  have n_p0_0 := nb0
  clear nb0
  have sz1 := hU.size
  have hB : Below w.heap.size w U1 := hU
  clear hU
  have n0 := n_p0_0
  have hBs := hB.size
  replace hB := hid hB
  replace r_p0_0 := hid r_p0_0
  by_cases c8 : (bl : Int) < 8
  case pos =>
    have e := hid (show r = (0, [], 2) by rw [← hr]; unfold takSS; rw [if_pos (by have := hl0.out; omega)])
    clear hr
    have r0 := r_p0_0.out
    have y0 := held_cell r0 0 _ rfl
    have y1 := held_cell r0 1 _ rfl
    have f0 := held_free r0 0
    have f1 := held_free r0 1
    obtain ⟨W4, hW4, ya, yO⟩ := st2 r0 (.int .i64 0) (.slice none 0 0)
    have ez0 := held_cell ya 0 _ rfl
    have ez1 := held_cell ya 1 _ rfl
    have hB4 := hid (belowS hB.out yO n0)
    clear ya yO
    go_wp2_with fail
    try rw [Exit.noGoto_ret]
    refine bodyPost_ret (v := .tuple #[.agg #[.int .i64 0, .slice none 0 0], .int .i64 2]) (by simp [results, Try.results13, go_sem, ez0, ez1]) rfl ?_
    rw [e.out]
    exact StOk.no hB4.out
  have c8n : ¬ bs.length < 8 := by have := hl0.out; omega
  obtain ⟨⟨P, he⟩, hq⟩ : ∃ q, takL HD17 (bs.take 8) = q := ⟨_, rfl⟩
  have hG : r = if he ≠ 0 then (0, [], he) else if bs.length < 8 + 12 * (P.getD 2 0).toNat then (0, [], 2) else if 8 + 12 * (P.getD 2 0).toNat < bs.length then (0, [], 7) else if errJ (tpc (P.getD 2 0).toNat (bs.drop 8)) = 0 then (P.getD 0 0, (tpc (P.getD 2 0).toNat (bs.drop 8)).map Prod.fst, 0) else (0, [], errJ (tpc (P.getD 2 0).toNat (bs.drop 8))) := by rw [← hr]; unfold takSS nS17; rw [if_neg c8n, hq]
  have te := takF_e (fN HD17) (fS HD17) (fL HD17) (fH HD17) HD17.length (bs.take 8)
  change 0 ≤ (takL HD17 (bs.take 8)).2 ∧ (takL HD17 (bs.take 8)).2 ≤ 9 at te
  rw [hq] at te
  dsimp only at te
  have hH := hid (fun h : he = 0 => head17 (h ▸ hq))
  replace hG := hid hG
  replace hq := hid hq
  clear hr
  obtain ⟨b, off, rfl⟩ : ∃ b off, ba = some ⟨b, off, none⟩ := by obtain ⟨b, off, e, _⟩ := hS0.out.2.2.2.2 0 (by have := hl0.out; omega); exact ⟨b, off, e⟩
  have hS8 := hid ((hS0.out.take 8 (by omega)))
  have hb8c : (8 : Int) ≤ bc := by omega
  have hb8l : (8 : Int) ≤ bl := by omega
  go_upto_region 3 with (fail)
  have r0 := (show U1.drew.heap[p0_0]? = _ from r_p0_0.out)
  have hB1 := hid hB.out.drew
  clear hB r_p0_0
  refine wp_region_R (by kernel_rfl) ?_
  refine wpAnyR_take 1 rfl (by kernel_rfl) (by kernel_rfl) (by kernel_rfl) (fun _ _ _ _ h => h) ⟨_, Or.inl ⟨by rfl, fun w2 hb2 => by (go_simp; try with_reducible rfl)⟩, _, by (go_simp; try rfl), ?_⟩
  refine wpAnyR_take 2 rfl (by kernel_rfl) (by kernel_rfl) (by kernel_rfl) (fun _ _ _ _ h => h) ⟨_, Or.inl ⟨by rfl, fun w2 hb2 => by (go_simp; try with_reducible rfl)⟩, _, by (go_simp; try rfl), ?_⟩
  refine wpAnyR_only 0 rfl (by kernel_rfl) (by rfl) (fun K hK => ?_)
  go_simp
  refine (rfieldsH17 _).mono ?_
  rintro e V1 ⟨fa, fc, rfl, hF, hA⟩
  go_simp
  refine hK _ _ ⟨hA, ?_⟩
  clear hK
  replace r0 := held_after hA r0
  have hB2 := hid (hB1.out.trans (hA.mono (show w.heap.size ≤ U1.drew.heap.size from hBs)))
  have sV1 := hB2.out.size
  replace hF := hid hF
  clear hA hB1
  refine wpAnyR_only 3 rfl (by kernel_rfl) (by rfl) (fun K hK => ?_)
  go_simp
  refine (rstake_any fa 4 fc (fN HD17) (fS HD17) (fL HD17) (fH HD17) (some ⟨b, off, none⟩) 8 bc (bs.take 8) _ hF.out (hS8.out.below hB2.out) (fun x hx => hz.out x (List.mem_of_mem_take hx)) (by omega) (by omega)).mono ?_
  rintro e V2 ⟨ra, rc, rfl, hO, hA⟩
  have e1 : (takF (fN HD17) (fS HD17) (fL HD17) (fH HD17) 4 (bs.take 8)) = (P, he) := hq.out
  rw [e1]
  rw [e1] at hO
  dsimp only at hO ⊢
  clear e1
  go_simp
  refine hK _ _ ⟨hA, ?_⟩
  clear hK
  replace r0 := held_after hA r0
  have hB3 := hid (hB2.out.trans (hA.mono sV1))
  replace hO := hid hO
  clear hA hB2 hF
  refine wpAnyR_take 4 rfl (by kernel_rfl) (by kernel_rfl) (by kernel_rfl) (fun _ _ _ _ h => h) ⟨_, Or.inl ⟨by rfl, fun w2 hb2 => by (go_simp; try with_reducible rfl)⟩, _, by (go_simp; try rfl), ?_⟩
  refine wpAnyR_take 5 rfl (by kernel_rfl) (by kernel_rfl) (by kernel_rfl) (fun _ _ _ _ h => h) ⟨_, Or.inl ⟨by rfl, fun w2 hb2 => by (go_simp; try with_reducible rfl)⟩, _, by (go_simp; try rfl), ?_⟩
  refine wpAnyR_take 6 rfl (by kernel_rfl) (by kernel_rfl) (by kernel_rfl) (fun _ _ _ _ h => h) ⟨_, Or.inl ⟨by rfl, fun w2 hb2 => by (go_simp; try with_reducible rfl)⟩, _, by (go_simp; try rfl), ?_⟩
  refine wpAnyR_take 7 rfl (by kernel_rfl) (by kernel_rfl) (by kernel_rfl) (fun _ _ _ _ h => h) ⟨_, Or.inl ⟨by rfl, fun w2 hb2 => by (go_simp; try with_reducible rfl)⟩, _, by (go_simp; try rfl), ?_⟩
  refine wpAnyR_take 8 rfl (by kernel_rfl) (by kernel_rfl) (by kernel_rfl) (fun _ _ _ _ h => h) ⟨_, Or.inl ⟨by rfl, fun w2 hb2 => by (go_simp; try with_reducible rfl)⟩, _, by (go_simp; try rfl), ?_⟩
  refine wpAnyR_done (by kernel_rfl) ?_ _
  have sV2 := hB3.out.size
  by_cases hen : he = 0
  case neg =>
    have e := hid (hG.out.trans (if_pos hen))
    have hnz : (he != 0) = true := by simp [hen]
    have y0 := held_cell r0 0 _ rfl
    have y1 := held_cell r0 1 _ rfl
    have f0 := held_free r0 0
    have f1 := held_free r0 1
    obtain ⟨W4, hW4, ya, yO⟩ := st2 r0 (.int .i64 0) (.slice none 0 0)
    have ez0 := held_cell ya 0 _ rfl
    have ez1 := held_cell ya 1 _ rfl
    have hB4 := hid (belowS hB3.out yO n0)
    clear ya yO
    go_wp2_with fail
    try rw [Exit.noGoto_ret]
    refine bodyPost_ret (v := .tuple #[.agg #[.int .i64 0, .slice none 0 0], .int .i64 he]) (by simp [results, Try.results13, go_sem, ez0, ez1]) rfl ?_
    rw [e.out]
    exact StOk.no hB4.out
  have hG2 := hG.out.trans (if_neg (by simp [hen]))
  obtain ⟨tow, nn, hPe, hbt, hn0, hn64, -⟩ := hH.out hen
  subst hen hPe
  obtain ⟨N, rfl⟩ : ∃ N : Nat, nn = N := ⟨nn.toNat, by omega⟩
  replace hG2 : Hid (r = if bs.length < 8 + 12 * N then (0, [], 2) else if 8 + 12 * N < bs.length then (0, [], 7) else if errJ (tpc N (bs.drop 8)) = 0 then (tow, (tpc N (bs.drop 8)).map Prod.fst, 0) else (0, [], errJ (tpc N (bs.drop 8)))) := hG2
  rw [hl0.out] at hG2
  obtain ⟨qb, qo, rfl, v0⟩ := hO.out.slf.2.2.2.2 0 (by simp)
  have v2 : V2.cell? ⟨qb, qo + 2, none⟩ = some (.int .i64 N) := by obtain ⟨b9, o9, e9, v9⟩ := hO.out.slf.2.2.2.2 2 (by simp); cases e9; exact v9
  replace v0 : V2.cell? ⟨qb, qo + 0, none⟩ = some (.int .i64 tow) := v0
  rw [Nat.add_zero] at v0
  clear hG hH te hO hq
  have w12 : IntKind.i64.wrap (12 * (N : Int)) = 12 * (N : Int) := by rw [IntKind.wrap_i64]; omega
  have w20 : IntKind.i64.wrap (8 + 12 * (N : Int)) = 8 + 12 * (N : Int) := by rw [IntKind.wrap_i64]; omega
  have hN64 : N ≤ 64 := by omega
  by_cases c5 : (bl : Int) < 8 + 12 * (N : Int)
  case pos =>
    have e := hid (hG2.out.trans (if_pos (by omega)))
    have y0 := held_cell r0 0 _ rfl
    have y1 := held_cell r0 1 _ rfl
    have f0 := held_free r0 0
    have f1 := held_free r0 1
    obtain ⟨W4, hW4, ya, yO⟩ := st2 r0 (.int .i64 0) (.slice none 0 0)
    have ez0 := held_cell ya 0 _ rfl
    have ez1 := held_cell ya 1 _ rfl
    have hB4 := hid (belowS hB3.out yO n0)
    clear ya yO
    go_wp2_with fail
    try rw [Exit.noGoto_ret]
    refine bodyPost_ret (v := .tuple #[.agg #[.int .i64 0, .slice none 0 0], .int .i64 2]) (by simp [results, Try.results13, go_sem, ez0, ez1]) rfl ?_
    rw [e.out]
    exact StOk.no hB4.out
  by_cases c6 : 8 + 12 * (N : Int) < bl
  case pos =>
    have e := hid ((hG2.out.trans (if_neg (by omega))).trans (if_pos (by omega)))
    have y0 := held_cell r0 0 _ rfl
    have y1 := held_cell r0 1 _ rfl
    have f0 := held_free r0 0
    have f1 := held_free r0 1
    obtain ⟨W4, hW4, ya, yO⟩ := st2 r0 (.int .i64 0) (.slice none 0 0)
    have ez0 := held_cell ya 0 _ rfl
    have ez1 := held_cell ya 1 _ rfl
    have hB4 := hid (belowS hB3.out yO n0)
    clear ya yO
    go_wp2_with fail
    try rw [Exit.noGoto_ret]
    refine bodyPost_ret (v := .tuple #[.agg #[.int .i64 0, .slice none 0 0], .int .i64 7]) (by simp [results, Try.results13, go_sem, ez0, ez1]) rfl ?_
    rw [e.out]
    exact StOk.no hB4.out
  have hG4 := hid ((hG2.out.trans (if_neg (by omega))).trans (if_neg (by omega)))
  have hbN := hid (show bl = 8 + 12 * N by omega)
  clear hG2
  have nA6 := alloc_new V2 (.cells #[.int .i64 tow, .slice none 0 0] 24)
  have q6 := nA6.2.2
  have hA6 := nA6.2.1
  obtain ⟨t6, ht6⟩ : ∃ q, V2.heap.size = q := ⟨_, rfl⟩
  rw [ht6] at q6
  have r4 := held_after hA6 r0
  have hB4 := hid (hB3.out.trans (hA6.mono sV2))
  have n6 : w.heap.size ≤ t6 := by omega
  have d06 : p0_0 ≠ t6 := by have := held_lt r0; omega
  clear nA6 hA6
  go_upto_region 12 with (fail)
  clear v0 v2
  try rw [ht6]
  obtain ⟨W6, hW6e⟩ : ∃ W, V2.alloc (.cells #[.int .i64 tow, .slice none 0 0] 24) = W := ⟨_, rfl⟩
  rw [hW6e] at q6 r4 hB4 ⊢
  clear hW6e ht6 r0 hB3
  go_wp2_with fail
  go_loopw [8] (fun ix wr => ∃ (k : Nat) (pre : List El8) (ma : Option Addr) (mc : Nat), ix = .int .i64 k ∧ k ≤ N ∧ Hid (pre.length = k) ∧ wr.heap[t6]? = some (.cells #[.int .i64 tow, .slice ma pre.length mc] 24 (0, 0)) ∧ OwnE 49 wr w.heap.size 7 (.slice ma pre.length mc) pre.length (satsV (pre.map Prod.fst)).flatten ∧ Hid (pre = (tpc N (bs.drop 8)).take k) ∧ errJ pre = 0 ∧ (∀ x ∈ pre, x.1.length = 7) ∧ wr.heap[p0_0]? = some (.cells #[.int .i64 0, .slice none 0 0] 24 (0, 0)) ∧ Below w.heap.size w wr) (fun ix _ => N - (intOf ix).toNat)
  case atStart => exact ⟨0, [], none, 0, rfl, by omega, hid rfl, q6, OwnE.nil _ _ _ _, hid (by simp), rfl, (fun x hx => by cases hx), r4, hB4.out⟩
  case round =>
    clear q6 r4 hB4
    obtain ⟨k, pre, ma, mc, rfl, hk, hpn, q6, hO, hm, hej, h7, r0, hB⟩ := hrel
    have sB := hB.size
    by_cases hlt : (k : Int) < N
    case neg =>
      obtain rfl : k = N := by omega
      have hx : pre = tpc k (bs.drop 8) := by rw [hm.out, List.take_of_length_le (by rw [tpc_len]; omega)]
      have q := hid (show r = (tow, pre.map Prod.fst, 0) by rw [hG4.out, ← hx, if_pos hej])
      have h7m := hid (show ∀ x ∈ pre.map Prod.fst, x.length = 7 from fun x hx => by obtain ⟨y, hy, rfl⟩ := List.mem_map.1 hx; exact h7 y hy)
      clear hx hej h7 hm hk
      have m0 := held_cell q6 0 _ rfl
      have m1 := held_cell q6 1 _ rfl
      have y0 := held_cell r0 0 _ rfl
      have y1 := held_cell r0 1 _ rfl
      have f0 := held_free r0 0
      have f1 := held_free r0 1
      obtain ⟨W4, hW4, ya, yO⟩ := st2 r0 (.int .i64 tow) (.slice ma pre.length mc)
      have ez0 := held_cell ya 0 _ rfl
      have ez1 := held_cell ya 1 _ rfl
      have hB4 := hid (belowS hB yO n0)
      have hO9 := hid ((hO.kept (w' := W4) (fun g hg => yO.block g (fun e2 => by subst e2; exact (hO.ne r0 (by decide)) hg))).els (by simp [satsV]) (satsV_m h7m.out))
      clear yO ya hO hB
      go_wp2_with fail
      try rw [Exit.noGoto_ret]
      refine bodyPost_ret (v := .tuple #[.agg #[.int .i64 tow, .slice ma pre.length mc], .int .i64 0]) (by simp [results, Try.results13, go_sem, ez0, ez1]) rfl ?_
      rw [q.out]
      exact ⟨ma, mc, by simp, by rw [List.length_map]; exact hO9.out, hB4.out⟩
    have hk2 : k < N := by omega
    obtain ⟨lo, hlo⟩ : ∃ lo : Nat, lo = 8 + 12 * k := ⟨_, rfl⟩
    obtain ⟨hi, hhi⟩ : ∃ hi : Nat, hi = 20 + 12 * k := ⟨_, rfl⟩
    have hbn := hbN.out
    have ht := tpc_at N k (bs.drop 8) hk2
    rw [List.drop_drop, ← hlo] at ht
    have hSk := hid (show Sl .u8 wr.drew (some ⟨b, off + lo, none⟩) 12 (bc - lo) ((bs.drop lo).take 12) by have h := ((hS0.out.drop lo (by omega)).take 12 (by omega)).below hB; have h2 : Sl .u8 wr (some ⟨b, off + lo, none⟩) 12 (bc - lo) ((bs.drop lo).take 12) := (by simpa [add_at] using h); exact h2)
    obtain ⟨⟨P, pe⟩, hp⟩ : ∃ q, takL SD17 ((bs.drop lo).take 12) = q := ⟨_, rfl⟩
    rw [hp] at ht
    have hpre := hid (show pre ++ [(P, pe)] = (tpc N (bs.drop 8)).take (k + 1) by rw [hm.out, List.take_add_one, ht]; rfl)
    have hpx := hid (show pre ++ [(P, pe)] <+: tpc N (bs.drop 8) by rw [hpre.out]; exact List.take_prefix _ _)
    have hsn := hid (errJ_snoc (P, pe) hej)
    have h1 := hid (fun h : pe ≠ 0 => errJ_one hej h hpx.out)
    have hP0 := hid (fun h => stak_bad hp h)
    have hP8 := hid (fun h : pe = 0 => (tak_spec (h ▸ hp)).2.2.2)
    replace hp := hid hp
    have hzk := hid (fun x hx => hz.out x (List.mem_of_mem_drop (List.mem_of_mem_take (i := 12) (l := bs.drop lo) hx)))
    have wa1 : IntKind.i64.wrap (12 * (k : Int)) = 12 * (k : Int) := by rw [IntKind.wrap_i64]; omega
    have wa2 : IntKind.i64.wrap (8 + 12 * (k : Int)) = (lo : Int) := by rw [IntKind.wrap_i64]; omega
    have wa3 : IntKind.i64.wrap (20 + 12 * (k : Int)) = (hi : Int) := by rw [IntKind.wrap_i64]; omega
    have wk : IntKind.i64.wrap ((k : Int) + 1) = (k : Int) + 1 := by rw [IntKind.wrap_i64]; omega
    have n1 : (lo : Int) ≤ (hi : Int) := by omega
    have n2 : (hi : Int) ≤ bc := by omega
    have n3 : ¬ bc = lo := by omega
    have n4 : hi - lo = 12 := by omega
    have hk1 := hid (show k + 1 ≤ N by omega)
    have hN9 := hid (show pre.length < 64 by rw [hpn.out]; omega)
    replace hpn := hid (hpn.out)
    replace h7 := hid h7
    clear hm hej ht hlo hhi hbn
    replace hO := hid hO
    replace hB := hid hB
    go_upto_region 15 with (fail)
    have rz := (show wr.drew.heap[p0_0]? = _ from r0)
    have q7 := (show wr.drew.heap[t6]? = _ from q6)
    have hBd := hid hB.out.drew
    have hOd := hid (hO.out.drewN 1)
    have sD : w.heap.size ≤ wr.drew.heap.size := sB
    clear hB r0 q6 hO
    refine wp_region_R (by kernel_rfl) ?_
    refine wpAnyR_take 1 rfl (by kernel_rfl) (by kernel_rfl) (by kernel_rfl) (fun _ _ _ _ h => h) ⟨_, Or.inl ⟨by rfl, fun w2 hb2 => by (go_simp; try with_reducible rfl)⟩, _, by (go_simp; try rfl), ?_⟩
    refine wpAnyR_take 2 rfl (by kernel_rfl) (by kernel_rfl) (by kernel_rfl) (fun _ _ _ _ h => h) ⟨_, Or.inl ⟨by rfl, fun w2 hb2 => by (go_simp; try with_reducible rfl)⟩, _, by (go_simp; try rfl), ?_⟩
    refine wpAnyR_take 3 rfl (by kernel_rfl) (by kernel_rfl) (by kernel_rfl) (fun _ _ _ _ h => h) ⟨_, Or.inl ⟨by rfl, fun w2 hb2 => by (go_simp; try with_reducible rfl)⟩, _, by (go_simp; try rfl), ?_⟩
    refine wpAnyR_take 4 rfl (by kernel_rfl) (by kernel_rfl) (by kernel_rfl) (fun _ _ _ _ h => h) ⟨_, Or.inl ⟨by rfl, fun w2 hb2 => by (go_simp; try with_reducible rfl)⟩, _, by (go_simp; try rfl), ?_⟩
    refine wpAnyR_take 5 rfl (by kernel_rfl) (by kernel_rfl) (by kernel_rfl) (fun _ _ _ _ h => h) ⟨_, Or.inl ⟨by rfl, fun w2 hb2 => by (go_simp; try with_reducible rfl)⟩, _, by (go_simp; try rfl), ?_⟩
    refine wpAnyR_take 6 rfl (by kernel_rfl) (by kernel_rfl) (by kernel_rfl) (fun _ _ _ _ h => h) ⟨_, Or.inl ⟨by rfl, fun w2 hb2 => by (go_simp; try with_reducible rfl)⟩, _, by (go_simp; try rfl), ?_⟩
    refine wpAnyR_take 7 rfl (by kernel_rfl) (by kernel_rfl) (by kernel_rfl) (fun _ _ _ _ h => h) ⟨_, Or.inl ⟨by rfl, fun w2 hb2 => by (go_simp; try with_reducible rfl)⟩, _, by (go_simp; try rfl), ?_⟩
    refine wpAnyR_take 8 rfl (by kernel_rfl) (by kernel_rfl) (by kernel_rfl) (fun _ _ _ _ h => h) ⟨_, Or.inl ⟨by rfl, fun w2 hb2 => by (go_simp; try with_reducible rfl)⟩, _, by (go_simp; try rfl), ?_⟩
    refine wpAnyR_only 0 rfl (by kernel_rfl) (by rfl) (fun K hK => ?_)
    go_simp
    refine (rfieldsS17 _).mono ?_
    rintro e V4 ⟨fa4, fc4, rfl, hF, hA⟩
    go_simp
    refine hK _ _ ⟨hA, ?_⟩
    clear hK
    replace rz := held_after hA rz
    replace q7 := held_after hA q7
    replace hOd := hid (hOd.out.below hA)
    have hA4 := hid hA
    have hB5 := hid (hBd.out.trans (hA.mono sD))
    have sV4 := hB5.out.size
    replace hF := hid hF
    clear hA hBd
    refine wpAnyR_only 9 rfl (by kernel_rfl) (by rfl) (fun K hK => ?_)
    go_simp
    refine (rstake_any fa4 7 fc4 (fN SD17) (fS SD17) (fL SD17) (fH SD17) (some ⟨b, off + lo, none⟩) 12 (bc - lo) ((bs.drop lo).take 12) _ hF.out (hSk.out.below hA4.out) hzk.out (by omega) (by omega)).mono ?_
    rintro e V5 ⟨ra5, rc5, rfl, hO5, hA⟩
    have e1 : (takF (fN SD17) (fS SD17) (fL SD17) (fH SD17) 7 ((bs.drop lo).take 12)) = (P, pe) := hp.out
    rw [e1]
    rw [e1] at hO5
    dsimp only at hO5 ⊢
    clear e1
    go_simp
    refine hK _ _ ⟨hA, ?_⟩
    clear hK
    replace rz := held_after hA rz
    replace q7 := held_after hA q7
    replace hOd := hid (hOd.out.below hA)
    have hB6 := hid (hB5.out.trans (hA.mono sV4))
    replace hO5 := hid hO5
    clear hA hB5 hA4 hF hSk
    refine wpAnyR_take 10 rfl (by kernel_rfl) (by kernel_rfl) (by kernel_rfl) (fun _ _ _ _ h => h) ⟨_, Or.inl ⟨by rfl, fun w2 hb2 => by (go_simp; try with_reducible rfl)⟩, _, by (go_simp; try rfl), ?_⟩
    refine wpAnyR_take 11 rfl (by kernel_rfl) (by kernel_rfl) (by kernel_rfl) (fun _ _ _ _ h => h) ⟨_, Or.inl ⟨by rfl, fun w2 hb2 => by (go_simp; try with_reducible rfl)⟩, _, by (go_simp; try rfl), ?_⟩
    refine wpAnyR_take 12 rfl (by kernel_rfl) (by kernel_rfl) (by kernel_rfl) (fun _ _ _ _ h => h) ⟨_, Or.inl ⟨by rfl, fun w2 hb2 => by (go_simp; try with_reducible rfl)⟩, _, by (go_simp; try rfl), ?_⟩
    refine wpAnyR_take 13 rfl (by kernel_rfl) (by kernel_rfl) (by kernel_rfl) (fun _ _ _ _ h => h) ⟨_, Or.inl ⟨by rfl, fun w2 hb2 => by (go_simp; try with_reducible rfl)⟩, _, by (go_simp; try rfl), ?_⟩
    refine wpAnyR_take 14 rfl (by kernel_rfl) (by kernel_rfl) (by kernel_rfl) (fun _ _ _ _ h => h) ⟨_, Or.inl ⟨by rfl, fun w2 hb2 => by (go_simp; try with_reducible rfl)⟩, _, by (go_simp; try rfl), ?_⟩
    refine wpAnyR_done (by kernel_rfl) ?_ _
    have sV5 := hB6.out.size
    by_cases hpn0 : pe = 0
    case neg =>
      have hne : errJ (tpc N (bs.drop 8)) = pe := h1.out hpn0
      have e := hid (show r = (0, [], pe) by rw [hG4.out, hne, if_neg hpn0])
      have hnz : (pe != 0) = true := by simp [hpn0]
      clear hne
      have y0 := held_cell rz 0 _ rfl
      have y1 := held_cell rz 1 _ rfl
      have f0 := held_free rz 0
      have f1 := held_free rz 1
      obtain ⟨W4, hW4, ya, yO⟩ := st2 rz (.int .i64 0) (.slice none 0 0)
      have ez0 := held_cell ya 0 _ rfl
      have ez1 := held_cell ya 1 _ rfl
      have hB4 := hid (belowS hB6.out yO n0)
      clear ya yO
      go_wp2_with fail
      try rw [Exit.noGoto_ret]
      refine bodyPost_ret (v := .tuple #[.agg #[.int .i64 0, .slice none 0 0], .int .i64 pe]) (by simp [results, Try.results13, go_sem, ez0, ez1]) rfl ?_
      rw [e.out]
      exact StOk.no hB4.out
    subst hpn0
    have hPl : P.length = 7 := by rw [hP8.out rfl]; simp [SD17]
    obtain ⟨x0, x1, x2, x3, x4, x5, x6, rfl⟩ := list7 hPl
    have hR := hid hO5.out.slf.2.2.2.2
    obtain ⟨qb5, qo5, rfl, v0⟩ := hR.out 0 (by simp)
    have v1 : V5.cell? ⟨qb5, qo5 + 1, none⟩ = some (.int .i64 x1) := by obtain ⟨b9, o9, e9, v9⟩ := hR.out 1 (by simp); cases e9; exact v9
    have v2 : V5.cell? ⟨qb5, qo5 + 2, none⟩ = some (.int .i64 x2) := by obtain ⟨b9, o9, e9, v9⟩ := hR.out 2 (by simp); cases e9; exact v9
    have v3 : V5.cell? ⟨qb5, qo5 + 3, none⟩ = some (.int .i64 x3) := by obtain ⟨b9, o9, e9, v9⟩ := hR.out 3 (by simp); cases e9; exact v9
    have v4 : V5.cell? ⟨qb5, qo5 + 4, none⟩ = some (.int .i64 x4) := by obtain ⟨b9, o9, e9, v9⟩ := hR.out 4 (by simp); cases e9; exact v9
    have v5 : V5.cell? ⟨qb5, qo5 + 5, none⟩ = some (.int .i64 x5) := by obtain ⟨b9, o9, e9, v9⟩ := hR.out 5 (by simp); cases e9; exact v9
    have v6 : V5.cell? ⟨qb5, qo5 + 6, none⟩ = some (.int .i64 x6) := by obtain ⟨b9, o9, e9, v9⟩ := hR.out 6 (by simp); cases e9; exact v9
    replace v0 : V5.cell? ⟨qb5, qo5 + 0, none⟩ = some (.int .i64 x0) := v0
    rw [Nat.add_zero] at v0
    have h7n := hid (show ∀ x ∈ pre ++ [(([x0, x1, x2, x3, x4, x5, x6], 0) : El8)], x.1.length = 7 from fun x hx => by
      rcases List.mem_append.1 hx with hx | hx
      · exact h7.out x hx
      · obtain rfl := List.mem_singleton.1 hx; rfl)
    clear hP0 hP8 hPl hR hO5 h1 hpx h7
    go_upto_region 18 with (fail)
    apply wp_region_part (w := V5) (S := [.q [], .q [], .q [], .q [], .q [], .q [], .q [], .q [], .q [], .q [], .q [], .q [], .q [], .q [], .q [], .q [], .q [], .q [], .q [], .q [], .q [], .q [], .q [], .q [], .al 1000]) (E := [.q0 _, .q0 _, .q0 _, .q0 _, .q0 _, .q0 _, .q0 _, .q0 _, .q0 _, .q0 _, .q0 _, .q0 _, .q0 _, .q0 _, .q0 _, .q0 _, .q0 _, .q0 _, .q0 _, .q0 _, .q0 _, .q0 _, .q0 _, .q0 _, .al ((fun p => .slice (some ⟨p, 0, none⟩) 1 1), _) 1000]) 25 3 (by kernel_rfl) rfl (by kernel_rfl) rfl rfl rfl
    intro th hge hne
    refine Seg.step _ rfl (Or.inl ⟨by rfl, fun U hU => vp_quiet (by (go_simp <;> exact rfl))⟩) ⟨_, by (simp only [Ent.val]; go_simp <;> exact rfl), ?_⟩
    refine Seg.step _ rfl (Or.inl ⟨by rfl, fun U hU => vp_quiet (by (have h0 := hU.1.cellB (held_cell q7 1 _ rfl); go_simp <;> exact rfl))⟩) ⟨_, by (simp only [Ent.val]; go_simp <;> exact rfl), ?_⟩
    refine Seg.step _ rfl (Or.inl ⟨by rfl, fun U hU => vp_quiet (by (go_simp <;> exact rfl))⟩) ⟨_, by (simp only [Ent.val]; go_simp <;> exact rfl), ?_⟩
    refine Seg.step _ rfl (Or.inl ⟨by rfl, fun U hU => vp_quiet (by (go_simp <;> exact rfl))⟩) ⟨_, by (simp only [Ent.val]; go_simp <;> exact rfl), ?_⟩
    refine Seg.step _ rfl (Or.inl ⟨by rfl, fun U hU => vp_quiet (by (have h0 := hU.1.cellB v0; go_simp <;> exact rfl))⟩) ⟨_, by (simp only [Ent.val]; go_simp <;> exact rfl), ?_⟩
    refine Seg.step _ rfl (Or.inl ⟨by rfl, fun U hU => vp_quiet (by (go_simp <;> exact rfl))⟩) ⟨_, by (simp only [Ent.val]; go_simp <;> exact rfl), ?_⟩
    refine Seg.step _ rfl (Or.inl ⟨by rfl, fun U hU => vp_quiet (by (go_simp <;> exact rfl))⟩) ⟨_, by (simp only [Ent.val]; go_simp <;> exact rfl), ?_⟩
    refine Seg.step _ rfl (Or.inl ⟨by rfl, fun U hU => vp_quiet (by (have h0 := hU.1.cellB v1; go_simp <;> exact rfl))⟩) ⟨_, by (simp only [Ent.val]; go_simp <;> exact rfl), ?_⟩
    refine Seg.step _ rfl (Or.inl ⟨by rfl, fun U hU => vp_quiet (by (go_simp <;> exact rfl))⟩) ⟨_, by (simp only [Ent.val]; go_simp <;> exact rfl), ?_⟩
    refine Seg.step _ rfl (Or.inl ⟨by rfl, fun U hU => vp_quiet (by (go_simp <;> exact rfl))⟩) ⟨_, by (simp only [Ent.val]; go_simp <;> exact rfl), ?_⟩
    refine Seg.step _ rfl (Or.inl ⟨by rfl, fun U hU => vp_quiet (by (have h0 := hU.1.cellB v2; go_simp <;> exact rfl))⟩) ⟨_, by (simp only [Ent.val]; go_simp <;> exact rfl), ?_⟩
    refine Seg.step _ rfl (Or.inl ⟨by rfl, fun U hU => vp_quiet (by (go_simp <;> exact rfl))⟩) ⟨_, by (simp only [Ent.val]; go_simp <;> exact rfl), ?_⟩
    refine Seg.step _ rfl (Or.inl ⟨by rfl, fun U hU => vp_quiet (by (go_simp <;> exact rfl))⟩) ⟨_, by (simp only [Ent.val]; go_simp <;> exact rfl), ?_⟩
    refine Seg.step _ rfl (Or.inl ⟨by rfl, fun U hU => vp_quiet (by (have h0 := hU.1.cellB v3; go_simp <;> exact rfl))⟩) ⟨_, by (simp only [Ent.val]; go_simp <;> exact rfl), ?_⟩
    refine Seg.step _ rfl (Or.inl ⟨by rfl, fun U hU => vp_quiet (by (go_simp <;> exact rfl))⟩) ⟨_, by (simp only [Ent.val]; go_simp <;> exact rfl), ?_⟩
    refine Seg.step _ rfl (Or.inl ⟨by rfl, fun U hU => vp_quiet (by (go_simp <;> exact rfl))⟩) ⟨_, by (simp only [Ent.val]; go_simp <;> exact rfl), ?_⟩
    refine Seg.step _ rfl (Or.inl ⟨by rfl, fun U hU => vp_quiet (by (have h0 := hU.1.cellB v4; go_simp <;> exact rfl))⟩) ⟨_, by (simp only [Ent.val]; go_simp <;> exact rfl), ?_⟩
    refine Seg.step _ rfl (Or.inl ⟨by rfl, fun U hU => vp_quiet (by (go_simp <;> exact rfl))⟩) ⟨_, by (simp only [Ent.val]; go_simp <;> exact rfl), ?_⟩
    refine Seg.step _ rfl (Or.inl ⟨by rfl, fun U hU => vp_quiet (by (go_simp <;> exact rfl))⟩) ⟨_, by (simp only [Ent.val]; go_simp <;> exact rfl), ?_⟩
    refine Seg.step _ rfl (Or.inl ⟨by rfl, fun U hU => vp_quiet (by (have h0 := hU.1.cellB v5; go_simp <;> exact rfl))⟩) ⟨_, by (simp only [Ent.val]; go_simp <;> exact rfl), ?_⟩
    refine Seg.step _ rfl (Or.inl ⟨by rfl, fun U hU => vp_quiet (by (go_simp <;> exact rfl))⟩) ⟨_, by (simp only [Ent.val]; go_simp <;> exact rfl), ?_⟩
    refine Seg.step _ rfl (Or.inl ⟨by rfl, fun U hU => vp_quiet (by (go_simp <;> exact rfl))⟩) ⟨_, by (simp only [Ent.val]; go_simp <;> exact rfl), ?_⟩
    refine Seg.step _ rfl (Or.inl ⟨by rfl, fun U hU => vp_quiet (by (have h0 := hU.1.cellB v6; go_simp <;> exact rfl))⟩) ⟨_, by (simp only [Ent.val]; go_simp <;> exact rfl), ?_⟩
    refine Seg.step _ rfl (Or.inl ⟨by rfl, fun U hU => vp_quiet (by (go_simp <;> exact rfl))⟩) ⟨_, by (simp only [Ent.val]; go_simp <;> exact rfl), ?_⟩
    refine Seg.step _ rfl ⟨by rfl, fun U hU => ?_⟩ ?_
    · go_simp; exact vp_alloc rfl rfl rfl
    refine ⟨_, by (simp only [Ent.val]; go_simp <;> exact rfl), ?_⟩
    refine Seg.stop (fun U9 hU hk => ?_)
    have nb24 := hge 24 _ _ rfl
    have rb24 := (hk 24 _ _ rfl trivial).1.2 (by simp)
    clear hk hge hne
    generalize th (0 + 24) = p18_24 at *
    dsimp only at rb24
    have r_p18_24 := rb24
    clear rb24
    have n_p18_24 := nb24
    clear nb24
    have sz9 := hU.size
    have hB : Below V5.heap.size V5 U9 := hU
    clear hB
    have k6 := held_after hU q7
    have k0 := held_after hU rz
    have hO8 := hid (hOd.out.below hU)
    have hB8 := hid (hB6.out.trans (hU.mono sV5))
    have sb8 := hB8.out.size
    have hEe := hid (els_blk (m := 7) r_p18_24 rfl)
    clear hU q7 rz hOd hB6 r_p18_24 v0 v1 v2 v3 v4 v5 v6
    refine Seg.only (m := 25) (k := 2) rfl (by kernel_rfl) (by rfl) (fun K hK => ?_)
    refine wp_appE (.tmp 70) (.tmp 93) 22 rfl w.heap.size 49 7 56 satO (by decide) (.slice ma pre.length mc) pre.length (satsV (pre.map Prod.fst)).flatten rfl hO8.out (some ⟨_, 0, none⟩) 1 1 [satV [x0, x1, x2, x3, x4, x5, x6]] rfl hEe.out (sat_one _) (by have := hN9.out; unfold maxLen; omega) (by have := hN9.out; omega) sb8 ?_
    intro a9 c9 W9 hO9 hG9 hN9b
    refine hK _ _ ?_
    clear hK
    have j0 := (hG9.block p0_0 (held_lt k0) (fun e2 => hO8.out.ne k0 (by decide) e2.symm)).trans k0
    have j6 := (hG9.block t6 (held_lt k6) (fun e2 => hO8.out.ne k6 (by decide) e2.symm)).trans k6
    have hB9 := hB8.out.grown hG9 sb8 (fun k2 e2 => (hO8.out.lt k2 e2).1)
    have z3 := held_cell j6 1 _ rfl
    have f3 := held_free j6 1
    obtain ⟨S1, hS1, s1, o1⟩ := st1 j6 1 (.slice a9 (pre.length + 1) c9)
    have hfin := hid (show OwnE 49 S1 w.heap.size 7 (.slice a9 (pre ++ [(([x0, x1, x2, x3, x4, x5, x6], 0) : El8)]).length c9) (pre ++ [(([x0, x1, x2, x3, x4, x5, x6], 0) : El8)]).length (satsV ((pre ++ [(([x0, x1, x2, x3, x4, x5, x6], 0) : El8)]).map Prod.fst)).flatten from by rw [List.length_append, List.map_append, show List.map Prod.fst [(([x0, x1, x2, x3, x4, x5, x6], 0) : El8)] = [[x0, x1, x2, x3, x4, x5, x6]] from rfl, satsV_snoc]; exact hO9.kept (fun g hg => o1.block g (fun e2 => by subst e2; exact (hO9.ne j6 (by decide)) hg)))
    have z0 := hid ((o1.block p0_0 d06).trans j0)
    have hBf := hid (belowS hB9 o1 n6)
    have s2 := hid (show S1.heap[t6]? = some (.cells #[.int .i64 tow, .slice a9 (pre ++ [(([x0, x1, x2, x3, x4, x5, x6], 0) : El8)]).length c9] 24 (0, 0)) from by rw [List.length_append]; exact s1)
    have hl9 := hid (show (pre ++ [(([x0, x1, x2, x3, x4, x5, x6], 0) : El8)]).length = k + 1 by rw [List.length_append, hpn.out]; rfl)
    clear hO9 hG9 hN9b j0 hB9 o1 s1 k0 k6 hB8 hO8 hEe j6
    refine Seg.only (m := 26) (k := 1) rfl (by kernel_rfl) (by rfl) (fun K hK => ?_)
    go_simp
    refine hK _ _ ?_
    clear hK
    refine Seg.only (m := 27) (k := 0) rfl (by kernel_rfl) (by rfl) (fun K hK => ?_)
    go_simp
    refine hK _ _ (Seg.finish ?_ _)
    clear hK
    go_wp2_with fail
    go_roundw
    case rel => exact ⟨k + 1, pre ++ [([x0, x1, x2, x3, x4, x5, x6], 0)], a9, c9, by simp, hk1.out, hl9, s2.out, hfin.out, hpre, by rw [hsn.out], h7n.out, z0.out, hBf.out⟩
    case measure => simp [intOf]; omega

end Go.Proofs.Ytahjcbdofljfpaa
