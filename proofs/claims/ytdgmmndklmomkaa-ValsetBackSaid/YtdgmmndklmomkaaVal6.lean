/- Package valset: Take. -/
import Derived.Test.YtdgmmndklmomkaaVal5
import Derived.Laws.OwnMore
import Derived.WalkMore
import Derived.Deep.DeepCutAuto
namespace Go.Proofs.Ytdgmmndklmomkaa
open Go.ChangeShapes Go.WideShapes Go.ChangeAt Go.RowKit
set_option linter.unusedVariables false
set_option linter.unusedSimpArgs false

theorem pairN_4 (zs : List Int) : 4 ≤ pairN zs := Nat.le_add_right _ _
theorem tkS_0 {f : Nat} {zs : List Int} {acc : List (Int × Int)} (h : zs.length = 0) : tkS (f + 1) zs acc = (acc, 0) := by rw [tkS, if_pos h]
theorem tkS_32 {f : Nat} {zs : List Int} {acc : List (Int × Int)} (h : zs.length ≠ 0) (h2 : acc.length = 32) : tkS (f + 1) zs acc = ([], 7) := by rw [tkS, if_neg h, if_pos h2]
theorem tkS_no {f : Nat} {zs : List Int} {acc : List (Int × Int)} (h : zs.length ≠ 0) (h2 : acc.length ≠ 32) (h3 : (pairS zs).2 ≠ 0) : tkS (f + 1) zs acc = ([], (pairS zs).2) := by rw [tkS, if_neg h, if_neg h2, if_pos h3]
theorem tkS_on {f : Nat} {zs : List Int} {acc : List (Int × Int)} (h : zs.length ≠ 0) (h2 : acc.length ≠ 32) (h3 : (pairS zs).2 = 0) : tkS (f + 1) zs acc = tkS f (zs.drop (pairN zs)) (acc ++ [(pairS zs).1]) := by rw [tkS, if_neg h, if_neg h2, if_neg (by simp [h3])]
/-- How many more a list in cell 1 of a block may have. -/
def cnt1 (w : World) (t : Nat) : Nat := match w.heap[t]? with
  | some (Obj.cells c _ _) => (match c[1]? with
    | some (Value.slice _ n _) => 33 - n
    | _ => 0)
  | _ => 0
theorem cnt1_at {w : World} {t : Nat} {x : Value} {a : Option Addr} {n c : Nat} {T : TypeId} (h : w.heap[t]? = some (.cells #[x, .slice a n c] T (0, 0))) : cnt1 w t = 33 - n := by
  unfold cnt1; rw [h]; rfl
/-- No byte. -/
def NoB (v : Value) : Prop := ∀ x, v ≠ .int .u8 x
theorem nob_zero : ZeroC Try.prog 43 NoB := by
  intro z hz u hu
  have h : (Try.prog.info? 43).bind (·.zero) = some (.agg #[.int .i64 0, .int .i64 0]) := by kernel_rfl
  rw [h] at hz; cases hz
  have hu2 : u ∈ [Value.int .i64 0, .int .i64 0] := by simpa [Value.cells] using hu
  simp at hu2
  subst hu2
  intro x hx; cases hx
theorem nob_prs (l : List (Int × Int)) : AllP NoB (prsV l).flatten := by
  intro u hu
  obtain ⟨y, hy, hu2⟩ := List.mem_flatten.1 hu
  obtain ⟨x, _, rfl⟩ := List.mem_map.1 hy
  simp only [prV, List.mem_cons, List.not_mem_nil, or_false] at hu2
  rcases hu2 with rfl | rfl <;> (intro z hz; cases hz)
/-- Bytes stay where a slice without bytes is appended to. -/
theorem sl_app {w w' : World} {a : Option Addr} {len cap : Nat} {zs : List Int} {E : TypeId} {base m n : Nat} {v : Value} {xs : List Value} (h : Sl .u8 w a len cap zs) (hg : w.grownBy w' v.ownBlock) (hO : OwnE E w base m v n xs) (hC : AllC NoB w v) : Sl .u8 w' a len cap zs := by
  obtain ⟨h1, h2, h3, h4, h5⟩ := h
  refine ⟨h1, h2, h3, h4, fun i hi => ?_⟩
  obtain ⟨b, off, e, hc⟩ := h5 i hi
  refine ⟨b, off, e, hg.cell hc (fun e2 => ?_)⟩
  obtain ⟨_, _, cur, hcur⟩ := hO.lt b e2.symm
  rw [cell_of_row w b (off + i) cur E (0, 0) hcur] at hc
  exact hC b cur E (0, 0) e2.symm hcur _ (Array.mem_toList_iff.2 (Array.mem_of_getElem? hc)) _ rfl
set_option maxRecDepth 100000 in
set_option maxHeartbeats 8000000 in
theorem takeV_any (ba : Option Addr) (bl bc : Nat) (bs : List Int) (w : World) (hS : Sl .u8 w ba bl bc bs) (hz : ∀ x ∈ bs, (Lit.int .u8 x).wf = true) (hbl : bl ≤ 100000) : Calls Try.prog 16 #[.slice ba bl bc] w (VtOk w (takVS bs)) := by
  obtain ⟨r, hr⟩ : ∃ r, takVS bs = r := ⟨_, rfl⟩
  rw [hr]
  have hl0 := hid hS.1
  have hcap := hS.2.1
  have hcm := hS.2.2.1
  have hmm : maxLen ≤ 9223372036854775807 := by decide
  have hS0 := hid hS
  replace hS := hid hS
  replace hz := hid hz
  go_enter Try.func16, Try.ntmps16
  go_upto_region 0 with (fail)
  apply wp_region_seg0 (w := w) (S := [.al 1000, .q []]) (E := [.al ((fun p => .pointer (some ⟨p, 0, none⟩)), _) 1000, .q0 _]) rfl (by kernel_rfl) rfl rfl
  intro th hge hne
  refine Seg.step _ rfl ⟨by rfl, fun U hU => ?_⟩ ?_
  · go_simp; exact vp_alloc rfl rfl rfl
  refine ⟨_, by (simp only [Ent.val]; go_simp <;> exact rfl), ?_⟩
  refine Seg.step _ rfl (Or.inl ⟨by rfl, fun U hU => vp_quiet (by (go_simp <;> exact rfl))⟩) ⟨_, by (simp only [Ent.val]; go_simp <;> exact rfl), ?_⟩
  refine Seg.stop (fun U1 hU hk => ?_)
  have nb0 := hge 0 _ _ rfl
  have rb0 := (hk 0 _ _ rfl trivial).1.2 (by simp)
  clear hk hge hne
  generalize th (0 + 0) = p0_0 at *
  dsimp only at rb0
  have r_p0_0 := rb0
  clear rb0
  have n_p0_0 := nb0
  clear nb0
  have sz1 := hU.size
  have hB : Below w.heap.size w U1 := hU
  clear hU
  go_wp2_with fail
  go_step3
  have np0 := n_p0_0
  have hBs := hB.size
  replace hB := hid hB
  replace r_p0_0 := hid r_p0_0
  by_cases c4 : (bl : Int) < 4
  case pos =>
    have e := hid (show r = (0, [], 2) by rw [← hr]; unfold takVS; rw [if_pos (by have := hl0.out; omega)])
    clear hr
    have r0 := r_p0_0.out
    have y0 := held_cell r0 0 _ rfl
    have y1 := held_cell r0 1 _ rfl
    have f0 := held_free r0 0
    have f1 := held_free r0 1
    obtain ⟨W4, hW4, ya, yO⟩ := st2 r0 (.int .i64 0) (.slice none 0 0)
    have ez0 := held_cell ya 0 _ rfl
    have ez1 := held_cell ya 1 _ rfl
    have hB4 := hid (belowS hB.out yO np0)
    clear yO ya
    replace r0 := hid r0
    go_wp2_with fail
    try rw [Exit.noGoto_ret]
    refine bodyPost_ret (v := .tuple #[.agg #[.int .i64 0, .slice none 0 0], .int .i64 2]) (by simp [results, Try.results16, go_sem, ez0, ez1]) rfl ?_
    rw [e.out]
    exact VtOk.no hB4.out
  have c4n : ¬ bs.length < 4 := by have := hl0.out; omega
  obtain ⟨⟨P, he⟩, hq⟩ : ∃ q, takL HL (bs.take 4) = q := ⟨_, rfl⟩
  have hG : r = if he ≠ 0 then (0, [], he) else if (tkS 33 (bs.drop 4) []).2 ≠ 0 then (0, [], (tkS 33 (bs.drop 4) []).2) else (P.getD 1 0, (tkS 33 (bs.drop 4) []).1, 0) := by rw [← hr]; unfold takVS; rw [if_neg c4n, hq]
  have te := takF_e (fN HL) (fS HL) (fL HL) (fH HL) HL.length (bs.take 4)
  change 0 ≤ (takL HL (bs.take 4)).2 ∧ (takL HL (bs.take 4)).2 ≤ 9 at te
  rw [hq] at te
  dsimp only at te
  have hP8 := hid (fun h : he = 0 => (tak_spec (h ▸ hq)).2.2.2)
  replace hG := hid hG
  replace hq := hid hq
  clear hr
  obtain ⟨b, off, rfl⟩ : ∃ b off, ba = some ⟨b, off, none⟩ := by obtain ⟨b, off, e, _⟩ := hS0.out.2.2.2.2 0 (by have := hl0.out; omega); exact ⟨b, off, e⟩
  have hS4 := hid ((hS0.out.take 4 (by omega)))
  have hb4c : (4 : Int) ≤ bc := by omega
  have hb4l : (4 : Int) ≤ bl := by omega
  go_upto_region 3 with (fail)
  obtain ⟨UD, hUD⟩ : ∃ W, U1.drew = W := ⟨_, rfl⟩
  have r1 := (show U1.drew.heap[p0_0]? = _ from r_p0_0.out)
  have hB1 := hid hB.out.drew
  clear hB r_p0_0 hUD
  refine wp_region_R (by kernel_rfl) ?_
  refine wpAnyR_take 1 rfl (by kernel_rfl) (by kernel_rfl) (by kernel_rfl) (fun _ _ _ _ h => h) ⟨_, Or.inl ⟨by rfl, fun w2 hb2 => by (go_simp; try with_reducible rfl)⟩, _, by (go_simp; try rfl), ?_⟩
  refine wpAnyR_take 2 rfl (by kernel_rfl) (by kernel_rfl) (by kernel_rfl) (fun _ _ _ _ h => h) ⟨_, Or.inl ⟨by rfl, fun w2 hb2 => by (go_simp; try with_reducible rfl)⟩, _, by (go_simp; try rfl), ?_⟩
  refine wpAnyR_only 0 rfl (by kernel_rfl) (by rfl) (fun K hK => ?_)
  go_simp
  refine (fieldsV_any _).mono ?_
  rintro e V1 ⟨fa, fc, rfl, hF, hA⟩
  go_simp
  refine hK _ _ ⟨hA, ?_⟩
  clear hK
  have r2 := held_after hA r1
  have hB2 := hid (hB1.out.trans (hA.mono (show w.heap.size ≤ U1.drew.heap.size from hBs)))
  have sV1 := hB2.out.size
  replace hF := hid hF
  clear hA r1 hB1
  refine wpAnyR_only 3 rfl (by kernel_rfl) (by rfl) (fun K hK => ?_)
  go_simp
  refine (stake_any fa 3 fc (fN HL) (fS HL) (fL HL) (fH HL) (some ⟨b, off, none⟩) 4 bc (bs.take 4) _ hF.out (hS4.out.below hB2.out) (fun x hx => hz.out x (List.mem_of_mem_take hx)) (by omega) (by omega)).mono ?_
  rintro e V2 ⟨ra, rc, rfl, hO, hA⟩
  have e1 : (takF (fN HL) (fS HL) (fL HL) (fH HL) 3 (bs.take 4)) = (P, he) := hq.out
  rw [e1]
  rw [e1] at hO
  dsimp only at hO ⊢
  clear e1
  go_simp
  refine hK _ _ ⟨hA, ?_⟩
  clear hK
  have r3 := held_after hA r2
  have hB3 := hid (hB2.out.trans (hA.mono sV1))
  replace hO := hid hO
  clear hA r2 hB2 hF
  refine wpAnyR_take 4 rfl (by kernel_rfl) (by kernel_rfl) (by kernel_rfl) (fun _ _ _ _ h => h) ⟨_, Or.inl ⟨by rfl, fun w2 hb2 => by (go_simp; try with_reducible rfl)⟩, _, by (go_simp; try rfl), ?_⟩
  refine wpAnyR_take 5 rfl (by kernel_rfl) (by kernel_rfl) (by kernel_rfl) (fun _ _ _ _ h => h) ⟨_, Or.inl ⟨by rfl, fun w2 hb2 => by (go_simp; try with_reducible rfl)⟩, _, by (go_simp; try rfl), ?_⟩
  refine wpAnyR_take 6 rfl (by kernel_rfl) (by kernel_rfl) (by kernel_rfl) (fun _ _ _ _ h => h) ⟨_, Or.inl ⟨by rfl, fun w2 hb2 => by (go_simp; try with_reducible rfl)⟩, _, by (go_simp; try rfl), ?_⟩
  refine wpAnyR_take 7 rfl (by kernel_rfl) (by kernel_rfl) (by kernel_rfl) (fun _ _ _ _ h => h) ⟨_, Or.inl ⟨by rfl, fun w2 hb2 => by (go_simp; try with_reducible rfl)⟩, _, by (go_simp; try rfl), ?_⟩
  refine wpAnyR_take 8 rfl (by kernel_rfl) (by kernel_rfl) (by kernel_rfl) (fun _ _ _ _ h => h) ⟨_, Or.inl ⟨by rfl, fun w2 hb2 => by (go_simp; try with_reducible rfl)⟩, _, by (go_simp; try rfl), ?_⟩
  refine wpAnyR_done (by kernel_rfl) ?_ _
  have sV2 := hB3.out.size
  by_cases hen : he = 0
  case neg =>
    have e := hid (hG.out.trans (if_pos hen))
    have hnz : (he != 0) = true := by simp [hen]
    have y0 := held_cell r3 0 _ rfl
    have y1 := held_cell r3 1 _ rfl
    have f0 := held_free r3 0
    have f1 := held_free r3 1
    obtain ⟨W4, hW4, ya, yO⟩ := st2 r3 (.int .i64 0) (.slice none 0 0)
    have ez0 := held_cell ya 0 _ rfl
    have ez1 := held_cell ya 1 _ rfl
    have hB4 := hid (belowS hB3.out yO np0)
    clear yO ya
    go_wp2_with fail
    try rw [Exit.noGoto_ret]
    refine bodyPost_ret (v := .tuple #[.agg #[.int .i64 0, .slice none 0 0], .int .i64 he]) (by simp [results, Try.results16, go_sem, ez0, ez1]) rfl ?_
    rw [e.out]
    exact VtOk.no hB4.out
  have hG2 := hid (hG.out.trans (if_neg (by simp [hen])))
  subst hen
  clear hG
  have hPl : P.length = 3 := by rw [hP8.out rfl]; simp [HL]
  obtain ⟨x0, x1, x2, rfl⟩ := list3 hPl
  replace hG2 : Hid (r = if (tkS 33 (bs.drop 4) []).2 ≠ 0 then (0, [], (tkS 33 (bs.drop 4) []).2) else (x1, (tkS 33 (bs.drop 4) []).1, 0)) := hG2
  obtain ⟨qb, qo, rfl, v1⟩ := hO.out.slf.2.2.2.2 1 (by simp)
  replace v1 : V2.cell? ⟨qb, qo + 1, none⟩ = some (.int .i64 x1) := v1
  clear hP8 hPl te hO hq
  have nA6 := alloc_new V2 (.cells #[.int .i64 x1, .slice none 0 0] 24)
  have q6 := nA6.2.2
  have hA6 := nA6.2.1
  obtain ⟨t6, ht6⟩ : ∃ q, V2.heap.size = q := ⟨_, rfl⟩
  rw [ht6] at q6
  have r4 := held_after hA6 r3
  have hB4 := hid (hB3.out.trans (hA6.mono sV2))
  have n6 : w.heap.size ≤ t6 := by omega
  have p06 : p0_0 ≠ t6 := by have := held_lt r3; omega
  clear nA6 hA6
  go_upto_region 7 with (fail)
  clear v1
  try rw [ht6]
  obtain ⟨W6, hW6e⟩ : ∃ W, V2.alloc (.cells #[.int .i64 x1, .slice none 0 0] 24) = W := ⟨_, rfl⟩
  rw [hW6e] at q6 r4 hB4 ⊢
  clear hW6e ht6 r3 hB3
  have s6 := hB4.out.size
  by_cases hce : bc = 4
  · subst hce
    obtain rfl : bl = 4 := by omega
    have hSd := hid ((hS0.out.end 4 (by omega) rfl).below hB4.out)
    go_wp2_with fail
    refine (new_any (some ⟨b, off, none⟩) 0 0 (bs.drop 4) _ (by omega) hSd.out).mono ?_
    rintro e V3 ⟨B, rfl, hBn, hR, hA⟩
    have q7 := held_after hA q6
    have r5 := held_after hA r4
    have hB5 := hid (hB4.out.trans (hA.mono s6))
    have nB6 : t6 ≠ B := by have := held_lt q6; omega
    have nB0 : p0_0 ≠ B := by have := held_lt r4; omega
    have nBw : w.heap.size ≤ B := by omega
    have hzd := hid (fun x hx => hz.out x (List.mem_of_mem_drop (i := 4) hx))
    replace hR := hid hR
    clear hA q6 r4 hB4 hSd
    go_wp2_with fail
    try go_step3
    go_wp2_with fail
    go_loopw [9] (fun _ wr => ∃ (zs : List Int) (acc : List (Int × Int)) (ma : Option Addr) (mc : Nat), Rdr B wr zs ∧ wr.heap[t6]? = some (.cells #[.int .i64 x1, .slice ma acc.length mc] 24 (0, 0)) ∧ OwnE 43 wr w.heap.size 2 (.slice ma acc.length mc) acc.length (prsV acc).flatten ∧ AllC NoB wr (.slice ma acc.length mc) ∧ wr.heap[p0_0]? = some (.cells #[.int .i64 0, .slice none 0 0] 24 (0, 0)) ∧ Hid (tkS 33 (bs.drop 4) [] = tkS (33 - acc.length) zs acc) ∧ acc.length ≤ 32 ∧ zs.length ≤ 100000 ∧ (∀ x ∈ zs, (Lit.int .u8 x).wf = true) ∧ Below w.heap.size w wr) (fun _ wr => cnt1 wr t6)
    case atStart => exact ⟨bs.drop 4, [], none, 0, hR.out, q7, OwnE.nil _ _ _ _, AllC.nil _ _, r5, hid rfl, by decide, by rw [List.length_drop]; have := hl0.out; omega, hzd.out, hB5.out⟩
    case round =>
      clear hR q7 r5 hB5 hzd
      obtain ⟨zs, acc, ma, mc, hR, q7, hO, hC, r5, hd, h32, hzl, hzz, hB5⟩ := hrel
      have kl := hid (fun W h => rleft_v B zs W h)
      have hms : cnt1 wr t6 = 33 - acc.length := cnt1_at q7
      rw [hms]
      clear hms
      obtain ⟨f, hf⟩ : ∃ f, 33 - acc.length = f + 1 := ⟨32 - acc.length, by omega⟩
      have hlf : f = 32 - acc.length := by omega
      rw [hf] at hd ⊢
      replace hR := hid hR
      replace hO := hid hO
      replace hC := hid hC
      replace hzz := hid hzz
      replace hB5 := hid hB5
      have z0 := held_cell q7 0 _ rfl
      have z1 := held_cell q7 1 _ rfl
      by_cases c0 : zs.length = 0
      case pos =>
        have eT := hd.out.trans (tkS_0 c0)
        have e := hid (hG2.out.trans (if_neg (by rw [eT]; simp)))
        rw [eT] at e
        have c0i : (zs.length : Int) = 0 := by omega
        have r6 := r5
        have y0 := held_cell r6 0 _ rfl
        have y1 := held_cell r6 1 _ rfl
        have f0 := held_free r6 0
        have f1 := held_free r6 1
        obtain ⟨W4, hW4, ya, yO⟩ := st2 r6 (.int .i64 x1) (.slice ma acc.length mc)
        have ez0 := held_cell ya 0 _ rfl
        have ez1 := held_cell ya 1 _ rfl
        have hB4 := hid (belowS hB5.out yO np0)
        have hO4 := hid ((hO.out.kept (w' := W4) (fun g hg => yO.block g (fun e2 => by subst e2; exact (hO.out.ne r6 (by decide)) hg))).els (by simp [prsV]) (prsV_m acc))
        clear yO ya hd eT
        go_wp2_with fail
        refine (kl.out _ hR.out).mono ?_
        rintro e9 V ⟨rfl, hv⟩
        obtain rfl : wr = V := hv.symm
        clear hv
        go_wp2_with fail
        try rw [Exit.noGoto_ret]
        refine bodyPost_ret (v := .tuple #[.agg #[.int .i64 x1, .slice ma acc.length mc], .int .i64 0]) (by simp [results, Try.results16, go_sem, ez0, ez1]) rfl ?_
        rw [e.out]
        exact ⟨ma, mc, rfl, hO4.out, hB4.out⟩
      have c0i : ¬ (zs.length : Int) = 0 := by omega
      by_cases c32 : acc.length = 32
      case pos =>
        have eT := hd.out.trans (tkS_32 c0 c32)
        have e := hid (hG2.out.trans (if_pos (by rw [eT]; simp)))
        rw [eT] at e
        have r6 := r5
        have c32i : (acc.length : Int) = 32 := by omega
        have y0 := held_cell r6 0 _ rfl
        have y1 := held_cell r6 1 _ rfl
        have f0 := held_free r6 0
        have f1 := held_free r6 1
        obtain ⟨W4, hW4, ya, yO⟩ := st2 r6 (.int .i64 0) (.slice none 0 0)
        have ez0 := held_cell ya 0 _ rfl
        have ez1 := held_cell ya 1 _ rfl
        have hB4 := hid (belowS hB5.out yO np0)
        clear yO ya hd eT
        go_wp2_with fail
        refine (kl.out _ hR.out).mono ?_
        rintro e9 V ⟨rfl, hv⟩
        obtain rfl : wr = V := hv.symm
        clear hv
        go_wp2_with fail
        try rw [Exit.noGoto_ret]
        refine bodyPost_ret (v := .tuple #[.agg #[.int .i64 0, .slice none 0 0], .int .i64 7]) (by simp [results, Try.results16, go_sem, ez0, ez1]) rfl ?_
        rw [e.out]
        exact VtOk.no hB4.out
      have c32i : ¬ (acc.length : Int) = 32 := by omega
      have kp := hid (fun W h => pair_any B w.heap.size zs W h hzz.out (by omega) nBw)
      have hpe := pairS_e zs
      have hno := fun h => hd.out.trans (tkS_no c0 c32 h)
      have hon := fun h => hd.out.trans (tkS_on c0 c32 h)
      clear hd
      obtain ⟨⟨⟨key, val⟩, pe⟩, hp⟩ : ∃ q, pairS zs = q := ⟨_, rfl⟩
      rw [hp] at kp hpe hno hon
      dsimp only at kp hpe hno hon
      obtain ⟨n, hn⟩ : ∃ n, pairN zs = n := ⟨_, rfl⟩
      rw [hn] at kp hon
      have hn4 : 4 ≤ n := hn ▸ pairN_4 zs
      clear hn hp
      replace hno := hid hno
      replace hon := hid hon
      have z0r := r5
      replace r5 := hid r5
      go_wp2_with fail
      refine (kl.out _ hR.out).mono ?_
      rintro e9 V ⟨rfl, hv⟩
      obtain rfl : wr = V := hv.symm
      clear hv
      go_wp2_with fail
      refine (kp.out _ hR.out).mono ?_
      rintro e9 V4 ⟨rfl, hRn, hBr⟩
      have q8 := hBr.2.held q7 (fun e2 => nB6 (Option.some.inj e2))
      have r6 := hBr.2.held r5.out (fun e2 => nB0 (Option.some.inj e2))
      have hB6 := hid (hB5.out.trans hBr.1)
      have hRl := hR.out.ltv
      have hkp := fun g (hg : (Value.slice ma acc.length mc).ownBlock = some g) => hBr.2.block g (hO.out.lt g hg).2.1 (fun e2 => by cases e2; obtain ⟨_, _, h1, _⟩ := hR.out; exact hO.out.ne h1 (by decide) hg)
      have hO6 := hid (hO.out.kept (w' := V4) hkp)
      have hC6 := hid (hC.out.kept (w' := V4) hkp)
      clear hkp
      have sV4 := hBr.2.size
      clear hBr hR q7 r5 z0r hB5 hO z0 z1 kp kl
      have nA8 := alloc_new V4 (.cells #[.int .i64 key, .int .i64 val] 43)
      have hA8 := nA8.2.1
      have q9 := nA8.2.2
      obtain ⟨t8, ht8⟩ : ∃ q, V4.heap.size = q := ⟨_, rfl⟩
      rw [ht8] at q9
      have q10 := held_after hA8 q8
      have r7 := held_after hA8 r6
      have hB7 := hid (hB6.out.trans (hA8.mono hB6.out.size))
      have hO7 := hid (hO6.out.below hA8)
      have hC7 := hid (hC6.out.kept (w' := V4.alloc (.cells #[.int .i64 key, .int .i64 val] 43)) (fun g hg => hA8.block g (hO6.out.lt g hg).2.1))
      have hRn7 := hid (fun h => (hRn h).aftv hA8)
      clear nA8 hA8 q8 r6 hB6 hO6 hC6 hRn
      go_upto_region 12 with (fail)
      try rw [ht8]
      obtain ⟨W8, hW8⟩ : ∃ W, V4.alloc (.cells #[.int .i64 key, .int .i64 val] 43) = W := ⟨_, rfl⟩
      rw [hW8] at q9 q10 r7 hB7 hO7 hC7 hRn7 ⊢
      clear hW8 ht8
      by_cases hpn : pe = 0
      case neg =>
        have eT := hno.out hpn
        have e := hid (hG2.out.trans (if_pos (by rw [eT]; exact hpn)))
        rw [eT] at e
        have hnz : (pe != 0) = true := by simp [hpn]
        clear eT hno hon
        have y0 := held_cell r7 0 _ rfl
        have y1 := held_cell r7 1 _ rfl
        have f0 := held_free r7 0
        have f1 := held_free r7 1
        obtain ⟨W4, hW4, ya, yO⟩ := st2 r7 (.int .i64 0) (.slice none 0 0)
        have ez0 := held_cell ya 0 _ rfl
        have ez1 := held_cell ya 1 _ rfl
        have hB4 := hid (belowS hB7.out yO np0)
        clear yO ya
        go_wp2_with fail
        try rw [Exit.noGoto_ret]
        refine bodyPost_ret (v := .tuple #[.agg #[.int .i64 0, .slice none 0 0], .int .i64 pe]) (by simp [results, Try.results16, go_sem, ez0, ez1]) rfl ?_
        rw [e.out]
        exact VtOk.no hB4.out
      subst hpn
      have hd2 := hon.out rfl
      have hR8 := hid (hRn7.out rfl)
      clear hno hon hRn7
      have z0 := held_cell q10 0 _ rfl
      have z1 := held_cell q10 1 _ rfl
      have p0 := held_cell q9 0 _ rfl
      have p1 := held_cell q9 1 _ rfl
      have hAe := (alloc_new W8 (.cells #[.int .i64 key, .int .i64 val] 43)).2.1
      have hEe := hid (els_one W8 #[.int .i64 key, .int .i64 val] 43 2 rfl)
      have hO8 := hid (hO7.out.below hAe)
      have hC8 := hid (hC7.out.kept (w' := W8.alloc (.cells #[.int .i64 key, .int .i64 val] 43)) (fun g hg => hAe.block g (hO7.out.lt g hg).2.1))
      have q11 := held_after hAe q10
      have r8 := held_after hAe r7
      have hR9 := hid (hR8.out.aftv hAe)
      have hB8 := hid (hB7.out.trans (hAe.mono hB7.out.size))
      have sb8 := hB8.out.size
      clear hAe hO7 hC7 r7 hR8 hB7
      go_wp2_with (first | (at_builtin; refine wpList_appP rfl (.tmp 50) (.tmp 52) 22 rfl w.heap.size 43 2 16 pairO (by decide) (.slice ma acc.length mc) acc.length (prsV acc).flatten rfl hO8.out (some ⟨_, 0, none⟩) 1 1 [prV (key, val)] rfl hEe.out (prsV_1 [(key, val)]) (by unfold maxLen; omega) (by omega) sb8 ?_))
      intro a9 c9 W9 hO9 hG9 hN9 hP9
      have hC9 := hP9 NoB nob_zero hC8.out (nob_prs acc) (nob_prs [(key, val)])
      clear hP9
      have q12 := (hG9.block t6 (held_lt q11) (fun e2 => hO8.out.ne q11 (by decide) e2.symm)).trans q11
      have r9 := (hG9.block p0_0 (held_lt r8) (fun e2 => hO8.out.ne r8 (by decide) e2.symm)).trans r8
      have hR10 : Rdr B W9 (zs.drop n) := by obtain ⟨xa, xc, h1, h2⟩ := hR9.out; exact ⟨xa, xc, (hG9.block B (held_lt h1) (fun e2 => hO8.out.ne h1 (by decide) e2.symm)).trans h1, sl_app h2 hG9 hO8.out hC8.out⟩
      have hB9 := hB8.out.grown hG9 sb8 (fun k2 e2 => (hO8.out.lt k2 e2).1)
      have z3 := held_cell q12 1 _ rfl
      have f3 := held_free q12 1
      obtain ⟨S1, hS1, s1, o1⟩ := st1 q12 1 (.slice a9 (acc.length + 1) c9)
      have hfin := hid (show OwnE 43 S1 w.heap.size 2 (.slice a9 (acc ++ [(key, val)]).length c9) (acc ++ [(key, val)]).length (prsV (acc ++ [(key, val)])).flatten from by rw [List.length_append, show prsV (acc ++ [(key, val)]) = prsV acc ++ [prV (key, val)] from by simp [prsV], List.flatten_append]; exact hO9.kept (fun g hg => o1.block g (fun e2 => by subst e2; exact (hO9.ne q12 (by decide)) hg)))
      have hCf := hid (hC9.kept (w' := S1) (fun g hg => o1.block g (fun e2 => by subst e2; exact (hO9.ne q12 (by decide)) hg)))
      have r10 := hid ((o1.block p0_0 p06).trans r9)
      have hR11 := hid (show Rdr B S1 (zs.drop n) from by obtain ⟨xa, xc, h1, h2⟩ := hR10; exact ⟨xa, xc, (o1.block B (fun e2 => nB6 e2.symm)).trans h1, h2.other q12 (by intro i x hh; rcases i with _ | _ | i <;> simp at hh) (fun b hb => o1.block b hb)⟩)
      have hBf := hid (belowS hB9 o1 n6)
      have s2 := hid (show S1.heap[t6]? = some (.cells #[.int .i64 x1, .slice a9 (acc ++ [(key, val)]).length c9] 24 (0, 0)) from by rw [List.length_append]; exact s1)
      clear hO9 hC9 hG9 hN9 q12 r9 hR10 hB9 o1 s1 q11 r8 hR9 hB8 hO8 hC8 hEe q9 q10
      have hd3 := hid (show tkS 33 (bs.drop 4) [] = tkS (33 - (acc ++ [(key, val)]).length) (zs.drop n) (acc ++ [(key, val)]) from by rw [hd2, List.length_append]; congr 1; simp; omega)
      clear hd2
      go_wp2_with fail
      go_roundw
      case rel => exact ⟨zs.drop n, acc ++ [(key, val)], a9, c9, hR11.out, s2.out, hfin.out, by rw [List.length_append]; exact hCf.out, r10.out, hd3, by rw [List.length_append]; simp; omega, by rw [List.length_drop]; omega, fun x hx => hzz.out x (List.mem_of_mem_drop hx), hBf.out⟩
      case measure => rw [cnt1_at s2.out, List.length_append]; simp; omega
  · have hc4 : (4 : Int) < bc := by omega
    have hSd := hid ((hS0.out.drop 4 (by omega)).below hB4.out)
    rw [show Option.map (fun x : Addr => x.add 4) (some ⟨b, off, none⟩) = some ⟨b, off + 4, none⟩ from rfl] at hSd
    go_wp2_with fail
    refine (new_any (some ⟨b, off + 4, none⟩) (bl - 4) (bc - 4) (bs.drop 4) _ (by omega) hSd.out).mono ?_
    rintro e V3 ⟨B, rfl, hBn, hR, hA⟩
    have q7 := held_after hA q6
    have r5 := held_after hA r4
    have hB5 := hid (hB4.out.trans (hA.mono s6))
    have nB6 : t6 ≠ B := by have := held_lt q6; omega
    have nB0 : p0_0 ≠ B := by have := held_lt r4; omega
    have nBw : w.heap.size ≤ B := by omega
    have hzd := hid (fun x hx => hz.out x (List.mem_of_mem_drop (i := 4) hx))
    replace hR := hid hR
    clear hA q6 r4 hB4 hSd
    go_wp2_with fail
    try go_step3
    go_wp2_with fail
    go_loopw [9] (fun _ wr => ∃ (zs : List Int) (acc : List (Int × Int)) (ma : Option Addr) (mc : Nat), Rdr B wr zs ∧ wr.heap[t6]? = some (.cells #[.int .i64 x1, .slice ma acc.length mc] 24 (0, 0)) ∧ OwnE 43 wr w.heap.size 2 (.slice ma acc.length mc) acc.length (prsV acc).flatten ∧ AllC NoB wr (.slice ma acc.length mc) ∧ wr.heap[p0_0]? = some (.cells #[.int .i64 0, .slice none 0 0] 24 (0, 0)) ∧ Hid (tkS 33 (bs.drop 4) [] = tkS (33 - acc.length) zs acc) ∧ acc.length ≤ 32 ∧ zs.length ≤ 100000 ∧ (∀ x ∈ zs, (Lit.int .u8 x).wf = true) ∧ Below w.heap.size w wr) (fun _ wr => cnt1 wr t6)
    case atStart => exact ⟨bs.drop 4, [], none, 0, hR.out, q7, OwnE.nil _ _ _ _, AllC.nil _ _, r5, hid rfl, by decide, by rw [List.length_drop]; have := hl0.out; omega, hzd.out, hB5.out⟩
    case round =>
      clear hR q7 r5 hB5 hzd
      obtain ⟨zs, acc, ma, mc, hR, q7, hO, hC, r5, hd, h32, hzl, hzz, hB5⟩ := hrel
      have kl := hid (fun W h => rleft_v B zs W h)
      have hms : cnt1 wr t6 = 33 - acc.length := cnt1_at q7
      rw [hms]
      clear hms
      obtain ⟨f, hf⟩ : ∃ f, 33 - acc.length = f + 1 := ⟨32 - acc.length, by omega⟩
      have hlf : f = 32 - acc.length := by omega
      rw [hf] at hd ⊢
      replace hR := hid hR
      replace hO := hid hO
      replace hC := hid hC
      replace hzz := hid hzz
      replace hB5 := hid hB5
      have z0 := held_cell q7 0 _ rfl
      have z1 := held_cell q7 1 _ rfl
      by_cases c0 : zs.length = 0
      case pos =>
        have eT := hd.out.trans (tkS_0 c0)
        have e := hid (hG2.out.trans (if_neg (by rw [eT]; simp)))
        rw [eT] at e
        have c0i : (zs.length : Int) = 0 := by omega
        have r6 := r5
        have y0 := held_cell r6 0 _ rfl
        have y1 := held_cell r6 1 _ rfl
        have f0 := held_free r6 0
        have f1 := held_free r6 1
        obtain ⟨W4, hW4, ya, yO⟩ := st2 r6 (.int .i64 x1) (.slice ma acc.length mc)
        have ez0 := held_cell ya 0 _ rfl
        have ez1 := held_cell ya 1 _ rfl
        have hB4 := hid (belowS hB5.out yO np0)
        have hO4 := hid ((hO.out.kept (w' := W4) (fun g hg => yO.block g (fun e2 => by subst e2; exact (hO.out.ne r6 (by decide)) hg))).els (by simp [prsV]) (prsV_m acc))
        clear yO ya hd eT
        go_wp2_with fail
        refine (kl.out _ hR.out).mono ?_
        rintro e9 V ⟨rfl, hv⟩
        obtain rfl : wr = V := hv.symm
        clear hv
        go_wp2_with fail
        try rw [Exit.noGoto_ret]
        refine bodyPost_ret (v := .tuple #[.agg #[.int .i64 x1, .slice ma acc.length mc], .int .i64 0]) (by simp [results, Try.results16, go_sem, ez0, ez1]) rfl ?_
        rw [e.out]
        exact ⟨ma, mc, rfl, hO4.out, hB4.out⟩
      have c0i : ¬ (zs.length : Int) = 0 := by omega
      by_cases c32 : acc.length = 32
      case pos =>
        have eT := hd.out.trans (tkS_32 c0 c32)
        have e := hid (hG2.out.trans (if_pos (by rw [eT]; simp)))
        rw [eT] at e
        have r6 := r5
        have c32i : (acc.length : Int) = 32 := by omega
        have y0 := held_cell r6 0 _ rfl
        have y1 := held_cell r6 1 _ rfl
        have f0 := held_free r6 0
        have f1 := held_free r6 1
        obtain ⟨W4, hW4, ya, yO⟩ := st2 r6 (.int .i64 0) (.slice none 0 0)
        have ez0 := held_cell ya 0 _ rfl
        have ez1 := held_cell ya 1 _ rfl
        have hB4 := hid (belowS hB5.out yO np0)
        clear yO ya hd eT
        go_wp2_with fail
        refine (kl.out _ hR.out).mono ?_
        rintro e9 V ⟨rfl, hv⟩
        obtain rfl : wr = V := hv.symm
        clear hv
        go_wp2_with fail
        try rw [Exit.noGoto_ret]
        refine bodyPost_ret (v := .tuple #[.agg #[.int .i64 0, .slice none 0 0], .int .i64 7]) (by simp [results, Try.results16, go_sem, ez0, ez1]) rfl ?_
        rw [e.out]
        exact VtOk.no hB4.out
      have c32i : ¬ (acc.length : Int) = 32 := by omega
      have kp := hid (fun W h => pair_any B w.heap.size zs W h hzz.out (by omega) nBw)
      have hpe := pairS_e zs
      have hno := fun h => hd.out.trans (tkS_no c0 c32 h)
      have hon := fun h => hd.out.trans (tkS_on c0 c32 h)
      clear hd
      obtain ⟨⟨⟨key, val⟩, pe⟩, hp⟩ : ∃ q, pairS zs = q := ⟨_, rfl⟩
      rw [hp] at kp hpe hno hon
      dsimp only at kp hpe hno hon
      obtain ⟨n, hn⟩ : ∃ n, pairN zs = n := ⟨_, rfl⟩
      rw [hn] at kp hon
      have hn4 : 4 ≤ n := hn ▸ pairN_4 zs
      clear hn hp
      replace hno := hid hno
      replace hon := hid hon
      have z0r := r5
      replace r5 := hid r5
      go_wp2_with fail
      refine (kl.out _ hR.out).mono ?_
      rintro e9 V ⟨rfl, hv⟩
      obtain rfl : wr = V := hv.symm
      clear hv
      go_wp2_with fail
      refine (kp.out _ hR.out).mono ?_
      rintro e9 V4 ⟨rfl, hRn, hBr⟩
      have q8 := hBr.2.held q7 (fun e2 => nB6 (Option.some.inj e2))
      have r6 := hBr.2.held r5.out (fun e2 => nB0 (Option.some.inj e2))
      have hB6 := hid (hB5.out.trans hBr.1)
      have hRl := hR.out.ltv
      have hkp := fun g (hg : (Value.slice ma acc.length mc).ownBlock = some g) => hBr.2.block g (hO.out.lt g hg).2.1 (fun e2 => by cases e2; obtain ⟨_, _, h1, _⟩ := hR.out; exact hO.out.ne h1 (by decide) hg)
      have hO6 := hid (hO.out.kept (w' := V4) hkp)
      have hC6 := hid (hC.out.kept (w' := V4) hkp)
      clear hkp
      have sV4 := hBr.2.size
      clear hBr hR q7 r5 z0r hB5 hO z0 z1 kp kl
      have nA8 := alloc_new V4 (.cells #[.int .i64 key, .int .i64 val] 43)
      have hA8 := nA8.2.1
      have q9 := nA8.2.2
      obtain ⟨t8, ht8⟩ : ∃ q, V4.heap.size = q := ⟨_, rfl⟩
      rw [ht8] at q9
      have q10 := held_after hA8 q8
      have r7 := held_after hA8 r6
      have hB7 := hid (hB6.out.trans (hA8.mono hB6.out.size))
      have hO7 := hid (hO6.out.below hA8)
      have hC7 := hid (hC6.out.kept (w' := V4.alloc (.cells #[.int .i64 key, .int .i64 val] 43)) (fun g hg => hA8.block g (hO6.out.lt g hg).2.1))
      have hRn7 := hid (fun h => (hRn h).aftv hA8)
      clear nA8 hA8 q8 r6 hB6 hO6 hC6 hRn
      go_upto_region 12 with (fail)
      try rw [ht8]
      obtain ⟨W8, hW8⟩ : ∃ W, V4.alloc (.cells #[.int .i64 key, .int .i64 val] 43) = W := ⟨_, rfl⟩
      rw [hW8] at q9 q10 r7 hB7 hO7 hC7 hRn7 ⊢
      clear hW8 ht8
      by_cases hpn : pe = 0
      case neg =>
        have eT := hno.out hpn
        have e := hid (hG2.out.trans (if_pos (by rw [eT]; exact hpn)))
        rw [eT] at e
        have hnz : (pe != 0) = true := by simp [hpn]
        clear eT hno hon
        have y0 := held_cell r7 0 _ rfl
        have y1 := held_cell r7 1 _ rfl
        have f0 := held_free r7 0
        have f1 := held_free r7 1
        obtain ⟨W4, hW4, ya, yO⟩ := st2 r7 (.int .i64 0) (.slice none 0 0)
        have ez0 := held_cell ya 0 _ rfl
        have ez1 := held_cell ya 1 _ rfl
        have hB4 := hid (belowS hB7.out yO np0)
        clear yO ya
        go_wp2_with fail
        try rw [Exit.noGoto_ret]
        refine bodyPost_ret (v := .tuple #[.agg #[.int .i64 0, .slice none 0 0], .int .i64 pe]) (by simp [results, Try.results16, go_sem, ez0, ez1]) rfl ?_
        rw [e.out]
        exact VtOk.no hB4.out
      subst hpn
      have hd2 := hon.out rfl
      have hR8 := hid (hRn7.out rfl)
      clear hno hon hRn7
      have z0 := held_cell q10 0 _ rfl
      have z1 := held_cell q10 1 _ rfl
      have p0 := held_cell q9 0 _ rfl
      have p1 := held_cell q9 1 _ rfl
      have hAe := (alloc_new W8 (.cells #[.int .i64 key, .int .i64 val] 43)).2.1
      have hEe := hid (els_one W8 #[.int .i64 key, .int .i64 val] 43 2 rfl)
      have hO8 := hid (hO7.out.below hAe)
      have hC8 := hid (hC7.out.kept (w' := W8.alloc (.cells #[.int .i64 key, .int .i64 val] 43)) (fun g hg => hAe.block g (hO7.out.lt g hg).2.1))
      have q11 := held_after hAe q10
      have r8 := held_after hAe r7
      have hR9 := hid (hR8.out.aftv hAe)
      have hB8 := hid (hB7.out.trans (hAe.mono hB7.out.size))
      have sb8 := hB8.out.size
      clear hAe hO7 hC7 r7 hR8 hB7
      go_wp2_with (first | (at_builtin; refine wpList_appP rfl (.tmp 50) (.tmp 52) 22 rfl w.heap.size 43 2 16 pairO (by decide) (.slice ma acc.length mc) acc.length (prsV acc).flatten rfl hO8.out (some ⟨_, 0, none⟩) 1 1 [prV (key, val)] rfl hEe.out (prsV_1 [(key, val)]) (by unfold maxLen; omega) (by omega) sb8 ?_))
      intro a9 c9 W9 hO9 hG9 hN9 hP9
      have hC9 := hP9 NoB nob_zero hC8.out (nob_prs acc) (nob_prs [(key, val)])
      clear hP9
      have q12 := (hG9.block t6 (held_lt q11) (fun e2 => hO8.out.ne q11 (by decide) e2.symm)).trans q11
      have r9 := (hG9.block p0_0 (held_lt r8) (fun e2 => hO8.out.ne r8 (by decide) e2.symm)).trans r8
      have hR10 : Rdr B W9 (zs.drop n) := by obtain ⟨xa, xc, h1, h2⟩ := hR9.out; exact ⟨xa, xc, (hG9.block B (held_lt h1) (fun e2 => hO8.out.ne h1 (by decide) e2.symm)).trans h1, sl_app h2 hG9 hO8.out hC8.out⟩
      have hB9 := hB8.out.grown hG9 sb8 (fun k2 e2 => (hO8.out.lt k2 e2).1)
      have z3 := held_cell q12 1 _ rfl
      have f3 := held_free q12 1
      obtain ⟨S1, hS1, s1, o1⟩ := st1 q12 1 (.slice a9 (acc.length + 1) c9)
      have hfin := hid (show OwnE 43 S1 w.heap.size 2 (.slice a9 (acc ++ [(key, val)]).length c9) (acc ++ [(key, val)]).length (prsV (acc ++ [(key, val)])).flatten from by rw [List.length_append, show prsV (acc ++ [(key, val)]) = prsV acc ++ [prV (key, val)] from by simp [prsV], List.flatten_append]; exact hO9.kept (fun g hg => o1.block g (fun e2 => by subst e2; exact (hO9.ne q12 (by decide)) hg)))
      have hCf := hid (hC9.kept (w' := S1) (fun g hg => o1.block g (fun e2 => by subst e2; exact (hO9.ne q12 (by decide)) hg)))
      have r10 := hid ((o1.block p0_0 p06).trans r9)
      have hR11 := hid (show Rdr B S1 (zs.drop n) from by obtain ⟨xa, xc, h1, h2⟩ := hR10; exact ⟨xa, xc, (o1.block B (fun e2 => nB6 e2.symm)).trans h1, h2.other q12 (by intro i x hh; rcases i with _ | _ | i <;> simp at hh) (fun b hb => o1.block b hb)⟩)
      have hBf := hid (belowS hB9 o1 n6)
      have s2 := hid (show S1.heap[t6]? = some (.cells #[.int .i64 x1, .slice a9 (acc ++ [(key, val)]).length c9] 24 (0, 0)) from by rw [List.length_append]; exact s1)
      clear hO9 hC9 hG9 hN9 q12 r9 hR10 hB9 o1 s1 q11 r8 hR9 hB8 hO8 hC8 hEe q9 q10
      have hd3 := hid (show tkS 33 (bs.drop 4) [] = tkS (33 - (acc ++ [(key, val)]).length) (zs.drop n) (acc ++ [(key, val)]) from by rw [hd2, List.length_append]; congr 1; simp; omega)
      clear hd2
      go_wp2_with fail
      go_roundw
      case rel => exact ⟨zs.drop n, acc ++ [(key, val)], a9, c9, hR11.out, s2.out, hfin.out, by rw [List.length_append]; exact hCf.out, r10.out, hd3, by rw [List.length_append]; simp; omega, by rw [List.length_drop]; omega, fun x hx => hzz.out x (List.mem_of_mem_drop hx), hBf.out⟩
      case measure => rw [cnt1_at s2.out, List.length_append]; simp; omega

end Go.Proofs.Ytdgmmndklmomkaa
