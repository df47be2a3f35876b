/- Package sats: Take. -/
import Derived.Test.YtahjcbdofljfpaaSats8
import Derived.Test.YtahjcbdofljfpaaSats3
import Derived.Test.YtahjcbdofljfpaaRange4
import Derived.Deep.DeepCutAuto
namespace Go.Proofs.Ytahjcbdofljfpaa
open Go.ChangeShapes Go.WideShapes Go.ChangeAt Go.RowKit
set_option linter.unusedVariables false
set_option linter.unusedSimpArgs false

theorem wp_then {P : Program} {K : Act → World → Prop} {Q : Exit → Act → World → Prop} {c : Code} {a : Act} {w : World} (h : c.wp P (fun e a w => e = .normal ∧ K a w) a w) : c.wp P (Exit.then K Q) a w := Code.wp_mono (fun e a w he => by obtain ⟨rfl, hk⟩ := he; exact hk) h
theorem ownE_put {E : TypeId} {W : World} {base m D : Nat} {v : Value} {n : Nat} {xs : List Value} (h : OwnE E W base m v n xs) (hK : W.heap[D]? = some (.deferred (some []))) (o : Obj) : OwnE E (W.putObj D o) base m v n xs :=
  h.kept (fun g hg => by
    obtain ⟨_, _, cur, hc⟩ := h.lt g hg
    exact World.putObj_heap_other (fun e => by subst e; rw [hc] at hK; cases hK))
def StOk (w : World) (r : Int × List (List Int) × Int) (e : Ending) (w' : World) : Prop := ∃ (a : Option Addr) (cap : Nat), e = .returned (.tuple #[.agg #[.int .i64 r.1, .slice a r.2.1.length cap], .int .i64 r.2.2]) ∧ Els w' 7 a r.2.1.length cap (satsV r.2.1) ∧ After w w'
theorem StOk.no {w w' : World} {n : Int} (h : After w w') : StOk w (0, [], n) (.returned (.tuple #[.agg #[.int .i64 0, .slice none 0 0], .int .i64 n])) w' := ⟨none, 0, rfl, Els.nil _ _, h⟩
theorem sat_one (x : List Int) : ∀ y ∈ [satV x], ∀ u ∈ y, u.oneCell' = true := by
  intro y hy u hu
  obtain rfl := List.mem_singleton.1 hy
  obtain ⟨z, _, rfl⟩ := List.mem_map.1 hu
  rfl
theorem sat_gv {xL : List Int} (h : xL.length = 7) : satV [gv xL 0, gv xL 1, gv xL 2, gv xL 3, gv xL 4, gv xL 5, gv xL 6] = satV xL := by
  obtain ⟨x0, x1, x2, x3, x4, x5, x6, rfl⟩ := list7 h
  rfl
theorem satsV_snoc (l : List (List Int)) (x : List Int) : (satsV (l ++ [x])).flatten = (satsV l).flatten ++ [satV x].flatten := by
  unfold satsV
  rw [List.map_append, List.flatten_append]
  rfl
theorem satsV_m {l : List (List Int)} (h : ∀ x ∈ l, x.length = 7) : ∀ x ∈ satsV l, x.length = 7 := by
  intro x hx
  obtain ⟨y, hy, rfl⟩ := List.mem_map.1 hx
  unfold satV
  rw [List.length_map, h y hy]
attribute [local go_sem] Oper.semAt_some
set_option maxRecDepth 100000 in
set_option maxHeartbeats 8000000 in
theorem takeS_any (ba : Option Addr) (bl bc : Nat) (bs : List Int) (w : World) (hS : Sl .u8 w ba bl bc bs) (hz : ∀ x ∈ bs, (Lit.int .u8 x).wf = true) (hbl : bl ≤ 10000) : Calls Try.prog 12 #[.slice ba bl bc] w (StOk w (takSS bs)) := by
  obtain ⟨r, hr⟩ : ∃ r, takSS bs = r := ⟨_, rfl⟩
  rw [hr]
  have hl0 := hid hS.1
  have hcc := hS.2.1
  have hcm : bc ≤ 9223372036854775807 := Nat.le_trans hS.2.2.1 (by decide)
  have hbk : ∀ b off, ba = some ⟨b, off, none⟩ → 0 < bl → b < w.heap.size := by
    intro b off e h
    obtain ⟨b2, o2, e2, g⟩ := hS.2.2.2.2 0 (by rw [hS.1]; exact h)
    rw [e] at e2
    cases e2
    exact World.block_lt_of_cell? w _ g
  replace hbk := hid hbk
  have hS0 := hid hS
  clear hS
  replace hz := hid hz
  refine calls_of_marks Try.func12 rfl ?_
  simp only [Try.ntmps12, List.size_toArray, List.length_cons, List.length_nil, Nat.reduceAdd, Nat.reduceSub, Array.replicate_succ, Array.replicate_zero, List.push_toArray, List.append_toArray, List.nil_append, List.cons_append]
  go_upto_region 0 with (fail)
  apply wp_region_seg0 (w := w) (S := [.al 1000, .al 1000]) (E := [.al ((fun p => .pointer (some ⟨p, 0, none⟩)), _) 1000, .al ((fun p => .pointer (some ⟨p, 0, none⟩)), _) 1000]) rfl (by kernel_rfl) rfl rfl
  intro th hge hne
  refine Seg.step _ rfl ⟨by rfl, fun U hU => ?_⟩ ?_
  · go_simp; exact vp_alloc rfl rfl rfl
  refine ⟨_, by (simp only [Ent.val]; go_simp <;> exact rfl), ?_⟩
  refine Seg.step _ rfl ⟨by rfl, fun U hU => ?_⟩ ?_
  · go_simp; exact vp_alloc rfl rfl rfl
  refine ⟨_, by (simp only [Ent.val]; go_simp <;> exact rfl), ?_⟩
  refine Seg.stop (fun U1 hU hk => ?_)
  have nb0 := hge 0 _ _ rfl
  have rb0 := (hk 0 _ _ rfl trivial).1.2 (by simp)
  have nb1 := hge 1 _ _ rfl
  have rb1 := (hk 1 _ _ rfl trivial).1.2 (by simp)
  have ne0_1 := hne 0 1 _ _ _ _ rfl rfl (by omega)
  clear hk hge hne
  generalize th (0 + 0) = p0_0 at *
  dsimp only at rb0
  generalize th (0 + 1) = p0_1 at *
  dsimp only at rb1
  have r_p0_0 := rb0
  clear rb0
  have n_p0_0 := nb0
  clear nb0
  have d_p0_0_p0_1 := ne0_1
  clear ne0_1
  have r_p0_1 := rb1
  clear rb1
  have n_p0_1 := nb1
  clear nb1
  have sz1 := hU.size
  have hB : Below w.heap.size w U1 := hU
  clear hU
  have n0 := n_p0_0
  have n1 := n_p0_1
  have d01 := d_p0_0_p0_1
  have hBs := hB.size
  replace hB := hid hB
  by_cases c8 : (bl : Int) < 8
  case pos =>
    have e := hid (show r = (0, [], 2) by rw [← hr]; unfold takSS; rw [if_pos (by have := hl0.out; omega)])
    clear hr
    have y0 := held_cell r_p0_0 0 _ rfl
    have y1 := held_cell r_p0_0 1 _ rfl
    have f0 := held_free r_p0_0 0
    have f1 := held_free r_p0_0 1
    obtain ⟨W4, hW4, ya, yO⟩ := st2 r_p0_0 (.int .i64 0) (.slice none 0 0)
    have q1 := (yO.block p0_1 (Ne.symm d01)).trans r_p0_1
    have y2 := held_cell q1 0 _ rfl
    have f2 := held_free q1 0
    obtain ⟨W5, hW5, yb, yP⟩ := st1 q1 0 (.int .i64 2)
    have ya5 := (yP.block p0_0 d01).trans ya
    have ez0 := held_cell ya5 0 _ rfl
    have ez1 := held_cell ya5 1 _ rfl
    have ez2 := held_cell yb 0 _ rfl
    have hB4 := hid (belowS (belowS hB.out yO n0) yP n1)
    clear ya yb ya5 yO yP q1
    go_wp2_with fail
    exact marks_ret0 (v := .tuple #[.agg #[.int .i64 0, .slice none 0 0], .int .i64 2]) (by simp [results, Try.results12, go_sem, ez0, ez1, ez2]) (by rw [e.out]; exact StOk.no hB4.out)
  have c8n : ¬ bs.length < 8 := by have := hl0.out; omega
  obtain ⟨⟨P, he⟩, hq⟩ : ∃ q, takL HD17 (bs.take 8) = q := ⟨_, rfl⟩
  have hG : r = if he ≠ 0 then (0, [], he) else if bs.length < 8 + 12 * (P.getD 2 0).toNat then (0, [], 2) else if 8 + 12 * (P.getD 2 0).toNat < bs.length then (0, [], 7) else if errJ (tpc (P.getD 2 0).toNat (bs.drop 8)) = 0 then (P.getD 0 0, (tpc (P.getD 2 0).toNat (bs.drop 8)).map Prod.fst, 0) else (0, [], errJ (tpc (P.getD 2 0).toNat (bs.drop 8))) := by rw [← hr]; unfold takSS nS17; rw [if_neg c8n, hq]
  have te := takF_e (fN HD17) (fS HD17) (fL HD17) (fH HD17) HD17.length (bs.take 8)
  change 0 ≤ (takL HD17 (bs.take 8)).2 ∧ (takL HD17 (bs.take 8)).2 ≤ 9 at te
  rw [hq] at te
  dsimp only at te
  have hH := hid (fun h : he = 0 => head17 (h ▸ hq))
  replace hG := hid hG
  replace hq := hid hq
  clear hr
  obtain ⟨b, off, rfl⟩ : ∃ b off, ba = some ⟨b, off, none⟩ := by obtain ⟨b, off, e, _⟩ := hS0.out.2.2.2.2 0 (by have := hl0.out; omega); exact ⟨b, off, e⟩
  have hblt := hbk.out b off rfl (by omega)
  have hS8 := hid ((hS0.out.take 8 (by omega)))
  have hb8c : (8 : Int) ≤ bc := by omega
  have hb8l : (8 : Int) ≤ bl := by omega
  go_upto_region 3 with (fail)
  have r0 := (show U1.drew.heap[p0_0]? = _ from r_p0_0)
  have r1 := (show U1.drew.heap[p0_1]? = _ from r_p0_1)
  have hB1 := hid hB.out.drew
  clear hB r_p0_0 r_p0_1
  refine wp_then ?_
  refine wp_region_R (by kernel_rfl) ?_
  refine wpAnyR_take 1 rfl (by kernel_rfl) (by kernel_rfl) (by kernel_rfl) (fun _ _ _ _ h => by cases h.1) ⟨_, Or.inl ⟨by rfl, fun w2 hb2 => by (go_simp; try with_reducible rfl)⟩, _, by (go_simp; try rfl), ?_⟩
  refine wpAnyR_take 2 rfl (by kernel_rfl) (by kernel_rfl) (by kernel_rfl) (fun _ _ _ _ h => by cases h.1) ⟨_, Or.inl ⟨by rfl, fun w2 hb2 => by (go_simp; try with_reducible rfl)⟩, _, by (go_simp; try rfl), ?_⟩
  refine wpAnyR_only 0 rfl (by kernel_rfl) (by rfl) (fun K hK => ?_)
  go_simp
  refine (fieldsH17 _).mono ?_
  rintro e V1 ⟨fa, fc, rfl, hF, hA⟩
  go_simp
  refine hK _ _ ⟨hA, ?_⟩
  clear hK
  replace r0 := held_after hA r0
  replace r1 := held_after hA r1
  have hB2 := hid (hB1.out.trans (hA.mono (show w.heap.size ≤ U1.drew.heap.size from hBs)))
  have sV1 := hB2.out.size
  replace hF := hid hF
  clear hA hB1
  refine wpAnyR_only 3 rfl (by kernel_rfl) (by rfl) (fun K hK => ?_)
  go_simp
  refine (stake_any fa 4 fc (fN HD17) (fS HD17) (fL HD17) (fH HD17) (some ⟨b, off, none⟩) 8 bc (bs.take 8) _ hF.out (hS8.out.below hB2.out) (fun x hx => hz.out x (List.mem_of_mem_take hx)) (by omega) (by omega)).mono ?_
  rintro e V2 ⟨ra, rc, rfl, hO, hA⟩
  have e1 : (takF (fN HD17) (fS HD17) (fL HD17) (fH HD17) 4 (bs.take 8)) = (P, he) := hq.out
  rw [e1]
  rw [e1] at hO
  dsimp only at hO ⊢
  clear e1
  go_simp
  refine hK _ _ ⟨hA, ?_⟩
  clear hK
  replace r0 := held_after hA r0
  replace r1 := held_after hA r1
  have hB3 := hid (hB2.out.trans (hA.mono sV1))
  replace hO := hid hO
  clear hA hB2 hF
  refine wpAnyR_take 4 rfl (by kernel_rfl) (by kernel_rfl) (by kernel_rfl) (fun _ _ _ _ h => by cases h.1) ⟨_, Or.inl ⟨by rfl, fun w2 hb2 => by (go_simp; try with_reducible rfl)⟩, _, by (go_simp; try rfl), ?_⟩
  refine wpAnyR_take 5 rfl (by kernel_rfl) (by kernel_rfl) (by kernel_rfl) (fun _ _ _ _ h => by cases h.1) ⟨_, Or.inl ⟨by rfl, fun w2 hb2 => by (go_simp; try with_reducible rfl)⟩, _, by (go_simp; try rfl), ?_⟩
  refine wpAnyR_take 6 rfl (by kernel_rfl) (by kernel_rfl) (by kernel_rfl) (fun _ _ _ _ h => by cases h.1) ⟨_, Or.inl ⟨by rfl, fun w2 hb2 => by (go_simp; try with_reducible rfl)⟩, _, by (go_simp; try rfl), ?_⟩
  refine wpAnyR_take 7 rfl (by kernel_rfl) (by kernel_rfl) (by kernel_rfl) (fun _ _ _ _ h => by cases h.1) ⟨_, Or.inl ⟨by rfl, fun w2 hb2 => by (go_simp; try with_reducible rfl)⟩, _, by (go_simp; try rfl), ?_⟩
  refine wpAnyR_take 8 rfl (by kernel_rfl) (by kernel_rfl) (by kernel_rfl) (fun _ _ _ _ h => by cases h.1) ⟨_, Or.inl ⟨by rfl, fun w2 hb2 => by (go_simp; try with_reducible rfl)⟩, _, by (go_simp; try rfl), ?_⟩
  refine wpAnyR_done (by kernel_rfl) ?_ _
  refine ⟨rfl, ?_⟩
  have sV2 := hB3.out.size
  by_cases hen : he = 0
  case neg =>
    have e := hid (hG.out.trans (if_pos hen))
    have hnz : (he != 0) = true := by simp [hen]
    have y0 := held_cell r0 0 _ rfl
    have y1 := held_cell r0 1 _ rfl
    have f0 := held_free r0 0
    have f1 := held_free r0 1
    obtain ⟨W4, hW4, ya, yO⟩ := st2 r0 (.int .i64 0) (.slice none 0 0)
    have q1 := (yO.block p0_1 (Ne.symm d01)).trans r1
    have y2 := held_cell q1 0 _ rfl
    have f2 := held_free q1 0
    obtain ⟨W5, hW5, yb, yP⟩ := st1 q1 0 (.int .i64 he)
    have ya5 := (yP.block p0_0 d01).trans ya
    have ez0 := held_cell ya5 0 _ rfl
    have ez1 := held_cell ya5 1 _ rfl
    have ez2 := held_cell yb 0 _ rfl
    have hB4 := hid (belowS (belowS hB3.out yO n0) yP n1)
    clear ya yb ya5 yO yP q1
    go_wp2_with fail
    exact marks_ret0 (v := .tuple #[.agg #[.int .i64 0, .slice none 0 0], .int .i64 he]) (by simp [results, Try.results12, go_sem, ez0, ez1, ez2]) (by rw [e.out]; exact StOk.no hB4.out)
  have hG2 := hG.out.trans (if_neg (by simp [hen]))
  obtain ⟨tow, nn, hPe, hbt, hn0, hn64, -⟩ := hH.out hen
  subst hen hPe
  obtain ⟨N, rfl⟩ : ∃ N : Nat, nn = N := ⟨nn.toNat, by omega⟩
  replace hG2 : Hid (r = if bs.length < 8 + 12 * N then (0, [], 2) else if 8 + 12 * N < bs.length then (0, [], 7) else if errJ (tpc N (bs.drop 8)) = 0 then (tow, (tpc N (bs.drop 8)).map Prod.fst, 0) else (0, [], errJ (tpc N (bs.drop 8)))) := hG2
  rw [hl0.out] at hG2
  obtain ⟨qb, qo, rfl, v0⟩ := hO.out.slf.2.2.2.2 0 (by simp)
  have v2 : V2.cell? ⟨qb, qo + 2, none⟩ = some (.int .i64 N) := by obtain ⟨b9, o9, e9, v9⟩ := hO.out.slf.2.2.2.2 2 (by simp); cases e9; exact v9
  replace v0 : V2.cell? ⟨qb, qo + 0, none⟩ = some (.int .i64 tow) := v0
  rw [Nat.add_zero] at v0
  clear hG hH te hO hq
  have w12 : IntKind.i64.wrap (12 * (N : Int)) = 12 * (N : Int) := by rw [IntKind.wrap_i64]; omega
  have w20 : IntKind.i64.wrap (8 + 12 * (N : Int)) = 8 + 12 * (N : Int) := by rw [IntKind.wrap_i64]; omega
  have hN64 : N ≤ 64 := by omega
  by_cases c5 : (bl : Int) < 8 + 12 * (N : Int)
  case pos =>
    have e := hid (hG2.out.trans (if_pos (by omega)))
    have y0 := held_cell r0 0 _ rfl
    have y1 := held_cell r0 1 _ rfl
    have f0 := held_free r0 0
    have f1 := held_free r0 1
    obtain ⟨W4, hW4, ya, yO⟩ := st2 r0 (.int .i64 0) (.slice none 0 0)
    have q1 := (yO.block p0_1 (Ne.symm d01)).trans r1
    have y2 := held_cell q1 0 _ rfl
    have f2 := held_free q1 0
    obtain ⟨W5, hW5, yb, yP⟩ := st1 q1 0 (.int .i64 2)
    have ya5 := (yP.block p0_0 d01).trans ya
    have ez0 := held_cell ya5 0 _ rfl
    have ez1 := held_cell ya5 1 _ rfl
    have ez2 := held_cell yb 0 _ rfl
    have hB4 := hid (belowS (belowS hB3.out yO n0) yP n1)
    clear ya yb ya5 yO yP q1
    go_wp2_with fail
    exact marks_ret0 (v := .tuple #[.agg #[.int .i64 0, .slice none 0 0], .int .i64 2]) (by simp [results, Try.results12, go_sem, ez0, ez1, ez2]) (by rw [e.out]; exact StOk.no hB4.out)
  by_cases c6 : 8 + 12 * (N : Int) < bl
  case pos =>
    have e := hid ((hG2.out.trans (if_neg (by omega))).trans (if_pos (by omega)))
    have y0 := held_cell r0 0 _ rfl
    have y1 := held_cell r0 1 _ rfl
    have f0 := held_free r0 0
    have f1 := held_free r0 1
    obtain ⟨W4, hW4, ya, yO⟩ := st2 r0 (.int .i64 0) (.slice none 0 0)
    have q1 := (yO.block p0_1 (Ne.symm d01)).trans r1
    have y2 := held_cell q1 0 _ rfl
    have f2 := held_free q1 0
    obtain ⟨W5, hW5, yb, yP⟩ := st1 q1 0 (.int .i64 7)
    have ya5 := (yP.block p0_0 d01).trans ya
    have ez0 := held_cell ya5 0 _ rfl
    have ez1 := held_cell ya5 1 _ rfl
    have ez2 := held_cell yb 0 _ rfl
    have hB4 := hid (belowS (belowS hB3.out yO n0) yP n1)
    clear ya yb ya5 yO yP q1
    go_wp2_with fail
    exact marks_ret0 (v := .tuple #[.agg #[.int .i64 0, .slice none 0 0], .int .i64 7]) (by simp [results, Try.results12, go_sem, ez0, ez1, ez2]) (by rw [e.out]; exact StOk.no hB4.out)
  have hG4 := hid ((hG2.out.trans (if_neg (by omega))).trans (if_neg (by omega)))
  have hbN := hid (show bl = 8 + 12 * N by omega)
  clear hG2
  have nA6 := alloc_new V2 (.cells #[.int .i64 tow, .slice none 0 0] 24)
  have q6 := nA6.2.2
  have hA6 := nA6.2.1
  obtain ⟨t6, ht6⟩ : ∃ q, V2.heap.size = q := ⟨_, rfl⟩
  rw [ht6] at q6
  have r4 := held_after hA6 r0
  have r5 := held_after hA6 r1
  have hB4 := hid (hB3.out.trans (hA6.mono sV2))
  have n6 : w.heap.size ≤ t6 := by omega
  have d06 : p0_0 ≠ t6 := by have := held_lt r0; omega
  have d16 : p0_1 ≠ t6 := by have := held_lt r1; omega
  clear nA6 hA6
  go_upto_region 12 with (fail)
  clear v0 v2
  try rw [ht6]
  obtain ⟨W6, hW6e⟩ : ∃ W, V2.alloc (.cells #[.int .i64 tow, .slice none 0 0] 24) = W := ⟨_, rfl⟩
  rw [hW6e] at q6 r4 r5 hB4 ⊢
  clear hW6e ht6 r0 r1 hB3
  have s6 := hB4.out.size
  have hzd := hid (fun x hx => hz.out x (List.mem_of_mem_drop (i := 8) hx))
  by_cases hce : bc = 8
  · subst hce
    obtain rfl : bl = 8 := by omega
    have hSd := (hS0.out.end 8 (by omega) rfl).below hB4.out
    have hNb := hid (show 8 - 8 = 12 * N by have := hbN.out; omega)
    have aX := alloc_new W6 (.cells #[.slice (some ⟨b, off, none⟩) 0 0] 26)
    obtain ⟨W0, hW0⟩ : ∃ X, W6.alloc (.cells #[.slice (some ⟨b, off, none⟩) 0 0] 26) = X := ⟨_, rfl⟩
    replace hW0 := hid hW0
    obtain ⟨Bx, hBx⟩ : ∃ X, W6.heap.size = X := ⟨_, rfl⟩
    replace hBx := hid hBx
    rw [hW0.out, hBx.out] at aX
    obtain ⟨aX1, aX2, aX3⟩ := aX
    have s0 := hid (held_after aX2 r4)
    have s1 := hid (held_after aX2 r5)
    have s6f := hid (held_after aX2 q6)
    have hB0 := bthen hB4.out aX2
    have hMw := hid hB0.size
    have lt6 := held_lt q6
    have szx := aX2.size
    have hT := hid (taken_tells (some ⟨b, off, none⟩) 0 N 0 (bs.drop 8) t6 W0.heap.size Bx W0 aX1 (Nat.le_refl _) (by have := hBx.out; omega) aX3 (hSd.below aX2) (fun b2 o2 e2 h2 => by cases e2; exact ⟨by omega, by omega⟩) hzd.out hNb.out (by omega))
    have hB1 := hid hB0
    have l0 := held_lt s0.out
    have l1 := held_lt s1.out
    have l6 := held_lt s6f.out
    clear hB4 aX1 aX2 aX3 r4 r5 q6 hB0 hSd szx lt6
    go_wp2_with fail
    refine (taken_any (some ⟨b, off, none⟩) 0 0 _).mono ?_
    rintro e V ⟨rfl, rfl⟩
    rw [hW0.out, hBx.out]
    go_wp2_with fail
    refine wp_rangeFunc_box (gf := 37) (lb := #[.pointer (some ⟨Bx, 0, none⟩)]) rfl (enters_of Try.func37 (by kernel_rfl) rfl) hT.out (fun h k => kpX_t h k) (fun W l o h => kpX_b W l o h) ?el (fun _ => rfl)
      (fun pre W => W.heap[p0_0]? = some (.cells #[.int .i64 0, .slice none 0 0] 24 (0, 0)) ∧ W.heap[p0_1]? = some (.cells #[.int .i64 0] 27 (0, 0)) ∧ (∃ (ma : Option Addr) (mc : Nat), W.heap[t6]? = some (.cells #[.int .i64 tow, .slice ma pre.length mc] 24 (0, 0)) ∧ OwnE 49 W W0.heap.size 7 (.slice ma pre.length mc) pre.length (satsV (pre.map Prod.fst)).flatten) ∧ (∀ x ∈ pre, x.1.length = 7) ∧ errJ pre = 0 ∧ Below w.heap.size w W ∧ W0.heap.size ≤ W.heap.size)
      (fun pre W => W.heap[p0_0]? = some (.cells #[.int .i64 0, .slice none 0 0] 24 (0, 0)) ∧ W.heap[p0_1]? = some (.cells #[.int .i64 (errJ pre)] 27 (0, 0)) ∧ errJ pre ≠ 0 ∧ Below w.heap.size w W)
      ?own ?ownx ?stays ?start (fun x => sat8 x.1) 49 ?a1 ?ela ?kp ?assign ?body ?done ?stop
    case assign =>
      intro l9 i W K p W' hp hW' hK
      have e1 := hp.symm
      have e2 := hW'.symm
      clear hp hW'
      unfold sat8 at e2
      unfold enc8 sat8
      gi_wp2
      exact hK
    case el =>
      intro x A B row h hg hr
      exact h
    case ela => exact fun x A A2 h _ => h
    case kp =>
      rintro pre A A2 ⟨_, _, _, _, _, _, k8⟩ h
      exact kpX_after h k8
    case own =>
      rintro pre A B row ⟨k1, k2, ⟨ma, mc, k3, k4⟩, k5, k6, k7, k8⟩ hg hr
      exact ⟨keeps_row k1 rfl hg hr, keeps_row k2 rfl hg hr, ⟨ma, mc, keeps_row k3 rfl hg hr, keeps_ownE k4 hg hr⟩, k5, k6, keeps_below k7 hMw.out k7.size hg hr, Nat.le_trans k8 hg.size⟩
    case ownx =>
      rintro pre A B row ⟨k1, k2, k3, k4⟩ hg hr
      exact ⟨keeps_row k1 rfl hg hr, keeps_row k2 rfl hg hr, k3, keeps_below k4 hMw.out k4.size hg hr⟩
    case stays =>
      rintro pre A A2 ⟨k1, k2, ⟨ma, mc, k3, k4⟩, k5, k6, k7, k8⟩ e
      exact ⟨held_after e k1, held_after e k2, ⟨ma, mc, held_after e k3, k4.below e⟩, k5, k6, bthen k7 e, Nat.le_trans k8 e.size⟩
    case start => exact ⟨s0.out, s1.out, ⟨none, 0, s6f.out, OwnE.nil _ _ _ _⟩, (fun x hx => by cases hx), rfl, hB1.out, Nat.le_refl _⟩
    case stop =>
      rintro D pre W hD hp ⟨r2, r3, hx, hB⟩ hK
      have he := hid (show errJ (tpc N (bs.drop 8)) = errJ pre from by obtain ⟨r, hr⟩ := hp; rw [← hr, errJ_pre hx])
      have q : r = (0, [], errJ pre) := by rw [hG4.out, he.out, if_neg hx]
      replace q := hid q
      have e0 := held_cell (held_put24 r2 hK (.deferred none)) 0 _ rfl
      have e1 := held_cell (held_put24 r2 hK (.deferred none)) 1 _ rfl
      have e2 := held_cell (held_put24 r3 hK (.deferred none)) 0 _ rfl
      go_wp2_with fail
      refine marks_ret1 (v := .tuple #[.agg #[.int .i64 0, .slice none 0 0], .int .i64 (errJ pre)]) hK ?_ (by rw [q.out]; exact StOk.no (below_mark (W0 := W0) hB hMw.out hD hK))
      simp [results, Try.results12, go_sem, e0, e1, e2]
    case done =>
      rintro D xs W hD ⟨hSp, hSl⟩ ⟨r2, r3, ⟨ma, mc, r6, hO⟩, h7, he, hB, hM⟩ hK
      have hx : xs = tpc N (bs.drop 8) := by
        rcases hSl with h | h
        · exact hSp.eq_of_length (by rw [h, tpc_len])
        · exact absurd he h
      have q := hid (show r = (tow, xs.map Prod.fst, 0) by rw [hG4.out, ← hx, if_pos he])
      have h7m := hid (show ∀ x ∈ xs.map Prod.fst, x.length = 7 from fun x hx => by obtain ⟨y, hy, rfl⟩ := List.mem_map.1 hx; exact h7 y hy)
      clear hx hSl hSp he h7
      have m0 := held_cell r6 0 _ rfl
      have m1 := held_cell r6 1 _ rfl
      have y0 := held_cell r2 0 _ rfl
      have y1 := held_cell r2 1 _ rfl
      have f0 := held_free r2 0
      have f1 := held_free r2 1
      obtain ⟨W4, hW4, ya, yO⟩ := st2 r2 (.int .i64 tow) (.slice ma xs.length mc)
      have q1 := (yO.block p0_1 (Ne.symm d01)).trans r3
      have y2 := held_cell q1 0 _ rfl
      have f2 := held_free q1 0
      obtain ⟨W5, hW5, yb, yP⟩ := st1 q1 0 (.int .i64 0)
      have ya5 := (yP.block p0_0 d01).trans ya
      have ez0 := held_cell ya5 0 _ rfl
      have ez1 := held_cell ya5 1 _ rfl
      have ez2 := held_cell yb 0 _ rfl
      have hB4 := hid (belowS (belowS hB yO n0) yP n1)
      have hK2 : W5.heap[D]? = some (.deferred (some [])) := (yP.block D (by omega)).trans ((yO.block D (by omega)).trans hK)
      have hO5 := hO.kept (w' := W5) (fun g hg => (yP.block g (fun e2 => by subst e2; exact (hO.ne r3 (by decide)) hg)).trans (yO.block g (fun e2 => by subst e2; exact (hO.ne r2 (by decide)) hg)))
      have hO9 := hid ((ownE_put hO5 hK2 (.deferred none)).els (by simp [satsV]) (satsV_m h7m.out))
      have g0 := hid (held_cell (held_put24 ya5 hK2 (.deferred none)) 0 _ rfl)
      have g1 := hid (held_cell (held_put24 ya5 hK2 (.deferred none)) 1 _ rfl)
      have g2 := hid (held_cell (held_put24 yb hK2 (.deferred none)) 0 _ rfl)
      have hB9 := hid (below_mark (W0 := W0) hB4.out hMw.out hD hK2)
      replace hK2 := hid hK2
      clear ya yb ya5 yO yP q1 hO hO5 hB hK hB4 ez0 ez1 ez2
      go_wp2_with fail
      refine marks_ret1 (v := .tuple #[.agg #[.int .i64 tow, .slice ma xs.length mc], .int .i64 0]) hK2.out ?_ (by rw [q.out]; exact ⟨ma, mc, by simp, by rw [List.length_map]; exact hO9.out, hB9.out⟩)
      have g0 := g0.out
      have g1 := g1.out
      have g2 := g2.out
      generalize World.putObj _ D _ = V9 at *
      simp [results, Try.results12, go_sem, g0, g1, g2]
    case body =>
      rintro fl pre ⟨xL, xe⟩ p W ⟨r2, r3, ⟨ma, mc, r6, hO⟩, h7, he, hB, hM⟩ hx hp rp hlen
      dsimp only at hx rp ⊢
      apply wpIn_block
      unfold sat8 at rp
      have hsn := hid (errJ_snoc (xL, xe) he)
      by_cases e0 : xe = 0
      · subst e0
        have hx7 := hx rfl
        have hsg := hid (sat_gv hx7)
        have h7n := hid (show ∀ x ∈ pre ++ [((xL, 0) : El8)], x.1.length = 7 from fun x hx => by
          rcases List.mem_append.1 hx with hx | hx
          · exact h7 x hx
          · obtain rfl := List.mem_singleton.1 hx; exact hx7)
        have c0 := held_cell rp 0 _ rfl
        have c1 := held_cell rp 1 _ rfl
        have c2 := held_cell rp 2 _ rfl
        have c3 := held_cell rp 3 _ rfl
        have c4 := held_cell rp 4 _ rfl
        have c5 := held_cell rp 5 _ rfl
        have c6 := held_cell rp 6 _ rfl
        have z1 := held_cell r6 1 _ rfl
        have hAe := (alloc_new W (.cells #[.int .i64 (gv xL 0), .int .i64 (gv xL 1), .int .i64 (gv xL 2), .int .i64 (gv xL 3), .int .i64 (gv xL 4), .int .i64 (gv xL 5), .int .i64 (gv xL 6)] 49)).2.1
        have hEe := hid (els_one W #[.int .i64 (gv xL 0), .int .i64 (gv xL 1), .int .i64 (gv xL 2), .int .i64 (gv xL 3), .int .i64 (gv xL 4), .int .i64 (gv xL 5), .int .i64 (gv xL 6)] 49 7 rfl)
        have hO8 := hid (hO.below hAe)
        have k2 := held_after hAe r2
        have k3 := held_after hAe r3
        have k6 := held_after hAe r6
        have hB8 := hid (bthen hB hAe)
        have sb8 := hAe.size
        have kx0 := hid (kpX_after (q := t6) hAe hM)
        have ka0 := hid (keepsOthers_after hAe)
        have hMa := hid (Nat.le_trans hM sb8)
        have hMv := hid hM
        clear hO hAe r2 r3 h7 hx hx7 hB hp hM sb8
        gi_wp2_with (first | (gi_at_builtin; refine wpListIn_appE rfl (.tmp 54) (.tmp 56) 22 rfl W0.heap.size 49 7 56 satO (by decide) (.slice ma pre.length mc) pre.length (satsV (pre.map Prod.fst)).flatten rfl hO8.out (some ⟨_, 0, none⟩) 1 1 [satV [gv xL 0, gv xL 1, gv xL 2, gv xL 3, gv xL 4, gv xL 5, gv xL 6]] rfl hEe.out (sat_one _) (by unfold maxLen; omega) (by omega) hMa.out ?_) | (refine wpListIn_plain rfl (fun K hK => wpIn_of_plain (by intro c e; cases e) ?_); go_simp; refine hK _ _ ?_; clear hK))
        intro a9 c9 w9 hO9 hG9 hN9
        have j2 := (hG9.block p0_0 (held_lt k2) (fun e2 => hO8.out.ne k2 (by decide) e2.symm)).trans k2
        have j3 := (hG9.block p0_1 (held_lt k3) (fun e2 => hO8.out.ne k3 (by decide) e2.symm)).trans k3
        have j6 := (hG9.block t6 (held_lt k6) (fun e2 => hO8.out.ne k6 (by decide) e2.symm)).trans k6
        have kA := hid (ka0.out.trans (KeepsOthers.of_grownBy hG9 (fun j ob e hj => ownE_cells hO8.out e hj)))
        have kX := hid (kpX_t kx0.out (kpX_appE hO8.out hG9 hMa.out))
        have hB9 := hid (hB8.out.grown hG9 (Nat.le_trans hMw.out hMa.out) (fun k2 e2 => Nat.le_trans hMw.out (hO8.out.lt k2 e2).1))
        have z3 := held_cell j6 1 _ rfl
        have f3 := held_free j6 1
        replace hO9 := hid hO9
        clear hG9 hN9 hO8 k2 k3 k6 hEe ka0 kx0 hB8
        gi_wp2_with (refine wpListIn_plain rfl (fun K hK => wpIn_of_plain (by intro c e; cases e) ?_); go_simp; refine hK _ _ ?_; clear hK)
        refine ⟨kA.out.trans (KeepsOthers.setCell _ _ _), kpX_t kX.out (kpX_setJ _ _ _), held_oth d06 j2, held_oth d16 j3, ⟨a9, c9, ?_, ?_⟩, h7n.out, ?_, hB9.out.setCell (p := ⟨t6, 1, none⟩) n6 _, ?_⟩
        · rw [List.length_append]; exact held_set j6 1 _
        · rw [List.length_append, List.map_append, show List.map Prod.fst [((xL, 0) : El8)] = [xL] from rfl, satsV_snoc, ← hsg.out]
          exact hO9.out.kept (fun g hg => Below.heap_setCell w9 ⟨t6, 1, none⟩ _ g (fun e2 => by subst e2; exact (hO9.out.ne j6 (by decide)) hg))
        · rw [hsn.out]
        · exact Nat.le_trans hMv.out (Nat.le_trans kX.out.1 (kpX_setJ (q := t6) (M := 0) w9 1 _).1)
      · have hq : (xe != 0) = true := by simp [e0]
        have hsx := hid e0
        have x0 := held_cell r2 0 _ rfl
        have x1 := held_cell r2 1 _ rfl
        have x2 := held_cell r3 0 _ rfl
        have f0 := held_free r2 0
        have f1 := held_free r2 1
        have f2 := held_free r3 0
        replace hB := hid hB
        clear e0 rp hx hO
        gi_wp2_with (refine wpListIn_plain rfl (fun K hK => wpIn_of_plain (by intro c e; cases e) ?_); go_simp; refine hK _ _ ?_; clear hK)
        refine ⟨((KeepsOthers.setCell _ _ _).trans (KeepsOthers.setCell _ _ _)).trans (KeepsOthers.setCell _ _ _), held_oth d01 (held_set (held_set r2 0 _) 1 _), ?_, ?_, ((hB.out.setCell (p := ⟨p0_0, 0, none⟩) n0 _).setCell (p := ⟨p0_0, 1, none⟩) n0 _).setCell (p := ⟨p0_1, 0, none⟩) n1 _⟩
        · rw [hsn.out]; exact held_set (held_oth (Ne.symm d01) (held_oth (Ne.symm d01) r3)) 0 _
        · rw [hsn.out]; exact hsx.out
  · have hc8 : (8 : Int) < bc := by omega
    have hSd := (hS0.out.drop 8 (by omega)).below hB4.out
    rw [show Option.map (fun x : Addr => x.add 8) (some ⟨b, off, none⟩) = some ⟨b, off + 8, none⟩ from rfl] at hSd
    have hNb := hid (show bl - 8 = 12 * N by have := hbN.out; omega)
    have aX := alloc_new W6 (.cells #[.slice (some ⟨b, off + 8, none⟩) (bl - 8) (bc - 8)] 26)
    obtain ⟨W0, hW0⟩ : ∃ X, W6.alloc (.cells #[.slice (some ⟨b, off + 8, none⟩) (bl - 8) (bc - 8)] 26) = X := ⟨_, rfl⟩
    replace hW0 := hid hW0
    obtain ⟨Bx, hBx⟩ : ∃ X, W6.heap.size = X := ⟨_, rfl⟩
    replace hBx := hid hBx
    rw [hW0.out, hBx.out] at aX
    obtain ⟨aX1, aX2, aX3⟩ := aX
    have s0 := hid (held_after aX2 r4)
    have s1 := hid (held_after aX2 r5)
    have s6f := hid (held_after aX2 q6)
    have hB0 := bthen hB4.out aX2
    have hMw := hid hB0.size
    have lt6 := held_lt q6
    have szx := aX2.size
    have hT := hid (taken_tells (some ⟨b, off + 8, none⟩) (bc - 8) N (bl - 8) (bs.drop 8) t6 W0.heap.size Bx W0 aX1 (Nat.le_refl _) (by have := hBx.out; omega) aX3 (hSd.below aX2) (fun b2 o2 e2 h2 => by cases e2; exact ⟨by omega, by omega⟩) hzd.out hNb.out (by omega))
    have hB1 := hid hB0
    have l0 := held_lt s0.out
    have l1 := held_lt s1.out
    have l6 := held_lt s6f.out
    clear hB4 aX1 aX2 aX3 r4 r5 q6 hB0 hSd szx lt6
    go_wp2_with fail
    refine (taken_any (some ⟨b, off + 8, none⟩) (bl - 8) (bc - 8) _).mono ?_
    rintro e V ⟨rfl, rfl⟩
    rw [hW0.out, hBx.out]
    go_wp2_with fail
    refine wp_rangeFunc_box (gf := 37) (lb := #[.pointer (some ⟨Bx, 0, none⟩)]) rfl (enters_of Try.func37 (by kernel_rfl) rfl) hT.out (fun h k => kpX_t h k) (fun W l o h => kpX_b W l o h) ?el (fun _ => rfl)
      (fun pre W => W.heap[p0_0]? = some (.cells #[.int .i64 0, .slice none 0 0] 24 (0, 0)) ∧ W.heap[p0_1]? = some (.cells #[.int .i64 0] 27 (0, 0)) ∧ (∃ (ma : Option Addr) (mc : Nat), W.heap[t6]? = some (.cells #[.int .i64 tow, .slice ma pre.length mc] 24 (0, 0)) ∧ OwnE 49 W W0.heap.size 7 (.slice ma pre.length mc) pre.length (satsV (pre.map Prod.fst)).flatten) ∧ (∀ x ∈ pre, x.1.length = 7) ∧ errJ pre = 0 ∧ Below w.heap.size w W ∧ W0.heap.size ≤ W.heap.size)
      (fun pre W => W.heap[p0_0]? = some (.cells #[.int .i64 0, .slice none 0 0] 24 (0, 0)) ∧ W.heap[p0_1]? = some (.cells #[.int .i64 (errJ pre)] 27 (0, 0)) ∧ errJ pre ≠ 0 ∧ Below w.heap.size w W)
      ?own ?ownx ?stays ?start (fun x => sat8 x.1) 49 ?a2 ?ela ?kp ?assign ?body ?done ?stop
    case assign =>
      intro l9 i W K p W' hp hW' hK
      have e1 := hp.symm
      have e2 := hW'.symm
      clear hp hW'
      unfold sat8 at e2
      unfold enc8 sat8
      gi_wp2
      exact hK
    case el =>
      intro x A B row h hg hr
      exact h
    case ela => exact fun x A A2 h _ => h
    case kp =>
      rintro pre A A2 ⟨_, _, _, _, _, _, k8⟩ h
      exact kpX_after h k8
    case own =>
      rintro pre A B row ⟨k1, k2, ⟨ma, mc, k3, k4⟩, k5, k6, k7, k8⟩ hg hr
      exact ⟨keeps_row k1 rfl hg hr, keeps_row k2 rfl hg hr, ⟨ma, mc, keeps_row k3 rfl hg hr, keeps_ownE k4 hg hr⟩, k5, k6, keeps_below k7 hMw.out k7.size hg hr, Nat.le_trans k8 hg.size⟩
    case ownx =>
      rintro pre A B row ⟨k1, k2, k3, k4⟩ hg hr
      exact ⟨keeps_row k1 rfl hg hr, keeps_row k2 rfl hg hr, k3, keeps_below k4 hMw.out k4.size hg hr⟩
    case stays =>
      rintro pre A A2 ⟨k1, k2, ⟨ma, mc, k3, k4⟩, k5, k6, k7, k8⟩ e
      exact ⟨held_after e k1, held_after e k2, ⟨ma, mc, held_after e k3, k4.below e⟩, k5, k6, bthen k7 e, Nat.le_trans k8 e.size⟩
    case start => exact ⟨s0.out, s1.out, ⟨none, 0, s6f.out, OwnE.nil _ _ _ _⟩, (fun x hx => by cases hx), rfl, hB1.out, Nat.le_refl _⟩
    case stop =>
      rintro D pre W hD hp ⟨r2, r3, hx, hB⟩ hK
      have he := hid (show errJ (tpc N (bs.drop 8)) = errJ pre from by obtain ⟨r, hr⟩ := hp; rw [← hr, errJ_pre hx])
      have q : r = (0, [], errJ pre) := by rw [hG4.out, he.out, if_neg hx]
      replace q := hid q
      have e0 := held_cell (held_put24 r2 hK (.deferred none)) 0 _ rfl
      have e1 := held_cell (held_put24 r2 hK (.deferred none)) 1 _ rfl
      have e2 := held_cell (held_put24 r3 hK (.deferred none)) 0 _ rfl
      go_wp2_with fail
      refine marks_ret1 (v := .tuple #[.agg #[.int .i64 0, .slice none 0 0], .int .i64 (errJ pre)]) hK ?_ (by rw [q.out]; exact StOk.no (below_mark (W0 := W0) hB hMw.out hD hK))
      simp [results, Try.results12, go_sem, e0, e1, e2]
    case done =>
      rintro D xs W hD ⟨hSp, hSl⟩ ⟨r2, r3, ⟨ma, mc, r6, hO⟩, h7, he, hB, hM⟩ hK
      have hx : xs = tpc N (bs.drop 8) := by
        rcases hSl with h | h
        · exact hSp.eq_of_length (by rw [h, tpc_len])
        · exact absurd he h
      have q := hid (show r = (tow, xs.map Prod.fst, 0) by rw [hG4.out, ← hx, if_pos he])
      have h7m := hid (show ∀ x ∈ xs.map Prod.fst, x.length = 7 from fun x hx => by obtain ⟨y, hy, rfl⟩ := List.mem_map.1 hx; exact h7 y hy)
      clear hx hSl hSp he h7
      have m0 := held_cell r6 0 _ rfl
      have m1 := held_cell r6 1 _ rfl
      have y0 := held_cell r2 0 _ rfl
      have y1 := held_cell r2 1 _ rfl
      have f0 := held_free r2 0
      have f1 := held_free r2 1
      obtain ⟨W4, hW4, ya, yO⟩ := st2 r2 (.int .i64 tow) (.slice ma xs.length mc)
      have q1 := (yO.block p0_1 (Ne.symm d01)).trans r3
      have y2 := held_cell q1 0 _ rfl
      have f2 := held_free q1 0
      obtain ⟨W5, hW5, yb, yP⟩ := st1 q1 0 (.int .i64 0)
      have ya5 := (yP.block p0_0 d01).trans ya
      have ez0 := held_cell ya5 0 _ rfl
      have ez1 := held_cell ya5 1 _ rfl
      have ez2 := held_cell yb 0 _ rfl
      have hB4 := hid (belowS (belowS hB yO n0) yP n1)
      have hK2 : W5.heap[D]? = some (.deferred (some [])) := (yP.block D (by omega)).trans ((yO.block D (by omega)).trans hK)
      have hO5 := hO.kept (w' := W5) (fun g hg => (yP.block g (fun e2 => by subst e2; exact (hO.ne r3 (by decide)) hg)).trans (yO.block g (fun e2 => by subst e2; exact (hO.ne r2 (by decide)) hg)))
      have hO9 := hid ((ownE_put hO5 hK2 (.deferred none)).els (by simp [satsV]) (satsV_m h7m.out))
      have g0 := hid (held_cell (held_put24 ya5 hK2 (.deferred none)) 0 _ rfl)
      have g1 := hid (held_cell (held_put24 ya5 hK2 (.deferred none)) 1 _ rfl)
      have g2 := hid (held_cell (held_put24 yb hK2 (.deferred none)) 0 _ rfl)
      have hB9 := hid (below_mark (W0 := W0) hB4.out hMw.out hD hK2)
      replace hK2 := hid hK2
      clear ya yb ya5 yO yP q1 hO hO5 hB hK hB4 ez0 ez1 ez2
      go_wp2_with fail
      refine marks_ret1 (v := .tuple #[.agg #[.int .i64 tow, .slice ma xs.length mc], .int .i64 0]) hK2.out ?_ (by rw [q.out]; exact ⟨ma, mc, by simp, by rw [List.length_map]; exact hO9.out, hB9.out⟩)
      have g0 := g0.out
      have g1 := g1.out
      have g2 := g2.out
      generalize World.putObj _ D _ = V9 at *
      simp [results, Try.results12, go_sem, g0, g1, g2]
    case body =>
      rintro fl pre ⟨xL, xe⟩ p W ⟨r2, r3, ⟨ma, mc, r6, hO⟩, h7, he, hB, hM⟩ hx hp rp hlen
      dsimp only at hx rp ⊢
      apply wpIn_block
      unfold sat8 at rp
      have hsn := hid (errJ_snoc (xL, xe) he)
      by_cases e0 : xe = 0
      · subst e0
        have hx7 := hx rfl
        have hsg := hid (sat_gv hx7)
        have h7n := hid (show ∀ x ∈ pre ++ [((xL, 0) : El8)], x.1.length = 7 from fun x hx => by
          rcases List.mem_append.1 hx with hx | hx
          · exact h7 x hx
          · obtain rfl := List.mem_singleton.1 hx; exact hx7)
        have c0 := held_cell rp 0 _ rfl
        have c1 := held_cell rp 1 _ rfl
        have c2 := held_cell rp 2 _ rfl
        have c3 := held_cell rp 3 _ rfl
        have c4 := held_cell rp 4 _ rfl
        have c5 := held_cell rp 5 _ rfl
        have c6 := held_cell rp 6 _ rfl
        have z1 := held_cell r6 1 _ rfl
        have hAe := (alloc_new W (.cells #[.int .i64 (gv xL 0), .int .i64 (gv xL 1), .int .i64 (gv xL 2), .int .i64 (gv xL 3), .int .i64 (gv xL 4), .int .i64 (gv xL 5), .int .i64 (gv xL 6)] 49)).2.1
        have hEe := hid (els_one W #[.int .i64 (gv xL 0), .int .i64 (gv xL 1), .int .i64 (gv xL 2), .int .i64 (gv xL 3), .int .i64 (gv xL 4), .int .i64 (gv xL 5), .int .i64 (gv xL 6)] 49 7 rfl)
        have hO8 := hid (hO.below hAe)
        have k2 := held_after hAe r2
        have k3 := held_after hAe r3
        have k6 := held_after hAe r6
        have hB8 := hid (bthen hB hAe)
        have sb8 := hAe.size
        have kx0 := hid (kpX_after (q := t6) hAe hM)
        have ka0 := hid (keepsOthers_after hAe)
        have hMa := hid (Nat.le_trans hM sb8)
        have hMv := hid hM
        clear hO hAe r2 r3 h7 hx hx7 hB hp hM sb8
        gi_wp2_with (first | (gi_at_builtin; refine wpListIn_appE rfl (.tmp 54) (.tmp 56) 22 rfl W0.heap.size 49 7 56 satO (by decide) (.slice ma pre.length mc) pre.length (satsV (pre.map Prod.fst)).flatten rfl hO8.out (some ⟨_, 0, none⟩) 1 1 [satV [gv xL 0, gv xL 1, gv xL 2, gv xL 3, gv xL 4, gv xL 5, gv xL 6]] rfl hEe.out (sat_one _) (by unfold maxLen; omega) (by omega) hMa.out ?_) | (refine wpListIn_plain rfl (fun K hK => wpIn_of_plain (by intro c e; cases e) ?_); go_simp; refine hK _ _ ?_; clear hK))
        intro a9 c9 w9 hO9 hG9 hN9
        have j2 := (hG9.block p0_0 (held_lt k2) (fun e2 => hO8.out.ne k2 (by decide) e2.symm)).trans k2
        have j3 := (hG9.block p0_1 (held_lt k3) (fun e2 => hO8.out.ne k3 (by decide) e2.symm)).trans k3
        have j6 := (hG9.block t6 (held_lt k6) (fun e2 => hO8.out.ne k6 (by decide) e2.symm)).trans k6
        have kA := hid (ka0.out.trans (KeepsOthers.of_grownBy hG9 (fun j ob e hj => ownE_cells hO8.out e hj)))
        have kX := hid (kpX_t kx0.out (kpX_appE hO8.out hG9 hMa.out))
        have hB9 := hid (hB8.out.grown hG9 (Nat.le_trans hMw.out hMa.out) (fun k2 e2 => Nat.le_trans hMw.out (hO8.out.lt k2 e2).1))
        have z3 := held_cell j6 1 _ rfl
        have f3 := held_free j6 1
        replace hO9 := hid hO9
        clear hG9 hN9 hO8 k2 k3 k6 hEe ka0 kx0 hB8
        gi_wp2_with (refine wpListIn_plain rfl (fun K hK => wpIn_of_plain (by intro c e; cases e) ?_); go_simp; refine hK _ _ ?_; clear hK)
        refine ⟨kA.out.trans (KeepsOthers.setCell _ _ _), kpX_t kX.out (kpX_setJ _ _ _), held_oth d06 j2, held_oth d16 j3, ⟨a9, c9, ?_, ?_⟩, h7n.out, ?_, hB9.out.setCell (p := ⟨t6, 1, none⟩) n6 _, ?_⟩
        · rw [List.length_append]; exact held_set j6 1 _
        · rw [List.length_append, List.map_append, show List.map Prod.fst [((xL, 0) : El8)] = [xL] from rfl, satsV_snoc, ← hsg.out]
          exact hO9.out.kept (fun g hg => Below.heap_setCell w9 ⟨t6, 1, none⟩ _ g (fun e2 => by subst e2; exact (hO9.out.ne j6 (by decide)) hg))
        · rw [hsn.out]
        · exact Nat.le_trans hMv.out (Nat.le_trans kX.out.1 (kpX_setJ (q := t6) (M := 0) w9 1 _).1)
      · have hq : (xe != 0) = true := by simp [e0]
        have hsx := hid e0
        have x0 := held_cell r2 0 _ rfl
        have x1 := held_cell r2 1 _ rfl
        have x2 := held_cell r3 0 _ rfl
        have f0 := held_free r2 0
        have f1 := held_free r2 1
        have f2 := held_free r3 0
        replace hB := hid hB
        clear e0 rp hx hO
        gi_wp2_with (refine wpListIn_plain rfl (fun K hK => wpIn_of_plain (by intro c e; cases e) ?_); go_simp; refine hK _ _ ?_; clear hK)
        refine ⟨((KeepsOthers.setCell _ _ _).trans (KeepsOthers.setCell _ _ _)).trans (KeepsOthers.setCell _ _ _), held_oth d01 (held_set (held_set r2 0 _) 1 _), ?_, ?_, ((hB.out.setCell (p := ⟨p0_0, 0, none⟩) n0 _).setCell (p := ⟨p0_0, 1, none⟩) n0 _).setCell (p := ⟨p0_1, 0, none⟩) n1 _⟩
        · rw [hsn.out]; exact held_set (held_oth (Ne.symm d01) (held_oth (Ne.symm d01) r3)) 0 _
        · rw [hsn.out]; exact hsx.out

end Go.Proofs.Ytahjcbdofljfpaa
