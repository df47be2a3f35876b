/- Package sats: the papers' Put. -/
import Derived.Test.YtahjcbdofljfpaaSats3
import Derived.Deep.DeepCutAuto
namespace Go.Proofs.Ytahjcbdofljfpaa
open Go.ChangeShapes Go.WideShapes Go.ChangeAt Go.RowKit
set_option linter.unusedVariables false
set_option linter.unusedSimpArgs false

set_option maxRecDepth 100000 in
set_option maxHeartbeats 8000000 in
theorem rputS_any (tow : Int) (a : Option Addr) (cap : Nat) (l : List (List Int)) (w : World) (hE : Els w 7 a l.length cap (satsV l)) (h100 : l.length ≤ 100) (hty : -9223372036854775808 ≤ tow ∧ tow ≤ 9223372036854775807) (hl7 : ∀ x ∈ l, x.length = 7 ∧ ∀ y ∈ x, -9223372036854775808 ≤ y ∧ y ≤ 9223372036854775807) : Calls Try.prog 8 #[.agg #[.int .i64 tow, .slice a l.length cap]] w (BsOk w (putSS tow l)) := by
  have hcm := hE.2.2.1
  have hcc := hE.2.1
  have hmm : maxLen ≤ 9223372036854775807 := by decide
  replace hE := hid hE
  go_enter Try.func8, Try.ntmps8
  go_upto_region 0 with (fail)
  apply wp_region_seg0 (w := w) (S := [.al 1000, .q [], .q []]) (E := [.al ((fun p => .pointer (some ⟨p, 0, none⟩)), _) 1000, .q0 _, .q0 _]) rfl (by kernel_rfl) rfl rfl
  intro th hge hne
  refine Seg.step _ rfl ⟨by rfl, fun U hU => ?_⟩ ?_
  · go_simp; exact vp_alloc rfl rfl rfl
  refine ⟨_, by (simp only [Ent.val]; go_simp <;> exact rfl), ?_⟩
  refine Seg.step _ rfl (Or.inl ⟨by rfl, fun U hU => vp_quiet (by (go_simp <;> exact rfl))⟩) ⟨_, by (simp only [Ent.val]; go_simp <;> exact rfl), ?_⟩
  refine Seg.step _ rfl (Or.inl ⟨by rfl, fun U hU => vp_quiet (by (go_simp <;> exact rfl))⟩) ⟨_, by (simp only [Ent.val]; go_simp <;> exact rfl), ?_⟩
  refine Seg.stop (fun U1 hU hk => ?_)
  have nb0 := hge 0 _ _ rfl
  have rb0 := (hk 0 _ _ rfl trivial).1.2 (by simp)
  clear hk hge hne
  generalize th (0 + 0) = p0_0 at *
  dsimp only at rb0
  have r_p0_0 := rb0
  clear rb0
  have n_p0_0 := nb0
  clear nb0
  have sz1 := hU.size
  have hB : Below w.heap.size w U1 := hU
  clear hU
  have np := n_p0_0
  have z0 := held_cell r_p0_0 0 _ rfl
  have z1 := held_cell r_p0_0 1 _ rfl
  by_cases big : (64 : Int) < l.length
  case pos =>
    have e : putSS tow l = ([], 7) := by unfold putSS; rw [if_pos (by omega)]
    replace e := hid e
    replace hB := hid hB
    clear r_p0_0
    go_wp2_with fail
    go_ret2
    rw [e.out]
    exact BsOk.no hB.out
  have h64 : l.length ≤ 64 := by omega
  have hb4 := hid (show ∀ x ∈ [tow, 1, (l.length : Int), 0], -9223372036854775808 ≤ x ∧ x ≤ 9223372036854775807 from by intro x hx; simp at hx; rcases hx with rfl | rfl | rfl | rfl <;> omega)
  have hhd : hd17 tow l = putL HD17 [tow, 1, (l.length : Int), 0] := rfl
  obtain ⟨⟨hb, he⟩, hr⟩ : ∃ r, hd17 tow l = r := ⟨_, rfl⟩
  rw [hr] at hhd
  replace hhd := hid hhd
  have hpc : pieces tow l = (hb, he) :: l.map (putL SD17) := by unfold pieces; rw [hr]
  replace hpc := hid hpc
  clear hr
  go_upto_region 3 with (fail)
  clear z0 z1
  have rb : U1.drew.heap[p0_0]? = some (.cells #[.int .i64 tow, .slice a l.length cap] 24 (0, 0)) := r_p0_0
  have aD := hid (drew_after U1)
  have hsU := hB.size
  replace hB := hid hB
  replace r_p0_0 := hid r_p0_0
  refine wp_region_R (by kernel_rfl) ?_
  refine wpAnyR_take 1 rfl (by kernel_rfl) (by kernel_rfl) (by kernel_rfl) (fun _ _ _ _ h => h) ⟨_, Or.inl ⟨by rfl, fun w2 hb2 => by (go_simp; try with_reducible rfl)⟩, _, by (go_simp; try rfl), ?_⟩
  refine wpAnyR_take 2 rfl (by kernel_rfl) (by kernel_rfl) (by kernel_rfl) (fun _ _ _ _ h => h) ⟨_, Or.inl ⟨by rfl, fun w2 hb2 => by (have hx := held_cell (held_after hb2 rb) 0 _ rfl; go_simp; try with_reducible rfl)⟩, _, by (go_simp; try rfl), ?_⟩
  refine wpAnyR_take 3 rfl (by kernel_rfl) (by kernel_rfl) (by kernel_rfl) (fun _ _ _ _ h => h) ⟨_, Or.inl ⟨by rfl, fun w2 hb2 => by (go_simp; try with_reducible rfl)⟩, _, by (go_simp; try rfl), ?_⟩
  refine wpAnyR_take 4 rfl (by kernel_rfl) (by kernel_rfl) (by kernel_rfl) (fun _ _ _ _ h => h) ⟨_, Or.inl ⟨by rfl, fun w2 hb2 => by (have hx := held_cell (held_after hb2 rb) 1 _ rfl; go_simp; try with_reducible rfl)⟩, _, by (go_simp; try rfl), ?_⟩
  refine wpAnyR_take 5 rfl (by kernel_rfl) (by kernel_rfl) (by kernel_rfl) (fun _ _ _ _ h => h) ⟨_, Or.inl ⟨by rfl, fun w2 hb2 => by (go_simp; try with_reducible rfl)⟩, _, by (go_simp; try rfl), ?_⟩
  refine wpAnyR_pair 0 6 rfl rfl (by kernel_rfl) (by rfl) (by rfl) (fun K hK => ?_) (fun K hK => ?_)
  · go_simp
    refine (rfieldsH17 _).mono ?_
    rintro e V1 ⟨fa, fc, rfl, hF, hA1⟩
    have hT := hid (bthen aD.out hA1)
    replace hF := hid hF
    go_simp
    refine hK _ _ ⟨hA1, ?_⟩
    clear hK
    clear hA1
    refine wpAnyR_only 6 rfl (by kernel_rfl) (by rfl) (fun K hK => ?_)
    go_simp
    have hS := hid (row_lit .i64 2 V1 [tow, 1, (l.length : Int), 0] _ 4 V1.heap.size rfl rfl (by unfold maxLen; omega) rfl)
    have hA2 := (alloc_new V1 (.cells #[.int .i64 tow, .int .i64 1, .int .i64 l.length, .int .i64 0] 2)).2.1
    replace hT := hid (bthen hT.out hA2)
    replace hF := hid (hF.out.below hA2)
    clear hA2
    refine hK _ _ ⟨(alloc_new _ _).2.1, ?_⟩
    clear hK
    refine wpAnyR_only 7 rfl (by kernel_rfl) (by rfl) (fun K hK => ?_)
    go_simp
    refine (rsput_any fa 4 fc (fN HD17) (fS HD17) (fL HD17) (fH HD17) (some ⟨_, 0, none⟩) 4 4 [tow, 1, (l.length : Int), 0] _ hF.out hS.out hb4.out (by omega)).mono ?_
    rintro e V2 ⟨ra, rc, rfl, hO, hA2⟩
    have e1 : putF (fN HD17) (fS HD17) (fL HD17) (fH HD17) 4 [tow, 1, (l.length : Int), 0] = (hb, he) := hhd.out.symm
    rw [e1] at hO ⊢
    dsimp only at hO ⊢
    clear e1
    have hs9 := hT.out.size
    have hOw := hid (hO.base (show w.heap.size ≤ _ from Nat.le_trans hsU hs9))
    replace hT := hid (bthen hT.out hA2)
    have hL8 := hid (put_len (show putL HD17 [tow, 1, (l.length : Int), 0] = (hb, he) from hhd.out.symm) (by decide)).1
    clear hO hF hS hs9
    go_simp
    refine hK _ _ ⟨hA2, ?_⟩
    clear hK
    clear hA2
    refine wpAnyR_take 8 rfl (by kernel_rfl) (by kernel_rfl) (by kernel_rfl) (fun _ _ _ _ h => h) ⟨_, Or.inl ⟨by rfl, fun w2 hb2 => by (go_simp; try with_reducible rfl)⟩, _, by (go_simp; try rfl), ?_⟩
    refine wpAnyR_take 9 rfl (by kernel_rfl) (by kernel_rfl) (by kernel_rfl) (fun _ _ _ _ h => h) ⟨_, Or.inl ⟨by rfl, fun w2 hb2 => by (go_simp; try with_reducible rfl)⟩, _, by (go_simp; try rfl), ?_⟩
    refine wpAnyR_take 10 rfl (by kernel_rfl) (by kernel_rfl) (by kernel_rfl) (fun _ _ _ _ h => h) ⟨_, Or.inl ⟨by rfl, fun w2 hb2 => by (go_simp; try with_reducible rfl)⟩, _, by (go_simp; try rfl), ?_⟩
    refine wpAnyR_take 11 rfl (by kernel_rfl) (by kernel_rfl) (by kernel_rfl) (fun _ _ _ _ h => h) ⟨_, Or.inl ⟨by rfl, fun w2 hb2 => by (go_simp; try with_reducible rfl)⟩, _, by (go_simp; try rfl), ?_⟩
    refine wpAnyR_take 12 rfl (by kernel_rfl) (by kernel_rfl) (by kernel_rfl) (fun _ _ _ _ h => h) ⟨_, Or.inl ⟨by rfl, fun w2 hb2 => by (go_simp; try with_reducible rfl)⟩, _, by (go_simp; try rfl), ?_⟩
    refine wpAnyR_done (by kernel_rfl) ?_ _
    have rb2 := hid (held_after hT.out r_p0_0.out)
    have hB2 := hid (bthen hB.out hT.out)
    clear rb aD hB r_p0_0
    by_cases hen : he = 0
    case neg =>
      have ej : errJ (pieces tow l) = he := by rw [hpc.out]; unfold errJ; rw [if_neg hen]
      have e : putSS tow l = ([], he) := by unfold putSS; rw [if_neg (by omega), ej, if_neg hen]
      replace e := hid e
      have hnz : (he != 0) = true := by simp [hen]
      replace hen := hid hen
      clear ej
      go_wp2_with fail
      go_ret2
      rw [e.out]
      exact BsOk.no hB2.out
    subst hen
    go_wp2_with fail
    go_loopw [4, 6] (fun ov ix wr => ∃ (k : Nat) (ad : Option Addr) (cp : Nat) (ps : List (List Int × Int)), ix = .int .i64 k ∧ k ≤ l.length ∧ ov = .slice ad (catJ ps).length cp ∧ Hid (ps = (hb, 0) :: (l.take k).map (putL SD17)) ∧ errJ ps = 0 ∧ (catJ ps).length ≤ 8000 * (k + 1) ∧ Own .u8 5 wr w.heap.size (.slice ad (catJ ps).length cp) (catJ ps) ∧ wr.heap[p0_0]? = some (.cells #[.int .i64 tow, .slice a l.length cap] 24 (0, 0)) ∧ Below w.heap.size w wr) (fun _ ix _ => l.length - (intOf ix).toNat)
    case atStart => exact ⟨0, ra, rc, [(hb, 0)], rfl, by omega, by simp [catJ], hid rfl, by simp [errJ], by have := hL8.out; simp [catJ]; omega, by simpa [catJ] using hOw.out, rb2.out, hB2.out⟩
    case round =>
      clear hOw rb2 hB2 hT
      obtain ⟨k, ad, cp, ps, rfl, hk, rfl, hm, hej, hcl, hOw, rb, hB⟩ := hrel
      have hE2 := hE.out.below hB
      have bx := held_cell rb 1 _ rfl
      have hszw := hB.size
      replace rb := hid rb
      replace hB := hid hB
      by_cases hlt : (k : Int) < l.length
      case neg =>
        obtain rfl : k = l.length := by omega
        have hfin : ps = pieces tow l := by rw [hm.out, hpc.out, List.take_length]
        have e : putSS tow l = (catJ ps, 0) := by unfold putSS; rw [if_neg (by omega), ← hfin, if_pos hej]
        replace e := hid e
        clear hk hfin hej hcl hE2 hm
        generalize catJ ps = L at *
        replace hOw := hid hOw
        go_wp2_with fail
        go_ret2
        rw [e.out]
        exact ⟨ad, cp, rfl, hOw.out, hB.out⟩
      obtain ⟨x, hx⟩ : ∃ x, l[k]? = some x := ⟨_, List.getElem?_eq_getElem (show k < l.length by omega)⟩
      obtain ⟨q7, qb⟩ := hl7 x (List.mem_of_getElem? hx)
      obtain ⟨x0, x1, x2, x3, x4, x5, x6, rfl⟩ := list7 q7
      have hb7 := hid qb
      obtain ⟨bb, off, hab, g0, g1, g2, g3, g4, g5, g6⟩ := hE2.at7 (satsV_at hx)
      have htk := hid (take_map_succ (f := putL SD17) hx)
      have hpl : pieces tow l = ps ++ putL SD17 [x0, x1, x2, x3, x4, x5, x6] :: (l.drop (k + 1)).map (putL SD17) := by rw [hm.out, hpc.out, List.cons_append, ← List.map_cons (f := putL SD17), ← List.map_append, ← drop_at hx, List.take_append_drop]
      replace hpl := hid hpl
      obtain ⟨⟨pb, pe⟩, hp⟩ : ∃ r, putL SD17 [x0, x1, x2, x3, x4, x5, x6] = r := ⟨_, rfl⟩
      rw [hp] at htk hpl
      replace hp := hid hp
      have kz : (0 : Int) ≤ k := by omega
      have wk : IntKind.i64.wrap ((k : Int) + 1) = (k : Int) + 1 := by rw [IntKind.wrap_i64]; omega
      have hk1 := hid (show k + 1 ≤ l.length by omega)
      replace hcl := hid hcl
      replace hej := hid hej
      replace hOw := hid hOw
      replace hszw := hid hszw
      subst hab
      clear hx hk q7 qb hE2
      have nw := alloc_new wr (.cells #[.int .i64 x0, .int .i64 x1, .int .i64 x2, .int .i64 x3, .int .i64 x4, .int .i64 x5, .int .i64 x6] 49)
      have rU := nw.2.2
      have hT := hid nw.2.1
      clear nw
      go_wp2_with fail
      obtain ⟨U2, hU2⟩ : ∃ X, wr.alloc (.cells #[.int .i64 x0, .int .i64 x1, .int .i64 x2, .int .i64 x3, .int .i64 x4, .int .i64 x5, .int .i64 x6] 49) = X := ⟨_, rfl⟩
      rw [hU2] at rU hT ⊢
      clear hU2
      obtain ⟨pU, hpU⟩ : ∃ X, wr.heap.size = X := ⟨_, rfl⟩
      rw [hpU] at rU ⊢
      replace hpU := hid hpU
      have rq : U2.drew.heap[pU]? = some (.cells #[.int .i64 x0, .int .i64 x1, .int .i64 x2, .int .i64 x3, .int .i64 x4, .int .i64 x5, .int .i64 x6] 49 (0, 0)) := rU
      clear rU bx g0 g1 g2 g3 g4 g5 g6
      replace hT := hid (bthen hT.out (drew_after U2))
      refine wp_region_R (by kernel_rfl) ?_
      refine wpAnyR_take 1 rfl (by kernel_rfl) (by kernel_rfl) (by kernel_rfl) (fun _ _ _ _ h => h) ⟨_, Or.inl ⟨by rfl, fun w2 hb2 => by (go_simp; try with_reducible rfl)⟩, _, by (go_simp; try rfl), ?_⟩
      refine wpAnyR_take 2 rfl (by kernel_rfl) (by kernel_rfl) (by kernel_rfl) (fun _ _ _ _ h => h) ⟨_, Or.inl ⟨by rfl, fun w2 hb2 => by (have hx := held_cell (held_after hb2 rq) 0 _ rfl; go_simp; try with_reducible rfl)⟩, _, by (go_simp; try rfl), ?_⟩
      refine wpAnyR_take 3 rfl (by kernel_rfl) (by kernel_rfl) (by kernel_rfl) (fun _ _ _ _ h => h) ⟨_, Or.inl ⟨by rfl, fun w2 hb2 => by (go_simp; try with_reducible rfl)⟩, _, by (go_simp; try rfl), ?_⟩
      refine wpAnyR_take 4 rfl (by kernel_rfl) (by kernel_rfl) (by kernel_rfl) (fun _ _ _ _ h => h) ⟨_, Or.inl ⟨by rfl, fun w2 hb2 => by (have hx := held_cell (held_after hb2 rq) 1 _ rfl; go_simp; try with_reducible rfl)⟩, _, by (go_simp; try rfl), ?_⟩
      refine wpAnyR_take 5 rfl (by kernel_rfl) (by kernel_rfl) (by kernel_rfl) (fun _ _ _ _ h => h) ⟨_, Or.inl ⟨by rfl, fun w2 hb2 => by (go_simp; try with_reducible rfl)⟩, _, by (go_simp; try rfl), ?_⟩
      refine wpAnyR_take 6 rfl (by kernel_rfl) (by kernel_rfl) (by kernel_rfl) (fun _ _ _ _ h => h) ⟨_, Or.inl ⟨by rfl, fun w2 hb2 => by (have hx := held_cell (held_after hb2 rq) 2 _ rfl; go_simp; try with_reducible rfl)⟩, _, by (go_simp; try rfl), ?_⟩
      refine wpAnyR_take 7 rfl (by kernel_rfl) (by kernel_rfl) (by kernel_rfl) (fun _ _ _ _ h => h) ⟨_, Or.inl ⟨by rfl, fun w2 hb2 => by (go_simp; try with_reducible rfl)⟩, _, by (go_simp; try rfl), ?_⟩
      refine wpAnyR_take 8 rfl (by kernel_rfl) (by kernel_rfl) (by kernel_rfl) (fun _ _ _ _ h => h) ⟨_, Or.inl ⟨by rfl, fun w2 hb2 => by (have hx := held_cell (held_after hb2 rq) 3 _ rfl; go_simp; try with_reducible rfl)⟩, _, by (go_simp; try rfl), ?_⟩
      refine wpAnyR_take 9 rfl (by kernel_rfl) (by kernel_rfl) (by kernel_rfl) (fun _ _ _ _ h => h) ⟨_, Or.inl ⟨by rfl, fun w2 hb2 => by (go_simp; try with_reducible rfl)⟩, _, by (go_simp; try rfl), ?_⟩
      refine wpAnyR_take 10 rfl (by kernel_rfl) (by kernel_rfl) (by kernel_rfl) (fun _ _ _ _ h => h) ⟨_, Or.inl ⟨by rfl, fun w2 hb2 => by (have hx := held_cell (held_after hb2 rq) 4 _ rfl; go_simp; try with_reducible rfl)⟩, _, by (go_simp; try rfl), ?_⟩
      refine wpAnyR_take 11 rfl (by kernel_rfl) (by kernel_rfl) (by kernel_rfl) (fun _ _ _ _ h => h) ⟨_, Or.inl ⟨by rfl, fun w2 hb2 => by (go_simp; try with_reducible rfl)⟩, _, by (go_simp; try rfl), ?_⟩
      refine wpAnyR_take 12 rfl (by kernel_rfl) (by kernel_rfl) (by kernel_rfl) (fun _ _ _ _ h => h) ⟨_, Or.inl ⟨by rfl, fun w2 hb2 => by (have hx := held_cell (held_after hb2 rq) 5 _ rfl; go_simp; try with_reducible rfl)⟩, _, by (go_simp; try rfl), ?_⟩
      refine wpAnyR_take 13 rfl (by kernel_rfl) (by kernel_rfl) (by kernel_rfl) (fun _ _ _ _ h => h) ⟨_, Or.inl ⟨by rfl, fun w2 hb2 => by (go_simp; try with_reducible rfl)⟩, _, by (go_simp; try rfl), ?_⟩
      refine wpAnyR_take 14 rfl (by kernel_rfl) (by kernel_rfl) (by kernel_rfl) (fun _ _ _ _ h => h) ⟨_, Or.inl ⟨by rfl, fun w2 hb2 => by (have hx := held_cell (held_after hb2 rq) 6 _ rfl; go_simp; try with_reducible rfl)⟩, _, by (go_simp; try rfl), ?_⟩
      refine wpAnyR_pair 0 15 rfl rfl (by kernel_rfl) (by rfl) (by rfl) (fun K hK => ?_) (fun K hK => ?_)
      · go_simp
        refine (rfieldsS17 _).mono ?_
        rintro e V4 ⟨fa, fc, rfl, hF, hA1⟩
        replace hT := hid (bthen hT.out hA1)
        replace hF := hid hF
        go_simp
        refine hK _ _ ⟨hA1, ?_⟩
        clear hK
        clear hA1
        refine wpAnyR_only 15 rfl (by kernel_rfl) (by rfl) (fun K hK => ?_)
        go_simp
        have hS := hid (row_lit .i64 2 V4 [x0, x1, x2, x3, x4, x5, x6] _ 7 V4.heap.size rfl rfl (by unfold maxLen; omega) rfl)
        have hA2 := (alloc_new V4 (.cells #[.int .i64 x0, .int .i64 x1, .int .i64 x2, .int .i64 x3, .int .i64 x4, .int .i64 x5, .int .i64 x6] 2)).2.1
        replace hT := hid (bthen hT.out hA2)
        replace hF := hid (hF.out.below hA2)
        clear hA2
        refine hK _ _ ⟨(alloc_new _ _).2.1, ?_⟩
        clear hK
        refine wpAnyR_only 16 rfl (by kernel_rfl) (by rfl) (fun K hK => ?_)
        go_simp
        refine (rsput_any fa 7 fc (fN SD17) (fS SD17) (fL SD17) (fH SD17) (some ⟨_, 0, none⟩) 7 7 [x0, x1, x2, x3, x4, x5, x6] _ hF.out hS.out hb7.out (by omega)).mono ?_
        rintro e V5 ⟨ra5, rc5, rfl, hO, hA2⟩
        have e1 : putF (fN SD17) (fS SD17) (fL SD17) (fH SD17) 7 [x0, x1, x2, x3, x4, x5, x6] = (pb, pe) := hp.out
        rw [e1] at hO ⊢
        dsimp only at hO ⊢
        clear e1
        replace hT := hid (bthen hT.out hA2)
        have hO5 := hid hO.slf
        have hL5 := hid (put_len hp.out (by decide)).1
        clear hO hF hS
        go_simp
        refine hK _ _ ⟨hA2, ?_⟩
        clear hK
        clear hA2
        refine wpAnyR_take 17 rfl (by kernel_rfl) (by kernel_rfl) (by kernel_rfl) (fun _ _ _ _ h => h) ⟨_, Or.inl ⟨by rfl, fun w2 hb2 => by (go_simp; try with_reducible rfl)⟩, _, by (go_simp; try rfl), ?_⟩
        refine wpAnyR_take 18 rfl (by kernel_rfl) (by kernel_rfl) (by kernel_rfl) (fun _ _ _ _ h => h) ⟨_, Or.inl ⟨by rfl, fun w2 hb2 => by (go_simp; try with_reducible rfl)⟩, _, by (go_simp; try rfl), ?_⟩
        refine wpAnyR_take 19 rfl (by kernel_rfl) (by kernel_rfl) (by kernel_rfl) (fun _ _ _ _ h => h) ⟨_, Or.inl ⟨by rfl, fun w2 hb2 => by (go_simp; try with_reducible rfl)⟩, _, by (go_simp; try rfl), ?_⟩
        refine wpAnyR_take 20 rfl (by kernel_rfl) (by kernel_rfl) (by kernel_rfl) (fun _ _ _ _ h => h) ⟨_, Or.inl ⟨by rfl, fun w2 hb2 => by (go_simp; try with_reducible rfl)⟩, _, by (go_simp; try rfl), ?_⟩
        refine wpAnyR_take 21 rfl (by kernel_rfl) (by kernel_rfl) (by kernel_rfl) (fun _ _ _ _ h => h) ⟨_, Or.inl ⟨by rfl, fun w2 hb2 => by (go_simp; try with_reducible rfl)⟩, _, by (go_simp; try rfl), ?_⟩
        refine wpAnyR_done (by kernel_rfl) ?_ _
        have hB5 := hid (bthen hB.out (show After wr V5 from hT.out))
        have rb5 := hid (held_after hT.out rb.out)
        have hO4 := hid (hOw.out.below hT.out)
        have hsz5 := hB5.out.size
        clear rq hT hOw rb hB
        by_cases hpe : pe = 0
        · subst hpe
          have hla := hid (show (catJ ps).length + pb.length ≤ 140737488355328 / 1 by have := hcl.out; have := hL5.out; omega)
          have hsn := hid (errJ_snoc (pb, 0) hej.out)
          have hcs := hid (catJ_snoc ps (pb, 0))
          have hcl5 := hid (show (catJ ps ++ pb).length ≤ 8000 * (k + 1 + 1) by have := hcl.out; have := hL5.out; rw [List.length_append]; omega)
          go_wp2_with (first | (at_builtin; refine wpList_app _ rfl (.tmp 63) (.tmp 64) 26 rfl w.heap.size 5 .u8 1 bytesOf (.slice ad (catJ ps).length cp) (catJ ps) rfl hO4.out ra5 rc5 pb rfl hO5.out.2.2.2.2 hO5.out.2.2.2.1 hla.out (by omega) hsz5 ?_))
          intro v9 w9 hO9 hG
          obtain ⟨a9, cap9, hv, -⟩ := hO9.sl
          subst hv
          have q4 := hid (held_grown rb5.out hG (own_ne hO4.out rb5.out (by decide)))
          have hB9 := hid (hO4.out.grew hG hB5.out (Nat.le_refl _) hsz5)
          replace hO9 := hid hO9
          clear hG
          go_wp2_with fail
          go_roundw
          case rel => exact ⟨k + 1, a9, cap9, ps ++ [(pb, 0)], by simp, hk1.out, by rw [hcs.out], hid (by rw [hm.out, htk.out, List.cons_append]), hsn.out, by rw [hcs.out]; exact hcl5.out, by rw [hcs.out]; exact hO9.out, q4.out, hB9.out⟩
          case measure => simp [intOf]; omega
        · have hnz : (pe != 0) = true := by simp [hpe]
          have e : putSS tow l = ([], pe) := by
            have ej := errJ_one (ps := ps) (p := (pb, pe)) hej.out hpe (all := pieces tow l) (by rw [hpl.out]; exact ⟨_, by rw [List.append_assoc]; rfl⟩)
            unfold putSS; rw [if_neg (by omega), ej, if_neg hpe]
          replace e := hid e
          replace hpe := hid hpe
          go_wp2_with fail
          go_ret2
          rw [e.out]
          exact BsOk.no hB5.out
      · go_simp
        have hS := hid (row_lit .i64 2 U2.drew [x0, x1, x2, x3, x4, x5, x6] _ 7 U2.heap.size rfl rfl (by unfold maxLen; omega) rfl)
        replace hT := hid (bthen hT.out (alloc_new U2.drew (.cells #[.int .i64 x0, .int .i64 x1, .int .i64 x2, .int .i64 x3, .int .i64 x4, .int .i64 x5, .int .i64 x6] 2)).2.1)
        refine hK _ _ ⟨(alloc_new _ _).2.1, ?_⟩
        clear hK
        refine wpAnyR_only 0 rfl (by kernel_rfl) (by rfl) (fun K hK => ?_)
        go_simp
        refine (rfieldsS17 _).mono ?_
        rintro e V4 ⟨fa, fc, rfl, hF, hA1⟩
        replace hT := hid (bthen hT.out hA1)
        replace hS := hid (hS.out.below hA1)
        replace hF := hid hF
        go_simp
        refine hK _ _ ⟨hA1, ?_⟩
        clear hK
        clear hA1
        refine wpAnyR_only 16 rfl (by kernel_rfl) (by rfl) (fun K hK => ?_)
        go_simp
        refine (rsput_any fa 7 fc (fN SD17) (fS SD17) (fL SD17) (fH SD17) (some ⟨_, 0, none⟩) 7 7 [x0, x1, x2, x3, x4, x5, x6] _ hF.out hS.out hb7.out (by omega)).mono ?_
        rintro e V5 ⟨ra5, rc5, rfl, hO, hA2⟩
        have e1 : putF (fN SD17) (fS SD17) (fL SD17) (fH SD17) 7 [x0, x1, x2, x3, x4, x5, x6] = (pb, pe) := hp.out
        rw [e1] at hO ⊢
        dsimp only at hO ⊢
        clear e1
        replace hT := hid (bthen hT.out hA2)
        have hO5 := hid hO.slf
        have hL5 := hid (put_len hp.out (by decide)).1
        clear hO hF hS
        go_simp
        refine hK _ _ ⟨hA2, ?_⟩
        clear hK
        clear hA2
        refine wpAnyR_take 17 rfl (by kernel_rfl) (by kernel_rfl) (by kernel_rfl) (fun _ _ _ _ h => h) ⟨_, Or.inl ⟨by rfl, fun w2 hb2 => by (go_simp; try with_reducible rfl)⟩, _, by (go_simp; try rfl), ?_⟩
        refine wpAnyR_take 18 rfl (by kernel_rfl) (by kernel_rfl) (by kernel_rfl) (fun _ _ _ _ h => h) ⟨_, Or.inl ⟨by rfl, fun w2 hb2 => by (go_simp; try with_reducible rfl)⟩, _, by (go_simp; try rfl), ?_⟩
        refine wpAnyR_take 19 rfl (by kernel_rfl) (by kernel_rfl) (by kernel_rfl) (fun _ _ _ _ h => h) ⟨_, Or.inl ⟨by rfl, fun w2 hb2 => by (go_simp; try with_reducible rfl)⟩, _, by (go_simp; try rfl), ?_⟩
        refine wpAnyR_take 20 rfl (by kernel_rfl) (by kernel_rfl) (by kernel_rfl) (fun _ _ _ _ h => h) ⟨_, Or.inl ⟨by rfl, fun w2 hb2 => by (go_simp; try with_reducible rfl)⟩, _, by (go_simp; try rfl), ?_⟩
        refine wpAnyR_take 21 rfl (by kernel_rfl) (by kernel_rfl) (by kernel_rfl) (fun _ _ _ _ h => h) ⟨_, Or.inl ⟨by rfl, fun w2 hb2 => by (go_simp; try with_reducible rfl)⟩, _, by (go_simp; try rfl), ?_⟩
        refine wpAnyR_done (by kernel_rfl) ?_ _
        have hB5 := hid (bthen hB.out (show After wr V5 from hT.out))
        have rb5 := hid (held_after hT.out rb.out)
        have hO4 := hid (hOw.out.below hT.out)
        have hsz5 := hB5.out.size
        clear rq hT hOw rb hB
        by_cases hpe : pe = 0
        · subst hpe
          have hla := hid (show (catJ ps).length + pb.length ≤ 140737488355328 / 1 by have := hcl.out; have := hL5.out; omega)
          have hsn := hid (errJ_snoc (pb, 0) hej.out)
          have hcs := hid (catJ_snoc ps (pb, 0))
          have hcl5 := hid (show (catJ ps ++ pb).length ≤ 8000 * (k + 1 + 1) by have := hcl.out; have := hL5.out; rw [List.length_append]; omega)
          go_wp2_with (first | (at_builtin; refine wpList_app _ rfl (.tmp 63) (.tmp 64) 26 rfl w.heap.size 5 .u8 1 bytesOf (.slice ad (catJ ps).length cp) (catJ ps) rfl hO4.out ra5 rc5 pb rfl hO5.out.2.2.2.2 hO5.out.2.2.2.1 hla.out (by omega) hsz5 ?_))
          intro v9 w9 hO9 hG
          obtain ⟨a9, cap9, hv, -⟩ := hO9.sl
          subst hv
          have q4 := hid (held_grown rb5.out hG (own_ne hO4.out rb5.out (by decide)))
          have hB9 := hid (hO4.out.grew hG hB5.out (Nat.le_refl _) hsz5)
          replace hO9 := hid hO9
          clear hG
          go_wp2_with fail
          go_roundw
          case rel => exact ⟨k + 1, a9, cap9, ps ++ [(pb, 0)], by simp, hk1.out, by rw [hcs.out], hid (by rw [hm.out, htk.out, List.cons_append]), hsn.out, by rw [hcs.out]; exact hcl5.out, by rw [hcs.out]; exact hO9.out, q4.out, hB9.out⟩
          case measure => simp [intOf]; omega
        · have hnz : (pe != 0) = true := by simp [hpe]
          have e : putSS tow l = ([], pe) := by
            have ej := errJ_one (ps := ps) (p := (pb, pe)) hej.out hpe (all := pieces tow l) (by rw [hpl.out]; exact ⟨_, by rw [List.append_assoc]; rfl⟩)
            unfold putSS; rw [if_neg (by omega), ej, if_neg hpe]
          replace e := hid e
          replace hpe := hid hpe
          go_wp2_with fail
          go_ret2
          rw [e.out]
          exact BsOk.no hB5.out
  · go_simp
    have hS := hid (row_lit .i64 2 U1.drew [tow, 1, (l.length : Int), 0] _ 4 U1.heap.size rfl rfl (by unfold maxLen; omega) rfl)
    have hT := hid (bthen aD.out (alloc_new U1.drew (.cells #[.int .i64 tow, .int .i64 1, .int .i64 l.length, .int .i64 0] 2)).2.1)
    refine hK _ _ ⟨(alloc_new _ _).2.1, ?_⟩
    clear hK
    refine wpAnyR_only 0 rfl (by kernel_rfl) (by rfl) (fun K hK => ?_)
    go_simp
    refine (rfieldsH17 _).mono ?_
    rintro e V1 ⟨fa, fc, rfl, hF, hA1⟩
    replace hT := hid (bthen hT.out hA1)
    replace hS := hid (hS.out.below hA1)
    replace hF := hid hF
    go_simp
    refine hK _ _ ⟨hA1, ?_⟩
    clear hK
    clear hA1
    refine wpAnyR_only 7 rfl (by kernel_rfl) (by rfl) (fun K hK => ?_)
    go_simp
    refine (rsput_any fa 4 fc (fN HD17) (fS HD17) (fL HD17) (fH HD17) (some ⟨_, 0, none⟩) 4 4 [tow, 1, (l.length : Int), 0] _ hF.out hS.out hb4.out (by omega)).mono ?_
    rintro e V2 ⟨ra, rc, rfl, hO, hA2⟩
    have e1 : putF (fN HD17) (fS HD17) (fL HD17) (fH HD17) 4 [tow, 1, (l.length : Int), 0] = (hb, he) := hhd.out.symm
    rw [e1] at hO ⊢
    dsimp only at hO ⊢
    clear e1
    have hs9 := hT.out.size
    have hOw := hid (hO.base (show w.heap.size ≤ _ from Nat.le_trans hsU hs9))
    replace hT := hid (bthen hT.out hA2)
    have hL8 := hid (put_len (show putL HD17 [tow, 1, (l.length : Int), 0] = (hb, he) from hhd.out.symm) (by decide)).1
    clear hO hF hS hs9
    go_simp
    refine hK _ _ ⟨hA2, ?_⟩
    clear hK
    clear hA2
    refine wpAnyR_take 8 rfl (by kernel_rfl) (by kernel_rfl) (by kernel_rfl) (fun _ _ _ _ h => h) ⟨_, Or.inl ⟨by rfl, fun w2 hb2 => by (go_simp; try with_reducible rfl)⟩, _, by (go_simp; try rfl), ?_⟩
    refine wpAnyR_take 9 rfl (by kernel_rfl) (by kernel_rfl) (by kernel_rfl) (fun _ _ _ _ h => h) ⟨_, Or.inl ⟨by rfl, fun w2 hb2 => by (go_simp; try with_reducible rfl)⟩, _, by (go_simp; try rfl), ?_⟩
    refine wpAnyR_take 10 rfl (by kernel_rfl) (by kernel_rfl) (by kernel_rfl) (fun _ _ _ _ h => h) ⟨_, Or.inl ⟨by rfl, fun w2 hb2 => by (go_simp; try with_reducible rfl)⟩, _, by (go_simp; try rfl), ?_⟩
    refine wpAnyR_take 11 rfl (by kernel_rfl) (by kernel_rfl) (by kernel_rfl) (fun _ _ _ _ h => h) ⟨_, Or.inl ⟨by rfl, fun w2 hb2 => by (go_simp; try with_reducible rfl)⟩, _, by (go_simp; try rfl), ?_⟩
    refine wpAnyR_take 12 rfl (by kernel_rfl) (by kernel_rfl) (by kernel_rfl) (fun _ _ _ _ h => h) ⟨_, Or.inl ⟨by rfl, fun w2 hb2 => by (go_simp; try with_reducible rfl)⟩, _, by (go_simp; try rfl), ?_⟩
    refine wpAnyR_done (by kernel_rfl) ?_ _
    have rb2 := hid (held_after hT.out r_p0_0.out)
    have hB2 := hid (bthen hB.out hT.out)
    clear rb aD hB r_p0_0
    by_cases hen : he = 0
    case neg =>
      have ej : errJ (pieces tow l) = he := by rw [hpc.out]; unfold errJ; rw [if_neg hen]
      have e : putSS tow l = ([], he) := by unfold putSS; rw [if_neg (by omega), ej, if_neg hen]
      replace e := hid e
      have hnz : (he != 0) = true := by simp [hen]
      replace hen := hid hen
      clear ej
      go_wp2_with fail
      go_ret2
      rw [e.out]
      exact BsOk.no hB2.out
    subst hen
    go_wp2_with fail
    go_loopw [4, 6] (fun ov ix wr => ∃ (k : Nat) (ad : Option Addr) (cp : Nat) (ps : List (List Int × Int)), ix = .int .i64 k ∧ k ≤ l.length ∧ ov = .slice ad (catJ ps).length cp ∧ Hid (ps = (hb, 0) :: (l.take k).map (putL SD17)) ∧ errJ ps = 0 ∧ (catJ ps).length ≤ 8000 * (k + 1) ∧ Own .u8 5 wr w.heap.size (.slice ad (catJ ps).length cp) (catJ ps) ∧ wr.heap[p0_0]? = some (.cells #[.int .i64 tow, .slice a l.length cap] 24 (0, 0)) ∧ Below w.heap.size w wr) (fun _ ix _ => l.length - (intOf ix).toNat)
    case atStart => exact ⟨0, ra, rc, [(hb, 0)], rfl, by omega, by simp [catJ], hid rfl, by simp [errJ], by have := hL8.out; simp [catJ]; omega, by simpa [catJ] using hOw.out, rb2.out, hB2.out⟩
    case round =>
      clear hOw rb2 hB2 hT
      obtain ⟨k, ad, cp, ps, rfl, hk, rfl, hm, hej, hcl, hOw, rb, hB⟩ := hrel
      have hE2 := hE.out.below hB
      have bx := held_cell rb 1 _ rfl
      have hszw := hB.size
      replace rb := hid rb
      replace hB := hid hB
      by_cases hlt : (k : Int) < l.length
      case neg =>
        obtain rfl : k = l.length := by omega
        have hfin : ps = pieces tow l := by rw [hm.out, hpc.out, List.take_length]
        have e : putSS tow l = (catJ ps, 0) := by unfold putSS; rw [if_neg (by omega), ← hfin, if_pos hej]
        replace e := hid e
        clear hk hfin hej hcl hE2 hm
        generalize catJ ps = L at *
        replace hOw := hid hOw
        go_wp2_with fail
        go_ret2
        rw [e.out]
        exact ⟨ad, cp, rfl, hOw.out, hB.out⟩
      obtain ⟨x, hx⟩ : ∃ x, l[k]? = some x := ⟨_, List.getElem?_eq_getElem (show k < l.length by omega)⟩
      obtain ⟨q7, qb⟩ := hl7 x (List.mem_of_getElem? hx)
      obtain ⟨x0, x1, x2, x3, x4, x5, x6, rfl⟩ := list7 q7
      have hb7 := hid qb
      obtain ⟨bb, off, hab, g0, g1, g2, g3, g4, g5, g6⟩ := hE2.at7 (satsV_at hx)
      have htk := hid (take_map_succ (f := putL SD17) hx)
      have hpl : pieces tow l = ps ++ putL SD17 [x0, x1, x2, x3, x4, x5, x6] :: (l.drop (k + 1)).map (putL SD17) := by rw [hm.out, hpc.out, List.cons_append, ← List.map_cons (f := putL SD17), ← List.map_append, ← drop_at hx, List.take_append_drop]
      replace hpl := hid hpl
      obtain ⟨⟨pb, pe⟩, hp⟩ : ∃ r, putL SD17 [x0, x1, x2, x3, x4, x5, x6] = r := ⟨_, rfl⟩
      rw [hp] at htk hpl
      replace hp := hid hp
      have kz : (0 : Int) ≤ k := by omega
      have wk : IntKind.i64.wrap ((k : Int) + 1) = (k : Int) + 1 := by rw [IntKind.wrap_i64]; omega
      have hk1 := hid (show k + 1 ≤ l.length by omega)
      replace hcl := hid hcl
      replace hej := hid hej
      replace hOw := hid hOw
      replace hszw := hid hszw
      subst hab
      clear hx hk q7 qb hE2
      have nw := alloc_new wr (.cells #[.int .i64 x0, .int .i64 x1, .int .i64 x2, .int .i64 x3, .int .i64 x4, .int .i64 x5, .int .i64 x6] 49)
      have rU := nw.2.2
      have hT := hid nw.2.1
      clear nw
      go_wp2_with fail
      obtain ⟨U2, hU2⟩ : ∃ X, wr.alloc (.cells #[.int .i64 x0, .int .i64 x1, .int .i64 x2, .int .i64 x3, .int .i64 x4, .int .i64 x5, .int .i64 x6] 49) = X := ⟨_, rfl⟩
      rw [hU2] at rU hT ⊢
      clear hU2
      obtain ⟨pU, hpU⟩ : ∃ X, wr.heap.size = X := ⟨_, rfl⟩
      rw [hpU] at rU ⊢
      replace hpU := hid hpU
      have rq : U2.drew.heap[pU]? = some (.cells #[.int .i64 x0, .int .i64 x1, .int .i64 x2, .int .i64 x3, .int .i64 x4, .int .i64 x5, .int .i64 x6] 49 (0, 0)) := rU
      clear rU bx g0 g1 g2 g3 g4 g5 g6
      replace hT := hid (bthen hT.out (drew_after U2))
      refine wp_region_R (by kernel_rfl) ?_
      refine wpAnyR_take 1 rfl (by kernel_rfl) (by kernel_rfl) (by kernel_rfl) (fun _ _ _ _ h => h) ⟨_, Or.inl ⟨by rfl, fun w2 hb2 => by (go_simp; try with_reducible rfl)⟩, _, by (go_simp; try rfl), ?_⟩
      refine wpAnyR_take 2 rfl (by kernel_rfl) (by kernel_rfl) (by kernel_rfl) (fun _ _ _ _ h => h) ⟨_, Or.inl ⟨by rfl, fun w2 hb2 => by (have hx := held_cell (held_after hb2 rq) 0 _ rfl; go_simp; try with_reducible rfl)⟩, _, by (go_simp; try rfl), ?_⟩
      refine wpAnyR_take 3 rfl (by kernel_rfl) (by kernel_rfl) (by kernel_rfl) (fun _ _ _ _ h => h) ⟨_, Or.inl ⟨by rfl, fun w2 hb2 => by (go_simp; try with_reducible rfl)⟩, _, by (go_simp; try rfl), ?_⟩
      refine wpAnyR_take 4 rfl (by kernel_rfl) (by kernel_rfl) (by kernel_rfl) (fun _ _ _ _ h => h) ⟨_, Or.inl ⟨by rfl, fun w2 hb2 => by (have hx := held_cell (held_after hb2 rq) 1 _ rfl; go_simp; try with_reducible rfl)⟩, _, by (go_simp; try rfl), ?_⟩
      refine wpAnyR_take 5 rfl (by kernel_rfl) (by kernel_rfl) (by kernel_rfl) (fun _ _ _ _ h => h) ⟨_, Or.inl ⟨by rfl, fun w2 hb2 => by (go_simp; try with_reducible rfl)⟩, _, by (go_simp; try rfl), ?_⟩
      refine wpAnyR_take 6 rfl (by kernel_rfl) (by kernel_rfl) (by kernel_rfl) (fun _ _ _ _ h => h) ⟨_, Or.inl ⟨by rfl, fun w2 hb2 => by (have hx := held_cell (held_after hb2 rq) 2 _ rfl; go_simp; try with_reducible rfl)⟩, _, by (go_simp; try rfl), ?_⟩
      refine wpAnyR_take 7 rfl (by kernel_rfl) (by kernel_rfl) (by kernel_rfl) (fun _ _ _ _ h => h) ⟨_, Or.inl ⟨by rfl, fun w2 hb2 => by (go_simp; try with_reducible rfl)⟩, _, by (go_simp; try rfl), ?_⟩
      refine wpAnyR_take 8 rfl (by kernel_rfl) (by kernel_rfl) (by kernel_rfl) (fun _ _ _ _ h => h) ⟨_, Or.inl ⟨by rfl, fun w2 hb2 => by (have hx := held_cell (held_after hb2 rq) 3 _ rfl; go_simp; try with_reducible rfl)⟩, _, by (go_simp; try rfl), ?_⟩
      refine wpAnyR_take 9 rfl (by kernel_rfl) (by kernel_rfl) (by kernel_rfl) (fun _ _ _ _ h => h) ⟨_, Or.inl ⟨by rfl, fun w2 hb2 => by (go_simp; try with_reducible rfl)⟩, _, by (go_simp; try rfl), ?_⟩
      refine wpAnyR_take 10 rfl (by kernel_rfl) (by kernel_rfl) (by kernel_rfl) (fun _ _ _ _ h => h) ⟨_, Or.inl ⟨by rfl, fun w2 hb2 => by (have hx := held_cell (held_after hb2 rq) 4 _ rfl; go_simp; try with_reducible rfl)⟩, _, by (go_simp; try rfl), ?_⟩
      refine wpAnyR_take 11 rfl (by kernel_rfl) (by kernel_rfl) (by kernel_rfl) (fun _ _ _ _ h => h) ⟨_, Or.inl ⟨by rfl, fun w2 hb2 => by (go_simp; try with_reducible rfl)⟩, _, by (go_simp; try rfl), ?_⟩
      refine wpAnyR_take 12 rfl (by kernel_rfl) (by kernel_rfl) (by kernel_rfl) (fun _ _ _ _ h => h) ⟨_, Or.inl ⟨by rfl, fun w2 hb2 => by (have hx := held_cell (held_after hb2 rq) 5 _ rfl; go_simp; try with_reducible rfl)⟩, _, by (go_simp; try rfl), ?_⟩
      refine wpAnyR_take 13 rfl (by kernel_rfl) (by kernel_rfl) (by kernel_rfl) (fun _ _ _ _ h => h) ⟨_, Or.inl ⟨by rfl, fun w2 hb2 => by (go_simp; try with_reducible rfl)⟩, _, by (go_simp; try rfl), ?_⟩
      refine wpAnyR_take 14 rfl (by kernel_rfl) (by kernel_rfl) (by kernel_rfl) (fun _ _ _ _ h => h) ⟨_, Or.inl ⟨by rfl, fun w2 hb2 => by (have hx := held_cell (held_after hb2 rq) 6 _ rfl; go_simp; try with_reducible rfl)⟩, _, by (go_simp; try rfl), ?_⟩
      refine wpAnyR_pair 0 15 rfl rfl (by kernel_rfl) (by rfl) (by rfl) (fun K hK => ?_) (fun K hK => ?_)
      · go_simp
        refine (rfieldsS17 _).mono ?_
        rintro e V4 ⟨fa, fc, rfl, hF, hA1⟩
        replace hT := hid (bthen hT.out hA1)
        replace hF := hid hF
        go_simp
        refine hK _ _ ⟨hA1, ?_⟩
        clear hK
        clear hA1
        refine wpAnyR_only 15 rfl (by kernel_rfl) (by rfl) (fun K hK => ?_)
        go_simp
        have hS := hid (row_lit .i64 2 V4 [x0, x1, x2, x3, x4, x5, x6] _ 7 V4.heap.size rfl rfl (by unfold maxLen; omega) rfl)
        have hA2 := (alloc_new V4 (.cells #[.int .i64 x0, .int .i64 x1, .int .i64 x2, .int .i64 x3, .int .i64 x4, .int .i64 x5, .int .i64 x6] 2)).2.1
        replace hT := hid (bthen hT.out hA2)
        replace hF := hid (hF.out.below hA2)
        clear hA2
        refine hK _ _ ⟨(alloc_new _ _).2.1, ?_⟩
        clear hK
        refine wpAnyR_only 16 rfl (by kernel_rfl) (by rfl) (fun K hK => ?_)
        go_simp
        refine (rsput_any fa 7 fc (fN SD17) (fS SD17) (fL SD17) (fH SD17) (some ⟨_, 0, none⟩) 7 7 [x0, x1, x2, x3, x4, x5, x6] _ hF.out hS.out hb7.out (by omega)).mono ?_
        rintro e V5 ⟨ra5, rc5, rfl, hO, hA2⟩
        have e1 : putF (fN SD17) (fS SD17) (fL SD17) (fH SD17) 7 [x0, x1, x2, x3, x4, x5, x6] = (pb, pe) := hp.out
        rw [e1] at hO ⊢
        dsimp only at hO ⊢
        clear e1
        replace hT := hid (bthen hT.out hA2)
        have hO5 := hid hO.slf
        have hL5 := hid (put_len hp.out (by decide)).1
        clear hO hF hS
        go_simp
        refine hK _ _ ⟨hA2, ?_⟩
        clear hK
        clear hA2
        refine wpAnyR_take 17 rfl (by kernel_rfl) (by kernel_rfl) (by kernel_rfl) (fun _ _ _ _ h => h) ⟨_, Or.inl ⟨by rfl, fun w2 hb2 => by (go_simp; try with_reducible rfl)⟩, _, by (go_simp; try rfl), ?_⟩
        refine wpAnyR_take 18 rfl (by kernel_rfl) (by kernel_rfl) (by kernel_rfl) (fun _ _ _ _ h => h) ⟨_, Or.inl ⟨by rfl, fun w2 hb2 => by (go_simp; try with_reducible rfl)⟩, _, by (go_simp; try rfl), ?_⟩
        refine wpAnyR_take 19 rfl (by kernel_rfl) (by kernel_rfl) (by kernel_rfl) (fun _ _ _ _ h => h) ⟨_, Or.inl ⟨by rfl, fun w2 hb2 => by (go_simp; try with_reducible rfl)⟩, _, by (go_simp; try rfl), ?_⟩
        refine wpAnyR_take 20 rfl (by kernel_rfl) (by kernel_rfl) (by kernel_rfl) (fun _ _ _ _ h => h) ⟨_, Or.inl ⟨by rfl, fun w2 hb2 => by (go_simp; try with_reducible rfl)⟩, _, by (go_simp; try rfl), ?_⟩
        refine wpAnyR_take 21 rfl (by kernel_rfl) (by kernel_rfl) (by kernel_rfl) (fun _ _ _ _ h => h) ⟨_, Or.inl ⟨by rfl, fun w2 hb2 => by (go_simp; try with_reducible rfl)⟩, _, by (go_simp; try rfl), ?_⟩
        refine wpAnyR_done (by kernel_rfl) ?_ _
        have hB5 := hid (bthen hB.out (show After wr V5 from hT.out))
        have rb5 := hid (held_after hT.out rb.out)
        have hO4 := hid (hOw.out.below hT.out)
        have hsz5 := hB5.out.size
        clear rq hT hOw rb hB
        by_cases hpe : pe = 0
        · subst hpe
          have hla := hid (show (catJ ps).length + pb.length ≤ 140737488355328 / 1 by have := hcl.out; have := hL5.out; omega)
          have hsn := hid (errJ_snoc (pb, 0) hej.out)
          have hcs := hid (catJ_snoc ps (pb, 0))
          have hcl5 := hid (show (catJ ps ++ pb).length ≤ 8000 * (k + 1 + 1) by have := hcl.out; have := hL5.out; rw [List.length_append]; omega)
          go_wp2_with (first | (at_builtin; refine wpList_app _ rfl (.tmp 63) (.tmp 64) 26 rfl w.heap.size 5 .u8 1 bytesOf (.slice ad (catJ ps).length cp) (catJ ps) rfl hO4.out ra5 rc5 pb rfl hO5.out.2.2.2.2 hO5.out.2.2.2.1 hla.out (by omega) hsz5 ?_))
          intro v9 w9 hO9 hG
          obtain ⟨a9, cap9, hv, -⟩ := hO9.sl
          subst hv
          have q4 := hid (held_grown rb5.out hG (own_ne hO4.out rb5.out (by decide)))
          have hB9 := hid (hO4.out.grew hG hB5.out (Nat.le_refl _) hsz5)
          replace hO9 := hid hO9
          clear hG
          go_wp2_with fail
          go_roundw
          case rel => exact ⟨k + 1, a9, cap9, ps ++ [(pb, 0)], by simp, hk1.out, by rw [hcs.out], hid (by rw [hm.out, htk.out, List.cons_append]), hsn.out, by rw [hcs.out]; exact hcl5.out, by rw [hcs.out]; exact hO9.out, q4.out, hB9.out⟩
          case measure => simp [intOf]; omega
        · have hnz : (pe != 0) = true := by simp [hpe]
          have e : putSS tow l = ([], pe) := by
            have ej := errJ_one (ps := ps) (p := (pb, pe)) hej.out hpe (all := pieces tow l) (by rw [hpl.out]; exact ⟨_, by rw [List.append_assoc]; rfl⟩)
            unfold putSS; rw [if_neg (by omega), ej, if_neg hpe]
          replace e := hid e
          replace hpe := hid hpe
          go_wp2_with fail
          go_ret2
          rw [e.out]
          exact BsOk.no hB5.out
      · go_simp
        have hS := hid (row_lit .i64 2 U2.drew [x0, x1, x2, x3, x4, x5, x6] _ 7 U2.heap.size rfl rfl (by unfold maxLen; omega) rfl)
        replace hT := hid (bthen hT.out (alloc_new U2.drew (.cells #[.int .i64 x0, .int .i64 x1, .int .i64 x2, .int .i64 x3, .int .i64 x4, .int .i64 x5, .int .i64 x6] 2)).2.1)
        refine hK _ _ ⟨(alloc_new _ _).2.1, ?_⟩
        clear hK
        refine wpAnyR_only 0 rfl (by kernel_rfl) (by rfl) (fun K hK => ?_)
        go_simp
        refine (rfieldsS17 _).mono ?_
        rintro e V4 ⟨fa, fc, rfl, hF, hA1⟩
        replace hT := hid (bthen hT.out hA1)
        replace hS := hid (hS.out.below hA1)
        replace hF := hid hF
        go_simp
        refine hK _ _ ⟨hA1, ?_⟩
        clear hK
        clear hA1
        refine wpAnyR_only 16 rfl (by kernel_rfl) (by rfl) (fun K hK => ?_)
        go_simp
        refine (rsput_any fa 7 fc (fN SD17) (fS SD17) (fL SD17) (fH SD17) (some ⟨_, 0, none⟩) 7 7 [x0, x1, x2, x3, x4, x5, x6] _ hF.out hS.out hb7.out (by omega)).mono ?_
        rintro e V5 ⟨ra5, rc5, rfl, hO, hA2⟩
        have e1 : putF (fN SD17) (fS SD17) (fL SD17) (fH SD17) 7 [x0, x1, x2, x3, x4, x5, x6] = (pb, pe) := hp.out
        rw [e1] at hO ⊢
        dsimp only at hO ⊢
        clear e1
        replace hT := hid (bthen hT.out hA2)
        have hO5 := hid hO.slf
        have hL5 := hid (put_len hp.out (by decide)).1
        clear hO hF hS
        go_simp
        refine hK _ _ ⟨hA2, ?_⟩
        clear hK
        clear hA2
        refine wpAnyR_take 17 rfl (by kernel_rfl) (by kernel_rfl) (by kernel_rfl) (fun _ _ _ _ h => h) ⟨_, Or.inl ⟨by rfl, fun w2 hb2 => by (go_simp; try with_reducible rfl)⟩, _, by (go_simp; try rfl), ?_⟩
        refine wpAnyR_take 18 rfl (by kernel_rfl) (by kernel_rfl) (by kernel_rfl) (fun _ _ _ _ h => h) ⟨_, Or.inl ⟨by rfl, fun w2 hb2 => by (go_simp; try with_reducible rfl)⟩, _, by (go_simp; try rfl), ?_⟩
        refine wpAnyR_take 19 rfl (by kernel_rfl) (by kernel_rfl) (by kernel_rfl) (fun _ _ _ _ h => h) ⟨_, Or.inl ⟨by rfl, fun w2 hb2 => by (go_simp; try with_reducible rfl)⟩, _, by (go_simp; try rfl), ?_⟩
        refine wpAnyR_take 20 rfl (by kernel_rfl) (by kernel_rfl) (by kernel_rfl) (fun _ _ _ _ h => h) ⟨_, Or.inl ⟨by rfl, fun w2 hb2 => by (go_simp; try with_reducible rfl)⟩, _, by (go_simp; try rfl), ?_⟩
        refine wpAnyR_take 21 rfl (by kernel_rfl) (by kernel_rfl) (by kernel_rfl) (fun _ _ _ _ h => h) ⟨_, Or.inl ⟨by rfl, fun w2 hb2 => by (go_simp; try with_reducible rfl)⟩, _, by (go_simp; try rfl), ?_⟩
        refine wpAnyR_done (by kernel_rfl) ?_ _
        have hB5 := hid (bthen hB.out (show After wr V5 from hT.out))
        have rb5 := hid (held_after hT.out rb.out)
        have hO4 := hid (hOw.out.below hT.out)
        have hsz5 := hB5.out.size
        clear rq hT hOw rb hB
        by_cases hpe : pe = 0
        · subst hpe
          have hla := hid (show (catJ ps).length + pb.length ≤ 140737488355328 / 1 by have := hcl.out; have := hL5.out; omega)
          have hsn := hid (errJ_snoc (pb, 0) hej.out)
          have hcs := hid (catJ_snoc ps (pb, 0))
          have hcl5 := hid (show (catJ ps ++ pb).length ≤ 8000 * (k + 1 + 1) by have := hcl.out; have := hL5.out; rw [List.length_append]; omega)
          go_wp2_with (first | (at_builtin; refine wpList_app _ rfl (.tmp 63) (.tmp 64) 26 rfl w.heap.size 5 .u8 1 bytesOf (.slice ad (catJ ps).length cp) (catJ ps) rfl hO4.out ra5 rc5 pb rfl hO5.out.2.2.2.2 hO5.out.2.2.2.1 hla.out (by omega) hsz5 ?_))
          intro v9 w9 hO9 hG
          obtain ⟨a9, cap9, hv, -⟩ := hO9.sl
          subst hv
          have q4 := hid (held_grown rb5.out hG (own_ne hO4.out rb5.out (by decide)))
          have hB9 := hid (hO4.out.grew hG hB5.out (Nat.le_refl _) hsz5)
          replace hO9 := hid hO9
          clear hG
          go_wp2_with fail
          go_roundw
          case rel => exact ⟨k + 1, a9, cap9, ps ++ [(pb, 0)], by simp, hk1.out, by rw [hcs.out], hid (by rw [hm.out, htk.out, List.cons_append]), hsn.out, by rw [hcs.out]; exact hcl5.out, by rw [hcs.out]; exact hO9.out, q4.out, hB9.out⟩
          case measure => simp [intOf]; omega
        · have hnz : (pe != 0) = true := by simp [hpe]
          have e : putSS tow l = ([], pe) := by
            have ej := errJ_one (ps := ps) (p := (pb, pe)) hej.out hpe (all := pieces tow l) (by rw [hpl.out]; exact ⟨_, by rw [List.append_assoc]; rfl⟩)
            unfold putSS; rw [if_neg (by omega), ej, if_neg hpe]
          replace e := hid e
          replace hpe := hid hpe
          go_wp2_with fail
          go_ret2
          rw [e.out]
          exact BsOk.no hB5.out

end Go.Proofs.Ytahjcbdofljfpaa
