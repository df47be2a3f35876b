/- Package rescue: Scan; Gaps and the papers' Gaps. -/
import Derived.Test.YtlfbhfmchdbnoaaRes5
import Derived.Test.YtlfbhfmchdbnoaaKG
import Derived.Deep.DeepCutAuto
namespace Go.Proofs.Ytlfbhfmchdbnoaa
open Go.ChangeShapes Go.WideShapes Go.ChangeAt Go.RowKit
set_option linter.unusedVariables false
set_option linter.unusedSimpArgs false

theorem el38_put {x : E38} {W : World} {D : Nat} (h : el38 x W) (hK : W.heap[D]? = some (.deferred (some []))) (o : Obj) : el38 x (W.putObj D o) := by
  have key : ∀ q, x.2.2.1 = some q → q.block ≠ D := fun q e e2 => by
    obtain ⟨cs, hc⟩ := h.2 q e
    rw [e2, hK] at hc; cases hc
  refine ⟨⟨h.1.1, h.1.2.1, h.1.2.2.1, h.1.2.2.2.1, fun i y hy => ?_⟩, fun q e => ?_⟩
  · obtain ⟨h1, b, off, e, hc⟩ := h.1.2.2.2.2 i y hy
    refine ⟨h1, b, off, e, fun j2 v2 hj => ?_⟩
    have hk := key _ e
    exact (World.cell?_of_block (w := W) (show (W.putObj D o).heap[b]? = W.heap[b]? from World.putObj_heap_other hk)).trans (hc j2 v2 hj)
  · obtain ⟨cs, hc⟩ := h.2 q e
    exact ⟨cs, (World.putObj_heap_other (key q e)).trans hc⟩
attribute [local go_sem] Oper.semAt_some
set_option maxRecDepth 100000 in
set_option maxHeartbeats 16000000 in
theorem scan_any (a : Option Addr) (len cap : Nat) (zs : List Int) (w : World) (hS : Sl .u8 w a len cap zs) (hz : ∀ x ∈ zs, (Lit.int .u8 x).wf = true) (hl : len ≤ 100000) : Calls Try.prog 16 #[.slice a len cap] w (ScOk 61 w (scanS zs)) := by
  have hbk : ∀ b off, a = some ⟨b, off, none⟩ → 0 < len → b < w.heap.size := by
    intro b off e h
    obtain ⟨b2, o2, e2, g⟩ := hS.2.2.2.2 0 (by rw [hS.1]; exact h)
    rw [e] at e2
    cases e2
    exact World.block_lt_of_cell? w _ g
  replace hbk := hid hbk
  have hS0 := hid hS
  clear hS
  replace hz := hid hz
  have nA := alloc_new w (.cells #[.slice none 0 0] 36)
  have r4 := nA.2.2
  have hA := nA.2.1
  clear nA
  refine calls_of_marks Try.func16 rfl ?_
  simp only [Try.ntmps16, List.size_toArray, List.length_cons, List.length_nil, Nat.reduceAdd, Nat.reduceSub, Array.replicate_succ, Array.replicate_zero, List.push_toArray, List.append_toArray, List.nil_append, List.cons_append]
  go_upto_region 2 with (fail)
  obtain ⟨W6, hW6⟩ : ∃ X, w.alloc (.cells #[.slice none 0 0] 36) = X := ⟨_, rfl⟩
  rw [hW6] at r4 hA
  rw [hW6]
  obtain ⟨p4, hp4⟩ : ∃ X, w.heap.size = X := ⟨_, rfl⟩
  have n4 : w.heap.size ≤ p4 := by omega
  rw [hp4] at r4
  rw [hp4]
  clear hW6
  replace hp4 := hid hp4
  have aX := alloc_new W6 (.cells #[.slice a len cap] 22)
  obtain ⟨W0, hW0⟩ : ∃ X, W6.alloc (.cells #[.slice a len cap] 22) = X := ⟨_, rfl⟩
  replace hW0 := hid hW0
  obtain ⟨Bx, hBx⟩ : ∃ X, W6.heap.size = X := ⟨_, rfl⟩
  have l4 := held_lt r4
  rw [hBx] at l4
  replace hBx := hid hBx
  rw [hW0.out, hBx.out] at aX
  obtain ⟨aX1, aX2, aX3⟩ := aX
  have s4 := hid (held_after aX2 r4)
  have hB1 := hid (bthen hA aX2)
  have hMw := hid hB1.out.size
  have lB := held_lt aX3
  have hT := hid (blocks_tells a len cap zs w.heap.size Bx W0 hMw.out lB aX3 (hS0.out.below (hB1.out)) hbk.out hz.out hl)
  clear aX1 aX2 aX3 r4 hA
  go_wp2_with fail
  refine (blocks_any a len cap _).mono ?_
  rintro e V ⟨rfl, rfl⟩
  rw [hW0.out, hBx.out]
  go_wp2_with fail
  refine wp_rangeFunc_box (gf := 37) (lb := #[.pointer (some ⟨Bx, 0, none⟩)]) rfl (enters_of Try.func37 (by kernel_rfl) rfl) hT.out (fun h k => kpZ_t h k) (fun W l o h => kpZ_b hMw.out lB W l o h) ?el (fun _ => rfl)
    (fun pre W => (∃ (oa : Option Addr) (oc : Nat), W.heap[p4]? = some (.cells #[.slice oa pre.length oc] 36 (0, 0)) ∧ OwnE 61 W W0.heap.size 3 (.slice oa pre.length oc) pre.length (vals38 pre).flatten) ∧ (∀ x ∈ pre, el38 x W) ∧ Below w.heap.size w W ∧ W0.heap.size ≤ W.heap.size)
    (fun pre W => False)
    ?own ?ownx ?stays ?start (fun x => #[.int .i64 x.1, .int .u32 x.2.1, .slice x.2.2.1 x.2.2.2.2.length x.2.2.2.1]) 61 ?a1 ?ela ?kp ?assign ?body ?done ?stop
  case assign =>
    intro l9 i W K p W2 hp hW2 hK
    have e1 := hp.symm
    have e2 := hW2.symm
    clear hp hW2
    unfold enc38
    gi_wp2
    exact hK
  case el =>
    rintro x A B row h hg hr
    exact el38_own h hg hr
  case ela =>
    rintro x A A2 h hA
    exact el38_aft h hA
  case kp =>
    rintro pre A A2 ⟨_, _, _, k8⟩ h
    exact kpZ_after h (Nat.le_trans hMw.out k8) (Nat.lt_of_lt_of_le lB k8)
  case own =>
    rintro pre A B row ⟨⟨oa, oc, k1, k2⟩, k5, k7, k8⟩ hg hr
    exact ⟨⟨oa, oc, keeps_row k1 rfl hg hr, keeps_ownE k2 hg hr⟩, fun x hx => el38_own (k5 x hx) hg hr, keeps_below k7 hMw.out k7.size hg hr, Nat.le_trans k8 hg.size⟩
  case ownx =>
    intro pre A B row h
    exact h.elim
  case stays =>
    rintro pre A A2 ⟨⟨oa, oc, k1, k2⟩, k5, k7, k8⟩ e
    exact ⟨⟨oa, oc, held_after e k1, k2.below e⟩, fun x hx => el38_aft (k5 x hx) e, bthen k7 e, Nat.le_trans k8 e.size⟩
  case start => exact ⟨⟨none, 0, s4.out, OwnE.nil _ _ _ _⟩, (fun x hx => by cases hx), hB1.out, Nat.le_refl _⟩
  case stop =>
    intro D pre W hD hp h
    exact h.elim
  case done =>
    rintro D xs W hD hSx ⟨⟨oa, oc, r4, hO⟩, hel, hB, hM⟩ hK
    obtain ⟨m, hm⟩ : ∃ z, xs.length = z := ⟨_, rfl⟩
    rw [hm] at r4 hO
    replace hm := hid hm
    have m4 := held_cell r4 0 _ rfl
    have hO2 := hid ((ownE_put37 hO hK (.deferred none)).base hMw.out)
    have hel2 := hid (fun x hx => el38_put (hel x hx) hK (.deferred none))
    have hB2 := hid (below_mark (W0 := W0) hB hMw.out hD hK)
    replace hK := hid hK
    replace hSx := hid hSx
    clear hO hel hB r4 hM
    go_wp2_with fail
    refine marks_ret1 (v := .slice oa m oc) hK.out ?_ ⟨xs, oa, oc, hSx.out, by rw [hm.out], by rw [hm.out]; exact hO2.out, hel2.out, hB2.out⟩
    simp [results, Try.results16, go_sem]
  case body =>
    rintro fl pre ⟨at_, no, xa, xc, l⟩ p W ⟨⟨oa, oc, r4, hO⟩, hel, hB, hM⟩ hx hp rp hlen
    dsimp only at rp ⊢
    apply wpIn_block
    obtain ⟨m, hm⟩ : ∃ z, pre.length = z := ⟨_, rfl⟩
    rw [hm] at r4 hO hlen
    replace hm := hid hm
    have x0 := held_cell rp 0 _ rfl
    have x1 := held_cell rp 1 _ rfl
    have x2 := held_cell rp 2 _ rfl
    have y4 := held_cell r4 0 _ rfl
    have f4 := held_free r4 0
    have nE := alloc_new W (.cells #[.int .i64 at_, .int .u32 no, .slice xa l.length xc] 61)
    have hAe := nE.2.1
    have hE6 := hid (show Els (W.alloc (.cells #[.int .i64 at_, .int .u32 no, .slice xa l.length xc] 61)) 3 (some ⟨W.heap.size, 0, none⟩) 1 1 [cel38 ((at_, no, xa, xc, l) : E38)] from els_blk (m := 3) nE.2.2 rfl)
    have k4 := held_after hAe r4
    have hO2 := hid (hO.below hAe)
    have hel2 := hid (fun x hx => el38_aft (hel x hx) hAe)
    have hx2 := hid (el38_aft hx hAe)
    have hB2 := hid (bthen hB hAe)
    have hMu := hid (Nat.le_trans hM hAe.size)
    have kA2 := hid (keepsOthers_after hAe)
    have kZ2 := hid (kpZ_after (L := w.heap.size) (B := Bx) hAe (Nat.le_trans hMw.out hM) (Nat.lt_of_lt_of_le lB hM))
    clear nE hAe hO hel hx hB hM r4 rp hp
    gi_wp2_with (first | (gi_at_builtin; refine wpListIn_appE rfl (.tmp 8) (.tmp 10) 36 rfl W0.heap.size 61 3 40 fndO (by decide) (.slice oa m oc) m (vals38 pre).flatten rfl hO2.out (some ⟨_, 0, none⟩) 1 1 [cel38 ((at_, no, xa, xc, l) : E38)] rfl hE6.out (vals_one _) (by unfold maxLen; omega) (by omega) hMu.out ?_) | (refine wpListIn_plain rfl (fun K hK => wpIn_of_plain (by intro c e; cases e) ?_); go_simp; refine hK _ _ ?_; clear hK))
    intro a9 c9 w9 hO9 hG hN
    have j4 := (hG.block p4 (held_lt k4) (fun e2 => hO2.out.ne k4 (by decide) e2.symm)).trans k4
    have kA9 := hid (kA2.out.trans (KeepsOthers.of_grownBy hG (fun j ob e hj => ownE_cells hO2.out e hj)))
    have kZ9 := hid (kpZ_t kZ2.out (kpZ_grown (L := w.heap.size) (B := Bx) hG (Nat.le_trans hMw.out hMu.out) (Nat.lt_of_lt_of_le lB hMu.out) (fun g e => by have := (hO2.out.lt g e).1; have := hMw.out; omega)))
    have hB9 := hid (hB2.out.grown hG (Nat.le_trans hMw.out hMu.out) (fun g e => Nat.le_trans hMw.out (hO2.out.lt g e).1))
    have s9 := hid (Nat.le_trans hMu.out hG.size)
    have z9 := held_cell j4 0 _ rfl
    have g9 := held_free j4 0
    have hel9 := hid (show ∀ x ∈ pre ++ [((at_, no, xa, xc, l) : E38)], el38 x w9 from fun x hx => by rcases List.mem_append.1 hx with hx | hx; exact el38_grown (hel2.out x hx) hO2.out hG (by decide); rw [List.mem_singleton] at hx; subst hx; exact el38_grown hx2.out hO2.out hG (by decide))
    first | rw [← vals_snoc] at hO9 | rw [← vals_snoc2] at hO9
    have hl9 : (pre ++ [((at_, no, xa, xc, l) : E38)]).length = m + 1 := by rw [List.length_append, hm.out]; rfl
    replace hO9 := hid hO9
    clear hG hN k4 y4 f4 hO2 hel2 hx2 hB2 hE6 x0 x1 x2
    gi_wp2_with (refine wpListIn_plain rfl (fun K hK => wpIn_of_plain (by intro c e; cases e) ?_); go_simp; refine hK _ _ ?_; clear hK)
    refine ⟨kA9.out.trans (KeepsOthers.setCell _ _ _), kpZ_t kZ9.out (kpZ_set _ _ _ _ n4 (by omega)), ?_⟩
    refine ⟨⟨a9, c9, ?_, ?_⟩, ?_, hB9.out.setCell (p := ⟨p4, 0, none⟩) n4 _, ?_⟩
    · rw [hl9]; exact held_set j4 0 _
    · rw [hl9]; exact hO9.out.kept (fun g hg => Below.heap_setCell w9 ⟨p4, 0, none⟩ _ g (fun e2 => by subst e2; exact (hO9.out.ne j4 (by decide)) hg))
    · exact fun x hx => el38_set (hel9.out x hx) j4 (by decide)
    · refine Nat.le_trans s9.out (kpZ_set (L := 0) (B := Bx) w9 p4 0 _ (by omega) (by omega)).1
set_option maxRecDepth 100000 in
set_option maxHeartbeats 8000000 in
theorem gaps_any (a : Option Addr) (cap m : Nat) (xs : List E38) (w : World) (hm : xs.length = m) (hE : Els w 3 a m cap (vals38 xs)) (h1000 : m ≤ 100000) (hx : ∀ x ∈ nosS (xs.map strip38), 0 ≤ x ∧ x ≤ 4294967295) : Calls Try.prog 20 #[.slice a m cap] w fun e w' => e = .returned (.int .i64 (gapS (nosS (xs.map strip38)))) ∧ After w w' := by
  obtain ⟨l, hl⟩ : ∃ l, nosS (xs.map strip38) = l := ⟨_, rfl⟩
  rw [hl] at hx ⊢
  have hlm : l.length = m := by rw [← hl, nosS_len, List.length_map, hm]
  have hat := hid (fun (k : Nat) (x : E38) (h : xs[k]? = some x) => show l.getD k 0 = x.2.1 by rw [← hl, nos_at (x := strip38 x) (by rw [List.getElem?_map, h]; rfl)]; rfl)
  have hst := hid (fun (k : Nat) (h : k + 1 < m) => gapF_step (l := l) (k := k) (by omega))
  have hen := hid (fun (k : Nat) (h : m ≤ k + 1) => gapF_end (l := l) (k := k) (by omega))
  have hbd := hid (fun k => gapF_bd hx k)
  have hnb := hid (fun (k : Nat) (x : E38) (h : xs[k]? = some x) => show 0 ≤ x.2.1 ∧ x.2.1 ≤ 4294967295 by rw [← hat.out k x h]; exact hx _ (by rw [List.getD_eq_getElem?_getD, List.getElem?_eq_getElem (show k < l.length by have := (List.getElem?_eq_some_iff.1 h).1; omega)]; exact List.getElem_mem _))
  clear hx
  replace hl := hid hl
  replace hlm := hid hlm
  replace hE := hid hE
  replace hm := hid hm
  go_enter Try.func20, Try.ntmps20
  go_upto_region 0 with (fail)
  go_wp2_with fail
  go_loopw [3, 4] (fun sv ix wr => ∃ (k : Nat) (s : Int), ix = .int .i64 ((k + 1 : Nat) : Int) ∧ sv = .int .i64 s ∧ Hid (s = gapF l k) ∧ k ≤ m ∧ After w wr) (fun _ ix _ => m + 1 - (intOf ix).toNat)
  case atStart => exact ⟨0, 0, rfl, rfl, hid rfl, by omega, Below.refl _ _⟩
  case round =>
    obtain ⟨k, s, rfl, rfl, hs, hk, hA⟩ := hrel
    obtain ⟨q, hq⟩ : ∃ q, k + 1 = q := ⟨_, rfl⟩
    rw [hq]
    by_cases hlt : (q : Int) < m
    case neg =>
      have hs2 := hid (show s = gapS l by rw [hen.out k (by omega)]; exact hs.out)
      replace hA := hid hA
      replace hq := hid hq
      go_wp2_with fail
      go_ret
      exact ⟨by rw [hs2.out]; rfl, hA.out⟩
    obtain ⟨x, hx⟩ : ∃ x, xs[q]? = some x := ⟨_, List.getElem?_eq_getElem (show q < xs.length by have := hm.out; omega)⟩
    obtain ⟨y, hy⟩ : ∃ y, xs[k]? = some y := ⟨_, List.getElem?_eq_getElem (show k < xs.length by have := hm.out; omega)⟩
    have bx := hnb.out q x hx
    have by_ := hnb.out k y hy
    have ex := hat.out q x hx
    have ey := hat.out k y hy
    have hg := hst.out k (by omega)
    rw [hq] at hg
    rw [ex, ey, ← hs.out] at hg
    have bs := hbd.out k
    rw [← hs.out] at bs
    obtain ⟨x1, x2, x3, x4, x5⟩ := x
    obtain ⟨y1, y2, y3, y4, y5⟩ := y
    dsimp only at bx by_ hg
    obtain ⟨pb, off, e9, c0, c1, c2⟩ := (hE.out.below hA).at3 (vals_at hx)
    obtain ⟨pb2, off2, e8, d0, d1, d2⟩ := (hE.out.below hA).at3 (vals_at hy)
    cases e9
    cases e8
    dsimp only at c0 c1 c2 d0 d1 d2
    obtain ⟨g, hgg⟩ : ∃ g, gapF l q = g := ⟨_, rfl⟩
    rw [hgg] at hg
    obtain ⟨d, hd⟩ : ∃ d, x2 - y2 - 1 = d := ⟨_, rfl⟩
    rw [hd] at hg
    have w1 : IntKind.i64.wrap x2 = x2 := by rw [IntKind.wrap_i64]; omega
    have w2 : IntKind.i64.wrap y2 = y2 := by rw [IntKind.wrap_i64]; omega
    have w3 : IntKind.i64.wrap (x2 - y2) = x2 - y2 := by rw [IntKind.wrap_i64]; omega
    have w4 : IntKind.i64.wrap (x2 - y2 - 1) = d := by rw [IntKind.wrap_i64]; omega
    have w6 : IntKind.i64.wrap ((q : Int) - 1) = (k : Int) := by rw [IntKind.wrap_i64]; omega
    have w7 : IntKind.i64.wrap ((q : Int) + 1) = ((q + 1 : Nat) : Int) := by rw [IntKind.wrap_i64]; omega
    have kz : (0 : Int) ≤ k := by omega
    have qz : (0 : Int) ≤ q := by omega
    have klt : (k : Int) < m := by omega
    have hq1 := hid (show q ≤ m by omega)
    have hms := hid (show m + 1 - (q + 1) < m + 1 - q by omega)
    have hA2 := hid hA.drew
    have hgs := hid (show g = gapF l q from hgg.symm)
    clear hx hy hs ex ey hgg hk
    by_cases hdz : d < 0
    case pos =>
      obtain rfl : g = s := by omega
      have hdn2 : ¬ (0 : Int) < d := by omega
      have hdn3 : ¬ (0 : Int) ≤ d := by omega
      have w5 : IntKind.i64.wrap g = g := by rw [IntKind.wrap_i64]; omega
      have w55 : IntKind.i64.wrap (g + 0) = g := by rw [IntKind.wrap_i64]; omega
      clear hg hd bs bx by_
      replace hq := hid hq
      go_upto_region 5 with (fail)
      refine wp_region_R (by kernel_rfl) ?_
      refine wpAnyR_take 0 rfl (by kernel_rfl) (by kernel_rfl) (by kernel_rfl) (fun _ _ _ _ h => h) ⟨_, Or.inl ⟨by rfl, fun w2 hb2 => by (go_simp; try with_reducible rfl)⟩, _, by (go_simp; try rfl), ?_⟩
      refine wpAnyR_take 1 rfl (by kernel_rfl) (by kernel_rfl) (by kernel_rfl) (fun _ _ _ _ h => h) ⟨_, Or.inl ⟨by rfl, fun w2 hb2 => by (go_simp; try with_reducible rfl)⟩, _, by (go_simp; try rfl), ?_⟩
      refine wpAnyR_take 2 rfl (by kernel_rfl) (by kernel_rfl) (by kernel_rfl) (fun _ _ _ _ h => h) ⟨_, Or.inl ⟨by rfl, fun w2 hb2 => by (go_simp; try with_reducible rfl)⟩, _, by (go_simp; try rfl), ?_⟩
      refine wpAnyR_take 3 rfl (by kernel_rfl) (by kernel_rfl) (by kernel_rfl) (fun _ _ _ _ h => h) ⟨_, Or.inl ⟨by rfl, fun w2 hb2 => by (go_simp; try with_reducible rfl)⟩, _, by (go_simp; try rfl), ?_⟩
      refine wpAnyR_take 4 rfl (by kernel_rfl) (by kernel_rfl) (by kernel_rfl) (fun _ _ _ _ h => h) ⟨_, Or.inl ⟨by rfl, fun w2 hb2 => by (go_simp; try with_reducible rfl)⟩, _, by (go_simp; try rfl), ?_⟩
      refine wpAnyR_take 5 rfl (by kernel_rfl) (by kernel_rfl) (by kernel_rfl) (fun _ _ _ _ h => h) ⟨_, Or.inl ⟨by rfl, fun w2 hb2 => by (go_simp; try with_reducible rfl)⟩, _, by (go_simp; try rfl), ?_⟩
      refine wpAnyR_take 6 rfl (by kernel_rfl) (by kernel_rfl) (by kernel_rfl) (fun _ _ _ _ h => h) ⟨_, Or.inl ⟨by rfl, fun w2 hb2 => by (have hx := (Below.cell hb2 (World.block_lt_of_cell? wr _ c1)).trans c1; go_simp; try with_reducible rfl)⟩, _, by (go_simp; try rfl), ?_⟩
      refine wpAnyR_take 7 rfl (by kernel_rfl) (by kernel_rfl) (by kernel_rfl) (fun _ _ _ _ h => h) ⟨_, Or.inl ⟨by rfl, fun w2 hb2 => by (go_simp; try with_reducible rfl)⟩, _, by (go_simp; try rfl), ?_⟩
      refine wpAnyR_take 8 rfl (by kernel_rfl) (by kernel_rfl) (by kernel_rfl) (fun _ _ _ _ h => h) ⟨_, Or.inl ⟨by rfl, fun w2 hb2 => by (go_simp; try with_reducible rfl)⟩, _, by (go_simp; try rfl), ?_⟩
      refine wpAnyR_take 9 rfl (by kernel_rfl) (by kernel_rfl) (by kernel_rfl) (fun _ _ _ _ h => h) ⟨_, Or.inl ⟨by rfl, fun w2 hb2 => by (go_simp; try with_reducible rfl)⟩, _, by (go_simp; try rfl), ?_⟩
      refine wpAnyR_take 10 rfl (by kernel_rfl) (by kernel_rfl) (by kernel_rfl) (fun _ _ _ _ h => h) ⟨_, Or.inl ⟨by rfl, fun w2 hb2 => by (go_simp; try with_reducible rfl)⟩, _, by (go_simp; try rfl), ?_⟩
      refine wpAnyR_take 11 rfl (by kernel_rfl) (by kernel_rfl) (by kernel_rfl) (fun _ _ _ _ h => h) ⟨_, Or.inl ⟨by rfl, fun w2 hb2 => by (go_simp; try with_reducible rfl)⟩, _, by (go_simp; try rfl), ?_⟩
      refine wpAnyR_take 12 rfl (by kernel_rfl) (by kernel_rfl) (by kernel_rfl) (fun _ _ _ _ h => h) ⟨_, Or.inl ⟨by rfl, fun w2 hb2 => by (go_simp; try with_reducible rfl)⟩, _, by (go_simp; try rfl), ?_⟩
      refine wpAnyR_take 13 rfl (by kernel_rfl) (by kernel_rfl) (by kernel_rfl) (fun _ _ _ _ h => h) ⟨_, Or.inl ⟨by rfl, fun w2 hb2 => by (go_simp; try with_reducible rfl)⟩, _, by (go_simp; try rfl), ?_⟩
      refine wpAnyR_take 14 rfl (by kernel_rfl) (by kernel_rfl) (by kernel_rfl) (fun _ _ _ _ h => h) ⟨_, Or.inl ⟨by rfl, fun w2 hb2 => by (have hx := (Below.cell hb2 (World.block_lt_of_cell? wr _ d1)).trans d1; go_simp; try with_reducible rfl)⟩, _, by (go_simp; try rfl), ?_⟩
      refine wpAnyR_take 15 rfl (by kernel_rfl) (by kernel_rfl) (by kernel_rfl) (fun _ _ _ _ h => h) ⟨_, Or.inl ⟨by rfl, fun w2 hb2 => by (go_simp; try with_reducible rfl)⟩, _, by (go_simp; try rfl), ?_⟩
      refine wpAnyR_take 16 rfl (by kernel_rfl) (by kernel_rfl) (by kernel_rfl) (fun _ _ _ _ h => h) ⟨_, Or.inl ⟨by rfl, fun w2 hb2 => by (go_simp; try with_reducible rfl)⟩, _, by (go_simp; try rfl), ?_⟩
      refine wpAnyR_take 17 rfl (by kernel_rfl) (by kernel_rfl) (by kernel_rfl) (fun _ _ _ _ h => h) ⟨_, Or.inl ⟨by rfl, fun w2 hb2 => by (go_simp; try with_reducible rfl)⟩, _, by (go_simp; try rfl), ?_⟩
      refine wpAnyR_take 18 rfl (by kernel_rfl) (by kernel_rfl) (by kernel_rfl) (fun _ _ _ _ h => h) ⟨_, Or.inl ⟨by rfl, fun w2 hb2 => by (go_simp; try with_reducible rfl)⟩, _, by (go_simp; try rfl), ?_⟩
      refine wpAnyR_take 19 rfl (by kernel_rfl) (by kernel_rfl) (by kernel_rfl) (fun _ _ _ _ h => h) ⟨_, Or.inl ⟨by rfl, fun w2 hb2 => by (go_simp; try with_reducible rfl)⟩, _, by (go_simp; try rfl), ?_⟩
      refine wpAnyR_take 20 rfl (by kernel_rfl) (by kernel_rfl) (by kernel_rfl) (fun _ _ _ _ h => h) ⟨_, Or.inl ⟨by rfl, fun w2 hb2 => by (go_simp; try with_reducible rfl)⟩, _, by (go_simp; try rfl), ?_⟩
      refine wpAnyR_done (by kernel_rfl) ?_ _
      clear hA
      go_wp2_with fail
      go_roundw
      case rel => exact ⟨q, g, by simp, rfl, hgs, hq1.out, hA2.out⟩
      case measure => simp [intOf]; have := hms.out; have := hq1.out; omega
    by_cases hdz2 : d = 0
    case pos =>
      subst hdz2
      obtain rfl : g = s := by omega
      have w5 : IntKind.i64.wrap g = g := by rw [IntKind.wrap_i64]; omega
      have w55 : IntKind.i64.wrap (g + 0) = g := by rw [IntKind.wrap_i64]; omega
      clear hg hd bs bx by_
      replace hq := hid hq
      go_upto_region 5 with (fail)
      refine wp_region_R (by kernel_rfl) ?_
      refine wpAnyR_take 0 rfl (by kernel_rfl) (by kernel_rfl) (by kernel_rfl) (fun _ _ _ _ h => h) ⟨_, Or.inl ⟨by rfl, fun w2 hb2 => by (go_simp; try with_reducible rfl)⟩, _, by (go_simp; try rfl), ?_⟩
      refine wpAnyR_take 1 rfl (by kernel_rfl) (by kernel_rfl) (by kernel_rfl) (fun _ _ _ _ h => h) ⟨_, Or.inl ⟨by rfl, fun w2 hb2 => by (go_simp; try with_reducible rfl)⟩, _, by (go_simp; try rfl), ?_⟩
      refine wpAnyR_take 2 rfl (by kernel_rfl) (by kernel_rfl) (by kernel_rfl) (fun _ _ _ _ h => h) ⟨_, Or.inl ⟨by rfl, fun w2 hb2 => by (go_simp; try with_reducible rfl)⟩, _, by (go_simp; try rfl), ?_⟩
      refine wpAnyR_take 3 rfl (by kernel_rfl) (by kernel_rfl) (by kernel_rfl) (fun _ _ _ _ h => h) ⟨_, Or.inl ⟨by rfl, fun w2 hb2 => by (go_simp; try with_reducible rfl)⟩, _, by (go_simp; try rfl), ?_⟩
      refine wpAnyR_take 4 rfl (by kernel_rfl) (by kernel_rfl) (by kernel_rfl) (fun _ _ _ _ h => h) ⟨_, Or.inl ⟨by rfl, fun w2 hb2 => by (go_simp; try with_reducible rfl)⟩, _, by (go_simp; try rfl), ?_⟩
      refine wpAnyR_take 5 rfl (by kernel_rfl) (by kernel_rfl) (by kernel_rfl) (fun _ _ _ _ h => h) ⟨_, Or.inl ⟨by rfl, fun w2 hb2 => by (go_simp; try with_reducible rfl)⟩, _, by (go_simp; try rfl), ?_⟩
      refine wpAnyR_take 6 rfl (by kernel_rfl) (by kernel_rfl) (by kernel_rfl) (fun _ _ _ _ h => h) ⟨_, Or.inl ⟨by rfl, fun w2 hb2 => by (have hx := (Below.cell hb2 (World.block_lt_of_cell? wr _ c1)).trans c1; go_simp; try with_reducible rfl)⟩, _, by (go_simp; try rfl), ?_⟩
      refine wpAnyR_take 7 rfl (by kernel_rfl) (by kernel_rfl) (by kernel_rfl) (fun _ _ _ _ h => h) ⟨_, Or.inl ⟨by rfl, fun w2 hb2 => by (go_simp; try with_reducible rfl)⟩, _, by (go_simp; try rfl), ?_⟩
      refine wpAnyR_take 8 rfl (by kernel_rfl) (by kernel_rfl) (by kernel_rfl) (fun _ _ _ _ h => h) ⟨_, Or.inl ⟨by rfl, fun w2 hb2 => by (go_simp; try with_reducible rfl)⟩, _, by (go_simp; try rfl), ?_⟩
      refine wpAnyR_take 9 rfl (by kernel_rfl) (by kernel_rfl) (by kernel_rfl) (fun _ _ _ _ h => h) ⟨_, Or.inl ⟨by rfl, fun w2 hb2 => by (go_simp; try with_reducible rfl)⟩, _, by (go_simp; try rfl), ?_⟩
      refine wpAnyR_take 10 rfl (by kernel_rfl) (by kernel_rfl) (by kernel_rfl) (fun _ _ _ _ h => h) ⟨_, Or.inl ⟨by rfl, fun w2 hb2 => by (go_simp; try with_reducible rfl)⟩, _, by (go_simp; try rfl), ?_⟩
      refine wpAnyR_take 11 rfl (by kernel_rfl) (by kernel_rfl) (by kernel_rfl) (fun _ _ _ _ h => h) ⟨_, Or.inl ⟨by rfl, fun w2 hb2 => by (go_simp; try with_reducible rfl)⟩, _, by (go_simp; try rfl), ?_⟩
      refine wpAnyR_take 12 rfl (by kernel_rfl) (by kernel_rfl) (by kernel_rfl) (fun _ _ _ _ h => h) ⟨_, Or.inl ⟨by rfl, fun w2 hb2 => by (go_simp; try with_reducible rfl)⟩, _, by (go_simp; try rfl), ?_⟩
      refine wpAnyR_take 13 rfl (by kernel_rfl) (by kernel_rfl) (by kernel_rfl) (fun _ _ _ _ h => h) ⟨_, Or.inl ⟨by rfl, fun w2 hb2 => by (go_simp; try with_reducible rfl)⟩, _, by (go_simp; try rfl), ?_⟩
      refine wpAnyR_take 14 rfl (by kernel_rfl) (by kernel_rfl) (by kernel_rfl) (fun _ _ _ _ h => h) ⟨_, Or.inl ⟨by rfl, fun w2 hb2 => by (have hx := (Below.cell hb2 (World.block_lt_of_cell? wr _ d1)).trans d1; go_simp; try with_reducible rfl)⟩, _, by (go_simp; try rfl), ?_⟩
      refine wpAnyR_take 15 rfl (by kernel_rfl) (by kernel_rfl) (by kernel_rfl) (fun _ _ _ _ h => h) ⟨_, Or.inl ⟨by rfl, fun w2 hb2 => by (go_simp; try with_reducible rfl)⟩, _, by (go_simp; try rfl), ?_⟩
      refine wpAnyR_take 16 rfl (by kernel_rfl) (by kernel_rfl) (by kernel_rfl) (fun _ _ _ _ h => h) ⟨_, Or.inl ⟨by rfl, fun w2 hb2 => by (go_simp; try with_reducible rfl)⟩, _, by (go_simp; try rfl), ?_⟩
      refine wpAnyR_take 17 rfl (by kernel_rfl) (by kernel_rfl) (by kernel_rfl) (fun _ _ _ _ h => h) ⟨_, Or.inl ⟨by rfl, fun w2 hb2 => by (go_simp; try with_reducible rfl)⟩, _, by (go_simp; try rfl), ?_⟩
      refine wpAnyR_take 18 rfl (by kernel_rfl) (by kernel_rfl) (by kernel_rfl) (fun _ _ _ _ h => h) ⟨_, Or.inl ⟨by rfl, fun w2 hb2 => by (go_simp; try with_reducible rfl)⟩, _, by (go_simp; try rfl), ?_⟩
      refine wpAnyR_take 19 rfl (by kernel_rfl) (by kernel_rfl) (by kernel_rfl) (fun _ _ _ _ h => h) ⟨_, Or.inl ⟨by rfl, fun w2 hb2 => by (go_simp; try with_reducible rfl)⟩, _, by (go_simp; try rfl), ?_⟩
      refine wpAnyR_take 20 rfl (by kernel_rfl) (by kernel_rfl) (by kernel_rfl) (fun _ _ _ _ h => h) ⟨_, Or.inl ⟨by rfl, fun w2 hb2 => by (go_simp; try with_reducible rfl)⟩, _, by (go_simp; try rfl), ?_⟩
      refine wpAnyR_done (by kernel_rfl) ?_ _
      clear hA
      go_wp2_with fail
      go_roundw
      case rel => exact ⟨q, g, by simp, rfl, hgs, hq1.out, hA2.out⟩
      case measure => simp [intOf]; have := hms.out; have := hq1.out; omega
    have hdz1 : (0 : Int) < d := by omega
    have hdz3 : ¬ d ≤ 0 := by omega
    have hdz4 : (0 : Int) ≤ d := by omega
    have w5 : IntKind.i64.wrap (s + d) = g := by rw [IntKind.wrap_i64]; omega
    clear hg hd bs bx by_
    replace hq := hid hq
    go_upto_region 5 with (fail)
    refine wp_region_R (by kernel_rfl) ?_
    refine wpAnyR_take 0 rfl (by kernel_rfl) (by kernel_rfl) (by kernel_rfl) (fun _ _ _ _ h => h) ⟨_, Or.inl ⟨by rfl, fun w2 hb2 => by (go_simp; try with_reducible rfl)⟩, _, by (go_simp; try rfl), ?_⟩
    refine wpAnyR_take 1 rfl (by kernel_rfl) (by kernel_rfl) (by kernel_rfl) (fun _ _ _ _ h => h) ⟨_, Or.inl ⟨by rfl, fun w2 hb2 => by (go_simp; try with_reducible rfl)⟩, _, by (go_simp; try rfl), ?_⟩
    refine wpAnyR_take 2 rfl (by kernel_rfl) (by kernel_rfl) (by kernel_rfl) (fun _ _ _ _ h => h) ⟨_, Or.inl ⟨by rfl, fun w2 hb2 => by (go_simp; try with_reducible rfl)⟩, _, by (go_simp; try rfl), ?_⟩
    refine wpAnyR_take 3 rfl (by kernel_rfl) (by kernel_rfl) (by kernel_rfl) (fun _ _ _ _ h => h) ⟨_, Or.inl ⟨by rfl, fun w2 hb2 => by (go_simp; try with_reducible rfl)⟩, _, by (go_simp; try rfl), ?_⟩
    refine wpAnyR_take 4 rfl (by kernel_rfl) (by kernel_rfl) (by kernel_rfl) (fun _ _ _ _ h => h) ⟨_, Or.inl ⟨by rfl, fun w2 hb2 => by (go_simp; try with_reducible rfl)⟩, _, by (go_simp; try rfl), ?_⟩
    refine wpAnyR_take 5 rfl (by kernel_rfl) (by kernel_rfl) (by kernel_rfl) (fun _ _ _ _ h => h) ⟨_, Or.inl ⟨by rfl, fun w2 hb2 => by (go_simp; try with_reducible rfl)⟩, _, by (go_simp; try rfl), ?_⟩
    refine wpAnyR_take 6 rfl (by kernel_rfl) (by kernel_rfl) (by kernel_rfl) (fun _ _ _ _ h => h) ⟨_, Or.inl ⟨by rfl, fun w2 hb2 => by (have hx := (Below.cell hb2 (World.block_lt_of_cell? wr _ c1)).trans c1; go_simp; try with_reducible rfl)⟩, _, by (go_simp; try rfl), ?_⟩
    refine wpAnyR_take 7 rfl (by kernel_rfl) (by kernel_rfl) (by kernel_rfl) (fun _ _ _ _ h => h) ⟨_, Or.inl ⟨by rfl, fun w2 hb2 => by (go_simp; try with_reducible rfl)⟩, _, by (go_simp; try rfl), ?_⟩
    refine wpAnyR_take 8 rfl (by kernel_rfl) (by kernel_rfl) (by kernel_rfl) (fun _ _ _ _ h => h) ⟨_, Or.inl ⟨by rfl, fun w2 hb2 => by (go_simp; try with_reducible rfl)⟩, _, by (go_simp; try rfl), ?_⟩
    refine wpAnyR_take 9 rfl (by kernel_rfl) (by kernel_rfl) (by kernel_rfl) (fun _ _ _ _ h => h) ⟨_, Or.inl ⟨by rfl, fun w2 hb2 => by (go_simp; try with_reducible rfl)⟩, _, by (go_simp; try rfl), ?_⟩
    refine wpAnyR_take 10 rfl (by kernel_rfl) (by kernel_rfl) (by kernel_rfl) (fun _ _ _ _ h => h) ⟨_, Or.inl ⟨by rfl, fun w2 hb2 => by (go_simp; try with_reducible rfl)⟩, _, by (go_simp; try rfl), ?_⟩
    refine wpAnyR_take 11 rfl (by kernel_rfl) (by kernel_rfl) (by kernel_rfl) (fun _ _ _ _ h => h) ⟨_, Or.inl ⟨by rfl, fun w2 hb2 => by (go_simp; try with_reducible rfl)⟩, _, by (go_simp; try rfl), ?_⟩
    refine wpAnyR_take 12 rfl (by kernel_rfl) (by kernel_rfl) (by kernel_rfl) (fun _ _ _ _ h => h) ⟨_, Or.inl ⟨by rfl, fun w2 hb2 => by (go_simp; try with_reducible rfl)⟩, _, by (go_simp; try rfl), ?_⟩
    refine wpAnyR_take 13 rfl (by kernel_rfl) (by kernel_rfl) (by kernel_rfl) (fun _ _ _ _ h => h) ⟨_, Or.inl ⟨by rfl, fun w2 hb2 => by (go_simp; try with_reducible rfl)⟩, _, by (go_simp; try rfl), ?_⟩
    refine wpAnyR_take 14 rfl (by kernel_rfl) (by kernel_rfl) (by kernel_rfl) (fun _ _ _ _ h => h) ⟨_, Or.inl ⟨by rfl, fun w2 hb2 => by (have hx := (Below.cell hb2 (World.block_lt_of_cell? wr _ d1)).trans d1; go_simp; try with_reducible rfl)⟩, _, by (go_simp; try rfl), ?_⟩
    refine wpAnyR_take 15 rfl (by kernel_rfl) (by kernel_rfl) (by kernel_rfl) (fun _ _ _ _ h => h) ⟨_, Or.inl ⟨by rfl, fun w2 hb2 => by (go_simp; try with_reducible rfl)⟩, _, by (go_simp; try rfl), ?_⟩
    refine wpAnyR_take 16 rfl (by kernel_rfl) (by kernel_rfl) (by kernel_rfl) (fun _ _ _ _ h => h) ⟨_, Or.inl ⟨by rfl, fun w2 hb2 => by (go_simp; try with_reducible rfl)⟩, _, by (go_simp; try rfl), ?_⟩
    refine wpAnyR_take 17 rfl (by kernel_rfl) (by kernel_rfl) (by kernel_rfl) (fun _ _ _ _ h => h) ⟨_, Or.inl ⟨by rfl, fun w2 hb2 => by (go_simp; try with_reducible rfl)⟩, _, by (go_simp; try rfl), ?_⟩
    refine wpAnyR_take 18 rfl (by kernel_rfl) (by kernel_rfl) (by kernel_rfl) (fun _ _ _ _ h => h) ⟨_, Or.inl ⟨by rfl, fun w2 hb2 => by (go_simp; try with_reducible rfl)⟩, _, by (go_simp; try rfl), ?_⟩
    refine wpAnyR_take 19 rfl (by kernel_rfl) (by kernel_rfl) (by kernel_rfl) (fun _ _ _ _ h => h) ⟨_, Or.inl ⟨by rfl, fun w2 hb2 => by (go_simp; try with_reducible rfl)⟩, _, by (go_simp; try rfl), ?_⟩
    refine wpAnyR_take 20 rfl (by kernel_rfl) (by kernel_rfl) (by kernel_rfl) (fun _ _ _ _ h => h) ⟨_, Or.inl ⟨by rfl, fun w2 hb2 => by (go_simp; try with_reducible rfl)⟩, _, by (go_simp; try rfl), ?_⟩
    refine wpAnyR_done (by kernel_rfl) ?_ _
    clear hA
    go_wp2_with fail
    go_roundw
    case rel => exact ⟨q, g, by simp, rfl, hgs, hq1.out, hA2.out⟩
    case measure => simp [intOf]; have := hms.out; have := hq1.out; omega
set_option maxRecDepth 100000 in
set_option maxHeartbeats 8000000 in
theorem rgaps_any (a : Option Addr) (cap m : Nat) (xs : List E38) (w : World) (hm : xs.length = m) (hE : Els w 3 a m cap (vals38 xs)) (h1000 : m ≤ 100000) (hx : ∀ x ∈ nosS (xs.map strip38), 0 ≤ x ∧ x ≤ 4294967295) : Calls Try.prog 21 #[.slice a m cap] w fun e w' => e = .returned (.int .i64 (gapS (nosS (xs.map strip38)))) ∧ After w w' := by
  obtain ⟨l, hl⟩ : ∃ l, nosS (xs.map strip38) = l := ⟨_, rfl⟩
  rw [hl] at hx ⊢
  have hlm : l.length = m := by rw [← hl, nosS_len, List.length_map, hm]
  have hat := hid (fun (k : Nat) (x : E38) (h : xs[k]? = some x) => show l.getD k 0 = x.2.1 by rw [← hl, nos_at (x := strip38 x) (by rw [List.getElem?_map, h]; rfl)]; rfl)
  have hst := hid (fun (k : Nat) (h : k + 1 < m) => gapF_step (l := l) (k := k) (by omega))
  have hen := hid (fun (k : Nat) (h : m ≤ k + 1) => gapF_end (l := l) (k := k) (by omega))
  have hbd := hid (fun k => gapF_bd hx k)
  have hnb := hid (fun (k : Nat) (x : E38) (h : xs[k]? = some x) => show 0 ≤ x.2.1 ∧ x.2.1 ≤ 4294967295 by rw [← hat.out k x h]; exact hx _ (by rw [List.getD_eq_getElem?_getD, List.getElem?_eq_getElem (show k < l.length by have := (List.getElem?_eq_some_iff.1 h).1; omega)]; exact List.getElem_mem _))
  clear hx
  replace hl := hid hl
  replace hlm := hid hlm
  replace hE := hid hE
  replace hm := hid hm
  go_enter Try.func21, Try.ntmps21
  go_upto_region 0 with (fail)
  go_wp2_with fail
  go_loopw [3, 4] (fun sv ix wr => ∃ (k : Nat) (s : Int), ix = .int .i64 ((k + 1 : Nat) : Int) ∧ sv = .int .i64 s ∧ Hid (s = gapF l k) ∧ k ≤ m ∧ After w wr) (fun _ ix _ => m + 1 - (intOf ix).toNat)
  case atStart => exact ⟨0, 0, rfl, rfl, hid rfl, by omega, Below.refl _ _⟩
  case round =>
    obtain ⟨k, s, rfl, rfl, hs, hk, hA⟩ := hrel
    obtain ⟨q, hq⟩ : ∃ q, k + 1 = q := ⟨_, rfl⟩
    rw [hq]
    by_cases hlt : (q : Int) < m
    case neg =>
      have hs2 := hid (show s = gapS l by rw [hen.out k (by omega)]; exact hs.out)
      replace hA := hid hA
      replace hq := hid hq
      go_wp2_with fail
      go_ret
      exact ⟨by rw [hs2.out]; rfl, hA.out⟩
    obtain ⟨x, hx⟩ : ∃ x, xs[q]? = some x := ⟨_, List.getElem?_eq_getElem (show q < xs.length by have := hm.out; omega)⟩
    obtain ⟨y, hy⟩ : ∃ y, xs[k]? = some y := ⟨_, List.getElem?_eq_getElem (show k < xs.length by have := hm.out; omega)⟩
    have bx := hnb.out q x hx
    have by_ := hnb.out k y hy
    have ex := hat.out q x hx
    have ey := hat.out k y hy
    have hg := hst.out k (by omega)
    rw [hq] at hg
    rw [ex, ey, ← hs.out] at hg
    have bs := hbd.out k
    rw [← hs.out] at bs
    obtain ⟨x1, x2, x3, x4, x5⟩ := x
    obtain ⟨y1, y2, y3, y4, y5⟩ := y
    dsimp only at bx by_ hg
    obtain ⟨pb, off, e9, c0, c1, c2⟩ := (hE.out.below hA).at3 (vals_at hx)
    obtain ⟨pb2, off2, e8, d0, d1, d2⟩ := (hE.out.below hA).at3 (vals_at hy)
    cases e9
    cases e8
    dsimp only at c0 c1 c2 d0 d1 d2
    obtain ⟨g, hgg⟩ : ∃ g, gapF l q = g := ⟨_, rfl⟩
    rw [hgg] at hg
    obtain ⟨d, hd⟩ : ∃ d, x2 - y2 - 1 = d := ⟨_, rfl⟩
    rw [hd] at hg
    have w1 : IntKind.i64.wrap x2 = x2 := by rw [IntKind.wrap_i64]; omega
    have w2 : IntKind.i64.wrap y2 = y2 := by rw [IntKind.wrap_i64]; omega
    have w3 : IntKind.i64.wrap (x2 - y2) = x2 - y2 := by rw [IntKind.wrap_i64]; omega
    have w4 : IntKind.i64.wrap (x2 - y2 - 1) = d := by rw [IntKind.wrap_i64]; omega
    have w6 : IntKind.i64.wrap ((q : Int) - 1) = (k : Int) := by rw [IntKind.wrap_i64]; omega
    have w7 : IntKind.i64.wrap ((q : Int) + 1) = ((q + 1 : Nat) : Int) := by rw [IntKind.wrap_i64]; omega
    have kz : (0 : Int) ≤ k := by omega
    have qz : (0 : Int) ≤ q := by omega
    have klt : (k : Int) < m := by omega
    have hq1 := hid (show q ≤ m by omega)
    have hms := hid (show m + 1 - (q + 1) < m + 1 - q by omega)
    have hA2 := hid hA.drew
    have hgs := hid (show g = gapF l q from hgg.symm)
    clear hx hy hs ex ey hgg hk
    by_cases hdz : d < 0
    case pos =>
      obtain rfl : g = s := by omega
      have hdn2 : ¬ (0 : Int) < d := by omega
      have hdn3 : ¬ (0 : Int) ≤ d := by omega
      have w5 : IntKind.i64.wrap g = g := by rw [IntKind.wrap_i64]; omega
      have w55 : IntKind.i64.wrap (g + 0) = g := by rw [IntKind.wrap_i64]; omega
      clear hg hd bs bx by_
      replace hq := hid hq
      go_upto_region 5 with (fail)
      refine wp_region_R (by kernel_rfl) ?_
      refine wpAnyR_take 0 rfl (by kernel_rfl) (by kernel_rfl) (by kernel_rfl) (fun _ _ _ _ h => h) ⟨_, Or.inl ⟨by rfl, fun w2 hb2 => by (go_simp; try with_reducible rfl)⟩, _, by (go_simp; try rfl), ?_⟩
      refine wpAnyR_take 1 rfl (by kernel_rfl) (by kernel_rfl) (by kernel_rfl) (fun _ _ _ _ h => h) ⟨_, Or.inl ⟨by rfl, fun w2 hb2 => by (go_simp; try with_reducible rfl)⟩, _, by (go_simp; try rfl), ?_⟩
      refine wpAnyR_take 2 rfl (by kernel_rfl) (by kernel_rfl) (by kernel_rfl) (fun _ _ _ _ h => h) ⟨_, Or.inl ⟨by rfl, fun w2 hb2 => by (go_simp; try with_reducible rfl)⟩, _, by (go_simp; try rfl), ?_⟩
      refine wpAnyR_take 3 rfl (by kernel_rfl) (by kernel_rfl) (by kernel_rfl) (fun _ _ _ _ h => h) ⟨_, Or.inl ⟨by rfl, fun w2 hb2 => by (go_simp; try with_reducible rfl)⟩, _, by (go_simp; try rfl), ?_⟩
      refine wpAnyR_take 4 rfl (by kernel_rfl) (by kernel_rfl) (by kernel_rfl) (fun _ _ _ _ h => h) ⟨_, Or.inl ⟨by rfl, fun w2 hb2 => by (go_simp; try with_reducible rfl)⟩, _, by (go_simp; try rfl), ?_⟩
      refine wpAnyR_take 5 rfl (by kernel_rfl) (by kernel_rfl) (by kernel_rfl) (fun _ _ _ _ h => h) ⟨_, Or.inl ⟨by rfl, fun w2 hb2 => by (go_simp; try with_reducible rfl)⟩, _, by (go_simp; try rfl), ?_⟩
      refine wpAnyR_take 6 rfl (by kernel_rfl) (by kernel_rfl) (by kernel_rfl) (fun _ _ _ _ h => h) ⟨_, Or.inl ⟨by rfl, fun w2 hb2 => by (have hx := (Below.cell hb2 (World.block_lt_of_cell? wr _ c1)).trans c1; go_simp; try with_reducible rfl)⟩, _, by (go_simp; try rfl), ?_⟩
      refine wpAnyR_take 7 rfl (by kernel_rfl) (by kernel_rfl) (by kernel_rfl) (fun _ _ _ _ h => h) ⟨_, Or.inl ⟨by rfl, fun w2 hb2 => by (go_simp; try with_reducible rfl)⟩, _, by (go_simp; try rfl), ?_⟩
      refine wpAnyR_take 8 rfl (by kernel_rfl) (by kernel_rfl) (by kernel_rfl) (fun _ _ _ _ h => h) ⟨_, Or.inl ⟨by rfl, fun w2 hb2 => by (go_simp; try with_reducible rfl)⟩, _, by (go_simp; try rfl), ?_⟩
      refine wpAnyR_take 9 rfl (by kernel_rfl) (by kernel_rfl) (by kernel_rfl) (fun _ _ _ _ h => h) ⟨_, Or.inl ⟨by rfl, fun w2 hb2 => by (go_simp; try with_reducible rfl)⟩, _, by (go_simp; try rfl), ?_⟩
      refine wpAnyR_take 10 rfl (by kernel_rfl) (by kernel_rfl) (by kernel_rfl) (fun _ _ _ _ h => h) ⟨_, Or.inl ⟨by rfl, fun w2 hb2 => by (go_simp; try with_reducible rfl)⟩, _, by (go_simp; try rfl), ?_⟩
      refine wpAnyR_take 11 rfl (by kernel_rfl) (by kernel_rfl) (by kernel_rfl) (fun _ _ _ _ h => h) ⟨_, Or.inl ⟨by rfl, fun w2 hb2 => by (go_simp; try with_reducible rfl)⟩, _, by (go_simp; try rfl), ?_⟩
      refine wpAnyR_take 12 rfl (by kernel_rfl) (by kernel_rfl) (by kernel_rfl) (fun _ _ _ _ h => h) ⟨_, Or.inl ⟨by rfl, fun w2 hb2 => by (go_simp; try with_reducible rfl)⟩, _, by (go_simp; try rfl), ?_⟩
      refine wpAnyR_take 13 rfl (by kernel_rfl) (by kernel_rfl) (by kernel_rfl) (fun _ _ _ _ h => h) ⟨_, Or.inl ⟨by rfl, fun w2 hb2 => by (go_simp; try with_reducible rfl)⟩, _, by (go_simp; try rfl), ?_⟩
      refine wpAnyR_take 14 rfl (by kernel_rfl) (by kernel_rfl) (by kernel_rfl) (fun _ _ _ _ h => h) ⟨_, Or.inl ⟨by rfl, fun w2 hb2 => by (have hx := (Below.cell hb2 (World.block_lt_of_cell? wr _ d1)).trans d1; go_simp; try with_reducible rfl)⟩, _, by (go_simp; try rfl), ?_⟩
      refine wpAnyR_take 15 rfl (by kernel_rfl) (by kernel_rfl) (by kernel_rfl) (fun _ _ _ _ h => h) ⟨_, Or.inl ⟨by rfl, fun w2 hb2 => by (go_simp; try with_reducible rfl)⟩, _, by (go_simp; try rfl), ?_⟩
      refine wpAnyR_take 16 rfl (by kernel_rfl) (by kernel_rfl) (by kernel_rfl) (fun _ _ _ _ h => h) ⟨_, Or.inl ⟨by rfl, fun w2 hb2 => by (go_simp; try with_reducible rfl)⟩, _, by (go_simp; try rfl), ?_⟩
      refine wpAnyR_take 17 rfl (by kernel_rfl) (by kernel_rfl) (by kernel_rfl) (fun _ _ _ _ h => h) ⟨_, Or.inl ⟨by rfl, fun w2 hb2 => by (go_simp; try with_reducible rfl)⟩, _, by (go_simp; try rfl), ?_⟩
      refine wpAnyR_take 18 rfl (by kernel_rfl) (by kernel_rfl) (by kernel_rfl) (fun _ _ _ _ h => h) ⟨_, Or.inl ⟨by rfl, fun w2 hb2 => by (go_simp; try with_reducible rfl)⟩, _, by (go_simp; try rfl), ?_⟩
      refine wpAnyR_take 19 rfl (by kernel_rfl) (by kernel_rfl) (by kernel_rfl) (fun _ _ _ _ h => h) ⟨_, Or.inl ⟨by rfl, fun w2 hb2 => by (go_simp; try with_reducible rfl)⟩, _, by (go_simp; try rfl), ?_⟩
      refine wpAnyR_take 20 rfl (by kernel_rfl) (by kernel_rfl) (by kernel_rfl) (fun _ _ _ _ h => h) ⟨_, Or.inl ⟨by rfl, fun w2 hb2 => by (go_simp; try with_reducible rfl)⟩, _, by (go_simp; try rfl), ?_⟩
      refine wpAnyR_done (by kernel_rfl) ?_ _
      clear hA
      go_wp2_with fail
      go_roundw
      case rel => exact ⟨q, g, by simp, rfl, hgs, hq1.out, hA2.out⟩
      case measure => simp [intOf]; have := hms.out; have := hq1.out; omega
    by_cases hdz2 : d = 0
    case pos =>
      subst hdz2
      obtain rfl : g = s := by omega
      have w5 : IntKind.i64.wrap g = g := by rw [IntKind.wrap_i64]; omega
      have w55 : IntKind.i64.wrap (g + 0) = g := by rw [IntKind.wrap_i64]; omega
      clear hg hd bs bx by_
      replace hq := hid hq
      go_upto_region 5 with (fail)
      refine wp_region_R (by kernel_rfl) ?_
      refine wpAnyR_take 0 rfl (by kernel_rfl) (by kernel_rfl) (by kernel_rfl) (fun _ _ _ _ h => h) ⟨_, Or.inl ⟨by rfl, fun w2 hb2 => by (go_simp; try with_reducible rfl)⟩, _, by (go_simp; try rfl), ?_⟩
      refine wpAnyR_take 1 rfl (by kernel_rfl) (by kernel_rfl) (by kernel_rfl) (fun _ _ _ _ h => h) ⟨_, Or.inl ⟨by rfl, fun w2 hb2 => by (go_simp; try with_reducible rfl)⟩, _, by (go_simp; try rfl), ?_⟩
      refine wpAnyR_take 2 rfl (by kernel_rfl) (by kernel_rfl) (by kernel_rfl) (fun _ _ _ _ h => h) ⟨_, Or.inl ⟨by rfl, fun w2 hb2 => by (go_simp; try with_reducible rfl)⟩, _, by (go_simp; try rfl), ?_⟩
      refine wpAnyR_take 3 rfl (by kernel_rfl) (by kernel_rfl) (by kernel_rfl) (fun _ _ _ _ h => h) ⟨_, Or.inl ⟨by rfl, fun w2 hb2 => by (go_simp; try with_reducible rfl)⟩, _, by (go_simp; try rfl), ?_⟩
      refine wpAnyR_take 4 rfl (by kernel_rfl) (by kernel_rfl) (by kernel_rfl) (fun _ _ _ _ h => h) ⟨_, Or.inl ⟨by rfl, fun w2 hb2 => by (go_simp; try with_reducible rfl)⟩, _, by (go_simp; try rfl), ?_⟩
      refine wpAnyR_take 5 rfl (by kernel_rfl) (by kernel_rfl) (by kernel_rfl) (fun _ _ _ _ h => h) ⟨_, Or.inl ⟨by rfl, fun w2 hb2 => by (go_simp; try with_reducible rfl)⟩, _, by (go_simp; try rfl), ?_⟩
      refine wpAnyR_take 6 rfl (by kernel_rfl) (by kernel_rfl) (by kernel_rfl) (fun _ _ _ _ h => h) ⟨_, Or.inl ⟨by rfl, fun w2 hb2 => by (have hx := (Below.cell hb2 (World.block_lt_of_cell? wr _ c1)).trans c1; go_simp; try with_reducible rfl)⟩, _, by (go_simp; try rfl), ?_⟩
      refine wpAnyR_take 7 rfl (by kernel_rfl) (by kernel_rfl) (by kernel_rfl) (fun _ _ _ _ h => h) ⟨_, Or.inl ⟨by rfl, fun w2 hb2 => by (go_simp; try with_reducible rfl)⟩, _, by (go_simp; try rfl), ?_⟩
      refine wpAnyR_take 8 rfl (by kernel_rfl) (by kernel_rfl) (by kernel_rfl) (fun _ _ _ _ h => h) ⟨_, Or.inl ⟨by rfl, fun w2 hb2 => by (go_simp; try with_reducible rfl)⟩, _, by (go_simp; try rfl), ?_⟩
      refine wpAnyR_take 9 rfl (by kernel_rfl) (by kernel_rfl) (by kernel_rfl) (fun _ _ _ _ h => h) ⟨_, Or.inl ⟨by rfl, fun w2 hb2 => by (go_simp; try with_reducible rfl)⟩, _, by (go_simp; try rfl), ?_⟩
      refine wpAnyR_take 10 rfl (by kernel_rfl) (by kernel_rfl) (by kernel_rfl) (fun _ _ _ _ h => h) ⟨_, Or.inl ⟨by rfl, fun w2 hb2 => by (go_simp; try with_reducible rfl)⟩, _, by (go_simp; try rfl), ?_⟩
      refine wpAnyR_take 11 rfl (by kernel_rfl) (by kernel_rfl) (by kernel_rfl) (fun _ _ _ _ h => h) ⟨_, Or.inl ⟨by rfl, fun w2 hb2 => by (go_simp; try with_reducible rfl)⟩, _, by (go_simp; try rfl), ?_⟩
      refine wpAnyR_take 12 rfl (by kernel_rfl) (by kernel_rfl) (by kernel_rfl) (fun _ _ _ _ h => h) ⟨_, Or.inl ⟨by rfl, fun w2 hb2 => by (go_simp; try with_reducible rfl)⟩, _, by (go_simp; try rfl), ?_⟩
      refine wpAnyR_take 13 rfl (by kernel_rfl) (by kernel_rfl) (by kernel_rfl) (fun _ _ _ _ h => h) ⟨_, Or.inl ⟨by rfl, fun w2 hb2 => by (go_simp; try with_reducible rfl)⟩, _, by (go_simp; try rfl), ?_⟩
      refine wpAnyR_take 14 rfl (by kernel_rfl) (by kernel_rfl) (by kernel_rfl) (fun _ _ _ _ h => h) ⟨_, Or.inl ⟨by rfl, fun w2 hb2 => by (have hx := (Below.cell hb2 (World.block_lt_of_cell? wr _ d1)).trans d1; go_simp; try with_reducible rfl)⟩, _, by (go_simp; try rfl), ?_⟩
      refine wpAnyR_take 15 rfl (by kernel_rfl) (by kernel_rfl) (by kernel_rfl) (fun _ _ _ _ h => h) ⟨_, Or.inl ⟨by rfl, fun w2 hb2 => by (go_simp; try with_reducible rfl)⟩, _, by (go_simp; try rfl), ?_⟩
      refine wpAnyR_take 16 rfl (by kernel_rfl) (by kernel_rfl) (by kernel_rfl) (fun _ _ _ _ h => h) ⟨_, Or.inl ⟨by rfl, fun w2 hb2 => by (go_simp; try with_reducible rfl)⟩, _, by (go_simp; try rfl), ?_⟩
      refine wpAnyR_take 17 rfl (by kernel_rfl) (by kernel_rfl) (by kernel_rfl) (fun _ _ _ _ h => h) ⟨_, Or.inl ⟨by rfl, fun w2 hb2 => by (go_simp; try with_reducible rfl)⟩, _, by (go_simp; try rfl), ?_⟩
      refine wpAnyR_take 18 rfl (by kernel_rfl) (by kernel_rfl) (by kernel_rfl) (fun _ _ _ _ h => h) ⟨_, Or.inl ⟨by rfl, fun w2 hb2 => by (go_simp; try with_reducible rfl)⟩, _, by (go_simp; try rfl), ?_⟩
      refine wpAnyR_take 19 rfl (by kernel_rfl) (by kernel_rfl) (by kernel_rfl) (fun _ _ _ _ h => h) ⟨_, Or.inl ⟨by rfl, fun w2 hb2 => by (go_simp; try with_reducible rfl)⟩, _, by (go_simp; try rfl), ?_⟩
      refine wpAnyR_take 20 rfl (by kernel_rfl) (by kernel_rfl) (by kernel_rfl) (fun _ _ _ _ h => h) ⟨_, Or.inl ⟨by rfl, fun w2 hb2 => by (go_simp; try with_reducible rfl)⟩, _, by (go_simp; try rfl), ?_⟩
      refine wpAnyR_done (by kernel_rfl) ?_ _
      clear hA
      go_wp2_with fail
      go_roundw
      case rel => exact ⟨q, g, by simp, rfl, hgs, hq1.out, hA2.out⟩
      case measure => simp [intOf]; have := hms.out; have := hq1.out; omega
    have hdz1 : (0 : Int) < d := by omega
    have hdz3 : ¬ d ≤ 0 := by omega
    have hdz4 : (0 : Int) ≤ d := by omega
    have w5 : IntKind.i64.wrap (s + d) = g := by rw [IntKind.wrap_i64]; omega
    clear hg hd bs bx by_
    replace hq := hid hq
    go_upto_region 5 with (fail)
    refine wp_region_R (by kernel_rfl) ?_
    refine wpAnyR_take 0 rfl (by kernel_rfl) (by kernel_rfl) (by kernel_rfl) (fun _ _ _ _ h => h) ⟨_, Or.inl ⟨by rfl, fun w2 hb2 => by (go_simp; try with_reducible rfl)⟩, _, by (go_simp; try rfl), ?_⟩
    refine wpAnyR_take 1 rfl (by kernel_rfl) (by kernel_rfl) (by kernel_rfl) (fun _ _ _ _ h => h) ⟨_, Or.inl ⟨by rfl, fun w2 hb2 => by (go_simp; try with_reducible rfl)⟩, _, by (go_simp; try rfl), ?_⟩
    refine wpAnyR_take 2 rfl (by kernel_rfl) (by kernel_rfl) (by kernel_rfl) (fun _ _ _ _ h => h) ⟨_, Or.inl ⟨by rfl, fun w2 hb2 => by (go_simp; try with_reducible rfl)⟩, _, by (go_simp; try rfl), ?_⟩
    refine wpAnyR_take 3 rfl (by kernel_rfl) (by kernel_rfl) (by kernel_rfl) (fun _ _ _ _ h => h) ⟨_, Or.inl ⟨by rfl, fun w2 hb2 => by (go_simp; try with_reducible rfl)⟩, _, by (go_simp; try rfl), ?_⟩
    refine wpAnyR_take 4 rfl (by kernel_rfl) (by kernel_rfl) (by kernel_rfl) (fun _ _ _ _ h => h) ⟨_, Or.inl ⟨by rfl, fun w2 hb2 => by (go_simp; try with_reducible rfl)⟩, _, by (go_simp; try rfl), ?_⟩
    refine wpAnyR_take 5 rfl (by kernel_rfl) (by kernel_rfl) (by kernel_rfl) (fun _ _ _ _ h => h) ⟨_, Or.inl ⟨by rfl, fun w2 hb2 => by (go_simp; try with_reducible rfl)⟩, _, by (go_simp; try rfl), ?_⟩
    refine wpAnyR_take 6 rfl (by kernel_rfl) (by kernel_rfl) (by kernel_rfl) (fun _ _ _ _ h => h) ⟨_, Or.inl ⟨by rfl, fun w2 hb2 => by (have hx := (Below.cell hb2 (World.block_lt_of_cell? wr _ c1)).trans c1; go_simp; try with_reducible rfl)⟩, _, by (go_simp; try rfl), ?_⟩
    refine wpAnyR_take 7 rfl (by kernel_rfl) (by kernel_rfl) (by kernel_rfl) (fun _ _ _ _ h => h) ⟨_, Or.inl ⟨by rfl, fun w2 hb2 => by (go_simp; try with_reducible rfl)⟩, _, by (go_simp; try rfl), ?_⟩
    refine wpAnyR_take 8 rfl (by kernel_rfl) (by kernel_rfl) (by kernel_rfl) (fun _ _ _ _ h => h) ⟨_, Or.inl ⟨by rfl, fun w2 hb2 => by (go_simp; try with_reducible rfl)⟩, _, by (go_simp; try rfl), ?_⟩
    refine wpAnyR_take 9 rfl (by kernel_rfl) (by kernel_rfl) (by kernel_rfl) (fun _ _ _ _ h => h) ⟨_, Or.inl ⟨by rfl, fun w2 hb2 => by (go_simp; try with_reducible rfl)⟩, _, by (go_simp; try rfl), ?_⟩
    refine wpAnyR_take 10 rfl (by kernel_rfl) (by kernel_rfl) (by kernel_rfl) (fun _ _ _ _ h => h) ⟨_, Or.inl ⟨by rfl, fun w2 hb2 => by (go_simp; try with_reducible rfl)⟩, _, by (go_simp; try rfl), ?_⟩
    refine wpAnyR_take 11 rfl (by kernel_rfl) (by kernel_rfl) (by kernel_rfl) (fun _ _ _ _ h => h) ⟨_, Or.inl ⟨by rfl, fun w2 hb2 => by (go_simp; try with_reducible rfl)⟩, _, by (go_simp; try rfl), ?_⟩
    refine wpAnyR_take 12 rfl (by kernel_rfl) (by kernel_rfl) (by kernel_rfl) (fun _ _ _ _ h => h) ⟨_, Or.inl ⟨by rfl, fun w2 hb2 => by (go_simp; try with_reducible rfl)⟩, _, by (go_simp; try rfl), ?_⟩
    refine wpAnyR_take 13 rfl (by kernel_rfl) (by kernel_rfl) (by kernel_rfl) (fun _ _ _ _ h => h) ⟨_, Or.inl ⟨by rfl, fun w2 hb2 => by (go_simp; try with_reducible rfl)⟩, _, by (go_simp; try rfl), ?_⟩
    refine wpAnyR_take 14 rfl (by kernel_rfl) (by kernel_rfl) (by kernel_rfl) (fun _ _ _ _ h => h) ⟨_, Or.inl ⟨by rfl, fun w2 hb2 => by (have hx := (Below.cell hb2 (World.block_lt_of_cell? wr _ d1)).trans d1; go_simp; try with_reducible rfl)⟩, _, by (go_simp; try rfl), ?_⟩
    refine wpAnyR_take 15 rfl (by kernel_rfl) (by kernel_rfl) (by kernel_rfl) (fun _ _ _ _ h => h) ⟨_, Or.inl ⟨by rfl, fun w2 hb2 => by (go_simp; try with_reducible rfl)⟩, _, by (go_simp; try rfl), ?_⟩
    refine wpAnyR_take 16 rfl (by kernel_rfl) (by kernel_rfl) (by kernel_rfl) (fun _ _ _ _ h => h) ⟨_, Or.inl ⟨by rfl, fun w2 hb2 => by (go_simp; try with_reducible rfl)⟩, _, by (go_simp; try rfl), ?_⟩
    refine wpAnyR_take 17 rfl (by kernel_rfl) (by kernel_rfl) (by kernel_rfl) (fun _ _ _ _ h => h) ⟨_, Or.inl ⟨by rfl, fun w2 hb2 => by (go_simp; try with_reducible rfl)⟩, _, by (go_simp; try rfl), ?_⟩
    refine wpAnyR_take 18 rfl (by kernel_rfl) (by kernel_rfl) (by kernel_rfl) (fun _ _ _ _ h => h) ⟨_, Or.inl ⟨by rfl, fun w2 hb2 => by (go_simp; try with_reducible rfl)⟩, _, by (go_simp; try rfl), ?_⟩
    refine wpAnyR_take 19 rfl (by kernel_rfl) (by kernel_rfl) (by kernel_rfl) (fun _ _ _ _ h => h) ⟨_, Or.inl ⟨by rfl, fun w2 hb2 => by (go_simp; try with_reducible rfl)⟩, _, by (go_simp; try rfl), ?_⟩
    refine wpAnyR_take 20 rfl (by kernel_rfl) (by kernel_rfl) (by kernel_rfl) (fun _ _ _ _ h => h) ⟨_, Or.inl ⟨by rfl, fun w2 hb2 => by (go_simp; try with_reducible rfl)⟩, _, by (go_simp; try rfl), ?_⟩
    refine wpAnyR_done (by kernel_rfl) ?_ _
    clear hA
    go_wp2_with fail
    go_roundw
    case rel => exact ⟨q, g, by simp, rfl, hgs, hq1.out, hA2.out⟩
    case measure => simp [intOf]; have := hms.out; have := hq1.out; omega

end Go.Proofs.Ytlfbhfmchdbnoaa
