/- Package sats: Put. -/
import Derived.Test.YtahjcbdofljfpaaSats2
import Derived.Deep.DeepCutAuto
namespace Go.Proofs.Ytahjcbdofljfpaa
open Go.ChangeShapes Go.WideShapes Go.ChangeAt Go.RowKit
set_option linter.unusedVariables false
set_option linter.unusedSimpArgs false

theorem wp_app {P : Program} (w : World) {o : Oper} {a : Act} {K : Act → World → Prop} {Q : Exit → Act → World → Prop} (s x : Operand) (t : TypeId)
    (ho : o.op = .call { callee := .builtin .append, args := #[s, x], argTypes := #[t, t] })
    (base : Nat) (E : TypeId) (k : IntKind) (b : Nat) (hT : IntsOf P t E k b)
    (v : Value) (zs : List Int) (hs : a.eval s = v) (hown : Own k E w base v zs)
    (ad : Option Addr) (c : Nat) (ys : List Int) (hx : a.eval x = .slice ad ys.length c) (hr : Rd k w ad ys) (hn : ad = none → c = 0)
    (hlen : zs.length + ys.length ≤ 140737488355328 / b) (hb0 : 0 < b) (hbase : base ≤ w.heap.size)
    (h : ∀ v' w', Own k E w' base v' (zs ++ ys) → w.grownBy w' v.ownBlock → K (a.put o.dst v') w') : o.wp P a w K Q := by
  obtain ⟨ht, hi⟩ := hT
  obtain ⟨i, hi1, hi2⟩ : ∃ i, P.info? E = some i ∧ (i.zero, i.size, i.bytes) = (some (.int k 0), 1, b) := by
    cases hP : P.info? E with
    | none => rw [hP] at hi; cases hi
    | some i => rw [hP] at hi; exact ⟨i, rfl, by simpa using hi⟩
  have hz : i.zero = some (.int k 0) := congrArg Prod.fst hi2
  have hsz : i.size = 1 := congrArg (fun p => p.2.1) hi2
  have hby : i.bytes = b := congrArg (fun p => p.2.2) hi2
  have hle : zs.length + ys.length ≤ 140737488355328 := Nat.le_trans hlen (Nat.div_le_self _ _)
  have hmul : (zs.length + ys.length) * b ≤ 140737488355328 := (Nat.le_div_iff_mul_le hb0).1 hlen
  cases ad with
  | none =>
    have hy : ys = [] := by
      cases ys with
      | nil => rfl
      | cons y r => obtain ⟨_, _, e, _⟩ := hr 0 (by simp); cases e
    subst hy
    obtain rfl := hn rfl
    have hrun := run_append_owned_none (P := P) w base t o.type E i 1 ht hi1 v zs.length (zs.map (Value.int k)) hown
    unfold Oper.wp execOp
    simp only [ho, resolve, invoke, builtin, Sem.run_bind, Sem.run_pure, Result.andThen_ok, List.map_toArray, List.map_cons, List.map_nil, hs, hx, hrun, List.length_nil]
    exact h v w (by simpa using hown) ⟨rfl, rfl, rfl, Nat.le_refl _, fun _ _ _ => rfl⟩
  | some ad =>
    refine wp_append_own w s x t ho base E i (.int k 0) 1 b ht hi1 hz hsz hby rfl (by decide) v zs.length (zs.map (Value.int k)) hs hown ad ys.length c (ys.map (Value.int k)) hx (by simp) ?_ (by simp [Value.oneCell']) (by unfold maxLen; omega) hmul hbase ?_
    · intro j u hj
      have hjl : j < ys.length := by
        rcases Nat.lt_or_ge j ys.length with hl | hl
        · exact hl
        · rw [List.getElem?_eq_none (by simpa using hl)] at hj; cases hj
      obtain ⟨bb, off, e, hc⟩ := hr j hjl
      cases e
      have hu : u = .int k (ys.getD j 0) := by simp [hjl] at hj; simp [hjl, hj]
      rw [hu]
      by_cases hj0 : j = 0
      · subst hj0; simpa [Addr.add] using hc
      · simpa [Addr.add, hj0] using hc
    · intro v' w' h2 h3 _
      refine h v' w' ?_ h3
      simpa [Own, List.map_append] using h2

theorem wpListIn_app {P : Program} {fl n : Nat} (w : World) {ops : Array Oper} {rest : List Oper} {o : Oper} {a : Act} {Q : Exit → Act → World → Prop} (hg : o.guard = none) (s x : Operand) (t : TypeId)
    (ho : o.op = .call { callee := .builtin .append, args := #[s, x], argTypes := #[t, t] })
    (base : Nat) (E : TypeId) (k : IntKind) (b : Nat) (hT : IntsOf P t E k b)
    (v : Value) (zs : List Int) (hs : a.eval s = v) (hown : Own k E w base v zs)
    (ad : Option Addr) (c : Nat) (ys : List Int) (hx : a.eval x = .slice ad ys.length c) (hr : Rd k w ad ys) (hn : ad = none → c = 0)
    (hlen : zs.length + ys.length ≤ 140737488355328 / b) (hb0 : 0 < b) (hbase : base ≤ w.heap.size)
    (h : ∀ a' cap' w', Own k E w' base (.slice a' (zs ++ ys).length cap') (zs ++ ys) → w.grownBy w' v.ownBlock → wpListIn (Fence.wide.inRound fl) n P ops Q rest (a.put o.dst (.slice a' (zs ++ ys).length cap')) w') : wpListIn (Fence.wide.inRound fl) n P ops Q (o :: rest) a w := by
  refine wpListIn_plain hg fun K hK => wpIn_of_plain (by rw [ho]; intro c e; cases e) (wp_app w s x t ho base E k b hT v zs hs hown ad c ys hx hr hn hlen hb0 hbase fun v' w' h1 h2 => hK _ _ ?_)
  obtain ⟨a', cap', hv, -⟩ := h1.sl
  subst hv
  exact h a' cap' w' h1 h2
theorem kpX_app {k : IntKind} {E : TypeId} {q M : Nat} {W w' : World} {v : Value} {zs : List Int} (hO : Own k E W M v zs) (hG : W.grownBy w' v.ownBlock) (hM : M ≤ W.heap.size) : KpX q M W w' :=
  ⟨hG.size, fun j hj _ => hG.block j (by omega) (fun e => by
    rcases hO.2 with ⟨rfl, _⟩ | ⟨g, cap, cur, rfl, hb, _⟩
    · cases e
    · simp [Value.ownBlock] at e; omega)⟩
theorem kpX_set {q M : Nat} (A : World) (v : Value) : KpX q M A (A.setCell ⟨q, 0, none⟩ v) := ⟨by simp, fun k _ hk => Below.heap_setCell A ⟨q, 0, none⟩ v k hk⟩
theorem own_put {k : IntKind} {E : TypeId} {W : World} {base D : Nat} {v : Value} {zs : List Int} (h : Own k E W base v zs) (hK : W.heap[D]? = some (.deferred (some []))) (o : Obj) : Own k E (W.putObj D o) base v zs :=
  keeps_own (B := 0) (row := some D) h ⟨rfl, rfl, rfl, by simp, fun k hk hne => World.putObj_heap_other (fun e => hne (by rw [e]))⟩ (fun r e => by cases e; exact ⟨Nat.zero_le _, _, hK, rfl⟩)
theorem errJ_one {ps : List (List Int × Int)} {p : List Int × Int} (h : errJ ps = 0) (hp : p.2 ≠ 0) {all : List (List Int × Int)} (hpre : ps ++ [p] <+: all) : errJ all = p.2 := by
  obtain ⟨r, rfl⟩ := hpre
  rw [errJ_pre (by rw [errJ_snoc p h]; exact hp), errJ_snoc p h]
theorem held_put24 {W : World} {D g : Nat} {c : Array Value} {T : TypeId} {f : Nat × Nat} (h : W.heap[g]? = some (.cells c T f)) (hK : W.heap[D]? = some (.deferred (some []))) (o : Obj) : (W.putObj D o).heap[g]? = some (.cells c T f) := by
  rw [World.putObj_heap_other (fun e => by subst e; rw [h] at hK; cases hK)]; exact h
attribute [local go_sem] Oper.semAt_some
set_option maxRecDepth 100000 in
set_option maxHeartbeats 8000000 in
theorem putS_any (tow : Int) (a : Option Addr) (cap : Nat) (l : List (List Int)) (w : World) (hE : Els w 7 a l.length cap (satsV l)) (h100 : l.length ≤ 100) (hty : -9223372036854775808 ≤ tow ∧ tow ≤ 9223372036854775807) (hl7 : ∀ x ∈ l, x.length = 7 ∧ ∀ y ∈ x, -9223372036854775808 ≤ y ∧ y ≤ 9223372036854775807) : Calls Try.prog 7 #[.agg #[.int .i64 tow, .slice a l.length cap]] w (BsOk w (putSS tow l)) := by
  have hbk : ∀ b off, a = some ⟨b, off, none⟩ → 0 < l.length → b < w.heap.size := by
    intro b off e hl
    obtain ⟨x, hx⟩ : ∃ x, l[0]? = some x := ⟨_, List.getElem?_eq_getElem hl⟩
    obtain ⟨x7, -⟩ := hl7 x (List.mem_of_getElem? hx)
    obtain ⟨x0, x1, x2, x3, x4, x5, x6, rfl⟩ := list7 x7
    obtain ⟨b2, o2, e2, g, -⟩ := hE.at7 (satsV_at hx)
    rw [e] at e2
    cases e2
    exact World.block_lt_of_cell? w _ g
  replace hbk := hid hbk
  replace hE := hid hE
  refine calls_of_marks Try.func7 rfl ?_
  simp only [Try.ntmps7, List.size_toArray, List.length_cons, List.length_nil, Nat.reduceAdd, Nat.reduceSub, Array.replicate_succ, Array.replicate_zero, List.push_toArray, List.append_toArray, List.nil_append, List.cons_append]
  go_upto_region 0 with (fail)
  apply wp_region_seg0 (w := w) (S := [.al 1000, .al 1000, .al 1000]) (E := [.al ((fun p => .pointer (some ⟨p, 0, none⟩)), _) 1000, .al ((fun p => .pointer (some ⟨p, 0, none⟩)), _) 1000, .al ((fun p => .pointer (some ⟨p, 0, none⟩)), _) 1000]) rfl (by kernel_rfl) rfl rfl
  intro th hge hne
  refine Seg.step _ rfl ⟨by rfl, fun U hU => ?_⟩ ?_
  · go_simp; exact vp_alloc rfl rfl rfl
  refine ⟨_, by (simp only [Ent.val]; go_simp <;> exact rfl), ?_⟩
  refine Seg.step _ rfl ⟨by rfl, fun U hU => ?_⟩ ?_
  · go_simp; exact vp_alloc rfl rfl rfl
  refine ⟨_, by (simp only [Ent.val]; go_simp <;> exact rfl), ?_⟩
  refine Seg.step _ rfl ⟨by rfl, fun U hU => ?_⟩ ?_
  · go_simp; exact vp_alloc rfl rfl rfl
  refine ⟨_, by (simp only [Ent.val]; go_simp <;> exact rfl), ?_⟩
  refine Seg.stop (fun U1 hU hk => ?_)
  have nb0 := hge 0 _ _ rfl
  have rb0 := (hk 0 _ _ rfl trivial).1.2 (by simp)
  have nb1 := hge 1 _ _ rfl
  have rb1 := (hk 1 _ _ rfl trivial).1.2 (by simp)
  have nb2 := hge 2 _ _ rfl
  have rb2 := (hk 2 _ _ rfl trivial).1.2 (by simp)
  have ne0_1 := hne 0 1 _ _ _ _ rfl rfl (by omega)
  have ne0_2 := hne 0 2 _ _ _ _ rfl rfl (by omega)
  have ne1_2 := hne 1 2 _ _ _ _ rfl rfl (by omega)
  clear hk hge hne
  generalize th (0 + 0) = p0_0 at *
  dsimp only at rb0
  generalize th (0 + 1) = p0_1 at *
  dsimp only at rb1
  generalize th (0 + 2) = p0_2 at *
  dsimp only at rb2
  have r_p0_0 := rb0
  clear rb0
  have n_p0_0 := nb0
  clear nb0
  have d_p0_0_p0_1 := ne0_1
  clear ne0_1
  have d_p0_0_p0_2 := ne0_2
  clear ne0_2
  have r_p0_1 := rb1
  clear rb1
  have n_p0_1 := nb1
  clear nb1
  have d_p0_1_p0_2 := ne1_2
  clear ne1_2
  have r_p0_2 := rb2
  clear rb2
  have n_p0_2 := nb2
  clear nb2
  have sz1 := hU.size
  have hB : Below w.heap.size w U1 := hU
  clear hU
  have z0 := held_cell r_p0_0 0 _ rfl
  have z1 := held_cell r_p0_0 1 _ rfl
  have n1 := n_p0_1
  have n2 := n_p0_2
  have d12 := d_p0_1_p0_2
  have x1 := held_cell r_p0_1 0 _ rfl
  have x2 := held_cell r_p0_2 0 _ rfl
  have y1 := held_free r_p0_1 0
  have y2 := held_free r_p0_2 0
  by_cases big : (64 : Int) < l.length
  case pos =>
    have e : putSS tow l = ([], 7) := by unfold putSS; rw [if_pos (by omega)]
    replace e := hid e
    have s1 := held_oth (q := p0_2) (j := 0) (v := .int .i64 7) d12 (held_set r_p0_1 0 (.slice none 0 0))
    have s2 := held_set (held_oth (q := p0_1) (j := 0) (v := .slice none 0 0) (Ne.symm d12) r_p0_2) 0 (.int .i64 7)
    have e1 := held_cell s1 0 _ rfl
    have e2 := held_cell s2 0 _ rfl
    have hB9 := hid ((hB.setCell (p := ⟨p0_1, 0, none⟩) n1 (.slice none 0 0)).setCell (p := ⟨p0_2, 0, none⟩) n2 (.int .i64 7))
    clear s1 s2 r_p0_0 r_p0_1 r_p0_2 hB
    go_wp2_with fail
    exact marks_ret0 (v := .tuple #[.slice none 0 0, .int .i64 7]) (by simp [results, Try.results7, go_sem, e1, e2]) (by rw [e.out]; exact BsOk.no hB9.out)
  have h64 : l.length ≤ 64 := by omega
  clear x1 x2 y1 y2
  go_upto_region 3 with (fail)
  apply wp_region_seg0 (w := U1) (S := [.al 1000]) (E := [.al ((fun p => .pointer (some ⟨p, 0, none⟩)), _) 1000]) rfl (by kernel_rfl) rfl rfl
  intro th hge hne
  refine Seg.step _ rfl ⟨by rfl, fun U hU => ?_⟩ ?_
  · go_simp; exact vp_alloc rfl rfl rfl
  refine ⟨_, by (simp only [Ent.val]; go_simp <;> exact rfl), ?_⟩
  refine Seg.stop (fun U2 hU hk => ?_)
  have nb0 := hge 0 _ _ rfl
  have rb0 := (hk 0 _ _ rfl trivial).1.2 (by simp)
  clear hk hge hne
  generalize th (0 + 0) = p3_0 at *
  dsimp only at rb0
  have df_p0_0_p3_0 : p0_0 ≠ p3_0 := by have := held_lt r_p0_0; omega
  have df_p0_1_p3_0 : p0_1 ≠ p3_0 := by have := held_lt r_p0_1; omega
  have df_p0_2_p3_0 : p0_2 ≠ p3_0 := by have := held_lt r_p0_2; omega
  replace r_p0_0 := held_after hU r_p0_0
  replace r_p0_1 := held_after hU r_p0_1
  replace r_p0_2 := held_after hU r_p0_2
  have r_p3_0 := rb0
  clear rb0
  have n_p3_0 := nb0
  clear nb0
  have sz2 := hU.size
  replace hB := bthen hB hU
  clear hU
  have z0 := held_cell r_p0_0 0 _ rfl
  have z1 := held_cell r_p0_0 1 _ rfl
  have n4 : w.heap.size ≤ p3_0 := by have := sz1; omega
  have d4a := df_p0_1_p3_0
  have d4b := df_p0_2_p3_0
  have aX := alloc_new U2 (.cells #[.int .i64 tow, .slice a l.length cap] 24)
  have lt4 := held_lt r_p3_0
  obtain ⟨W0, hW0⟩ : ∃ X, U2.alloc (.cells #[.int .i64 tow, .slice a l.length cap] 24) = X := ⟨_, rfl⟩
  replace hW0 := hid hW0
  obtain ⟨Bx, hBx⟩ : ∃ X, U2.heap.size = X := ⟨_, rfl⟩
  replace hBx := hid hBx
  rw [hW0.out, hBx.out] at aX
  obtain ⟨aX1, aX2, aX3⟩ := aX
  have s2 := hid (held_after aX2 r_p0_1)
  have s3 := hid (held_after aX2 r_p0_2)
  have s4 := hid (held_after aX2 r_p3_0)
  have hB0 := bthen hB aX2
  have szW := hB0.size
  have hT := hid (laid_tells tow a cap l p3_0 W0.heap.size Bx W0 aX1 (Nat.le_refl _) (by have := hBx.out; omega) aX3 (hE.out.below hB0) (fun b off e h => ⟨by have := hbk.out b off e h; omega, by have := hbk.out b off e h; omega⟩) h64 hty hl7)
  have hB1 := hid hB0
  have hMw := hid szW
  have l2 := held_lt s2.out
  have l3 := held_lt s3.out
  have l4 := held_lt s4.out
  clear hB aX1 aX2 aX3 r_p0_0 r_p0_1 r_p0_2 r_p3_0 hB0
  go_wp2_with fail
  refine (laid_any tow a l.length cap _).mono ?_
  rintro e V ⟨rfl, rfl⟩
  rw [hW0.out, hBx.out]
  go_wp2_with fail
  refine wp_rangeFunc_el (gf := 27) (lb := #[.pointer (some ⟨Bx, 0, none⟩)]) rfl (enters_of Try.func27 (by kernel_rfl) rfl) hT.out (fun h k => kpX_t h k) (fun W l o h => kpX_b W l o h) ?el (fun _ => rfl)
    (fun pre W => W.heap[p0_1]? = some (.cells #[.slice none 0 0] 26 (0, 0)) ∧ W.heap[p0_2]? = some (.cells #[.int .i64 0] 27 (0, 0)) ∧ (∃ (ad : Option Addr) (cp : Nat), W.heap[p3_0]? = some (.cells #[.slice ad (catJ (pre.map (fun x => x.2.2))).length cp] 26 (0, 0)) ∧ Own .u8 5 W W0.heap.size (.slice ad (catJ (pre.map (fun x => x.2.2))).length cp) (catJ (pre.map (fun x => x.2.2)))) ∧ errJ (pre.map (fun x => x.2.2)) = 0 ∧ (catJ (pre.map (fun x => x.2.2))).length ≤ 8000 * pre.length ∧ Below w.heap.size w W ∧ W0.heap.size ≤ W.heap.size)
    (fun pre W => W.heap[p0_1]? = some (.cells #[.slice none 0 0] 26 (0, 0)) ∧ W.heap[p0_2]? = some (.cells #[.int .i64 (errJ (pre.map (fun x => x.2.2)))] 27 (0, 0)) ∧ errJ (pre.map (fun x => x.2.2)) ≠ 0 ∧ Below w.heap.size w W)
    ?own ?ownx ?stays ?start ?a1 ?assign ?body ?done ?stop
  case assign =>
    intro l9 i W K hK
    unfold enc17
    gi_wp2
    exact hK
  case el =>
    intro x A B row h hg hr
    exact ⟨own_sl h.1 hg hr, h.2⟩
  case own =>
    rintro pre A B row ⟨k1, k2, ⟨ad, cp, k3, k4⟩, k5, k6, k7, k8⟩ hg hr
    exact ⟨keeps_row k1 rfl hg hr, keeps_row k2 rfl hg hr, ⟨ad, cp, keeps_row k3 rfl hg hr, keeps_own k4 hg hr⟩, k5, k6, keeps_below k7 hMw.out k7.size hg hr, Nat.le_trans k8 hg.size⟩
  case ownx =>
    rintro pre A B row ⟨k1, k2, k3, k4⟩ hg hr
    exact ⟨keeps_row k1 rfl hg hr, keeps_row k2 rfl hg hr, k3, keeps_below k4 hMw.out k4.size hg hr⟩
  case stays =>
    rintro pre A A' ⟨k1, k2, ⟨ad, cp, k3, k4⟩, k5, k6, k7, k8⟩ e
    exact ⟨held_after e k1, held_after e k2, ⟨ad, cp, held_after e k3, k4.below e⟩, k5, k6, bthen k7 e, Nat.le_trans k8 e.size⟩
  case start => exact ⟨s2.out, s3.out, ⟨none, 0, s4.out, Own.nil _ _ _ _⟩, rfl, by simp [catJ], hB1.out, Nat.le_refl _⟩
  case stop =>
    rintro D pre W hD hp ⟨r2, r3, hx, hB⟩ hK
    have he := hid (show errJ (pieces tow l) = errJ (pre.map (fun x => x.2.2)) from by obtain ⟨r, hr⟩ := hp; rw [← hr, errJ_pre hx])
    have q : putSS tow l = ([], errJ (pre.map (fun x => x.2.2))) := by unfold putSS; rw [if_neg (by omega), he.out, if_neg hx]
    replace q := hid q
    have e1 := held_cell (held_put24 r2 hK (.deferred none)) 0 _ rfl
    have e2 := held_cell (held_put24 r3 hK (.deferred none)) 0 _ rfl
    go_wp2_with fail
    refine marks_ret1 (v := .tuple #[.slice none 0 0, .int .i64 (errJ (pre.map (fun x => x.2.2)))]) hK ?_ (by rw [q.out]; exact BsOk.no (below_mark (W0 := W0) hB hMw.out hD hK))
    simp [results, Try.results7, go_sem, e1, e2]
  case done =>
    rintro D pre W hD hS ⟨r2, r3, ⟨ad, cp, r4, hO⟩, he, hl, hB, hM⟩ hK
    rw [hS] at r4 hO he
    have q : putSS tow l = (catJ (pieces tow l), 0) := by unfold putSS; rw [if_neg (by omega), if_pos he]
    clear hS hl he
    generalize catJ (pieces tow l) = L at *
    replace q := hid q
    have c4 := held_cell r4 0 _ rfl
    have x1 := held_cell r2 0 _ rfl
    have x2 := held_cell r3 0 _ rfl
    have y1 := held_free r2 0
    have y2 := held_free r3 0
    have t2 := held_oth (q := p0_2) (j := 0) (v := .int .i64 0) d12 (held_set r2 0 (.slice ad L.length cp))
    have t3 := held_set (held_oth (q := p0_1) (j := 0) (v := .slice ad L.length cp) (Ne.symm d12) r3) 0 (.int .i64 0)
    have hK2 : ((W.setCell ⟨p0_1, 0, none⟩ (.slice ad L.length cp)).setCell ⟨p0_2, 0, none⟩ (.int .i64 0)).heap[D]? = some (.deferred (some [])) := held_oth (by omega) (held_oth (by omega) hK)
    have hB9 := (hB.setCell (p := ⟨p0_1, 0, none⟩) n1 (.slice ad L.length cp)).setCell (p := ⟨p0_2, 0, none⟩) n2 (.int .i64 0)
    have hO9 := (hO.oth r2 (by decide) 0 (.slice ad L.length cp)).oth (g := p0_2) (c := #[.int .i64 0]) (T := 27) (f := (0, 0)) (held_oth (q := p0_1) (j := 0) (v := .slice ad L.length cp) (Ne.symm d12) r3) (by decide) 0 (.int .i64 0)
    have e1 := hid (held_cell (held_put24 t2 hK2 (.deferred none)) 0 _ rfl)
    have e2 := hid (held_cell (held_put24 t3 hK2 (.deferred none)) 0 _ rfl)
    have hO8 := hid ((own_put hO9 hK2 (.deferred none)).base hMw.out)
    have hB8 := hid (below_mark (W0 := W0) hB9 hMw.out hD hK2)
    replace hK2 := hid hK2
    clear hO hO9 hB hB9 t2 t3 hK r2 r3 r4
    go_wp2_with fail
    refine marks_ret1 (v := .tuple #[.slice ad L.length cp, .int .i64 0]) hK2.out ?_ (by rw [q.out]; exact ⟨ad, cp, rfl, hO8.out, hB8.out⟩)
    have g1 := e1.out
    have g2 := e2.out
    generalize World.putObj _ D _ = V9 at *
    simp [results, Try.results7, go_sem, g1, g2]
  case body =>
    rintro fl pre ⟨xa, xc, xL, xe⟩ W ⟨r2, r3, ⟨ad, cp, r4, hO⟩, he, hl, hB, hM⟩ ⟨hx, hx8⟩ hlen
    dsimp only at hx hx8 ⊢
    apply wpIn_block
    have hN : (pieces tow l).length ≤ 65 := by simp [pieces]; omega
    have hsn := hid (errJ_snoc (xL, xe) he)
    have hcs := hid (catJ_snoc (pre.map (fun x => x.2.2)) (xL, xe))
    have hm1 : (pre ++ [((xa, xc, xL, xe) : El17)]).map (fun x => x.2.2) = (pre.map (fun x => x.2.2)) ++ [(xL, xe)] := by rw [List.map_append]; rfl
    replace hm1 := hid hm1
    have hl9 := hid (show (catJ (pre.map (fun x => x.2.2)) ++ xL).length ≤ 8000 * (pre ++ [((xa, xc, xL, xe) : El17)]).length from by rw [List.length_append, List.length_append, List.length_singleton]; omega)
    have hla : (catJ (pre.map (fun x => x.2.2))).length + xL.length ≤ 140737488355328 / 1 := by omega
    generalize (pre.map (fun x => x.2.2)) = ps at *
    have c4 := held_cell r4 0 _ rfl
    have f4 := held_free r4 0
    have x1 := held_cell r2 0 _ rfl
    have x2 := held_cell r3 0 _ rfl
    have y1 := held_free r2 0
    have y2 := held_free r3 0
    replace hB := hid hB
    by_cases e0 : xe = 0
    · subst e0
      have hrd := hid hx.2.2.2.2
      have hnn := hid hx.2.2.2.1
      clear x1 x2 y1 y2 f4
      gi_wp2_with (first | (gi_at_builtin; refine wpListIn_app _ rfl (.tmp 18) (.tmp 19) 26 rfl W0.heap.size 5 .u8 1 bytesOf (.slice ad (catJ ps).length cp) (catJ ps) rfl hO xa xc xL rfl hrd.out hnn.out hla (by omega) hM ?_))
      intro a9 cap9 w9 hO9 hG
      have q2 := held_grown r2 hG (own_ne hO r2 (by decide))
      have q3 := held_grown r3 hG (own_ne hO r3 (by decide))
      have q4 := held_grown r4 hG (own_ne hO r4 (by decide))
      have kA := KeepsOthers.of_grownBy hG (fun j ob e hj => own_cells hO e hj)
      have kX := kpX_app (q := p3_0) hO hG hM
      have hB9 := hO.grew hG hB.out hMw.out (Nat.le_trans hMw.out hM)
      have h4 := held_cell q4 0 _ rfl
      have f4 := held_free q4 0
      replace hO9 := hid hO9
      replace hB9 := hid hB9
      gi_wp2
      refine ⟨kA.trans (KeepsOthers.setCell _ _ _), kpX_t kX (kpX_set _ _), held_oth d4a q2, held_oth d4b q3, ⟨a9, cap9, ?_, ?_⟩, ?_, ?_, hB9.out.setCell (p := ⟨p3_0, 0, none⟩) n4 _, ?_⟩
      · rw [hm1.out, hcs.out, List.length_append]; exact held_set q4 0 _
      · rw [hm1.out, hcs.out, List.length_append]; exact hO9.out.oth q4 (by decide) 0 _
      · rw [hm1.out]; exact hsn.out
      · rw [hm1.out, hcs.out]; exact hl9.out
      · exact Nat.le_trans hM (Nat.le_trans kX.1 (kpX_set (q := p3_0) (M := 0) w9 _).1)
    · have hq : (xe != 0) = true := by simp [e0]
      have hsx := hid e0
      clear c4 f4
      gi_wp2
      refine ⟨(KeepsOthers.setCell _ _ _).trans (KeepsOthers.setCell _ _ _), held_oth d12 (held_set r2 0 _), ?_, ?_, (hB.out.setCell (p := ⟨p0_1, 0, none⟩) n1 _).setCell (p := ⟨p0_2, 0, none⟩) n2 _⟩
      · rw [hm1.out, hsn.out]; exact held_set (held_oth (Ne.symm d12) r3) 0 _
      · rw [hm1.out, hsn.out]; exact hsx.out

end Go.Proofs.Ytahjcbdofljfpaa
