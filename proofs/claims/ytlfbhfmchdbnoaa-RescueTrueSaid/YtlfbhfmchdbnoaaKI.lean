/- Several texts in one: App, Rec, Rec2, Rec3, Rec4. -/
import Derived.Test.YtlfbhfmchdbnoaaKP
import Derived.Test.YtlfbhfmchdbnoaaPre
import Derived.Test.YtlfbhfmchdbnoaaKO5
import Derived.Test.YtlfbhfmchdbnoaaEls
import Derived.Test.YtlfbhfmchdbnoaaKB
import Derived.Test.YtlfbhfmchdbnoaaKA
import Derived.Test.YtlfbhfmchdbnoaaKH
import Derived.Deep.DeepCutAuto
import Derived.Laws.StructEq

/- append of bytes as a single operation, also in a fence; what a mark leaves as it is. -/
namespace Go.Proofs.Ytlfbhfmchdbnoaa
open Go.ChangeShapes Go.WideShapes Go.ChangeAt Go.RowKit
set_option linter.unusedVariables false
theorem wp_app {P : Program} (w : World) {o : Oper} {a : Act} {K : Act → World → Prop} {Q : Exit → Act → World → Prop} (s x : Operand) (t : TypeId)
    (ho : o.op = .call { callee := .builtin .append, args := #[s, x], argTypes := #[t, t] })
    (base : Nat) (E : TypeId) (k : IntKind) (b : Nat) (hT : IntsOf P t E k b)
    (v : Value) (zs : List Int) (hs : a.eval s = v) (hown : Own k E w base v zs)
    (ad : Option Addr) (c : Nat) (ys : List Int) (hx : a.eval x = .slice ad ys.length c) (hr : Rd k w ad ys) (hn : ad = none → c = 0)
    (hlen : zs.length + ys.length ≤ 140737488355328 / b) (hb0 : 0 < b) (hbase : base ≤ w.heap.size)
    (h : ∀ v' w', Own k E w' base v' (zs ++ ys) → w.grownBy w' v.ownBlock → K (a.put o.dst v') w') : o.wp P a w K Q := by
  obtain ⟨ht, hi⟩ := hT
  obtain ⟨i, hi1, hi2⟩ : ∃ i, P.info? E = some i ∧ (i.zero, i.size, i.bytes) = (some (.int k 0), 1, b) := by
    cases hP : P.info? E with
    | none => rw [hP] at hi; cases hi
    | some i => rw [hP] at hi; exact ⟨i, rfl, by simpa using hi⟩
  have hz : i.zero = some (.int k 0) := congrArg Prod.fst hi2
  have hsz : i.size = 1 := congrArg (fun p => p.2.1) hi2
  have hby : i.bytes = b := congrArg (fun p => p.2.2) hi2
  have hle : zs.length + ys.length ≤ 140737488355328 := Nat.le_trans hlen (Nat.div_le_self _ _)
  have hmul : (zs.length + ys.length) * b ≤ 140737488355328 := (Nat.le_div_iff_mul_le hb0).1 hlen
  cases ad with
  | none =>
    have hy : ys = [] := by
      cases ys with
      | nil => rfl
      | cons y r => obtain ⟨_, _, e, _⟩ := hr 0 (by simp); cases e
    subst hy
    obtain rfl := hn rfl
    have hrun := run_append_owned_none (P := P) w base t o.type E i 1 ht hi1 v zs.length (zs.map (Value.int k)) hown
    unfold Oper.wp execOp
    simp only [ho, resolve, invoke, builtin, Sem.run_bind, Sem.run_pure, Result.andThen_ok, List.map_toArray, List.map_cons, List.map_nil, hs, hx, hrun, List.length_nil]
    exact h v w (by simpa using hown) ⟨rfl, rfl, rfl, Nat.le_refl _, fun _ _ _ => rfl⟩
  | some ad =>
    refine wp_append_own w s x t ho base E i (.int k 0) 1 b ht hi1 hz hsz hby rfl (by decide) v zs.length (zs.map (Value.int k)) hs hown ad ys.length c (ys.map (Value.int k)) hx (by simp) ?_ (by simp [Value.oneCell']) (by unfold maxLen; omega) hmul hbase ?_
    · intro j u hj
      have hjl : j < ys.length := by
        rcases Nat.lt_or_ge j ys.length with hl | hl
        · exact hl
        · rw [List.getElem?_eq_none (by simpa using hl)] at hj; cases hj
      obtain ⟨bb, off, e, hc⟩ := hr j hjl
      cases e
      have hu : u = .int k (ys.getD j 0) := by simp [hjl] at hj; simp [hjl, hj]
      rw [hu]
      by_cases hj0 : j = 0
      · subst hj0; simpa [Addr.add] using hc
      · simpa [Addr.add, hj0] using hc
    · intro v' w' h2 h3 _
      refine h v' w' ?_ h3
      simpa [Own, List.map_append] using h2

theorem wpListIn_app {P : Program} {fl n : Nat} (w : World) {ops : Array Oper} {rest : List Oper} {o : Oper} {a : Act} {Q : Exit → Act → World → Prop} (hg : o.guard = none) (s x : Operand) (t : TypeId)
    (ho : o.op = .call { callee := .builtin .append, args := #[s, x], argTypes := #[t, t] })
    (base : Nat) (E : TypeId) (k : IntKind) (b : Nat) (hT : IntsOf P t E k b)
    (v : Value) (zs : List Int) (hs : a.eval s = v) (hown : Own k E w base v zs)
    (ad : Option Addr) (c : Nat) (ys : List Int) (hx : a.eval x = .slice ad ys.length c) (hr : Rd k w ad ys) (hn : ad = none → c = 0)
    (hlen : zs.length + ys.length ≤ 140737488355328 / b) (hb0 : 0 < b) (hbase : base ≤ w.heap.size)
    (h : ∀ a' cap' w', Own k E w' base (.slice a' (zs ++ ys).length cap') (zs ++ ys) → w.grownBy w' v.ownBlock → wpListIn (Fence.wide.inRound fl) n P ops Q rest (a.put o.dst (.slice a' (zs ++ ys).length cap')) w') : wpListIn (Fence.wide.inRound fl) n P ops Q (o :: rest) a w := by
  refine wpListIn_plain hg fun K hK => wpIn_of_plain (by rw [ho]; intro c e; cases e) (wp_app w s x t ho base E k b hT v zs hs hown ad c ys hx hr hn hlen hb0 hbase fun v' w' h1 h2 => hK _ _ ?_)
  obtain ⟨a', cap', hv, -⟩ := h1.sl
  subst hv
  exact h a' cap' w' h1 h2
theorem kpX_app {k : IntKind} {E : TypeId} {q M : Nat} {W w' : World} {v : Value} {zs : List Int} (hO : Own k E W M v zs) (hG : W.grownBy w' v.ownBlock) (hM : M ≤ W.heap.size) : KpX q M W w' :=
  ⟨hG.size, fun j hj _ => hG.block j (by omega) (fun e => by
    rcases hO.2 with ⟨rfl, _⟩ | ⟨g, cap, cur, rfl, hb, _⟩
    · cases e
    · simp [Value.ownBlock] at e; omega)⟩
theorem kpX_set {q M : Nat} (A : World) (v : Value) : KpX q M A (A.setCell ⟨q, 0, none⟩ v) := ⟨by simp, fun k _ hk => Below.heap_setCell A ⟨q, 0, none⟩ v k hk⟩
theorem own_put {k : IntKind} {E : TypeId} {W : World} {base D : Nat} {v : Value} {zs : List Int} (h : Own k E W base v zs) (hK : W.heap[D]? = some (.deferred (some []))) (o : Obj) : Own k E (W.putObj D o) base v zs :=
  keeps_own (B := 0) (row := some D) h ⟨rfl, rfl, rfl, by simp, fun k hk hne => World.putObj_heap_other (fun e => hne (by rw [e]))⟩ (fun r e => by cases e; exact ⟨Nat.zero_le _, _, hK, rfl⟩)
theorem held_put24 {W : World} {D g : Nat} {c : Array Value} {T : TypeId} {f : Nat × Nat} (h : W.heap[g]? = some (.cells c T f)) (hK : W.heap[D]? = some (.deferred (some []))) (o : Obj) : (W.putObj D o).heap[g]? = some (.cells c T f) := by
  rw [World.putObj_heap_other (fun e => by subst e; rw [h] at hK; cases hK)]; exact h
theorem wp_then {P : Program} {K : Act → World → Prop} {Q : Exit → Act → World → Prop} {c : Code} {a : Act} {w : World} (h : c.wp P (fun e a w => e = .normal ∧ K a w) a w) : c.wp P (Exit.then K Q) a w := Code.wp_mono (fun e a w he => by obtain ⟨rfl, hk⟩ := he; exact hk) h

end Go.Proofs.Ytlfbhfmchdbnoaa

/- Package rec: records whole: Key. -/
namespace Go.Proofs.Ytlfbhfmchdbnoaa
open Go.ChangeShapes Go.WideShapes Go.ChangeAt Go.RowKit
set_option linter.unusedVariables false
set_option linter.unusedSimpArgs false

set_option maxRecDepth 100000 in
set_option maxHeartbeats 2000000 in
theorem index12_any (v0 v1 v2 v3 v4 v5 v6 v7 v8 v9 v10 v11 : Int) (k : Nat) (w : World) (hk : k < 12) : (Instr.index 63 (.agg #[.int .i32 v0, .int .i32 v1, .int .i32 v2, .int .i32 v3, .int .i32 v4, .int .i32 v5, .int .i32 v6, .int .i32 v7, .int .i32 v8, .int .i32 v9, .int .i32 v10, .int .i32 v11]) (.int .i64 k)).run Try.prog w = .ok (.int .i32 ([v0, v1, v2, v3, v4, v5, v6, v7, v8, v9, v10, v11].getD k 0)) w := by
  obtain rfl | rfl | rfl | rfl | rfl | rfl | rfl | rfl | rfl | rfl | rfl | rfl : k = 0 ∨ k = 1 ∨ k = 2 ∨ k = 3 ∨ k = 4 ∨ k = 5 ∨ k = 6 ∨ k = 7 ∨ k = 8 ∨ k = 9 ∨ k = 10 ∨ k = 11 := by omega
  all_goals rfl
theorem getD_at {l : List Int} {k : Nat} (h : k < l.length) : l[k]? = some (l.getD k 0) := by simp [h]
theorem take_snoc {l : List Int} {k : Nat} (h : k < l.length) : l.take (k + 1) = l.take k ++ [l.getD k 0] := by
  rw [List.take_add_one, getD_at h]; rfl
theorem list12 {v : List Int} (h : v.length = 12) : ∃ v0 v1 v2 v3 v4 v5 v6 v7 v8 v9 v10 v11, v = [v0, v1, v2, v3, v4, v5, v6, v7, v8, v9, v10, v11] := by
  match v, h with
  | [v0, v1, v2, v3, v4, v5, v6, v7, v8, v9, v10, v11], _ => exact ⟨v0, v1, v2, v3, v4, v5, v6, v7, v8, v9, v10, v11, rfl⟩
/-- A record's bytes. -/
def keyF (v : List Int) : List Int := v.flatMap fun x => bytesL (wrapU x) 4
def keyV (t : Int) (v : List Int) : List Int := bytesL t 4 ++ keyF v
theorem keyF_snoc (v : List Int) (x : Int) : keyF (v ++ [x]) = keyF v ++ bytesL (wrapU x) 4 := by simp [keyF]
theorem keyF_len : ∀ v : List Int, (keyF v).length = 4 * v.length
  | [] => rfl
  | x :: v => by
    have h : keyF (x :: v) = bytesL (wrapU x) 4 ++ keyF v := rfl
    rw [h, List.length_append, bytesL_len, keyF_len v, List.length_cons]; omega
theorem fit4 {t : Int} (h0 : 0 ≤ t) (h1 : t ≤ 4294967295) : fitU 4 t = true := by
  unfold fitU
  exact decide_eq_true ⟨by omega, by omega, by show t < 256 ^ 4; omega⟩
theorem fit4i {x : Int} (h0 : -2147483648 ≤ x) (h1 : x ≤ 2147483647) : fitI 4 x = true := by
  unfold fitI
  exact decide_eq_true ⟨by omega, by omega, by show -(128 * 256 ^ 3) ≤ x; omega, by show x < 128 * 256 ^ 3; omega⟩
theorem cells12 (c : Value) (v0 v1 v2 v3 v4 v5 v6 v7 v8 v9 v10 v11 : Int) (k : Nat) (hk : k < 12) : (#[c, .int .i32 v0, .int .i32 v1, .int .i32 v2, .int .i32 v3, .int .i32 v4, .int .i32 v5, .int .i32 v6, .int .i32 v7, .int .i32 v8, .int .i32 v9, .int .i32 v10, .int .i32 v11] : Array Value)[1 + k]? = some (.int .i32 ([v0, v1, v2, v3, v4, v5, v6, v7, v8, v9, v10, v11].getD k 0)) := by
  obtain rfl | rfl | rfl | rfl | rfl | rfl | rfl | rfl | rfl | rfl | rfl | rfl : k = 0 ∨ k = 1 ∨ k = 2 ∨ k = 3 ∨ k = 4 ∨ k = 5 ∨ k = 6 ∨ k = 7 ∨ k = 8 ∨ k = 9 ∨ k = 10 ∨ k = 11 := by omega
  all_goals rfl
set_option maxRecDepth 100000 in
set_option maxHeartbeats 4000000 in
theorem rkey_any (t v0 v1 v2 v3 v4 v5 v6 v7 v8 v9 v10 v11 : Int) (w : World) (ht : 0 ≤ t ∧ t ≤ 4294967295) (hv : ∀ x ∈ [v0, v1, v2, v3, v4, v5, v6, v7, v8, v9, v10, v11], -2147483648 ≤ x ∧ x ≤ 2147483647) : Calls Try.prog 66 #[.agg #[.int .u32 t, .int .i32 v0, .int .i32 v1, .int .i32 v2, .int .i32 v3, .int .i32 v4, .int .i32 v5, .int .i32 v6, .int .i32 v7, .int .i32 v8, .int .i32 v9, .int .i32 v10, .int .i32 v11]] w (BytesOk w (keyV t [v0, v1, v2, v3, v4, v5, v6, v7, v8, v9, v10, v11])) := by
  replace hv := hid hv
  obtain ⟨tn, rfl⟩ : ∃ n : Nat, t = n := ⟨t.toNat, by omega⟩
  go_enter Try.func66, Try.ntmps66
  go_upto_region 0 with (fail)
  apply wp_region_seg0 (w := w) (S := [.al 1000, .q []]) (E := [.al ((fun p => .pointer (some ⟨p, 0, none⟩)), _) 1000, .q0 _]) rfl (by kernel_rfl) rfl rfl
  intro th hge hne
  refine Seg.step _ rfl ⟨by rfl, fun U hU => ?_⟩ ?_
  · go_simp; exact vp_alloc rfl rfl rfl
  refine ⟨_, by (simp only [Ent.val]; go_simp <;> exact rfl), ?_⟩
  refine Seg.step _ rfl (Or.inl ⟨by rfl, fun U hU => vp_quiet (by (go_simp <;> exact rfl))⟩) ⟨_, by (simp only [Ent.val]; go_simp <;> exact rfl), ?_⟩
  refine Seg.stop (fun U1 hU hk => ?_)
  have nb0 := hge 0 _ _ rfl
  have rb0 := (hk 0 _ _ rfl trivial).1.2 (by simp)
  clear hk hge hne
  generalize th (0 + 0) = p0_0 at *
  dsimp only at rb0
  have r_p0_0 := rb0
  clear rb0
  have n_p0_0 := nb0
  clear nb0
  have sz1 := hU.size
  have hB : Below w.heap.size w U1 := hU
  clear hU
  have wt : IntKind.u64.wrap (tn : Int) = (tn : Int) := by rw [IntKind.wrap_u64]; omega
  have hBs := hB.size
  have z0 := held_cell r_p0_0 0 _ rfl
  replace hB := hid hB
  replace r_p0_0 := hid r_p0_0
  go_wp2_with fail
  refine (rbytes_any 4 (by omega) tn (by omega) _).mono ?_
  rintro e V1 ⟨a1, c1, rfl, hO, hA⟩
  have r1 := held_after hA r_p0_0.out
  have hB1 := hid (bthen hB.out hA)
  have hO1 := hid (hO.base hBs)
  have hl1 := bytesL_len (tn : Int) 4
  clear hO hA hB r_p0_0 z0
  replace r1 := hid r1
  replace hl1 := hid hl1
  go_wp2_with fail
  go_loopw [3, 4] (fun ov ix wr => ∃ (k : Nat) (ad : Option Addr) (cp : Nat), k ≤ 12 ∧ ix = .int .i64 k ∧ ov = .slice ad (bytesL (tn : Int) 4 ++ keyF ([v0, v1, v2, v3, v4, v5, v6, v7, v8, v9, v10, v11].take k)).length cp ∧ Own .u8 5 wr w.heap.size (.slice ad (bytesL (tn : Int) 4 ++ keyF ([v0, v1, v2, v3, v4, v5, v6, v7, v8, v9, v10, v11].take k)).length cp) (bytesL (tn : Int) 4 ++ keyF ([v0, v1, v2, v3, v4, v5, v6, v7, v8, v9, v10, v11].take k)) ∧ wr.heap[p0_0]? = some (.cells #[.int .u32 (tn : Int), .int .i32 v0, .int .i32 v1, .int .i32 v2, .int .i32 v3, .int .i32 v4, .int .i32 v5, .int .i32 v6, .int .i32 v7, .int .i32 v8, .int .i32 v9, .int .i32 v10, .int .i32 v11] 65 (0, 0)) ∧ Below w.heap.size w wr) (fun _ ix _ => 12 - (intOf ix).toNat)
  case atStart => exact ⟨0, a1, c1, by omega, rfl, by simp [keyF], by simpa [keyF] using hO1.out, r1.out, hB1.out⟩
  case round =>
    clear hO1 hB1 r1
    obtain ⟨k, ad, cp, hk, rfl, rfl, hO, r1, hB⟩ := hrel
    have sB := hB.size
    have hzl : (bytesL (tn : Int) 4 ++ keyF ([v0, v1, v2, v3, v4, v5, v6, v7, v8, v9, v10, v11].take k)).length ≤ 1000 := by rw [List.length_append, bytesL_len, keyF_len, List.length_take]; omega
    replace hO := hid hO
    replace hB := hid hB
    by_cases hlt : (k : Int) < 12
    case neg =>
      obtain rfl : k = 12 := by omega
      have hO9 : Hid (Own .u8 5 wr w.heap.size (.slice ad (keyV (tn : Int) [v0, v1, v2, v3, v4, v5, v6, v7, v8, v9, v10, v11]).length cp) (keyV (tn : Int) [v0, v1, v2, v3, v4, v5, v6, v7, v8, v9, v10, v11])) := hO
      clear hO hzl
      rw [show bytesL (tn : Int) 4 ++ keyF ([v0, v1, v2, v3, v4, v5, v6, v7, v8, v9, v10, v11].take 12) = keyV (tn : Int) [v0, v1, v2, v3, v4, v5, v6, v7, v8, v9, v10, v11] from rfl]
      generalize keyV (tn : Int) [v0, v1, v2, v3, v4, v5, v6, v7, v8, v9, v10, v11] = L at *
      go_wp2_with fail
      go_ret
      exact ⟨ad, cp, rfl, hO9.out, hB.out⟩
    have hlt2 : k < 12 := by omega
    have hx := hv.out ([v0, v1, v2, v3, v4, v5, v6, v7, v8, v9, v10, v11].getD k 0) (List.mem_of_getElem? (getD_at (show k < ([v0, v1, v2, v3, v4, v5, v6, v7, v8, v9, v10, v11]).length from hlt2)))
    have htk := hid (take_snoc (show k < ([v0, v1, v2, v3, v4, v5, v6, v7, v8, v9, v10, v11]).length from hlt2))
    have cx : wr.cell? ⟨p0_0, 1 + k, none⟩ = some (.int .i32 ([v0, v1, v2, v3, v4, v5, v6, v7, v8, v9, v10, v11].getD k 0)) := by rw [cell_of_row wr p0_0 (1 + k) _ 65 (0, 0) r1]; exact cells12 _ v0 v1 v2 v3 v4 v5 v6 v7 v8 v9 v10 v11 k hlt2
    obtain ⟨x, hxe⟩ : ∃ x, [v0, v1, v2, v3, v4, v5, v6, v7, v8, v9, v10, v11].getD k 0 = x := ⟨_, rfl⟩
    rw [hxe] at hx htk cx
    clear hxe
    have wx : IntKind.i64.wrap x = x := by rw [IntKind.wrap_i64]; omega
    obtain ⟨u, hu⟩ : ∃ u : Nat, wrapU x = u := ⟨(wrapU x).toNat, by have := wrapU_b x; omega⟩
    have hub := wrapU_b x
    have wu : IntKind.u64.wrap x = (u : Int) := by rw [wrapU_is, hu]
    rw [hu] at hub
    have kz : (0 : Int) ≤ k := by omega
    have wk : IntKind.i64.wrap ((k : Int) + 1) = (k : Int) + 1 := by rw [IntKind.wrap_i64]; omega
    have hk1 := hid (show k + 1 ≤ 12 by omega)
    have hks := hid (keyF_snoc ([v0, v1, v2, v3, v4, v5, v6, v7, v8, v9, v10, v11].take k) x)
    rw [← htk.out, hu] at hks
    replace hu := hid hu
    clear hk
    replace r1 := hid r1
    go_wp2_with fail
    refine (rbytes_any 4 (by omega) u (by omega) _).mono ?_
    rintro e V5 ⟨a5, c5, rfl, hO5, hA⟩
    have r5 := hid (held_after hA r1.out)
    have hB5 := hid (bthen hB.out hA)
    have hO4 := hid (hO.out.below hA)
    have hS5 := hid hO5.slf
    have sz5 := hB5.out.size
    have hla := hid (show (bytesL (tn : Int) 4 ++ keyF ([v0, v1, v2, v3, v4, v5, v6, v7, v8, v9, v10, v11].take k)).length + (bytesL (u : Int) 4).length ≤ 140737488355328 / 1 by rw [bytesL_len]; omega)
    clear hO5 hA r1 hO hB hzl cx
    have hfin : (bytesL (tn : Int) 4 ++ keyF ([v0, v1, v2, v3, v4, v5, v6, v7, v8, v9, v10, v11].take k)) ++ bytesL (u : Int) 4 = bytesL (tn : Int) 4 ++ keyF ([v0, v1, v2, v3, v4, v5, v6, v7, v8, v9, v10, v11].take (k + 1)) := by rw [List.append_assoc, hks.out]
    replace hfin := hid hfin
    obtain ⟨L, hL⟩ : ∃ L, (bytesL (tn : Int) 4 ++ keyF ([v0, v1, v2, v3, v4, v5, v6, v7, v8, v9, v10, v11].take k)) = L := ⟨_, rfl⟩
    rw [hL] at hO4 hla hfin ⊢
    replace hL := hid hL
    go_wp2_with (first | (at_builtin; refine wpList_app _ rfl (.tmp 13) (.tmp 20) 22 rfl w.heap.size 5 .u8 1 bytesOf (.slice ad L.length cp) L rfl hO4.out a5 c5 (bytesL (u : Int) 4) rfl hS5.out.2.2.2.2 hS5.out.2.2.2.1 hla.out (by omega) sz5 ?_))
    intro v9 w9 hO9 hG
    obtain ⟨a9, cap9, hv9, -⟩ := hO9.sl
    subst hv9
    have q4 := hid (held_grown r5.out hG (own_ne hO4.out r5.out (by decide)))
    have hB9 := hid (hO4.out.grew hG hB5.out (Nat.le_refl _) sz5)
    rw [hfin.out] at hO9 ⊢
    replace hO9 := hid hO9
    clear hG
    go_wp2_with fail
    go_roundw
    case rel => exact ⟨k + 1, a9, cap9, hk1.out, by simp, rfl, hO9.out, q4.out, hB9.out⟩
    case measure => simp [intOf]; omega

end Go.Proofs.Ytlfbhfmchdbnoaa

/- Package rec: TakeKey. -/
namespace Go.Proofs.Ytlfbhfmchdbnoaa
open Go.ChangeShapes Go.WideShapes Go.ChangeAt Go.RowKit
set_option linter.unusedVariables false
set_option linter.unusedSimpArgs false

theorem st13 {U : World} {p : Nat} {v0 v1 v2 v3 v4 v5 v6 v7 v8 v9 v10 v11 v12 : Value} {T : TypeId} (h : U.heap[p]? = some (.cells #[v0, v1, v2, v3, v4, v5, v6, v7, v8, v9, v10, v11, v12] T (0, 0))) (u0 u1 u2 u3 u4 u5 u6 u7 u8 u9 u10 u11 u12 : Value) :
    ∃ W2, ((((((((((((U.setCell ⟨p, 0, none⟩ u0).setCell ⟨p, 1, none⟩ u1).setCell ⟨p, 2, none⟩ u2).setCell ⟨p, 3, none⟩ u3).setCell ⟨p, 4, none⟩ u4).setCell ⟨p, 5, none⟩ u5).setCell ⟨p, 6, none⟩ u6).setCell ⟨p, 7, none⟩ u7).setCell ⟨p, 8, none⟩ u8).setCell ⟨p, 9, none⟩ u9).setCell ⟨p, 10, none⟩ u10).setCell ⟨p, 11, none⟩ u11).setCell ⟨p, 12, none⟩ u12 = W2 ∧ W2.heap[p]? = some (.cells #[u0, u1, u2, u3, u4, u5, u6, u7, u8, u9, u10, u11, u12] T (0, 0)) ∧ Only p U W2 := by
  have h0 : (U.setCell ⟨p, 0, none⟩ u0).heap[p]? = some (.cells #[u0, v1, v2, v3, v4, v5, v6, v7, v8, v9, v10, v11, v12] T (0, 0)) := held_set h 0 u0
  have o0 : Only p U (U.setCell ⟨p, 0, none⟩ u0) := Only.set p 0 u0 U
  obtain ⟨W0, hW0⟩ : ∃ W, (U.setCell ⟨p, 0, none⟩ u0) = W := ⟨_, rfl⟩
  rw [hW0] at h0 o0 ⊢
  have h1 : (W0.setCell ⟨p, 1, none⟩ u1).heap[p]? = some (.cells #[u0, u1, v2, v3, v4, v5, v6, v7, v8, v9, v10, v11, v12] T (0, 0)) := held_set h0 1 u1
  have o1 : Only p U (W0.setCell ⟨p, 1, none⟩ u1) := putS o0 1 u1
  obtain ⟨W1, hW1⟩ : ∃ W, (W0.setCell ⟨p, 1, none⟩ u1) = W := ⟨_, rfl⟩
  rw [hW1] at h1 o1 ⊢
  have h2 : (W1.setCell ⟨p, 2, none⟩ u2).heap[p]? = some (.cells #[u0, u1, u2, v3, v4, v5, v6, v7, v8, v9, v10, v11, v12] T (0, 0)) := held_set h1 2 u2
  have o2 : Only p U (W1.setCell ⟨p, 2, none⟩ u2) := putS o1 2 u2
  obtain ⟨W2, hW2⟩ : ∃ W, (W1.setCell ⟨p, 2, none⟩ u2) = W := ⟨_, rfl⟩
  rw [hW2] at h2 o2 ⊢
  have h3 : (W2.setCell ⟨p, 3, none⟩ u3).heap[p]? = some (.cells #[u0, u1, u2, u3, v4, v5, v6, v7, v8, v9, v10, v11, v12] T (0, 0)) := held_set h2 3 u3
  have o3 : Only p U (W2.setCell ⟨p, 3, none⟩ u3) := putS o2 3 u3
  obtain ⟨W3, hW3⟩ : ∃ W, (W2.setCell ⟨p, 3, none⟩ u3) = W := ⟨_, rfl⟩
  rw [hW3] at h3 o3 ⊢
  have h4 : (W3.setCell ⟨p, 4, none⟩ u4).heap[p]? = some (.cells #[u0, u1, u2, u3, u4, v5, v6, v7, v8, v9, v10, v11, v12] T (0, 0)) := held_set h3 4 u4
  have o4 : Only p U (W3.setCell ⟨p, 4, none⟩ u4) := putS o3 4 u4
  obtain ⟨W4, hW4⟩ : ∃ W, (W3.setCell ⟨p, 4, none⟩ u4) = W := ⟨_, rfl⟩
  rw [hW4] at h4 o4 ⊢
  have h5 : (W4.setCell ⟨p, 5, none⟩ u5).heap[p]? = some (.cells #[u0, u1, u2, u3, u4, u5, v6, v7, v8, v9, v10, v11, v12] T (0, 0)) := held_set h4 5 u5
  have o5 : Only p U (W4.setCell ⟨p, 5, none⟩ u5) := putS o4 5 u5
  obtain ⟨W5, hW5⟩ : ∃ W, (W4.setCell ⟨p, 5, none⟩ u5) = W := ⟨_, rfl⟩
  rw [hW5] at h5 o5 ⊢
  have h6 : (W5.setCell ⟨p, 6, none⟩ u6).heap[p]? = some (.cells #[u0, u1, u2, u3, u4, u5, u6, v7, v8, v9, v10, v11, v12] T (0, 0)) := held_set h5 6 u6
  have o6 : Only p U (W5.setCell ⟨p, 6, none⟩ u6) := putS o5 6 u6
  obtain ⟨W6, hW6⟩ : ∃ W, (W5.setCell ⟨p, 6, none⟩ u6) = W := ⟨_, rfl⟩
  rw [hW6] at h6 o6 ⊢
  have h7 : (W6.setCell ⟨p, 7, none⟩ u7).heap[p]? = some (.cells #[u0, u1, u2, u3, u4, u5, u6, u7, v8, v9, v10, v11, v12] T (0, 0)) := held_set h6 7 u7
  have o7 : Only p U (W6.setCell ⟨p, 7, none⟩ u7) := putS o6 7 u7
  obtain ⟨W7, hW7⟩ : ∃ W, (W6.setCell ⟨p, 7, none⟩ u7) = W := ⟨_, rfl⟩
  rw [hW7] at h7 o7 ⊢
  have h8 : (W7.setCell ⟨p, 8, none⟩ u8).heap[p]? = some (.cells #[u0, u1, u2, u3, u4, u5, u6, u7, u8, v9, v10, v11, v12] T (0, 0)) := held_set h7 8 u8
  have o8 : Only p U (W7.setCell ⟨p, 8, none⟩ u8) := putS o7 8 u8
  obtain ⟨W8, hW8⟩ : ∃ W, (W7.setCell ⟨p, 8, none⟩ u8) = W := ⟨_, rfl⟩
  rw [hW8] at h8 o8 ⊢
  have h9 : (W8.setCell ⟨p, 9, none⟩ u9).heap[p]? = some (.cells #[u0, u1, u2, u3, u4, u5, u6, u7, u8, u9, v10, v11, v12] T (0, 0)) := held_set h8 9 u9
  have o9 : Only p U (W8.setCell ⟨p, 9, none⟩ u9) := putS o8 9 u9
  obtain ⟨W9, hW9⟩ : ∃ W, (W8.setCell ⟨p, 9, none⟩ u9) = W := ⟨_, rfl⟩
  rw [hW9] at h9 o9 ⊢
  have h10 : (W9.setCell ⟨p, 10, none⟩ u10).heap[p]? = some (.cells #[u0, u1, u2, u3, u4, u5, u6, u7, u8, u9, u10, v11, v12] T (0, 0)) := held_set h9 10 u10
  have o10 : Only p U (W9.setCell ⟨p, 10, none⟩ u10) := putS o9 10 u10
  obtain ⟨W10, hW10⟩ : ∃ W, (W9.setCell ⟨p, 10, none⟩ u10) = W := ⟨_, rfl⟩
  rw [hW10] at h10 o10 ⊢
  have h11 : (W10.setCell ⟨p, 11, none⟩ u11).heap[p]? = some (.cells #[u0, u1, u2, u3, u4, u5, u6, u7, u8, u9, u10, u11, v12] T (0, 0)) := held_set h10 11 u11
  have o11 : Only p U (W10.setCell ⟨p, 11, none⟩ u11) := putS o10 11 u11
  obtain ⟨W11, hW11⟩ : ∃ W, (W10.setCell ⟨p, 11, none⟩ u11) = W := ⟨_, rfl⟩
  rw [hW11] at h11 o11 ⊢
  have h12 : (W11.setCell ⟨p, 12, none⟩ u12).heap[p]? = some (.cells #[u0, u1, u2, u3, u4, u5, u6, u7, u8, u9, u10, u11, u12] T (0, 0)) := held_set h11 12 u12
  have o12 : Only p U (W11.setCell ⟨p, 12, none⟩ u12) := putS o11 12 u12
  obtain ⟨W12, hW12⟩ : ∃ W, (W11.setCell ⟨p, 12, none⟩ u12) = W := ⟨_, rfl⟩
  rw [hW12] at h12 o12 ⊢
  exact ⟨_, rfl, h12, o12⟩
/-- A record. -/
def recC (t : Int) (v : List Int) : Array Value := (Value.int .u32 t :: v.map (Value.int .i32)).toArray
theorem recC_set (t : Int) (v : List Int) (k : Nat) (x : Int) : (recC t v).setIfInBounds (1 + k) (.int .i32 x) = recC t (v.set k x) := by
  unfold recC
  rw [Nat.add_comm 1 k]
  simp
theorem recC_at (t : Int) (v : List Int) (k : Nat) (hk : k < v.length) : (recC t v)[1 + k]? = some (.int .i32 (v.getD k 0)) := by
  unfold recC
  rw [Nat.add_comm 1 k]
  simp [hk]
def gz (v : List Int) (j : Nat) : Int := v.getD j 0
def recA (t : Int) (v : List Int) : Value := .agg #[.int .u32 t, .int .i32 (gz v 0), .int .i32 (gz v 1), .int .i32 (gz v 2), .int .i32 (gz v 3), .int .i32 (gz v 4), .int .i32 (gz v 5), .int .i32 (gz v 6), .int .i32 (gz v 7), .int .i32 (gz v 8), .int .i32 (gz v 9), .int .i32 (gz v 10), .int .i32 (gz v 11)]
def zer12 : List Int := List.replicate 12 0
/-- The record that some bytes begin with, whole. -/
def fieldK (bs : List Int) (i : Nat) : Int := sgn 4 (numB ((bs.drop (4 + 4 * i)).take 4) 4)
def takK (bs : List Int) : (Int × List Int) × Int × Int :=
  if bs.length < 52 then ((0, zer12), 0, 2) else ((((numB (bs.take 4) 4 : Nat) : Int), (List.range 12).map (fieldK bs)), 52, 0)
theorem fieldK_at (bs : List Int) (k : Nat) (hk : k < 12) : ((List.range 12).map (fieldK bs))[k]? = some (fieldK bs k) := by simp [hk]
theorem cut52 (bs : List Int) (n : Nat) (h : n + 4 ≤ 52) : ((bs.take 52).drop n).take 4 = (bs.drop n).take 4 := by
  rw [List.drop_take, List.take_take]
  congr 1
  omega
theorem set_same {v S : List Int} {k : Nat} {x : Int} (hl : v.length = 12) (h : ∀ j, j < k → v[j]? = S[j]?) (hk : k < 12) (hx : S[k]? = some x) : (v.set k x).length = 12 ∧ ∀ j, j < k + 1 → (v.set k x)[j]? = S[j]? := by
  refine ⟨by rw [List.length_set, hl], fun j hj => ?_⟩
  rw [List.getElem?_set]
  by_cases e : k = j
  · subst e
    rw [if_pos rfl, if_pos (by omega), hx]
  · rw [if_neg e]
    exact h j (by omega)
theorem all_same {v S : List Int} (hl : v.length = 12) (hs : S.length = 12) (h : ∀ j, j < 12 → v[j]? = S[j]?) : v = S := by
  refine List.ext_getElem? fun j => ?_
  by_cases c : j < 12
  · exact h j c
  · rw [List.getElem?_eq_none (by omega), List.getElem?_eq_none (by omega)]
theorem numB4 (zs : List Int) (hb : ∀ x ∈ zs, (Lit.int .u8 x).wf = true) : numB zs 4 < 4294967296 := by
  have hg := fun i => getD_bd (bytes_bd hb) i
  have := numB_lt zs (fun i => by have := hg i; omega) 4
  omega
theorem sgn4 {u : Nat} (h : u < 4294967296) : -2147483648 ≤ sgn 4 u ∧ sgn 4 u ≤ 2147483647 := by
  unfold sgn
  split <;> omega
theorem Rdr.ltv {B : Nat} {w : World} {zs : List Int} (h : Rdr B w zs) : B < w.heap.size := by
  obtain ⟨a, cap, h1, h2⟩ := h
  exact held_lt h1
theorem Rdr.aftv {B : Nat} {w w2 : World} {zs : List Int} (h : Rdr B w zs) (hA : After w w2) : Rdr B w2 zs := by
  obtain ⟨a, cap, h1, h2⟩ := h
  exact ⟨a, cap, held_after hA h1, h2.below hA⟩
theorem ru4 (B B0 : Nat) (zs : List Int) (hn : 4 ≤ zs.length) (w : World) (hR : Rdr B w zs) (hz : ∀ x ∈ zs, (Lit.int .u8 x).wf = true) (hl : zs.length ≤ 1000000) (h1 : B0 ≤ B) :
    Calls Try.prog 46 #[.pointer (some ⟨B, 0, none⟩), .int .i64 4] w fun e w' => e = .returned (.int .u64 ((numB (zs.take 4) 4 : Nat) : Int)) ∧ Rdr B w' (zs.drop 4) ∧ Br B B0 w w' := by
  have ho : okU zs false 4 = true := by unfold okU; simp; omega
  refine (ru_st B B0 zs false 4 w (by unfold RSt; rw [if_neg (by simp)]; exact hR) hz hl h1).mono ?_
  rintro e w' ⟨rfl, hV, hB⟩
  rw [ho] at hV ⊢
  unfold RSt gotR at hV
  simp only [Bool.not_true, Bool.false_eq_true, if_false, if_true] at hV
  exact ⟨by simp, hV, hB⟩
theorem ri4 (B B0 : Nat) (zs : List Int) (hn : 4 ≤ zs.length) (w : World) (hR : Rdr B w zs) (hz : ∀ x ∈ zs, (Lit.int .u8 x).wf = true) (hl : zs.length ≤ 1000000) (h1 : B0 ≤ B) :
    Calls Try.prog 63 #[.pointer (some ⟨B, 0, none⟩), .int .i64 4] w fun e w' => e = .returned (.int .i64 (sgn 4 (numB (zs.take 4) 4))) ∧ Rdr B w' (zs.drop 4) ∧ Br B B0 w w' := by
  have ho : okU zs false 4 = true := by unfold okU; simp; omega
  refine (ri_st B B0 zs false 4 w (by unfold RSt; rw [if_neg (by simp)]; exact hR) hz hl h1).mono ?_
  rintro e w' ⟨rfl, hV, hB⟩
  rw [ho] at hV ⊢
  unfold RSt gotR at hV
  simp only [Bool.not_true, Bool.false_eq_true, if_false, if_true] at hV
  exact ⟨by simp, hV, hB⟩
theorem Rdr.only {B p : Nat} {w W : World} {zs : List Int} {t : Int} {v : List Int} (h : Rdr B w zs) (hp : w.heap[p]? = some (.cells (recC t v) 65 (0, 0))) (hne : B ≠ p) (ho : Only p w W) : Rdr B W zs := by
  obtain ⟨a, cap, h1, h2⟩ := h
  refine ⟨a, cap, (ho.block B hne).trans h1, h2.other hp (by
    intro i x hh
    unfold recC at hh
    rcases i with _ | i
    · simp at hh
    · simp at hh) (fun b hb => ho.block b hb)⟩
set_option maxRecDepth 100000 in
set_option maxHeartbeats 8000000 in
theorem takeKey_any (ba : Option Addr) (bl bc : Nat) (bs : List Int) (w : World) (hS : Sl .u8 w ba bl bc bs) (hz : ∀ x ∈ bs, (Lit.int .u8 x).wf = true) (hbl : bl ≤ 100000) : Calls Try.prog 57 #[.slice ba bl bc] w fun e w' => e = .returned (.tuple #[recA (takK bs).1.1 (takK bs).1.2, .int .i64 (takK bs).2.1, .int .i64 (takK bs).2.2]) ∧ After w w' := by
  obtain ⟨r, hr⟩ : ∃ r, takK bs = r := ⟨_, rfl⟩
  rw [hr]
  have hl0 := hid hS.1
  have hcc := hS.2.1
  have hcm : bc ≤ 9223372036854775807 := Nat.le_trans hS.2.2.1 (by decide)
  have hS0 := hid hS
  clear hS
  replace hz := hid hz
  go_enter Try.func57, Try.ntmps57
  go_upto_region 0 with (fail)
  apply wp_region_seg0 (w := w) (S := [.al 1000, .q [], .q []]) (E := [.al ((fun p => .pointer (some ⟨p, 0, none⟩)), _) 1000, .q0 _, .q0 _]) rfl (by kernel_rfl) rfl rfl
  intro th hge hne
  refine Seg.step _ rfl ⟨by rfl, fun U hU => ?_⟩ ?_
  · go_simp; exact vp_alloc rfl rfl rfl
  refine ⟨_, by (simp only [Ent.val]; go_simp <;> exact rfl), ?_⟩
  refine Seg.step _ rfl (Or.inl ⟨by rfl, fun U hU => vp_quiet (by (go_simp <;> exact rfl))⟩) ⟨_, by (simp only [Ent.val]; go_simp <;> exact rfl), ?_⟩
  refine Seg.step _ rfl (Or.inl ⟨by rfl, fun U hU => vp_quiet (by (go_simp <;> exact rfl))⟩) ⟨_, by (simp only [Ent.val]; go_simp <;> exact rfl), ?_⟩
  refine Seg.stop (fun U1 hU hk => ?_)
  have nb0 := hge 0 _ _ rfl
  have rb0 := (hk 0 _ _ rfl trivial).1.2 (by simp)
  clear hk hge hne
  generalize th (0 + 0) = p0_0 at *
  dsimp only at rb0
  have r_p0_0 := rb0
  clear rb0
  have n_p0_0 := nb0
  clear nb0
  have sz1 := hU.size
  have hB : Below w.heap.size w U1 := hU
  clear hU
  have n0 := n_p0_0
  have hBs := hB.size
  replace hB := hid hB
  replace r_p0_0 := hid r_p0_0
  by_cases c : (bl : Int) < 52
  case pos =>
    have e := hid (show r = ((0, zer12), 0, 2) by rw [← hr]; unfold takK; rw [if_pos (by have := hl0.out; omega)])
    clear hr
    have r0 := r_p0_0.out
    have y0 := held_cell r0 0 _ rfl
    have y1 := held_cell r0 1 _ rfl
    have y2 := held_cell r0 2 _ rfl
    have y3 := held_cell r0 3 _ rfl
    have y4 := held_cell r0 4 _ rfl
    have y5 := held_cell r0 5 _ rfl
    have y6 := held_cell r0 6 _ rfl
    have y7 := held_cell r0 7 _ rfl
    have y8 := held_cell r0 8 _ rfl
    have y9 := held_cell r0 9 _ rfl
    have y10 := held_cell r0 10 _ rfl
    have y11 := held_cell r0 11 _ rfl
    have y12 := held_cell r0 12 _ rfl
    have f0 := held_free r0 0
    have f1 := held_free r0 1
    have f2 := held_free r0 2
    have f3 := held_free r0 3
    have f4 := held_free r0 4
    have f5 := held_free r0 5
    have f6 := held_free r0 6
    have f7 := held_free r0 7
    have f8 := held_free r0 8
    have f9 := held_free r0 9
    have f10 := held_free r0 10
    have f11 := held_free r0 11
    have f12 := held_free r0 12
    obtain ⟨W4, hW4, ya, yO⟩ := st13 r0 (.int .u32 0) (.int .i32 0) (.int .i32 0) (.int .i32 0) (.int .i32 0) (.int .i32 0) (.int .i32 0) (.int .i32 0) (.int .i32 0) (.int .i32 0) (.int .i32 0) (.int .i32 0) (.int .i32 0)
    have ez0 := held_cell ya 0 _ rfl
    have ez1 := held_cell ya 1 _ rfl
    have ez2 := held_cell ya 2 _ rfl
    have ez3 := held_cell ya 3 _ rfl
    have ez4 := held_cell ya 4 _ rfl
    have ez5 := held_cell ya 5 _ rfl
    have ez6 := held_cell ya 6 _ rfl
    have ez7 := held_cell ya 7 _ rfl
    have ez8 := held_cell ya 8 _ rfl
    have ez9 := held_cell ya 9 _ rfl
    have ez10 := held_cell ya 10 _ rfl
    have ez11 := held_cell ya 11 _ rfl
    have ez12 := held_cell ya 12 _ rfl
    have hB4 := hid (belowS hB.out yO n0)
    clear ya yO
    go_wp2_with fail
    try rw [Exit.noGoto_ret]
    refine bodyPost_ret (v := .tuple #[.agg #[.int .u32 0, .int .i32 0, .int .i32 0, .int .i32 0, .int .i32 0, .int .i32 0, .int .i32 0, .int .i32 0, .int .i32 0, .int .i32 0, .int .i32 0, .int .i32 0, .int .i32 0], .int .i64 0, .int .i64 2]) (by simp [results, Try.results57, go_sem, ez0, ez1, ez2, ez3, ez4, ez5, ez6, ez7, ez8, ez9, ez10, ez11, ez12]) rfl ?_
    rw [e.out]
    exact ⟨rfl, hB4.out⟩
  have e := hid (show r = ((((numB (bs.take 4) 4 : Nat) : Int), (List.range 12).map (fieldK bs)), 52, 0) by rw [← hr]; unfold takK; rw [if_neg (by have := hl0.out; omega)])
  obtain ⟨SS, hSS⟩ : ∃ S, (List.range 12).map (fieldK bs) = S := ⟨_, rfl⟩
  rw [hSS] at e
  have hSl := hid (show SS.length = 12 by rw [← hSS]; simp)
  have hSat := hid (show ∀ k, k < 12 → SS[k]? = some (fieldK bs k) from fun k hk => by rw [← hSS]; exact fieldK_at bs k hk)
  clear hSS hr
  obtain ⟨b, off, rfl⟩ : ∃ b off, ba = some ⟨b, off, none⟩ := by obtain ⟨b, off, e, _⟩ := hS0.out.2.2.2.2 0 (by have := hl0.out; omega); exact ⟨b, off, e⟩
  have hb8c : (52 : Int) ≤ bc := by omega
  have hb8l : (52 : Int) ≤ bl := by omega
  have hS52 := hid ((hS0.out.take 52 (by omega)).below hB.out)
  have hz52 := hid (fun x hx => hz.out x (List.mem_of_mem_take (i := 52) hx))
  have hl52 : (bs.take 52).length = 52 := by rw [List.length_take]; have := hl0.out; omega
  go_wp2_with fail
  refine (new_any (some ⟨b, off, none⟩) 52 bc (bs.take 52) _ (by omega) hS52.out).mono ?_
  rintro e V1 ⟨Q, rfl, hQn, hR, hA⟩
  have r1 := held_after hA r_p0_0.out
  have hB1 := bthen hB.out hA
  have hBw : w.heap.size ≤ Q := by omega
  have dQ : p0_0 ≠ Q := by have := held_lt r_p0_0.out; omega
  clear hA hB r_p0_0 hS52 hQn
  replace r1 := hid r1
  replace hR := hid hR
  replace hB1 := hid hB1
  replace hl52 := hid hl52
  go_wp2_with fail
  refine (ru4 Q w.heap.size (bs.take 52) (by have := hl52.out; omega) _ hR.out hz52.out (by have := hl52.out; omega) hBw).mono ?_
  rintro e V2 ⟨rfl, hR2, hBr⟩
  rw [List.take_take]
  have hr52 : (numB (bs.take (min 4 52)) 4 : Nat) = numB (bs.take 4) 4 := rfl
  rw [hr52]
  clear hr52
  have hT4 := numB4 (bs.take 4) (fun x hx => hz.out x (List.mem_of_mem_take hx))
  obtain ⟨T, hT⟩ : ∃ T : Int, ((numB (bs.take 4) 4 : Nat) : Int) = T := ⟨_, rfl⟩
  have hTb : 0 ≤ T ∧ T ≤ 4294967295 := by omega
  rw [hT]
  replace hT := hid hT
  clear hT4
  have r2 := hBr.2.held r1.out (fun e => dQ (Option.some.inj e))
  have hB2 := hid (hB1.out.trans hBr.1)
  have sV2 := hB2.out.size
  replace hR2 := hid hR2
  clear hBr hR hB1 r1
  have wt : IntKind.u32.wrap T = T := by rw [IntKind.wrap_u32]; omega
  have nA6 := alloc_new V2 (.cells (recC T zer12) 65)
  have q6 := nA6.2.2
  have hA6 := nA6.2.1
  obtain ⟨t6, ht6⟩ : ∃ q, V2.heap.size = q := ⟨_, rfl⟩
  rw [ht6] at q6
  have r4 := held_after hA6 r2
  have hB4 := hid (bthen hB2.out hA6)
  have n6 : w.heap.size ≤ t6 := by omega
  have d06 : p0_0 ≠ t6 := by have := held_lt r2; omega
  have hR4 := hid (hR2.out.aftv hA6)
  have dQ6 : Q ≠ t6 := by have := hR2.out.ltv; omega
  clear nA6 hA6 r2 hB2
  go_upto_region 5 with (fail)
  try rw [ht6]
  obtain ⟨W6, hW6e⟩ : ∃ W, V2.alloc (.cells (recC T zer12) 65) = W := ⟨_, rfl⟩
  rw [show V2.alloc (.cells #[.int .u32 T, .int .i32 0, .int .i32 0, .int .i32 0, .int .i32 0, .int .i32 0, .int .i32 0, .int .i32 0, .int .i32 0, .int .i32 0, .int .i32 0, .int .i32 0, .int .i32 0] 65) = W6 from hW6e]
  rw [hW6e] at q6 r4 hB4 hR4
  clear hW6e ht6 hR2
  go_wp2_with fail
  go_loopw [19] (fun ix wr => ∃ (k : Nat) (v : List Int), k ≤ 12 ∧ ix = .int .i64 k ∧ Hid (v.length = 12 ∧ ∀ j, j < k → v[j]? = SS[j]?) ∧ Rdr Q wr ((bs.take 52).drop (4 + 4 * k)) ∧ wr.heap[t6]? = some (.cells (recC T v) 65 (0, 0)) ∧ wr.heap[p0_0]? = some (.cells #[.int .u32 0, .int .i32 0, .int .i32 0, .int .i32 0, .int .i32 0, .int .i32 0, .int .i32 0, .int .i32 0, .int .i32 0, .int .i32 0, .int .i32 0, .int .i32 0, .int .i32 0] 65 (0, 0)) ∧ Below w.heap.size w wr) (fun ix _ => 12 - (intOf ix).toNat)
  case atStart => exact ⟨0, zer12, by omega, rfl, hid ⟨rfl, fun j hj => by omega⟩, hR4.out, q6, r4, hB4.out⟩
  case round =>
    clear q6 r4 hB4 hR4
    obtain ⟨k, v, hk, rfl, hl9, hR, r6, r0, hB⟩ := hrel
    have sB := hB.size
    by_cases hlt : (k : Int) < 12
    case neg =>
      obtain rfl : k = 12 := by omega
      have hvS := all_same hl9.out.1 hSl.out hl9.out.2
      have e9 := hid (show r = ((T, v), 52, 0) by rw [e.out, hT.out, hvS])
      clear hvS e
      obtain ⟨x0, x1, x2, x3, x4, x5, x6, x7, x8, x9, x10, x11, rfl⟩ := list12 hl9.out.1
      have r6l : wr.heap[t6]? = some (.cells #[.int .u32 T, .int .i32 x0, .int .i32 x1, .int .i32 x2, .int .i32 x3, .int .i32 x4, .int .i32 x5, .int .i32 x6, .int .i32 x7, .int .i32 x8, .int .i32 x9, .int .i32 x10, .int .i32 x11] 65 (0, 0)) := r6
      have m0 := held_cell r6l 0 _ rfl
      have m1 := held_cell r6l 1 _ rfl
      have m2 := held_cell r6l 2 _ rfl
      have m3 := held_cell r6l 3 _ rfl
      have m4 := held_cell r6l 4 _ rfl
      have m5 := held_cell r6l 5 _ rfl
      have m6 := held_cell r6l 6 _ rfl
      have m7 := held_cell r6l 7 _ rfl
      have m8 := held_cell r6l 8 _ rfl
      have m9 := held_cell r6l 9 _ rfl
      have m10 := held_cell r6l 10 _ rfl
      have m11 := held_cell r6l 11 _ rfl
      have m12 := held_cell r6l 12 _ rfl
      clear r6 hl9
      replace r6l := hid r6l
      have y0 := held_cell r0 0 _ rfl
      have y1 := held_cell r0 1 _ rfl
      have y2 := held_cell r0 2 _ rfl
      have y3 := held_cell r0 3 _ rfl
      have y4 := held_cell r0 4 _ rfl
      have y5 := held_cell r0 5 _ rfl
      have y6 := held_cell r0 6 _ rfl
      have y7 := held_cell r0 7 _ rfl
      have y8 := held_cell r0 8 _ rfl
      have y9 := held_cell r0 9 _ rfl
      have y10 := held_cell r0 10 _ rfl
      have y11 := held_cell r0 11 _ rfl
      have y12 := held_cell r0 12 _ rfl
      have f0 := held_free r0 0
      have f1 := held_free r0 1
      have f2 := held_free r0 2
      have f3 := held_free r0 3
      have f4 := held_free r0 4
      have f5 := held_free r0 5
      have f6 := held_free r0 6
      have f7 := held_free r0 7
      have f8 := held_free r0 8
      have f9 := held_free r0 9
      have f10 := held_free r0 10
      have f11 := held_free r0 11
      have f12 := held_free r0 12
      obtain ⟨W4, hW4, ya, yO⟩ := st13 r0 (.int .u32 T) (.int .i32 x0) (.int .i32 x1) (.int .i32 x2) (.int .i32 x3) (.int .i32 x4) (.int .i32 x5) (.int .i32 x6) (.int .i32 x7) (.int .i32 x8) (.int .i32 x9) (.int .i32 x10) (.int .i32 x11)
      have ez0 := held_cell ya 0 _ rfl
      have ez1 := held_cell ya 1 _ rfl
      have ez2 := held_cell ya 2 _ rfl
      have ez3 := held_cell ya 3 _ rfl
      have ez4 := held_cell ya 4 _ rfl
      have ez5 := held_cell ya 5 _ rfl
      have ez6 := held_cell ya 6 _ rfl
      have ez7 := held_cell ya 7 _ rfl
      have ez8 := held_cell ya 8 _ rfl
      have ez9 := held_cell ya 9 _ rfl
      have ez10 := held_cell ya 10 _ rfl
      have ez11 := held_cell ya 11 _ rfl
      have ez12 := held_cell ya 12 _ rfl
      have hB4 := hid (belowS hB yO n0)
      clear ya yO
      go_wp2_with fail
      try rw [Exit.noGoto_ret]
      refine bodyPost_ret (v := .tuple #[.agg #[.int .u32 T, .int .i32 x0, .int .i32 x1, .int .i32 x2, .int .i32 x3, .int .i32 x4, .int .i32 x5, .int .i32 x6, .int .i32 x7, .int .i32 x8, .int .i32 x9, .int .i32 x10, .int .i32 x11], .int .i64 52, .int .i64 0]) (by simp [results, Try.results57, go_sem, ez0, ez1, ez2, ez3, ez4, ez5, ez6, ez7, ez8, ez9, ez10, ez11, ez12]) rfl ?_
      rw [e9.out]
      exact ⟨rfl, hB4.out⟩
    have hk2 : k < 12 := by omega
    have hlz : ((bs.take 52).drop (4 + 4 * k)).length = 48 - 4 * k := by rw [List.length_drop, hl52.out]; omega
    replace hlz := hid hlz
    have hfk : sgn 4 (numB (((bs.take 52).drop (4 + 4 * k)).take 4) 4) = fieldK bs k := by rw [cut52 _ _ (by omega)]; rfl
    have hxb := sgn4 (numB4 ((bs.drop (4 + 4 * k)).take 4) (fun x hx => hz.out x (List.mem_of_mem_drop (List.mem_of_mem_take hx))))
    change -2147483648 ≤ fieldK bs k ∧ fieldK bs k ≤ 2147483647 at hxb
    have hSx := hid (hSat.out k hk2)
    obtain ⟨x, hx⟩ : ∃ x, fieldK bs k = x := ⟨_, rfl⟩
    rw [hx] at hfk hxb hSx
    replace hfk := hid hfk
    clear hx
    have hl8 := hid (set_same (S := SS) (v := v) (k := k) (x := x) hl9.out.1 hl9.out.2 hk2 hSx.out)
    have wx : IntKind.i32.wrap x = x := by rw [IntKind.wrap_i32]; omega
    have kz : (0 : Int) ≤ k := by omega
    have wk : IntKind.i64.wrap ((k : Int) + 1) = (k : Int) + 1 := by rw [IntKind.wrap_i64]; omega
    have hk1 := hid (show k + 1 ≤ 12 by omega)
    replace hR := hid hR
    replace hB := hid hB
    replace r6 := hid r6
    replace r0 := hid r0
    clear hk hSx
    go_wp2_with fail
    refine (ri4 Q w.heap.size ((bs.take 52).drop (4 + 4 * k)) (by have := hlz.out; omega) _ hR.out (fun x hx => hz52.out x (List.mem_of_mem_drop hx)) (by have := hlz.out; omega) hBw).mono ?_
    rintro e5 V5 ⟨rfl, hR5, hBr⟩
    rw [hfk.out]
    have r65 := hBr.2.held r6.out (fun e => dQ6 (Option.some.inj e).symm)
    have r05 := hBr.2.held r0.out (fun e => dQ (Option.some.inj e))
    have hB5 := hB.out.trans hBr.1
    rw [List.drop_drop, show 4 + 4 * k + 4 = 4 + 4 * (k + 1) from by omega] at hR5
    clear hBr hR r6 r0 hB hfk hlz
    have cx : V5.cell? ⟨t6, 1 + k, none⟩ = some (.int .i32 (v.getD k 0)) := by rw [cell_of_row V5 t6 (1 + k) _ 65 (0, 0) r65]; exact recC_at T v k (by have := hl9.out.1; omega)
    have fx := held_free r65 (1 + k)
    obtain ⟨S1, hS1, s1, o1⟩ := st1 r65 (1 + k) (.int .i32 x)
    rw [recC_set] at s1
    have z0 := hid ((o1.block p0_0 d06).trans r05)
    have hBf := hid (belowS hB5 o1 n6)
    have hR6 := hid (hR5.only r65 dQ6 o1)
    clear hR5 r65 r05 hB5
    replace s1 := hid s1
    clear o1 hl9
    go_wp2_with fail
    go_roundw
    case rel => exact ⟨k + 1, v.set k x, hk1.out, by simp, hl8, hR6.out, s1.out, z0.out, hBf.out⟩
    case measure => simp [intOf]; omega
set_option maxRecDepth 100000 in
set_option maxHeartbeats 8000000 in
theorem rtakeKey_any (ba : Option Addr) (bl bc : Nat) (bs : List Int) (w : World) (hS : Sl .u8 w ba bl bc bs) (hz : ∀ x ∈ bs, (Lit.int .u8 x).wf = true) (hbl : bl ≤ 100000) : Calls Try.prog 32 #[.slice ba bl bc] w fun e w' => e = .returned (.tuple #[recA (takK bs).1.1 (takK bs).1.2, .int .i64 (takK bs).2.1, .int .i64 (takK bs).2.2]) ∧ After w w' := by
  obtain ⟨r, hr⟩ : ∃ r, takK bs = r := ⟨_, rfl⟩
  rw [hr]
  have hl0 := hid hS.1
  have hcc := hS.2.1
  have hcm : bc ≤ 9223372036854775807 := Nat.le_trans hS.2.2.1 (by decide)
  have hS0 := hid hS
  clear hS
  replace hz := hid hz
  go_enter Try.func32, Try.ntmps32
  go_upto_region 0 with (fail)
  apply wp_region_seg0 (w := w) (S := [.al 1000, .q [], .q []]) (E := [.al ((fun p => .pointer (some ⟨p, 0, none⟩)), _) 1000, .q0 _, .q0 _]) rfl (by kernel_rfl) rfl rfl
  intro th hge hne
  refine Seg.step _ rfl ⟨by rfl, fun U hU => ?_⟩ ?_
  · go_simp; exact vp_alloc rfl rfl rfl
  refine ⟨_, by (simp only [Ent.val]; go_simp <;> exact rfl), ?_⟩
  refine Seg.step _ rfl (Or.inl ⟨by rfl, fun U hU => vp_quiet (by (go_simp <;> exact rfl))⟩) ⟨_, by (simp only [Ent.val]; go_simp <;> exact rfl), ?_⟩
  refine Seg.step _ rfl (Or.inl ⟨by rfl, fun U hU => vp_quiet (by (go_simp <;> exact rfl))⟩) ⟨_, by (simp only [Ent.val]; go_simp <;> exact rfl), ?_⟩
  refine Seg.stop (fun U1 hU hk => ?_)
  have nb0 := hge 0 _ _ rfl
  have rb0 := (hk 0 _ _ rfl trivial).1.2 (by simp)
  clear hk hge hne
  generalize th (0 + 0) = p0_0 at *
  dsimp only at rb0
  have r_p0_0 := rb0
  clear rb0
  have n_p0_0 := nb0
  clear nb0
  have sz1 := hU.size
  have hB : Below w.heap.size w U1 := hU
  clear hU
  have n0 := n_p0_0
  have hBs := hB.size
  replace hB := hid hB
  replace r_p0_0 := hid r_p0_0
  by_cases c : (bl : Int) < 52
  case pos =>
    have e := hid (show r = ((0, zer12), 0, 2) by rw [← hr]; unfold takK; rw [if_pos (by have := hl0.out; omega)])
    clear hr
    have r0 := r_p0_0.out
    have y0 := held_cell r0 0 _ rfl
    have y1 := held_cell r0 1 _ rfl
    have y2 := held_cell r0 2 _ rfl
    have y3 := held_cell r0 3 _ rfl
    have y4 := held_cell r0 4 _ rfl
    have y5 := held_cell r0 5 _ rfl
    have y6 := held_cell r0 6 _ rfl
    have y7 := held_cell r0 7 _ rfl
    have y8 := held_cell r0 8 _ rfl
    have y9 := held_cell r0 9 _ rfl
    have y10 := held_cell r0 10 _ rfl
    have y11 := held_cell r0 11 _ rfl
    have y12 := held_cell r0 12 _ rfl
    have f0 := held_free r0 0
    have f1 := held_free r0 1
    have f2 := held_free r0 2
    have f3 := held_free r0 3
    have f4 := held_free r0 4
    have f5 := held_free r0 5
    have f6 := held_free r0 6
    have f7 := held_free r0 7
    have f8 := held_free r0 8
    have f9 := held_free r0 9
    have f10 := held_free r0 10
    have f11 := held_free r0 11
    have f12 := held_free r0 12
    obtain ⟨W4, hW4, ya, yO⟩ := st13 r0 (.int .u32 0) (.int .i32 0) (.int .i32 0) (.int .i32 0) (.int .i32 0) (.int .i32 0) (.int .i32 0) (.int .i32 0) (.int .i32 0) (.int .i32 0) (.int .i32 0) (.int .i32 0) (.int .i32 0)
    have ez0 := held_cell ya 0 _ rfl
    have ez1 := held_cell ya 1 _ rfl
    have ez2 := held_cell ya 2 _ rfl
    have ez3 := held_cell ya 3 _ rfl
    have ez4 := held_cell ya 4 _ rfl
    have ez5 := held_cell ya 5 _ rfl
    have ez6 := held_cell ya 6 _ rfl
    have ez7 := held_cell ya 7 _ rfl
    have ez8 := held_cell ya 8 _ rfl
    have ez9 := held_cell ya 9 _ rfl
    have ez10 := held_cell ya 10 _ rfl
    have ez11 := held_cell ya 11 _ rfl
    have ez12 := held_cell ya 12 _ rfl
    have hB4 := hid (belowS hB.out yO n0)
    clear ya yO
    go_wp2_with fail
    try rw [Exit.noGoto_ret]
    refine bodyPost_ret (v := .tuple #[.agg #[.int .u32 0, .int .i32 0, .int .i32 0, .int .i32 0, .int .i32 0, .int .i32 0, .int .i32 0, .int .i32 0, .int .i32 0, .int .i32 0, .int .i32 0, .int .i32 0, .int .i32 0], .int .i64 0, .int .i64 2]) (by simp [results, Try.results32, go_sem, ez0, ez1, ez2, ez3, ez4, ez5, ez6, ez7, ez8, ez9, ez10, ez11, ez12]) rfl ?_
    rw [e.out]
    exact ⟨rfl, hB4.out⟩
  have e := hid (show r = ((((numB (bs.take 4) 4 : Nat) : Int), (List.range 12).map (fieldK bs)), 52, 0) by rw [← hr]; unfold takK; rw [if_neg (by have := hl0.out; omega)])
  obtain ⟨SS, hSS⟩ : ∃ S, (List.range 12).map (fieldK bs) = S := ⟨_, rfl⟩
  rw [hSS] at e
  have hSl := hid (show SS.length = 12 by rw [← hSS]; simp)
  have hSat := hid (show ∀ k, k < 12 → SS[k]? = some (fieldK bs k) from fun k hk => by rw [← hSS]; exact fieldK_at bs k hk)
  clear hSS hr
  obtain ⟨b, off, rfl⟩ : ∃ b off, ba = some ⟨b, off, none⟩ := by obtain ⟨b, off, e, _⟩ := hS0.out.2.2.2.2 0 (by have := hl0.out; omega); exact ⟨b, off, e⟩
  have hb8c : (4 : Int) ≤ bc := by omega
  have hb8l : (4 : Int) ≤ bl := by omega
  have hS4 := hid ((hS0.out.take 4 (by omega)).below hB.out)
  have hz4 := hid (fun x hx => hz.out x (List.mem_of_mem_take (i := 4) hx))
  have hl4 : (bs.take 4).length = 4 := by rw [List.length_take]; have := hl0.out; omega
  have hkr : numR (bs.take 4) = numB (bs.take 4) 4 := by rw [numR_all, hl4]
  have hT4 := numB4 (bs.take 4) hz4.out
  obtain ⟨T, hT⟩ : ∃ T : Int, ((numB (bs.take 4) 4 : Nat) : Int) = T := ⟨_, rfl⟩
  have hTb : 0 ≤ T ∧ T ≤ 4294967295 := by omega
  have kn := hid (fun W (h : Sl .u8 W (some ⟨b, off, none⟩) 4 bc (bs.take 4)) => rnumber_any (some ⟨b, off, none⟩) 4 bc (bs.take 4) W h (bytes_bd hz4.out) (by decide))
  rw [hkr, hT] at kn
  replace hT := hid hT
  clear hT4 hkr hl4
  have wt : IntKind.u32.wrap T = T := by rw [IntKind.wrap_u32]; omega
  have r1 := r_p0_0.out
  go_wp2_with fail
  refine (kn.out _ hS4.out).mono ?_
  rintro e5 V5 ⟨rfl, hv5⟩
  obtain rfl : U1 = V5 := hv5.symm
  clear hv5
  have nA6 := alloc_new U1 (.cells (recC T zer12) 65)
  have q6 := nA6.2.2
  have hA6 := nA6.2.1
  obtain ⟨t6, ht6⟩ : ∃ q, U1.heap.size = q := ⟨_, rfl⟩
  rw [ht6] at q6
  have r4 := held_after hA6 r1
  have hB4 := hid (bthen hB.out hA6)
  have n6 : w.heap.size ≤ t6 := by omega
  have d06 : p0_0 ≠ t6 := by have := held_lt r1; omega
  clear nA6 hA6 r1 hB kn hS4
  go_upto_region 4 with (fail)
  try rw [ht6]
  obtain ⟨W6, hW6e⟩ : ∃ W, U1.alloc (.cells (recC T zer12) 65) = W := ⟨_, rfl⟩
  rw [show U1.alloc (.cells #[.int .u32 T, .int .i32 0, .int .i32 0, .int .i32 0, .int .i32 0, .int .i32 0, .int .i32 0, .int .i32 0, .int .i32 0, .int .i32 0, .int .i32 0, .int .i32 0, .int .i32 0] 65) = W6 from hW6e]
  rw [hW6e] at q6 r4 hB4
  clear hW6e ht6
  go_wp2_with fail
  go_loopw [6] (fun ix wr => ∃ (k : Nat) (v : List Int), k ≤ 12 ∧ ix = .int .i64 k ∧ Hid (v.length = 12 ∧ ∀ j, j < k → v[j]? = SS[j]?) ∧ wr.heap[t6]? = some (.cells (recC T v) 65 (0, 0)) ∧ wr.heap[p0_0]? = some (.cells #[.int .u32 0, .int .i32 0, .int .i32 0, .int .i32 0, .int .i32 0, .int .i32 0, .int .i32 0, .int .i32 0, .int .i32 0, .int .i32 0, .int .i32 0, .int .i32 0, .int .i32 0] 65 (0, 0)) ∧ Below w.heap.size w wr) (fun ix _ => 12 - (intOf ix).toNat)
  case atStart => exact ⟨0, zer12, by omega, rfl, hid ⟨rfl, fun j hj => by omega⟩, q6, r4, hB4.out⟩
  case round =>
    clear q6 r4 hB4
    obtain ⟨k, v, hk, rfl, hl9, r6, r0, hB⟩ := hrel
    have sB := hB.size
    by_cases hlt : (k : Int) < 12
    case neg =>
      obtain rfl : k = 12 := by omega
      have hvS := all_same hl9.out.1 hSl.out hl9.out.2
      have e9 := hid (show r = ((T, v), 52, 0) by rw [e.out, hT.out, hvS])
      clear hvS e
      obtain ⟨x0, x1, x2, x3, x4, x5, x6, x7, x8, x9, x10, x11, rfl⟩ := list12 hl9.out.1
      have r6l : wr.heap[t6]? = some (.cells #[.int .u32 T, .int .i32 x0, .int .i32 x1, .int .i32 x2, .int .i32 x3, .int .i32 x4, .int .i32 x5, .int .i32 x6, .int .i32 x7, .int .i32 x8, .int .i32 x9, .int .i32 x10, .int .i32 x11] 65 (0, 0)) := r6
      have m0 := held_cell r6l 0 _ rfl
      have m1 := held_cell r6l 1 _ rfl
      have m2 := held_cell r6l 2 _ rfl
      have m3 := held_cell r6l 3 _ rfl
      have m4 := held_cell r6l 4 _ rfl
      have m5 := held_cell r6l 5 _ rfl
      have m6 := held_cell r6l 6 _ rfl
      have m7 := held_cell r6l 7 _ rfl
      have m8 := held_cell r6l 8 _ rfl
      have m9 := held_cell r6l 9 _ rfl
      have m10 := held_cell r6l 10 _ rfl
      have m11 := held_cell r6l 11 _ rfl
      have m12 := held_cell r6l 12 _ rfl
      clear r6 hl9
      replace r6l := hid r6l
      have y0 := held_cell r0 0 _ rfl
      have y1 := held_cell r0 1 _ rfl
      have y2 := held_cell r0 2 _ rfl
      have y3 := held_cell r0 3 _ rfl
      have y4 := held_cell r0 4 _ rfl
      have y5 := held_cell r0 5 _ rfl
      have y6 := held_cell r0 6 _ rfl
      have y7 := held_cell r0 7 _ rfl
      have y8 := held_cell r0 8 _ rfl
      have y9 := held_cell r0 9 _ rfl
      have y10 := held_cell r0 10 _ rfl
      have y11 := held_cell r0 11 _ rfl
      have y12 := held_cell r0 12 _ rfl
      have f0 := held_free r0 0
      have f1 := held_free r0 1
      have f2 := held_free r0 2
      have f3 := held_free r0 3
      have f4 := held_free r0 4
      have f5 := held_free r0 5
      have f6 := held_free r0 6
      have f7 := held_free r0 7
      have f8 := held_free r0 8
      have f9 := held_free r0 9
      have f10 := held_free r0 10
      have f11 := held_free r0 11
      have f12 := held_free r0 12
      obtain ⟨W4, hW4, ya, yO⟩ := st13 r0 (.int .u32 T) (.int .i32 x0) (.int .i32 x1) (.int .i32 x2) (.int .i32 x3) (.int .i32 x4) (.int .i32 x5) (.int .i32 x6) (.int .i32 x7) (.int .i32 x8) (.int .i32 x9) (.int .i32 x10) (.int .i32 x11)
      have ez0 := held_cell ya 0 _ rfl
      have ez1 := held_cell ya 1 _ rfl
      have ez2 := held_cell ya 2 _ rfl
      have ez3 := held_cell ya 3 _ rfl
      have ez4 := held_cell ya 4 _ rfl
      have ez5 := held_cell ya 5 _ rfl
      have ez6 := held_cell ya 6 _ rfl
      have ez7 := held_cell ya 7 _ rfl
      have ez8 := held_cell ya 8 _ rfl
      have ez9 := held_cell ya 9 _ rfl
      have ez10 := held_cell ya 10 _ rfl
      have ez11 := held_cell ya 11 _ rfl
      have ez12 := held_cell ya 12 _ rfl
      have hB4 := hid (belowS hB yO n0)
      clear ya yO
      go_wp2_with fail
      try rw [Exit.noGoto_ret]
      refine bodyPost_ret (v := .tuple #[.agg #[.int .u32 T, .int .i32 x0, .int .i32 x1, .int .i32 x2, .int .i32 x3, .int .i32 x4, .int .i32 x5, .int .i32 x6, .int .i32 x7, .int .i32 x8, .int .i32 x9, .int .i32 x10, .int .i32 x11], .int .i64 52, .int .i64 0]) (by simp [results, Try.results32, go_sem, ez0, ez1, ez2, ez3, ez4, ez5, ez6, ez7, ez8, ez9, ez10, ez11, ez12]) rfl ?_
      rw [e9.out]
      exact ⟨rfl, hB4.out⟩
    have hk2 : k < 12 := by omega
    obtain ⟨lo, hlo⟩ : ∃ lo : Nat, lo = 4 + 4 * k := ⟨_, rfl⟩
    obtain ⟨hi, hhi⟩ : ∃ hi : Nat, hi = 8 + 4 * k := ⟨_, rfl⟩
    have hSk : Sl .u8 wr (some ⟨b, off + lo, none⟩) 4 (bc - lo) ((bs.drop lo).take 4) := by have h := ((hS0.out.drop lo (by omega)).take 4 (by omega)).below hB; simpa [add_at] using h
    have hzk := fun x hx => hz.out x (List.mem_of_mem_drop (List.mem_of_mem_take (i := 4) (l := bs.drop lo) hx))
    have hlk : ((bs.drop lo).take 4).length = 4 := by rw [List.length_take, List.length_drop, hl0.out]; omega
    have hnk := numB4 ((bs.drop lo).take 4) hzk
    have hkr : numR ((bs.drop lo).take 4) = numB ((bs.drop lo).take 4) 4 := by rw [numR_all, hlk]
    have hxb := sgn4 hnk
    have hfk : sgn 4 (numB ((bs.drop lo).take 4) 4) = fieldK bs k := by rw [hlo]; rfl
    rw [hfk] at hxb
    have hSx := hid (hSat.out k hk2)
    have kn := hid (rnumber_any (some ⟨b, off + lo, none⟩) 4 (bc - lo) ((bs.drop lo).take 4) wr hSk (bytes_bd hzk) (by decide))
    rw [hkr] at kn
    obtain ⟨u, hu⟩ : ∃ u, numB ((bs.drop lo).take 4) 4 = u := ⟨_, rfl⟩
    rw [hu] at kn hnk hfk
    have ks := hid (fun W => rsigned_any 4 (by decide) (by decide) u hnk W)
    rw [hfk] at ks
    obtain ⟨x, hx⟩ : ∃ x, fieldK bs k = x := ⟨_, rfl⟩
    rw [hx] at hxb hSx ks
    clear hx hfk hu hkr hlk hSk hzk
    have hl8 := hid (set_same (S := SS) (v := v) (k := k) (x := x) hl9.out.1 hl9.out.2 hk2 hSx.out)
    have wa1 : IntKind.i64.wrap (4 * (k : Int)) = 4 * (k : Int) := by rw [IntKind.wrap_i64]; omega
    have wa2 : IntKind.i64.wrap (4 + 4 * (k : Int)) = (lo : Int) := by rw [IntKind.wrap_i64]; omega
    have wa3 : IntKind.i64.wrap (8 + 4 * (k : Int)) = (hi : Int) := by rw [IntKind.wrap_i64]; omega
    have n1 : (lo : Int) ≤ (hi : Int) := by omega
    have n2 : (hi : Int) ≤ bc := by omega
    have n3 : ¬ bc = lo := by omega
    have n4 : hi - lo = 4 := by omega
    have wx : IntKind.i32.wrap x = x := by rw [IntKind.wrap_i32]; omega
    have kz : (0 : Int) ≤ k := by omega
    have wk : IntKind.i64.wrap ((k : Int) + 1) = (k : Int) + 1 := by rw [IntKind.wrap_i64]; omega
    have hk1 := hid (show k + 1 ≤ 12 by omega)
    clear hlo hhi hk hSx
    replace hB := hid hB
    have r65 := r6
    have r05 := r0
    replace r6 := hid r6
    replace r0 := hid r0
    go_wp2_with fail
    refine kn.out.mono ?_
    rintro e5 V5 ⟨rfl, hv5⟩
    obtain rfl : wr = V5 := hv5.symm
    clear hv5
    go_wp2_with fail
    refine (ks.out _).mono ?_
    rintro e5 V5 ⟨rfl, hv5⟩
    obtain rfl : wr = V5 := hv5.symm
    clear hv5 kn ks
    have cx : wr.cell? ⟨t6, 1 + k, none⟩ = some (.int .i32 (v.getD k 0)) := by rw [cell_of_row wr t6 (1 + k) _ 65 (0, 0) r65]; exact recC_at T v k (by have := hl9.out.1; omega)
    have fx := held_free r65 (1 + k)
    obtain ⟨S1, hS1, s1, o1⟩ := st1 r65 (1 + k) (.int .i32 x)
    rw [recC_set] at s1
    have z0 := hid ((o1.block p0_0 d06).trans r05)
    have hBf := hid (belowS hB.out o1 n6)
    clear r65 r05 r6 r0 hB
    replace s1 := hid s1
    clear o1 hl9
    go_wp2_with fail
    go_roundw
    case rel => exact ⟨k + 1, v.set k x, hk1.out, by simp, hl8, s1.out, z0.out, hBf.out⟩
    case measure => simp [intOf]; omega

end Go.Proofs.Ytlfbhfmchdbnoaa

/- Package rec: what changed. -/
namespace Go.Proofs.Ytlfbhfmchdbnoaa
open Go.ChangeShapes Go.WideShapes Go.ChangeAt Go.RowKit
set_option linter.unusedVariables false
set_option linter.unusedSimpArgs false

/-- What changed: the first k places that are others, and by how much. -/
def chgF (a b : List Int) : Nat → List (Int × Int)
  | 0 => []
  | k + 1 => chgF a b k ++ if b.getD k 0 = a.getD k 0 then [] else [((k : Int), b.getD k 0 - a.getD k 0)]
def mskF (a b : List Int) : Nat → Nat
  | 0 => 0
  | k + 1 => mskF a b k + if b.getD k 0 = a.getD k 0 then 0 else 2 ^ k
theorem chgF_eq {a b : List Int} {k : Nat} (h : b.getD k 0 = a.getD k 0) : chgF a b (k + 1) = chgF a b k := by
  show chgF a b k ++ _ = _
  rw [if_pos h, List.append_nil]
theorem chgF_ne {a b : List Int} {k : Nat} (h : b.getD k 0 ≠ a.getD k 0) : chgF a b (k + 1) = chgF a b k ++ [((k : Int), b.getD k 0 - a.getD k 0)] := by
  show chgF a b k ++ _ = _
  rw [if_neg h]
theorem chgF_same (a : List Int) : ∀ k, chgF a a k = []
  | 0 => rfl
  | k + 1 => by rw [chgF_eq rfl, chgF_same a k]
theorem chgF_pre (a b : List Int) : ∀ k n, k ≤ n → chgF a b k <+: chgF a b n
  | k, 0, h => by obtain rfl : k = 0 := by omega
                  exact List.prefix_refl _
  | k, n + 1, h => by
    by_cases e : k = n + 1
    · subst e; exact List.prefix_refl _
    · exact (chgF_pre a b k n (by omega)).trans ⟨_, rfl⟩
theorem chgF_len (a b : List Int) : ∀ k, (chgF a b k).length ≤ k
  | 0 => by simp [chgF]
  | k + 1 => by
    have := chgF_len a b k
    show (chgF a b k ++ _).length ≤ _
    rw [List.length_append]
    split <;> simp <;> omega
theorem chgF_bd {a b : List Int} (ha : ∀ j, -2147483648 ≤ a.getD j 0 ∧ a.getD j 0 ≤ 2147483647) (hb : ∀ j, -2147483648 ≤ b.getD j 0 ∧ b.getD j 0 ≤ 2147483647) : ∀ k, ∀ x ∈ chgF a b k, (0 ≤ x.1 ∧ x.1 < k) ∧ (-4294967296 ≤ x.2 ∧ x.2 ≤ 4294967296) ∧ x.2 ≠ 0
  | 0 => fun x hx => by cases hx
  | k + 1 => fun x hx => by
    have h1 := ha k
    have h2 := hb k
    rcases List.mem_append.1 hx with hx | hx
    · have := chgF_bd ha hb k x hx
      exact ⟨⟨this.1.1, by omega⟩, this.2⟩
    · split at hx
      · cases hx
      · rename_i hne
        obtain rfl := List.mem_singleton.1 hx
        exact ⟨⟨by dsimp only; omega, by dsimp only; omega⟩, by dsimp only; omega, by dsimp only; omega⟩
theorem mskF_lt (a b : List Int) : ∀ k, mskF a b k < 2 ^ k
  | 0 => by simp [mskF]
  | k + 1 => by
    have := mskF_lt a b k
    show mskF a b k + _ < _
    rw [Nat.pow_succ]
    split <;> omega
/-- Two blocks stay. -/
def Kp2 (p q : Nat) (A B : World) : Prop := A.heap.size ≤ B.heap.size ∧ B.heap[p]? = A.heap[p]? ∧ B.heap[q]? = A.heap[q]?
theorem kp2_t {p q : Nat} {A B C : World} (h : Kp2 p q A B) (k : Kp2 p q B C) : Kp2 p q A C := ⟨Nat.le_trans h.1 k.1, k.2.1.trans h.2.1, k.2.2.trans h.2.2⟩
theorem kp2_b {p q : Nat} (W : World) (l : Nat) (o' : Obj) (hp : p < l) (hq : q < l) : Kp2 p q W (W.putObj l o') := ⟨by simp, World.putObj_heap_other (by omega), World.putObj_heap_other (by omega)⟩
theorem get_bd {v : List Int} (h : ∀ x ∈ v, -2147483648 ≤ x ∧ x ≤ 2147483647) (j : Nat) : -2147483648 ≤ v.getD j 0 ∧ v.getD j 0 ≤ 2147483647 := by
  by_cases c : j < v.length
  · exact h _ (List.mem_of_getElem? (getD_at c))
  · rw [List.getD_eq_getElem?_getD, List.getElem?_eq_none (by omega)]; simp
set_option maxRecDepth 100000 in
set_option maxHeartbeats 2000000 in
theorem eq12 (a0 a1 a2 a3 a4 a5 a6 a7 a8 a9 a10 a11 b0 b1 b2 b3 b4 b5 b6 b7 b8 b9 b10 b11 : Int) (w : World) : (Op.equalIn 10000 63 (.agg #[.int .i32 a0, .int .i32 a1, .int .i32 a2, .int .i32 a3, .int .i32 a4, .int .i32 a5, .int .i32 a6, .int .i32 a7, .int .i32 a8, .int .i32 a9, .int .i32 a10, .int .i32 a11]) (.agg #[.int .i32 b0, .int .i32 b1, .int .i32 b2, .int .i32 b3, .int .i32 b4, .int .i32 b5, .int .i32 b6, .int .i32 b7, .int .i32 b8, .int .i32 b9, .int .i32 b10, .int .i32 b11])).run Try.prog w = .ok (decide ([a0, a1, a2, a3, a4, a5, a6, a7, a8, a9, a10, a11] = [b0, b1, b2, b3, b4, b5, b6, b7, b8, b9, b10, b11])) w := by
  have hi : ∃ i, Try.prog.info? 21 = some i := ⟨_, rfl⟩
  obtain ⟨i, hi⟩ := hi
  have hc : Try.prog.cellsOf 21 = 1 := by kernel_rfl
  rw [show (10000 : Nat) = 9999 + 1 from rfl, run_equalIn_array (i := i) w 9999 _ _ Try.underlying63 hi, hc, show List.range 12 = [0, 1, 2, 3, 4, 5, 6, 7, 8, 9, 10, 11] from rfl]
  have e : ∀ (x y : Int) (W : World), (Op.equalIn 9999 21 (.int .i32 x) (.int .i32 y)).run Try.prog W = .ok (x == y) W := fun x y W => run_equalIn_int W 9998 21 .i32 .i32 x y Try.underlying21
  simp [Op.eqItems, go_sem, e]
  by_cases h0 : a0 = b0
  case neg => simp [h0]
  rw [if_pos h0]
  by_cases h1 : a1 = b1
  case neg => simp [h1]
  rw [if_pos h1]
  by_cases h2 : a2 = b2
  case neg => simp [h2]
  rw [if_pos h2]
  by_cases h3 : a3 = b3
  case neg => simp [h3]
  rw [if_pos h3]
  by_cases h4 : a4 = b4
  case neg => simp [h4]
  rw [if_pos h4]
  by_cases h5 : a5 = b5
  case neg => simp [h5]
  rw [if_pos h5]
  by_cases h6 : a6 = b6
  case neg => simp [h6]
  rw [if_pos h6]
  by_cases h7 : a7 = b7
  case neg => simp [h7]
  rw [if_pos h7]
  by_cases h8 : a8 = b8
  case neg => simp [h8]
  rw [if_pos h8]
  by_cases h9 : a9 = b9
  case neg => simp [h9]
  rw [if_pos h9]
  by_cases h10 : a10 = b10
  case neg => simp [h10]
  rw [if_pos h10]
  by_cases h11 : a11 = b11
  case neg => simp [h11]
  rw [if_pos h11]
  simp [h0, h1, h2, h3, h4, h5, h6, h7, h8, h9, h10, h11]
end Go.Proofs.Ytlfbhfmchdbnoaa

/- Package rec: Delta. -/
namespace Go.Proofs.Ytlfbhfmchdbnoaa
open Go.ChangeShapes Go.WideShapes Go.ChangeAt Go.RowKit
set_option linter.unusedVariables false
set_option linter.unusedSimpArgs false

theorem row_lit (k : IntKind) (E : TypeId) (w : World) (zs : List Int) (c : Array Value) (n p : Nat) (hc : c = (zs.map (Value.int k)).toArray) (hn : zs.length = n) (hm : n ≤ maxLen) (hp : p = w.heap.size) : Sl k (w.alloc (.cells c E)) (some ⟨p, 0, none⟩) n n zs := by
  subst hc hn hp
  exact Row.sl (show Row k E (w.alloc (.cells (zs.map (Value.int k)).toArray E)) w.heap.size zs from (alloc_new w _).2.2) hm
/-- The places as a mask. -/
def mO (xs : List (Int × Int)) : Int := xs.foldl (fun m x => bits .or .u64 m (IntKind.u64.wrap (1 * 2 ^ x.1.toNat))) 0
theorem mO_snoc (xs : List (Int × Int)) (x : Int × Int) : mO (xs ++ [x]) = bits .or .u64 (mO xs) (IntKind.u64.wrap (1 * 2 ^ x.1.toNat)) := by
  unfold mO; rw [List.foldl_append]; rfl
theorem or_pow (m k : Nat) (hm : m < 2 ^ k) (hk : k < 12) : bits .or .u64 (m : Int) (IntKind.u64.wrap (1 * 2 ^ k)) = ((m + 2 ^ k : Nat) : Int) := by
  have h64 : (2 : Nat) ^ k < 2 ^ 64 := Nat.pow_lt_pow_right (by decide) (by omega)
  have hw : IntKind.u64.wrap (1 * 2 ^ k) = ((2 ^ k : Nat) : Int) := by
    rw [IntKind.wrap_u64]
    have e : (1 * 2 ^ k : Int) = ((2 ^ k : Nat) : Int) := by simp
    rw [e]
    generalize (2 : Nat) ^ k = q at *
    omega
  rw [hw]
  have h1 : (BitVec.ofInt 64 (m : Int)).toNat = m := by
    rw [BitVec.toNat_ofInt]
    have : m < 2 ^ 64 := Nat.lt_trans hm h64
    omega
  have h2 : (BitVec.ofInt 64 ((2 ^ k : Nat) : Int)).toNat = 2 ^ k := by
    rw [BitVec.toNat_ofInt]
    generalize (2 : Nat) ^ k = q at *
    omega
  have h3 : m ||| 2 ^ k = m + 2 ^ k := by
    have := Nat.two_pow_add_eq_or_of_lt hm 1
    rw [Nat.mul_one] at this
    rw [Nat.or_comm, ← this, Nat.add_comm]
  have h4 : 2 ^ k ≤ 2048 := by
    have := Nat.pow_le_pow_right (show 0 < 2 by decide) (show k ≤ 11 by omega)
    omega
  show IntKind.u64.wrap ((BitVec.ofInt 64 (m : Int) ||| BitVec.ofInt 64 ((2 ^ k : Nat) : Int)).toNat : Nat) = _
  rw [BitVec.toNat_or, h1, h2, h3, IntKind.wrap_u64]
  generalize (2 : Nat) ^ k = q at *
  omega
theorem mO_chg (a b : List Int) : ∀ k, k ≤ 12 → mO (chgF a b k) = (mskF a b k : Nat)
  | 0, _ => rfl
  | k + 1, h => by
    have ih := mO_chg a b k (by omega)
    by_cases e : b.getD k 0 = a.getD k 0
    · rw [chgF_eq e, ih]
      show _ = ((mskF a b k + _ : Nat) : Int)
      rw [if_pos e, Nat.add_zero]
    · rw [chgF_ne e, mO_snoc, ih]
      show _ = ((mskF a b k + _ : Nat) : Int)
      rw [if_neg e]
      exact or_pow _ k (mskF_lt a b k) (by omega)
theorem i64_wf {n : Int} (h1 : -9223372036854775808 ≤ n) (h2 : n ≤ 9223372036854775807) : (Lit.int .i64 n).wf = true := by
  have h3 : IntKind.i64.min = -9223372036854775808 := rfl
  have h4 : IntKind.i64.max = 9223372036854775807 := rfl
  simp [Lit.wf, h3, h4]; exact ⟨h1, h2⟩
theorem own_kp {k1 k2 : IntKind} {E1 E2 : TypeId} {W w' : World} {b1 b2 : Nat} {v1 v2 : Value} {z1 z2 : List Int} (h : Own k1 E1 W b1 v1 z1) (hO : Own k2 E2 W b2 v2 z2) (hG : W.grownBy w' v2.ownBlock) (hT : E1 ≠ E2) : Own k1 E1 w' b1 v1 z1 := by
  refine World.ownsRow.kept h hG ?_
  rcases h.2 with ⟨rfl, _⟩ | ⟨g, cap, cur, rfl, _, hgb, _⟩
  · exact .inl rfl
  · exact .inr fun e' => own_ne hO hgb hT (by simpa [Value.ownBlock] using e')
theorem dfr_grown {k : IntKind} {E : TypeId} {W w' : World} {base D : Nat} {v : Value} {zs : List Int} (hO : Own k E W base v zs) (hG : W.grownBy w' v.ownBlock) (hK : W.heap[D]? = some (.deferred (some []))) : w'.heap[D]? = some (.deferred (some [])) :=
  (hG.block D (held_lt hK) (fun e => by have h := own_cells hO e.symm hK; cases h)).trans hK
/-- A record's bytes, by what changed. -/
def lateV (t u : Int) : Nat := ((u - t) % 4294967296).toNat
def deltaV (t u : Int) (a b : List Int) : List Int := vpS (lateV t u) ++ vpS (mskF a b 12) ++ intsS ((chgF a b 12).map Prod.snd)
attribute [local go_sem] Oper.semAt_some
end Go.Proofs.Ytlfbhfmchdbnoaa
