/- Package rec: what changed. -/
import Derived.Test.YtkpncailoekjpaaRec2
import Derived.Laws.StructEq
import Derived.Deep.DeepCutAuto
namespace Go.Proofs.Ytkpncailoekjpaa
open Go.ChangeShapes Go.WideShapes Go.ChangeAt Go.RowKit
set_option linter.unusedVariables false
set_option linter.unusedSimpArgs false

/-- What changed: the first k places that are others, and by how much. -/
def chgF (a b : List Int) : Nat → List (Int × Int)
  | 0 => []
  | k + 1 => chgF a b k ++ if b.getD k 0 = a.getD k 0 then [] else [((k : Int), b.getD k 0 - a.getD k 0)]
def mskF (a b : List Int) : Nat → Nat
  | 0 => 0
  | k + 1 => mskF a b k + if b.getD k 0 = a.getD k 0 then 0 else 2 ^ k
theorem chgF_eq {a b : List Int} {k : Nat} (h : b.getD k 0 = a.getD k 0) : chgF a b (k + 1) = chgF a b k := by
  show chgF a b k ++ _ = _
  rw [if_pos h, List.append_nil]
theorem chgF_ne {a b : List Int} {k : Nat} (h : b.getD k 0 ≠ a.getD k 0) : chgF a b (k + 1) = chgF a b k ++ [((k : Int), b.getD k 0 - a.getD k 0)] := by
  show chgF a b k ++ _ = _
  rw [if_neg h]
theorem chgF_same (a : List Int) : ∀ k, chgF a a k = []
  | 0 => rfl
  | k + 1 => by rw [chgF_eq rfl, chgF_same a k]
theorem chgF_pre (a b : List Int) : ∀ k n, k ≤ n → chgF a b k <+: chgF a b n
  | k, 0, h => by obtain rfl : k = 0 := by omega
                  exact List.prefix_refl _
  | k, n + 1, h => by
    by_cases e : k = n + 1
    · subst e; exact List.prefix_refl _
    · exact (chgF_pre a b k n (by omega)).trans ⟨_, rfl⟩
theorem chgF_len (a b : List Int) : ∀ k, (chgF a b k).length ≤ k
  | 0 => by simp [chgF]
  | k + 1 => by
    have := chgF_len a b k
    show (chgF a b k ++ _).length ≤ _
    rw [List.length_append]
    split <;> simp <;> omega
theorem chgF_bd {a b : List Int} (ha : ∀ j, -2147483648 ≤ a.getD j 0 ∧ a.getD j 0 ≤ 2147483647) (hb : ∀ j, -2147483648 ≤ b.getD j 0 ∧ b.getD j 0 ≤ 2147483647) : ∀ k, ∀ x ∈ chgF a b k, (0 ≤ x.1 ∧ x.1 < k) ∧ (-4294967296 ≤ x.2 ∧ x.2 ≤ 4294967296) ∧ x.2 ≠ 0
  | 0 => fun x hx => by cases hx
  | k + 1 => fun x hx => by
    have h1 := ha k
    have h2 := hb k
    rcases List.mem_append.1 hx with hx | hx
    · have := chgF_bd ha hb k x hx
      exact ⟨⟨this.1.1, by omega⟩, this.2⟩
    · split at hx
      · cases hx
      · rename_i hne
        obtain rfl := List.mem_singleton.1 hx
        exact ⟨⟨by dsimp only; omega, by dsimp only; omega⟩, by dsimp only; omega, by dsimp only; omega⟩
theorem mskF_lt (a b : List Int) : ∀ k, mskF a b k < 2 ^ k
  | 0 => by simp [mskF]
  | k + 1 => by
    have := mskF_lt a b k
    show mskF a b k + _ < _
    rw [Nat.pow_succ]
    split <;> omega
/-- Two blocks stay. -/
def Kp2 (p q : Nat) (A B : World) : Prop := A.heap.size ≤ B.heap.size ∧ B.heap[p]? = A.heap[p]? ∧ B.heap[q]? = A.heap[q]?
theorem kp2_t {p q : Nat} {A B C : World} (h : Kp2 p q A B) (k : Kp2 p q B C) : Kp2 p q A C := ⟨Nat.le_trans h.1 k.1, k.2.1.trans h.2.1, k.2.2.trans h.2.2⟩
theorem kp2_b {p q : Nat} (W : World) (l : Nat) (o' : Obj) (hp : p < l) (hq : q < l) : Kp2 p q W (W.putObj l o') := ⟨by simp, World.putObj_heap_other (by omega), World.putObj_heap_other (by omega)⟩
theorem get_bd {v : List Int} (h : ∀ x ∈ v, -2147483648 ≤ x ∧ x ≤ 2147483647) (j : Nat) : -2147483648 ≤ v.getD j 0 ∧ v.getD j 0 ≤ 2147483647 := by
  by_cases c : j < v.length
  · exact h _ (List.mem_of_getElem? (getD_at c))
  · rw [List.getD_eq_getElem?_getD, List.getElem?_eq_none (by omega)]; simp
set_option maxRecDepth 100000 in
set_option maxHeartbeats 2000000 in
theorem eq12 (a0 a1 a2 a3 a4 a5 a6 a7 a8 a9 a10 a11 b0 b1 b2 b3 b4 b5 b6 b7 b8 b9 b10 b11 : Int) (w : World) : (Op.equalIn 10000 31 (.agg #[.int .i32 a0, .int .i32 a1, .int .i32 a2, .int .i32 a3, .int .i32 a4, .int .i32 a5, .int .i32 a6, .int .i32 a7, .int .i32 a8, .int .i32 a9, .int .i32 a10, .int .i32 a11]) (.agg #[.int .i32 b0, .int .i32 b1, .int .i32 b2, .int .i32 b3, .int .i32 b4, .int .i32 b5, .int .i32 b6, .int .i32 b7, .int .i32 b8, .int .i32 b9, .int .i32 b10, .int .i32 b11])).run Try.prog w = .ok (decide ([a0, a1, a2, a3, a4, a5, a6, a7, a8, a9, a10, a11] = [b0, b1, b2, b3, b4, b5, b6, b7, b8, b9, b10, b11])) w := by
  have hi : ∃ i, Try.prog.info? 21 = some i := ⟨_, rfl⟩
  obtain ⟨i, hi⟩ := hi
  have hc : Try.prog.cellsOf 21 = 1 := by kernel_rfl
  rw [show (10000 : Nat) = 9999 + 1 from rfl, run_equalIn_array (i := i) w 9999 _ _ Try.underlying31 hi, hc, show List.range 12 = [0, 1, 2, 3, 4, 5, 6, 7, 8, 9, 10, 11] from rfl]
  have e : ∀ (x y : Int) (W : World), (Op.equalIn 9999 21 (.int .i32 x) (.int .i32 y)).run Try.prog W = .ok (x == y) W := fun x y W => run_equalIn_int W 9998 21 .i32 .i32 x y Try.underlying21
  simp [Op.eqItems, go_sem, e]
  by_cases h0 : a0 = b0
  case neg => simp [h0]
  rw [if_pos h0]
  by_cases h1 : a1 = b1
  case neg => simp [h1]
  rw [if_pos h1]
  by_cases h2 : a2 = b2
  case neg => simp [h2]
  rw [if_pos h2]
  by_cases h3 : a3 = b3
  case neg => simp [h3]
  rw [if_pos h3]
  by_cases h4 : a4 = b4
  case neg => simp [h4]
  rw [if_pos h4]
  by_cases h5 : a5 = b5
  case neg => simp [h5]
  rw [if_pos h5]
  by_cases h6 : a6 = b6
  case neg => simp [h6]
  rw [if_pos h6]
  by_cases h7 : a7 = b7
  case neg => simp [h7]
  rw [if_pos h7]
  by_cases h8 : a8 = b8
  case neg => simp [h8]
  rw [if_pos h8]
  by_cases h9 : a9 = b9
  case neg => simp [h9]
  rw [if_pos h9]
  by_cases h10 : a10 = b10
  case neg => simp [h10]
  rw [if_pos h10]
  by_cases h11 : a11 = b11
  case neg => simp [h11]
  rw [if_pos h11]
  simp [h0, h1, h2, h3, h4, h5, h6, h7, h8, h9, h10, h11]
set_option maxRecDepth 100000 in
set_option maxHeartbeats 4000000 in
theorem changed_any (t u a0 a1 a2 a3 a4 a5 a6 a7 a8 a9 a10 a11 b0 b1 b2 b3 b4 b5 b6 b7 b8 b9 b10 b11 : Int) (w : World) : Calls Try.prog 50 #[.agg #[.int .u32 t, .int .i32 a0, .int .i32 a1, .int .i32 a2, .int .i32 a3, .int .i32 a4, .int .i32 a5, .int .i32 a6, .int .i32 a7, .int .i32 a8, .int .i32 a9, .int .i32 a10, .int .i32 a11], .agg #[.int .u32 u, .int .i32 b0, .int .i32 b1, .int .i32 b2, .int .i32 b3, .int .i32 b4, .int .i32 b5, .int .i32 b6, .int .i32 b7, .int .i32 b8, .int .i32 b9, .int .i32 b10, .int .i32 b11]] w fun e w' => ∃ p q, e = .returned (.func (.func 62) #[] #[.pointer (some ⟨p, 0, none⟩), .pointer (some ⟨q, 0, none⟩)]) ∧ w.heap.size ≤ p ∧ w.heap.size ≤ q ∧ w'.heap[p]? = some (.cells #[.int .u32 t, .int .i32 a0, .int .i32 a1, .int .i32 a2, .int .i32 a3, .int .i32 a4, .int .i32 a5, .int .i32 a6, .int .i32 a7, .int .i32 a8, .int .i32 a9, .int .i32 a10, .int .i32 a11] 33 (0, 0)) ∧ w'.heap[q]? = some (.cells #[.int .u32 u, .int .i32 b0, .int .i32 b1, .int .i32 b2, .int .i32 b3, .int .i32 b4, .int .i32 b5, .int .i32 b6, .int .i32 b7, .int .i32 b8, .int .i32 b9, .int .i32 b10, .int .i32 b11] 33 (0, 0)) ∧ After w w' := by
  have hmf : ∀ (fn : Fn) (first cap : Array Value) (w : World), (Instr.makeFunc fn first cap).run Try.prog w = .ok (.func fn first cap) w := fun _ _ _ _ => rfl
  go_enter Try.func50, Try.ntmps50
  go_upto_region 0 with (fail)
  apply wp_region_seg0 (w := w) (S := [.al 1000, .al 1000, .q []]) (E := [.al ((fun p => .pointer (some ⟨p, 0, none⟩)), _) 1000, .al ((fun p => .pointer (some ⟨p, 0, none⟩)), _) 1000, .q0 _]) rfl (by kernel_rfl) rfl rfl
  intro th hge hne
  refine Seg.step _ rfl ⟨by rfl, fun U hU => ?_⟩ ?_
  · go_simp; exact vp_alloc rfl rfl rfl
  refine ⟨_, by (simp only [Ent.val]; go_simp <;> exact rfl), ?_⟩
  refine Seg.step _ rfl ⟨by rfl, fun U hU => ?_⟩ ?_
  · go_simp; exact vp_alloc rfl rfl rfl
  refine ⟨_, by (simp only [Ent.val]; go_simp <;> exact rfl), ?_⟩
  refine Seg.step _ rfl (Or.inl ⟨by rfl, fun U hU => vp_quiet (by (go_simp <;> exact rfl))⟩) ⟨_, by (simp only [Ent.val]; go_simp <;> exact rfl), ?_⟩
  refine Seg.stop (fun U1 hU hk => ?_)
  have nb0 := hge 0 _ _ rfl
  have rb0 := (hk 0 _ _ rfl trivial).1.2 (by simp)
  have nb1 := hge 1 _ _ rfl
  have rb1 := (hk 1 _ _ rfl trivial).1.2 (by simp)
  have ne0_1 := hne 0 1 _ _ _ _ rfl rfl (by omega)
  clear hk hge hne
  generalize th (0 + 0) = p0_0 at *
  dsimp only at rb0
  generalize th (0 + 1) = p0_1 at *
  dsimp only at rb1
  have r_p0_0 := rb0
  clear rb0
  have n_p0_0 := nb0
  clear nb0
  have d_p0_0_p0_1 := ne0_1
  clear ne0_1
  have r_p0_1 := rb1
  clear rb1
  have n_p0_1 := nb1
  clear nb1
  have sz1 := hU.size
  have hB : Below w.heap.size w U1 := hU
  clear hU
  go_wp2_with fail
  go_ret
  exact ⟨_, _, rfl, n_p0_0, n_p0_1, r_p0_0, r_p0_1, hB⟩
attribute [local go_sem] Oper.semAt_some
set_option maxRecDepth 100000 in
set_option maxHeartbeats 8000000 in
theorem changed_tells (t u a0 a1 a2 a3 a4 a5 a6 a7 a8 a9 a10 a11 b0 b1 b2 b3 b4 b5 b6 b7 b8 b9 b10 b11 : Int) (p q : Nat) (w0 : World) (hp : w0.heap[p]? = some (.cells #[.int .u32 t, .int .i32 a0, .int .i32 a1, .int .i32 a2, .int .i32 a3, .int .i32 a4, .int .i32 a5, .int .i32 a6, .int .i32 a7, .int .i32 a8, .int .i32 a9, .int .i32 a10, .int .i32 a11] 33 (0, 0))) (hq : w0.heap[q]? = some (.cells #[.int .u32 u, .int .i32 b0, .int .i32 b1, .int .i32 b2, .int .i32 b3, .int .i32 b4, .int .i32 b5, .int .i32 b6, .int .i32 b7, .int .i32 b8, .int .i32 b9, .int .i32 b10, .int .i32 b11] 33 (0, 0))) (ha : ∀ x ∈ [a0, a1, a2, a3, a4, a5, a6, a7, a8, a9, a10, a11], -2147483648 ≤ x ∧ x ≤ 2147483647) (hb : ∀ x ∈ [b0, b1, b2, b3, b4, b5, b6, b7, b8, b9, b10, b11], -2147483648 ≤ x ∧ x ≤ 2147483647) :
    TellsE Try.prog 62 #[.pointer (some ⟨p, 0, none⟩), .pointer (some ⟨q, 0, none⟩)] (fun x : Int × Int => #[.int .i64 x.1, .int .i64 x.2]) (fun x _ => ∃ i : Nat, x.1 = (i : Int) ∧ i < 12) (Kp2 p q) (fun xs => xs = chgF ([a0, a1, a2, a3, a4, a5, a6, a7, a8, a9, a10, a11]) ([b0, b1, b2, b3, b4, b5, b6, b7, b8, b9, b10, b11]) 12) (fun pre => pre <+: chgF ([a0, a1, a2, a3, a4, a5, a6, a7, a8, a9, a10, a11]) ([b0, b1, b2, b3, b4, b5, b6, b7, b8, b9, b10, b11]) 12) (chgF ([a0, a1, a2, a3, a4, a5, a6, a7, a8, a9, a10, a11]) ([b0, b1, b2, b3, b4, b5, b6, b7, b8, b9, b10, b11]) 12).length w0 := by
  intro ly J Jx W hW hst hY h0
  have hp0 := held_after hW hp
  have hq0 := held_after hW hq
  refine callsIn_of_wp Try.func62 rfl trivial ?_ rfl
  simp only [Try.ntmps62, List.size_toArray, List.length_cons, List.length_nil, Nat.reduceAdd, Nat.reduceSub, Array.replicate_succ, Array.replicate_zero, List.push_toArray, List.append_toArray, List.nil_append, List.cons_append]
  clear hp hq hW
  replace hst := hid hst
  replace hY := hid hY
  replace ha := hid ha
  replace hb := hid hb
  have p1 := held_cell hp0 1 _ rfl
  have p2 := held_cell hp0 2 _ rfl
  have p3 := held_cell hp0 3 _ rfl
  have p4 := held_cell hp0 4 _ rfl
  have p5 := held_cell hp0 5 _ rfl
  have p6 := held_cell hp0 6 _ rfl
  have p7 := held_cell hp0 7 _ rfl
  have p8 := held_cell hp0 8 _ rfl
  have p9 := held_cell hp0 9 _ rfl
  have p10 := held_cell hp0 10 _ rfl
  have p11 := held_cell hp0 11 _ rfl
  have p12 := held_cell hp0 12 _ rfl
  have q1 := held_cell hq0 1 _ rfl
  have q2 := held_cell hq0 2 _ rfl
  have q3 := held_cell hq0 3 _ rfl
  have q4 := held_cell hq0 4 _ rfl
  have q5 := held_cell hq0 5 _ rfl
  have q6 := held_cell hq0 6 _ rfl
  have q7 := held_cell hq0 7 _ rfl
  have q8 := held_cell hq0 8 _ rfl
  have q9 := held_cell hq0 9 _ rfl
  have q10 := held_cell hq0 10 _ rfl
  have q11 := held_cell hq0 11 _ rfl
  have q12 := held_cell hq0 12 _ rfl
  by_cases hAB : ([a0, a1, a2, a3, a4, a5, a6, a7, a8, a9, a10, a11]) = ([b0, b1, b2, b3, b4, b5, b6, b7, b8, b9, b10, b11])
  case pos =>
    have heq := fun W => (eq12 a0 a1 a2 a3 a4 a5 a6 a7 a8 a9 a10 a11 b0 b1 b2 b3 b4 b5 b6 b7 b8 b9 b10 b11 W).trans (by rw [decide_eq_true hAB])
    have hfin := hid (show ([] : List (Int × Int)) = chgF ([a0, a1, a2, a3, a4, a5, a6, a7, a8, a9, a10, a11]) ([b0, b1, b2, b3, b4, b5, b6, b7, b8, b9, b10, b11]) 12 by rw [hAB]; exact (chgF_same _ 12).symm)
    clear hAB
    gi_wp2_with (refine BigFrame.wpListIn_want (by rfl) (fun K hK => wpIn_of_plain (by intro c e; cases e) ?_); go_simp; refine hK _ _ ?_; clear hK)
    refine bodyPost_ret (results_none rfl _ _ _) rfl ?_
    exact ⟨⟨_, rfl⟩, .inl (by rw [← hfin.out]; exact h0)⟩
  have heq := fun W => (eq12 a0 a1 a2 a3 a4 a5 a6 a7 a8 a9 a10 a11 b0 b1 b2 b3 b4 b5 b6 b7 b8 b9 b10 b11 W).trans (by rw [decide_eq_false hAB])
  clear hAB
  gi_wp2_with (refine BigFrame.wpListIn_want (by rfl) (fun K hK => wpIn_of_plain (by intro c e; cases e) ?_); go_simp; refine hK _ _ ?_; clear hK)
  gi_loopw [13] (fun ix wr => ∃ (k : Nat) (pre : List (Int × Int)), ix = .int .i64 k ∧ k ≤ 12 ∧ Hid (pre = chgF ([a0, a1, a2, a3, a4, a5, a6, a7, a8, a9, a10, a11]) ([b0, b1, b2, b3, b4, b5, b6, b7, b8, b9, b10, b11]) k) ∧ J pre wr ∧ wr.heap[p]? = some (.cells #[.int .u32 t, .int .i32 a0, .int .i32 a1, .int .i32 a2, .int .i32 a3, .int .i32 a4, .int .i32 a5, .int .i32 a6, .int .i32 a7, .int .i32 a8, .int .i32 a9, .int .i32 a10, .int .i32 a11] 33 (0, 0)) ∧ wr.heap[q]? = some (.cells #[.int .u32 u, .int .i32 b0, .int .i32 b1, .int .i32 b2, .int .i32 b3, .int .i32 b4, .int .i32 b5, .int .i32 b6, .int .i32 b7, .int .i32 b8, .int .i32 b9, .int .i32 b10, .int .i32 b11] 33 (0, 0))) (fun ix _ => 12 - (intOf ix).toNat)
  case atStart => exact ⟨0, [], rfl, by omega, hid rfl, h0, hp0, hq0⟩
  case round =>
    clear h0 hp0 hq0 heq p1 p2 p3 p4 p5 p6 p7 p8 p9 p10 p11 p12 q1 q2 q3 q4 q5 q6 q7 q8 q9 q10 q11 q12
    obtain ⟨k, pre, rfl, hk, hm, hJ, rp, rq⟩ := hrel
    by_cases hlt : (k : Int) < 12
    case neg =>
      obtain rfl : k = 12 := by omega
      gi_wp2
      go_end0
      exact ⟨⟨_, rfl⟩, .inl (by rw [← hm.out]; exact hJ)⟩
    have hk2 : k < 12 := by omega
    have ix := fun W => index12_any b0 b1 b2 b3 b4 b5 b6 b7 b8 b9 b10 b11 k W hk2
    have cx : wr.cell? ⟨p, 1 + k, none⟩ = some (.int .i32 ([a0, a1, a2, a3, a4, a5, a6, a7, a8, a9, a10, a11].getD k 0)) := by rw [cell_of_row wr p (1 + k) _ 33 (0, 0) rp]; exact cells12 _ a0 a1 a2 a3 a4 a5 a6 a7 a8 a9 a10 a11 k hk2
    have bx := get_bd hb.out k
    have bz := get_bd ha.out k
    have he := fun h => hm.out.trans (chgF_eq (a := [a0, a1, a2, a3, a4, a5, a6, a7, a8, a9, a10, a11]) (b := [b0, b1, b2, b3, b4, b5, b6, b7, b8, b9, b10, b11]) (k := k) h).symm
    have hn := fun h => chgF_ne (a := [a0, a1, a2, a3, a4, a5, a6, a7, a8, a9, a10, a11]) (b := [b0, b1, b2, b3, b4, b5, b6, b7, b8, b9, b10, b11]) (k := k) h
    rw [← hm.out] at hn
    have hpf := chgF_pre ([a0, a1, a2, a3, a4, a5, a6, a7, a8, a9, a10, a11]) ([b0, b1, b2, b3, b4, b5, b6, b7, b8, b9, b10, b11]) (k + 1) 12 (by omega)
    obtain ⟨x, hx⟩ : ∃ x, [b0, b1, b2, b3, b4, b5, b6, b7, b8, b9, b10, b11].getD k 0 = x := ⟨_, rfl⟩
    obtain ⟨y, hy⟩ : ∃ y, [a0, a1, a2, a3, a4, a5, a6, a7, a8, a9, a10, a11].getD k 0 = y := ⟨_, rfl⟩
    rw [hx] at bx he hn
    rw [hy] at cx bz he hn
    simp only [hx] at ix
    clear hx hy
    have wx : IntKind.i64.wrap x = x := by rw [IntKind.wrap_i64]; omega
    have wy : IntKind.i64.wrap y = y := by rw [IntKind.wrap_i64]; omega
    have wd : IntKind.i64.wrap (x - y) = x - y := by rw [IntKind.wrap_i64]; omega
    have kz : (0 : Int) ≤ k := by omega
    have wk : IntKind.i64.wrap ((k : Int) + 1) = (k : Int) + 1 := by rw [IntKind.wrap_i64]; omega
    have hk1 := hid (show k + 1 ≤ 12 by omega)
    clear hk hm
    by_cases hxy : x = y
    · have h9 := hid (he hxy)
      have hq1 : (x != y) = false := by simp [hxy]
      clear he hn hpf hxy
      gi_wp2_with (refine BigFrame.wpListIn_want (by rfl) (fun K hK => wpIn_of_plain (by intro c e; cases e) ?_); go_simp; refine hK _ _ ?_; clear hK)
      refine ⟨(fun f h => by cases h), ?_⟩
      gi_wp2_with (refine BigFrame.wpListIn_want (by rfl) (fun K hK => wpIn_of_plain (by intro c e; cases e) ?_); go_simp; refine hK _ _ ?_; clear hK)
      go_roundw
      case rel => exact ⟨k + 1, pre, by simp, hk1.out, h9, hJ, rp, rq⟩
      case measure => simp [intOf]; omega
    · have h9 := hid (hn hxy).symm
      have hq1 : (x != y) = true := by simp [hxy]
      rw [← h9.out] at hpf
      have hlen := hpf.length_le
      rw [List.length_append, List.length_singleton] at hlen
      obtain ⟨fn, tmps, assign, body, hy, hR⟩ := hY.out pre ((k : Int), x - y) wr hJ ⟨k, rfl, by omega⟩ (by omega)
      replace hpf := hid hpf
      clear he hn hxy hlen
      dsimp only at hy
      gi_wp2_with (refine BigFrame.wpListIn_want (by rfl) (fun K hK => wpIn_of_plain (by intro c e; cases e) ?_); go_simp; refine hK _ _ ?_; clear hK)
      refine hR.mono ?_
      rintro e W3 (⟨rfl, hJ3, hk3⟩ | ⟨rfl, hJx3⟩)
      · have rp3 := hk3.2.1.trans rp
        have rq3 := hk3.2.2.trans rq
        clear rp rq cx
        gi_wp2_with (refine BigFrame.wpListIn_want (by rfl) (fun K hK => wpIn_of_plain (by intro c e; cases e) ?_); go_simp; refine hK _ _ ?_; clear hK)
        go_roundw
        case rel => exact ⟨k + 1, _, by simp, hk1.out, h9, hJ3, rp3, rq3⟩
        case measure => simp [intOf]; omega
      · gi_wp2_with (refine BigFrame.wpListIn_want (by rfl) (fun K hK => wpIn_of_plain (by intro c e; cases e) ?_); go_simp; refine hK _ _ ?_; clear hK)
        refine bodyPost_ret (results_none rfl _ _ _) rfl ?_
        exact ⟨⟨_, rfl⟩, .inr ⟨_, hpf.out, hJx3⟩⟩

end Go.Proofs.Ytkpncailoekjpaa
