/- Package rec: Delta. -/
import Derived.Test.YtkpncailoekjpaaRec3
import Derived.Test.YtkpncailoekjpaaApp
import Derived.Test.YtkpncailoekjpaaVa2
import Derived.Deep.DeepCutAuto
namespace Go.Proofs.Ytkpncailoekjpaa
open Go.ChangeShapes Go.WideShapes Go.ChangeAt Go.RowKit
set_option linter.unusedVariables false
set_option linter.unusedSimpArgs false

theorem row_lit (k : IntKind) (E : TypeId) (w : World) (zs : List Int) (c : Array Value) (n p : Nat) (hc : c = (zs.map (Value.int k)).toArray) (hn : zs.length = n) (hm : n ≤ maxLen) (hp : p = w.heap.size) : Sl k (w.alloc (.cells c E)) (some ⟨p, 0, none⟩) n n zs := by
  subst hc hn hp
  exact Row.sl (show Row k E (w.alloc (.cells (zs.map (Value.int k)).toArray E)) w.heap.size zs from (alloc_new w _).2.2) hm
/-- The places as a mask. -/
def mO (xs : List (Int × Int)) : Int := xs.foldl (fun m x => bits .or .u64 m (IntKind.u64.wrap (1 * 2 ^ x.1.toNat))) 0
theorem mO_snoc (xs : List (Int × Int)) (x : Int × Int) : mO (xs ++ [x]) = bits .or .u64 (mO xs) (IntKind.u64.wrap (1 * 2 ^ x.1.toNat)) := by
  unfold mO; rw [List.foldl_append]; rfl
theorem or_pow (m k : Nat) (hm : m < 2 ^ k) (hk : k < 12) : bits .or .u64 (m : Int) (IntKind.u64.wrap (1 * 2 ^ k)) = ((m + 2 ^ k : Nat) : Int) := by
  have h64 : (2 : Nat) ^ k < 2 ^ 64 := Nat.pow_lt_pow_right (by decide) (by omega)
  have hw : IntKind.u64.wrap (1 * 2 ^ k) = ((2 ^ k : Nat) : Int) := by
    rw [IntKind.wrap_u64]
    have e : (1 * 2 ^ k : Int) = ((2 ^ k : Nat) : Int) := by simp
    rw [e]
    generalize (2 : Nat) ^ k = q at *
    omega
  rw [hw]
  have h1 : (BitVec.ofInt 64 (m : Int)).toNat = m := by
    rw [BitVec.toNat_ofInt]
    have : m < 2 ^ 64 := Nat.lt_trans hm h64
    omega
  have h2 : (BitVec.ofInt 64 ((2 ^ k : Nat) : Int)).toNat = 2 ^ k := by
    rw [BitVec.toNat_ofInt]
    generalize (2 : Nat) ^ k = q at *
    omega
  have h3 : m ||| 2 ^ k = m + 2 ^ k := by
    have := Nat.two_pow_add_eq_or_of_lt hm 1
    rw [Nat.mul_one] at this
    rw [Nat.or_comm, ← this, Nat.add_comm]
  have h4 : 2 ^ k ≤ 2048 := by
    have := Nat.pow_le_pow_right (show 0 < 2 by decide) (show k ≤ 11 by omega)
    omega
  show IntKind.u64.wrap ((BitVec.ofInt 64 (m : Int) ||| BitVec.ofInt 64 ((2 ^ k : Nat) : Int)).toNat : Nat) = _
  rw [BitVec.toNat_or, h1, h2, h3, IntKind.wrap_u64]
  generalize (2 : Nat) ^ k = q at *
  omega
theorem mO_chg (a b : List Int) : ∀ k, k ≤ 12 → mO (chgF a b k) = (mskF a b k : Nat)
  | 0, _ => rfl
  | k + 1, h => by
    have ih := mO_chg a b k (by omega)
    by_cases e : b.getD k 0 = a.getD k 0
    · rw [chgF_eq e, ih]
      show _ = ((mskF a b k + _ : Nat) : Int)
      rw [if_pos e, Nat.add_zero]
    · rw [chgF_ne e, mO_snoc, ih]
      show _ = ((mskF a b k + _ : Nat) : Int)
      rw [if_neg e]
      exact or_pow _ k (mskF_lt a b k) (by omega)
theorem i64_wf {n : Int} (h1 : -9223372036854775808 ≤ n) (h2 : n ≤ 9223372036854775807) : (Lit.int .i64 n).wf = true := by
  have h3 : IntKind.i64.min = -9223372036854775808 := rfl
  have h4 : IntKind.i64.max = 9223372036854775807 := rfl
  simp [Lit.wf, h3, h4]; exact ⟨h1, h2⟩
theorem own_kp {k1 k2 : IntKind} {E1 E2 : TypeId} {W w' : World} {b1 b2 : Nat} {v1 v2 : Value} {z1 z2 : List Int} (h : Own k1 E1 W b1 v1 z1) (hO : Own k2 E2 W b2 v2 z2) (hG : W.grownBy w' v2.ownBlock) (hT : E1 ≠ E2) : Own k1 E1 w' b1 v1 z1 := by
  refine World.ownsRow.kept h hG ?_
  rcases h.2 with ⟨rfl, _⟩ | ⟨g, cap, cur, rfl, _, hgb, _⟩
  · exact .inl rfl
  · exact .inr fun e' => own_ne hO hgb hT (by simpa [Value.ownBlock] using e')
theorem dfr_grown {k : IntKind} {E : TypeId} {W w' : World} {base D : Nat} {v : Value} {zs : List Int} (hO : Own k E W base v zs) (hG : W.grownBy w' v.ownBlock) (hK : W.heap[D]? = some (.deferred (some []))) : w'.heap[D]? = some (.deferred (some [])) :=
  (hG.block D (held_lt hK) (fun e => by have h := own_cells hO e.symm hK; cases h)).trans hK
/-- A record's bytes, by what changed. -/
def lateV (t u : Int) : Nat := ((u - t) % 4294967296).toNat
def deltaV (t u : Int) (a b : List Int) : List Int := vpS (lateV t u) ++ vpS (mskF a b 12) ++ intsS ((chgF a b 12).map Prod.snd)
attribute [local go_sem] Oper.semAt_some
set_option maxRecDepth 100000 in
set_option maxHeartbeats 8000000 in
theorem delta_any (t u a0 a1 a2 a3 a4 a5 a6 a7 a8 a9 a10 a11 b0 b1 b2 b3 b4 b5 b6 b7 b8 b9 b10 b11 : Int) (w : World) (ht : 0 ≤ t ∧ t ≤ 4294967295) (hu : 0 ≤ u ∧ u ≤ 4294967295) (ha : ∀ x ∈ [a0, a1, a2, a3, a4, a5, a6, a7, a8, a9, a10, a11], -2147483648 ≤ x ∧ x ≤ 2147483647) (hb : ∀ x ∈ [b0, b1, b2, b3, b4, b5, b6, b7, b8, b9, b10, b11], -2147483648 ≤ x ∧ x ≤ 2147483647) : Calls Try.prog 37 #[.agg #[.int .u32 t, .int .i32 a0, .int .i32 a1, .int .i32 a2, .int .i32 a3, .int .i32 a4, .int .i32 a5, .int .i32 a6, .int .i32 a7, .int .i32 a8, .int .i32 a9, .int .i32 a10, .int .i32 a11], .agg #[.int .u32 u, .int .i32 b0, .int .i32 b1, .int .i32 b2, .int .i32 b3, .int .i32 b4, .int .i32 b5, .int .i32 b6, .int .i32 b7, .int .i32 b8, .int .i32 b9, .int .i32 b10, .int .i32 b11]] w (BytesOk w (deltaV t u ([a0, a1, a2, a3, a4, a5, a6, a7, a8, a9, a10, a11]) ([b0, b1, b2, b3, b4, b5, b6, b7, b8, b9, b10, b11]))) := by
  have hcl := chgF_len ([a0, a1, a2, a3, a4, a5, a6, a7, a8, a9, a10, a11]) ([b0, b1, b2, b3, b4, b5, b6, b7, b8, b9, b10, b11]) 12
  have hcb := hid (fun x hx => (chgF_bd (get_bd ha) (get_bd hb) 12 x hx).2.1)
  replace ha := hid ha
  replace hb := hid hb
  refine calls_of_marks Try.func37 rfl ?_
  simp only [Try.ntmps37, List.size_toArray, List.length_cons, List.length_nil, Nat.reduceAdd, Nat.reduceSub, Array.replicate_succ, Array.replicate_zero, List.push_toArray, List.append_toArray, List.nil_append, List.cons_append]
  go_upto_region 0 with (fail)
  apply wp_region_seg0 (w := w) (S := [.al 1000, .al 1000, .q []]) (E := [.al ((fun p => .pointer (some ⟨p, 0, none⟩)), _) 1000, .al ((fun p => .pointer (some ⟨p, 0, none⟩)), _) 1000, .q0 _]) rfl (by kernel_rfl) rfl rfl
  intro th hge hne
  refine Seg.step _ rfl ⟨by rfl, fun U hU => ?_⟩ ?_
  · go_simp; exact vp_alloc rfl rfl rfl
  refine ⟨_, by (simp only [Ent.val]; go_simp <;> exact rfl), ?_⟩
  refine Seg.step _ rfl ⟨by rfl, fun U hU => ?_⟩ ?_
  · go_simp; exact vp_alloc rfl rfl rfl
  refine ⟨_, by (simp only [Ent.val]; go_simp <;> exact rfl), ?_⟩
  refine Seg.step _ rfl (Or.inl ⟨by rfl, fun U hU => vp_quiet (by (go_simp <;> exact rfl))⟩) ⟨_, by (simp only [Ent.val]; go_simp <;> exact rfl), ?_⟩
  refine Seg.stop (fun U1 hU hk => ?_)
  have nb0 := hge 0 _ _ rfl
  have rb0 := (hk 0 _ _ rfl trivial).1.2 (by simp)
  have nb1 := hge 1 _ _ rfl
  have rb1 := (hk 1 _ _ rfl trivial).1.2 (by simp)
  have ne0_1 := hne 0 1 _ _ _ _ rfl rfl (by omega)
  clear hk hge hne
  generalize th (0 + 0) = p0_0 at *
  dsimp only at rb0
  generalize th (0 + 1) = p0_1 at *
  dsimp only at rb1
  have r_p0_0 := rb0
  clear rb0
  have n_p0_0 := nb0
  clear nb0
  have d_p0_0_p0_1 := ne0_1
  clear ne0_1
  have r_p0_1 := rb1
  clear rb1
  have n_p0_1 := nb1
  clear nb1
  have sz1 := hU.size
  have hB : Below w.heap.size w U1 := hU
  clear hU
  go_upto_region 1 with (fail)
  apply wp_region_seg0 (w := U1) (S := [.al 1, .st 0 []]) (E := [.al ((fun p => .pointer (some ⟨p, 0, none⟩)), _) 1, .s0 0 (.cells _ _)]) rfl (by kernel_rfl) rfl rfl
  intro th hge hne
  refine Seg.step _ rfl ⟨by rfl, fun U hU => ?_⟩ ?_
  · go_simp; exact vp_alloc rfl rfl rfl
  refine ⟨_, by (simp only [Ent.val]; go_simp <;> exact rfl), ?_⟩
  refine Seg.step _ rfl ⟨by rfl, fun U z k hz hU hc => ?_⟩ ?_
  · have hz2 := Option.some.inj hz
    cases hz2; clear hz
    exact vp_store_one _ _ _ rfl hc rfl rfl (by kernel_rfl) rfl ⟨rfl, rfl⟩
  refine ⟨_, by (simp only [Ent.val]; go_simp <;> exact rfl), ?_⟩
  refine Seg.stop (fun U2 hU hk => ?_)
  have nb0 := hge 0 _ _ rfl
  have rb0 := (hk 0 _ 1 rfl trivial).1.1 trivial _ (Nat.zero_le _) rfl
  clear hk hge hne
  generalize th (0 + 0) = p1_0 at *
  simp only [Ent.obj] at rb0
  have df_p0_0_p1_0 : p0_0 ≠ p1_0 := by have := held_lt r_p0_0; omega
  have df_p0_1_p1_0 : p0_1 ≠ p1_0 := by have := held_lt r_p0_1; omega
  replace r_p0_0 := held_after hU r_p0_0
  replace r_p0_1 := held_after hU r_p0_1
  have r_p1_0 := rb0
  clear rb0
  have n_p1_0 := nb0
  clear nb0
  have sz2 := hU.size
  replace hB := bthen hB hU
  clear hU
  go_upto_region 2 with (fail)
  apply wp_region_seg0 (w := U2) (S := [.al 1000]) (E := [.al ((fun p => .pointer (some ⟨p, 0, none⟩)), _) 1000]) rfl (by kernel_rfl) rfl rfl
  intro th hge hne
  refine Seg.step _ rfl ⟨by rfl, fun U hU => ?_⟩ ?_
  · go_simp; exact vp_alloc rfl rfl rfl
  refine ⟨_, by (simp only [Ent.val]; go_simp <;> exact rfl), ?_⟩
  refine Seg.stop (fun U3 hU hk => ?_)
  have nb0 := hge 0 _ _ rfl
  have rb0 := (hk 0 _ _ rfl trivial).1.2 (by simp)
  clear hk hge hne
  generalize th (0 + 0) = p2_0 at *
  dsimp only at rb0
  have df_p0_0_p2_0 : p0_0 ≠ p2_0 := by have := held_lt r_p0_0; omega
  have df_p0_1_p2_0 : p0_1 ≠ p2_0 := by have := held_lt r_p0_1; omega
  have df_p1_0_p2_0 : p1_0 ≠ p2_0 := by have := held_lt r_p1_0; omega
  replace r_p0_0 := held_after hU r_p0_0
  replace r_p0_1 := held_after hU r_p0_1
  replace r_p1_0 := held_after hU r_p1_0
  have r_p2_0 := rb0
  clear rb0
  have n_p2_0 := nb0
  clear nb0
  have sz3 := hU.size
  replace hB := bthen hB hU
  clear hU
  have np1 : w.heap.size ≤ p1_0 := by have := sz1; omega
  have np2 : w.heap.size ≤ p2_0 := by have := sz1; have := sz2; omega
  have d12 := df_p1_0_p2_0
  have d01 := df_p0_0_p1_0
  have d02 := df_p0_0_p2_0
  have d11 := df_p0_1_p1_0
  have d22 := df_p0_1_p2_0
  replace hB := hid hB
  have z0 := held_cell r_p0_0 0 _ rfl
  have z1 := held_cell r_p0_0 1 _ rfl
  have z2 := held_cell r_p0_0 2 _ rfl
  have z3 := held_cell r_p0_0 3 _ rfl
  have z4 := held_cell r_p0_0 4 _ rfl
  have z5 := held_cell r_p0_0 5 _ rfl
  have z6 := held_cell r_p0_0 6 _ rfl
  have z7 := held_cell r_p0_0 7 _ rfl
  have z8 := held_cell r_p0_0 8 _ rfl
  have z9 := held_cell r_p0_0 9 _ rfl
  have z10 := held_cell r_p0_0 10 _ rfl
  have z11 := held_cell r_p0_0 11 _ rfl
  have z12 := held_cell r_p0_0 12 _ rfl
  have y0 := held_cell r_p0_1 0 _ rfl
  have y1 := held_cell r_p0_1 1 _ rfl
  have y2 := held_cell r_p0_1 2 _ rfl
  have y3 := held_cell r_p0_1 3 _ rfl
  have y4 := held_cell r_p0_1 4 _ rfl
  have y5 := held_cell r_p0_1 5 _ rfl
  have y6 := held_cell r_p0_1 6 _ rfl
  have y7 := held_cell r_p0_1 7 _ rfl
  have y8 := held_cell r_p0_1 8 _ rfl
  have y9 := held_cell r_p0_1 9 _ rfl
  have y10 := held_cell r_p0_1 10 _ rfl
  have y11 := held_cell r_p0_1 11 _ rfl
  have y12 := held_cell r_p0_1 12 _ rfl
  have e0 := hid r_p0_0
  have e1 := hid r_p0_1
  have e2 := hid r_p1_0
  have e3 := hid r_p2_0
  clear r_p0_0 r_p0_1 r_p1_0 r_p2_0
  go_wp2_with fail
  refine (changed_any t u a0 a1 a2 a3 a4 a5 a6 a7 a8 a9 a10 a11 b0 b1 b2 b3 b4 b5 b6 b7 b8 b9 b10 b11 _).mono ?_
  rintro e W0 ⟨P, Q, rfl, nP, nQ, rP, rQ, hA⟩
  have s0 := hid (held_after hA e0.out)
  have s1 := hid (held_after hA e1.out)
  have s2 := hid (held_after hA e2.out)
  have s3 := hid (held_after hA e3.out)
  have hB1 := hid (bthen hB.out hA)
  have hMw := hid hB1.out.size
  have hT := hid (changed_tells t u a0 a1 a2 a3 a4 a5 a6 a7 a8 a9 a10 a11 b0 b1 b2 b3 b4 b5 b6 b7 b8 b9 b10 b11 P Q W0 rP rQ ha.out hb.out)
  have lP := held_lt rP
  have lQ := held_lt rQ
  have l2 := held_lt s2.out
  have l3 := held_lt s3.out
  have l2b := held_lt e2.out
  have l3b := held_lt e3.out
  have dP2 : P ≠ p1_0 := by omega
  have dP3 : P ≠ p2_0 := by omega
  have dQ2 : Q ≠ p1_0 := by omega
  have dQ3 : Q ≠ p2_0 := by omega
  clear hA hB e0 e1 e2 e3 rP rQ l2b l3b nP nQ z0 z1 z2 z3 z4 z5 z6 z7 z8 z9 z10 z11 z12 y0 y1 y2 y3 y4 y5 y6 y7 y8 y9 y10 y11 y12
  go_wp2_with fail
  refine wp_rangeFunc_el (gf := 62) (lb := #[.pointer (some ⟨P, 0, none⟩), .pointer (some ⟨Q, 0, none⟩)]) rfl (enters_of Try.func62 (by kernel_rfl) rfl) hT.out (fun h k => kp2_t h k) (fun W l o h => kp2_b W l o (by omega) (by omega)) ?el (fun _ => rfl)
    (fun pre W => W.heap[p0_0]? = some (.cells #[.int .u32 t, .int .i32 a0, .int .i32 a1, .int .i32 a2, .int .i32 a3, .int .i32 a4, .int .i32 a5, .int .i32 a6, .int .i32 a7, .int .i32 a8, .int .i32 a9, .int .i32 a10, .int .i32 a11] 33 (0, 0)) ∧ W.heap[p0_1]? = some (.cells #[.int .u32 u, .int .i32 b0, .int .i32 b1, .int .i32 b2, .int .i32 b3, .int .i32 b4, .int .i32 b5, .int .i32 b6, .int .i32 b7, .int .i32 b8, .int .i32 b9, .int .i32 b10, .int .i32 b11] 33 (0, 0)) ∧ W.heap[p1_0]? = some (.cells #[.int .u64 (mO pre)] 70 (0, 0)) ∧ (∃ (ad : Option Addr) (cp : Nat), W.heap[p2_0]? = some (.cells #[.slice ad (pre.map Prod.snd).length cp] 90 (0, 0)) ∧ Own .i64 2 W W0.heap.size (.slice ad (pre.map Prod.snd).length cp) (pre.map Prod.snd)) ∧ Below w.heap.size w W ∧ W0.heap.size ≤ W.heap.size)
    (fun pre W => False)
    ?own ?ownx ?stays ?start ?a1 ?assign ?body ?done ?stop
  case assign =>
    intro l9 i W K hK
    gi_wp2
    exact hK
  case el =>
    intro x A B row h hg hr
    exact h
  case own =>
    rintro pre A B row ⟨k1, k2, k3, ⟨ad, cp, k4, k5⟩, k6, k7⟩ hg hr
    exact ⟨keeps_row k1 rfl hg hr, keeps_row k2 rfl hg hr, keeps_row k3 rfl hg hr, ⟨ad, cp, keeps_row k4 rfl hg hr, keeps_own k5 hg hr⟩, keeps_below k6 hMw.out k6.size hg hr, Nat.le_trans k7 hg.size⟩
  case ownx =>
    intro pre A B row h
    exact h.elim
  case stays =>
    rintro pre A A2 ⟨k1, k2, k3, ⟨ad, cp, k4, k5⟩, k6, k7⟩ e
    exact ⟨held_after e k1, held_after e k2, held_after e k3, ⟨ad, cp, held_after e k4, k5.below e⟩, bthen k6 e, Nat.le_trans k7 e.size⟩
  case start => exact ⟨s0.out, s1.out, s2.out, ⟨none, 0, s3.out, Own.nil _ _ _ _⟩, hB1.out, Nat.le_refl _⟩
  case stop =>
    intro D pre W hD hp h
    exact h.elim
  case body =>
    rintro fl pre ⟨xi, xd⟩ W ⟨r0, r1, r2, ⟨ad, cp, r3, hO⟩, hB, hM⟩ ⟨i, hi, hi12⟩ hlen
    dsimp only at hi ⊢
    subst hi
    apply wpIn_block
    have hms := hid (show mO (pre ++ [((i : Int), xd)]) = bits .or .u64 (mO pre) (IntKind.u64.wrap (2 ^ i)) from by rw [mO_snoc]; show bits _ _ _ (IntKind.u64.wrap (1 * 2 ^ ((i : Int)).toNat)) = _; rw [Int.toNat_natCast, Int.one_mul])
    have hml := hid (show (pre ++ [((i : Int), xd)]).map Prod.snd = (pre.map Prod.snd) ++ [xd] from by rw [List.map_append]; rfl)
    have hdl : (pre.map Prod.snd).length ≤ 12 := by rw [List.length_map]; omega
    obtain ⟨m, hm⟩ : ∃ m, mO pre = m := ⟨_, rfl⟩
    obtain ⟨ds, hds⟩ : ∃ d, (pre.map Prod.snd) = d := ⟨_, rfl⟩
    rw [hm] at r2 hms
    rw [hds] at r3 hO hml hdl
    clear hm hds
    have z2 := held_cell r2 0 _ rfl
    have f2 := held_free r2 0
    replace hB := hid hB
    have kz : (0 : Int) ≤ i := by omega
    gi_wp2
    gi_region
    all_goals
      obtain ⟨U, hU⟩ : ∃ U, (W.setCell ⟨p1_0, 0, none⟩ (.int .u64 (bits .or .u64 m (IntKind.u64.wrap (2 ^ i))))).drew = U := ⟨_, rfl⟩
      rw [hU]
      have j0 : U.heap[p0_0]? = some (.cells #[.int .u32 t, .int .i32 a0, .int .i32 a1, .int .i32 a2, .int .i32 a3, .int .i32 a4, .int .i32 a5, .int .i32 a6, .int .i32 a7, .int .i32 a8, .int .i32 a9, .int .i32 a10, .int .i32 a11] 33 (0, 0)) := by rw [← hU]; exact held_oth d01 r0
      have j1 : U.heap[p0_1]? = some (.cells #[.int .u32 u, .int .i32 b0, .int .i32 b1, .int .i32 b2, .int .i32 b3, .int .i32 b4, .int .i32 b5, .int .i32 b6, .int .i32 b7, .int .i32 b8, .int .i32 b9, .int .i32 b10, .int .i32 b11] 33 (0, 0)) := by rw [← hU]; exact held_oth d11 r1
      have j2 : U.heap[p1_0]? = some (.cells #[.int .u64 (bits .or .u64 m (IntKind.u64.wrap (2 ^ i)))] 70 (0, 0)) := by rw [← hU]; exact held_set r2 0 _
      have j3 : U.heap[p2_0]? = some (.cells #[.slice ad ds.length cp] 90 (0, 0)) := by rw [← hU]; exact held_oth (Ne.symm d12) r3
      have hO1 : Own .i64 2 U W0.heap.size (.slice ad ds.length cp) ds := by rw [← hU]; exact (hO.oth r2 (by decide) 0 (.int .u64 (bits .or .u64 m (IntKind.u64.wrap (2 ^ i))))).below (Below.refl _ _).drew
      have hB1 := hid (show Below w.heap.size w U by rw [← hU]; exact (hB.out.setCell (p := ⟨p1_0, 0, none⟩) np1 _).drew)
      have kA1 : KeepsOthers W U := by rw [← hU]; exact (KeepsOthers.setCell _ _ _).trans (keepsOthers_after (Below.refl _ _).drew)
      have qP : U.heap[P]? = W.heap[P]? := by rw [← hU]; exact Below.heap_setCell W ⟨p1_0, 0, none⟩ _ P dP2
      have qQ : U.heap[Q]? = W.heap[Q]? := by rw [← hU]; exact Below.heap_setCell W ⟨p1_0, 0, none⟩ _ Q dQ2
      have sU := kA1.1
      clear hU r0 r1 r2 r3 hO hB z2 f2
      have z3 := held_cell j3 0 _ rfl
      have hAe := (alloc_new U (.cells #[.int .i64 xd] 2)).2.1
      have hS1 := hid (row_lit .i64 2 U [xd] #[.int .i64 xd] 1 U.heap.size rfl rfl (by unfold maxLen; omega) rfl)
      have k0 := held_after hAe j0
      have k1 := held_after hAe j1
      have k2 := held_after hAe j2
      have k3 := held_after hAe j3
      have hO2 := hid (hO1.below hAe)
      have hB2 := hid (bthen hB1.out hAe)
      have sA := hAe.size
      have hMu := hid (show W0.heap.size ≤ (U.alloc (.cells #[.int .i64 xd] 2)).heap.size by omega)
      have kA2 := hid (kA1.trans (keepsOthers_after hAe))
      have qP2 := hid ((hAe.block P (by omega)).trans qP)
      have qQ2 := hid ((hAe.block Q (by omega)).trans qQ)
      have hla := hid (show ds.length + [xd].length ≤ 140737488355328 / 8 by rw [List.length_singleton]; omega)
      clear hAe hO1 hB1 kA1 qP qQ j0 j1 j2 j3
      gi_wp2_with (first | (gi_at_builtin; refine wpListIn_app _ rfl (.tmp 19) (.tmp 21) 90 rfl W0.heap.size 2 .i64 8 i64sOf (.slice ad ds.length cp) ds rfl hO2.out (some ⟨_, 0, none⟩) 1 [xd] rfl hS1.out.2.2.2.2 (fun e => by cases e) hla.out (by omega) hMu.out ?_))
      intro a9 cap9 w9 hO9 hG
      have l0 := held_grown k0 hG (own_ne hO2.out k0 (by decide))
      have l1 := held_grown k1 hG (own_ne hO2.out k1 (by decide))
      have l2 := held_grown k2 hG (own_ne hO2.out k2 (by decide))
      have l3 := held_grown k3 hG (own_ne hO2.out k3 (by decide))
      have kA := hid (kA2.out.trans (KeepsOthers.of_grownBy hG (fun j ob e hj => own_cells hO2.out e hj)))
      have kX := kpX_app (q := p2_0) hO2.out hG hMu.out
      have eP := hid ((kX.2 P lP dP3).trans qP2.out)
      have eQ := hid ((kX.2 Q lQ dQ3).trans qQ2.out)
      have hB9 := hid (hO2.out.grew hG hB2.out hMw.out (Nat.le_trans hMw.out hMu.out))
      have s9 := hid kX.1
      have z9 := held_cell l3 0 _ rfl
      have f9 := held_free l3 0
      replace hO9 := hid hO9
      clear hG kX k0 k1 k2 k3 z3 hS1 hO2 hB2
      gi_wp2
      refine ⟨kA.out.trans (KeepsOthers.setCell _ _ _), ⟨?_, (Below.heap_setCell _ ⟨p2_0, 0, none⟩ _ P dP3).trans eP.out, (Below.heap_setCell _ ⟨p2_0, 0, none⟩ _ Q dQ3).trans eQ.out⟩, held_oth d02 l0, held_oth d22 l1, ?_, ⟨a9, cap9, ?_, ?_⟩, hB9.out.setCell (p := ⟨p2_0, 0, none⟩) np2 _, ?_⟩
      · refine Nat.le_trans ?_ (kpX_set (q := p2_0) (M := 0) w9 _).1; have h1 := s9.out; omega
      · rw [hms.out]; exact held_oth d12 l2
      · rw [hml.out, List.length_append]; exact held_set l3 0 _
      · rw [hml.out, List.length_append]; exact hO9.out.oth l3 (by decide) 0 _
      · refine Nat.le_trans ?_ (kpX_set (q := p2_0) (M := 0) w9 _).1; have h1 := s9.out; omega
  case done =>
    rintro D xs W hD hS ⟨r0, r1, r2, ⟨ad, cp, r3, hO⟩, hB, hM⟩ hK
    rw [hS] at r2 r3 hO
    rw [mO_chg ([a0, a1, a2, a3, a4, a5, a6, a7, a8, a9, a10, a11]) ([b0, b1, b2, b3, b4, b5, b6, b7, b8, b9, b10, b11]) 12 (by omega)] at r2
    have hml := mskF_lt ([a0, a1, a2, a3, a4, a5, a6, a7, a8, a9, a10, a11]) ([b0, b1, b2, b3, b4, b5, b6, b7, b8, b9, b10, b11]) 12
    have hdef : deltaV t u ([a0, a1, a2, a3, a4, a5, a6, a7, a8, a9, a10, a11]) ([b0, b1, b2, b3, b4, b5, b6, b7, b8, b9, b10, b11]) = vpS (lateV t u) ++ vpS (mskF ([a0, a1, a2, a3, a4, a5, a6, a7, a8, a9, a10, a11]) ([b0, b1, b2, b3, b4, b5, b6, b7, b8, b9, b10, b11]) 12) ++ intsS ((chgF ([a0, a1, a2, a3, a4, a5, a6, a7, a8, a9, a10, a11]) ([b0, b1, b2, b3, b4, b5, b6, b7, b8, b9, b10, b11]) 12).map Prod.snd) := rfl
    obtain ⟨m, hm⟩ : ∃ m, mskF ([a0, a1, a2, a3, a4, a5, a6, a7, a8, a9, a10, a11]) ([b0, b1, b2, b3, b4, b5, b6, b7, b8, b9, b10, b11]) 12 = m := ⟨_, rfl⟩
    rw [hm] at r2 hml hdef
    have hm64 : m ≤ 18446744073709551615 := by have : (2 : Nat) ^ 12 = 4096 := rfl; omega
    have hdl : ((chgF ([a0, a1, a2, a3, a4, a5, a6, a7, a8, a9, a10, a11]) ([b0, b1, b2, b3, b4, b5, b6, b7, b8, b9, b10, b11]) 12).map Prod.snd).length ≤ 12 := by rw [List.length_map]; omega
    have hdw : ∀ n ∈ (chgF ([a0, a1, a2, a3, a4, a5, a6, a7, a8, a9, a10, a11]) ([b0, b1, b2, b3, b4, b5, b6, b7, b8, b9, b10, b11]) 12).map Prod.snd, (Lit.int .i64 n).wf = true := fun n hn => by obtain ⟨x, hx, rfl⟩ := List.mem_map.1 hn; have := hcb.out x hx; exact i64_wf (by omega) (by omega)
    obtain ⟨ds, hds⟩ : ∃ d, (chgF ([a0, a1, a2, a3, a4, a5, a6, a7, a8, a9, a10, a11]) ([b0, b1, b2, b3, b4, b5, b6, b7, b8, b9, b10, b11]) 12).map Prod.snd = d := ⟨_, rfl⟩
    rw [hds] at r3 hO hdef hdl hdw
    have wl : IntKind.u32.wrap (u - t) = ((lateV t u : Nat) : Int) := by rw [IntKind.wrap_u32]; unfold lateV; omega
    have hL32 : lateV t u ≤ 4294967295 := by unfold lateV; omega
    obtain ⟨L, hL⟩ : ∃ L, lateV t u = L := ⟨_, rfl⟩
    rw [hL] at wl hdef hL32
    have wL : IntKind.u64.wrap (L : Int) = (L : Int) := by rw [IntKind.wrap_u64]; omega
    clear hm hds hL hml hS hcl
    generalize deltaV t u ([a0, a1, a2, a3, a4, a5, a6, a7, a8, a9, a10, a11]) ([b0, b1, b2, b3, b4, b5, b6, b7, b8, b9, b10, b11]) = DV at *
    replace hdef := hid hdef
    replace hdw := hid hdw
    have hlp := vpS_len L
    have hlm := vpS_len m
    have q0 := (show W.drew.heap[p0_0]? = _ from r0)
    have q1 := (show W.drew.heap[p0_1]? = _ from r1)
    have q2 := (show W.drew.heap[p1_0]? = _ from r2)
    have q3 := (show W.drew.heap[p2_0]? = _ from r3)
    have qK := (show W.drew.heap[D]? = _ from hK)
    have hB1 := hid hB.drew
    have hOm := hid (hO.below (Below.refl _ W).drew)
    have sW := hid hB1.out.size
    clear r0 r1 r2 r3 hK hO hB
    go_wp2_with fail
    refine (wpIn_wide (n := 9)).1 ?_
    refine wpIn_region_preR 9 2 (by simp only [List.extract_toArray, List.extract_eq_take_drop, Nat.sub_zero, List.drop_zero, List.take_succ_cons, List.take_zero]; rfl) (by kernel_rfl) rfl (by kernel_rfl) ?_
    refine wpAnyR_take 0 rfl (by kernel_rfl) (by kernel_rfl) (by kernel_rfl) (fun _ _ _ _ h => by cases h.1) ⟨_, Or.inl ⟨by rfl, fun w2 hb2 => by (go_simp; try with_reducible rfl)⟩, _, by (go_simp; try rfl), ?_⟩
    refine wpAnyR_take 1 rfl (by kernel_rfl) (by kernel_rfl) (by kernel_rfl) (fun _ _ _ _ h => by cases h.1) ⟨_, Or.inl ⟨by rfl, fun w2 hb2 => by (have hx := held_cell (held_after hb2 q1) 0 _ rfl; go_simp; try with_reducible rfl)⟩, _, by (go_simp; try rfl), ?_⟩
    refine wpAnyR_take 2 rfl (by kernel_rfl) (by kernel_rfl) (by kernel_rfl) (fun _ _ _ _ h => by cases h.1) ⟨_, Or.inl ⟨by rfl, fun w2 hb2 => by (go_simp; try with_reducible rfl)⟩, _, by (go_simp; try rfl), ?_⟩
    refine wpAnyR_take 3 rfl (by kernel_rfl) (by kernel_rfl) (by kernel_rfl) (fun _ _ _ _ h => by cases h.1) ⟨_, Or.inl ⟨by rfl, fun w2 hb2 => by (have hx := held_cell (held_after hb2 q0) 0 _ rfl; go_simp; try with_reducible rfl)⟩, _, by (go_simp; try rfl), ?_⟩
    refine wpAnyR_take 4 rfl (by kernel_rfl) (by kernel_rfl) (by kernel_rfl) (fun _ _ _ _ h => by cases h.1) ⟨_, Or.inl ⟨by rfl, fun w2 hb2 => by (go_simp; try with_reducible rfl)⟩, _, by (go_simp; try rfl), ?_⟩
    refine wpAnyR_take 5 rfl (by kernel_rfl) (by kernel_rfl) (by kernel_rfl) (fun _ _ _ _ h => by cases h.1) ⟨_, Or.inl ⟨by rfl, fun w2 hb2 => by (go_simp; try with_reducible rfl)⟩, _, by (go_simp; try rfl), ?_⟩
    refine wpAnyR_take 7 rfl (by kernel_rfl) (by kernel_rfl) (by kernel_rfl) (fun _ _ _ _ h => by cases h.1) ⟨_, Or.inl ⟨by rfl, fun w2 hb2 => by (have hx := held_cell (held_after hb2 q2) 0 _ rfl; go_simp; try with_reducible rfl)⟩, _, by (go_simp; try rfl), ?_⟩
    refine wpAnyR_only 6 rfl (by kernel_rfl) (by rfl) (fun K hK => ?_)
    go_simp
    refine (vput_any L _ (by omega)).mono ?_
    rintro e V1 ⟨pa, pc, rfl, hO1, hA1⟩
    go_simp
    refine hK _ _ ⟨hA1, ?_⟩
    clear hK
    replace q3 := held_after hA1 q3
    replace qK := held_after hA1 qK
    replace hOm := hid (hOm.out.below hA1)
    have hB2 := hid (bthen hB1.out hA1)
    have hP1 := hid (hO1.base (show w.heap.size ≤ _ from sW.out))
    clear hA1 hB1 hO1
    refine wpAnyR_only 8 rfl (by kernel_rfl) (by rfl) (fun K hK => ?_)
    go_simp
    refine (vput_any m _ hm64).mono ?_
    rintro e V2 ⟨pb, qc, rfl, hO2, hA2⟩
    go_simp
    refine hK _ _ ⟨hA2, ?_⟩
    clear hK
    replace q3 := held_after hA2 q3
    replace qK := held_after hA2 qK
    replace hOm := hid (hOm.out.below hA2)
    have hB3 := hid (bthen hB2.out hA2)
    replace hP1 := hid (hP1.out.below hA2)
    have hP2 := hid hO2.slf
    have sz3 := hid hB3.out.size
    clear hA2 hB2 hO2
    refine wpAnyR_done (by kernel_rfl) ?_ _
    refine ⟨rfl, ?_⟩
    refine Seg.onlyIn (m := 9) (k := 1) rfl (by kernel_rfl) (by rfl) (fun K hK => ?_)
    refine wpIn_of_false (Q1 := fun _ _ _ => False) (fun _ _ _ _ h => h) ?_
    refine wp_app _ (.tmp 29) (.tmp 31) 29 rfl w.heap.size 5 .u8 1 bytesOf (.slice pa (vpS L).length pc) (vpS L) rfl hP1.out pb qc (vpS m) rfl hP2.out.2.2.2.2 hP2.out.2.2.2.1 (by omega) (by omega) sz3.out ?_
    intro v9 w9 hO9 hG
    obtain ⟨a9, c9, hv9, -⟩ := hO9.sl
    subst hv9
    have hll : (vpS L ++ vpS m).length ≤ 100 := by rw [List.length_append]; omega
    have hdef2 := hdef.out
    obtain ⟨LL, hLL⟩ : ∃ l, vpS L ++ vpS m = l := ⟨_, rfl⟩
    rw [hLL] at hO9 hll hdef2 ⊢
    replace hdef := hid hdef2
    clear hdef2 hLL
    have k3 := held_grown q3 hG (own_ne hP1.out q3 (by decide))
    have kK := dfr_grown hP1.out hG qK
    have hB9 := hid (hP1.out.grew hG hB3.out (Nat.le_refl _) sz3.out)
    have hOm9 := hid (show Own .i64 2 w9 W0.heap.size (.slice ad ds.length cp) ds from own_kp hOm.out hP1.out hG (by decide))
    replace hO9 := hid hO9
    clear hG q3 qK hOm hP1 hP2 hB3 q0 q1 q2
    refine hK _ _ ?_
    clear hK
    refine Seg.onlyIn (m := 10) (k := 0) rfl (by kernel_rfl) (by rfl) (fun K hK => ?_)
    refine wpIn_of_false (Q1 := fun _ _ _ => False) (fun _ _ _ _ h => h) ?_
    go_simp
    refine hK _ _ ?_
    clear hK
    refine Seg.finishIn ?_ _
    have z3 := held_cell k3 0 _ rfl
    go_wp2_with fail
    refine (vints_any ad ds.length cp ds _ (by omega) hOm9.out.slf hdw.out).mono ?_
    rintro e V3 ⟨a3, c3, rfl, hO3, hA3⟩
    have nK := held_after hA3 kK
    have hBa := hid (bthen hB9.out hA3)
    have hO5 := hid (hO9.out.below hA3)
    have hS3 := hid hO3.slf
    have sz5 := hid hBa.out.size
    have hil := ints_len ds
    clear hA3 hO3 kK k3 z3 hB9 hO9 hOm9
    go_wp2_with (first | (at_builtin; refine wpList_app _ rfl (.tmp 33) (.tmp 35) 29 rfl w.heap.size 5 .u8 1 bytesOf (.slice a9 LL.length c9) LL rfl hO5.out a3 c3 (intsS ds) rfl hS3.out.2.2.2.2 hS3.out.2.2.2.1 (by omega) (by omega) sz5.out ?_))
    intro v8 w8 hO8 hG
    obtain ⟨a8, c8, hv8, -⟩ := hO8.sl
    subst hv8
    have hK2 := hid (dfr_grown hO5.out hG nK)
    have hB8 := hid (below_mark (W0 := W0) (hO5.out.grew hG hBa.out (Nat.le_refl _) sz5.out) hMw.out hD hK2.out)
    rw [← hdef.out] at hO8 ⊢
    have hO7 := hid (own_put hO8 hK2.out (.deferred none))
    clear hG nK hO5 hO8 hBa
    go_wp2_with fail
    refine marks_ret1 (v := .slice a8 DV.length c8) hK2.out ?_ ⟨a8, c8, rfl, hO7.out, hB8.out⟩
    simp [results, Try.results37, go_sem]

end Go.Proofs.Ytkpncailoekjpaa
