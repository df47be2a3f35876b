/- Package rec: TakeKey. -/
import Derived.Test.YtkpncailoekjpaaRec
import Derived.Deep.DeepCutAuto
namespace Go.Proofs.Ytkpncailoekjpaa
open Go.ChangeShapes Go.WideShapes Go.ChangeAt Go.RowKit
set_option linter.unusedVariables false
set_option linter.unusedSimpArgs false

theorem st13 {U : World} {p : Nat} {v0 v1 v2 v3 v4 v5 v6 v7 v8 v9 v10 v11 v12 : Value} {T : TypeId} (h : U.heap[p]? = some (.cells #[v0, v1, v2, v3, v4, v5, v6, v7, v8, v9, v10, v11, v12] T (0, 0))) (u0 u1 u2 u3 u4 u5 u6 u7 u8 u9 u10 u11 u12 : Value) :
    ∃ W2, ((((((((((((U.setCell ⟨p, 0, none⟩ u0).setCell ⟨p, 1, none⟩ u1).setCell ⟨p, 2, none⟩ u2).setCell ⟨p, 3, none⟩ u3).setCell ⟨p, 4, none⟩ u4).setCell ⟨p, 5, none⟩ u5).setCell ⟨p, 6, none⟩ u6).setCell ⟨p, 7, none⟩ u7).setCell ⟨p, 8, none⟩ u8).setCell ⟨p, 9, none⟩ u9).setCell ⟨p, 10, none⟩ u10).setCell ⟨p, 11, none⟩ u11).setCell ⟨p, 12, none⟩ u12 = W2 ∧ W2.heap[p]? = some (.cells #[u0, u1, u2, u3, u4, u5, u6, u7, u8, u9, u10, u11, u12] T (0, 0)) ∧ Only p U W2 := by
  have h0 : (U.setCell ⟨p, 0, none⟩ u0).heap[p]? = some (.cells #[u0, v1, v2, v3, v4, v5, v6, v7, v8, v9, v10, v11, v12] T (0, 0)) := held_set h 0 u0
  have o0 : Only p U (U.setCell ⟨p, 0, none⟩ u0) := Only.set p 0 u0 U
  obtain ⟨W0, hW0⟩ : ∃ W, (U.setCell ⟨p, 0, none⟩ u0) = W := ⟨_, rfl⟩
  rw [hW0] at h0 o0 ⊢
  have h1 : (W0.setCell ⟨p, 1, none⟩ u1).heap[p]? = some (.cells #[u0, u1, v2, v3, v4, v5, v6, v7, v8, v9, v10, v11, v12] T (0, 0)) := held_set h0 1 u1
  have o1 : Only p U (W0.setCell ⟨p, 1, none⟩ u1) := putS o0 1 u1
  obtain ⟨W1, hW1⟩ : ∃ W, (W0.setCell ⟨p, 1, none⟩ u1) = W := ⟨_, rfl⟩
  rw [hW1] at h1 o1 ⊢
  have h2 : (W1.setCell ⟨p, 2, none⟩ u2).heap[p]? = some (.cells #[u0, u1, u2, v3, v4, v5, v6, v7, v8, v9, v10, v11, v12] T (0, 0)) := held_set h1 2 u2
  have o2 : Only p U (W1.setCell ⟨p, 2, none⟩ u2) := putS o1 2 u2
  obtain ⟨W2, hW2⟩ : ∃ W, (W1.setCell ⟨p, 2, none⟩ u2) = W := ⟨_, rfl⟩
  rw [hW2] at h2 o2 ⊢
  have h3 : (W2.setCell ⟨p, 3, none⟩ u3).heap[p]? = some (.cells #[u0, u1, u2, u3, v4, v5, v6, v7, v8, v9, v10, v11, v12] T (0, 0)) := held_set h2 3 u3
  have o3 : Only p U (W2.setCell ⟨p, 3, none⟩ u3) := putS o2 3 u3
  obtain ⟨W3, hW3⟩ : ∃ W, (W2.setCell ⟨p, 3, none⟩ u3) = W := ⟨_, rfl⟩
  rw [hW3] at h3 o3 ⊢
  have h4 : (W3.setCell ⟨p, 4, none⟩ u4).heap[p]? = some (.cells #[u0, u1, u2, u3, u4, v5, v6, v7, v8, v9, v10, v11, v12] T (0, 0)) := held_set h3 4 u4
  have o4 : Only p U (W3.setCell ⟨p, 4, none⟩ u4) := putS o3 4 u4
  obtain ⟨W4, hW4⟩ : ∃ W, (W3.setCell ⟨p, 4, none⟩ u4) = W := ⟨_, rfl⟩
  rw [hW4] at h4 o4 ⊢
  have h5 : (W4.setCell ⟨p, 5, none⟩ u5).heap[p]? = some (.cells #[u0, u1, u2, u3, u4, u5, v6, v7, v8, v9, v10, v11, v12] T (0, 0)) := held_set h4 5 u5
  have o5 : Only p U (W4.setCell ⟨p, 5, none⟩ u5) := putS o4 5 u5
  obtain ⟨W5, hW5⟩ : ∃ W, (W4.setCell ⟨p, 5, none⟩ u5) = W := ⟨_, rfl⟩
  rw [hW5] at h5 o5 ⊢
  have h6 : (W5.setCell ⟨p, 6, none⟩ u6).heap[p]? = some (.cells #[u0, u1, u2, u3, u4, u5, u6, v7, v8, v9, v10, v11, v12] T (0, 0)) := held_set h5 6 u6
  have o6 : Only p U (W5.setCell ⟨p, 6, none⟩ u6) := putS o5 6 u6
  obtain ⟨W6, hW6⟩ : ∃ W, (W5.setCell ⟨p, 6, none⟩ u6) = W := ⟨_, rfl⟩
  rw [hW6] at h6 o6 ⊢
  have h7 : (W6.setCell ⟨p, 7, none⟩ u7).heap[p]? = some (.cells #[u0, u1, u2, u3, u4, u5, u6, u7, v8, v9, v10, v11, v12] T (0, 0)) := held_set h6 7 u7
  have o7 : Only p U (W6.setCell ⟨p, 7, none⟩ u7) := putS o6 7 u7
  obtain ⟨W7, hW7⟩ : ∃ W, (W6.setCell ⟨p, 7, none⟩ u7) = W := ⟨_, rfl⟩
  rw [hW7] at h7 o7 ⊢
  have h8 : (W7.setCell ⟨p, 8, none⟩ u8).heap[p]? = some (.cells #[u0, u1, u2, u3, u4, u5, u6, u7, u8, v9, v10, v11, v12] T (0, 0)) := held_set h7 8 u8
  have o8 : Only p U (W7.setCell ⟨p, 8, none⟩ u8) := putS o7 8 u8
  obtain ⟨W8, hW8⟩ : ∃ W, (W7.setCell ⟨p, 8, none⟩ u8) = W := ⟨_, rfl⟩
  rw [hW8] at h8 o8 ⊢
  have h9 : (W8.setCell ⟨p, 9, none⟩ u9).heap[p]? = some (.cells #[u0, u1, u2, u3, u4, u5, u6, u7, u8, u9, v10, v11, v12] T (0, 0)) := held_set h8 9 u9
  have o9 : Only p U (W8.setCell ⟨p, 9, none⟩ u9) := putS o8 9 u9
  obtain ⟨W9, hW9⟩ : ∃ W, (W8.setCell ⟨p, 9, none⟩ u9) = W := ⟨_, rfl⟩
  rw [hW9] at h9 o9 ⊢
  have h10 : (W9.setCell ⟨p, 10, none⟩ u10).heap[p]? = some (.cells #[u0, u1, u2, u3, u4, u5, u6, u7, u8, u9, u10, v11, v12] T (0, 0)) := held_set h9 10 u10
  have o10 : Only p U (W9.setCell ⟨p, 10, none⟩ u10) := putS o9 10 u10
  obtain ⟨W10, hW10⟩ : ∃ W, (W9.setCell ⟨p, 10, none⟩ u10) = W := ⟨_, rfl⟩
  rw [hW10] at h10 o10 ⊢
  have h11 : (W10.setCell ⟨p, 11, none⟩ u11).heap[p]? = some (.cells #[u0, u1, u2, u3, u4, u5, u6, u7, u8, u9, u10, u11, v12] T (0, 0)) := held_set h10 11 u11
  have o11 : Only p U (W10.setCell ⟨p, 11, none⟩ u11) := putS o10 11 u11
  obtain ⟨W11, hW11⟩ : ∃ W, (W10.setCell ⟨p, 11, none⟩ u11) = W := ⟨_, rfl⟩
  rw [hW11] at h11 o11 ⊢
  have h12 : (W11.setCell ⟨p, 12, none⟩ u12).heap[p]? = some (.cells #[u0, u1, u2, u3, u4, u5, u6, u7, u8, u9, u10, u11, u12] T (0, 0)) := held_set h11 12 u12
  have o12 : Only p U (W11.setCell ⟨p, 12, none⟩ u12) := putS o11 12 u12
  obtain ⟨W12, hW12⟩ : ∃ W, (W11.setCell ⟨p, 12, none⟩ u12) = W := ⟨_, rfl⟩
  rw [hW12] at h12 o12 ⊢
  exact ⟨_, rfl, h12, o12⟩
/-- A record. -/
def recC (t : Int) (v : List Int) : Array Value := (Value.int .u32 t :: v.map (Value.int .i32)).toArray
theorem recC_set (t : Int) (v : List Int) (k : Nat) (x : Int) : (recC t v).setIfInBounds (1 + k) (.int .i32 x) = recC t (v.set k x) := by
  unfold recC
  rw [Nat.add_comm 1 k]
  simp
theorem recC_at (t : Int) (v : List Int) (k : Nat) (hk : k < v.length) : (recC t v)[1 + k]? = some (.int .i32 (v.getD k 0)) := by
  unfold recC
  rw [Nat.add_comm 1 k]
  simp [hk]
def gz (v : List Int) (j : Nat) : Int := v.getD j 0
def recA (t : Int) (v : List Int) : Value := .agg #[.int .u32 t, .int .i32 (gz v 0), .int .i32 (gz v 1), .int .i32 (gz v 2), .int .i32 (gz v 3), .int .i32 (gz v 4), .int .i32 (gz v 5), .int .i32 (gz v 6), .int .i32 (gz v 7), .int .i32 (gz v 8), .int .i32 (gz v 9), .int .i32 (gz v 10), .int .i32 (gz v 11)]
def zer12 : List Int := List.replicate 12 0
/-- The record that some bytes begin with, whole. -/
def fieldK (bs : List Int) (i : Nat) : Int := sgn 4 (numB ((bs.drop (4 + 4 * i)).take 4) 4)
def takK (bs : List Int) : (Int × List Int) × Int × Int :=
  if bs.length < 52 then ((0, zer12), 0, 2) else ((((numB (bs.take 4) 4 : Nat) : Int), (List.range 12).map (fieldK bs)), 52, 0)
theorem fieldK_at (bs : List Int) (k : Nat) (hk : k < 12) : ((List.range 12).map (fieldK bs))[k]? = some (fieldK bs k) := by simp [hk]
theorem cut52 (bs : List Int) (n : Nat) (h : n + 4 ≤ 52) : ((bs.take 52).drop n).take 4 = (bs.drop n).take 4 := by
  rw [List.drop_take, List.take_take]
  congr 1
  omega
theorem set_same {v S : List Int} {k : Nat} {x : Int} (hl : v.length = 12) (h : ∀ j, j < k → v[j]? = S[j]?) (hk : k < 12) (hx : S[k]? = some x) : (v.set k x).length = 12 ∧ ∀ j, j < k + 1 → (v.set k x)[j]? = S[j]? := by
  refine ⟨by rw [List.length_set, hl], fun j hj => ?_⟩
  rw [List.getElem?_set]
  by_cases e : k = j
  · subst e
    rw [if_pos rfl, if_pos (by omega), hx]
  · rw [if_neg e]
    exact h j (by omega)
theorem all_same {v S : List Int} (hl : v.length = 12) (hs : S.length = 12) (h : ∀ j, j < 12 → v[j]? = S[j]?) : v = S := by
  refine List.ext_getElem? fun j => ?_
  by_cases c : j < 12
  · exact h j c
  · rw [List.getElem?_eq_none (by omega), List.getElem?_eq_none (by omega)]
theorem numB4 (zs : List Int) (hb : ∀ x ∈ zs, (Lit.int .u8 x).wf = true) : numB zs 4 < 4294967296 := by
  have hg := fun i => getD_bd (bytes_bd hb) i
  have := numB_lt zs (fun i => by have := hg i; omega) 4
  omega
theorem sgn4 {u : Nat} (h : u < 4294967296) : -2147483648 ≤ sgn 4 u ∧ sgn 4 u ≤ 2147483647 := by
  unfold sgn
  split <;> omega
set_option maxRecDepth 100000 in
set_option maxHeartbeats 8000000 in
theorem rtakeKey_any (ba : Option Addr) (bl bc : Nat) (bs : List Int) (w : World) (hS : Sl .u8 w ba bl bc bs) (hz : ∀ x ∈ bs, (Lit.int .u8 x).wf = true) (hbl : bl ≤ 100000) : Calls Try.prog 29 #[.slice ba bl bc] w fun e w' => e = .returned (.tuple #[recA (takK bs).1.1 (takK bs).1.2, .int .i64 (takK bs).2.1, .int .i64 (takK bs).2.2]) ∧ After w w' := by
  obtain ⟨r, hr⟩ : ∃ r, takK bs = r := ⟨_, rfl⟩
  rw [hr]
  have hl0 := hid hS.1
  have hcc := hS.2.1
  have hcm : bc ≤ 9223372036854775807 := Nat.le_trans hS.2.2.1 (by decide)
  have hS0 := hid hS
  clear hS
  replace hz := hid hz
  go_enter Try.func29, Try.ntmps29
  go_upto_region 0 with (fail)
  apply wp_region_seg0 (w := w) (S := [.al 1000, .q [], .q []]) (E := [.al ((fun p => .pointer (some ⟨p, 0, none⟩)), _) 1000, .q0 _, .q0 _]) rfl (by kernel_rfl) rfl rfl
  intro th hge hne
  refine Seg.step _ rfl ⟨by rfl, fun U hU => ?_⟩ ?_
  · go_simp; exact vp_alloc rfl rfl rfl
  refine ⟨_, by (simp only [Ent.val]; go_simp <;> exact rfl), ?_⟩
  refine Seg.step _ rfl (Or.inl ⟨by rfl, fun U hU => vp_quiet (by (go_simp <;> exact rfl))⟩) ⟨_, by (simp only [Ent.val]; go_simp <;> exact rfl), ?_⟩
  refine Seg.step _ rfl (Or.inl ⟨by rfl, fun U hU => vp_quiet (by (go_simp <;> exact rfl))⟩) ⟨_, by (simp only [Ent.val]; go_simp <;> exact rfl), ?_⟩
  refine Seg.stop (fun U1 hU hk => ?_)
  have nb0 := hge 0 _ _ rfl
  have rb0 := (hk 0 _ _ rfl trivial).1.2 (by simp)
  clear hk hge hne
  generalize th (0 + 0) = p0_0 at *
  dsimp only at rb0
  have r_p0_0 := rb0
  clear rb0
  have n_p0_0 := nb0
  clear nb0
  have sz1 := hU.size
  have hB : Below w.heap.size w U1 := hU
  clear hU
  have n0 := n_p0_0
  have hBs := hB.size
  replace hB := hid hB
  replace r_p0_0 := hid r_p0_0
  by_cases c : (bl : Int) < 52
  case pos =>
    have e := hid (show r = ((0, zer12), 0, 2) by rw [← hr]; unfold takK; rw [if_pos (by have := hl0.out; omega)])
    clear hr
    have r0 := r_p0_0.out
    have y0 := held_cell r0 0 _ rfl
    have y1 := held_cell r0 1 _ rfl
    have y2 := held_cell r0 2 _ rfl
    have y3 := held_cell r0 3 _ rfl
    have y4 := held_cell r0 4 _ rfl
    have y5 := held_cell r0 5 _ rfl
    have y6 := held_cell r0 6 _ rfl
    have y7 := held_cell r0 7 _ rfl
    have y8 := held_cell r0 8 _ rfl
    have y9 := held_cell r0 9 _ rfl
    have y10 := held_cell r0 10 _ rfl
    have y11 := held_cell r0 11 _ rfl
    have y12 := held_cell r0 12 _ rfl
    have f0 := held_free r0 0
    have f1 := held_free r0 1
    have f2 := held_free r0 2
    have f3 := held_free r0 3
    have f4 := held_free r0 4
    have f5 := held_free r0 5
    have f6 := held_free r0 6
    have f7 := held_free r0 7
    have f8 := held_free r0 8
    have f9 := held_free r0 9
    have f10 := held_free r0 10
    have f11 := held_free r0 11
    have f12 := held_free r0 12
    obtain ⟨W4, hW4, ya, yO⟩ := st13 r0 (.int .u32 0) (.int .i32 0) (.int .i32 0) (.int .i32 0) (.int .i32 0) (.int .i32 0) (.int .i32 0) (.int .i32 0) (.int .i32 0) (.int .i32 0) (.int .i32 0) (.int .i32 0) (.int .i32 0)
    have ez0 := held_cell ya 0 _ rfl
    have ez1 := held_cell ya 1 _ rfl
    have ez2 := held_cell ya 2 _ rfl
    have ez3 := held_cell ya 3 _ rfl
    have ez4 := held_cell ya 4 _ rfl
    have ez5 := held_cell ya 5 _ rfl
    have ez6 := held_cell ya 6 _ rfl
    have ez7 := held_cell ya 7 _ rfl
    have ez8 := held_cell ya 8 _ rfl
    have ez9 := held_cell ya 9 _ rfl
    have ez10 := held_cell ya 10 _ rfl
    have ez11 := held_cell ya 11 _ rfl
    have ez12 := held_cell ya 12 _ rfl
    have hB4 := hid (belowS hB.out yO n0)
    clear ya yO
    go_wp2_with fail
    try rw [Exit.noGoto_ret]
    refine bodyPost_ret (v := .tuple #[.agg #[.int .u32 0, .int .i32 0, .int .i32 0, .int .i32 0, .int .i32 0, .int .i32 0, .int .i32 0, .int .i32 0, .int .i32 0, .int .i32 0, .int .i32 0, .int .i32 0, .int .i32 0], .int .i64 0, .int .i64 2]) (by simp [results, Try.results29, go_sem, ez0, ez1, ez2, ez3, ez4, ez5, ez6, ez7, ez8, ez9, ez10, ez11, ez12]) rfl ?_
    rw [e.out]
    exact ⟨rfl, hB4.out⟩
  have e := hid (show r = ((((numB (bs.take 4) 4 : Nat) : Int), (List.range 12).map (fieldK bs)), 52, 0) by rw [← hr]; unfold takK; rw [if_neg (by have := hl0.out; omega)])
  obtain ⟨SS, hSS⟩ : ∃ S, (List.range 12).map (fieldK bs) = S := ⟨_, rfl⟩
  rw [hSS] at e
  have hSl := hid (show SS.length = 12 by rw [← hSS]; simp)
  have hSat := hid (show ∀ k, k < 12 → SS[k]? = some (fieldK bs k) from fun k hk => by rw [← hSS]; exact fieldK_at bs k hk)
  clear hSS hr
  obtain ⟨b, off, rfl⟩ : ∃ b off, ba = some ⟨b, off, none⟩ := by obtain ⟨b, off, e, _⟩ := hS0.out.2.2.2.2 0 (by have := hl0.out; omega); exact ⟨b, off, e⟩
  have hb8c : (4 : Int) ≤ bc := by omega
  have hb8l : (4 : Int) ≤ bl := by omega
  have hS4 := hid ((hS0.out.take 4 (by omega)).below hB.out)
  have hz4 := hid (fun x hx => hz.out x (List.mem_of_mem_take (i := 4) hx))
  have hl4 : (bs.take 4).length = 4 := by rw [List.length_take]; have := hl0.out; omega
  have hkr : numR (bs.take 4) = numB (bs.take 4) 4 := by rw [numR_all, hl4]
  have hT4 := numB4 (bs.take 4) hz4.out
  obtain ⟨T, hT⟩ : ∃ T : Int, ((numB (bs.take 4) 4 : Nat) : Int) = T := ⟨_, rfl⟩
  have hTb : 0 ≤ T ∧ T ≤ 4294967295 := by omega
  have kn := hid (fun W (h : Sl .u8 W (some ⟨b, off, none⟩) 4 bc (bs.take 4)) => rnumber_any (some ⟨b, off, none⟩) 4 bc (bs.take 4) W h (bytes_bd hz4.out) (by decide))
  rw [hkr, hT] at kn
  replace hT := hid hT
  clear hT4 hkr hl4
  have wt : IntKind.u32.wrap T = T := by rw [IntKind.wrap_u32]; omega
  have r1 := r_p0_0.out
  go_wp2_with fail
  refine (kn.out _ hS4.out).mono ?_
  rintro e5 V5 ⟨rfl, hv5⟩
  obtain rfl : U1 = V5 := hv5.symm
  clear hv5
  have nA6 := alloc_new U1 (.cells (recC T zer12) 33)
  have q6 := nA6.2.2
  have hA6 := nA6.2.1
  obtain ⟨t6, ht6⟩ : ∃ q, U1.heap.size = q := ⟨_, rfl⟩
  rw [ht6] at q6
  have r4 := held_after hA6 r1
  have hB4 := hid (bthen hB.out hA6)
  have n6 : w.heap.size ≤ t6 := by omega
  have d06 : p0_0 ≠ t6 := by have := held_lt r1; omega
  clear nA6 hA6 r1 hB kn hS4
  go_upto_region 4 with (fail)
  try rw [ht6]
  obtain ⟨W6, hW6e⟩ : ∃ W, U1.alloc (.cells (recC T zer12) 33) = W := ⟨_, rfl⟩
  rw [show U1.alloc (.cells #[.int .u32 T, .int .i32 0, .int .i32 0, .int .i32 0, .int .i32 0, .int .i32 0, .int .i32 0, .int .i32 0, .int .i32 0, .int .i32 0, .int .i32 0, .int .i32 0, .int .i32 0] 33) = W6 from hW6e]
  rw [hW6e] at q6 r4 hB4
  clear hW6e ht6
  go_wp2_with fail
  go_loopw [6] (fun ix wr => ∃ (k : Nat) (v : List Int), k ≤ 12 ∧ ix = .int .i64 k ∧ Hid (v.length = 12 ∧ ∀ j, j < k → v[j]? = SS[j]?) ∧ wr.heap[t6]? = some (.cells (recC T v) 33 (0, 0)) ∧ wr.heap[p0_0]? = some (.cells #[.int .u32 0, .int .i32 0, .int .i32 0, .int .i32 0, .int .i32 0, .int .i32 0, .int .i32 0, .int .i32 0, .int .i32 0, .int .i32 0, .int .i32 0, .int .i32 0, .int .i32 0] 33 (0, 0)) ∧ Below w.heap.size w wr) (fun ix _ => 12 - (intOf ix).toNat)
  case atStart => exact ⟨0, zer12, by omega, rfl, hid ⟨rfl, fun j hj => by omega⟩, q6, r4, hB4.out⟩
  case round =>
    clear q6 r4 hB4
    obtain ⟨k, v, hk, rfl, hl9, r6, r0, hB⟩ := hrel
    have sB := hB.size
    by_cases hlt : (k : Int) < 12
    case neg =>
      obtain rfl : k = 12 := by omega
      have hvS := all_same hl9.out.1 hSl.out hl9.out.2
      have e9 := hid (show r = ((T, v), 52, 0) by rw [e.out, hT.out, hvS])
      clear hvS e
      obtain ⟨x0, x1, x2, x3, x4, x5, x6, x7, x8, x9, x10, x11, rfl⟩ := list12 hl9.out.1
      have r6l : wr.heap[t6]? = some (.cells #[.int .u32 T, .int .i32 x0, .int .i32 x1, .int .i32 x2, .int .i32 x3, .int .i32 x4, .int .i32 x5, .int .i32 x6, .int .i32 x7, .int .i32 x8, .int .i32 x9, .int .i32 x10, .int .i32 x11] 33 (0, 0)) := r6
      have m0 := held_cell r6l 0 _ rfl
      have m1 := held_cell r6l 1 _ rfl
      have m2 := held_cell r6l 2 _ rfl
      have m3 := held_cell r6l 3 _ rfl
      have m4 := held_cell r6l 4 _ rfl
      have m5 := held_cell r6l 5 _ rfl
      have m6 := held_cell r6l 6 _ rfl
      have m7 := held_cell r6l 7 _ rfl
      have m8 := held_cell r6l 8 _ rfl
      have m9 := held_cell r6l 9 _ rfl
      have m10 := held_cell r6l 10 _ rfl
      have m11 := held_cell r6l 11 _ rfl
      have m12 := held_cell r6l 12 _ rfl
      clear r6 hl9
      replace r6l := hid r6l
      have y0 := held_cell r0 0 _ rfl
      have y1 := held_cell r0 1 _ rfl
      have y2 := held_cell r0 2 _ rfl
      have y3 := held_cell r0 3 _ rfl
      have y4 := held_cell r0 4 _ rfl
      have y5 := held_cell r0 5 _ rfl
      have y6 := held_cell r0 6 _ rfl
      have y7 := held_cell r0 7 _ rfl
      have y8 := held_cell r0 8 _ rfl
      have y9 := held_cell r0 9 _ rfl
      have y10 := held_cell r0 10 _ rfl
      have y11 := held_cell r0 11 _ rfl
      have y12 := held_cell r0 12 _ rfl
      have f0 := held_free r0 0
      have f1 := held_free r0 1
      have f2 := held_free r0 2
      have f3 := held_free r0 3
      have f4 := held_free r0 4
      have f5 := held_free r0 5
      have f6 := held_free r0 6
      have f7 := held_free r0 7
      have f8 := held_free r0 8
      have f9 := held_free r0 9
      have f10 := held_free r0 10
      have f11 := held_free r0 11
      have f12 := held_free r0 12
      obtain ⟨W4, hW4, ya, yO⟩ := st13 r0 (.int .u32 T) (.int .i32 x0) (.int .i32 x1) (.int .i32 x2) (.int .i32 x3) (.int .i32 x4) (.int .i32 x5) (.int .i32 x6) (.int .i32 x7) (.int .i32 x8) (.int .i32 x9) (.int .i32 x10) (.int .i32 x11)
      have ez0 := held_cell ya 0 _ rfl
      have ez1 := held_cell ya 1 _ rfl
      have ez2 := held_cell ya 2 _ rfl
      have ez3 := held_cell ya 3 _ rfl
      have ez4 := held_cell ya 4 _ rfl
      have ez5 := held_cell ya 5 _ rfl
      have ez6 := held_cell ya 6 _ rfl
      have ez7 := held_cell ya 7 _ rfl
      have ez8 := held_cell ya 8 _ rfl
      have ez9 := held_cell ya 9 _ rfl
      have ez10 := held_cell ya 10 _ rfl
      have ez11 := held_cell ya 11 _ rfl
      have ez12 := held_cell ya 12 _ rfl
      have hB4 := hid (belowS hB yO n0)
      clear ya yO
      go_wp2_with fail
      try rw [Exit.noGoto_ret]
      refine bodyPost_ret (v := .tuple #[.agg #[.int .u32 T, .int .i32 x0, .int .i32 x1, .int .i32 x2, .int .i32 x3, .int .i32 x4, .int .i32 x5, .int .i32 x6, .int .i32 x7, .int .i32 x8, .int .i32 x9, .int .i32 x10, .int .i32 x11], .int .i64 52, .int .i64 0]) (by simp [results, Try.results29, go_sem, ez0, ez1, ez2, ez3, ez4, ez5, ez6, ez7, ez8, ez9, ez10, ez11, ez12]) rfl ?_
      rw [e9.out]
      exact ⟨rfl, hB4.out⟩
    have hk2 : k < 12 := by omega
    obtain ⟨lo, hlo⟩ : ∃ lo : Nat, lo = 4 + 4 * k := ⟨_, rfl⟩
    obtain ⟨hi, hhi⟩ : ∃ hi : Nat, hi = 8 + 4 * k := ⟨_, rfl⟩
    have hSk : Sl .u8 wr (some ⟨b, off + lo, none⟩) 4 (bc - lo) ((bs.drop lo).take 4) := by have h := ((hS0.out.drop lo (by omega)).take 4 (by omega)).below hB; simpa [add_at] using h
    have hzk := fun x hx => hz.out x (List.mem_of_mem_drop (List.mem_of_mem_take (i := 4) (l := bs.drop lo) hx))
    have hlk : ((bs.drop lo).take 4).length = 4 := by rw [List.length_take, List.length_drop, hl0.out]; omega
    have hnk := numB4 ((bs.drop lo).take 4) hzk
    have hkr : numR ((bs.drop lo).take 4) = numB ((bs.drop lo).take 4) 4 := by rw [numR_all, hlk]
    have hxb := sgn4 hnk
    have hfk : sgn 4 (numB ((bs.drop lo).take 4) 4) = fieldK bs k := by rw [hlo]; rfl
    rw [hfk] at hxb
    have hSx := hid (hSat.out k hk2)
    have kn := hid (rnumber_any (some ⟨b, off + lo, none⟩) 4 (bc - lo) ((bs.drop lo).take 4) wr hSk (bytes_bd hzk) (by decide))
    rw [hkr] at kn
    obtain ⟨u, hu⟩ : ∃ u, numB ((bs.drop lo).take 4) 4 = u := ⟨_, rfl⟩
    rw [hu] at kn hnk hfk
    have ks := hid (fun W => rsigned_any 4 (by decide) (by decide) u hnk W)
    rw [hfk] at ks
    obtain ⟨x, hx⟩ : ∃ x, fieldK bs k = x := ⟨_, rfl⟩
    rw [hx] at hxb hSx ks
    clear hx hfk hu hkr hlk hSk hzk
    have hl8 := hid (set_same (S := SS) (v := v) (k := k) (x := x) hl9.out.1 hl9.out.2 hk2 hSx.out)
    have wa1 : IntKind.i64.wrap (4 * (k : Int)) = 4 * (k : Int) := by rw [IntKind.wrap_i64]; omega
    have wa2 : IntKind.i64.wrap (4 + 4 * (k : Int)) = (lo : Int) := by rw [IntKind.wrap_i64]; omega
    have wa3 : IntKind.i64.wrap (8 + 4 * (k : Int)) = (hi : Int) := by rw [IntKind.wrap_i64]; omega
    have n1 : (lo : Int) ≤ (hi : Int) := by omega
    have n2 : (hi : Int) ≤ bc := by omega
    have n3 : ¬ bc = lo := by omega
    have n4 : hi - lo = 4 := by omega
    have wx : IntKind.i32.wrap x = x := by rw [IntKind.wrap_i32]; omega
    have kz : (0 : Int) ≤ k := by omega
    have wk : IntKind.i64.wrap ((k : Int) + 1) = (k : Int) + 1 := by rw [IntKind.wrap_i64]; omega
    have hk1 := hid (show k + 1 ≤ 12 by omega)
    clear hlo hhi hk hSx
    replace hB := hid hB
    have r65 := r6
    have r05 := r0
    replace r6 := hid r6
    replace r0 := hid r0
    go_wp2_with fail
    refine kn.out.mono ?_
    rintro e5 V5 ⟨rfl, hv5⟩
    obtain rfl : wr = V5 := hv5.symm
    clear hv5
    go_wp2_with fail
    refine (ks.out _).mono ?_
    rintro e5 V5 ⟨rfl, hv5⟩
    obtain rfl : wr = V5 := hv5.symm
    clear hv5 kn ks
    have cx : wr.cell? ⟨t6, 1 + k, none⟩ = some (.int .i32 (v.getD k 0)) := by rw [cell_of_row wr t6 (1 + k) _ 33 (0, 0) r65]; exact recC_at T v k (by have := hl9.out.1; omega)
    have fx := held_free r65 (1 + k)
    obtain ⟨S1, hS1, s1, o1⟩ := st1 r65 (1 + k) (.int .i32 x)
    rw [recC_set] at s1
    have z0 := hid ((o1.block p0_0 d06).trans r05)
    have hBf := hid (belowS hB.out o1 n6)
    clear r65 r05 r6 r0 hB
    replace s1 := hid s1
    clear o1 hl9
    go_wp2_with fail
    go_roundw
    case rel => exact ⟨k + 1, v.set k x, hk1.out, by simp, hl8, s1.out, z0.out, hBf.out⟩
    case measure => simp [intOf]; omega

end Go.Proofs.Ytkpncailoekjpaa
