/- Package block: entry. -/
import Derived.Test.YtkpncailoekjpaaBlk8
import Derived.Test.YtkpncailoekjpaaRecM
import Derived.Deep.DeepCutAuto
namespace Go.Proofs.Ytkpncailoekjpaa
open Go.ChangeShapes Go.WideShapes Go.ChangeAt Go.RowKit
set_option linter.unusedVariables false
set_option linter.unusedSimpArgs false

theorem st14 {U : World} {p : Nat} {v0 v1 v2 v3 v4 v5 v6 v7 v8 v9 v10 v11 v12 v13 : Value} {T : TypeId} (h : U.heap[p]? = some (.cells #[v0, v1, v2, v3, v4, v5, v6, v7, v8, v9, v10, v11, v12, v13] T (0, 0))) (u0 u1 u2 u3 u4 u5 u6 u7 u8 u9 u10 u11 u12 u13 : Value) :
    ∃ W2, ((((((((((((((U.setCell ⟨p, 0, none⟩ u0).setCell ⟨p, 1, none⟩ u1).setCell ⟨p, 2, none⟩ u2).setCell ⟨p, 3, none⟩ u3).setCell ⟨p, 4, none⟩ u4).setCell ⟨p, 5, none⟩ u5).setCell ⟨p, 6, none⟩ u6).setCell ⟨p, 7, none⟩ u7).setCell ⟨p, 8, none⟩ u8).setCell ⟨p, 9, none⟩ u9).setCell ⟨p, 10, none⟩ u10).setCell ⟨p, 11, none⟩ u11).setCell ⟨p, 12, none⟩ u12).setCell ⟨p, 13, none⟩ u13) = W2 ∧ W2.heap[p]? = some (.cells #[u0, u1, u2, u3, u4, u5, u6, u7, u8, u9, u10, u11, u12, u13] T (0, 0)) ∧ Only p U W2 := by
  have h0 : (U.setCell ⟨p, 0, none⟩ u0).heap[p]? = some (.cells #[u0, v1, v2, v3, v4, v5, v6, v7, v8, v9, v10, v11, v12, v13] T (0, 0)) := held_set h 0 u0
  have o0 : Only p U (U.setCell ⟨p, 0, none⟩ u0) := Only.set p 0 u0 U
  obtain ⟨W0, hW0⟩ : ∃ W, (U.setCell ⟨p, 0, none⟩ u0) = W := ⟨_, rfl⟩
  rw [hW0] at h0 o0 ⊢
  have h1 : (W0.setCell ⟨p, 1, none⟩ u1).heap[p]? = some (.cells #[u0, u1, v2, v3, v4, v5, v6, v7, v8, v9, v10, v11, v12, v13] T (0, 0)) := held_set h0 1 u1
  have o1 : Only p U (W0.setCell ⟨p, 1, none⟩ u1) := putS o0 1 u1
  obtain ⟨W1, hW1⟩ : ∃ W, (W0.setCell ⟨p, 1, none⟩ u1) = W := ⟨_, rfl⟩
  rw [hW1] at h1 o1 ⊢
  have h2 : (W1.setCell ⟨p, 2, none⟩ u2).heap[p]? = some (.cells #[u0, u1, u2, v3, v4, v5, v6, v7, v8, v9, v10, v11, v12, v13] T (0, 0)) := held_set h1 2 u2
  have o2 : Only p U (W1.setCell ⟨p, 2, none⟩ u2) := putS o1 2 u2
  obtain ⟨W2, hW2⟩ : ∃ W, (W1.setCell ⟨p, 2, none⟩ u2) = W := ⟨_, rfl⟩
  rw [hW2] at h2 o2 ⊢
  have h3 : (W2.setCell ⟨p, 3, none⟩ u3).heap[p]? = some (.cells #[u0, u1, u2, u3, v4, v5, v6, v7, v8, v9, v10, v11, v12, v13] T (0, 0)) := held_set h2 3 u3
  have o3 : Only p U (W2.setCell ⟨p, 3, none⟩ u3) := putS o2 3 u3
  obtain ⟨W3, hW3⟩ : ∃ W, (W2.setCell ⟨p, 3, none⟩ u3) = W := ⟨_, rfl⟩
  rw [hW3] at h3 o3 ⊢
  have h4 : (W3.setCell ⟨p, 4, none⟩ u4).heap[p]? = some (.cells #[u0, u1, u2, u3, u4, v5, v6, v7, v8, v9, v10, v11, v12, v13] T (0, 0)) := held_set h3 4 u4
  have o4 : Only p U (W3.setCell ⟨p, 4, none⟩ u4) := putS o3 4 u4
  obtain ⟨W4, hW4⟩ : ∃ W, (W3.setCell ⟨p, 4, none⟩ u4) = W := ⟨_, rfl⟩
  rw [hW4] at h4 o4 ⊢
  have h5 : (W4.setCell ⟨p, 5, none⟩ u5).heap[p]? = some (.cells #[u0, u1, u2, u3, u4, u5, v6, v7, v8, v9, v10, v11, v12, v13] T (0, 0)) := held_set h4 5 u5
  have o5 : Only p U (W4.setCell ⟨p, 5, none⟩ u5) := putS o4 5 u5
  obtain ⟨W5, hW5⟩ : ∃ W, (W4.setCell ⟨p, 5, none⟩ u5) = W := ⟨_, rfl⟩
  rw [hW5] at h5 o5 ⊢
  have h6 : (W5.setCell ⟨p, 6, none⟩ u6).heap[p]? = some (.cells #[u0, u1, u2, u3, u4, u5, u6, v7, v8, v9, v10, v11, v12, v13] T (0, 0)) := held_set h5 6 u6
  have o6 : Only p U (W5.setCell ⟨p, 6, none⟩ u6) := putS o5 6 u6
  obtain ⟨W6, hW6⟩ : ∃ W, (W5.setCell ⟨p, 6, none⟩ u6) = W := ⟨_, rfl⟩
  rw [hW6] at h6 o6 ⊢
  have h7 : (W6.setCell ⟨p, 7, none⟩ u7).heap[p]? = some (.cells #[u0, u1, u2, u3, u4, u5, u6, u7, v8, v9, v10, v11, v12, v13] T (0, 0)) := held_set h6 7 u7
  have o7 : Only p U (W6.setCell ⟨p, 7, none⟩ u7) := putS o6 7 u7
  obtain ⟨W7, hW7⟩ : ∃ W, (W6.setCell ⟨p, 7, none⟩ u7) = W := ⟨_, rfl⟩
  rw [hW7] at h7 o7 ⊢
  have h8 : (W7.setCell ⟨p, 8, none⟩ u8).heap[p]? = some (.cells #[u0, u1, u2, u3, u4, u5, u6, u7, u8, v9, v10, v11, v12, v13] T (0, 0)) := held_set h7 8 u8
  have o8 : Only p U (W7.setCell ⟨p, 8, none⟩ u8) := putS o7 8 u8
  obtain ⟨W8, hW8⟩ : ∃ W, (W7.setCell ⟨p, 8, none⟩ u8) = W := ⟨_, rfl⟩
  rw [hW8] at h8 o8 ⊢
  have h9 : (W8.setCell ⟨p, 9, none⟩ u9).heap[p]? = some (.cells #[u0, u1, u2, u3, u4, u5, u6, u7, u8, u9, v10, v11, v12, v13] T (0, 0)) := held_set h8 9 u9
  have o9 : Only p U (W8.setCell ⟨p, 9, none⟩ u9) := putS o8 9 u9
  obtain ⟨W9, hW9⟩ : ∃ W, (W8.setCell ⟨p, 9, none⟩ u9) = W := ⟨_, rfl⟩
  rw [hW9] at h9 o9 ⊢
  have h10 : (W9.setCell ⟨p, 10, none⟩ u10).heap[p]? = some (.cells #[u0, u1, u2, u3, u4, u5, u6, u7, u8, u9, u10, v11, v12, v13] T (0, 0)) := held_set h9 10 u10
  have o10 : Only p U (W9.setCell ⟨p, 10, none⟩ u10) := putS o9 10 u10
  obtain ⟨W10, hW10⟩ : ∃ W, (W9.setCell ⟨p, 10, none⟩ u10) = W := ⟨_, rfl⟩
  rw [hW10] at h10 o10 ⊢
  have h11 : (W10.setCell ⟨p, 11, none⟩ u11).heap[p]? = some (.cells #[u0, u1, u2, u3, u4, u5, u6, u7, u8, u9, u10, u11, v12, v13] T (0, 0)) := held_set h10 11 u11
  have o11 : Only p U (W10.setCell ⟨p, 11, none⟩ u11) := putS o10 11 u11
  obtain ⟨W11, hW11⟩ : ∃ W, (W10.setCell ⟨p, 11, none⟩ u11) = W := ⟨_, rfl⟩
  rw [hW11] at h11 o11 ⊢
  have h12 : (W11.setCell ⟨p, 12, none⟩ u12).heap[p]? = some (.cells #[u0, u1, u2, u3, u4, u5, u6, u7, u8, u9, u10, u11, u12, v13] T (0, 0)) := held_set h11 12 u12
  have o12 : Only p U (W11.setCell ⟨p, 12, none⟩ u12) := putS o11 12 u12
  obtain ⟨W12, hW12⟩ : ∃ W, (W11.setCell ⟨p, 12, none⟩ u12) = W := ⟨_, rfl⟩
  rw [hW12] at h12 o12 ⊢
  have h13 : (W12.setCell ⟨p, 13, none⟩ u13).heap[p]? = some (.cells #[u0, u1, u2, u3, u4, u5, u6, u7, u8, u9, u10, u11, u12, u13] T (0, 0)) := held_set h12 13 u13
  have o13 : Only p U (W12.setCell ⟨p, 13, none⟩ u13) := putS o12 13 u13
  obtain ⟨W13, hW13⟩ : ∃ W, (W12.setCell ⟨p, 13, none⟩ u13) = W := ⟨_, rfl⟩
  rw [hW13] at h13 o13 ⊢
  exact ⟨_, rfl, h13, o13⟩
theorem st13e {U : World} {p : Nat} {v0 v1 v2 v3 v4 v5 v6 v7 v8 v9 v10 v11 v12 v13 : Value} {T : TypeId} (h : U.heap[p]? = some (.cells #[v0, v1, v2, v3, v4, v5, v6, v7, v8, v9, v10, v11, v12, v13] T (0, 0))) (u1 u2 u3 u4 u5 u6 u7 u8 u9 u10 u11 u12 u13 : Value) :
    ∃ W2, (((((((((((((U.setCell ⟨p, 1, none⟩ u1).setCell ⟨p, 2, none⟩ u2).setCell ⟨p, 3, none⟩ u3).setCell ⟨p, 4, none⟩ u4).setCell ⟨p, 5, none⟩ u5).setCell ⟨p, 6, none⟩ u6).setCell ⟨p, 7, none⟩ u7).setCell ⟨p, 8, none⟩ u8).setCell ⟨p, 9, none⟩ u9).setCell ⟨p, 10, none⟩ u10).setCell ⟨p, 11, none⟩ u11).setCell ⟨p, 12, none⟩ u12).setCell ⟨p, 13, none⟩ u13) = W2 ∧ W2.heap[p]? = some (.cells #[v0, u1, u2, u3, u4, u5, u6, u7, u8, u9, u10, u11, u12, u13] T (0, 0)) ∧ Only p U W2 := by
  have h1 : (U.setCell ⟨p, 1, none⟩ u1).heap[p]? = some (.cells #[v0, u1, v2, v3, v4, v5, v6, v7, v8, v9, v10, v11, v12, v13] T (0, 0)) := held_set h 1 u1
  have o1 : Only p U (U.setCell ⟨p, 1, none⟩ u1) := Only.set p 1 u1 U
  obtain ⟨W1, hW1⟩ : ∃ W, (U.setCell ⟨p, 1, none⟩ u1) = W := ⟨_, rfl⟩
  rw [hW1] at h1 o1 ⊢
  have h2 : (W1.setCell ⟨p, 2, none⟩ u2).heap[p]? = some (.cells #[v0, u1, u2, v3, v4, v5, v6, v7, v8, v9, v10, v11, v12, v13] T (0, 0)) := held_set h1 2 u2
  have o2 : Only p U (W1.setCell ⟨p, 2, none⟩ u2) := putS o1 2 u2
  obtain ⟨W2, hW2⟩ : ∃ W, (W1.setCell ⟨p, 2, none⟩ u2) = W := ⟨_, rfl⟩
  rw [hW2] at h2 o2 ⊢
  have h3 : (W2.setCell ⟨p, 3, none⟩ u3).heap[p]? = some (.cells #[v0, u1, u2, u3, v4, v5, v6, v7, v8, v9, v10, v11, v12, v13] T (0, 0)) := held_set h2 3 u3
  have o3 : Only p U (W2.setCell ⟨p, 3, none⟩ u3) := putS o2 3 u3
  obtain ⟨W3, hW3⟩ : ∃ W, (W2.setCell ⟨p, 3, none⟩ u3) = W := ⟨_, rfl⟩
  rw [hW3] at h3 o3 ⊢
  have h4 : (W3.setCell ⟨p, 4, none⟩ u4).heap[p]? = some (.cells #[v0, u1, u2, u3, u4, v5, v6, v7, v8, v9, v10, v11, v12, v13] T (0, 0)) := held_set h3 4 u4
  have o4 : Only p U (W3.setCell ⟨p, 4, none⟩ u4) := putS o3 4 u4
  obtain ⟨W4, hW4⟩ : ∃ W, (W3.setCell ⟨p, 4, none⟩ u4) = W := ⟨_, rfl⟩
  rw [hW4] at h4 o4 ⊢
  have h5 : (W4.setCell ⟨p, 5, none⟩ u5).heap[p]? = some (.cells #[v0, u1, u2, u3, u4, u5, v6, v7, v8, v9, v10, v11, v12, v13] T (0, 0)) := held_set h4 5 u5
  have o5 : Only p U (W4.setCell ⟨p, 5, none⟩ u5) := putS o4 5 u5
  obtain ⟨W5, hW5⟩ : ∃ W, (W4.setCell ⟨p, 5, none⟩ u5) = W := ⟨_, rfl⟩
  rw [hW5] at h5 o5 ⊢
  have h6 : (W5.setCell ⟨p, 6, none⟩ u6).heap[p]? = some (.cells #[v0, u1, u2, u3, u4, u5, u6, v7, v8, v9, v10, v11, v12, v13] T (0, 0)) := held_set h5 6 u6
  have o6 : Only p U (W5.setCell ⟨p, 6, none⟩ u6) := putS o5 6 u6
  obtain ⟨W6, hW6⟩ : ∃ W, (W5.setCell ⟨p, 6, none⟩ u6) = W := ⟨_, rfl⟩
  rw [hW6] at h6 o6 ⊢
  have h7 : (W6.setCell ⟨p, 7, none⟩ u7).heap[p]? = some (.cells #[v0, u1, u2, u3, u4, u5, u6, u7, v8, v9, v10, v11, v12, v13] T (0, 0)) := held_set h6 7 u7
  have o7 : Only p U (W6.setCell ⟨p, 7, none⟩ u7) := putS o6 7 u7
  obtain ⟨W7, hW7⟩ : ∃ W, (W6.setCell ⟨p, 7, none⟩ u7) = W := ⟨_, rfl⟩
  rw [hW7] at h7 o7 ⊢
  have h8 : (W7.setCell ⟨p, 8, none⟩ u8).heap[p]? = some (.cells #[v0, u1, u2, u3, u4, u5, u6, u7, u8, v9, v10, v11, v12, v13] T (0, 0)) := held_set h7 8 u8
  have o8 : Only p U (W7.setCell ⟨p, 8, none⟩ u8) := putS o7 8 u8
  obtain ⟨W8, hW8⟩ : ∃ W, (W7.setCell ⟨p, 8, none⟩ u8) = W := ⟨_, rfl⟩
  rw [hW8] at h8 o8 ⊢
  have h9 : (W8.setCell ⟨p, 9, none⟩ u9).heap[p]? = some (.cells #[v0, u1, u2, u3, u4, u5, u6, u7, u8, u9, v10, v11, v12, v13] T (0, 0)) := held_set h8 9 u9
  have o9 : Only p U (W8.setCell ⟨p, 9, none⟩ u9) := putS o8 9 u9
  obtain ⟨W9, hW9⟩ : ∃ W, (W8.setCell ⟨p, 9, none⟩ u9) = W := ⟨_, rfl⟩
  rw [hW9] at h9 o9 ⊢
  have h10 : (W9.setCell ⟨p, 10, none⟩ u10).heap[p]? = some (.cells #[v0, u1, u2, u3, u4, u5, u6, u7, u8, u9, u10, v11, v12, v13] T (0, 0)) := held_set h9 10 u10
  have o10 : Only p U (W9.setCell ⟨p, 10, none⟩ u10) := putS o9 10 u10
  obtain ⟨W10, hW10⟩ : ∃ W, (W9.setCell ⟨p, 10, none⟩ u10) = W := ⟨_, rfl⟩
  rw [hW10] at h10 o10 ⊢
  have h11 : (W10.setCell ⟨p, 11, none⟩ u11).heap[p]? = some (.cells #[v0, u1, u2, u3, u4, u5, u6, u7, u8, u9, u10, u11, v12, v13] T (0, 0)) := held_set h10 11 u11
  have o11 : Only p U (W10.setCell ⟨p, 11, none⟩ u11) := putS o10 11 u11
  obtain ⟨W11, hW11⟩ : ∃ W, (W10.setCell ⟨p, 11, none⟩ u11) = W := ⟨_, rfl⟩
  rw [hW11] at h11 o11 ⊢
  have h12 : (W11.setCell ⟨p, 12, none⟩ u12).heap[p]? = some (.cells #[v0, u1, u2, u3, u4, u5, u6, u7, u8, u9, u10, u11, u12, v13] T (0, 0)) := held_set h11 12 u12
  have o12 : Only p U (W11.setCell ⟨p, 12, none⟩ u12) := putS o11 12 u12
  obtain ⟨W12, hW12⟩ : ∃ W, (W11.setCell ⟨p, 12, none⟩ u12) = W := ⟨_, rfl⟩
  rw [hW12] at h12 o12 ⊢
  have h13 : (W12.setCell ⟨p, 13, none⟩ u13).heap[p]? = some (.cells #[v0, u1, u2, u3, u4, u5, u6, u7, u8, u9, u10, u11, u12, u13] T (0, 0)) := held_set h12 13 u13
  have o13 : Only p U (W12.setCell ⟨p, 13, none⟩ u13) := putS o12 13 u13
  obtain ⟨W13, hW13⟩ : ∃ W, (W12.setCell ⟨p, 13, none⟩ u13) = W := ⟨_, rfl⟩
  rw [hW13] at h13 o13 ⊢
  exact ⟨_, rfl, h13, o13⟩
theorem bytes_bd2 {n : Int} (h : (Lit.int .u8 n).wf = true) : 0 ≤ n ∧ n ≤ 255 := bytes_bd (zs := [n]) (by simpa using h) n (by simp)
set_option maxRecDepth 100000 in
theorem cutSl (a : Option Addr) (len cap n : Nat) (hc : len ≤ cap) (hn : n ≤ len) : ∃ a2 : Option Addr, (∀ W : World, (Instr.slice 29 (.slice a len cap) (some (.int .i64 (n : Int))) none none).run Try.prog W = .ok (.slice a2 (len - n) (cap - n)) W) ∧ (∀ (U : World) (zs : List Int), Sl .u8 U a len cap zs → Sl .u8 U a2 (len - n) (cap - n) (zs.drop n)) := by
  have e : ∀ W : World, (Instr.slice 29 (.slice a len cap) (some (.int .i64 (n : Int))) none none).run Try.prog W = .ok (.slice (if cap = n then a else a.map (·.add n)) (len - n) (cap - n)) W := by
    intro W
    rw [run_slice_l W 29 a len cap (by rfl) .i64 (n : Int) (by omega) (by omega)]
    go_simp <;> simp [sliced]
  by_cases c : cap = n
  · refine ⟨a, ?_, ?_⟩
    · intro W; rw [e W, if_pos c]
    · intro U zs h
      have := h.end n hn c
      rw [show cap - n = 0 by omega]
      exact this
  · refine ⟨a.map (·.add n), ?_, ?_⟩
    · intro W; rw [e W, if_neg c]
    · intro U zs h
      exact h.drop n hn
theorem takK_n (bs : List Int) : (takK bs).2.1 = 0 ∨ (takK bs).2.1 = 52 := by unfold takK; split <;> simp
theorem takK_nl (bs : List Int) : 0 ≤ (takK bs).2.1 ∧ (takK bs).2.1 ≤ bs.length := by
  unfold takK; split
  · simp
  · simp; omega
theorem takD_n (t : Int) (a : List Int) {bs : List Int} (hz : ∀ x ∈ bs, (Lit.int .u8 x).wf = true) : 0 ≤ (takD t a bs).2.1 ∧ (takD t a bs).2.1 ≤ bs.length := by
  have b1 := nxS_bd (bs := bs) (at_ := 0) (e := 0) (hi := 4294967295) hz (Nat.zero_le _) (by omega) (by omega)
  have b2 := nxS_bd (hi := 4095) hz b1.2.1 (by omega) b1.2.2.1
  have b3 := tdL_bd (a := a) (mask := (nxS bs (nxS bs 0 0 4294967295).2.1 (nxS bs 0 0 4294967295).2.2 4095).1) hz b2.2.1 b2.2.2.1 12
  unfold takD
  split
  · simp
  · dsimp only
    have := b3.1
    omega
/-- An entry as a value. -/
def entA (x : En) : Value := .agg (entC x).toArray
def noE : En := (false, 0, zer12)
/-- The entry that some bytes begin with. -/
def entD (st : Int × List Int) (first : Bool) : List Int → En × Int × Bool
  | [] => (noE, 0, false)
  | c :: r => if c = 75 then ((true, (takK r).1), 1 + (takK r).2.1, (takK r).2.2 == 0) else if c = 68 ∧ first = false then ((false, (takD st.1 st.2 r).1), 1 + (takD st.1 st.2 r).2.1, (takD st.1 st.2 r).2.2 == 0) else (noE, 0, false)
theorem entD_cons (st : Int × List Int) (first : Bool) (c : Int) (r : List Int) : entD st first (c :: r) = if c = 75 then ((true, (takK r).1), 1 + (takK r).2.1, (takK r).2.2 == 0) else if c = 68 ∧ first = false then ((false, (takD st.1 st.2 r).1), 1 + (takD st.1 st.2 r).2.1, (takD st.1 st.2 r).2.2 == 0) else (noE, 0, false) := rfl
end Go.Proofs.Ytkpncailoekjpaa
