/- Package block: entry. -/
import Derived.Test.YtlfbhfmchdbnoaaBlk8
import Derived.Test.YtlfbhfmchdbnoaaKL
import Derived.Deep.DeepCutAuto
namespace Go.Proofs.Ytlfbhfmchdbnoaa
open Go.ChangeShapes Go.WideShapes Go.ChangeAt Go.RowKit
set_option linter.unusedVariables false
set_option linter.unusedSimpArgs false

theorem st14 {U : World} {p : Nat} {v0 v1 v2 v3 v4 v5 v6 v7 v8 v9 v10 v11 v12 v13 : Value} {T : TypeId} (h : U.heap[p]? = some (.cells #[v0, v1, v2, v3, v4, v5, v6, v7, v8, v9, v10, v11, v12, v13] T (0, 0))) (u0 u1 u2 u3 u4 u5 u6 u7 u8 u9 u10 u11 u12 u13 : Value) :
    ∃ W2, ((((((((((((((U.setCell ⟨p, 0, none⟩ u0).setCell ⟨p, 1, none⟩ u1).setCell ⟨p, 2, none⟩ u2).setCell ⟨p, 3, none⟩ u3).setCell ⟨p, 4, none⟩ u4).setCell ⟨p, 5, none⟩ u5).setCell ⟨p, 6, none⟩ u6).setCell ⟨p, 7, none⟩ u7).setCell ⟨p, 8, none⟩ u8).setCell ⟨p, 9, none⟩ u9).setCell ⟨p, 10, none⟩ u10).setCell ⟨p, 11, none⟩ u11).setCell ⟨p, 12, none⟩ u12).setCell ⟨p, 13, none⟩ u13) = W2 ∧ W2.heap[p]? = some (.cells #[u0, u1, u2, u3, u4, u5, u6, u7, u8, u9, u10, u11, u12, u13] T (0, 0)) ∧ Only p U W2 := by
  have h0 : (U.setCell ⟨p, 0, none⟩ u0).heap[p]? = some (.cells #[u0, v1, v2, v3, v4, v5, v6, v7, v8, v9, v10, v11, v12, v13] T (0, 0)) := held_set h 0 u0
  have o0 : Only p U (U.setCell ⟨p, 0, none⟩ u0) := Only.set p 0 u0 U
  obtain ⟨W0, hW0⟩ : ∃ W, (U.setCell ⟨p, 0, none⟩ u0) = W := ⟨_, rfl⟩
  rw [hW0] at h0 o0 ⊢
  have h1 : (W0.setCell ⟨p, 1, none⟩ u1).heap[p]? = some (.cells #[u0, u1, v2, v3, v4, v5, v6, v7, v8, v9, v10, v11, v12, v13] T (0, 0)) := held_set h0 1 u1
  have o1 : Only p U (W0.setCell ⟨p, 1, none⟩ u1) := putS o0 1 u1
  obtain ⟨W1, hW1⟩ : ∃ W, (W0.setCell ⟨p, 1, none⟩ u1) = W := ⟨_, rfl⟩
  rw [hW1] at h1 o1 ⊢
  have h2 : (W1.setCell ⟨p, 2, none⟩ u2).heap[p]? = some (.cells #[u0, u1, u2, v3, v4, v5, v6, v7, v8, v9, v10, v11, v12, v13] T (0, 0)) := held_set h1 2 u2
  have o2 : Only p U (W1.setCell ⟨p, 2, none⟩ u2) := putS o1 2 u2
  obtain ⟨W2, hW2⟩ : ∃ W, (W1.setCell ⟨p, 2, none⟩ u2) = W := ⟨_, rfl⟩
  rw [hW2] at h2 o2 ⊢
  have h3 : (W2.setCell ⟨p, 3, none⟩ u3).heap[p]? = some (.cells #[u0, u1, u2, u3, v4, v5, v6, v7, v8, v9, v10, v11, v12, v13] T (0, 0)) := held_set h2 3 u3
  have o3 : Only p U (W2.setCell ⟨p, 3, none⟩ u3) := putS o2 3 u3
  obtain ⟨W3, hW3⟩ : ∃ W, (W2.setCell ⟨p, 3, none⟩ u3) = W := ⟨_, rfl⟩
  rw [hW3] at h3 o3 ⊢
  have h4 : (W3.setCell ⟨p, 4, none⟩ u4).heap[p]? = some (.cells #[u0, u1, u2, u3, u4, v5, v6, v7, v8, v9, v10, v11, v12, v13] T (0, 0)) := held_set h3 4 u4
  have o4 : Only p U (W3.setCell ⟨p, 4, none⟩ u4) := putS o3 4 u4
  obtain ⟨W4, hW4⟩ : ∃ W, (W3.setCell ⟨p, 4, none⟩ u4) = W := ⟨_, rfl⟩
  rw [hW4] at h4 o4 ⊢
  have h5 : (W4.setCell ⟨p, 5, none⟩ u5).heap[p]? = some (.cells #[u0, u1, u2, u3, u4, u5, v6, v7, v8, v9, v10, v11, v12, v13] T (0, 0)) := held_set h4 5 u5
  have o5 : Only p U (W4.setCell ⟨p, 5, none⟩ u5) := putS o4 5 u5
  obtain ⟨W5, hW5⟩ : ∃ W, (W4.setCell ⟨p, 5, none⟩ u5) = W := ⟨_, rfl⟩
  rw [hW5] at h5 o5 ⊢
  have h6 : (W5.setCell ⟨p, 6, none⟩ u6).heap[p]? = some (.cells #[u0, u1, u2, u3, u4, u5, u6, v7, v8, v9, v10, v11, v12, v13] T (0, 0)) := held_set h5 6 u6
  have o6 : Only p U (W5.setCell ⟨p, 6, none⟩ u6) := putS o5 6 u6
  obtain ⟨W6, hW6⟩ : ∃ W, (W5.setCell ⟨p, 6, none⟩ u6) = W := ⟨_, rfl⟩
  rw [hW6] at h6 o6 ⊢
  have h7 : (W6.setCell ⟨p, 7, none⟩ u7).heap[p]? = some (.cells #[u0, u1, u2, u3, u4, u5, u6, u7, v8, v9, v10, v11, v12, v13] T (0, 0)) := held_set h6 7 u7
  have o7 : Only p U (W6.setCell ⟨p, 7, none⟩ u7) := putS o6 7 u7
  obtain ⟨W7, hW7⟩ : ∃ W, (W6.setCell ⟨p, 7, none⟩ u7) = W := ⟨_, rfl⟩
  rw [hW7] at h7 o7 ⊢
  have h8 : (W7.setCell ⟨p, 8, none⟩ u8).heap[p]? = some (.cells #[u0, u1, u2, u3, u4, u5, u6, u7, u8, v9, v10, v11, v12, v13] T (0, 0)) := held_set h7 8 u8
  have o8 : Only p U (W7.setCell ⟨p, 8, none⟩ u8) := putS o7 8 u8
  obtain ⟨W8, hW8⟩ : ∃ W, (W7.setCell ⟨p, 8, none⟩ u8) = W := ⟨_, rfl⟩
  rw [hW8] at h8 o8 ⊢
  have h9 : (W8.setCell ⟨p, 9, none⟩ u9).heap[p]? = some (.cells #[u0, u1, u2, u3, u4, u5, u6, u7, u8, u9, v10, v11, v12, v13] T (0, 0)) := held_set h8 9 u9
  have o9 : Only p U (W8.setCell ⟨p, 9, none⟩ u9) := putS o8 9 u9
  obtain ⟨W9, hW9⟩ : ∃ W, (W8.setCell ⟨p, 9, none⟩ u9) = W := ⟨_, rfl⟩
  rw [hW9] at h9 o9 ⊢
  have h10 : (W9.setCell ⟨p, 10, none⟩ u10).heap[p]? = some (.cells #[u0, u1, u2, u3, u4, u5, u6, u7, u8, u9, u10, v11, v12, v13] T (0, 0)) := held_set h9 10 u10
  have o10 : Only p U (W9.setCell ⟨p, 10, none⟩ u10) := putS o9 10 u10
  obtain ⟨W10, hW10⟩ : ∃ W, (W9.setCell ⟨p, 10, none⟩ u10) = W := ⟨_, rfl⟩
  rw [hW10] at h10 o10 ⊢
  have h11 : (W10.setCell ⟨p, 11, none⟩ u11).heap[p]? = some (.cells #[u0, u1, u2, u3, u4, u5, u6, u7, u8, u9, u10, u11, v12, v13] T (0, 0)) := held_set h10 11 u11
  have o11 : Only p U (W10.setCell ⟨p, 11, none⟩ u11) := putS o10 11 u11
  obtain ⟨W11, hW11⟩ : ∃ W, (W10.setCell ⟨p, 11, none⟩ u11) = W := ⟨_, rfl⟩
  rw [hW11] at h11 o11 ⊢
  have h12 : (W11.setCell ⟨p, 12, none⟩ u12).heap[p]? = some (.cells #[u0, u1, u2, u3, u4, u5, u6, u7, u8, u9, u10, u11, u12, v13] T (0, 0)) := held_set h11 12 u12
  have o12 : Only p U (W11.setCell ⟨p, 12, none⟩ u12) := putS o11 12 u12
  obtain ⟨W12, hW12⟩ : ∃ W, (W11.setCell ⟨p, 12, none⟩ u12) = W := ⟨_, rfl⟩
  rw [hW12] at h12 o12 ⊢
  have h13 : (W12.setCell ⟨p, 13, none⟩ u13).heap[p]? = some (.cells #[u0, u1, u2, u3, u4, u5, u6, u7, u8, u9, u10, u11, u12, u13] T (0, 0)) := held_set h12 13 u13
  have o13 : Only p U (W12.setCell ⟨p, 13, none⟩ u13) := putS o12 13 u13
  obtain ⟨W13, hW13⟩ : ∃ W, (W12.setCell ⟨p, 13, none⟩ u13) = W := ⟨_, rfl⟩
  rw [hW13] at h13 o13 ⊢
  exact ⟨_, rfl, h13, o13⟩
theorem st13e {U : World} {p : Nat} {v0 v1 v2 v3 v4 v5 v6 v7 v8 v9 v10 v11 v12 v13 : Value} {T : TypeId} (h : U.heap[p]? = some (.cells #[v0, v1, v2, v3, v4, v5, v6, v7, v8, v9, v10, v11, v12, v13] T (0, 0))) (u1 u2 u3 u4 u5 u6 u7 u8 u9 u10 u11 u12 u13 : Value) :
    ∃ W2, (((((((((((((U.setCell ⟨p, 1, none⟩ u1).setCell ⟨p, 2, none⟩ u2).setCell ⟨p, 3, none⟩ u3).setCell ⟨p, 4, none⟩ u4).setCell ⟨p, 5, none⟩ u5).setCell ⟨p, 6, none⟩ u6).setCell ⟨p, 7, none⟩ u7).setCell ⟨p, 8, none⟩ u8).setCell ⟨p, 9, none⟩ u9).setCell ⟨p, 10, none⟩ u10).setCell ⟨p, 11, none⟩ u11).setCell ⟨p, 12, none⟩ u12).setCell ⟨p, 13, none⟩ u13) = W2 ∧ W2.heap[p]? = some (.cells #[v0, u1, u2, u3, u4, u5, u6, u7, u8, u9, u10, u11, u12, u13] T (0, 0)) ∧ Only p U W2 := by
  have h1 : (U.setCell ⟨p, 1, none⟩ u1).heap[p]? = some (.cells #[v0, u1, v2, v3, v4, v5, v6, v7, v8, v9, v10, v11, v12, v13] T (0, 0)) := held_set h 1 u1
  have o1 : Only p U (U.setCell ⟨p, 1, none⟩ u1) := Only.set p 1 u1 U
  obtain ⟨W1, hW1⟩ : ∃ W, (U.setCell ⟨p, 1, none⟩ u1) = W := ⟨_, rfl⟩
  rw [hW1] at h1 o1 ⊢
  have h2 : (W1.setCell ⟨p, 2, none⟩ u2).heap[p]? = some (.cells #[v0, u1, u2, v3, v4, v5, v6, v7, v8, v9, v10, v11, v12, v13] T (0, 0)) := held_set h1 2 u2
  have o2 : Only p U (W1.setCell ⟨p, 2, none⟩ u2) := putS o1 2 u2
  obtain ⟨W2, hW2⟩ : ∃ W, (W1.setCell ⟨p, 2, none⟩ u2) = W := ⟨_, rfl⟩
  rw [hW2] at h2 o2 ⊢
  have h3 : (W2.setCell ⟨p, 3, none⟩ u3).heap[p]? = some (.cells #[v0, u1, u2, u3, v4, v5, v6, v7, v8, v9, v10, v11, v12, v13] T (0, 0)) := held_set h2 3 u3
  have o3 : Only p U (W2.setCell ⟨p, 3, none⟩ u3) := putS o2 3 u3
  obtain ⟨W3, hW3⟩ : ∃ W, (W2.setCell ⟨p, 3, none⟩ u3) = W := ⟨_, rfl⟩
  rw [hW3] at h3 o3 ⊢
  have h4 : (W3.setCell ⟨p, 4, none⟩ u4).heap[p]? = some (.cells #[v0, u1, u2, u3, u4, v5, v6, v7, v8, v9, v10, v11, v12, v13] T (0, 0)) := held_set h3 4 u4
  have o4 : Only p U (W3.setCell ⟨p, 4, none⟩ u4) := putS o3 4 u4
  obtain ⟨W4, hW4⟩ : ∃ W, (W3.setCell ⟨p, 4, none⟩ u4) = W := ⟨_, rfl⟩
  rw [hW4] at h4 o4 ⊢
  have h5 : (W4.setCell ⟨p, 5, none⟩ u5).heap[p]? = some (.cells #[v0, u1, u2, u3, u4, u5, v6, v7, v8, v9, v10, v11, v12, v13] T (0, 0)) := held_set h4 5 u5
  have o5 : Only p U (W4.setCell ⟨p, 5, none⟩ u5) := putS o4 5 u5
  obtain ⟨W5, hW5⟩ : ∃ W, (W4.setCell ⟨p, 5, none⟩ u5) = W := ⟨_, rfl⟩
  rw [hW5] at h5 o5 ⊢
  have h6 : (W5.setCell ⟨p, 6, none⟩ u6).heap[p]? = some (.cells #[v0, u1, u2, u3, u4, u5, u6, v7, v8, v9, v10, v11, v12, v13] T (0, 0)) := held_set h5 6 u6
  have o6 : Only p U (W5.setCell ⟨p, 6, none⟩ u6) := putS o5 6 u6
  obtain ⟨W6, hW6⟩ : ∃ W, (W5.setCell ⟨p, 6, none⟩ u6) = W := ⟨_, rfl⟩
  rw [hW6] at h6 o6 ⊢
  have h7 : (W6.setCell ⟨p, 7, none⟩ u7).heap[p]? = some (.cells #[v0, u1, u2, u3, u4, u5, u6, u7, v8, v9, v10, v11, v12, v13] T (0, 0)) := held_set h6 7 u7
  have o7 : Only p U (W6.setCell ⟨p, 7, none⟩ u7) := putS o6 7 u7
  obtain ⟨W7, hW7⟩ : ∃ W, (W6.setCell ⟨p, 7, none⟩ u7) = W := ⟨_, rfl⟩
  rw [hW7] at h7 o7 ⊢
  have h8 : (W7.setCell ⟨p, 8, none⟩ u8).heap[p]? = some (.cells #[v0, u1, u2, u3, u4, u5, u6, u7, u8, v9, v10, v11, v12, v13] T (0, 0)) := held_set h7 8 u8
  have o8 : Only p U (W7.setCell ⟨p, 8, none⟩ u8) := putS o7 8 u8
  obtain ⟨W8, hW8⟩ : ∃ W, (W7.setCell ⟨p, 8, none⟩ u8) = W := ⟨_, rfl⟩
  rw [hW8] at h8 o8 ⊢
  have h9 : (W8.setCell ⟨p, 9, none⟩ u9).heap[p]? = some (.cells #[v0, u1, u2, u3, u4, u5, u6, u7, u8, u9, v10, v11, v12, v13] T (0, 0)) := held_set h8 9 u9
  have o9 : Only p U (W8.setCell ⟨p, 9, none⟩ u9) := putS o8 9 u9
  obtain ⟨W9, hW9⟩ : ∃ W, (W8.setCell ⟨p, 9, none⟩ u9) = W := ⟨_, rfl⟩
  rw [hW9] at h9 o9 ⊢
  have h10 : (W9.setCell ⟨p, 10, none⟩ u10).heap[p]? = some (.cells #[v0, u1, u2, u3, u4, u5, u6, u7, u8, u9, u10, v11, v12, v13] T (0, 0)) := held_set h9 10 u10
  have o10 : Only p U (W9.setCell ⟨p, 10, none⟩ u10) := putS o9 10 u10
  obtain ⟨W10, hW10⟩ : ∃ W, (W9.setCell ⟨p, 10, none⟩ u10) = W := ⟨_, rfl⟩
  rw [hW10] at h10 o10 ⊢
  have h11 : (W10.setCell ⟨p, 11, none⟩ u11).heap[p]? = some (.cells #[v0, u1, u2, u3, u4, u5, u6, u7, u8, u9, u10, u11, v12, v13] T (0, 0)) := held_set h10 11 u11
  have o11 : Only p U (W10.setCell ⟨p, 11, none⟩ u11) := putS o10 11 u11
  obtain ⟨W11, hW11⟩ : ∃ W, (W10.setCell ⟨p, 11, none⟩ u11) = W := ⟨_, rfl⟩
  rw [hW11] at h11 o11 ⊢
  have h12 : (W11.setCell ⟨p, 12, none⟩ u12).heap[p]? = some (.cells #[v0, u1, u2, u3, u4, u5, u6, u7, u8, u9, u10, u11, u12, v13] T (0, 0)) := held_set h11 12 u12
  have o12 : Only p U (W11.setCell ⟨p, 12, none⟩ u12) := putS o11 12 u12
  obtain ⟨W12, hW12⟩ : ∃ W, (W11.setCell ⟨p, 12, none⟩ u12) = W := ⟨_, rfl⟩
  rw [hW12] at h12 o12 ⊢
  have h13 : (W12.setCell ⟨p, 13, none⟩ u13).heap[p]? = some (.cells #[v0, u1, u2, u3, u4, u5, u6, u7, u8, u9, u10, u11, u12, u13] T (0, 0)) := held_set h12 13 u13
  have o13 : Only p U (W12.setCell ⟨p, 13, none⟩ u13) := putS o12 13 u13
  obtain ⟨W13, hW13⟩ : ∃ W, (W12.setCell ⟨p, 13, none⟩ u13) = W := ⟨_, rfl⟩
  rw [hW13] at h13 o13 ⊢
  exact ⟨_, rfl, h13, o13⟩
theorem bytes_bd2 {n : Int} (h : (Lit.int .u8 n).wf = true) : 0 ≤ n ∧ n ≤ 255 := bytes_bd (zs := [n]) (by simpa using h) n (by simp)
set_option maxRecDepth 100000 in
theorem cutSl (a : Option Addr) (len cap n : Nat) (hc : len ≤ cap) (hn : n ≤ len) : ∃ a2 : Option Addr, (∀ W : World, (Instr.slice 22 (.slice a len cap) (some (.int .i64 (n : Int))) none none).run Try.prog W = .ok (.slice a2 (len - n) (cap - n)) W) ∧ (∀ (U : World) (zs : List Int), Sl .u8 U a len cap zs → Sl .u8 U a2 (len - n) (cap - n) (zs.drop n)) := by
  have e : ∀ W : World, (Instr.slice 22 (.slice a len cap) (some (.int .i64 (n : Int))) none none).run Try.prog W = .ok (.slice (if cap = n then a else a.map (·.add n)) (len - n) (cap - n)) W := by
    intro W
    rw [run_slice_l W 22 a len cap (by rfl) .i64 (n : Int) (by omega) (by omega)]
    go_simp <;> simp [sliced]
  by_cases c : cap = n
  · refine ⟨a, ?_, ?_⟩
    · intro W; rw [e W, if_pos c]
    · intro U zs h
      have := h.end n hn c
      rw [show cap - n = 0 by omega]
      exact this
  · refine ⟨a.map (·.add n), ?_, ?_⟩
    · intro W; rw [e W, if_neg c]
    · intro U zs h
      exact h.drop n hn
theorem takK_n (bs : List Int) : (takK bs).2.1 = 0 ∨ (takK bs).2.1 = 52 := by unfold takK; split <;> simp
theorem takK_nl (bs : List Int) : 0 ≤ (takK bs).2.1 ∧ (takK bs).2.1 ≤ bs.length := by
  unfold takK; split
  · simp
  · simp; omega
theorem takD_n (t : Int) (a : List Int) {bs : List Int} (hz : ∀ x ∈ bs, (Lit.int .u8 x).wf = true) : 0 ≤ (takD t a bs).2.1 ∧ (takD t a bs).2.1 ≤ bs.length := by
  have b1 := nxS_bd (bs := bs) (at_ := 0) (e := 0) (hi := 4294967295) hz (Nat.zero_le _) (by omega) (by omega)
  have b2 := nxS_bd (hi := 4095) hz b1.2.1 (by omega) b1.2.2.1
  have b3 := tdL_bd (a := a) (mask := (nxS bs (nxS bs 0 0 4294967295).2.1 (nxS bs 0 0 4294967295).2.2 4095).1) hz b2.2.1 b2.2.2.1 12
  unfold takD
  split
  · simp
  · dsimp only
    have := b3.1
    omega
/-- An entry as a value. -/
def entA (x : En) : Value := .agg (entC x).toArray
def noE : En := (false, 0, zer12)
/-- The entry that some bytes begin with. -/
def entD (st : Int × List Int) (first : Bool) : List Int → En × Int × Bool
  | [] => (noE, 0, false)
  | c :: r => if c = 75 then ((true, (takK r).1), 1 + (takK r).2.1, (takK r).2.2 == 0) else if c = 68 ∧ first = false then ((false, (takD st.1 st.2 r).1), 1 + (takD st.1 st.2 r).2.1, (takD st.1 st.2 r).2.2 == 0) else (noE, 0, false)
theorem entD_cons (st : Int × List Int) (first : Bool) (c : Int) (r : List Int) : entD st first (c :: r) = if c = 75 then ((true, (takK r).1), 1 + (takK r).2.1, (takK r).2.2 == 0) else if c = 68 ∧ first = false then ((false, (takD st.1 st.2 r).1), 1 + (takD st.1 st.2 r).2.1, (takD st.1 st.2 r).2.2 == 0) else (noE, 0, false) := rfl
set_option maxRecDepth 100000 in
set_option maxHeartbeats 8000000 in
theorem entry_any (t a0 a1 a2 a3 a4 a5 a6 a7 a8 a9 a10 a11 : Int) (ba : Option Addr) (bl bc : Nat) (first : Bool) (bs : List Int) (w : World) (hS : Sl .u8 w ba bl bc bs) (hz : ∀ x ∈ bs, (Lit.int .u8 x).wf = true) (hbl : bl ≤ 100000) (ht : 0 ≤ t ∧ t ≤ 4294967295) (ha : ∀ x ∈ [a0, a1, a2, a3, a4, a5, a6, a7, a8, a9, a10, a11], -2147483648 ≤ x ∧ x ≤ 2147483647) : Calls Try.prog 47 #[.agg #[.int .u32 t, .int .i32 a0, .int .i32 a1, .int .i32 a2, .int .i32 a3, .int .i32 a4, .int .i32 a5, .int .i32 a6, .int .i32 a7, .int .i32 a8, .int .i32 a9, .int .i32 a10, .int .i32 a11], .slice ba bl bc, .bool first] w fun e w' => e = .returned (.tuple #[entA (entD (t, [a0, a1, a2, a3, a4, a5, a6, a7, a8, a9, a10, a11]) first bs).1, .int .i64 (entD (t, [a0, a1, a2, a3, a4, a5, a6, a7, a8, a9, a10, a11]) first bs).2.1, .bool (entD (t, [a0, a1, a2, a3, a4, a5, a6, a7, a8, a9, a10, a11]) first bs).2.2]) ∧ After w w' := by
  obtain ⟨r, hr⟩ : ∃ r, entD (t, [a0, a1, a2, a3, a4, a5, a6, a7, a8, a9, a10, a11]) first bs = r := ⟨_, rfl⟩
  rw [hr]
  have hcc := hS.2.1
  replace ha := hid ha
  replace hz := hid hz
  have hl := hS.1
  cases bs with
  | nil =>
    obtain rfl : bl = 0 := hl.symm
    replace hr : r = (noE, 0, false) := hr.symm
    replace hr := hid hr
    go_enter Try.func47, Try.ntmps47
    go_upto_region 0 with (fail)
    apply wp_region_seg0 (w := w) (S := [.al 1000, .al 1000, .q [], .q []]) (E := [.al ((fun p => .pointer (some ⟨p, 0, none⟩)), _) 1000, .al ((fun p => .pointer (some ⟨p, 0, none⟩)), _) 1000, .q0 _, .q0 _]) rfl (by kernel_rfl) rfl rfl
    intro th hge hne
    refine Seg.step _ rfl ⟨by rfl, fun U hU => ?_⟩ ?_
    · go_simp; exact vp_alloc rfl rfl rfl
    refine ⟨_, by (simp only [Ent.val]; go_simp <;> exact rfl), ?_⟩
    refine Seg.step _ rfl ⟨by rfl, fun U hU => ?_⟩ ?_
    · go_simp; exact vp_alloc rfl rfl rfl
    refine ⟨_, by (simp only [Ent.val]; go_simp <;> exact rfl), ?_⟩
    refine Seg.step _ rfl (Or.inl ⟨by rfl, fun U hU => vp_quiet (by (go_simp <;> exact rfl))⟩) ⟨_, by (simp only [Ent.val]; go_simp <;> exact rfl), ?_⟩
    refine Seg.step _ rfl (Or.inl ⟨by rfl, fun U hU => vp_quiet (by (go_simp <;> exact rfl))⟩) ⟨_, by (simp only [Ent.val]; go_simp <;> exact rfl), ?_⟩
    refine Seg.stop (fun U1 hU hk => ?_)
    have nb0 := hge 0 _ _ rfl
    have rb0 := (hk 0 _ _ rfl trivial).1.2 (by simp)
    have nb1 := hge 1 _ _ rfl
    have rb1 := (hk 1 _ _ rfl trivial).1.2 (by simp)
    have ne0_1 := hne 0 1 _ _ _ _ rfl rfl (by omega)
    clear hk hge hne
    generalize th (0 + 0) = p0_0 at *
    dsimp only at rb0
    generalize th (0 + 1) = p0_1 at *
    dsimp only at rb1
    have r_p0_0 := rb0
    clear rb0
    have n_p0_0 := nb0
    clear nb0
    have d_p0_0_p0_1 := ne0_1
    clear ne0_1
    have r_p0_1 := rb1
    clear rb1
    have n_p0_1 := nb1
    clear nb1
    have sz1 := hU.size
    have hB : Below w.heap.size w U1 := hU
    clear hU
    go_upto_region 2 with (fail)
    have np := n_p0_1
    have z0 := held_cell r_p0_1 0 _ rfl
    have z1 := held_cell r_p0_1 1 _ rfl
    have z2 := held_cell r_p0_1 2 _ rfl
    have z3 := held_cell r_p0_1 3 _ rfl
    have z4 := held_cell r_p0_1 4 _ rfl
    have z5 := held_cell r_p0_1 5 _ rfl
    have z6 := held_cell r_p0_1 6 _ rfl
    have z7 := held_cell r_p0_1 7 _ rfl
    have z8 := held_cell r_p0_1 8 _ rfl
    have z9 := held_cell r_p0_1 9 _ rfl
    have z10 := held_cell r_p0_1 10 _ rfl
    have z11 := held_cell r_p0_1 11 _ rfl
    have z12 := held_cell r_p0_1 12 _ rfl
    have z13 := held_cell r_p0_1 13 _ rfl
    have g0 := held_free r_p0_1 0
    have g1 := held_free r_p0_1 1
    have g2 := held_free r_p0_1 2
    have g3 := held_free r_p0_1 3
    have g4 := held_free r_p0_1 4
    have g5 := held_free r_p0_1 5
    have g6 := held_free r_p0_1 6
    have g7 := held_free r_p0_1 7
    have g8 := held_free r_p0_1 8
    have g9 := held_free r_p0_1 9
    have g10 := held_free r_p0_1 10
    have g11 := held_free r_p0_1 11
    have g12 := held_free r_p0_1 12
    have g13 := held_free r_p0_1 13
    obtain ⟨W9, hW9, ya, yO⟩ := st14 r_p0_1 (.bool false) (.int .u32 0) (.int .i32 0) (.int .i32 0) (.int .i32 0) (.int .i32 0) (.int .i32 0) (.int .i32 0) (.int .i32 0) (.int .i32 0) (.int .i32 0) (.int .i32 0) (.int .i32 0) (.int .i32 0)
    have hB9 := hid (belowS hB yO np)
    have ez0 := held_cell ya 0 _ rfl
    have ez1 := held_cell ya 1 _ rfl
    have ez2 := held_cell ya 2 _ rfl
    have ez3 := held_cell ya 3 _ rfl
    have ez4 := held_cell ya 4 _ rfl
    have ez5 := held_cell ya 5 _ rfl
    have ez6 := held_cell ya 6 _ rfl
    have ez7 := held_cell ya 7 _ rfl
    have ez8 := held_cell ya 8 _ rfl
    have ez9 := held_cell ya 9 _ rfl
    have ez10 := held_cell ya 10 _ rfl
    have ez11 := held_cell ya 11 _ rfl
    have ez12 := held_cell ya 12 _ rfl
    have ez13 := held_cell ya 13 _ rfl
    clear yO ya
    go_wp2_with fail
    refine bodyPost_ret (v := .tuple #[.agg #[.bool false, .int .u32 0, .int .i32 0, .int .i32 0, .int .i32 0, .int .i32 0, .int .i32 0, .int .i32 0, .int .i32 0, .int .i32 0, .int .i32 0, .int .i32 0, .int .i32 0, .int .i32 0], .int .i64 0, .bool false]) (by simp [results, Try.results47, go_sem, ez0, ez1, ez2, ez3, ez4, ez5, ez6, ez7, ez8, ez9, ez10, ez11, ez12, ez13]) rfl ⟨by rw [hr.out]; rfl, hB9.out⟩
  | cons c bs =>
    have hl1 : 1 ≤ bl := by rw [← hl]; simp
    obtain ⟨qb, qo, rfl, v0⟩ := hS.2.2.2.2 0 (by simp)
    replace v0 : w.cell? ⟨qb, qo, none⟩ = some (.int .u8 c) := by simpa using v0
    obtain ⟨qa2, hcut, hcs⟩ := cutSl (some ⟨qb, qo, none⟩) bl bc 1 hcc hl1
    replace hcs := hid (show ∀ U : World, Below w.heap.size w U → Sl .u8 U qa2 (bl - 1) (bc - 1) bs from fun U hU => hcs U (c :: bs) (hS.below hU))
    have hz1 := hid (fun x (hx : x ∈ bs) => hz.out x (List.mem_cons_of_mem _ hx))
    have hc8 := bytes_bd2 (hz.out c (by simp))
    have hb1 : bl - 1 ≤ 100000 := by omega
    have ql1 : (1 : Int) ≤ bl := by omega
    have ql2 : 0 < bl := by omega
    have ql3 : ¬ (bl : Int) = 0 := by omega
    have ql4 : ((bl : Int) == 0) = false := by simp; omega
    have hcut2 : ∀ W : World, (Instr.sliceAt 22 (.slice (some ⟨qb, qo, none⟩) bl bc) (some (.int .i64 1)) none none).run Try.prog W = .ok (.slice qa2 (bl - 1) (bc - 1)) W := fun W => by rw [run_sliceAt_slice W _ _ _ _ _ (by rfl)]; exact hcut W
    replace hcut : ∀ W : World, (Instr.slice 22 (.slice (some ⟨qb, qo, none⟩) bl bc) (some (.int .i64 1)) none none).run Try.prog W = .ok (.slice qa2 (bl - 1) (bc - 1)) W := hcut
    clear hz hS hl
    replace hr := hid hr
    go_enter Try.func47, Try.ntmps47
    go_upto_region 0 with (fail)
    apply wp_region_seg0 (w := w) (S := [.al 1000, .al 1000, .q [], .q []]) (E := [.al ((fun p => .pointer (some ⟨p, 0, none⟩)), _) 1000, .al ((fun p => .pointer (some ⟨p, 0, none⟩)), _) 1000, .q0 _, .q0 _]) rfl (by kernel_rfl) rfl rfl
    intro th hge hne
    refine Seg.step _ rfl ⟨by rfl, fun U hU => ?_⟩ ?_
    · go_simp; exact vp_alloc rfl rfl rfl
    refine ⟨_, by (simp only [Ent.val]; go_simp <;> exact rfl), ?_⟩
    refine Seg.step _ rfl ⟨by rfl, fun U hU => ?_⟩ ?_
    · go_simp; exact vp_alloc rfl rfl rfl
    refine ⟨_, by (simp only [Ent.val]; go_simp <;> exact rfl), ?_⟩
    refine Seg.step _ rfl (Or.inl ⟨by rfl, fun U hU => vp_quiet (by (go_simp <;> exact rfl))⟩) ⟨_, by (simp only [Ent.val]; go_simp <;> exact rfl), ?_⟩
    refine Seg.step _ rfl (Or.inl ⟨by rfl, fun U hU => vp_quiet (by (go_simp <;> exact rfl))⟩) ⟨_, by (simp only [Ent.val]; go_simp <;> exact rfl), ?_⟩
    refine Seg.stop (fun U1 hU hk => ?_)
    have nb0 := hge 0 _ _ rfl
    have rb0 := (hk 0 _ _ rfl trivial).1.2 (by simp)
    have nb1 := hge 1 _ _ rfl
    have rb1 := (hk 1 _ _ rfl trivial).1.2 (by simp)
    have ne0_1 := hne 0 1 _ _ _ _ rfl rfl (by omega)
    clear hk hge hne
    generalize th (0 + 0) = p0_0 at *
    dsimp only at rb0
    generalize th (0 + 1) = p0_1 at *
    dsimp only at rb1
    have r_p0_0 := rb0
    clear rb0
    have n_p0_0 := nb0
    clear nb0
    have d_p0_0_p0_1 := ne0_1
    clear ne0_1
    have r_p0_1 := rb1
    clear rb1
    have n_p0_1 := nb1
    clear nb1
    have sz1 := hU.size
    have hB : Below w.heap.size w U1 := hU
    clear hU
    go_upto_region 3 with (fail)
    apply wp_region_seg0 (w := U1) (S := [.al 1000]) (E := [.al ((fun p => .pointer (some ⟨p, 0, none⟩)), _) 1000]) rfl (by kernel_rfl) rfl rfl
    intro th hge hne
    refine Seg.step _ rfl ⟨by rfl, fun U hU => ?_⟩ ?_
    · go_simp; exact vp_alloc rfl rfl rfl
    refine ⟨_, by (simp only [Ent.val]; go_simp <;> exact rfl), ?_⟩
    refine Seg.stop (fun U2 hU hk => ?_)
    have nb0 := hge 0 _ _ rfl
    have rb0 := (hk 0 _ _ rfl trivial).1.2 (by simp)
    clear hk hge hne
    generalize th (0 + 0) = p3_0 at *
    dsimp only at rb0
    have df_p0_0_p3_0 : p0_0 ≠ p3_0 := by have := held_lt r_p0_0; omega
    have df_p0_1_p3_0 : p0_1 ≠ p3_0 := by have := held_lt r_p0_1; omega
    replace r_p0_0 := held_after hU r_p0_0
    replace r_p0_1 := held_after hU r_p0_1
    have r_p3_0 := rb0
    clear rb0
    have n_p3_0 := nb0
    clear nb0
    have sz2 := hU.size
    replace hB := bthen hB hU
    clear hU
    go_upto_region 6 with (fail)
    have v1 := (Below.cell hB (World.block_lt_of_cell? w _ v0)).trans v0
    have np1 := n_p0_1
    have sB := hB.size
    replace hB := hid hB
    by_cases c75 : c = 75
    case pos =>
      subst c75
      replace hr : r = ((true, (takK bs).1), 1 + (takK bs).2.1, (takK bs).2.2 == 0) := hr.out.symm.trans ((entD_cons _ _ _ _).trans (if_pos rfl))
      have kK := fun U h => takeKey_any qa2 (bl - 1) (bc - 1) bs U h hz1.out hb1
      have kl := takK_len bs
      have kn := takK_nl bs
      have ke := takK_e bs
      have kbl : bs.length < 100000 := by have := (hcs.out w (Below.refl _ _)).1; omega
      obtain ⟨⟨⟨T, v⟩, n, er⟩, hq⟩ : ∃ q, takK bs = q := ⟨_, rfl⟩
      rw [hq] at kK kl kn ke hr
      clear hq
      dsimp only at kK kl kn ke hr
      obtain ⟨y0, y1, y2, y3, y4, y5, y6, y7, y8, y9, y10, y11, rfl⟩ := list12 kl
      have kr : recA T [y0, y1, y2, y3, y4, y5, y6, y7, y8, y9, y10, y11] = .agg #[.int .u32 T, .int .i32 y0, .int .i32 y1, .int .i32 y2, .int .i32 y3, .int .i32 y4, .int .i32 y5, .int .i32 y6, .int .i32 y7, .int .i32 y8, .int .i32 y9, .int .i32 y10, .int .i32 y11] := rfl
      rw [kr] at kK
      clear kr kl
      replace kK := hid kK
      replace hr := hid hr
      have wn : IntKind.i64.wrap (1 + n) = 1 + n := by rw [IntKind.wrap_i64]; omega
      clear kn ke kbl
      have x0 := held_set r_p3_0 0 (.bool true)
      have xO := Only.set p3_0 0 (.bool true) U2
      have x1 := held_only xO df_p0_1_p3_0 r_p0_1
      have hB5 := belowS hB.out xO (by omega)
      have xf := held_free r_p3_0 0
      have xc := held_cell r_p3_0 0 _ rfl
      obtain ⟨W5, hW5⟩ : ∃ W, U2.setCell ⟨p3_0, 0, none⟩ (.bool true) = W := ⟨_, rfl⟩
      rw [hW5] at x0 x1 hB5
      clear xO
      replace hB5 := hid hB5
      replace x1 := hid x1
      replace x0 := hid x0
      go_wp2_with fail
      refine (kK.out _ (hcs.out _ hB5.out)).mono ?_
      rintro e V6 ⟨rfl, hA⟩
      have rx6 := held_after hA x0.out
      have r6 := held_after hA x1.out
      have hB6 := bthen hB5.out hA
      clear hA x0 x1 hB5 kK xf xc
      have x0 := held_cell rx6 0 _ rfl
      have x1 := held_cell rx6 1 _ rfl
      have x2 := held_cell rx6 2 _ rfl
      have x3 := held_cell rx6 3 _ rfl
      have x4 := held_cell rx6 4 _ rfl
      have x5 := held_cell rx6 5 _ rfl
      have x6 := held_cell rx6 6 _ rfl
      have x7 := held_cell rx6 7 _ rfl
      have x8 := held_cell rx6 8 _ rfl
      have x9 := held_cell rx6 9 _ rfl
      have x10 := held_cell rx6 10 _ rfl
      have x11 := held_cell rx6 11 _ rfl
      have x12 := held_cell rx6 12 _ rfl
      have x13 := held_cell rx6 13 _ rfl
      have g0 := held_free rx6 0
      have g1 := held_free rx6 1
      have g2 := held_free rx6 2
      have g3 := held_free rx6 3
      have g4 := held_free rx6 4
      have g5 := held_free rx6 5
      have g6 := held_free rx6 6
      have g7 := held_free rx6 7
      have g8 := held_free rx6 8
      have g9 := held_free rx6 9
      have g10 := held_free rx6 10
      have g11 := held_free rx6 11
      have g12 := held_free rx6 12
      have g13 := held_free rx6 13
      obtain ⟨W7, hW7, ya, yO⟩ := st13e rx6 (.int .u32 T) (.int .i32 y0) (.int .i32 y1) (.int .i32 y2) (.int .i32 y3) (.int .i32 y4) (.int .i32 y5) (.int .i32 y6) (.int .i32 y7) (.int .i32 y8) (.int .i32 y9) (.int .i32 y10) (.int .i32 y11)
      have r7 := held_only yO (show p0_1 ≠ p3_0 from df_p0_1_p3_0) r6
      have hB7 := belowS hB6 yO (by omega)
      have e0 := held_cell ya 0 _ rfl
      have e1 := held_cell ya 1 _ rfl
      have e2 := held_cell ya 2 _ rfl
      have e3 := held_cell ya 3 _ rfl
      have e4 := held_cell ya 4 _ rfl
      have e5 := held_cell ya 5 _ rfl
      have e6 := held_cell ya 6 _ rfl
      have e7 := held_cell ya 7 _ rfl
      have e8 := held_cell ya 8 _ rfl
      have e9 := held_cell ya 9 _ rfl
      have e10 := held_cell ya 10 _ rfl
      have e11 := held_cell ya 11 _ rfl
      have e12 := held_cell ya 12 _ rfl
      have e13 := held_cell ya 13 _ rfl
      have z0 := held_cell r7 0 _ rfl
      have z1 := held_cell r7 1 _ rfl
      have z2 := held_cell r7 2 _ rfl
      have z3 := held_cell r7 3 _ rfl
      have z4 := held_cell r7 4 _ rfl
      have z5 := held_cell r7 5 _ rfl
      have z6 := held_cell r7 6 _ rfl
      have z7 := held_cell r7 7 _ rfl
      have z8 := held_cell r7 8 _ rfl
      have z9 := held_cell r7 9 _ rfl
      have z10 := held_cell r7 10 _ rfl
      have z11 := held_cell r7 11 _ rfl
      have z12 := held_cell r7 12 _ rfl
      have z13 := held_cell r7 13 _ rfl
      have f0 := held_free r7 0
      have f1 := held_free r7 1
      have f2 := held_free r7 2
      have f3 := held_free r7 3
      have f4 := held_free r7 4
      have f5 := held_free r7 5
      have f6 := held_free r7 6
      have f7 := held_free r7 7
      have f8 := held_free r7 8
      have f9 := held_free r7 9
      have f10 := held_free r7 10
      have f11 := held_free r7 11
      have f12 := held_free r7 12
      have f13 := held_free r7 13
      obtain ⟨W9, hW9, yb, yP⟩ := st14 r7 (.bool true) (.int .u32 T) (.int .i32 y0) (.int .i32 y1) (.int .i32 y2) (.int .i32 y3) (.int .i32 y4) (.int .i32 y5) (.int .i32 y6) (.int .i32 y7) (.int .i32 y8) (.int .i32 y9) (.int .i32 y10) (.int .i32 y11)
      have hB9 := hid (belowS hB7 yP (by omega))
      have ez0 := held_cell yb 0 _ rfl
      have ez1 := held_cell yb 1 _ rfl
      have ez2 := held_cell yb 2 _ rfl
      have ez3 := held_cell yb 3 _ rfl
      have ez4 := held_cell yb 4 _ rfl
      have ez5 := held_cell yb 5 _ rfl
      have ez6 := held_cell yb 6 _ rfl
      have ez7 := held_cell yb 7 _ rfl
      have ez8 := held_cell yb 8 _ rfl
      have ez9 := held_cell yb 9 _ rfl
      have ez10 := held_cell yb 10 _ rfl
      have ez11 := held_cell yb 11 _ rfl
      have ez12 := held_cell yb 12 _ rfl
      have ez13 := held_cell yb 13 _ rfl
      clear yb yP ya yO rx6 r6 hB6 r7 hB7
      go_wp2_with fail
      refine bodyPost_ret (v := .tuple #[.agg #[.bool true, .int .u32 T, .int .i32 y0, .int .i32 y1, .int .i32 y2, .int .i32 y3, .int .i32 y4, .int .i32 y5, .int .i32 y6, .int .i32 y7, .int .i32 y8, .int .i32 y9, .int .i32 y10, .int .i32 y11], .int .i64 (1 + n), .bool (er == 0)]) (by simp [results, Try.results47, go_sem, ez0, ez1, ez2, ez3, ez4, ez5, ez6, ez7, ez8, ez9, ez10, ez11, ez12, ez13]) rfl ⟨by rw [hr.out]; rfl, hB9.out⟩
    have q75 : (c == 75) = false := by simpa using c75
    by_cases hd : c = 68 ∧ first = false
    case pos =>
      obtain ⟨rfl, rfl⟩ := hd
      replace hr : r = ((false, (takD t [a0, a1, a2, a3, a4, a5, a6, a7, a8, a9, a10, a11] bs).1), 1 + (takD t [a0, a1, a2, a3, a4, a5, a6, a7, a8, a9, a10, a11] bs).2.1, (takD t [a0, a1, a2, a3, a4, a5, a6, a7, a8, a9, a10, a11] bs).2.2 == 0) := hr.out.symm.trans ((entD_cons _ _ _ _).trans ((if_neg c75).trans (if_pos ⟨rfl, rfl⟩)))
      have kK := fun U h => takeDelta_any t a0 a1 a2 a3 a4 a5 a6 a7 a8 a9 a10 a11 qa2 (bl - 1) (bc - 1) bs U h hz1.out hb1 ht ha.out
      have kl := takD_len t (a := [a0, a1, a2, a3, a4, a5, a6, a7, a8, a9, a10, a11]) rfl bs
      have kn := takD_n t [a0, a1, a2, a3, a4, a5, a6, a7, a8, a9, a10, a11] hz1.out
      have kbl : bs.length < 100000 := by have := (hcs.out w (Below.refl _ _)).1; omega
      obtain ⟨⟨⟨T, v⟩, n, er⟩, hq⟩ : ∃ q, takD t [a0, a1, a2, a3, a4, a5, a6, a7, a8, a9, a10, a11] bs = q := ⟨_, rfl⟩
      rw [hq] at kK kl kn hr
      clear hq
      dsimp only at kK kl kn hr
      obtain ⟨y0, y1, y2, y3, y4, y5, y6, y7, y8, y9, y10, y11, rfl⟩ := list12 kl
      have kr : recA T [y0, y1, y2, y3, y4, y5, y6, y7, y8, y9, y10, y11] = .agg #[.int .u32 T, .int .i32 y0, .int .i32 y1, .int .i32 y2, .int .i32 y3, .int .i32 y4, .int .i32 y5, .int .i32 y6, .int .i32 y7, .int .i32 y8, .int .i32 y9, .int .i32 y10, .int .i32 y11] := rfl
      rw [kr] at kK
      clear kr kl
      replace kK := hid kK
      replace hr := hid hr
      have wn : IntKind.i64.wrap (1 + n) = 1 + n := by rw [IntKind.wrap_i64]; omega
      clear kn kbl
      go_upto_region 12 with (fail)
      obtain ⟨QQ, hQQ⟩ : ∃ X, U2.drew = X := ⟨_, rfl⟩
      have rQ := (show U2.drew.heap[p0_0]? = _ from r_p0_0)
      have xQ := (show U2.drew.heap[p3_0]? = _ from r_p3_0)
      have zQ := (show U2.drew.heap[p0_1]? = _ from r_p0_1)
      have hBQ := hB.out.drew
      rw [hQQ] at rQ xQ zQ hBQ
      clear r_p0_0 r_p3_0 r_p0_1
      have lra := held_lt rQ
      have nx : p0_0 ≠ p3_0 := df_p0_0_p3_0
      refine wp_region_K (N := QQ.heap.size) (X := [p3_0]) (by kernel_rfl) ?_
      rw [hQQ]
      refine wpAnyK_take 0 rfl (by kernel_rfl) (by kernel_rfl) (by kernel_rfl) (fun _ _ _ _ h => h) ⟨_, Or.inl ⟨by rfl, fun w2 hb => by (have g0 := hb.cellB (p := ⟨p0_0, 0, none⟩) (by show p0_0 < _; exact lra) (by simp; exact nx) (held_cell rQ 0 _ rfl); have g1 := hb.cellB (p := ⟨p0_0, 1, none⟩) (by show p0_0 < _; exact lra) (by simp; exact nx) (held_cell rQ 1 _ rfl); have g2 := hb.cellB (p := ⟨p0_0, 2, none⟩) (by show p0_0 < _; exact lra) (by simp; exact nx) (held_cell rQ 2 _ rfl); have g3 := hb.cellB (p := ⟨p0_0, 3, none⟩) (by show p0_0 < _; exact lra) (by simp; exact nx) (held_cell rQ 3 _ rfl); have g4 := hb.cellB (p := ⟨p0_0, 4, none⟩) (by show p0_0 < _; exact lra) (by simp; exact nx) (held_cell rQ 4 _ rfl); have g5 := hb.cellB (p := ⟨p0_0, 5, none⟩) (by show p0_0 < _; exact lra) (by simp; exact nx) (held_cell rQ 5 _ rfl); have g6 := hb.cellB (p := ⟨p0_0, 6, none⟩) (by show p0_0 < _; exact lra) (by simp; exact nx) (held_cell rQ 6 _ rfl); have g7 := hb.cellB (p := ⟨p0_0, 7, none⟩) (by show p0_0 < _; exact lra) (by simp; exact nx) (held_cell rQ 7 _ rfl); have g8 := hb.cellB (p := ⟨p0_0, 8, none⟩) (by show p0_0 < _; exact lra) (by simp; exact nx) (held_cell rQ 8 _ rfl); have g9 := hb.cellB (p := ⟨p0_0, 9, none⟩) (by show p0_0 < _; exact lra) (by simp; exact nx) (held_cell rQ 9 _ rfl); have g10 := hb.cellB (p := ⟨p0_0, 10, none⟩) (by show p0_0 < _; exact lra) (by simp; exact nx) (held_cell rQ 10 _ rfl); have g11 := hb.cellB (p := ⟨p0_0, 11, none⟩) (by show p0_0 < _; exact lra) (by simp; exact nx) (held_cell rQ 11 _ rfl); have g12 := hb.cellB (p := ⟨p0_0, 12, none⟩) (by show p0_0 < _; exact lra) (by simp; exact nx) (held_cell rQ 12 _ rfl); go_simp; try with_reducible rfl)⟩, _, by (go_simp; try rfl), ?_⟩
      refine wpAnyK_take 1 rfl (by kernel_rfl) (by kernel_rfl) (by kernel_rfl) (fun _ _ _ _ h => h) ⟨_, Or.inl ⟨by rfl, fun w2 hb => by (go_simp; try with_reducible rfl)⟩, _, by (go_simp; try rfl), ?_⟩
      refine wpAnyK_take 2 rfl (by kernel_rfl) (by kernel_rfl) (by kernel_rfl) (fun _ _ _ _ h => h) ⟨_, Or.inl ⟨by rfl, fun w2 hb => by (go_simp; try with_reducible rfl)⟩, _, by (go_simp; try rfl), ?_⟩
      refine wpAnyK_only 3 rfl (by kernel_rfl) (by rfl) (fun K hK => ?_)
      go_simp
      refine (kK.out _ (hcs.out _ hBQ)).mono ?_
      rintro e V6 ⟨rfl, hA⟩
      have kp := Kp.of (X := [p3_0]) hA (Nat.le_refl _)
      have rx6 := held_after hA xQ
      have r6 := held_after hA zQ
      have hB6 := bthen hBQ hA
      clear hA
      go_simp
      refine hK _ _ ⟨kp, ?_⟩
      clear hK
      clear kp
      refine wpAnyK_take 4 rfl (by kernel_rfl) (by kernel_rfl) (by kernel_rfl) (fun _ _ _ _ h => h) ⟨_, Or.inl ⟨by rfl, fun w2 hb => by (go_simp; try with_reducible rfl)⟩, _, by (go_simp; try rfl), ?_⟩
      refine wpAnyK_take 5 rfl (by kernel_rfl) (by kernel_rfl) (by kernel_rfl) (fun _ _ _ _ h => h) ⟨_, Or.inl ⟨by rfl, fun w2 hb => by (go_simp; try with_reducible rfl)⟩, _, by (go_simp; try rfl), ?_⟩
      refine wpAnyK_take 6 rfl (by kernel_rfl) (by kernel_rfl) (by kernel_rfl) (fun _ _ _ _ h => h) ⟨_, Or.inl ⟨by rfl, fun w2 hb => by (go_simp; try with_reducible rfl)⟩, _, by (go_simp; try rfl), ?_⟩
      refine wpAnyK_take 7 rfl (by kernel_rfl) (by kernel_rfl) (by kernel_rfl) (fun _ _ _ _ h => h) ⟨_, Or.inl ⟨by rfl, fun w2 hb => by (go_simp; try with_reducible rfl)⟩, _, by (go_simp; try rfl), ?_⟩
      refine wpAnyK_take 8 rfl (by kernel_rfl) (by kernel_rfl) (by kernel_rfl) (fun _ _ _ _ h => h) ⟨_, Or.inl ⟨by rfl, fun w2 hb => by (go_simp; try with_reducible rfl)⟩, _, by (go_simp; try rfl), ?_⟩
      refine wpAnyK_only 9 rfl (by kernel_rfl) (by rfl) (fun K hK => ?_)
      have x0 := held_cell rx6 0 _ rfl
      have x1 := held_cell rx6 1 _ rfl
      have x2 := held_cell rx6 2 _ rfl
      have x3 := held_cell rx6 3 _ rfl
      have x4 := held_cell rx6 4 _ rfl
      have x5 := held_cell rx6 5 _ rfl
      have x6 := held_cell rx6 6 _ rfl
      have x7 := held_cell rx6 7 _ rfl
      have x8 := held_cell rx6 8 _ rfl
      have x9 := held_cell rx6 9 _ rfl
      have x10 := held_cell rx6 10 _ rfl
      have x11 := held_cell rx6 11 _ rfl
      have x12 := held_cell rx6 12 _ rfl
      have x13 := held_cell rx6 13 _ rfl
      have g0 := held_free rx6 0
      have g1 := held_free rx6 1
      have g2 := held_free rx6 2
      have g3 := held_free rx6 3
      have g4 := held_free rx6 4
      have g5 := held_free rx6 5
      have g6 := held_free rx6 6
      have g7 := held_free rx6 7
      have g8 := held_free rx6 8
      have g9 := held_free rx6 9
      have g10 := held_free rx6 10
      have g11 := held_free rx6 11
      have g12 := held_free rx6 12
      have g13 := held_free rx6 13
      obtain ⟨W7, hW7, ya, yO⟩ := st13e rx6 (.int .u32 T) (.int .i32 y0) (.int .i32 y1) (.int .i32 y2) (.int .i32 y3) (.int .i32 y4) (.int .i32 y5) (.int .i32 y6) (.int .i32 y7) (.int .i32 y8) (.int .i32 y9) (.int .i32 y10) (.int .i32 y11)
      have r7 := held_only yO (show p0_1 ≠ p3_0 from df_p0_1_p3_0) r6
      have hB7 := belowS hB6 yO (by omega)
      have kp : Kp QQ.heap.size [p3_0] V6 W7 := ⟨yO.os, yO.tape, yO.output, Nat.le_of_eq yO.size.symm, fun k _ hk => yO.block k (fun e => hk (by rw [e]; simp))⟩
      clear yO
      go_simp
      refine hK _ _ ⟨kp, ?_⟩
      clear hK
      clear kp
      refine wpAnyK_take 10 rfl (by kernel_rfl) (by kernel_rfl) (by kernel_rfl) (fun _ _ _ _ h => h) ⟨_, Or.inl ⟨by rfl, fun w2 hb => by (go_simp; try with_reducible rfl)⟩, _, by (go_simp; try rfl), ?_⟩
      refine wpAnyK_take 11 rfl (by kernel_rfl) (by kernel_rfl) (by kernel_rfl) (fun _ _ _ _ h => h) ⟨_, Or.inl ⟨by rfl, fun w2 hb => by (go_simp; try with_reducible rfl)⟩, _, by (go_simp; try rfl), ?_⟩
      refine wpAnyK_done (by kernel_rfl) ?_ _
      have e0 := held_cell ya 0 _ rfl
      have e1 := held_cell ya 1 _ rfl
      have e2 := held_cell ya 2 _ rfl
      have e3 := held_cell ya 3 _ rfl
      have e4 := held_cell ya 4 _ rfl
      have e5 := held_cell ya 5 _ rfl
      have e6 := held_cell ya 6 _ rfl
      have e7 := held_cell ya 7 _ rfl
      have e8 := held_cell ya 8 _ rfl
      have e9 := held_cell ya 9 _ rfl
      have e10 := held_cell ya 10 _ rfl
      have e11 := held_cell ya 11 _ rfl
      have e12 := held_cell ya 12 _ rfl
      have e13 := held_cell ya 13 _ rfl
      have z0 := held_cell r7 0 _ rfl
      have z1 := held_cell r7 1 _ rfl
      have z2 := held_cell r7 2 _ rfl
      have z3 := held_cell r7 3 _ rfl
      have z4 := held_cell r7 4 _ rfl
      have z5 := held_cell r7 5 _ rfl
      have z6 := held_cell r7 6 _ rfl
      have z7 := held_cell r7 7 _ rfl
      have z8 := held_cell r7 8 _ rfl
      have z9 := held_cell r7 9 _ rfl
      have z10 := held_cell r7 10 _ rfl
      have z11 := held_cell r7 11 _ rfl
      have z12 := held_cell r7 12 _ rfl
      have z13 := held_cell r7 13 _ rfl
      have f0 := held_free r7 0
      have f1 := held_free r7 1
      have f2 := held_free r7 2
      have f3 := held_free r7 3
      have f4 := held_free r7 4
      have f5 := held_free r7 5
      have f6 := held_free r7 6
      have f7 := held_free r7 7
      have f8 := held_free r7 8
      have f9 := held_free r7 9
      have f10 := held_free r7 10
      have f11 := held_free r7 11
      have f12 := held_free r7 12
      have f13 := held_free r7 13
      obtain ⟨W9, hW9, yb, yP⟩ := st14 r7 (.bool false) (.int .u32 T) (.int .i32 y0) (.int .i32 y1) (.int .i32 y2) (.int .i32 y3) (.int .i32 y4) (.int .i32 y5) (.int .i32 y6) (.int .i32 y7) (.int .i32 y8) (.int .i32 y9) (.int .i32 y10) (.int .i32 y11)
      have hB9 := hid (belowS hB7 yP (by omega))
      have ez0 := held_cell yb 0 _ rfl
      have ez1 := held_cell yb 1 _ rfl
      have ez2 := held_cell yb 2 _ rfl
      have ez3 := held_cell yb 3 _ rfl
      have ez4 := held_cell yb 4 _ rfl
      have ez5 := held_cell yb 5 _ rfl
      have ez6 := held_cell yb 6 _ rfl
      have ez7 := held_cell yb 7 _ rfl
      have ez8 := held_cell yb 8 _ rfl
      have ez9 := held_cell yb 9 _ rfl
      have ez10 := held_cell yb 10 _ rfl
      have ez11 := held_cell yb 11 _ rfl
      have ez12 := held_cell yb 12 _ rfl
      have ez13 := held_cell yb 13 _ rfl
      clear yb yP ya rx6 r6 hB6 r7 hB7
      go_wp2_with fail
      refine bodyPost_ret (v := .tuple #[.agg #[.bool false, .int .u32 T, .int .i32 y0, .int .i32 y1, .int .i32 y2, .int .i32 y3, .int .i32 y4, .int .i32 y5, .int .i32 y6, .int .i32 y7, .int .i32 y8, .int .i32 y9, .int .i32 y10, .int .i32 y11], .int .i64 (1 + n), .bool (er == 0)]) (by simp [results, Try.results47, go_sem, ez0, ez1, ez2, ez3, ez4, ez5, ez6, ez7, ez8, ez9, ez10, ez11, ez12, ez13]) rfl ⟨by rw [hr.out]; rfl, hB9.out⟩
    replace hr : r = (noE, 0, false) := hr.out.symm.trans ((entD_cons _ _ _ _).trans ((if_neg c75).trans (if_neg hd)))
    replace hr := hid hr
    by_cases c68 : c = 68
    case pos =>
      subst c68
      obtain rfl : first = true := by cases first; exact absurd ⟨rfl, rfl⟩ hd; rfl
      have z0 := held_cell r_p0_1 0 _ rfl
      have z1 := held_cell r_p0_1 1 _ rfl
      have z2 := held_cell r_p0_1 2 _ rfl
      have z3 := held_cell r_p0_1 3 _ rfl
      have z4 := held_cell r_p0_1 4 _ rfl
      have z5 := held_cell r_p0_1 5 _ rfl
      have z6 := held_cell r_p0_1 6 _ rfl
      have z7 := held_cell r_p0_1 7 _ rfl
      have z8 := held_cell r_p0_1 8 _ rfl
      have z9 := held_cell r_p0_1 9 _ rfl
      have z10 := held_cell r_p0_1 10 _ rfl
      have z11 := held_cell r_p0_1 11 _ rfl
      have z12 := held_cell r_p0_1 12 _ rfl
      have z13 := held_cell r_p0_1 13 _ rfl
      have g0 := held_free r_p0_1 0
      have g1 := held_free r_p0_1 1
      have g2 := held_free r_p0_1 2
      have g3 := held_free r_p0_1 3
      have g4 := held_free r_p0_1 4
      have g5 := held_free r_p0_1 5
      have g6 := held_free r_p0_1 6
      have g7 := held_free r_p0_1 7
      have g8 := held_free r_p0_1 8
      have g9 := held_free r_p0_1 9
      have g10 := held_free r_p0_1 10
      have g11 := held_free r_p0_1 11
      have g12 := held_free r_p0_1 12
      have g13 := held_free r_p0_1 13
      obtain ⟨W9, hW9, ya, yO⟩ := st14 r_p0_1 (.bool false) (.int .u32 0) (.int .i32 0) (.int .i32 0) (.int .i32 0) (.int .i32 0) (.int .i32 0) (.int .i32 0) (.int .i32 0) (.int .i32 0) (.int .i32 0) (.int .i32 0) (.int .i32 0) (.int .i32 0)
      have hB9 := hid (belowS hB.out yO (by omega))
      have ez0 := held_cell ya 0 _ rfl
      have ez1 := held_cell ya 1 _ rfl
      have ez2 := held_cell ya 2 _ rfl
      have ez3 := held_cell ya 3 _ rfl
      have ez4 := held_cell ya 4 _ rfl
      have ez5 := held_cell ya 5 _ rfl
      have ez6 := held_cell ya 6 _ rfl
      have ez7 := held_cell ya 7 _ rfl
      have ez8 := held_cell ya 8 _ rfl
      have ez9 := held_cell ya 9 _ rfl
      have ez10 := held_cell ya 10 _ rfl
      have ez11 := held_cell ya 11 _ rfl
      have ez12 := held_cell ya 12 _ rfl
      have ez13 := held_cell ya 13 _ rfl
      clear yO ya
      go_wp2_with fail
      refine bodyPost_ret (v := .tuple #[.agg #[.bool false, .int .u32 0, .int .i32 0, .int .i32 0, .int .i32 0, .int .i32 0, .int .i32 0, .int .i32 0, .int .i32 0, .int .i32 0, .int .i32 0, .int .i32 0, .int .i32 0, .int .i32 0], .int .i64 0, .bool false]) (by simp [results, Try.results47, go_sem, ez0, ez1, ez2, ez3, ez4, ez5, ez6, ez7, ez8, ez9, ez10, ez11, ez12, ez13]) rfl ⟨by rw [hr.out]; rfl, hB9.out⟩
    have q68 : (c == 68) = false := by simpa using c68
    have z0 := held_cell r_p0_1 0 _ rfl
    have z1 := held_cell r_p0_1 1 _ rfl
    have z2 := held_cell r_p0_1 2 _ rfl
    have z3 := held_cell r_p0_1 3 _ rfl
    have z4 := held_cell r_p0_1 4 _ rfl
    have z5 := held_cell r_p0_1 5 _ rfl
    have z6 := held_cell r_p0_1 6 _ rfl
    have z7 := held_cell r_p0_1 7 _ rfl
    have z8 := held_cell r_p0_1 8 _ rfl
    have z9 := held_cell r_p0_1 9 _ rfl
    have z10 := held_cell r_p0_1 10 _ rfl
    have z11 := held_cell r_p0_1 11 _ rfl
    have z12 := held_cell r_p0_1 12 _ rfl
    have z13 := held_cell r_p0_1 13 _ rfl
    have g0 := held_free r_p0_1 0
    have g1 := held_free r_p0_1 1
    have g2 := held_free r_p0_1 2
    have g3 := held_free r_p0_1 3
    have g4 := held_free r_p0_1 4
    have g5 := held_free r_p0_1 5
    have g6 := held_free r_p0_1 6
    have g7 := held_free r_p0_1 7
    have g8 := held_free r_p0_1 8
    have g9 := held_free r_p0_1 9
    have g10 := held_free r_p0_1 10
    have g11 := held_free r_p0_1 11
    have g12 := held_free r_p0_1 12
    have g13 := held_free r_p0_1 13
    obtain ⟨W9, hW9, ya, yO⟩ := st14 r_p0_1 (.bool false) (.int .u32 0) (.int .i32 0) (.int .i32 0) (.int .i32 0) (.int .i32 0) (.int .i32 0) (.int .i32 0) (.int .i32 0) (.int .i32 0) (.int .i32 0) (.int .i32 0) (.int .i32 0) (.int .i32 0)
    have hB9 := hid (belowS hB.out yO (by omega))
    have ez0 := held_cell ya 0 _ rfl
    have ez1 := held_cell ya 1 _ rfl
    have ez2 := held_cell ya 2 _ rfl
    have ez3 := held_cell ya 3 _ rfl
    have ez4 := held_cell ya 4 _ rfl
    have ez5 := held_cell ya 5 _ rfl
    have ez6 := held_cell ya 6 _ rfl
    have ez7 := held_cell ya 7 _ rfl
    have ez8 := held_cell ya 8 _ rfl
    have ez9 := held_cell ya 9 _ rfl
    have ez10 := held_cell ya 10 _ rfl
    have ez11 := held_cell ya 11 _ rfl
    have ez12 := held_cell ya 12 _ rfl
    have ez13 := held_cell ya 13 _ rfl
    clear yO ya
    go_wp2_with fail
    refine bodyPost_ret (v := .tuple #[.agg #[.bool false, .int .u32 0, .int .i32 0, .int .i32 0, .int .i32 0, .int .i32 0, .int .i32 0, .int .i32 0, .int .i32 0, .int .i32 0, .int .i32 0, .int .i32 0, .int .i32 0, .int .i32 0], .int .i64 0, .bool false]) (by simp [results, Try.results47, go_sem, ez0, ez1, ez2, ez3, ez4, ez5, ez6, ez7, ez8, ez9, ez10, ez11, ez12, ez13]) rfl ⟨by rw [hr.out]; rfl, hB9.out⟩

end Go.Proofs.Ytlfbhfmchdbnoaa
