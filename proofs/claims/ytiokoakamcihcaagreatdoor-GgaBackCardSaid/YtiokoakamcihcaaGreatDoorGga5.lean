/- Package gga: Take. -/
import Derived.Test.YtiokoakamcihcaaGreatDoorGga2
import Derived.Laws.Tables
import Derived.Laws.Rows
import Derived.Deep.DeepCutAuto
namespace Go.Proofs.YtiokoakamcihcaaGreatDoor
open Go.ChangeShapes Go.WideShapes Go.ChangeAt Go.RowKit
set_option linter.unusedVariables false
set_option linter.unusedSimpArgs false

theorem EyeIn.below {w w2 : World} {B : Nat} {e : Int} {L : List ByteArray} (h : EyeIn w B e L) (hA : After w w2) : EyeIn w2 B e L := h.aft hA
theorem RowR.below {w w2 : World} {B : Nat} {e : Int} {L : List ByteArray} (h : RowR w B e L) (hA : After w w2) : RowR w2 B e L := h.aft hA
/-- The first error of a list. -/
def kE (l : List Int) : Int := l.foldl kp 0
def ggR (E : Int) (v : Array Value) : Value := .tuple #[if E = 0 then .agg v else .agg #[.bool false, .int .i64 0, .int .i64 0, .int .i64 0, .int .i64 0, .bool false, .int .i64 0, .bool false, .int .i64 0, .int .i64 0, .bool false, .int .i64 0, .bool false, .int .i64 0, .bool false, .int .i64 0, .bool false, .int .i64 0, .bool false, .int .i64 0, .bool false, .int .i64 0], .int .i64 E]
theorem sg0 {U : World} {p : Nat} {v0 v1 v2 v3 v4 v5 v6 v7 v8 v9 v10 v11 v12 v13 v14 v15 v16 v17 v18 v19 v20 v21 : Value} {T : TypeId} (h : U.heap[p]? = some (.cells #[v0, v1, v2, v3, v4, v5, v6, v7, v8, v9, v10, v11, v12, v13, v14, v15, v16, v17, v18, v19, v20, v21] T (0, 0))) (u0 u1 u2 u3 u4 : Value) :
    ∃ W2, (((((U.setCell ⟨p, 0, none⟩ u0).setCell ⟨p, 1, none⟩ u1).setCell ⟨p, 2, none⟩ u2).setCell ⟨p, 3, none⟩ u3).setCell ⟨p, 4, none⟩ u4) = W2 ∧ W2.heap[p]? = some (.cells #[u0, u1, u2, u3, u4, v5, v6, v7, v8, v9, v10, v11, v12, v13, v14, v15, v16, v17, v18, v19, v20, v21] T (0, 0)) ∧ Only p U W2 := by
  have h0 : (U.setCell ⟨p, 0, none⟩ u0).heap[p]? = some (.cells #[u0, v1, v2, v3, v4, v5, v6, v7, v8, v9, v10, v11, v12, v13, v14, v15, v16, v17, v18, v19, v20, v21] T (0, 0)) := held_set h 0 u0
  have o0 : Only p U (U.setCell ⟨p, 0, none⟩ u0) := Only.set p 0 u0 U
  obtain ⟨W0, hW0⟩ : ∃ W, (U.setCell ⟨p, 0, none⟩ u0) = W := ⟨_, rfl⟩
  rw [hW0] at h0 o0 ⊢
  have h1 : (W0.setCell ⟨p, 1, none⟩ u1).heap[p]? = some (.cells #[u0, u1, v2, v3, v4, v5, v6, v7, v8, v9, v10, v11, v12, v13, v14, v15, v16, v17, v18, v19, v20, v21] T (0, 0)) := held_set h0 1 u1
  have o1 : Only p U (W0.setCell ⟨p, 1, none⟩ u1) := putS o0 1 u1
  obtain ⟨W1, hW1⟩ : ∃ W, (W0.setCell ⟨p, 1, none⟩ u1) = W := ⟨_, rfl⟩
  rw [hW1] at h1 o1 ⊢
  have h2 : (W1.setCell ⟨p, 2, none⟩ u2).heap[p]? = some (.cells #[u0, u1, u2, v3, v4, v5, v6, v7, v8, v9, v10, v11, v12, v13, v14, v15, v16, v17, v18, v19, v20, v21] T (0, 0)) := held_set h1 2 u2
  have o2 : Only p U (W1.setCell ⟨p, 2, none⟩ u2) := putS o1 2 u2
  obtain ⟨W2, hW2⟩ : ∃ W, (W1.setCell ⟨p, 2, none⟩ u2) = W := ⟨_, rfl⟩
  rw [hW2] at h2 o2 ⊢
  have h3 : (W2.setCell ⟨p, 3, none⟩ u3).heap[p]? = some (.cells #[u0, u1, u2, u3, v4, v5, v6, v7, v8, v9, v10, v11, v12, v13, v14, v15, v16, v17, v18, v19, v20, v21] T (0, 0)) := held_set h2 3 u3
  have o3 : Only p U (W2.setCell ⟨p, 3, none⟩ u3) := putS o2 3 u3
  obtain ⟨W3, hW3⟩ : ∃ W, (W2.setCell ⟨p, 3, none⟩ u3) = W := ⟨_, rfl⟩
  rw [hW3] at h3 o3 ⊢
  have h4 : (W3.setCell ⟨p, 4, none⟩ u4).heap[p]? = some (.cells #[u0, u1, u2, u3, u4, v5, v6, v7, v8, v9, v10, v11, v12, v13, v14, v15, v16, v17, v18, v19, v20, v21] T (0, 0)) := held_set h3 4 u4
  have o4 : Only p U (W3.setCell ⟨p, 4, none⟩ u4) := putS o3 4 u4
  obtain ⟨W4, hW4⟩ : ∃ W, (W3.setCell ⟨p, 4, none⟩ u4) = W := ⟨_, rfl⟩
  rw [hW4] at h4 o4 ⊢
  exact ⟨_, rfl, h4, o4⟩
theorem sg9 {U : World} {p : Nat} {v0 v1 v2 v3 v4 v5 v6 v7 v8 v9 v10 v11 v12 v13 v14 v15 v16 v17 v18 v19 v20 v21 : Value} {T : TypeId} (h : U.heap[p]? = some (.cells #[v0, v1, v2, v3, v4, v5, v6, v7, v8, v9, v10, v11, v12, v13, v14, v15, v16, v17, v18, v19, v20, v21] T (0, 0))) (u9 : Value) :
    ∃ W2, (U.setCell ⟨p, 9, none⟩ u9) = W2 ∧ W2.heap[p]? = some (.cells #[v0, v1, v2, v3, v4, v5, v6, v7, v8, u9, v10, v11, v12, v13, v14, v15, v16, v17, v18, v19, v20, v21] T (0, 0)) ∧ Only p U W2 := by
  have h9 : (U.setCell ⟨p, 9, none⟩ u9).heap[p]? = some (.cells #[v0, v1, v2, v3, v4, v5, v6, v7, v8, u9, v10, v11, v12, v13, v14, v15, v16, v17, v18, v19, v20, v21] T (0, 0)) := held_set h 9 u9
  have o9 : Only p U (U.setCell ⟨p, 9, none⟩ u9) := Only.set p 9 u9 U
  obtain ⟨W9, hW9⟩ : ∃ W, (U.setCell ⟨p, 9, none⟩ u9) = W := ⟨_, rfl⟩
  rw [hW9] at h9 o9 ⊢
  exact ⟨_, rfl, h9, o9⟩
theorem sg22 {U : World} {p : Nat} {v0 v1 v2 v3 v4 v5 v6 v7 v8 v9 v10 v11 v12 v13 v14 v15 v16 v17 v18 v19 v20 v21 : Value} {T : TypeId} (h : U.heap[p]? = some (.cells #[v0, v1, v2, v3, v4, v5, v6, v7, v8, v9, v10, v11, v12, v13, v14, v15, v16, v17, v18, v19, v20, v21] T (0, 0))) (u0 u1 u2 u3 u4 u5 u6 u7 u8 u9 u10 u11 u12 u13 u14 u15 u16 u17 u18 u19 u20 u21 : Value) :
    ∃ W2, ((((((((((((((((((((((U.setCell ⟨p, 0, none⟩ u0).setCell ⟨p, 1, none⟩ u1).setCell ⟨p, 2, none⟩ u2).setCell ⟨p, 3, none⟩ u3).setCell ⟨p, 4, none⟩ u4).setCell ⟨p, 5, none⟩ u5).setCell ⟨p, 6, none⟩ u6).setCell ⟨p, 7, none⟩ u7).setCell ⟨p, 8, none⟩ u8).setCell ⟨p, 9, none⟩ u9).setCell ⟨p, 10, none⟩ u10).setCell ⟨p, 11, none⟩ u11).setCell ⟨p, 12, none⟩ u12).setCell ⟨p, 13, none⟩ u13).setCell ⟨p, 14, none⟩ u14).setCell ⟨p, 15, none⟩ u15).setCell ⟨p, 16, none⟩ u16).setCell ⟨p, 17, none⟩ u17).setCell ⟨p, 18, none⟩ u18).setCell ⟨p, 19, none⟩ u19).setCell ⟨p, 20, none⟩ u20).setCell ⟨p, 21, none⟩ u21) = W2 ∧ W2.heap[p]? = some (.cells #[u0, u1, u2, u3, u4, u5, u6, u7, u8, u9, u10, u11, u12, u13, u14, u15, u16, u17, u18, u19, u20, u21] T (0, 0)) ∧ Only p U W2 := by
  have h0 : (U.setCell ⟨p, 0, none⟩ u0).heap[p]? = some (.cells #[u0, v1, v2, v3, v4, v5, v6, v7, v8, v9, v10, v11, v12, v13, v14, v15, v16, v17, v18, v19, v20, v21] T (0, 0)) := held_set h 0 u0
  have o0 : Only p U (U.setCell ⟨p, 0, none⟩ u0) := Only.set p 0 u0 U
  obtain ⟨W0, hW0⟩ : ∃ W, (U.setCell ⟨p, 0, none⟩ u0) = W := ⟨_, rfl⟩
  rw [hW0] at h0 o0 ⊢
  have h1 : (W0.setCell ⟨p, 1, none⟩ u1).heap[p]? = some (.cells #[u0, u1, v2, v3, v4, v5, v6, v7, v8, v9, v10, v11, v12, v13, v14, v15, v16, v17, v18, v19, v20, v21] T (0, 0)) := held_set h0 1 u1
  have o1 : Only p U (W0.setCell ⟨p, 1, none⟩ u1) := putS o0 1 u1
  obtain ⟨W1, hW1⟩ : ∃ W, (W0.setCell ⟨p, 1, none⟩ u1) = W := ⟨_, rfl⟩
  rw [hW1] at h1 o1 ⊢
  have h2 : (W1.setCell ⟨p, 2, none⟩ u2).heap[p]? = some (.cells #[u0, u1, u2, v3, v4, v5, v6, v7, v8, v9, v10, v11, v12, v13, v14, v15, v16, v17, v18, v19, v20, v21] T (0, 0)) := held_set h1 2 u2
  have o2 : Only p U (W1.setCell ⟨p, 2, none⟩ u2) := putS o1 2 u2
  obtain ⟨W2, hW2⟩ : ∃ W, (W1.setCell ⟨p, 2, none⟩ u2) = W := ⟨_, rfl⟩
  rw [hW2] at h2 o2 ⊢
  have h3 : (W2.setCell ⟨p, 3, none⟩ u3).heap[p]? = some (.cells #[u0, u1, u2, u3, v4, v5, v6, v7, v8, v9, v10, v11, v12, v13, v14, v15, v16, v17, v18, v19, v20, v21] T (0, 0)) := held_set h2 3 u3
  have o3 : Only p U (W2.setCell ⟨p, 3, none⟩ u3) := putS o2 3 u3
  obtain ⟨W3, hW3⟩ : ∃ W, (W2.setCell ⟨p, 3, none⟩ u3) = W := ⟨_, rfl⟩
  rw [hW3] at h3 o3 ⊢
  have h4 : (W3.setCell ⟨p, 4, none⟩ u4).heap[p]? = some (.cells #[u0, u1, u2, u3, u4, v5, v6, v7, v8, v9, v10, v11, v12, v13, v14, v15, v16, v17, v18, v19, v20, v21] T (0, 0)) := held_set h3 4 u4
  have o4 : Only p U (W3.setCell ⟨p, 4, none⟩ u4) := putS o3 4 u4
  obtain ⟨W4, hW4⟩ : ∃ W, (W3.setCell ⟨p, 4, none⟩ u4) = W := ⟨_, rfl⟩
  rw [hW4] at h4 o4 ⊢
  have h5 : (W4.setCell ⟨p, 5, none⟩ u5).heap[p]? = some (.cells #[u0, u1, u2, u3, u4, u5, v6, v7, v8, v9, v10, v11, v12, v13, v14, v15, v16, v17, v18, v19, v20, v21] T (0, 0)) := held_set h4 5 u5
  have o5 : Only p U (W4.setCell ⟨p, 5, none⟩ u5) := putS o4 5 u5
  obtain ⟨W5, hW5⟩ : ∃ W, (W4.setCell ⟨p, 5, none⟩ u5) = W := ⟨_, rfl⟩
  rw [hW5] at h5 o5 ⊢
  have h6 : (W5.setCell ⟨p, 6, none⟩ u6).heap[p]? = some (.cells #[u0, u1, u2, u3, u4, u5, u6, v7, v8, v9, v10, v11, v12, v13, v14, v15, v16, v17, v18, v19, v20, v21] T (0, 0)) := held_set h5 6 u6
  have o6 : Only p U (W5.setCell ⟨p, 6, none⟩ u6) := putS o5 6 u6
  obtain ⟨W6, hW6⟩ : ∃ W, (W5.setCell ⟨p, 6, none⟩ u6) = W := ⟨_, rfl⟩
  rw [hW6] at h6 o6 ⊢
  have h7 : (W6.setCell ⟨p, 7, none⟩ u7).heap[p]? = some (.cells #[u0, u1, u2, u3, u4, u5, u6, u7, v8, v9, v10, v11, v12, v13, v14, v15, v16, v17, v18, v19, v20, v21] T (0, 0)) := held_set h6 7 u7
  have o7 : Only p U (W6.setCell ⟨p, 7, none⟩ u7) := putS o6 7 u7
  obtain ⟨W7, hW7⟩ : ∃ W, (W6.setCell ⟨p, 7, none⟩ u7) = W := ⟨_, rfl⟩
  rw [hW7] at h7 o7 ⊢
  have h8 : (W7.setCell ⟨p, 8, none⟩ u8).heap[p]? = some (.cells #[u0, u1, u2, u3, u4, u5, u6, u7, u8, v9, v10, v11, v12, v13, v14, v15, v16, v17, v18, v19, v20, v21] T (0, 0)) := held_set h7 8 u8
  have o8 : Only p U (W7.setCell ⟨p, 8, none⟩ u8) := putS o7 8 u8
  obtain ⟨W8, hW8⟩ : ∃ W, (W7.setCell ⟨p, 8, none⟩ u8) = W := ⟨_, rfl⟩
  rw [hW8] at h8 o8 ⊢
  have h9 : (W8.setCell ⟨p, 9, none⟩ u9).heap[p]? = some (.cells #[u0, u1, u2, u3, u4, u5, u6, u7, u8, u9, v10, v11, v12, v13, v14, v15, v16, v17, v18, v19, v20, v21] T (0, 0)) := held_set h8 9 u9
  have o9 : Only p U (W8.setCell ⟨p, 9, none⟩ u9) := putS o8 9 u9
  obtain ⟨W9, hW9⟩ : ∃ W, (W8.setCell ⟨p, 9, none⟩ u9) = W := ⟨_, rfl⟩
  rw [hW9] at h9 o9 ⊢
  have h10 : (W9.setCell ⟨p, 10, none⟩ u10).heap[p]? = some (.cells #[u0, u1, u2, u3, u4, u5, u6, u7, u8, u9, u10, v11, v12, v13, v14, v15, v16, v17, v18, v19, v20, v21] T (0, 0)) := held_set h9 10 u10
  have o10 : Only p U (W9.setCell ⟨p, 10, none⟩ u10) := putS o9 10 u10
  obtain ⟨W10, hW10⟩ : ∃ W, (W9.setCell ⟨p, 10, none⟩ u10) = W := ⟨_, rfl⟩
  rw [hW10] at h10 o10 ⊢
  have h11 : (W10.setCell ⟨p, 11, none⟩ u11).heap[p]? = some (.cells #[u0, u1, u2, u3, u4, u5, u6, u7, u8, u9, u10, u11, v12, v13, v14, v15, v16, v17, v18, v19, v20, v21] T (0, 0)) := held_set h10 11 u11
  have o11 : Only p U (W10.setCell ⟨p, 11, none⟩ u11) := putS o10 11 u11
  obtain ⟨W11, hW11⟩ : ∃ W, (W10.setCell ⟨p, 11, none⟩ u11) = W := ⟨_, rfl⟩
  rw [hW11] at h11 o11 ⊢
  have h12 : (W11.setCell ⟨p, 12, none⟩ u12).heap[p]? = some (.cells #[u0, u1, u2, u3, u4, u5, u6, u7, u8, u9, u10, u11, u12, v13, v14, v15, v16, v17, v18, v19, v20, v21] T (0, 0)) := held_set h11 12 u12
  have o12 : Only p U (W11.setCell ⟨p, 12, none⟩ u12) := putS o11 12 u12
  obtain ⟨W12, hW12⟩ : ∃ W, (W11.setCell ⟨p, 12, none⟩ u12) = W := ⟨_, rfl⟩
  rw [hW12] at h12 o12 ⊢
  have h13 : (W12.setCell ⟨p, 13, none⟩ u13).heap[p]? = some (.cells #[u0, u1, u2, u3, u4, u5, u6, u7, u8, u9, u10, u11, u12, u13, v14, v15, v16, v17, v18, v19, v20, v21] T (0, 0)) := held_set h12 13 u13
  have o13 : Only p U (W12.setCell ⟨p, 13, none⟩ u13) := putS o12 13 u13
  obtain ⟨W13, hW13⟩ : ∃ W, (W12.setCell ⟨p, 13, none⟩ u13) = W := ⟨_, rfl⟩
  rw [hW13] at h13 o13 ⊢
  have h14 : (W13.setCell ⟨p, 14, none⟩ u14).heap[p]? = some (.cells #[u0, u1, u2, u3, u4, u5, u6, u7, u8, u9, u10, u11, u12, u13, u14, v15, v16, v17, v18, v19, v20, v21] T (0, 0)) := held_set h13 14 u14
  have o14 : Only p U (W13.setCell ⟨p, 14, none⟩ u14) := putS o13 14 u14
  obtain ⟨W14, hW14⟩ : ∃ W, (W13.setCell ⟨p, 14, none⟩ u14) = W := ⟨_, rfl⟩
  rw [hW14] at h14 o14 ⊢
  have h15 : (W14.setCell ⟨p, 15, none⟩ u15).heap[p]? = some (.cells #[u0, u1, u2, u3, u4, u5, u6, u7, u8, u9, u10, u11, u12, u13, u14, u15, v16, v17, v18, v19, v20, v21] T (0, 0)) := held_set h14 15 u15
  have o15 : Only p U (W14.setCell ⟨p, 15, none⟩ u15) := putS o14 15 u15
  obtain ⟨W15, hW15⟩ : ∃ W, (W14.setCell ⟨p, 15, none⟩ u15) = W := ⟨_, rfl⟩
  rw [hW15] at h15 o15 ⊢
  have h16 : (W15.setCell ⟨p, 16, none⟩ u16).heap[p]? = some (.cells #[u0, u1, u2, u3, u4, u5, u6, u7, u8, u9, u10, u11, u12, u13, u14, u15, u16, v17, v18, v19, v20, v21] T (0, 0)) := held_set h15 16 u16
  have o16 : Only p U (W15.setCell ⟨p, 16, none⟩ u16) := putS o15 16 u16
  obtain ⟨W16, hW16⟩ : ∃ W, (W15.setCell ⟨p, 16, none⟩ u16) = W := ⟨_, rfl⟩
  rw [hW16] at h16 o16 ⊢
  have h17 : (W16.setCell ⟨p, 17, none⟩ u17).heap[p]? = some (.cells #[u0, u1, u2, u3, u4, u5, u6, u7, u8, u9, u10, u11, u12, u13, u14, u15, u16, u17, v18, v19, v20, v21] T (0, 0)) := held_set h16 17 u17
  have o17 : Only p U (W16.setCell ⟨p, 17, none⟩ u17) := putS o16 17 u17
  obtain ⟨W17, hW17⟩ : ∃ W, (W16.setCell ⟨p, 17, none⟩ u17) = W := ⟨_, rfl⟩
  rw [hW17] at h17 o17 ⊢
  have h18 : (W17.setCell ⟨p, 18, none⟩ u18).heap[p]? = some (.cells #[u0, u1, u2, u3, u4, u5, u6, u7, u8, u9, u10, u11, u12, u13, u14, u15, u16, u17, u18, v19, v20, v21] T (0, 0)) := held_set h17 18 u18
  have o18 : Only p U (W17.setCell ⟨p, 18, none⟩ u18) := putS o17 18 u18
  obtain ⟨W18, hW18⟩ : ∃ W, (W17.setCell ⟨p, 18, none⟩ u18) = W := ⟨_, rfl⟩
  rw [hW18] at h18 o18 ⊢
  have h19 : (W18.setCell ⟨p, 19, none⟩ u19).heap[p]? = some (.cells #[u0, u1, u2, u3, u4, u5, u6, u7, u8, u9, u10, u11, u12, u13, u14, u15, u16, u17, u18, u19, v20, v21] T (0, 0)) := held_set h18 19 u19
  have o19 : Only p U (W18.setCell ⟨p, 19, none⟩ u19) := putS o18 19 u19
  obtain ⟨W19, hW19⟩ : ∃ W, (W18.setCell ⟨p, 19, none⟩ u19) = W := ⟨_, rfl⟩
  rw [hW19] at h19 o19 ⊢
  have h20 : (W19.setCell ⟨p, 20, none⟩ u20).heap[p]? = some (.cells #[u0, u1, u2, u3, u4, u5, u6, u7, u8, u9, u10, u11, u12, u13, u14, u15, u16, u17, u18, u19, u20, v21] T (0, 0)) := held_set h19 20 u20
  have o20 : Only p U (W19.setCell ⟨p, 20, none⟩ u20) := putS o19 20 u20
  obtain ⟨W20, hW20⟩ : ∃ W, (W19.setCell ⟨p, 20, none⟩ u20) = W := ⟨_, rfl⟩
  rw [hW20] at h20 o20 ⊢
  have h21 : (W20.setCell ⟨p, 21, none⟩ u21).heap[p]? = some (.cells #[u0, u1, u2, u3, u4, u5, u6, u7, u8, u9, u10, u11, u12, u13, u14, u15, u16, u17, u18, u19, u20, u21] T (0, 0)) := held_set h20 21 u21
  have o21 : Only p U (W20.setCell ⟨p, 21, none⟩ u21) := putS o20 21 u21
  obtain ⟨W21, hW21⟩ : ∃ W, (W20.setCell ⟨p, 21, none⟩ u21) = W := ⟨_, rfl⟩
  rw [hW21] at h21 o21 ⊢
  exact ⟨_, rfl, h21, o21⟩
theorem sg5 {U : World} {p : Nat} {v0 v1 v2 v3 v4 v5 v6 v7 v8 v9 v10 v11 v12 v13 v14 v15 v16 v17 v18 v19 v20 v21 : Value} {T : TypeId} (h : U.heap[p]? = some (.cells #[v0, v1, v2, v3, v4, v5, v6, v7, v8, v9, v10, v11, v12, v13, v14, v15, v16, v17, v18, v19, v20, v21] T (0, 0))) (u5 u6 : Value) :
    ∃ W2, ((U.setCell ⟨p, 5, none⟩ u5).setCell ⟨p, 6, none⟩ u6) = W2 ∧ W2.heap[p]? = some (.cells #[v0, v1, v2, v3, v4, u5, u6, v7, v8, v9, v10, v11, v12, v13, v14, v15, v16, v17, v18, v19, v20, v21] T (0, 0)) ∧ Only p U W2 := by
  have h5 : (U.setCell ⟨p, 5, none⟩ u5).heap[p]? = some (.cells #[v0, v1, v2, v3, v4, u5, v6, v7, v8, v9, v10, v11, v12, v13, v14, v15, v16, v17, v18, v19, v20, v21] T (0, 0)) := held_set h 5 u5
  have o5 : Only p U (U.setCell ⟨p, 5, none⟩ u5) := Only.set p 5 u5 U
  obtain ⟨W5, hW5⟩ : ∃ W, (U.setCell ⟨p, 5, none⟩ u5) = W := ⟨_, rfl⟩
  rw [hW5] at h5 o5 ⊢
  have h6 : (W5.setCell ⟨p, 6, none⟩ u6).heap[p]? = some (.cells #[v0, v1, v2, v3, v4, u5, u6, v7, v8, v9, v10, v11, v12, v13, v14, v15, v16, v17, v18, v19, v20, v21] T (0, 0)) := held_set h5 6 u6
  have o6 : Only p U (W5.setCell ⟨p, 6, none⟩ u6) := putS o5 6 u6
  obtain ⟨W6, hW6⟩ : ∃ W, (W5.setCell ⟨p, 6, none⟩ u6) = W := ⟨_, rfl⟩
  rw [hW6] at h6 o6 ⊢
  exact ⟨_, rfl, h6, o6⟩
theorem sg7 {U : World} {p : Nat} {v0 v1 v2 v3 v4 v5 v6 v7 v8 v9 v10 v11 v12 v13 v14 v15 v16 v17 v18 v19 v20 v21 : Value} {T : TypeId} (h : U.heap[p]? = some (.cells #[v0, v1, v2, v3, v4, v5, v6, v7, v8, v9, v10, v11, v12, v13, v14, v15, v16, v17, v18, v19, v20, v21] T (0, 0))) (u7 u8 : Value) :
    ∃ W2, ((U.setCell ⟨p, 7, none⟩ u7).setCell ⟨p, 8, none⟩ u8) = W2 ∧ W2.heap[p]? = some (.cells #[v0, v1, v2, v3, v4, v5, v6, u7, u8, v9, v10, v11, v12, v13, v14, v15, v16, v17, v18, v19, v20, v21] T (0, 0)) ∧ Only p U W2 := by
  have h7 : (U.setCell ⟨p, 7, none⟩ u7).heap[p]? = some (.cells #[v0, v1, v2, v3, v4, v5, v6, u7, v8, v9, v10, v11, v12, v13, v14, v15, v16, v17, v18, v19, v20, v21] T (0, 0)) := held_set h 7 u7
  have o7 : Only p U (U.setCell ⟨p, 7, none⟩ u7) := Only.set p 7 u7 U
  obtain ⟨W7, hW7⟩ : ∃ W, (U.setCell ⟨p, 7, none⟩ u7) = W := ⟨_, rfl⟩
  rw [hW7] at h7 o7 ⊢
  have h8 : (W7.setCell ⟨p, 8, none⟩ u8).heap[p]? = some (.cells #[v0, v1, v2, v3, v4, v5, v6, u7, u8, v9, v10, v11, v12, v13, v14, v15, v16, v17, v18, v19, v20, v21] T (0, 0)) := held_set h7 8 u8
  have o8 : Only p U (W7.setCell ⟨p, 8, none⟩ u8) := putS o7 8 u8
  obtain ⟨W8, hW8⟩ : ∃ W, (W7.setCell ⟨p, 8, none⟩ u8) = W := ⟨_, rfl⟩
  rw [hW8] at h8 o8 ⊢
  exact ⟨_, rfl, h8, o8⟩
theorem sg10 {U : World} {p : Nat} {v0 v1 v2 v3 v4 v5 v6 v7 v8 v9 v10 v11 v12 v13 v14 v15 v16 v17 v18 v19 v20 v21 : Value} {T : TypeId} (h : U.heap[p]? = some (.cells #[v0, v1, v2, v3, v4, v5, v6, v7, v8, v9, v10, v11, v12, v13, v14, v15, v16, v17, v18, v19, v20, v21] T (0, 0))) (u10 u11 : Value) :
    ∃ W2, ((U.setCell ⟨p, 10, none⟩ u10).setCell ⟨p, 11, none⟩ u11) = W2 ∧ W2.heap[p]? = some (.cells #[v0, v1, v2, v3, v4, v5, v6, v7, v8, v9, u10, u11, v12, v13, v14, v15, v16, v17, v18, v19, v20, v21] T (0, 0)) ∧ Only p U W2 := by
  have h10 : (U.setCell ⟨p, 10, none⟩ u10).heap[p]? = some (.cells #[v0, v1, v2, v3, v4, v5, v6, v7, v8, v9, u10, v11, v12, v13, v14, v15, v16, v17, v18, v19, v20, v21] T (0, 0)) := held_set h 10 u10
  have o10 : Only p U (U.setCell ⟨p, 10, none⟩ u10) := Only.set p 10 u10 U
  obtain ⟨W10, hW10⟩ : ∃ W, (U.setCell ⟨p, 10, none⟩ u10) = W := ⟨_, rfl⟩
  rw [hW10] at h10 o10 ⊢
  have h11 : (W10.setCell ⟨p, 11, none⟩ u11).heap[p]? = some (.cells #[v0, v1, v2, v3, v4, v5, v6, v7, v8, v9, u10, u11, v12, v13, v14, v15, v16, v17, v18, v19, v20, v21] T (0, 0)) := held_set h10 11 u11
  have o11 : Only p U (W10.setCell ⟨p, 11, none⟩ u11) := putS o10 11 u11
  obtain ⟨W11, hW11⟩ : ∃ W, (W10.setCell ⟨p, 11, none⟩ u11) = W := ⟨_, rfl⟩
  rw [hW11] at h11 o11 ⊢
  exact ⟨_, rfl, h11, o11⟩
theorem sg12 {U : World} {p : Nat} {v0 v1 v2 v3 v4 v5 v6 v7 v8 v9 v10 v11 v12 v13 v14 v15 v16 v17 v18 v19 v20 v21 : Value} {T : TypeId} (h : U.heap[p]? = some (.cells #[v0, v1, v2, v3, v4, v5, v6, v7, v8, v9, v10, v11, v12, v13, v14, v15, v16, v17, v18, v19, v20, v21] T (0, 0))) (u12 u13 : Value) :
    ∃ W2, ((U.setCell ⟨p, 12, none⟩ u12).setCell ⟨p, 13, none⟩ u13) = W2 ∧ W2.heap[p]? = some (.cells #[v0, v1, v2, v3, v4, v5, v6, v7, v8, v9, v10, v11, u12, u13, v14, v15, v16, v17, v18, v19, v20, v21] T (0, 0)) ∧ Only p U W2 := by
  have h12 : (U.setCell ⟨p, 12, none⟩ u12).heap[p]? = some (.cells #[v0, v1, v2, v3, v4, v5, v6, v7, v8, v9, v10, v11, u12, v13, v14, v15, v16, v17, v18, v19, v20, v21] T (0, 0)) := held_set h 12 u12
  have o12 : Only p U (U.setCell ⟨p, 12, none⟩ u12) := Only.set p 12 u12 U
  obtain ⟨W12, hW12⟩ : ∃ W, (U.setCell ⟨p, 12, none⟩ u12) = W := ⟨_, rfl⟩
  rw [hW12] at h12 o12 ⊢
  have h13 : (W12.setCell ⟨p, 13, none⟩ u13).heap[p]? = some (.cells #[v0, v1, v2, v3, v4, v5, v6, v7, v8, v9, v10, v11, u12, u13, v14, v15, v16, v17, v18, v19, v20, v21] T (0, 0)) := held_set h12 13 u13
  have o13 : Only p U (W12.setCell ⟨p, 13, none⟩ u13) := putS o12 13 u13
  obtain ⟨W13, hW13⟩ : ∃ W, (W12.setCell ⟨p, 13, none⟩ u13) = W := ⟨_, rfl⟩
  rw [hW13] at h13 o13 ⊢
  exact ⟨_, rfl, h13, o13⟩
theorem sg14 {U : World} {p : Nat} {v0 v1 v2 v3 v4 v5 v6 v7 v8 v9 v10 v11 v12 v13 v14 v15 v16 v17 v18 v19 v20 v21 : Value} {T : TypeId} (h : U.heap[p]? = some (.cells #[v0, v1, v2, v3, v4, v5, v6, v7, v8, v9, v10, v11, v12, v13, v14, v15, v16, v17, v18, v19, v20, v21] T (0, 0))) (u14 u15 : Value) :
    ∃ W2, ((U.setCell ⟨p, 14, none⟩ u14).setCell ⟨p, 15, none⟩ u15) = W2 ∧ W2.heap[p]? = some (.cells #[v0, v1, v2, v3, v4, v5, v6, v7, v8, v9, v10, v11, v12, v13, u14, u15, v16, v17, v18, v19, v20, v21] T (0, 0)) ∧ Only p U W2 := by
  have h14 : (U.setCell ⟨p, 14, none⟩ u14).heap[p]? = some (.cells #[v0, v1, v2, v3, v4, v5, v6, v7, v8, v9, v10, v11, v12, v13, u14, v15, v16, v17, v18, v19, v20, v21] T (0, 0)) := held_set h 14 u14
  have o14 : Only p U (U.setCell ⟨p, 14, none⟩ u14) := Only.set p 14 u14 U
  obtain ⟨W14, hW14⟩ : ∃ W, (U.setCell ⟨p, 14, none⟩ u14) = W := ⟨_, rfl⟩
  rw [hW14] at h14 o14 ⊢
  have h15 : (W14.setCell ⟨p, 15, none⟩ u15).heap[p]? = some (.cells #[v0, v1, v2, v3, v4, v5, v6, v7, v8, v9, v10, v11, v12, v13, u14, u15, v16, v17, v18, v19, v20, v21] T (0, 0)) := held_set h14 15 u15
  have o15 : Only p U (W14.setCell ⟨p, 15, none⟩ u15) := putS o14 15 u15
  obtain ⟨W15, hW15⟩ : ∃ W, (W14.setCell ⟨p, 15, none⟩ u15) = W := ⟨_, rfl⟩
  rw [hW15] at h15 o15 ⊢
  exact ⟨_, rfl, h15, o15⟩
theorem sg16 {U : World} {p : Nat} {v0 v1 v2 v3 v4 v5 v6 v7 v8 v9 v10 v11 v12 v13 v14 v15 v16 v17 v18 v19 v20 v21 : Value} {T : TypeId} (h : U.heap[p]? = some (.cells #[v0, v1, v2, v3, v4, v5, v6, v7, v8, v9, v10, v11, v12, v13, v14, v15, v16, v17, v18, v19, v20, v21] T (0, 0))) (u16 u17 : Value) :
    ∃ W2, ((U.setCell ⟨p, 16, none⟩ u16).setCell ⟨p, 17, none⟩ u17) = W2 ∧ W2.heap[p]? = some (.cells #[v0, v1, v2, v3, v4, v5, v6, v7, v8, v9, v10, v11, v12, v13, v14, v15, u16, u17, v18, v19, v20, v21] T (0, 0)) ∧ Only p U W2 := by
  have h16 : (U.setCell ⟨p, 16, none⟩ u16).heap[p]? = some (.cells #[v0, v1, v2, v3, v4, v5, v6, v7, v8, v9, v10, v11, v12, v13, v14, v15, u16, v17, v18, v19, v20, v21] T (0, 0)) := held_set h 16 u16
  have o16 : Only p U (U.setCell ⟨p, 16, none⟩ u16) := Only.set p 16 u16 U
  obtain ⟨W16, hW16⟩ : ∃ W, (U.setCell ⟨p, 16, none⟩ u16) = W := ⟨_, rfl⟩
  rw [hW16] at h16 o16 ⊢
  have h17 : (W16.setCell ⟨p, 17, none⟩ u17).heap[p]? = some (.cells #[v0, v1, v2, v3, v4, v5, v6, v7, v8, v9, v10, v11, v12, v13, v14, v15, u16, u17, v18, v19, v20, v21] T (0, 0)) := held_set h16 17 u17
  have o17 : Only p U (W16.setCell ⟨p, 17, none⟩ u17) := putS o16 17 u17
  obtain ⟨W17, hW17⟩ : ∃ W, (W16.setCell ⟨p, 17, none⟩ u17) = W := ⟨_, rfl⟩
  rw [hW17] at h17 o17 ⊢
  exact ⟨_, rfl, h17, o17⟩
theorem sg18 {U : World} {p : Nat} {v0 v1 v2 v3 v4 v5 v6 v7 v8 v9 v10 v11 v12 v13 v14 v15 v16 v17 v18 v19 v20 v21 : Value} {T : TypeId} (h : U.heap[p]? = some (.cells #[v0, v1, v2, v3, v4, v5, v6, v7, v8, v9, v10, v11, v12, v13, v14, v15, v16, v17, v18, v19, v20, v21] T (0, 0))) (u18 u19 : Value) :
    ∃ W2, ((U.setCell ⟨p, 18, none⟩ u18).setCell ⟨p, 19, none⟩ u19) = W2 ∧ W2.heap[p]? = some (.cells #[v0, v1, v2, v3, v4, v5, v6, v7, v8, v9, v10, v11, v12, v13, v14, v15, v16, v17, u18, u19, v20, v21] T (0, 0)) ∧ Only p U W2 := by
  have h18 : (U.setCell ⟨p, 18, none⟩ u18).heap[p]? = some (.cells #[v0, v1, v2, v3, v4, v5, v6, v7, v8, v9, v10, v11, v12, v13, v14, v15, v16, v17, u18, v19, v20, v21] T (0, 0)) := held_set h 18 u18
  have o18 : Only p U (U.setCell ⟨p, 18, none⟩ u18) := Only.set p 18 u18 U
  obtain ⟨W18, hW18⟩ : ∃ W, (U.setCell ⟨p, 18, none⟩ u18) = W := ⟨_, rfl⟩
  rw [hW18] at h18 o18 ⊢
  have h19 : (W18.setCell ⟨p, 19, none⟩ u19).heap[p]? = some (.cells #[v0, v1, v2, v3, v4, v5, v6, v7, v8, v9, v10, v11, v12, v13, v14, v15, v16, v17, u18, u19, v20, v21] T (0, 0)) := held_set h18 19 u19
  have o19 : Only p U (W18.setCell ⟨p, 19, none⟩ u19) := putS o18 19 u19
  obtain ⟨W19, hW19⟩ : ∃ W, (W18.setCell ⟨p, 19, none⟩ u19) = W := ⟨_, rfl⟩
  rw [hW19] at h19 o19 ⊢
  exact ⟨_, rfl, h19, o19⟩
theorem sg20 {U : World} {p : Nat} {v0 v1 v2 v3 v4 v5 v6 v7 v8 v9 v10 v11 v12 v13 v14 v15 v16 v17 v18 v19 v20 v21 : Value} {T : TypeId} (h : U.heap[p]? = some (.cells #[v0, v1, v2, v3, v4, v5, v6, v7, v8, v9, v10, v11, v12, v13, v14, v15, v16, v17, v18, v19, v20, v21] T (0, 0))) (u20 u21 : Value) :
    ∃ W2, ((U.setCell ⟨p, 20, none⟩ u20).setCell ⟨p, 21, none⟩ u21) = W2 ∧ W2.heap[p]? = some (.cells #[v0, v1, v2, v3, v4, v5, v6, v7, v8, v9, v10, v11, v12, v13, v14, v15, v16, v17, v18, v19, u20, u21] T (0, 0)) ∧ Only p U W2 := by
  have h20 : (U.setCell ⟨p, 20, none⟩ u20).heap[p]? = some (.cells #[v0, v1, v2, v3, v4, v5, v6, v7, v8, v9, v10, v11, v12, v13, v14, v15, v16, v17, v18, v19, u20, v21] T (0, 0)) := held_set h 20 u20
  have o20 : Only p U (U.setCell ⟨p, 20, none⟩ u20) := Only.set p 20 u20 U
  obtain ⟨W20, hW20⟩ : ∃ W, (U.setCell ⟨p, 20, none⟩ u20) = W := ⟨_, rfl⟩
  rw [hW20] at h20 o20 ⊢
  have h21 : (W20.setCell ⟨p, 21, none⟩ u21).heap[p]? = some (.cells #[v0, v1, v2, v3, v4, v5, v6, v7, v8, v9, v10, v11, v12, v13, v14, v15, v16, v17, v18, v19, u20, u21] T (0, 0)) := held_set h20 21 u21
  have o21 : Only p U (W20.setCell ⟨p, 21, none⟩ u21) := putS o20 21 u21
  obtain ⟨W21, hW21⟩ : ∃ W, (W20.setCell ⟨p, 21, none⟩ u21) = W := ⟨_, rfl⟩
  rw [hW21] at h21 o21 ⊢
  exact ⟨_, rfl, h21, o21⟩
set_option maxRecDepth 100000 in
set_option maxHeartbeats 32000000 in
theorem gtake_any (s0 s1 s2 s3 s4 s5 s6 s7 s8 s9 s10 s11 s12 s13 : ByteArray) {b : Bool} {h m c2 c k : Int} {ai : Bool} {an x1 : Int} {oi : Bool} {on x2 q x3 : Int} {n1i : Bool} {n1n x4 : Int} {n2i : Bool} {n2n x5 : Int} {n3i : Bool} {n3n x6 : Int} {n4i : Bool} {n4n x7 : Int} {n5i : Bool} {n5n x8 : Int} {n6i : Bool} {n6n x9 : Int} (hV : takeV (sb s0) = .tuple #[.agg #[.bool b, .int .i64 h, .int .i64 m, .int .i64 c2, .int .i64 c], .int .i64 k]) (h1 : tkaD s1 s2 true = (ai, an, x1)) (h2 : tkaD s3 s4 false = (oi, on, x2)) (h3 : dgS s5 0 8 = (q, x3)) (h4 : takD s6 1 2 0 0 99 = (n1i, n1n, x4)) (h5 : takD s7 1 3 2 0 99999 = (n2i, n2n, x5)) (h6 : takD s8 1 6 1 (-9999999) 9999999 = (n3i, n3n, x6)) (h7 : takD s10 1 4 1 (-99999) 99999 = (n4i, n4n, x7)) (h8 : takD s12 1 4 1 0 99999 = (n5i, n5n, x8)) (h9 : takD s13 1 4 0 0 1023 = (n6i, n6n, x9)) {E : Int} (hKE : kE [k, x1, x2, x3, x4, x5, x6, (unE s9 ⟨#[77]⟩ n3i), x7, (unE s11 ⟨#[77]⟩ n4i), x8, x9] = E) (w : World) (a : Option Addr) (cap : Nat) (hEl : Els w 1 a 14 cap (strV23 [s0, s1, s2, s3, s4, s5, s6, s7, s8, s9, s10, s11, s12, s13])) (hs : ∀ s ∈ [s0, s1, s2, s3, s4, s5, s6, s7, s8, s9, s10, s11, s12, s13], s.size ≤ 1000) : Calls Tryz.prog 12 #[.slice a 14 cap] w fun r w' => r = .returned (ggR E #[.bool b, .int .i64 h, .int .i64 m, .int .i64 c2, .int .i64 c, .bool ai, .int .i64 an, .bool oi, .int .i64 on, .int .i64 q, .bool n1i, .int .i64 n1n, .bool n2i, .int .i64 n2n, .bool n3i, .int .i64 n3n, .bool n4i, .int .i64 n4n, .bool n5i, .int .i64 n5n, .bool n6i, .int .i64 n6n]) ∧ After w w' := by
  replace hKE := hid hKE
  replace h1 := hid h1
  replace h2 := hid h2
  replace h3 := hid h3
  replace h4 := hid h4
  replace h5 := hid h5
  replace h6 := hid h6
  replace h7 := hid h7
  replace h8 := hid h8
  replace h9 := hid h9
  replace hV := hid hV
  replace hEl := hid hEl
  have hs2 : s0.size ≤ 1000 ∧ s1.size ≤ 1000 ∧ s2.size ≤ 1000 ∧ s3.size ≤ 1000 ∧ s4.size ≤ 1000 ∧ s5.size ≤ 1000 ∧ s6.size ≤ 1000 ∧ s7.size ≤ 1000 ∧ s8.size ≤ 1000 ∧ s9.size ≤ 1000 ∧ s10.size ≤ 1000 ∧ s11.size ≤ 1000 ∧ s12.size ≤ 1000 ∧ s13.size ≤ 1000 := by simpa using hs
  clear hs
  obtain ⟨z_0, z_1, z_2, z_3, z_4, z_5, z_6, z_7, z_8, z_9, z_10, z_11, z_12, z_13⟩ := hs2
  replace z_0 := hid z_0
  replace z_1 := hid z_1
  replace z_2 := hid z_2
  replace z_3 := hid z_3
  replace z_4 := hid z_4
  replace z_5 := hid z_5
  replace z_6 := hid z_6
  replace z_7 := hid z_7
  replace z_8 := hid z_8
  replace z_9 := hid z_9
  replace z_10 := hid z_10
  replace z_11 := hid z_11
  replace z_12 := hid z_12
  replace z_13 := hid z_13
  go_enter Tryz.func12, Tryz.ntmps12
  go_upto_region 0 with (fail)
  apply wp_region_seg0 (w := w) (S := [.al 1000, .q []]) (E := [.al ((fun p => .pointer (some ⟨p, 0, none⟩)), _) 1000, .q0 _]) rfl (by kernel_rfl) rfl rfl
  intro th hge hne
  refine Seg.step _ rfl ⟨by rfl, fun U hU => ?_⟩ ?_
  · go_simp; exact vp_alloc rfl rfl rfl
  refine ⟨_, by (simp only [Ent.val]; go_simp <;> exact rfl), ?_⟩
  refine Seg.step _ rfl (Or.inl ⟨by rfl, fun U hU => vp_quiet (by (go_simp <;> exact rfl))⟩) ⟨_, by (simp only [Ent.val]; go_simp <;> exact rfl), ?_⟩
  refine Seg.stop (fun U1 hU hk => ?_)
  have nb0 := hge 0 _ _ rfl
  have rb0 := (hk 0 _ _ rfl trivial).1.2 (by simp)
  clear hk hge hne
  generalize th (0 + 0) = p0_0 at *
  dsimp only at rb0
  have r_p0_0 := rb0
  clear rb0
  have n_p0_0 := nb0
  clear nb0
  have sz1 := hU.size
  have hB : Below w.heap.size w U1 := hU
  clear hU
  have hEl1 := hEl.out.below hB
  have hl0 := held_lt r_p0_0
  go_wp2_with fail
  refine (look_any a 14 cap [s0, s1, s2, s3, s4, s5, s6, s7, s8, s9, s10, s11, s12, s13] _ rfl (by omega) hEl1).mono ?_
  rintro r V ⟨B, rfl, hP, hA, hlB⟩
  replace hB := bthen hB hA
  replace r_p0_0 := held_after hA r_p0_0
  clear hA hEl1
  have hlp := hP.lt
  have nw := alloc_new V (.cells #[.pointer (some ⟨B, 0, none⟩)] 65)
  go_upto_region 4 with (fail)
  obtain ⟨W1, hW1⟩ : ∃ X, V.alloc (.cells #[.pointer (some ⟨B, 0, none⟩)] 65) = X := ⟨_, rfl⟩
  rw [hW1] at nw ⊢
  obtain ⟨pp, hpp⟩ : ∃ X, V.heap.size = X := ⟨_, rfl⟩
  rw [hpp] at nw ⊢
  replace hW1 := hid hW1
  have hA := nw.2.1
  have r_pp := nw.2.2
  have nep : pp ≠ B := by omega
  have hpw : w.heap.size ≤ pp := by have := hB.size; omega
  replace hpp := hid hpp
  clear nw
  have ne0 : p0_0 ≠ B := by omega
  have hBw : w.heap.size ≤ B := by have := sz1; omega
  replace hB := bthen hB hA
  replace r_p0_0 := held_after hA r_p0_0
  replace hP := hP.aft hA
  clear hA
  apply wp_region_seg (w := W1) (S := [.q [], .q [], .q [], .q [], .q [], .q [], .q [], .q [], .q [], .q [], .q []]) (E := [.q0 _, .q0 _, .q0 _, .q0 _, .q0 _, .q0 _, .q0 _, .q0 _, .q0 _, .q0 _, .q0 _]) (by kernel_rfl) rfl (by kernel_rfl) rfl rfl
  intro th hge hne
  refine Seg.step _ rfl (Or.inl ⟨by rfl, fun U hU => vp_quiet (by (go_simp <;> exact rfl))⟩) ⟨_, by (simp only [Ent.val]; go_simp <;> exact rfl), ?_⟩
  refine Seg.step _ rfl (Or.inl ⟨by rfl, fun U hU => vp_quiet (by (have h0 := held_cell (held_after hU.1 r_pp) 0 _ rfl; go_simp <;> exact rfl))⟩) ⟨_, by (simp only [Ent.val]; go_simp <;> exact rfl), ?_⟩
  refine Seg.step _ rfl (Or.inl ⟨by rfl, fun U hU => vp_quiet (by (go_simp <;> exact rfl))⟩) ⟨_, by (simp only [Ent.val]; go_simp <;> exact rfl), ?_⟩
  refine Seg.step _ rfl (Or.inl ⟨by rfl, fun U hU => vp_quiet (by (go_simp <;> exact rfl))⟩) ⟨_, by (simp only [Ent.val]; go_simp <;> exact rfl), ?_⟩
  refine Seg.step _ rfl (Or.inl ⟨by rfl, fun U hU => vp_quiet (by (have h0 := held_cell (held_after hU.1 r_pp) 0 _ rfl; go_simp <;> exact rfl))⟩) ⟨_, by (simp only [Ent.val]; go_simp <;> exact rfl), ?_⟩
  refine Seg.step _ rfl (Or.inl ⟨by rfl, fun U hU => vp_quiet (by (go_simp <;> exact rfl))⟩) ⟨_, by (simp only [Ent.val]; go_simp <;> exact rfl), ?_⟩
  refine Seg.step _ rfl (Or.inl ⟨by rfl, fun U hU => vp_quiet (by (have h0 := held_cell (held_after hU.1 r_pp) 0 _ rfl; go_simp <;> exact rfl))⟩) ⟨_, by (simp only [Ent.val]; go_simp <;> exact rfl), ?_⟩
  refine Seg.step _ rfl (Or.inl ⟨by rfl, fun U hU => vp_quiet (by (go_simp <;> exact rfl))⟩) ⟨_, by (simp only [Ent.val]; go_simp <;> exact rfl), ?_⟩
  refine Seg.step _ rfl (Or.inl ⟨by rfl, fun U hU => vp_quiet (by (go_simp <;> exact rfl))⟩) ⟨_, by (simp only [Ent.val]; go_simp <;> exact rfl), ?_⟩
  refine Seg.step _ rfl (Or.inl ⟨by rfl, fun U hU => vp_quiet (by (go_simp <;> exact rfl))⟩) ⟨_, by (simp only [Ent.val]; go_simp <;> exact rfl), ?_⟩
  refine Seg.step _ rfl (Or.inl ⟨by rfl, fun U hU => vp_quiet (by (go_simp <;> exact rfl))⟩) ⟨_, by (simp only [Ent.val]; go_simp <;> exact rfl), ?_⟩
  refine Seg.stop (fun U2 hU hk => ?_)
  clear hk hge hne
  replace r_p0_0 := held_after hU r_p0_0
  replace r_pp := held_after hU r_pp
  replace hP := hP.below hU
  have sz2 := hU.size
  replace hB := bthen hB hU
  clear hU
  go_upto_region 5 with (fail)
  have hlp2 := hP.lt
  have hla := held_lt r_p0_0
  have hlb := held_lt r_pp
  apply wp_region_seg0 (w := U2) (S := [.al 1000]) (E := [.al ((fun p => .pointer (some ⟨p, 0, none⟩)), _) 1000]) rfl (by kernel_rfl) rfl rfl
  intro th hge hne
  refine Seg.step _ rfl ⟨by rfl, fun U hU => ?_⟩ ?_
  · go_simp; exact vp_alloc rfl rfl rfl
  refine ⟨_, by (simp only [Ent.val]; go_simp <;> exact rfl), ?_⟩
  refine Seg.stop (fun U3 hU hk => ?_)
  have nb0 := hge 0 _ _ rfl
  have rb0 := (hk 0 _ _ rfl trivial).1.2 (by simp)
  clear hk hge hne
  generalize th (0 + 0) = p5_0 at *
  dsimp only at rb0
  replace r_p0_0 := held_after hU r_p0_0
  replace r_pp := held_after hU r_pp
  replace hP := hP.below hU
  have r_p5_0 := rb0
  clear rb0
  have n_p5_0 := nb0
  clear nb0
  have sz3 := hU.size
  replace hB := bthen hB hU
  clear hU
  have neg : p5_0 ≠ B := by omega
  have hgw : w.heap.size ≤ p5_0 := Nat.le_trans (by omega) n_p5_0
  have d0_p0_0 : p0_0 ≠ p5_0 := by omega
  have d0_pp : pp ≠ p5_0 := by omega
  go_upto_region 6 with (fail)
  have c0 := held_cell r_pp 0 _ rfl
  go_wp2_with fail
  refine (etime_any B 0 s0 [s1, s2, s3, s4, s5, s6, s7, s8, s9, s10, s11, s12, s13] hV.out _ hP (by simp) (by have := z_0.out; omega)).mono ?_
  rintro r Y1 ⟨rfl, hP2, hf2⟩
  replace r_p0_0 := eff_block24 hf2 r_p0_0 ne0
  replace r_pp := eff_block24 hf2 r_pp nep
  replace r_p5_0 := eff_block24 hf2 r_p5_0 neg
  replace hB := eff_below24 hB hf2 hBw (by have := hB.size; omega)
  obtain ⟨E1, hE1⟩ : ∃ E, kp 0 k = E := ⟨_, rfl⟩
  rw [hE1] at hP2
  replace hE1 := hid hE1
  replace hP := hP2
  clear hP2 hf2
  clear c0
  have k0 := held_cell r_p5_0 0 _ rfl
  have k1 := held_cell r_p5_0 1 _ rfl
  have k2 := held_cell r_p5_0 2 _ rfl
  have k3 := held_cell r_p5_0 3 _ rfl
  have k4 := held_cell r_p5_0 4 _ rfl
  have g0 := held_free r_p5_0 0
  have g1 := held_free r_p5_0 1
  have g2 := held_free r_p5_0 2
  have g3 := held_free r_p5_0 3
  have g4 := held_free r_p5_0 4
  obtain ⟨S0, hS0, s1, o1⟩ := sg0 r_p5_0 (.bool b) (.int .i64 h) (.int .i64 m) (.int .i64 c2) (.int .i64 c)
  replace hP := hP.off o1 neg r_p5_0 (by intro j s h; match j, h with | 0, h => simp at h | 1, h => simp at h | 2, h => simp at h | 3, h => simp at h | 4, h => simp at h | 5, h => simp at h | 6, h => simp at h | 7, h => simp at h | 8, h => simp at h | 9, h => simp at h | 10, h => simp at h | 11, h => simp at h | 12, h => simp at h | 13, h => simp at h | 14, h => simp at h | 15, h => simp at h | 16, h => simp at h | 17, h => simp at h | 18, h => simp at h | 19, h => simp at h | 20, h => simp at h | 21, h => simp at h | j + 22, h => simp at h)
  replace hB := belowS hB o1 hgw
  replace r_p0_0 := (o1.block _ d0_p0_0).trans r_p0_0
  replace r_pp := (o1.block _ d0_pp).trans r_pp
  clear o1
  go_upto_region 7 with (fail)
  replace hS0 := hid hS0
  clear k0 g0 k1 g1 k2 g2 k3 g3 k4 g4
  clear r_p5_0
  have r_p5_0 := s1
  clear s1
  go_upto_region 7 with (fail)
  go_wp2_with fail
  refine (eangC B E1 s1 s2 [s3, s4, s5, s6, s7, s8, s9, s10, s11, s12, s13] true h1.out _ hP (by simp) (by simp; exact ⟨z_1.out, z_2.out, z_3.out, z_4.out, z_5.out, z_6.out, z_7.out, z_8.out, z_9.out, z_10.out, z_11.out, z_12.out, z_13.out⟩)).mono ?_
  rintro r Y2 ⟨rfl, hP2, hf2⟩
  replace r_p0_0 := eff_block24 hf2 r_p0_0 ne0
  replace r_pp := eff_block24 hf2 r_pp nep
  replace r_p5_0 := eff_block24 hf2 r_p5_0 neg
  replace hB := eff_below24 hB hf2 hBw (by have := hB.size; omega)
  obtain ⟨E2, hE2⟩ : ∃ E, kp E1 x1 = E := ⟨_, rfl⟩
  rw [hE2] at hP2
  replace hE2 := hid hE2
  replace hP := hP2
  clear hP2 hf2
  have k0 := held_cell r_p5_0 5 _ rfl
  have k1 := held_cell r_p5_0 6 _ rfl
  have g0 := held_free r_p5_0 5
  have g1 := held_free r_p5_0 6
  obtain ⟨S5, hS5, s1, o1⟩ := sg5 r_p5_0 (.bool ai) (.int .i64 an)
  replace hP := hP.off o1 neg r_p5_0 (by intro j s h; match j, h with | 0, h => simp at h | 1, h => simp at h | 2, h => simp at h | 3, h => simp at h | 4, h => simp at h | 5, h => simp at h | 6, h => simp at h | 7, h => simp at h | 8, h => simp at h | 9, h => simp at h | 10, h => simp at h | 11, h => simp at h | 12, h => simp at h | 13, h => simp at h | 14, h => simp at h | 15, h => simp at h | 16, h => simp at h | 17, h => simp at h | 18, h => simp at h | 19, h => simp at h | 20, h => simp at h | 21, h => simp at h | j + 22, h => simp at h)
  replace hB := belowS hB o1 hgw
  replace r_p0_0 := (o1.block _ d0_p0_0).trans r_p0_0
  replace r_pp := (o1.block _ d0_pp).trans r_pp
  clear o1
  go_upto_region 8 with (fail)
  replace hS5 := hid hS5
  clear k0 g0 k1 g1
  clear r_p5_0
  have r_p5_0 := s1
  clear s1
  go_upto_region 8 with (fail)
  go_wp2_with fail
  refine (eangC B E2 s3 s4 [s5, s6, s7, s8, s9, s10, s11, s12, s13] false h2.out _ hP (by simp) (by simp; exact ⟨z_3.out, z_4.out, z_5.out, z_6.out, z_7.out, z_8.out, z_9.out, z_10.out, z_11.out, z_12.out, z_13.out⟩)).mono ?_
  rintro r Y3 ⟨rfl, hP2, hf2⟩
  replace r_p0_0 := eff_block24 hf2 r_p0_0 ne0
  replace r_pp := eff_block24 hf2 r_pp nep
  replace r_p5_0 := eff_block24 hf2 r_p5_0 neg
  replace hB := eff_below24 hB hf2 hBw (by have := hB.size; omega)
  obtain ⟨E3, hE3⟩ : ∃ E, kp E2 x2 = E := ⟨_, rfl⟩
  rw [hE3] at hP2
  replace hE3 := hid hE3
  replace hP := hP2
  clear hP2 hf2
  have k0 := held_cell r_p5_0 7 _ rfl
  have k1 := held_cell r_p5_0 8 _ rfl
  have g0 := held_free r_p5_0 7
  have g1 := held_free r_p5_0 8
  obtain ⟨S7, hS7, s1, o1⟩ := sg7 r_p5_0 (.bool oi) (.int .i64 on)
  replace hP := hP.off o1 neg r_p5_0 (by intro j s h; match j, h with | 0, h => simp at h | 1, h => simp at h | 2, h => simp at h | 3, h => simp at h | 4, h => simp at h | 5, h => simp at h | 6, h => simp at h | 7, h => simp at h | 8, h => simp at h | 9, h => simp at h | 10, h => simp at h | 11, h => simp at h | 12, h => simp at h | 13, h => simp at h | 14, h => simp at h | 15, h => simp at h | 16, h => simp at h | 17, h => simp at h | 18, h => simp at h | 19, h => simp at h | 20, h => simp at h | 21, h => simp at h | j + 22, h => simp at h)
  replace hB := belowS hB o1 hgw
  replace r_p0_0 := (o1.block _ d0_p0_0).trans r_p0_0
  replace r_pp := (o1.block _ d0_pp).trans r_pp
  clear o1
  go_upto_region 9 with (fail)
  replace hS7 := hid hS7
  clear k0 g0 k1 g1
  clear r_p5_0
  have r_p5_0 := s1
  clear s1
  go_upto_region 9 with (fail)
  have c0 := held_cell r_pp 0 _ rfl
  have kq := hid (fun U h => equal_any B E3 s5 [s6, s7, s8, s9, s10, s11, s12, s13] U h (by simp))
  rw [h3.out] at kq
  dsimp only at kq
  go_wp2_with fail
  refine (kq.out _ hP).mono ?_
  rintro r Y4 ⟨rfl, hP2, hf2⟩
  replace r_p0_0 := eff_block24 hf2 r_p0_0 ne0
  replace r_pp := eff_block24 hf2 r_pp nep
  replace r_p5_0 := eff_block24 hf2 r_p5_0 neg
  replace hB := eff_below24 hB hf2 hBw (by have := hB.size; omega)
  obtain ⟨E4, hE4⟩ : ∃ E, kp E3 x3 = E := ⟨_, rfl⟩
  rw [hE4] at hP2
  replace hE4 := hid hE4
  replace hP := hP2
  clear hP2 hf2
  clear c0
  clear kq
  have k0 := held_cell r_p5_0 9 _ rfl
  have g0 := held_free r_p5_0 9
  obtain ⟨S9, hS9, s1, o1⟩ := sg9 r_p5_0 (.int .i64 q)
  replace hP := hP.off o1 neg r_p5_0 (by intro j s h; match j, h with | 0, h => simp at h | 1, h => simp at h | 2, h => simp at h | 3, h => simp at h | 4, h => simp at h | 5, h => simp at h | 6, h => simp at h | 7, h => simp at h | 8, h => simp at h | 9, h => simp at h | 10, h => simp at h | 11, h => simp at h | 12, h => simp at h | 13, h => simp at h | 14, h => simp at h | 15, h => simp at h | 16, h => simp at h | 17, h => simp at h | 18, h => simp at h | 19, h => simp at h | 20, h => simp at h | 21, h => simp at h | j + 22, h => simp at h)
  replace hB := belowS hB o1 hgw
  replace r_p0_0 := (o1.block _ d0_p0_0).trans r_p0_0
  replace r_pp := (o1.block _ d0_pp).trans r_pp
  clear o1
  go_upto_region 10 with (fail)
  replace hS9 := hid hS9
  clear k0 g0
  clear r_p5_0
  have r_p5_0 := s1
  clear s1
  go_wp2_with fail
  refine (satsCol_any _).mono ?_
  rintro r Z1 ⟨rfl, hA⟩
  replace r_p0_0 := held_after hA r_p0_0
  replace r_pp := held_after hA r_pp
  replace r_p5_0 := held_after hA r_p5_0
  replace hP := hP.aft hA
  replace hB := bthen hB hA
  clear hA
  go_wp2_with fail
  refine (enumC B E4 s6 [s7, s8, s9, s10, s11, s12, s13] 1 2 0 0 99 h4.out _ hP (by simp) (by simp; exact ⟨z_6.out, z_7.out, z_8.out, z_9.out, z_10.out, z_11.out, z_12.out, z_13.out⟩) (by decide)).mono ?_
  rintro r Y5 ⟨rfl, hP2, hf2⟩
  replace r_p0_0 := eff_block24 hf2 r_p0_0 ne0
  replace r_pp := eff_block24 hf2 r_pp nep
  replace r_p5_0 := eff_block24 hf2 r_p5_0 neg
  replace hB := eff_below24 hB hf2 hBw (by have := hB.size; omega)
  obtain ⟨E5, hE5⟩ : ∃ E, kp E4 x4 = E := ⟨_, rfl⟩
  rw [hE5] at hP2
  replace hE5 := hid hE5
  replace hP := hP2
  clear hP2 hf2
  have k0 := held_cell r_p5_0 10 _ rfl
  have k1 := held_cell r_p5_0 11 _ rfl
  have g0 := held_free r_p5_0 10
  have g1 := held_free r_p5_0 11
  obtain ⟨S10, hS10, s1, o1⟩ := sg10 r_p5_0 (.bool n1i) (.int .i64 n1n)
  replace hP := hP.off o1 neg r_p5_0 (by intro j s h; match j, h with | 0, h => simp at h | 1, h => simp at h | 2, h => simp at h | 3, h => simp at h | 4, h => simp at h | 5, h => simp at h | 6, h => simp at h | 7, h => simp at h | 8, h => simp at h | 9, h => simp at h | 10, h => simp at h | 11, h => simp at h | 12, h => simp at h | 13, h => simp at h | 14, h => simp at h | 15, h => simp at h | 16, h => simp at h | 17, h => simp at h | 18, h => simp at h | 19, h => simp at h | 20, h => simp at h | 21, h => simp at h | j + 22, h => simp at h)
  replace hB := belowS hB o1 hgw
  replace r_p0_0 := (o1.block _ d0_p0_0).trans r_p0_0
  replace r_pp := (o1.block _ d0_pp).trans r_pp
  clear o1
  go_upto_region 11 with (fail)
  replace hS10 := hid hS10
  clear k0 g0 k1 g1
  clear r_p5_0
  have r_p5_0 := s1
  clear s1
  go_wp2_with fail
  refine (hdopCol_any _).mono ?_
  rintro r Z2 ⟨rfl, hA⟩
  replace r_p0_0 := held_after hA r_p0_0
  replace r_pp := held_after hA r_pp
  replace r_p5_0 := held_after hA r_p5_0
  replace hP := hP.aft hA
  replace hB := bthen hB hA
  clear hA
  go_wp2_with fail
  refine (enumC B E5 s7 [s8, s9, s10, s11, s12, s13] 1 3 2 0 99999 h5.out _ hP (by simp) (by simp; exact ⟨z_7.out, z_8.out, z_9.out, z_10.out, z_11.out, z_12.out, z_13.out⟩) (by decide)).mono ?_
  rintro r Y6 ⟨rfl, hP2, hf2⟩
  replace r_p0_0 := eff_block24 hf2 r_p0_0 ne0
  replace r_pp := eff_block24 hf2 r_pp nep
  replace r_p5_0 := eff_block24 hf2 r_p5_0 neg
  replace hB := eff_below24 hB hf2 hBw (by have := hB.size; omega)
  obtain ⟨E6, hE6⟩ : ∃ E, kp E5 x5 = E := ⟨_, rfl⟩
  rw [hE6] at hP2
  replace hE6 := hid hE6
  replace hP := hP2
  clear hP2 hf2
  have k0 := held_cell r_p5_0 12 _ rfl
  have k1 := held_cell r_p5_0 13 _ rfl
  have g0 := held_free r_p5_0 12
  have g1 := held_free r_p5_0 13
  obtain ⟨S12, hS12, s1, o1⟩ := sg12 r_p5_0 (.bool n2i) (.int .i64 n2n)
  replace hP := hP.off o1 neg r_p5_0 (by intro j s h; match j, h with | 0, h => simp at h | 1, h => simp at h | 2, h => simp at h | 3, h => simp at h | 4, h => simp at h | 5, h => simp at h | 6, h => simp at h | 7, h => simp at h | 8, h => simp at h | 9, h => simp at h | 10, h => simp at h | 11, h => simp at h | 12, h => simp at h | 13, h => simp at h | 14, h => simp at h | 15, h => simp at h | 16, h => simp at h | 17, h => simp at h | 18, h => simp at h | 19, h => simp at h | 20, h => simp at h | 21, h => simp at h | j + 22, h => simp at h)
  replace hB := belowS hB o1 hgw
  replace r_p0_0 := (o1.block _ d0_p0_0).trans r_p0_0
  replace r_pp := (o1.block _ d0_pp).trans r_pp
  clear o1
  go_upto_region 12 with (fail)
  replace hS12 := hid hS12
  clear k0 g0 k1 g1
  clear r_p5_0
  have r_p5_0 := s1
  clear s1
  go_wp2_with fail
  refine (altCol_any _).mono ?_
  rintro r Z3 ⟨rfl, hA⟩
  replace r_p0_0 := held_after hA r_p0_0
  replace r_pp := held_after hA r_pp
  replace r_p5_0 := held_after hA r_p5_0
  replace hP := hP.aft hA
  replace hB := bthen hB hA
  clear hA
  go_wp2_with fail
  refine (elong_any B E6 s8 s9 [s10, s11, s12, s13] 1 6 1 (-9999999) 9999999 h6.out _ hP (by simp) (by simp; exact ⟨z_8.out, z_9.out, z_10.out, z_11.out, z_12.out, z_13.out⟩) (by decide)).mono ?_
  rintro r Y7 ⟨rfl, hP2, hf2⟩
  replace r_p0_0 := eff_block24 hf2 r_p0_0 ne0
  replace r_pp := eff_block24 hf2 r_pp nep
  replace r_p5_0 := eff_block24 hf2 r_p5_0 neg
  replace hB := eff_below24 hB hf2 hBw (by have := hB.size; omega)
  obtain ⟨E7, hE7⟩ : ∃ E, kp E6 x6 = E := ⟨_, rfl⟩
  rw [hE7] at hP2
  replace hE7 := hid hE7
  obtain ⟨E8, hE8⟩ : ∃ E, kp E7 (unE s9 ⟨#[77]⟩ n3i) = E := ⟨_, rfl⟩
  rw [hE8] at hP2
  replace hE8 := hid hE8
  replace hP := hP2
  clear hP2 hf2
  have k0 := held_cell r_p5_0 14 _ rfl
  have k1 := held_cell r_p5_0 15 _ rfl
  have g0 := held_free r_p5_0 14
  have g1 := held_free r_p5_0 15
  obtain ⟨S14, hS14, s1, o1⟩ := sg14 r_p5_0 (.bool n3i) (.int .i64 n3n)
  replace hP := hP.off o1 neg r_p5_0 (by intro j s h; match j, h with | 0, h => simp at h | 1, h => simp at h | 2, h => simp at h | 3, h => simp at h | 4, h => simp at h | 5, h => simp at h | 6, h => simp at h | 7, h => simp at h | 8, h => simp at h | 9, h => simp at h | 10, h => simp at h | 11, h => simp at h | 12, h => simp at h | 13, h => simp at h | 14, h => simp at h | 15, h => simp at h | 16, h => simp at h | 17, h => simp at h | 18, h => simp at h | 19, h => simp at h | 20, h => simp at h | 21, h => simp at h | j + 22, h => simp at h)
  replace hB := belowS hB o1 hgw
  replace r_p0_0 := (o1.block _ d0_p0_0).trans r_p0_0
  replace r_pp := (o1.block _ d0_pp).trans r_pp
  clear o1
  go_upto_region 13 with (fail)
  replace hS14 := hid hS14
  clear k0 g0 k1 g1
  clear r_p5_0
  have r_p5_0 := s1
  clear s1
  go_wp2_with fail
  refine (geoidCol_any _).mono ?_
  rintro r Z4 ⟨rfl, hA⟩
  replace r_p0_0 := held_after hA r_p0_0
  replace r_pp := held_after hA r_pp
  replace r_p5_0 := held_after hA r_p5_0
  replace hP := hP.aft hA
  replace hB := bthen hB hA
  clear hA
  go_wp2_with fail
  refine (elong_any B E8 s10 s11 [s12, s13] 1 4 1 (-99999) 99999 h7.out _ hP (by simp) (by simp; exact ⟨z_10.out, z_11.out, z_12.out, z_13.out⟩) (by decide)).mono ?_
  rintro r Y8 ⟨rfl, hP2, hf2⟩
  replace r_p0_0 := eff_block24 hf2 r_p0_0 ne0
  replace r_pp := eff_block24 hf2 r_pp nep
  replace r_p5_0 := eff_block24 hf2 r_p5_0 neg
  replace hB := eff_below24 hB hf2 hBw (by have := hB.size; omega)
  obtain ⟨E9, hE9⟩ : ∃ E, kp E8 x7 = E := ⟨_, rfl⟩
  rw [hE9] at hP2
  replace hE9 := hid hE9
  obtain ⟨E10, hE10⟩ : ∃ E, kp E9 (unE s11 ⟨#[77]⟩ n4i) = E := ⟨_, rfl⟩
  rw [hE10] at hP2
  replace hE10 := hid hE10
  replace hP := hP2
  clear hP2 hf2
  have k0 := held_cell r_p5_0 16 _ rfl
  have k1 := held_cell r_p5_0 17 _ rfl
  have g0 := held_free r_p5_0 16
  have g1 := held_free r_p5_0 17
  obtain ⟨S16, hS16, s1, o1⟩ := sg16 r_p5_0 (.bool n4i) (.int .i64 n4n)
  replace hP := hP.off o1 neg r_p5_0 (by intro j s h; match j, h with | 0, h => simp at h | 1, h => simp at h | 2, h => simp at h | 3, h => simp at h | 4, h => simp at h | 5, h => simp at h | 6, h => simp at h | 7, h => simp at h | 8, h => simp at h | 9, h => simp at h | 10, h => simp at h | 11, h => simp at h | 12, h => simp at h | 13, h => simp at h | 14, h => simp at h | 15, h => simp at h | 16, h => simp at h | 17, h => simp at h | 18, h => simp at h | 19, h => simp at h | 20, h => simp at h | 21, h => simp at h | j + 22, h => simp at h)
  replace hB := belowS hB o1 hgw
  replace r_p0_0 := (o1.block _ d0_p0_0).trans r_p0_0
  replace r_pp := (o1.block _ d0_pp).trans r_pp
  clear o1
  go_upto_region 14 with (fail)
  replace hS16 := hid hS16
  clear k0 g0 k1 g1
  clear r_p5_0
  have r_p5_0 := s1
  clear s1
  go_wp2_with fail
  refine (ageCol_any _).mono ?_
  rintro r Z5 ⟨rfl, hA⟩
  replace r_p0_0 := held_after hA r_p0_0
  replace r_pp := held_after hA r_pp
  replace r_p5_0 := held_after hA r_p5_0
  replace hP := hP.aft hA
  replace hB := bthen hB hA
  clear hA
  go_wp2_with fail
  refine (enumC B E10 s12 [s13] 1 4 1 0 99999 h8.out _ hP (by simp) (by simp; exact ⟨z_12.out, z_13.out⟩) (by decide)).mono ?_
  rintro r Y9 ⟨rfl, hP2, hf2⟩
  replace r_p0_0 := eff_block24 hf2 r_p0_0 ne0
  replace r_pp := eff_block24 hf2 r_pp nep
  replace r_p5_0 := eff_block24 hf2 r_p5_0 neg
  replace hB := eff_below24 hB hf2 hBw (by have := hB.size; omega)
  obtain ⟨E11, hE11⟩ : ∃ E, kp E10 x8 = E := ⟨_, rfl⟩
  rw [hE11] at hP2
  replace hE11 := hid hE11
  replace hP := hP2
  clear hP2 hf2
  have k0 := held_cell r_p5_0 18 _ rfl
  have k1 := held_cell r_p5_0 19 _ rfl
  have g0 := held_free r_p5_0 18
  have g1 := held_free r_p5_0 19
  obtain ⟨S18, hS18, s1, o1⟩ := sg18 r_p5_0 (.bool n5i) (.int .i64 n5n)
  replace hP := hP.off o1 neg r_p5_0 (by intro j s h; match j, h with | 0, h => simp at h | 1, h => simp at h | 2, h => simp at h | 3, h => simp at h | 4, h => simp at h | 5, h => simp at h | 6, h => simp at h | 7, h => simp at h | 8, h => simp at h | 9, h => simp at h | 10, h => simp at h | 11, h => simp at h | 12, h => simp at h | 13, h => simp at h | 14, h => simp at h | 15, h => simp at h | 16, h => simp at h | 17, h => simp at h | 18, h => simp at h | 19, h => simp at h | 20, h => simp at h | 21, h => simp at h | j + 22, h => simp at h)
  replace hB := belowS hB o1 hgw
  replace r_p0_0 := (o1.block _ d0_p0_0).trans r_p0_0
  replace r_pp := (o1.block _ d0_pp).trans r_pp
  clear o1
  go_upto_region 15 with (fail)
  replace hS18 := hid hS18
  clear k0 g0 k1 g1
  clear r_p5_0
  have r_p5_0 := s1
  clear s1
  go_wp2_with fail
  refine (atCol_any _).mono ?_
  rintro r Z6 ⟨rfl, hA⟩
  replace r_p0_0 := held_after hA r_p0_0
  replace r_pp := held_after hA r_pp
  replace r_p5_0 := held_after hA r_p5_0
  replace hP := hP.aft hA
  replace hB := bthen hB hA
  clear hA
  go_wp2_with fail
  refine (enumC B E11 s13 [] 1 4 0 0 1023 h9.out _ hP (by simp) (by simp; exact z_13.out) (by decide)).mono ?_
  rintro r Y10 ⟨rfl, hP2, hf2⟩
  replace r_p0_0 := eff_block24 hf2 r_p0_0 ne0
  replace r_pp := eff_block24 hf2 r_pp nep
  replace r_p5_0 := eff_block24 hf2 r_p5_0 neg
  replace hB := eff_below24 hB hf2 hBw (by have := hB.size; omega)
  obtain ⟨E12, hE12⟩ : ∃ E, kp E11 x9 = E := ⟨_, rfl⟩
  rw [hE12] at hP2
  replace hE12 := hid hE12
  replace hP := hP2
  clear hP2 hf2
  have k0 := held_cell r_p5_0 20 _ rfl
  have k1 := held_cell r_p5_0 21 _ rfl
  have g0 := held_free r_p5_0 20
  have g1 := held_free r_p5_0 21
  obtain ⟨S20, hS20, s1, o1⟩ := sg20 r_p5_0 (.bool n6i) (.int .i64 n6n)
  replace hP := hP.off o1 neg r_p5_0 (by intro j s h; match j, h with | 0, h => simp at h | 1, h => simp at h | 2, h => simp at h | 3, h => simp at h | 4, h => simp at h | 5, h => simp at h | 6, h => simp at h | 7, h => simp at h | 8, h => simp at h | 9, h => simp at h | 10, h => simp at h | 11, h => simp at h | 12, h => simp at h | 13, h => simp at h | 14, h => simp at h | 15, h => simp at h | 16, h => simp at h | 17, h => simp at h | 18, h => simp at h | 19, h => simp at h | 20, h => simp at h | 21, h => simp at h | j + 22, h => simp at h)
  replace hB := belowS hB o1 hgw
  replace r_p0_0 := (o1.block _ d0_p0_0).trans r_p0_0
  replace r_pp := (o1.block _ d0_pp).trans r_pp
  clear o1
  go_upto_region 16 with (fail)
  replace hS20 := hid hS20
  clear k0 g0 k1 g1
  clear r_p5_0
  have r_p5_0 := s1
  clear s1
  have hEe : E = E12 := by
    rw [← hKE.out]
    show kp (kp (kp (kp (kp (kp (kp (kp (kp (kp (kp (kp 0 k) x1) x2) x3) x4) x5) x6) (unE s9 ⟨#[77]⟩ n3i)) x7) (unE s11 ⟨#[77]⟩ n4i)) x8) x9 = _
    rw [hE1.out, hE2.out, hE3.out, hE4.out, hE5.out, hE6.out, hE7.out, hE8.out, hE9.out, hE10.out, hE11.out, hE12.out]
  replace hEe := hid hEe
  have c0 := held_cell r_pp 0 _ rfl
  go_wp2_with fail
  refine (eerr_any B E12 [] _ hP).mono ?_
  rintro r V9 ⟨rfl, hv⟩
  obtain rfl : S20 = V9 := hv.symm
  by_cases hE0 : E12 = 0
  case pos =>
    replace hEe := hid (hEe.out.trans hE0)
    have t0 : (E12 != 0) = false := by simpa using hE0
    have hres : ggR E #[.bool b, .int .i64 h, .int .i64 m, .int .i64 c2, .int .i64 c, .bool ai, .int .i64 an, .bool oi, .int .i64 on, .int .i64 q, .bool n1i, .int .i64 n1n, .bool n2i, .int .i64 n2n, .bool n3i, .int .i64 n3n, .bool n4i, .int .i64 n4n, .bool n5i, .int .i64 n5n, .bool n6i, .int .i64 n6n] = .tuple #[.agg #[.bool b, .int .i64 h, .int .i64 m, .int .i64 c2, .int .i64 c, .bool ai, .int .i64 an, .bool oi, .int .i64 on, .int .i64 q, .bool n1i, .int .i64 n1n, .bool n2i, .int .i64 n2n, .bool n3i, .int .i64 n3n, .bool n4i, .int .i64 n4n, .bool n5i, .int .i64 n5n, .bool n6i, .int .i64 n6n], .int .i64 0] := by unfold ggR; rw [hEe.out, if_pos rfl]
    replace hres := hid hres
    have ya := setRow_heap S20 p0_0 _ #[.bool b, .int .i64 h, .int .i64 m, .int .i64 c2, .int .i64 c, .bool ai, .int .i64 an, .bool oi, .int .i64 on, .int .i64 q, .bool n1i, .int .i64 n1n, .bool n2i, .int .i64 n2n, .bool n3i, .int .i64 n3n, .bool n4i, .int .i64 n4n, .bool n5i, .int .i64 n5n, .bool n6i, .int .i64 n6n] 27 (0, 0) r_p0_0
    have yO : Only p0_0 S20 (S20.setRow p0_0 #[.bool b, .int .i64 h, .int .i64 m, .int .i64 c2, .int .i64 c, .bool ai, .int .i64 an, .bool oi, .int .i64 on, .int .i64 q, .bool n1i, .int .i64 n1n, .bool n2i, .int .i64 n2n, .bool n3i, .int .i64 n3n, .bool n4i, .int .i64 n4n, .bool n5i, .int .i64 n5n, .bool n6i, .int .i64 n6n]) := ⟨rfl, rfl, rfl, by simp [World.setRow], fun k hk => setRow_other _ _ _ _ hk⟩
    obtain ⟨W9, hW9⟩ : ∃ X, S20.setRow p0_0 #[.bool b, .int .i64 h, .int .i64 m, .int .i64 c2, .int .i64 c, .bool ai, .int .i64 an, .bool oi, .int .i64 on, .int .i64 q, .bool n1i, .int .i64 n1n, .bool n2i, .int .i64 n2n, .bool n3i, .int .i64 n3n, .bool n4i, .int .i64 n4n, .bool n5i, .int .i64 n5n, .bool n6i, .int .i64 n6n] = X := ⟨_, rfl⟩
    rw [hW9] at ya yO
    have hB9 := hid (belowS hB yO (by omega))
    have hld := run_loadVar_row (P := Tryz.prog) W9 p0_0 27 27 #[.bool b, .int .i64 h, .int .i64 m, .int .i64 c2, .int .i64 c, .bool ai, .int .i64 an, .bool oi, .int .i64 on, .int .i64 q, .bool n1i, .int .i64 n1n, .bool n2i, .int .i64 n2n, .bool n3i, .int .i64 n3n, .bool n4i, .int .i64 n4n, .bool n5i, .int .i64 n5n, .bool n6i, .int .i64 n6n] (0, 0) _ ya Tryz.underlying27 rfl (by kernel_rfl)
    replace ya := hid ya
    clear yO
    go_wp2_with (first | (refine wpList_load_row rfl 27 (.tmp 8) rfl p5_0 rfl 27 #[.bool b, .int .i64 h, .int .i64 m, .int .i64 c2, .int .i64 c, .bool ai, .int .i64 an, .bool oi, .int .i64 on, .int .i64 q, .bool n1i, .int .i64 n1n, .bool n2i, .int .i64 n2n, .bool n3i, .int .i64 n3n, .bool n4i, .int .i64 n4n, .bool n5i, .int .i64 n5n, .bool n6i, .int .i64 n6n] (0, 0) _ r_p5_0 Tryz.underlying27 rfl (by kernel_rfl) ?_) | (refine wpList_store_row rfl 27 (.tmp 2) (.tmp 68) rfl p0_0 #[.bool b, .int .i64 h, .int .i64 m, .int .i64 c2, .int .i64 c, .bool ai, .int .i64 an, .bool oi, .int .i64 on, .int .i64 q, .bool n1i, .int .i64 n1n, .bool n2i, .int .i64 n2n, .bool n3i, .int .i64 n3n, .bool n4i, .int .i64 n4n, .bool n5i, .int .i64 n5n, .bool n6i, .int .i64 n6n] rfl rfl 27 _ r_p0_0 (by kernel_rfl) rfl (by simp [Value.oneCell']) ?_; rw [hW9]))
    refine bodyPost_ret (v := .tuple #[.agg #[.bool b, .int .i64 h, .int .i64 m, .int .i64 c2, .int .i64 c, .bool ai, .int .i64 an, .bool oi, .int .i64 on, .int .i64 q, .bool n1i, .int .i64 n1n, .bool n2i, .int .i64 n2n, .bool n3i, .int .i64 n3n, .bool n4i, .int .i64 n4n, .bool n5i, .int .i64 n5n, .bool n6i, .int .i64 n6n], .int .i64 0]) (by simp [results, Tryz.results12, asAddr, hld]) rfl ⟨by rw [hres.out], hB9.out⟩
  case neg =>
    have t0 : (E12 != 0) = true := by simpa using hE0
    have hres : ggR E #[.bool b, .int .i64 h, .int .i64 m, .int .i64 c2, .int .i64 c, .bool ai, .int .i64 an, .bool oi, .int .i64 on, .int .i64 q, .bool n1i, .int .i64 n1n, .bool n2i, .int .i64 n2n, .bool n3i, .int .i64 n3n, .bool n4i, .int .i64 n4n, .bool n5i, .int .i64 n5n, .bool n6i, .int .i64 n6n] = .tuple #[.agg #[.bool false, .int .i64 0, .int .i64 0, .int .i64 0, .int .i64 0, .bool false, .int .i64 0, .bool false, .int .i64 0, .int .i64 0, .bool false, .int .i64 0, .bool false, .int .i64 0, .bool false, .int .i64 0, .bool false, .int .i64 0, .bool false, .int .i64 0, .bool false, .int .i64 0], .int .i64 E12] := by unfold ggR; rw [hEe.out, if_neg hE0]
    replace hres := hid hres
    have ya := setRow_heap S20 p0_0 _ #[.bool false, .int .i64 0, .int .i64 0, .int .i64 0, .int .i64 0, .bool false, .int .i64 0, .bool false, .int .i64 0, .int .i64 0, .bool false, .int .i64 0, .bool false, .int .i64 0, .bool false, .int .i64 0, .bool false, .int .i64 0, .bool false, .int .i64 0, .bool false, .int .i64 0] 27 (0, 0) r_p0_0
    have yO : Only p0_0 S20 (S20.setRow p0_0 #[.bool false, .int .i64 0, .int .i64 0, .int .i64 0, .int .i64 0, .bool false, .int .i64 0, .bool false, .int .i64 0, .int .i64 0, .bool false, .int .i64 0, .bool false, .int .i64 0, .bool false, .int .i64 0, .bool false, .int .i64 0, .bool false, .int .i64 0, .bool false, .int .i64 0]) := ⟨rfl, rfl, rfl, by simp [World.setRow], fun k hk => setRow_other _ _ _ _ hk⟩
    obtain ⟨W9, hW9⟩ : ∃ X, S20.setRow p0_0 #[.bool false, .int .i64 0, .int .i64 0, .int .i64 0, .int .i64 0, .bool false, .int .i64 0, .bool false, .int .i64 0, .int .i64 0, .bool false, .int .i64 0, .bool false, .int .i64 0, .bool false, .int .i64 0, .bool false, .int .i64 0, .bool false, .int .i64 0, .bool false, .int .i64 0] = X := ⟨_, rfl⟩
    rw [hW9] at ya yO
    have hB9 := hid (belowS hB yO (by omega))
    have hld := run_loadVar_row (P := Tryz.prog) W9 p0_0 27 27 #[.bool false, .int .i64 0, .int .i64 0, .int .i64 0, .int .i64 0, .bool false, .int .i64 0, .bool false, .int .i64 0, .int .i64 0, .bool false, .int .i64 0, .bool false, .int .i64 0, .bool false, .int .i64 0, .bool false, .int .i64 0, .bool false, .int .i64 0, .bool false, .int .i64 0] (0, 0) _ ya Tryz.underlying27 rfl (by kernel_rfl)
    replace ya := hid ya
    clear yO
    go_wp2_with (first | (refine wpList_store_row rfl 27 (.tmp 2) (.tmp 66) rfl p0_0 #[.bool false, .int .i64 0, .int .i64 0, .int .i64 0, .int .i64 0, .bool false, .int .i64 0, .bool false, .int .i64 0, .int .i64 0, .bool false, .int .i64 0, .bool false, .int .i64 0, .bool false, .int .i64 0, .bool false, .int .i64 0, .bool false, .int .i64 0, .bool false, .int .i64 0] rfl rfl 27 _ r_p0_0 (by kernel_rfl) rfl (by simp [Value.oneCell']) ?_; rw [hW9]))
    refine bodyPost_ret (v := .tuple #[.agg #[.bool false, .int .i64 0, .int .i64 0, .int .i64 0, .int .i64 0, .bool false, .int .i64 0, .bool false, .int .i64 0, .int .i64 0, .bool false, .int .i64 0, .bool false, .int .i64 0, .bool false, .int .i64 0, .bool false, .int .i64 0, .bool false, .int .i64 0, .bool false, .int .i64 0], .int .i64 E12]) (by simp [results, Tryz.results12, asAddr, hld]) rfl ⟨by rw [hres.out], hB9.out⟩

end Go.Proofs.YtiokoakamcihcaaGreatDoor
