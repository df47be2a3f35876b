/- Package gga: Take. -/
import Derived.Test.YtobgibmpodggkaaDoorGga2
import Derived.Laws.Tables
import Derived.Laws.Rows
import Derived.Deep.DeepCutAuto
namespace Go.Proofs.YtobgibmpodggkaaDoor
open Go.ChangeShapes Go.WideShapes Go.ChangeAt Go.RowKit
set_option linter.unusedVariables false
set_option linter.unusedSimpArgs false

theorem EyeIn.below {w w2 : World} {B : Nat} {e : Int} {L : List ByteArray} (h : EyeIn w B e L) (hA : After w w2) : EyeIn w2 B e L := h.aft hA
theorem RowR.below {w w2 : World} {B : Nat} {e : Int} {L : List ByteArray} (h : RowR w B e L) (hA : After w w2) : RowR w2 B e L := h.aft hA
/-- The first error of a list. -/
def kE (l : List Int) : Int := l.foldl kp 0
def ggR (E : Int) (v : Array Value) : Value := .tuple #[if E = 0 then .agg v else .agg #[.bool false, .int .i64 0, .int .i64 0, .int .i64 0, .int .i64 0, .bool false, .int .i64 0, .bool false, .int .i64 0, .int .i64 0, .bool false, .int .i64 0, .bool false, .int .i64 0, .bool false, .int .i64 0, .bool false, .int .i64 0, .bool false, .int .i64 0, .bool false, .int .i64 0], .int .i64 E]
theorem sg0 {U : World} {p : Nat} {v0 v1 v2 v3 v4 v5 v6 v7 v8 v9 v10 v11 v12 v13 v14 v15 v16 v17 v18 v19 v20 v21 : Value} {T : TypeId} (h : U.heap[p]? = some (.cells #[v0, v1, v2, v3, v4, v5, v6, v7, v8, v9, v10, v11, v12, v13, v14, v15, v16, v17, v18, v19, v20, v21] T (0, 0))) (u0 u1 u2 u3 u4 : Value) :
    ∃ W2, (((((U.setCell ⟨p, 0, none⟩ u0).setCell ⟨p, 1, none⟩ u1).setCell ⟨p, 2, none⟩ u2).setCell ⟨p, 3, none⟩ u3).setCell ⟨p, 4, none⟩ u4) = W2 ∧ W2.heap[p]? = some (.cells #[u0, u1, u2, u3, u4, v5, v6, v7, v8, v9, v10, v11, v12, v13, v14, v15, v16, v17, v18, v19, v20, v21] T (0, 0)) ∧ Only p U W2 := by
  have h0 : (U.setCell ⟨p, 0, none⟩ u0).heap[p]? = some (.cells #[u0, v1, v2, v3, v4, v5, v6, v7, v8, v9, v10, v11, v12, v13, v14, v15, v16, v17, v18, v19, v20, v21] T (0, 0)) := held_set h 0 u0
  have o0 : Only p U (U.setCell ⟨p, 0, none⟩ u0) := Only.set p 0 u0 U
  obtain ⟨W0, hW0⟩ : ∃ W, (U.setCell ⟨p, 0, none⟩ u0) = W := ⟨_, rfl⟩
  rw [hW0] at h0 o0 ⊢
  have h1 : (W0.setCell ⟨p, 1, none⟩ u1).heap[p]? = some (.cells #[u0, u1, v2, v3, v4, v5, v6, v7, v8, v9, v10, v11, v12, v13, v14, v15, v16, v17, v18, v19, v20, v21] T (0, 0)) := held_set h0 1 u1
  have o1 : Only p U (W0.setCell ⟨p, 1, none⟩ u1) := putS o0 1 u1
  obtain ⟨W1, hW1⟩ : ∃ W, (W0.setCell ⟨p, 1, none⟩ u1) = W := ⟨_, rfl⟩
  rw [hW1] at h1 o1 ⊢
  have h2 : (W1.setCell ⟨p, 2, none⟩ u2).heap[p]? = some (.cells #[u0, u1, u2, v3, v4, v5, v6, v7, v8, v9, v10, v11, v12, v13, v14, v15, v16, v17, v18, v19, v20, v21] T (0, 0)) := held_set h1 2 u2
  have o2 : Only p U (W1.setCell ⟨p, 2, none⟩ u2) := putS o1 2 u2
  obtain ⟨W2, hW2⟩ : ∃ W, (W1.setCell ⟨p, 2, none⟩ u2) = W := ⟨_, rfl⟩
  rw [hW2] at h2 o2 ⊢
  have h3 : (W2.setCell ⟨p, 3, none⟩ u3).heap[p]? = some (.cells #[u0, u1, u2, u3, v4, v5, v6, v7, v8, v9, v10, v11, v12, v13, v14, v15, v16, v17, v18, v19, v20, v21] T (0, 0)) := held_set h2 3 u3
  have o3 : Only p U (W2.setCell ⟨p, 3, none⟩ u3) := putS o2 3 u3
  obtain ⟨W3, hW3⟩ : ∃ W, (W2.setCell ⟨p, 3, none⟩ u3) = W := ⟨_, rfl⟩
  rw [hW3] at h3 o3 ⊢
  have h4 : (W3.setCell ⟨p, 4, none⟩ u4).heap[p]? = some (.cells #[u0, u1, u2, u3, u4, v5, v6, v7, v8, v9, v10, v11, v12, v13, v14, v15, v16, v17, v18, v19, v20, v21] T (0, 0)) := held_set h3 4 u4
  have o4 : Only p U (W3.setCell ⟨p, 4, none⟩ u4) := putS o3 4 u4
  obtain ⟨W4, hW4⟩ : ∃ W, (W3.setCell ⟨p, 4, none⟩ u4) = W := ⟨_, rfl⟩
  rw [hW4] at h4 o4 ⊢
  exact ⟨_, rfl, h4, o4⟩
theorem sg9 {U : World} {p : Nat} {v0 v1 v2 v3 v4 v5 v6 v7 v8 v9 v10 v11 v12 v13 v14 v15 v16 v17 v18 v19 v20 v21 : Value} {T : TypeId} (h : U.heap[p]? = some (.cells #[v0, v1, v2, v3, v4, v5, v6, v7, v8, v9, v10, v11, v12, v13, v14, v15, v16, v17, v18, v19, v20, v21] T (0, 0))) (u9 : Value) :
    ∃ W2, (U.setCell ⟨p, 9, none⟩ u9) = W2 ∧ W2.heap[p]? = some (.cells #[v0, v1, v2, v3, v4, v5, v6, v7, v8, u9, v10, v11, v12, v13, v14, v15, v16, v17, v18, v19, v20, v21] T (0, 0)) ∧ Only p U W2 := by
  have h9 : (U.setCell ⟨p, 9, none⟩ u9).heap[p]? = some (.cells #[v0, v1, v2, v3, v4, v5, v6, v7, v8, u9, v10, v11, v12, v13, v14, v15, v16, v17, v18, v19, v20, v21] T (0, 0)) := held_set h 9 u9
  have o9 : Only p U (U.setCell ⟨p, 9, none⟩ u9) := Only.set p 9 u9 U
  obtain ⟨W9, hW9⟩ : ∃ W, (U.setCell ⟨p, 9, none⟩ u9) = W := ⟨_, rfl⟩
  rw [hW9] at h9 o9 ⊢
  exact ⟨_, rfl, h9, o9⟩
theorem sg22 {U : World} {p : Nat} {v0 v1 v2 v3 v4 v5 v6 v7 v8 v9 v10 v11 v12 v13 v14 v15 v16 v17 v18 v19 v20 v21 : Value} {T : TypeId} (h : U.heap[p]? = some (.cells #[v0, v1, v2, v3, v4, v5, v6, v7, v8, v9, v10, v11, v12, v13, v14, v15, v16, v17, v18, v19, v20, v21] T (0, 0))) (u0 u1 u2 u3 u4 u5 u6 u7 u8 u9 u10 u11 u12 u13 u14 u15 u16 u17 u18 u19 u20 u21 : Value) :
    ∃ W2, ((((((((((((((((((((((U.setCell ⟨p, 0, none⟩ u0).setCell ⟨p, 1, none⟩ u1).setCell ⟨p, 2, none⟩ u2).setCell ⟨p, 3, none⟩ u3).setCell ⟨p, 4, none⟩ u4).setCell ⟨p, 5, none⟩ u5).setCell ⟨p, 6, none⟩ u6).setCell ⟨p, 7, none⟩ u7).setCell ⟨p, 8, none⟩ u8).setCell ⟨p, 9, none⟩ u9).setCell ⟨p, 10, none⟩ u10).setCell ⟨p, 11, none⟩ u11).setCell ⟨p, 12, none⟩ u12).setCell ⟨p, 13, none⟩ u13).setCell ⟨p, 14, none⟩ u14).setCell ⟨p, 15, none⟩ u15).setCell ⟨p, 16, none⟩ u16).setCell ⟨p, 17, none⟩ u17).setCell ⟨p, 18, none⟩ u18).setCell ⟨p, 19, none⟩ u19).setCell ⟨p, 20, none⟩ u20).setCell ⟨p, 21, none⟩ u21) = W2 ∧ W2.heap[p]? = some (.cells #[u0, u1, u2, u3, u4, u5, u6, u7, u8, u9, u10, u11, u12, u13, u14, u15, u16, u17, u18, u19, u20, u21] T (0, 0)) ∧ Only p U W2 := by
  have h0 : (U.setCell ⟨p, 0, none⟩ u0).heap[p]? = some (.cells #[u0, v1, v2, v3, v4, v5, v6, v7, v8, v9, v10, v11, v12, v13, v14, v15, v16, v17, v18, v19, v20, v21] T (0, 0)) := held_set h 0 u0
  have o0 : Only p U (U.setCell ⟨p, 0, none⟩ u0) := Only.set p 0 u0 U
  obtain ⟨W0, hW0⟩ : ∃ W, (U.setCell ⟨p, 0, none⟩ u0) = W := ⟨_, rfl⟩
  rw [hW0] at h0 o0 ⊢
  have h1 : (W0.setCell ⟨p, 1, none⟩ u1).heap[p]? = some (.cells #[u0, u1, v2, v3, v4, v5, v6, v7, v8, v9, v10, v11, v12, v13, v14, v15, v16, v17, v18, v19, v20, v21] T (0, 0)) := held_set h0 1 u1
  have o1 : Only p U (W0.setCell ⟨p, 1, none⟩ u1) := putS o0 1 u1
  obtain ⟨W1, hW1⟩ : ∃ W, (W0.setCell ⟨p, 1, none⟩ u1) = W := ⟨_, rfl⟩
  rw [hW1] at h1 o1 ⊢
  have h2 : (W1.setCell ⟨p, 2, none⟩ u2).heap[p]? = some (.cells #[u0, u1, u2, v3, v4, v5, v6, v7, v8, v9, v10, v11, v12, v13, v14, v15, v16, v17, v18, v19, v20, v21] T (0, 0)) := held_set h1 2 u2
  have o2 : Only p U (W1.setCell ⟨p, 2, none⟩ u2) := putS o1 2 u2
  obtain ⟨W2, hW2⟩ : ∃ W, (W1.setCell ⟨p, 2, none⟩ u2) = W := ⟨_, rfl⟩
  rw [hW2] at h2 o2 ⊢
  have h3 : (W2.setCell ⟨p, 3, none⟩ u3).heap[p]? = some (.cells #[u0, u1, u2, u3, v4, v5, v6, v7, v8, v9, v10, v11, v12, v13, v14, v15, v16, v17, v18, v19, v20, v21] T (0, 0)) := held_set h2 3 u3
  have o3 : Only p U (W2.setCell ⟨p, 3, none⟩ u3) := putS o2 3 u3
  obtain ⟨W3, hW3⟩ : ∃ W, (W2.setCell ⟨p, 3, none⟩ u3) = W := ⟨_, rfl⟩
  rw [hW3] at h3 o3 ⊢
  have h4 : (W3.setCell ⟨p, 4, none⟩ u4).heap[p]? = some (.cells #[u0, u1, u2, u3, u4, v5, v6, v7, v8, v9, v10, v11, v12, v13, v14, v15, v16, v17, v18, v19, v20, v21] T (0, 0)) := held_set h3 4 u4
  have o4 : Only p U (W3.setCell ⟨p, 4, none⟩ u4) := putS o3 4 u4
  obtain ⟨W4, hW4⟩ : ∃ W, (W3.setCell ⟨p, 4, none⟩ u4) = W := ⟨_, rfl⟩
  rw [hW4] at h4 o4 ⊢
  have h5 : (W4.setCell ⟨p, 5, none⟩ u5).heap[p]? = some (.cells #[u0, u1, u2, u3, u4, u5, v6, v7, v8, v9, v10, v11, v12, v13, v14, v15, v16, v17, v18, v19, v20, v21] T (0, 0)) := held_set h4 5 u5
  have o5 : Only p U (W4.setCell ⟨p, 5, none⟩ u5) := putS o4 5 u5
  obtain ⟨W5, hW5⟩ : ∃ W, (W4.setCell ⟨p, 5, none⟩ u5) = W := ⟨_, rfl⟩
  rw [hW5] at h5 o5 ⊢
  have h6 : (W5.setCell ⟨p, 6, none⟩ u6).heap[p]? = some (.cells #[u0, u1, u2, u3, u4, u5, u6, v7, v8, v9, v10, v11, v12, v13, v14, v15, v16, v17, v18, v19, v20, v21] T (0, 0)) := held_set h5 6 u6
  have o6 : Only p U (W5.setCell ⟨p, 6, none⟩ u6) := putS o5 6 u6
  obtain ⟨W6, hW6⟩ : ∃ W, (W5.setCell ⟨p, 6, none⟩ u6) = W := ⟨_, rfl⟩
  rw [hW6] at h6 o6 ⊢
  have h7 : (W6.setCell ⟨p, 7, none⟩ u7).heap[p]? = some (.cells #[u0, u1, u2, u3, u4, u5, u6, u7, v8, v9, v10, v11, v12, v13, v14, v15, v16, v17, v18, v19, v20, v21] T (0, 0)) := held_set h6 7 u7
  have o7 : Only p U (W6.setCell ⟨p, 7, none⟩ u7) := putS o6 7 u7
  obtain ⟨W7, hW7⟩ : ∃ W, (W6.setCell ⟨p, 7, none⟩ u7) = W := ⟨_, rfl⟩
  rw [hW7] at h7 o7 ⊢
  have h8 : (W7.setCell ⟨p, 8, none⟩ u8).heap[p]? = some (.cells #[u0, u1, u2, u3, u4, u5, u6, u7, u8, v9, v10, v11, v12, v13, v14, v15, v16, v17, v18, v19, v20, v21] T (0, 0)) := held_set h7 8 u8
  have o8 : Only p U (W7.setCell ⟨p, 8, none⟩ u8) := putS o7 8 u8
  obtain ⟨W8, hW8⟩ : ∃ W, (W7.setCell ⟨p, 8, none⟩ u8) = W := ⟨_, rfl⟩
  rw [hW8] at h8 o8 ⊢
  have h9 : (W8.setCell ⟨p, 9, none⟩ u9).heap[p]? = some (.cells #[u0, u1, u2, u3, u4, u5, u6, u7, u8, u9, v10, v11, v12, v13, v14, v15, v16, v17, v18, v19, v20, v21] T (0, 0)) := held_set h8 9 u9
  have o9 : Only p U (W8.setCell ⟨p, 9, none⟩ u9) := putS o8 9 u9
  obtain ⟨W9, hW9⟩ : ∃ W, (W8.setCell ⟨p, 9, none⟩ u9) = W := ⟨_, rfl⟩
  rw [hW9] at h9 o9 ⊢
  have h10 : (W9.setCell ⟨p, 10, none⟩ u10).heap[p]? = some (.cells #[u0, u1, u2, u3, u4, u5, u6, u7, u8, u9, u10, v11, v12, v13, v14, v15, v16, v17, v18, v19, v20, v21] T (0, 0)) := held_set h9 10 u10
  have o10 : Only p U (W9.setCell ⟨p, 10, none⟩ u10) := putS o9 10 u10
  obtain ⟨W10, hW10⟩ : ∃ W, (W9.setCell ⟨p, 10, none⟩ u10) = W := ⟨_, rfl⟩
  rw [hW10] at h10 o10 ⊢
  have h11 : (W10.setCell ⟨p, 11, none⟩ u11).heap[p]? = some (.cells #[u0, u1, u2, u3, u4, u5, u6, u7, u8, u9, u10, u11, v12, v13, v14, v15, v16, v17, v18, v19, v20, v21] T (0, 0)) := held_set h10 11 u11
  have o11 : Only p U (W10.setCell ⟨p, 11, none⟩ u11) := putS o10 11 u11
  obtain ⟨W11, hW11⟩ : ∃ W, (W10.setCell ⟨p, 11, none⟩ u11) = W := ⟨_, rfl⟩
  rw [hW11] at h11 o11 ⊢
  have h12 : (W11.setCell ⟨p, 12, none⟩ u12).heap[p]? = some (.cells #[u0, u1, u2, u3, u4, u5, u6, u7, u8, u9, u10, u11, u12, v13, v14, v15, v16, v17, v18, v19, v20, v21] T (0, 0)) := held_set h11 12 u12
  have o12 : Only p U (W11.setCell ⟨p, 12, none⟩ u12) := putS o11 12 u12
  obtain ⟨W12, hW12⟩ : ∃ W, (W11.setCell ⟨p, 12, none⟩ u12) = W := ⟨_, rfl⟩
  rw [hW12] at h12 o12 ⊢
  have h13 : (W12.setCell ⟨p, 13, none⟩ u13).heap[p]? = some (.cells #[u0, u1, u2, u3, u4, u5, u6, u7, u8, u9, u10, u11, u12, u13, v14, v15, v16, v17, v18, v19, v20, v21] T (0, 0)) := held_set h12 13 u13
  have o13 : Only p U (W12.setCell ⟨p, 13, none⟩ u13) := putS o12 13 u13
  obtain ⟨W13, hW13⟩ : ∃ W, (W12.setCell ⟨p, 13, none⟩ u13) = W := ⟨_, rfl⟩
  rw [hW13] at h13 o13 ⊢
  have h14 : (W13.setCell ⟨p, 14, none⟩ u14).heap[p]? = some (.cells #[u0, u1, u2, u3, u4, u5, u6, u7, u8, u9, u10, u11, u12, u13, u14, v15, v16, v17, v18, v19, v20, v21] T (0, 0)) := held_set h13 14 u14
  have o14 : Only p U (W13.setCell ⟨p, 14, none⟩ u14) := putS o13 14 u14
  obtain ⟨W14, hW14⟩ : ∃ W, (W13.setCell ⟨p, 14, none⟩ u14) = W := ⟨_, rfl⟩
  rw [hW14] at h14 o14 ⊢
  have h15 : (W14.setCell ⟨p, 15, none⟩ u15).heap[p]? = some (.cells #[u0, u1, u2, u3, u4, u5, u6, u7, u8, u9, u10, u11, u12, u13, u14, u15, v16, v17, v18, v19, v20, v21] T (0, 0)) := held_set h14 15 u15
  have o15 : Only p U (W14.setCell ⟨p, 15, none⟩ u15) := putS o14 15 u15
  obtain ⟨W15, hW15⟩ : ∃ W, (W14.setCell ⟨p, 15, none⟩ u15) = W := ⟨_, rfl⟩
  rw [hW15] at h15 o15 ⊢
  have h16 : (W15.setCell ⟨p, 16, none⟩ u16).heap[p]? = some (.cells #[u0, u1, u2, u3, u4, u5, u6, u7, u8, u9, u10, u11, u12, u13, u14, u15, u16, v17, v18, v19, v20, v21] T (0, 0)) := held_set h15 16 u16
  have o16 : Only p U (W15.setCell ⟨p, 16, none⟩ u16) := putS o15 16 u16
  obtain ⟨W16, hW16⟩ : ∃ W, (W15.setCell ⟨p, 16, none⟩ u16) = W := ⟨_, rfl⟩
  rw [hW16] at h16 o16 ⊢
  have h17 : (W16.setCell ⟨p, 17, none⟩ u17).heap[p]? = some (.cells #[u0, u1, u2, u3, u4, u5, u6, u7, u8, u9, u10, u11, u12, u13, u14, u15, u16, u17, v18, v19, v20, v21] T (0, 0)) := held_set h16 17 u17
  have o17 : Only p U (W16.setCell ⟨p, 17, none⟩ u17) := putS o16 17 u17
  obtain ⟨W17, hW17⟩ : ∃ W, (W16.setCell ⟨p, 17, none⟩ u17) = W := ⟨_, rfl⟩
  rw [hW17] at h17 o17 ⊢
  have h18 : (W17.setCell ⟨p, 18, none⟩ u18).heap[p]? = some (.cells #[u0, u1, u2, u3, u4, u5, u6, u7, u8, u9, u10, u11, u12, u13, u14, u15, u16, u17, u18, v19, v20, v21] T (0, 0)) := held_set h17 18 u18
  have o18 : Only p U (W17.setCell ⟨p, 18, none⟩ u18) := putS o17 18 u18
  obtain ⟨W18, hW18⟩ : ∃ W, (W17.setCell ⟨p, 18, none⟩ u18) = W := ⟨_, rfl⟩
  rw [hW18] at h18 o18 ⊢
  have h19 : (W18.setCell ⟨p, 19, none⟩ u19).heap[p]? = some (.cells #[u0, u1, u2, u3, u4, u5, u6, u7, u8, u9, u10, u11, u12, u13, u14, u15, u16, u17, u18, u19, v20, v21] T (0, 0)) := held_set h18 19 u19
  have o19 : Only p U (W18.setCell ⟨p, 19, none⟩ u19) := putS o18 19 u19
  obtain ⟨W19, hW19⟩ : ∃ W, (W18.setCell ⟨p, 19, none⟩ u19) = W := ⟨_, rfl⟩
  rw [hW19] at h19 o19 ⊢
  have h20 : (W19.setCell ⟨p, 20, none⟩ u20).heap[p]? = some (.cells #[u0, u1, u2, u3, u4, u5, u6, u7, u8, u9, u10, u11, u12, u13, u14, u15, u16, u17, u18, u19, u20, v21] T (0, 0)) := held_set h19 20 u20
  have o20 : Only p U (W19.setCell ⟨p, 20, none⟩ u20) := putS o19 20 u20
  obtain ⟨W20, hW20⟩ : ∃ W, (W19.setCell ⟨p, 20, none⟩ u20) = W := ⟨_, rfl⟩
  rw [hW20] at h20 o20 ⊢
  have h21 : (W20.setCell ⟨p, 21, none⟩ u21).heap[p]? = some (.cells #[u0, u1, u2, u3, u4, u5, u6, u7, u8, u9, u10, u11, u12, u13, u14, u15, u16, u17, u18, u19, u20, u21] T (0, 0)) := held_set h20 21 u21
  have o21 : Only p U (W20.setCell ⟨p, 21, none⟩ u21) := putS o20 21 u21
  obtain ⟨W21, hW21⟩ : ∃ W, (W20.setCell ⟨p, 21, none⟩ u21) = W := ⟨_, rfl⟩
  rw [hW21] at h21 o21 ⊢
  exact ⟨_, rfl, h21, o21⟩
theorem sg5 {U : World} {p : Nat} {v0 v1 v2 v3 v4 v5 v6 v7 v8 v9 v10 v11 v12 v13 v14 v15 v16 v17 v18 v19 v20 v21 : Value} {T : TypeId} (h : U.heap[p]? = some (.cells #[v0, v1, v2, v3, v4, v5, v6, v7, v8, v9, v10, v11, v12, v13, v14, v15, v16, v17, v18, v19, v20, v21] T (0, 0))) (u5 u6 : Value) :
    ∃ W2, ((U.setCell ⟨p, 5, none⟩ u5).setCell ⟨p, 6, none⟩ u6) = W2 ∧ W2.heap[p]? = some (.cells #[v0, v1, v2, v3, v4, u5, u6, v7, v8, v9, v10, v11, v12, v13, v14, v15, v16, v17, v18, v19, v20, v21] T (0, 0)) ∧ Only p U W2 := by
  have h5 : (U.setCell ⟨p, 5, none⟩ u5).heap[p]? = some (.cells #[v0, v1, v2, v3, v4, u5, v6, v7, v8, v9, v10, v11, v12, v13, v14, v15, v16, v17, v18, v19, v20, v21] T (0, 0)) := held_set h 5 u5
  have o5 : Only p U (U.setCell ⟨p, 5, none⟩ u5) := Only.set p 5 u5 U
  obtain ⟨W5, hW5⟩ : ∃ W, (U.setCell ⟨p, 5, none⟩ u5) = W := ⟨_, rfl⟩
  rw [hW5] at h5 o5 ⊢
  have h6 : (W5.setCell ⟨p, 6, none⟩ u6).heap[p]? = some (.cells #[v0, v1, v2, v3, v4, u5, u6, v7, v8, v9, v10, v11, v12, v13, v14, v15, v16, v17, v18, v19, v20, v21] T (0, 0)) := held_set h5 6 u6
  have o6 : Only p U (W5.setCell ⟨p, 6, none⟩ u6) := putS o5 6 u6
  obtain ⟨W6, hW6⟩ : ∃ W, (W5.setCell ⟨p, 6, none⟩ u6) = W := ⟨_, rfl⟩
  rw [hW6] at h6 o6 ⊢
  exact ⟨_, rfl, h6, o6⟩
theorem sg7 {U : World} {p : Nat} {v0 v1 v2 v3 v4 v5 v6 v7 v8 v9 v10 v11 v12 v13 v14 v15 v16 v17 v18 v19 v20 v21 : Value} {T : TypeId} (h : U.heap[p]? = some (.cells #[v0, v1, v2, v3, v4, v5, v6, v7, v8, v9, v10, v11, v12, v13, v14, v15, v16, v17, v18, v19, v20, v21] T (0, 0))) (u7 u8 : Value) :
    ∃ W2, ((U.setCell ⟨p, 7, none⟩ u7).setCell ⟨p, 8, none⟩ u8) = W2 ∧ W2.heap[p]? = some (.cells #[v0, v1, v2, v3, v4, v5, v6, u7, u8, v9, v10, v11, v12, v13, v14, v15, v16, v17, v18, v19, v20, v21] T (0, 0)) ∧ Only p U W2 := by
  have h7 : (U.setCell ⟨p, 7, none⟩ u7).heap[p]? = some (.cells #[v0, v1, v2, v3, v4, v5, v6, u7, v8, v9, v10, v11, v12, v13, v14, v15, v16, v17, v18, v19, v20, v21] T (0, 0)) := held_set h 7 u7
  have o7 : Only p U (U.setCell ⟨p, 7, none⟩ u7) := Only.set p 7 u7 U
  obtain ⟨W7, hW7⟩ : ∃ W, (U.setCell ⟨p, 7, none⟩ u7) = W := ⟨_, rfl⟩
  rw [hW7] at h7 o7 ⊢
  have h8 : (W7.setCell ⟨p, 8, none⟩ u8).heap[p]? = some (.cells #[v0, v1, v2, v3, v4, v5, v6, u7, u8, v9, v10, v11, v12, v13, v14, v15, v16, v17, v18, v19, v20, v21] T (0, 0)) := held_set h7 8 u8
  have o8 : Only p U (W7.setCell ⟨p, 8, none⟩ u8) := putS o7 8 u8
  obtain ⟨W8, hW8⟩ : ∃ W, (W7.setCell ⟨p, 8, none⟩ u8) = W := ⟨_, rfl⟩
  rw [hW8] at h8 o8 ⊢
  exact ⟨_, rfl, h8, o8⟩
theorem sg10 {U : World} {p : Nat} {v0 v1 v2 v3 v4 v5 v6 v7 v8 v9 v10 v11 v12 v13 v14 v15 v16 v17 v18 v19 v20 v21 : Value} {T : TypeId} (h : U.heap[p]? = some (.cells #[v0, v1, v2, v3, v4, v5, v6, v7, v8, v9, v10, v11, v12, v13, v14, v15, v16, v17, v18, v19, v20, v21] T (0, 0))) (u10 u11 : Value) :
    ∃ W2, ((U.setCell ⟨p, 10, none⟩ u10).setCell ⟨p, 11, none⟩ u11) = W2 ∧ W2.heap[p]? = some (.cells #[v0, v1, v2, v3, v4, v5, v6, v7, v8, v9, u10, u11, v12, v13, v14, v15, v16, v17, v18, v19, v20, v21] T (0, 0)) ∧ Only p U W2 := by
  have h10 : (U.setCell ⟨p, 10, none⟩ u10).heap[p]? = some (.cells #[v0, v1, v2, v3, v4, v5, v6, v7, v8, v9, u10, v11, v12, v13, v14, v15, v16, v17, v18, v19, v20, v21] T (0, 0)) := held_set h 10 u10
  have o10 : Only p U (U.setCell ⟨p, 10, none⟩ u10) := Only.set p 10 u10 U
  obtain ⟨W10, hW10⟩ : ∃ W, (U.setCell ⟨p, 10, none⟩ u10) = W := ⟨_, rfl⟩
  rw [hW10] at h10 o10 ⊢
  have h11 : (W10.setCell ⟨p, 11, none⟩ u11).heap[p]? = some (.cells #[v0, v1, v2, v3, v4, v5, v6, v7, v8, v9, u10, u11, v12, v13, v14, v15, v16, v17, v18, v19, v20, v21] T (0, 0)) := held_set h10 11 u11
  have o11 : Only p U (W10.setCell ⟨p, 11, none⟩ u11) := putS o10 11 u11
  obtain ⟨W11, hW11⟩ : ∃ W, (W10.setCell ⟨p, 11, none⟩ u11) = W := ⟨_, rfl⟩
  rw [hW11] at h11 o11 ⊢
  exact ⟨_, rfl, h11, o11⟩
theorem sg12 {U : World} {p : Nat} {v0 v1 v2 v3 v4 v5 v6 v7 v8 v9 v10 v11 v12 v13 v14 v15 v16 v17 v18 v19 v20 v21 : Value} {T : TypeId} (h : U.heap[p]? = some (.cells #[v0, v1, v2, v3, v4, v5, v6, v7, v8, v9, v10, v11, v12, v13, v14, v15, v16, v17, v18, v19, v20, v21] T (0, 0))) (u12 u13 : Value) :
    ∃ W2, ((U.setCell ⟨p, 12, none⟩ u12).setCell ⟨p, 13, none⟩ u13) = W2 ∧ W2.heap[p]? = some (.cells #[v0, v1, v2, v3, v4, v5, v6, v7, v8, v9, v10, v11, u12, u13, v14, v15, v16, v17, v18, v19, v20, v21] T (0, 0)) ∧ Only p U W2 := by
  have h12 : (U.setCell ⟨p, 12, none⟩ u12).heap[p]? = some (.cells #[v0, v1, v2, v3, v4, v5, v6, v7, v8, v9, v10, v11, u12, v13, v14, v15, v16, v17, v18, v19, v20, v21] T (0, 0)) := held_set h 12 u12
  have o12 : Only p U (U.setCell ⟨p, 12, none⟩ u12) := Only.set p 12 u12 U
  obtain ⟨W12, hW12⟩ : ∃ W, (U.setCell ⟨p, 12, none⟩ u12) = W := ⟨_, rfl⟩
  rw [hW12] at h12 o12 ⊢
  have h13 : (W12.setCell ⟨p, 13, none⟩ u13).heap[p]? = some (.cells #[v0, v1, v2, v3, v4, v5, v6, v7, v8, v9, v10, v11, u12, u13, v14, v15, v16, v17, v18, v19, v20, v21] T (0, 0)) := held_set h12 13 u13
  have o13 : Only p U (W12.setCell ⟨p, 13, none⟩ u13) := putS o12 13 u13
  obtain ⟨W13, hW13⟩ : ∃ W, (W12.setCell ⟨p, 13, none⟩ u13) = W := ⟨_, rfl⟩
  rw [hW13] at h13 o13 ⊢
  exact ⟨_, rfl, h13, o13⟩
theorem sg14 {U : World} {p : Nat} {v0 v1 v2 v3 v4 v5 v6 v7 v8 v9 v10 v11 v12 v13 v14 v15 v16 v17 v18 v19 v20 v21 : Value} {T : TypeId} (h : U.heap[p]? = some (.cells #[v0, v1, v2, v3, v4, v5, v6, v7, v8, v9, v10, v11, v12, v13, v14, v15, v16, v17, v18, v19, v20, v21] T (0, 0))) (u14 u15 : Value) :
    ∃ W2, ((U.setCell ⟨p, 14, none⟩ u14).setCell ⟨p, 15, none⟩ u15) = W2 ∧ W2.heap[p]? = some (.cells #[v0, v1, v2, v3, v4, v5, v6, v7, v8, v9, v10, v11, v12, v13, u14, u15, v16, v17, v18, v19, v20, v21] T (0, 0)) ∧ Only p U W2 := by
  have h14 : (U.setCell ⟨p, 14, none⟩ u14).heap[p]? = some (.cells #[v0, v1, v2, v3, v4, v5, v6, v7, v8, v9, v10, v11, v12, v13, u14, v15, v16, v17, v18, v19, v20, v21] T (0, 0)) := held_set h 14 u14
  have o14 : Only p U (U.setCell ⟨p, 14, none⟩ u14) := Only.set p 14 u14 U
  obtain ⟨W14, hW14⟩ : ∃ W, (U.setCell ⟨p, 14, none⟩ u14) = W := ⟨_, rfl⟩
  rw [hW14] at h14 o14 ⊢
  have h15 : (W14.setCell ⟨p, 15, none⟩ u15).heap[p]? = some (.cells #[v0, v1, v2, v3, v4, v5, v6, v7, v8, v9, v10, v11, v12, v13, u14, u15, v16, v17, v18, v19, v20, v21] T (0, 0)) := held_set h14 15 u15
  have o15 : Only p U (W14.setCell ⟨p, 15, none⟩ u15) := putS o14 15 u15
  obtain ⟨W15, hW15⟩ : ∃ W, (W14.setCell ⟨p, 15, none⟩ u15) = W := ⟨_, rfl⟩
  rw [hW15] at h15 o15 ⊢
  exact ⟨_, rfl, h15, o15⟩
theorem sg16 {U : World} {p : Nat} {v0 v1 v2 v3 v4 v5 v6 v7 v8 v9 v10 v11 v12 v13 v14 v15 v16 v17 v18 v19 v20 v21 : Value} {T : TypeId} (h : U.heap[p]? = some (.cells #[v0, v1, v2, v3, v4, v5, v6, v7, v8, v9, v10, v11, v12, v13, v14, v15, v16, v17, v18, v19, v20, v21] T (0, 0))) (u16 u17 : Value) :
    ∃ W2, ((U.setCell ⟨p, 16, none⟩ u16).setCell ⟨p, 17, none⟩ u17) = W2 ∧ W2.heap[p]? = some (.cells #[v0, v1, v2, v3, v4, v5, v6, v7, v8, v9, v10, v11, v12, v13, v14, v15, u16, u17, v18, v19, v20, v21] T (0, 0)) ∧ Only p U W2 := by
  have h16 : (U.setCell ⟨p, 16, none⟩ u16).heap[p]? = some (.cells #[v0, v1, v2, v3, v4, v5, v6, v7, v8, v9, v10, v11, v12, v13, v14, v15, u16, v17, v18, v19, v20, v21] T (0, 0)) := held_set h 16 u16
  have o16 : Only p U (U.setCell ⟨p, 16, none⟩ u16) := Only.set p 16 u16 U
  obtain ⟨W16, hW16⟩ : ∃ W, (U.setCell ⟨p, 16, none⟩ u16) = W := ⟨_, rfl⟩
  rw [hW16] at h16 o16 ⊢
  have h17 : (W16.setCell ⟨p, 17, none⟩ u17).heap[p]? = some (.cells #[v0, v1, v2, v3, v4, v5, v6, v7, v8, v9, v10, v11, v12, v13, v14, v15, u16, u17, v18, v19, v20, v21] T (0, 0)) := held_set h16 17 u17
  have o17 : Only p U (W16.setCell ⟨p, 17, none⟩ u17) := putS o16 17 u17
  obtain ⟨W17, hW17⟩ : ∃ W, (W16.setCell ⟨p, 17, none⟩ u17) = W := ⟨_, rfl⟩
  rw [hW17] at h17 o17 ⊢
  exact ⟨_, rfl, h17, o17⟩
theorem sg18 {U : World} {p : Nat} {v0 v1 v2 v3 v4 v5 v6 v7 v8 v9 v10 v11 v12 v13 v14 v15 v16 v17 v18 v19 v20 v21 : Value} {T : TypeId} (h : U.heap[p]? = some (.cells #[v0, v1, v2, v3, v4, v5, v6, v7, v8, v9, v10, v11, v12, v13, v14, v15, v16, v17, v18, v19, v20, v21] T (0, 0))) (u18 u19 : Value) :
    ∃ W2, ((U.setCell ⟨p, 18, none⟩ u18).setCell ⟨p, 19, none⟩ u19) = W2 ∧ W2.heap[p]? = some (.cells #[v0, v1, v2, v3, v4, v5, v6, v7, v8, v9, v10, v11, v12, v13, v14, v15, v16, v17, u18, u19, v20, v21] T (0, 0)) ∧ Only p U W2 := by
  have h18 : (U.setCell ⟨p, 18, none⟩ u18).heap[p]? = some (.cells #[v0, v1, v2, v3, v4, v5, v6, v7, v8, v9, v10, v11, v12, v13, v14, v15, v16, v17, u18, v19, v20, v21] T (0, 0)) := held_set h 18 u18
  have o18 : Only p U (U.setCell ⟨p, 18, none⟩ u18) := Only.set p 18 u18 U
  obtain ⟨W18, hW18⟩ : ∃ W, (U.setCell ⟨p, 18, none⟩ u18) = W := ⟨_, rfl⟩
  rw [hW18] at h18 o18 ⊢
  have h19 : (W18.setCell ⟨p, 19, none⟩ u19).heap[p]? = some (.cells #[v0, v1, v2, v3, v4, v5, v6, v7, v8, v9, v10, v11, v12, v13, v14, v15, v16, v17, u18, u19, v20, v21] T (0, 0)) := held_set h18 19 u19
  have o19 : Only p U (W18.setCell ⟨p, 19, none⟩ u19) := putS o18 19 u19
  obtain ⟨W19, hW19⟩ : ∃ W, (W18.setCell ⟨p, 19, none⟩ u19) = W := ⟨_, rfl⟩
  rw [hW19] at h19 o19 ⊢
  exact ⟨_, rfl, h19, o19⟩
theorem sg20 {U : World} {p : Nat} {v0 v1 v2 v3 v4 v5 v6 v7 v8 v9 v10 v11 v12 v13 v14 v15 v16 v17 v18 v19 v20 v21 : Value} {T : TypeId} (h : U.heap[p]? = some (.cells #[v0, v1, v2, v3, v4, v5, v6, v7, v8, v9, v10, v11, v12, v13, v14, v15, v16, v17, v18, v19, v20, v21] T (0, 0))) (u20 u21 : Value) :
    ∃ W2, ((U.setCell ⟨p, 20, none⟩ u20).setCell ⟨p, 21, none⟩ u21) = W2 ∧ W2.heap[p]? = some (.cells #[v0, v1, v2, v3, v4, v5, v6, v7, v8, v9, v10, v11, v12, v13, v14, v15, v16, v17, v18, v19, u20, u21] T (0, 0)) ∧ Only p U W2 := by
  have h20 : (U.setCell ⟨p, 20, none⟩ u20).heap[p]? = some (.cells #[v0, v1, v2, v3, v4, v5, v6, v7, v8, v9, v10, v11, v12, v13, v14, v15, v16, v17, v18, v19, u20, v21] T (0, 0)) := held_set h 20 u20
  have o20 : Only p U (U.setCell ⟨p, 20, none⟩ u20) := Only.set p 20 u20 U
  obtain ⟨W20, hW20⟩ : ∃ W, (U.setCell ⟨p, 20, none⟩ u20) = W := ⟨_, rfl⟩
  rw [hW20] at h20 o20 ⊢
  have h21 : (W20.setCell ⟨p, 21, none⟩ u21).heap[p]? = some (.cells #[v0, v1, v2, v3, v4, v5, v6, v7, v8, v9, v10, v11, v12, v13, v14, v15, v16, v17, v18, v19, u20, u21] T (0, 0)) := held_set h20 21 u21
  have o21 : Only p U (W20.setCell ⟨p, 21, none⟩ u21) := putS o20 21 u21
  obtain ⟨W21, hW21⟩ : ∃ W, (W20.setCell ⟨p, 21, none⟩ u21) = W := ⟨_, rfl⟩
  rw [hW21] at h21 o21 ⊢
  exact ⟨_, rfl, h21, o21⟩
end Go.Proofs.YtobgibmpodggkaaDoor
