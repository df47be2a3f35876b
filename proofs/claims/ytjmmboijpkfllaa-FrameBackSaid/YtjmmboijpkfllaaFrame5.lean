/- The papers' Same of two frames. -/
import Derived.Test.YtjmmboijpkfllaaFrame3
import Derived.Test.YtjmmboijpkfllaaLaw15
import Derived.Deep.DeepCutAuto
namespace Go.Proofs.Ytjmmboijpkfllaa
open Go.ChangeShapes Go.WideShapes Go.ChangeAt Go.RowKit
set_option linter.unusedVariables false

set_option maxRecDepth 100000 in
set_option maxHeartbeats 4000000 in
theorem same15_any (c1 i1 c2 i2 : Int) (a1 a2 : Option Addr) (l1 k1 l2 k2 : Nat) (P1 P2 : List Int) (w : World) (h1 : Sl .u8 w a1 l1 k1 P1) (h2 : Sl .u8 w a2 l2 k2 P2) (d1 : ∀ n ∈ P1, 0 ≤ n ∧ n ≤ 255) (d2 : ∀ n ∈ P2, 0 ≤ n ∧ n ≤ 255) :
    Calls Try.prog 14 #[.agg #[.int .i64 c1, .int .i64 i1, .slice a1 l1 k1], .agg #[.int .i64 c2, .int .i64 i2, .slice a2 l2 k2]] w fun e w' => e = .returned (.bool (decide (c1 = c2 ∧ i1 = i2 ∧ P1 = P2))) ∧ Below w.heap.size w w' := by
  have nw := alloc_new w (.cells #[.int .i64 c1, .int .i64 i1, .slice a1 l1 k1] 24)
  obtain ⟨V0, hV0⟩ : ∃ X, w.alloc (.cells #[.int .i64 c1, .int .i64 i1, .slice a1 l1 k1] 24) = X := ⟨_, rfl⟩
  rw [hV0] at nw
  have nx := alloc_new V0 (.cells #[.int .i64 c2, .int .i64 i2, .slice a2 l2 k2] 24)
  obtain ⟨V1, hV1⟩ : ∃ X, V0.alloc (.cells #[.int .i64 c2, .int .i64 i2, .slice a2 l2 k2] 24) = X := ⟨_, rfl⟩
  rw [hV1] at nx
  have hB := bthen nw.2.1 nx.2.1
  have rx := held_after nx.2.1 nw.2.2
  have ry := nx.2.2
  have x0 := held_cell rx 0 _ rfl
  have x1 := held_cell rx 1 _ rfl
  have x2 := held_cell rx 2 _ rfl
  have y0 := held_cell ry 0 _ rfl
  have y1 := held_cell ry 1 _ rfl
  have y2 := held_cell ry 2 _ rfl
  have t1 := txt15 (h1.below hB)
  have t2 := txt15 (h2.below hB)
  obtain ⟨b, hb⟩ : ∃ b, decide (c1 = c2 ∧ i1 = i2 ∧ P1 = P2) = b := ⟨_, rfl⟩
  rw [hb]
  obtain ⟨TE, hTE⟩ : ∃ b, ((textOf P1).toList == (textOf P2).toList) = b := ⟨_, rfl⟩
  have hTE2 : TE = decide (P1 = P2) := by
    rw [← hTE]
    by_cases c : P1 = P2
    · rw [text_eq _ _ c, decide_eq_true c]
    · rw [text_ne _ _ d1 d2 c, decide_eq_false c]
  replace hTE2 := hid hTE2
  replace hb := hid hb
  generalize textOf P1 = TX at *
  generalize textOf P2 = TY at *
  replace hB := hid hB
  clear h1 h2 d1 d2 nw nx rx ry
  by_cases e1 : c1 = c2
  · by_cases e2 : i1 = i2
    · subst e1
      subst e2
      go_enter Try.func14, Try.ntmps14
      go_wp2_with fail
      go_ret
      exact ⟨ret_bool (by rw [← hb.out]; simp [hTE2.out]), hB.out⟩
    · subst e1
      have ne2 := hid e2
      have hE : (i1 == i2) = false := by simp [e2]
      clear e2
      go_enter Try.func14, Try.ntmps14
      go_wp2_with fail
      go_ret
      exact ⟨ret_bool (by rw [← hb.out]; simp [ne2.out]), hB.out⟩
  · have ne1 := hid e1
    have hE : (c1 == c2) = false := by simp [e1]
    clear e1
    go_enter Try.func14, Try.ntmps14
    go_wp2_with fail
    go_ret
    exact ⟨ret_bool (by rw [← hb.out]; simp [ne1.out]), hB.out⟩

end Go.Proofs.Ytjmmboijpkfllaa
