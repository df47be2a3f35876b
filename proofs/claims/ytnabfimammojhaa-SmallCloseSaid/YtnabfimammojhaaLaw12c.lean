/- Stage 12: what comes back: near -/
import Derived.Test.YtnabfimammojhaaLaw12b
namespace Go.Proofs.Ytnabfimammojhaa
open Go.ChangeShapes Go.WideShapes Go.ChangeAt Go.RowKit
set_option linter.unusedVariables false

theorem absI_le {a b : Int} (h : absI a ≤ absI b) (hb : 0 ≤ b) : -b ≤ a ∧ a ≤ b := by unfold absI at h; split at h <;> split at h <;> omega
theorem close_letters (o : Nat) (ho : o < 4) (q0 q1 q2 q3 : Int) (hb : ∀ k, k < 4 → -(sel4 o q0 q1 q2 q3) ≤ sel4 k q0 q1 q2 q3 ∧ sel4 k q0 q1 q2 q3 ≤ sel4 o q0 q1 q2 q3)
    (hN1 : 1152921504606846976 - 1099511627776 ≤ q0 * q0 + q1 * q1 + q2 * q2 + q3 * q3) (hN2 : q0 * q0 + q1 * q1 + q2 * q2 + q3 * q3 ≤ 1152921504606846976 + 1099511627776)
    (G : Fin 4 → Int) (hG : ∀ i : Fin 4, G i = numS (sel4 i.val q0 q1 q2 q3)) (g1 g2 g3 : Int) (hg : (oth o 4).map G = [g1, g2, g3]) :
    ∃ b0 b1 b2 b3 : Int, unT o g1 g2 g3 = .tuple #[.agg #[.int .i32 b0, .int .i32 b1, .int .i32 b2, .int .i32 b3], .bool true] ∧ (B32 b0 ∧ B32 b1 ∧ B32 b2 ∧ B32 b3) ∧
      ∀ k, k < 4 → (k ≠ o → -1048576 ≤ sel4 k q0 q1 q2 q3 - sel4 k b0 b1 b2 b3 ∧ sel4 k q0 q1 q2 q3 - sel4 k b0 b1 b2 b3 ≤ 1048576) ∧ -4194304 ≤ sel4 k q0 q1 q2 q3 - sel4 k b0 b1 b2 b3 ∧ sel4 k q0 q1 q2 q3 - sel4 k b0 b1 b2 b3 ≤ 4194304 := by
  have c0 := hb 0 (by omega)
  have c1 := hb 1 (by omega)
  have c2 := hb 2 (by omega)
  have c3 := hb 3 (by omega)
  have f0 : sel4 0 q0 q1 q2 q3 = q0 := rfl
  have f1 : sel4 1 q0 q1 q2 q3 = q1 := rfl
  have f2 : sel4 2 q0 q1 q2 q3 = q2 := rfl
  have f3 : sel4 3 q0 q1 q2 q3 = q3 := rfl
  rw [f0] at c0
  rw [f1] at c1
  rw [f2] at c2
  rw [f3] at c3
  have n0 := sq_0 q0
  have n1 := sq_0 q1
  have n2 := sq_0 q2
  have n3 := sq_0 q3
  have lim : ∀ a : Int, 0 ≤ a → a * a ≤ 1152921504606846976 + 1099511627776 → a ≤ 1073742400 := fun a k0 k1 => by
    rcases Int.lt_or_le 1073742400 a with k | k
    · have := sq_mono (a := 1073742400) (b := a) (by omega) (by omega); omega
    · exact k
  obtain rfl | rfl | rfl | rfl : o = 0 ∨ o = 1 ∨ o = 2 ∨ o = 3 := by omega
  · have eo : oth 0 4 = [1, 2, 3] := rfl
    rw [eo] at hg
    simp only [List.map_cons, List.map_nil, List.cons.injEq, and_true] at hg
    obtain ⟨e1, e2, e3⟩ := hg
    have d1 : g1 = numS q1 := e1.symm.trans (hG 1)
    have d2 : g2 = numS q2 := e2.symm.trans (hG 2)
    have d3 : g3 = numS q3 := e3.symm.trans (hG 3)
    subst d1 d2 d3
    clear e1 e2 e3 hG
    rw [f0] at c0 c1 c2 c3
    have lb := lim q0 (by omega) (by omega)
    obtain ⟨z1, z2, z3, hS, k1, k2, k3, k4⟩ := close_core q0 q1 q2 q3 c1 c2 c3 (by omega) (by omega)
    have hT := unT_ok (o := 0) z1 z2 z3 hS
    refine ⟨((sqrtS (1152921504606846976 - sq3 (numS q1) (numS q2) (numS q3)).toNat : Nat) : Int), yS (numS q1), yS (numS q2), yS (numS q3), hT, ⟨⟨by omega, by omega⟩, ⟨by omega, by omega⟩, ⟨by omega, by omega⟩, ⟨by omega, by omega⟩⟩, fun k hk => ?_⟩
    obtain rfl | rfl | rfl | rfl : k = 0 ∨ k = 1 ∨ k = 2 ∨ k = 3 := by omega
    · show (_ → -1048576 ≤ q0 - ((sqrtS (1152921504606846976 - sq3 (numS q1) (numS q2) (numS q3)).toNat : Nat) : Int) ∧ q0 - ((sqrtS (1152921504606846976 - sq3 (numS q1) (numS q2) (numS q3)).toNat : Nat) : Int) ≤ 1048576) ∧ -4194304 ≤ q0 - ((sqrtS (1152921504606846976 - sq3 (numS q1) (numS q2) (numS q3)).toNat : Nat) : Int) ∧ q0 - ((sqrtS (1152921504606846976 - sq3 (numS q1) (numS q2) (numS q3)).toNat : Nat) : Int) ≤ 4194304
      refine ⟨fun h => ?_, ?_⟩ <;> omega
    · show (_ → -1048576 ≤ q1 - yS (numS q1) ∧ q1 - yS (numS q1) ≤ 1048576) ∧ -4194304 ≤ q1 - yS (numS q1) ∧ q1 - yS (numS q1) ≤ 4194304
      refine ⟨fun h => ?_, ?_⟩ <;> omega
    · show (_ → -1048576 ≤ q2 - yS (numS q2) ∧ q2 - yS (numS q2) ≤ 1048576) ∧ -4194304 ≤ q2 - yS (numS q2) ∧ q2 - yS (numS q2) ≤ 4194304
      refine ⟨fun h => ?_, ?_⟩ <;> omega
    · show (_ → -1048576 ≤ q3 - yS (numS q3) ∧ q3 - yS (numS q3) ≤ 1048576) ∧ -4194304 ≤ q3 - yS (numS q3) ∧ q3 - yS (numS q3) ≤ 4194304
      refine ⟨fun h => ?_, ?_⟩ <;> omega
  · have eo : oth 1 4 = [0, 2, 3] := rfl
    rw [eo] at hg
    simp only [List.map_cons, List.map_nil, List.cons.injEq, and_true] at hg
    obtain ⟨e1, e2, e3⟩ := hg
    have d1 : g1 = numS q0 := e1.symm.trans (hG 0)
    have d2 : g2 = numS q2 := e2.symm.trans (hG 2)
    have d3 : g3 = numS q3 := e3.symm.trans (hG 3)
    subst d1 d2 d3
    clear e1 e2 e3 hG
    rw [f1] at c0 c1 c2 c3
    have lb := lim q1 (by omega) (by omega)
    obtain ⟨z1, z2, z3, hS, k1, k2, k3, k4⟩ := close_core q1 q0 q2 q3 c0 c2 c3 (by omega) (by omega)
    have hT := unT_ok (o := 1) z1 z2 z3 hS
    refine ⟨yS (numS q0), ((sqrtS (1152921504606846976 - sq3 (numS q0) (numS q2) (numS q3)).toNat : Nat) : Int), yS (numS q2), yS (numS q3), hT, ⟨⟨by omega, by omega⟩, ⟨by omega, by omega⟩, ⟨by omega, by omega⟩, ⟨by omega, by omega⟩⟩, fun k hk => ?_⟩
    obtain rfl | rfl | rfl | rfl : k = 0 ∨ k = 1 ∨ k = 2 ∨ k = 3 := by omega
    · show (_ → -1048576 ≤ q0 - yS (numS q0) ∧ q0 - yS (numS q0) ≤ 1048576) ∧ -4194304 ≤ q0 - yS (numS q0) ∧ q0 - yS (numS q0) ≤ 4194304
      refine ⟨fun h => ?_, ?_⟩ <;> omega
    · show (_ → -1048576 ≤ q1 - ((sqrtS (1152921504606846976 - sq3 (numS q0) (numS q2) (numS q3)).toNat : Nat) : Int) ∧ q1 - ((sqrtS (1152921504606846976 - sq3 (numS q0) (numS q2) (numS q3)).toNat : Nat) : Int) ≤ 1048576) ∧ -4194304 ≤ q1 - ((sqrtS (1152921504606846976 - sq3 (numS q0) (numS q2) (numS q3)).toNat : Nat) : Int) ∧ q1 - ((sqrtS (1152921504606846976 - sq3 (numS q0) (numS q2) (numS q3)).toNat : Nat) : Int) ≤ 4194304
      refine ⟨fun h => ?_, ?_⟩ <;> omega
    · show (_ → -1048576 ≤ q2 - yS (numS q2) ∧ q2 - yS (numS q2) ≤ 1048576) ∧ -4194304 ≤ q2 - yS (numS q2) ∧ q2 - yS (numS q2) ≤ 4194304
      refine ⟨fun h => ?_, ?_⟩ <;> omega
    · show (_ → -1048576 ≤ q3 - yS (numS q3) ∧ q3 - yS (numS q3) ≤ 1048576) ∧ -4194304 ≤ q3 - yS (numS q3) ∧ q3 - yS (numS q3) ≤ 4194304
      refine ⟨fun h => ?_, ?_⟩ <;> omega
  · have eo : oth 2 4 = [0, 1, 3] := rfl
    rw [eo] at hg
    simp only [List.map_cons, List.map_nil, List.cons.injEq, and_true] at hg
    obtain ⟨e1, e2, e3⟩ := hg
    have d1 : g1 = numS q0 := e1.symm.trans (hG 0)
    have d2 : g2 = numS q1 := e2.symm.trans (hG 1)
    have d3 : g3 = numS q3 := e3.symm.trans (hG 3)
    subst d1 d2 d3
    clear e1 e2 e3 hG
    rw [f2] at c0 c1 c2 c3
    have lb := lim q2 (by omega) (by omega)
    obtain ⟨z1, z2, z3, hS, k1, k2, k3, k4⟩ := close_core q2 q0 q1 q3 c0 c1 c3 (by omega) (by omega)
    have hT := unT_ok (o := 2) z1 z2 z3 hS
    refine ⟨yS (numS q0), yS (numS q1), ((sqrtS (1152921504606846976 - sq3 (numS q0) (numS q1) (numS q3)).toNat : Nat) : Int), yS (numS q3), hT, ⟨⟨by omega, by omega⟩, ⟨by omega, by omega⟩, ⟨by omega, by omega⟩, ⟨by omega, by omega⟩⟩, fun k hk => ?_⟩
    obtain rfl | rfl | rfl | rfl : k = 0 ∨ k = 1 ∨ k = 2 ∨ k = 3 := by omega
    · show (_ → -1048576 ≤ q0 - yS (numS q0) ∧ q0 - yS (numS q0) ≤ 1048576) ∧ -4194304 ≤ q0 - yS (numS q0) ∧ q0 - yS (numS q0) ≤ 4194304
      refine ⟨fun h => ?_, ?_⟩ <;> omega
    · show (_ → -1048576 ≤ q1 - yS (numS q1) ∧ q1 - yS (numS q1) ≤ 1048576) ∧ -4194304 ≤ q1 - yS (numS q1) ∧ q1 - yS (numS q1) ≤ 4194304
      refine ⟨fun h => ?_, ?_⟩ <;> omega
    · show (_ → -1048576 ≤ q2 - ((sqrtS (1152921504606846976 - sq3 (numS q0) (numS q1) (numS q3)).toNat : Nat) : Int) ∧ q2 - ((sqrtS (1152921504606846976 - sq3 (numS q0) (numS q1) (numS q3)).toNat : Nat) : Int) ≤ 1048576) ∧ -4194304 ≤ q2 - ((sqrtS (1152921504606846976 - sq3 (numS q0) (numS q1) (numS q3)).toNat : Nat) : Int) ∧ q2 - ((sqrtS (1152921504606846976 - sq3 (numS q0) (numS q1) (numS q3)).toNat : Nat) : Int) ≤ 4194304
      refine ⟨fun h => ?_, ?_⟩ <;> omega
    · show (_ → -1048576 ≤ q3 - yS (numS q3) ∧ q3 - yS (numS q3) ≤ 1048576) ∧ -4194304 ≤ q3 - yS (numS q3) ∧ q3 - yS (numS q3) ≤ 4194304
      refine ⟨fun h => ?_, ?_⟩ <;> omega
  · have eo : oth 3 4 = [0, 1, 2] := rfl
    rw [eo] at hg
    simp only [List.map_cons, List.map_nil, List.cons.injEq, and_true] at hg
    obtain ⟨e1, e2, e3⟩ := hg
    have d1 : g1 = numS q0 := e1.symm.trans (hG 0)
    have d2 : g2 = numS q1 := e2.symm.trans (hG 1)
    have d3 : g3 = numS q2 := e3.symm.trans (hG 2)
    subst d1 d2 d3
    clear e1 e2 e3 hG
    rw [f3] at c0 c1 c2 c3
    have lb := lim q3 (by omega) (by omega)
    obtain ⟨z1, z2, z3, hS, k1, k2, k3, k4⟩ := close_core q3 q0 q1 q2 c0 c1 c2 (by omega) (by omega)
    have hT := unT_ok (o := 3) z1 z2 z3 hS
    refine ⟨yS (numS q0), yS (numS q1), yS (numS q2), ((sqrtS (1152921504606846976 - sq3 (numS q0) (numS q1) (numS q2)).toNat : Nat) : Int), hT, ⟨⟨by omega, by omega⟩, ⟨by omega, by omega⟩, ⟨by omega, by omega⟩, ⟨by omega, by omega⟩⟩, fun k hk => ?_⟩
    obtain rfl | rfl | rfl | rfl : k = 0 ∨ k = 1 ∨ k = 2 ∨ k = 3 := by omega
    · show (_ → -1048576 ≤ q0 - yS (numS q0) ∧ q0 - yS (numS q0) ≤ 1048576) ∧ -4194304 ≤ q0 - yS (numS q0) ∧ q0 - yS (numS q0) ≤ 4194304
      refine ⟨fun h => ?_, ?_⟩ <;> omega
    · show (_ → -1048576 ≤ q1 - yS (numS q1) ∧ q1 - yS (numS q1) ≤ 1048576) ∧ -4194304 ≤ q1 - yS (numS q1) ∧ q1 - yS (numS q1) ≤ 4194304
      refine ⟨fun h => ?_, ?_⟩ <;> omega
    · show (_ → -1048576 ≤ q2 - yS (numS q2) ∧ q2 - yS (numS q2) ≤ 1048576) ∧ -4194304 ≤ q2 - yS (numS q2) ∧ q2 - yS (numS q2) ≤ 4194304
      refine ⟨fun h => ?_, ?_⟩ <;> omega
    · show (_ → -1048576 ≤ q3 - ((sqrtS (1152921504606846976 - sq3 (numS q0) (numS q1) (numS q2)).toNat : Nat) : Int) ∧ q3 - ((sqrtS (1152921504606846976 - sq3 (numS q0) (numS q1) (numS q2)).toNat : Nat) : Int) ≤ 1048576) ∧ -4194304 ≤ q3 - ((sqrtS (1152921504606846976 - sq3 (numS q0) (numS q1) (numS q2)).toNat : Nat) : Int) ∧ q3 - ((sqrtS (1152921504606846976 - sq3 (numS q0) (numS q1) (numS q2)).toNat : Nat) : Int) ≤ 4194304
      refine ⟨fun h => ?_, ?_⟩ <;> omega

theorem join4 (a b c d : Int) (ha : 0 ≤ a ∧ a < 4) (hb : 0 ≤ b ∧ b < 1024) (hc : 0 ≤ c ∧ c < 1024) (hd : 0 ≤ d ∧ d < 1024) (hJ : joinOk [2, 10, 10, 10] [a, b, c, d] = true) :
    ((joinV [2, 10, 10, 10] [a, b, c, d] : Nat) : Int) = ((a * 1024 + b) * 1024 + c) * 1024 + d := by
  have hP : joinP [2, 10, 10, 10] [a, b, c, d] := of_decide_eq_true hJ
  rw [(join_yes hP).1]
  have e : joinR [2, 10, 10, 10] [a, b, c, d] 4 = (((0 * 2 ^ 2 + a.toNat) * 2 ^ 10 + b.toNat) * 2 ^ 10 + c.toNat) * 2 ^ 10 + d.toNat := rfl
  have e2 : joinR [2, 10, 10, 10] [a, b, c, d] [2, 10, 10, 10].length = joinR [2, 10, 10, 10] [a, b, c, d] 4 := rfl
  rw [show ([(2 : Int), 10, 10, 10] : List Int).length = 4 from rfl]
  rw [e]
  omega
theorem pa_of (J : Nat) (a b c d : Int) (ha : 0 ≤ a ∧ a < 4) (hb : 0 ≤ b ∧ b < 1024) (hc : 0 ≤ c ∧ c < 1024) (hd : 0 ≤ d ∧ d < 1024) (h : (J : Int) = ((a * 1024 + b) * 1024 + c) * 1024 + d) :
    pa J 0 = a ∧ pa J 1 = b ∧ pa J 2 = c ∧ pa J 3 = d := by
  have e0 : pa J 0 = ((J / 2 ^ 30 % 2 ^ 2 : Nat) : Int) := rfl
  have e1 : pa J 1 = ((J / 2 ^ 20 % 2 ^ 10 : Nat) : Int) := rfl
  have e2 : pa J 2 = ((J / 2 ^ 10 % 2 ^ 10 : Nat) : Int) := rfl
  have e3 : pa J 3 = ((J / 2 ^ 0 % 2 ^ 10 : Nat) : Int) := rfl
  rw [e0, e1, e2, e3]
  omega

theorem close_all (x y z t : Int) (p0 : B32 x) (p1 : B32 y) (p2 : B32 z) (p3 : B32 t) (hI : isU x y z t = true) :
    ((joinV [2, 10, 10, 10] (packL x y z t) : Nat) : Int) / 1073741824 = (best4 x y z t : Nat) ∧ ∃ b0 b1 b2 b3 : Int, unpackT (joinV [2, 10, 10, 10] (packL x y z t)) = .tuple #[.agg #[.int .i32 b0, .int .i32 b1, .int .i32 b2, .int .i32 b3], .bool true] ∧ (B32 b0 ∧ B32 b1 ∧ B32 b2 ∧ B32 b3) ∧
      (∀ k, k < 4 → (k ≠ best4 x y z t → -1048576 ≤ sg4 x y z t * sel4 k x y z t - sel4 k b0 b1 b2 b3 ∧ sg4 x y z t * sel4 k x y z t - sel4 k b0 b1 b2 b3 ≤ 1048576) ∧ -4194304 ≤ sg4 x y z t * sel4 k x y z t - sel4 k b0 b1 b2 b3 ∧ sg4 x y z t * sel4 k x y z t - sel4 k b0 b1 b2 b3 ≤ 4194304) ∧
      (∀ k, k < 4 → -1073742400 ≤ sel4 k x y z t ∧ sel4 k x y z t ≤ 1073742400) := by
  obtain ⟨hN1, hN2⟩ := of_isU x y z t p0 p1 p2 p3 hI
  have ho := best4_lt x y z t
  have hmax : ∀ k, k < 4 → absI (sel4 k x y z t) ≤ absI (sel4 (best4 x y z t) x y z t) := fun k hk => bst_max (far4S x y z t) 3 k (by omega)
  have hfit := pack_fits x y z t
  have hl := oth_all _ ho
  have hL : packL x y z t = (best4 x y z t : Int) :: (oth (best4 x y z t) 4).map (packG x y z t) := rfl
  have hGb : ∀ i : Fin 4, 0 ≤ packG x y z t i ∧ packG x y z t i < 1024 := fun i => by
    have := numC_b (overS (511 * (sg4 x y z t * sel4 i.val x y z t)) 759250125); unfold packG numS; omega
  have hsg : (sg4 x y z t = -1 ∧ sel4 (best4 x y z t) x y z t < 0) ∨ (sg4 x y z t = 1 ∧ ¬ sel4 (best4 x y z t) x y z t < 0) := by
    unfold sg4; split
    · rename_i h; exact .inl ⟨rfl, h⟩
    · rename_i h; exact .inr ⟨rfl, h⟩
  have hPG : ∀ i : Fin 4, packG x y z t i = numS (sg4 x y z t * sel4 i.val x y z t) := fun i => rfl
  have lim : ∀ a : Int, a * a ≤ 1152921504606846976 + 1099511627776 → -1073742400 ≤ a ∧ a ≤ 1073742400 := fun a k1 => by
    constructor
    · rcases Int.lt_or_le a (-1073742400) with k | k
      · have := sq_mono (a := 1073742400) (b := -a) (by omega) (by omega); have e : -a * -a = a * a := by grind
        omega
      · exact k
    · rcases Int.lt_or_le 1073742400 a with k | k
      · have := sq_mono (a := 1073742400) (b := a) (by omega) (by omega); omega
      · exact k
  have n0 := sq_0 x
  have n1 := sq_0 y
  have n2 := sq_0 z
  have n3 := sq_0 t
  have hbig : ∀ k, k < 4 → -1073742400 ≤ sel4 k x y z t ∧ sel4 k x y z t ≤ 1073742400 := fun k hk => by
    obtain rfl | rfl | rfl | rfl : k = 0 ∨ k = 1 ∨ k = 2 ∨ k = 3 := by omega
    · exact lim x (by omega)
    · exact lim y (by omega)
    · exact lim z (by omega)
    · exact lim t (by omega)
  generalize best4 x y z t = o at *
  generalize sg4 x y z t = sg at *
  generalize packG x y z t = G at *
  generalize packL x y z t = L at *
  have hgl : ((oth o 4).map G).length = 3 := by rw [List.length_map, hl]
  have hgm : ∀ n ∈ (oth o 4).map G, 0 ≤ n ∧ n < 1024 := fun n hn => by obtain ⟨i, _, rfl⟩ := List.mem_map.1 hn; exact hGb i
  obtain ⟨g1, g2, g3, hg⟩ : ∃ g1 g2 g3, (oth o 4).map G = [g1, g2, g3] := by
    generalize (oth o 4).map G = l at hgl
    match l, hgl with
    | [a, b, c], _ => exact ⟨a, b, c, rfl⟩
  rw [hg] at hL hgm
  subst hL
  have m1 := hgm g1 (by simp)
  have m2 := hgm g2 (by simp)
  have m3 := hgm g3 (by simp)
  have hj := join4 (o : Int) g1 g2 g3 ⟨by omega, by omega⟩ m1 m2 m3 hfit
  generalize joinV [2, 10, 10, 10] [(o : Int), g1, g2, g3] = J at *
  obtain ⟨q0, q1, q2, q3⟩ := pa_of J o g1 g2 g3 ⟨by omega, by omega⟩ m1 m2 m3 hj
  refine ⟨by omega, ?_⟩
  unfold unpackT
  rw [q0, q1, q2, q3, Int.toNat_natCast]
  have hs4 : ∀ k, sel4 k (sg * x) (sg * y) (sg * z) (sg * t) = sg * sel4 k x y z t := fun k => sel4_map (fun n => sg * n) k x y z t
  have hsq : ∀ v : Int, (sg * v) * (sg * v) = v * v := fun v => by
    rcases hsg with ⟨h, _⟩ | ⟨h, _⟩
    · rw [h]; grind
    · rw [h]; grind
  obtain ⟨b0, b1, b2, b3, hU, hB, hk⟩ := close_letters o ho (sg * x) (sg * y) (sg * z) (sg * t) (fun k hk => by
    rw [hs4 k, hs4 o]
    have h1 := hmax k hk
    rcases hsg with ⟨h, h2⟩ | ⟨h, h2⟩
    · rw [h]
      have e : absI (sel4 o x y z t) = -sel4 o x y z t := if_pos h2
      rw [e] at h1
      unfold absI at h1; split at h1 <;> omega
    · rw [h]
      have e : absI (sel4 o x y z t) = sel4 o x y z t := if_neg h2
      rw [e] at h1
      unfold absI at h1; split at h1 <;> omega) (by rw [hsq x, hsq y, hsq z, hsq t]; omega) (by rw [hsq x, hsq y, hsq z, hsq t]; omega) G (fun i => by rw [hPG i, hs4]) g1 g2 g3 hg
  refine ⟨b0, b1, b2, b3, hU, hB, fun k hk2 => ?_, hbig⟩
  have := hk k hk2
  rw [hs4 k] at this
  exact this

theorem within_any (a b d : Int) (w : World) (h1 : B32 a) (h2 : B32 b) (h3 : 0 ≤ d) (h4 : d ≤ 1099511627776) :
    Calls Try.prog 13 #[.int .i32 a, .int .i32 b, .int .i64 d] w fun e w' => e = .returned (.bool (decide (-d ≤ a - b ∧ a - b ≤ d))) ∧ w' = w := by
  obtain ⟨a1, a2⟩ := h1
  obtain ⟨b1, b2⟩ := h2
  have w1 : IntKind.i64.wrap a = a := by rw [IntKind.wrap_i64]; omega
  have w2 : IntKind.i64.wrap b = b := by rw [IntKind.wrap_i64]; omega
  have w3 : IntKind.i64.wrap (a - b) = a - b := by rw [IntKind.wrap_i64]; omega
  have w4 : IntKind.i64.wrap (-d) = -d := by rw [IntKind.wrap_i64]; omega
  have hd : Go.RowKit.Hid (decide (-d ≤ a - b ∧ a - b ≤ d) = decide (-d ≤ a - b ∧ a - b ≤ d)) := hid rfl
  generalize hm : a - b = m at *
  by_cases c1 : m ≤ d
  · by_cases c2 : -d ≤ m
    · have e := hid (show decide (-d ≤ m ∧ m ≤ d) = true from decide_eq_true ⟨c2, c1⟩)
      clear hd
      go_enter Try.func13, Try.ntmps13
      go_wp2_with omega
      go_ret
      exact ⟨ret_bool (by rw [e.out]), rfl⟩
    · have e := hid (show decide (-d ≤ m ∧ m ≤ d) = false from decide_eq_false fun h => c2 h.1)
      clear hd
      go_enter Try.func13, Try.ntmps13
      go_wp2_with omega
      go_ret
      exact ⟨ret_bool (by simp; omega), rfl⟩
  · have e := hid (show decide (-d ≤ m ∧ m ≤ d) = false from decide_eq_false fun h => c1 h.2)
    clear hd
    go_enter Try.func13, Try.ntmps13
    go_wp2_with omega
    go_ret
    exact ⟨ret_bool (by simp; omega), rfl⟩

set_option maxRecDepth 100000 in
set_option maxHeartbeats 8000000 in
theorem law_SmallClose (a0_0 a0_1 a0_2 a0_3 : Int) (W : World) (w0_0 : (Lit.int .i32 a0_0).wf = true) (w0_1 : (Lit.int .i32 a0_1).wf = true) (w0_2 : (Lit.int .i32 a0_2).wf = true) (w0_3 : (Lit.int .i32 a0_3).wf = true) :
    Calls Try.prog 5 #[.agg #[.int .i32 a0_0, .int .i32 a0_1, .int .i32 a0_2, .int .i32 a0_3]] W fun e w' => e = .returned (.bool true) ∧ Below W.heap.size W w' := by
  have p0 := b32_of w0_0
  have p1 := b32_of w0_1
  have p2 := b32_of w0_2
  have p3 := b32_of w0_3
  have k2 := hid (fun (v : World) => risu_any a0_0 a0_1 a0_2 a0_3 v p0 p1 p2 p3)
  by_cases hI : isU a0_0 a0_1 a0_2 a0_3 = true
  case neg =>
    have hI := Bool.not_eq_true _ ▸ hI
    have hT := packT_no hI
    have k1 := hid (fun (v : World) => hT ▸ pack_any a0_0 a0_1 a0_2 a0_3 v p0 p1 p2 p3)
    unfold isU at hI
    rw [hI] at k2
    clear hT hI p0 p1 p2 p3 w0_0 w0_1 w0_2 w0_3
    go_enter Try.func5, Try.ntmps5
    go_upto_region 0 with (fail)
    apply wp_region_seg0 (w := W) (S := [.al 1000, .q []]) (E := [.al ((fun p => .pointer (some ⟨p, 0, none⟩)), _) 1000, .q0 _]) rfl (by kernel_rfl) rfl rfl
    intro th hge hne
    refine Seg.step _ rfl ⟨by rfl, fun U hU => ?_⟩ ?_
    · go_simp; exact vp_alloc rfl rfl rfl
    refine ⟨_, by (simp only [Ent.val]; go_simp <;> exact rfl), ?_⟩
    refine Seg.step _ rfl (Or.inl ⟨by rfl, fun U hU => vp_quiet (by (go_simp <;> exact rfl))⟩) ⟨_, by (simp only [Ent.val]; go_simp <;> exact rfl), ?_⟩
    refine Seg.stop (fun U1 hU hk => ?_)
    have nb0 := hge 0 _ _ rfl
    have rb0 := (hk 0 _ _ rfl trivial).1.2 (by simp)
    clear hk hge hne
    generalize th (0 + 0) = p0_0 at *
    dsimp only at rb0
    have r_p0_0 := rb0
    clear rb0
    have n_p0_0 := nb0
    clear nb0
    have sz1 := hU.size
    have hB : Below W.heap.size W U1 := hU
    clear hU
    go_upto_region 1 with (fail)
    apply wp_region_seg0 (w := U1) (S := [.q [], .q [], .q [], .q [], .q [], .q [], .q []]) (E := [.q0 _, .c0 _, .q0 _, .q0 _, .q0 _, .q0 _, .q0 _]) rfl (by kernel_rfl) rfl rfl
    intro th hge hne
    refine Seg.step _ rfl (Or.inl ⟨by rfl, fun U hU => vp_quiet (by (have h0 := held_cell (held_after hU.1 r_p0_0) 0 _ rfl; have h1 := held_cell (held_after hU.1 r_p0_0) 1 _ rfl; have h2 := held_cell (held_after hU.1 r_p0_0) 2 _ rfl; have h3 := held_cell (held_after hU.1 r_p0_0) 3 _ rfl; go_simp <;> exact rfl))⟩) ⟨_, by (simp only [Ent.val]; go_simp <;> exact rfl), ?_⟩
    refine Seg.step _ rfl (Or.inl ⟨by rfl, fun U hU => ?_⟩) ?_
    · go_simp
      refine vp_call (k1.out _)
    refine ⟨_, by (simp only [Ent.val]; go_simp <;> exact rfl), ?_⟩
    refine Seg.step _ rfl (Or.inl ⟨by rfl, fun U hU => vp_quiet (by (go_simp <;> exact rfl))⟩) ⟨_, by (simp only [Ent.val]; go_simp <;> exact rfl), ?_⟩
    refine Seg.step _ rfl (Or.inl ⟨by rfl, fun U hU => vp_quiet (by (go_simp <;> exact rfl))⟩) ⟨_, by (simp only [Ent.val]; go_simp <;> exact rfl), ?_⟩
    refine Seg.step _ rfl (Or.inl ⟨by rfl, fun U hU => vp_quiet (by (go_simp <;> exact rfl))⟩) ⟨_, by (simp only [Ent.val]; go_simp <;> exact rfl), ?_⟩
    refine Seg.step _ rfl (Or.inl ⟨by rfl, fun U hU => vp_quiet (by (go_simp <;> exact rfl))⟩) ⟨_, by (simp only [Ent.val]; go_simp <;> exact rfl), ?_⟩
    refine Seg.step _ rfl (Or.inl ⟨by rfl, fun U hU => vp_quiet (by (go_simp <;> exact rfl))⟩) ⟨_, by (simp only [Ent.val]; go_simp <;> exact rfl), ?_⟩
    refine Seg.stop (fun U2 hU hk => ?_)
    clear hk hge hne
    replace r_p0_0 := held_after hU r_p0_0
    have sz2 := hU.size
    replace hB := bthen hB hU
    clear hU
    go_upto_region 2 with (fail)
    apply wp_region_seg0 (w := U2) (S := [.q [], .q [], .q [], .q [], .q [], .q [], .q [], .q [], .q [], .q [], .q []]) (E := [.q0 _, .c0 _, .q0 _, .q0 _, .q0 _, .q0 _, .q0 _, .q0 _, .c0 _, .q0 _, .q0 _]) rfl (by kernel_rfl) rfl rfl
    intro th hge hne
    refine Seg.step _ rfl (Or.inl ⟨by rfl, fun U hU => vp_quiet (by (have h0 := held_cell (held_after hU.1 r_p0_0) 0 _ rfl; have h1 := held_cell (held_after hU.1 r_p0_0) 1 _ rfl; have h2 := held_cell (held_after hU.1 r_p0_0) 2 _ rfl; have h3 := held_cell (held_after hU.1 r_p0_0) 3 _ rfl; go_simp <;> exact rfl))⟩) ⟨_, by (simp only [Ent.val]; go_simp <;> exact rfl), ?_⟩
    refine Seg.step _ rfl (Or.inl ⟨by rfl, fun U hU => ?_⟩) ?_
    · go_simp
      refine vp_call (k2.out _)
    refine ⟨_, by (simp only [Ent.val]; go_simp <;> exact rfl), ?_⟩
    refine Seg.step _ rfl (Or.inl ⟨by rfl, fun U hU => vp_quiet (by (go_simp <;> exact rfl))⟩) ⟨_, by (simp only [Ent.val]; go_simp <;> exact rfl), ?_⟩
    refine Seg.step _ rfl (Or.inl ⟨by rfl, fun U hU => vp_quiet (by (go_simp <;> exact rfl))⟩) ⟨_, by (simp only [Ent.val]; go_simp <;> exact rfl), ?_⟩
    refine Seg.step _ rfl (Or.inr ⟨by rfl, rfl⟩) ⟨_, by (simp only [Ent.val]; go_simp <;> exact rfl), ?_⟩
    refine Seg.step _ rfl (Or.inr ⟨by rfl, rfl⟩) ⟨_, by (simp only [Ent.val]; go_simp <;> exact rfl), ?_⟩
    refine Seg.step _ rfl (Or.inl ⟨by rfl, fun U hU => vp_quiet (by (go_simp <;> exact rfl))⟩) ⟨_, by (simp only [Ent.val]; go_simp <;> exact rfl), ?_⟩
    refine Seg.step _ rfl (Or.inl ⟨by rfl, fun U hU => vp_quiet (by (go_simp <;> exact rfl))⟩) ⟨_, by (simp only [Ent.val]; go_simp <;> exact rfl), ?_⟩
    refine Seg.step _ rfl (Or.inr ⟨by rfl, rfl⟩) ⟨_, by (simp only [Ent.val]; go_simp <;> exact rfl), ?_⟩
    refine Seg.step _ rfl (Or.inr ⟨by rfl, rfl⟩) ⟨_, by (simp only [Ent.val]; go_simp <;> exact rfl), ?_⟩
    refine Seg.step _ rfl (Or.inl ⟨by rfl, fun U hU => vp_quiet (by (go_simp <;> exact rfl))⟩) ⟨_, by (simp only [Ent.val]; go_simp <;> exact rfl), ?_⟩
    refine Seg.stop (fun U3 hU hk => ?_)
    clear hk hge hne
    replace r_p0_0 := held_after hU r_p0_0
    have sz3 := hU.size
    replace hB := bthen hB hU
    clear hU
    go_upto_region 3 with (fail)
    apply wp_region_seg0 (w := U3) (S := [.q [], .q [], .q [], .q [], .q [], .q [], .q [], .q []]) (E := [.q0 _, .q0 _, .c0 _, .q0 _, .q0 _, .c0 _, .q0 _, .q0 _]) rfl (by kernel_rfl) rfl rfl
    intro th hge hne
    refine Seg.step _ rfl (Or.inl ⟨by rfl, fun U hU => vp_quiet (by (go_simp <;> exact rfl))⟩) ⟨_, by (simp only [Ent.val]; go_simp <;> exact rfl), ?_⟩
    refine Seg.step _ rfl (Or.inl ⟨by rfl, fun U hU => vp_quiet (by (have h0 := held_cell (held_after hU.1 r_p0_0) 0 _ rfl; have h1 := held_cell (held_after hU.1 r_p0_0) 1 _ rfl; have h2 := held_cell (held_after hU.1 r_p0_0) 2 _ rfl; have h3 := held_cell (held_after hU.1 r_p0_0) 3 _ rfl; go_simp <;> exact rfl))⟩) ⟨_, by (simp only [Ent.val]; go_simp <;> exact rfl), ?_⟩
    refine Seg.step _ rfl (Or.inl ⟨by rfl, fun U hU => ?_⟩) ?_
    · go_simp
      refine vp_call (k2.out _)
    refine ⟨_, by (simp only [Ent.val]; go_simp <;> exact rfl), ?_⟩
    refine Seg.step _ rfl (Or.inl ⟨by rfl, fun U hU => vp_quiet (by (go_simp <;> exact rfl))⟩) ⟨_, by (simp only [Ent.val]; go_simp <;> exact rfl), ?_⟩
    refine Seg.step _ rfl (Or.inl ⟨by rfl, fun U hU => vp_quiet (by (go_simp <;> exact rfl))⟩) ⟨_, by (simp only [Ent.val]; go_simp <;> exact rfl), ?_⟩
    refine Seg.step _ rfl (Or.inl ⟨by rfl, fun U hU => ?_⟩) ?_
    · go_simp
      refine vp_call (knows12_any _)
    refine ⟨_, by (simp only [Ent.val]; go_simp <;> exact rfl), ?_⟩
    refine Seg.step _ rfl (Or.inl ⟨by rfl, fun U hU => vp_quiet (by (go_simp <;> exact rfl))⟩) ⟨_, by (simp only [Ent.val]; go_simp <;> exact rfl), ?_⟩
    refine Seg.step _ rfl (Or.inl ⟨by rfl, fun U hU => vp_quiet (by (go_simp <;> exact rfl))⟩) ⟨_, by (simp only [Ent.val]; go_simp <;> exact rfl), ?_⟩
    refine Seg.stop (fun U4 hU hk => ?_)
    clear hk hge hne
    replace r_p0_0 := held_after hU r_p0_0
    have sz4 := hU.size
    replace hB := bthen hB hU
    clear hU
    go_wp2_with fail
    go_ret
    exact ⟨rfl, hB⟩
  have hT := packT_yes hI
  obtain ⟨hdiv, b0, b1, b2, b3, hU, ⟨r0, r1, r2, r3⟩, hk4, hbig⟩ := close_all a0_0 a0_1 a0_2 a0_3 p0 p1 p2 p3 hI
  have hJl := joinV_lt [2, 10, 10, 10] (packL a0_0 a0_1 a0_2 a0_3)
  have k1 := hid (fun (v : World) => hT ▸ pack_any a0_0 a0_1 a0_2 a0_3 v p0 p1 p2 p3)
  have k3 := hid (fun (v : World) => hU ▸ unpack_any (joinV [2, 10, 10, 10] (packL a0_0 a0_1 a0_2 a0_3)) v hJl)
  unfold isU at hI
  rw [hI] at k2
  have ho := best4_lt a0_0 a0_1 a0_2 a0_3
  have hs : Go.RowKit.Hid (sg4 a0_0 a0_1 a0_2 a0_3 = if sel4 (best4 a0_0 a0_1 a0_2 a0_3) a0_0 a0_1 a0_2 a0_3 < 0 then -1 else 1) := hid rfl
  clear hT hU hI
  generalize joinV [2, 10, 10, 10] (packL a0_0 a0_1 a0_2 a0_3) = J at *
  generalize best4 a0_0 a0_1 a0_2 a0_3 = o at *
  generalize sg4 a0_0 a0_1 a0_2 a0_3 = sg at *
  have hbb := hid (fun k => sel4_b k r0 r1 r2 r3)
  clear w0_0 w0_1 w0_2 w0_3 p0 p1 p2 p3 r0 r1 r2 r3
  have hdt : Int.tdiv (J : Int) 1073741824 = o := by rw [Int.tdiv_eq_ediv_of_nonneg (by omega)]; exact hdiv
  have hwo : IntKind.u32.wrap (o : Int) = o := by simp [IntKind.wrap, IntKind.bits, IntKind.signed]; omega
  have hwi : IntKind.i64.wrap (o : Int) = o := by rw [IntKind.wrap_i64]; omega
  replace hk4 := hid hk4
  replace hbig := hid hbig
  go_enter Try.func5, Try.ntmps5
  go_upto_region 0 with (fail)
  apply wp_region_seg0 (w := W) (S := [.al 1000, .q []]) (E := [.al ((fun p => .pointer (some ⟨p, 0, none⟩)), _) 1000, .q0 _]) rfl (by kernel_rfl) rfl rfl
  intro th hge hne
  refine Seg.step _ rfl ⟨by rfl, fun U hU => ?_⟩ ?_
  · go_simp; exact vp_alloc rfl rfl rfl
  refine ⟨_, by (simp only [Ent.val]; go_simp <;> exact rfl), ?_⟩
  refine Seg.step _ rfl (Or.inl ⟨by rfl, fun U hU => vp_quiet (by (go_simp <;> exact rfl))⟩) ⟨_, by (simp only [Ent.val]; go_simp <;> exact rfl), ?_⟩
  refine Seg.stop (fun U1 hU hk => ?_)
  have nb0 := hge 0 _ _ rfl
  have rb0 := (hk 0 _ _ rfl trivial).1.2 (by simp)
  clear hk hge hne
  generalize th (0 + 0) = p0_0 at *
  dsimp only at rb0
  have r_p0_0 := rb0
  clear rb0
  have n_p0_0 := nb0
  clear nb0
  have sz1 := hU.size
  have hB : Below W.heap.size W U1 := hU
  clear hU
  go_upto_region 1 with (fail)
  apply wp_region_seg0 (w := U1) (S := [.q [], .q [], .q [], .q [], .q [], .q [], .q []]) (E := [.q0 _, .c0 _, .q0 _, .q0 _, .q0 _, .q0 _, .q0 _]) rfl (by kernel_rfl) rfl rfl
  intro th hge hne
  refine Seg.step _ rfl (Or.inl ⟨by rfl, fun U hU => vp_quiet (by (have h0 := held_cell (held_after hU.1 r_p0_0) 0 _ rfl; have h1 := held_cell (held_after hU.1 r_p0_0) 1 _ rfl; have h2 := held_cell (held_after hU.1 r_p0_0) 2 _ rfl; have h3 := held_cell (held_after hU.1 r_p0_0) 3 _ rfl; go_simp <;> exact rfl))⟩) ⟨_, by (simp only [Ent.val]; go_simp <;> exact rfl), ?_⟩
  refine Seg.step _ rfl (Or.inl ⟨by rfl, fun U hU => ?_⟩) ?_
  · go_simp
    refine vp_call (k1.out _)
  refine ⟨_, by (simp only [Ent.val]; go_simp <;> exact rfl), ?_⟩
  refine Seg.step _ rfl (Or.inl ⟨by rfl, fun U hU => vp_quiet (by (go_simp <;> exact rfl))⟩) ⟨_, by (simp only [Ent.val]; go_simp <;> exact rfl), ?_⟩
  refine Seg.step _ rfl (Or.inl ⟨by rfl, fun U hU => vp_quiet (by (go_simp <;> exact rfl))⟩) ⟨_, by (simp only [Ent.val]; go_simp <;> exact rfl), ?_⟩
  refine Seg.step _ rfl (Or.inl ⟨by rfl, fun U hU => vp_quiet (by (go_simp <;> exact rfl))⟩) ⟨_, by (simp only [Ent.val]; go_simp <;> exact rfl), ?_⟩
  refine Seg.step _ rfl (Or.inl ⟨by rfl, fun U hU => vp_quiet (by (go_simp <;> exact rfl))⟩) ⟨_, by (simp only [Ent.val]; go_simp <;> exact rfl), ?_⟩
  refine Seg.step _ rfl (Or.inl ⟨by rfl, fun U hU => vp_quiet (by (go_simp <;> exact rfl))⟩) ⟨_, by (simp only [Ent.val]; go_simp <;> exact rfl), ?_⟩
  refine Seg.stop (fun U2 hU hk => ?_)
  clear hk hge hne
  replace r_p0_0 := held_after hU r_p0_0
  have sz2 := hU.size
  replace hB := bthen hB hU
  clear hU
  go_upto_region 2 with (fail)
  apply wp_region_seg0 (w := U2) (S := [.q [], .q [], .q [], .q [], .q [], .q [], .q [], .q [], .q [], .q [], .q []]) (E := [.q0 _, .c0 _, .q0 _, .q0 _, .q0 _, .q0 _, .q0 _, .q0 _, .c0 _, .q0 _, .q0 _]) rfl (by kernel_rfl) rfl rfl
  intro th hge hne
  refine Seg.step _ rfl (Or.inl ⟨by rfl, fun U hU => vp_quiet (by (have h0 := held_cell (held_after hU.1 r_p0_0) 0 _ rfl; have h1 := held_cell (held_after hU.1 r_p0_0) 1 _ rfl; have h2 := held_cell (held_after hU.1 r_p0_0) 2 _ rfl; have h3 := held_cell (held_after hU.1 r_p0_0) 3 _ rfl; go_simp <;> exact rfl))⟩) ⟨_, by (simp only [Ent.val]; go_simp <;> exact rfl), ?_⟩
  refine Seg.step _ rfl (Or.inl ⟨by rfl, fun U hU => ?_⟩) ?_
  · go_simp
    refine vp_call (k2.out _)
  refine ⟨_, by (simp only [Ent.val]; go_simp <;> exact rfl), ?_⟩
  refine Seg.step _ rfl (Or.inl ⟨by rfl, fun U hU => vp_quiet (by (go_simp <;> exact rfl))⟩) ⟨_, by (simp only [Ent.val]; go_simp <;> exact rfl), ?_⟩
  refine Seg.step _ rfl (Or.inl ⟨by rfl, fun U hU => vp_quiet (by (go_simp <;> exact rfl))⟩) ⟨_, by (simp only [Ent.val]; go_simp <;> exact rfl), ?_⟩
  refine Seg.step _ rfl (Or.inl ⟨by rfl, fun U hU => vp_quiet (by (go_simp <;> exact rfl))⟩) ⟨_, by (simp only [Ent.val]; go_simp <;> exact rfl), ?_⟩
  refine Seg.step _ rfl (Or.inl ⟨by rfl, fun U hU => vp_quiet (by (go_simp <;> exact rfl))⟩) ⟨_, by (simp only [Ent.val]; go_simp <;> exact rfl), ?_⟩
  refine Seg.step _ rfl (Or.inl ⟨by rfl, fun U hU => vp_quiet (by (go_simp <;> exact rfl))⟩) ⟨_, by (simp only [Ent.val]; go_simp <;> exact rfl), ?_⟩
  refine Seg.step _ rfl (Or.inl ⟨by rfl, fun U hU => vp_quiet (by (go_simp <;> exact rfl))⟩) ⟨_, by (simp only [Ent.val]; go_simp <;> exact rfl), ?_⟩
  refine Seg.step _ rfl (Or.inl ⟨by rfl, fun U hU => ?_⟩) ?_
  · go_simp
    refine vp_call (knows12_any _)
  refine ⟨_, by (simp only [Ent.val]; go_simp <;> exact rfl), ?_⟩
  refine Seg.step _ rfl (Or.inl ⟨by rfl, fun U hU => vp_quiet (by (go_simp <;> exact rfl))⟩) ⟨_, by (simp only [Ent.val]; go_simp <;> exact rfl), ?_⟩
  refine Seg.step _ rfl (Or.inl ⟨by rfl, fun U hU => vp_quiet (by (go_simp <;> exact rfl))⟩) ⟨_, by (simp only [Ent.val]; go_simp <;> exact rfl), ?_⟩
  refine Seg.stop (fun U3 hU hk => ?_)
  clear hk hge hne
  replace r_p0_0 := held_after hU r_p0_0
  have sz3 := hU.size
  replace hB := bthen hB hU
  clear hU
  go_upto_region 4 with (fail)
  apply wp_region_seg0 (w := U3) (S := [.q [], .q [], .q [], .q [], .q [], .al 6, .st 5 [], .q []]) (E := [.q0 _, .c0 _, .q0 _, .q0 _, .q0 _, .al ((fun p => .pointer (some ⟨p, 0, none⟩)), _) 6, .s0 5 (.cells _ _), .q0 _]) rfl (by kernel_rfl) rfl rfl
  intro th hge hne
  refine Seg.step _ rfl (Or.inl ⟨by rfl, fun U hU => vp_quiet (by (go_simp <;> exact rfl))⟩) ⟨_, by (simp only [Ent.val]; go_simp <;> exact rfl), ?_⟩
  refine Seg.step _ rfl (Or.inl ⟨by rfl, fun U hU => ?_⟩) ?_
  · go_simp
    refine vp_call (k3.out _)
  refine ⟨_, by (simp only [Ent.val]; go_simp <;> exact rfl), ?_⟩
  refine Seg.step _ rfl (Or.inl ⟨by rfl, fun U hU => vp_quiet (by (go_simp <;> exact rfl))⟩) ⟨_, by (simp only [Ent.val]; go_simp <;> exact rfl), ?_⟩
  refine Seg.step _ rfl (Or.inl ⟨by rfl, fun U hU => vp_quiet (by (go_simp <;> exact rfl))⟩) ⟨_, by (simp only [Ent.val]; go_simp <;> exact rfl), ?_⟩
  refine Seg.step _ rfl (Or.inl ⟨by rfl, fun U hU => vp_quiet (by (go_simp <;> exact rfl))⟩) ⟨_, by (simp only [Ent.val]; go_simp <;> exact rfl), ?_⟩
  refine Seg.step _ rfl ⟨by rfl, fun U hU => ?_⟩ ?_
  · go_simp; exact vp_alloc rfl rfl rfl
  refine ⟨_, by (simp only [Ent.val]; go_simp <;> exact rfl), ?_⟩
  refine Seg.step _ rfl ⟨by rfl, fun U z k hz hU hc => ?_⟩ ?_
  · have hz2 := Option.some.inj hz
    cases hz2; clear hz
    exact vp_store_agg _ _ _ rfl hc rfl rfl (by kernel_rfl) rfl (by rfl)
  refine ⟨_, by (simp only [Ent.val]; go_simp <;> exact rfl), ?_⟩
  refine Seg.step _ rfl (Or.inl ⟨by rfl, fun U hU => vp_quiet (by (go_simp <;> exact rfl))⟩) ⟨_, by (simp only [Ent.val]; go_simp <;> exact rfl), ?_⟩
  refine Seg.stop (fun U4 hU hk => ?_)
  have nb5 := hge 5 _ _ rfl
  have rb5 := (hk 5 _ 6 rfl trivial).1.1 trivial _ (Nat.zero_le _) rfl
  clear hk hge hne
  generalize th (0 + 5) = p4_5 at *
  simp only [Ent.obj] at rb5
  replace r_p0_0 := held_after hU r_p0_0
  have r_p4_5 := rb5
  clear rb5
  have n_p4_5 := nb5
  clear nb5
  have sz4 := hU.size
  replace hB := bthen hB hU
  clear hU
  go_upto_region 7 with (fail)
  apply wp_region_seg0 (w := U4) (S := [.q [], .q [], .q [], .q []]) (E := [.q0 _, .q0 _, .q0 _, .q0 _]) rfl (by kernel_rfl) rfl rfl
  intro th hge hne
  refine Seg.step _ rfl (Or.inl ⟨by rfl, fun U hU => vp_quiet (by (go_simp <;> exact rfl))⟩) ⟨_, by (simp only [Ent.val]; go_simp <;> exact rfl), ?_⟩
  refine Seg.step _ rfl (Or.inl ⟨by rfl, fun U hU => vp_quiet (by (go_simp <;> exact rfl))⟩) ⟨_, by (simp only [Ent.val]; go_simp <;> exact rfl), ?_⟩
  refine Seg.step _ rfl (Or.inl ⟨by rfl, fun U hU => vp_quiet (by (go_simp <;> exact rfl))⟩) ⟨_, by (simp only [Ent.val]; go_simp <;> exact rfl), ?_⟩
  refine Seg.step _ rfl (Or.inl ⟨by rfl, fun U hU => vp_quiet (by (go_simp <;> exact rfl))⟩) ⟨_, by (simp only [Ent.val]; go_simp <;> exact rfl), ?_⟩
  refine Seg.stop (fun U5 hU hk => ?_)
  clear hk hge hne
  replace r_p0_0 := held_after hU r_p0_0
  replace r_p4_5 := held_after hU r_p4_5
  have sz5 := hU.size
  replace hB := bthen hB hU
  clear hU
  go_upto_region 8 with (fail)
  apply wp_region_seg0 (w := U5) (S := [.q [], .q [], .q [], .q [], .q [], .q [], .q [], .q [], .q [], .al 10, .st 9 []]) (E := [.q0 _, .q0 _, .q0 _, .q0 _, .q0 _, .q0 _, .q0 _, .q0 _, .q0 _, .al ((fun p => .pointer (some ⟨p, 0, none⟩)), _) 10, .s0 9 (.cells _ _)]) rfl (by kernel_rfl) rfl rfl
  intro th hge hne
  refine Seg.step _ rfl (Or.inl ⟨by rfl, fun U hU => vp_quiet (by (go_simp <;> exact rfl))⟩) ⟨_, by (simp only [Ent.val]; go_simp <;> exact rfl), ?_⟩
  refine Seg.step _ rfl (Or.inl ⟨by rfl, fun U hU => vp_quiet (by (have h0 := held_cell (held_after hU.1 r_p0_0) 0 _ rfl; go_simp <;> exact rfl))⟩) ⟨_, by (simp only [Ent.val]; go_simp <;> exact rfl), ?_⟩
  refine Seg.step _ rfl (Or.inl ⟨by rfl, fun U hU => vp_quiet (by (go_simp <;> exact rfl))⟩) ⟨_, by (simp only [Ent.val]; go_simp <;> exact rfl), ?_⟩
  refine Seg.step _ rfl (Or.inl ⟨by rfl, fun U hU => vp_quiet (by (have h0 := held_cell (held_after hU.1 r_p0_0) 1 _ rfl; go_simp <;> exact rfl))⟩) ⟨_, by (simp only [Ent.val]; go_simp <;> exact rfl), ?_⟩
  refine Seg.step _ rfl (Or.inl ⟨by rfl, fun U hU => vp_quiet (by (go_simp <;> exact rfl))⟩) ⟨_, by (simp only [Ent.val]; go_simp <;> exact rfl), ?_⟩
  refine Seg.step _ rfl (Or.inl ⟨by rfl, fun U hU => vp_quiet (by (have h0 := held_cell (held_after hU.1 r_p0_0) 2 _ rfl; go_simp <;> exact rfl))⟩) ⟨_, by (simp only [Ent.val]; go_simp <;> exact rfl), ?_⟩
  refine Seg.step _ rfl (Or.inl ⟨by rfl, fun U hU => vp_quiet (by (go_simp <;> exact rfl))⟩) ⟨_, by (simp only [Ent.val]; go_simp <;> exact rfl), ?_⟩
  refine Seg.step _ rfl (Or.inl ⟨by rfl, fun U hU => vp_quiet (by (have h0 := held_cell (held_after hU.1 r_p0_0) 3 _ rfl; go_simp <;> exact rfl))⟩) ⟨_, by (simp only [Ent.val]; go_simp <;> exact rfl), ?_⟩
  refine Seg.step _ rfl (Or.inl ⟨by rfl, fun U hU => vp_quiet (by (go_simp <;> exact rfl))⟩) ⟨_, by (simp only [Ent.val]; go_simp <;> exact rfl), ?_⟩
  refine Seg.step _ rfl ⟨by rfl, fun U hU => ?_⟩ ?_
  · go_simp; exact vp_alloc rfl rfl rfl
  refine ⟨_, by (simp only [Ent.val]; go_simp <;> exact rfl), ?_⟩
  refine Seg.step _ rfl ⟨by rfl, fun U z k hz hU hc => ?_⟩ ?_
  · have hz2 := Option.some.inj hz
    cases hz2; clear hz
    exact vp_store_agg _ _ _ rfl hc rfl rfl (by kernel_rfl) rfl (by rfl)
  refine ⟨_, by (simp only [Ent.val]; go_simp <;> exact rfl), ?_⟩
  refine Seg.stop (fun U6 hU hk => ?_)
  have nb9 := hge 9 _ _ rfl
  have rb9 := (hk 9 _ 10 rfl trivial).1.1 trivial _ (Nat.zero_le _) rfl
  clear hk hge hne
  generalize th (0 + 9) = p8_9 at *
  simp only [Ent.obj] at rb9
  replace r_p0_0 := held_after hU r_p0_0
  replace r_p4_5 := held_after hU r_p4_5
  have r_p8_9 := rb9
  clear rb9
  have n_p8_9 := nb9
  clear nb9
  have sz6 := hU.size
  replace hB := bthen hB hU
  clear hU
  go_upto_region 9 with (fail)
  apply wp_region_seg0 (w := U6) (S := [.q [], .q [], .q [], .q [], .q [], .q [], .q [], .q [], .q [], .al 10, .st 9 []]) (E := [.q0 _, .q0 _, .q0 _, .q0 _, .q0 _, .q0 _, .q0 _, .q0 _, .q0 _, .al ((fun p => .pointer (some ⟨p, 0, none⟩)), _) 10, .s0 9 (.cells _ _)]) rfl (by kernel_rfl) rfl rfl
  intro th hge hne
  refine Seg.step _ rfl (Or.inl ⟨by rfl, fun U hU => vp_quiet (by (go_simp <;> exact rfl))⟩) ⟨_, by (simp only [Ent.val]; go_simp <;> exact rfl), ?_⟩
  refine Seg.step _ rfl (Or.inl ⟨by rfl, fun U hU => vp_quiet (by (have h0 := held_cell (held_after hU.1 r_p4_5) 0 _ rfl; go_simp <;> exact rfl))⟩) ⟨_, by (simp only [Ent.val]; go_simp <;> exact rfl), ?_⟩
  refine Seg.step _ rfl (Or.inl ⟨by rfl, fun U hU => vp_quiet (by (go_simp <;> exact rfl))⟩) ⟨_, by (simp only [Ent.val]; go_simp <;> exact rfl), ?_⟩
  refine Seg.step _ rfl (Or.inl ⟨by rfl, fun U hU => vp_quiet (by (have h0 := held_cell (held_after hU.1 r_p4_5) 1 _ rfl; go_simp <;> exact rfl))⟩) ⟨_, by (simp only [Ent.val]; go_simp <;> exact rfl), ?_⟩
  refine Seg.step _ rfl (Or.inl ⟨by rfl, fun U hU => vp_quiet (by (go_simp <;> exact rfl))⟩) ⟨_, by (simp only [Ent.val]; go_simp <;> exact rfl), ?_⟩
  refine Seg.step _ rfl (Or.inl ⟨by rfl, fun U hU => vp_quiet (by (have h0 := held_cell (held_after hU.1 r_p4_5) 2 _ rfl; go_simp <;> exact rfl))⟩) ⟨_, by (simp only [Ent.val]; go_simp <;> exact rfl), ?_⟩
  refine Seg.step _ rfl (Or.inl ⟨by rfl, fun U hU => vp_quiet (by (go_simp <;> exact rfl))⟩) ⟨_, by (simp only [Ent.val]; go_simp <;> exact rfl), ?_⟩
  refine Seg.step _ rfl (Or.inl ⟨by rfl, fun U hU => vp_quiet (by (have h0 := held_cell (held_after hU.1 r_p4_5) 3 _ rfl; go_simp <;> exact rfl))⟩) ⟨_, by (simp only [Ent.val]; go_simp <;> exact rfl), ?_⟩
  refine Seg.step _ rfl (Or.inl ⟨by rfl, fun U hU => vp_quiet (by (go_simp <;> exact rfl))⟩) ⟨_, by (simp only [Ent.val]; go_simp <;> exact rfl), ?_⟩
  refine Seg.step _ rfl ⟨by rfl, fun U hU => ?_⟩ ?_
  · go_simp; exact vp_alloc rfl rfl rfl
  refine ⟨_, by (simp only [Ent.val]; go_simp <;> exact rfl), ?_⟩
  refine Seg.step _ rfl ⟨by rfl, fun U z k hz hU hc => ?_⟩ ?_
  · have hz2 := Option.some.inj hz
    cases hz2; clear hz
    exact vp_store_agg _ _ _ rfl hc rfl rfl (by kernel_rfl) rfl (by rfl)
  refine ⟨_, by (simp only [Ent.val]; go_simp <;> exact rfl), ?_⟩
  refine Seg.stop (fun U7 hU hk => ?_)
  have nb9 := hge 9 _ _ rfl
  have rb9 := (hk 9 _ 10 rfl trivial).1.1 trivial _ (Nat.zero_le _) rfl
  clear hk hge hne
  generalize th (0 + 9) = p9_9 at *
  simp only [Ent.obj] at rb9
  replace r_p0_0 := held_after hU r_p0_0
  replace r_p4_5 := held_after hU r_p4_5
  replace r_p8_9 := held_after hU r_p8_9
  have r_p9_9 := rb9
  clear rb9
  have n_p9_9 := nb9
  clear nb9
  have sz7 := hU.size
  replace hB := bthen hB hU
  clear hU
  go_upto_region 10 with (fail)
  have ra : Row .i32 32 U7 p8_9 [a0_0, a0_1, a0_2, a0_3] := r_p8_9
  have rb : Row .i32 32 U7 p9_9 [b0, b1, b2, b3] := r_p9_9
  clear k1 k2 k3 r_p8_9 r_p9_9 hdt hdiv
  go_wp2_with fail
  go_loopw [10] (fun i wr => ∃ k : Nat, k ≤ 4 ∧ i = .int .i64 k ∧ Row .i32 32 wr p8_9 [a0_0, a0_1, a0_2, a0_3] ∧ Row .i32 32 wr p9_9 [b0, b1, b2, b3] ∧ Below W.heap.size W wr) (fun i _ => 4 - (intOf i).toNat)
  case atStart => exact ⟨0, by omega, rfl, ra, rb, hB⟩
  case round =>
    clear ra rb hB
    obtain ⟨k, hk, rfl, ra, rb, hB⟩ := hrel
    by_cases hlt : (k : Int) < 4
    case neg =>
      go_wp2_with fail
      go_ret
      exact ⟨rfl, hB⟩
    have hlt2 : k < 4 := by omega
    have hoi : (o : Int) < 4 := by omega
    have c1 := ra.cellAt k (show k < 4 from hlt2)
    rw [getD4 k _ _ _ _ hlt2] at c1
    have c2 := ra.cellAt o (show o < 4 from ho)
    rw [getD4 o _ _ _ _ ho] at c2
    have c3 := rb.cellAt k (show k < 4 from hlt2)
    rw [getD4 k _ _ _ _ hlt2] at c3
    have hkk := hk4.out k hlt2
    have hbk := hbig.out k hlt2
    have hBb := hbb.out k
    replace ra := hid ra
    replace rb := hid rb
    replace hB := hid hB
    have hmo : Go.RowKit.Hid (sel4 o a0_0 a0_1 a0_2 a0_3 = sel4 o a0_0 a0_1 a0_2 a0_3) := hid rfl
    by_cases cn : sel4 o a0_0 a0_1 a0_2 a0_3 < 0
    · have esg : sg = -1 := by rw [hs.out, if_pos cn]
      rw [esg] at hkk
      clear esg
      obtain ⟨v, hv⟩ : ∃ v, sel4 k a0_0 a0_1 a0_2 a0_3 = v := ⟨_, rfl⟩
      obtain ⟨u, hu⟩ : ∃ u, sel4 k b0 b1 b2 b3 = u := ⟨_, rfl⟩
      rw [hv] at hkk hbk c1
      rw [hu] at hkk hBb c3
      replace hv := hid hv
      replace hu := hid hu
      have hwn : IntKind.i32.wrap (-v) = -v := by rw [IntKind.wrap_i32]; omega
      have kb := hid (fun (w : World) => within_any (-v) u 4194304 w ⟨by omega, by omega⟩ hBb (by omega) (by omega))
      have d2 : decide (-4194304 ≤ -v - u ∧ -v - u ≤ 4194304) = true := decide_eq_true (by omega)
      rw [d2] at kb
      have ka := hid (fun (w : World) => within_any (-v) u 1048576 w ⟨by omega, by omega⟩ hBb (by omega) (by omega))
      clear d2
      by_cases cw : decide (-1048576 ≤ -v - u ∧ -v - u ≤ 1048576) = true
      · rw [cw] at ka
        clear cw kb hkk
        go_wp2_with fail
        refine (ka.out _).mono ?_
        rintro e w5 ⟨rfl, rfl⟩
        go_wp2_with fail
        go_roundw
        case rel => first | exact ⟨k + 1, by omega, by simp, ra.out, rb.out, hB.out⟩ | ((repeat apply Exists.intro); exact ⟨⟨k + 1, by omega, by simp, ra.out, rb.out, hB.out⟩, rfl⟩)
        case measure => show 4 - ((k : Int) + 1).toNat < 4 - (k : Int).toNat; omega
      have cw2 := Bool.not_eq_true _ ▸ cw
      have hko : k = o := by
        refine Classical.byContradiction fun h => cw (decide_eq_true ?_)
        have := hkk.1 h
        omega
      rw [cw2] at ka
      have hb1 : ((k : Int) != (o : Int)) = false := by simp; omega
      clear cw cw2 hkk
      replace hko := hid hko
      go_wp2_with fail
      refine (ka.out _).mono ?_
      rintro e w5 ⟨rfl, rfl⟩
      go_wp2_with fail
      refine (kb.out _).mono ?_
      rintro e w5 ⟨rfl, rfl⟩
      go_wp2_with fail
      go_roundw
      case rel => first | exact ⟨k + 1, by omega, by simp, ra.out, rb.out, hB.out⟩ | ((repeat apply Exists.intro); exact ⟨⟨k + 1, by omega, by simp, ra.out, rb.out, hB.out⟩, rfl⟩)
      case measure => show 4 - ((k : Int) + 1).toNat < 4 - (k : Int).toNat; omega
    · have esg : sg = 1 := by rw [hs.out, if_neg cn]
      rw [esg] at hkk
      clear esg
      obtain ⟨v, hv⟩ : ∃ v, sel4 k a0_0 a0_1 a0_2 a0_3 = v := ⟨_, rfl⟩
      obtain ⟨u, hu⟩ : ∃ u, sel4 k b0 b1 b2 b3 = u := ⟨_, rfl⟩
      rw [hv] at hkk hbk c1
      rw [hu] at hkk hBb c3
      replace hv := hid hv
      replace hu := hid hu
      have hwn : IntKind.i32.wrap (-v) = -v := by rw [IntKind.wrap_i32]; omega
      have kb := hid (fun (w : World) => within_any (v) u 4194304 w ⟨by omega, by omega⟩ hBb (by omega) (by omega))
      have d2 : decide (-4194304 ≤ v - u ∧ v - u ≤ 4194304) = true := decide_eq_true (by omega)
      rw [d2] at kb
      have ka := hid (fun (w : World) => within_any (v) u 1048576 w ⟨by omega, by omega⟩ hBb (by omega) (by omega))
      clear d2
      by_cases cw : decide (-1048576 ≤ v - u ∧ v - u ≤ 1048576) = true
      · rw [cw] at ka
        clear cw kb hkk
        go_wp2_with fail
        refine (ka.out _).mono ?_
        rintro e w5 ⟨rfl, rfl⟩
        go_wp2_with fail
        go_roundw
        case rel => first | exact ⟨k + 1, by omega, by simp, ra.out, rb.out, hB.out⟩ | ((repeat apply Exists.intro); exact ⟨⟨k + 1, by omega, by simp, ra.out, rb.out, hB.out⟩, rfl⟩)
        case measure => show 4 - ((k : Int) + 1).toNat < 4 - (k : Int).toNat; omega
      have cw2 := Bool.not_eq_true _ ▸ cw
      have hko : k = o := by
        refine Classical.byContradiction fun h => cw (decide_eq_true ?_)
        have := hkk.1 h
        omega
      rw [cw2] at ka
      have hb1 : ((k : Int) != (o : Int)) = false := by simp; omega
      clear cw cw2 hkk
      replace hko := hid hko
      go_wp2_with fail
      refine (ka.out _).mono ?_
      rintro e w5 ⟨rfl, rfl⟩
      go_wp2_with fail
      refine (kb.out _).mono ?_
      rintro e w5 ⟨rfl, rfl⟩
      go_wp2_with fail
      go_roundw
      case rel => first | exact ⟨k + 1, by omega, by simp, ra.out, rb.out, hB.out⟩ | ((repeat apply Exists.intro); exact ⟨⟨k + 1, by omega, by simp, ra.out, rb.out, hB.out⟩, rfl⟩)
      case measure => show 4 - ((k : Int) + 1).toNat < 4 - (k : Int).toNat; omega

end Go.Proofs.Ytnabfimammojhaa
