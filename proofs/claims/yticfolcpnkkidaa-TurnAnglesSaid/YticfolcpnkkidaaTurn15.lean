/- The papers' Circle. -/
import Derived.Test.YticfolcpnkkidaaTurn14
import Derived.Deep.DeepCutAuto
namespace Go.Proofs.Yticfolcpnkkidaa
open Go.ChangeShapes Go.WideShapes Go.ChangeAt Go.RowKit
set_option linter.unusedVariables false

set_option maxRecDepth 100000 in
set_option maxHeartbeats 8000000 in
theorem rcirc_any (a : Int) (w : World) (p0 : B32 a) : Calls Try.prog 20 #[.int .i32 a] w fun e w' => e = .returned (.tuple #[.int .i32 (circC a), .int .i32 (circS a)]) ∧ Below w.heap.size w w' := by
  unfold B32 at p0
  have fa : IntKind.i64.wrap a = a := by rw [IntKind.wrap_i64]; omega
  have fb : IntKind.i64.wrap (2147483648 - a) = 2147483648 - a := by rw [IntKind.wrap_i64]; omega
  by_cases c0 : a < -1073741824
  case pos =>
    have hb : circB a := by unfold circB; omega
    have hz : circZ a = IntKind.i32.wrap (2147483648 - a) := if_pos hb
    have hC : circC a = withinS (-(roundS (runC (683706022956409, 0, circZ a) 31).1 20)) := if_pos hb
    have zb := wrap32_bd (2147483648 - a)
    obtain ⟨Z0, hZ0⟩ : ∃ Z, IntKind.i32.wrap (2147483648 - a) = Z := ⟨_, rfl⟩
    have hZ1 : wrap32 (2147483648 - a) = Z0 := by rw [← hZ0, IntKind.wrap_i32]; unfold wrap32; omega
    rw [hZ0] at hz zb
    have hZ2 : IntKind.i64.wrap Z0 = Z0 := by rw [IntKind.wrap_i64]; omega
    have hS : circS a = withinS (roundS (runC (683706022956409, 0, Z0) 31).2.1 20) := by unfold circS; rw [hz]
    rw [hz] at hC
    obtain ⟨RC, hRC⟩ : ∃ X, circC a = X := ⟨_, rfl⟩
    obtain ⟨RS, hRS⟩ : ∃ X, circS a = X := ⟨_, rfl⟩
    rw [hRC] at hC ⊢
    rw [hRS] at hS ⊢
    clear hRC hRS hz hb
    replace hC := hid hC
    replace hS := hid hS
    have hbd := hid (runC_bd (683706022956409, 0, Z0) (by dsimp only; omega) (by dsimp only; omega) (by dsimp only; omega))
    go_enter Try.func20, Try.ntmps20
    go_wp2_with omega
    refine (tround_any (2147483648 - a) _ (by omega) (by omega)).mono ?_
    rintro e V0 ⟨rfl, rfl⟩
    rw [hZ0]
    go_wp2_with omega
    go_loopw [4, 6, 7, 8, 9] (fun z x y b i wz => ∃ k : Nat, k ≤ 31 ∧ i = .int .i64 k ∧ x = .int .i64 (runC (683706022956409, 0, Z0) k).1 ∧ y = .int .i64 (runC (683706022956409, 0, Z0) k).2.1 ∧ z = .int .i64 (runC (683706022956409, 0, Z0) k).2.2 ∧ b = .int .i64 ((2 : Int) ^ k) ∧ Below V0.heap.size V0 wz) (fun _ _ _ _ i _ => 31 - (intOf i).toNat)
    case atStart => exact ⟨0, by omega, rfl, rfl, rfl, rfl, rfl, Below.refl _ _⟩
    case round =>
      obtain ⟨k, hk, rfl, rfl, rfl, rfl, rfl, hB⟩ := hrel
      have hbk := hbd.out k hk
      have hbb := bd_all k (by omega)
      by_cases hlt : (k : Int) < 31
      case neg =>
        obtain rfl : k = 31 := by omega
        clear hbd
        generalize (runC (683706022956409, 0, Z0) 31).2.2 = z9 at *
        generalize (runC (683706022956409, 0, Z0) 31).2.1 = y9 at *
        generalize (runC (683706022956409, 0, Z0) 31).1 = x9 at *
        have hx9 : -18014398509481984 ≤ x9 ∧ x9 ≤ 18014398509481984 := by omega
        have hy9 : -18014398509481984 ≤ y9 ∧ y9 ≤ 18014398509481984 := by omega
        have kx := hid (fun v : World => rpart_any x9 v (by omega) (by omega))
        have ky := hid (fun v : World => rpart_any y9 v (by omega) (by omega))
        generalize roundS x9 20 = cx at *
        generalize roundS y9 20 = cy at *
        have wb := withinS_bd cx
        have hC2 := hid (hC.out.trans (withinS_neg cx))
        generalize withinS cx = wx at *
        generalize withinS cy = wy at *
        clear hbk hbb hx9 hy9
        have fn : IntKind.i32.wrap (-wx) = -wx := by rw [IntKind.wrap_i32]; omega
        generalize (2 : Int) ^ 31 = p31
        replace hB := hid hB
        go_wp2_with omega
        refine (kx.out _).mono ?_
        rintro e V1 ⟨rfl, rfl⟩
        go_wp2_with omega
        refine (ky.out _).mono ?_
        rintro e V2 ⟨rfl, rfl⟩
        go_wp2_with omega
        go_ret2
        exact ⟨by rw [hC2.out, hS.out]; rfl, hB.out⟩
      have hk2 : k < 31 := by omega
      have ht := tab_all k hk2
      obtain ⟨P, hP⟩ : ∃ P : Int, 2 ^ k = P := ⟨_, rfl⟩
      have hP1 : 1 ≤ P ∧ P ≤ 1073741824 := by rw [← hP]; exact pow_all k hk2
      have hP2 : (2 : Int) ^ (k + 1) = 2 * P := by rw [Int.pow_succ, hP, Int.mul_comm]
      have hst : runC (683706022956409, 0, Z0) (k + 1) = stepC k (runC (683706022956409, 0, Z0) k) := rfl
      obtain ⟨⟨X, Y, Z⟩, hr⟩ : ∃ r, runC (683706022956409, 0, Z0) k = r := ⟨_, rfl⟩
      rw [hr] at hst hbk ⊢
      dsimp only at hbk ⊢
      clear hr
      unfold stepC at hst
      dsimp only at hst
      rw [hP] at hst ⊢
      have d1 := tdiv_le X P
      have d2 := tdiv_le Y P
      have hp0 : (P == 0) = false := by simp; omega
      have hp1 : ¬ P = 0 := by omega
      have kA := fun (v : World) => rtable_any k v hk2
      generalize tab k = T at *
      have w3 : IntKind.i64.wrap (Z + T) = Z + T := by rw [IntKind.wrap_i64]; omega
      have w4 : IntKind.i64.wrap (Z - T) = Z - T := by rw [IntKind.wrap_i64]; omega
      have w5 : IntKind.i64.wrap (2 * P) = 2 * P := by rw [IntKind.wrap_i64]; omega
      obtain ⟨dx, hdx⟩ : ∃ q, X.tdiv P = q := ⟨_, rfl⟩
      obtain ⟨dy, hdy⟩ : ∃ q, Y.tdiv P = q := ⟨_, rfl⟩
      rw [hdx] at d1
      rw [hdy] at d2
      rw [hdx, hdy] at hst
      have f0 : IntKind.i64.wrap (dx) = dx := by rw [IntKind.wrap_i64]; omega
      have f1 : IntKind.i64.wrap (dy) = dy := by rw [IntKind.wrap_i64]; omega
      have f2 : IntKind.i64.wrap (X + dy) = X + dy := by rw [IntKind.wrap_i64]; omega
      have f3 : IntKind.i64.wrap (X - dy) = X - dy := by rw [IntKind.wrap_i64]; omega
      have f4 : IntKind.i64.wrap (Y + dx) = Y + dx := by rw [IntKind.wrap_i64]; omega
      have f5 : IntKind.i64.wrap (Y - dx) = Y - dx := by rw [IntKind.wrap_i64]; omega
      clear d1 d2 hbk hbb ht
      replace hP2 := hid hP2
      replace hB := hid hB
      by_cases cz : Z < 0
      · rw [if_pos cz] at hst
        replace hst := hid hst
        go_wp2_with omega
        refine (kA _).mono ?_
        rintro e V6 ⟨rfl, hs2⟩
        have hB2 := hid (bthen hB.out hs2)
        clear hs2 hB
        go_wp2_with omega
        go_roundw
        case rel => first | exact ⟨k + 1, by omega, by simp, by rw [hst.out], by rw [hst.out], by rw [hst.out], by rw [hP2.out], hB2.out⟩ | ((repeat apply Exists.intro); exact ⟨⟨k + 1, by omega, by simp, by rw [hst.out], by rw [hst.out], by rw [hst.out], by rw [hP2.out], hB2.out⟩, rfl⟩)
        case measure => show 31 - ((k : Int) + 1).toNat < 31 - (k : Int).toNat; omega
      rw [if_neg cz] at hst
      replace hst := hid hst
      go_wp2_with omega
      refine (kA _).mono ?_
      rintro e V6 ⟨rfl, hs2⟩
      have hB2 := hid (bthen hB.out hs2)
      clear hs2 hB
      go_wp2_with omega
      go_roundw
      case rel => first | exact ⟨k + 1, by omega, by simp, by rw [hst.out], by rw [hst.out], by rw [hst.out], by rw [hP2.out], hB2.out⟩ | ((repeat apply Exists.intro); exact ⟨⟨k + 1, by omega, by simp, by rw [hst.out], by rw [hst.out], by rw [hst.out], by rw [hP2.out], hB2.out⟩, rfl⟩)
      case measure => show 31 - ((k : Int) + 1).toNat < 31 - (k : Int).toNat; omega
  by_cases c1 : 1073741824 < a
  case pos =>
    have hb : circB a := by unfold circB; omega
    have hz : circZ a = IntKind.i32.wrap (2147483648 - a) := if_pos hb
    have hC : circC a = withinS (-(roundS (runC (683706022956409, 0, circZ a) 31).1 20)) := if_pos hb
    have zb := wrap32_bd (2147483648 - a)
    obtain ⟨Z0, hZ0⟩ : ∃ Z, IntKind.i32.wrap (2147483648 - a) = Z := ⟨_, rfl⟩
    have hZ1 : wrap32 (2147483648 - a) = Z0 := by rw [← hZ0, IntKind.wrap_i32]; unfold wrap32; omega
    rw [hZ0] at hz zb
    have hZ2 : IntKind.i64.wrap Z0 = Z0 := by rw [IntKind.wrap_i64]; omega
    have hS : circS a = withinS (roundS (runC (683706022956409, 0, Z0) 31).2.1 20) := by unfold circS; rw [hz]
    rw [hz] at hC
    obtain ⟨RC, hRC⟩ : ∃ X, circC a = X := ⟨_, rfl⟩
    obtain ⟨RS, hRS⟩ : ∃ X, circS a = X := ⟨_, rfl⟩
    rw [hRC] at hC ⊢
    rw [hRS] at hS ⊢
    clear hRC hRS hz hb
    replace hC := hid hC
    replace hS := hid hS
    have hbd := hid (runC_bd (683706022956409, 0, Z0) (by dsimp only; omega) (by dsimp only; omega) (by dsimp only; omega))
    go_enter Try.func20, Try.ntmps20
    go_wp2_with omega
    refine (tround_any (2147483648 - a) _ (by omega) (by omega)).mono ?_
    rintro e V0 ⟨rfl, rfl⟩
    rw [hZ0]
    go_wp2_with omega
    go_loopw [4, 6, 7, 8, 9] (fun z x y b i wz => ∃ k : Nat, k ≤ 31 ∧ i = .int .i64 k ∧ x = .int .i64 (runC (683706022956409, 0, Z0) k).1 ∧ y = .int .i64 (runC (683706022956409, 0, Z0) k).2.1 ∧ z = .int .i64 (runC (683706022956409, 0, Z0) k).2.2 ∧ b = .int .i64 ((2 : Int) ^ k) ∧ Below V0.heap.size V0 wz) (fun _ _ _ _ i _ => 31 - (intOf i).toNat)
    case atStart => exact ⟨0, by omega, rfl, rfl, rfl, rfl, rfl, Below.refl _ _⟩
    case round =>
      obtain ⟨k, hk, rfl, rfl, rfl, rfl, rfl, hB⟩ := hrel
      have hbk := hbd.out k hk
      have hbb := bd_all k (by omega)
      by_cases hlt : (k : Int) < 31
      case neg =>
        obtain rfl : k = 31 := by omega
        clear hbd
        generalize (runC (683706022956409, 0, Z0) 31).2.2 = z9 at *
        generalize (runC (683706022956409, 0, Z0) 31).2.1 = y9 at *
        generalize (runC (683706022956409, 0, Z0) 31).1 = x9 at *
        have hx9 : -18014398509481984 ≤ x9 ∧ x9 ≤ 18014398509481984 := by omega
        have hy9 : -18014398509481984 ≤ y9 ∧ y9 ≤ 18014398509481984 := by omega
        have kx := hid (fun v : World => rpart_any x9 v (by omega) (by omega))
        have ky := hid (fun v : World => rpart_any y9 v (by omega) (by omega))
        generalize roundS x9 20 = cx at *
        generalize roundS y9 20 = cy at *
        have wb := withinS_bd cx
        have hC2 := hid (hC.out.trans (withinS_neg cx))
        generalize withinS cx = wx at *
        generalize withinS cy = wy at *
        clear hbk hbb hx9 hy9
        have fn : IntKind.i32.wrap (-wx) = -wx := by rw [IntKind.wrap_i32]; omega
        generalize (2 : Int) ^ 31 = p31
        replace hB := hid hB
        go_wp2_with omega
        refine (kx.out _).mono ?_
        rintro e V1 ⟨rfl, rfl⟩
        go_wp2_with omega
        refine (ky.out _).mono ?_
        rintro e V2 ⟨rfl, rfl⟩
        go_wp2_with omega
        go_ret2
        exact ⟨by rw [hC2.out, hS.out]; rfl, hB.out⟩
      have hk2 : k < 31 := by omega
      have ht := tab_all k hk2
      obtain ⟨P, hP⟩ : ∃ P : Int, 2 ^ k = P := ⟨_, rfl⟩
      have hP1 : 1 ≤ P ∧ P ≤ 1073741824 := by rw [← hP]; exact pow_all k hk2
      have hP2 : (2 : Int) ^ (k + 1) = 2 * P := by rw [Int.pow_succ, hP, Int.mul_comm]
      have hst : runC (683706022956409, 0, Z0) (k + 1) = stepC k (runC (683706022956409, 0, Z0) k) := rfl
      obtain ⟨⟨X, Y, Z⟩, hr⟩ : ∃ r, runC (683706022956409, 0, Z0) k = r := ⟨_, rfl⟩
      rw [hr] at hst hbk ⊢
      dsimp only at hbk ⊢
      clear hr
      unfold stepC at hst
      dsimp only at hst
      rw [hP] at hst ⊢
      have d1 := tdiv_le X P
      have d2 := tdiv_le Y P
      have hp0 : (P == 0) = false := by simp; omega
      have hp1 : ¬ P = 0 := by omega
      have kA := fun (v : World) => rtable_any k v hk2
      generalize tab k = T at *
      have w3 : IntKind.i64.wrap (Z + T) = Z + T := by rw [IntKind.wrap_i64]; omega
      have w4 : IntKind.i64.wrap (Z - T) = Z - T := by rw [IntKind.wrap_i64]; omega
      have w5 : IntKind.i64.wrap (2 * P) = 2 * P := by rw [IntKind.wrap_i64]; omega
      obtain ⟨dx, hdx⟩ : ∃ q, X.tdiv P = q := ⟨_, rfl⟩
      obtain ⟨dy, hdy⟩ : ∃ q, Y.tdiv P = q := ⟨_, rfl⟩
      rw [hdx] at d1
      rw [hdy] at d2
      rw [hdx, hdy] at hst
      have f0 : IntKind.i64.wrap (dx) = dx := by rw [IntKind.wrap_i64]; omega
      have f1 : IntKind.i64.wrap (dy) = dy := by rw [IntKind.wrap_i64]; omega
      have f2 : IntKind.i64.wrap (X + dy) = X + dy := by rw [IntKind.wrap_i64]; omega
      have f3 : IntKind.i64.wrap (X - dy) = X - dy := by rw [IntKind.wrap_i64]; omega
      have f4 : IntKind.i64.wrap (Y + dx) = Y + dx := by rw [IntKind.wrap_i64]; omega
      have f5 : IntKind.i64.wrap (Y - dx) = Y - dx := by rw [IntKind.wrap_i64]; omega
      clear d1 d2 hbk hbb ht
      replace hP2 := hid hP2
      replace hB := hid hB
      by_cases cz : Z < 0
      · rw [if_pos cz] at hst
        replace hst := hid hst
        go_wp2_with omega
        refine (kA _).mono ?_
        rintro e V6 ⟨rfl, hs2⟩
        have hB2 := hid (bthen hB.out hs2)
        clear hs2 hB
        go_wp2_with omega
        go_roundw
        case rel => first | exact ⟨k + 1, by omega, by simp, by rw [hst.out], by rw [hst.out], by rw [hst.out], by rw [hP2.out], hB2.out⟩ | ((repeat apply Exists.intro); exact ⟨⟨k + 1, by omega, by simp, by rw [hst.out], by rw [hst.out], by rw [hst.out], by rw [hP2.out], hB2.out⟩, rfl⟩)
        case measure => show 31 - ((k : Int) + 1).toNat < 31 - (k : Int).toNat; omega
      rw [if_neg cz] at hst
      replace hst := hid hst
      go_wp2_with omega
      refine (kA _).mono ?_
      rintro e V6 ⟨rfl, hs2⟩
      have hB2 := hid (bthen hB.out hs2)
      clear hs2 hB
      go_wp2_with omega
      go_roundw
      case rel => first | exact ⟨k + 1, by omega, by simp, by rw [hst.out], by rw [hst.out], by rw [hst.out], by rw [hP2.out], hB2.out⟩ | ((repeat apply Exists.intro); exact ⟨⟨k + 1, by omega, by simp, by rw [hst.out], by rw [hst.out], by rw [hst.out], by rw [hP2.out], hB2.out⟩, rfl⟩)
      case measure => show 31 - ((k : Int) + 1).toNat < 31 - (k : Int).toNat; omega
  have hb : ¬ circB a := by unfold circB; omega
  have hz : circZ a = a := if_neg hb
  have hC : circC a = withinS (roundS (runC (683706022956409, 0, circZ a) 31).1 20) := if_neg hb
  have zb : -2147483648 ≤ a ∧ a ≤ 2147483647 := by omega
  have hS : circS a = withinS (roundS (runC (683706022956409, 0, a) 31).2.1 20) := by unfold circS; rw [hz]
  rw [hz] at hC
  obtain ⟨RC, hRC⟩ : ∃ X, circC a = X := ⟨_, rfl⟩
  obtain ⟨RS, hRS⟩ : ∃ X, circS a = X := ⟨_, rfl⟩
  rw [hRC] at hC ⊢
  rw [hRS] at hS ⊢
  clear hRC hRS hz hb
  replace hC := hid hC
  replace hS := hid hS
  have hbd := hid (runC_bd (683706022956409, 0, a) (by dsimp only; omega) (by dsimp only; omega) (by dsimp only; omega))
  go_enter Try.func20, Try.ntmps20
  go_wp2_with omega
  go_loopw [4, 6, 7, 8, 9] (fun z x y b i wz => ∃ k : Nat, k ≤ 31 ∧ i = .int .i64 k ∧ x = .int .i64 (runC (683706022956409, 0, a) k).1 ∧ y = .int .i64 (runC (683706022956409, 0, a) k).2.1 ∧ z = .int .i64 (runC (683706022956409, 0, a) k).2.2 ∧ b = .int .i64 ((2 : Int) ^ k) ∧ Below w.heap.size w wz) (fun _ _ _ _ i _ => 31 - (intOf i).toNat)
  case atStart => exact ⟨0, by omega, rfl, rfl, rfl, rfl, rfl, Below.refl _ _⟩
  case round =>
    obtain ⟨k, hk, rfl, rfl, rfl, rfl, rfl, hB⟩ := hrel
    have hbk := hbd.out k hk
    have hbb := bd_all k (by omega)
    by_cases hlt : (k : Int) < 31
    case neg =>
      obtain rfl : k = 31 := by omega
      clear hbd
      generalize (runC (683706022956409, 0, a) 31).2.2 = z9 at *
      generalize (runC (683706022956409, 0, a) 31).2.1 = y9 at *
      generalize (runC (683706022956409, 0, a) 31).1 = x9 at *
      have hx9 : -18014398509481984 ≤ x9 ∧ x9 ≤ 18014398509481984 := by omega
      have hy9 : -18014398509481984 ≤ y9 ∧ y9 ≤ 18014398509481984 := by omega
      have kx := hid (fun v : World => rpart_any x9 v (by omega) (by omega))
      have ky := hid (fun v : World => rpart_any y9 v (by omega) (by omega))
      generalize roundS x9 20 = cx at *
      generalize roundS y9 20 = cy at *
      have wb := withinS_bd cx
      have hC2 := hC
      generalize withinS cx = wx at *
      generalize withinS cy = wy at *
      clear hbk hbb hx9 hy9
      have fn : IntKind.i32.wrap (-wx) = -wx := by rw [IntKind.wrap_i32]; omega
      generalize (2 : Int) ^ 31 = p31
      replace hB := hid hB
      go_wp2_with omega
      refine (kx.out _).mono ?_
      rintro e V1 ⟨rfl, rfl⟩
      go_wp2_with omega
      refine (ky.out _).mono ?_
      rintro e V2 ⟨rfl, rfl⟩
      go_wp2_with omega
      go_ret2
      exact ⟨by rw [hC2.out, hS.out]; rfl, hB.out⟩
    have hk2 : k < 31 := by omega
    have ht := tab_all k hk2
    obtain ⟨P, hP⟩ : ∃ P : Int, 2 ^ k = P := ⟨_, rfl⟩
    have hP1 : 1 ≤ P ∧ P ≤ 1073741824 := by rw [← hP]; exact pow_all k hk2
    have hP2 : (2 : Int) ^ (k + 1) = 2 * P := by rw [Int.pow_succ, hP, Int.mul_comm]
    have hst : runC (683706022956409, 0, a) (k + 1) = stepC k (runC (683706022956409, 0, a) k) := rfl
    obtain ⟨⟨X, Y, Z⟩, hr⟩ : ∃ r, runC (683706022956409, 0, a) k = r := ⟨_, rfl⟩
    rw [hr] at hst hbk ⊢
    dsimp only at hbk ⊢
    clear hr
    unfold stepC at hst
    dsimp only at hst
    rw [hP] at hst ⊢
    have d1 := tdiv_le X P
    have d2 := tdiv_le Y P
    have hp0 : (P == 0) = false := by simp; omega
    have hp1 : ¬ P = 0 := by omega
    have kA := fun (v : World) => rtable_any k v hk2
    generalize tab k = T at *
    have w3 : IntKind.i64.wrap (Z + T) = Z + T := by rw [IntKind.wrap_i64]; omega
    have w4 : IntKind.i64.wrap (Z - T) = Z - T := by rw [IntKind.wrap_i64]; omega
    have w5 : IntKind.i64.wrap (2 * P) = 2 * P := by rw [IntKind.wrap_i64]; omega
    obtain ⟨dx, hdx⟩ : ∃ q, X.tdiv P = q := ⟨_, rfl⟩
    obtain ⟨dy, hdy⟩ : ∃ q, Y.tdiv P = q := ⟨_, rfl⟩
    rw [hdx] at d1
    rw [hdy] at d2
    rw [hdx, hdy] at hst
    have f0 : IntKind.i64.wrap (dx) = dx := by rw [IntKind.wrap_i64]; omega
    have f1 : IntKind.i64.wrap (dy) = dy := by rw [IntKind.wrap_i64]; omega
    have f2 : IntKind.i64.wrap (X + dy) = X + dy := by rw [IntKind.wrap_i64]; omega
    have f3 : IntKind.i64.wrap (X - dy) = X - dy := by rw [IntKind.wrap_i64]; omega
    have f4 : IntKind.i64.wrap (Y + dx) = Y + dx := by rw [IntKind.wrap_i64]; omega
    have f5 : IntKind.i64.wrap (Y - dx) = Y - dx := by rw [IntKind.wrap_i64]; omega
    clear d1 d2 hbk hbb ht
    replace hP2 := hid hP2
    replace hB := hid hB
    by_cases cz : Z < 0
    · rw [if_pos cz] at hst
      replace hst := hid hst
      go_wp2_with omega
      refine (kA _).mono ?_
      rintro e V6 ⟨rfl, hs2⟩
      have hB2 := hid (bthen hB.out hs2)
      clear hs2 hB
      go_wp2_with omega
      go_roundw
      case rel => first | exact ⟨k + 1, by omega, by simp, by rw [hst.out], by rw [hst.out], by rw [hst.out], by rw [hP2.out], hB2.out⟩ | ((repeat apply Exists.intro); exact ⟨⟨k + 1, by omega, by simp, by rw [hst.out], by rw [hst.out], by rw [hst.out], by rw [hP2.out], hB2.out⟩, rfl⟩)
      case measure => show 31 - ((k : Int) + 1).toNat < 31 - (k : Int).toNat; omega
    rw [if_neg cz] at hst
    replace hst := hid hst
    go_wp2_with omega
    refine (kA _).mono ?_
    rintro e V6 ⟨rfl, hs2⟩
    have hB2 := hid (bthen hB.out hs2)
    clear hs2 hB
    go_wp2_with omega
    go_roundw
    case rel => first | exact ⟨k + 1, by omega, by simp, by rw [hst.out], by rw [hst.out], by rw [hst.out], by rw [hP2.out], hB2.out⟩ | ((repeat apply Exists.intro); exact ⟨⟨k + 1, by omega, by simp, by rw [hst.out], by rw [hst.out], by rw [hst.out], by rw [hP2.out], hB2.out⟩, rfl⟩)
    case measure => show 31 - ((k : Int) + 1).toNat < 31 - (k : Int).toNat; omega

end Go.Proofs.Yticfolcpnkkidaa
