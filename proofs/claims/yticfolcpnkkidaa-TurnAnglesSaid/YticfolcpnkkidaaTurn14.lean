/- Package turn: Circle. -/
import Derived.Test.YticfolcpnkkidaaTurn9
import Derived.Deep.DeepCutAuto
namespace Go.Proofs.Yticfolcpnkkidaa
open Go.ChangeShapes Go.WideShapes Go.ChangeAt Go.RowKit
set_option linter.unusedVariables false

/-- One turn by what is left of the angle. -/
def stepC (k : Nat) (s : Int × Int × Int) : Int × Int × Int :=
  if s.2.2 < 0 then (s.1 + s.2.1.tdiv (2 ^ k), s.2.1 - s.1.tdiv (2 ^ k), s.2.2 + tab k) else (s.1 - s.2.1.tdiv (2 ^ k), s.2.1 + s.1.tdiv (2 ^ k), s.2.2 - tab k)
def runC (s : Int × Int × Int) : Nat → Int × Int × Int
  | 0 => s
  | k + 1 => stepC k (runC s k)
def circB (a : Int) : Prop := a < -1073741824 ∨ 1073741824 < a
instance (a : Int) : Decidable (circB a) := by unfold circB; infer_instance
def circZ (a : Int) : Int := if circB a then IntKind.i32.wrap (2147483648 - a) else a
def circC (a : Int) : Int := if circB a then withinS (-(roundS (runC (683706022956409, 0, circZ a) 31).1 20)) else withinS (roundS (runC (683706022956409, 0, circZ a) 31).1 20)
def circS (a : Int) : Int := withinS (roundS (runC (683706022956409, 0, circZ a) 31).2.1 20)
theorem withinS_neg (n : Int) : withinS (-n) = -withinS n := by unfold withinS; split <;> split <;> (try split) <;> (try split) <;> omega
theorem wrap32_bd (n : Int) : -2147483648 ≤ IntKind.i32.wrap n ∧ IntKind.i32.wrap n ≤ 2147483647 := by rw [IntKind.wrap_i32]; omega
theorem runC_bd (s : Int × Int × Int) (h1 : -2251799813685248 ≤ s.1 ∧ s.1 ≤ 2251799813685248) (h2 : -2251799813685248 ≤ s.2.1 ∧ s.2.1 ≤ 2251799813685248) (h3 : -2147483648 ≤ s.2.2 ∧ s.2.2 ≤ 2147483648) :
    ∀ k : Nat, k ≤ 31 → (-Bd k ≤ (runC s k).1 ∧ (runC s k).1 ≤ Bd k) ∧ (-Bd k ≤ (runC s k).2.1 ∧ (runC s k).2.1 ≤ Bd k) ∧ (-(2147483648 + Ad k) ≤ (runC s k).2.2 ∧ (runC s k).2.2 ≤ 2147483648 + Ad k)
  | 0, _ => by
    show (-2251799813685248 ≤ s.1 ∧ s.1 ≤ 2251799813685248) ∧ (-2251799813685248 ≤ s.2.1 ∧ s.2.1 ≤ 2251799813685248) ∧ (-(2147483648 + 0 : Int) ≤ s.2.2 ∧ s.2.2 ≤ 2147483648 + 0)
    omega
  | k + 1, hk => by
    obtain ⟨⟨a1, a2⟩, ⟨b1, b2⟩, c1, c2⟩ := runC_bd s h1 h2 h3 k (by omega)
    have hp : (0 : Int) < 2 ^ k := Int.pow_pos (by decide)
    have dx := tdiv_bd _ _ _ hp a1 a2
    have dy := tdiv_bd _ _ _ hp b1 b2
    have ht := (tab_all k (by omega)).1
    have eB : Bd (k + 1) = Bd k + Bd k / 2 ^ k := rfl
    have eA : Ad (k + 1) = Ad k + tab k := rfl
    have hq : 0 ≤ Bd k / 2 ^ k := Int.ediv_nonneg (bd_all k (by omega)).1 (by omega)
    have er : runC s (k + 1) = stepC k (runC s k) := rfl
    rw [eB, eA, er]
    obtain ⟨⟨X, Y, Z⟩, hr⟩ : ∃ r, runC s k = r := ⟨_, rfl⟩
    rw [hr] at a1 a2 b1 b2 c1 c2 dx dy ⊢
    clear hr er eB eA
    dsimp only at a1 a2 b1 b2 c1 c2 dx dy
    unfold stepC
    dsimp only
    generalize Y.tdiv (2 ^ k) = ty at *
    generalize X.tdiv (2 ^ k) = tx at *
    generalize Bd k / 2 ^ k = q at *
    generalize Bd k = B at *
    generalize Ad k = A at *
    generalize tab k = T at *
    clear hp
    split
    · dsimp only; omega
    · dsimp only; omega
theorem round20_bd (n : Int) (h1 : -18014398509481984 ≤ n) (h2 : n ≤ 18014398509481984) : -18014398509481984 ≤ roundS n 20 ∧ roundS n 20 ≤ 18014398509481984 := by
  have hp : pow2 (bnd 20 62) = 1048576 := by decide +kernel
  unfold roundS overS
  rw [hp, if_neg (by omega)]
  have hq : qn n.natAbs (1048576 : Int).natAbs ≤ 18014398509481984 := by
    unfold qn
    have : (1048576 : Int).natAbs = 1048576 := rfl
    rw [this]
    split <;> omega
  split
  · omega
  · split <;> omega
set_option maxRecDepth 100000 in
set_option maxHeartbeats 8000000 in
theorem circ_any (a : Int) (w : World) (p0 : B32 a) : Calls Try.prog 19 #[.int .i32 a] w fun e w' => e = .returned (.tuple #[.int .i32 (circC a), .int .i32 (circS a)]) ∧ Below w.heap.size w w' := by
  unfold B32 at p0
  have fa : IntKind.i64.wrap a = a := by rw [IntKind.wrap_i64]; omega
  have fb : IntKind.i64.wrap (2147483648 - a) = 2147483648 - a := by rw [IntKind.wrap_i64]; omega
  by_cases c0 : a < -1073741824
  case pos =>
    have hb : circB a := by unfold circB; omega
    have hz : circZ a = IntKind.i32.wrap (2147483648 - a) := if_pos hb
    have hC : circC a = withinS (-(roundS (runC (683706022956409, 0, circZ a) 31).1 20)) := if_pos hb
    have zb := wrap32_bd (2147483648 - a)
    obtain ⟨Z0, hZ0⟩ : ∃ Z, IntKind.i32.wrap (2147483648 - a) = Z := ⟨_, rfl⟩
    have hZ1 : wrap32 (2147483648 - a) = Z0 := by rw [← hZ0, IntKind.wrap_i32]; unfold wrap32; omega
    rw [hZ0] at hz zb
    have hZ2 : IntKind.i64.wrap Z0 = Z0 := by rw [IntKind.wrap_i64]; omega
    have hS : circS a = withinS (roundS (runC (683706022956409, 0, Z0) 31).2.1 20) := by unfold circS; rw [hz]
    rw [hz] at hC
    obtain ⟨RC, hRC⟩ : ∃ X, circC a = X := ⟨_, rfl⟩
    obtain ⟨RS, hRS⟩ : ∃ X, circS a = X := ⟨_, rfl⟩
    rw [hRC] at hC ⊢
    rw [hRS] at hS ⊢
    clear hRC hRS hz hb
    replace hC := hid hC
    replace hS := hid hS
    have hbd := hid (runC_bd (683706022956409, 0, Z0) (by dsimp only; omega) (by dsimp only; omega) (by dsimp only; omega))
    go_enter Try.func19, Try.ntmps19
    go_wp2_with omega
    go_loopw [4, 6, 7, 25] (fun z x y i wz => ∃ k : Nat, k ≤ 31 ∧ i = .int .i64 k ∧ x = .int .i64 (runC (683706022956409, 0, Z0) k).1 ∧ y = .int .i64 (runC (683706022956409, 0, Z0) k).2.1 ∧ z = .int .i64 (runC (683706022956409, 0, Z0) k).2.2 ∧ Below w.heap.size w wz) (fun _ _ _ i _ => 31 - (intOf i).toNat)
    case atStart => exact ⟨0, by omega, rfl, rfl, rfl, rfl, Below.refl _ _⟩
    case round =>
      obtain ⟨k, hk, rfl, rfl, rfl, rfl, hB⟩ := hrel
      have hbk := hbd.out k hk
      have hbb := bd_all k (by omega)
      by_cases hlt : (k : Int) < 31
      case neg =>
        obtain rfl : k = 31 := by omega
        clear hbd
        generalize (runC (683706022956409, 0, Z0) 31).2.2 = z9 at *
        generalize (runC (683706022956409, 0, Z0) 31).2.1 = y9 at *
        generalize (runC (683706022956409, 0, Z0) 31).1 = x9 at *
        have hx9 : -18014398509481984 ≤ x9 ∧ x9 ≤ 18014398509481984 := by omega
        have hy9 : -18014398509481984 ≤ y9 ∧ y9 ≤ 18014398509481984 := by omega
        have kx := hid (fun v : World => round_any x9 20 v (by omega) (by omega))
        have ky := hid (fun v : World => round_any y9 20 v (by omega) (by omega))
        have rx := round20_bd x9 hx9.1 hx9.2
        have ry := round20_bd y9 hy9.1 hy9.2
        generalize roundS x9 20 = cx at *
        generalize roundS y9 20 = cy at *
        clear hbk hbb hx9 hy9
        have fn : IntKind.i64.wrap (-cx) = -cx := by rw [IntKind.wrap_i64]; omega
        replace hB := hid hB
        go_wp2_with omega
        refine (kx.out _).mono ?_
        rintro e V1 ⟨rfl, j1, rfl⟩
        go_wp2_with omega
        refine (ky.out _).mono ?_
        rintro e V2 ⟨rfl, j2, rfl⟩
        go_wp2_with omega
        refine (twithin_any (-cx) _).mono ?_
        rintro e V3 ⟨rfl, rfl⟩
        go_wp2_with omega
        refine (twithin_any cy _).mono ?_
        rintro e V4 ⟨rfl, rfl⟩
        go_wp2_with omega
        go_ret2
        exact ⟨by rw [hC.out, hS.out]; rfl, below_drewN hB.out (j1 + j2)⟩
      have hk2 : k < 31 := by omega
      have ht := tab_all k hk2
      obtain ⟨P, hP⟩ : ∃ P : Int, 2 ^ k = P := ⟨_, rfl⟩
      have hP1 : 1 ≤ P ∧ P ≤ 1073741824 := by rw [← hP]; exact pow_all k hk2
      have hst : runC (683706022956409, 0, Z0) (k + 1) = stepC k (runC (683706022956409, 0, Z0) k) := rfl
      obtain ⟨⟨X, Y, Z⟩, hr⟩ : ∃ r, runC (683706022956409, 0, Z0) k = r := ⟨_, rfl⟩
      rw [hr] at hst hbk ⊢
      dsimp only at hbk ⊢
      clear hr
      unfold stepC at hst
      dsimp only at hst
      rw [hP] at hst
      have kA := fun (v : World) => angle_any k v hk2
      generalize tab k = T at *
      have w3 : IntKind.i64.wrap (Z + T) = Z + T := by rw [IntKind.wrap_i64]; omega
      have w4 : IntKind.i64.wrap (Z - T) = Z - T := by rw [IntKind.wrap_i64]; omega
      have w5 : IntKind.i64.wrap (-T) = -T := by rw [IntKind.wrap_i64]; omega
      have w6 : Z - -T = Z + T := by omega
      have w7 : IntKind.i64.wrap T = T := by rw [IntKind.wrap_i64]; omega
      by_cases cz : Z < 0
      · rw [if_pos cz] at hst
        have kS := fun (v : World) => spinm_any X Y P k v hk2 hP hP1.1 hP1.2 (by omega) (by omega) (by omega) (by omega)
        clear hP hP1 hbb hbk
        generalize Y.tdiv P = dy at *
        generalize X.tdiv P = dx at *
        replace hst := hid hst
        replace hB := hid hB
        go_wp2_with omega
        refine (kS _).mono ?_
        rintro e V5 ⟨rfl, hs1⟩
        go_wp2_with omega
        refine (kA _).mono ?_
        rintro e V6 ⟨rfl, hs2⟩
        have hB2 := hid (bthen (bthen hB.out hs1) hs2)
        clear hs1 hs2 hB
        go_wp2_with omega
        go_roundw
        case rel => first | exact ⟨k + 1, by omega, by simp, by rw [hst.out], by rw [hst.out], by rw [hst.out], hB2.out⟩ | ((repeat apply Exists.intro); exact ⟨⟨k + 1, by omega, by simp, by rw [hst.out], by rw [hst.out], by rw [hst.out], hB2.out⟩, rfl⟩)
        case measure => show 31 - ((k : Int) + 1).toNat < 31 - (k : Int).toNat; omega
      rw [if_neg cz] at hst
      have kS := fun (v : World) => spinp_any X Y P k v hk2 hP hP1.1 hP1.2 (by omega) (by omega) (by omega) (by omega)
      clear hP hP1 hbb hbk
      generalize Y.tdiv P = dy at *
      generalize X.tdiv P = dx at *
      replace hst := hid hst
      replace hB := hid hB
      go_wp2_with omega
      refine (kS _).mono ?_
      rintro e V5 ⟨rfl, hs1⟩
      go_wp2_with omega
      refine (kA _).mono ?_
      rintro e V6 ⟨rfl, hs2⟩
      have hB2 := hid (bthen (bthen hB.out hs1) hs2)
      clear hs1 hs2 hB
      go_wp2_with omega
      go_roundw
      case rel => first | exact ⟨k + 1, by omega, by simp, by rw [hst.out], by rw [hst.out], by rw [hst.out], hB2.out⟩ | ((repeat apply Exists.intro); exact ⟨⟨k + 1, by omega, by simp, by rw [hst.out], by rw [hst.out], by rw [hst.out], hB2.out⟩, rfl⟩)
      case measure => show 31 - ((k : Int) + 1).toNat < 31 - (k : Int).toNat; omega
  by_cases c1 : 1073741824 < a
  case pos =>
    have hb : circB a := by unfold circB; omega
    have hz : circZ a = IntKind.i32.wrap (2147483648 - a) := if_pos hb
    have hC : circC a = withinS (-(roundS (runC (683706022956409, 0, circZ a) 31).1 20)) := if_pos hb
    have zb := wrap32_bd (2147483648 - a)
    obtain ⟨Z0, hZ0⟩ : ∃ Z, IntKind.i32.wrap (2147483648 - a) = Z := ⟨_, rfl⟩
    have hZ1 : wrap32 (2147483648 - a) = Z0 := by rw [← hZ0, IntKind.wrap_i32]; unfold wrap32; omega
    rw [hZ0] at hz zb
    have hZ2 : IntKind.i64.wrap Z0 = Z0 := by rw [IntKind.wrap_i64]; omega
    have hS : circS a = withinS (roundS (runC (683706022956409, 0, Z0) 31).2.1 20) := by unfold circS; rw [hz]
    rw [hz] at hC
    obtain ⟨RC, hRC⟩ : ∃ X, circC a = X := ⟨_, rfl⟩
    obtain ⟨RS, hRS⟩ : ∃ X, circS a = X := ⟨_, rfl⟩
    rw [hRC] at hC ⊢
    rw [hRS] at hS ⊢
    clear hRC hRS hz hb
    replace hC := hid hC
    replace hS := hid hS
    have hbd := hid (runC_bd (683706022956409, 0, Z0) (by dsimp only; omega) (by dsimp only; omega) (by dsimp only; omega))
    go_enter Try.func19, Try.ntmps19
    go_wp2_with omega
    go_loopw [4, 6, 7, 25] (fun z x y i wz => ∃ k : Nat, k ≤ 31 ∧ i = .int .i64 k ∧ x = .int .i64 (runC (683706022956409, 0, Z0) k).1 ∧ y = .int .i64 (runC (683706022956409, 0, Z0) k).2.1 ∧ z = .int .i64 (runC (683706022956409, 0, Z0) k).2.2 ∧ Below w.heap.size w wz) (fun _ _ _ i _ => 31 - (intOf i).toNat)
    case atStart => exact ⟨0, by omega, rfl, rfl, rfl, rfl, Below.refl _ _⟩
    case round =>
      obtain ⟨k, hk, rfl, rfl, rfl, rfl, hB⟩ := hrel
      have hbk := hbd.out k hk
      have hbb := bd_all k (by omega)
      by_cases hlt : (k : Int) < 31
      case neg =>
        obtain rfl : k = 31 := by omega
        clear hbd
        generalize (runC (683706022956409, 0, Z0) 31).2.2 = z9 at *
        generalize (runC (683706022956409, 0, Z0) 31).2.1 = y9 at *
        generalize (runC (683706022956409, 0, Z0) 31).1 = x9 at *
        have hx9 : -18014398509481984 ≤ x9 ∧ x9 ≤ 18014398509481984 := by omega
        have hy9 : -18014398509481984 ≤ y9 ∧ y9 ≤ 18014398509481984 := by omega
        have kx := hid (fun v : World => round_any x9 20 v (by omega) (by omega))
        have ky := hid (fun v : World => round_any y9 20 v (by omega) (by omega))
        have rx := round20_bd x9 hx9.1 hx9.2
        have ry := round20_bd y9 hy9.1 hy9.2
        generalize roundS x9 20 = cx at *
        generalize roundS y9 20 = cy at *
        clear hbk hbb hx9 hy9
        have fn : IntKind.i64.wrap (-cx) = -cx := by rw [IntKind.wrap_i64]; omega
        replace hB := hid hB
        go_wp2_with omega
        refine (kx.out _).mono ?_
        rintro e V1 ⟨rfl, j1, rfl⟩
        go_wp2_with omega
        refine (ky.out _).mono ?_
        rintro e V2 ⟨rfl, j2, rfl⟩
        go_wp2_with omega
        refine (twithin_any (-cx) _).mono ?_
        rintro e V3 ⟨rfl, rfl⟩
        go_wp2_with omega
        refine (twithin_any cy _).mono ?_
        rintro e V4 ⟨rfl, rfl⟩
        go_wp2_with omega
        go_ret2
        exact ⟨by rw [hC.out, hS.out]; rfl, below_drewN hB.out (j1 + j2)⟩
      have hk2 : k < 31 := by omega
      have ht := tab_all k hk2
      obtain ⟨P, hP⟩ : ∃ P : Int, 2 ^ k = P := ⟨_, rfl⟩
      have hP1 : 1 ≤ P ∧ P ≤ 1073741824 := by rw [← hP]; exact pow_all k hk2
      have hst : runC (683706022956409, 0, Z0) (k + 1) = stepC k (runC (683706022956409, 0, Z0) k) := rfl
      obtain ⟨⟨X, Y, Z⟩, hr⟩ : ∃ r, runC (683706022956409, 0, Z0) k = r := ⟨_, rfl⟩
      rw [hr] at hst hbk ⊢
      dsimp only at hbk ⊢
      clear hr
      unfold stepC at hst
      dsimp only at hst
      rw [hP] at hst
      have kA := fun (v : World) => angle_any k v hk2
      generalize tab k = T at *
      have w3 : IntKind.i64.wrap (Z + T) = Z + T := by rw [IntKind.wrap_i64]; omega
      have w4 : IntKind.i64.wrap (Z - T) = Z - T := by rw [IntKind.wrap_i64]; omega
      have w5 : IntKind.i64.wrap (-T) = -T := by rw [IntKind.wrap_i64]; omega
      have w6 : Z - -T = Z + T := by omega
      have w7 : IntKind.i64.wrap T = T := by rw [IntKind.wrap_i64]; omega
      by_cases cz : Z < 0
      · rw [if_pos cz] at hst
        have kS := fun (v : World) => spinm_any X Y P k v hk2 hP hP1.1 hP1.2 (by omega) (by omega) (by omega) (by omega)
        clear hP hP1 hbb hbk
        generalize Y.tdiv P = dy at *
        generalize X.tdiv P = dx at *
        replace hst := hid hst
        replace hB := hid hB
        go_wp2_with omega
        refine (kS _).mono ?_
        rintro e V5 ⟨rfl, hs1⟩
        go_wp2_with omega
        refine (kA _).mono ?_
        rintro e V6 ⟨rfl, hs2⟩
        have hB2 := hid (bthen (bthen hB.out hs1) hs2)
        clear hs1 hs2 hB
        go_wp2_with omega
        go_roundw
        case rel => first | exact ⟨k + 1, by omega, by simp, by rw [hst.out], by rw [hst.out], by rw [hst.out], hB2.out⟩ | ((repeat apply Exists.intro); exact ⟨⟨k + 1, by omega, by simp, by rw [hst.out], by rw [hst.out], by rw [hst.out], hB2.out⟩, rfl⟩)
        case measure => show 31 - ((k : Int) + 1).toNat < 31 - (k : Int).toNat; omega
      rw [if_neg cz] at hst
      have kS := fun (v : World) => spinp_any X Y P k v hk2 hP hP1.1 hP1.2 (by omega) (by omega) (by omega) (by omega)
      clear hP hP1 hbb hbk
      generalize Y.tdiv P = dy at *
      generalize X.tdiv P = dx at *
      replace hst := hid hst
      replace hB := hid hB
      go_wp2_with omega
      refine (kS _).mono ?_
      rintro e V5 ⟨rfl, hs1⟩
      go_wp2_with omega
      refine (kA _).mono ?_
      rintro e V6 ⟨rfl, hs2⟩
      have hB2 := hid (bthen (bthen hB.out hs1) hs2)
      clear hs1 hs2 hB
      go_wp2_with omega
      go_roundw
      case rel => first | exact ⟨k + 1, by omega, by simp, by rw [hst.out], by rw [hst.out], by rw [hst.out], hB2.out⟩ | ((repeat apply Exists.intro); exact ⟨⟨k + 1, by omega, by simp, by rw [hst.out], by rw [hst.out], by rw [hst.out], hB2.out⟩, rfl⟩)
      case measure => show 31 - ((k : Int) + 1).toNat < 31 - (k : Int).toNat; omega
  have hb : ¬ circB a := by unfold circB; omega
  have hz : circZ a = a := if_neg hb
  have hC : circC a = withinS (roundS (runC (683706022956409, 0, circZ a) 31).1 20) := if_neg hb
  have zb : -2147483648 ≤ a ∧ a ≤ 2147483647 := by omega
  have hS : circS a = withinS (roundS (runC (683706022956409, 0, a) 31).2.1 20) := by unfold circS; rw [hz]
  rw [hz] at hC
  obtain ⟨RC, hRC⟩ : ∃ X, circC a = X := ⟨_, rfl⟩
  obtain ⟨RS, hRS⟩ : ∃ X, circS a = X := ⟨_, rfl⟩
  rw [hRC] at hC ⊢
  rw [hRS] at hS ⊢
  clear hRC hRS hz hb
  replace hC := hid hC
  replace hS := hid hS
  have hbd := hid (runC_bd (683706022956409, 0, a) (by dsimp only; omega) (by dsimp only; omega) (by dsimp only; omega))
  go_enter Try.func19, Try.ntmps19
  go_wp2_with omega
  go_loopw [4, 6, 7, 25] (fun z x y i wz => ∃ k : Nat, k ≤ 31 ∧ i = .int .i64 k ∧ x = .int .i64 (runC (683706022956409, 0, a) k).1 ∧ y = .int .i64 (runC (683706022956409, 0, a) k).2.1 ∧ z = .int .i64 (runC (683706022956409, 0, a) k).2.2 ∧ Below w.heap.size w wz) (fun _ _ _ i _ => 31 - (intOf i).toNat)
  case atStart => exact ⟨0, by omega, rfl, rfl, rfl, rfl, Below.refl _ _⟩
  case round =>
    obtain ⟨k, hk, rfl, rfl, rfl, rfl, hB⟩ := hrel
    have hbk := hbd.out k hk
    have hbb := bd_all k (by omega)
    by_cases hlt : (k : Int) < 31
    case neg =>
      obtain rfl : k = 31 := by omega
      clear hbd
      generalize (runC (683706022956409, 0, a) 31).2.2 = z9 at *
      generalize (runC (683706022956409, 0, a) 31).2.1 = y9 at *
      generalize (runC (683706022956409, 0, a) 31).1 = x9 at *
      have hx9 : -18014398509481984 ≤ x9 ∧ x9 ≤ 18014398509481984 := by omega
      have hy9 : -18014398509481984 ≤ y9 ∧ y9 ≤ 18014398509481984 := by omega
      have kx := hid (fun v : World => round_any x9 20 v (by omega) (by omega))
      have ky := hid (fun v : World => round_any y9 20 v (by omega) (by omega))
      have rx := round20_bd x9 hx9.1 hx9.2
      have ry := round20_bd y9 hy9.1 hy9.2
      generalize roundS x9 20 = cx at *
      generalize roundS y9 20 = cy at *
      clear hbk hbb hx9 hy9
      have fn : IntKind.i64.wrap (-cx) = -cx := by rw [IntKind.wrap_i64]; omega
      replace hB := hid hB
      go_wp2_with omega
      refine (kx.out _).mono ?_
      rintro e V1 ⟨rfl, j1, rfl⟩
      go_wp2_with omega
      refine (ky.out _).mono ?_
      rintro e V2 ⟨rfl, j2, rfl⟩
      go_wp2_with omega
      refine (twithin_any cx _).mono ?_
      rintro e V3 ⟨rfl, rfl⟩
      go_wp2_with omega
      refine (twithin_any cy _).mono ?_
      rintro e V4 ⟨rfl, rfl⟩
      go_wp2_with omega
      go_ret2
      exact ⟨by rw [hC.out, hS.out]; rfl, below_drewN hB.out (j1 + j2)⟩
    have hk2 : k < 31 := by omega
    have ht := tab_all k hk2
    obtain ⟨P, hP⟩ : ∃ P : Int, 2 ^ k = P := ⟨_, rfl⟩
    have hP1 : 1 ≤ P ∧ P ≤ 1073741824 := by rw [← hP]; exact pow_all k hk2
    have hst : runC (683706022956409, 0, a) (k + 1) = stepC k (runC (683706022956409, 0, a) k) := rfl
    obtain ⟨⟨X, Y, Z⟩, hr⟩ : ∃ r, runC (683706022956409, 0, a) k = r := ⟨_, rfl⟩
    rw [hr] at hst hbk ⊢
    dsimp only at hbk ⊢
    clear hr
    unfold stepC at hst
    dsimp only at hst
    rw [hP] at hst
    have kA := fun (v : World) => angle_any k v hk2
    generalize tab k = T at *
    have w3 : IntKind.i64.wrap (Z + T) = Z + T := by rw [IntKind.wrap_i64]; omega
    have w4 : IntKind.i64.wrap (Z - T) = Z - T := by rw [IntKind.wrap_i64]; omega
    have w5 : IntKind.i64.wrap (-T) = -T := by rw [IntKind.wrap_i64]; omega
    have w6 : Z - -T = Z + T := by omega
    have w7 : IntKind.i64.wrap T = T := by rw [IntKind.wrap_i64]; omega
    by_cases cz : Z < 0
    · rw [if_pos cz] at hst
      have kS := fun (v : World) => spinm_any X Y P k v hk2 hP hP1.1 hP1.2 (by omega) (by omega) (by omega) (by omega)
      clear hP hP1 hbb hbk
      generalize Y.tdiv P = dy at *
      generalize X.tdiv P = dx at *
      replace hst := hid hst
      replace hB := hid hB
      go_wp2_with omega
      refine (kS _).mono ?_
      rintro e V5 ⟨rfl, hs1⟩
      go_wp2_with omega
      refine (kA _).mono ?_
      rintro e V6 ⟨rfl, hs2⟩
      have hB2 := hid (bthen (bthen hB.out hs1) hs2)
      clear hs1 hs2 hB
      go_wp2_with omega
      go_roundw
      case rel => first | exact ⟨k + 1, by omega, by simp, by rw [hst.out], by rw [hst.out], by rw [hst.out], hB2.out⟩ | ((repeat apply Exists.intro); exact ⟨⟨k + 1, by omega, by simp, by rw [hst.out], by rw [hst.out], by rw [hst.out], hB2.out⟩, rfl⟩)
      case measure => show 31 - ((k : Int) + 1).toNat < 31 - (k : Int).toNat; omega
    rw [if_neg cz] at hst
    have kS := fun (v : World) => spinp_any X Y P k v hk2 hP hP1.1 hP1.2 (by omega) (by omega) (by omega) (by omega)
    clear hP hP1 hbb hbk
    generalize Y.tdiv P = dy at *
    generalize X.tdiv P = dx at *
    replace hst := hid hst
    replace hB := hid hB
    go_wp2_with omega
    refine (kS _).mono ?_
    rintro e V5 ⟨rfl, hs1⟩
    go_wp2_with omega
    refine (kA _).mono ?_
    rintro e V6 ⟨rfl, hs2⟩
    have hB2 := hid (bthen (bthen hB.out hs1) hs2)
    clear hs1 hs2 hB
    go_wp2_with omega
    go_roundw
    case rel => first | exact ⟨k + 1, by omega, by simp, by rw [hst.out], by rw [hst.out], by rw [hst.out], hB2.out⟩ | ((repeat apply Exists.intro); exact ⟨⟨k + 1, by omega, by simp, by rw [hst.out], by rw [hst.out], by rw [hst.out], hB2.out⟩, rfl⟩)
    case measure => show 31 - ((k : Int) + 1).toNat < 31 - (k : Int).toNat; omega

end Go.Proofs.Yticfolcpnkkidaa
