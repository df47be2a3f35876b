/- Package turn: Atan. -/
import Derived.Test.YticfolcpnkkidaaTurn7
namespace Go.Proofs.Yticfolcpnkkidaa
open Go.ChangeShapes Go.WideShapes Go.ChangeAt Go.RowKit
set_option linter.unusedVariables false

/-- Both numbers, doubled till one is far enough. -/
def normF : Nat → Int → Int → Int × Int
  | 0, r, u => (r, u)
  | n + 1, r, u => if r < 1073741824 ∧ u < 1073741824 ∧ -1073741824 < u then normF n (2 * r) (2 * u) else (r, u)
theorem normF_out (n : Nat) {r u : Int} (h : ¬ (r < 1073741824 ∧ u < 1073741824 ∧ -1073741824 < u)) : normF n r u = (r, u) := by
  cases n with
  | zero => rfl
  | succ n => exact if_neg h
theorem normF_in (n : Nat) {r u : Int} (h : r < 1073741824 ∧ u < 1073741824 ∧ -1073741824 < u) : normF (n + 1) r u = normF n (2 * r) (2 * u) := if_pos h
/-- One turn towards the first axis. -/
def stepA (k : Nat) (s : Int × Int × Int) : Int × Int × Int :=
  if 0 < s.2.1 then (s.1 + s.2.1.tdiv (2 ^ k), s.2.1 - s.1.tdiv (2 ^ k), s.2.2 + tab k)
  else if s.2.1 < 0 then (s.1 - s.2.1.tdiv (2 ^ k), s.2.1 + s.1.tdiv (2 ^ k), s.2.2 - tab k) else s
def runA (s : Int × Int × Int) : Nat → Int × Int × Int
  | 0 => s
  | k + 1 => stepA k (runA s k)
def atanS (y x : Int) : Int := if x = 0 ∧ y = 0 then 0 else IntKind.i32.wrap (if x < 0 then 2147483648 - (runA ((normF 31 (if x < 0 then -x else x) y).1 * 1048576, (normF 31 (if x < 0 then -x else x) y).2 * 1048576, 0) 31).2.2 else (runA ((normF 31 (if x < 0 then -x else x) y).1 * 1048576, (normF 31 (if x < 0 then -x else x) y).2 * 1048576, 0) 31).2.2)
def Bd : Nat → Int
  | 0 => 2251799813685248
  | k + 1 => Bd k + Bd k / 2 ^ k
def Ad : Nat → Int
  | 0 => 0
  | k + 1 => Ad k + tab k
theorem bd_all : ∀ k : Nat, k < 32 → 0 ≤ Bd k ∧ Bd k ≤ 18014398509481984 ∧ 0 ≤ Ad k ∧ Ad k ≤ 2147483648 := by decide +kernel
theorem tab_all : ∀ k : Nat, k < 31 → 0 ≤ tab k ∧ tab k ≤ 536870912 := by decide +kernel
theorem pow_all : ∀ k : Nat, k < 31 → (1 : Int) ≤ 2 ^ k ∧ (2 : Int) ^ k ≤ 1073741824 := by decide +kernel
theorem tdiv_bd (y p B : Int) (hp : 0 < p) (h1 : -B ≤ y) (h2 : y ≤ B) : -(B / p) ≤ y.tdiv p ∧ y.tdiv p ≤ B / p := by
  rcases Int.le_total 0 y with h | h
  · rw [Int.tdiv_eq_ediv_of_nonneg h]
    have h3 := Int.ediv_le_ediv hp h2
    have h4 : 0 ≤ y / p := Int.ediv_nonneg h (by omega)
    omega
  · obtain ⟨z, rfl⟩ : ∃ z, y = -z := ⟨-y, by omega⟩
    rw [Int.neg_tdiv, Int.tdiv_eq_ediv_of_nonneg (by omega)]
    have h3 := Int.ediv_le_ediv hp (show z ≤ B by omega)
    have h4 : 0 ≤ z / p := Int.ediv_nonneg (by omega) (by omega)
    omega
theorem runA_bd (s : Int × Int × Int) (h1 : -2251799813685248 ≤ s.1 ∧ s.1 ≤ 2251799813685248) (h2 : -2251799813685248 ≤ s.2.1 ∧ s.2.1 ≤ 2251799813685248) (h3 : s.2.2 = 0) :
    ∀ k : Nat, k ≤ 31 → (-Bd k ≤ (runA s k).1 ∧ (runA s k).1 ≤ Bd k) ∧ (-Bd k ≤ (runA s k).2.1 ∧ (runA s k).2.1 ≤ Bd k) ∧ (-Ad k ≤ (runA s k).2.2 ∧ (runA s k).2.2 ≤ Ad k)
  | 0, _ => by
    show (-2251799813685248 ≤ s.1 ∧ s.1 ≤ 2251799813685248) ∧ (-2251799813685248 ≤ s.2.1 ∧ s.2.1 ≤ 2251799813685248) ∧ (-(0 : Int) ≤ s.2.2 ∧ s.2.2 ≤ 0)
    omega
  | k + 1, hk => by
    obtain ⟨⟨a1, a2⟩, ⟨b1, b2⟩, c1, c2⟩ := runA_bd s h1 h2 h3 k (by omega)
    have hp : (0 : Int) < 2 ^ k := Int.pow_pos (by decide)
    have dx := tdiv_bd _ _ _ hp a1 a2
    have dy := tdiv_bd _ _ _ hp b1 b2
    have ht := (tab_all k (by omega)).1
    have eB : Bd (k + 1) = Bd k + Bd k / 2 ^ k := rfl
    have eA : Ad (k + 1) = Ad k + tab k := rfl
    have hq : 0 ≤ Bd k / 2 ^ k := Int.ediv_nonneg (bd_all k (by omega)).1 (by omega)
    have er : runA s (k + 1) = stepA k (runA s k) := rfl
    rw [eB, eA, er]
    obtain ⟨⟨X, Y, Z⟩, hr⟩ : ∃ r, runA s k = r := ⟨_, rfl⟩
    rw [hr] at a1 a2 b1 b2 c1 c2 dx dy ⊢
    clear hr er eB eA
    dsimp only at a1 a2 b1 b2 c1 c2 dx dy
    unfold stepA
    dsimp only
    generalize Y.tdiv (2 ^ k) = ty at *
    generalize X.tdiv (2 ^ k) = tx at *
    generalize Bd k / 2 ^ k = q at *
    generalize Bd k = B at *
    generalize Ad k = A at *
    generalize tab k = T at *
    clear hp
    split
    · dsimp only; omega
    · split
      · dsimp only; omega
      · dsimp only; omega

set_option maxRecDepth 100000 in
set_option maxHeartbeats 4000000 in
theorem atan_any (y x : Int) (w : World) (p0 : B32 y) (p1 : B32 x) :
    Calls Try.prog 23 #[.int .i32 y, .int .i32 x] w fun e w' => e = .returned (.int .i32 (atanS y x)) ∧ Below w.heap.size w w' := by
  unfold B32 at p0 p1
  by_cases c0 : x = 0 ∧ y = 0
  case pos =>
    obtain ⟨rfl, rfl⟩ := c0
    go_enter Try.func23, Try.ntmps23
    go_wp2_with omega
    go_ret
    exact ⟨rfl, Below.refl _ _⟩
  have hV := hid (show atanS y x = _ from if_neg c0)
  have hr : 0 ≤ (if x < 0 then -x else x) ∧ (if x < 0 then -x else x) ≤ 2147483648 ∧ (x < 0 → (if x < 0 then -x else x) = -x) ∧ (0 ≤ x → (if x < 0 then -x else x) = x) := by split <;> omega
  generalize (if x < 0 then -x else x) = r0 at hr hV
  have hsum : 1 ≤ r0 + y.natAbs := by omega
  have e1 : IntKind.i64.wrap x = x := by rw [IntKind.wrap_i64]; omega
  have e2 : IntKind.i64.wrap (-x) = -x := by rw [IntKind.wrap_i64]; omega
  have e3 : IntKind.i64.wrap y = y := by rw [IntKind.wrap_i64]; omega
  have b0 : ((x == 0) && (y == 0)) = false := by
    simp only [Bool.and_eq_false_iff, beq_eq_false_iff_ne]
    omega
  replace hV := hid hV
  by_cases cx : x < 0
  case pos =>
    have hx := cx
    have hr0 : r0 = -x := hr.2.2.1 cx
    go_enter Try.func23, Try.ntmps23
    go_wp2_with omega
    go_loopw [5, 6] (fun r u wr => ∃ (n : Nat) (r1 u1 : Int), r = .int .i64 r1 ∧ u = .int .i64 u1 ∧ 0 ≤ r1 ∧ r1 ≤ 2147483648 ∧ -2147483648 ≤ u1 ∧ u1 ≤ 2147483648 ∧ 1 ≤ r1 + u1.natAbs ∧ Go.RowKit.Hid (normF n r1 u1 = normF 31 r0 y) ∧ Go.RowKit.Hid (2147483648 ≤ (r1 + u1.natAbs) * 2 ^ n) ∧ wr = w) (fun r u _ => (8589934592 - (intOf r + (intOf u).natAbs)).toNat)
    case atStart => exact ⟨31, r0, y, by rw [hr0], rfl, by omega, by omega, by omega, by omega, hsum, hid rfl, hid (by omega), rfl⟩
    case round =>
      obtain ⟨n, r1, u1, rfl, rfl, q1, q2, q3, q4, q5, hnF, hfu, rfl⟩ := hrel
      have hN : True := trivial
      by_cases c1 : r1 < 1073741824
      case neg =>
        have hc : ¬ (r1 < 1073741824 ∧ u1 < 1073741824 ∧ -1073741824 < u1) := by omega
        replace hN : normF 31 r0 y = (r1, u1) := by rw [← hnF.out]; exact normF_out _ hc
        clear hnF hfu
        have hW : atanS y x = IntKind.i32.wrap (2147483648 - (runA (r1 * 1048576, u1 * 1048576, 0) 31).2.2) := by rw [hV.out, hN, if_pos (by omega)]
        clear hN hc
        replace hW := hid hW
        have w1 : IntKind.i64.wrap (r1 * 1048576) = r1 * 1048576 := by rw [IntKind.wrap_i64]; omega
        have w2 : IntKind.i64.wrap (u1 * 1048576) = u1 * 1048576 := by rw [IntKind.wrap_i64]; omega
        have hb := hid (runA_bd (r1 * 1048576, u1 * 1048576, 0) (by dsimp only; omega) (by dsimp only; omega) rfl)
        go_wp2_with omega
        go_loopw [5, 6, 7, 41] (fun r u a i wz => ∃ k : Nat, k ≤ 31 ∧ i = .int .i64 k ∧ r = .int .i64 (runA (r1 * 1048576, u1 * 1048576, 0) k).1 ∧ u = .int .i64 (runA (r1 * 1048576, u1 * 1048576, 0) k).2.1 ∧ a = .int .i64 (runA (r1 * 1048576, u1 * 1048576, 0) k).2.2 ∧ Below wr.heap.size wr wz) (fun _ _ _ i _ => 31 - (intOf i).toNat)
        case atStart => exact ⟨0, by omega, rfl, rfl, rfl, rfl, Below.refl _ _⟩
        case round =>
          clear w1 w2
          obtain ⟨k, hk, rfl, rfl, rfl, rfl, hB⟩ := hrel
          have hbk := hb.out k hk
          have hbb := bd_all k (by omega)
          by_cases hlt : (k : Int) < 31
          case neg =>
            obtain rfl : k = 31 := by omega
            clear hb
            generalize (runA (r1 * 1048576, u1 * 1048576, 0) 31).2.2 = a at *
            have w3 : IntKind.i64.wrap (2147483648 - a) = 2147483648 - a := by rw [IntKind.wrap_i64]; omega
            clear hbk hbb
            replace hB := hid hB
            go_wp2_with omega
            go_ret
            exact ⟨by rw [hW.out, IntKind.wrap_i32]; unfold wrap32; rfl, hB.out⟩
          have hk2 : k < 31 := by omega
          have ht := tab_all k hk2
          obtain ⟨P, hP⟩ : ∃ P : Int, 2 ^ k = P := ⟨_, rfl⟩
          have hP1 : 1 ≤ P ∧ P ≤ 1073741824 := by rw [← hP]; exact pow_all k hk2
          have hst : runA (r1 * 1048576, u1 * 1048576, 0) (k + 1) = stepA k (runA (r1 * 1048576, u1 * 1048576, 0) k) := rfl
          obtain ⟨⟨X, Y, Z⟩, hr⟩ : ∃ r, runA (r1 * 1048576, u1 * 1048576, 0) k = r := ⟨_, rfl⟩
          rw [hr] at hst hbk ⊢
          dsimp only at hbk ⊢
          clear hr
          unfold stepA at hst
          dsimp only at hst
          rw [hP] at hst
          have kA := fun (v : World) => angle_any k v hk2
          generalize tab k = T at *
          have w3 : IntKind.i64.wrap (Z + T) = Z + T := by rw [IntKind.wrap_i64]; omega
          have w4 : IntKind.i64.wrap (Z - T) = Z - T := by rw [IntKind.wrap_i64]; omega
          by_cases cp : 0 < Y
          · have cy := cp
            rw [if_pos cy] at hst
            have kS := fun (v : World) => spinm_any X Y P k v hk2 hP hP1.1 hP1.2 (by omega) (by omega) (by omega) (by omega)
            clear hP hP1 hbb hbk ht
            generalize Y.tdiv P = dy at *
            generalize X.tdiv P = dx at *
            replace hst := hid hst
            replace hB := hid hB
            go_wp2_with omega
            refine (kS _).mono ?_
            rintro e V ⟨rfl, hs1⟩
            go_wp2_with omega
            refine (kA _).mono ?_
            rintro e V2 ⟨rfl, hs2⟩
            have hB2 := hid (bthen (bthen hB.out hs1) hs2)
            clear hs1 hs2 hB
            go_wp2_with omega
            go_roundw
            case rel => first | exact ⟨k + 1, by omega, by simp, by rw [hst.out], by rw [hst.out], by rw [hst.out], hB2.out⟩ | ((repeat apply Exists.intro); exact ⟨⟨k + 1, by omega, by simp, by rw [hst.out], by rw [hst.out], by rw [hst.out], hB2.out⟩, rfl⟩)
            case measure => show 31 - ((k : Int) + 1).toNat < 31 - (k : Int).toNat; omega
          by_cases cy : Y < 0
          · rw [if_neg cp, if_pos cy] at hst
            have kS := fun (v : World) => spinp_any X Y P k v hk2 hP hP1.1 hP1.2 (by omega) (by omega) (by omega) (by omega)
            clear hP hP1 hbb hbk ht
            generalize Y.tdiv P = dy at *
            generalize X.tdiv P = dx at *
            replace hst := hid hst
            replace hB := hid hB
            go_wp2_with omega
            refine (kS _).mono ?_
            rintro e V ⟨rfl, hs1⟩
            go_wp2_with omega
            refine (kA _).mono ?_
            rintro e V2 ⟨rfl, hs2⟩
            have hB2 := hid (bthen (bthen hB.out hs1) hs2)
            clear hs1 hs2 hB
            go_wp2_with omega
            go_roundw
            case rel => first | exact ⟨k + 1, by omega, by simp, by rw [hst.out], by rw [hst.out], by rw [hst.out], hB2.out⟩ | ((repeat apply Exists.intro); exact ⟨⟨k + 1, by omega, by simp, by rw [hst.out], by rw [hst.out], by rw [hst.out], hB2.out⟩, rfl⟩)
            case measure => show 31 - ((k : Int) + 1).toNat < 31 - (k : Int).toNat; omega
          obtain rfl : Y = 0 := by omega
          rw [if_neg cp, if_neg cy] at hst
          clear kA hP hP1 hbb hbk ht
          replace hst := hid hst
          replace hB := hid hB
          go_wp2_with omega
          go_roundw
          case rel => first | exact ⟨k + 1, by omega, by simp, by rw [hst.out], by rw [hst.out], by rw [hst.out], hB.out⟩ | ((repeat apply Exists.intro); exact ⟨⟨k + 1, by omega, by simp, by rw [hst.out], by rw [hst.out], by rw [hst.out], hB.out⟩, rfl⟩)
          case measure => show 31 - ((k : Int) + 1).toNat < 31 - (k : Int).toNat; omega
      by_cases c2 : u1 < 1073741824
      case neg =>
        have hc : ¬ (r1 < 1073741824 ∧ u1 < 1073741824 ∧ -1073741824 < u1) := by omega
        replace hN : normF 31 r0 y = (r1, u1) := by rw [← hnF.out]; exact normF_out _ hc
        clear hnF hfu
        have hW : atanS y x = IntKind.i32.wrap (2147483648 - (runA (r1 * 1048576, u1 * 1048576, 0) 31).2.2) := by rw [hV.out, hN, if_pos (by omega)]
        clear hN hc
        replace hW := hid hW
        have w1 : IntKind.i64.wrap (r1 * 1048576) = r1 * 1048576 := by rw [IntKind.wrap_i64]; omega
        have w2 : IntKind.i64.wrap (u1 * 1048576) = u1 * 1048576 := by rw [IntKind.wrap_i64]; omega
        have hb := hid (runA_bd (r1 * 1048576, u1 * 1048576, 0) (by dsimp only; omega) (by dsimp only; omega) rfl)
        go_wp2_with omega
        go_loopw [5, 6, 7, 41] (fun r u a i wz => ∃ k : Nat, k ≤ 31 ∧ i = .int .i64 k ∧ r = .int .i64 (runA (r1 * 1048576, u1 * 1048576, 0) k).1 ∧ u = .int .i64 (runA (r1 * 1048576, u1 * 1048576, 0) k).2.1 ∧ a = .int .i64 (runA (r1 * 1048576, u1 * 1048576, 0) k).2.2 ∧ Below wr.heap.size wr wz) (fun _ _ _ i _ => 31 - (intOf i).toNat)
        case atStart => exact ⟨0, by omega, rfl, rfl, rfl, rfl, Below.refl _ _⟩
        case round =>
          clear w1 w2
          obtain ⟨k, hk, rfl, rfl, rfl, rfl, hB⟩ := hrel
          have hbk := hb.out k hk
          have hbb := bd_all k (by omega)
          by_cases hlt : (k : Int) < 31
          case neg =>
            obtain rfl : k = 31 := by omega
            clear hb
            generalize (runA (r1 * 1048576, u1 * 1048576, 0) 31).2.2 = a at *
            have w3 : IntKind.i64.wrap (2147483648 - a) = 2147483648 - a := by rw [IntKind.wrap_i64]; omega
            clear hbk hbb
            replace hB := hid hB
            go_wp2_with omega
            go_ret
            exact ⟨by rw [hW.out, IntKind.wrap_i32]; unfold wrap32; rfl, hB.out⟩
          have hk2 : k < 31 := by omega
          have ht := tab_all k hk2
          obtain ⟨P, hP⟩ : ∃ P : Int, 2 ^ k = P := ⟨_, rfl⟩
          have hP1 : 1 ≤ P ∧ P ≤ 1073741824 := by rw [← hP]; exact pow_all k hk2
          have hst : runA (r1 * 1048576, u1 * 1048576, 0) (k + 1) = stepA k (runA (r1 * 1048576, u1 * 1048576, 0) k) := rfl
          obtain ⟨⟨X, Y, Z⟩, hr⟩ : ∃ r, runA (r1 * 1048576, u1 * 1048576, 0) k = r := ⟨_, rfl⟩
          rw [hr] at hst hbk ⊢
          dsimp only at hbk ⊢
          clear hr
          unfold stepA at hst
          dsimp only at hst
          rw [hP] at hst
          have kA := fun (v : World) => angle_any k v hk2
          generalize tab k = T at *
          have w3 : IntKind.i64.wrap (Z + T) = Z + T := by rw [IntKind.wrap_i64]; omega
          have w4 : IntKind.i64.wrap (Z - T) = Z - T := by rw [IntKind.wrap_i64]; omega
          by_cases cp : 0 < Y
          · have cy := cp
            rw [if_pos cy] at hst
            have kS := fun (v : World) => spinm_any X Y P k v hk2 hP hP1.1 hP1.2 (by omega) (by omega) (by omega) (by omega)
            clear hP hP1 hbb hbk ht
            generalize Y.tdiv P = dy at *
            generalize X.tdiv P = dx at *
            replace hst := hid hst
            replace hB := hid hB
            go_wp2_with omega
            refine (kS _).mono ?_
            rintro e V ⟨rfl, hs1⟩
            go_wp2_with omega
            refine (kA _).mono ?_
            rintro e V2 ⟨rfl, hs2⟩
            have hB2 := hid (bthen (bthen hB.out hs1) hs2)
            clear hs1 hs2 hB
            go_wp2_with omega
            go_roundw
            case rel => first | exact ⟨k + 1, by omega, by simp, by rw [hst.out], by rw [hst.out], by rw [hst.out], hB2.out⟩ | ((repeat apply Exists.intro); exact ⟨⟨k + 1, by omega, by simp, by rw [hst.out], by rw [hst.out], by rw [hst.out], hB2.out⟩, rfl⟩)
            case measure => show 31 - ((k : Int) + 1).toNat < 31 - (k : Int).toNat; omega
          by_cases cy : Y < 0
          · rw [if_neg cp, if_pos cy] at hst
            have kS := fun (v : World) => spinp_any X Y P k v hk2 hP hP1.1 hP1.2 (by omega) (by omega) (by omega) (by omega)
            clear hP hP1 hbb hbk ht
            generalize Y.tdiv P = dy at *
            generalize X.tdiv P = dx at *
            replace hst := hid hst
            replace hB := hid hB
            go_wp2_with omega
            refine (kS _).mono ?_
            rintro e V ⟨rfl, hs1⟩
            go_wp2_with omega
            refine (kA _).mono ?_
            rintro e V2 ⟨rfl, hs2⟩
            have hB2 := hid (bthen (bthen hB.out hs1) hs2)
            clear hs1 hs2 hB
            go_wp2_with omega
            go_roundw
            case rel => first | exact ⟨k + 1, by omega, by simp, by rw [hst.out], by rw [hst.out], by rw [hst.out], hB2.out⟩ | ((repeat apply Exists.intro); exact ⟨⟨k + 1, by omega, by simp, by rw [hst.out], by rw [hst.out], by rw [hst.out], hB2.out⟩, rfl⟩)
            case measure => show 31 - ((k : Int) + 1).toNat < 31 - (k : Int).toNat; omega
          obtain rfl : Y = 0 := by omega
          rw [if_neg cp, if_neg cy] at hst
          clear kA hP hP1 hbb hbk ht
          replace hst := hid hst
          replace hB := hid hB
          go_wp2_with omega
          go_roundw
          case rel => first | exact ⟨k + 1, by omega, by simp, by rw [hst.out], by rw [hst.out], by rw [hst.out], hB.out⟩ | ((repeat apply Exists.intro); exact ⟨⟨k + 1, by omega, by simp, by rw [hst.out], by rw [hst.out], by rw [hst.out], hB.out⟩, rfl⟩)
          case measure => show 31 - ((k : Int) + 1).toNat < 31 - (k : Int).toNat; omega
      by_cases c3 : -1073741824 < u1
      case neg =>
        have hc : ¬ (r1 < 1073741824 ∧ u1 < 1073741824 ∧ -1073741824 < u1) := by omega
        replace hN : normF 31 r0 y = (r1, u1) := by rw [← hnF.out]; exact normF_out _ hc
        clear hnF hfu
        have hW : atanS y x = IntKind.i32.wrap (2147483648 - (runA (r1 * 1048576, u1 * 1048576, 0) 31).2.2) := by rw [hV.out, hN, if_pos (by omega)]
        clear hN hc
        replace hW := hid hW
        have w1 : IntKind.i64.wrap (r1 * 1048576) = r1 * 1048576 := by rw [IntKind.wrap_i64]; omega
        have w2 : IntKind.i64.wrap (u1 * 1048576) = u1 * 1048576 := by rw [IntKind.wrap_i64]; omega
        have hb := hid (runA_bd (r1 * 1048576, u1 * 1048576, 0) (by dsimp only; omega) (by dsimp only; omega) rfl)
        go_wp2_with omega
        go_loopw [5, 6, 7, 41] (fun r u a i wz => ∃ k : Nat, k ≤ 31 ∧ i = .int .i64 k ∧ r = .int .i64 (runA (r1 * 1048576, u1 * 1048576, 0) k).1 ∧ u = .int .i64 (runA (r1 * 1048576, u1 * 1048576, 0) k).2.1 ∧ a = .int .i64 (runA (r1 * 1048576, u1 * 1048576, 0) k).2.2 ∧ Below wr.heap.size wr wz) (fun _ _ _ i _ => 31 - (intOf i).toNat)
        case atStart => exact ⟨0, by omega, rfl, rfl, rfl, rfl, Below.refl _ _⟩
        case round =>
          clear w1 w2
          obtain ⟨k, hk, rfl, rfl, rfl, rfl, hB⟩ := hrel
          have hbk := hb.out k hk
          have hbb := bd_all k (by omega)
          by_cases hlt : (k : Int) < 31
          case neg =>
            obtain rfl : k = 31 := by omega
            clear hb
            generalize (runA (r1 * 1048576, u1 * 1048576, 0) 31).2.2 = a at *
            have w3 : IntKind.i64.wrap (2147483648 - a) = 2147483648 - a := by rw [IntKind.wrap_i64]; omega
            clear hbk hbb
            replace hB := hid hB
            go_wp2_with omega
            go_ret
            exact ⟨by rw [hW.out, IntKind.wrap_i32]; unfold wrap32; rfl, hB.out⟩
          have hk2 : k < 31 := by omega
          have ht := tab_all k hk2
          obtain ⟨P, hP⟩ : ∃ P : Int, 2 ^ k = P := ⟨_, rfl⟩
          have hP1 : 1 ≤ P ∧ P ≤ 1073741824 := by rw [← hP]; exact pow_all k hk2
          have hst : runA (r1 * 1048576, u1 * 1048576, 0) (k + 1) = stepA k (runA (r1 * 1048576, u1 * 1048576, 0) k) := rfl
          obtain ⟨⟨X, Y, Z⟩, hr⟩ : ∃ r, runA (r1 * 1048576, u1 * 1048576, 0) k = r := ⟨_, rfl⟩
          rw [hr] at hst hbk ⊢
          dsimp only at hbk ⊢
          clear hr
          unfold stepA at hst
          dsimp only at hst
          rw [hP] at hst
          have kA := fun (v : World) => angle_any k v hk2
          generalize tab k = T at *
          have w3 : IntKind.i64.wrap (Z + T) = Z + T := by rw [IntKind.wrap_i64]; omega
          have w4 : IntKind.i64.wrap (Z - T) = Z - T := by rw [IntKind.wrap_i64]; omega
          by_cases cp : 0 < Y
          · have cy := cp
            rw [if_pos cy] at hst
            have kS := fun (v : World) => spinm_any X Y P k v hk2 hP hP1.1 hP1.2 (by omega) (by omega) (by omega) (by omega)
            clear hP hP1 hbb hbk ht
            generalize Y.tdiv P = dy at *
            generalize X.tdiv P = dx at *
            replace hst := hid hst
            replace hB := hid hB
            go_wp2_with omega
            refine (kS _).mono ?_
            rintro e V ⟨rfl, hs1⟩
            go_wp2_with omega
            refine (kA _).mono ?_
            rintro e V2 ⟨rfl, hs2⟩
            have hB2 := hid (bthen (bthen hB.out hs1) hs2)
            clear hs1 hs2 hB
            go_wp2_with omega
            go_roundw
            case rel => first | exact ⟨k + 1, by omega, by simp, by rw [hst.out], by rw [hst.out], by rw [hst.out], hB2.out⟩ | ((repeat apply Exists.intro); exact ⟨⟨k + 1, by omega, by simp, by rw [hst.out], by rw [hst.out], by rw [hst.out], hB2.out⟩, rfl⟩)
            case measure => show 31 - ((k : Int) + 1).toNat < 31 - (k : Int).toNat; omega
          by_cases cy : Y < 0
          · rw [if_neg cp, if_pos cy] at hst
            have kS := fun (v : World) => spinp_any X Y P k v hk2 hP hP1.1 hP1.2 (by omega) (by omega) (by omega) (by omega)
            clear hP hP1 hbb hbk ht
            generalize Y.tdiv P = dy at *
            generalize X.tdiv P = dx at *
            replace hst := hid hst
            replace hB := hid hB
            go_wp2_with omega
            refine (kS _).mono ?_
            rintro e V ⟨rfl, hs1⟩
            go_wp2_with omega
            refine (kA _).mono ?_
            rintro e V2 ⟨rfl, hs2⟩
            have hB2 := hid (bthen (bthen hB.out hs1) hs2)
            clear hs1 hs2 hB
            go_wp2_with omega
            go_roundw
            case rel => first | exact ⟨k + 1, by omega, by simp, by rw [hst.out], by rw [hst.out], by rw [hst.out], hB2.out⟩ | ((repeat apply Exists.intro); exact ⟨⟨k + 1, by omega, by simp, by rw [hst.out], by rw [hst.out], by rw [hst.out], hB2.out⟩, rfl⟩)
            case measure => show 31 - ((k : Int) + 1).toNat < 31 - (k : Int).toNat; omega
          obtain rfl : Y = 0 := by omega
          rw [if_neg cp, if_neg cy] at hst
          clear kA hP hP1 hbb hbk ht
          replace hst := hid hst
          replace hB := hid hB
          go_wp2_with omega
          go_roundw
          case rel => first | exact ⟨k + 1, by omega, by simp, by rw [hst.out], by rw [hst.out], by rw [hst.out], hB.out⟩ | ((repeat apply Exists.intro); exact ⟨⟨k + 1, by omega, by simp, by rw [hst.out], by rw [hst.out], by rw [hst.out], hB.out⟩, rfl⟩)
          case measure => show 31 - ((k : Int) + 1).toNat < 31 - (k : Int).toNat; omega
      cases n with
      | zero =>
        have := hfu.out
        have h9 := hfu.out
        rw [show (2 : Int) ^ 0 = 1 by rfl, Int.mul_one] at h9
        omega
      | succ m =>
        have hn2 := hid ((normF_in m ⟨c1, c2, c3⟩).symm.trans hnF.out)
        have hf2 := hid (show 2147483648 ≤ (2 * r1 + (2 * u1).natAbs) * 2 ^ m by have h9 := hfu.out; rw [Int.pow_succ] at h9; rw [show (2 * r1 + ((2 * u1).natAbs : Int)) = (r1 + u1.natAbs) * 2 by omega, Int.mul_assoc, Int.mul_comm 2]; exact h9)
        clear hnF hfu
        have w1 : IntKind.i64.wrap (2 * r1) = 2 * r1 := by rw [IntKind.wrap_i64]; omega
        have w2 : IntKind.i64.wrap (2 * u1) = 2 * u1 := by rw [IntKind.wrap_i64]; omega
        go_wp2_with omega
        go_roundw
        case rel => exact ⟨m, 2 * r1, 2 * u1, rfl, rfl, by omega, by omega, by omega, by omega, by omega, hn2, hf2, trivial⟩
        case measure => simp only [intOf]; omega
  by_cases cx : x = 0
  case pos =>
    have hx : ¬ x < 0 := by omega
    have hr0 : r0 = 0 := by have := hr.2.2.2 (by omega); omega
    subst cx
    have by0 : (y == 0) = false := by simp; omega
    clear b0
    go_enter Try.func23, Try.ntmps23
    go_wp2_with omega
    go_loopw [5, 6] (fun r u wr => ∃ (n : Nat) (r1 u1 : Int), r = .int .i64 r1 ∧ u = .int .i64 u1 ∧ 0 ≤ r1 ∧ r1 ≤ 2147483648 ∧ -2147483648 ≤ u1 ∧ u1 ≤ 2147483648 ∧ 1 ≤ r1 + u1.natAbs ∧ Go.RowKit.Hid (normF n r1 u1 = normF 31 r0 y) ∧ Go.RowKit.Hid (2147483648 ≤ (r1 + u1.natAbs) * 2 ^ n) ∧ wr = w) (fun r u _ => (8589934592 - (intOf r + (intOf u).natAbs)).toNat)
    case atStart => exact ⟨31, r0, y, by rw [hr0], rfl, by omega, by omega, by omega, by omega, hsum, hid rfl, hid (by omega), rfl⟩
    case round =>
      obtain ⟨n, r1, u1, rfl, rfl, q1, q2, q3, q4, q5, hnF, hfu, rfl⟩ := hrel
      have hN : True := trivial
      by_cases c1 : r1 < 1073741824
      case neg =>
        have hc : ¬ (r1 < 1073741824 ∧ u1 < 1073741824 ∧ -1073741824 < u1) := by omega
        replace hN : normF 31 r0 y = (r1, u1) := by rw [← hnF.out]; exact normF_out _ hc
        clear hnF hfu
        have hW : atanS y 0 = IntKind.i32.wrap ((runA (r1 * 1048576, u1 * 1048576, 0) 31).2.2) := by rw [hV.out, hN, if_neg (by omega)]
        clear hN hc
        replace hW := hid hW
        have w1 : IntKind.i64.wrap (r1 * 1048576) = r1 * 1048576 := by rw [IntKind.wrap_i64]; omega
        have w2 : IntKind.i64.wrap (u1 * 1048576) = u1 * 1048576 := by rw [IntKind.wrap_i64]; omega
        have hb := hid (runA_bd (r1 * 1048576, u1 * 1048576, 0) (by dsimp only; omega) (by dsimp only; omega) rfl)
        go_wp2_with omega
        go_loopw [5, 6, 7, 41] (fun r u a i wz => ∃ k : Nat, k ≤ 31 ∧ i = .int .i64 k ∧ r = .int .i64 (runA (r1 * 1048576, u1 * 1048576, 0) k).1 ∧ u = .int .i64 (runA (r1 * 1048576, u1 * 1048576, 0) k).2.1 ∧ a = .int .i64 (runA (r1 * 1048576, u1 * 1048576, 0) k).2.2 ∧ Below wr.heap.size wr wz) (fun _ _ _ i _ => 31 - (intOf i).toNat)
        case atStart => exact ⟨0, by omega, rfl, rfl, rfl, rfl, Below.refl _ _⟩
        case round =>
          clear w1 w2
          obtain ⟨k, hk, rfl, rfl, rfl, rfl, hB⟩ := hrel
          have hbk := hb.out k hk
          have hbb := bd_all k (by omega)
          by_cases hlt : (k : Int) < 31
          case neg =>
            obtain rfl : k = 31 := by omega
            clear hb
            generalize (runA (r1 * 1048576, u1 * 1048576, 0) 31).2.2 = a at *
            have w3 : IntKind.i64.wrap (2147483648 - a) = 2147483648 - a := by rw [IntKind.wrap_i64]; omega
            clear hbk hbb
            replace hB := hid hB
            go_wp2_with omega
            go_ret
            exact ⟨by rw [hW.out, IntKind.wrap_i32]; unfold wrap32; rfl, hB.out⟩
          have hk2 : k < 31 := by omega
          have ht := tab_all k hk2
          obtain ⟨P, hP⟩ : ∃ P : Int, 2 ^ k = P := ⟨_, rfl⟩
          have hP1 : 1 ≤ P ∧ P ≤ 1073741824 := by rw [← hP]; exact pow_all k hk2
          have hst : runA (r1 * 1048576, u1 * 1048576, 0) (k + 1) = stepA k (runA (r1 * 1048576, u1 * 1048576, 0) k) := rfl
          obtain ⟨⟨X, Y, Z⟩, hr⟩ : ∃ r, runA (r1 * 1048576, u1 * 1048576, 0) k = r := ⟨_, rfl⟩
          rw [hr] at hst hbk ⊢
          dsimp only at hbk ⊢
          clear hr
          unfold stepA at hst
          dsimp only at hst
          rw [hP] at hst
          have kA := fun (v : World) => angle_any k v hk2
          generalize tab k = T at *
          have w3 : IntKind.i64.wrap (Z + T) = Z + T := by rw [IntKind.wrap_i64]; omega
          have w4 : IntKind.i64.wrap (Z - T) = Z - T := by rw [IntKind.wrap_i64]; omega
          by_cases cp : 0 < Y
          · have cy := cp
            rw [if_pos cy] at hst
            have kS := fun (v : World) => spinm_any X Y P k v hk2 hP hP1.1 hP1.2 (by omega) (by omega) (by omega) (by omega)
            clear hP hP1 hbb hbk ht
            generalize Y.tdiv P = dy at *
            generalize X.tdiv P = dx at *
            replace hst := hid hst
            replace hB := hid hB
            go_wp2_with omega
            refine (kS _).mono ?_
            rintro e V ⟨rfl, hs1⟩
            go_wp2_with omega
            refine (kA _).mono ?_
            rintro e V2 ⟨rfl, hs2⟩
            have hB2 := hid (bthen (bthen hB.out hs1) hs2)
            clear hs1 hs2 hB
            go_wp2_with omega
            go_roundw
            case rel => first | exact ⟨k + 1, by omega, by simp, by rw [hst.out], by rw [hst.out], by rw [hst.out], hB2.out⟩ | ((repeat apply Exists.intro); exact ⟨⟨k + 1, by omega, by simp, by rw [hst.out], by rw [hst.out], by rw [hst.out], hB2.out⟩, rfl⟩)
            case measure => show 31 - ((k : Int) + 1).toNat < 31 - (k : Int).toNat; omega
          by_cases cy : Y < 0
          · rw [if_neg cp, if_pos cy] at hst
            have kS := fun (v : World) => spinp_any X Y P k v hk2 hP hP1.1 hP1.2 (by omega) (by omega) (by omega) (by omega)
            clear hP hP1 hbb hbk ht
            generalize Y.tdiv P = dy at *
            generalize X.tdiv P = dx at *
            replace hst := hid hst
            replace hB := hid hB
            go_wp2_with omega
            refine (kS _).mono ?_
            rintro e V ⟨rfl, hs1⟩
            go_wp2_with omega
            refine (kA _).mono ?_
            rintro e V2 ⟨rfl, hs2⟩
            have hB2 := hid (bthen (bthen hB.out hs1) hs2)
            clear hs1 hs2 hB
            go_wp2_with omega
            go_roundw
            case rel => first | exact ⟨k + 1, by omega, by simp, by rw [hst.out], by rw [hst.out], by rw [hst.out], hB2.out⟩ | ((repeat apply Exists.intro); exact ⟨⟨k + 1, by omega, by simp, by rw [hst.out], by rw [hst.out], by rw [hst.out], hB2.out⟩, rfl⟩)
            case measure => show 31 - ((k : Int) + 1).toNat < 31 - (k : Int).toNat; omega
          obtain rfl : Y = 0 := by omega
          rw [if_neg cp, if_neg cy] at hst
          clear kA hP hP1 hbb hbk ht
          replace hst := hid hst
          replace hB := hid hB
          go_wp2_with omega
          go_roundw
          case rel => first | exact ⟨k + 1, by omega, by simp, by rw [hst.out], by rw [hst.out], by rw [hst.out], hB.out⟩ | ((repeat apply Exists.intro); exact ⟨⟨k + 1, by omega, by simp, by rw [hst.out], by rw [hst.out], by rw [hst.out], hB.out⟩, rfl⟩)
          case measure => show 31 - ((k : Int) + 1).toNat < 31 - (k : Int).toNat; omega
      by_cases c2 : u1 < 1073741824
      case neg =>
        have hc : ¬ (r1 < 1073741824 ∧ u1 < 1073741824 ∧ -1073741824 < u1) := by omega
        replace hN : normF 31 r0 y = (r1, u1) := by rw [← hnF.out]; exact normF_out _ hc
        clear hnF hfu
        have hW : atanS y 0 = IntKind.i32.wrap ((runA (r1 * 1048576, u1 * 1048576, 0) 31).2.2) := by rw [hV.out, hN, if_neg (by omega)]
        clear hN hc
        replace hW := hid hW
        have w1 : IntKind.i64.wrap (r1 * 1048576) = r1 * 1048576 := by rw [IntKind.wrap_i64]; omega
        have w2 : IntKind.i64.wrap (u1 * 1048576) = u1 * 1048576 := by rw [IntKind.wrap_i64]; omega
        have hb := hid (runA_bd (r1 * 1048576, u1 * 1048576, 0) (by dsimp only; omega) (by dsimp only; omega) rfl)
        go_wp2_with omega
        go_loopw [5, 6, 7, 41] (fun r u a i wz => ∃ k : Nat, k ≤ 31 ∧ i = .int .i64 k ∧ r = .int .i64 (runA (r1 * 1048576, u1 * 1048576, 0) k).1 ∧ u = .int .i64 (runA (r1 * 1048576, u1 * 1048576, 0) k).2.1 ∧ a = .int .i64 (runA (r1 * 1048576, u1 * 1048576, 0) k).2.2 ∧ Below wr.heap.size wr wz) (fun _ _ _ i _ => 31 - (intOf i).toNat)
        case atStart => exact ⟨0, by omega, rfl, rfl, rfl, rfl, Below.refl _ _⟩
        case round =>
          clear w1 w2
          obtain ⟨k, hk, rfl, rfl, rfl, rfl, hB⟩ := hrel
          have hbk := hb.out k hk
          have hbb := bd_all k (by omega)
          by_cases hlt : (k : Int) < 31
          case neg =>
            obtain rfl : k = 31 := by omega
            clear hb
            generalize (runA (r1 * 1048576, u1 * 1048576, 0) 31).2.2 = a at *
            have w3 : IntKind.i64.wrap (2147483648 - a) = 2147483648 - a := by rw [IntKind.wrap_i64]; omega
            clear hbk hbb
            replace hB := hid hB
            go_wp2_with omega
            go_ret
            exact ⟨by rw [hW.out, IntKind.wrap_i32]; unfold wrap32; rfl, hB.out⟩
          have hk2 : k < 31 := by omega
          have ht := tab_all k hk2
          obtain ⟨P, hP⟩ : ∃ P : Int, 2 ^ k = P := ⟨_, rfl⟩
          have hP1 : 1 ≤ P ∧ P ≤ 1073741824 := by rw [← hP]; exact pow_all k hk2
          have hst : runA (r1 * 1048576, u1 * 1048576, 0) (k + 1) = stepA k (runA (r1 * 1048576, u1 * 1048576, 0) k) := rfl
          obtain ⟨⟨X, Y, Z⟩, hr⟩ : ∃ r, runA (r1 * 1048576, u1 * 1048576, 0) k = r := ⟨_, rfl⟩
          rw [hr] at hst hbk ⊢
          dsimp only at hbk ⊢
          clear hr
          unfold stepA at hst
          dsimp only at hst
          rw [hP] at hst
          have kA := fun (v : World) => angle_any k v hk2
          generalize tab k = T at *
          have w3 : IntKind.i64.wrap (Z + T) = Z + T := by rw [IntKind.wrap_i64]; omega
          have w4 : IntKind.i64.wrap (Z - T) = Z - T := by rw [IntKind.wrap_i64]; omega
          by_cases cp : 0 < Y
          · have cy := cp
            rw [if_pos cy] at hst
            have kS := fun (v : World) => spinm_any X Y P k v hk2 hP hP1.1 hP1.2 (by omega) (by omega) (by omega) (by omega)
            clear hP hP1 hbb hbk ht
            generalize Y.tdiv P = dy at *
            generalize X.tdiv P = dx at *
            replace hst := hid hst
            replace hB := hid hB
            go_wp2_with omega
            refine (kS _).mono ?_
            rintro e V ⟨rfl, hs1⟩
            go_wp2_with omega
            refine (kA _).mono ?_
            rintro e V2 ⟨rfl, hs2⟩
            have hB2 := hid (bthen (bthen hB.out hs1) hs2)
            clear hs1 hs2 hB
            go_wp2_with omega
            go_roundw
            case rel => first | exact ⟨k + 1, by omega, by simp, by rw [hst.out], by rw [hst.out], by rw [hst.out], hB2.out⟩ | ((repeat apply Exists.intro); exact ⟨⟨k + 1, by omega, by simp, by rw [hst.out], by rw [hst.out], by rw [hst.out], hB2.out⟩, rfl⟩)
            case measure => show 31 - ((k : Int) + 1).toNat < 31 - (k : Int).toNat; omega
          by_cases cy : Y < 0
          · rw [if_neg cp, if_pos cy] at hst
            have kS := fun (v : World) => spinp_any X Y P k v hk2 hP hP1.1 hP1.2 (by omega) (by omega) (by omega) (by omega)
            clear hP hP1 hbb hbk ht
            generalize Y.tdiv P = dy at *
            generalize X.tdiv P = dx at *
            replace hst := hid hst
            replace hB := hid hB
            go_wp2_with omega
            refine (kS _).mono ?_
            rintro e V ⟨rfl, hs1⟩
            go_wp2_with omega
            refine (kA _).mono ?_
            rintro e V2 ⟨rfl, hs2⟩
            have hB2 := hid (bthen (bthen hB.out hs1) hs2)
            clear hs1 hs2 hB
            go_wp2_with omega
            go_roundw
            case rel => first | exact ⟨k + 1, by omega, by simp, by rw [hst.out], by rw [hst.out], by rw [hst.out], hB2.out⟩ | ((repeat apply Exists.intro); exact ⟨⟨k + 1, by omega, by simp, by rw [hst.out], by rw [hst.out], by rw [hst.out], hB2.out⟩, rfl⟩)
            case measure => show 31 - ((k : Int) + 1).toNat < 31 - (k : Int).toNat; omega
          obtain rfl : Y = 0 := by omega
          rw [if_neg cp, if_neg cy] at hst
          clear kA hP hP1 hbb hbk ht
          replace hst := hid hst
          replace hB := hid hB
          go_wp2_with omega
          go_roundw
          case rel => first | exact ⟨k + 1, by omega, by simp, by rw [hst.out], by rw [hst.out], by rw [hst.out], hB.out⟩ | ((repeat apply Exists.intro); exact ⟨⟨k + 1, by omega, by simp, by rw [hst.out], by rw [hst.out], by rw [hst.out], hB.out⟩, rfl⟩)
          case measure => show 31 - ((k : Int) + 1).toNat < 31 - (k : Int).toNat; omega
      by_cases c3 : -1073741824 < u1
      case neg =>
        have hc : ¬ (r1 < 1073741824 ∧ u1 < 1073741824 ∧ -1073741824 < u1) := by omega
        replace hN : normF 31 r0 y = (r1, u1) := by rw [← hnF.out]; exact normF_out _ hc
        clear hnF hfu
        have hW : atanS y 0 = IntKind.i32.wrap ((runA (r1 * 1048576, u1 * 1048576, 0) 31).2.2) := by rw [hV.out, hN, if_neg (by omega)]
        clear hN hc
        replace hW := hid hW
        have w1 : IntKind.i64.wrap (r1 * 1048576) = r1 * 1048576 := by rw [IntKind.wrap_i64]; omega
        have w2 : IntKind.i64.wrap (u1 * 1048576) = u1 * 1048576 := by rw [IntKind.wrap_i64]; omega
        have hb := hid (runA_bd (r1 * 1048576, u1 * 1048576, 0) (by dsimp only; omega) (by dsimp only; omega) rfl)
        go_wp2_with omega
        go_loopw [5, 6, 7, 41] (fun r u a i wz => ∃ k : Nat, k ≤ 31 ∧ i = .int .i64 k ∧ r = .int .i64 (runA (r1 * 1048576, u1 * 1048576, 0) k).1 ∧ u = .int .i64 (runA (r1 * 1048576, u1 * 1048576, 0) k).2.1 ∧ a = .int .i64 (runA (r1 * 1048576, u1 * 1048576, 0) k).2.2 ∧ Below wr.heap.size wr wz) (fun _ _ _ i _ => 31 - (intOf i).toNat)
        case atStart => exact ⟨0, by omega, rfl, rfl, rfl, rfl, Below.refl _ _⟩
        case round =>
          clear w1 w2
          obtain ⟨k, hk, rfl, rfl, rfl, rfl, hB⟩ := hrel
          have hbk := hb.out k hk
          have hbb := bd_all k (by omega)
          by_cases hlt : (k : Int) < 31
          case neg =>
            obtain rfl : k = 31 := by omega
            clear hb
            generalize (runA (r1 * 1048576, u1 * 1048576, 0) 31).2.2 = a at *
            have w3 : IntKind.i64.wrap (2147483648 - a) = 2147483648 - a := by rw [IntKind.wrap_i64]; omega
            clear hbk hbb
            replace hB := hid hB
            go_wp2_with omega
            go_ret
            exact ⟨by rw [hW.out, IntKind.wrap_i32]; unfold wrap32; rfl, hB.out⟩
          have hk2 : k < 31 := by omega
          have ht := tab_all k hk2
          obtain ⟨P, hP⟩ : ∃ P : Int, 2 ^ k = P := ⟨_, rfl⟩
          have hP1 : 1 ≤ P ∧ P ≤ 1073741824 := by rw [← hP]; exact pow_all k hk2
          have hst : runA (r1 * 1048576, u1 * 1048576, 0) (k + 1) = stepA k (runA (r1 * 1048576, u1 * 1048576, 0) k) := rfl
          obtain ⟨⟨X, Y, Z⟩, hr⟩ : ∃ r, runA (r1 * 1048576, u1 * 1048576, 0) k = r := ⟨_, rfl⟩
          rw [hr] at hst hbk ⊢
          dsimp only at hbk ⊢
          clear hr
          unfold stepA at hst
          dsimp only at hst
          rw [hP] at hst
          have kA := fun (v : World) => angle_any k v hk2
          generalize tab k = T at *
          have w3 : IntKind.i64.wrap (Z + T) = Z + T := by rw [IntKind.wrap_i64]; omega
          have w4 : IntKind.i64.wrap (Z - T) = Z - T := by rw [IntKind.wrap_i64]; omega
          by_cases cp : 0 < Y
          · have cy := cp
            rw [if_pos cy] at hst
            have kS := fun (v : World) => spinm_any X Y P k v hk2 hP hP1.1 hP1.2 (by omega) (by omega) (by omega) (by omega)
            clear hP hP1 hbb hbk ht
            generalize Y.tdiv P = dy at *
            generalize X.tdiv P = dx at *
            replace hst := hid hst
            replace hB := hid hB
            go_wp2_with omega
            refine (kS _).mono ?_
            rintro e V ⟨rfl, hs1⟩
            go_wp2_with omega
            refine (kA _).mono ?_
            rintro e V2 ⟨rfl, hs2⟩
            have hB2 := hid (bthen (bthen hB.out hs1) hs2)
            clear hs1 hs2 hB
            go_wp2_with omega
            go_roundw
            case rel => first | exact ⟨k + 1, by omega, by simp, by rw [hst.out], by rw [hst.out], by rw [hst.out], hB2.out⟩ | ((repeat apply Exists.intro); exact ⟨⟨k + 1, by omega, by simp, by rw [hst.out], by rw [hst.out], by rw [hst.out], hB2.out⟩, rfl⟩)
            case measure => show 31 - ((k : Int) + 1).toNat < 31 - (k : Int).toNat; omega
          by_cases cy : Y < 0
          · rw [if_neg cp, if_pos cy] at hst
            have kS := fun (v : World) => spinp_any X Y P k v hk2 hP hP1.1 hP1.2 (by omega) (by omega) (by omega) (by omega)
            clear hP hP1 hbb hbk ht
            generalize Y.tdiv P = dy at *
            generalize X.tdiv P = dx at *
            replace hst := hid hst
            replace hB := hid hB
            go_wp2_with omega
            refine (kS _).mono ?_
            rintro e V ⟨rfl, hs1⟩
            go_wp2_with omega
            refine (kA _).mono ?_
            rintro e V2 ⟨rfl, hs2⟩
            have hB2 := hid (bthen (bthen hB.out hs1) hs2)
            clear hs1 hs2 hB
            go_wp2_with omega
            go_roundw
            case rel => first | exact ⟨k + 1, by omega, by simp, by rw [hst.out], by rw [hst.out], by rw [hst.out], hB2.out⟩ | ((repeat apply Exists.intro); exact ⟨⟨k + 1, by omega, by simp, by rw [hst.out], by rw [hst.out], by rw [hst.out], hB2.out⟩, rfl⟩)
            case measure => show 31 - ((k : Int) + 1).toNat < 31 - (k : Int).toNat; omega
          obtain rfl : Y = 0 := by omega
          rw [if_neg cp, if_neg cy] at hst
          clear kA hP hP1 hbb hbk ht
          replace hst := hid hst
          replace hB := hid hB
          go_wp2_with omega
          go_roundw
          case rel => first | exact ⟨k + 1, by omega, by simp, by rw [hst.out], by rw [hst.out], by rw [hst.out], hB.out⟩ | ((repeat apply Exists.intro); exact ⟨⟨k + 1, by omega, by simp, by rw [hst.out], by rw [hst.out], by rw [hst.out], hB.out⟩, rfl⟩)
          case measure => show 31 - ((k : Int) + 1).toNat < 31 - (k : Int).toNat; omega
      cases n with
      | zero =>
        have := hfu.out
        have h9 := hfu.out
        rw [show (2 : Int) ^ 0 = 1 by rfl, Int.mul_one] at h9
        omega
      | succ m =>
        have hn2 := hid ((normF_in m ⟨c1, c2, c3⟩).symm.trans hnF.out)
        have hf2 := hid (show 2147483648 ≤ (2 * r1 + (2 * u1).natAbs) * 2 ^ m by have h9 := hfu.out; rw [Int.pow_succ] at h9; rw [show (2 * r1 + ((2 * u1).natAbs : Int)) = (r1 + u1.natAbs) * 2 by omega, Int.mul_assoc, Int.mul_comm 2]; exact h9)
        clear hnF hfu
        have w1 : IntKind.i64.wrap (2 * r1) = 2 * r1 := by rw [IntKind.wrap_i64]; omega
        have w2 : IntKind.i64.wrap (2 * u1) = 2 * u1 := by rw [IntKind.wrap_i64]; omega
        go_wp2_with omega
        go_roundw
        case rel => exact ⟨m, 2 * r1, 2 * u1, rfl, rfl, by omega, by omega, by omega, by omega, by omega, hn2, hf2, trivial⟩
        case measure => simp only [intOf]; omega
  have hx : ¬ x < 0 := by omega
  have hr0 : r0 = x := hr.2.2.2 (by omega)
  go_enter Try.func23, Try.ntmps23
  go_wp2_with omega
  go_loopw [5, 6] (fun r u wr => ∃ (n : Nat) (r1 u1 : Int), r = .int .i64 r1 ∧ u = .int .i64 u1 ∧ 0 ≤ r1 ∧ r1 ≤ 2147483648 ∧ -2147483648 ≤ u1 ∧ u1 ≤ 2147483648 ∧ 1 ≤ r1 + u1.natAbs ∧ Go.RowKit.Hid (normF n r1 u1 = normF 31 r0 y) ∧ Go.RowKit.Hid (2147483648 ≤ (r1 + u1.natAbs) * 2 ^ n) ∧ wr = w) (fun r u _ => (8589934592 - (intOf r + (intOf u).natAbs)).toNat)
  case atStart => exact ⟨31, r0, y, by rw [hr0], rfl, by omega, by omega, by omega, by omega, hsum, hid rfl, hid (by omega), rfl⟩
  case round =>
    obtain ⟨n, r1, u1, rfl, rfl, q1, q2, q3, q4, q5, hnF, hfu, rfl⟩ := hrel
    have hN : True := trivial
    by_cases c1 : r1 < 1073741824
    case neg =>
      have hc : ¬ (r1 < 1073741824 ∧ u1 < 1073741824 ∧ -1073741824 < u1) := by omega
      replace hN : normF 31 r0 y = (r1, u1) := by rw [← hnF.out]; exact normF_out _ hc
      clear hnF hfu
      have hW : atanS y x = IntKind.i32.wrap ((runA (r1 * 1048576, u1 * 1048576, 0) 31).2.2) := by rw [hV.out, hN, if_neg (by omega)]
      clear hN hc
      replace hW := hid hW
      have w1 : IntKind.i64.wrap (r1 * 1048576) = r1 * 1048576 := by rw [IntKind.wrap_i64]; omega
      have w2 : IntKind.i64.wrap (u1 * 1048576) = u1 * 1048576 := by rw [IntKind.wrap_i64]; omega
      have hb := hid (runA_bd (r1 * 1048576, u1 * 1048576, 0) (by dsimp only; omega) (by dsimp only; omega) rfl)
      go_wp2_with omega
      go_loopw [5, 6, 7, 41] (fun r u a i wz => ∃ k : Nat, k ≤ 31 ∧ i = .int .i64 k ∧ r = .int .i64 (runA (r1 * 1048576, u1 * 1048576, 0) k).1 ∧ u = .int .i64 (runA (r1 * 1048576, u1 * 1048576, 0) k).2.1 ∧ a = .int .i64 (runA (r1 * 1048576, u1 * 1048576, 0) k).2.2 ∧ Below wr.heap.size wr wz) (fun _ _ _ i _ => 31 - (intOf i).toNat)
      case atStart => exact ⟨0, by omega, rfl, rfl, rfl, rfl, Below.refl _ _⟩
      case round =>
        clear w1 w2
        obtain ⟨k, hk, rfl, rfl, rfl, rfl, hB⟩ := hrel
        have hbk := hb.out k hk
        have hbb := bd_all k (by omega)
        by_cases hlt : (k : Int) < 31
        case neg =>
          obtain rfl : k = 31 := by omega
          clear hb
          generalize (runA (r1 * 1048576, u1 * 1048576, 0) 31).2.2 = a at *
          have w3 : IntKind.i64.wrap (2147483648 - a) = 2147483648 - a := by rw [IntKind.wrap_i64]; omega
          clear hbk hbb
          replace hB := hid hB
          go_wp2_with omega
          go_ret
          exact ⟨by rw [hW.out, IntKind.wrap_i32]; unfold wrap32; rfl, hB.out⟩
        have hk2 : k < 31 := by omega
        have ht := tab_all k hk2
        obtain ⟨P, hP⟩ : ∃ P : Int, 2 ^ k = P := ⟨_, rfl⟩
        have hP1 : 1 ≤ P ∧ P ≤ 1073741824 := by rw [← hP]; exact pow_all k hk2
        have hst : runA (r1 * 1048576, u1 * 1048576, 0) (k + 1) = stepA k (runA (r1 * 1048576, u1 * 1048576, 0) k) := rfl
        obtain ⟨⟨X, Y, Z⟩, hr⟩ : ∃ r, runA (r1 * 1048576, u1 * 1048576, 0) k = r := ⟨_, rfl⟩
        rw [hr] at hst hbk ⊢
        dsimp only at hbk ⊢
        clear hr
        unfold stepA at hst
        dsimp only at hst
        rw [hP] at hst
        have kA := fun (v : World) => angle_any k v hk2
        generalize tab k = T at *
        have w3 : IntKind.i64.wrap (Z + T) = Z + T := by rw [IntKind.wrap_i64]; omega
        have w4 : IntKind.i64.wrap (Z - T) = Z - T := by rw [IntKind.wrap_i64]; omega
        by_cases cp : 0 < Y
        · have cy := cp
          rw [if_pos cy] at hst
          have kS := fun (v : World) => spinm_any X Y P k v hk2 hP hP1.1 hP1.2 (by omega) (by omega) (by omega) (by omega)
          clear hP hP1 hbb hbk ht
          generalize Y.tdiv P = dy at *
          generalize X.tdiv P = dx at *
          replace hst := hid hst
          replace hB := hid hB
          go_wp2_with omega
          refine (kS _).mono ?_
          rintro e V ⟨rfl, hs1⟩
          go_wp2_with omega
          refine (kA _).mono ?_
          rintro e V2 ⟨rfl, hs2⟩
          have hB2 := hid (bthen (bthen hB.out hs1) hs2)
          clear hs1 hs2 hB
          go_wp2_with omega
          go_roundw
          case rel => first | exact ⟨k + 1, by omega, by simp, by rw [hst.out], by rw [hst.out], by rw [hst.out], hB2.out⟩ | ((repeat apply Exists.intro); exact ⟨⟨k + 1, by omega, by simp, by rw [hst.out], by rw [hst.out], by rw [hst.out], hB2.out⟩, rfl⟩)
          case measure => show 31 - ((k : Int) + 1).toNat < 31 - (k : Int).toNat; omega
        by_cases cy : Y < 0
        · rw [if_neg cp, if_pos cy] at hst
          have kS := fun (v : World) => spinp_any X Y P k v hk2 hP hP1.1 hP1.2 (by omega) (by omega) (by omega) (by omega)
          clear hP hP1 hbb hbk ht
          generalize Y.tdiv P = dy at *
          generalize X.tdiv P = dx at *
          replace hst := hid hst
          replace hB := hid hB
          go_wp2_with omega
          refine (kS _).mono ?_
          rintro e V ⟨rfl, hs1⟩
          go_wp2_with omega
          refine (kA _).mono ?_
          rintro e V2 ⟨rfl, hs2⟩
          have hB2 := hid (bthen (bthen hB.out hs1) hs2)
          clear hs1 hs2 hB
          go_wp2_with omega
          go_roundw
          case rel => first | exact ⟨k + 1, by omega, by simp, by rw [hst.out], by rw [hst.out], by rw [hst.out], hB2.out⟩ | ((repeat apply Exists.intro); exact ⟨⟨k + 1, by omega, by simp, by rw [hst.out], by rw [hst.out], by rw [hst.out], hB2.out⟩, rfl⟩)
          case measure => show 31 - ((k : Int) + 1).toNat < 31 - (k : Int).toNat; omega
        obtain rfl : Y = 0 := by omega
        rw [if_neg cp, if_neg cy] at hst
        clear kA hP hP1 hbb hbk ht
        replace hst := hid hst
        replace hB := hid hB
        go_wp2_with omega
        go_roundw
        case rel => first | exact ⟨k + 1, by omega, by simp, by rw [hst.out], by rw [hst.out], by rw [hst.out], hB.out⟩ | ((repeat apply Exists.intro); exact ⟨⟨k + 1, by omega, by simp, by rw [hst.out], by rw [hst.out], by rw [hst.out], hB.out⟩, rfl⟩)
        case measure => show 31 - ((k : Int) + 1).toNat < 31 - (k : Int).toNat; omega
    by_cases c2 : u1 < 1073741824
    case neg =>
      have hc : ¬ (r1 < 1073741824 ∧ u1 < 1073741824 ∧ -1073741824 < u1) := by omega
      replace hN : normF 31 r0 y = (r1, u1) := by rw [← hnF.out]; exact normF_out _ hc
      clear hnF hfu
      have hW : atanS y x = IntKind.i32.wrap ((runA (r1 * 1048576, u1 * 1048576, 0) 31).2.2) := by rw [hV.out, hN, if_neg (by omega)]
      clear hN hc
      replace hW := hid hW
      have w1 : IntKind.i64.wrap (r1 * 1048576) = r1 * 1048576 := by rw [IntKind.wrap_i64]; omega
      have w2 : IntKind.i64.wrap (u1 * 1048576) = u1 * 1048576 := by rw [IntKind.wrap_i64]; omega
      have hb := hid (runA_bd (r1 * 1048576, u1 * 1048576, 0) (by dsimp only; omega) (by dsimp only; omega) rfl)
      go_wp2_with omega
      go_loopw [5, 6, 7, 41] (fun r u a i wz => ∃ k : Nat, k ≤ 31 ∧ i = .int .i64 k ∧ r = .int .i64 (runA (r1 * 1048576, u1 * 1048576, 0) k).1 ∧ u = .int .i64 (runA (r1 * 1048576, u1 * 1048576, 0) k).2.1 ∧ a = .int .i64 (runA (r1 * 1048576, u1 * 1048576, 0) k).2.2 ∧ Below wr.heap.size wr wz) (fun _ _ _ i _ => 31 - (intOf i).toNat)
      case atStart => exact ⟨0, by omega, rfl, rfl, rfl, rfl, Below.refl _ _⟩
      case round =>
        clear w1 w2
        obtain ⟨k, hk, rfl, rfl, rfl, rfl, hB⟩ := hrel
        have hbk := hb.out k hk
        have hbb := bd_all k (by omega)
        by_cases hlt : (k : Int) < 31
        case neg =>
          obtain rfl : k = 31 := by omega
          clear hb
          generalize (runA (r1 * 1048576, u1 * 1048576, 0) 31).2.2 = a at *
          have w3 : IntKind.i64.wrap (2147483648 - a) = 2147483648 - a := by rw [IntKind.wrap_i64]; omega
          clear hbk hbb
          replace hB := hid hB
          go_wp2_with omega
          go_ret
          exact ⟨by rw [hW.out, IntKind.wrap_i32]; unfold wrap32; rfl, hB.out⟩
        have hk2 : k < 31 := by omega
        have ht := tab_all k hk2
        obtain ⟨P, hP⟩ : ∃ P : Int, 2 ^ k = P := ⟨_, rfl⟩
        have hP1 : 1 ≤ P ∧ P ≤ 1073741824 := by rw [← hP]; exact pow_all k hk2
        have hst : runA (r1 * 1048576, u1 * 1048576, 0) (k + 1) = stepA k (runA (r1 * 1048576, u1 * 1048576, 0) k) := rfl
        obtain ⟨⟨X, Y, Z⟩, hr⟩ : ∃ r, runA (r1 * 1048576, u1 * 1048576, 0) k = r := ⟨_, rfl⟩
        rw [hr] at hst hbk ⊢
        dsimp only at hbk ⊢
        clear hr
        unfold stepA at hst
        dsimp only at hst
        rw [hP] at hst
        have kA := fun (v : World) => angle_any k v hk2
        generalize tab k = T at *
        have w3 : IntKind.i64.wrap (Z + T) = Z + T := by rw [IntKind.wrap_i64]; omega
        have w4 : IntKind.i64.wrap (Z - T) = Z - T := by rw [IntKind.wrap_i64]; omega
        by_cases cp : 0 < Y
        · have cy := cp
          rw [if_pos cy] at hst
          have kS := fun (v : World) => spinm_any X Y P k v hk2 hP hP1.1 hP1.2 (by omega) (by omega) (by omega) (by omega)
          clear hP hP1 hbb hbk ht
          generalize Y.tdiv P = dy at *
          generalize X.tdiv P = dx at *
          replace hst := hid hst
          replace hB := hid hB
          go_wp2_with omega
          refine (kS _).mono ?_
          rintro e V ⟨rfl, hs1⟩
          go_wp2_with omega
          refine (kA _).mono ?_
          rintro e V2 ⟨rfl, hs2⟩
          have hB2 := hid (bthen (bthen hB.out hs1) hs2)
          clear hs1 hs2 hB
          go_wp2_with omega
          go_roundw
          case rel => first | exact ⟨k + 1, by omega, by simp, by rw [hst.out], by rw [hst.out], by rw [hst.out], hB2.out⟩ | ((repeat apply Exists.intro); exact ⟨⟨k + 1, by omega, by simp, by rw [hst.out], by rw [hst.out], by rw [hst.out], hB2.out⟩, rfl⟩)
          case measure => show 31 - ((k : Int) + 1).toNat < 31 - (k : Int).toNat; omega
        by_cases cy : Y < 0
        · rw [if_neg cp, if_pos cy] at hst
          have kS := fun (v : World) => spinp_any X Y P k v hk2 hP hP1.1 hP1.2 (by omega) (by omega) (by omega) (by omega)
          clear hP hP1 hbb hbk ht
          generalize Y.tdiv P = dy at *
          generalize X.tdiv P = dx at *
          replace hst := hid hst
          replace hB := hid hB
          go_wp2_with omega
          refine (kS _).mono ?_
          rintro e V ⟨rfl, hs1⟩
          go_wp2_with omega
          refine (kA _).mono ?_
          rintro e V2 ⟨rfl, hs2⟩
          have hB2 := hid (bthen (bthen hB.out hs1) hs2)
          clear hs1 hs2 hB
          go_wp2_with omega
          go_roundw
          case rel => first | exact ⟨k + 1, by omega, by simp, by rw [hst.out], by rw [hst.out], by rw [hst.out], hB2.out⟩ | ((repeat apply Exists.intro); exact ⟨⟨k + 1, by omega, by simp, by rw [hst.out], by rw [hst.out], by rw [hst.out], hB2.out⟩, rfl⟩)
          case measure => show 31 - ((k : Int) + 1).toNat < 31 - (k : Int).toNat; omega
        obtain rfl : Y = 0 := by omega
        rw [if_neg cp, if_neg cy] at hst
        clear kA hP hP1 hbb hbk ht
        replace hst := hid hst
        replace hB := hid hB
        go_wp2_with omega
        go_roundw
        case rel => first | exact ⟨k + 1, by omega, by simp, by rw [hst.out], by rw [hst.out], by rw [hst.out], hB.out⟩ | ((repeat apply Exists.intro); exact ⟨⟨k + 1, by omega, by simp, by rw [hst.out], by rw [hst.out], by rw [hst.out], hB.out⟩, rfl⟩)
        case measure => show 31 - ((k : Int) + 1).toNat < 31 - (k : Int).toNat; omega
    by_cases c3 : -1073741824 < u1
    case neg =>
      have hc : ¬ (r1 < 1073741824 ∧ u1 < 1073741824 ∧ -1073741824 < u1) := by omega
      replace hN : normF 31 r0 y = (r1, u1) := by rw [← hnF.out]; exact normF_out _ hc
      clear hnF hfu
      have hW : atanS y x = IntKind.i32.wrap ((runA (r1 * 1048576, u1 * 1048576, 0) 31).2.2) := by rw [hV.out, hN, if_neg (by omega)]
      clear hN hc
      replace hW := hid hW
      have w1 : IntKind.i64.wrap (r1 * 1048576) = r1 * 1048576 := by rw [IntKind.wrap_i64]; omega
      have w2 : IntKind.i64.wrap (u1 * 1048576) = u1 * 1048576 := by rw [IntKind.wrap_i64]; omega
      have hb := hid (runA_bd (r1 * 1048576, u1 * 1048576, 0) (by dsimp only; omega) (by dsimp only; omega) rfl)
      go_wp2_with omega
      go_loopw [5, 6, 7, 41] (fun r u a i wz => ∃ k : Nat, k ≤ 31 ∧ i = .int .i64 k ∧ r = .int .i64 (runA (r1 * 1048576, u1 * 1048576, 0) k).1 ∧ u = .int .i64 (runA (r1 * 1048576, u1 * 1048576, 0) k).2.1 ∧ a = .int .i64 (runA (r1 * 1048576, u1 * 1048576, 0) k).2.2 ∧ Below wr.heap.size wr wz) (fun _ _ _ i _ => 31 - (intOf i).toNat)
      case atStart => exact ⟨0, by omega, rfl, rfl, rfl, rfl, Below.refl _ _⟩
      case round =>
        clear w1 w2
        obtain ⟨k, hk, rfl, rfl, rfl, rfl, hB⟩ := hrel
        have hbk := hb.out k hk
        have hbb := bd_all k (by omega)
        by_cases hlt : (k : Int) < 31
        case neg =>
          obtain rfl : k = 31 := by omega
          clear hb
          generalize (runA (r1 * 1048576, u1 * 1048576, 0) 31).2.2 = a at *
          have w3 : IntKind.i64.wrap (2147483648 - a) = 2147483648 - a := by rw [IntKind.wrap_i64]; omega
          clear hbk hbb
          replace hB := hid hB
          go_wp2_with omega
          go_ret
          exact ⟨by rw [hW.out, IntKind.wrap_i32]; unfold wrap32; rfl, hB.out⟩
        have hk2 : k < 31 := by omega
        have ht := tab_all k hk2
        obtain ⟨P, hP⟩ : ∃ P : Int, 2 ^ k = P := ⟨_, rfl⟩
        have hP1 : 1 ≤ P ∧ P ≤ 1073741824 := by rw [← hP]; exact pow_all k hk2
        have hst : runA (r1 * 1048576, u1 * 1048576, 0) (k + 1) = stepA k (runA (r1 * 1048576, u1 * 1048576, 0) k) := rfl
        obtain ⟨⟨X, Y, Z⟩, hr⟩ : ∃ r, runA (r1 * 1048576, u1 * 1048576, 0) k = r := ⟨_, rfl⟩
        rw [hr] at hst hbk ⊢
        dsimp only at hbk ⊢
        clear hr
        unfold stepA at hst
        dsimp only at hst
        rw [hP] at hst
        have kA := fun (v : World) => angle_any k v hk2
        generalize tab k = T at *
        have w3 : IntKind.i64.wrap (Z + T) = Z + T := by rw [IntKind.wrap_i64]; omega
        have w4 : IntKind.i64.wrap (Z - T) = Z - T := by rw [IntKind.wrap_i64]; omega
        by_cases cp : 0 < Y
        · have cy := cp
          rw [if_pos cy] at hst
          have kS := fun (v : World) => spinm_any X Y P k v hk2 hP hP1.1 hP1.2 (by omega) (by omega) (by omega) (by omega)
          clear hP hP1 hbb hbk ht
          generalize Y.tdiv P = dy at *
          generalize X.tdiv P = dx at *
          replace hst := hid hst
          replace hB := hid hB
          go_wp2_with omega
          refine (kS _).mono ?_
          rintro e V ⟨rfl, hs1⟩
          go_wp2_with omega
          refine (kA _).mono ?_
          rintro e V2 ⟨rfl, hs2⟩
          have hB2 := hid (bthen (bthen hB.out hs1) hs2)
          clear hs1 hs2 hB
          go_wp2_with omega
          go_roundw
          case rel => first | exact ⟨k + 1, by omega, by simp, by rw [hst.out], by rw [hst.out], by rw [hst.out], hB2.out⟩ | ((repeat apply Exists.intro); exact ⟨⟨k + 1, by omega, by simp, by rw [hst.out], by rw [hst.out], by rw [hst.out], hB2.out⟩, rfl⟩)
          case measure => show 31 - ((k : Int) + 1).toNat < 31 - (k : Int).toNat; omega
        by_cases cy : Y < 0
        · rw [if_neg cp, if_pos cy] at hst
          have kS := fun (v : World) => spinp_any X Y P k v hk2 hP hP1.1 hP1.2 (by omega) (by omega) (by omega) (by omega)
          clear hP hP1 hbb hbk ht
          generalize Y.tdiv P = dy at *
          generalize X.tdiv P = dx at *
          replace hst := hid hst
          replace hB := hid hB
          go_wp2_with omega
          refine (kS _).mono ?_
          rintro e V ⟨rfl, hs1⟩
          go_wp2_with omega
          refine (kA _).mono ?_
          rintro e V2 ⟨rfl, hs2⟩
          have hB2 := hid (bthen (bthen hB.out hs1) hs2)
          clear hs1 hs2 hB
          go_wp2_with omega
          go_roundw
          case rel => first | exact ⟨k + 1, by omega, by simp, by rw [hst.out], by rw [hst.out], by rw [hst.out], hB2.out⟩ | ((repeat apply Exists.intro); exact ⟨⟨k + 1, by omega, by simp, by rw [hst.out], by rw [hst.out], by rw [hst.out], hB2.out⟩, rfl⟩)
          case measure => show 31 - ((k : Int) + 1).toNat < 31 - (k : Int).toNat; omega
        obtain rfl : Y = 0 := by omega
        rw [if_neg cp, if_neg cy] at hst
        clear kA hP hP1 hbb hbk ht
        replace hst := hid hst
        replace hB := hid hB
        go_wp2_with omega
        go_roundw
        case rel => first | exact ⟨k + 1, by omega, by simp, by rw [hst.out], by rw [hst.out], by rw [hst.out], hB.out⟩ | ((repeat apply Exists.intro); exact ⟨⟨k + 1, by omega, by simp, by rw [hst.out], by rw [hst.out], by rw [hst.out], hB.out⟩, rfl⟩)
        case measure => show 31 - ((k : Int) + 1).toNat < 31 - (k : Int).toNat; omega
    cases n with
    | zero =>
      have := hfu.out
      have h9 := hfu.out
      rw [show (2 : Int) ^ 0 = 1 by rfl, Int.mul_one] at h9
      omega
    | succ m =>
      have hn2 := hid ((normF_in m ⟨c1, c2, c3⟩).symm.trans hnF.out)
      have hf2 := hid (show 2147483648 ≤ (2 * r1 + (2 * u1).natAbs) * 2 ^ m by have h9 := hfu.out; rw [Int.pow_succ] at h9; rw [show (2 * r1 + ((2 * u1).natAbs : Int)) = (r1 + u1.natAbs) * 2 by omega, Int.mul_assoc, Int.mul_comm 2]; exact h9)
      clear hnF hfu
      have w1 : IntKind.i64.wrap (2 * r1) = 2 * r1 := by rw [IntKind.wrap_i64]; omega
      have w2 : IntKind.i64.wrap (2 * u1) = 2 * u1 := by rw [IntKind.wrap_i64]; omega
      go_wp2_with omega
      go_roundw
      case rel => exact ⟨m, 2 * r1, 2 * u1, rfl, rfl, by omega, by omega, by omega, by omega, by omega, hn2, hf2, trivial⟩
      case measure => simp only [intOf]; omega

end Go.Proofs.Yticfolcpnkkidaa
