/- The papers' Atan. -/
import Derived.Test.YticfolcpnkkidaaTurn9
namespace Go.Proofs.Yticfolcpnkkidaa
open Go.ChangeShapes Go.WideShapes Go.ChangeAt Go.RowKit
set_option linter.unusedVariables false

theorem rfarN_any (n : Int) (w : World) (h1 : -9223372036854775807 ≤ n) (h2 : n ≤ 9223372036854775807) :
    Calls Try.prog 51 #[.int .i64 n] w fun e w' => e = .returned (.int .i64 (n.natAbs : Int)) ∧ w' = w := by
  have h := rfar13_any n w h1 h2
  rw [show (if n < 0 then -n else n) = (n.natAbs : Int) by split <;> omega] at h
  exact h
set_option maxRecDepth 100000 in
set_option maxHeartbeats 4000000 in
theorem ratan_any (y x : Int) (w : World) (p0 : B32 y) (p1 : B32 x) :
    Calls Try.prog 24 #[.int .i32 y, .int .i32 x] w fun e w' => e = .returned (.int .i32 (atanS y x)) ∧ Below w.heap.size w w' := by
  unfold B32 at p0 p1
  by_cases c0 : x = 0 ∧ y = 0
  case pos =>
    obtain ⟨rfl, rfl⟩ := c0
    go_enter Try.func24, Try.ntmps24
    go_wp2_with omega
    go_ret
    exact ⟨rfl, Below.refl _ _⟩
  have hV := hid (show atanS y x = _ from if_neg c0)
  have hr : 0 ≤ (if x < 0 then -x else x) ∧ (if x < 0 then -x else x) ≤ 2147483648 ∧ (x < 0 → (if x < 0 then -x else x) = -x) ∧ (0 ≤ x → (if x < 0 then -x else x) = x) := by split <;> omega
  generalize (if x < 0 then -x else x) = r0 at hr hV
  have hsum : 1 ≤ (x.natAbs : Int) + y.natAbs := by omega
  have e1 : IntKind.i64.wrap x = x := by rw [IntKind.wrap_i64]; omega
  have e3 : IntKind.i64.wrap y = y := by rw [IntKind.wrap_i64]; omega
  by_cases cz : x = 0
  case pos =>
    have bx : (x == 0) = true := by simp [cz]
    have by0 : (y == 0) = false := by simp; omega
    replace cz := hid cz
    go_enter Try.func24, Try.ntmps24
    go_wp2_with omega
    go_loopw [5, 6] (fun r u wr => ∃ (n : Nat) (p1 u1 : Int), r = .int .i64 p1 ∧ u = .int .i64 u1 ∧ -2147483648 ≤ p1 ∧ p1 ≤ 2147483648 ∧ -2147483648 ≤ u1 ∧ u1 ≤ 2147483648 ∧ 1 ≤ p1.natAbs + u1.natAbs ∧ Go.RowKit.Hid (normF n p1.natAbs u1 = normF 31 r0 y) ∧ Go.RowKit.Hid (2147483648 ≤ ((p1.natAbs : Int) + u1.natAbs) * 2 ^ n) ∧ wr = w) (fun r u _ => (8589934592 - (((intOf r).natAbs : Int) + ((intOf u).natAbs : Int))).toNat)
    case atStart => exact ⟨31, x, y, rfl, rfl, by omega, by omega, by omega, by omega, by omega, hid (by rw [show (x.natAbs : Int) = r0 by omega]), hid (by omega), rfl⟩
    case round =>
      obtain ⟨n, p1, u1, rfl, rfl, q1, q2, q3, q4, q5, hnF, hfu, rfl⟩ := hrel
      have kp := fun (v : World) => rfarN_any p1 v (by omega) (by omega)
      have ku := fun (v : World) => rfarN_any u1 v (by omega) (by omega)
      by_cases hm : (u1.natAbs : Int) ≤ p1.natAbs
      case pos =>
        by_cases c1 : (p1.natAbs : Int) < 1073741824
        case neg =>
          by_cases cx : x < 0
          case pos =>
            have hN : normF 31 r0 y = ((p1.natAbs : Int), u1) := by rw [← hnF.out]; exact normF_out _ (by omega)
            clear hnF hfu
            have hW : atanS y x = IntKind.i32.wrap (2147483648 - (runA ((p1.natAbs : Int) * 1048576, u1 * 1048576, 0) 31).2.2) := by rw [hV.out, hN, if_pos (by omega)]
            clear hN
            replace hW := hid hW
            have hb := hid (runA_bd ((p1.natAbs : Int) * 1048576, u1 * 1048576, 0) (by dsimp only; omega) (by dsimp only; omega) rfl)
            have kP := fun (v : World) => rfarN_any p1 v (by omega) (by omega)
            have hr1 : 0 ≤ (p1.natAbs : Int) ∧ (p1.natAbs : Int) ≤ 2147483648 := by omega
            have hv1 : -(u1.natAbs : Int) ≤ u1 ∧ u1 ≤ u1.natAbs ∧ (u1.natAbs : Int) ≤ 2147483648 := by omega
            clear q5 hsum
            generalize (u1.natAbs : Int) = v1 at *
            generalize (p1.natAbs : Int) = r1 at *
            have w1 : IntKind.i64.wrap (1048576 * r1) = 1048576 * r1 := by rw [IntKind.wrap_i64]; omega
            have w2 : IntKind.i64.wrap (1048576 * u1) = 1048576 * u1 := by rw [IntKind.wrap_i64]; omega
            have m1 : 1048576 * r1 = r1 * 1048576 := Int.mul_comm _ _
            have m2 : 1048576 * u1 = u1 * 1048576 := Int.mul_comm _ _
            replace m1 := hid m1
            replace m2 := hid m2
            go_wp2_with omega
            refine (kp _).mono ?_
            rintro e A1 ⟨rfl, hA1⟩
            obtain rfl : wr = A1 := hA1.symm
            clear hA1
            go_wp2_with omega
            refine (ku _).mono ?_
            rintro e A2 ⟨rfl, hA2⟩
            obtain rfl : wr = A2 := hA2.symm
            clear hA2
            go_wp2_with omega
            refine (kP _).mono ?_
            rintro e V ⟨rfl, hs0⟩
            obtain rfl : wr = V := hs0.symm
            clear hs0
            have hs0 := hid (Below.refl wr.heap.size wr)
            go_wp2_with omega
            rw [m1.out, m2.out]
            clear m1 m2 w1 w2 kP
            go_loopw [5, 6, 7, 8, 9] (fun r u a b i wz => ∃ k : Nat, k ≤ 31 ∧ i = .int .i64 k ∧ r = .int .i64 (runA (r1 * 1048576, u1 * 1048576, 0) k).1 ∧ u = .int .i64 (runA (r1 * 1048576, u1 * 1048576, 0) k).2.1 ∧ a = .int .i64 (runA (r1 * 1048576, u1 * 1048576, 0) k).2.2 ∧ b = .int .i64 ((2 : Int) ^ k) ∧ Below wr.heap.size wr wz) (fun _ _ _ _ i _ => 31 - (intOf i).toNat)
            case atStart => exact ⟨0, by omega, rfl, rfl, rfl, rfl, rfl, hs0.out⟩
            case round =>
              clear hs0
              obtain ⟨k, hk, rfl, rfl, rfl, rfl, rfl, hB⟩ := hrel
              have hbk := hb.out k hk
              have hbb := bd_all k (by omega)
              by_cases hlt : (k : Int) < 31
              case neg =>
                obtain rfl : k = 31 := by omega
                clear hb
                generalize (runA (r1 * 1048576, u1 * 1048576, 0) 31).2.2 = a at *
                generalize (runA (r1 * 1048576, u1 * 1048576, 0) 31).2.1 = a2 at *
                generalize (runA (r1 * 1048576, u1 * 1048576, 0) 31).1 = a3 at *
                have w3 : IntKind.i64.wrap (2147483648 - a) = 2147483648 - a := by rw [IntKind.wrap_i64]; omega
                have kr := fun (v : World) => tround_any (2147483648 - a) v (by omega) (by omega)
                clear hbk hbb
                replace hB := hid hB
                generalize (2 : Int) ^ 31 = p31
                go_wp2_with omega
                refine (kr _).mono ?_
                rintro e V2 ⟨rfl, rfl⟩
                go_wp2_with omega
                go_ret
                exact ⟨by rw [hW.out]; rfl, hB.out⟩
              have hk2 : k < 31 := by omega
              have ht := tab_all k hk2
              obtain ⟨P, hP⟩ : ∃ P : Int, 2 ^ k = P := ⟨_, rfl⟩
              have hP1 : 1 ≤ P ∧ P ≤ 1073741824 := by rw [← hP]; exact pow_all k hk2
              have hP2 : (2 : Int) ^ (k + 1) = 2 * P := by rw [Int.pow_succ, hP, Int.mul_comm]
              have hst : runA (r1 * 1048576, u1 * 1048576, 0) (k + 1) = stepA k (runA (r1 * 1048576, u1 * 1048576, 0) k) := rfl
              obtain ⟨⟨X, Y, Z⟩, hr⟩ : ∃ r, runA (r1 * 1048576, u1 * 1048576, 0) k = r := ⟨_, rfl⟩
              rw [hr] at hst hbk ⊢
              dsimp only at hbk ⊢
              clear hr
              unfold stepA at hst
              dsimp only at hst
              rw [hP] at hst ⊢
              have d1 := tdiv_le X P
              have d2 := tdiv_le Y P
              have hp0 : (P == 0) = false := by simp; omega
              have hp1 : ¬ P = 0 := by omega
              have kA := fun (v : World) => rtable_any k v hk2
              generalize tab k = T at *
              have w3 : IntKind.i64.wrap (Z + T) = Z + T := by rw [IntKind.wrap_i64]; omega
              have w4 : IntKind.i64.wrap (Z - T) = Z - T := by rw [IntKind.wrap_i64]; omega
              have w5 : IntKind.i64.wrap (2 * P) = 2 * P := by rw [IntKind.wrap_i64]; omega
              obtain ⟨dx, hdx⟩ : ∃ q, X.tdiv P = q := ⟨_, rfl⟩
              obtain ⟨dy, hdy⟩ : ∃ q, Y.tdiv P = q := ⟨_, rfl⟩
              rw [hdx] at d1
              rw [hdy] at d2
              rw [hdx, hdy] at hst
              have f0 : IntKind.i64.wrap (dx) = dx := by rw [IntKind.wrap_i64]; omega
              have f1 : IntKind.i64.wrap (dy) = dy := by rw [IntKind.wrap_i64]; omega
              have f2 : IntKind.i64.wrap (X + dy) = X + dy := by rw [IntKind.wrap_i64]; omega
              have f3 : IntKind.i64.wrap (X - dy) = X - dy := by rw [IntKind.wrap_i64]; omega
              have f4 : IntKind.i64.wrap (Y + dx) = Y + dx := by rw [IntKind.wrap_i64]; omega
              have f5 : IntKind.i64.wrap (Y - dx) = Y - dx := by rw [IntKind.wrap_i64]; omega
              clear d1 d2 hbk hbb ht
              replace hP2 := hid hP2
              replace hB := hid hB
              by_cases cp : 0 < Y
              · have cy := cp
                rw [if_pos cy] at hst
                replace hst := hid hst
                go_wp2_with omega
                refine (kA _).mono ?_
                rintro e V2 ⟨rfl, hs2⟩
                have hB2 := hid (bthen hB.out (by first | exact hs2 | (rw [hs2]; exact Below.refl _ _)))
                clear hs2 hB
                go_wp2_with omega
                go_roundw
                case rel => first | exact ⟨k + 1, by omega, by simp, by rw [hst.out], by rw [hst.out], by rw [hst.out], by rw [hP2.out], hB2.out⟩ | ((repeat apply Exists.intro); exact ⟨⟨k + 1, by omega, by simp, by rw [hst.out], by rw [hst.out], by rw [hst.out], by rw [hP2.out], hB2.out⟩, rfl⟩)
                case measure => show 31 - ((k : Int) + 1).toNat < 31 - (k : Int).toNat; omega
              by_cases cy : Y < 0
              · rw [if_neg cp, if_pos cy] at hst
                replace hst := hid hst
                go_wp2_with omega
                refine (kA _).mono ?_
                rintro e V2 ⟨rfl, hs2⟩
                have hB2 := hid (bthen hB.out (by first | exact hs2 | (rw [hs2]; exact Below.refl _ _)))
                clear hs2 hB
                go_wp2_with omega
                go_roundw
                case rel => first | exact ⟨k + 1, by omega, by simp, by rw [hst.out], by rw [hst.out], by rw [hst.out], by rw [hP2.out], hB2.out⟩ | ((repeat apply Exists.intro); exact ⟨⟨k + 1, by omega, by simp, by rw [hst.out], by rw [hst.out], by rw [hst.out], by rw [hP2.out], hB2.out⟩, rfl⟩)
                case measure => show 31 - ((k : Int) + 1).toNat < 31 - (k : Int).toNat; omega
              obtain rfl : Y = 0 := by omega
              rw [if_neg cp, if_neg cy] at hst
              clear kA
              replace hst := hid hst
              go_wp2_with omega
              go_roundw
              case rel => first | exact ⟨k + 1, by omega, by simp, by rw [hst.out], by rw [hst.out], by rw [hst.out], by rw [hP2.out], hB.out⟩ | ((repeat apply Exists.intro); exact ⟨⟨k + 1, by omega, by simp, by rw [hst.out], by rw [hst.out], by rw [hst.out], by rw [hP2.out], hB.out⟩, rfl⟩)
              case measure => show 31 - ((k : Int) + 1).toNat < 31 - (k : Int).toNat; omega
          have hN : normF 31 r0 y = ((p1.natAbs : Int), u1) := by rw [← hnF.out]; exact normF_out _ (by omega)
          clear hnF hfu
          have hW : atanS y x = IntKind.i32.wrap ((runA ((p1.natAbs : Int) * 1048576, u1 * 1048576, 0) 31).2.2) := by rw [hV.out, hN, if_neg (by omega)]
          clear hN
          replace hW := hid hW
          have hb := hid (runA_bd ((p1.natAbs : Int) * 1048576, u1 * 1048576, 0) (by dsimp only; omega) (by dsimp only; omega) rfl)
          have kP := fun (v : World) => rfarN_any p1 v (by omega) (by omega)
          have hr1 : 0 ≤ (p1.natAbs : Int) ∧ (p1.natAbs : Int) ≤ 2147483648 := by omega
          have hv1 : -(u1.natAbs : Int) ≤ u1 ∧ u1 ≤ u1.natAbs ∧ (u1.natAbs : Int) ≤ 2147483648 := by omega
          clear q5 hsum
          generalize (u1.natAbs : Int) = v1 at *
          generalize (p1.natAbs : Int) = r1 at *
          have w1 : IntKind.i64.wrap (1048576 * r1) = 1048576 * r1 := by rw [IntKind.wrap_i64]; omega
          have w2 : IntKind.i64.wrap (1048576 * u1) = 1048576 * u1 := by rw [IntKind.wrap_i64]; omega
          have m1 : 1048576 * r1 = r1 * 1048576 := Int.mul_comm _ _
          have m2 : 1048576 * u1 = u1 * 1048576 := Int.mul_comm _ _
          replace m1 := hid m1
          replace m2 := hid m2
          go_wp2_with omega
          refine (kp _).mono ?_
          rintro e A1 ⟨rfl, hA1⟩
          obtain rfl : wr = A1 := hA1.symm
          clear hA1
          go_wp2_with omega
          refine (ku _).mono ?_
          rintro e A2 ⟨rfl, hA2⟩
          obtain rfl : wr = A2 := hA2.symm
          clear hA2
          go_wp2_with omega
          refine (kP _).mono ?_
          rintro e V ⟨rfl, hs0⟩
          obtain rfl : wr = V := hs0.symm
          clear hs0
          have hs0 := hid (Below.refl wr.heap.size wr)
          go_wp2_with omega
          rw [m1.out, m2.out]
          clear m1 m2 w1 w2 kP
          go_loopw [5, 6, 7, 8, 9] (fun r u a b i wz => ∃ k : Nat, k ≤ 31 ∧ i = .int .i64 k ∧ r = .int .i64 (runA (r1 * 1048576, u1 * 1048576, 0) k).1 ∧ u = .int .i64 (runA (r1 * 1048576, u1 * 1048576, 0) k).2.1 ∧ a = .int .i64 (runA (r1 * 1048576, u1 * 1048576, 0) k).2.2 ∧ b = .int .i64 ((2 : Int) ^ k) ∧ Below wr.heap.size wr wz) (fun _ _ _ _ i _ => 31 - (intOf i).toNat)
          case atStart => exact ⟨0, by omega, rfl, rfl, rfl, rfl, rfl, hs0.out⟩
          case round =>
            clear hs0
            obtain ⟨k, hk, rfl, rfl, rfl, rfl, rfl, hB⟩ := hrel
            have hbk := hb.out k hk
            have hbb := bd_all k (by omega)
            by_cases hlt : (k : Int) < 31
            case neg =>
              obtain rfl : k = 31 := by omega
              clear hb
              generalize (runA (r1 * 1048576, u1 * 1048576, 0) 31).2.2 = a at *
              generalize (runA (r1 * 1048576, u1 * 1048576, 0) 31).2.1 = a2 at *
              generalize (runA (r1 * 1048576, u1 * 1048576, 0) 31).1 = a3 at *
              have w3 : IntKind.i64.wrap (2147483648 - a) = 2147483648 - a := by rw [IntKind.wrap_i64]; omega
              have kr := fun (v : World) => tround_any (a) v (by omega) (by omega)
              clear hbk hbb
              replace hB := hid hB
              generalize (2 : Int) ^ 31 = p31
              go_wp2_with omega
              refine (kr _).mono ?_
              rintro e V2 ⟨rfl, rfl⟩
              go_wp2_with omega
              go_ret
              exact ⟨by rw [hW.out]; rfl, hB.out⟩
            have hk2 : k < 31 := by omega
            have ht := tab_all k hk2
            obtain ⟨P, hP⟩ : ∃ P : Int, 2 ^ k = P := ⟨_, rfl⟩
            have hP1 : 1 ≤ P ∧ P ≤ 1073741824 := by rw [← hP]; exact pow_all k hk2
            have hP2 : (2 : Int) ^ (k + 1) = 2 * P := by rw [Int.pow_succ, hP, Int.mul_comm]
            have hst : runA (r1 * 1048576, u1 * 1048576, 0) (k + 1) = stepA k (runA (r1 * 1048576, u1 * 1048576, 0) k) := rfl
            obtain ⟨⟨X, Y, Z⟩, hr⟩ : ∃ r, runA (r1 * 1048576, u1 * 1048576, 0) k = r := ⟨_, rfl⟩
            rw [hr] at hst hbk ⊢
            dsimp only at hbk ⊢
            clear hr
            unfold stepA at hst
            dsimp only at hst
            rw [hP] at hst ⊢
            have d1 := tdiv_le X P
            have d2 := tdiv_le Y P
            have hp0 : (P == 0) = false := by simp; omega
            have hp1 : ¬ P = 0 := by omega
            have kA := fun (v : World) => rtable_any k v hk2
            generalize tab k = T at *
            have w3 : IntKind.i64.wrap (Z + T) = Z + T := by rw [IntKind.wrap_i64]; omega
            have w4 : IntKind.i64.wrap (Z - T) = Z - T := by rw [IntKind.wrap_i64]; omega
            have w5 : IntKind.i64.wrap (2 * P) = 2 * P := by rw [IntKind.wrap_i64]; omega
            obtain ⟨dx, hdx⟩ : ∃ q, X.tdiv P = q := ⟨_, rfl⟩
            obtain ⟨dy, hdy⟩ : ∃ q, Y.tdiv P = q := ⟨_, rfl⟩
            rw [hdx] at d1
            rw [hdy] at d2
            rw [hdx, hdy] at hst
            have f0 : IntKind.i64.wrap (dx) = dx := by rw [IntKind.wrap_i64]; omega
            have f1 : IntKind.i64.wrap (dy) = dy := by rw [IntKind.wrap_i64]; omega
            have f2 : IntKind.i64.wrap (X + dy) = X + dy := by rw [IntKind.wrap_i64]; omega
            have f3 : IntKind.i64.wrap (X - dy) = X - dy := by rw [IntKind.wrap_i64]; omega
            have f4 : IntKind.i64.wrap (Y + dx) = Y + dx := by rw [IntKind.wrap_i64]; omega
            have f5 : IntKind.i64.wrap (Y - dx) = Y - dx := by rw [IntKind.wrap_i64]; omega
            clear d1 d2 hbk hbb ht
            replace hP2 := hid hP2
            replace hB := hid hB
            by_cases cp : 0 < Y
            · have cy := cp
              rw [if_pos cy] at hst
              replace hst := hid hst
              go_wp2_with omega
              refine (kA _).mono ?_
              rintro e V2 ⟨rfl, hs2⟩
              have hB2 := hid (bthen hB.out (by first | exact hs2 | (rw [hs2]; exact Below.refl _ _)))
              clear hs2 hB
              go_wp2_with omega
              go_roundw
              case rel => first | exact ⟨k + 1, by omega, by simp, by rw [hst.out], by rw [hst.out], by rw [hst.out], by rw [hP2.out], hB2.out⟩ | ((repeat apply Exists.intro); exact ⟨⟨k + 1, by omega, by simp, by rw [hst.out], by rw [hst.out], by rw [hst.out], by rw [hP2.out], hB2.out⟩, rfl⟩)
              case measure => show 31 - ((k : Int) + 1).toNat < 31 - (k : Int).toNat; omega
            by_cases cy : Y < 0
            · rw [if_neg cp, if_pos cy] at hst
              replace hst := hid hst
              go_wp2_with omega
              refine (kA _).mono ?_
              rintro e V2 ⟨rfl, hs2⟩
              have hB2 := hid (bthen hB.out (by first | exact hs2 | (rw [hs2]; exact Below.refl _ _)))
              clear hs2 hB
              go_wp2_with omega
              go_roundw
              case rel => first | exact ⟨k + 1, by omega, by simp, by rw [hst.out], by rw [hst.out], by rw [hst.out], by rw [hP2.out], hB2.out⟩ | ((repeat apply Exists.intro); exact ⟨⟨k + 1, by omega, by simp, by rw [hst.out], by rw [hst.out], by rw [hst.out], by rw [hP2.out], hB2.out⟩, rfl⟩)
              case measure => show 31 - ((k : Int) + 1).toNat < 31 - (k : Int).toNat; omega
            obtain rfl : Y = 0 := by omega
            rw [if_neg cp, if_neg cy] at hst
            clear kA
            replace hst := hid hst
            go_wp2_with omega
            go_roundw
            case rel => first | exact ⟨k + 1, by omega, by simp, by rw [hst.out], by rw [hst.out], by rw [hst.out], by rw [hP2.out], hB.out⟩ | ((repeat apply Exists.intro); exact ⟨⟨k + 1, by omega, by simp, by rw [hst.out], by rw [hst.out], by rw [hst.out], by rw [hP2.out], hB.out⟩, rfl⟩)
            case measure => show 31 - ((k : Int) + 1).toNat < 31 - (k : Int).toNat; omega
        cases n with
        | zero =>
          have h9 := hfu.out
          rw [show (2 : Int) ^ 0 = 1 by rfl, Int.mul_one] at h9
          omega
        | succ m =>
          have e2 : ((2 * p1).natAbs : Int) = 2 * (p1.natAbs : Int) := by omega
          have hn2 := hid ((normF_in m (r := (p1.natAbs : Int)) (u := u1) (by omega)).symm.trans hnF.out)
          rw [← e2] at hn2
          have hf2 := hid (show 2147483648 ≤ (((2 * p1).natAbs : Int) + (2 * u1).natAbs) * 2 ^ m by have h9 := hfu.out; rw [Int.pow_succ] at h9; rw [show (((2 * p1).natAbs : Int) + ((2 * u1).natAbs : Int)) = (p1.natAbs + u1.natAbs) * 2 by omega, Int.mul_assoc, Int.mul_comm 2]; exact h9)
          clear hnF hfu e2
          have w1 : IntKind.i64.wrap (2 * p1) = 2 * p1 := by rw [IntKind.wrap_i64]; omega
          have w2 : IntKind.i64.wrap (2 * u1) = 2 * u1 := by rw [IntKind.wrap_i64]; omega
          go_wp2_with omega
          refine (kp _).mono ?_
          rintro e A1 ⟨rfl, hA1⟩
          obtain rfl : wr = A1 := hA1.symm
          clear hA1
          go_wp2_with omega
          refine (ku _).mono ?_
          rintro e A2 ⟨rfl, hA2⟩
          obtain rfl : wr = A2 := hA2.symm
          clear hA2
          go_wp2_with omega
          go_roundw
          case rel => exact ⟨m, 2 * p1, 2 * u1, rfl, rfl, by omega, by omega, by omega, by omega, by omega, hn2, hf2, trivial⟩
          case measure => simp only [intOf]; omega
      by_cases c1 : (u1.natAbs : Int) < 1073741824
      case neg =>
        by_cases cx : x < 0
        case pos =>
          have hN : normF 31 r0 y = ((p1.natAbs : Int), u1) := by rw [← hnF.out]; exact normF_out _ (by omega)
          clear hnF hfu
          have hW : atanS y x = IntKind.i32.wrap (2147483648 - (runA ((p1.natAbs : Int) * 1048576, u1 * 1048576, 0) 31).2.2) := by rw [hV.out, hN, if_pos (by omega)]
          clear hN
          replace hW := hid hW
          have hb := hid (runA_bd ((p1.natAbs : Int) * 1048576, u1 * 1048576, 0) (by dsimp only; omega) (by dsimp only; omega) rfl)
          have kP := fun (v : World) => rfarN_any p1 v (by omega) (by omega)
          have hr1 : 0 ≤ (p1.natAbs : Int) ∧ (p1.natAbs : Int) ≤ 2147483648 := by omega
          have hv1 : -(u1.natAbs : Int) ≤ u1 ∧ u1 ≤ u1.natAbs ∧ (u1.natAbs : Int) ≤ 2147483648 := by omega
          clear q5 hsum
          generalize (u1.natAbs : Int) = v1 at *
          generalize (p1.natAbs : Int) = r1 at *
          have w1 : IntKind.i64.wrap (1048576 * r1) = 1048576 * r1 := by rw [IntKind.wrap_i64]; omega
          have w2 : IntKind.i64.wrap (1048576 * u1) = 1048576 * u1 := by rw [IntKind.wrap_i64]; omega
          have m1 : 1048576 * r1 = r1 * 1048576 := Int.mul_comm _ _
          have m2 : 1048576 * u1 = u1 * 1048576 := Int.mul_comm _ _
          replace m1 := hid m1
          replace m2 := hid m2
          go_wp2_with omega
          refine (kp _).mono ?_
          rintro e A1 ⟨rfl, hA1⟩
          obtain rfl : wr = A1 := hA1.symm
          clear hA1
          go_wp2_with omega
          refine (ku _).mono ?_
          rintro e A2 ⟨rfl, hA2⟩
          obtain rfl : wr = A2 := hA2.symm
          clear hA2
          go_wp2_with omega
          refine (kP _).mono ?_
          rintro e V ⟨rfl, hs0⟩
          obtain rfl : wr = V := hs0.symm
          clear hs0
          have hs0 := hid (Below.refl wr.heap.size wr)
          go_wp2_with omega
          rw [m1.out, m2.out]
          clear m1 m2 w1 w2 kP
          go_loopw [5, 6, 7, 8, 9] (fun r u a b i wz => ∃ k : Nat, k ≤ 31 ∧ i = .int .i64 k ∧ r = .int .i64 (runA (r1 * 1048576, u1 * 1048576, 0) k).1 ∧ u = .int .i64 (runA (r1 * 1048576, u1 * 1048576, 0) k).2.1 ∧ a = .int .i64 (runA (r1 * 1048576, u1 * 1048576, 0) k).2.2 ∧ b = .int .i64 ((2 : Int) ^ k) ∧ Below wr.heap.size wr wz) (fun _ _ _ _ i _ => 31 - (intOf i).toNat)
          case atStart => exact ⟨0, by omega, rfl, rfl, rfl, rfl, rfl, hs0.out⟩
          case round =>
            clear hs0
            obtain ⟨k, hk, rfl, rfl, rfl, rfl, rfl, hB⟩ := hrel
            have hbk := hb.out k hk
            have hbb := bd_all k (by omega)
            by_cases hlt : (k : Int) < 31
            case neg =>
              obtain rfl : k = 31 := by omega
              clear hb
              generalize (runA (r1 * 1048576, u1 * 1048576, 0) 31).2.2 = a at *
              generalize (runA (r1 * 1048576, u1 * 1048576, 0) 31).2.1 = a2 at *
              generalize (runA (r1 * 1048576, u1 * 1048576, 0) 31).1 = a3 at *
              have w3 : IntKind.i64.wrap (2147483648 - a) = 2147483648 - a := by rw [IntKind.wrap_i64]; omega
              have kr := fun (v : World) => tround_any (2147483648 - a) v (by omega) (by omega)
              clear hbk hbb
              replace hB := hid hB
              generalize (2 : Int) ^ 31 = p31
              go_wp2_with omega
              refine (kr _).mono ?_
              rintro e V2 ⟨rfl, rfl⟩
              go_wp2_with omega
              go_ret
              exact ⟨by rw [hW.out]; rfl, hB.out⟩
            have hk2 : k < 31 := by omega
            have ht := tab_all k hk2
            obtain ⟨P, hP⟩ : ∃ P : Int, 2 ^ k = P := ⟨_, rfl⟩
            have hP1 : 1 ≤ P ∧ P ≤ 1073741824 := by rw [← hP]; exact pow_all k hk2
            have hP2 : (2 : Int) ^ (k + 1) = 2 * P := by rw [Int.pow_succ, hP, Int.mul_comm]
            have hst : runA (r1 * 1048576, u1 * 1048576, 0) (k + 1) = stepA k (runA (r1 * 1048576, u1 * 1048576, 0) k) := rfl
            obtain ⟨⟨X, Y, Z⟩, hr⟩ : ∃ r, runA (r1 * 1048576, u1 * 1048576, 0) k = r := ⟨_, rfl⟩
            rw [hr] at hst hbk ⊢
            dsimp only at hbk ⊢
            clear hr
            unfold stepA at hst
            dsimp only at hst
            rw [hP] at hst ⊢
            have d1 := tdiv_le X P
            have d2 := tdiv_le Y P
            have hp0 : (P == 0) = false := by simp; omega
            have hp1 : ¬ P = 0 := by omega
            have kA := fun (v : World) => rtable_any k v hk2
            generalize tab k = T at *
            have w3 : IntKind.i64.wrap (Z + T) = Z + T := by rw [IntKind.wrap_i64]; omega
            have w4 : IntKind.i64.wrap (Z - T) = Z - T := by rw [IntKind.wrap_i64]; omega
            have w5 : IntKind.i64.wrap (2 * P) = 2 * P := by rw [IntKind.wrap_i64]; omega
            obtain ⟨dx, hdx⟩ : ∃ q, X.tdiv P = q := ⟨_, rfl⟩
            obtain ⟨dy, hdy⟩ : ∃ q, Y.tdiv P = q := ⟨_, rfl⟩
            rw [hdx] at d1
            rw [hdy] at d2
            rw [hdx, hdy] at hst
            have f0 : IntKind.i64.wrap (dx) = dx := by rw [IntKind.wrap_i64]; omega
            have f1 : IntKind.i64.wrap (dy) = dy := by rw [IntKind.wrap_i64]; omega
            have f2 : IntKind.i64.wrap (X + dy) = X + dy := by rw [IntKind.wrap_i64]; omega
            have f3 : IntKind.i64.wrap (X - dy) = X - dy := by rw [IntKind.wrap_i64]; omega
            have f4 : IntKind.i64.wrap (Y + dx) = Y + dx := by rw [IntKind.wrap_i64]; omega
            have f5 : IntKind.i64.wrap (Y - dx) = Y - dx := by rw [IntKind.wrap_i64]; omega
            clear d1 d2 hbk hbb ht
            replace hP2 := hid hP2
            replace hB := hid hB
            by_cases cp : 0 < Y
            · have cy := cp
              rw [if_pos cy] at hst
              replace hst := hid hst
              go_wp2_with omega
              refine (kA _).mono ?_
              rintro e V2 ⟨rfl, hs2⟩
              have hB2 := hid (bthen hB.out (by first | exact hs2 | (rw [hs2]; exact Below.refl _ _)))
              clear hs2 hB
              go_wp2_with omega
              go_roundw
              case rel => first | exact ⟨k + 1, by omega, by simp, by rw [hst.out], by rw [hst.out], by rw [hst.out], by rw [hP2.out], hB2.out⟩ | ((repeat apply Exists.intro); exact ⟨⟨k + 1, by omega, by simp, by rw [hst.out], by rw [hst.out], by rw [hst.out], by rw [hP2.out], hB2.out⟩, rfl⟩)
              case measure => show 31 - ((k : Int) + 1).toNat < 31 - (k : Int).toNat; omega
            by_cases cy : Y < 0
            · rw [if_neg cp, if_pos cy] at hst
              replace hst := hid hst
              go_wp2_with omega
              refine (kA _).mono ?_
              rintro e V2 ⟨rfl, hs2⟩
              have hB2 := hid (bthen hB.out (by first | exact hs2 | (rw [hs2]; exact Below.refl _ _)))
              clear hs2 hB
              go_wp2_with omega
              go_roundw
              case rel => first | exact ⟨k + 1, by omega, by simp, by rw [hst.out], by rw [hst.out], by rw [hst.out], by rw [hP2.out], hB2.out⟩ | ((repeat apply Exists.intro); exact ⟨⟨k + 1, by omega, by simp, by rw [hst.out], by rw [hst.out], by rw [hst.out], by rw [hP2.out], hB2.out⟩, rfl⟩)
              case measure => show 31 - ((k : Int) + 1).toNat < 31 - (k : Int).toNat; omega
            obtain rfl : Y = 0 := by omega
            rw [if_neg cp, if_neg cy] at hst
            clear kA
            replace hst := hid hst
            go_wp2_with omega
            go_roundw
            case rel => first | exact ⟨k + 1, by omega, by simp, by rw [hst.out], by rw [hst.out], by rw [hst.out], by rw [hP2.out], hB.out⟩ | ((repeat apply Exists.intro); exact ⟨⟨k + 1, by omega, by simp, by rw [hst.out], by rw [hst.out], by rw [hst.out], by rw [hP2.out], hB.out⟩, rfl⟩)
            case measure => show 31 - ((k : Int) + 1).toNat < 31 - (k : Int).toNat; omega
        have hN : normF 31 r0 y = ((p1.natAbs : Int), u1) := by rw [← hnF.out]; exact normF_out _ (by omega)
        clear hnF hfu
        have hW : atanS y x = IntKind.i32.wrap ((runA ((p1.natAbs : Int) * 1048576, u1 * 1048576, 0) 31).2.2) := by rw [hV.out, hN, if_neg (by omega)]
        clear hN
        replace hW := hid hW
        have hb := hid (runA_bd ((p1.natAbs : Int) * 1048576, u1 * 1048576, 0) (by dsimp only; omega) (by dsimp only; omega) rfl)
        have kP := fun (v : World) => rfarN_any p1 v (by omega) (by omega)
        have hr1 : 0 ≤ (p1.natAbs : Int) ∧ (p1.natAbs : Int) ≤ 2147483648 := by omega
        have hv1 : -(u1.natAbs : Int) ≤ u1 ∧ u1 ≤ u1.natAbs ∧ (u1.natAbs : Int) ≤ 2147483648 := by omega
        clear q5 hsum
        generalize (u1.natAbs : Int) = v1 at *
        generalize (p1.natAbs : Int) = r1 at *
        have w1 : IntKind.i64.wrap (1048576 * r1) = 1048576 * r1 := by rw [IntKind.wrap_i64]; omega
        have w2 : IntKind.i64.wrap (1048576 * u1) = 1048576 * u1 := by rw [IntKind.wrap_i64]; omega
        have m1 : 1048576 * r1 = r1 * 1048576 := Int.mul_comm _ _
        have m2 : 1048576 * u1 = u1 * 1048576 := Int.mul_comm _ _
        replace m1 := hid m1
        replace m2 := hid m2
        go_wp2_with omega
        refine (kp _).mono ?_
        rintro e A1 ⟨rfl, hA1⟩
        obtain rfl : wr = A1 := hA1.symm
        clear hA1
        go_wp2_with omega
        refine (ku _).mono ?_
        rintro e A2 ⟨rfl, hA2⟩
        obtain rfl : wr = A2 := hA2.symm
        clear hA2
        go_wp2_with omega
        refine (kP _).mono ?_
        rintro e V ⟨rfl, hs0⟩
        obtain rfl : wr = V := hs0.symm
        clear hs0
        have hs0 := hid (Below.refl wr.heap.size wr)
        go_wp2_with omega
        rw [m1.out, m2.out]
        clear m1 m2 w1 w2 kP
        go_loopw [5, 6, 7, 8, 9] (fun r u a b i wz => ∃ k : Nat, k ≤ 31 ∧ i = .int .i64 k ∧ r = .int .i64 (runA (r1 * 1048576, u1 * 1048576, 0) k).1 ∧ u = .int .i64 (runA (r1 * 1048576, u1 * 1048576, 0) k).2.1 ∧ a = .int .i64 (runA (r1 * 1048576, u1 * 1048576, 0) k).2.2 ∧ b = .int .i64 ((2 : Int) ^ k) ∧ Below wr.heap.size wr wz) (fun _ _ _ _ i _ => 31 - (intOf i).toNat)
        case atStart => exact ⟨0, by omega, rfl, rfl, rfl, rfl, rfl, hs0.out⟩
        case round =>
          clear hs0
          obtain ⟨k, hk, rfl, rfl, rfl, rfl, rfl, hB⟩ := hrel
          have hbk := hb.out k hk
          have hbb := bd_all k (by omega)
          by_cases hlt : (k : Int) < 31
          case neg =>
            obtain rfl : k = 31 := by omega
            clear hb
            generalize (runA (r1 * 1048576, u1 * 1048576, 0) 31).2.2 = a at *
            generalize (runA (r1 * 1048576, u1 * 1048576, 0) 31).2.1 = a2 at *
            generalize (runA (r1 * 1048576, u1 * 1048576, 0) 31).1 = a3 at *
            have w3 : IntKind.i64.wrap (2147483648 - a) = 2147483648 - a := by rw [IntKind.wrap_i64]; omega
            have kr := fun (v : World) => tround_any (a) v (by omega) (by omega)
            clear hbk hbb
            replace hB := hid hB
            generalize (2 : Int) ^ 31 = p31
            go_wp2_with omega
            refine (kr _).mono ?_
            rintro e V2 ⟨rfl, rfl⟩
            go_wp2_with omega
            go_ret
            exact ⟨by rw [hW.out]; rfl, hB.out⟩
          have hk2 : k < 31 := by omega
          have ht := tab_all k hk2
          obtain ⟨P, hP⟩ : ∃ P : Int, 2 ^ k = P := ⟨_, rfl⟩
          have hP1 : 1 ≤ P ∧ P ≤ 1073741824 := by rw [← hP]; exact pow_all k hk2
          have hP2 : (2 : Int) ^ (k + 1) = 2 * P := by rw [Int.pow_succ, hP, Int.mul_comm]
          have hst : runA (r1 * 1048576, u1 * 1048576, 0) (k + 1) = stepA k (runA (r1 * 1048576, u1 * 1048576, 0) k) := rfl
          obtain ⟨⟨X, Y, Z⟩, hr⟩ : ∃ r, runA (r1 * 1048576, u1 * 1048576, 0) k = r := ⟨_, rfl⟩
          rw [hr] at hst hbk ⊢
          dsimp only at hbk ⊢
          clear hr
          unfold stepA at hst
          dsimp only at hst
          rw [hP] at hst ⊢
          have d1 := tdiv_le X P
          have d2 := tdiv_le Y P
          have hp0 : (P == 0) = false := by simp; omega
          have hp1 : ¬ P = 0 := by omega
          have kA := fun (v : World) => rtable_any k v hk2
          generalize tab k = T at *
          have w3 : IntKind.i64.wrap (Z + T) = Z + T := by rw [IntKind.wrap_i64]; omega
          have w4 : IntKind.i64.wrap (Z - T) = Z - T := by rw [IntKind.wrap_i64]; omega
          have w5 : IntKind.i64.wrap (2 * P) = 2 * P := by rw [IntKind.wrap_i64]; omega
          obtain ⟨dx, hdx⟩ : ∃ q, X.tdiv P = q := ⟨_, rfl⟩
          obtain ⟨dy, hdy⟩ : ∃ q, Y.tdiv P = q := ⟨_, rfl⟩
          rw [hdx] at d1
          rw [hdy] at d2
          rw [hdx, hdy] at hst
          have f0 : IntKind.i64.wrap (dx) = dx := by rw [IntKind.wrap_i64]; omega
          have f1 : IntKind.i64.wrap (dy) = dy := by rw [IntKind.wrap_i64]; omega
          have f2 : IntKind.i64.wrap (X + dy) = X + dy := by rw [IntKind.wrap_i64]; omega
          have f3 : IntKind.i64.wrap (X - dy) = X - dy := by rw [IntKind.wrap_i64]; omega
          have f4 : IntKind.i64.wrap (Y + dx) = Y + dx := by rw [IntKind.wrap_i64]; omega
          have f5 : IntKind.i64.wrap (Y - dx) = Y - dx := by rw [IntKind.wrap_i64]; omega
          clear d1 d2 hbk hbb ht
          replace hP2 := hid hP2
          replace hB := hid hB
          by_cases cp : 0 < Y
          · have cy := cp
            rw [if_pos cy] at hst
            replace hst := hid hst
            go_wp2_with omega
            refine (kA _).mono ?_
            rintro e V2 ⟨rfl, hs2⟩
            have hB2 := hid (bthen hB.out (by first | exact hs2 | (rw [hs2]; exact Below.refl _ _)))
            clear hs2 hB
            go_wp2_with omega
            go_roundw
            case rel => first | exact ⟨k + 1, by omega, by simp, by rw [hst.out], by rw [hst.out], by rw [hst.out], by rw [hP2.out], hB2.out⟩ | ((repeat apply Exists.intro); exact ⟨⟨k + 1, by omega, by simp, by rw [hst.out], by rw [hst.out], by rw [hst.out], by rw [hP2.out], hB2.out⟩, rfl⟩)
            case measure => show 31 - ((k : Int) + 1).toNat < 31 - (k : Int).toNat; omega
          by_cases cy : Y < 0
          · rw [if_neg cp, if_pos cy] at hst
            replace hst := hid hst
            go_wp2_with omega
            refine (kA _).mono ?_
            rintro e V2 ⟨rfl, hs2⟩
            have hB2 := hid (bthen hB.out (by first | exact hs2 | (rw [hs2]; exact Below.refl _ _)))
            clear hs2 hB
            go_wp2_with omega
            go_roundw
            case rel => first | exact ⟨k + 1, by omega, by simp, by rw [hst.out], by rw [hst.out], by rw [hst.out], by rw [hP2.out], hB2.out⟩ | ((repeat apply Exists.intro); exact ⟨⟨k + 1, by omega, by simp, by rw [hst.out], by rw [hst.out], by rw [hst.out], by rw [hP2.out], hB2.out⟩, rfl⟩)
            case measure => show 31 - ((k : Int) + 1).toNat < 31 - (k : Int).toNat; omega
          obtain rfl : Y = 0 := by omega
          rw [if_neg cp, if_neg cy] at hst
          clear kA
          replace hst := hid hst
          go_wp2_with omega
          go_roundw
          case rel => first | exact ⟨k + 1, by omega, by simp, by rw [hst.out], by rw [hst.out], by rw [hst.out], by rw [hP2.out], hB.out⟩ | ((repeat apply Exists.intro); exact ⟨⟨k + 1, by omega, by simp, by rw [hst.out], by rw [hst.out], by rw [hst.out], by rw [hP2.out], hB.out⟩, rfl⟩)
          case measure => show 31 - ((k : Int) + 1).toNat < 31 - (k : Int).toNat; omega
      cases n with
      | zero =>
        have h9 := hfu.out
        rw [show (2 : Int) ^ 0 = 1 by rfl, Int.mul_one] at h9
        omega
      | succ m =>
        have e2 : ((2 * p1).natAbs : Int) = 2 * (p1.natAbs : Int) := by omega
        have hn2 := hid ((normF_in m (r := (p1.natAbs : Int)) (u := u1) (by omega)).symm.trans hnF.out)
        rw [← e2] at hn2
        have hf2 := hid (show 2147483648 ≤ (((2 * p1).natAbs : Int) + (2 * u1).natAbs) * 2 ^ m by have h9 := hfu.out; rw [Int.pow_succ] at h9; rw [show (((2 * p1).natAbs : Int) + ((2 * u1).natAbs : Int)) = (p1.natAbs + u1.natAbs) * 2 by omega, Int.mul_assoc, Int.mul_comm 2]; exact h9)
        clear hnF hfu e2
        have w1 : IntKind.i64.wrap (2 * p1) = 2 * p1 := by rw [IntKind.wrap_i64]; omega
        have w2 : IntKind.i64.wrap (2 * u1) = 2 * u1 := by rw [IntKind.wrap_i64]; omega
        go_wp2_with omega
        refine (kp _).mono ?_
        rintro e A1 ⟨rfl, hA1⟩
        obtain rfl : wr = A1 := hA1.symm
        clear hA1
        go_wp2_with omega
        refine (ku _).mono ?_
        rintro e A2 ⟨rfl, hA2⟩
        obtain rfl : wr = A2 := hA2.symm
        clear hA2
        go_wp2_with omega
        go_roundw
        case rel => exact ⟨m, 2 * p1, 2 * u1, rfl, rfl, by omega, by omega, by omega, by omega, by omega, hn2, hf2, trivial⟩
        case measure => simp only [intOf]; omega
  have bx : (x == 0) = false := by simp [cz]
  clear c0 cz
  go_enter Try.func24, Try.ntmps24
  go_wp2_with omega
  go_loopw [5, 6] (fun r u wr => ∃ (n : Nat) (p1 u1 : Int), r = .int .i64 p1 ∧ u = .int .i64 u1 ∧ -2147483648 ≤ p1 ∧ p1 ≤ 2147483648 ∧ -2147483648 ≤ u1 ∧ u1 ≤ 2147483648 ∧ 1 ≤ p1.natAbs + u1.natAbs ∧ Go.RowKit.Hid (normF n p1.natAbs u1 = normF 31 r0 y) ∧ Go.RowKit.Hid (2147483648 ≤ ((p1.natAbs : Int) + u1.natAbs) * 2 ^ n) ∧ wr = w) (fun r u _ => (8589934592 - (((intOf r).natAbs : Int) + ((intOf u).natAbs : Int))).toNat)
  case atStart => exact ⟨31, x, y, rfl, rfl, by omega, by omega, by omega, by omega, by omega, hid (by rw [show (x.natAbs : Int) = r0 by omega]), hid (by omega), rfl⟩
  case round =>
    obtain ⟨n, p1, u1, rfl, rfl, q1, q2, q3, q4, q5, hnF, hfu, rfl⟩ := hrel
    have kp := fun (v : World) => rfarN_any p1 v (by omega) (by omega)
    have ku := fun (v : World) => rfarN_any u1 v (by omega) (by omega)
    by_cases hm : (u1.natAbs : Int) ≤ p1.natAbs
    case pos =>
      by_cases c1 : (p1.natAbs : Int) < 1073741824
      case neg =>
        by_cases cx : x < 0
        case pos =>
          have hN : normF 31 r0 y = ((p1.natAbs : Int), u1) := by rw [← hnF.out]; exact normF_out _ (by omega)
          clear hnF hfu
          have hW : atanS y x = IntKind.i32.wrap (2147483648 - (runA ((p1.natAbs : Int) * 1048576, u1 * 1048576, 0) 31).2.2) := by rw [hV.out, hN, if_pos (by omega)]
          clear hN
          replace hW := hid hW
          have hb := hid (runA_bd ((p1.natAbs : Int) * 1048576, u1 * 1048576, 0) (by dsimp only; omega) (by dsimp only; omega) rfl)
          have kP := fun (v : World) => rfarN_any p1 v (by omega) (by omega)
          have hr1 : 0 ≤ (p1.natAbs : Int) ∧ (p1.natAbs : Int) ≤ 2147483648 := by omega
          have hv1 : -(u1.natAbs : Int) ≤ u1 ∧ u1 ≤ u1.natAbs ∧ (u1.natAbs : Int) ≤ 2147483648 := by omega
          clear q5 hsum
          generalize (u1.natAbs : Int) = v1 at *
          generalize (p1.natAbs : Int) = r1 at *
          have w1 : IntKind.i64.wrap (1048576 * r1) = 1048576 * r1 := by rw [IntKind.wrap_i64]; omega
          have w2 : IntKind.i64.wrap (1048576 * u1) = 1048576 * u1 := by rw [IntKind.wrap_i64]; omega
          have m1 : 1048576 * r1 = r1 * 1048576 := Int.mul_comm _ _
          have m2 : 1048576 * u1 = u1 * 1048576 := Int.mul_comm _ _
          replace m1 := hid m1
          replace m2 := hid m2
          go_wp2_with omega
          refine (kp _).mono ?_
          rintro e A1 ⟨rfl, hA1⟩
          obtain rfl : wr = A1 := hA1.symm
          clear hA1
          go_wp2_with omega
          refine (ku _).mono ?_
          rintro e A2 ⟨rfl, hA2⟩
          obtain rfl : wr = A2 := hA2.symm
          clear hA2
          go_wp2_with omega
          refine (kP _).mono ?_
          rintro e V ⟨rfl, hs0⟩
          obtain rfl : wr = V := hs0.symm
          clear hs0
          have hs0 := hid (Below.refl wr.heap.size wr)
          go_wp2_with omega
          rw [m1.out, m2.out]
          clear m1 m2 w1 w2 kP
          go_loopw [5, 6, 7, 8, 9] (fun r u a b i wz => ∃ k : Nat, k ≤ 31 ∧ i = .int .i64 k ∧ r = .int .i64 (runA (r1 * 1048576, u1 * 1048576, 0) k).1 ∧ u = .int .i64 (runA (r1 * 1048576, u1 * 1048576, 0) k).2.1 ∧ a = .int .i64 (runA (r1 * 1048576, u1 * 1048576, 0) k).2.2 ∧ b = .int .i64 ((2 : Int) ^ k) ∧ Below wr.heap.size wr wz) (fun _ _ _ _ i _ => 31 - (intOf i).toNat)
          case atStart => exact ⟨0, by omega, rfl, rfl, rfl, rfl, rfl, hs0.out⟩
          case round =>
            clear hs0
            obtain ⟨k, hk, rfl, rfl, rfl, rfl, rfl, hB⟩ := hrel
            have hbk := hb.out k hk
            have hbb := bd_all k (by omega)
            by_cases hlt : (k : Int) < 31
            case neg =>
              obtain rfl : k = 31 := by omega
              clear hb
              generalize (runA (r1 * 1048576, u1 * 1048576, 0) 31).2.2 = a at *
              generalize (runA (r1 * 1048576, u1 * 1048576, 0) 31).2.1 = a2 at *
              generalize (runA (r1 * 1048576, u1 * 1048576, 0) 31).1 = a3 at *
              have w3 : IntKind.i64.wrap (2147483648 - a) = 2147483648 - a := by rw [IntKind.wrap_i64]; omega
              have kr := fun (v : World) => tround_any (2147483648 - a) v (by omega) (by omega)
              clear hbk hbb
              replace hB := hid hB
              generalize (2 : Int) ^ 31 = p31
              go_wp2_with omega
              refine (kr _).mono ?_
              rintro e V2 ⟨rfl, rfl⟩
              go_wp2_with omega
              go_ret
              exact ⟨by rw [hW.out]; rfl, hB.out⟩
            have hk2 : k < 31 := by omega
            have ht := tab_all k hk2
            obtain ⟨P, hP⟩ : ∃ P : Int, 2 ^ k = P := ⟨_, rfl⟩
            have hP1 : 1 ≤ P ∧ P ≤ 1073741824 := by rw [← hP]; exact pow_all k hk2
            have hP2 : (2 : Int) ^ (k + 1) = 2 * P := by rw [Int.pow_succ, hP, Int.mul_comm]
            have hst : runA (r1 * 1048576, u1 * 1048576, 0) (k + 1) = stepA k (runA (r1 * 1048576, u1 * 1048576, 0) k) := rfl
            obtain ⟨⟨X, Y, Z⟩, hr⟩ : ∃ r, runA (r1 * 1048576, u1 * 1048576, 0) k = r := ⟨_, rfl⟩
            rw [hr] at hst hbk ⊢
            dsimp only at hbk ⊢
            clear hr
            unfold stepA at hst
            dsimp only at hst
            rw [hP] at hst ⊢
            have d1 := tdiv_le X P
            have d2 := tdiv_le Y P
            have hp0 : (P == 0) = false := by simp; omega
            have hp1 : ¬ P = 0 := by omega
            have kA := fun (v : World) => rtable_any k v hk2
            generalize tab k = T at *
            have w3 : IntKind.i64.wrap (Z + T) = Z + T := by rw [IntKind.wrap_i64]; omega
            have w4 : IntKind.i64.wrap (Z - T) = Z - T := by rw [IntKind.wrap_i64]; omega
            have w5 : IntKind.i64.wrap (2 * P) = 2 * P := by rw [IntKind.wrap_i64]; omega
            obtain ⟨dx, hdx⟩ : ∃ q, X.tdiv P = q := ⟨_, rfl⟩
            obtain ⟨dy, hdy⟩ : ∃ q, Y.tdiv P = q := ⟨_, rfl⟩
            rw [hdx] at d1
            rw [hdy] at d2
            rw [hdx, hdy] at hst
            have f0 : IntKind.i64.wrap (dx) = dx := by rw [IntKind.wrap_i64]; omega
            have f1 : IntKind.i64.wrap (dy) = dy := by rw [IntKind.wrap_i64]; omega
            have f2 : IntKind.i64.wrap (X + dy) = X + dy := by rw [IntKind.wrap_i64]; omega
            have f3 : IntKind.i64.wrap (X - dy) = X - dy := by rw [IntKind.wrap_i64]; omega
            have f4 : IntKind.i64.wrap (Y + dx) = Y + dx := by rw [IntKind.wrap_i64]; omega
            have f5 : IntKind.i64.wrap (Y - dx) = Y - dx := by rw [IntKind.wrap_i64]; omega
            clear d1 d2 hbk hbb ht
            replace hP2 := hid hP2
            replace hB := hid hB
            by_cases cp : 0 < Y
            · have cy := cp
              rw [if_pos cy] at hst
              replace hst := hid hst
              go_wp2_with omega
              refine (kA _).mono ?_
              rintro e V2 ⟨rfl, hs2⟩
              have hB2 := hid (bthen hB.out (by first | exact hs2 | (rw [hs2]; exact Below.refl _ _)))
              clear hs2 hB
              go_wp2_with omega
              go_roundw
              case rel => first | exact ⟨k + 1, by omega, by simp, by rw [hst.out], by rw [hst.out], by rw [hst.out], by rw [hP2.out], hB2.out⟩ | ((repeat apply Exists.intro); exact ⟨⟨k + 1, by omega, by simp, by rw [hst.out], by rw [hst.out], by rw [hst.out], by rw [hP2.out], hB2.out⟩, rfl⟩)
              case measure => show 31 - ((k : Int) + 1).toNat < 31 - (k : Int).toNat; omega
            by_cases cy : Y < 0
            · rw [if_neg cp, if_pos cy] at hst
              replace hst := hid hst
              go_wp2_with omega
              refine (kA _).mono ?_
              rintro e V2 ⟨rfl, hs2⟩
              have hB2 := hid (bthen hB.out (by first | exact hs2 | (rw [hs2]; exact Below.refl _ _)))
              clear hs2 hB
              go_wp2_with omega
              go_roundw
              case rel => first | exact ⟨k + 1, by omega, by simp, by rw [hst.out], by rw [hst.out], by rw [hst.out], by rw [hP2.out], hB2.out⟩ | ((repeat apply Exists.intro); exact ⟨⟨k + 1, by omega, by simp, by rw [hst.out], by rw [hst.out], by rw [hst.out], by rw [hP2.out], hB2.out⟩, rfl⟩)
              case measure => show 31 - ((k : Int) + 1).toNat < 31 - (k : Int).toNat; omega
            obtain rfl : Y = 0 := by omega
            rw [if_neg cp, if_neg cy] at hst
            clear kA
            replace hst := hid hst
            go_wp2_with omega
            go_roundw
            case rel => first | exact ⟨k + 1, by omega, by simp, by rw [hst.out], by rw [hst.out], by rw [hst.out], by rw [hP2.out], hB.out⟩ | ((repeat apply Exists.intro); exact ⟨⟨k + 1, by omega, by simp, by rw [hst.out], by rw [hst.out], by rw [hst.out], by rw [hP2.out], hB.out⟩, rfl⟩)
            case measure => show 31 - ((k : Int) + 1).toNat < 31 - (k : Int).toNat; omega
        have hN : normF 31 r0 y = ((p1.natAbs : Int), u1) := by rw [← hnF.out]; exact normF_out _ (by omega)
        clear hnF hfu
        have hW : atanS y x = IntKind.i32.wrap ((runA ((p1.natAbs : Int) * 1048576, u1 * 1048576, 0) 31).2.2) := by rw [hV.out, hN, if_neg (by omega)]
        clear hN
        replace hW := hid hW
        have hb := hid (runA_bd ((p1.natAbs : Int) * 1048576, u1 * 1048576, 0) (by dsimp only; omega) (by dsimp only; omega) rfl)
        have kP := fun (v : World) => rfarN_any p1 v (by omega) (by omega)
        have hr1 : 0 ≤ (p1.natAbs : Int) ∧ (p1.natAbs : Int) ≤ 2147483648 := by omega
        have hv1 : -(u1.natAbs : Int) ≤ u1 ∧ u1 ≤ u1.natAbs ∧ (u1.natAbs : Int) ≤ 2147483648 := by omega
        clear q5 hsum
        generalize (u1.natAbs : Int) = v1 at *
        generalize (p1.natAbs : Int) = r1 at *
        have w1 : IntKind.i64.wrap (1048576 * r1) = 1048576 * r1 := by rw [IntKind.wrap_i64]; omega
        have w2 : IntKind.i64.wrap (1048576 * u1) = 1048576 * u1 := by rw [IntKind.wrap_i64]; omega
        have m1 : 1048576 * r1 = r1 * 1048576 := Int.mul_comm _ _
        have m2 : 1048576 * u1 = u1 * 1048576 := Int.mul_comm _ _
        replace m1 := hid m1
        replace m2 := hid m2
        go_wp2_with omega
        refine (kp _).mono ?_
        rintro e A1 ⟨rfl, hA1⟩
        obtain rfl : wr = A1 := hA1.symm
        clear hA1
        go_wp2_with omega
        refine (ku _).mono ?_
        rintro e A2 ⟨rfl, hA2⟩
        obtain rfl : wr = A2 := hA2.symm
        clear hA2
        go_wp2_with omega
        refine (kP _).mono ?_
        rintro e V ⟨rfl, hs0⟩
        obtain rfl : wr = V := hs0.symm
        clear hs0
        have hs0 := hid (Below.refl wr.heap.size wr)
        go_wp2_with omega
        rw [m1.out, m2.out]
        clear m1 m2 w1 w2 kP
        go_loopw [5, 6, 7, 8, 9] (fun r u a b i wz => ∃ k : Nat, k ≤ 31 ∧ i = .int .i64 k ∧ r = .int .i64 (runA (r1 * 1048576, u1 * 1048576, 0) k).1 ∧ u = .int .i64 (runA (r1 * 1048576, u1 * 1048576, 0) k).2.1 ∧ a = .int .i64 (runA (r1 * 1048576, u1 * 1048576, 0) k).2.2 ∧ b = .int .i64 ((2 : Int) ^ k) ∧ Below wr.heap.size wr wz) (fun _ _ _ _ i _ => 31 - (intOf i).toNat)
        case atStart => exact ⟨0, by omega, rfl, rfl, rfl, rfl, rfl, hs0.out⟩
        case round =>
          clear hs0
          obtain ⟨k, hk, rfl, rfl, rfl, rfl, rfl, hB⟩ := hrel
          have hbk := hb.out k hk
          have hbb := bd_all k (by omega)
          by_cases hlt : (k : Int) < 31
          case neg =>
            obtain rfl : k = 31 := by omega
            clear hb
            generalize (runA (r1 * 1048576, u1 * 1048576, 0) 31).2.2 = a at *
            generalize (runA (r1 * 1048576, u1 * 1048576, 0) 31).2.1 = a2 at *
            generalize (runA (r1 * 1048576, u1 * 1048576, 0) 31).1 = a3 at *
            have w3 : IntKind.i64.wrap (2147483648 - a) = 2147483648 - a := by rw [IntKind.wrap_i64]; omega
            have kr := fun (v : World) => tround_any (a) v (by omega) (by omega)
            clear hbk hbb
            replace hB := hid hB
            generalize (2 : Int) ^ 31 = p31
            go_wp2_with omega
            refine (kr _).mono ?_
            rintro e V2 ⟨rfl, rfl⟩
            go_wp2_with omega
            go_ret
            exact ⟨by rw [hW.out]; rfl, hB.out⟩
          have hk2 : k < 31 := by omega
          have ht := tab_all k hk2
          obtain ⟨P, hP⟩ : ∃ P : Int, 2 ^ k = P := ⟨_, rfl⟩
          have hP1 : 1 ≤ P ∧ P ≤ 1073741824 := by rw [← hP]; exact pow_all k hk2
          have hP2 : (2 : Int) ^ (k + 1) = 2 * P := by rw [Int.pow_succ, hP, Int.mul_comm]
          have hst : runA (r1 * 1048576, u1 * 1048576, 0) (k + 1) = stepA k (runA (r1 * 1048576, u1 * 1048576, 0) k) := rfl
          obtain ⟨⟨X, Y, Z⟩, hr⟩ : ∃ r, runA (r1 * 1048576, u1 * 1048576, 0) k = r := ⟨_, rfl⟩
          rw [hr] at hst hbk ⊢
          dsimp only at hbk ⊢
          clear hr
          unfold stepA at hst
          dsimp only at hst
          rw [hP] at hst ⊢
          have d1 := tdiv_le X P
          have d2 := tdiv_le Y P
          have hp0 : (P == 0) = false := by simp; omega
          have hp1 : ¬ P = 0 := by omega
          have kA := fun (v : World) => rtable_any k v hk2
          generalize tab k = T at *
          have w3 : IntKind.i64.wrap (Z + T) = Z + T := by rw [IntKind.wrap_i64]; omega
          have w4 : IntKind.i64.wrap (Z - T) = Z - T := by rw [IntKind.wrap_i64]; omega
          have w5 : IntKind.i64.wrap (2 * P) = 2 * P := by rw [IntKind.wrap_i64]; omega
          obtain ⟨dx, hdx⟩ : ∃ q, X.tdiv P = q := ⟨_, rfl⟩
          obtain ⟨dy, hdy⟩ : ∃ q, Y.tdiv P = q := ⟨_, rfl⟩
          rw [hdx] at d1
          rw [hdy] at d2
          rw [hdx, hdy] at hst
          have f0 : IntKind.i64.wrap (dx) = dx := by rw [IntKind.wrap_i64]; omega
          have f1 : IntKind.i64.wrap (dy) = dy := by rw [IntKind.wrap_i64]; omega
          have f2 : IntKind.i64.wrap (X + dy) = X + dy := by rw [IntKind.wrap_i64]; omega
          have f3 : IntKind.i64.wrap (X - dy) = X - dy := by rw [IntKind.wrap_i64]; omega
          have f4 : IntKind.i64.wrap (Y + dx) = Y + dx := by rw [IntKind.wrap_i64]; omega
          have f5 : IntKind.i64.wrap (Y - dx) = Y - dx := by rw [IntKind.wrap_i64]; omega
          clear d1 d2 hbk hbb ht
          replace hP2 := hid hP2
          replace hB := hid hB
          by_cases cp : 0 < Y
          · have cy := cp
            rw [if_pos cy] at hst
            replace hst := hid hst
            go_wp2_with omega
            refine (kA _).mono ?_
            rintro e V2 ⟨rfl, hs2⟩
            have hB2 := hid (bthen hB.out (by first | exact hs2 | (rw [hs2]; exact Below.refl _ _)))
            clear hs2 hB
            go_wp2_with omega
            go_roundw
            case rel => first | exact ⟨k + 1, by omega, by simp, by rw [hst.out], by rw [hst.out], by rw [hst.out], by rw [hP2.out], hB2.out⟩ | ((repeat apply Exists.intro); exact ⟨⟨k + 1, by omega, by simp, by rw [hst.out], by rw [hst.out], by rw [hst.out], by rw [hP2.out], hB2.out⟩, rfl⟩)
            case measure => show 31 - ((k : Int) + 1).toNat < 31 - (k : Int).toNat; omega
          by_cases cy : Y < 0
          · rw [if_neg cp, if_pos cy] at hst
            replace hst := hid hst
            go_wp2_with omega
            refine (kA _).mono ?_
            rintro e V2 ⟨rfl, hs2⟩
            have hB2 := hid (bthen hB.out (by first | exact hs2 | (rw [hs2]; exact Below.refl _ _)))
            clear hs2 hB
            go_wp2_with omega
            go_roundw
            case rel => first | exact ⟨k + 1, by omega, by simp, by rw [hst.out], by rw [hst.out], by rw [hst.out], by rw [hP2.out], hB2.out⟩ | ((repeat apply Exists.intro); exact ⟨⟨k + 1, by omega, by simp, by rw [hst.out], by rw [hst.out], by rw [hst.out], by rw [hP2.out], hB2.out⟩, rfl⟩)
            case measure => show 31 - ((k : Int) + 1).toNat < 31 - (k : Int).toNat; omega
          obtain rfl : Y = 0 := by omega
          rw [if_neg cp, if_neg cy] at hst
          clear kA
          replace hst := hid hst
          go_wp2_with omega
          go_roundw
          case rel => first | exact ⟨k + 1, by omega, by simp, by rw [hst.out], by rw [hst.out], by rw [hst.out], by rw [hP2.out], hB.out⟩ | ((repeat apply Exists.intro); exact ⟨⟨k + 1, by omega, by simp, by rw [hst.out], by rw [hst.out], by rw [hst.out], by rw [hP2.out], hB.out⟩, rfl⟩)
          case measure => show 31 - ((k : Int) + 1).toNat < 31 - (k : Int).toNat; omega
      cases n with
      | zero =>
        have h9 := hfu.out
        rw [show (2 : Int) ^ 0 = 1 by rfl, Int.mul_one] at h9
        omega
      | succ m =>
        have e2 : ((2 * p1).natAbs : Int) = 2 * (p1.natAbs : Int) := by omega
        have hn2 := hid ((normF_in m (r := (p1.natAbs : Int)) (u := u1) (by omega)).symm.trans hnF.out)
        rw [← e2] at hn2
        have hf2 := hid (show 2147483648 ≤ (((2 * p1).natAbs : Int) + (2 * u1).natAbs) * 2 ^ m by have h9 := hfu.out; rw [Int.pow_succ] at h9; rw [show (((2 * p1).natAbs : Int) + ((2 * u1).natAbs : Int)) = (p1.natAbs + u1.natAbs) * 2 by omega, Int.mul_assoc, Int.mul_comm 2]; exact h9)
        clear hnF hfu e2
        have w1 : IntKind.i64.wrap (2 * p1) = 2 * p1 := by rw [IntKind.wrap_i64]; omega
        have w2 : IntKind.i64.wrap (2 * u1) = 2 * u1 := by rw [IntKind.wrap_i64]; omega
        go_wp2_with omega
        refine (kp _).mono ?_
        rintro e A1 ⟨rfl, hA1⟩
        obtain rfl : wr = A1 := hA1.symm
        clear hA1
        go_wp2_with omega
        refine (ku _).mono ?_
        rintro e A2 ⟨rfl, hA2⟩
        obtain rfl : wr = A2 := hA2.symm
        clear hA2
        go_wp2_with omega
        go_roundw
        case rel => exact ⟨m, 2 * p1, 2 * u1, rfl, rfl, by omega, by omega, by omega, by omega, by omega, hn2, hf2, trivial⟩
        case measure => simp only [intOf]; omega
    by_cases c1 : (u1.natAbs : Int) < 1073741824
    case neg =>
      by_cases cx : x < 0
      case pos =>
        have hN : normF 31 r0 y = ((p1.natAbs : Int), u1) := by rw [← hnF.out]; exact normF_out _ (by omega)
        clear hnF hfu
        have hW : atanS y x = IntKind.i32.wrap (2147483648 - (runA ((p1.natAbs : Int) * 1048576, u1 * 1048576, 0) 31).2.2) := by rw [hV.out, hN, if_pos (by omega)]
        clear hN
        replace hW := hid hW
        have hb := hid (runA_bd ((p1.natAbs : Int) * 1048576, u1 * 1048576, 0) (by dsimp only; omega) (by dsimp only; omega) rfl)
        have kP := fun (v : World) => rfarN_any p1 v (by omega) (by omega)
        have hr1 : 0 ≤ (p1.natAbs : Int) ∧ (p1.natAbs : Int) ≤ 2147483648 := by omega
        have hv1 : -(u1.natAbs : Int) ≤ u1 ∧ u1 ≤ u1.natAbs ∧ (u1.natAbs : Int) ≤ 2147483648 := by omega
        clear q5 hsum
        generalize (u1.natAbs : Int) = v1 at *
        generalize (p1.natAbs : Int) = r1 at *
        have w1 : IntKind.i64.wrap (1048576 * r1) = 1048576 * r1 := by rw [IntKind.wrap_i64]; omega
        have w2 : IntKind.i64.wrap (1048576 * u1) = 1048576 * u1 := by rw [IntKind.wrap_i64]; omega
        have m1 : 1048576 * r1 = r1 * 1048576 := Int.mul_comm _ _
        have m2 : 1048576 * u1 = u1 * 1048576 := Int.mul_comm _ _
        replace m1 := hid m1
        replace m2 := hid m2
        go_wp2_with omega
        refine (kp _).mono ?_
        rintro e A1 ⟨rfl, hA1⟩
        obtain rfl : wr = A1 := hA1.symm
        clear hA1
        go_wp2_with omega
        refine (ku _).mono ?_
        rintro e A2 ⟨rfl, hA2⟩
        obtain rfl : wr = A2 := hA2.symm
        clear hA2
        go_wp2_with omega
        refine (kP _).mono ?_
        rintro e V ⟨rfl, hs0⟩
        obtain rfl : wr = V := hs0.symm
        clear hs0
        have hs0 := hid (Below.refl wr.heap.size wr)
        go_wp2_with omega
        rw [m1.out, m2.out]
        clear m1 m2 w1 w2 kP
        go_loopw [5, 6, 7, 8, 9] (fun r u a b i wz => ∃ k : Nat, k ≤ 31 ∧ i = .int .i64 k ∧ r = .int .i64 (runA (r1 * 1048576, u1 * 1048576, 0) k).1 ∧ u = .int .i64 (runA (r1 * 1048576, u1 * 1048576, 0) k).2.1 ∧ a = .int .i64 (runA (r1 * 1048576, u1 * 1048576, 0) k).2.2 ∧ b = .int .i64 ((2 : Int) ^ k) ∧ Below wr.heap.size wr wz) (fun _ _ _ _ i _ => 31 - (intOf i).toNat)
        case atStart => exact ⟨0, by omega, rfl, rfl, rfl, rfl, rfl, hs0.out⟩
        case round =>
          clear hs0
          obtain ⟨k, hk, rfl, rfl, rfl, rfl, rfl, hB⟩ := hrel
          have hbk := hb.out k hk
          have hbb := bd_all k (by omega)
          by_cases hlt : (k : Int) < 31
          case neg =>
            obtain rfl : k = 31 := by omega
            clear hb
            generalize (runA (r1 * 1048576, u1 * 1048576, 0) 31).2.2 = a at *
            generalize (runA (r1 * 1048576, u1 * 1048576, 0) 31).2.1 = a2 at *
            generalize (runA (r1 * 1048576, u1 * 1048576, 0) 31).1 = a3 at *
            have w3 : IntKind.i64.wrap (2147483648 - a) = 2147483648 - a := by rw [IntKind.wrap_i64]; omega
            have kr := fun (v : World) => tround_any (2147483648 - a) v (by omega) (by omega)
            clear hbk hbb
            replace hB := hid hB
            generalize (2 : Int) ^ 31 = p31
            go_wp2_with omega
            refine (kr _).mono ?_
            rintro e V2 ⟨rfl, rfl⟩
            go_wp2_with omega
            go_ret
            exact ⟨by rw [hW.out]; rfl, hB.out⟩
          have hk2 : k < 31 := by omega
          have ht := tab_all k hk2
          obtain ⟨P, hP⟩ : ∃ P : Int, 2 ^ k = P := ⟨_, rfl⟩
          have hP1 : 1 ≤ P ∧ P ≤ 1073741824 := by rw [← hP]; exact pow_all k hk2
          have hP2 : (2 : Int) ^ (k + 1) = 2 * P := by rw [Int.pow_succ, hP, Int.mul_comm]
          have hst : runA (r1 * 1048576, u1 * 1048576, 0) (k + 1) = stepA k (runA (r1 * 1048576, u1 * 1048576, 0) k) := rfl
          obtain ⟨⟨X, Y, Z⟩, hr⟩ : ∃ r, runA (r1 * 1048576, u1 * 1048576, 0) k = r := ⟨_, rfl⟩
          rw [hr] at hst hbk ⊢
          dsimp only at hbk ⊢
          clear hr
          unfold stepA at hst
          dsimp only at hst
          rw [hP] at hst ⊢
          have d1 := tdiv_le X P
          have d2 := tdiv_le Y P
          have hp0 : (P == 0) = false := by simp; omega
          have hp1 : ¬ P = 0 := by omega
          have kA := fun (v : World) => rtable_any k v hk2
          generalize tab k = T at *
          have w3 : IntKind.i64.wrap (Z + T) = Z + T := by rw [IntKind.wrap_i64]; omega
          have w4 : IntKind.i64.wrap (Z - T) = Z - T := by rw [IntKind.wrap_i64]; omega
          have w5 : IntKind.i64.wrap (2 * P) = 2 * P := by rw [IntKind.wrap_i64]; omega
          obtain ⟨dx, hdx⟩ : ∃ q, X.tdiv P = q := ⟨_, rfl⟩
          obtain ⟨dy, hdy⟩ : ∃ q, Y.tdiv P = q := ⟨_, rfl⟩
          rw [hdx] at d1
          rw [hdy] at d2
          rw [hdx, hdy] at hst
          have f0 : IntKind.i64.wrap (dx) = dx := by rw [IntKind.wrap_i64]; omega
          have f1 : IntKind.i64.wrap (dy) = dy := by rw [IntKind.wrap_i64]; omega
          have f2 : IntKind.i64.wrap (X + dy) = X + dy := by rw [IntKind.wrap_i64]; omega
          have f3 : IntKind.i64.wrap (X - dy) = X - dy := by rw [IntKind.wrap_i64]; omega
          have f4 : IntKind.i64.wrap (Y + dx) = Y + dx := by rw [IntKind.wrap_i64]; omega
          have f5 : IntKind.i64.wrap (Y - dx) = Y - dx := by rw [IntKind.wrap_i64]; omega
          clear d1 d2 hbk hbb ht
          replace hP2 := hid hP2
          replace hB := hid hB
          by_cases cp : 0 < Y
          · have cy := cp
            rw [if_pos cy] at hst
            replace hst := hid hst
            go_wp2_with omega
            refine (kA _).mono ?_
            rintro e V2 ⟨rfl, hs2⟩
            have hB2 := hid (bthen hB.out (by first | exact hs2 | (rw [hs2]; exact Below.refl _ _)))
            clear hs2 hB
            go_wp2_with omega
            go_roundw
            case rel => first | exact ⟨k + 1, by omega, by simp, by rw [hst.out], by rw [hst.out], by rw [hst.out], by rw [hP2.out], hB2.out⟩ | ((repeat apply Exists.intro); exact ⟨⟨k + 1, by omega, by simp, by rw [hst.out], by rw [hst.out], by rw [hst.out], by rw [hP2.out], hB2.out⟩, rfl⟩)
            case measure => show 31 - ((k : Int) + 1).toNat < 31 - (k : Int).toNat; omega
          by_cases cy : Y < 0
          · rw [if_neg cp, if_pos cy] at hst
            replace hst := hid hst
            go_wp2_with omega
            refine (kA _).mono ?_
            rintro e V2 ⟨rfl, hs2⟩
            have hB2 := hid (bthen hB.out (by first | exact hs2 | (rw [hs2]; exact Below.refl _ _)))
            clear hs2 hB
            go_wp2_with omega
            go_roundw
            case rel => first | exact ⟨k + 1, by omega, by simp, by rw [hst.out], by rw [hst.out], by rw [hst.out], by rw [hP2.out], hB2.out⟩ | ((repeat apply Exists.intro); exact ⟨⟨k + 1, by omega, by simp, by rw [hst.out], by rw [hst.out], by rw [hst.out], by rw [hP2.out], hB2.out⟩, rfl⟩)
            case measure => show 31 - ((k : Int) + 1).toNat < 31 - (k : Int).toNat; omega
          obtain rfl : Y = 0 := by omega
          rw [if_neg cp, if_neg cy] at hst
          clear kA
          replace hst := hid hst
          go_wp2_with omega
          go_roundw
          case rel => first | exact ⟨k + 1, by omega, by simp, by rw [hst.out], by rw [hst.out], by rw [hst.out], by rw [hP2.out], hB.out⟩ | ((repeat apply Exists.intro); exact ⟨⟨k + 1, by omega, by simp, by rw [hst.out], by rw [hst.out], by rw [hst.out], by rw [hP2.out], hB.out⟩, rfl⟩)
          case measure => show 31 - ((k : Int) + 1).toNat < 31 - (k : Int).toNat; omega
      have hN : normF 31 r0 y = ((p1.natAbs : Int), u1) := by rw [← hnF.out]; exact normF_out _ (by omega)
      clear hnF hfu
      have hW : atanS y x = IntKind.i32.wrap ((runA ((p1.natAbs : Int) * 1048576, u1 * 1048576, 0) 31).2.2) := by rw [hV.out, hN, if_neg (by omega)]
      clear hN
      replace hW := hid hW
      have hb := hid (runA_bd ((p1.natAbs : Int) * 1048576, u1 * 1048576, 0) (by dsimp only; omega) (by dsimp only; omega) rfl)
      have kP := fun (v : World) => rfarN_any p1 v (by omega) (by omega)
      have hr1 : 0 ≤ (p1.natAbs : Int) ∧ (p1.natAbs : Int) ≤ 2147483648 := by omega
      have hv1 : -(u1.natAbs : Int) ≤ u1 ∧ u1 ≤ u1.natAbs ∧ (u1.natAbs : Int) ≤ 2147483648 := by omega
      clear q5 hsum
      generalize (u1.natAbs : Int) = v1 at *
      generalize (p1.natAbs : Int) = r1 at *
      have w1 : IntKind.i64.wrap (1048576 * r1) = 1048576 * r1 := by rw [IntKind.wrap_i64]; omega
      have w2 : IntKind.i64.wrap (1048576 * u1) = 1048576 * u1 := by rw [IntKind.wrap_i64]; omega
      have m1 : 1048576 * r1 = r1 * 1048576 := Int.mul_comm _ _
      have m2 : 1048576 * u1 = u1 * 1048576 := Int.mul_comm _ _
      replace m1 := hid m1
      replace m2 := hid m2
      go_wp2_with omega
      refine (kp _).mono ?_
      rintro e A1 ⟨rfl, hA1⟩
      obtain rfl : wr = A1 := hA1.symm
      clear hA1
      go_wp2_with omega
      refine (ku _).mono ?_
      rintro e A2 ⟨rfl, hA2⟩
      obtain rfl : wr = A2 := hA2.symm
      clear hA2
      go_wp2_with omega
      refine (kP _).mono ?_
      rintro e V ⟨rfl, hs0⟩
      obtain rfl : wr = V := hs0.symm
      clear hs0
      have hs0 := hid (Below.refl wr.heap.size wr)
      go_wp2_with omega
      rw [m1.out, m2.out]
      clear m1 m2 w1 w2 kP
      go_loopw [5, 6, 7, 8, 9] (fun r u a b i wz => ∃ k : Nat, k ≤ 31 ∧ i = .int .i64 k ∧ r = .int .i64 (runA (r1 * 1048576, u1 * 1048576, 0) k).1 ∧ u = .int .i64 (runA (r1 * 1048576, u1 * 1048576, 0) k).2.1 ∧ a = .int .i64 (runA (r1 * 1048576, u1 * 1048576, 0) k).2.2 ∧ b = .int .i64 ((2 : Int) ^ k) ∧ Below wr.heap.size wr wz) (fun _ _ _ _ i _ => 31 - (intOf i).toNat)
      case atStart => exact ⟨0, by omega, rfl, rfl, rfl, rfl, rfl, hs0.out⟩
      case round =>
        clear hs0
        obtain ⟨k, hk, rfl, rfl, rfl, rfl, rfl, hB⟩ := hrel
        have hbk := hb.out k hk
        have hbb := bd_all k (by omega)
        by_cases hlt : (k : Int) < 31
        case neg =>
          obtain rfl : k = 31 := by omega
          clear hb
          generalize (runA (r1 * 1048576, u1 * 1048576, 0) 31).2.2 = a at *
          generalize (runA (r1 * 1048576, u1 * 1048576, 0) 31).2.1 = a2 at *
          generalize (runA (r1 * 1048576, u1 * 1048576, 0) 31).1 = a3 at *
          have w3 : IntKind.i64.wrap (2147483648 - a) = 2147483648 - a := by rw [IntKind.wrap_i64]; omega
          have kr := fun (v : World) => tround_any (a) v (by omega) (by omega)
          clear hbk hbb
          replace hB := hid hB
          generalize (2 : Int) ^ 31 = p31
          go_wp2_with omega
          refine (kr _).mono ?_
          rintro e V2 ⟨rfl, rfl⟩
          go_wp2_with omega
          go_ret
          exact ⟨by rw [hW.out]; rfl, hB.out⟩
        have hk2 : k < 31 := by omega
        have ht := tab_all k hk2
        obtain ⟨P, hP⟩ : ∃ P : Int, 2 ^ k = P := ⟨_, rfl⟩
        have hP1 : 1 ≤ P ∧ P ≤ 1073741824 := by rw [← hP]; exact pow_all k hk2
        have hP2 : (2 : Int) ^ (k + 1) = 2 * P := by rw [Int.pow_succ, hP, Int.mul_comm]
        have hst : runA (r1 * 1048576, u1 * 1048576, 0) (k + 1) = stepA k (runA (r1 * 1048576, u1 * 1048576, 0) k) := rfl
        obtain ⟨⟨X, Y, Z⟩, hr⟩ : ∃ r, runA (r1 * 1048576, u1 * 1048576, 0) k = r := ⟨_, rfl⟩
        rw [hr] at hst hbk ⊢
        dsimp only at hbk ⊢
        clear hr
        unfold stepA at hst
        dsimp only at hst
        rw [hP] at hst ⊢
        have d1 := tdiv_le X P
        have d2 := tdiv_le Y P
        have hp0 : (P == 0) = false := by simp; omega
        have hp1 : ¬ P = 0 := by omega
        have kA := fun (v : World) => rtable_any k v hk2
        generalize tab k = T at *
        have w3 : IntKind.i64.wrap (Z + T) = Z + T := by rw [IntKind.wrap_i64]; omega
        have w4 : IntKind.i64.wrap (Z - T) = Z - T := by rw [IntKind.wrap_i64]; omega
        have w5 : IntKind.i64.wrap (2 * P) = 2 * P := by rw [IntKind.wrap_i64]; omega
        obtain ⟨dx, hdx⟩ : ∃ q, X.tdiv P = q := ⟨_, rfl⟩
        obtain ⟨dy, hdy⟩ : ∃ q, Y.tdiv P = q := ⟨_, rfl⟩
        rw [hdx] at d1
        rw [hdy] at d2
        rw [hdx, hdy] at hst
        have f0 : IntKind.i64.wrap (dx) = dx := by rw [IntKind.wrap_i64]; omega
        have f1 : IntKind.i64.wrap (dy) = dy := by rw [IntKind.wrap_i64]; omega
        have f2 : IntKind.i64.wrap (X + dy) = X + dy := by rw [IntKind.wrap_i64]; omega
        have f3 : IntKind.i64.wrap (X - dy) = X - dy := by rw [IntKind.wrap_i64]; omega
        have f4 : IntKind.i64.wrap (Y + dx) = Y + dx := by rw [IntKind.wrap_i64]; omega
        have f5 : IntKind.i64.wrap (Y - dx) = Y - dx := by rw [IntKind.wrap_i64]; omega
        clear d1 d2 hbk hbb ht
        replace hP2 := hid hP2
        replace hB := hid hB
        by_cases cp : 0 < Y
        · have cy := cp
          rw [if_pos cy] at hst
          replace hst := hid hst
          go_wp2_with omega
          refine (kA _).mono ?_
          rintro e V2 ⟨rfl, hs2⟩
          have hB2 := hid (bthen hB.out (by first | exact hs2 | (rw [hs2]; exact Below.refl _ _)))
          clear hs2 hB
          go_wp2_with omega
          go_roundw
          case rel => first | exact ⟨k + 1, by omega, by simp, by rw [hst.out], by rw [hst.out], by rw [hst.out], by rw [hP2.out], hB2.out⟩ | ((repeat apply Exists.intro); exact ⟨⟨k + 1, by omega, by simp, by rw [hst.out], by rw [hst.out], by rw [hst.out], by rw [hP2.out], hB2.out⟩, rfl⟩)
          case measure => show 31 - ((k : Int) + 1).toNat < 31 - (k : Int).toNat; omega
        by_cases cy : Y < 0
        · rw [if_neg cp, if_pos cy] at hst
          replace hst := hid hst
          go_wp2_with omega
          refine (kA _).mono ?_
          rintro e V2 ⟨rfl, hs2⟩
          have hB2 := hid (bthen hB.out (by first | exact hs2 | (rw [hs2]; exact Below.refl _ _)))
          clear hs2 hB
          go_wp2_with omega
          go_roundw
          case rel => first | exact ⟨k + 1, by omega, by simp, by rw [hst.out], by rw [hst.out], by rw [hst.out], by rw [hP2.out], hB2.out⟩ | ((repeat apply Exists.intro); exact ⟨⟨k + 1, by omega, by simp, by rw [hst.out], by rw [hst.out], by rw [hst.out], by rw [hP2.out], hB2.out⟩, rfl⟩)
          case measure => show 31 - ((k : Int) + 1).toNat < 31 - (k : Int).toNat; omega
        obtain rfl : Y = 0 := by omega
        rw [if_neg cp, if_neg cy] at hst
        clear kA
        replace hst := hid hst
        go_wp2_with omega
        go_roundw
        case rel => first | exact ⟨k + 1, by omega, by simp, by rw [hst.out], by rw [hst.out], by rw [hst.out], by rw [hP2.out], hB.out⟩ | ((repeat apply Exists.intro); exact ⟨⟨k + 1, by omega, by simp, by rw [hst.out], by rw [hst.out], by rw [hst.out], by rw [hP2.out], hB.out⟩, rfl⟩)
        case measure => show 31 - ((k : Int) + 1).toNat < 31 - (k : Int).toNat; omega
    cases n with
    | zero =>
      have h9 := hfu.out
      rw [show (2 : Int) ^ 0 = 1 by rfl, Int.mul_one] at h9
      omega
    | succ m =>
      have e2 : ((2 * p1).natAbs : Int) = 2 * (p1.natAbs : Int) := by omega
      have hn2 := hid ((normF_in m (r := (p1.natAbs : Int)) (u := u1) (by omega)).symm.trans hnF.out)
      rw [← e2] at hn2
      have hf2 := hid (show 2147483648 ≤ (((2 * p1).natAbs : Int) + (2 * u1).natAbs) * 2 ^ m by have h9 := hfu.out; rw [Int.pow_succ] at h9; rw [show (((2 * p1).natAbs : Int) + ((2 * u1).natAbs : Int)) = (p1.natAbs + u1.natAbs) * 2 by omega, Int.mul_assoc, Int.mul_comm 2]; exact h9)
      clear hnF hfu e2
      have w1 : IntKind.i64.wrap (2 * p1) = 2 * p1 := by rw [IntKind.wrap_i64]; omega
      have w2 : IntKind.i64.wrap (2 * u1) = 2 * u1 := by rw [IntKind.wrap_i64]; omega
      go_wp2_with omega
      refine (kp _).mono ?_
      rintro e A1 ⟨rfl, hA1⟩
      obtain rfl : wr = A1 := hA1.symm
      clear hA1
      go_wp2_with omega
      refine (ku _).mono ?_
      rintro e A2 ⟨rfl, hA2⟩
      obtain rfl : wr = A2 := hA2.symm
      clear hA2
      go_wp2_with omega
      go_roundw
      case rel => exact ⟨m, 2 * p1, 2 * u1, rfl, rfl, by omega, by omega, by omega, by omega, by omega, hn2, hf2, trivial⟩
      case measure => simp only [intOf]; omega

end Go.Proofs.Yticfolcpnkkidaa
