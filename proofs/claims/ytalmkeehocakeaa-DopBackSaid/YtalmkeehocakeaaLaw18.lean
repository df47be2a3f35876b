/- The laws of layer 18. -/
import Derived.Test.YtalmkeehocakeaaDop4
import Derived.Deep.DeepCutAuto
namespace Go.Proofs.Ytalmkeehocakeaa
open Go.ChangeShapes Go.WideShapes Go.ChangeAt Go.RowKit
set_option linter.unusedVariables false
set_option linter.unusedSimpArgs false

theorem txt18 {w : World} {a : Option Addr} {len cap : Nat} {zs : List Int} (h : Sl .u8 w a len cap zs) : (convert 24 9 (.slice a len cap)).run Try.prog w = .ok (.string (textOf zs)) w :=
  h.text 24 9 5 Try.underlying24 Try.underlying5 Try.underlying9
theorem num18_any (n : Int) (w : World) (h1 : -9223372036854775808 ≤ n) (h2 : n ≤ 9223372036854775807) :
    Calls Try.prog 13 #[.int .i64 n] w fun e w' => e = .returned (.int .i64 n) ∧ w' = w := by
  go_enter Try.func13, Try.ntmps13
  go_wp2_with fail
  go_ret
  exact ⟨rfl, rfl⟩
set_option maxRecDepth 100000 in
set_option maxHeartbeats 2000000 in
theorem knows18_any (w : World) : Calls Try.prog 6 #[] w fun e w' => e = .returned (.bool true) ∧ Below w.heap.size w w' := by
  have e1 : togS 300 400 = 500 := by decide +kernel
  have e2 : soundS 0 0 0 0 0 0 0 = true := by decide +kernel
  have e3 : soundS 0 3 0 0 0 0 0 = false := by decide +kernel
  have k1 := hid (fun W => e1 ▸ tog_any 300 400 W (by decide) (by decide))
  have k2 := hid (fun W => e2 ▸ sound_any 0 0 0 0 0 0 0 0 (by decide) (by decide) (by decide) (by decide) (by decide) (by decide) (by decide) W)
  have k3 := hid (fun W => e3 ▸ sound_any 0 0 3 0 0 0 0 0 (by decide) (by decide) (by decide) (by decide) (by decide) (by decide) (by decide) W)
  clear e1 e2 e3
  go_enter Try.func6, Try.ntmps6
  go_wp2_with fail
  refine (k1.out _).mono ?_
  rintro e V ⟨rfl, rfl⟩
  go_wp2_with fail
  refine (k2.out _).mono ?_
  rintro e V1 ⟨rfl, hA⟩
  replace hA := hid hA
  go_wp2_with fail
  refine (k3.out _).mono ?_
  rintro e V2 ⟨rfl, hA2⟩
  have hB := hid (bthen hA.out hA2)
  clear hA2
  go_wp2_with fail
  go_ret
  exact ⟨rfl, hB.out⟩
theorem togS_sym (a b : Int) : togS a b = togS b a := by
  unfold togS
  rw [Int.add_comm (a * a)]
  by_cases h : 0 ≤ a ∧ a ≤ 65535 ∧ 0 ≤ b ∧ b ≤ 65535
  · rw [if_pos h, if_pos (by omega)]
  · rw [if_neg h, if_neg (by omega)]
theorem togS_near (A B : Nat) (ha : A ≤ 65535) (hb : B ≤ 65535) : (A : Int) ≤ togS A B ∧ (B : Int) ≤ togS A B ∧ togS A B ≤ A + B := by
  have e : togS A B = (nearS (A * A + B * B) : Int) := by
    unfold togS
    rw [if_pos (by omega)]
    have : ((A : Int) * A + B * B).toNat = A * A + B * B := by omega
    rw [this]
  rw [e]
  have q1 : A * A ≤ 65535 * 65535 := Nat.mul_le_mul ha ha
  have q2 : B * B ≤ 65535 * 65535 := Nat.mul_le_mul hb hb
  have hs := sqrtS_spec (A * A + B * B) (by omega)
  have h1 : A < sqrtS (A * A + B * B) + 1 := sq_lt (by omega)
  have h2 : B < sqrtS (A * A + B * B) + 1 := sq_lt (by omega)
  have h3 : A * A + B * B ≤ (A + B) * (A + B) := by grind
  unfold nearS
  generalize sqrtS (A * A + B * B) = s at *
  have h4 : s < A + B + 1 := sq_lt (by have : (A + B + 1) * (A + B + 1) = (A + B) * (A + B) + 2 * (A + B) + 1 := by grind
                                       omega)
  split
  · rename_i c
    by_cases d : s = A + B
    · subst d; omega
    · omega
  · omega
set_option maxRecDepth 100000 in
set_option maxHeartbeats 4000000 in
theorem law_DopTogether (a0 a1 : Int) (W : World) (w0 : (Lit.int .u16 a0).wf = true) (w1 : (Lit.int .u16 a1).wf = true) :
    Calls Try.prog 5 #[.int .u16 a0, .int .u16 a1] W fun e w' => e = .returned (.bool true) ∧ Below W.heap.size W w' := by
  have b0 := bounds_u16 w0
  have b1 := bounds_u16 w1
  obtain ⟨A, rfl⟩ := Int.eq_ofNat_of_zero_le b0.1
  obtain ⟨B, rfl⟩ := Int.eq_ofNat_of_zero_le b1.1
  clear w0 w1
  have hn := togS_near A B (by omega) (by omega)
  have k1 := hid (fun W => tog_any A B W (by omega) (by omega))
  have k2 := hid (fun W => togS_sym B A ▸ tog_any B A W (by omega) (by omega))
  have e3 : togS A (-1) = 0 := by unfold togS; rw [if_neg (by omega)]
  have e4 : togS 65536 B = 0 := by unfold togS; rw [if_neg (by omega)]
  have k3 := hid (fun W => e3 ▸ tog_any A (-1) W (by omega) (by omega))
  have k4 := hid (fun W => e4 ▸ tog_any 65536 B W (by omega) (by omega))
  clear e3 e4
  generalize togS A B = T at *
  obtain ⟨h1, h2, h3⟩ := hn
  have w3 : IntKind.i64.wrap ((A : Int) + B) = A + B := by rw [IntKind.wrap_i64]; omega
  go_enter Try.func5, Try.ntmps5
  go_wp2_with fail
  refine (k1.out _).mono ?_
  rintro e V ⟨rfl, rfl⟩
  go_wp2_with fail
  refine (k2.out _).mono ?_
  rintro e V ⟨rfl, rfl⟩
  go_wp2_with fail
  refine (k3.out _).mono ?_
  rintro e V ⟨rfl, rfl⟩
  go_wp2_with fail
  refine (k4.out _).mono ?_
  rintro e V ⟨rfl, rfl⟩
  go_wp2_with fail
  refine (knows18_any _).mono ?_
  rintro e V1 ⟨rfl, hA⟩
  replace hA := hid hA
  go_wp2_with fail
  go_ret
  exact ⟨rfl, hA.out⟩

end Go.Proofs.Ytalmkeehocakeaa
