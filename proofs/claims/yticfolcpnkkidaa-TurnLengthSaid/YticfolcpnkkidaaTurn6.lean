/- Package turn: the papers' angles brought back, parts of a circle. -/
import Derived.Test.YticfolcpnkkidaaTurn5
import Derived.Deep.DeepCutAuto
namespace Go.Proofs.Yticfolcpnkkidaa
open Go.ChangeShapes Go.WideShapes Go.ChangeAt Go.RowKit
set_option linter.unusedVariables false

theorem rem_far (a : Int) (h1 : -4611686018427387904 ≤ a) (h2 : a ≤ 4611686018427387904) : ∃ r : Int, -4294967296 < a.tmod 4294967296 ∧ a.tmod 4294967296 < 4294967296 ∧ (a.tmod 4294967296 + 4294967296).tmod 4294967296 = r ∧ r = a % 4294967296 ∧ 0 ≤ r ∧ r < 4294967296 := by
  have g1 := Int.tmod_lt_of_pos a (b := 4294967296) (by omega)
  have g2 := Int.lt_tmod_of_pos a (b := 4294967296) (by omega)
  have g3 := Int.mul_tdiv_add_tmod a 4294967296
  have g4 := Int.tmod_eq_emod_of_nonneg (a := a.tmod 4294967296 + 4294967296) (b := 4294967296) (by omega)
  generalize a.tmod 4294967296 = m at *
  generalize a.tdiv 4294967296 = d at *
  refine ⟨_, ?_, ?_, rfl, ?_, ?_, ?_⟩ <;> omega
theorem wrap32_mod (a : Int) : (2147483648 ≤ a % 4294967296 → IntKind.i32.wrap a = a % 4294967296 - 4294967296) ∧ (a % 4294967296 < 2147483648 → IntKind.i32.wrap a = a % 4294967296) := by
  rw [IntKind.wrap_i32]; omega
theorem tround_any (a : Int) (w : World) (h1 : -4611686018427387904 ≤ a) (h2 : a ≤ 4611686018427387904) :
    Calls Try.prog 46 #[.int .i64 a] w fun e w' => e = .returned (.int .i32 (IntKind.i32.wrap a)) ∧ w' = w := by
  obtain ⟨r, e1, e2, e3, e4, e5, e6⟩ := rem_far a h1 h2
  obtain ⟨q1, q2⟩ := wrap32_mod a
  rw [← e4] at q1 q2
  clear e4
  have f1 : IntKind.i64.wrap (a.tmod 4294967296 + 4294967296) = a.tmod 4294967296 + 4294967296 := by rw [IntKind.wrap_i64]; omega
  have f2 : IntKind.i64.wrap (r - 4294967296) = r - 4294967296 := by rw [IntKind.wrap_i64]; omega
  by_cases c : 2147483648 ≤ r
  · have q := q1 c
    rw [q]
    clear q q1 q2
    have f3 : IntKind.i32.wrap (r - 4294967296) = r - 4294967296 := by rw [IntKind.wrap_i32]; omega
    go_enter Try.func46, Try.ntmps46
    go_wp2_with omega
    go_ret
    exact ⟨rfl, rfl⟩
  · have q := q2 (by omega)
    rw [q]
    clear q q1 q2
    have f3 : IntKind.i32.wrap r = r := by rw [IntKind.wrap_i32]; omega
    go_enter Try.func46, Try.ntmps46
    go_wp2_with omega
    go_ret
    exact ⟨rfl, rfl⟩
theorem rpart_any (n : Int) (w : World) (h1 : -9223372036854775808 ≤ n) (h2 : n ≤ 9223372036854775807) :
    Calls Try.prog 48 #[.int .i64 n] w fun e w' => e = .returned (.int .i32 (withinS (roundS n 20))) ∧ w' = w := by
  have k := hid (fun (v : World) => rround_any n 20 v h1 h2)
  clear h1 h2
  generalize roundS n 20 = r at *
  by_cases c1 : r ≤ -1073741824
  · rw [withinS_lo c1]
    go_enter Try.func48, Try.ntmps48
    go_wp2_with fail
    refine (k.out _).mono ?_
    rintro e U ⟨rfl, rfl⟩
    go_wp2_with omega
    go_ret
    exact ⟨rfl, rfl⟩
  · by_cases c2 : 1073741824 < r
    · rw [withinS_hi c2]
      go_enter Try.func48, Try.ntmps48
      go_wp2_with fail
      refine (k.out _).mono ?_
      rintro e U ⟨rfl, rfl⟩
      go_wp2_with omega
      go_ret
      exact ⟨rfl, rfl⟩
    · rw [withinS_in (by omega) (by omega)]
      have hw : IntKind.i32.wrap r = r := by rw [IntKind.wrap_i32]; omega
      go_enter Try.func48, Try.ntmps48
      go_wp2_with fail
      refine (k.out _).mono ?_
      rintro e U ⟨rfl, rfl⟩
      go_wp2_with omega
      go_ret
      exact ⟨rfl, rfl⟩
end Go.Proofs.Yticfolcpnkkidaa
