/- Package pvt: Shape. -/
import Derived.Test.YtfihdgichmocmaaPvt7
import Derived.Test.YtfihdgichmocmaaKS4
import Derived.Deep.DeepCutAuto
namespace Go.Proofs.Ytfihdgichmocmaa
open Go.ChangeShapes Go.WideShapes Go.ChangeAt Go.RowKit
set_option linter.unusedVariables false
set_option linter.unusedSimpArgs false

def PD16 : List Fd := (⟨4, false, 0, 604799999⟩ :: ⟨2, false, 0, 65535⟩ :: ⟨1, false, 0, 12⟩ :: ⟨1, false, 0, 31⟩ :: ⟨1, false, 0, 23⟩ :: ⟨1, false, 0, 59⟩ :: ⟨1, false, 0, 60⟩ :: ⟨1, false, 0, 15⟩ :: ⟨4, false, 0, 4294967295⟩ :: ⟨4, true, -1000000000, 1000000000⟩ :: ⟨1, false, 0, 5⟩ :: ⟨1, false, 0, 255⟩ :: ⟨1, false, 0, 255⟩ :: ⟨1, false, 0, 255⟩ :: ⟨4, true, -1800000000, 1800000000⟩ :: ⟨4, true, -900000000, 900000000⟩ :: ⟨4, true, -2147483648, 2147483647⟩ :: ⟨4, true, -2147483648, 2147483647⟩ :: ⟨4, false, 0, 4294967295⟩ :: ⟨4, false, 0, 4294967295⟩ :: ⟨4, true, -2147483648, 2147483647⟩ :: ⟨4, true, -2147483648, 2147483647⟩ :: ⟨4, true, -2147483648, 2147483647⟩ :: ⟨4, true, -2147483648, 2147483647⟩ :: ⟨4, true, 0, 36000000⟩ :: ⟨4, false, 0, 4294967295⟩ :: ⟨4, false, 0, 4294967295⟩ :: ⟨2, false, 0, 65535⟩ :: ⟨2, false, 0, 31⟩ :: ⟨4, false, 0, 0⟩ :: ⟨4, true, 0, 36000000⟩ :: ⟨2, true, -18000, 18000⟩ :: ⟨2, false, 0, 65535⟩ :: [])
set_option maxRecDepth 100000 in
set_option maxHeartbeats 8000000 in
theorem fields16 (w : World) : Calls Try.prog 11 #[] w (FdOk w PD16) := by
  have e0 : uV 4 604799999 = .agg #[.int .i64 4, .bool false, .int .i64 0, .int .i64 604799999] := by rfl
  replace e0 := hid e0
  have e1 : anyV 2 false = .agg #[.int .i64 2, .bool false, .int .i64 0, .int .i64 65535] := by rfl
  replace e1 := hid e1
  have e2 : uV 1 12 = .agg #[.int .i64 1, .bool false, .int .i64 0, .int .i64 12] := by rfl
  replace e2 := hid e2
  have e3 : uV 1 31 = .agg #[.int .i64 1, .bool false, .int .i64 0, .int .i64 31] := by rfl
  replace e3 := hid e3
  have e4 : uV 1 23 = .agg #[.int .i64 1, .bool false, .int .i64 0, .int .i64 23] := by rfl
  replace e4 := hid e4
  have e5 : uV 1 59 = .agg #[.int .i64 1, .bool false, .int .i64 0, .int .i64 59] := by rfl
  replace e5 := hid e5
  have e6 : uV 1 60 = .agg #[.int .i64 1, .bool false, .int .i64 0, .int .i64 60] := by rfl
  replace e6 := hid e6
  have e7 : uV 1 15 = .agg #[.int .i64 1, .bool false, .int .i64 0, .int .i64 15] := by rfl
  replace e7 := hid e7
  have e8 : anyV 4 false = .agg #[.int .i64 4, .bool false, .int .i64 0, .int .i64 4294967295] := by rfl
  replace e8 := hid e8
  have e9 : iV 4 (-1000000000) 1000000000 = .agg #[.int .i64 4, .bool true, .int .i64 (-1000000000), .int .i64 1000000000] := by rfl
  replace e9 := hid e9
  have e10 : uV 1 5 = .agg #[.int .i64 1, .bool false, .int .i64 0, .int .i64 5] := by rfl
  replace e10 := hid e10
  have e11 : anyV 1 false = .agg #[.int .i64 1, .bool false, .int .i64 0, .int .i64 255] := by rfl
  replace e11 := hid e11
  have e12 : anyV 1 false = .agg #[.int .i64 1, .bool false, .int .i64 0, .int .i64 255] := by rfl
  replace e12 := hid e12
  have e13 : anyV 1 false = .agg #[.int .i64 1, .bool false, .int .i64 0, .int .i64 255] := by rfl
  replace e13 := hid e13
  have e14 : iV 4 (-1800000000) 1800000000 = .agg #[.int .i64 4, .bool true, .int .i64 (-1800000000), .int .i64 1800000000] := by rfl
  replace e14 := hid e14
  have e15 : iV 4 (-900000000) 900000000 = .agg #[.int .i64 4, .bool true, .int .i64 (-900000000), .int .i64 900000000] := by rfl
  replace e15 := hid e15
  have e16 : anyV 4 true = .agg #[.int .i64 4, .bool true, .int .i64 (-2147483648), .int .i64 2147483647] := by rfl
  replace e16 := hid e16
  have e17 : anyV 4 true = .agg #[.int .i64 4, .bool true, .int .i64 (-2147483648), .int .i64 2147483647] := by rfl
  replace e17 := hid e17
  have e18 : anyV 4 false = .agg #[.int .i64 4, .bool false, .int .i64 0, .int .i64 4294967295] := by rfl
  replace e18 := hid e18
  have e19 : anyV 4 false = .agg #[.int .i64 4, .bool false, .int .i64 0, .int .i64 4294967295] := by rfl
  replace e19 := hid e19
  have e20 : anyV 4 true = .agg #[.int .i64 4, .bool true, .int .i64 (-2147483648), .int .i64 2147483647] := by rfl
  replace e20 := hid e20
  have e21 : anyV 4 true = .agg #[.int .i64 4, .bool true, .int .i64 (-2147483648), .int .i64 2147483647] := by rfl
  replace e21 := hid e21
  have e22 : anyV 4 true = .agg #[.int .i64 4, .bool true, .int .i64 (-2147483648), .int .i64 2147483647] := by rfl
  replace e22 := hid e22
  have e23 : anyV 4 true = .agg #[.int .i64 4, .bool true, .int .i64 (-2147483648), .int .i64 2147483647] := by rfl
  replace e23 := hid e23
  have e24 : iV 4 0 36000000 = .agg #[.int .i64 4, .bool true, .int .i64 0, .int .i64 36000000] := by rfl
  replace e24 := hid e24
  have e25 : anyV 4 false = .agg #[.int .i64 4, .bool false, .int .i64 0, .int .i64 4294967295] := by rfl
  replace e25 := hid e25
  have e26 : anyV 4 false = .agg #[.int .i64 4, .bool false, .int .i64 0, .int .i64 4294967295] := by rfl
  replace e26 := hid e26
  have e27 : anyV 2 false = .agg #[.int .i64 2, .bool false, .int .i64 0, .int .i64 65535] := by rfl
  replace e27 := hid e27
  have e28 : uV 2 31 = .agg #[.int .i64 2, .bool false, .int .i64 0, .int .i64 31] := by rfl
  replace e28 := hid e28
  have e29 : uV 4 0 = .agg #[.int .i64 4, .bool false, .int .i64 0, .int .i64 0] := by rfl
  replace e29 := hid e29
  have e30 : iV 4 0 36000000 = .agg #[.int .i64 4, .bool true, .int .i64 0, .int .i64 36000000] := by rfl
  replace e30 := hid e30
  have e31 : iV 2 (-18000) 18000 = .agg #[.int .i64 2, .bool true, .int .i64 (-18000), .int .i64 18000] := by rfl
  replace e31 := hid e31
  have e32 : anyV 2 false = .agg #[.int .i64 2, .bool false, .int .i64 0, .int .i64 65535] := by rfl
  replace e32 := hid e32
  go_enter Try.func11, Try.ntmps11
  go_wp2_with fail
  have hB := hid (After.refl w)
  refine (u_any 4 604799999 _).mono ?_
  rintro e w1 ⟨rfl, hA⟩
  replace hB := hid (bthen hB.out hA)
  rw [e0.out]
  clear hA e0
  go_wp2_with fail
  refine (any_any 2 false _).mono ?_
  rintro e w2 ⟨rfl, hA⟩
  replace hB := hid (bthen hB.out hA)
  rw [e1.out]
  clear hA e1
  go_wp2_with fail
  refine (u_any 1 12 _).mono ?_
  rintro e w3 ⟨rfl, hA⟩
  replace hB := hid (bthen hB.out hA)
  rw [e2.out]
  clear hA e2
  go_wp2_with fail
  refine (u_any 1 31 _).mono ?_
  rintro e w4 ⟨rfl, hA⟩
  replace hB := hid (bthen hB.out hA)
  rw [e3.out]
  clear hA e3
  go_wp2_with fail
  refine (u_any 1 23 _).mono ?_
  rintro e w5 ⟨rfl, hA⟩
  replace hB := hid (bthen hB.out hA)
  rw [e4.out]
  clear hA e4
  go_wp2_with fail
  refine (u_any 1 59 _).mono ?_
  rintro e w6 ⟨rfl, hA⟩
  replace hB := hid (bthen hB.out hA)
  rw [e5.out]
  clear hA e5
  go_wp2_with fail
  refine (u_any 1 60 _).mono ?_
  rintro e w7 ⟨rfl, hA⟩
  replace hB := hid (bthen hB.out hA)
  rw [e6.out]
  clear hA e6
  go_wp2_with fail
  refine (u_any 1 15 _).mono ?_
  rintro e w8 ⟨rfl, hA⟩
  replace hB := hid (bthen hB.out hA)
  rw [e7.out]
  clear hA e7
  go_wp2_with fail
  refine (any_any 4 false _).mono ?_
  rintro e w9 ⟨rfl, hA⟩
  replace hB := hid (bthen hB.out hA)
  rw [e8.out]
  clear hA e8
  go_wp2_with fail
  refine (i_any 4 (-1000000000) 1000000000 _).mono ?_
  rintro e w10 ⟨rfl, hA⟩
  replace hB := hid (bthen hB.out hA)
  rw [e9.out]
  clear hA e9
  go_wp2_with fail
  refine (u_any 1 5 _).mono ?_
  rintro e w11 ⟨rfl, hA⟩
  replace hB := hid (bthen hB.out hA)
  rw [e10.out]
  clear hA e10
  go_wp2_with fail
  refine (any_any 1 false _).mono ?_
  rintro e w12 ⟨rfl, hA⟩
  replace hB := hid (bthen hB.out hA)
  rw [e11.out]
  clear hA e11
  go_wp2_with fail
  refine (any_any 1 false _).mono ?_
  rintro e w13 ⟨rfl, hA⟩
  replace hB := hid (bthen hB.out hA)
  rw [e12.out]
  clear hA e12
  go_wp2_with fail
  refine (any_any 1 false _).mono ?_
  rintro e w14 ⟨rfl, hA⟩
  replace hB := hid (bthen hB.out hA)
  rw [e13.out]
  clear hA e13
  go_wp2_with fail
  refine (i_any 4 (-1800000000) 1800000000 _).mono ?_
  rintro e w15 ⟨rfl, hA⟩
  replace hB := hid (bthen hB.out hA)
  rw [e14.out]
  clear hA e14
  go_wp2_with fail
  refine (i_any 4 (-900000000) 900000000 _).mono ?_
  rintro e w16 ⟨rfl, hA⟩
  replace hB := hid (bthen hB.out hA)
  rw [e15.out]
  clear hA e15
  go_wp2_with fail
  refine (any_any 4 true _).mono ?_
  rintro e w17 ⟨rfl, hA⟩
  replace hB := hid (bthen hB.out hA)
  rw [e16.out]
  clear hA e16
  go_wp2_with fail
  refine (any_any 4 true _).mono ?_
  rintro e w18 ⟨rfl, hA⟩
  replace hB := hid (bthen hB.out hA)
  rw [e17.out]
  clear hA e17
  go_wp2_with fail
  refine (any_any 4 false _).mono ?_
  rintro e w19 ⟨rfl, hA⟩
  replace hB := hid (bthen hB.out hA)
  rw [e18.out]
  clear hA e18
  go_wp2_with fail
  refine (any_any 4 false _).mono ?_
  rintro e w20 ⟨rfl, hA⟩
  replace hB := hid (bthen hB.out hA)
  rw [e19.out]
  clear hA e19
  go_wp2_with fail
  refine (any_any 4 true _).mono ?_
  rintro e w21 ⟨rfl, hA⟩
  replace hB := hid (bthen hB.out hA)
  rw [e20.out]
  clear hA e20
  go_wp2_with fail
  refine (any_any 4 true _).mono ?_
  rintro e w22 ⟨rfl, hA⟩
  replace hB := hid (bthen hB.out hA)
  rw [e21.out]
  clear hA e21
  go_wp2_with fail
  refine (any_any 4 true _).mono ?_
  rintro e w23 ⟨rfl, hA⟩
  replace hB := hid (bthen hB.out hA)
  rw [e22.out]
  clear hA e22
  go_wp2_with fail
  refine (any_any 4 true _).mono ?_
  rintro e w24 ⟨rfl, hA⟩
  replace hB := hid (bthen hB.out hA)
  rw [e23.out]
  clear hA e23
  go_wp2_with fail
  refine (i_any 4 0 36000000 _).mono ?_
  rintro e w25 ⟨rfl, hA⟩
  replace hB := hid (bthen hB.out hA)
  rw [e24.out]
  clear hA e24
  go_wp2_with fail
  refine (any_any 4 false _).mono ?_
  rintro e w26 ⟨rfl, hA⟩
  replace hB := hid (bthen hB.out hA)
  rw [e25.out]
  clear hA e25
  go_wp2_with fail
  refine (any_any 4 false _).mono ?_
  rintro e w27 ⟨rfl, hA⟩
  replace hB := hid (bthen hB.out hA)
  rw [e26.out]
  clear hA e26
  go_wp2_with fail
  refine (any_any 2 false _).mono ?_
  rintro e w28 ⟨rfl, hA⟩
  replace hB := hid (bthen hB.out hA)
  rw [e27.out]
  clear hA e27
  go_wp2_with fail
  refine (u_any 2 31 _).mono ?_
  rintro e w29 ⟨rfl, hA⟩
  replace hB := hid (bthen hB.out hA)
  rw [e28.out]
  clear hA e28
  go_wp2_with fail
  refine (u_any 4 0 _).mono ?_
  rintro e w30 ⟨rfl, hA⟩
  replace hB := hid (bthen hB.out hA)
  rw [e29.out]
  clear hA e29
  go_wp2_with fail
  refine (i_any 4 0 36000000 _).mono ?_
  rintro e w31 ⟨rfl, hA⟩
  replace hB := hid (bthen hB.out hA)
  rw [e30.out]
  clear hA e30
  go_wp2_with fail
  refine (i_any 2 (-18000) 18000 _).mono ?_
  rintro e w32 ⟨rfl, hA⟩
  replace hB := hid (bthen hB.out hA)
  rw [e31.out]
  clear hA e31
  go_wp2_with fail
  refine (any_any 2 false _).mono ?_
  rintro e w33 ⟨rfl, hA⟩
  replace hB := hid (bthen hB.out hA)
  rw [e32.out]
  clear hA e32
  skip
  have hF := hid (flds_block (l := PD16) (alloc_new w33 (.cells #[.int .i64 4, .bool false, .int .i64 0, .int .i64 604799999, .int .i64 2, .bool false, .int .i64 0, .int .i64 65535, .int .i64 1, .bool false, .int .i64 0, .int .i64 12, .int .i64 1, .bool false, .int .i64 0, .int .i64 31, .int .i64 1, .bool false, .int .i64 0, .int .i64 23, .int .i64 1, .bool false, .int .i64 0, .int .i64 59, .int .i64 1, .bool false, .int .i64 0, .int .i64 60, .int .i64 1, .bool false, .int .i64 0, .int .i64 15, .int .i64 4, .bool false, .int .i64 0, .int .i64 4294967295, .int .i64 4, .bool true, .int .i64 (-1000000000), .int .i64 1000000000, .int .i64 1, .bool false, .int .i64 0, .int .i64 5, .int .i64 1, .bool false, .int .i64 0, .int .i64 255, .int .i64 1, .bool false, .int .i64 0, .int .i64 255, .int .i64 1, .bool false, .int .i64 0, .int .i64 255, .int .i64 4, .bool true, .int .i64 (-1800000000), .int .i64 1800000000, .int .i64 4, .bool true, .int .i64 (-900000000), .int .i64 900000000, .int .i64 4, .bool true, .int .i64 (-2147483648), .int .i64 2147483647, .int .i64 4, .bool true, .int .i64 (-2147483648), .int .i64 2147483647, .int .i64 4, .bool false, .int .i64 0, .int .i64 4294967295, .int .i64 4, .bool false, .int .i64 0, .int .i64 4294967295, .int .i64 4, .bool true, .int .i64 (-2147483648), .int .i64 2147483647, .int .i64 4, .bool true, .int .i64 (-2147483648), .int .i64 2147483647, .int .i64 4, .bool true, .int .i64 (-2147483648), .int .i64 2147483647, .int .i64 4, .bool true, .int .i64 (-2147483648), .int .i64 2147483647, .int .i64 4, .bool true, .int .i64 0, .int .i64 36000000, .int .i64 4, .bool false, .int .i64 0, .int .i64 4294967295, .int .i64 4, .bool false, .int .i64 0, .int .i64 4294967295, .int .i64 2, .bool false, .int .i64 0, .int .i64 65535, .int .i64 2, .bool false, .int .i64 0, .int .i64 31, .int .i64 4, .bool false, .int .i64 0, .int .i64 0, .int .i64 4, .bool true, .int .i64 0, .int .i64 36000000, .int .i64 2, .bool true, .int .i64 (-18000), .int .i64 18000, .int .i64 2, .bool false, .int .i64 0, .int .i64 65535] 35)).2.2 rfl (by decide))
  have hB9 := hid (balloc hB.out (Nat.le_refl _) (.cells #[.int .i64 4, .bool false, .int .i64 0, .int .i64 604799999, .int .i64 2, .bool false, .int .i64 0, .int .i64 65535, .int .i64 1, .bool false, .int .i64 0, .int .i64 12, .int .i64 1, .bool false, .int .i64 0, .int .i64 31, .int .i64 1, .bool false, .int .i64 0, .int .i64 23, .int .i64 1, .bool false, .int .i64 0, .int .i64 59, .int .i64 1, .bool false, .int .i64 0, .int .i64 60, .int .i64 1, .bool false, .int .i64 0, .int .i64 15, .int .i64 4, .bool false, .int .i64 0, .int .i64 4294967295, .int .i64 4, .bool true, .int .i64 (-1000000000), .int .i64 1000000000, .int .i64 1, .bool false, .int .i64 0, .int .i64 5, .int .i64 1, .bool false, .int .i64 0, .int .i64 255, .int .i64 1, .bool false, .int .i64 0, .int .i64 255, .int .i64 1, .bool false, .int .i64 0, .int .i64 255, .int .i64 4, .bool true, .int .i64 (-1800000000), .int .i64 1800000000, .int .i64 4, .bool true, .int .i64 (-900000000), .int .i64 900000000, .int .i64 4, .bool true, .int .i64 (-2147483648), .int .i64 2147483647, .int .i64 4, .bool true, .int .i64 (-2147483648), .int .i64 2147483647, .int .i64 4, .bool false, .int .i64 0, .int .i64 4294967295, .int .i64 4, .bool false, .int .i64 0, .int .i64 4294967295, .int .i64 4, .bool true, .int .i64 (-2147483648), .int .i64 2147483647, .int .i64 4, .bool true, .int .i64 (-2147483648), .int .i64 2147483647, .int .i64 4, .bool true, .int .i64 (-2147483648), .int .i64 2147483647, .int .i64 4, .bool true, .int .i64 (-2147483648), .int .i64 2147483647, .int .i64 4, .bool true, .int .i64 0, .int .i64 36000000, .int .i64 4, .bool false, .int .i64 0, .int .i64 4294967295, .int .i64 4, .bool false, .int .i64 0, .int .i64 4294967295, .int .i64 2, .bool false, .int .i64 0, .int .i64 65535, .int .i64 2, .bool false, .int .i64 0, .int .i64 31, .int .i64 4, .bool false, .int .i64 0, .int .i64 0, .int .i64 4, .bool true, .int .i64 0, .int .i64 36000000, .int .i64 2, .bool true, .int .i64 (-18000), .int .i64 18000, .int .i64 2, .bool false, .int .i64 0, .int .i64 65535] 35))
  clear hB
  go_wp2_with fail
  go_ret
  exact ⟨_, 33, rfl, hF.out, hB9.out⟩
set_option maxRecDepth 100000 in
set_option maxHeartbeats 8000000 in
theorem rfields16 (w : World) : Calls Try.prog 12 #[] w (FdOk w PD16) := by
  go_enter Try.func12, Try.ntmps12
  have hB := hid (After.refl w)
  have hF := hid (flds_block (l := PD16) (alloc_new w (.cells #[.int .i64 4, .bool false, .int .i64 0, .int .i64 604799999, .int .i64 2, .bool false, .int .i64 0, .int .i64 65535, .int .i64 1, .bool false, .int .i64 0, .int .i64 12, .int .i64 1, .bool false, .int .i64 0, .int .i64 31, .int .i64 1, .bool false, .int .i64 0, .int .i64 23, .int .i64 1, .bool false, .int .i64 0, .int .i64 59, .int .i64 1, .bool false, .int .i64 0, .int .i64 60, .int .i64 1, .bool false, .int .i64 0, .int .i64 15, .int .i64 4, .bool false, .int .i64 0, .int .i64 4294967295, .int .i64 4, .bool true, .int .i64 (-1000000000), .int .i64 1000000000, .int .i64 1, .bool false, .int .i64 0, .int .i64 5, .int .i64 1, .bool false, .int .i64 0, .int .i64 255, .int .i64 1, .bool false, .int .i64 0, .int .i64 255, .int .i64 1, .bool false, .int .i64 0, .int .i64 255, .int .i64 4, .bool true, .int .i64 (-1800000000), .int .i64 1800000000, .int .i64 4, .bool true, .int .i64 (-900000000), .int .i64 900000000, .int .i64 4, .bool true, .int .i64 (-2147483648), .int .i64 2147483647, .int .i64 4, .bool true, .int .i64 (-2147483648), .int .i64 2147483647, .int .i64 4, .bool false, .int .i64 0, .int .i64 4294967295, .int .i64 4, .bool false, .int .i64 0, .int .i64 4294967295, .int .i64 4, .bool true, .int .i64 (-2147483648), .int .i64 2147483647, .int .i64 4, .bool true, .int .i64 (-2147483648), .int .i64 2147483647, .int .i64 4, .bool true, .int .i64 (-2147483648), .int .i64 2147483647, .int .i64 4, .bool true, .int .i64 (-2147483648), .int .i64 2147483647, .int .i64 4, .bool true, .int .i64 0, .int .i64 36000000, .int .i64 4, .bool false, .int .i64 0, .int .i64 4294967295, .int .i64 4, .bool false, .int .i64 0, .int .i64 4294967295, .int .i64 2, .bool false, .int .i64 0, .int .i64 65535, .int .i64 2, .bool false, .int .i64 0, .int .i64 31, .int .i64 4, .bool false, .int .i64 0, .int .i64 0, .int .i64 4, .bool true, .int .i64 0, .int .i64 36000000, .int .i64 2, .bool true, .int .i64 (-18000), .int .i64 18000, .int .i64 2, .bool false, .int .i64 0, .int .i64 65535] 35)).2.2 rfl (by decide))
  have hB9 := hid (balloc hB.out (Nat.le_refl _) (.cells #[.int .i64 4, .bool false, .int .i64 0, .int .i64 604799999, .int .i64 2, .bool false, .int .i64 0, .int .i64 65535, .int .i64 1, .bool false, .int .i64 0, .int .i64 12, .int .i64 1, .bool false, .int .i64 0, .int .i64 31, .int .i64 1, .bool false, .int .i64 0, .int .i64 23, .int .i64 1, .bool false, .int .i64 0, .int .i64 59, .int .i64 1, .bool false, .int .i64 0, .int .i64 60, .int .i64 1, .bool false, .int .i64 0, .int .i64 15, .int .i64 4, .bool false, .int .i64 0, .int .i64 4294967295, .int .i64 4, .bool true, .int .i64 (-1000000000), .int .i64 1000000000, .int .i64 1, .bool false, .int .i64 0, .int .i64 5, .int .i64 1, .bool false, .int .i64 0, .int .i64 255, .int .i64 1, .bool false, .int .i64 0, .int .i64 255, .int .i64 1, .bool false, .int .i64 0, .int .i64 255, .int .i64 4, .bool true, .int .i64 (-1800000000), .int .i64 1800000000, .int .i64 4, .bool true, .int .i64 (-900000000), .int .i64 900000000, .int .i64 4, .bool true, .int .i64 (-2147483648), .int .i64 2147483647, .int .i64 4, .bool true, .int .i64 (-2147483648), .int .i64 2147483647, .int .i64 4, .bool false, .int .i64 0, .int .i64 4294967295, .int .i64 4, .bool false, .int .i64 0, .int .i64 4294967295, .int .i64 4, .bool true, .int .i64 (-2147483648), .int .i64 2147483647, .int .i64 4, .bool true, .int .i64 (-2147483648), .int .i64 2147483647, .int .i64 4, .bool true, .int .i64 (-2147483648), .int .i64 2147483647, .int .i64 4, .bool true, .int .i64 (-2147483648), .int .i64 2147483647, .int .i64 4, .bool true, .int .i64 0, .int .i64 36000000, .int .i64 4, .bool false, .int .i64 0, .int .i64 4294967295, .int .i64 4, .bool false, .int .i64 0, .int .i64 4294967295, .int .i64 2, .bool false, .int .i64 0, .int .i64 65535, .int .i64 2, .bool false, .int .i64 0, .int .i64 31, .int .i64 4, .bool false, .int .i64 0, .int .i64 0, .int .i64 4, .bool true, .int .i64 0, .int .i64 36000000, .int .i64 2, .bool true, .int .i64 (-18000), .int .i64 18000, .int .i64 2, .bool false, .int .i64 0, .int .i64 65535] 35))
  clear hB
  go_wp2_with fail
  go_ret
  exact ⟨_, 33, rfl, hF.out, hB9.out⟩

end Go.Proofs.Ytfihdgichmocmaa
