/- Package vtg: == of messages, fields of another number, knows. -/
import Derived.Test.YtcacgejljbofjaaGreatDoorVtg3
import Derived.Test.YtcacgejljbofjaaGreatDoorGR
import Derived.Laws.Tables
import Derived.Laws.Rows
import Derived.Laws.StructEq
import Derived.Deep.DeepCutAuto
namespace Go.Proofs.YtcacgejljbofjaaGreatDoor
open Go.ChangeShapes Go.WideShapes Go.ChangeAt Go.RowKit
set_option linter.unusedVariables false
set_option linter.unusedSimpArgs false

set_option maxRecDepth 100000 in
set_option maxHeartbeats 4000000 in
theorem eqU2 (i : Bool) (n : Int) (w : World) : (Op.equalIn 9999 26 (.agg #[.bool i, .int .i64 n]) (.agg #[.bool i, .int .i64 n])).run Tryz.prog w = .ok true w := by
  rw [show (9999 : Nat) = 9998 + 1 from rfl, run_equalIn_agg w 9998 _ _ _ (by kernel_rfl) (by kernel_rfl)]
  go_simp
set_option maxRecDepth 100000 in
set_option maxHeartbeats 4000000 in
theorem eqV8 (g0i : Bool) (g0n : Int) (g1i : Bool) (g1n : Int) (g2i : Bool) (g2n : Int) (g3i : Bool) (g3n : Int) (w : World) : (Op.equalIn 10000 28 (.agg #[.bool g0i, .int .i64 g0n, .bool g1i, .int .i64 g1n, .bool g2i, .int .i64 g2n, .bool g3i, .int .i64 g3n]) (.agg #[.bool g0i, .int .i64 g0n, .bool g1i, .int .i64 g1n, .bool g2i, .int .i64 g2n, .bool g3i, .int .i64 g3n])).run Tryz.prog w = .ok true w := by
  have eN := fun i n W => eqU2 i n W
  rw [show (10000 : Nat) = 9999 + 1 from rfl, run_equalIn_agg w 9999 _ _ _ (by kernel_rfl) (by kernel_rfl)]
  go_simp
set_option maxRecDepth 100000 in
set_option maxHeartbeats 8000000 in
theorem vtake_no (w : World) (a : Option Addr) (n cap : Nat) (hn : n ≠ 8 ∧ n ≠ 9) : Calls Tryz.prog 6 #[.slice a n cap] w fun r w' => r = .returned (.tuple #[.agg #[.bool false, .int .i64 0, .bool false, .int .i64 0, .bool false, .int .i64 0, .bool false, .int .i64 0], .int .i64 3]) ∧ After w w' := by
  have b1 : ((n : Int) != 8) = true := by simp; omega
  have b2 : ((n : Int) != 9) = true := by simp; omega
  have b3 : ((n : Int) == 8) = false := by simp; omega
  have b4 : ((n : Int) == 9) = false := by simp; omega
  clear hn
  go_enter Tryz.func6, Tryz.ntmps6
  go_upto_region 0 with (fail)
  apply wp_region_seg0 (w := w) (S := [.al 1000, .q []]) (E := [.al ((fun p => .pointer (some ⟨p, 0, none⟩)), _) 1000, .q0 _]) rfl (by kernel_rfl) rfl rfl
  intro th hge hne
  refine Seg.step _ rfl ⟨by rfl, fun U hU => ?_⟩ ?_
  · go_simp; exact vp_alloc rfl rfl rfl
  refine Seg.sa ?_
  refine Seg.sq ?_
  refine Seg.stop (fun U1 hU hk => ?_)
  have nb0 := hge 0 _ _ rfl
  have rb0 := (hk 0 _ _ rfl trivial).1.2 (by simp)
  clear hk hge hne
  generalize th (0 + 0) = p0_0 at *
  dsimp only at rb0
  have r_p0_0 := rb0
  clear rb0
  have n_p0_0 := nb0
  clear nb0
  have sz1 := hU.size
  have hB : Below w.heap.size w U1 := hU
  clear hU
  have ya := setRow_heap U1 p0_0 _ #[.bool false, .int .i64 0, .bool false, .int .i64 0, .bool false, .int .i64 0, .bool false, .int .i64 0] 28 (0, 0) r_p0_0
  have yO : Only p0_0 U1 (U1.setRow p0_0 #[.bool false, .int .i64 0, .bool false, .int .i64 0, .bool false, .int .i64 0, .bool false, .int .i64 0]) := ⟨rfl, rfl, rfl, by simp [World.setRow], fun k hk => setRow_other _ _ _ _ hk⟩
  obtain ⟨W9, hW9⟩ : ∃ X, U1.setRow p0_0 #[.bool false, .int .i64 0, .bool false, .int .i64 0, .bool false, .int .i64 0, .bool false, .int .i64 0] = X := ⟨_, rfl⟩
  rw [hW9] at ya yO
  have hB9 := hid (belowS hB yO (by omega))
  have hld := run_loadVar_row (P := Tryz.prog) W9 p0_0 28 28 #[.bool false, .int .i64 0, .bool false, .int .i64 0, .bool false, .int .i64 0, .bool false, .int .i64 0] (0, 0) _ ya Tryz.underlying28 rfl (by kernel_rfl)
  replace ya := hid ya
  clear yO
  go_wp2_with (first | (refine wpList_store_row rfl 28 (.tmp 2) (.tmp 14) rfl p0_0 #[.bool false, .int .i64 0, .bool false, .int .i64 0, .bool false, .int .i64 0, .bool false, .int .i64 0] rfl rfl 28 _ r_p0_0 (by kernel_rfl) rfl (by simp [Value.oneCell']) ?_; rw [hW9]))
  refine bodyPost_ret (v := .tuple #[.agg #[.bool false, .int .i64 0, .bool false, .int .i64 0, .bool false, .int .i64 0, .bool false, .int .i64 0], .int .i64 3]) (by simp [results, Tryz.results6, asAddr, hld]) rfl ⟨rfl, hB9.out⟩
theorem num28_any (n : Int) (w : World) : Calls Tryz.prog 8 #[.int .i64 n] w fun e w' => e = .returned (.int .i64 n) ∧ w' = w := by
  go_enter Tryz.func8, Tryz.ntmps8
  go_wp2_with fail
  go_ret
  exact ⟨rfl, rfl⟩
theorem num28_aft (n : Int) (w : World) : Calls Tryz.prog 8 #[.int .i64 n] w fun e w' => e = .returned (.int .i64 n) ∧ After w w' := (num28_any n w).mono (fun r V h => ⟨h.1, by rw [h.2]; exact After.refl _⟩)
set_option maxRecDepth 100000 in
set_option maxHeartbeats 8000000 in
theorem kput28 (U : World) (h : Tab U) : Calls Tryz.prog 9 #[.agg #[.bool false, .int .i64 0, .bool false, .int .i64 0, .bool false, .int .i64 0, .bool true, .int .i64 0]] U fun r w' => DnOk U 0 [⟨#[]⟩, ⟨#[]⟩, ⟨#[]⟩, ⟨#[]⟩, ⟨#[]⟩, ⟨#[]⟩, ⟨#[48]⟩, ⟨#[75]⟩] r w' := by
  have hL : fL (vtI false 0 false 0 false 0 true 0) = [⟨#[]⟩, ⟨#[]⟩, ⟨#[]⟩, ⟨#[]⟩, ⟨#[]⟩, ⟨#[]⟩, ⟨#[48]⟩, ⟨#[75]⟩] := by decide +kernel
  have hE0 : fE (vtI false 0 false 0 false 0 true 0) = 0 := by decide +kernel
  have k2 := vtput_any false 0 false 0 false 0 true 0 U (by decide) h
  rw [hL, hE0] at k2
  exact k2
theorem kkm28 (U : World) : Calls Tryz.prog 10 #[.int .i64 100] U fun r w' => r = .returned (.int .i64 185) ∧ After U w' := by
  have h : kmS 100 = 185 := by decide +kernel
  exact h ▸ kmh28_any 100 U (by decide)
theorem kag28 (U : World) : Calls Tryz.prog 11 #[.agg #[.bool false, .int .i64 0, .bool false, .int .i64 0, .bool false, .int .i64 0, .bool false, .int .i64 0]] U fun r w' => r = .returned (.bool true) ∧ After U w' := agrees28_any false 0 false 0 false 0 false 0 U (by decide)
set_option maxRecDepth 100000 in
set_option maxHeartbeats 8000000 in
theorem knows28_any (w : World) (hT : Tab w) : Calls Tryz.prog 5 #[] w fun e w' => e = .returned (.bool true) ∧ After w w' := by
  have k2 := hid (fun U (h : Tab U) => kput28 U h)
  replace hT := hid hT
  go_enter Tryz.func5, Tryz.ntmps5
  go_upto_region 0 with (fail)
  go_wp2_with fail
  refine (k2.out _ hT.out).mono ?_
  rintro r V3 ⟨a9, c9, rfl, g1, -, hB⟩
  clear hT k2
  simp only [if_true, List.length_cons, List.length_nil, Nat.zero_add, Nat.reduceAdd] at g1
  replace g1 := hid g1
  replace hB := hid hB
  try simp only [if_true, List.length_cons, List.length_nil, Nat.zero_add, Nat.reduceAdd]
  go_wp2_with fail
  refine (kkm28 _).mono ?_
  rintro r V4 ⟨rfl, hA⟩
  have g2 := g1.out.below hA
  replace hB := hid (bthen hB.out hA)
  clear hA g1
  obtain ⟨b1, o1, rfl, d1⟩ := g2.at1 (i := 1) (v0 := .string ⟨#[]⟩) rfl
  obtain ⟨b7, o7, e7, d7⟩ := g2.at1 (i := 7) (v0 := .string ⟨#[75]⟩) rfl
  cases e7
  clear g2
  go_wp2_with fail
  refine (num28_any 0 _).mono ?_
  rintro r V ⟨rfl, hv⟩
  obtain rfl : V4 = V := hv.symm
  go_wp2_with fail
  refine (kag28 _).mono ?_
  rintro r V5 ⟨rfl, hA⟩
  replace hB := hid (bthen hB.out hA)
  clear hA
  go_wp2_with fail
  go_ret
  exact ⟨ret_bool (by simp), hB.out⟩
theorem list8 {F : List ByteArray} (h : F.length = 8 ∨ F.length = 9) : ∃ s0 s1 s2 s3 s4 s5 s6 s7 R, R.length ≤ 1 ∧ F.length = 8 + R.length ∧ F = s0 :: s1 :: s2 :: s3 :: s4 :: s5 :: s6 :: s7 :: R := by
  match F, h with
  | [s0, s1, s2, s3, s4, s5, s6, s7], _ => exact ⟨s0, s1, s2, s3, s4, s5, s6, s7, [], by simp, rfl, rfl⟩
  | [s0, s1, s2, s3, s4, s5, s6, s7, s11], _ => exact ⟨s0, s1, s2, s3, s4, s5, s6, s7, [s11], by simp, rfl, rfl⟩

end Go.Proofs.YtcacgejljbofjaaGreatDoor
