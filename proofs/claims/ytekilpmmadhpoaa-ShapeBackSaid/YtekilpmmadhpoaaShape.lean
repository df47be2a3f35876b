/- Package shape: fields. -/
import Derived.Test.YtekilpmmadhpoaaStore
import Derived.Deep.DeepCutAuto
namespace Go.Proofs.Ytekilpmmadhpoaa
open Go.ChangeShapes Go.WideShapes Go.ChangeAt Go.RowKit
set_option linter.unusedVariables false
set_option linter.unusedSimpArgs false

def szB (n : Int) : Bool := decide (1 ≤ n) && decide (n ≤ 8)
theorem szB_iff {n : Int} : szB n = true ↔ 1 ≤ n ∧ n ≤ 8 := by unfold szB; simp
/-- The greatest and the least number that has room in n bytes. -/
def hiS (n : Int) (sg : Bool) : Int := if sg then (2 : Int) ^ (8 * n.toNat - 1) - 1 else if n = 8 then 9223372036854775807 else (2 : Int) ^ (8 * n.toNat) - 1
def loS (n : Int) (sg : Bool) : Int := if sg then -hiS n sg - 1 else 0
def rightS (n : Int) (sg : Bool) (lo hi : Int) : Bool := szB n && (decide (lo ≤ hi) && (decide (loS n sg ≤ lo) && decide (hi ≤ hiS n sg)))
def anyV (n : Int) (sg : Bool) : Value := if szB n = true then .agg #[.int .i64 n, .bool sg, .int .i64 (loS n sg), .int .i64 (hiS n sg)] else .agg #[.int .i64 0, .bool false, .int .i64 0, .int .i64 0]
def uV (n hi : Int) : Value := if szB n = true then .agg #[.int .i64 n, .bool false, .int .i64 0, .int .i64 hi] else .agg #[.int .i64 0, .bool false, .int .i64 0, .int .i64 0]
def iV (n lo hi : Int) : Value := if szB n = true then .agg #[.int .i64 n, .bool true, .int .i64 lo, .int .i64 hi] else .agg #[.int .i64 0, .bool false, .int .i64 0, .int .i64 0]
theorem n18 {n : Int} (h1 : 1 ≤ n) (h2 : n ≤ 8) : n = 1 ∨ n = 2 ∨ n = 3 ∨ n = 4 ∨ n = 5 ∨ n = 6 ∨ n = 7 ∨ n = 8 := by omega
theorem hiS_bd {n : Int} (sg : Bool) (h1 : 1 ≤ n) (h2 : n ≤ 8) : 127 ≤ hiS n sg ∧ hiS n sg ≤ 9223372036854775807 := by
  obtain rfl | rfl | rfl | rfl | rfl | rfl | rfl | rfl := n18 h1 h2 <;> cases sg <;> decide +kernel
theorem sized_any (n : Int) (w : World) : Calls Try.prog 23 #[.int .i64 n] w fun e w' => e = .returned (.bool (szB n)) ∧ w' = w := by
  by_cases h1 : 1 ≤ n
  · by_cases h2 : n ≤ 8
    · have e : szB n = true := by unfold szB; simp [h1, h2]
      rw [e]
      clear e
      go_enter Try.func23, Try.ntmps23
      go_wp2_with fail
      all_goals go_ret
      all_goals exact ⟨rfl, rfl⟩
    · have e : szB n = false := by unfold szB; simp [h1, h2]
      rw [e]
      clear e
      go_enter Try.func23, Try.ntmps23
      go_wp2_with fail
      all_goals go_ret
      all_goals exact ⟨rfl, rfl⟩
  · have e : szB n = false := by unfold szB; simp [h1]
    rw [e]
    clear e
    go_enter Try.func23, Try.ntmps23
    go_wp2_with fail
    all_goals go_ret
    all_goals exact ⟨rfl, rfl⟩
set_option maxRecDepth 100000 in
set_option maxHeartbeats 4000000 in
theorem room_any (n : Int) (sg : Bool) (w : World) (h1 : 1 ≤ n) (h2 : n ≤ 8) : Calls Try.prog 24 #[.int .i64 n, .bool sg] w fun e w' => e = .returned (.tuple #[.int .i64 (loS n sg), .int .i64 (hiS n sg)]) ∧ ∃ k, w' = w.drewN k := by
  obtain rfl | rfl | rfl | rfl | rfl | rfl | rfl | rfl := n18 h1 h2
  · cases sg
    · have e1 : hiS 1 false = 255 := by decide +kernel
      have e2 : loS 1 false = 0 := by decide +kernel
      rw [e1, e2]
      clear e1 e2 h1 h2
      go_enter Try.func24, Try.ntmps24
      go_wp2_with fail
      go_region
      go_wp2_with fail
      go_ret2
      exact ⟨rfl, 1, rfl⟩
    · have e1 : hiS 1 true = 127 := by decide +kernel
      have e2 : loS 1 true = (-128) := by decide +kernel
      rw [e1, e2]
      clear e1 e2 h1 h2
      go_enter Try.func24, Try.ntmps24
      go_wp2_with fail
      go_ret2
      exact ⟨rfl, 0, rfl⟩
  · cases sg
    · have e1 : hiS 2 false = 65535 := by decide +kernel
      have e2 : loS 2 false = 0 := by decide +kernel
      rw [e1, e2]
      clear e1 e2 h1 h2
      go_enter Try.func24, Try.ntmps24
      go_wp2_with fail
      go_region
      go_wp2_with fail
      go_ret2
      exact ⟨rfl, 1, rfl⟩
    · have e1 : hiS 2 true = 32767 := by decide +kernel
      have e2 : loS 2 true = (-32768) := by decide +kernel
      rw [e1, e2]
      clear e1 e2 h1 h2
      go_enter Try.func24, Try.ntmps24
      go_wp2_with fail
      go_ret2
      exact ⟨rfl, 0, rfl⟩
  · cases sg
    · have e1 : hiS 3 false = 16777215 := by decide +kernel
      have e2 : loS 3 false = 0 := by decide +kernel
      rw [e1, e2]
      clear e1 e2 h1 h2
      go_enter Try.func24, Try.ntmps24
      go_wp2_with fail
      go_region
      go_wp2_with fail
      go_ret2
      exact ⟨rfl, 1, rfl⟩
    · have e1 : hiS 3 true = 8388607 := by decide +kernel
      have e2 : loS 3 true = (-8388608) := by decide +kernel
      rw [e1, e2]
      clear e1 e2 h1 h2
      go_enter Try.func24, Try.ntmps24
      go_wp2_with fail
      go_ret2
      exact ⟨rfl, 0, rfl⟩
  · cases sg
    · have e1 : hiS 4 false = 4294967295 := by decide +kernel
      have e2 : loS 4 false = 0 := by decide +kernel
      rw [e1, e2]
      clear e1 e2 h1 h2
      go_enter Try.func24, Try.ntmps24
      go_wp2_with fail
      go_region
      go_wp2_with fail
      go_ret2
      exact ⟨rfl, 1, rfl⟩
    · have e1 : hiS 4 true = 2147483647 := by decide +kernel
      have e2 : loS 4 true = (-2147483648) := by decide +kernel
      rw [e1, e2]
      clear e1 e2 h1 h2
      go_enter Try.func24, Try.ntmps24
      go_wp2_with fail
      go_ret2
      exact ⟨rfl, 0, rfl⟩
  · cases sg
    · have e1 : hiS 5 false = 1099511627775 := by decide +kernel
      have e2 : loS 5 false = 0 := by decide +kernel
      rw [e1, e2]
      clear e1 e2 h1 h2
      go_enter Try.func24, Try.ntmps24
      go_wp2_with fail
      go_region
      go_wp2_with fail
      go_ret2
      exact ⟨rfl, 1, rfl⟩
    · have e1 : hiS 5 true = 549755813887 := by decide +kernel
      have e2 : loS 5 true = (-549755813888) := by decide +kernel
      rw [e1, e2]
      clear e1 e2 h1 h2
      go_enter Try.func24, Try.ntmps24
      go_wp2_with fail
      go_ret2
      exact ⟨rfl, 0, rfl⟩
  · cases sg
    · have e1 : hiS 6 false = 281474976710655 := by decide +kernel
      have e2 : loS 6 false = 0 := by decide +kernel
      rw [e1, e2]
      clear e1 e2 h1 h2
      go_enter Try.func24, Try.ntmps24
      go_wp2_with fail
      go_region
      go_wp2_with fail
      go_ret2
      exact ⟨rfl, 1, rfl⟩
    · have e1 : hiS 6 true = 140737488355327 := by decide +kernel
      have e2 : loS 6 true = (-140737488355328) := by decide +kernel
      rw [e1, e2]
      clear e1 e2 h1 h2
      go_enter Try.func24, Try.ntmps24
      go_wp2_with fail
      go_ret2
      exact ⟨rfl, 0, rfl⟩
  · cases sg
    · have e1 : hiS 7 false = 72057594037927935 := by decide +kernel
      have e2 : loS 7 false = 0 := by decide +kernel
      rw [e1, e2]
      clear e1 e2 h1 h2
      go_enter Try.func24, Try.ntmps24
      go_wp2_with fail
      go_region
      go_wp2_with fail
      go_ret2
      exact ⟨rfl, 1, rfl⟩
    · have e1 : hiS 7 true = 36028797018963967 := by decide +kernel
      have e2 : loS 7 true = (-36028797018963968) := by decide +kernel
      rw [e1, e2]
      clear e1 e2 h1 h2
      go_enter Try.func24, Try.ntmps24
      go_wp2_with fail
      go_ret2
      exact ⟨rfl, 0, rfl⟩
  · cases sg
    · have e1 : hiS 8 false = 9223372036854775807 := by decide +kernel
      have e2 : loS 8 false = 0 := by decide +kernel
      rw [e1, e2]
      clear e1 e2 h1 h2
      go_enter Try.func24, Try.ntmps24
      go_wp2_with fail
      go_ret2
      exact ⟨rfl, 0, rfl⟩
    · have e1 : hiS 8 true = 9223372036854775807 := by decide +kernel
      have e2 : loS 8 true = (-9223372036854775808) := by decide +kernel
      rw [e1, e2]
      clear e1 e2 h1 h2
      go_enter Try.func24, Try.ntmps24
      go_wp2_with fail
      go_ret2
      exact ⟨rfl, 0, rfl⟩
set_option maxRecDepth 100000 in
set_option maxHeartbeats 2000000 in
theorem any_any (n : Int) (sg : Bool) (w : World) : Calls Try.prog 7 #[.int .i64 n, .bool sg] w fun e w' => e = .returned (anyV n sg) ∧ Below w.heap.size w w' := by
  have ks := fun v : World => sized_any n v
  cases hs : szB n
  · rw [hs] at ks
    have hV : anyV n sg = .agg #[.int .i64 0, .bool false, .int .i64 0, .int .i64 0] := by unfold anyV; rw [hs]; rfl
    rw [hV]
    clear hV
    clear hs
    replace ks := hid ks
    go_enter Try.func7, Try.ntmps7
    go_upto_region 0 with (fail)
    apply wp_region_seg0 (w := w) (S := [.al 1000]) (E := [.al ((fun p => .pointer (some ⟨p, 0, none⟩)), _) 1000]) rfl (by kernel_rfl) rfl rfl
    intro th hge hne
    refine Seg.step _ rfl ⟨by rfl, fun U hU => ?_⟩ ?_
    · go_simp; exact vp_alloc rfl rfl rfl
    refine ⟨_, by (simp only [Ent.val]; go_simp <;> exact rfl), ?_⟩
    refine Seg.stop (fun U1 hU hk => ?_)
    have nb0 := hge 0 _ _ rfl
    have rb0 := (hk 0 _ _ rfl trivial).1.2 (by simp)
    clear hk hge hne
    generalize th (0 + 0) = p0_0 at *
    dsimp only at rb0
    have r_p0_0 := rb0
    clear rb0
    have n_p0_0 := nb0
    clear nb0
    have sz1 := hU.size
    have hB : Below w.heap.size w U1 := hU
    clear hU
    have nP : w.heap.size ≤ p0_0 := n_p0_0
    go_wp2_with fail
    refine (ks.out _).mono ?_
    rintro e V ⟨rfl, hv⟩
    obtain rfl : U1 = V := hv.symm
    clear hv
    go_upto_region 2 with (fail)
    have z0 := held_cell r_p0_0 0 _ rfl
    have z1 := held_cell r_p0_0 1 _ rfl
    have z2 := held_cell r_p0_0 2 _ rfl
    have z3 := held_cell r_p0_0 3 _ rfl
    have g0 := held_free r_p0_0 0
    have g1 := held_free r_p0_0 1
    have g2 := held_free r_p0_0 2
    have g3 := held_free r_p0_0 3
    obtain ⟨W9, hW9, ya, yO⟩ := st4 r_p0_0 (.int .i64 0) (.bool false) (.int .i64 0) (.int .i64 0)
    replace hB := belowS hB yO nP
    have ez0 := held_cell ya 0 _ rfl
    have ez1 := held_cell ya 1 _ rfl
    have ez2 := held_cell ya 2 _ rfl
    have ez3 := held_cell ya 3 _ rfl
    clear yO ya
    replace hB := hid hB
    go_wp2_with fail
    refine bodyPost_ret (v := .agg #[.int .i64 0, .bool false, .int .i64 0, .int .i64 0]) (by simp [results, Try.results7, go_sem, ez0, ez1, ez2, ez3]) rfl ⟨rfl, hB.out⟩
  · rw [hs] at ks
    have hV : anyV n sg = .agg #[.int .i64 n, .bool sg, .int .i64 (loS n sg), .int .i64 (hiS n sg)] := by unfold anyV; rw [hs]; rfl
    rw [hV]
    clear hV
    obtain ⟨h1, h2⟩ := szB_iff.1 hs
    have kr := hid (fun v : World => room_any n sg v h1 h2)
    generalize loS n sg = lo at *
    generalize hiS n sg = hi at *
    clear hs
    replace ks := hid ks
    go_enter Try.func7, Try.ntmps7
    go_upto_region 0 with (fail)
    apply wp_region_seg0 (w := w) (S := [.al 1000]) (E := [.al ((fun p => .pointer (some ⟨p, 0, none⟩)), _) 1000]) rfl (by kernel_rfl) rfl rfl
    intro th hge hne
    refine Seg.step _ rfl ⟨by rfl, fun U hU => ?_⟩ ?_
    · go_simp; exact vp_alloc rfl rfl rfl
    refine ⟨_, by (simp only [Ent.val]; go_simp <;> exact rfl), ?_⟩
    refine Seg.stop (fun U1 hU hk => ?_)
    have nb0 := hge 0 _ _ rfl
    have rb0 := (hk 0 _ _ rfl trivial).1.2 (by simp)
    clear hk hge hne
    generalize th (0 + 0) = p0_0 at *
    dsimp only at rb0
    have r_p0_0 := rb0
    clear rb0
    have n_p0_0 := nb0
    clear nb0
    have sz1 := hU.size
    have hB : Below w.heap.size w U1 := hU
    clear hU
    have nP : w.heap.size ≤ p0_0 := n_p0_0
    go_wp2_with fail
    refine (ks.out _).mono ?_
    rintro e V ⟨rfl, hv⟩
    obtain rfl : U1 = V := hv.symm
    clear hv
    go_wp2_with fail
    refine (kr.out _).mono ?_
    rintro e V ⟨rfl, k, rfl⟩
    replace hB := below_drewN hB k
    replace r_p0_0 : (U1.drewN k).heap[p0_0]? = _ := r_p0_0
    generalize U1.drewN k = V at *
    go_upto_region 4 with (fail)
    have z0 := held_cell r_p0_0 0 _ rfl
    have z1 := held_cell r_p0_0 1 _ rfl
    have z2 := held_cell r_p0_0 2 _ rfl
    have z3 := held_cell r_p0_0 3 _ rfl
    have g0 := held_free r_p0_0 0
    have g1 := held_free r_p0_0 1
    have g2 := held_free r_p0_0 2
    have g3 := held_free r_p0_0 3
    obtain ⟨W9, hW9, ya, yO⟩ := st4 r_p0_0 (.int .i64 n) (.bool sg) (.int .i64 lo) (.int .i64 hi)
    replace hB := belowS hB yO nP
    have ez0 := held_cell ya 0 _ rfl
    have ez1 := held_cell ya 1 _ rfl
    have ez2 := held_cell ya 2 _ rfl
    have ez3 := held_cell ya 3 _ rfl
    clear yO ya
    replace hB := hid hB
    go_wp2_with fail
    refine bodyPost_ret (v := .agg #[.int .i64 n, .bool sg, .int .i64 lo, .int .i64 hi]) (by simp [results, Try.results7, go_sem, ez0, ez1, ez2, ez3]) rfl ⟨rfl, hB.out⟩
set_option maxRecDepth 100000 in
set_option maxHeartbeats 2000000 in
theorem u_any (n hi : Int) (w : World) : Calls Try.prog 9 #[.int .i64 n, .int .i64 hi] w fun e w' => e = .returned (uV n hi) ∧ Below w.heap.size w w' := by
  have ks := fun v : World => sized_any n v
  cases hs : szB n
  · rw [hs] at ks
    have hV : uV n hi = .agg #[.int .i64 0, .bool false, .int .i64 0, .int .i64 0] := by unfold uV; rw [hs]; rfl
    rw [hV]
    clear hV
    clear hs
    replace ks := hid ks
    go_enter Try.func9, Try.ntmps9
    go_upto_region 0 with (fail)
    apply wp_region_seg0 (w := w) (S := [.al 1000]) (E := [.al ((fun p => .pointer (some ⟨p, 0, none⟩)), _) 1000]) rfl (by kernel_rfl) rfl rfl
    intro th hge hne
    refine Seg.step _ rfl ⟨by rfl, fun U hU => ?_⟩ ?_
    · go_simp; exact vp_alloc rfl rfl rfl
    refine ⟨_, by (simp only [Ent.val]; go_simp <;> exact rfl), ?_⟩
    refine Seg.stop (fun U1 hU hk => ?_)
    have nb0 := hge 0 _ _ rfl
    have rb0 := (hk 0 _ _ rfl trivial).1.2 (by simp)
    clear hk hge hne
    generalize th (0 + 0) = p0_0 at *
    dsimp only at rb0
    have r_p0_0 := rb0
    clear rb0
    have n_p0_0 := nb0
    clear nb0
    have sz1 := hU.size
    have hB : Below w.heap.size w U1 := hU
    clear hU
    have nP : w.heap.size ≤ p0_0 := n_p0_0
    go_wp2_with fail
    refine (ks.out _).mono ?_
    rintro e V ⟨rfl, hv⟩
    obtain rfl : U1 = V := hv.symm
    clear hv
    go_upto_region 2 with (fail)
    have z0 := held_cell r_p0_0 0 _ rfl
    have z1 := held_cell r_p0_0 1 _ rfl
    have z2 := held_cell r_p0_0 2 _ rfl
    have z3 := held_cell r_p0_0 3 _ rfl
    have g0 := held_free r_p0_0 0
    have g1 := held_free r_p0_0 1
    have g2 := held_free r_p0_0 2
    have g3 := held_free r_p0_0 3
    obtain ⟨W9, hW9, ya, yO⟩ := st4 r_p0_0 (.int .i64 0) (.bool false) (.int .i64 0) (.int .i64 0)
    replace hB := belowS hB yO nP
    have ez0 := held_cell ya 0 _ rfl
    have ez1 := held_cell ya 1 _ rfl
    have ez2 := held_cell ya 2 _ rfl
    have ez3 := held_cell ya 3 _ rfl
    clear yO ya
    replace hB := hid hB
    go_wp2_with fail
    refine bodyPost_ret (v := .agg #[.int .i64 0, .bool false, .int .i64 0, .int .i64 0]) (by simp [results, Try.results9, go_sem, ez0, ez1, ez2, ez3]) rfl ⟨rfl, hB.out⟩
  · rw [hs] at ks
    have hV : uV n hi = .agg #[.int .i64 n, .bool false, .int .i64 0, .int .i64 hi] := by unfold uV; rw [hs]; rfl
    rw [hV]
    clear hV
    clear hs
    replace ks := hid ks
    go_enter Try.func9, Try.ntmps9
    go_upto_region 0 with (fail)
    apply wp_region_seg0 (w := w) (S := [.al 1000]) (E := [.al ((fun p => .pointer (some ⟨p, 0, none⟩)), _) 1000]) rfl (by kernel_rfl) rfl rfl
    intro th hge hne
    refine Seg.step _ rfl ⟨by rfl, fun U hU => ?_⟩ ?_
    · go_simp; exact vp_alloc rfl rfl rfl
    refine ⟨_, by (simp only [Ent.val]; go_simp <;> exact rfl), ?_⟩
    refine Seg.stop (fun U1 hU hk => ?_)
    have nb0 := hge 0 _ _ rfl
    have rb0 := (hk 0 _ _ rfl trivial).1.2 (by simp)
    clear hk hge hne
    generalize th (0 + 0) = p0_0 at *
    dsimp only at rb0
    have r_p0_0 := rb0
    clear rb0
    have n_p0_0 := nb0
    clear nb0
    have sz1 := hU.size
    have hB : Below w.heap.size w U1 := hU
    clear hU
    have nP : w.heap.size ≤ p0_0 := n_p0_0
    go_wp2_with fail
    refine (ks.out _).mono ?_
    rintro e V ⟨rfl, hv⟩
    obtain rfl : U1 = V := hv.symm
    clear hv
    go_upto_region 3 with (fail)
    have z0 := held_cell r_p0_0 0 _ rfl
    have z1 := held_cell r_p0_0 1 _ rfl
    have z2 := held_cell r_p0_0 2 _ rfl
    have z3 := held_cell r_p0_0 3 _ rfl
    have g0 := held_free r_p0_0 0
    have g1 := held_free r_p0_0 1
    have g2 := held_free r_p0_0 2
    have g3 := held_free r_p0_0 3
    obtain ⟨W9, hW9, ya, yO⟩ := st4 r_p0_0 (.int .i64 n) (.bool false) (.int .i64 0) (.int .i64 hi)
    replace hB := belowS hB yO nP
    have ez0 := held_cell ya 0 _ rfl
    have ez1 := held_cell ya 1 _ rfl
    have ez2 := held_cell ya 2 _ rfl
    have ez3 := held_cell ya 3 _ rfl
    clear yO ya
    replace hB := hid hB
    go_wp2_with fail
    refine bodyPost_ret (v := .agg #[.int .i64 n, .bool false, .int .i64 0, .int .i64 hi]) (by simp [results, Try.results9, go_sem, ez0, ez1, ez2, ez3]) rfl ⟨rfl, hB.out⟩
set_option maxRecDepth 100000 in
set_option maxHeartbeats 2000000 in
theorem i_any (n lo hi : Int) (w : World) : Calls Try.prog 11 #[.int .i64 n, .int .i64 lo, .int .i64 hi] w fun e w' => e = .returned (iV n lo hi) ∧ Below w.heap.size w w' := by
  have ks := fun v : World => sized_any n v
  cases hs : szB n
  · rw [hs] at ks
    have hV : iV n lo hi = .agg #[.int .i64 0, .bool false, .int .i64 0, .int .i64 0] := by unfold iV; rw [hs]; rfl
    rw [hV]
    clear hV
    clear hs
    replace ks := hid ks
    go_enter Try.func11, Try.ntmps11
    go_upto_region 0 with (fail)
    apply wp_region_seg0 (w := w) (S := [.al 1000]) (E := [.al ((fun p => .pointer (some ⟨p, 0, none⟩)), _) 1000]) rfl (by kernel_rfl) rfl rfl
    intro th hge hne
    refine Seg.step _ rfl ⟨by rfl, fun U hU => ?_⟩ ?_
    · go_simp; exact vp_alloc rfl rfl rfl
    refine ⟨_, by (simp only [Ent.val]; go_simp <;> exact rfl), ?_⟩
    refine Seg.stop (fun U1 hU hk => ?_)
    have nb0 := hge 0 _ _ rfl
    have rb0 := (hk 0 _ _ rfl trivial).1.2 (by simp)
    clear hk hge hne
    generalize th (0 + 0) = p0_0 at *
    dsimp only at rb0
    have r_p0_0 := rb0
    clear rb0
    have n_p0_0 := nb0
    clear nb0
    have sz1 := hU.size
    have hB : Below w.heap.size w U1 := hU
    clear hU
    have nP : w.heap.size ≤ p0_0 := n_p0_0
    go_wp2_with fail
    refine (ks.out _).mono ?_
    rintro e V ⟨rfl, hv⟩
    obtain rfl : U1 = V := hv.symm
    clear hv
    go_upto_region 2 with (fail)
    have z0 := held_cell r_p0_0 0 _ rfl
    have z1 := held_cell r_p0_0 1 _ rfl
    have z2 := held_cell r_p0_0 2 _ rfl
    have z3 := held_cell r_p0_0 3 _ rfl
    have g0 := held_free r_p0_0 0
    have g1 := held_free r_p0_0 1
    have g2 := held_free r_p0_0 2
    have g3 := held_free r_p0_0 3
    obtain ⟨W9, hW9, ya, yO⟩ := st4 r_p0_0 (.int .i64 0) (.bool false) (.int .i64 0) (.int .i64 0)
    replace hB := belowS hB yO nP
    have ez0 := held_cell ya 0 _ rfl
    have ez1 := held_cell ya 1 _ rfl
    have ez2 := held_cell ya 2 _ rfl
    have ez3 := held_cell ya 3 _ rfl
    clear yO ya
    replace hB := hid hB
    go_wp2_with fail
    refine bodyPost_ret (v := .agg #[.int .i64 0, .bool false, .int .i64 0, .int .i64 0]) (by simp [results, Try.results11, go_sem, ez0, ez1, ez2, ez3]) rfl ⟨rfl, hB.out⟩
  · rw [hs] at ks
    have hV : iV n lo hi = .agg #[.int .i64 n, .bool true, .int .i64 lo, .int .i64 hi] := by unfold iV; rw [hs]; rfl
    rw [hV]
    clear hV
    clear hs
    replace ks := hid ks
    go_enter Try.func11, Try.ntmps11
    go_upto_region 0 with (fail)
    apply wp_region_seg0 (w := w) (S := [.al 1000]) (E := [.al ((fun p => .pointer (some ⟨p, 0, none⟩)), _) 1000]) rfl (by kernel_rfl) rfl rfl
    intro th hge hne
    refine Seg.step _ rfl ⟨by rfl, fun U hU => ?_⟩ ?_
    · go_simp; exact vp_alloc rfl rfl rfl
    refine ⟨_, by (simp only [Ent.val]; go_simp <;> exact rfl), ?_⟩
    refine Seg.stop (fun U1 hU hk => ?_)
    have nb0 := hge 0 _ _ rfl
    have rb0 := (hk 0 _ _ rfl trivial).1.2 (by simp)
    clear hk hge hne
    generalize th (0 + 0) = p0_0 at *
    dsimp only at rb0
    have r_p0_0 := rb0
    clear rb0
    have n_p0_0 := nb0
    clear nb0
    have sz1 := hU.size
    have hB : Below w.heap.size w U1 := hU
    clear hU
    have nP : w.heap.size ≤ p0_0 := n_p0_0
    go_wp2_with fail
    refine (ks.out _).mono ?_
    rintro e V ⟨rfl, hv⟩
    obtain rfl : U1 = V := hv.symm
    clear hv
    go_upto_region 3 with (fail)
    have z0 := held_cell r_p0_0 0 _ rfl
    have z1 := held_cell r_p0_0 1 _ rfl
    have z2 := held_cell r_p0_0 2 _ rfl
    have z3 := held_cell r_p0_0 3 _ rfl
    have g0 := held_free r_p0_0 0
    have g1 := held_free r_p0_0 1
    have g2 := held_free r_p0_0 2
    have g3 := held_free r_p0_0 3
    obtain ⟨W9, hW9, ya, yO⟩ := st4 r_p0_0 (.int .i64 n) (.bool true) (.int .i64 lo) (.int .i64 hi)
    replace hB := belowS hB yO nP
    have ez0 := held_cell ya 0 _ rfl
    have ez1 := held_cell ya 1 _ rfl
    have ez2 := held_cell ya 2 _ rfl
    have ez3 := held_cell ya 3 _ rfl
    clear yO ya
    replace hB := hid hB
    go_wp2_with fail
    refine bodyPost_ret (v := .agg #[.int .i64 n, .bool true, .int .i64 lo, .int .i64 hi]) (by simp [results, Try.results11, go_sem, ez0, ez1, ez2, ez3]) rfl ⟨rfl, hB.out⟩
set_option maxRecDepth 100000 in
set_option maxHeartbeats 4000000 in
theorem rightf_any (n : Int) (sg : Bool) (lo hi : Int) (w : World) : Calls Try.prog 26 #[.agg #[.int .i64 n, .bool sg, .int .i64 lo, .int .i64 hi]] w fun e w' => e = .returned (.bool (rightS n sg lo hi)) ∧ Below w.heap.size w w' := by
  have ks := fun v : World => sized_any n v
  have hR : rightS n sg lo hi = (szB n && (decide (lo ≤ hi) && (decide (loS n sg ≤ lo) && decide (hi ≤ hiS n sg)))) := rfl
  cases hs : szB n
  · rw [hs] at ks hR
    rw [hR]
    clear hs hR
    replace ks := hid ks
    go_enter Try.func26, Try.ntmps26
    go_upto_region 0 with (fail)
    apply wp_region_seg0 (w := w) (S := [.al 1000, .q []]) (E := [.al ((fun p => .pointer (some ⟨p, 0, none⟩)), _) 1000, .q0 _]) rfl (by kernel_rfl) rfl rfl
    intro th hge hne
    refine Seg.step _ rfl ⟨by rfl, fun U hU => ?_⟩ ?_
    · go_simp; exact vp_alloc rfl rfl rfl
    refine ⟨_, by (simp only [Ent.val]; go_simp <;> exact rfl), ?_⟩
    refine Seg.step _ rfl (Or.inl ⟨by rfl, fun U hU => vp_quiet (by (go_simp <;> exact rfl))⟩) ⟨_, by (simp only [Ent.val]; go_simp <;> exact rfl), ?_⟩
    refine Seg.stop (fun U1 hU hk => ?_)
    have nb0 := hge 0 _ _ rfl
    have rb0 := (hk 0 _ _ rfl trivial).1.2 (by simp)
    clear hk hge hne
    generalize th (0 + 0) = p0_0 at *
    dsimp only at rb0
    have r_p0_0 := rb0
    clear rb0
    have n_p0_0 := nb0
    clear nb0
    have sz1 := hU.size
    have hB : Below w.heap.size w U1 := hU
    clear hU
    go_upto_region 1 with (fail)
    apply wp_region_seg0 (w := U1) (S := [.q [], .q [], .q [], .q []]) (E := [.q0 _, .q0 _, .c0 _, .q0 _]) rfl (by kernel_rfl) rfl rfl
    intro th hge hne
    refine Seg.step _ rfl (Or.inl ⟨by rfl, fun U hU => vp_quiet (by (go_simp <;> exact rfl))⟩) ⟨_, by (simp only [Ent.val]; go_simp <;> exact rfl), ?_⟩
    refine Seg.step _ rfl (Or.inl ⟨by rfl, fun U hU => vp_quiet (by (have h0 := held_cell (held_after hU.1 r_p0_0) 0 _ rfl; go_simp <;> exact rfl))⟩) ⟨_, by (simp only [Ent.val]; go_simp <;> exact rfl), ?_⟩
    refine Seg.step _ rfl (Or.inl ⟨by rfl, fun U hU => ?_⟩) ?_
    · go_simp
      refine vp_calls (ks.out _)
    refine ⟨_, by (simp only [Ent.val]; go_simp <;> exact rfl), ?_⟩
    refine Seg.step _ rfl (Or.inl ⟨by rfl, fun U hU => vp_quiet (by (go_simp <;> exact rfl))⟩) ⟨_, by (simp only [Ent.val]; go_simp <;> exact rfl), ?_⟩
    refine Seg.stop (fun U2 hU hk => ?_)
    clear hk hge hne
    replace r_p0_0 := held_after hU r_p0_0
    have sz2 := hU.size
    replace hB := bthen hB hU
    clear hU
    go_wp2_with fail
    go_ret
    exact ⟨rfl, hB⟩
  rw [hs] at ks hR
  obtain ⟨h1, h2⟩ := szB_iff.1 hs
  have kr := hid (fun v : World => room_any n sg v h1 h2)
  rw [hR]
  clear hs hR
  generalize loS n sg = L at *
  generalize hiS n sg = H at *
  replace ks := hid ks
  go_enter Try.func26, Try.ntmps26
  go_upto_region 0 with (fail)
  apply wp_region_seg0 (w := w) (S := [.al 1000, .q []]) (E := [.al ((fun p => .pointer (some ⟨p, 0, none⟩)), _) 1000, .q0 _]) rfl (by kernel_rfl) rfl rfl
  intro th hge hne
  refine Seg.step _ rfl ⟨by rfl, fun U hU => ?_⟩ ?_
  · go_simp; exact vp_alloc rfl rfl rfl
  refine ⟨_, by (simp only [Ent.val]; go_simp <;> exact rfl), ?_⟩
  refine Seg.step _ rfl (Or.inl ⟨by rfl, fun U hU => vp_quiet (by (go_simp <;> exact rfl))⟩) ⟨_, by (simp only [Ent.val]; go_simp <;> exact rfl), ?_⟩
  refine Seg.stop (fun U1 hU hk => ?_)
  have nb0 := hge 0 _ _ rfl
  have rb0 := (hk 0 _ _ rfl trivial).1.2 (by simp)
  clear hk hge hne
  generalize th (0 + 0) = p0_0 at *
  dsimp only at rb0
  have r_p0_0 := rb0
  clear rb0
  have n_p0_0 := nb0
  clear nb0
  have sz1 := hU.size
  have hB : Below w.heap.size w U1 := hU
  clear hU
  go_upto_region 1 with (fail)
  apply wp_region_seg0 (w := U1) (S := [.q [], .q [], .q [], .q []]) (E := [.q0 _, .q0 _, .c0 _, .q0 _]) rfl (by kernel_rfl) rfl rfl
  intro th hge hne
  refine Seg.step _ rfl (Or.inl ⟨by rfl, fun U hU => vp_quiet (by (go_simp <;> exact rfl))⟩) ⟨_, by (simp only [Ent.val]; go_simp <;> exact rfl), ?_⟩
  refine Seg.step _ rfl (Or.inl ⟨by rfl, fun U hU => vp_quiet (by (have h0 := held_cell (held_after hU.1 r_p0_0) 0 _ rfl; go_simp <;> exact rfl))⟩) ⟨_, by (simp only [Ent.val]; go_simp <;> exact rfl), ?_⟩
  refine Seg.step _ rfl (Or.inl ⟨by rfl, fun U hU => ?_⟩) ?_
  · go_simp
    refine vp_calls (ks.out _)
  refine ⟨_, by (simp only [Ent.val]; go_simp <;> exact rfl), ?_⟩
  refine Seg.step _ rfl (Or.inl ⟨by rfl, fun U hU => vp_quiet (by (go_simp <;> exact rfl))⟩) ⟨_, by (simp only [Ent.val]; go_simp <;> exact rfl), ?_⟩
  refine Seg.stop (fun U2 hU hk => ?_)
  clear hk hge hne
  replace r_p0_0 := held_after hU r_p0_0
  have sz2 := hU.size
  replace hB := bthen hB hU
  clear hU
  go_upto_region 3 with (fail)
  skip
  apply wp_region_seg0 (w := U2) (S := [.q [], .q [], .q [], .q [], .q [], .q [], .q [], .q [], .q [], .q []]) (E := [.q0 _, .q0 _, .q0 _, .q0 _, .c0 _, .q0 _, .q0 _, .q0 _, .q0 _, .q0 _]) rfl (by kernel_rfl) rfl rfl
  intro th hge hne
  refine Seg.step _ rfl (Or.inl ⟨by rfl, fun U hU => vp_quiet (by (go_simp <;> exact rfl))⟩) ⟨_, by (simp only [Ent.val]; go_simp <;> exact rfl), ?_⟩
  refine Seg.step _ rfl (Or.inl ⟨by rfl, fun U hU => vp_quiet (by (have h0 := held_cell (held_after hU.1 r_p0_0) 0 _ rfl; go_simp <;> exact rfl))⟩) ⟨_, by (simp only [Ent.val]; go_simp <;> exact rfl), ?_⟩
  refine Seg.step _ rfl (Or.inl ⟨by rfl, fun U hU => vp_quiet (by (go_simp <;> exact rfl))⟩) ⟨_, by (simp only [Ent.val]; go_simp <;> exact rfl), ?_⟩
  refine Seg.step _ rfl (Or.inl ⟨by rfl, fun U hU => vp_quiet (by (have h0 := held_cell (held_after hU.1 r_p0_0) 1 _ rfl; go_simp <;> exact rfl))⟩) ⟨_, by (simp only [Ent.val]; go_simp <;> exact rfl), ?_⟩
  refine Seg.step _ rfl (Or.inl ⟨by rfl, fun U hU => ?_⟩) ?_
  · go_simp
    refine vp_calld (kr.out _)
  refine ⟨_, by (simp only [Ent.val]; go_simp <;> exact rfl), ?_⟩
  refine Seg.step _ rfl (Or.inl ⟨by rfl, fun U hU => vp_quiet (by (go_simp <;> exact rfl))⟩) ⟨_, by (simp only [Ent.val]; go_simp <;> exact rfl), ?_⟩
  refine Seg.step _ rfl (Or.inl ⟨by rfl, fun U hU => vp_quiet (by (go_simp <;> exact rfl))⟩) ⟨_, by (simp only [Ent.val]; go_simp <;> exact rfl), ?_⟩
  refine Seg.step _ rfl (Or.inl ⟨by rfl, fun U hU => vp_quiet (by (go_simp <;> exact rfl))⟩) ⟨_, by (simp only [Ent.val]; go_simp <;> exact rfl), ?_⟩
  refine Seg.step _ rfl (Or.inl ⟨by rfl, fun U hU => vp_quiet (by (go_simp <;> exact rfl))⟩) ⟨_, by (simp only [Ent.val]; go_simp <;> exact rfl), ?_⟩
  refine Seg.step _ rfl (Or.inl ⟨by rfl, fun U hU => vp_quiet (by (go_simp <;> exact rfl))⟩) ⟨_, by (simp only [Ent.val]; go_simp <;> exact rfl), ?_⟩
  refine Seg.stop (fun U3 hU hk => ?_)
  clear hk hge hne
  replace r_p0_0 := held_after hU r_p0_0
  have sz3 := hU.size
  replace hB := bthen hB hU
  clear hU
  go_upto_region 4 with (fail)
  have u0 := held_cell r_p0_0 0 _ rfl
  have u2 := held_cell r_p0_0 2 _ rfl
  have u3 := held_cell r_p0_0 3 _ rfl
  by_cases c1 : lo ≤ hi
  · by_cases c2 : L ≤ lo
    · by_cases c3 : hi ≤ H
      · go_wp2_with fail
        all_goals go_ret
        all_goals exact ⟨ret_bool (by first | (simp [c1, c2, c3]; done) | (simp; intros; omega) | (simp; omega)), hB⟩
      · go_wp2_with fail
        all_goals go_ret
        all_goals exact ⟨ret_bool (by first | (simp [c1, c2, c3]; done) | (simp; intros; omega) | (simp; omega)), hB⟩
    · go_wp2_with fail
      all_goals go_ret
      all_goals exact ⟨ret_bool (by first | (simp [c1, c2]; done) | (simp; intros; omega) | (simp; omega)), hB⟩
  · go_wp2_with fail
    all_goals go_ret
    all_goals exact ⟨ret_bool (by first | (simp [c1]; done) | (simp; intros; omega) | (simp; omega)), hB⟩

end Go.Proofs.Ytekilpmmadhpoaa
