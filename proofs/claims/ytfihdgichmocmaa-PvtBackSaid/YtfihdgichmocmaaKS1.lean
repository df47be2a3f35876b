/- Several texts in one: Shape, Shape2, Shape3. -/
import Derived.Test.YtfihdgichmocmaaKB
import Derived.Deep.DeepCutAuto

/- Package shape: fields. -/
namespace Go.Proofs.Ytfihdgichmocmaa
open Go.ChangeShapes Go.WideShapes Go.ChangeAt Go.RowKit
set_option linter.unusedVariables false
set_option linter.unusedSimpArgs false

def szB (n : Int) : Bool := decide (1 ≤ n) && decide (n ≤ 8)
theorem szB_iff {n : Int} : szB n = true ↔ 1 ≤ n ∧ n ≤ 8 := by unfold szB; simp
/-- The greatest and the least number that has room in n bytes. -/
def hiS (n : Int) (sg : Bool) : Int := if sg then (2 : Int) ^ (8 * n.toNat - 1) - 1 else if n = 8 then 9223372036854775807 else (2 : Int) ^ (8 * n.toNat) - 1
def loS (n : Int) (sg : Bool) : Int := if sg then -hiS n sg - 1 else 0
def rightS (n : Int) (sg : Bool) (lo hi : Int) : Bool := szB n && (decide (lo ≤ hi) && (decide (loS n sg ≤ lo) && decide (hi ≤ hiS n sg)))
def anyV (n : Int) (sg : Bool) : Value := if szB n = true then .agg #[.int .i64 n, .bool sg, .int .i64 (loS n sg), .int .i64 (hiS n sg)] else .agg #[.int .i64 0, .bool false, .int .i64 0, .int .i64 0]
def uV (n hi : Int) : Value := if szB n = true then .agg #[.int .i64 n, .bool false, .int .i64 0, .int .i64 hi] else .agg #[.int .i64 0, .bool false, .int .i64 0, .int .i64 0]
def iV (n lo hi : Int) : Value := if szB n = true then .agg #[.int .i64 n, .bool true, .int .i64 lo, .int .i64 hi] else .agg #[.int .i64 0, .bool false, .int .i64 0, .int .i64 0]
theorem n18 {n : Int} (h1 : 1 ≤ n) (h2 : n ≤ 8) : n = 1 ∨ n = 2 ∨ n = 3 ∨ n = 4 ∨ n = 5 ∨ n = 6 ∨ n = 7 ∨ n = 8 := by omega
theorem hiS_bd {n : Int} (sg : Bool) (h1 : 1 ≤ n) (h2 : n ≤ 8) : 127 ≤ hiS n sg ∧ hiS n sg ≤ 9223372036854775807 := by
  obtain rfl | rfl | rfl | rfl | rfl | rfl | rfl | rfl := n18 h1 h2 <;> cases sg <;> decide +kernel
theorem sized_any (n : Int) (w : World) : Calls Try.prog 45 #[.int .i64 n] w fun e w' => e = .returned (.bool (szB n)) ∧ w' = w := by
  by_cases h1 : 1 ≤ n
  · by_cases h2 : n ≤ 8
    · have e : szB n = true := by unfold szB; simp [h1, h2]
      rw [e]
      clear e
      go_enter Try.func45, Try.ntmps45
      go_wp2_with fail
      all_goals go_ret
      all_goals exact ⟨rfl, rfl⟩
    · have e : szB n = false := by unfold szB; simp [h1, h2]
      rw [e]
      clear e
      go_enter Try.func45, Try.ntmps45
      go_wp2_with fail
      all_goals go_ret
      all_goals exact ⟨rfl, rfl⟩
  · have e : szB n = false := by unfold szB; simp [h1]
    rw [e]
    clear e
    go_enter Try.func45, Try.ntmps45
    go_wp2_with fail
    all_goals go_ret
    all_goals exact ⟨rfl, rfl⟩
set_option maxRecDepth 100000 in
set_option maxHeartbeats 4000000 in
theorem room_any (n : Int) (sg : Bool) (w : World) (h1 : 1 ≤ n) (h2 : n ≤ 8) : Calls Try.prog 46 #[.int .i64 n, .bool sg] w fun e w' => e = .returned (.tuple #[.int .i64 (loS n sg), .int .i64 (hiS n sg)]) ∧ ∃ k, w' = w.drewN k := by
  obtain rfl | rfl | rfl | rfl | rfl | rfl | rfl | rfl := n18 h1 h2
  · cases sg
    · have e1 : hiS 1 false = 255 := by decide +kernel
      have e2 : loS 1 false = 0 := by decide +kernel
      rw [e1, e2]
      clear e1 e2 h1 h2
      go_enter Try.func46, Try.ntmps46
      go_wp2_with fail
      go_region
      go_wp2_with fail
      go_ret2
      exact ⟨rfl, 1, rfl⟩
    · have e1 : hiS 1 true = 127 := by decide +kernel
      have e2 : loS 1 true = (-128) := by decide +kernel
      rw [e1, e2]
      clear e1 e2 h1 h2
      go_enter Try.func46, Try.ntmps46
      go_wp2_with fail
      go_ret2
      exact ⟨rfl, 0, rfl⟩
  · cases sg
    · have e1 : hiS 2 false = 65535 := by decide +kernel
      have e2 : loS 2 false = 0 := by decide +kernel
      rw [e1, e2]
      clear e1 e2 h1 h2
      go_enter Try.func46, Try.ntmps46
      go_wp2_with fail
      go_region
      go_wp2_with fail
      go_ret2
      exact ⟨rfl, 1, rfl⟩
    · have e1 : hiS 2 true = 32767 := by decide +kernel
      have e2 : loS 2 true = (-32768) := by decide +kernel
      rw [e1, e2]
      clear e1 e2 h1 h2
      go_enter Try.func46, Try.ntmps46
      go_wp2_with fail
      go_ret2
      exact ⟨rfl, 0, rfl⟩
  · cases sg
    · have e1 : hiS 3 false = 16777215 := by decide +kernel
      have e2 : loS 3 false = 0 := by decide +kernel
      rw [e1, e2]
      clear e1 e2 h1 h2
      go_enter Try.func46, Try.ntmps46
      go_wp2_with fail
      go_region
      go_wp2_with fail
      go_ret2
      exact ⟨rfl, 1, rfl⟩
    · have e1 : hiS 3 true = 8388607 := by decide +kernel
      have e2 : loS 3 true = (-8388608) := by decide +kernel
      rw [e1, e2]
      clear e1 e2 h1 h2
      go_enter Try.func46, Try.ntmps46
      go_wp2_with fail
      go_ret2
      exact ⟨rfl, 0, rfl⟩
  · cases sg
    · have e1 : hiS 4 false = 4294967295 := by decide +kernel
      have e2 : loS 4 false = 0 := by decide +kernel
      rw [e1, e2]
      clear e1 e2 h1 h2
      go_enter Try.func46, Try.ntmps46
      go_wp2_with fail
      go_region
      go_wp2_with fail
      go_ret2
      exact ⟨rfl, 1, rfl⟩
    · have e1 : hiS 4 true = 2147483647 := by decide +kernel
      have e2 : loS 4 true = (-2147483648) := by decide +kernel
      rw [e1, e2]
      clear e1 e2 h1 h2
      go_enter Try.func46, Try.ntmps46
      go_wp2_with fail
      go_ret2
      exact ⟨rfl, 0, rfl⟩
  · cases sg
    · have e1 : hiS 5 false = 1099511627775 := by decide +kernel
      have e2 : loS 5 false = 0 := by decide +kernel
      rw [e1, e2]
      clear e1 e2 h1 h2
      go_enter Try.func46, Try.ntmps46
      go_wp2_with fail
      go_region
      go_wp2_with fail
      go_ret2
      exact ⟨rfl, 1, rfl⟩
    · have e1 : hiS 5 true = 549755813887 := by decide +kernel
      have e2 : loS 5 true = (-549755813888) := by decide +kernel
      rw [e1, e2]
      clear e1 e2 h1 h2
      go_enter Try.func46, Try.ntmps46
      go_wp2_with fail
      go_ret2
      exact ⟨rfl, 0, rfl⟩
  · cases sg
    · have e1 : hiS 6 false = 281474976710655 := by decide +kernel
      have e2 : loS 6 false = 0 := by decide +kernel
      rw [e1, e2]
      clear e1 e2 h1 h2
      go_enter Try.func46, Try.ntmps46
      go_wp2_with fail
      go_region
      go_wp2_with fail
      go_ret2
      exact ⟨rfl, 1, rfl⟩
    · have e1 : hiS 6 true = 140737488355327 := by decide +kernel
      have e2 : loS 6 true = (-140737488355328) := by decide +kernel
      rw [e1, e2]
      clear e1 e2 h1 h2
      go_enter Try.func46, Try.ntmps46
      go_wp2_with fail
      go_ret2
      exact ⟨rfl, 0, rfl⟩
  · cases sg
    · have e1 : hiS 7 false = 72057594037927935 := by decide +kernel
      have e2 : loS 7 false = 0 := by decide +kernel
      rw [e1, e2]
      clear e1 e2 h1 h2
      go_enter Try.func46, Try.ntmps46
      go_wp2_with fail
      go_region
      go_wp2_with fail
      go_ret2
      exact ⟨rfl, 1, rfl⟩
    · have e1 : hiS 7 true = 36028797018963967 := by decide +kernel
      have e2 : loS 7 true = (-36028797018963968) := by decide +kernel
      rw [e1, e2]
      clear e1 e2 h1 h2
      go_enter Try.func46, Try.ntmps46
      go_wp2_with fail
      go_ret2
      exact ⟨rfl, 0, rfl⟩
  · cases sg
    · have e1 : hiS 8 false = 9223372036854775807 := by decide +kernel
      have e2 : loS 8 false = 0 := by decide +kernel
      rw [e1, e2]
      clear e1 e2 h1 h2
      go_enter Try.func46, Try.ntmps46
      go_wp2_with fail
      go_ret2
      exact ⟨rfl, 0, rfl⟩
    · have e1 : hiS 8 true = 9223372036854775807 := by decide +kernel
      have e2 : loS 8 true = (-9223372036854775808) := by decide +kernel
      rw [e1, e2]
      clear e1 e2 h1 h2
      go_enter Try.func46, Try.ntmps46
      go_wp2_with fail
      go_ret2
      exact ⟨rfl, 0, rfl⟩
set_option maxRecDepth 100000 in
set_option maxHeartbeats 2000000 in
theorem any_any (n : Int) (sg : Bool) (w : World) : Calls Try.prog 28 #[.int .i64 n, .bool sg] w fun e w' => e = .returned (anyV n sg) ∧ Below w.heap.size w w' := by
  have ks := fun v : World => sized_any n v
  cases hs : szB n
  · rw [hs] at ks
    have hV : anyV n sg = .agg #[.int .i64 0, .bool false, .int .i64 0, .int .i64 0] := by unfold anyV; rw [hs]; rfl
    rw [hV]
    clear hV
    clear hs
    replace ks := hid ks
    go_enter Try.func28, Try.ntmps28
    go_upto_region 0 with (fail)
    apply wp_region_seg0 (w := w) (S := [.al 1000]) (E := [.al ((fun p => .pointer (some ⟨p, 0, none⟩)), _) 1000]) rfl (by kernel_rfl) rfl rfl
    intro th hge hne
    refine Seg.step _ rfl ⟨by rfl, fun U hU => ?_⟩ ?_
    · go_simp; exact vp_alloc rfl rfl rfl
    refine ⟨_, by (simp only [Ent.val]; go_simp <;> exact rfl), ?_⟩
    refine Seg.stop (fun U1 hU hk => ?_)
    have nb0 := hge 0 _ _ rfl
    have rb0 := (hk 0 _ _ rfl trivial).1.2 (by simp)
    clear hk hge hne
    generalize th (0 + 0) = p0_0 at *
    dsimp only at rb0
    have r_p0_0 := rb0
    clear rb0
    have n_p0_0 := nb0
    clear nb0
    have sz1 := hU.size
    have hB : Below w.heap.size w U1 := hU
    clear hU
    have nP : w.heap.size ≤ p0_0 := n_p0_0
    go_wp2_with fail
    refine (ks.out _).mono ?_
    rintro e V ⟨rfl, hv⟩
    obtain rfl : U1 = V := hv.symm
    clear hv
    go_upto_region 2 with (fail)
    have z0 := held_cell r_p0_0 0 _ rfl
    have z1 := held_cell r_p0_0 1 _ rfl
    have z2 := held_cell r_p0_0 2 _ rfl
    have z3 := held_cell r_p0_0 3 _ rfl
    have g0 := held_free r_p0_0 0
    have g1 := held_free r_p0_0 1
    have g2 := held_free r_p0_0 2
    have g3 := held_free r_p0_0 3
    obtain ⟨W9, hW9, ya, yO⟩ := st4 r_p0_0 (.int .i64 0) (.bool false) (.int .i64 0) (.int .i64 0)
    replace hB := belowS hB yO nP
    have ez0 := held_cell ya 0 _ rfl
    have ez1 := held_cell ya 1 _ rfl
    have ez2 := held_cell ya 2 _ rfl
    have ez3 := held_cell ya 3 _ rfl
    clear yO ya
    replace hB := hid hB
    go_wp2_with fail
    refine bodyPost_ret (v := .agg #[.int .i64 0, .bool false, .int .i64 0, .int .i64 0]) (by simp [results, Try.results28, go_sem, ez0, ez1, ez2, ez3]) rfl ⟨rfl, hB.out⟩
  · rw [hs] at ks
    have hV : anyV n sg = .agg #[.int .i64 n, .bool sg, .int .i64 (loS n sg), .int .i64 (hiS n sg)] := by unfold anyV; rw [hs]; rfl
    rw [hV]
    clear hV
    obtain ⟨h1, h2⟩ := szB_iff.1 hs
    have kr := hid (fun v : World => room_any n sg v h1 h2)
    generalize loS n sg = lo at *
    generalize hiS n sg = hi at *
    clear hs
    replace ks := hid ks
    go_enter Try.func28, Try.ntmps28
    go_upto_region 0 with (fail)
    apply wp_region_seg0 (w := w) (S := [.al 1000]) (E := [.al ((fun p => .pointer (some ⟨p, 0, none⟩)), _) 1000]) rfl (by kernel_rfl) rfl rfl
    intro th hge hne
    refine Seg.step _ rfl ⟨by rfl, fun U hU => ?_⟩ ?_
    · go_simp; exact vp_alloc rfl rfl rfl
    refine ⟨_, by (simp only [Ent.val]; go_simp <;> exact rfl), ?_⟩
    refine Seg.stop (fun U1 hU hk => ?_)
    have nb0 := hge 0 _ _ rfl
    have rb0 := (hk 0 _ _ rfl trivial).1.2 (by simp)
    clear hk hge hne
    generalize th (0 + 0) = p0_0 at *
    dsimp only at rb0
    have r_p0_0 := rb0
    clear rb0
    have n_p0_0 := nb0
    clear nb0
    have sz1 := hU.size
    have hB : Below w.heap.size w U1 := hU
    clear hU
    have nP : w.heap.size ≤ p0_0 := n_p0_0
    go_wp2_with fail
    refine (ks.out _).mono ?_
    rintro e V ⟨rfl, hv⟩
    obtain rfl : U1 = V := hv.symm
    clear hv
    go_wp2_with fail
    refine (kr.out _).mono ?_
    rintro e V ⟨rfl, k, rfl⟩
    replace hB := below_drewN hB k
    replace r_p0_0 : (U1.drewN k).heap[p0_0]? = _ := r_p0_0
    generalize U1.drewN k = V at *
    go_upto_region 4 with (fail)
    have z0 := held_cell r_p0_0 0 _ rfl
    have z1 := held_cell r_p0_0 1 _ rfl
    have z2 := held_cell r_p0_0 2 _ rfl
    have z3 := held_cell r_p0_0 3 _ rfl
    have g0 := held_free r_p0_0 0
    have g1 := held_free r_p0_0 1
    have g2 := held_free r_p0_0 2
    have g3 := held_free r_p0_0 3
    obtain ⟨W9, hW9, ya, yO⟩ := st4 r_p0_0 (.int .i64 n) (.bool sg) (.int .i64 lo) (.int .i64 hi)
    replace hB := belowS hB yO nP
    have ez0 := held_cell ya 0 _ rfl
    have ez1 := held_cell ya 1 _ rfl
    have ez2 := held_cell ya 2 _ rfl
    have ez3 := held_cell ya 3 _ rfl
    clear yO ya
    replace hB := hid hB
    go_wp2_with fail
    refine bodyPost_ret (v := .agg #[.int .i64 n, .bool sg, .int .i64 lo, .int .i64 hi]) (by simp [results, Try.results28, go_sem, ez0, ez1, ez2, ez3]) rfl ⟨rfl, hB.out⟩
set_option maxRecDepth 100000 in
set_option maxHeartbeats 2000000 in
theorem u_any (n hi : Int) (w : World) : Calls Try.prog 27 #[.int .i64 n, .int .i64 hi] w fun e w' => e = .returned (uV n hi) ∧ Below w.heap.size w w' := by
  have ks := fun v : World => sized_any n v
  cases hs : szB n
  · rw [hs] at ks
    have hV : uV n hi = .agg #[.int .i64 0, .bool false, .int .i64 0, .int .i64 0] := by unfold uV; rw [hs]; rfl
    rw [hV]
    clear hV
    clear hs
    replace ks := hid ks
    go_enter Try.func27, Try.ntmps27
    go_upto_region 0 with (fail)
    apply wp_region_seg0 (w := w) (S := [.al 1000]) (E := [.al ((fun p => .pointer (some ⟨p, 0, none⟩)), _) 1000]) rfl (by kernel_rfl) rfl rfl
    intro th hge hne
    refine Seg.step _ rfl ⟨by rfl, fun U hU => ?_⟩ ?_
    · go_simp; exact vp_alloc rfl rfl rfl
    refine ⟨_, by (simp only [Ent.val]; go_simp <;> exact rfl), ?_⟩
    refine Seg.stop (fun U1 hU hk => ?_)
    have nb0 := hge 0 _ _ rfl
    have rb0 := (hk 0 _ _ rfl trivial).1.2 (by simp)
    clear hk hge hne
    generalize th (0 + 0) = p0_0 at *
    dsimp only at rb0
    have r_p0_0 := rb0
    clear rb0
    have n_p0_0 := nb0
    clear nb0
    have sz1 := hU.size
    have hB : Below w.heap.size w U1 := hU
    clear hU
    have nP : w.heap.size ≤ p0_0 := n_p0_0
    go_wp2_with fail
    refine (ks.out _).mono ?_
    rintro e V ⟨rfl, hv⟩
    obtain rfl : U1 = V := hv.symm
    clear hv
    go_upto_region 2 with (fail)
    have z0 := held_cell r_p0_0 0 _ rfl
    have z1 := held_cell r_p0_0 1 _ rfl
    have z2 := held_cell r_p0_0 2 _ rfl
    have z3 := held_cell r_p0_0 3 _ rfl
    have g0 := held_free r_p0_0 0
    have g1 := held_free r_p0_0 1
    have g2 := held_free r_p0_0 2
    have g3 := held_free r_p0_0 3
    obtain ⟨W9, hW9, ya, yO⟩ := st4 r_p0_0 (.int .i64 0) (.bool false) (.int .i64 0) (.int .i64 0)
    replace hB := belowS hB yO nP
    have ez0 := held_cell ya 0 _ rfl
    have ez1 := held_cell ya 1 _ rfl
    have ez2 := held_cell ya 2 _ rfl
    have ez3 := held_cell ya 3 _ rfl
    clear yO ya
    replace hB := hid hB
    go_wp2_with fail
    refine bodyPost_ret (v := .agg #[.int .i64 0, .bool false, .int .i64 0, .int .i64 0]) (by simp [results, Try.results27, go_sem, ez0, ez1, ez2, ez3]) rfl ⟨rfl, hB.out⟩
  · rw [hs] at ks
    have hV : uV n hi = .agg #[.int .i64 n, .bool false, .int .i64 0, .int .i64 hi] := by unfold uV; rw [hs]; rfl
    rw [hV]
    clear hV
    clear hs
    replace ks := hid ks
    go_enter Try.func27, Try.ntmps27
    go_upto_region 0 with (fail)
    apply wp_region_seg0 (w := w) (S := [.al 1000]) (E := [.al ((fun p => .pointer (some ⟨p, 0, none⟩)), _) 1000]) rfl (by kernel_rfl) rfl rfl
    intro th hge hne
    refine Seg.step _ rfl ⟨by rfl, fun U hU => ?_⟩ ?_
    · go_simp; exact vp_alloc rfl rfl rfl
    refine ⟨_, by (simp only [Ent.val]; go_simp <;> exact rfl), ?_⟩
    refine Seg.stop (fun U1 hU hk => ?_)
    have nb0 := hge 0 _ _ rfl
    have rb0 := (hk 0 _ _ rfl trivial).1.2 (by simp)
    clear hk hge hne
    generalize th (0 + 0) = p0_0 at *
    dsimp only at rb0
    have r_p0_0 := rb0
    clear rb0
    have n_p0_0 := nb0
    clear nb0
    have sz1 := hU.size
    have hB : Below w.heap.size w U1 := hU
    clear hU
    have nP : w.heap.size ≤ p0_0 := n_p0_0
    go_wp2_with fail
    refine (ks.out _).mono ?_
    rintro e V ⟨rfl, hv⟩
    obtain rfl : U1 = V := hv.symm
    clear hv
    go_upto_region 3 with (fail)
    have z0 := held_cell r_p0_0 0 _ rfl
    have z1 := held_cell r_p0_0 1 _ rfl
    have z2 := held_cell r_p0_0 2 _ rfl
    have z3 := held_cell r_p0_0 3 _ rfl
    have g0 := held_free r_p0_0 0
    have g1 := held_free r_p0_0 1
    have g2 := held_free r_p0_0 2
    have g3 := held_free r_p0_0 3
    obtain ⟨W9, hW9, ya, yO⟩ := st4 r_p0_0 (.int .i64 n) (.bool false) (.int .i64 0) (.int .i64 hi)
    replace hB := belowS hB yO nP
    have ez0 := held_cell ya 0 _ rfl
    have ez1 := held_cell ya 1 _ rfl
    have ez2 := held_cell ya 2 _ rfl
    have ez3 := held_cell ya 3 _ rfl
    clear yO ya
    replace hB := hid hB
    go_wp2_with fail
    refine bodyPost_ret (v := .agg #[.int .i64 n, .bool false, .int .i64 0, .int .i64 hi]) (by simp [results, Try.results27, go_sem, ez0, ez1, ez2, ez3]) rfl ⟨rfl, hB.out⟩
set_option maxRecDepth 100000 in
set_option maxHeartbeats 2000000 in
theorem i_any (n lo hi : Int) (w : World) : Calls Try.prog 29 #[.int .i64 n, .int .i64 lo, .int .i64 hi] w fun e w' => e = .returned (iV n lo hi) ∧ Below w.heap.size w w' := by
  have ks := fun v : World => sized_any n v
  cases hs : szB n
  · rw [hs] at ks
    have hV : iV n lo hi = .agg #[.int .i64 0, .bool false, .int .i64 0, .int .i64 0] := by unfold iV; rw [hs]; rfl
    rw [hV]
    clear hV
    clear hs
    replace ks := hid ks
    go_enter Try.func29, Try.ntmps29
    go_upto_region 0 with (fail)
    apply wp_region_seg0 (w := w) (S := [.al 1000]) (E := [.al ((fun p => .pointer (some ⟨p, 0, none⟩)), _) 1000]) rfl (by kernel_rfl) rfl rfl
    intro th hge hne
    refine Seg.step _ rfl ⟨by rfl, fun U hU => ?_⟩ ?_
    · go_simp; exact vp_alloc rfl rfl rfl
    refine ⟨_, by (simp only [Ent.val]; go_simp <;> exact rfl), ?_⟩
    refine Seg.stop (fun U1 hU hk => ?_)
    have nb0 := hge 0 _ _ rfl
    have rb0 := (hk 0 _ _ rfl trivial).1.2 (by simp)
    clear hk hge hne
    generalize th (0 + 0) = p0_0 at *
    dsimp only at rb0
    have r_p0_0 := rb0
    clear rb0
    have n_p0_0 := nb0
    clear nb0
    have sz1 := hU.size
    have hB : Below w.heap.size w U1 := hU
    clear hU
    have nP : w.heap.size ≤ p0_0 := n_p0_0
    go_wp2_with fail
    refine (ks.out _).mono ?_
    rintro e V ⟨rfl, hv⟩
    obtain rfl : U1 = V := hv.symm
    clear hv
    go_upto_region 2 with (fail)
    have z0 := held_cell r_p0_0 0 _ rfl
    have z1 := held_cell r_p0_0 1 _ rfl
    have z2 := held_cell r_p0_0 2 _ rfl
    have z3 := held_cell r_p0_0 3 _ rfl
    have g0 := held_free r_p0_0 0
    have g1 := held_free r_p0_0 1
    have g2 := held_free r_p0_0 2
    have g3 := held_free r_p0_0 3
    obtain ⟨W9, hW9, ya, yO⟩ := st4 r_p0_0 (.int .i64 0) (.bool false) (.int .i64 0) (.int .i64 0)
    replace hB := belowS hB yO nP
    have ez0 := held_cell ya 0 _ rfl
    have ez1 := held_cell ya 1 _ rfl
    have ez2 := held_cell ya 2 _ rfl
    have ez3 := held_cell ya 3 _ rfl
    clear yO ya
    replace hB := hid hB
    go_wp2_with fail
    refine bodyPost_ret (v := .agg #[.int .i64 0, .bool false, .int .i64 0, .int .i64 0]) (by simp [results, Try.results29, go_sem, ez0, ez1, ez2, ez3]) rfl ⟨rfl, hB.out⟩
  · rw [hs] at ks
    have hV : iV n lo hi = .agg #[.int .i64 n, .bool true, .int .i64 lo, .int .i64 hi] := by unfold iV; rw [hs]; rfl
    rw [hV]
    clear hV
    clear hs
    replace ks := hid ks
    go_enter Try.func29, Try.ntmps29
    go_upto_region 0 with (fail)
    apply wp_region_seg0 (w := w) (S := [.al 1000]) (E := [.al ((fun p => .pointer (some ⟨p, 0, none⟩)), _) 1000]) rfl (by kernel_rfl) rfl rfl
    intro th hge hne
    refine Seg.step _ rfl ⟨by rfl, fun U hU => ?_⟩ ?_
    · go_simp; exact vp_alloc rfl rfl rfl
    refine ⟨_, by (simp only [Ent.val]; go_simp <;> exact rfl), ?_⟩
    refine Seg.stop (fun U1 hU hk => ?_)
    have nb0 := hge 0 _ _ rfl
    have rb0 := (hk 0 _ _ rfl trivial).1.2 (by simp)
    clear hk hge hne
    generalize th (0 + 0) = p0_0 at *
    dsimp only at rb0
    have r_p0_0 := rb0
    clear rb0
    have n_p0_0 := nb0
    clear nb0
    have sz1 := hU.size
    have hB : Below w.heap.size w U1 := hU
    clear hU
    have nP : w.heap.size ≤ p0_0 := n_p0_0
    go_wp2_with fail
    refine (ks.out _).mono ?_
    rintro e V ⟨rfl, hv⟩
    obtain rfl : U1 = V := hv.symm
    clear hv
    go_upto_region 3 with (fail)
    have z0 := held_cell r_p0_0 0 _ rfl
    have z1 := held_cell r_p0_0 1 _ rfl
    have z2 := held_cell r_p0_0 2 _ rfl
    have z3 := held_cell r_p0_0 3 _ rfl
    have g0 := held_free r_p0_0 0
    have g1 := held_free r_p0_0 1
    have g2 := held_free r_p0_0 2
    have g3 := held_free r_p0_0 3
    obtain ⟨W9, hW9, ya, yO⟩ := st4 r_p0_0 (.int .i64 n) (.bool true) (.int .i64 lo) (.int .i64 hi)
    replace hB := belowS hB yO nP
    have ez0 := held_cell ya 0 _ rfl
    have ez1 := held_cell ya 1 _ rfl
    have ez2 := held_cell ya 2 _ rfl
    have ez3 := held_cell ya 3 _ rfl
    clear yO ya
    replace hB := hid hB
    go_wp2_with fail
    refine bodyPost_ret (v := .agg #[.int .i64 n, .bool true, .int .i64 lo, .int .i64 hi]) (by simp [results, Try.results29, go_sem, ez0, ez1, ez2, ez3]) rfl ⟨rfl, hB.out⟩
set_option maxRecDepth 100000 in
set_option maxHeartbeats 4000000 in
theorem rightf_any (n : Int) (sg : Bool) (lo hi : Int) (w : World) : Calls Try.prog 55 #[.agg #[.int .i64 n, .bool sg, .int .i64 lo, .int .i64 hi]] w fun e w' => e = .returned (.bool (rightS n sg lo hi)) ∧ Below w.heap.size w w' := by
  have ks := fun v : World => sized_any n v
  have hR : rightS n sg lo hi = (szB n && (decide (lo ≤ hi) && (decide (loS n sg ≤ lo) && decide (hi ≤ hiS n sg)))) := rfl
  cases hs : szB n
  · rw [hs] at ks hR
    rw [hR]
    clear hs hR
    replace ks := hid ks
    go_enter Try.func55, Try.ntmps55
    go_upto_region 0 with (fail)
    apply wp_region_seg0 (w := w) (S := [.al 1000, .q []]) (E := [.al ((fun p => .pointer (some ⟨p, 0, none⟩)), _) 1000, .q0 _]) rfl (by kernel_rfl) rfl rfl
    intro th hge hne
    refine Seg.step _ rfl ⟨by rfl, fun U hU => ?_⟩ ?_
    · go_simp; exact vp_alloc rfl rfl rfl
    refine ⟨_, by (simp only [Ent.val]; go_simp <;> exact rfl), ?_⟩
    refine Seg.step _ rfl (Or.inl ⟨by rfl, fun U hU => vp_quiet (by (go_simp <;> exact rfl))⟩) ⟨_, by (simp only [Ent.val]; go_simp <;> exact rfl), ?_⟩
    refine Seg.stop (fun U1 hU hk => ?_)
    have nb0 := hge 0 _ _ rfl
    have rb0 := (hk 0 _ _ rfl trivial).1.2 (by simp)
    clear hk hge hne
    generalize th (0 + 0) = p0_0 at *
    dsimp only at rb0
    have r_p0_0 := rb0
    clear rb0
    have n_p0_0 := nb0
    clear nb0
    have sz1 := hU.size
    have hB : Below w.heap.size w U1 := hU
    clear hU
    go_upto_region 1 with (fail)
    apply wp_region_seg0 (w := U1) (S := [.q [], .q [], .q [], .q []]) (E := [.q0 _, .q0 _, .c0 _, .q0 _]) rfl (by kernel_rfl) rfl rfl
    intro th hge hne
    refine Seg.step _ rfl (Or.inl ⟨by rfl, fun U hU => vp_quiet (by (go_simp <;> exact rfl))⟩) ⟨_, by (simp only [Ent.val]; go_simp <;> exact rfl), ?_⟩
    refine Seg.step _ rfl (Or.inl ⟨by rfl, fun U hU => vp_quiet (by (have h0 := held_cell (held_after hU.1 r_p0_0) 0 _ rfl; go_simp <;> exact rfl))⟩) ⟨_, by (simp only [Ent.val]; go_simp <;> exact rfl), ?_⟩
    refine Seg.step _ rfl (Or.inl ⟨by rfl, fun U hU => ?_⟩) ?_
    · go_simp
      refine vp_calls (ks.out _)
    refine ⟨_, by (simp only [Ent.val]; go_simp <;> exact rfl), ?_⟩
    refine Seg.step _ rfl (Or.inl ⟨by rfl, fun U hU => vp_quiet (by (go_simp <;> exact rfl))⟩) ⟨_, by (simp only [Ent.val]; go_simp <;> exact rfl), ?_⟩
    refine Seg.stop (fun U2 hU hk => ?_)
    clear hk hge hne
    replace r_p0_0 := held_after hU r_p0_0
    have sz2 := hU.size
    replace hB := bthen hB hU
    clear hU
    go_wp2_with fail
    go_ret
    exact ⟨rfl, hB⟩
  rw [hs] at ks hR
  obtain ⟨h1, h2⟩ := szB_iff.1 hs
  have kr := hid (fun v : World => room_any n sg v h1 h2)
  rw [hR]
  clear hs hR
  generalize loS n sg = L at *
  generalize hiS n sg = H at *
  replace ks := hid ks
  go_enter Try.func55, Try.ntmps55
  go_upto_region 0 with (fail)
  apply wp_region_seg0 (w := w) (S := [.al 1000, .q []]) (E := [.al ((fun p => .pointer (some ⟨p, 0, none⟩)), _) 1000, .q0 _]) rfl (by kernel_rfl) rfl rfl
  intro th hge hne
  refine Seg.step _ rfl ⟨by rfl, fun U hU => ?_⟩ ?_
  · go_simp; exact vp_alloc rfl rfl rfl
  refine ⟨_, by (simp only [Ent.val]; go_simp <;> exact rfl), ?_⟩
  refine Seg.step _ rfl (Or.inl ⟨by rfl, fun U hU => vp_quiet (by (go_simp <;> exact rfl))⟩) ⟨_, by (simp only [Ent.val]; go_simp <;> exact rfl), ?_⟩
  refine Seg.stop (fun U1 hU hk => ?_)
  have nb0 := hge 0 _ _ rfl
  have rb0 := (hk 0 _ _ rfl trivial).1.2 (by simp)
  clear hk hge hne
  generalize th (0 + 0) = p0_0 at *
  dsimp only at rb0
  have r_p0_0 := rb0
  clear rb0
  have n_p0_0 := nb0
  clear nb0
  have sz1 := hU.size
  have hB : Below w.heap.size w U1 := hU
  clear hU
  go_upto_region 1 with (fail)
  apply wp_region_seg0 (w := U1) (S := [.q [], .q [], .q [], .q []]) (E := [.q0 _, .q0 _, .c0 _, .q0 _]) rfl (by kernel_rfl) rfl rfl
  intro th hge hne
  refine Seg.step _ rfl (Or.inl ⟨by rfl, fun U hU => vp_quiet (by (go_simp <;> exact rfl))⟩) ⟨_, by (simp only [Ent.val]; go_simp <;> exact rfl), ?_⟩
  refine Seg.step _ rfl (Or.inl ⟨by rfl, fun U hU => vp_quiet (by (have h0 := held_cell (held_after hU.1 r_p0_0) 0 _ rfl; go_simp <;> exact rfl))⟩) ⟨_, by (simp only [Ent.val]; go_simp <;> exact rfl), ?_⟩
  refine Seg.step _ rfl (Or.inl ⟨by rfl, fun U hU => ?_⟩) ?_
  · go_simp
    refine vp_calls (ks.out _)
  refine ⟨_, by (simp only [Ent.val]; go_simp <;> exact rfl), ?_⟩
  refine Seg.step _ rfl (Or.inl ⟨by rfl, fun U hU => vp_quiet (by (go_simp <;> exact rfl))⟩) ⟨_, by (simp only [Ent.val]; go_simp <;> exact rfl), ?_⟩
  refine Seg.stop (fun U2 hU hk => ?_)
  clear hk hge hne
  replace r_p0_0 := held_after hU r_p0_0
  have sz2 := hU.size
  replace hB := bthen hB hU
  clear hU
  go_upto_region 3 with (fail)
  skip
  apply wp_region_seg0 (w := U2) (S := [.q [], .q [], .q [], .q [], .q [], .q [], .q [], .q [], .q [], .q []]) (E := [.q0 _, .q0 _, .q0 _, .q0 _, .c0 _, .q0 _, .q0 _, .q0 _, .q0 _, .q0 _]) rfl (by kernel_rfl) rfl rfl
  intro th hge hne
  refine Seg.step _ rfl (Or.inl ⟨by rfl, fun U hU => vp_quiet (by (go_simp <;> exact rfl))⟩) ⟨_, by (simp only [Ent.val]; go_simp <;> exact rfl), ?_⟩
  refine Seg.step _ rfl (Or.inl ⟨by rfl, fun U hU => vp_quiet (by (have h0 := held_cell (held_after hU.1 r_p0_0) 0 _ rfl; go_simp <;> exact rfl))⟩) ⟨_, by (simp only [Ent.val]; go_simp <;> exact rfl), ?_⟩
  refine Seg.step _ rfl (Or.inl ⟨by rfl, fun U hU => vp_quiet (by (go_simp <;> exact rfl))⟩) ⟨_, by (simp only [Ent.val]; go_simp <;> exact rfl), ?_⟩
  refine Seg.step _ rfl (Or.inl ⟨by rfl, fun U hU => vp_quiet (by (have h0 := held_cell (held_after hU.1 r_p0_0) 1 _ rfl; go_simp <;> exact rfl))⟩) ⟨_, by (simp only [Ent.val]; go_simp <;> exact rfl), ?_⟩
  refine Seg.step _ rfl (Or.inl ⟨by rfl, fun U hU => ?_⟩) ?_
  · go_simp
    refine vp_calld (kr.out _)
  refine ⟨_, by (simp only [Ent.val]; go_simp <;> exact rfl), ?_⟩
  refine Seg.step _ rfl (Or.inl ⟨by rfl, fun U hU => vp_quiet (by (go_simp <;> exact rfl))⟩) ⟨_, by (simp only [Ent.val]; go_simp <;> exact rfl), ?_⟩
  refine Seg.step _ rfl (Or.inl ⟨by rfl, fun U hU => vp_quiet (by (go_simp <;> exact rfl))⟩) ⟨_, by (simp only [Ent.val]; go_simp <;> exact rfl), ?_⟩
  refine Seg.step _ rfl (Or.inl ⟨by rfl, fun U hU => vp_quiet (by (go_simp <;> exact rfl))⟩) ⟨_, by (simp only [Ent.val]; go_simp <;> exact rfl), ?_⟩
  refine Seg.step _ rfl (Or.inl ⟨by rfl, fun U hU => vp_quiet (by (go_simp <;> exact rfl))⟩) ⟨_, by (simp only [Ent.val]; go_simp <;> exact rfl), ?_⟩
  refine Seg.step _ rfl (Or.inl ⟨by rfl, fun U hU => vp_quiet (by (go_simp <;> exact rfl))⟩) ⟨_, by (simp only [Ent.val]; go_simp <;> exact rfl), ?_⟩
  refine Seg.stop (fun U3 hU hk => ?_)
  clear hk hge hne
  replace r_p0_0 := held_after hU r_p0_0
  have sz3 := hU.size
  replace hB := bthen hB hU
  clear hU
  go_upto_region 4 with (fail)
  have u0 := held_cell r_p0_0 0 _ rfl
  have u2 := held_cell r_p0_0 2 _ rfl
  have u3 := held_cell r_p0_0 3 _ rfl
  by_cases c1 : lo ≤ hi
  · by_cases c2 : L ≤ lo
    · by_cases c3 : hi ≤ H
      · go_wp2_with fail
        all_goals go_ret
        all_goals exact ⟨ret_bool (by first | (simp [c1, c2, c3]; done) | (simp; intros; omega) | (simp; omega)), hB⟩
      · go_wp2_with fail
        all_goals go_ret
        all_goals exact ⟨ret_bool (by first | (simp [c1, c2, c3]; done) | (simp; intros; omega) | (simp; omega)), hB⟩
    · go_wp2_with fail
      all_goals go_ret
      all_goals exact ⟨ret_bool (by first | (simp [c1, c2]; done) | (simp; intros; omega) | (simp; omega)), hB⟩
  · go_wp2_with fail
    all_goals go_ret
    all_goals exact ⟨ret_bool (by first | (simp [c1]; done) | (simp; intros; omega) | (simp; omega)), hB⟩

end Go.Proofs.Ytfihdgichmocmaa

/- Package shape: Right. -/
namespace Go.Proofs.Ytfihdgichmocmaa
open Go.ChangeShapes Go.WideShapes Go.ChangeAt Go.RowKit
set_option linter.unusedVariables false
set_option linter.unusedSimpArgs false

/-- Are the first k fields right? -/
def allR (f0 : Nat → Int) (f1 : Nat → Bool) (f2 f3 : Nat → Int) : Nat → Bool
  | 0 => true
  | k + 1 => allR f0 f1 f2 f3 k && rightS (f0 k) (f1 k) (f2 k) (f3 k)
theorem allR_no {f0 : Nat → Int} {f1 : Nat → Bool} {f2 f3 : Nat → Int} {k : Nat} (h : rightS (f0 k) (f1 k) (f2 k) (f3 k) = false) : ∀ m, k < m → allR f0 f1 f2 f3 m = false
  | 0, hm => by omega
  | m + 1, hm => by
    by_cases c : k = m
    · subst c; unfold allR; rw [h]; simp
    · unfold allR; rw [allR_no h m (by omega)]; rfl
/-- The fields in memory. -/
def Flds (w : World) (a : Option Addr) (len cap : Nat) (f0 : Nat → Int) (f1 : Nat → Bool) (f2 f3 : Nat → Int) : Prop :=
  len ≤ cap ∧ cap ≤ maxLen ∧ (a = none → cap = 0) ∧ ∀ i, i < len → ∃ b off, a = some ⟨b, off, none⟩ ∧ w.cell? ⟨b, off + i * 4, none⟩ = some (.int .i64 (f0 i)) ∧ w.cell? ⟨b, off + i * 4 + 1, none⟩ = some (.bool (f1 i)) ∧ w.cell? ⟨b, off + i * 4 + 2, none⟩ = some (.int .i64 (f2 i)) ∧ w.cell? ⟨b, off + i * 4 + 3, none⟩ = some (.int .i64 (f3 i))
theorem Flds.below {w w' : World} {a : Option Addr} {len cap : Nat} {f0 : Nat → Int} {f1 : Nat → Bool} {f2 f3 : Nat → Int} (h : Flds w a len cap f0 f1 f2 f3) (hb : Below w.heap.size w w') : Flds w' a len cap f0 f1 f2 f3 :=
  ⟨h.1, h.2.1, h.2.2.1, fun i hi => by
    obtain ⟨b, off, e, h0, h1, h2, h3⟩ := h.2.2.2 i hi
    have hlt := World.block_lt_of_cell? w _ h0
    exact ⟨b, off, e, (hb.cell (p := ⟨b, off + i * 4, none⟩) hlt).trans h0, (hb.cell (p := ⟨b, off + i * 4 + 1, none⟩) hlt).trans h1, (hb.cell (p := ⟨b, off + i * 4 + 2, none⟩) hlt).trans h2, (hb.cell (p := ⟨b, off + i * 4 + 3, none⟩) hlt).trans h3⟩⟩
set_option maxRecDepth 100000 in
set_option maxHeartbeats 4000000 in
theorem rightl_any (a : Option Addr) (len cap : Nat) (f0 : Nat → Int) (f1 : Nat → Bool) (f2 f3 : Nat → Int) (w : World) (hF : Flds w a len cap f0 f1 f2 f3) : Calls Try.prog 37 #[.slice a len cap] w fun e w' => e = .returned (.bool (allR f0 f1 f2 f3 len)) ∧ Below w.heap.size w w' := by
  obtain ⟨R, hR⟩ : ∃ R, allR f0 f1 f2 f3 len = R := ⟨_, rfl⟩
  rw [hR]
  replace hR := hid hR
  have hlen : len ≤ maxLen := Nat.le_trans hF.1 hF.2.1
  have hm : maxLen ≤ 9223372036854775807 := by decide
  replace hF := hid hF
  go_enter Try.func37, Try.ntmps37
  go_wp2_with fail
  go_loopw [7] (fun i wr => ∃ k : Nat, k ≤ len ∧ i = .int .i64 k ∧ Go.RowKit.Hid (allR f0 f1 f2 f3 k = true) ∧ Below w.heap.size w wr) (fun i _ => len - (intOf i).toNat)
  case atStart => exact ⟨0, by omega, rfl, hid rfl, Below.refl _ _⟩
  case round =>
    obtain ⟨k, hk, rfl, hd, hB⟩ := hrel
    by_cases hlt : (k : Int) < len
    case neg =>
      obtain rfl : k = len := by omega
      obtain rfl : R = true := by rw [← hR.out, hd.out]
      go_wp2_with fail
      go_ret
      exact ⟨rfl, hB⟩
    have hlt2 : k < len := by omega
    obtain ⟨b, off, rfl, l0, l1, l2, l3⟩ := (hF.out.below hB).2.2.2 k hlt2
    have kz : (0 : Int) ≤ k := by omega
    have kr := hid (fun v : World => rightf_any (f0 k) (f1 k) (f2 k) (f3 k) v)
    cases hr : rightS (f0 k) (f1 k) (f2 k) (f3 k)
    · rw [hr] at kr
      obtain rfl : R = false := by rw [← hR.out]; exact allR_no hr len hlt2
      clear hr
      generalize f0 k = x0 at *
      generalize f1 k = x1 at *
      generalize f2 k = x2 at *
      generalize f3 k = x3 at *
      replace hB := hid hB
      go_wp2_with fail
      refine (kr.out _).mono ?_
      rintro e V ⟨rfl, hst⟩
      have hB2 := hid (bthen (balloc hB.out (Nat.le_refl _) _) hst)
      clear hst
      go_wp2_with fail
      go_ret
      exact ⟨rfl, hB2.out⟩
    · rw [hr] at kr
      have hd2 : Go.RowKit.Hid (allR f0 f1 f2 f3 (k + 1) = true) := hid (by show (allR f0 f1 f2 f3 k && _) = true; rw [hd.out, hr]; rfl)
      clear hr
      generalize f0 k = x0 at *
      generalize f1 k = x1 at *
      generalize f2 k = x2 at *
      generalize f3 k = x3 at *
      replace hB := hid hB
      go_wp2_with fail
      refine (kr.out _).mono ?_
      rintro e V ⟨rfl, hst⟩
      have hB2 := hid (bthen (balloc hB.out (Nat.le_refl _) _) hst)
      clear hst
      go_wp2_with fail
      go_roundw
      case rel => exact ⟨k + 1, by omega, by simp, hd2, hB2.out⟩
      case measure => simp [intOf]; omega

end Go.Proofs.Ytfihdgichmocmaa

/- Package shape: Width; the papers: Most. -/
namespace Go.Proofs.Ytfihdgichmocmaa
open Go.ChangeShapes Go.WideShapes Go.ChangeAt Go.RowKit
set_option linter.unusedVariables false
set_option linter.unusedSimpArgs false

def sumW (f0 : Nat → Int) : Nat → Int
  | 0 => 0
  | k + 1 => sumW f0 k + f0 k
theorem allR_at {f0 : Nat → Int} {f1 : Nat → Bool} {f2 f3 : Nat → Int} {m k : Nat} (h : allR f0 f1 f2 f3 m = true) (hk : k < m) : rightS (f0 k) (f1 k) (f2 k) (f3 k) = true := by
  cases hr : rightS (f0 k) (f1 k) (f2 k) (f3 k)
  · rw [allR_no hr m hk] at h; cases h
  · rfl
theorem right_sz {n : Int} {sg : Bool} {lo hi : Int} (h : rightS n sg lo hi = true) : 1 ≤ n ∧ n ≤ 8 ∧ lo ≤ hi ∧ loS n sg ≤ lo ∧ hi ≤ hiS n sg := by
  unfold rightS at h
  simp only [Bool.and_eq_true, decide_eq_true_eq] at h
  have := szB_iff.1 h.1
  exact ⟨this.1, this.2, h.2.1, h.2.2.1, h.2.2.2⟩
theorem sumW_bd {f0 : Nat → Int} {f1 : Nat → Bool} {f2 f3 : Nat → Int} {m : Nat} (h : allR f0 f1 f2 f3 m = true) : ∀ k, k ≤ m → 0 ≤ sumW f0 k ∧ sumW f0 k ≤ 8 * k
  | 0, _ => ⟨Int.le_refl _, Int.le_refl _⟩
  | k + 1, hk => by
    have h1 := sumW_bd h k (by omega)
    have h2 := right_sz (allR_at h (show k < m by omega))
    show 0 ≤ sumW f0 k + f0 k ∧ sumW f0 k + f0 k ≤ 8 * ((k + 1 : Nat) : Int)
    omega
def widthS (f0 : Nat → Int) (f1 : Nat → Bool) (f2 f3 : Nat → Int) (len : Nat) : Int := if allR f0 f1 f2 f3 len = true then sumW f0 len else 0
set_option maxRecDepth 100000 in
set_option maxHeartbeats 4000000 in
theorem width_any (a : Option Addr) (len cap : Nat) (f0 : Nat → Int) (f1 : Nat → Bool) (f2 f3 : Nat → Int) (w : World) (hF : Flds w a len cap f0 f1 f2 f3) (h200 : len ≤ 1000) : Calls Try.prog 47 #[.slice a len cap] w fun e w' => e = .returned (.int .i64 (widthS f0 f1 f2 f3 len)) ∧ Below w.heap.size w w' := by
  have kr := fun v : World => fun h : Flds v a len cap f0 f1 f2 f3 => rightl_any a len cap f0 f1 f2 f3 v h
  cases hal : allR f0 f1 f2 f3 len
  · have hV : widthS f0 f1 f2 f3 len = 0 := by unfold widthS; rw [hal]; rfl
    rw [hV]
    rw [hal] at kr
    clear hV hal
    replace kr := hid kr
    replace hF := hid hF
    go_enter Try.func47, Try.ntmps47
    go_wp2_with fail
    refine (kr.out _ hF.out).mono ?_
    rintro e V ⟨rfl, hst⟩
    go_wp2_with fail
    go_ret
    exact ⟨rfl, hst⟩
  have hV : widthS f0 f1 f2 f3 len = sumW f0 len := by unfold widthS; rw [if_pos hal]
  rw [hV]
  rw [hal] at kr
  clear hV
  replace hal := hid hal
  replace kr := hid kr
  replace hF := hid hF
  go_enter Try.func47, Try.ntmps47
  go_wp2_with fail
  refine (kr.out _ hF.out).mono ?_
  rintro e V ⟨rfl, hst⟩
  replace hst := hid hst
  go_wp2_with fail
  go_loopw [3, 11] (fun s i wr => ∃ k : Nat, k ≤ len ∧ i = .int .i64 k ∧ s = .int .i64 (sumW f0 k) ∧ Below w.heap.size w wr) (fun _ i _ => len - (intOf i).toNat)
  case atStart => exact ⟨0, by omega, rfl, rfl, hst.out⟩
  case round =>
    obtain ⟨k, hk, rfl, rfl, hB⟩ := hrel
    by_cases hlt : (k : Int) < len
    case neg =>
      obtain rfl : k = len := by omega
      obtain ⟨SW, hSW⟩ : ∃ X, sumW f0 k = X := ⟨_, rfl⟩
      rw [hSW]
      replace hSW := hid hSW
      go_wp2_with fail
      go_ret
      exact ⟨by rw [hSW.out]; rfl, hB⟩
    have hlt2 : k < len := by omega
    obtain ⟨b, off, rfl, l0, l1, l2, l3⟩ := (hF.out.below hB).2.2.2 k hlt2
    have kz : (0 : Int) ≤ k := by omega
    have sb := sumW_bd hal.out k hk
    have sz := right_sz (allR_at hal.out hlt2)
    have s1 := sz.1
    have s2 := sz.2.1
    clear sz
    have hn : Go.RowKit.Hid (sumW f0 (k + 1) = sumW f0 k + f0 k) := hid rfl
    generalize hg : sumW f0 k = SW at *
    replace hg := hid hg
    generalize f0 k = x0 at *
    generalize f1 k = x1 at *
    generalize f2 k = x2 at *
    generalize f3 k = x3 at *
    have fs : IntKind.i64.wrap (SW + x0) = SW + x0 := by rw [IntKind.wrap_i64]; omega
    have hB2 := hid (balloc hB (Nat.le_refl _) (.cells #[.int .i64 x0, .bool x1, .int .i64 x2, .int .i64 x3] 35))
    replace hB := hid hB
    go_wp2_with fail
    go_roundw
    case rel => exact ⟨k + 1, by omega, by simp, by rw [hn.out], hB2.out⟩
    case measure => simp [intOf]; omega
set_option maxRecDepth 100000 in
set_option maxHeartbeats 4000000 in
theorem rmost_any (n : Int) (sg : Bool) (w : World) (h1 : 1 ≤ n) (h2 : n ≤ 8) : Calls Try.prog 75 #[.int .i64 n, .bool sg] w fun e w' => e = .returned (.int .i64 (hiS n sg)) ∧ w' = w := by
  by_cases h8 : n = 8
  · subst h8
    have e : hiS 8 sg = 9223372036854775807 := by cases sg <;> decide +kernel
    rw [e]
    clear e
    go_enter Try.func75, Try.ntmps75
    go_wp2_with fail
    go_ret
    exact ⟨rfl, rfl⟩
  have hq : ∀ k : Nat, k < 8 → 1 ≤ k → (0 : Int) < 128 * 256 ^ (k - 1) ∧ (128 : Int) * 256 ^ (k - 1) ≤ 36028797018963968 := by decide +kernel
  have hstep : ∀ k : Nat, k < 8 → 1 ≤ k → (128 : Int) * 256 ^ (k - 1) * 256 = 128 * 256 ^ (k + 1 - 1) := by decide +kernel
  have hend : ∀ k : Nat, k < 8 → 1 ≤ k → hiS k true = 128 * 256 ^ (k - 1) - 1 ∧ hiS k false = 2 * (128 * 256 ^ (k - 1)) - 1 := by decide +kernel
  obtain ⟨m, rfl⟩ := Int.eq_ofNat_of_zero_le (show 0 ≤ n by omega)
  replace hq := hid hq
  replace hstep := hid hstep
  replace hend := hid hend
  obtain ⟨R, hR⟩ : ∃ R, hiS m sg = R := ⟨_, rfl⟩
  rw [hR]
  replace hR := hid hR
  have b8 : ((m : Int) == 8) = false := by simp; omega
  go_enter Try.func75, Try.ntmps75
  go_wp2_with fail
  go_loopw [5, 6] (fun x i wr => ∃ k : Nat, 1 ≤ k ∧ k ≤ m ∧ i = .int .i64 k ∧ x = .int .i64 (128 * 256 ^ (k - 1)) ∧ wr = w) (fun _ i _ => m - (intOf i).toNat)
  case atStart => exact ⟨1, by omega, by omega, rfl, rfl, rfl⟩
  case round =>
    obtain ⟨k, k1, k2, rfl, rfl, rfl⟩ := hrel
    have hb := hq.out k (by omega) k1
    by_cases hlt : (k : Int) < m
    case neg =>
      obtain rfl : k = m := by omega
      have he := hend.out k (by omega) k1
      generalize (128 : Int) * 256 ^ (k - 1) = X at *
      cases sg
      · have hx := hid (hR.out.symm.trans he.2)
        clear he
        go_wp2_with fail
        go_ret
        exact ⟨ret_int (by rw [hx.out]), rfl⟩
      · have hx := hid (hR.out.symm.trans he.1)
        clear he
        go_wp2_with fail
        go_ret
        exact ⟨ret_int (by rw [hx.out]), rfl⟩
    have hs := hid (hstep.out k (by omega) k1)
    have hb2 := hq.out (k + 1) (by omega) (by omega)
    rw [← hs.out] at hb2
    have kz : (0 : Int) ≤ k := by omega
    generalize (128 : Int) * 256 ^ (k - 1) = X at *
    go_wp2_with fail
    go_roundw
    case rel => exact ⟨k + 1, by omega, by omega, by simp, by rw [← hs.out], trivial⟩
    case measure => simp [intOf]; omega

end Go.Proofs.Ytfihdgichmocmaa
