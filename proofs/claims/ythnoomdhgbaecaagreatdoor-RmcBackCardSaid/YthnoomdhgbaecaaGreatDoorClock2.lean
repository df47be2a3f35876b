/- Package clock: may a time be, a date? -/
import Derived.Test.YthnoomdhgbaecaaGreatDoorClock
import Derived.Deep.DeepCutAuto
namespace Go.Proofs.YthnoomdhgbaecaaGreatDoor

open Go.ChangeShapes Go.WideShapes Go.ChangeAt Go.RowKit

set_option linter.unusedVariables false

set_option maxRecDepth 100000 in
set_option maxHeartbeats 4000000 in
theorem maytime_any (b : Bool) (h m s c : Int) (w : World) : Calls Tryz.prog 74 #[.agg #[.bool b, .int .i64 h, .int .i64 m, .int .i64 s, .int .i64 c]] w fun e w' => e = .returned (.bool (mayTB b h m s c)) ∧ Below w.heap.size w w' := by
  cases b
  · by_cases hz : h = 0 ∧ m = 0 ∧ s = 0 ∧ c = 0
    · obtain ⟨rfl, rfl, rfl, rfl⟩ := hz
      have e : mayTB false 0 0 0 0 = true := rfl
      rw [e]
      clear e
      go_enter Tryz.func74, Tryz.ntmps74
      go_wp2_with fail
      all_goals go_ret
      all_goals exact ⟨rfl, balloc (Below.refl _ _) (Nat.le_refl _) _⟩
    · have e : mayTB false h m s c = false := by unfold mayTB; simpa using hz
      rw [e]
      clear e
      go_enter Tryz.func74, Tryz.ntmps74
      go_wp2_with fail
      all_goals go_ret
      all_goals refine ⟨ret_bool ?_, balloc (Below.refl _ _) (Nat.le_refl _) _⟩
      all_goals first | rfl | simpa using hz | (simp; omega)
  have k0 := hid (fun v => cwithin_any h 0 23 v)
  have k1 := hid (fun v => cwithin_any m 0 59 v)
  have k2 := hid (fun v => cwithin_any s 0 59 v)
  have k3 := hid (fun v => cwithin_any c 0 99 v)
  cases e0 : wnB h 0 23
  · have e : mayTB true h m s c = false := by unfold mayTB; simp [e0]
    rw [e]
    clear e
    rw [e0] at k0
    clear e0
    go_enter Tryz.func74, Tryz.ntmps74
    go_wp2_with fail
    refine (k0.out _).mono ?_
    rintro e V ⟨rfl, rfl⟩
    go_wp2_with fail
    go_ret
    exact ⟨rfl, balloc (Below.refl _ _) (Nat.le_refl _) _⟩
  cases e1 : wnB m 0 59
  · have e : mayTB true h m s c = false := by unfold mayTB; simp [e0, e1]
    rw [e]
    clear e
    rw [e0] at k0
    rw [e1] at k1
    clear e0 e1
    go_enter Tryz.func74, Tryz.ntmps74
    go_wp2_with fail
    refine (k0.out _).mono ?_
    rintro e V ⟨rfl, rfl⟩
    go_wp2_with fail
    refine (k1.out _).mono ?_
    rintro e V ⟨rfl, rfl⟩
    go_wp2_with fail
    go_ret
    exact ⟨rfl, balloc (Below.refl _ _) (Nat.le_refl _) _⟩
  cases e2 : wnB s 0 59
  · have e : mayTB true h m s c = false := by unfold mayTB; simp [e0, e1, e2]
    rw [e]
    clear e
    rw [e0] at k0
    rw [e1] at k1
    rw [e2] at k2
    clear e0 e1 e2
    go_enter Tryz.func74, Tryz.ntmps74
    go_wp2_with fail
    refine (k0.out _).mono ?_
    rintro e V ⟨rfl, rfl⟩
    go_wp2_with fail
    refine (k1.out _).mono ?_
    rintro e V ⟨rfl, rfl⟩
    go_wp2_with fail
    refine (k2.out _).mono ?_
    rintro e V ⟨rfl, rfl⟩
    go_wp2_with fail
    go_ret
    exact ⟨rfl, balloc (Below.refl _ _) (Nat.le_refl _) _⟩
  cases e3 : wnB c 0 99
  · have e : mayTB true h m s c = false := by unfold mayTB; simp [e0, e1, e2, e3]
    rw [e]
    clear e
    rw [e0] at k0
    rw [e1] at k1
    rw [e2] at k2
    rw [e3] at k3
    clear e0 e1 e2 e3
    go_enter Tryz.func74, Tryz.ntmps74
    go_wp2_with fail
    refine (k0.out _).mono ?_
    rintro e V ⟨rfl, rfl⟩
    go_wp2_with fail
    refine (k1.out _).mono ?_
    rintro e V ⟨rfl, rfl⟩
    go_wp2_with fail
    refine (k2.out _).mono ?_
    rintro e V ⟨rfl, rfl⟩
    go_wp2_with fail
    refine (k3.out _).mono ?_
    rintro e V ⟨rfl, rfl⟩
    go_wp2_with fail
    go_ret
    exact ⟨rfl, balloc (Below.refl _ _) (Nat.le_refl _) _⟩
  have e : mayTB true h m s c = true := by unfold mayTB; simp [e0, e1, e2, e3]
  rw [e]
  clear e
  rw [e0] at k0
  rw [e1] at k1
  rw [e2] at k2
  rw [e3] at k3
  clear e0 e1 e2 e3
  go_enter Tryz.func74, Tryz.ntmps74
  go_wp2_with fail
  refine (k0.out _).mono ?_
  rintro e V ⟨rfl, rfl⟩
  go_wp2_with fail
  refine (k1.out _).mono ?_
  rintro e V ⟨rfl, rfl⟩
  go_wp2_with fail
  refine (k2.out _).mono ?_
  rintro e V ⟨rfl, rfl⟩
  go_wp2_with fail
  refine (k3.out _).mono ?_
  rintro e V ⟨rfl, rfl⟩
  go_wp2_with fail
  go_ret
  exact ⟨rfl, balloc (Below.refl _ _) (Nat.le_refl _) _⟩
set_option maxRecDepth 100000 in
set_option maxHeartbeats 4000000 in
theorem rmay_any (b : Bool) (h m s c : Int) (w : World) : Calls Tryz.prog 87 #[.agg #[.bool b, .int .i64 h, .int .i64 m, .int .i64 s, .int .i64 c]] w fun e w' => e = .returned (.bool (mayTB b h m s c)) ∧ Below w.heap.size w w' := by
  cases b
  · by_cases hz : h = 0 ∧ m = 0 ∧ s = 0 ∧ c = 0
    · obtain ⟨rfl, rfl, rfl, rfl⟩ := hz
      have e : mayTB false 0 0 0 0 = true := rfl
      rw [e]
      clear e
      go_enter Tryz.func87, Tryz.ntmps87
      go_wp2_with fail
      all_goals go_ret
      all_goals exact ⟨rfl, balloc (Below.refl _ _) (Nat.le_refl _) _⟩
    · have e : mayTB false h m s c = false := by unfold mayTB; simpa using hz
      rw [e]
      clear e
      go_enter Tryz.func87, Tryz.ntmps87
      go_wp2_with fail
      all_goals go_ret
      all_goals refine ⟨ret_bool ?_, balloc (Below.refl _ _) (Nat.le_refl _) _⟩
      all_goals first | rfl | simpa using hz | (simp; omega)
  by_cases c0 : 0 ≤ h
  case neg =>
    have e : mayTB true h m s c = false := by unfold mayTB wnB; simp; omega
    rw [e]
    clear e
    go_enter Tryz.func87, Tryz.ntmps87
    go_wp2_with fail
    all_goals go_ret
    all_goals exact ⟨rfl, balloc (Below.refl _ _) (Nat.le_refl _) _⟩
  by_cases c1 : h ≤ 23
  case neg =>
    have e : mayTB true h m s c = false := by unfold mayTB wnB; simp; omega
    rw [e]
    clear e
    go_enter Tryz.func87, Tryz.ntmps87
    go_wp2_with fail
    all_goals go_ret
    all_goals exact ⟨rfl, balloc (Below.refl _ _) (Nat.le_refl _) _⟩
  by_cases c2 : 0 ≤ m
  case neg =>
    have e : mayTB true h m s c = false := by unfold mayTB wnB; simp; omega
    rw [e]
    clear e
    go_enter Tryz.func87, Tryz.ntmps87
    go_wp2_with fail
    all_goals go_ret
    all_goals exact ⟨rfl, balloc (Below.refl _ _) (Nat.le_refl _) _⟩
  by_cases c3 : m ≤ 59
  case neg =>
    have e : mayTB true h m s c = false := by unfold mayTB wnB; simp; omega
    rw [e]
    clear e
    go_enter Tryz.func87, Tryz.ntmps87
    go_wp2_with fail
    all_goals go_ret
    all_goals exact ⟨rfl, balloc (Below.refl _ _) (Nat.le_refl _) _⟩
  by_cases c4 : 0 ≤ s
  case neg =>
    have e : mayTB true h m s c = false := by unfold mayTB wnB; simp; omega
    rw [e]
    clear e
    go_enter Tryz.func87, Tryz.ntmps87
    go_wp2_with fail
    all_goals go_ret
    all_goals exact ⟨rfl, balloc (Below.refl _ _) (Nat.le_refl _) _⟩
  by_cases c5 : s ≤ 59
  case neg =>
    have e : mayTB true h m s c = false := by unfold mayTB wnB; simp; omega
    rw [e]
    clear e
    go_enter Tryz.func87, Tryz.ntmps87
    go_wp2_with fail
    all_goals go_ret
    all_goals exact ⟨rfl, balloc (Below.refl _ _) (Nat.le_refl _) _⟩
  by_cases c6 : 0 ≤ c
  case neg =>
    have e : mayTB true h m s c = false := by unfold mayTB wnB; simp; omega
    rw [e]
    clear e
    go_enter Tryz.func87, Tryz.ntmps87
    go_wp2_with fail
    all_goals go_ret
    all_goals exact ⟨rfl, balloc (Below.refl _ _) (Nat.le_refl _) _⟩
  by_cases c7 : c ≤ 99
  case neg =>
    have e : mayTB true h m s c = false := by unfold mayTB wnB; simp; omega
    rw [e]
    clear e
    go_enter Tryz.func87, Tryz.ntmps87
    go_wp2_with fail
    all_goals go_ret
    all_goals exact ⟨rfl, balloc (Below.refl _ _) (Nat.le_refl _) _⟩
  have e : mayTB true h m s c = true := by unfold mayTB wnB; simp; omega
  rw [e]
  clear e
  go_enter Tryz.func87, Tryz.ntmps87
  go_wp2_with fail
  all_goals go_ret
  all_goals exact ⟨rfl, balloc (Below.refl _ _) (Nat.le_refl _) _⟩
set_option maxRecDepth 100000 in
set_option maxHeartbeats 4000000 in
theorem maydate_any (b : Bool) (d m y : Int) (w : World) : Calls Tryz.prog 78 #[.agg #[.bool b, .int .i64 d, .int .i64 m, .int .i64 y]] w fun e w' => e = .returned (.bool (mayDB b d m y)) ∧ Below w.heap.size w w' := by
  cases b
  · by_cases hz : d = 0 ∧ m = 0 ∧ y = 0
    · obtain ⟨rfl, rfl, rfl⟩ := hz
      have e : mayDB false 0 0 0 = true := rfl
      rw [e]
      clear e
      go_enter Tryz.func78, Tryz.ntmps78
      go_wp2_with fail
      all_goals go_ret
      all_goals exact ⟨rfl, balloc (Below.refl _ _) (Nat.le_refl _) _⟩
    · have e : mayDB false d m y = false := by unfold mayDB; simpa using hz
      rw [e]
      clear e
      go_enter Tryz.func78, Tryz.ntmps78
      go_wp2_with fail
      all_goals go_ret
      all_goals refine ⟨ret_bool ?_, balloc (Below.refl _ _) (Nat.le_refl _) _⟩
      all_goals first | rfl | simpa using hz | (simp; omega)
  have e : mayDB true d m y = wnB d 1 (daysS m y) := rfl
  rw [e]
  clear e
  have kd := hid (fun v => days_any m y v)
  have kw := hid (fun v => cwithin_any d 1 (daysS m y) v)
  generalize daysS m y = D at *
  generalize wnB d 1 D = B at *
  go_enter Tryz.func78, Tryz.ntmps78
  go_upto_region 0 with (fail)
  apply wp_region_seg0 (w := w) (S := [.al 1000, .q []]) (E := [.al ((fun p => .pointer (some ⟨p, 0, none⟩)), _) 1000, .q0 _]) rfl (by kernel_rfl) rfl rfl
  intro th hge hne
  refine Seg.step _ rfl ⟨by rfl, fun U hU => ?_⟩ ?_
  · go_simp; exact vp_alloc rfl rfl rfl
  refine Seg.sa ?_
  refine Seg.sq ?_
  refine Seg.stop (fun U1 hU hk => ?_)
  have nb0 := hge 0 _ _ rfl
  have rb0 := (hk 0 _ _ rfl trivial).1.2 (by simp)
  clear hk hge hne
  generalize th (0 + 0) = p0_0 at *
  dsimp only at rb0
  have r_p0_0 := rb0
  clear rb0
  have n_p0_0 := nb0
  clear nb0
  have sz1 := hU.size
  have hB : Below w.heap.size w U1 := hU
  clear hU
  go_upto_region 1 with (fail)
  apply wp_region_seg0 (w := U1) (S := [.q [], .q [], .q []]) (E := [.q0 _, .q0 _, .q0 _]) rfl (by kernel_rfl) rfl rfl
  intro th hge hne
  refine Seg.sq ?_
  refine Seg.sq ?_ (ht := Or.inl ⟨by rfl, fun U hU => vp_quiet (by (have h0 := held_cell (held_after hU.1 r_p0_0) 0 _ rfl; go_simp <;> exact rfl))⟩)
  refine Seg.sq ?_
  refine Seg.stop (fun U2 hU hk => ?_)
  clear hk hge hne
  replace r_p0_0 := held_after hU r_p0_0
  have sz2 := hU.size
  replace hB := bthen hB hU
  clear hU
  go_upto_region 3 with (fail)
  apply wp_region_seg (w := U2) (S := [.q [], .q [], .q [], .q [], .q [], .q [], .q [], .q [], .q []]) (E := [.q0 _, .q0 _, .q0 _, .q0 _, .q0 _, .q0 _, .c0 _, .c0 _, .q0 _]) (by kernel_rfl) rfl (by kernel_rfl) rfl rfl
  intro th hge hne
  refine Seg.sq ?_
  refine Seg.sq ?_ (ht := Or.inl ⟨by rfl, fun U hU => vp_quiet (by (have h0 := held_cell (held_after hU.1 r_p0_0) 1 _ rfl; go_simp <;> exact rfl))⟩)
  refine Seg.sq ?_
  refine Seg.sq ?_ (ht := Or.inl ⟨by rfl, fun U hU => vp_quiet (by (have h0 := held_cell (held_after hU.1 r_p0_0) 2 _ rfl; go_simp <;> exact rfl))⟩)
  refine Seg.sq ?_
  refine Seg.sq ?_ (ht := Or.inl ⟨by rfl, fun U hU => vp_quiet (by (have h0 := held_cell (held_after hU.1 r_p0_0) 3 _ rfl; go_simp <;> exact rfl))⟩)
  refine Seg.step _ rfl (Or.inl ⟨by rfl, fun U hU => ?_⟩) ?_
  · go_simp
    refine vp_call (kd.out _)
  refine Seg.sa ?_
  refine Seg.step _ rfl (Or.inl ⟨by rfl, fun U hU => ?_⟩) ?_
  · go_simp
    refine vp_calls (kw.out _)
  refine Seg.sa ?_
  refine Seg.sq ?_
  refine Seg.stop (fun U3 hU hk => ?_)
  clear hk hge hne
  replace r_p0_0 := held_after hU r_p0_0
  have sz3 := hU.size
  replace hB := bthen hB hU
  clear hU
  go_wp2_with fail
  go_ret
  exact ⟨rfl, hB⟩
set_option maxRecDepth 100000 in
set_option maxHeartbeats 4000000 in
theorem rmaydate_any (b : Bool) (d m y : Int) (w : World) : Calls Tryz.prog 84 #[.agg #[.bool b, .int .i64 d, .int .i64 m, .int .i64 y]] w fun e w' => e = .returned (.bool (mayDB b d m y)) ∧ Below w.heap.size w w' := by
  cases b
  · by_cases hz : d = 0 ∧ m = 0 ∧ y = 0
    · obtain ⟨rfl, rfl, rfl⟩ := hz
      have e : mayDB false 0 0 0 = true := rfl
      rw [e]
      clear e
      go_enter Tryz.func84, Tryz.ntmps84
      go_wp2_with fail
      all_goals go_ret
      all_goals exact ⟨rfl, balloc (Below.refl _ _) (Nat.le_refl _) _⟩
    · have e : mayDB false d m y = false := by unfold mayDB; simpa using hz
      rw [e]
      clear e
      go_enter Tryz.func84, Tryz.ntmps84
      go_wp2_with fail
      all_goals go_ret
      all_goals refine ⟨ret_bool ?_, balloc (Below.refl _ _) (Nat.le_refl _) _⟩
      all_goals first | rfl | simpa using hz | (simp; omega)
  have e : mayDB true d m y = wnB d 1 (daysS m y) := rfl
  rw [e]
  clear e
  have kd := hid (fun v => rdays_any m y v)
  have hw := wnB_iff (n := d) (lo := 1) (hi := daysS m y)
  generalize daysS m y = D at *
  by_cases c1 : 1 ≤ d
  · by_cases c2 : d ≤ D
    · have e : wnB d 1 D = true := by unfold wnB; simp [c1, c2]
      rw [e]
      clear e hw
      go_enter Tryz.func84, Tryz.ntmps84
      go_upto_region 0 with (fail)
      apply wp_region_seg0 (w := w) (S := [.al 1000, .q []]) (E := [.al ((fun p => .pointer (some ⟨p, 0, none⟩)), _) 1000, .q0 _]) rfl (by kernel_rfl) rfl rfl
      intro th hge hne
      refine Seg.step _ rfl ⟨by rfl, fun U hU => ?_⟩ ?_
      · go_simp; exact vp_alloc rfl rfl rfl
      refine Seg.sa ?_
      refine Seg.sq ?_
      refine Seg.stop (fun U1 hU hk => ?_)
      have nb0 := hge 0 _ _ rfl
      have rb0 := (hk 0 _ _ rfl trivial).1.2 (by simp)
      clear hk hge hne
      generalize th (0 + 0) = p0_0 at *
      dsimp only at rb0
      have r_p0_0 := rb0
      clear rb0
      have n_p0_0 := nb0
      clear nb0
      have sz1 := hU.size
      have hB : Below w.heap.size w U1 := hU
      clear hU
      go_upto_region 1 with (fail)
      apply wp_region_seg0 (w := U1) (S := [.q [], .q [], .q []]) (E := [.q0 _, .q0 _, .q0 _]) rfl (by kernel_rfl) rfl rfl
      intro th hge hne
      refine Seg.sq ?_
      refine Seg.sq ?_ (ht := Or.inl ⟨by rfl, fun U hU => vp_quiet (by (have h0 := held_cell (held_after hU.1 r_p0_0) 0 _ rfl; go_simp <;> exact rfl))⟩)
      refine Seg.sq ?_
      refine Seg.stop (fun U2 hU hk => ?_)
      clear hk hge hne
      replace r_p0_0 := held_after hU r_p0_0
      have sz2 := hU.size
      replace hB := bthen hB hU
      clear hU
      go_upto_region 3 with (fail)
      apply wp_region_seg (w := U2) (S := [.q [], .q [], .q [], .q [], .q [], .q [], .q [], .q [], .q [], .q [], .q [], .q [], .q [], .q []]) (E := [.q0 _, .q0 _, .q0 _, .q0 _, .q0 _, .q0 _, .q0 _, .q0 _, .q0 _, .q0 _, .c0 _, .q0 _, .q0 _, .q0 _]) (by kernel_rfl) rfl (by kernel_rfl) rfl rfl
      intro th hge hne
      refine Seg.sq ?_
      refine Seg.sq ?_ (ht := Or.inl ⟨by rfl, fun U hU => vp_quiet (by (have h0 := held_cell (held_after hU.1 r_p0_0) 1 _ rfl; go_simp <;> exact rfl))⟩)
      iterate 3 refine Seg.sq ?_
      refine Seg.sq ?_ (ht := Or.inl ⟨by rfl, fun U hU => vp_quiet (by (have h0 := held_cell (held_after hU.1 r_p0_0) 1 _ rfl; go_simp <;> exact rfl))⟩)
      refine Seg.sq ?_
      refine Seg.sq ?_ (ht := Or.inl ⟨by rfl, fun U hU => vp_quiet (by (have h0 := held_cell (held_after hU.1 r_p0_0) 2 _ rfl; go_simp <;> exact rfl))⟩)
      refine Seg.sq ?_
      refine Seg.sq ?_ (ht := Or.inl ⟨by rfl, fun U hU => vp_quiet (by (have h0 := held_cell (held_after hU.1 r_p0_0) 3 _ rfl; go_simp <;> exact rfl))⟩)
      refine Seg.step _ rfl (Or.inl ⟨by rfl, fun U hU => ?_⟩) ?_
      · go_simp
        refine vp_calls (kd.out _)
      refine Seg.sa ?_
      iterate 3 refine Seg.sq ?_
      refine Seg.stop (fun U3 hU hk => ?_)
      clear hk hge hne
      replace r_p0_0 := held_after hU r_p0_0
      have sz3 := hU.size
      replace hB := bthen hB hU
      clear hU
      go_wp2_with fail
      go_ret
      exact ⟨rfl, hB⟩
    · have e : wnB d 1 D = false := by unfold wnB; simp [c1, c2]
      rw [e]
      clear e hw
      go_enter Tryz.func84, Tryz.ntmps84
      go_upto_region 0 with (fail)
      apply wp_region_seg0 (w := w) (S := [.al 1000, .q []]) (E := [.al ((fun p => .pointer (some ⟨p, 0, none⟩)), _) 1000, .q0 _]) rfl (by kernel_rfl) rfl rfl
      intro th hge hne
      refine Seg.step _ rfl ⟨by rfl, fun U hU => ?_⟩ ?_
      · go_simp; exact vp_alloc rfl rfl rfl
      refine Seg.sa ?_
      refine Seg.sq ?_
      refine Seg.stop (fun U1 hU hk => ?_)
      have nb0 := hge 0 _ _ rfl
      have rb0 := (hk 0 _ _ rfl trivial).1.2 (by simp)
      clear hk hge hne
      generalize th (0 + 0) = p0_0 at *
      dsimp only at rb0
      have r_p0_0 := rb0
      clear rb0
      have n_p0_0 := nb0
      clear nb0
      have sz1 := hU.size
      have hB : Below w.heap.size w U1 := hU
      clear hU
      go_upto_region 1 with (fail)
      apply wp_region_seg0 (w := U1) (S := [.q [], .q [], .q []]) (E := [.q0 _, .q0 _, .q0 _]) rfl (by kernel_rfl) rfl rfl
      intro th hge hne
      refine Seg.sq ?_
      refine Seg.sq ?_ (ht := Or.inl ⟨by rfl, fun U hU => vp_quiet (by (have h0 := held_cell (held_after hU.1 r_p0_0) 0 _ rfl; go_simp <;> exact rfl))⟩)
      refine Seg.sq ?_
      refine Seg.stop (fun U2 hU hk => ?_)
      clear hk hge hne
      replace r_p0_0 := held_after hU r_p0_0
      have sz2 := hU.size
      replace hB := bthen hB hU
      clear hU
      go_upto_region 3 with (fail)
      apply wp_region_seg (w := U2) (S := [.q [], .q [], .q [], .q [], .q [], .q [], .q [], .q [], .q [], .q [], .q [], .q [], .q [], .q []]) (E := [.q0 _, .q0 _, .q0 _, .q0 _, .q0 _, .q0 _, .q0 _, .q0 _, .q0 _, .q0 _, .c0 _, .q0 _, .q0 _, .q0 _]) (by kernel_rfl) rfl (by kernel_rfl) rfl rfl
      intro th hge hne
      refine Seg.sq ?_
      refine Seg.sq ?_ (ht := Or.inl ⟨by rfl, fun U hU => vp_quiet (by (have h0 := held_cell (held_after hU.1 r_p0_0) 1 _ rfl; go_simp <;> exact rfl))⟩)
      iterate 3 refine Seg.sq ?_
      refine Seg.sq ?_ (ht := Or.inl ⟨by rfl, fun U hU => vp_quiet (by (have h0 := held_cell (held_after hU.1 r_p0_0) 1 _ rfl; go_simp <;> exact rfl))⟩)
      refine Seg.sq ?_
      refine Seg.sq ?_ (ht := Or.inl ⟨by rfl, fun U hU => vp_quiet (by (have h0 := held_cell (held_after hU.1 r_p0_0) 2 _ rfl; go_simp <;> exact rfl))⟩)
      refine Seg.sq ?_
      refine Seg.sq ?_ (ht := Or.inl ⟨by rfl, fun U hU => vp_quiet (by (have h0 := held_cell (held_after hU.1 r_p0_0) 3 _ rfl; go_simp <;> exact rfl))⟩)
      refine Seg.step _ rfl (Or.inl ⟨by rfl, fun U hU => ?_⟩) ?_
      · go_simp
        refine vp_calls (kd.out _)
      refine Seg.sa ?_
      iterate 3 refine Seg.sq ?_
      refine Seg.stop (fun U3 hU hk => ?_)
      clear hk hge hne
      replace r_p0_0 := held_after hU r_p0_0
      have sz3 := hU.size
      replace hB := bthen hB hU
      clear hU
      go_wp2_with fail
      go_ret
      exact ⟨rfl, hB⟩
  · have e : wnB d 1 D = false := by unfold wnB; simp [c1]
    rw [e]
    clear e hw
    go_enter Tryz.func84, Tryz.ntmps84
    go_upto_region 0 with (fail)
    apply wp_region_seg0 (w := w) (S := [.al 1000, .q []]) (E := [.al ((fun p => .pointer (some ⟨p, 0, none⟩)), _) 1000, .q0 _]) rfl (by kernel_rfl) rfl rfl
    intro th hge hne
    refine Seg.step _ rfl ⟨by rfl, fun U hU => ?_⟩ ?_
    · go_simp; exact vp_alloc rfl rfl rfl
    refine Seg.sa ?_
    refine Seg.sq ?_
    refine Seg.stop (fun U1 hU hk => ?_)
    have nb0 := hge 0 _ _ rfl
    have rb0 := (hk 0 _ _ rfl trivial).1.2 (by simp)
    clear hk hge hne
    generalize th (0 + 0) = p0_0 at *
    dsimp only at rb0
    have r_p0_0 := rb0
    clear rb0
    have n_p0_0 := nb0
    clear nb0
    have sz1 := hU.size
    have hB : Below w.heap.size w U1 := hU
    clear hU
    go_upto_region 1 with (fail)
    apply wp_region_seg0 (w := U1) (S := [.q [], .q [], .q []]) (E := [.q0 _, .q0 _, .q0 _]) rfl (by kernel_rfl) rfl rfl
    intro th hge hne
    refine Seg.sq ?_
    refine Seg.sq ?_ (ht := Or.inl ⟨by rfl, fun U hU => vp_quiet (by (have h0 := held_cell (held_after hU.1 r_p0_0) 0 _ rfl; go_simp <;> exact rfl))⟩)
    refine Seg.sq ?_
    refine Seg.stop (fun U2 hU hk => ?_)
    clear hk hge hne
    replace r_p0_0 := held_after hU r_p0_0
    have sz2 := hU.size
    replace hB := bthen hB hU
    clear hU
    go_upto_region 3 with (fail)
    apply wp_region_seg (w := U2) (S := [.q [], .q [], .q [], .q [], .q [], .q [], .q [], .q [], .q [], .q [], .q [], .q [], .q [], .q []]) (E := [.q0 _, .q0 _, .q0 _, .q0 _, .q0 _, .q0 _, .q0 _, .q0 _, .q0 _, .q0 _, .c0 _, .q0 _, .q0 _, .q0 _]) (by kernel_rfl) rfl (by kernel_rfl) rfl rfl
    intro th hge hne
    refine Seg.sq ?_
    refine Seg.sq ?_ (ht := Or.inl ⟨by rfl, fun U hU => vp_quiet (by (have h0 := held_cell (held_after hU.1 r_p0_0) 1 _ rfl; go_simp <;> exact rfl))⟩)
    refine Seg.sq ?_
    refine Seg.sq ?_
    refine Seg.sq ?_ (ht := Or.inr ⟨by rfl, rfl⟩)
    refine Seg.sq ?_ (ht := Or.inr ⟨by rfl, rfl⟩)
    refine Seg.sq ?_ (ht := Or.inr ⟨by rfl, rfl⟩)
    refine Seg.sq ?_ (ht := Or.inr ⟨by rfl, rfl⟩)
    refine Seg.sq ?_ (ht := Or.inr ⟨by rfl, rfl⟩)
    refine Seg.sq ?_ (ht := Or.inr ⟨by rfl, rfl⟩)
    refine Seg.sq ?_ (ht := Or.inr ⟨by rfl, rfl⟩)
    refine Seg.sq ?_ (ht := Or.inr ⟨by rfl, rfl⟩)
    refine Seg.sq ?_
    refine Seg.sq ?_
    refine Seg.stop (fun U3 hU hk => ?_)
    clear hk hge hne
    replace r_p0_0 := held_after hU r_p0_0
    have sz3 := hU.size
    replace hB := bthen hB hU
    clear hU
    go_wp2_with fail
    go_ret
    exact ⟨rfl, hB⟩

end Go.Proofs.YthnoomdhgbaecaaGreatDoor
