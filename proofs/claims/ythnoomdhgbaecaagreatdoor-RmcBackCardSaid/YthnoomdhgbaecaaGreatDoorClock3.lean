/- Package clock: Count. -/
import Derived.Test.YthnoomdhgbaecaaGreatDoorClock2
import Derived.Deep.DeepCutAuto
namespace Go.Proofs.YthnoomdhgbaecaaGreatDoor

open Go.ChangeShapes Go.WideShapes Go.ChangeAt Go.RowKit

set_option linter.unusedVariables false

theorem held_on {w w' : World} {p : Nat} {o : Obj} (h : w.heap[p]? = some o) (hb : Below w.heap.size w w') : w'.heap[p]? = some o := by
  rw [hb.block p (held_lt h)]; exact h
theorem ret_n {a b : Int} {c : Bool} (h : a = b) : Ending.returned (.tuple #[.int .i64 a, .bool c]) = .returned (.tuple #[.int .i64 b, .bool c]) := by rw [h]
def mcL (m : Int) : Int := if m ≤ 1 then 0 else if m = 2 then 31 else if m = 3 then 59 else if m = 4 then 90 else if m = 5 then 120 else if m = 6 then 151 else if m = 7 then 181 else if m = 8 then 212 else if m = 9 then 243 else if m = 10 then 273 else if m = 11 then 304 else if m = 12 then 334 else 365
def lpM (y m : Int) : Int := if 3 ≤ m ∧ y % 4 = 0 then 1 else 0
def cumM (y m : Int) : Int := 365 * (y - 2000) + (y - 1997) / 4 + mcL m + lpM y m
theorem m12 {m : Int} (h1 : 1 ≤ m) (h2 : m ≤ 12) : m = 1 ∨ m = 2 ∨ m = 3 ∨ m = 4 ∨ m = 5 ∨ m = 6 ∨ m = 7 ∨ m = 8 ∨ m = 9 ∨ m = 10 ∨ m = 11 ∨ m = 12 := by omega
theorem daysS_in {m y : Int} (h1 : 1 ≤ m) (h2 : m ≤ 12) (h3 : 2000 ≤ y) (h4 : y ≤ 2099) : daysS m y = if m = 2 then (if y % 4 = 0 then 29 else 28) else if m = 4 ∨ m = 6 ∨ m = 9 ∨ m = 11 then 30 else 31 := by
  unfold daysS; rw [if_pos ⟨wnB_iff.2 ⟨h1, h2⟩, wnB_iff.2 ⟨h3, h4⟩⟩]
theorem daysS_pos {m y : Int} (h : 1 ≤ daysS m y) : 1 ≤ m ∧ m ≤ 12 ∧ 2000 ≤ y ∧ y ≤ 2099 := by
  by_cases c : wnB m 1 12 = true ∧ wnB y 2000 2099 = true
  · have h1 := wnB_iff.1 c.1
    have h2 := wnB_iff.1 c.2
    exact ⟨h1.1, h1.2, h2.1, h2.2⟩
  · unfold daysS at h; rw [if_neg c] at h; omega
theorem cum_step {y m : Int} (h1 : 1 ≤ m) (h2 : m ≤ 12) (h3 : 2000 ≤ y) (h4 : y ≤ 2099) : cumM y (m + 1) = cumM y m + daysS m y := by
  rw [daysS_in h1 h2 h3 h4]
  unfold cumM lpM
  by_cases c : y % 4 = 0
  · obtain rfl | rfl | rfl | rfl | rfl | rfl | rfl | rfl | rfl | rfl | rfl | rfl := m12 h1 h2 <;> simp [mcL, c] <;> omega
  · obtain rfl | rfl | rfl | rfl | rfl | rfl | rfl | rfl | rfl | rfl | rfl | rfl := m12 h1 h2 <;> simp [mcL, c] <;> omega
theorem cum_one (y : Int) : cumM y 1 = 365 * (y - 2000) + (y - 1997) / 4 := by unfold cumM lpM; simp [mcL]
theorem cum_year (y : Int) : cumM y 13 = cumM (y + 1) 1 := by
  rw [cum_one]; unfold cumM lpM
  by_cases c : y % 4 = 0 <;> simp [mcL, c] <;> omega
theorem days_pos {m y : Int} (h1 : 1 ≤ m) (h2 : m ≤ 12) (h3 : 2000 ≤ y) (h4 : y ≤ 2099) : 28 ≤ daysS m y := by
  rw [daysS_in h1 h2 h3 h4]; split <;> (try split) <;> omega
theorem cum_up {y : Int} (h3 : 2000 ≤ y) (h4 : y ≤ 2099) (m : Int) (h1 : 1 ≤ m) : ∀ k : Nat, m + k ≤ 13 → cumM y m ≤ cumM y (m + k)
  | 0, _ => by rw [Int.natCast_zero, Int.add_zero]; exact Int.le_refl _
  | k + 1, h => by
    have h5 := cum_up h3 h4 m h1 k (by omega)
    have h6 := cum_step (y := y) (m := m + k) (by omega) (by omega) h3 h4
    have h7 := days_pos (y := y) (m := m + k) (by omega) (by omega) h3 h4
    have e : m + ((k + 1 : Nat) : Int) = m + k + 1 := by omega
    rw [e, h6]; omega
theorem cum_le {y m m' : Int} (h3 : 2000 ≤ y) (h4 : y ≤ 2099) (h1 : 1 ≤ m) (h : m ≤ m') (h2 : m' ≤ 13) : cumM y m ≤ cumM y m' := by
  have h5 := cum_up h3 h4 m h1 (m' - m).toNat (by omega)
  rw [show m + ((m' - m).toNat : Int) = m' from by omega] at h5
  exact h5
def cntB (bd : Bool) (d m y : Int) (bc : Bool) (h i s c : Int) : Bool := bd && (bc && (mayDB bd d m y && mayTB bc h i s c))
def cntS (d m y h i s c : Int) : Int := (d - 1 + cumM y m) * 8640000 + (360000 * h + 6000 * i + 100 * s) + c
def cntV (bd : Bool) (d m y : Int) (bc : Bool) (h i s c : Int) : Value := if cntB bd d m y bc h i s c = true then .tuple #[.int .i64 (cntS d m y h i s c), .bool true] else .tuple #[.int .i64 0, .bool false]
theorem cnt_in {d m y h i s c : Int} (hd : mayDB true d m y = true) (ht : mayTB true h i s c = true) : 1 ≤ m ∧ m ≤ 12 ∧ 2000 ≤ y ∧ y ≤ 2099 ∧ 1 ≤ d ∧ d ≤ daysS m y ∧ 0 ≤ h ∧ h ≤ 23 ∧ 0 ≤ i ∧ i ≤ 59 ∧ 0 ≤ s ∧ s ≤ 59 ∧ 0 ≤ c ∧ c ≤ 99 := by
  have h1 : wnB d 1 (daysS m y) = true := hd
  have h2 := wnB_iff.1 h1
  have h3 := daysS_pos (m := m) (y := y) (by omega)
  unfold mayTB wnB at ht
  simp at ht
  omega
set_option maxRecDepth 100000 in
set_option maxHeartbeats 8000000 in
theorem ccount_any (bd : Bool) (d m y : Int) (bc : Bool) (h i s c : Int) (w : World) : Calls Tryz.prog 43 #[.agg #[.bool bd, .int .i64 d, .int .i64 m, .int .i64 y], .agg #[.bool bc, .int .i64 h, .int .i64 i, .int .i64 s, .int .i64 c]] w fun e w' => e = .returned (cntV bd d m y bc h i s c) ∧ Below w.heap.size w w' := by
  have kd := hid (fun v => maydate_any bd d m y v)
  have kt := hid (fun v => maytime_any bc h i s c v)
  cases bd
  · have e : cntV false d m y bc h i s c = .tuple #[.int .i64 0, .bool false] := by unfold cntV; rw [if_neg]; unfold cntB; simp
    rw [e]
    clear e
    go_enter Tryz.func43, Tryz.ntmps43
    go_upto_region 0 with (fail)
    apply wp_region_seg0 (w := w) (S := [.al 1000, .al 1000, .q [], .q []]) (E := [.al ((fun p => .pointer (some ⟨p, 0, none⟩)), _) 1000, .al ((fun p => .pointer (some ⟨p, 0, none⟩)), _) 1000, .q0 _, .q0 _]) rfl (by kernel_rfl) rfl rfl
    intro th hge hne
    refine Seg.step _ rfl ⟨by rfl, fun U hU => ?_⟩ ?_
    · go_simp; exact vp_alloc rfl rfl rfl
    refine Seg.sa ?_
    refine Seg.step _ rfl ⟨by rfl, fun U hU => ?_⟩ ?_
    · go_simp; exact vp_alloc rfl rfl rfl
    refine Seg.sa ?_
    refine Seg.sq ?_
    refine Seg.sq ?_
    refine Seg.stop (fun U1 hU hk => ?_)
    have nb0 := hge 0 _ _ rfl
    have rb0 := (hk 0 _ _ rfl trivial).1.2 (by simp)
    have nb1 := hge 1 _ _ rfl
    have rb1 := (hk 1 _ _ rfl trivial).1.2 (by simp)
    have ne0_1 := hne 0 1 _ _ _ _ rfl rfl (by omega)
    clear hk hge hne
    generalize th (0 + 0) = p0_0 at *
    dsimp only at rb0
    generalize th (0 + 1) = p0_1 at *
    dsimp only at rb1
    have r_p0_0 := rb0
    clear rb0
    have n_p0_0 := nb0
    clear nb0
    have d_p0_0_p0_1 := ne0_1
    clear ne0_1
    have r_p0_1 := rb1
    clear rb1
    have n_p0_1 := nb1
    clear nb1
    have sz1 := hU.size
    have hB : Below w.heap.size w U1 := hU
    clear hU
    go_upto_region 1 with (fail)
    apply wp_region_seg0 (w := U1) (S := [.q [], .q [], .q [], .q [], .q [], .q [], .q [], .q [], .q [], .q [], .q [], .q [], .q [], .q [], .q [], .q [], .q [], .q []]) (E := [.q0 _, .q0 _, .q0 _, .q0 _, .q0 _, .q0 _, .q0 _, .q0 _, .q0 _, .q0 _, .c0 _, .q0 _, .q0 _, .q0 _, .q0 _, .c0 _, .q0 _, .q0 _]) rfl (by kernel_rfl) rfl rfl
    intro th hge hne
    refine Seg.sq ?_
    refine Seg.sq ?_ (ht := Or.inl ⟨by rfl, fun U hU => vp_quiet (by (have h0 := held_cell (held_after hU.1 r_p0_0) 0 _ rfl; go_simp <;> exact rfl))⟩)
    refine Seg.sq ?_
    refine Seg.sq ?_
    refine Seg.sq ?_ (ht := Or.inr ⟨by rfl, rfl⟩)
    refine Seg.sq ?_ (ht := Or.inr ⟨by rfl, rfl⟩)
    refine Seg.sq ?_ (ht := Or.inr ⟨by rfl, rfl⟩)
    refine Seg.sq ?_
    refine Seg.sq ?_
    refine Seg.sq ?_ (ht := Or.inr ⟨by rfl, rfl⟩)
    refine Seg.sq ?_ (ht := Or.inr ⟨by rfl, rfl⟩)
    refine Seg.sq ?_ (ht := Or.inr ⟨by rfl, rfl⟩)
    refine Seg.sq ?_
    refine Seg.sq ?_
    refine Seg.sq ?_ (ht := Or.inr ⟨by rfl, rfl⟩)
    refine Seg.sq ?_ (ht := Or.inr ⟨by rfl, rfl⟩)
    refine Seg.sq ?_ (ht := Or.inr ⟨by rfl, rfl⟩)
    refine Seg.sq ?_
    refine Seg.stop (fun U2 hU hk => ?_)
    clear hk hge hne
    replace r_p0_0 := held_after hU r_p0_0
    replace r_p0_1 := held_after hU r_p0_1
    have sz2 := hU.size
    replace hB := bthen hB hU
    clear hU
    go_wp2_with fail
    go_ret2
    exact ⟨rfl, hB⟩
  cases bc
  · have e : cntV true d m y false h i s c = .tuple #[.int .i64 0, .bool false] := by unfold cntV; rw [if_neg]; unfold cntB; simp
    rw [e]
    clear e
    go_enter Tryz.func43, Tryz.ntmps43
    go_upto_region 0 with (fail)
    apply wp_region_seg0 (w := w) (S := [.al 1000, .al 1000, .q [], .q []]) (E := [.al ((fun p => .pointer (some ⟨p, 0, none⟩)), _) 1000, .al ((fun p => .pointer (some ⟨p, 0, none⟩)), _) 1000, .q0 _, .q0 _]) rfl (by kernel_rfl) rfl rfl
    intro th hge hne
    refine Seg.step _ rfl ⟨by rfl, fun U hU => ?_⟩ ?_
    · go_simp; exact vp_alloc rfl rfl rfl
    refine Seg.sa ?_
    refine Seg.step _ rfl ⟨by rfl, fun U hU => ?_⟩ ?_
    · go_simp; exact vp_alloc rfl rfl rfl
    refine Seg.sa ?_
    refine Seg.sq ?_
    refine Seg.sq ?_
    refine Seg.stop (fun U1 hU hk => ?_)
    have nb0 := hge 0 _ _ rfl
    have rb0 := (hk 0 _ _ rfl trivial).1.2 (by simp)
    have nb1 := hge 1 _ _ rfl
    have rb1 := (hk 1 _ _ rfl trivial).1.2 (by simp)
    have ne0_1 := hne 0 1 _ _ _ _ rfl rfl (by omega)
    clear hk hge hne
    generalize th (0 + 0) = p0_0 at *
    dsimp only at rb0
    generalize th (0 + 1) = p0_1 at *
    dsimp only at rb1
    have r_p0_0 := rb0
    clear rb0
    have n_p0_0 := nb0
    clear nb0
    have d_p0_0_p0_1 := ne0_1
    clear ne0_1
    have r_p0_1 := rb1
    clear rb1
    have n_p0_1 := nb1
    clear nb1
    have sz1 := hU.size
    have hB : Below w.heap.size w U1 := hU
    clear hU
    go_upto_region 1 with (fail)
    apply wp_region_seg0 (w := U1) (S := [.q [], .q [], .q [], .q [], .q [], .q [], .q [], .q [], .q [], .q [], .q [], .q [], .q [], .q [], .q [], .q [], .q [], .q []]) (E := [.q0 _, .q0 _, .q0 _, .q0 _, .q0 _, .q0 _, .q0 _, .q0 _, .q0 _, .q0 _, .c0 _, .q0 _, .q0 _, .q0 _, .q0 _, .c0 _, .q0 _, .q0 _]) rfl (by kernel_rfl) rfl rfl
    intro th hge hne
    refine Seg.sq ?_
    refine Seg.sq ?_ (ht := Or.inl ⟨by rfl, fun U hU => vp_quiet (by (have h0 := held_cell (held_after hU.1 r_p0_0) 0 _ rfl; go_simp <;> exact rfl))⟩)
    iterate 3 refine Seg.sq ?_
    refine Seg.sq ?_ (ht := Or.inl ⟨by rfl, fun U hU => vp_quiet (by (have h0 := held_cell (held_after hU.1 r_p0_1) 0 _ rfl; go_simp <;> exact rfl))⟩)
    iterate 3 refine Seg.sq ?_
    refine Seg.sq ?_ (ht := Or.inr ⟨by rfl, rfl⟩)
    refine Seg.sq ?_ (ht := Or.inr ⟨by rfl, rfl⟩)
    refine Seg.sq ?_ (ht := Or.inr ⟨by rfl, rfl⟩)
    refine Seg.sq ?_
    refine Seg.sq ?_
    refine Seg.sq ?_ (ht := Or.inr ⟨by rfl, rfl⟩)
    refine Seg.sq ?_ (ht := Or.inr ⟨by rfl, rfl⟩)
    refine Seg.sq ?_ (ht := Or.inr ⟨by rfl, rfl⟩)
    refine Seg.sq ?_
    refine Seg.stop (fun U2 hU hk => ?_)
    clear hk hge hne
    replace r_p0_0 := held_after hU r_p0_0
    replace r_p0_1 := held_after hU r_p0_1
    have sz2 := hU.size
    replace hB := bthen hB hU
    clear hU
    go_wp2_with fail
    go_ret2
    exact ⟨rfl, hB⟩
  cases emd : mayDB true d m y
  · have e : cntV true d m y true h i s c = .tuple #[.int .i64 0, .bool false] := by unfold cntV; rw [if_neg]; unfold cntB; simp [emd]
    rw [e]
    clear e
    rw [emd] at kd
    clear emd
    go_enter Tryz.func43, Tryz.ntmps43
    go_upto_region 0 with (fail)
    apply wp_region_seg0 (w := w) (S := [.al 1000, .al 1000, .q [], .q []]) (E := [.al ((fun p => .pointer (some ⟨p, 0, none⟩)), _) 1000, .al ((fun p => .pointer (some ⟨p, 0, none⟩)), _) 1000, .q0 _, .q0 _]) rfl (by kernel_rfl) rfl rfl
    intro th hge hne
    refine Seg.step _ rfl ⟨by rfl, fun U hU => ?_⟩ ?_
    · go_simp; exact vp_alloc rfl rfl rfl
    refine Seg.sa ?_
    refine Seg.step _ rfl ⟨by rfl, fun U hU => ?_⟩ ?_
    · go_simp; exact vp_alloc rfl rfl rfl
    refine Seg.sa ?_
    refine Seg.sq ?_
    refine Seg.sq ?_
    refine Seg.stop (fun U1 hU hk => ?_)
    have nb0 := hge 0 _ _ rfl
    have rb0 := (hk 0 _ _ rfl trivial).1.2 (by simp)
    have nb1 := hge 1 _ _ rfl
    have rb1 := (hk 1 _ _ rfl trivial).1.2 (by simp)
    have ne0_1 := hne 0 1 _ _ _ _ rfl rfl (by omega)
    clear hk hge hne
    generalize th (0 + 0) = p0_0 at *
    dsimp only at rb0
    generalize th (0 + 1) = p0_1 at *
    dsimp only at rb1
    have r_p0_0 := rb0
    clear rb0
    have n_p0_0 := nb0
    clear nb0
    have d_p0_0_p0_1 := ne0_1
    clear ne0_1
    have r_p0_1 := rb1
    clear rb1
    have n_p0_1 := nb1
    clear nb1
    have sz1 := hU.size
    have hB : Below w.heap.size w U1 := hU
    clear hU
    go_upto_region 1 with (fail)
    apply wp_region_seg0 (w := U1) (S := [.q [], .q [], .q [], .q [], .q [], .q [], .q [], .q [], .q [], .q [], .q [], .q [], .q [], .q [], .q [], .q [], .q [], .q []]) (E := [.q0 _, .q0 _, .q0 _, .q0 _, .q0 _, .q0 _, .q0 _, .q0 _, .q0 _, .q0 _, .c0 _, .q0 _, .q0 _, .q0 _, .q0 _, .c0 _, .q0 _, .q0 _]) rfl (by kernel_rfl) rfl rfl
    intro th hge hne
    refine Seg.sq ?_
    refine Seg.sq ?_ (ht := Or.inl ⟨by rfl, fun U hU => vp_quiet (by (have h0 := held_cell (held_after hU.1 r_p0_0) 0 _ rfl; go_simp <;> exact rfl))⟩)
    iterate 3 refine Seg.sq ?_
    refine Seg.sq ?_ (ht := Or.inl ⟨by rfl, fun U hU => vp_quiet (by (have h0 := held_cell (held_after hU.1 r_p0_1) 0 _ rfl; go_simp <;> exact rfl))⟩)
    iterate 3 refine Seg.sq ?_
    refine Seg.sq ?_ (ht := Or.inl ⟨by rfl, fun U hU => vp_quiet (by (have h0 := held_cell (held_after hU.1 r_p0_0) 0 _ rfl; have h1 := held_cell (held_after hU.1 r_p0_0) 1 _ rfl; have h2 := held_cell (held_after hU.1 r_p0_0) 2 _ rfl; have h3 := held_cell (held_after hU.1 r_p0_0) 3 _ rfl; go_simp <;> exact rfl))⟩)
    refine Seg.step _ rfl (Or.inl ⟨by rfl, fun U hU => ?_⟩) ?_
    · go_simp
      refine vp_call (kd.out _)
    refine Seg.sa ?_
    iterate 3 refine Seg.sq ?_
    refine Seg.sq ?_ (ht := Or.inr ⟨by rfl, rfl⟩)
    refine Seg.sq ?_ (ht := Or.inr ⟨by rfl, rfl⟩)
    refine Seg.sq ?_ (ht := Or.inr ⟨by rfl, rfl⟩)
    refine Seg.sq ?_
    refine Seg.stop (fun U2 hU hk => ?_)
    clear hk hge hne
    replace r_p0_0 := held_after hU r_p0_0
    replace r_p0_1 := held_after hU r_p0_1
    have sz2 := hU.size
    replace hB := bthen hB hU
    clear hU
    go_wp2_with fail
    go_ret2
    exact ⟨rfl, hB⟩
  cases emt : mayTB true h i s c
  · have e : cntV true d m y true h i s c = .tuple #[.int .i64 0, .bool false] := by unfold cntV; rw [if_neg]; unfold cntB; simp [emt]
    rw [e]
    clear e
    rw [emd] at kd
    clear emd
    rw [emt] at kt
    clear emt
    go_enter Tryz.func43, Tryz.ntmps43
    go_upto_region 0 with (fail)
    apply wp_region_seg0 (w := w) (S := [.al 1000, .al 1000, .q [], .q []]) (E := [.al ((fun p => .pointer (some ⟨p, 0, none⟩)), _) 1000, .al ((fun p => .pointer (some ⟨p, 0, none⟩)), _) 1000, .q0 _, .q0 _]) rfl (by kernel_rfl) rfl rfl
    intro th hge hne
    refine Seg.step _ rfl ⟨by rfl, fun U hU => ?_⟩ ?_
    · go_simp; exact vp_alloc rfl rfl rfl
    refine Seg.sa ?_
    refine Seg.step _ rfl ⟨by rfl, fun U hU => ?_⟩ ?_
    · go_simp; exact vp_alloc rfl rfl rfl
    refine Seg.sa ?_
    refine Seg.sq ?_
    refine Seg.sq ?_
    refine Seg.stop (fun U1 hU hk => ?_)
    have nb0 := hge 0 _ _ rfl
    have rb0 := (hk 0 _ _ rfl trivial).1.2 (by simp)
    have nb1 := hge 1 _ _ rfl
    have rb1 := (hk 1 _ _ rfl trivial).1.2 (by simp)
    have ne0_1 := hne 0 1 _ _ _ _ rfl rfl (by omega)
    clear hk hge hne
    generalize th (0 + 0) = p0_0 at *
    dsimp only at rb0
    generalize th (0 + 1) = p0_1 at *
    dsimp only at rb1
    have r_p0_0 := rb0
    clear rb0
    have n_p0_0 := nb0
    clear nb0
    have d_p0_0_p0_1 := ne0_1
    clear ne0_1
    have r_p0_1 := rb1
    clear rb1
    have n_p0_1 := nb1
    clear nb1
    have sz1 := hU.size
    have hB : Below w.heap.size w U1 := hU
    clear hU
    go_upto_region 1 with (fail)
    apply wp_region_seg0 (w := U1) (S := [.q [], .q [], .q [], .q [], .q [], .q [], .q [], .q [], .q [], .q [], .q [], .q [], .q [], .q [], .q [], .q [], .q [], .q []]) (E := [.q0 _, .q0 _, .q0 _, .q0 _, .q0 _, .q0 _, .q0 _, .q0 _, .q0 _, .q0 _, .c0 _, .q0 _, .q0 _, .q0 _, .q0 _, .c0 _, .q0 _, .q0 _]) rfl (by kernel_rfl) rfl rfl
    intro th hge hne
    refine Seg.sq ?_
    refine Seg.sq ?_ (ht := Or.inl ⟨by rfl, fun U hU => vp_quiet (by (have h0 := held_cell (held_after hU.1 r_p0_0) 0 _ rfl; go_simp <;> exact rfl))⟩)
    iterate 3 refine Seg.sq ?_
    refine Seg.sq ?_ (ht := Or.inl ⟨by rfl, fun U hU => vp_quiet (by (have h0 := held_cell (held_after hU.1 r_p0_1) 0 _ rfl; go_simp <;> exact rfl))⟩)
    iterate 3 refine Seg.sq ?_
    refine Seg.sq ?_ (ht := Or.inl ⟨by rfl, fun U hU => vp_quiet (by (have h0 := held_cell (held_after hU.1 r_p0_0) 0 _ rfl; have h1 := held_cell (held_after hU.1 r_p0_0) 1 _ rfl; have h2 := held_cell (held_after hU.1 r_p0_0) 2 _ rfl; have h3 := held_cell (held_after hU.1 r_p0_0) 3 _ rfl; go_simp <;> exact rfl))⟩)
    refine Seg.step _ rfl (Or.inl ⟨by rfl, fun U hU => ?_⟩) ?_
    · go_simp
      refine vp_call (kd.out _)
    refine Seg.sa ?_
    iterate 3 refine Seg.sq ?_
    refine Seg.sq ?_ (ht := Or.inl ⟨by rfl, fun U hU => vp_quiet (by (have h0 := held_cell (held_after hU.1 r_p0_1) 0 _ rfl; have h1 := held_cell (held_after hU.1 r_p0_1) 1 _ rfl; have h2 := held_cell (held_after hU.1 r_p0_1) 2 _ rfl; have h3 := held_cell (held_after hU.1 r_p0_1) 3 _ rfl; have h4 := held_cell (held_after hU.1 r_p0_1) 4 _ rfl; go_simp <;> exact rfl))⟩)
    refine Seg.step _ rfl (Or.inl ⟨by rfl, fun U hU => ?_⟩) ?_
    · go_simp
      refine vp_call (kt.out _)
    refine Seg.sa ?_
    refine Seg.sq ?_
    refine Seg.sq ?_
    refine Seg.stop (fun U2 hU hk => ?_)
    clear hk hge hne
    replace r_p0_0 := held_after hU r_p0_0
    replace r_p0_1 := held_after hU r_p0_1
    have sz2 := hU.size
    replace hB := bthen hB hU
    clear hU
    go_wp2_with fail
    go_ret2
    exact ⟨rfl, hB⟩
  have e : cntV true d m y true h i s c = .tuple #[.int .i64 (cntS d m y h i s c), .bool true] := by unfold cntV; rw [if_pos]; unfold cntB; simp [emd, emt]
  rw [e]
  clear e
  have hI := cnt_in emd emt
  rw [emd] at kd
  rw [emt] at kt
  clear emd emt
  obtain ⟨m1, m2, y1, y2, d1, d2, h1, h2, i1, i2, s1, s2, c1, c2⟩ := hI
  have db := daysS_b m y
  have hD : d ≤ 31 := by omega
  clear d2 db
  obtain ⟨N, hN⟩ : ∃ N, cntS d m y h i s c = N := ⟨_, rfl⟩
  rw [hN]
  replace hN := hid hN
  go_enter Tryz.func43, Tryz.ntmps43
  go_upto_region 0 with (fail)
  apply wp_region_seg0 (w := w) (S := [.al 1000, .al 1000, .q [], .q []]) (E := [.al ((fun p => .pointer (some ⟨p, 0, none⟩)), _) 1000, .al ((fun p => .pointer (some ⟨p, 0, none⟩)), _) 1000, .q0 _, .q0 _]) rfl (by kernel_rfl) rfl rfl
  intro th hge hne
  refine Seg.step _ rfl ⟨by rfl, fun U hU => ?_⟩ ?_
  · go_simp; exact vp_alloc rfl rfl rfl
  refine Seg.sa ?_
  refine Seg.step _ rfl ⟨by rfl, fun U hU => ?_⟩ ?_
  · go_simp; exact vp_alloc rfl rfl rfl
  refine Seg.sa ?_
  refine Seg.sq ?_
  refine Seg.sq ?_
  refine Seg.stop (fun U1 hU hk => ?_)
  have nb0 := hge 0 _ _ rfl
  have rb0 := (hk 0 _ _ rfl trivial).1.2 (by simp)
  have nb1 := hge 1 _ _ rfl
  have rb1 := (hk 1 _ _ rfl trivial).1.2 (by simp)
  have ne0_1 := hne 0 1 _ _ _ _ rfl rfl (by omega)
  clear hk hge hne
  generalize th (0 + 0) = p0_0 at *
  dsimp only at rb0
  generalize th (0 + 1) = p0_1 at *
  dsimp only at rb1
  have r_p0_0 := rb0
  clear rb0
  have n_p0_0 := nb0
  clear nb0
  have d_p0_0_p0_1 := ne0_1
  clear ne0_1
  have r_p0_1 := rb1
  clear rb1
  have n_p0_1 := nb1
  clear nb1
  have sz1 := hU.size
  have hB : Below w.heap.size w U1 := hU
  clear hU
  go_upto_region 1 with (fail)
  apply wp_region_seg0 (w := U1) (S := [.q [], .q [], .q [], .q [], .q [], .q [], .q [], .q [], .q [], .q [], .q [], .q [], .q [], .q [], .q [], .q [], .q [], .q []]) (E := [.q0 _, .q0 _, .q0 _, .q0 _, .q0 _, .q0 _, .q0 _, .q0 _, .q0 _, .q0 _, .c0 _, .q0 _, .q0 _, .q0 _, .q0 _, .c0 _, .q0 _, .q0 _]) rfl (by kernel_rfl) rfl rfl
  intro th hge hne
  refine Seg.sq ?_
  refine Seg.sq ?_ (ht := Or.inl ⟨by rfl, fun U hU => vp_quiet (by (have h0 := held_cell (held_after hU.1 r_p0_0) 0 _ rfl; go_simp <;> exact rfl))⟩)
  iterate 3 refine Seg.sq ?_
  refine Seg.sq ?_ (ht := Or.inl ⟨by rfl, fun U hU => vp_quiet (by (have h0 := held_cell (held_after hU.1 r_p0_1) 0 _ rfl; go_simp <;> exact rfl))⟩)
  iterate 3 refine Seg.sq ?_
  refine Seg.sq ?_ (ht := Or.inl ⟨by rfl, fun U hU => vp_quiet (by (have h0 := held_cell (held_after hU.1 r_p0_0) 0 _ rfl; have h1 := held_cell (held_after hU.1 r_p0_0) 1 _ rfl; have h2 := held_cell (held_after hU.1 r_p0_0) 2 _ rfl; have h3 := held_cell (held_after hU.1 r_p0_0) 3 _ rfl; go_simp <;> exact rfl))⟩)
  refine Seg.step _ rfl (Or.inl ⟨by rfl, fun U hU => ?_⟩) ?_
  · go_simp
    refine vp_call (kd.out _)
  refine Seg.sa ?_
  iterate 3 refine Seg.sq ?_
  refine Seg.sq ?_ (ht := Or.inl ⟨by rfl, fun U hU => vp_quiet (by (have h0 := held_cell (held_after hU.1 r_p0_1) 0 _ rfl; have h1 := held_cell (held_after hU.1 r_p0_1) 1 _ rfl; have h2 := held_cell (held_after hU.1 r_p0_1) 2 _ rfl; have h3 := held_cell (held_after hU.1 r_p0_1) 3 _ rfl; have h4 := held_cell (held_after hU.1 r_p0_1) 4 _ rfl; go_simp <;> exact rfl))⟩)
  refine Seg.step _ rfl (Or.inl ⟨by rfl, fun U hU => ?_⟩) ?_
  · go_simp
    refine vp_call (kt.out _)
  refine Seg.sa ?_
  refine Seg.sq ?_
  refine Seg.sq ?_
  refine Seg.stop (fun U2 hU hk => ?_)
  clear hk hge hne
  replace r_p0_0 := held_after hU r_p0_0
  replace r_p0_1 := held_after hU r_p0_1
  have sz2 := hU.size
  replace hB := bthen hB hU
  clear hU
  have HP := held_cell r_p0_0
  have HQ := held_cell r_p0_1
  have a0 := HP 0 _ rfl
  have a1 := HP 1 _ rfl
  have a2 := HP 2 _ rfl
  have a3 := HP 3 _ rfl
  have b0 := HQ 0 _ rfl
  have b1 := HQ 1 _ rfl
  have b2 := HQ 2 _ rfl
  have b3 := HQ 3 _ rfl
  have b4 := HQ 4 _ rfl
  clear HP HQ kd kt
  have cb : 0 ≤ cumM y m ∧ cumM y m ≤ 36525 := by
    have c1 := cum_le y1 y2 (m := 1) (m' := m) (by omega) (by omega) (by omega)
    have c2 := cum_le y1 y2 (m := m) (m' := 13) (by omega) (by omega) (by omega)
    have c3 := cum_year y
    have c4 := cum_one (y + 1)
    have c5 := cum_one y
    omega
  have cb1 : 0 ≤ cumM y 1 ∧ cumM y 1 ≤ 36525 := by have c5 := cum_one y; omega
  go_wp2_with fail
  go_loopw [6, 7] (fun dx mx wr => ∃ k : Int, 1 ≤ k ∧ k ≤ m ∧ dx = .int .i64 (d - 1 + (cumM y k - cumM y 1)) ∧ mx = .int .i64 k ∧ wr.heap[p0_0]? = some (.cells #[.bool true, .int .i64 d, .int .i64 m, .int .i64 y] 27 (0, 0)) ∧ wr.heap[p0_1]? = some (.cells #[.bool true, .int .i64 h, .int .i64 i, .int .i64 s, .int .i64 c] 23 (0, 0)) ∧ Below w.heap.size w wr) (fun _ mx _ => (13 - intOf mx).toNat)
  case atStart => exact ⟨1, by omega, by omega, by rw [show d - 1 + (cumM y 1 - cumM y 1) = d - 1 from by omega], rfl, r_p0_0, r_p0_1, hB⟩
  case round =>
    clear r_p0_0 r_p0_1 hB a0 a1 a2 a3 b0 b1 b2 b3 b4
    obtain ⟨k, k1, k2, rfl, rfl, rp, rq, hB⟩ := hrel
    have HP := held_cell rp
    have HQ := held_cell rq
    have a0 := HP 0 _ rfl
    have a1 := HP 1 _ rfl
    have a2 := HP 2 _ rfl
    have a3 := HP 3 _ rfl
    have b0 := HQ 0 _ rfl
    have b1 := HQ 1 _ rfl
    have b2 := HQ 2 _ rfl
    have b3 := HQ 3 _ rfl
    have b4 := HQ 4 _ rfl
    clear HP HQ
    have q1 := cum_le y1 y2 (m := 1) (m' := k) (by omega) (by omega) (by omega)
    have q2 := cum_le y1 y2 (m := k) (m' := m) (by omega) (by omega) (by omega)
    have q0 := hid (cum_one y)
    by_cases ck : k < m
    case neg =>
      obtain rfl : k = m := by omega
      clear ck k1 k2
      have fz : d - 1 + (cumM y k - cumM y 1) + (365 * (y - 2000) + (y - 2000 + 3).tdiv 4) = d - 1 + cumM y k := by rw [Int.tdiv_eq_ediv_of_nonneg (by omega), q0.out, show y - 2000 + 3 = y - 1997 from by omega]; omega
      have fz2 : d - 1 + (cumM y k - cumM y 1) + (365 * (y - 2000) + (y - 2000 + 3) / 4) = d - 1 + cumM y k := by rw [q0.out, show y - 2000 + 3 = y - 1997 from by omega]; omega
      have fin : (d - 1 + cumM y k) * 8640000 + h * 360000 + i * 6000 + s * 100 + c = N := by rw [← hN.out]; unfold cntS; omega
      replace fin := hid fin
      clear q0
      generalize cumM y k = C at *
      generalize cumM y 1 = C1 at *
      have fz3 := hid (hid fz)
      have fz4 := hid (hid fz2)
      clear fz fz2
      have bz : 0 ≤ y - 2000 + 3 := by omega
      go_wp2_with fail
      all_goals go_ret2
      all_goals exact ⟨ret_n (by have a := fin.out; have c := fz4.out.out; simp only [c]; exact a), hB⟩
    have st := cum_step (y := y) (m := k) (by omega) (by omega) y1 y2
    have db := daysS_b k y
    have kk := hid (fun v => days_any k y v)
    have fs : d - 1 + (cumM y k - cumM y 1) + daysS k y = d - 1 + (cumM y (k + 1) - cumM y 1) := by omega
    replace fs := hid fs
    generalize daysS k y = DK at *
    go_wp2_with fail
    refine (kk.out _).mono ?_
    rintro e V ⟨rfl, hst⟩
    go_wp2_with fail
    go_roundw
    case rel => exact ⟨k + 1, by omega, by omega, by rw [fs.out], rfl, held_on rp hst, held_on rq hst, bthen hB hst⟩
    case measure => simp [intOf]; omega
set_option maxRecDepth 100000 in
set_option maxHeartbeats 8000000 in
theorem rcount_any (bd : Bool) (d m y : Int) (bc : Bool) (h i s c : Int) (w : World) : Calls Tryz.prog 44 #[.agg #[.bool bd, .int .i64 d, .int .i64 m, .int .i64 y], .agg #[.bool bc, .int .i64 h, .int .i64 i, .int .i64 s, .int .i64 c]] w fun e w' => e = .returned (cntV bd d m y bc h i s c) ∧ Below w.heap.size w w' := by
  have kd := hid (fun v => rmaydate_any bd d m y v)
  have kt := hid (fun v => rmay_any bc h i s c v)
  cases bd
  · have e : cntV false d m y bc h i s c = .tuple #[.int .i64 0, .bool false] := by unfold cntV; rw [if_neg]; unfold cntB; simp
    rw [e]
    clear e
    go_enter Tryz.func44, Tryz.ntmps44
    go_upto_region 0 with (fail)
    apply wp_region_seg0 (w := w) (S := [.al 1000, .al 1000, .q [], .q []]) (E := [.al ((fun p => .pointer (some ⟨p, 0, none⟩)), _) 1000, .al ((fun p => .pointer (some ⟨p, 0, none⟩)), _) 1000, .q0 _, .q0 _]) rfl (by kernel_rfl) rfl rfl
    intro th hge hne
    refine Seg.step _ rfl ⟨by rfl, fun U hU => ?_⟩ ?_
    · go_simp; exact vp_alloc rfl rfl rfl
    refine Seg.sa ?_
    refine Seg.step _ rfl ⟨by rfl, fun U hU => ?_⟩ ?_
    · go_simp; exact vp_alloc rfl rfl rfl
    refine Seg.sa ?_
    refine Seg.sq ?_
    refine Seg.sq ?_
    refine Seg.stop (fun U1 hU hk => ?_)
    have nb0 := hge 0 _ _ rfl
    have rb0 := (hk 0 _ _ rfl trivial).1.2 (by simp)
    have nb1 := hge 1 _ _ rfl
    have rb1 := (hk 1 _ _ rfl trivial).1.2 (by simp)
    have ne0_1 := hne 0 1 _ _ _ _ rfl rfl (by omega)
    clear hk hge hne
    generalize th (0 + 0) = p0_0 at *
    dsimp only at rb0
    generalize th (0 + 1) = p0_1 at *
    dsimp only at rb1
    have r_p0_0 := rb0
    clear rb0
    have n_p0_0 := nb0
    clear nb0
    have d_p0_0_p0_1 := ne0_1
    clear ne0_1
    have r_p0_1 := rb1
    clear rb1
    have n_p0_1 := nb1
    clear nb1
    have sz1 := hU.size
    have hB : Below w.heap.size w U1 := hU
    clear hU
    go_upto_region 1 with (fail)
    apply wp_region_seg0 (w := U1) (S := [.q [], .q [], .q [], .q [], .q [], .q [], .q [], .q [], .q [], .q [], .q [], .q [], .q [], .q [], .q [], .q [], .q [], .q []]) (E := [.q0 _, .q0 _, .q0 _, .q0 _, .q0 _, .q0 _, .q0 _, .q0 _, .q0 _, .q0 _, .c0 _, .q0 _, .q0 _, .q0 _, .q0 _, .c0 _, .q0 _, .q0 _]) rfl (by kernel_rfl) rfl rfl
    intro th hge hne
    refine Seg.sq ?_
    refine Seg.sq ?_ (ht := Or.inl ⟨by rfl, fun U hU => vp_quiet (by (have h0 := held_cell (held_after hU.1 r_p0_0) 0 _ rfl; go_simp <;> exact rfl))⟩)
    refine Seg.sq ?_
    refine Seg.sq ?_
    refine Seg.sq ?_ (ht := Or.inr ⟨by rfl, rfl⟩)
    refine Seg.sq ?_ (ht := Or.inr ⟨by rfl, rfl⟩)
    refine Seg.sq ?_ (ht := Or.inr ⟨by rfl, rfl⟩)
    refine Seg.sq ?_
    refine Seg.sq ?_
    refine Seg.sq ?_ (ht := Or.inr ⟨by rfl, rfl⟩)
    refine Seg.sq ?_ (ht := Or.inr ⟨by rfl, rfl⟩)
    refine Seg.sq ?_ (ht := Or.inr ⟨by rfl, rfl⟩)
    refine Seg.sq ?_
    refine Seg.sq ?_
    refine Seg.sq ?_ (ht := Or.inr ⟨by rfl, rfl⟩)
    refine Seg.sq ?_ (ht := Or.inr ⟨by rfl, rfl⟩)
    refine Seg.sq ?_ (ht := Or.inr ⟨by rfl, rfl⟩)
    refine Seg.sq ?_
    refine Seg.stop (fun U2 hU hk => ?_)
    clear hk hge hne
    replace r_p0_0 := held_after hU r_p0_0
    replace r_p0_1 := held_after hU r_p0_1
    have sz2 := hU.size
    replace hB := bthen hB hU
    clear hU
    go_wp2_with fail
    go_ret2
    exact ⟨rfl, hB⟩
  cases bc
  · have e : cntV true d m y false h i s c = .tuple #[.int .i64 0, .bool false] := by unfold cntV; rw [if_neg]; unfold cntB; simp
    rw [e]
    clear e
    go_enter Tryz.func44, Tryz.ntmps44
    go_upto_region 0 with (fail)
    apply wp_region_seg0 (w := w) (S := [.al 1000, .al 1000, .q [], .q []]) (E := [.al ((fun p => .pointer (some ⟨p, 0, none⟩)), _) 1000, .al ((fun p => .pointer (some ⟨p, 0, none⟩)), _) 1000, .q0 _, .q0 _]) rfl (by kernel_rfl) rfl rfl
    intro th hge hne
    refine Seg.step _ rfl ⟨by rfl, fun U hU => ?_⟩ ?_
    · go_simp; exact vp_alloc rfl rfl rfl
    refine Seg.sa ?_
    refine Seg.step _ rfl ⟨by rfl, fun U hU => ?_⟩ ?_
    · go_simp; exact vp_alloc rfl rfl rfl
    refine Seg.sa ?_
    refine Seg.sq ?_
    refine Seg.sq ?_
    refine Seg.stop (fun U1 hU hk => ?_)
    have nb0 := hge 0 _ _ rfl
    have rb0 := (hk 0 _ _ rfl trivial).1.2 (by simp)
    have nb1 := hge 1 _ _ rfl
    have rb1 := (hk 1 _ _ rfl trivial).1.2 (by simp)
    have ne0_1 := hne 0 1 _ _ _ _ rfl rfl (by omega)
    clear hk hge hne
    generalize th (0 + 0) = p0_0 at *
    dsimp only at rb0
    generalize th (0 + 1) = p0_1 at *
    dsimp only at rb1
    have r_p0_0 := rb0
    clear rb0
    have n_p0_0 := nb0
    clear nb0
    have d_p0_0_p0_1 := ne0_1
    clear ne0_1
    have r_p0_1 := rb1
    clear rb1
    have n_p0_1 := nb1
    clear nb1
    have sz1 := hU.size
    have hB : Below w.heap.size w U1 := hU
    clear hU
    go_upto_region 1 with (fail)
    apply wp_region_seg0 (w := U1) (S := [.q [], .q [], .q [], .q [], .q [], .q [], .q [], .q [], .q [], .q [], .q [], .q [], .q [], .q [], .q [], .q [], .q [], .q []]) (E := [.q0 _, .q0 _, .q0 _, .q0 _, .q0 _, .q0 _, .q0 _, .q0 _, .q0 _, .q0 _, .c0 _, .q0 _, .q0 _, .q0 _, .q0 _, .c0 _, .q0 _, .q0 _]) rfl (by kernel_rfl) rfl rfl
    intro th hge hne
    refine Seg.sq ?_
    refine Seg.sq ?_ (ht := Or.inl ⟨by rfl, fun U hU => vp_quiet (by (have h0 := held_cell (held_after hU.1 r_p0_0) 0 _ rfl; go_simp <;> exact rfl))⟩)
    iterate 3 refine Seg.sq ?_
    refine Seg.sq ?_ (ht := Or.inl ⟨by rfl, fun U hU => vp_quiet (by (have h0 := held_cell (held_after hU.1 r_p0_1) 0 _ rfl; go_simp <;> exact rfl))⟩)
    iterate 3 refine Seg.sq ?_
    refine Seg.sq ?_ (ht := Or.inr ⟨by rfl, rfl⟩)
    refine Seg.sq ?_ (ht := Or.inr ⟨by rfl, rfl⟩)
    refine Seg.sq ?_ (ht := Or.inr ⟨by rfl, rfl⟩)
    refine Seg.sq ?_
    refine Seg.sq ?_
    refine Seg.sq ?_ (ht := Or.inr ⟨by rfl, rfl⟩)
    refine Seg.sq ?_ (ht := Or.inr ⟨by rfl, rfl⟩)
    refine Seg.sq ?_ (ht := Or.inr ⟨by rfl, rfl⟩)
    refine Seg.sq ?_
    refine Seg.stop (fun U2 hU hk => ?_)
    clear hk hge hne
    replace r_p0_0 := held_after hU r_p0_0
    replace r_p0_1 := held_after hU r_p0_1
    have sz2 := hU.size
    replace hB := bthen hB hU
    clear hU
    go_wp2_with fail
    go_ret2
    exact ⟨rfl, hB⟩
  cases emd : mayDB true d m y
  · have e : cntV true d m y true h i s c = .tuple #[.int .i64 0, .bool false] := by unfold cntV; rw [if_neg]; unfold cntB; simp [emd]
    rw [e]
    clear e
    rw [emd] at kd
    clear emd
    go_enter Tryz.func44, Tryz.ntmps44
    go_upto_region 0 with (fail)
    apply wp_region_seg0 (w := w) (S := [.al 1000, .al 1000, .q [], .q []]) (E := [.al ((fun p => .pointer (some ⟨p, 0, none⟩)), _) 1000, .al ((fun p => .pointer (some ⟨p, 0, none⟩)), _) 1000, .q0 _, .q0 _]) rfl (by kernel_rfl) rfl rfl
    intro th hge hne
    refine Seg.step _ rfl ⟨by rfl, fun U hU => ?_⟩ ?_
    · go_simp; exact vp_alloc rfl rfl rfl
    refine Seg.sa ?_
    refine Seg.step _ rfl ⟨by rfl, fun U hU => ?_⟩ ?_
    · go_simp; exact vp_alloc rfl rfl rfl
    refine Seg.sa ?_
    refine Seg.sq ?_
    refine Seg.sq ?_
    refine Seg.stop (fun U1 hU hk => ?_)
    have nb0 := hge 0 _ _ rfl
    have rb0 := (hk 0 _ _ rfl trivial).1.2 (by simp)
    have nb1 := hge 1 _ _ rfl
    have rb1 := (hk 1 _ _ rfl trivial).1.2 (by simp)
    have ne0_1 := hne 0 1 _ _ _ _ rfl rfl (by omega)
    clear hk hge hne
    generalize th (0 + 0) = p0_0 at *
    dsimp only at rb0
    generalize th (0 + 1) = p0_1 at *
    dsimp only at rb1
    have r_p0_0 := rb0
    clear rb0
    have n_p0_0 := nb0
    clear nb0
    have d_p0_0_p0_1 := ne0_1
    clear ne0_1
    have r_p0_1 := rb1
    clear rb1
    have n_p0_1 := nb1
    clear nb1
    have sz1 := hU.size
    have hB : Below w.heap.size w U1 := hU
    clear hU
    go_upto_region 1 with (fail)
    apply wp_region_seg0 (w := U1) (S := [.q [], .q [], .q [], .q [], .q [], .q [], .q [], .q [], .q [], .q [], .q [], .q [], .q [], .q [], .q [], .q [], .q [], .q []]) (E := [.q0 _, .q0 _, .q0 _, .q0 _, .q0 _, .q0 _, .q0 _, .q0 _, .q0 _, .q0 _, .c0 _, .q0 _, .q0 _, .q0 _, .q0 _, .c0 _, .q0 _, .q0 _]) rfl (by kernel_rfl) rfl rfl
    intro th hge hne
    refine Seg.sq ?_
    refine Seg.sq ?_ (ht := Or.inl ⟨by rfl, fun U hU => vp_quiet (by (have h0 := held_cell (held_after hU.1 r_p0_0) 0 _ rfl; go_simp <;> exact rfl))⟩)
    iterate 3 refine Seg.sq ?_
    refine Seg.sq ?_ (ht := Or.inl ⟨by rfl, fun U hU => vp_quiet (by (have h0 := held_cell (held_after hU.1 r_p0_1) 0 _ rfl; go_simp <;> exact rfl))⟩)
    iterate 3 refine Seg.sq ?_
    refine Seg.sq ?_ (ht := Or.inl ⟨by rfl, fun U hU => vp_quiet (by (have h0 := held_cell (held_after hU.1 r_p0_0) 0 _ rfl; have h1 := held_cell (held_after hU.1 r_p0_0) 1 _ rfl; have h2 := held_cell (held_after hU.1 r_p0_0) 2 _ rfl; have h3 := held_cell (held_after hU.1 r_p0_0) 3 _ rfl; go_simp <;> exact rfl))⟩)
    refine Seg.step _ rfl (Or.inl ⟨by rfl, fun U hU => ?_⟩) ?_
    · go_simp
      refine vp_call (kd.out _)
    refine Seg.sa ?_
    iterate 3 refine Seg.sq ?_
    refine Seg.sq ?_ (ht := Or.inr ⟨by rfl, rfl⟩)
    refine Seg.sq ?_ (ht := Or.inr ⟨by rfl, rfl⟩)
    refine Seg.sq ?_ (ht := Or.inr ⟨by rfl, rfl⟩)
    refine Seg.sq ?_
    refine Seg.stop (fun U2 hU hk => ?_)
    clear hk hge hne
    replace r_p0_0 := held_after hU r_p0_0
    replace r_p0_1 := held_after hU r_p0_1
    have sz2 := hU.size
    replace hB := bthen hB hU
    clear hU
    go_wp2_with fail
    go_ret2
    exact ⟨rfl, hB⟩
  cases emt : mayTB true h i s c
  · have e : cntV true d m y true h i s c = .tuple #[.int .i64 0, .bool false] := by unfold cntV; rw [if_neg]; unfold cntB; simp [emt]
    rw [e]
    clear e
    rw [emd] at kd
    clear emd
    rw [emt] at kt
    clear emt
    go_enter Tryz.func44, Tryz.ntmps44
    go_upto_region 0 with (fail)
    apply wp_region_seg0 (w := w) (S := [.al 1000, .al 1000, .q [], .q []]) (E := [.al ((fun p => .pointer (some ⟨p, 0, none⟩)), _) 1000, .al ((fun p => .pointer (some ⟨p, 0, none⟩)), _) 1000, .q0 _, .q0 _]) rfl (by kernel_rfl) rfl rfl
    intro th hge hne
    refine Seg.step _ rfl ⟨by rfl, fun U hU => ?_⟩ ?_
    · go_simp; exact vp_alloc rfl rfl rfl
    refine Seg.sa ?_
    refine Seg.step _ rfl ⟨by rfl, fun U hU => ?_⟩ ?_
    · go_simp; exact vp_alloc rfl rfl rfl
    refine Seg.sa ?_
    refine Seg.sq ?_
    refine Seg.sq ?_
    refine Seg.stop (fun U1 hU hk => ?_)
    have nb0 := hge 0 _ _ rfl
    have rb0 := (hk 0 _ _ rfl trivial).1.2 (by simp)
    have nb1 := hge 1 _ _ rfl
    have rb1 := (hk 1 _ _ rfl trivial).1.2 (by simp)
    have ne0_1 := hne 0 1 _ _ _ _ rfl rfl (by omega)
    clear hk hge hne
    generalize th (0 + 0) = p0_0 at *
    dsimp only at rb0
    generalize th (0 + 1) = p0_1 at *
    dsimp only at rb1
    have r_p0_0 := rb0
    clear rb0
    have n_p0_0 := nb0
    clear nb0
    have d_p0_0_p0_1 := ne0_1
    clear ne0_1
    have r_p0_1 := rb1
    clear rb1
    have n_p0_1 := nb1
    clear nb1
    have sz1 := hU.size
    have hB : Below w.heap.size w U1 := hU
    clear hU
    go_upto_region 1 with (fail)
    apply wp_region_seg0 (w := U1) (S := [.q [], .q [], .q [], .q [], .q [], .q [], .q [], .q [], .q [], .q [], .q [], .q [], .q [], .q [], .q [], .q [], .q [], .q []]) (E := [.q0 _, .q0 _, .q0 _, .q0 _, .q0 _, .q0 _, .q0 _, .q0 _, .q0 _, .q0 _, .c0 _, .q0 _, .q0 _, .q0 _, .q0 _, .c0 _, .q0 _, .q0 _]) rfl (by kernel_rfl) rfl rfl
    intro th hge hne
    refine Seg.sq ?_
    refine Seg.sq ?_ (ht := Or.inl ⟨by rfl, fun U hU => vp_quiet (by (have h0 := held_cell (held_after hU.1 r_p0_0) 0 _ rfl; go_simp <;> exact rfl))⟩)
    iterate 3 refine Seg.sq ?_
    refine Seg.sq ?_ (ht := Or.inl ⟨by rfl, fun U hU => vp_quiet (by (have h0 := held_cell (held_after hU.1 r_p0_1) 0 _ rfl; go_simp <;> exact rfl))⟩)
    iterate 3 refine Seg.sq ?_
    refine Seg.sq ?_ (ht := Or.inl ⟨by rfl, fun U hU => vp_quiet (by (have h0 := held_cell (held_after hU.1 r_p0_0) 0 _ rfl; have h1 := held_cell (held_after hU.1 r_p0_0) 1 _ rfl; have h2 := held_cell (held_after hU.1 r_p0_0) 2 _ rfl; have h3 := held_cell (held_after hU.1 r_p0_0) 3 _ rfl; go_simp <;> exact rfl))⟩)
    refine Seg.step _ rfl (Or.inl ⟨by rfl, fun U hU => ?_⟩) ?_
    · go_simp
      refine vp_call (kd.out _)
    refine Seg.sa ?_
    iterate 3 refine Seg.sq ?_
    refine Seg.sq ?_ (ht := Or.inl ⟨by rfl, fun U hU => vp_quiet (by (have h0 := held_cell (held_after hU.1 r_p0_1) 0 _ rfl; have h1 := held_cell (held_after hU.1 r_p0_1) 1 _ rfl; have h2 := held_cell (held_after hU.1 r_p0_1) 2 _ rfl; have h3 := held_cell (held_after hU.1 r_p0_1) 3 _ rfl; have h4 := held_cell (held_after hU.1 r_p0_1) 4 _ rfl; go_simp <;> exact rfl))⟩)
    refine Seg.step _ rfl (Or.inl ⟨by rfl, fun U hU => ?_⟩) ?_
    · go_simp
      refine vp_call (kt.out _)
    refine Seg.sa ?_
    refine Seg.sq ?_
    refine Seg.sq ?_
    refine Seg.stop (fun U2 hU hk => ?_)
    clear hk hge hne
    replace r_p0_0 := held_after hU r_p0_0
    replace r_p0_1 := held_after hU r_p0_1
    have sz2 := hU.size
    replace hB := bthen hB hU
    clear hU
    go_wp2_with fail
    go_ret2
    exact ⟨rfl, hB⟩
  have e : cntV true d m y true h i s c = .tuple #[.int .i64 (cntS d m y h i s c), .bool true] := by unfold cntV; rw [if_pos]; unfold cntB; simp [emd, emt]
  rw [e]
  clear e
  have hI := cnt_in emd emt
  rw [emd] at kd
  rw [emt] at kt
  clear emd emt
  obtain ⟨m1, m2, y1, y2, d1, d2, h1, h2, i1, i2, s1, s2, c1, c2⟩ := hI
  have db := daysS_b m y
  have hD : d ≤ 31 := by omega
  clear d2 db
  obtain ⟨N, hN⟩ : ∃ N, cntS d m y h i s c = N := ⟨_, rfl⟩
  rw [hN]
  replace hN := hid hN
  go_enter Tryz.func44, Tryz.ntmps44
  go_upto_region 0 with (fail)
  apply wp_region_seg0 (w := w) (S := [.al 1000, .al 1000, .q [], .q []]) (E := [.al ((fun p => .pointer (some ⟨p, 0, none⟩)), _) 1000, .al ((fun p => .pointer (some ⟨p, 0, none⟩)), _) 1000, .q0 _, .q0 _]) rfl (by kernel_rfl) rfl rfl
  intro th hge hne
  refine Seg.step _ rfl ⟨by rfl, fun U hU => ?_⟩ ?_
  · go_simp; exact vp_alloc rfl rfl rfl
  refine Seg.sa ?_
  refine Seg.step _ rfl ⟨by rfl, fun U hU => ?_⟩ ?_
  · go_simp; exact vp_alloc rfl rfl rfl
  refine Seg.sa ?_
  refine Seg.sq ?_
  refine Seg.sq ?_
  refine Seg.stop (fun U1 hU hk => ?_)
  have nb0 := hge 0 _ _ rfl
  have rb0 := (hk 0 _ _ rfl trivial).1.2 (by simp)
  have nb1 := hge 1 _ _ rfl
  have rb1 := (hk 1 _ _ rfl trivial).1.2 (by simp)
  have ne0_1 := hne 0 1 _ _ _ _ rfl rfl (by omega)
  clear hk hge hne
  generalize th (0 + 0) = p0_0 at *
  dsimp only at rb0
  generalize th (0 + 1) = p0_1 at *
  dsimp only at rb1
  have r_p0_0 := rb0
  clear rb0
  have n_p0_0 := nb0
  clear nb0
  have d_p0_0_p0_1 := ne0_1
  clear ne0_1
  have r_p0_1 := rb1
  clear rb1
  have n_p0_1 := nb1
  clear nb1
  have sz1 := hU.size
  have hB : Below w.heap.size w U1 := hU
  clear hU
  go_upto_region 1 with (fail)
  apply wp_region_seg0 (w := U1) (S := [.q [], .q [], .q [], .q [], .q [], .q [], .q [], .q [], .q [], .q [], .q [], .q [], .q [], .q [], .q [], .q [], .q [], .q []]) (E := [.q0 _, .q0 _, .q0 _, .q0 _, .q0 _, .q0 _, .q0 _, .q0 _, .q0 _, .q0 _, .c0 _, .q0 _, .q0 _, .q0 _, .q0 _, .c0 _, .q0 _, .q0 _]) rfl (by kernel_rfl) rfl rfl
  intro th hge hne
  refine Seg.sq ?_
  refine Seg.sq ?_ (ht := Or.inl ⟨by rfl, fun U hU => vp_quiet (by (have h0 := held_cell (held_after hU.1 r_p0_0) 0 _ rfl; go_simp <;> exact rfl))⟩)
  iterate 3 refine Seg.sq ?_
  refine Seg.sq ?_ (ht := Or.inl ⟨by rfl, fun U hU => vp_quiet (by (have h0 := held_cell (held_after hU.1 r_p0_1) 0 _ rfl; go_simp <;> exact rfl))⟩)
  iterate 3 refine Seg.sq ?_
  refine Seg.sq ?_ (ht := Or.inl ⟨by rfl, fun U hU => vp_quiet (by (have h0 := held_cell (held_after hU.1 r_p0_0) 0 _ rfl; have h1 := held_cell (held_after hU.1 r_p0_0) 1 _ rfl; have h2 := held_cell (held_after hU.1 r_p0_0) 2 _ rfl; have h3 := held_cell (held_after hU.1 r_p0_0) 3 _ rfl; go_simp <;> exact rfl))⟩)
  refine Seg.step _ rfl (Or.inl ⟨by rfl, fun U hU => ?_⟩) ?_
  · go_simp
    refine vp_call (kd.out _)
  refine Seg.sa ?_
  iterate 3 refine Seg.sq ?_
  refine Seg.sq ?_ (ht := Or.inl ⟨by rfl, fun U hU => vp_quiet (by (have h0 := held_cell (held_after hU.1 r_p0_1) 0 _ rfl; have h1 := held_cell (held_after hU.1 r_p0_1) 1 _ rfl; have h2 := held_cell (held_after hU.1 r_p0_1) 2 _ rfl; have h3 := held_cell (held_after hU.1 r_p0_1) 3 _ rfl; have h4 := held_cell (held_after hU.1 r_p0_1) 4 _ rfl; go_simp <;> exact rfl))⟩)
  refine Seg.step _ rfl (Or.inl ⟨by rfl, fun U hU => ?_⟩) ?_
  · go_simp
    refine vp_call (kt.out _)
  refine Seg.sa ?_
  refine Seg.sq ?_
  refine Seg.sq ?_
  refine Seg.stop (fun U2 hU hk => ?_)
  clear hk hge hne
  replace r_p0_0 := held_after hU r_p0_0
  replace r_p0_1 := held_after hU r_p0_1
  have sz2 := hU.size
  replace hB := bthen hB hU
  clear hU
  have HP := held_cell r_p0_0
  have HQ := held_cell r_p0_1
  have a0 := HP 0 _ rfl
  have a1 := HP 1 _ rfl
  have a2 := HP 2 _ rfl
  have a3 := HP 3 _ rfl
  have b0 := HQ 0 _ rfl
  have b1 := HQ 1 _ rfl
  have b2 := HQ 2 _ rfl
  have b3 := HQ 3 _ rfl
  have b4 := HQ 4 _ rfl
  clear HP HQ kd kt
  have cb : 0 ≤ cumM y m ∧ cumM y m ≤ 36525 := by
    have c1 := cum_le y1 y2 (m := 1) (m' := m) (by omega) (by omega) (by omega)
    have c2 := cum_le y1 y2 (m := m) (m' := 13) (by omega) (by omega) (by omega)
    have c3 := cum_year y
    have c4 := cum_one (y + 1)
    have c5 := cum_one y
    omega
  have z0 : cumM 2000 1 = 0 := by decide
  go_wp2_with fail
  go_loopw [6, 7] (fun dx yx wr => ∃ z : Int, 2000 ≤ z ∧ z ≤ y + 1 ∧ dx = .int .i64 (d - 1 + (if z ≤ y then cumM z 1 else cumM y m)) ∧ yx = .int .i64 z ∧ wr.heap[p0_0]? = some (.cells #[.bool true, .int .i64 d, .int .i64 m, .int .i64 y] 27 (0, 0)) ∧ wr.heap[p0_1]? = some (.cells #[.bool true, .int .i64 h, .int .i64 i, .int .i64 s, .int .i64 c] 23 (0, 0)) ∧ Below w.heap.size w wr) (fun _ yx _ => (2101 - intOf yx).toNat)
  case atStart => exact ⟨2000, by omega, by omega, by rw [if_pos y1, z0]; simp, rfl, r_p0_0, r_p0_1, hB⟩
  case round =>
    clear r_p0_0 r_p0_1 hB a0 a1 a2 a3 b0 b1 b2 b3 b4
    obtain ⟨z, z1, z2, rfl, rfl, rp, rq, hB⟩ := hrel
    have HP := held_cell rp
    have HQ := held_cell rq
    have a0 := HP 0 _ rfl
    have a1 := HP 1 _ rfl
    have a2 := HP 2 _ rfl
    have a3 := HP 3 _ rfl
    have b0 := HQ 0 _ rfl
    have b1 := HQ 1 _ rfl
    have b2 := HQ 2 _ rfl
    have b3 := HQ 3 _ rfl
    have b4 := HQ 4 _ rfl
    clear HP HQ
    by_cases cz : z ≤ y
    case neg =>
      obtain rfl : z = y + 1 := by omega
      rw [if_neg cz]
      have fin : (d - 1 + cumM y m) * 8640000 + 100 * (3600 * h + 60 * i + s) + c = N := by rw [← hN.out]; unfold cntS; omega
      replace fin := hid fin
      generalize cumM y m = C at *
      go_wp2_with fail
      all_goals go_ret2
      all_goals exact ⟨ret_n fin.out, hB⟩
    rw [if_pos cz]
    go_wp2_with fail
    go_loopw [6, 8] (fun dx mx wr => ∃ k : Int, 1 ≤ k ∧ k ≤ 13 ∧ (z = y → k ≤ m) ∧ dx = .int .i64 (d - 1 + cumM z k) ∧ mx = .int .i64 k ∧ wr.heap[p0_0]? = some (.cells #[.bool true, .int .i64 d, .int .i64 m, .int .i64 y] 27 (0, 0)) ∧ wr.heap[p0_1]? = some (.cells #[.bool true, .int .i64 h, .int .i64 i, .int .i64 s, .int .i64 c] 23 (0, 0)) ∧ Below w.heap.size w wr) (fun _ mx _ => (14 - intOf mx).toNat)
    case atStart => exact ⟨1, by omega, by omega, by omega, rfl, rfl, rp, rq, hB⟩
    case round =>
      clear rp rq hB a0 a1 a2 a3 b0 b1 b2 b3 b4
      obtain ⟨k, k1, k2, k3, rfl, rfl, rp, rq, hB⟩ := hrel
      have HP := held_cell rp
      have HQ := held_cell rq
      have a0 := HP 0 _ rfl
      have a1 := HP 1 _ rfl
      have a2 := HP 2 _ rfl
      have a3 := HP 3 _ rfl
      have b0 := HQ 0 _ rfl
      have b1 := HQ 1 _ rfl
      have b2 := HQ 2 _ rfl
      have b3 := HQ 3 _ rfl
      have b4 := HQ 4 _ rfl
      clear HP HQ
      have c1 := cum_le z1 (show z ≤ 2099 by omega) (m := 1) (m' := k) (by omega) (by omega) (by omega)
      have c2 := cum_le z1 (show z ≤ 2099 by omega) (m := k) (m' := 13) (by omega) (by omega) (by omega)
      have c3 := cum_year z
      have c4 := cum_one (z + 1)
      have c5 := cum_one z
      have cc : 0 ≤ cumM z k ∧ cumM z k ≤ 36525 := by omega
      clear c1 c2 c4 c5
      by_cases ky : z < y
      case pos =>
        by_cases k12 : k ≤ 12
        case neg =>
          obtain rfl : k = 13 := by omega
          have ex : cumM z 13 = (if z + 1 ≤ y then cumM (z + 1) 1 else cumM y m) := by rw [if_pos (by omega)]; exact c3
          replace ex := hid ex
          clear c3 k3
          go_wp2_with fail
          go_roundw
          case rel => exact ⟨z + 1, by omega, by omega, by rw [ex.out], rfl, rp, rq, hB⟩
          case measure => simp [intOf]; omega
        have st := cum_step (y := z) (m := k) (by omega) (by omega) z1 (by omega)
        have db := daysS_b k z
        have kk := hid (fun v => rdays_any k z v)
        have fs : d - 1 + cumM z k + daysS k z = d - 1 + cumM z (k + 1) := by omega
        replace fs := hid fs
        clear st c3
        generalize daysS k z = DK at *
        go_wp2_with fail
        refine (kk.out _).mono ?_
        rintro e V ⟨rfl, rfl⟩
        go_wp2_with fail
        go_roundw
        case rel => exact ⟨k + 1, by omega, by omega, by omega, by rw [fs.out], rfl, rp, rq, hB⟩
        case measure => simp [intOf]; omega
      case neg =>
        obtain rfl : z = y := by omega
        have k4 := k3 rfl
        by_cases km : k < m
        case neg =>
          obtain rfl : k = m := by omega
          have ex : cumM z k = (if z + 1 ≤ z then cumM (z + 1) 1 else cumM z k) := by rw [if_neg (by omega)]
          replace ex := hid ex
          clear c3 k3
          go_wp2_with fail
          go_roundw
          case rel => exact ⟨z + 1, by omega, by omega, by rw [← ex.out], rfl, rp, rq, hB⟩
          case measure => simp [intOf]; omega
        have st := cum_step (y := z) (m := k) (by omega) (by omega) z1 (by omega)
        have db := daysS_b k z
        have kk := hid (fun v => rdays_any k z v)
        have fs : d - 1 + cumM z k + daysS k z = d - 1 + cumM z (k + 1) := by omega
        replace fs := hid fs
        clear st c3
        generalize daysS k z = DK at *
        go_wp2_with fail
        refine (kk.out _).mono ?_
        rintro e V ⟨rfl, rfl⟩
        go_wp2_with fail
        go_roundw
        case rel => exact ⟨k + 1, by omega, by omega, by omega, by rw [fs.out], rfl, rp, rq, hB⟩
        case measure => simp [intOf]; omega

end Go.Proofs.YthnoomdhgbaecaaGreatDoor
