/- Package clock: Take, TakeDate. -/
import Derived.Test.YthnoomdhgbaecaaGreatDoorClock6
import Derived.Deep.DeepCutAuto
namespace Go.Proofs.YthnoomdhgbaecaaGreatDoor

open Go.ChangeShapes Go.WideShapes Go.ChangeAt Go.RowKit

set_option linter.unusedVariables false

def clkNo (k : Int) : Value := .tuple #[.agg #[.bool false, .int .i64 0, .int .i64 0, .int .i64 0, .int .i64 0], .int .i64 k]
def datNo (k : Int) : Value := .tuple #[.agg #[.bool false, .int .i64 0, .int .i64 0, .int .i64 0], .int .i64 k]
def takeB (l : List Nat) : Bool := okAll (prS (l.take 6)) && (hunS (l.drop 6)).2
def takeV (l : List Nat) : Value := if l.length = 0 then clkNo 0 else if l.length < 6 then clkNo 3 else if takeB l = true then (if mayTB true (gN (prS (l.take 6)) 0) (gN (prS (l.take 6)) 1) (gN (prS (l.take 6)) 2) (hunS (l.drop 6)).1 = true then .tuple #[.agg #[.bool true, .int .i64 (gN (prS (l.take 6)) 0), .int .i64 (gN (prS (l.take 6)) 1), .int .i64 (gN (prS (l.take 6)) 2), .int .i64 (hunS (l.drop 6)).1], .int .i64 0] else clkNo 5) else clkNo 3
def takeD (l : List Nat) : Value := if l.length = 0 then datNo 0 else if l.length = 6 ∧ okAll (prS l) = true then (if mayDB true (gN (prS l) 0) (gN (prS l) 1) (2000 + gN (prS l) 2) = true then .tuple #[.agg #[.bool true, .int .i64 (gN (prS l) 0), .int .i64 (gN (prS l) 1), .int .i64 (2000 + gN (prS l) 2)], .int .i64 0] else datNo 5) else datNo 3
theorem three_form (P : List (Int × Bool)) : ∃ (a b c : Int) (ok : Bool), threeT P = .tuple #[.agg #[.int .i64 a, .int .i64 b, .int .i64 c], .bool ok] ∧ ok = okAll P ∧ (ok = true → a = gN P 0 ∧ b = gN P 1 ∧ c = gN P 2) := by
  unfold threeT
  cases h : okAll P
  · exact ⟨0, 0, 0, false, rfl, rfl, fun h => by cases h⟩
  · exact ⟨_, _, _, true, rfl, rfl, fun _ => ⟨rfl, rfl, rfl⟩⟩
theorem dg_bd {a : Nat} (h : dgB a = true) : 48 ≤ a ∧ a ≤ 57 := dgB_iff.1 h
theorem prS_bd : ∀ (n : Nat) (l : List Nat), l.length ≤ n → ∀ x ∈ prS l, 0 ≤ x.1 ∧ x.1 ≤ 99
  | _, [], _, x, hx => by simp [prS] at hx
  | _, [a], _, x, hx => by simp [prS] at hx; subst hx; decide
  | 0, a :: b :: r, h, _, _ => by simp at h
  | n + 1, a :: b :: r, h, x, hx => by
    unfold prS at hx
    split at hx
    case isTrue hd =>
      simp only [Bool.and_eq_true] at hd
      have h1 := dg_bd hd.1
      have h2 := dg_bd hd.2
      rw [List.mem_cons] at hx
      rcases hx with rfl | hx
      · unfold pairN; simp only; omega
      · exact prS_bd n r (by simp at h; omega) x hx
    case isFalse hd =>
      simp at hx; subst hx; decide
theorem gN_bd (l : List Nat) (i : Nat) : 0 ≤ gN (prS l) i ∧ gN (prS l) i ≤ 99 := by
  unfold gN
  rw [List.getD_eq_getElem?_getD, List.getElem?_map]
  cases h : (prS l)[i]? with
  | none => decide
  | some x => exact prS_bd _ l (Nat.le_refl _) x (List.mem_of_getElem? h)
set_option maxRecDepth 100000 in
set_option maxHeartbeats 8000000 in
theorem take_any (s : ByteArray) (w : World) (hs : s.size ≤ 90000) : Calls Tryz.prog 47 #[.string s] w fun e w' => e = .returned (takeV (sb s)) ∧ Below w.heap.size w w' := by
  have hl := sb_len s
  have hV : takeV (sb s) = takeV (sb s) := rfl
  conv at hV => rhs; unfold takeV; rw [hl]
  obtain ⟨R, hR⟩ : ∃ R, takeV (sb s) = R := ⟨_, rfl⟩
  rw [hR] at hV ⊢
  clear hR
  by_cases h0 : s.size = 0
  · rw [if_pos h0] at hV
    replace hV := hid hV
    have hE : s.toList.isEmpty = true := by rw [emp_iff]; simp [h0]
    go_enter Tryz.func47, Tryz.ntmps47
    go_upto_region 0 with (fail)
    apply wp_region_seg0 (w := w) (S := [.al 1000, .q []]) (E := [.al ((fun p => .pointer (some ⟨p, 0, none⟩)), _) 1000, .q0 _]) rfl (by kernel_rfl) rfl rfl
    intro th hge hne
    refine Seg.step _ rfl ⟨by rfl, fun U hU => ?_⟩ ?_
    · go_simp; exact vp_alloc rfl rfl rfl
    refine Seg.sa ?_
    refine Seg.sq ?_
    refine Seg.stop (fun U1 hU hk => ?_)
    have nb0 := hge 0 _ _ rfl
    have rb0 := (hk 0 _ _ rfl trivial).1.2 (by simp)
    clear hk hge hne
    generalize th (0 + 0) = p0_0 at *
    dsimp only at rb0
    have r_p0_0 := rb0
    clear rb0
    have n_p0_0 := nb0
    clear nb0
    have sz1 := hU.size
    have hB : Below w.heap.size w U1 := hU
    clear hU
    go_upto_region 2 with (fail)
    have nP : w.heap.size ≤ p0_0 := n_p0_0
    have z0 := held_cell r_p0_0 0 _ rfl
    have z1 := held_cell r_p0_0 1 _ rfl
    have z2 := held_cell r_p0_0 2 _ rfl
    have z3 := held_cell r_p0_0 3 _ rfl
    have z4 := held_cell r_p0_0 4 _ rfl
    have g0 := held_free r_p0_0 0
    have g1 := held_free r_p0_0 1
    have g2 := held_free r_p0_0 2
    have g3 := held_free r_p0_0 3
    have g4 := held_free r_p0_0 4
    obtain ⟨W9, hW9, ya, yO⟩ := set5 r_p0_0 (.bool false) (.int .i64 0) (.int .i64 0) (.int .i64 0) (.int .i64 0)
    replace hB := belowC hB yO nP
    have ez0 := held_cell ya 0 _ rfl
    have ez1 := held_cell ya 1 _ rfl
    have ez2 := held_cell ya 2 _ rfl
    have ez3 := held_cell ya 3 _ rfl
    have ez4 := held_cell ya 4 _ rfl
    clear yO ya
    replace hB := hid hB
    go_wp2_with fail
    refine bodyPost_ret (v := .tuple #[.agg #[.bool false, .int .i64 0, .int .i64 0, .int .i64 0, .int .i64 0], .int .i64 0]) (by simp [results, Tryz.results47, go_sem, ez0, ez1, ez2, ez3, ez4]) rfl ⟨?_, hB.out⟩
    rw [hV.out]; rfl
  rw [if_neg h0] at hV
  have hE : s.toList.isEmpty = false := by rw [emp_iff]; simp [h0]
  by_cases h6 : s.size < 6
  · rw [if_pos h6] at hV
    replace hV := hid hV
    have i6 : (s.size : Int) < 6 := by omega
    go_enter Tryz.func47, Tryz.ntmps47
    go_upto_region 0 with (fail)
    apply wp_region_seg0 (w := w) (S := [.al 1000, .q []]) (E := [.al ((fun p => .pointer (some ⟨p, 0, none⟩)), _) 1000, .q0 _]) rfl (by kernel_rfl) rfl rfl
    intro th hge hne
    refine Seg.step _ rfl ⟨by rfl, fun U hU => ?_⟩ ?_
    · go_simp; exact vp_alloc rfl rfl rfl
    refine Seg.sa ?_
    refine Seg.sq ?_
    refine Seg.stop (fun U1 hU hk => ?_)
    have nb0 := hge 0 _ _ rfl
    have rb0 := (hk 0 _ _ rfl trivial).1.2 (by simp)
    clear hk hge hne
    generalize th (0 + 0) = p0_0 at *
    dsimp only at rb0
    have r_p0_0 := rb0
    clear rb0
    have n_p0_0 := nb0
    clear nb0
    have sz1 := hU.size
    have hB : Below w.heap.size w U1 := hU
    clear hU
    go_upto_region 4 with (fail)
    have nP : w.heap.size ≤ p0_0 := n_p0_0
    have z0 := held_cell r_p0_0 0 _ rfl
    have z1 := held_cell r_p0_0 1 _ rfl
    have z2 := held_cell r_p0_0 2 _ rfl
    have z3 := held_cell r_p0_0 3 _ rfl
    have z4 := held_cell r_p0_0 4 _ rfl
    have g0 := held_free r_p0_0 0
    have g1 := held_free r_p0_0 1
    have g2 := held_free r_p0_0 2
    have g3 := held_free r_p0_0 3
    have g4 := held_free r_p0_0 4
    obtain ⟨W9, hW9, ya, yO⟩ := set5 r_p0_0 (.bool false) (.int .i64 0) (.int .i64 0) (.int .i64 0) (.int .i64 0)
    replace hB := belowC hB yO nP
    have ez0 := held_cell ya 0 _ rfl
    have ez1 := held_cell ya 1 _ rfl
    have ez2 := held_cell ya 2 _ rfl
    have ez3 := held_cell ya 3 _ rfl
    have ez4 := held_cell ya 4 _ rfl
    clear yO ya
    replace hB := hid hB
    go_wp2_with fail
    refine bodyPost_ret (v := .tuple #[.agg #[.bool false, .int .i64 0, .int .i64 0, .int .i64 0, .int .i64 0], .int .i64 3]) (by simp [results, Tryz.results47, go_sem, ez0, ez1, ez2, ez3, ez4]) rfl ⟨?_, hB.out⟩
    rw [hV.out]; rfl
  rw [if_neg h6] at hV
  have e1 : sb (s.extract 0 6) = (sb s).take 6 := by rw [sb_extract, List.drop_zero]
  have e2 : sb (s.extract 6 s.size) = (sb s).drop 6 := by rw [sb_extract, List.take_of_length_le (by omega)]
  have z1 : (s.extract 0 6).size = 6 := by rw [ByteArray.size_extract]; omega
  have z2 : (s.extract 6 s.size).size ≤ 100000 := by rw [ByteArray.size_extract]; omega
  have kT := hid (fun v => three_any (s.extract 0 6) v (by omega))
  rw [if_pos z1, e1] at kT
  have kH := hid (fun v => hun_any (s.extract 6 s.size) v z2)
  rw [e2] at kH
  unfold takeB at hV
  have gb := fun i => gN_bd ((sb s).take 6) i
  generalize prS ((sb s).take 6) = P at *
  generalize hunS ((sb s).drop 6) = H at *
  obtain ⟨a, b, c, ok, hT, hok, habc⟩ := three_form P
  rw [hT] at kT
  rw [← hok] at hV
  clear hT e1 e2 z1 z2 hok
  obtain ⟨h, ok2⟩ := H
  have i6 : ¬ (s.size : Int) < 6 := by omega
  simp only at hV kH
  have i6b : (6 : Int) ≤ s.size := by omega
  go_enter Tryz.func47, Tryz.ntmps47
  go_upto_region 0 with (fail)
  apply wp_region_seg0 (w := w) (S := [.al 1000, .q []]) (E := [.al ((fun p => .pointer (some ⟨p, 0, none⟩)), _) 1000, .q0 _]) rfl (by kernel_rfl) rfl rfl
  intro th hge hne
  refine Seg.step _ rfl ⟨by rfl, fun U hU => ?_⟩ ?_
  · go_simp; exact vp_alloc rfl rfl rfl
  refine Seg.sa ?_
  refine Seg.sq ?_
  refine Seg.stop (fun U1 hU hk => ?_)
  have nb0 := hge 0 _ _ rfl
  have rb0 := (hk 0 _ _ rfl trivial).1.2 (by simp)
  clear hk hge hne
  generalize th (0 + 0) = p0_0 at *
  dsimp only at rb0
  have r_p0_0 := rb0
  clear rb0
  have n_p0_0 := nb0
  clear nb0
  have sz1 := hU.size
  have hB : Below w.heap.size w U1 := hU
  clear hU
  go_upto_region 5 with (fail)
  apply wp_region_seg0 (w := U1) (S := [.q [], .q [], .q [], .q [], .q [], .q [], .al 7, .st 6 [], .q []]) (E := [.q0 _, .q0 _, .c0 _, .q0 _, .q0 _, .q0 _, .al ((fun p => .pointer (some ⟨p, 0, none⟩)), _) 7, .s0 6 (.cells _ _), .q0 _]) rfl (by kernel_rfl) rfl rfl
  intro th hge hne
  refine Seg.sq ?_
  refine Seg.sq ?_
  refine Seg.step _ rfl (Or.inl ⟨by rfl, fun U hU => ?_⟩) ?_
  · go_simp
    refine vp_call (kT.out _)
  refine Seg.sa ?_
  iterate 3 refine Seg.sq ?_
  refine Seg.step _ rfl ⟨by rfl, fun U hU => ?_⟩ ?_
  · go_simp; exact vp_alloc rfl rfl rfl
  refine Seg.sa ?_
  refine Seg.step _ rfl ⟨by rfl, fun U z k hz hU hc => ?_⟩ ?_
  · have hz2 := Option.some.inj hz
    cases hz2; clear hz
    exact vp_store_agg _ _ _ rfl hc rfl rfl (by kernel_rfl) rfl (by rfl)
  refine Seg.sa ?_
  refine Seg.sq ?_
  refine Seg.stop (fun U2 hU hk => ?_)
  have nb6 := hge 6 _ _ rfl
  have rb6 := (hk 6 _ 7 rfl trivial).1.1 trivial _ (Nat.zero_le _) rfl
  clear hk hge hne
  generalize th (0 + 6) = p5_6 at *
  simp only [Ent.obj] at rb6
  have df_p0_0_p5_6 : p0_0 ≠ p5_6 := by have := held_lt r_p0_0; omega
  replace r_p0_0 := held_after hU r_p0_0
  have r_p5_6 := rb6
  clear rb6
  have n_p5_6 := nb6
  clear nb6
  have sz2 := hU.size
  replace hB := bthen hB hU
  clear hU
  go_upto_region 6 with (fail)
  apply wp_region_seg0 (w := U2) (S := [.q [], .q [], .q [], .q [], .q [], .q [], .q [], .q []]) (E := [.q0 _, .q0 _, .c0 _, .q0 _, .q0 _, .q0 _, .q0 _, .q0 _]) rfl (by kernel_rfl) rfl rfl
  intro th hge hne
  refine Seg.sq ?_
  refine Seg.sq ?_
  refine Seg.step _ rfl (Or.inl ⟨by rfl, fun U hU => ?_⟩) ?_
  · go_simp
    refine vp_call (kH.out _)
  refine Seg.sa ?_
  iterate 5 refine Seg.sq ?_
  refine Seg.stop (fun U3 hU hk => ?_)
  clear hk hge hne
  replace r_p0_0 := held_after hU r_p0_0
  replace r_p5_6 := held_after hU r_p5_6
  have sz3 := hU.size
  replace hB := bthen hB hU
  clear hU
  have nP : w.heap.size ≤ p0_0 := n_p0_0
  cases ok
  · rw [if_neg (by simp)] at hV
    replace hV := hid hV
    go_upto_region 8 with (fail)
    have z0 := held_cell r_p0_0 0 _ rfl
    have z1 := held_cell r_p0_0 1 _ rfl
    have z2 := held_cell r_p0_0 2 _ rfl
    have z3 := held_cell r_p0_0 3 _ rfl
    have z4 := held_cell r_p0_0 4 _ rfl
    have g0 := held_free r_p0_0 0
    have g1 := held_free r_p0_0 1
    have g2 := held_free r_p0_0 2
    have g3 := held_free r_p0_0 3
    have g4 := held_free r_p0_0 4
    obtain ⟨W9, hW9, ya, yO⟩ := set5 r_p0_0 (.bool false) (.int .i64 0) (.int .i64 0) (.int .i64 0) (.int .i64 0)
    replace hB := belowC hB yO nP
    have ez0 := held_cell ya 0 _ rfl
    have ez1 := held_cell ya 1 _ rfl
    have ez2 := held_cell ya 2 _ rfl
    have ez3 := held_cell ya 3 _ rfl
    have ez4 := held_cell ya 4 _ rfl
    clear yO ya
    replace hB := hid hB
    go_wp2_with fail
    refine bodyPost_ret (v := .tuple #[.agg #[.bool false, .int .i64 0, .int .i64 0, .int .i64 0, .int .i64 0], .int .i64 3]) (by simp [results, Tryz.results47, go_sem, ez0, ez1, ez2, ez3, ez4]) rfl ⟨?_, hB.out⟩
    rw [hV.out]; rfl
  cases ok2
  · rw [if_neg (by simp)] at hV
    replace hV := hid hV
    go_upto_region 8 with (fail)
    have z0 := held_cell r_p0_0 0 _ rfl
    have z1 := held_cell r_p0_0 1 _ rfl
    have z2 := held_cell r_p0_0 2 _ rfl
    have z3 := held_cell r_p0_0 3 _ rfl
    have z4 := held_cell r_p0_0 4 _ rfl
    have g0 := held_free r_p0_0 0
    have g1 := held_free r_p0_0 1
    have g2 := held_free r_p0_0 2
    have g3 := held_free r_p0_0 3
    have g4 := held_free r_p0_0 4
    obtain ⟨W9, hW9, ya, yO⟩ := set5 r_p0_0 (.bool false) (.int .i64 0) (.int .i64 0) (.int .i64 0) (.int .i64 0)
    replace hB := belowC hB yO nP
    have ez0 := held_cell ya 0 _ rfl
    have ez1 := held_cell ya 1 _ rfl
    have ez2 := held_cell ya 2 _ rfl
    have ez3 := held_cell ya 3 _ rfl
    have ez4 := held_cell ya 4 _ rfl
    clear yO ya
    replace hB := hid hB
    go_wp2_with fail
    refine bodyPost_ret (v := .tuple #[.agg #[.bool false, .int .i64 0, .int .i64 0, .int .i64 0, .int .i64 0], .int .i64 3]) (by simp [results, Tryz.results47, go_sem, ez0, ez1, ez2, ez3, ez4]) rfl ⟨?_, hB.out⟩
    rw [hV.out]; rfl
  rw [if_pos (by simp)] at hV
  obtain ⟨ea, eb, ec⟩ := habc rfl
  rw [← ea, ← eb, ← ec] at hV
  have kM := hid (fun v => maytime_any true a b c h v)
  clear ea eb ec habc
  go_upto_region 9 with (fail)
  apply wp_region_seg0 (w := U3) (S := [.q [], .q [], .q [], .q [], .q [], .q [], .q [], .q [], .al 9, .st 8 []]) (E := [.q0 _, .q0 _, .q0 _, .q0 _, .q0 _, .q0 _, .q0 _, .q0 _, .al ((fun p => .pointer (some ⟨p, 0, none⟩)), _) 9, .s0 8 (.cells _ _)]) rfl (by kernel_rfl) rfl rfl
  intro th hge hne
  refine Seg.sq ?_
  refine Seg.sq ?_ (ht := Or.inl ⟨by rfl, fun U hU => vp_quiet (by (have h0 := held_cell (held_after hU.1 r_p5_6) 0 _ rfl; go_simp <;> exact rfl))⟩)
  refine Seg.sq ?_
  refine Seg.sq ?_ (ht := Or.inl ⟨by rfl, fun U hU => vp_quiet (by (have h0 := held_cell (held_after hU.1 r_p5_6) 1 _ rfl; go_simp <;> exact rfl))⟩)
  refine Seg.sq ?_
  refine Seg.sq ?_ (ht := Or.inl ⟨by rfl, fun U hU => vp_quiet (by (have h0 := held_cell (held_after hU.1 r_p5_6) 2 _ rfl; go_simp <;> exact rfl))⟩)
  refine Seg.sq ?_
  refine Seg.sq ?_
  refine Seg.step _ rfl ⟨by rfl, fun U hU => ?_⟩ ?_
  · go_simp; exact vp_alloc rfl rfl rfl
  refine Seg.sa ?_
  refine Seg.step _ rfl ⟨by rfl, fun U z k hz hU hc => ?_⟩ ?_
  · have hz2 := Option.some.inj hz
    cases hz2; clear hz
    exact vp_store_agg _ _ _ rfl hc rfl rfl (by kernel_rfl) rfl (by rfl)
  refine Seg.sa ?_
  refine Seg.stop (fun U4 hU hk => ?_)
  have nb8 := hge 8 _ _ rfl
  have rb8 := (hk 8 _ 9 rfl trivial).1.1 trivial _ (Nat.zero_le _) rfl
  clear hk hge hne
  generalize th (0 + 8) = p9_8 at *
  simp only [Ent.obj] at rb8
  have df_p0_0_p9_8 : p0_0 ≠ p9_8 := by have := held_lt r_p0_0; omega
  have df_p5_6_p9_8 : p5_6 ≠ p9_8 := by have := held_lt r_p5_6; omega
  replace r_p0_0 := held_after hU r_p0_0
  replace r_p5_6 := held_after hU r_p5_6
  have r_p9_8 := rb8
  clear rb8
  have n_p9_8 := nb8
  clear nb8
  have sz4 := hU.size
  replace hB := bthen hB hU
  clear hU
  go_upto_region 10 with (fail)
  cases em : mayTB true a b c h
  · rw [em] at kM hV
    rw [if_neg (by simp)] at hV
    replace hV := hid hV
    apply wp_region_seg0 (w := U4) (S := [.q [], .q [], .q []]) (E := [.q0 _, .c0 _, .q0 _]) rfl (by kernel_rfl) rfl rfl
    intro th hge hne
    refine Seg.sq ?_ (ht := Or.inl ⟨by rfl, fun U hU => vp_quiet (by (have h0 := held_cell (held_after hU.1 r_p9_8) 0 _ rfl; have h1 := held_cell (held_after hU.1 r_p9_8) 1 _ rfl; have h2 := held_cell (held_after hU.1 r_p9_8) 2 _ rfl; have h3 := held_cell (held_after hU.1 r_p9_8) 3 _ rfl; have h4 := held_cell (held_after hU.1 r_p9_8) 4 _ rfl; go_simp <;> exact rfl))⟩)
    refine Seg.step _ rfl (Or.inl ⟨by rfl, fun U hU => ?_⟩) ?_
    · go_simp
      refine vp_call (kM.out _)
    refine Seg.sa ?_
    refine Seg.sq ?_
    refine Seg.stop (fun U5 hU hk => ?_)
    clear hk hge hne
    replace r_p0_0 := held_after hU r_p0_0
    replace r_p5_6 := held_after hU r_p5_6
    replace r_p9_8 := held_after hU r_p9_8
    have sz5 := hU.size
    replace hB := bthen hB hU
    clear hU
    go_upto_region 11 with (fail)
    have z0 := held_cell r_p0_0 0 _ rfl
    have z1 := held_cell r_p0_0 1 _ rfl
    have z2 := held_cell r_p0_0 2 _ rfl
    have z3 := held_cell r_p0_0 3 _ rfl
    have z4 := held_cell r_p0_0 4 _ rfl
    have g0 := held_free r_p0_0 0
    have g1 := held_free r_p0_0 1
    have g2 := held_free r_p0_0 2
    have g3 := held_free r_p0_0 3
    have g4 := held_free r_p0_0 4
    obtain ⟨W9, hW9, ya, yO⟩ := set5 r_p0_0 (.bool false) (.int .i64 0) (.int .i64 0) (.int .i64 0) (.int .i64 0)
    replace hB := belowC hB yO nP
    have ez0 := held_cell ya 0 _ rfl
    have ez1 := held_cell ya 1 _ rfl
    have ez2 := held_cell ya 2 _ rfl
    have ez3 := held_cell ya 3 _ rfl
    have ez4 := held_cell ya 4 _ rfl
    clear yO ya
    replace hB := hid hB
    go_wp2_with fail
    refine bodyPost_ret (v := .tuple #[.agg #[.bool false, .int .i64 0, .int .i64 0, .int .i64 0, .int .i64 0], .int .i64 5]) (by simp [results, Tryz.results47, go_sem, ez0, ez1, ez2, ez3, ez4]) rfl ⟨?_, hB.out⟩
    rw [hV.out]; rfl
  · rw [em] at kM hV
    rw [if_pos rfl] at hV
    replace hV := hid hV
    apply wp_region_seg0 (w := U4) (S := [.q [], .q [], .q []]) (E := [.q0 _, .c0 _, .q0 _]) rfl (by kernel_rfl) rfl rfl
    intro th hge hne
    refine Seg.sq ?_ (ht := Or.inl ⟨by rfl, fun U hU => vp_quiet (by (have h0 := held_cell (held_after hU.1 r_p9_8) 0 _ rfl; have h1 := held_cell (held_after hU.1 r_p9_8) 1 _ rfl; have h2 := held_cell (held_after hU.1 r_p9_8) 2 _ rfl; have h3 := held_cell (held_after hU.1 r_p9_8) 3 _ rfl; have h4 := held_cell (held_after hU.1 r_p9_8) 4 _ rfl; go_simp <;> exact rfl))⟩)
    refine Seg.step _ rfl (Or.inl ⟨by rfl, fun U hU => ?_⟩) ?_
    · go_simp
      refine vp_call (kM.out _)
    refine Seg.sa ?_
    refine Seg.sq ?_
    refine Seg.stop (fun U5 hU hk => ?_)
    clear hk hge hne
    replace r_p0_0 := held_after hU r_p0_0
    replace r_p5_6 := held_after hU r_p5_6
    replace r_p9_8 := held_after hU r_p9_8
    have sz5 := hU.size
    replace hB := bthen hB hU
    clear hU
    go_upto_region 12 with (fail)
    have x0 := held_cell r_p9_8 0 _ rfl
    have x1 := held_cell r_p9_8 1 _ rfl
    have x2 := held_cell r_p9_8 2 _ rfl
    have x3 := held_cell r_p9_8 3 _ rfl
    have x4 := held_cell r_p9_8 4 _ rfl
    have z0 := held_cell r_p0_0 0 _ rfl
    have z1 := held_cell r_p0_0 1 _ rfl
    have z2 := held_cell r_p0_0 2 _ rfl
    have z3 := held_cell r_p0_0 3 _ rfl
    have z4 := held_cell r_p0_0 4 _ rfl
    have g0 := held_free r_p0_0 0
    have g1 := held_free r_p0_0 1
    have g2 := held_free r_p0_0 2
    have g3 := held_free r_p0_0 3
    have g4 := held_free r_p0_0 4
    obtain ⟨W9, hW9, ya, yO⟩ := set5 r_p0_0 (.bool true) (.int .i64 a) (.int .i64 b) (.int .i64 c) (.int .i64 h)
    replace hB := belowC hB yO nP
    have ez0 := held_cell ya 0 _ rfl
    have ez1 := held_cell ya 1 _ rfl
    have ez2 := held_cell ya 2 _ rfl
    have ez3 := held_cell ya 3 _ rfl
    have ez4 := held_cell ya 4 _ rfl
    clear yO ya
    replace hB := hid hB
    go_wp2_with fail
    refine bodyPost_ret (v := .tuple #[.agg #[.bool true, .int .i64 a, .int .i64 b, .int .i64 c, .int .i64 h], .int .i64 0]) (by simp [results, Tryz.results47, go_sem, ez0, ez1, ez2, ez3, ez4]) rfl ⟨?_, hB.out⟩
    rw [hV.out]

end Go.Proofs.YthnoomdhgbaecaaGreatDoor
