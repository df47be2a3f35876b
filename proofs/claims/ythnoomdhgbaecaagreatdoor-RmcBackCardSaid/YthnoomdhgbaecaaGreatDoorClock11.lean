/- The papers' Take. -/
import Derived.Test.YthnoomdhgbaecaaGreatDoorClock10
import Derived.Deep.DeepCutAuto
namespace Go.Proofs.YthnoomdhgbaecaaGreatDoor

open Go.ChangeShapes Go.WideShapes Go.ChangeAt Go.RowKit

set_option linter.unusedVariables false

theorem prS_six (a b c d e f : Nat) : okAll (prS [a, b, c, d, e, f]) = dAll [a, b, c, d, e, f] ∧ (dAll [a, b, c, d, e, f] = true → gN (prS [a, b, c, d, e, f]) 0 = pairN a b ∧ gN (prS [a, b, c, d, e, f]) 1 = pairN c d ∧ gN (prS [a, b, c, d, e, f]) 2 = pairN e f) := by
  unfold dAll
  simp only [List.all_cons, List.all_nil, Bool.and_true]
  cases h1 : (dgB a && dgB b)
  · rw [prS_no _ h1]
    rw [← Bool.and_assoc, h1]
    exact ⟨rfl, fun h => by simp at h⟩
  · rw [prS_yes _ h1, ← Bool.and_assoc (dgB a), h1]
    cases h2 : (dgB c && dgB d)
    · rw [prS_no _ h2, ← Bool.and_assoc (dgB c), h2]
      exact ⟨rfl, fun h => by simp at h⟩
    · rw [prS_yes _ h2, ← Bool.and_assoc (dgB c), h2]
      cases h3 : (dgB e && dgB f)
      · rw [prS_no _ h3]
        exact ⟨rfl, fun h => by simp at h⟩
      · rw [prS_yes _ h3]
        exact ⟨rfl, fun _ => ⟨rfl, rfl, rfl⟩⟩
theorem six_of {l : List Nat} (h : 6 ≤ l.length) : ∃ a b c d e f r, l = a :: b :: c :: d :: e :: f :: r ∧ r.length = l.length - 6 := by
  match l, h with
  | a :: b :: c :: d :: e :: f :: r, _ => exact ⟨a, b, c, d, e, f, r, rfl, by simp⟩
  | [a, b, c, d, e], h => simp at h
  | [a, b, c, d], h => simp at h
  | [a, b, c], h => simp at h
  | [a, b], h => simp at h
  | [a], h => simp at h
  | [], h => simp at h
theorem dAll_six {a b c d e f : Nat} (h : dAll [a, b, c, d, e, f] = true) : dgB a = true ∧ dgB b = true ∧ dgB c = true ∧ dgB d = true ∧ dgB e = true ∧ dgB f = true := by
  unfold dAll at h
  simpa using h
theorem sb_from (s : ByteArray) (i : Nat) : sb (s.extract i s.size) = (sb s).drop i := by rw [sb_extract, List.take_of_length_le (by rw [sb_len]; exact Nat.le_refl _)]
theorem pair_bd {a b : Nat} (ha : dgB a = true) (hb : dgB b = true) : 0 ≤ pairN a b ∧ pairN a b ≤ 99 := by
  have h1 := dg_bd ha
  have h2 := dg_bd hb
  unfold pairN; omega
set_option maxRecDepth 100000 in
set_option maxHeartbeats 16000000 in
theorem rtake_any (s : ByteArray) (w : World) (hs : s.size ≤ 90000) : Calls Tryz.prog 94 #[.string s] w fun e w' => e = .returned (takeV (sb s)) ∧ Below w.heap.size w w' := by
  have hl := sb_len s
  have hV : takeV (sb s) = takeV (sb s) := rfl
  conv at hV => rhs; unfold takeV; rw [hl]
  obtain ⟨R, hR⟩ : ∃ R, takeV (sb s) = R := ⟨_, rfl⟩
  rw [hR] at hV ⊢
  clear hR
  by_cases h0 : s.size = 0
  · rw [if_pos h0] at hV
    replace hV := hid hV
    have hE : s.toList.isEmpty = true := by rw [emp_iff]; simp [h0]
    go_enter Tryz.func94, Tryz.ntmps94
    go_upto_region 0 with (fail)
    apply wp_region_seg0 (w := w) (S := [.al 1000, .q []]) (E := [.al ((fun p => .pointer (some ⟨p, 0, none⟩)), _) 1000, .q0 _]) rfl (by kernel_rfl) rfl rfl
    intro th hge hne
    refine Seg.step _ rfl ⟨by rfl, fun U hU => ?_⟩ ?_
    · go_simp; exact vp_alloc rfl rfl rfl
    refine Seg.sa ?_
    refine Seg.sq ?_
    refine Seg.stop (fun U1 hU hk => ?_)
    have nb0 := hge 0 _ _ rfl
    have rb0 := (hk 0 _ _ rfl trivial).1.2 (by simp)
    clear hk hge hne
    generalize th (0 + 0) = p0_0 at *
    dsimp only at rb0
    have r_p0_0 := rb0
    clear rb0
    have n_p0_0 := nb0
    clear nb0
    have sz1 := hU.size
    have hB : Below w.heap.size w U1 := hU
    clear hU
    go_upto_region 2 with (fail)
    have nP : w.heap.size ≤ p0_0 := n_p0_0
    have z0 := held_cell r_p0_0 0 _ rfl
    have z1 := held_cell r_p0_0 1 _ rfl
    have z2 := held_cell r_p0_0 2 _ rfl
    have z3 := held_cell r_p0_0 3 _ rfl
    have z4 := held_cell r_p0_0 4 _ rfl
    have g0 := held_free r_p0_0 0
    have g1 := held_free r_p0_0 1
    have g2 := held_free r_p0_0 2
    have g3 := held_free r_p0_0 3
    have g4 := held_free r_p0_0 4
    obtain ⟨W9, hW9, ya, yO⟩ := set5 r_p0_0 (.bool false) (.int .i64 0) (.int .i64 0) (.int .i64 0) (.int .i64 0)
    replace hB := belowC hB yO nP
    have ez0 := held_cell ya 0 _ rfl
    have ez1 := held_cell ya 1 _ rfl
    have ez2 := held_cell ya 2 _ rfl
    have ez3 := held_cell ya 3 _ rfl
    have ez4 := held_cell ya 4 _ rfl
    clear yO ya
    replace hB := hid hB
    go_wp2_with fail
    refine bodyPost_ret (v := .tuple #[.agg #[.bool false, .int .i64 0, .int .i64 0, .int .i64 0, .int .i64 0], .int .i64 0]) (by simp [results, Tryz.results94, go_sem, ez0, ez1, ez2, ez3, ez4]) rfl ⟨?_, hB.out⟩
    rw [hV.out]; rfl
  rw [if_neg h0] at hV
  have hE : s.toList.isEmpty = false := by rw [emp_iff]; simp [h0]
  by_cases h6 : s.size < 6
  · rw [if_pos h6] at hV
    replace hV := hid hV
    have i6 : (s.size : Int) < 6 := by omega
    go_enter Tryz.func94, Tryz.ntmps94
    go_upto_region 0 with (fail)
    apply wp_region_seg0 (w := w) (S := [.al 1000, .q []]) (E := [.al ((fun p => .pointer (some ⟨p, 0, none⟩)), _) 1000, .q0 _]) rfl (by kernel_rfl) rfl rfl
    intro th hge hne
    refine Seg.step _ rfl ⟨by rfl, fun U hU => ?_⟩ ?_
    · go_simp; exact vp_alloc rfl rfl rfl
    refine Seg.sa ?_
    refine Seg.sq ?_
    refine Seg.stop (fun U1 hU hk => ?_)
    have nb0 := hge 0 _ _ rfl
    have rb0 := (hk 0 _ _ rfl trivial).1.2 (by simp)
    clear hk hge hne
    generalize th (0 + 0) = p0_0 at *
    dsimp only at rb0
    have r_p0_0 := rb0
    clear rb0
    have n_p0_0 := nb0
    clear nb0
    have sz1 := hU.size
    have hB : Below w.heap.size w U1 := hU
    clear hU
    go_upto_region 4 with (fail)
    have nP : w.heap.size ≤ p0_0 := n_p0_0
    have z0 := held_cell r_p0_0 0 _ rfl
    have z1 := held_cell r_p0_0 1 _ rfl
    have z2 := held_cell r_p0_0 2 _ rfl
    have z3 := held_cell r_p0_0 3 _ rfl
    have z4 := held_cell r_p0_0 4 _ rfl
    have g0 := held_free r_p0_0 0
    have g1 := held_free r_p0_0 1
    have g2 := held_free r_p0_0 2
    have g3 := held_free r_p0_0 3
    have g4 := held_free r_p0_0 4
    obtain ⟨W9, hW9, ya, yO⟩ := set5 r_p0_0 (.bool false) (.int .i64 0) (.int .i64 0) (.int .i64 0) (.int .i64 0)
    replace hB := belowC hB yO nP
    have ez0 := held_cell ya 0 _ rfl
    have ez1 := held_cell ya 1 _ rfl
    have ez2 := held_cell ya 2 _ rfl
    have ez3 := held_cell ya 3 _ rfl
    have ez4 := held_cell ya 4 _ rfl
    clear yO ya
    replace hB := hid hB
    go_wp2_with fail
    refine bodyPost_ret (v := .tuple #[.agg #[.bool false, .int .i64 0, .int .i64 0, .int .i64 0, .int .i64 0], .int .i64 3]) (by simp [results, Tryz.results94, go_sem, ez0, ez1, ez2, ez3, ez4]) rfl ⟨?_, hB.out⟩
    rw [hV.out]; rfl
  rw [if_neg h6] at hV
  have i6 : ¬ (s.size : Int) < 6 := by omega
  obtain ⟨a, b, c, d, e, f, r, hr, hrl⟩ := six_of (l := sb s) (by omega)
  rw [hl] at hrl
  have kD := fun v : World => rdigits24_any (s.extract 0 6) v (by rw [ByteArray.size_extract]; omega)
  have e6 : sb (s.extract 0 6) = [a, b, c, d, e, f] := by rw [sb_extract, hr]; rfl
  rw [e6] at kD
  have e2 : sb (s.extract 2 s.size) = c :: d :: e :: f :: r := by rw [sb_from, hr]; rfl
  have e4 : sb (s.extract 4 s.size) = e :: f :: r := by rw [sb_from, hr]; rfl
  have e7 : sb (s.extract 7 s.size) = r.drop 1 := by rw [sb_from, hr]; rfl
  have hT : (sb s).take 6 = [a, b, c, d, e, f] := by rw [hr]; rfl
  have hD : (sb s).drop 6 = r := by rw [hr]; rfl
  unfold takeB at hV
  rw [hT, hD] at hV
  obtain ⟨hok, hgn⟩ := prS_six a b c d e f
  rw [hok] at hV
  clear hT hD e6 hok
  generalize prS [a, b, c, d, e, f] = PP at *
  have gx : 6 < s.size → (sb s).getD 6 0 = r.getD 0 0 := fun _ => by rw [hr]; rfl
  have hgx := fun h => sb_get s 6 h
  cases hd : dAll [a, b, c, d, e, f]
  · rw [hd] at kD hV
    rw [if_neg (by simp)] at hV
    replace hV := hid hV
    clear hd hgn gx hgx hr hrl e2 e4 e7
    go_enter Tryz.func94, Tryz.ntmps94
    go_upto_region 0 with (fail)
    apply wp_region_seg0 (w := w) (S := [.al 1000, .q []]) (E := [.al ((fun p => .pointer (some ⟨p, 0, none⟩)), _) 1000, .q0 _]) rfl (by kernel_rfl) rfl rfl
    intro th hge hne
    refine Seg.step _ rfl ⟨by rfl, fun U hU => ?_⟩ ?_
    · go_simp; exact vp_alloc rfl rfl rfl
    refine Seg.sa ?_
    refine Seg.sq ?_
    refine Seg.stop (fun U1 hU hk => ?_)
    have nb0 := hge 0 _ _ rfl
    have rb0 := (hk 0 _ _ rfl trivial).1.2 (by simp)
    clear hk hge hne
    generalize th (0 + 0) = p0_0 at *
    dsimp only at rb0
    have r_p0_0 := rb0
    clear rb0
    have n_p0_0 := nb0
    clear nb0
    have sz1 := hU.size
    have hB : Below w.heap.size w U1 := hU
    clear hU
    have nP : w.heap.size ≤ p0_0 := n_p0_0
    go_wp2_with fail
    refine (kD _).mono ?_
    rintro e V ⟨rfl, rfl⟩
    go_upto_region 4 with (fail)
    have z0 := held_cell r_p0_0 0 _ rfl
    have z1 := held_cell r_p0_0 1 _ rfl
    have z2 := held_cell r_p0_0 2 _ rfl
    have z3 := held_cell r_p0_0 3 _ rfl
    have z4 := held_cell r_p0_0 4 _ rfl
    have g0 := held_free r_p0_0 0
    have g1 := held_free r_p0_0 1
    have g2 := held_free r_p0_0 2
    have g3 := held_free r_p0_0 3
    have g4 := held_free r_p0_0 4
    obtain ⟨W9, hW9, ya, yO⟩ := set5 r_p0_0 (.bool false) (.int .i64 0) (.int .i64 0) (.int .i64 0) (.int .i64 0)
    replace hB := belowC hB yO nP
    have ez0 := held_cell ya 0 _ rfl
    have ez1 := held_cell ya 1 _ rfl
    have ez2 := held_cell ya 2 _ rfl
    have ez3 := held_cell ya 3 _ rfl
    have ez4 := held_cell ya 4 _ rfl
    clear yO ya
    replace hB := hid hB
    go_wp2_with fail
    refine bodyPost_ret (v := .tuple #[.agg #[.bool false, .int .i64 0, .int .i64 0, .int .i64 0, .int .i64 0], .int .i64 3]) (by simp [results, Tryz.results94, go_sem, ez0, ez1, ez2, ez3, ez4]) rfl ⟨?_, hB.out⟩
    rw [hV.out]; rfl
  rw [hd] at kD hV
  obtain ⟨ga, gb, gc⟩ := hgn hd
  rw [ga, gb, gc] at hV
  obtain ⟨da, db, dc, dd, de, df⟩ := dAll_six hd
  clear ga gb gc hgn hd
  by_cases hz : s.size = 6
  · obtain rfl : r = [] := List.eq_nil_of_length_eq_zero (by omega)
    have i7 : (s.size : Int) = 6 := by omega
    have eh : hunS [] = (0, true) := rfl
    rw [eh] at hV
    rw [if_pos (by simp)] at hV
    simp only at hV
    clear eh gx hgx e7
    have k1 := fun v : World => rpair_any s a b _ v hr da db
    have k2 := fun v : World => rpair_any (s.extract 2 s.size) c d _ v e2 dc dd
    have k3 := fun v : World => rpair_any (s.extract 4 s.size) e f _ v e4 de df
    have y0 := pair_bd da db
    have y1 := pair_bd dc dd
    have y2 := pair_bd de df
    have kM := fun v : World => rmay_any true (pairN a b) (pairN c d) (pairN e f) 0 v
    rw [hz] at k2 k3
    generalize pairN a b = A at *
    generalize pairN c d = B at *
    generalize pairN e f = C at *
    replace k1 := hid k1
    replace k2 := hid k2
    replace k3 := hid k3
    clear e2 e4 hr da db dc dd de df hrl
    go_enter Tryz.func94, Tryz.ntmps94
    go_upto_region 0 with (fail)
    apply wp_region_seg0 (w := w) (S := [.al 1000, .q []]) (E := [.al ((fun p => .pointer (some ⟨p, 0, none⟩)), _) 1000, .q0 _]) rfl (by kernel_rfl) rfl rfl
    intro th hge hne
    refine Seg.step _ rfl ⟨by rfl, fun U hU => ?_⟩ ?_
    · go_simp; exact vp_alloc rfl rfl rfl
    refine Seg.sa ?_
    refine Seg.sq ?_
    refine Seg.stop (fun U1 hU hk => ?_)
    have nb0 := hge 0 _ _ rfl
    have rb0 := (hk 0 _ _ rfl trivial).1.2 (by simp)
    clear hk hge hne
    generalize th (0 + 0) = p0_0 at *
    dsimp only at rb0
    have r_p0_0 := rb0
    clear rb0
    have n_p0_0 := nb0
    clear nb0
    have sz1 := hU.size
    have hB : Below w.heap.size w U1 := hU
    clear hU
    go_wp2_with fail
    refine (kD _).mono ?_
    rintro e V ⟨rfl, hv⟩
    obtain rfl : U1 = V := hv.symm
    clear hv
    have nP : w.heap.size ≤ p0_0 := n_p0_0
    go_upto_region 5 with (fail)
    apply wp_region_seg (w := U1) (S := [.q [], .q [], .q [], .q [], .q [], .q [], .q [], .q [], .q [], .al 10, .st 9 []]) (E := [.q0 _, .c0 _, .q0 _, .q0 _, .c0 _, .q0 _, .q0 _, .c0 _, .q0 _, .al ((fun p => .pointer (some ⟨p, 0, none⟩)), _) 10, .s0 9 (.cells _ _)]) (by kernel_rfl) rfl (by kernel_rfl) rfl rfl
    intro th hge hne
    refine Seg.sq ?_
    refine Seg.step _ rfl (Or.inl ⟨by rfl, fun U hU => ?_⟩) ?_
    · go_simp
      refine vp_calld (k1.out _)
    refine Seg.sa ?_
    refine Seg.sq ?_
    refine Seg.sq ?_
    refine Seg.step _ rfl (Or.inl ⟨by rfl, fun U hU => ?_⟩) ?_
    · go_simp
      refine vp_calld (k2.out _)
    refine Seg.sa ?_
    refine Seg.sq ?_
    refine Seg.sq ?_
    refine Seg.step _ rfl (Or.inl ⟨by rfl, fun U hU => ?_⟩) ?_
    · go_simp
      refine vp_calld (k3.out _)
    refine Seg.sa ?_
    refine Seg.sq ?_
    refine Seg.step _ rfl ⟨by rfl, fun U hU => ?_⟩ ?_
    · go_simp; exact vp_alloc rfl rfl rfl
    refine Seg.sa ?_
    refine Seg.step _ rfl ⟨by rfl, fun U z k hz hU hc => ?_⟩ ?_
    · have hz2 := Option.some.inj hz
      cases hz2; clear hz
      exact vp_store_agg _ _ _ rfl hc rfl rfl (by kernel_rfl) rfl (by rfl)
    refine Seg.sa ?_
    refine Seg.stop (fun U2 hU hk => ?_)
    have nb9 := hge 9 _ _ rfl
    have rb9 := (hk 9 _ 10 rfl trivial).1.1 trivial _ (Nat.zero_le _) rfl
    clear hk hge hne
    generalize th (0 + 9) = p5_9 at *
    simp only [Ent.obj] at rb9
    have df_p0_0_p5_9 : p0_0 ≠ p5_9 := by have := held_lt r_p0_0; omega
    replace r_p0_0 := held_after hU r_p0_0
    have r_p5_9 := rb9
    clear rb9
    have n_p5_9 := nb9
    clear nb9
    have sz2 := hU.size
    replace hB := bthen hB hU
    clear hU
    go_upto_region 10 with (fail)
    replace r_p5_9 : U2.heap[p5_9]? = some (.cells #[.bool true, .int .i64 A, .int .i64 B, .int .i64 C, .int .i64 0] 23 (0, 0)) := r_p5_9
    cases em : mayTB true A B C 0
    · rw [em] at kM hV
      rw [if_neg (by simp)] at hV
      replace hV := hid hV
      replace kM := hid kM
      apply wp_region_seg0 (w := U2) (S := [.q [], .q [], .q []]) (E := [.q0 _, .c0 _, .q0 _]) rfl (by kernel_rfl) rfl rfl
      intro th hge hne
      refine Seg.sq ?_ (ht := Or.inl ⟨by rfl, fun U hU => vp_quiet (by (have h0 := held_cell (held_after hU.1 r_p5_9) 0 _ rfl; have h1 := held_cell (held_after hU.1 r_p5_9) 1 _ rfl; have h2 := held_cell (held_after hU.1 r_p5_9) 2 _ rfl; have h3 := held_cell (held_after hU.1 r_p5_9) 3 _ rfl; have h4 := held_cell (held_after hU.1 r_p5_9) 4 _ rfl; go_simp <;> exact rfl))⟩)
      refine Seg.step _ rfl (Or.inl ⟨by rfl, fun U hU => ?_⟩) ?_
      · go_simp
        refine vp_call (kM.out _)
      refine Seg.sa ?_
      refine Seg.sq ?_
      refine Seg.stop (fun U3 hU hk => ?_)
      clear hk hge hne
      replace r_p0_0 := held_after hU r_p0_0
      replace r_p5_9 := held_after hU r_p5_9
      have sz3 := hU.size
      replace hB := bthen hB hU
      clear hU
      go_upto_region 11 with (fail)
      have z0 := held_cell r_p0_0 0 _ rfl
      have z1 := held_cell r_p0_0 1 _ rfl
      have z2 := held_cell r_p0_0 2 _ rfl
      have z3 := held_cell r_p0_0 3 _ rfl
      have z4 := held_cell r_p0_0 4 _ rfl
      have g0 := held_free r_p0_0 0
      have g1 := held_free r_p0_0 1
      have g2 := held_free r_p0_0 2
      have g3 := held_free r_p0_0 3
      have g4 := held_free r_p0_0 4
      obtain ⟨W9, hW9, ya, yO⟩ := set5 r_p0_0 (.bool false) (.int .i64 0) (.int .i64 0) (.int .i64 0) (.int .i64 0)
      replace hB := belowC hB yO nP
      have ez0 := held_cell ya 0 _ rfl
      have ez1 := held_cell ya 1 _ rfl
      have ez2 := held_cell ya 2 _ rfl
      have ez3 := held_cell ya 3 _ rfl
      have ez4 := held_cell ya 4 _ rfl
      clear yO ya
      replace hB := hid hB
      go_wp2_with fail
      refine bodyPost_ret (v := .tuple #[.agg #[.bool false, .int .i64 0, .int .i64 0, .int .i64 0, .int .i64 0], .int .i64 5]) (by simp [results, Tryz.results94, go_sem, ez0, ez1, ez2, ez3, ez4]) rfl ⟨?_, hB.out⟩
      rw [hV.out]; rfl
    · rw [em] at kM hV
      rw [if_pos rfl] at hV
      replace hV := hid hV
      replace kM := hid kM
      apply wp_region_seg0 (w := U2) (S := [.q [], .q [], .q []]) (E := [.q0 _, .c0 _, .q0 _]) rfl (by kernel_rfl) rfl rfl
      intro th hge hne
      refine Seg.sq ?_ (ht := Or.inl ⟨by rfl, fun U hU => vp_quiet (by (have h0 := held_cell (held_after hU.1 r_p5_9) 0 _ rfl; have h1 := held_cell (held_after hU.1 r_p5_9) 1 _ rfl; have h2 := held_cell (held_after hU.1 r_p5_9) 2 _ rfl; have h3 := held_cell (held_after hU.1 r_p5_9) 3 _ rfl; have h4 := held_cell (held_after hU.1 r_p5_9) 4 _ rfl; go_simp <;> exact rfl))⟩)
      refine Seg.step _ rfl (Or.inl ⟨by rfl, fun U hU => ?_⟩) ?_
      · go_simp
        refine vp_call (kM.out _)
      refine Seg.sa ?_
      refine Seg.sq ?_
      refine Seg.stop (fun U3 hU hk => ?_)
      clear hk hge hne
      replace r_p0_0 := held_after hU r_p0_0
      replace r_p5_9 := held_after hU r_p5_9
      have sz3 := hU.size
      replace hB := bthen hB hU
      clear hU
      go_upto_region 12 with (fail)
      have x0 := held_cell r_p5_9 0 _ rfl
      have x1 := held_cell r_p5_9 1 _ rfl
      have x2 := held_cell r_p5_9 2 _ rfl
      have x3 := held_cell r_p5_9 3 _ rfl
      have x4 := held_cell r_p5_9 4 _ rfl
      have z0 := held_cell r_p0_0 0 _ rfl
      have z1 := held_cell r_p0_0 1 _ rfl
      have z2 := held_cell r_p0_0 2 _ rfl
      have z3 := held_cell r_p0_0 3 _ rfl
      have z4 := held_cell r_p0_0 4 _ rfl
      have g0 := held_free r_p0_0 0
      have g1 := held_free r_p0_0 1
      have g2 := held_free r_p0_0 2
      have g3 := held_free r_p0_0 3
      have g4 := held_free r_p0_0 4
      obtain ⟨W9, hW9, ya, yO⟩ := set5 r_p0_0 (.bool true) (.int .i64 A) (.int .i64 B) (.int .i64 C) (.int .i64 0)
      replace hB := belowC hB yO nP
      have ez0 := held_cell ya 0 _ rfl
      have ez1 := held_cell ya 1 _ rfl
      have ez2 := held_cell ya 2 _ rfl
      have ez3 := held_cell ya 3 _ rfl
      have ez4 := held_cell ya 4 _ rfl
      clear yO ya
      replace hB := hid hB
      go_wp2_with fail
      refine bodyPost_ret (v := .tuple #[.agg #[.bool true, .int .i64 A, .int .i64 B, .int .i64 C, .int .i64 0], .int .i64 0]) (by simp [results, Tryz.results94, go_sem, ez0, ez1, ez2, ez3, ez4]) rfl ⟨?_, hB.out⟩
      rw [hV.out]
  have i7 : (6 : Int) < s.size := by omega
  have g6 : (s[6]'(by omega)).toNat = r.getD 0 0 := by rw [← hgx (by omega)]; exact gx (by omega)
  clear gx hgx
  by_cases c0 : r.getD 0 0 = 46
  case neg =>
    have eh : hunS r = (0, false) := by unfold hunS; rw [if_neg (by intro h; rw [h] at hrl; simp at hrl; omega), if_neg (fun h => c0 h.1)]
    rw [eh] at hV
    rw [if_neg (by simp)] at hV
    replace hV := hid hV
    clear eh
    have i8 : (((s[6]'(by omega)).toNat : Int) != 46) = true := by rw [g6]; exact bne_iff_ne.2 (by omega)
    clear g6 c0 hr hrl e2 e4 e7
    go_enter Tryz.func94, Tryz.ntmps94
    go_upto_region 0 with (fail)
    apply wp_region_seg0 (w := w) (S := [.al 1000, .q []]) (E := [.al ((fun p => .pointer (some ⟨p, 0, none⟩)), _) 1000, .q0 _]) rfl (by kernel_rfl) rfl rfl
    intro th hge hne
    refine Seg.step _ rfl ⟨by rfl, fun U hU => ?_⟩ ?_
    · go_simp; exact vp_alloc rfl rfl rfl
    refine Seg.sa ?_
    refine Seg.sq ?_
    refine Seg.stop (fun U1 hU hk => ?_)
    have nb0 := hge 0 _ _ rfl
    have rb0 := (hk 0 _ _ rfl trivial).1.2 (by simp)
    clear hk hge hne
    generalize th (0 + 0) = p0_0 at *
    dsimp only at rb0
    have r_p0_0 := rb0
    clear rb0
    have n_p0_0 := nb0
    clear nb0
    have sz1 := hU.size
    have hB : Below w.heap.size w U1 := hU
    clear hU
    have nP : w.heap.size ≤ p0_0 := n_p0_0
    go_wp2_with fail
    refine (kD _).mono ?_
    rintro e V ⟨rfl, rfl⟩
    go_upto_region 4 with (fail)
    have z0 := held_cell r_p0_0 0 _ rfl
    have z1 := held_cell r_p0_0 1 _ rfl
    have z2 := held_cell r_p0_0 2 _ rfl
    have z3 := held_cell r_p0_0 3 _ rfl
    have z4 := held_cell r_p0_0 4 _ rfl
    have g0 := held_free r_p0_0 0
    have g1 := held_free r_p0_0 1
    have g2 := held_free r_p0_0 2
    have g3 := held_free r_p0_0 3
    have g4 := held_free r_p0_0 4
    obtain ⟨W9, hW9, ya, yO⟩ := set5 r_p0_0 (.bool false) (.int .i64 0) (.int .i64 0) (.int .i64 0) (.int .i64 0)
    replace hB := belowC hB yO nP
    have ez0 := held_cell ya 0 _ rfl
    have ez1 := held_cell ya 1 _ rfl
    have ez2 := held_cell ya 2 _ rfl
    have ez3 := held_cell ya 3 _ rfl
    have ez4 := held_cell ya 4 _ rfl
    clear yO ya
    replace hB := hid hB
    go_wp2_with fail
    refine bodyPost_ret (v := .tuple #[.agg #[.bool false, .int .i64 0, .int .i64 0, .int .i64 0, .int .i64 0], .int .i64 3]) (by simp [results, Tryz.results94, go_sem, ez0, ez1, ez2, ez3, ez4]) rfl ⟨?_, hB.out⟩
    rw [hV.out]; rfl
  rw [c0] at g6
  have i8 : (((s[6]'(by omega)).toNat : Int) != 46) = false := by rw [g6]; rfl
  by_cases c8 : s.size < 8
  case pos =>
    have eh : hunS r = (0, false) := by unfold hunS; rw [if_neg (by intro h; rw [h] at hrl; simp at hrl; omega), if_neg (fun h => by omega)]
    rw [eh] at hV
    rw [if_neg (by simp)] at hV
    replace hV := hid hV
    clear eh
    have i9 : (s.size : Int) < 8 := by omega
    clear g6 c0 hr hrl e2 e4 e7
    go_enter Tryz.func94, Tryz.ntmps94
    go_upto_region 0 with (fail)
    apply wp_region_seg0 (w := w) (S := [.al 1000, .q []]) (E := [.al ((fun p => .pointer (some ⟨p, 0, none⟩)), _) 1000, .q0 _]) rfl (by kernel_rfl) rfl rfl
    intro th hge hne
    refine Seg.step _ rfl ⟨by rfl, fun U hU => ?_⟩ ?_
    · go_simp; exact vp_alloc rfl rfl rfl
    refine Seg.sa ?_
    refine Seg.sq ?_
    refine Seg.stop (fun U1 hU hk => ?_)
    have nb0 := hge 0 _ _ rfl
    have rb0 := (hk 0 _ _ rfl trivial).1.2 (by simp)
    clear hk hge hne
    generalize th (0 + 0) = p0_0 at *
    dsimp only at rb0
    have r_p0_0 := rb0
    clear rb0
    have n_p0_0 := nb0
    clear nb0
    have sz1 := hU.size
    have hB : Below w.heap.size w U1 := hU
    clear hU
    have nP : w.heap.size ≤ p0_0 := n_p0_0
    go_wp2_with fail
    refine (kD _).mono ?_
    rintro e V ⟨rfl, rfl⟩
    go_upto_region 4 with (fail)
    have z0 := held_cell r_p0_0 0 _ rfl
    have z1 := held_cell r_p0_0 1 _ rfl
    have z2 := held_cell r_p0_0 2 _ rfl
    have z3 := held_cell r_p0_0 3 _ rfl
    have z4 := held_cell r_p0_0 4 _ rfl
    have g0 := held_free r_p0_0 0
    have g1 := held_free r_p0_0 1
    have g2 := held_free r_p0_0 2
    have g3 := held_free r_p0_0 3
    have g4 := held_free r_p0_0 4
    obtain ⟨W9, hW9, ya, yO⟩ := set5 r_p0_0 (.bool false) (.int .i64 0) (.int .i64 0) (.int .i64 0) (.int .i64 0)
    replace hB := belowC hB yO nP
    have ez0 := held_cell ya 0 _ rfl
    have ez1 := held_cell ya 1 _ rfl
    have ez2 := held_cell ya 2 _ rfl
    have ez3 := held_cell ya 3 _ rfl
    have ez4 := held_cell ya 4 _ rfl
    clear yO ya
    replace hB := hid hB
    go_wp2_with fail
    refine bodyPost_ret (v := .tuple #[.agg #[.bool false, .int .i64 0, .int .i64 0, .int .i64 0, .int .i64 0], .int .i64 3]) (by simp [results, Tryz.results94, go_sem, ez0, ez1, ez2, ez3, ez4]) rfl ⟨?_, hB.out⟩
    rw [hV.out]; rfl
  by_cases c9 : 9 < s.size
  case pos =>
    have eh : hunS r = (0, false) := by unfold hunS; rw [if_neg (by intro h; rw [h] at hrl; simp at hrl; omega), if_neg (fun h => by omega)]
    rw [eh] at hV
    rw [if_neg (by simp)] at hV
    replace hV := hid hV
    clear eh
    have i9 : (9 : Int) < s.size := by omega
    have i10 : ¬ (s.size : Int) < 8 := by omega
    clear g6 c0 hr hrl e2 e4 e7
    go_enter Tryz.func94, Tryz.ntmps94
    go_upto_region 0 with (fail)
    apply wp_region_seg0 (w := w) (S := [.al 1000, .q []]) (E := [.al ((fun p => .pointer (some ⟨p, 0, none⟩)), _) 1000, .q0 _]) rfl (by kernel_rfl) rfl rfl
    intro th hge hne
    refine Seg.step _ rfl ⟨by rfl, fun U hU => ?_⟩ ?_
    · go_simp; exact vp_alloc rfl rfl rfl
    refine Seg.sa ?_
    refine Seg.sq ?_
    refine Seg.stop (fun U1 hU hk => ?_)
    have nb0 := hge 0 _ _ rfl
    have rb0 := (hk 0 _ _ rfl trivial).1.2 (by simp)
    clear hk hge hne
    generalize th (0 + 0) = p0_0 at *
    dsimp only at rb0
    have r_p0_0 := rb0
    clear rb0
    have n_p0_0 := nb0
    clear nb0
    have sz1 := hU.size
    have hB : Below w.heap.size w U1 := hU
    clear hU
    have nP : w.heap.size ≤ p0_0 := n_p0_0
    go_wp2_with fail
    refine (kD _).mono ?_
    rintro e V ⟨rfl, rfl⟩
    go_upto_region 4 with (fail)
    have z0 := held_cell r_p0_0 0 _ rfl
    have z1 := held_cell r_p0_0 1 _ rfl
    have z2 := held_cell r_p0_0 2 _ rfl
    have z3 := held_cell r_p0_0 3 _ rfl
    have z4 := held_cell r_p0_0 4 _ rfl
    have g0 := held_free r_p0_0 0
    have g1 := held_free r_p0_0 1
    have g2 := held_free r_p0_0 2
    have g3 := held_free r_p0_0 3
    have g4 := held_free r_p0_0 4
    obtain ⟨W9, hW9, ya, yO⟩ := set5 r_p0_0 (.bool false) (.int .i64 0) (.int .i64 0) (.int .i64 0) (.int .i64 0)
    replace hB := belowC hB yO nP
    have ez0 := held_cell ya 0 _ rfl
    have ez1 := held_cell ya 1 _ rfl
    have ez2 := held_cell ya 2 _ rfl
    have ez3 := held_cell ya 3 _ rfl
    have ez4 := held_cell ya 4 _ rfl
    clear yO ya
    replace hB := hid hB
    go_wp2_with fail
    refine bodyPost_ret (v := .tuple #[.agg #[.bool false, .int .i64 0, .int .i64 0, .int .i64 0, .int .i64 0], .int .i64 3]) (by simp [results, Tryz.results94, go_sem, ez0, ez1, ez2, ez3, ez4]) rfl ⟨?_, hB.out⟩
    rw [hV.out]; rfl
  have kE := fun v : World => rdigits24_any (s.extract 7 s.size) v (by rw [ByteArray.size_extract]; omega)
  rw [e7] at kE
  by_cases hz : s.size = 8
  · obtain ⟨x, y, rfl⟩ := len2 (l := r) (by omega)
    obtain rfl : x = 46 := c0
    have ed : ([46, y] : List Nat).drop 1 = [y] := rfl
    rw [ed] at kE
    have eA : dAll [y] = dgB y := by unfold dAll; simp
    rw [eA] at kE
    rw [hz] at kE
    have i9 : (s.size : Int) = 8 := by omega
    have eh : hunS [46, y] = h2 y 48 := rfl
    rw [eh] at hV
    have g7 : (s[7]'(by omega)).toNat = y := by rw [← sb_get s 7 (by omega), hr]; rfl
    unfold h2 at hV
    clear eh ed eA c8 c9
    cases hy : dgB y
    · rw [hy] at kE hV
      rw [if_neg (by simp)] at hV
      replace hV := hid hV
      clear hr e2 e4 e7 hy
      go_enter Tryz.func94, Tryz.ntmps94
      go_upto_region 0 with (fail)
      apply wp_region_seg0 (w := w) (S := [.al 1000, .q []]) (E := [.al ((fun p => .pointer (some ⟨p, 0, none⟩)), _) 1000, .q0 _]) rfl (by kernel_rfl) rfl rfl
      intro th hge hne
      refine Seg.step _ rfl ⟨by rfl, fun U hU => ?_⟩ ?_
      · go_simp; exact vp_alloc rfl rfl rfl
      refine Seg.sa ?_
      refine Seg.sq ?_
      refine Seg.stop (fun U1 hU hk => ?_)
      have nb0 := hge 0 _ _ rfl
      have rb0 := (hk 0 _ _ rfl trivial).1.2 (by simp)
      clear hk hge hne
      generalize th (0 + 0) = p0_0 at *
      dsimp only at rb0
      have r_p0_0 := rb0
      clear rb0
      have n_p0_0 := nb0
      clear nb0
      have sz1 := hU.size
      have hB : Below w.heap.size w U1 := hU
      clear hU
      have nP : w.heap.size ≤ p0_0 := n_p0_0
      go_wp2_with fail
      refine (kD _).mono ?_
      rintro e V ⟨rfl, rfl⟩
      go_wp2_with fail
      refine (kE _).mono ?_
      rintro e V ⟨rfl, rfl⟩
      go_upto_region 4 with (fail)
      have z0 := held_cell r_p0_0 0 _ rfl
      have z1 := held_cell r_p0_0 1 _ rfl
      have z2 := held_cell r_p0_0 2 _ rfl
      have z3 := held_cell r_p0_0 3 _ rfl
      have z4 := held_cell r_p0_0 4 _ rfl
      have g0 := held_free r_p0_0 0
      have g1 := held_free r_p0_0 1
      have g2 := held_free r_p0_0 2
      have g3 := held_free r_p0_0 3
      have g4 := held_free r_p0_0 4
      obtain ⟨W9, hW9, ya, yO⟩ := set5 r_p0_0 (.bool false) (.int .i64 0) (.int .i64 0) (.int .i64 0) (.int .i64 0)
      replace hB := belowC hB yO nP
      have ez0 := held_cell ya 0 _ rfl
      have ez1 := held_cell ya 1 _ rfl
      have ez2 := held_cell ya 2 _ rfl
      have ez3 := held_cell ya 3 _ rfl
      have ez4 := held_cell ya 4 _ rfl
      clear yO ya
      replace hB := hid hB
      go_wp2_with fail
      refine bodyPost_ret (v := .tuple #[.agg #[.bool false, .int .i64 0, .int .i64 0, .int .i64 0, .int .i64 0], .int .i64 3]) (by simp [results, Tryz.results94, go_sem, ez0, ez1, ez2, ez3, ez4]) rfl ⟨?_, hB.out⟩
      rw [hV.out]; rfl
    · have yb := dg_bd hy
      rw [hy] at kE hV
      simp only [Bool.true_and, show dgB 48 = true from by decide, if_true] at hV
      have eP : pairN y 48 = 10 * ((y : Int) - 48) := by unfold pairN; omega
      rw [eP] at hV
      clear eP hy e7
      have k1 := fun v : World => rpair_any s a b _ v hr da db
      have k2 := fun v : World => rpair_any (s.extract 2 s.size) c d _ v e2 dc dd
      have k3 := fun v : World => rpair_any (s.extract 4 s.size) e f _ v e4 de df
      have y0 := pair_bd da db
      have y1 := pair_bd dc dd
      have y2 := pair_bd de df
      have kM := fun v : World => rmay_any true (pairN a b) (pairN c d) (pairN e f) (10 * ((y : Int) - 48)) v
      rw [hz] at k2 k3
      generalize pairN a b = A at *
      generalize pairN c d = B at *
      generalize pairN e f = C at *
      replace k1 := hid k1
      replace k2 := hid k2
      replace k3 := hid k3
      clear e2 e4 hr da db dc dd de df hrl
      go_enter Tryz.func94, Tryz.ntmps94
      go_upto_region 0 with (fail)
      apply wp_region_seg0 (w := w) (S := [.al 1000, .q []]) (E := [.al ((fun p => .pointer (some ⟨p, 0, none⟩)), _) 1000, .q0 _]) rfl (by kernel_rfl) rfl rfl
      intro th hge hne
      refine Seg.step _ rfl ⟨by rfl, fun U hU => ?_⟩ ?_
      · go_simp; exact vp_alloc rfl rfl rfl
      refine Seg.sa ?_
      refine Seg.sq ?_
      refine Seg.stop (fun U1 hU hk => ?_)
      have nb0 := hge 0 _ _ rfl
      have rb0 := (hk 0 _ _ rfl trivial).1.2 (by simp)
      clear hk hge hne
      generalize th (0 + 0) = p0_0 at *
      dsimp only at rb0
      have r_p0_0 := rb0
      clear rb0
      have n_p0_0 := nb0
      clear nb0
      have sz1 := hU.size
      have hB : Below w.heap.size w U1 := hU
      clear hU
      go_wp2_with fail
      refine (kD _).mono ?_
      rintro e V ⟨rfl, hv⟩
      obtain rfl : U1 = V := hv.symm
      clear hv
      go_wp2_with fail
      refine (kE _).mono ?_
      rintro e V ⟨rfl, hv⟩
      obtain rfl : U1 = V := hv.symm
      clear hv
      have nP : w.heap.size ≤ p0_0 := n_p0_0
      go_upto_region 5 with (fail)
      apply wp_region_seg (w := U1) (S := [.q [], .q [], .q [], .q [], .q [], .q [], .q [], .q [], .q [], .al 10, .st 9 []]) (E := [.q0 _, .c0 _, .q0 _, .q0 _, .c0 _, .q0 _, .q0 _, .c0 _, .q0 _, .al ((fun p => .pointer (some ⟨p, 0, none⟩)), _) 10, .s0 9 (.cells _ _)]) (by kernel_rfl) rfl (by kernel_rfl) rfl rfl
      intro th hge hne
      refine Seg.sq ?_
      refine Seg.step _ rfl (Or.inl ⟨by rfl, fun U hU => ?_⟩) ?_
      · go_simp
        refine vp_calld (k1.out _)
      refine Seg.sa ?_
      refine Seg.sq ?_
      refine Seg.sq ?_
      refine Seg.step _ rfl (Or.inl ⟨by rfl, fun U hU => ?_⟩) ?_
      · go_simp
        refine vp_calld (k2.out _)
      refine Seg.sa ?_
      refine Seg.sq ?_
      refine Seg.sq ?_
      refine Seg.step _ rfl (Or.inl ⟨by rfl, fun U hU => ?_⟩) ?_
      · go_simp
        refine vp_calld (k3.out _)
      refine Seg.sa ?_
      refine Seg.sq ?_
      refine Seg.step _ rfl ⟨by rfl, fun U hU => ?_⟩ ?_
      · go_simp; exact vp_alloc rfl rfl rfl
      refine Seg.sa ?_
      refine Seg.step _ rfl ⟨by rfl, fun U z k hz hU hc => ?_⟩ ?_
      · have hz2 := Option.some.inj hz
        cases hz2; clear hz
        exact vp_store_agg _ _ _ rfl hc rfl rfl (by kernel_rfl) rfl (by rfl)
      refine Seg.sa ?_
      refine Seg.stop (fun U2 hU hk => ?_)
      have nb9 := hge 9 _ _ rfl
      have rb9 := (hk 9 _ 10 rfl trivial).1.1 trivial _ (Nat.zero_le _) rfl
      clear hk hge hne
      generalize th (0 + 9) = p5_9 at *
      simp only [Ent.obj] at rb9
      have df_p0_0_p5_9 : p0_0 ≠ p5_9 := by have := held_lt r_p0_0; omega
      replace r_p0_0 := held_after hU r_p0_0
      have r_p5_9 := rb9
      clear rb9
      have n_p5_9 := nb9
      clear nb9
      have sz2 := hU.size
      replace hB := bthen hB hU
      clear hU
      have q0 := held_cell r_p5_9 0 _ rfl
      have q1 := held_cell r_p5_9 1 _ rfl
      have q2 := held_cell r_p5_9 2 _ rfl
      have q3 := held_cell r_p5_9 3 _ rfl
      have q4 := held_cell r_p5_9 4 _ rfl
      have qf0 := held_free r_p5_9 0
      have qf1 := held_free r_p5_9 1
      have qf2 := held_free r_p5_9 2
      have qf3 := held_free r_p5_9 3
      have qf4 := held_free r_p5_9 4
      obtain ⟨S1, hS1, s1, o1⟩ := set1 r_p5_9 4 (.int .i64 (10 * ((y : Int) - 48)))
      have rz := heldC o1 (df_p0_0_p5_9) r_p0_0
      have hB1 := belowC hB o1 (by omega)
      clear o1 hB r_p5_9 r_p0_0
      have hB := hB1
      have r_p5_9 := s1
      have r_p0_0 := rz
      clear hB1 s1 rz
      replace hB := hid hB
      replace r_p5_9 := hid r_p5_9
      replace r_p0_0 := hid r_p0_0
      go_upto_region 10 with (fail)
      replace hB := hB.out
      replace r_p5_9 := r_p5_9.out
      replace r_p0_0 := r_p0_0.out
      replace r_p5_9 : S1.heap[p5_9]? = some (.cells #[.bool true, .int .i64 A, .int .i64 B, .int .i64 C, .int .i64 (10 * ((y : Int) - 48))] 23 (0, 0)) := r_p5_9
      cases em : mayTB true A B C (10 * ((y : Int) - 48))
      · rw [em] at kM hV
        rw [if_neg (by simp)] at hV
        replace hV := hid hV
        replace kM := hid kM
        apply wp_region_seg0 (w := S1) (S := [.q [], .q [], .q []]) (E := [.q0 _, .c0 _, .q0 _]) rfl (by kernel_rfl) rfl rfl
        intro th hge hne
        refine Seg.sq ?_ (ht := Or.inl ⟨by rfl, fun U hU => vp_quiet (by (have h0 := held_cell (held_after hU.1 r_p5_9) 0 _ rfl; have h1 := held_cell (held_after hU.1 r_p5_9) 1 _ rfl; have h2 := held_cell (held_after hU.1 r_p5_9) 2 _ rfl; have h3 := held_cell (held_after hU.1 r_p5_9) 3 _ rfl; have h4 := held_cell (held_after hU.1 r_p5_9) 4 _ rfl; go_simp <;> exact rfl))⟩)
        refine Seg.step _ rfl (Or.inl ⟨by rfl, fun U hU => ?_⟩) ?_
        · go_simp
          refine vp_call (kM.out _)
        refine Seg.sa ?_
        refine Seg.sq ?_
        refine Seg.stop (fun U3 hU hk => ?_)
        clear hk hge hne
        replace r_p0_0 := held_after hU r_p0_0
        replace r_p5_9 := held_after hU r_p5_9
        have sz3 := hU.size
        replace hB := bthen hB hU
        clear hU
        go_upto_region 11 with (fail)
        have z0 := held_cell r_p0_0 0 _ rfl
        have z1 := held_cell r_p0_0 1 _ rfl
        have z2 := held_cell r_p0_0 2 _ rfl
        have z3 := held_cell r_p0_0 3 _ rfl
        have z4 := held_cell r_p0_0 4 _ rfl
        have g0 := held_free r_p0_0 0
        have g1 := held_free r_p0_0 1
        have g2 := held_free r_p0_0 2
        have g3 := held_free r_p0_0 3
        have g4 := held_free r_p0_0 4
        obtain ⟨W9, hW9, ya, yO⟩ := set5 r_p0_0 (.bool false) (.int .i64 0) (.int .i64 0) (.int .i64 0) (.int .i64 0)
        replace hB := belowC hB yO nP
        have ez0 := held_cell ya 0 _ rfl
        have ez1 := held_cell ya 1 _ rfl
        have ez2 := held_cell ya 2 _ rfl
        have ez3 := held_cell ya 3 _ rfl
        have ez4 := held_cell ya 4 _ rfl
        clear yO ya
        replace hB := hid hB
        go_wp2_with fail
        refine bodyPost_ret (v := .tuple #[.agg #[.bool false, .int .i64 0, .int .i64 0, .int .i64 0, .int .i64 0], .int .i64 5]) (by simp [results, Tryz.results94, go_sem, ez0, ez1, ez2, ez3, ez4]) rfl ⟨?_, hB.out⟩
        rw [hV.out]; rfl
      · rw [em] at kM hV
        rw [if_pos rfl] at hV
        replace hV := hid hV
        replace kM := hid kM
        apply wp_region_seg0 (w := S1) (S := [.q [], .q [], .q []]) (E := [.q0 _, .c0 _, .q0 _]) rfl (by kernel_rfl) rfl rfl
        intro th hge hne
        refine Seg.sq ?_ (ht := Or.inl ⟨by rfl, fun U hU => vp_quiet (by (have h0 := held_cell (held_after hU.1 r_p5_9) 0 _ rfl; have h1 := held_cell (held_after hU.1 r_p5_9) 1 _ rfl; have h2 := held_cell (held_after hU.1 r_p5_9) 2 _ rfl; have h3 := held_cell (held_after hU.1 r_p5_9) 3 _ rfl; have h4 := held_cell (held_after hU.1 r_p5_9) 4 _ rfl; go_simp <;> exact rfl))⟩)
        refine Seg.step _ rfl (Or.inl ⟨by rfl, fun U hU => ?_⟩) ?_
        · go_simp
          refine vp_call (kM.out _)
        refine Seg.sa ?_
        refine Seg.sq ?_
        refine Seg.stop (fun U3 hU hk => ?_)
        clear hk hge hne
        replace r_p0_0 := held_after hU r_p0_0
        replace r_p5_9 := held_after hU r_p5_9
        have sz3 := hU.size
        replace hB := bthen hB hU
        clear hU
        go_upto_region 12 with (fail)
        have x0 := held_cell r_p5_9 0 _ rfl
        have x1 := held_cell r_p5_9 1 _ rfl
        have x2 := held_cell r_p5_9 2 _ rfl
        have x3 := held_cell r_p5_9 3 _ rfl
        have x4 := held_cell r_p5_9 4 _ rfl
        have z0 := held_cell r_p0_0 0 _ rfl
        have z1 := held_cell r_p0_0 1 _ rfl
        have z2 := held_cell r_p0_0 2 _ rfl
        have z3 := held_cell r_p0_0 3 _ rfl
        have z4 := held_cell r_p0_0 4 _ rfl
        have g0 := held_free r_p0_0 0
        have g1 := held_free r_p0_0 1
        have g2 := held_free r_p0_0 2
        have g3 := held_free r_p0_0 3
        have g4 := held_free r_p0_0 4
        obtain ⟨W9, hW9, ya, yO⟩ := set5 r_p0_0 (.bool true) (.int .i64 A) (.int .i64 B) (.int .i64 C) (.int .i64 (10 * ((y : Int) - 48)))
        replace hB := belowC hB yO nP
        have ez0 := held_cell ya 0 _ rfl
        have ez1 := held_cell ya 1 _ rfl
        have ez2 := held_cell ya 2 _ rfl
        have ez3 := held_cell ya 3 _ rfl
        have ez4 := held_cell ya 4 _ rfl
        clear yO ya
        replace hB := hid hB
        go_wp2_with fail
        refine bodyPost_ret (v := .tuple #[.agg #[.bool true, .int .i64 A, .int .i64 B, .int .i64 C, .int .i64 (10 * ((y : Int) - 48))], .int .i64 0]) (by simp [results, Tryz.results94, go_sem, ez0, ez1, ez2, ez3, ez4]) rfl ⟨?_, hB.out⟩
        rw [hV.out]
  have hz9 : s.size = 9 := by omega
  have hz8 := hz
  clear hz
  have hz := hz9
  obtain ⟨x, y, z, rfl⟩ := len3 (l := r) (by omega)
  obtain rfl : x = 46 := c0
  have ed : ([46, y, z] : List Nat).drop 1 = [y, z] := rfl
  rw [ed] at kE e7
  have eA : dAll [y, z] = (dgB y && dgB z) := by unfold dAll; simp
  rw [eA] at kE
  rw [hz] at kE
  have i9 : (s.size : Int) = 9 := by omega
  have eh : hunS [46, y, z] = h2 y z := rfl
  rw [eh] at hV
  unfold h2 at hV
  clear eh ed eA c8 c9 hz8 hz9
  cases hy : (dgB y && dgB z)
  · rw [hy] at kE hV
    rw [if_neg (by simp)] at hV
    replace hV := hid hV
    clear hr e2 e4 e7 hy
    go_enter Tryz.func94, Tryz.ntmps94
    go_upto_region 0 with (fail)
    apply wp_region_seg0 (w := w) (S := [.al 1000, .q []]) (E := [.al ((fun p => .pointer (some ⟨p, 0, none⟩)), _) 1000, .q0 _]) rfl (by kernel_rfl) rfl rfl
    intro th hge hne
    refine Seg.step _ rfl ⟨by rfl, fun U hU => ?_⟩ ?_
    · go_simp; exact vp_alloc rfl rfl rfl
    refine Seg.sa ?_
    refine Seg.sq ?_
    refine Seg.stop (fun U1 hU hk => ?_)
    have nb0 := hge 0 _ _ rfl
    have rb0 := (hk 0 _ _ rfl trivial).1.2 (by simp)
    clear hk hge hne
    generalize th (0 + 0) = p0_0 at *
    dsimp only at rb0
    have r_p0_0 := rb0
    clear rb0
    have n_p0_0 := nb0
    clear nb0
    have sz1 := hU.size
    have hB : Below w.heap.size w U1 := hU
    clear hU
    have nP : w.heap.size ≤ p0_0 := n_p0_0
    go_wp2_with fail
    refine (kD _).mono ?_
    rintro e V ⟨rfl, rfl⟩
    go_wp2_with fail
    refine (kE _).mono ?_
    rintro e V ⟨rfl, rfl⟩
    go_upto_region 4 with (fail)
    have z0 := held_cell r_p0_0 0 _ rfl
    have z1 := held_cell r_p0_0 1 _ rfl
    have z2 := held_cell r_p0_0 2 _ rfl
    have z3 := held_cell r_p0_0 3 _ rfl
    have z4 := held_cell r_p0_0 4 _ rfl
    have g0 := held_free r_p0_0 0
    have g1 := held_free r_p0_0 1
    have g2 := held_free r_p0_0 2
    have g3 := held_free r_p0_0 3
    have g4 := held_free r_p0_0 4
    obtain ⟨W9, hW9, ya, yO⟩ := set5 r_p0_0 (.bool false) (.int .i64 0) (.int .i64 0) (.int .i64 0) (.int .i64 0)
    replace hB := belowC hB yO nP
    have ez0 := held_cell ya 0 _ rfl
    have ez1 := held_cell ya 1 _ rfl
    have ez2 := held_cell ya 2 _ rfl
    have ez3 := held_cell ya 3 _ rfl
    have ez4 := held_cell ya 4 _ rfl
    clear yO ya
    replace hB := hid hB
    go_wp2_with fail
    refine bodyPost_ret (v := .tuple #[.agg #[.bool false, .int .i64 0, .int .i64 0, .int .i64 0, .int .i64 0], .int .i64 3]) (by simp [results, Tryz.results94, go_sem, ez0, ez1, ez2, ez3, ez4]) rfl ⟨?_, hB.out⟩
    rw [hV.out]; rfl
  · have yb : dgB y = true ∧ dgB z = true := by simpa using hy
    rw [hy] at kE hV
    have k4 := fun v : World => rpair_any (s.extract 7 s.size) y z [] v e7 yb.1 yb.2
    rw [hz] at k4
    have y4 := pair_bd yb.1 yb.2
    simp only [Bool.true_and, if_true] at hV
    generalize pairN y z = D at *
    clear hy e7 yb
    have k1 := fun v : World => rpair_any s a b _ v hr da db
    have k2 := fun v : World => rpair_any (s.extract 2 s.size) c d _ v e2 dc dd
    have k3 := fun v : World => rpair_any (s.extract 4 s.size) e f _ v e4 de df
    have y0 := pair_bd da db
    have y1 := pair_bd dc dd
    have y2 := pair_bd de df
    have kM := fun v : World => rmay_any true (pairN a b) (pairN c d) (pairN e f) D v
    rw [hz] at k2 k3
    generalize pairN a b = A at *
    generalize pairN c d = B at *
    generalize pairN e f = C at *
    replace k1 := hid k1
    replace k2 := hid k2
    replace k3 := hid k3
    clear e2 e4 hr da db dc dd de df hrl
    go_enter Tryz.func94, Tryz.ntmps94
    go_upto_region 0 with (fail)
    apply wp_region_seg0 (w := w) (S := [.al 1000, .q []]) (E := [.al ((fun p => .pointer (some ⟨p, 0, none⟩)), _) 1000, .q0 _]) rfl (by kernel_rfl) rfl rfl
    intro th hge hne
    refine Seg.step _ rfl ⟨by rfl, fun U hU => ?_⟩ ?_
    · go_simp; exact vp_alloc rfl rfl rfl
    refine Seg.sa ?_
    refine Seg.sq ?_
    refine Seg.stop (fun U1 hU hk => ?_)
    have nb0 := hge 0 _ _ rfl
    have rb0 := (hk 0 _ _ rfl trivial).1.2 (by simp)
    clear hk hge hne
    generalize th (0 + 0) = p0_0 at *
    dsimp only at rb0
    have r_p0_0 := rb0
    clear rb0
    have n_p0_0 := nb0
    clear nb0
    have sz1 := hU.size
    have hB : Below w.heap.size w U1 := hU
    clear hU
    go_wp2_with fail
    refine (kD _).mono ?_
    rintro e V ⟨rfl, hv⟩
    obtain rfl : U1 = V := hv.symm
    clear hv
    go_wp2_with fail
    refine (kE _).mono ?_
    rintro e V ⟨rfl, hv⟩
    obtain rfl : U1 = V := hv.symm
    clear hv
    have nP : w.heap.size ≤ p0_0 := n_p0_0
    go_upto_region 5 with (fail)
    apply wp_region_seg (w := U1) (S := [.q [], .q [], .q [], .q [], .q [], .q [], .q [], .q [], .q [], .al 10, .st 9 []]) (E := [.q0 _, .c0 _, .q0 _, .q0 _, .c0 _, .q0 _, .q0 _, .c0 _, .q0 _, .al ((fun p => .pointer (some ⟨p, 0, none⟩)), _) 10, .s0 9 (.cells _ _)]) (by kernel_rfl) rfl (by kernel_rfl) rfl rfl
    intro th hge hne
    refine Seg.sq ?_
    refine Seg.step _ rfl (Or.inl ⟨by rfl, fun U hU => ?_⟩) ?_
    · go_simp
      refine vp_calld (k1.out _)
    refine Seg.sa ?_
    refine Seg.sq ?_
    refine Seg.sq ?_
    refine Seg.step _ rfl (Or.inl ⟨by rfl, fun U hU => ?_⟩) ?_
    · go_simp
      refine vp_calld (k2.out _)
    refine Seg.sa ?_
    refine Seg.sq ?_
    refine Seg.sq ?_
    refine Seg.step _ rfl (Or.inl ⟨by rfl, fun U hU => ?_⟩) ?_
    · go_simp
      refine vp_calld (k3.out _)
    refine Seg.sa ?_
    refine Seg.sq ?_
    refine Seg.step _ rfl ⟨by rfl, fun U hU => ?_⟩ ?_
    · go_simp; exact vp_alloc rfl rfl rfl
    refine Seg.sa ?_
    refine Seg.step _ rfl ⟨by rfl, fun U z k hz hU hc => ?_⟩ ?_
    · have hz2 := Option.some.inj hz
      cases hz2; clear hz
      exact vp_store_agg _ _ _ rfl hc rfl rfl (by kernel_rfl) rfl (by rfl)
    refine Seg.sa ?_
    refine Seg.stop (fun U2 hU hk => ?_)
    have nb9 := hge 9 _ _ rfl
    have rb9 := (hk 9 _ 10 rfl trivial).1.1 trivial _ (Nat.zero_le _) rfl
    clear hk hge hne
    generalize th (0 + 9) = p5_9 at *
    simp only [Ent.obj] at rb9
    have df_p0_0_p5_9 : p0_0 ≠ p5_9 := by have := held_lt r_p0_0; omega
    replace r_p0_0 := held_after hU r_p0_0
    have r_p5_9 := rb9
    clear rb9
    have n_p5_9 := nb9
    clear nb9
    have sz2 := hU.size
    replace hB := bthen hB hU
    clear hU
    go_upto_region 9 with (fail)
    go_wp2_with fail
    refine (k4 _).mono ?_
    rintro e V2 ⟨rfl, j, rfl⟩
    replace r_p5_9 : (U2.drewN j).heap[p5_9]? = _ := r_p5_9
    replace r_p0_0 : (U2.drewN j).heap[p0_0]? = _ := r_p0_0
    replace hB := below_drewN hB j
    generalize U2.drewN j = V2 at *
    have q0 := held_cell r_p5_9 0 _ rfl
    have q1 := held_cell r_p5_9 1 _ rfl
    have q2 := held_cell r_p5_9 2 _ rfl
    have q3 := held_cell r_p5_9 3 _ rfl
    have q4 := held_cell r_p5_9 4 _ rfl
    have qf0 := held_free r_p5_9 0
    have qf1 := held_free r_p5_9 1
    have qf2 := held_free r_p5_9 2
    have qf3 := held_free r_p5_9 3
    have qf4 := held_free r_p5_9 4
    obtain ⟨S1, hS1, s1, o1⟩ := set1 r_p5_9 4 (.int .i64 D)
    have rz := heldC o1 (df_p0_0_p5_9) r_p0_0
    have hB1 := belowC hB o1 (by omega)
    clear o1 hB r_p5_9 r_p0_0
    have hB := hB1
    have r_p5_9 := s1
    have r_p0_0 := rz
    clear hB1 s1 rz
    replace hB := hid hB
    replace r_p5_9 := hid r_p5_9
    replace r_p0_0 := hid r_p0_0
    go_upto_region 10 with (fail)
    replace hB := hB.out
    replace r_p5_9 := r_p5_9.out
    replace r_p0_0 := r_p0_0.out
    replace r_p5_9 : S1.heap[p5_9]? = some (.cells #[.bool true, .int .i64 A, .int .i64 B, .int .i64 C, .int .i64 D] 23 (0, 0)) := r_p5_9
    cases em : mayTB true A B C D
    · rw [em] at kM hV
      rw [if_neg (by simp)] at hV
      replace hV := hid hV
      replace kM := hid kM
      apply wp_region_seg0 (w := S1) (S := [.q [], .q [], .q []]) (E := [.q0 _, .c0 _, .q0 _]) rfl (by kernel_rfl) rfl rfl
      intro th hge hne
      refine Seg.sq ?_ (ht := Or.inl ⟨by rfl, fun U hU => vp_quiet (by (have h0 := held_cell (held_after hU.1 r_p5_9) 0 _ rfl; have h1 := held_cell (held_after hU.1 r_p5_9) 1 _ rfl; have h2 := held_cell (held_after hU.1 r_p5_9) 2 _ rfl; have h3 := held_cell (held_after hU.1 r_p5_9) 3 _ rfl; have h4 := held_cell (held_after hU.1 r_p5_9) 4 _ rfl; go_simp <;> exact rfl))⟩)
      refine Seg.step _ rfl (Or.inl ⟨by rfl, fun U hU => ?_⟩) ?_
      · go_simp
        refine vp_call (kM.out _)
      refine Seg.sa ?_
      refine Seg.sq ?_
      refine Seg.stop (fun U3 hU hk => ?_)
      clear hk hge hne
      replace r_p0_0 := held_after hU r_p0_0
      replace r_p5_9 := held_after hU r_p5_9
      have sz3 := hU.size
      replace hB := bthen hB hU
      clear hU
      go_upto_region 11 with (fail)
      have z0 := held_cell r_p0_0 0 _ rfl
      have z1 := held_cell r_p0_0 1 _ rfl
      have z2 := held_cell r_p0_0 2 _ rfl
      have z3 := held_cell r_p0_0 3 _ rfl
      have z4 := held_cell r_p0_0 4 _ rfl
      have g0 := held_free r_p0_0 0
      have g1 := held_free r_p0_0 1
      have g2 := held_free r_p0_0 2
      have g3 := held_free r_p0_0 3
      have g4 := held_free r_p0_0 4
      obtain ⟨W9, hW9, ya, yO⟩ := set5 r_p0_0 (.bool false) (.int .i64 0) (.int .i64 0) (.int .i64 0) (.int .i64 0)
      replace hB := belowC hB yO nP
      have ez0 := held_cell ya 0 _ rfl
      have ez1 := held_cell ya 1 _ rfl
      have ez2 := held_cell ya 2 _ rfl
      have ez3 := held_cell ya 3 _ rfl
      have ez4 := held_cell ya 4 _ rfl
      clear yO ya
      replace hB := hid hB
      go_wp2_with fail
      refine bodyPost_ret (v := .tuple #[.agg #[.bool false, .int .i64 0, .int .i64 0, .int .i64 0, .int .i64 0], .int .i64 5]) (by simp [results, Tryz.results94, go_sem, ez0, ez1, ez2, ez3, ez4]) rfl ⟨?_, hB.out⟩
      rw [hV.out]; rfl
    · rw [em] at kM hV
      rw [if_pos rfl] at hV
      replace hV := hid hV
      replace kM := hid kM
      apply wp_region_seg0 (w := S1) (S := [.q [], .q [], .q []]) (E := [.q0 _, .c0 _, .q0 _]) rfl (by kernel_rfl) rfl rfl
      intro th hge hne
      refine Seg.sq ?_ (ht := Or.inl ⟨by rfl, fun U hU => vp_quiet (by (have h0 := held_cell (held_after hU.1 r_p5_9) 0 _ rfl; have h1 := held_cell (held_after hU.1 r_p5_9) 1 _ rfl; have h2 := held_cell (held_after hU.1 r_p5_9) 2 _ rfl; have h3 := held_cell (held_after hU.1 r_p5_9) 3 _ rfl; have h4 := held_cell (held_after hU.1 r_p5_9) 4 _ rfl; go_simp <;> exact rfl))⟩)
      refine Seg.step _ rfl (Or.inl ⟨by rfl, fun U hU => ?_⟩) ?_
      · go_simp
        refine vp_call (kM.out _)
      refine Seg.sa ?_
      refine Seg.sq ?_
      refine Seg.stop (fun U3 hU hk => ?_)
      clear hk hge hne
      replace r_p0_0 := held_after hU r_p0_0
      replace r_p5_9 := held_after hU r_p5_9
      have sz3 := hU.size
      replace hB := bthen hB hU
      clear hU
      go_upto_region 12 with (fail)
      have x0 := held_cell r_p5_9 0 _ rfl
      have x1 := held_cell r_p5_9 1 _ rfl
      have x2 := held_cell r_p5_9 2 _ rfl
      have x3 := held_cell r_p5_9 3 _ rfl
      have x4 := held_cell r_p5_9 4 _ rfl
      have z0 := held_cell r_p0_0 0 _ rfl
      have z1 := held_cell r_p0_0 1 _ rfl
      have z2 := held_cell r_p0_0 2 _ rfl
      have z3 := held_cell r_p0_0 3 _ rfl
      have z4 := held_cell r_p0_0 4 _ rfl
      have g0 := held_free r_p0_0 0
      have g1 := held_free r_p0_0 1
      have g2 := held_free r_p0_0 2
      have g3 := held_free r_p0_0 3
      have g4 := held_free r_p0_0 4
      obtain ⟨W9, hW9, ya, yO⟩ := set5 r_p0_0 (.bool true) (.int .i64 A) (.int .i64 B) (.int .i64 C) (.int .i64 D)
      replace hB := belowC hB yO nP
      have ez0 := held_cell ya 0 _ rfl
      have ez1 := held_cell ya 1 _ rfl
      have ez2 := held_cell ya 2 _ rfl
      have ez3 := held_cell ya 3 _ rfl
      have ez4 := held_cell ya 4 _ rfl
      clear yO ya
      replace hB := hid hB
      go_wp2_with fail
      refine bodyPost_ret (v := .tuple #[.agg #[.bool true, .int .i64 A, .int .i64 B, .int .i64 C, .int .i64 D], .int .i64 0]) (by simp [results, Tryz.results94, go_sem, ez0, ez1, ez2, ez3, ez4]) rfl ⟨?_, hB.out⟩
      rw [hV.out]

end Go.Proofs.YthnoomdhgbaecaaGreatDoor
