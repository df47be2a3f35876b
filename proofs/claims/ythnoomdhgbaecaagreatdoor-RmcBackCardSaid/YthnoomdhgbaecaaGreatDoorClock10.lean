/- The papers' texts of numbers. -/
import Derived.Test.YthnoomdhgbaecaaGreatDoorClock9
import Derived.Deep.DeepCutAuto
namespace Go.Proofs.YthnoomdhgbaecaaGreatDoor

open Go.ChangeShapes Go.WideShapes Go.ChangeAt Go.RowKit

set_option linter.unusedVariables false

theorem sl_one24 (w : World) (x : Int) (E : TypeId) : Sl .u8 (w.alloc (.cells #[.int .u8 x] E)) (some ⟨w.heap.size, 0, none⟩) 1 1 [x] := ⟨rfl, Nat.le_refl _, by unfold maxLen; omega, (fun h => nomatch h), rd_one w .u8 x E⟩
def strL (v : Value) : Nat := match v with | .string t => t.size | _ => 0
set_option maxRecDepth 100000 in
set_option maxHeartbeats 4000000 in
theorem rdig2_any (n : Int) (w : World) (h0 : 0 ≤ n) (h1 : n ≤ 99) : Calls Tryz.prog 106 #[.int .i64 n, .int .i64 2] w fun e w' => e = .returned (.string (d2 n)) ∧ Below w.heap.size w w' := by
  obtain ⟨R, hR⟩ : ∃ R, d2 n = R := ⟨_, rfl⟩
  rw [hR]
  replace hR := hid hR
  have e1 : n / 10 / 10 = 0 := by omega
  go_enter Tryz.func106, Tryz.ntmps106
  go_wp2_with fail
  go_loopw [0, 5] (fun x s wr => ((x = .int .i64 n ∧ s = .string { data := #[] }) ∨ (x = .int .i64 (n / 10) ∧ s = .string (textOf [48 + n % 10])) ∨ (x = .int .i64 0 ∧ s = .string R)) ∧ Below w.heap.size w wr) (fun _ s _ => 3 - strL s)
  case atStart => exact ⟨.inl ⟨rfl, rfl⟩, Below.refl _ _⟩
  case round =>
    have hRz : R.size = 2 := by rw [← hR.out]; exact d2_size n
    replace hRz := hid hRz
    obtain ⟨⟨rfl, rfl⟩ | ⟨rfl, rfl⟩ | ⟨rfl, rfl⟩, hB⟩ := hrel
    · have q2 : 0 ≤ n % 10 ∧ n % 10 ≤ 9 := by omega
      have hcv := (sl_one24 wr (48 + n % 10) 5).text (P := Tryz.prog) 108 9 5 rfl rfl rfl
      have zA := textOf_size [48 + n % 10]
      generalize hA : textOf [48 + n % 10] = A at *
      replace hA := hid hA
      have z1 : A.size = 1 := zA
      clear zA
      have y1 : ¬ (9223372036854775807 < A.size) := by omega
      replace z1 := hid z1
      have hAe : A ++ { data := #[] } = A := by rw [← hA.out, ← textOf_nil, textOf_app]; rfl
      go_wp2_with fail
      all_goals go_roundw
      all_goals first | exact ⟨.inr (.inl ⟨rfl, rfl⟩), balloc hB (Nat.le_refl _) _⟩ | (have := z1.out; show 3 - A.size < 3 - 0; omega)
    · have q2 : 0 ≤ n % 10 ∧ n % 10 ≤ 9 := by omega
      have q3 : 0 ≤ n / 10 ∧ n / 10 ≤ 9 := by omega
      have e2 : n / 10 % 10 = n / 10 := by omega
      have hcv := (sl_one24 wr (48 + n / 10) 5).text (P := Tryz.prog) 108 9 5 rfl rfl rfl
      have zA := textOf_size [48 + n % 10]
      have zB := textOf_size [48 + n / 10]
      have hAB : textOf [48 + n / 10] ++ textOf [48 + n % 10] = R := by rw [textOf_app, ← hR.out]; rfl
      generalize textOf [48 + n % 10] = A at *
      generalize textOf [48 + n / 10] = B at *
      have z1 : A.size = 1 := zA
      have z2 : B.size = 1 := zB
      clear zA zB
      have y1 : ¬ (9223372036854775807 < B.size + A.size) := by omega
      have y2 : (1 : Int) < 2 := by omega
      replace hAB := hid hAB
      go_wp2_with fail
      all_goals go_roundw
      all_goals first | exact ⟨.inr (.inr ⟨by rw [e1], by rw [hAB.out]⟩), balloc hB (Nat.le_refl _) _⟩ | (have := hRz.out; rw [hAB.out]; show 3 - R.size < 3 - A.size; omega)
    · have hRz2 := hRz.out
      go_wp2_with fail
      all_goals go_ret
      all_goals exact ⟨rfl, hB⟩
set_option maxRecDepth 100000 in
set_option maxHeartbeats 4000000 in
theorem rdig1_any (n : Int) (w : World) (h0 : 0 ≤ n) (h1 : n ≤ 9) : Calls Tryz.prog 106 #[.int .i64 n, .int .i64 1] w fun e w' => e = .returned (.string (d1 n)) ∧ Below w.heap.size w w' := by
  obtain ⟨R, hR⟩ : ∃ R, d1 n = R := ⟨_, rfl⟩
  rw [hR]
  replace hR := hid hR
  have e1 : n / 10 = 0 := by omega
  go_enter Tryz.func106, Tryz.ntmps106
  go_wp2_with fail
  go_loopw [0, 5] (fun x s wr => ((x = .int .i64 n ∧ s = .string { data := #[] }) ∨ (x = .int .i64 0 ∧ s = .string R)) ∧ Below w.heap.size w wr) (fun _ s _ => 3 - strL s)
  case atStart => exact ⟨.inl ⟨rfl, rfl⟩, Below.refl _ _⟩
  case round =>
    have hRz : R.size = 1 := by rw [← hR.out]; exact d1_size n
    replace hRz := hid hRz
    obtain ⟨⟨rfl, rfl⟩ | ⟨rfl, rfl⟩, hB⟩ := hrel
    · have q2 : 0 ≤ n % 10 ∧ n % 10 ≤ 9 := by omega
      have hcv := (sl_one24 wr (48 + n % 10) 5).text (P := Tryz.prog) 108 9 5 rfl rfl rfl
      have zA := textOf_size [48 + n % 10]
      generalize hA : textOf [48 + n % 10] = A at *
      replace hA := hid hA
      have z1 : A.size = 1 := zA
      clear zA
      have y1 : ¬ (9223372036854775807 < A.size) := by omega
      replace z1 := hid z1
      have hAe : A ++ { data := #[] } = A := by rw [← hA.out, ← textOf_nil, textOf_app]; rfl
      have e2 : n % 10 = n := by omega
      have hAR : A = R := by rw [← hA.out, ← hR.out, e2]; rfl
      replace hAR := hid hAR
      replace e2 := hid e2
      go_wp2_with fail
      all_goals go_roundw
      all_goals first | exact ⟨.inr ⟨by rw [e1], by rw [hAR.out]⟩, balloc hB (Nat.le_refl _) _⟩ | (have := z1.out; show 3 - A.size < 3 - 0; omega)
    · have hRz2 := hRz.out
      go_wp2_with fail
      all_goals go_ret
      all_goals exact ⟨rfl, hB⟩
theorem rtwo_any (n : Int) (w : World) (h0 : 0 ≤ n) (h1 : n ≤ 99) : Calls Tryz.prog 85 #[.int .i64 n] w fun e w' => e = .returned (.string (d2 n)) ∧ Below w.heap.size w w' := by
  have k := hid (fun v => rdig2_any n v h0 h1)
  go_enter Tryz.func85, Tryz.ntmps85
  go_wp2_with fail
  refine (k.out _).mono ?_
  rintro e V ⟨rfl, hst⟩
  go_wp2_with fail
  go_ret
  exact ⟨rfl, hst⟩
def dAll (l : List Nat) : Bool := l.all dgB
theorem sb_take_all {s : ByteArray} {k : Nat} (hk : k < s.size) (h : dAll ((sb s).take k) = true) : dAll ((sb s).take (k + 1)) = dgB ((sb s).getD k 0) := by
  unfold dAll at *
  have hl : k < (sb s).length := by rw [sb_len]; exact hk
  rw [List.take_succ_eq_append_getElem hl, List.all_append, h, List.getD_eq_getElem?_getD, List.getElem?_eq_getElem hl]
  simp
theorem all_no {l : List Nat} {k : Nat} (h : dAll (l.take k) = false) : dAll l = false := by
  unfold dAll at *
  rw [← List.take_append_drop k l, List.all_append, h]; rfl
set_option maxRecDepth 100000 in
set_option maxHeartbeats 4000000 in
theorem rdigits24_any (s : ByteArray) (w : World) (hs : s.size ≤ 100000) : Calls Tryz.prog 97 #[.string s] w fun e w' => e = .returned (.bool (dAll (sb s))) ∧ w' = w := by
  have hlen := sb_len s
  obtain ⟨R, hR⟩ : ∃ R, dAll (sb s) = R := ⟨_, rfl⟩
  rw [hR]
  replace hR := hid hR
  replace hlen := hid hlen
  go_enter Tryz.func97, Tryz.ntmps97
  go_wp2_with fail
  go_loopw [3] (fun x wr => ∃ k : Nat, k ≤ s.size ∧ x = .int .i64 k ∧ Go.RowKit.Hid (dAll ((sb s).take k) = true) ∧ wr = w) (fun x _ => s.size - (intOf x).toNat)
  case atStart => exact ⟨0, by omega, rfl, hid rfl, rfl⟩
  case round =>
    obtain ⟨k, hk, rfl, hd, rfl⟩ := hrel
    by_cases hlt : (k : Int) < s.size
    case neg =>
      obtain rfl : k = s.size := by omega
      obtain rfl : R = true := by rw [← hR.out]; have := hd.out; rwa [List.take_of_length_le (by rw [hlen.out]; exact Nat.le_refl _)] at this
      go_wp2_with fail
      go_ret
      exact ⟨rfl, rfl⟩
    have hlt2 : k < s.size := by omega
    have hg := hid (sb_get s k hlt2)
    have hn := hid (sb_take_all hlt2 hd.out)
    have kz : (0 : Int) ≤ k := by omega
    generalize hc : ((s[k]'hlt2).toNat) = c at *
    have hg2 : Go.RowKit.Hid ((sb s).getD k 0 = c) := hid hg.out
    clear hg
    by_cases c1 : c < 48
    · obtain rfl : R = false := by rw [← hR.out]; exact all_no (k := k + 1) (by rw [hn.out, hg2.out]; unfold dgB; simp; omega)
      have i1 : (c : Int) < 48 := by omega
      go_wp2_with fail
      all_goals go_ret
      all_goals exact ⟨rfl, rfl⟩
    · by_cases c2 : 57 < c
      · obtain rfl : R = false := by rw [← hR.out]; exact all_no (k := k + 1) (by rw [hn.out, hg2.out]; unfold dgB; simp; omega)
        have i1 : ¬ (c : Int) < 48 := by omega
        have i2 : (57 : Int) < c := by omega
        go_wp2_with fail
        all_goals go_ret
        all_goals exact ⟨rfl, rfl⟩
      · have i1 : ¬ (c : Int) < 48 := by omega
        have i2 : ¬ (57 : Int) < c := by omega
        go_wp2_with fail
        go_roundw
        case rel => exact ⟨k + 1, by omega, by simp, hid (by rw [hn.out, hg2.out]; exact dgB_yes (by omega) (by omega)), trivial⟩
        case measure => simp [intOf]; omega
set_option maxRecDepth 100000 in
set_option maxHeartbeats 2000000 in
theorem rpair_any (t : ByteArray) (a b : Nat) (r : List Nat) (w : World) (hl : sb t = a :: b :: r) (ha : dgB a = true) (hb : dgB b = true) : Calls Tryz.prog 98 #[.string t] w fun e w' => e = .returned (.int .i64 (pairN a b)) ∧ ∃ k, w' = w.drewN k := by
  have hz : 2 ≤ t.size := by rw [← sb_len, hl]; simp
  have g0 := sb_get t 0 (by omega)
  have g1 := sb_get t 1 (by omega)
  rw [hl] at g0 g1
  have g0 : (t[0]'(by omega)).toNat = a := g0.symm
  have g1 : (t[1]'(by omega)).toNat = b := g1.symm
  have x1 := dg_bd ha
  have x2 := dg_bd hb
  have z0 : (0 : Int) < t.size := by omega
  have z1 : (1 : Int) < t.size := by omega
  have hP : pairN a b = 10 * ((a : Int) - 48) + ((b : Int) - 48) := rfl
  obtain ⟨R, hR⟩ : ∃ R, pairN a b = R := ⟨_, rfl⟩
  rw [hR] at hP ⊢
  clear hR ha hb hl
  replace hP := hid hP
  go_enter Tryz.func98, Tryz.ntmps98
  go_wp2_with fail
  go_region
  go_wp2_with fail
  go_ret
  exact ⟨ret_int (by rw [hP.out]), _, rfl⟩
set_option maxRecDepth 100000 in
set_option maxHeartbeats 8000000 in
theorem rput_any (b : Bool) (h m s c : Int) (w : World) : Calls Tryz.prog 81 #[.agg #[.bool b, .int .i64 h, .int .i64 m, .int .i64 s, .int .i64 c]] w fun e w' => e = .returned (putV b h m s c) ∧ Below w.heap.size w w' := by
  have kM := fun (v : World) => rmay_any b h m s c v
  cases em : mayTB b h m s c
  · rw [em] at kM
    replace kM := hid kM
    have hV : putV b h m s c = .tuple #[.string { data := #[] }, .int .i64 5] := by unfold putV; rw [em]; rfl
    rw [hV]
    clear hV em
    go_enter Tryz.func81, Tryz.ntmps81
    go_upto_region 0 with (fail)
    apply wp_region_seg0 (w := w) (S := [.al 1000, .q [], .q []]) (E := [.al ((fun p => .pointer (some ⟨p, 0, none⟩)), _) 1000, .q0 _, .q0 _]) rfl (by kernel_rfl) rfl rfl
    intro th hge hne
    refine Seg.step _ rfl ⟨by rfl, fun U hU => ?_⟩ ?_
    · go_simp; exact vp_alloc rfl rfl rfl
    refine Seg.sa ?_
    refine Seg.sq ?_
    refine Seg.sq ?_
    refine Seg.stop (fun U1 hU hk => ?_)
    have nb0 := hge 0 _ _ rfl
    have rb0 := (hk 0 _ _ rfl trivial).1.2 (by simp)
    clear hk hge hne
    generalize th (0 + 0) = p0_0 at *
    dsimp only at rb0
    have r_p0_0 := rb0
    clear rb0
    have n_p0_0 := nb0
    clear nb0
    have sz1 := hU.size
    have hB : Below w.heap.size w U1 := hU
    clear hU
    go_upto_region 1 with (fail)
    apply wp_region_seg0 (w := U1) (S := [.q [], .q [], .q []]) (E := [.q0 _, .c0 _, .q0 _]) rfl (by kernel_rfl) rfl rfl
    intro th hge hne
    refine Seg.sq ?_ (ht := Or.inl ⟨by rfl, fun U hU => vp_quiet (by (have h0 := held_cell (held_after hU.1 r_p0_0) 0 _ rfl; have h1 := held_cell (held_after hU.1 r_p0_0) 1 _ rfl; have h2 := held_cell (held_after hU.1 r_p0_0) 2 _ rfl; have h3 := held_cell (held_after hU.1 r_p0_0) 3 _ rfl; have h4 := held_cell (held_after hU.1 r_p0_0) 4 _ rfl; go_simp <;> exact rfl))⟩)
    refine Seg.step _ rfl (Or.inl ⟨by rfl, fun U hU => ?_⟩) ?_
    · go_simp
      refine vp_call (kM.out _)
    refine Seg.sa ?_
    refine Seg.sq ?_
    refine Seg.stop (fun U2 hU hk => ?_)
    clear hk hge hne
    replace r_p0_0 := held_after hU r_p0_0
    have sz2 := hU.size
    replace hB := bthen hB hU
    clear hU
    go_wp2_with fail
    go_ret2
    exact ⟨rfl, hB⟩
  rw [em] at kM
  replace kM := hid kM
  cases b
  · have hV : putV false h m s c = .tuple #[.string { data := #[] }, .int .i64 0] := by unfold putV; rw [em]; rfl
    rw [hV]
    clear hV em
    go_enter Tryz.func81, Tryz.ntmps81
    go_upto_region 0 with (fail)
    apply wp_region_seg0 (w := w) (S := [.al 1000, .q [], .q []]) (E := [.al ((fun p => .pointer (some ⟨p, 0, none⟩)), _) 1000, .q0 _, .q0 _]) rfl (by kernel_rfl) rfl rfl
    intro th hge hne
    refine Seg.step _ rfl ⟨by rfl, fun U hU => ?_⟩ ?_
    · go_simp; exact vp_alloc rfl rfl rfl
    refine Seg.sa ?_
    refine Seg.sq ?_
    refine Seg.sq ?_
    refine Seg.stop (fun U1 hU hk => ?_)
    have nb0 := hge 0 _ _ rfl
    have rb0 := (hk 0 _ _ rfl trivial).1.2 (by simp)
    clear hk hge hne
    generalize th (0 + 0) = p0_0 at *
    dsimp only at rb0
    have r_p0_0 := rb0
    clear rb0
    have n_p0_0 := nb0
    clear nb0
    have sz1 := hU.size
    have hB : Below w.heap.size w U1 := hU
    clear hU
    go_upto_region 1 with (fail)
    apply wp_region_seg0 (w := U1) (S := [.q [], .q [], .q []]) (E := [.q0 _, .c0 _, .q0 _]) rfl (by kernel_rfl) rfl rfl
    intro th hge hne
    refine Seg.sq ?_ (ht := Or.inl ⟨by rfl, fun U hU => vp_quiet (by (have h0 := held_cell (held_after hU.1 r_p0_0) 0 _ rfl; have h1 := held_cell (held_after hU.1 r_p0_0) 1 _ rfl; have h2 := held_cell (held_after hU.1 r_p0_0) 2 _ rfl; have h3 := held_cell (held_after hU.1 r_p0_0) 3 _ rfl; have h4 := held_cell (held_after hU.1 r_p0_0) 4 _ rfl; go_simp <;> exact rfl))⟩)
    refine Seg.step _ rfl (Or.inl ⟨by rfl, fun U hU => ?_⟩) ?_
    · go_simp
      refine vp_call (kM.out _)
    refine Seg.sa ?_
    refine Seg.sq ?_
    refine Seg.stop (fun U2 hU hk => ?_)
    clear hk hge hne
    replace r_p0_0 := held_after hU r_p0_0
    have sz2 := hU.size
    replace hB := bthen hB hU
    clear hU
    go_upto_region 3 with (fail)
    apply wp_region_seg0 (w := U2) (S := [.q [], .q [], .q []]) (E := [.q0 _, .q0 _, .q0 _]) rfl (by kernel_rfl) rfl rfl
    intro th hge hne
    refine Seg.sq ?_
    refine Seg.sq ?_ (ht := Or.inl ⟨by rfl, fun U hU => vp_quiet (by (have h0 := held_cell (held_after hU.1 r_p0_0) 0 _ rfl; go_simp <;> exact rfl))⟩)
    refine Seg.sq ?_
    refine Seg.stop (fun U3 hU hk => ?_)
    clear hk hge hne
    replace r_p0_0 := held_after hU r_p0_0
    have sz3 := hU.size
    replace hB := bthen hB hU
    clear hU
    go_wp2_with fail
    go_ret2
    exact ⟨rfl, hB⟩
  obtain ⟨h1, h2, m1, m2, s1, s2, c1, c2⟩ := may_in em
  have hV : putV true h m s c = .tuple #[.string (putT h m s c), .int .i64 0] := by unfold putV; rw [em]; rfl
  rw [hV]
  have hT : putT h m s c = putT h m s c := rfl
  conv at hT => rhs; unfold putT
  obtain ⟨R, hR⟩ : ∃ R, putT h m s c = R := ⟨_, rfl⟩
  rw [hR] at hT ⊢
  clear hV em hR
  have k1 := hid (fun v => rtwo_any h v h1 (by omega))
  have k2 := hid (fun v => rtwo_any m v m1 (by omega))
  have k3 := hid (fun v => rtwo_any s v s1 (by omega))
  have k4 := hid (fun v => rtwo_any c v c1 (by omega))
  have k5 := hid (fun v => rdig1_any (c / 10) v (by omega) (by omega))
  have x4 := d2_one c
  have z1 := d2_size h
  have z2 := d2_size m
  have z3 := d2_size s
  have z4 := d2_size c
  have z5 := d1_size (c / 10)
  generalize d2 h = A at *
  generalize d2 m = B at *
  generalize d2 s = C at *
  generalize d2 c = D at *
  generalize d1 (c / 10) = E at *
  have y1 : ¬ (9223372036854775807 < A.size + B.size) := by omega
  have y2 : ¬ (9223372036854775807 < A.size + B.size + C.size) := by omega
  have zd : (A ++ B ++ C).size = 6 := by rw [ByteArray.size_append, ByteArray.size_append]; omega
  go_enter Tryz.func81, Tryz.ntmps81
  go_upto_region 0 with (fail)
  apply wp_region_seg0 (w := w) (S := [.al 1000, .q [], .q []]) (E := [.al ((fun p => .pointer (some ⟨p, 0, none⟩)), _) 1000, .q0 _, .q0 _]) rfl (by kernel_rfl) rfl rfl
  intro th hge hne
  refine Seg.step _ rfl ⟨by rfl, fun U hU => ?_⟩ ?_
  · go_simp; exact vp_alloc rfl rfl rfl
  refine Seg.sa ?_
  refine Seg.sq ?_
  refine Seg.sq ?_
  refine Seg.stop (fun U1 hU hk => ?_)
  have nb0 := hge 0 _ _ rfl
  have rb0 := (hk 0 _ _ rfl trivial).1.2 (by simp)
  clear hk hge hne
  generalize th (0 + 0) = p0_0 at *
  dsimp only at rb0
  have r_p0_0 := rb0
  clear rb0
  have n_p0_0 := nb0
  clear nb0
  have sz1 := hU.size
  have hB : Below w.heap.size w U1 := hU
  clear hU
  go_upto_region 1 with (fail)
  apply wp_region_seg0 (w := U1) (S := [.q [], .q [], .q []]) (E := [.q0 _, .c0 _, .q0 _]) rfl (by kernel_rfl) rfl rfl
  intro th hge hne
  refine Seg.sq ?_ (ht := Or.inl ⟨by rfl, fun U hU => vp_quiet (by (have h0 := held_cell (held_after hU.1 r_p0_0) 0 _ rfl; have h1 := held_cell (held_after hU.1 r_p0_0) 1 _ rfl; have h2 := held_cell (held_after hU.1 r_p0_0) 2 _ rfl; have h3 := held_cell (held_after hU.1 r_p0_0) 3 _ rfl; have h4 := held_cell (held_after hU.1 r_p0_0) 4 _ rfl; go_simp <;> exact rfl))⟩)
  refine Seg.step _ rfl (Or.inl ⟨by rfl, fun U hU => ?_⟩) ?_
  · go_simp
    refine vp_call (kM.out _)
  refine Seg.sa ?_
  refine Seg.sq ?_
  refine Seg.stop (fun U2 hU hk => ?_)
  clear hk hge hne
  replace r_p0_0 := held_after hU r_p0_0
  have sz2 := hU.size
  replace hB := bthen hB hU
  clear hU
  go_upto_region 3 with (fail)
  apply wp_region_seg0 (w := U2) (S := [.q [], .q [], .q []]) (E := [.q0 _, .q0 _, .q0 _]) rfl (by kernel_rfl) rfl rfl
  intro th hge hne
  refine Seg.sq ?_
  refine Seg.sq ?_ (ht := Or.inl ⟨by rfl, fun U hU => vp_quiet (by (have h0 := held_cell (held_after hU.1 r_p0_0) 0 _ rfl; go_simp <;> exact rfl))⟩)
  refine Seg.sq ?_
  refine Seg.stop (fun U3 hU hk => ?_)
  clear hk hge hne
  replace r_p0_0 := held_after hU r_p0_0
  have sz3 := hU.size
  replace hB := bthen hB hU
  clear hU
  go_upto_region 5 with (fail)
  apply wp_region_seg (w := U3) (S := [.q [], .q [], .q [], .q [], .q [], .q [], .q [], .q [], .q [], .q [], .q [], .q []]) (E := [.q0 _, .q0 _, .c0 _, .q0 _, .q0 _, .c0 _, .q0 _, .q0 _, .q0 _, .c0 _, .q0 _, .q0 _]) (by kernel_rfl) rfl (by kernel_rfl) rfl rfl
  intro th hge hne
  refine Seg.sq ?_
  refine Seg.sq ?_ (ht := Or.inl ⟨by rfl, fun U hU => vp_quiet (by (have h0 := held_cell (held_after hU.1 r_p0_0) 1 _ rfl; go_simp <;> exact rfl))⟩)
  refine Seg.step _ rfl (Or.inl ⟨by rfl, fun U hU => ?_⟩) ?_
  · go_simp
    refine vp_call (k1.out _)
  refine Seg.sa ?_
  refine Seg.sq ?_
  refine Seg.sq ?_ (ht := Or.inl ⟨by rfl, fun U hU => vp_quiet (by (have h0 := held_cell (held_after hU.1 r_p0_0) 2 _ rfl; go_simp <;> exact rfl))⟩)
  refine Seg.step _ rfl (Or.inl ⟨by rfl, fun U hU => ?_⟩) ?_
  · go_simp
    refine vp_call (k2.out _)
  refine Seg.sa ?_
  refine Seg.sq ?_
  refine Seg.sq ?_
  refine Seg.sq ?_ (ht := Or.inl ⟨by rfl, fun U hU => vp_quiet (by (have h0 := held_cell (held_after hU.1 r_p0_0) 3 _ rfl; go_simp <;> exact rfl))⟩)
  refine Seg.step _ rfl (Or.inl ⟨by rfl, fun U hU => ?_⟩) ?_
  · go_simp
    refine vp_call (k3.out _)
  refine Seg.sa ?_
  refine Seg.sq ?_
  refine Seg.sq ?_
  refine Seg.stop (fun U4 hU hk => ?_)
  clear hk hge hne
  replace r_p0_0 := held_after hU r_p0_0
  have sz4 := hU.size
  replace hB := bthen hB hU
  clear hU
  go_upto_region 6 with (fail)
  generalize A ++ B ++ C = X at *
  clear y1 y2 z1 z2 z3 k1 k2 k3 kM
  have u0 := held_cell r_p0_0 0 _ rfl
  have u1 := held_cell r_p0_0 1 _ rfl
  have u2 := held_cell r_p0_0 2 _ rfl
  have u3 := held_cell r_p0_0 3 _ rfl
  have u4 := held_cell r_p0_0 4 _ rfl
  have y3 : ¬ (9223372036854775807 < X.size + 1) := by omega
  have y4 : ¬ (9223372036854775807 < X.size + 1 + D.size) := by omega
  have y5 : ¬ (9223372036854775807 < X.size + 1 + E.size) := by omega
  by_cases cz : c = 0
  · rw [if_pos cz] at hT
    replace hT := hid hT
    go_wp2_with fail
    go_ret2
    exact ⟨by rw [hT.out]; rfl, hB⟩
  rw [if_neg cz] at hT
  have cz0 : (c == 0) = false := by simpa using cz
  by_cases cy : c % 10 = 0
  · rw [if_pos cy] at hT
    replace hT := hid hT
    go_wp2_with fail
    refine (k5.out _).mono ?_
    rintro e V ⟨rfl, hst⟩
    have hB2 := bthen hB hst
    clear hB hst
    go_wp2_with fail
    go_ret2
    exact ⟨by rw [hT.out]; rfl, hB2⟩
  rw [if_neg cy] at hT
  replace hT := hid hT
  have cy0 : (c % 10 == 0) = false := by simpa using cy
  go_wp2_with fail
  refine (k4.out _).mono ?_
  rintro e V ⟨rfl, hst⟩
  have hB2 := bthen hB hst
  clear hB hst
  go_wp2_with fail
  go_ret2
  exact ⟨by rw [hT.out]; rfl, hB2⟩
set_option maxRecDepth 100000 in
set_option maxHeartbeats 8000000 in
theorem rputd_any (b : Bool) (d m y : Int) (w : World) : Calls Tryz.prog 41 #[.agg #[.bool b, .int .i64 d, .int .i64 m, .int .i64 y]] w fun e w' => e = .returned (putDt b d m y) ∧ Below w.heap.size w w' := by
  have kM := fun (v : World) => rmaydate_any b d m y v
  cases em : mayDB b d m y
  · rw [em] at kM
    replace kM := hid kM
    have hV : putDt b d m y = .tuple #[.string { data := #[] }, .int .i64 5] := by unfold putDt; rw [em]; rfl
    rw [hV]
    clear hV em
    go_enter Tryz.func41, Tryz.ntmps41
    go_upto_region 0 with (fail)
    apply wp_region_seg0 (w := w) (S := [.al 1000, .q [], .q []]) (E := [.al ((fun p => .pointer (some ⟨p, 0, none⟩)), _) 1000, .q0 _, .q0 _]) rfl (by kernel_rfl) rfl rfl
    intro th hge hne
    refine Seg.step _ rfl ⟨by rfl, fun U hU => ?_⟩ ?_
    · go_simp; exact vp_alloc rfl rfl rfl
    refine Seg.sa ?_
    refine Seg.sq ?_
    refine Seg.sq ?_
    refine Seg.stop (fun U1 hU hk => ?_)
    have nb0 := hge 0 _ _ rfl
    have rb0 := (hk 0 _ _ rfl trivial).1.2 (by simp)
    clear hk hge hne
    generalize th (0 + 0) = p0_0 at *
    dsimp only at rb0
    have r_p0_0 := rb0
    clear rb0
    have n_p0_0 := nb0
    clear nb0
    have sz1 := hU.size
    have hB : Below w.heap.size w U1 := hU
    clear hU
    go_upto_region 1 with (fail)
    apply wp_region_seg0 (w := U1) (S := [.q [], .q [], .q []]) (E := [.q0 _, .c0 _, .q0 _]) rfl (by kernel_rfl) rfl rfl
    intro th hge hne
    refine Seg.sq ?_ (ht := Or.inl ⟨by rfl, fun U hU => vp_quiet (by (have h0 := held_cell (held_after hU.1 r_p0_0) 0 _ rfl; have h1 := held_cell (held_after hU.1 r_p0_0) 1 _ rfl; have h2 := held_cell (held_after hU.1 r_p0_0) 2 _ rfl; have h3 := held_cell (held_after hU.1 r_p0_0) 3 _ rfl; go_simp <;> exact rfl))⟩)
    refine Seg.step _ rfl (Or.inl ⟨by rfl, fun U hU => ?_⟩) ?_
    · go_simp
      refine vp_call (kM.out _)
    refine Seg.sa ?_
    refine Seg.sq ?_
    refine Seg.stop (fun U2 hU hk => ?_)
    clear hk hge hne
    replace r_p0_0 := held_after hU r_p0_0
    have sz2 := hU.size
    replace hB := bthen hB hU
    clear hU
    go_wp2_with fail
    go_ret2
    exact ⟨rfl, hB⟩
  rw [em] at kM
  replace kM := hid kM
  cases b
  · have hV : putDt false d m y = .tuple #[.string { data := #[] }, .int .i64 0] := by unfold putDt; rw [em]; rfl
    rw [hV]
    clear hV em
    go_enter Tryz.func41, Tryz.ntmps41
    go_upto_region 0 with (fail)
    apply wp_region_seg0 (w := w) (S := [.al 1000, .q [], .q []]) (E := [.al ((fun p => .pointer (some ⟨p, 0, none⟩)), _) 1000, .q0 _, .q0 _]) rfl (by kernel_rfl) rfl rfl
    intro th hge hne
    refine Seg.step _ rfl ⟨by rfl, fun U hU => ?_⟩ ?_
    · go_simp; exact vp_alloc rfl rfl rfl
    refine Seg.sa ?_
    refine Seg.sq ?_
    refine Seg.sq ?_
    refine Seg.stop (fun U1 hU hk => ?_)
    have nb0 := hge 0 _ _ rfl
    have rb0 := (hk 0 _ _ rfl trivial).1.2 (by simp)
    clear hk hge hne
    generalize th (0 + 0) = p0_0 at *
    dsimp only at rb0
    have r_p0_0 := rb0
    clear rb0
    have n_p0_0 := nb0
    clear nb0
    have sz1 := hU.size
    have hB : Below w.heap.size w U1 := hU
    clear hU
    go_upto_region 1 with (fail)
    apply wp_region_seg0 (w := U1) (S := [.q [], .q [], .q []]) (E := [.q0 _, .c0 _, .q0 _]) rfl (by kernel_rfl) rfl rfl
    intro th hge hne
    refine Seg.sq ?_ (ht := Or.inl ⟨by rfl, fun U hU => vp_quiet (by (have h0 := held_cell (held_after hU.1 r_p0_0) 0 _ rfl; have h1 := held_cell (held_after hU.1 r_p0_0) 1 _ rfl; have h2 := held_cell (held_after hU.1 r_p0_0) 2 _ rfl; have h3 := held_cell (held_after hU.1 r_p0_0) 3 _ rfl; go_simp <;> exact rfl))⟩)
    refine Seg.step _ rfl (Or.inl ⟨by rfl, fun U hU => ?_⟩) ?_
    · go_simp
      refine vp_call (kM.out _)
    refine Seg.sa ?_
    refine Seg.sq ?_
    refine Seg.stop (fun U2 hU hk => ?_)
    clear hk hge hne
    replace r_p0_0 := held_after hU r_p0_0
    have sz2 := hU.size
    replace hB := bthen hB hU
    clear hU
    go_upto_region 3 with (fail)
    apply wp_region_seg0 (w := U2) (S := [.q [], .q [], .q []]) (E := [.q0 _, .q0 _, .q0 _]) rfl (by kernel_rfl) rfl rfl
    intro th hge hne
    refine Seg.sq ?_
    refine Seg.sq ?_ (ht := Or.inl ⟨by rfl, fun U hU => vp_quiet (by (have h0 := held_cell (held_after hU.1 r_p0_0) 0 _ rfl; go_simp <;> exact rfl))⟩)
    refine Seg.sq ?_
    refine Seg.stop (fun U3 hU hk => ?_)
    clear hk hge hne
    replace r_p0_0 := held_after hU r_p0_0
    have sz3 := hU.size
    replace hB := bthen hB hU
    clear hU
    go_wp2_with fail
    go_ret2
    exact ⟨rfl, hB⟩
  obtain ⟨d1, d2x, m1, m2, y1, y2⟩ := mayd_in em
  have hV : putDt true d m y = .tuple #[.string (d2 d ++ d2 m ++ d2 (y - 2000)), .int .i64 0] := by unfold putDt; rw [em]; rfl
  rw [hV]
  clear hV em
  have k1 := hid (fun v => rtwo_any d v (by omega) (by omega))
  have k2 := hid (fun v => rtwo_any m v (by omega) (by omega))
  have k3 := hid (fun v => rtwo_any (y - 2000) v (by omega) (by omega))
  have z1 := d2_size d
  have z2 := d2_size m
  have z3 := d2_size (y - 2000)
  have fy : IntKind.i64.wrap (y - 2000) = y - 2000 := by rw [IntKind.wrap_i64]; omega
  generalize d2 d = A at *
  generalize d2 m = B at *
  generalize d2 (y - 2000) = C at *
  have x1 : ¬ (9223372036854775807 < A.size + B.size) := by omega
  have x2 : ¬ (9223372036854775807 < A.size + B.size + C.size) := by omega
  go_enter Tryz.func41, Tryz.ntmps41
  go_upto_region 0 with (fail)
  apply wp_region_seg0 (w := w) (S := [.al 1000, .q [], .q []]) (E := [.al ((fun p => .pointer (some ⟨p, 0, none⟩)), _) 1000, .q0 _, .q0 _]) rfl (by kernel_rfl) rfl rfl
  intro th hge hne
  refine Seg.step _ rfl ⟨by rfl, fun U hU => ?_⟩ ?_
  · go_simp; exact vp_alloc rfl rfl rfl
  refine Seg.sa ?_
  refine Seg.sq ?_
  refine Seg.sq ?_
  refine Seg.stop (fun U1 hU hk => ?_)
  have nb0 := hge 0 _ _ rfl
  have rb0 := (hk 0 _ _ rfl trivial).1.2 (by simp)
  clear hk hge hne
  generalize th (0 + 0) = p0_0 at *
  dsimp only at rb0
  have r_p0_0 := rb0
  clear rb0
  have n_p0_0 := nb0
  clear nb0
  have sz1 := hU.size
  have hB : Below w.heap.size w U1 := hU
  clear hU
  go_upto_region 1 with (fail)
  apply wp_region_seg0 (w := U1) (S := [.q [], .q [], .q []]) (E := [.q0 _, .c0 _, .q0 _]) rfl (by kernel_rfl) rfl rfl
  intro th hge hne
  refine Seg.sq ?_ (ht := Or.inl ⟨by rfl, fun U hU => vp_quiet (by (have h0 := held_cell (held_after hU.1 r_p0_0) 0 _ rfl; have h1 := held_cell (held_after hU.1 r_p0_0) 1 _ rfl; have h2 := held_cell (held_after hU.1 r_p0_0) 2 _ rfl; have h3 := held_cell (held_after hU.1 r_p0_0) 3 _ rfl; go_simp <;> exact rfl))⟩)
  refine Seg.step _ rfl (Or.inl ⟨by rfl, fun U hU => ?_⟩) ?_
  · go_simp
    refine vp_call (kM.out _)
  refine Seg.sa ?_
  refine Seg.sq ?_
  refine Seg.stop (fun U2 hU hk => ?_)
  clear hk hge hne
  replace r_p0_0 := held_after hU r_p0_0
  have sz2 := hU.size
  replace hB := bthen hB hU
  clear hU
  go_upto_region 3 with (fail)
  apply wp_region_seg0 (w := U2) (S := [.q [], .q [], .q []]) (E := [.q0 _, .q0 _, .q0 _]) rfl (by kernel_rfl) rfl rfl
  intro th hge hne
  refine Seg.sq ?_
  refine Seg.sq ?_ (ht := Or.inl ⟨by rfl, fun U hU => vp_quiet (by (have h0 := held_cell (held_after hU.1 r_p0_0) 0 _ rfl; go_simp <;> exact rfl))⟩)
  refine Seg.sq ?_
  refine Seg.stop (fun U3 hU hk => ?_)
  clear hk hge hne
  replace r_p0_0 := held_after hU r_p0_0
  have sz3 := hU.size
  replace hB := bthen hB hU
  clear hU
  go_upto_region 5 with (fail)
  apply wp_region_seg (w := U3) (S := [.q [], .q [], .q [], .q [], .q [], .q [], .q [], .q [], .q [], .q [], .q [], .q [], .q [], .q []]) (E := [.q0 _, .q0 _, .c0 _, .q0 _, .q0 _, .c0 _, .q0 _, .q0 _, .q0 _, .q0 _, .c0 _, .q0 _, .q0 _, .q0 _]) (by kernel_rfl) rfl (by kernel_rfl) rfl rfl
  intro th hge hne
  refine Seg.sq ?_
  refine Seg.sq ?_ (ht := Or.inl ⟨by rfl, fun U hU => vp_quiet (by (have h0 := held_cell (held_after hU.1 r_p0_0) 1 _ rfl; go_simp <;> exact rfl))⟩)
  refine Seg.step _ rfl (Or.inl ⟨by rfl, fun U hU => ?_⟩) ?_
  · go_simp
    refine vp_call (k1.out _)
  refine Seg.sa ?_
  refine Seg.sq ?_
  refine Seg.sq ?_ (ht := Or.inl ⟨by rfl, fun U hU => vp_quiet (by (have h0 := held_cell (held_after hU.1 r_p0_0) 2 _ rfl; go_simp <;> exact rfl))⟩)
  refine Seg.step _ rfl (Or.inl ⟨by rfl, fun U hU => ?_⟩) ?_
  · go_simp
    refine vp_call (k2.out _)
  refine Seg.sa ?_
  refine Seg.sq ?_
  refine Seg.sq ?_
  refine Seg.sq ?_ (ht := Or.inl ⟨by rfl, fun U hU => vp_quiet (by (have h0 := held_cell (held_after hU.1 r_p0_0) 3 _ rfl; go_simp <;> exact rfl))⟩)
  refine Seg.sq ?_
  refine Seg.step _ rfl (Or.inl ⟨by rfl, fun U hU => ?_⟩) ?_
  · go_simp
    refine vp_call (k3.out _)
  refine Seg.sa ?_
  iterate 3 refine Seg.sq ?_
  refine Seg.stop (fun U4 hU hk => ?_)
  clear hk hge hne
  replace r_p0_0 := held_after hU r_p0_0
  have sz4 := hU.size
  replace hB := bthen hB hU
  clear hU
  go_wp2_with fail
  go_ret2
  exact ⟨rfl, hB⟩

end Go.Proofs.YthnoomdhgbaecaaGreatDoor
