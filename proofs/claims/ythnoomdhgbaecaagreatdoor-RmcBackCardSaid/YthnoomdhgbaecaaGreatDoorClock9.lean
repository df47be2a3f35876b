/- Package clock: Put, PutDate. -/
import Derived.Test.YthnoomdhgbaecaaGreatDoorClock8
import Derived.Test.YthnoomdhgbaecaaGreatDoorKA
import Derived.Deep.DeepCutAuto
namespace Go.Proofs.YthnoomdhgbaecaaGreatDoor

open Go.ChangeShapes Go.WideShapes Go.ChangeAt Go.RowKit

set_option linter.unusedVariables false

theorem textOf_size (zs : List Int) : (textOf zs).size = zs.length := by
  have h : (textOf zs).data.toList.length = (zs.map (fun n => UInt8.ofNat n.toNat)).length := by rw [textOf_data]
  simpa using h
theorem cba_eq {a b : ByteArray} (h : a.data.toList = b.data.toList) : a = b := by
  cases a; cases b; simp only at h; congr; exact Array.ext' h
theorem textOf_app (a b : List Int) : textOf a ++ textOf b = textOf (a ++ b) := by
  apply cba_eq
  rw [ByteArray.data_append, Array.toList_append, textOf_data, textOf_data, textOf_data, List.map_append]
theorem textOf_nil : textOf [] = ⟨#[]⟩ := rfl
theorem sb_textOf (zs : List Int) (h : ∀ n ∈ zs, 0 ≤ n ∧ n ≤ 255) : sb (textOf zs) = zs.map Int.toNat := by
  unfold sb
  rw [textOf_data, List.map_map]
  apply List.map_congr_left
  intro n hn
  have := h n hn
  show (UInt8.ofNat n.toNat).toNat = n.toNat
  rw [UInt8.toNat_ofNat', Nat.mod_eq_of_lt (by omega)]
def d2 (n : Int) : ByteArray := textOf [48 + n / 10, 48 + n % 10]
def d1 (n : Int) : ByteArray := textOf [48 + n]
theorem d2_size (n : Int) : (d2 n).size = 2 := textOf_size _
theorem d1_size (n : Int) : (d1 n).size = 1 := textOf_size _
def putT (h m s c : Int) : ByteArray := if c = 0 then d2 h ++ d2 m ++ d2 s else if c % 10 = 0 then d2 h ++ d2 m ++ d2 s ++ { data := #[46] } ++ d1 (c / 10) else d2 h ++ d2 m ++ d2 s ++ { data := #[46] } ++ d2 c
def putV (b : Bool) (h m s c : Int) : Value := if mayTB b h m s c = true then (if b = true then .tuple #[.string (putT h m s c), .int .i64 0] else .tuple #[.string { data := #[] }, .int .i64 0]) else .tuple #[.string { data := #[] }, .int .i64 5]
def putDt (b : Bool) (d m y : Int) : Value := if mayDB b d m y = true then (if b = true then .tuple #[.string (d2 d ++ d2 m ++ d2 (y - 2000)), .int .i64 0] else .tuple #[.string { data := #[] }, .int .i64 0]) else .tuple #[.string { data := #[] }, .int .i64 5]
theorem d2_one (n : Int) : (d2 n).extract 0 1 = d1 (n / 10) := by
  apply cba_eq
  unfold d2 d1
  rw [ByteArray.data_extract, Array.toList_extract, textOf_data, textOf_data]
  rfl
theorem may_in {h i s c : Int} (ht : mayTB true h i s c = true) : 0 ≤ h ∧ h ≤ 23 ∧ 0 ≤ i ∧ i ≤ 59 ∧ 0 ≤ s ∧ s ≤ 59 ∧ 0 ≤ c ∧ c ≤ 99 := by
  unfold mayTB wnB at ht
  simp at ht
  omega
theorem mayd_in {d m y : Int} (h : mayDB true d m y = true) : 1 ≤ d ∧ d ≤ 31 ∧ 1 ≤ m ∧ m ≤ 12 ∧ 2000 ≤ y ∧ y ≤ 2099 := by
  have h2 := wnB_iff.1 (show wnB d 1 (daysS m y) = true from h)
  have h3 := daysS_pos (m := m) (y := y) (by omega)
  have h4 := daysS_b m y
  omega
set_option maxRecDepth 100000 in
set_option maxHeartbeats 2000000 in
theorem two_any (n : Int) (w : World) (h0 : 0 ≤ n) (h1 : n ≤ 99) : Calls Tryz.prog 75 #[.int .i64 n] w fun e w' => e = .returned (.string (d2 n)) ∧ Below w.heap.size w w' := by
  have q1 : 0 ≤ n / 10 ∧ n / 10 ≤ 9 := by omega
  have q2 : 0 ≤ n % 10 ∧ n % 10 ≤ 9 := by omega
  have hV : d2 n = textOf [48 + n / 10, 48 + n % 10] := rfl
  have hcv := (sl_two w (48 + n / 10) (48 + n % 10) 5).text (P := Tryz.prog) 108 9 5 rfl rfl rfl
  rw [← hV] at hcv
  clear hV
  go_enter Tryz.func75, Tryz.ntmps75
  go_wp2_with fail
  go_ret
  exact ⟨rfl, balloc (Below.refl _ _) (Nat.le_refl _) _⟩
set_option maxRecDepth 100000 in
set_option maxHeartbeats 8000000 in
theorem put_any (b : Bool) (h m s c : Int) (w : World) : Calls Tryz.prog 20 #[.agg #[.bool b, .int .i64 h, .int .i64 m, .int .i64 s, .int .i64 c]] w fun e w' => e = .returned (putV b h m s c) ∧ Below w.heap.size w w' := by
  have kM := fun (v : World) => maytime_any b h m s c v
  cases em : mayTB b h m s c
  · rw [em] at kM
    replace kM := hid kM
    have hV : putV b h m s c = .tuple #[.string { data := #[] }, .int .i64 5] := by unfold putV; rw [em]; rfl
    rw [hV]
    clear hV em
    go_enter Tryz.func20, Tryz.ntmps20
    go_upto_region 0 with (fail)
    apply wp_region_seg0 (w := w) (S := [.al 1000, .q [], .q []]) (E := [.al ((fun p => .pointer (some ⟨p, 0, none⟩)), _) 1000, .q0 _, .q0 _]) rfl (by kernel_rfl) rfl rfl
    intro th hge hne
    refine Seg.step _ rfl ⟨by rfl, fun U hU => ?_⟩ ?_
    · go_simp; exact vp_alloc rfl rfl rfl
    refine Seg.sa ?_
    refine Seg.sq ?_
    refine Seg.sq ?_
    refine Seg.stop (fun U1 hU hk => ?_)
    have nb0 := hge 0 _ _ rfl
    have rb0 := (hk 0 _ _ rfl trivial).1.2 (by simp)
    clear hk hge hne
    generalize th (0 + 0) = p0_0 at *
    dsimp only at rb0
    have r_p0_0 := rb0
    clear rb0
    have n_p0_0 := nb0
    clear nb0
    have sz1 := hU.size
    have hB : Below w.heap.size w U1 := hU
    clear hU
    go_upto_region 1 with (fail)
    apply wp_region_seg0 (w := U1) (S := [.q [], .q [], .q []]) (E := [.q0 _, .c0 _, .q0 _]) rfl (by kernel_rfl) rfl rfl
    intro th hge hne
    refine Seg.sq ?_ (ht := Or.inl ⟨by rfl, fun U hU => vp_quiet (by (have h0 := held_cell (held_after hU.1 r_p0_0) 0 _ rfl; have h1 := held_cell (held_after hU.1 r_p0_0) 1 _ rfl; have h2 := held_cell (held_after hU.1 r_p0_0) 2 _ rfl; have h3 := held_cell (held_after hU.1 r_p0_0) 3 _ rfl; have h4 := held_cell (held_after hU.1 r_p0_0) 4 _ rfl; go_simp <;> exact rfl))⟩)
    refine Seg.step _ rfl (Or.inl ⟨by rfl, fun U hU => ?_⟩) ?_
    · go_simp
      refine vp_call (kM.out _)
    refine Seg.sa ?_
    refine Seg.sq ?_
    refine Seg.stop (fun U2 hU hk => ?_)
    clear hk hge hne
    replace r_p0_0 := held_after hU r_p0_0
    have sz2 := hU.size
    replace hB := bthen hB hU
    clear hU
    go_wp2_with fail
    go_ret2
    exact ⟨rfl, hB⟩
  rw [em] at kM
  replace kM := hid kM
  cases b
  · have hV : putV false h m s c = .tuple #[.string { data := #[] }, .int .i64 0] := by unfold putV; rw [em]; rfl
    rw [hV]
    clear hV em
    go_enter Tryz.func20, Tryz.ntmps20
    go_upto_region 0 with (fail)
    apply wp_region_seg0 (w := w) (S := [.al 1000, .q [], .q []]) (E := [.al ((fun p => .pointer (some ⟨p, 0, none⟩)), _) 1000, .q0 _, .q0 _]) rfl (by kernel_rfl) rfl rfl
    intro th hge hne
    refine Seg.step _ rfl ⟨by rfl, fun U hU => ?_⟩ ?_
    · go_simp; exact vp_alloc rfl rfl rfl
    refine Seg.sa ?_
    refine Seg.sq ?_
    refine Seg.sq ?_
    refine Seg.stop (fun U1 hU hk => ?_)
    have nb0 := hge 0 _ _ rfl
    have rb0 := (hk 0 _ _ rfl trivial).1.2 (by simp)
    clear hk hge hne
    generalize th (0 + 0) = p0_0 at *
    dsimp only at rb0
    have r_p0_0 := rb0
    clear rb0
    have n_p0_0 := nb0
    clear nb0
    have sz1 := hU.size
    have hB : Below w.heap.size w U1 := hU
    clear hU
    go_upto_region 1 with (fail)
    apply wp_region_seg0 (w := U1) (S := [.q [], .q [], .q []]) (E := [.q0 _, .c0 _, .q0 _]) rfl (by kernel_rfl) rfl rfl
    intro th hge hne
    refine Seg.sq ?_ (ht := Or.inl ⟨by rfl, fun U hU => vp_quiet (by (have h0 := held_cell (held_after hU.1 r_p0_0) 0 _ rfl; have h1 := held_cell (held_after hU.1 r_p0_0) 1 _ rfl; have h2 := held_cell (held_after hU.1 r_p0_0) 2 _ rfl; have h3 := held_cell (held_after hU.1 r_p0_0) 3 _ rfl; have h4 := held_cell (held_after hU.1 r_p0_0) 4 _ rfl; go_simp <;> exact rfl))⟩)
    refine Seg.step _ rfl (Or.inl ⟨by rfl, fun U hU => ?_⟩) ?_
    · go_simp
      refine vp_call (kM.out _)
    refine Seg.sa ?_
    refine Seg.sq ?_
    refine Seg.stop (fun U2 hU hk => ?_)
    clear hk hge hne
    replace r_p0_0 := held_after hU r_p0_0
    have sz2 := hU.size
    replace hB := bthen hB hU
    clear hU
    go_upto_region 3 with (fail)
    apply wp_region_seg0 (w := U2) (S := [.q [], .q [], .q []]) (E := [.q0 _, .q0 _, .q0 _]) rfl (by kernel_rfl) rfl rfl
    intro th hge hne
    refine Seg.sq ?_
    refine Seg.sq ?_ (ht := Or.inl ⟨by rfl, fun U hU => vp_quiet (by (have h0 := held_cell (held_after hU.1 r_p0_0) 0 _ rfl; go_simp <;> exact rfl))⟩)
    refine Seg.sq ?_
    refine Seg.stop (fun U3 hU hk => ?_)
    clear hk hge hne
    replace r_p0_0 := held_after hU r_p0_0
    have sz3 := hU.size
    replace hB := bthen hB hU
    clear hU
    go_wp2_with fail
    go_ret2
    exact ⟨rfl, hB⟩
  obtain ⟨h1, h2, m1, m2, s1, s2, c1, c2⟩ := may_in em
  have hV : putV true h m s c = .tuple #[.string (putT h m s c), .int .i64 0] := by unfold putV; rw [em]; rfl
  rw [hV]
  have hT : putT h m s c = putT h m s c := rfl
  conv at hT => rhs; unfold putT
  obtain ⟨R, hR⟩ : ∃ R, putT h m s c = R := ⟨_, rfl⟩
  rw [hR] at hT ⊢
  clear hV em hR
  have k1 := hid (fun v => two_any h v h1 (by omega))
  have k2 := hid (fun v => two_any m v m1 (by omega))
  have k3 := hid (fun v => two_any s v s1 (by omega))
  have k4 := hid (fun v => two_any c v c1 (by omega))
  have x4 := d2_one c
  have z1 := d2_size h
  have z2 := d2_size m
  have z3 := d2_size s
  have z4 := d2_size c
  have z5 := d1_size (c / 10)
  generalize d2 h = A at *
  generalize d2 m = B at *
  generalize d2 s = C at *
  generalize d2 c = D at *
  generalize d1 (c / 10) = E at *
  have y1 : ¬ (9223372036854775807 < A.size + B.size) := by omega
  have y2 : ¬ (9223372036854775807 < A.size + B.size + C.size) := by omega
  have zd : (A ++ B ++ C).size = 6 := by rw [ByteArray.size_append, ByteArray.size_append]; omega
  go_enter Tryz.func20, Tryz.ntmps20
  go_upto_region 0 with (fail)
  apply wp_region_seg0 (w := w) (S := [.al 1000, .q [], .q []]) (E := [.al ((fun p => .pointer (some ⟨p, 0, none⟩)), _) 1000, .q0 _, .q0 _]) rfl (by kernel_rfl) rfl rfl
  intro th hge hne
  refine Seg.step _ rfl ⟨by rfl, fun U hU => ?_⟩ ?_
  · go_simp; exact vp_alloc rfl rfl rfl
  refine Seg.sa ?_
  refine Seg.sq ?_
  refine Seg.sq ?_
  refine Seg.stop (fun U1 hU hk => ?_)
  have nb0 := hge 0 _ _ rfl
  have rb0 := (hk 0 _ _ rfl trivial).1.2 (by simp)
  clear hk hge hne
  generalize th (0 + 0) = p0_0 at *
  dsimp only at rb0
  have r_p0_0 := rb0
  clear rb0
  have n_p0_0 := nb0
  clear nb0
  have sz1 := hU.size
  have hB : Below w.heap.size w U1 := hU
  clear hU
  go_upto_region 1 with (fail)
  apply wp_region_seg0 (w := U1) (S := [.q [], .q [], .q []]) (E := [.q0 _, .c0 _, .q0 _]) rfl (by kernel_rfl) rfl rfl
  intro th hge hne
  refine Seg.sq ?_ (ht := Or.inl ⟨by rfl, fun U hU => vp_quiet (by (have h0 := held_cell (held_after hU.1 r_p0_0) 0 _ rfl; have h1 := held_cell (held_after hU.1 r_p0_0) 1 _ rfl; have h2 := held_cell (held_after hU.1 r_p0_0) 2 _ rfl; have h3 := held_cell (held_after hU.1 r_p0_0) 3 _ rfl; have h4 := held_cell (held_after hU.1 r_p0_0) 4 _ rfl; go_simp <;> exact rfl))⟩)
  refine Seg.step _ rfl (Or.inl ⟨by rfl, fun U hU => ?_⟩) ?_
  · go_simp
    refine vp_call (kM.out _)
  refine Seg.sa ?_
  refine Seg.sq ?_
  refine Seg.stop (fun U2 hU hk => ?_)
  clear hk hge hne
  replace r_p0_0 := held_after hU r_p0_0
  have sz2 := hU.size
  replace hB := bthen hB hU
  clear hU
  go_upto_region 3 with (fail)
  apply wp_region_seg0 (w := U2) (S := [.q [], .q [], .q []]) (E := [.q0 _, .q0 _, .q0 _]) rfl (by kernel_rfl) rfl rfl
  intro th hge hne
  refine Seg.sq ?_
  refine Seg.sq ?_ (ht := Or.inl ⟨by rfl, fun U hU => vp_quiet (by (have h0 := held_cell (held_after hU.1 r_p0_0) 0 _ rfl; go_simp <;> exact rfl))⟩)
  refine Seg.sq ?_
  refine Seg.stop (fun U3 hU hk => ?_)
  clear hk hge hne
  replace r_p0_0 := held_after hU r_p0_0
  have sz3 := hU.size
  replace hB := bthen hB hU
  clear hU
  go_upto_region 5 with (fail)
  apply wp_region_seg (w := U3) (S := [.q [], .q [], .q [], .q [], .q [], .q [], .q [], .q [], .q [], .q [], .q [], .q []]) (E := [.q0 _, .q0 _, .c0 _, .q0 _, .q0 _, .c0 _, .q0 _, .q0 _, .q0 _, .c0 _, .q0 _, .q0 _]) (by kernel_rfl) rfl (by kernel_rfl) rfl rfl
  intro th hge hne
  refine Seg.sq ?_
  refine Seg.sq ?_ (ht := Or.inl ⟨by rfl, fun U hU => vp_quiet (by (have h0 := held_cell (held_after hU.1 r_p0_0) 1 _ rfl; go_simp <;> exact rfl))⟩)
  refine Seg.step _ rfl (Or.inl ⟨by rfl, fun U hU => ?_⟩) ?_
  · go_simp
    refine vp_call (k1.out _)
  refine Seg.sa ?_
  refine Seg.sq ?_
  refine Seg.sq ?_ (ht := Or.inl ⟨by rfl, fun U hU => vp_quiet (by (have h0 := held_cell (held_after hU.1 r_p0_0) 2 _ rfl; go_simp <;> exact rfl))⟩)
  refine Seg.step _ rfl (Or.inl ⟨by rfl, fun U hU => ?_⟩) ?_
  · go_simp
    refine vp_call (k2.out _)
  refine Seg.sa ?_
  refine Seg.sq ?_
  refine Seg.sq ?_
  refine Seg.sq ?_ (ht := Or.inl ⟨by rfl, fun U hU => vp_quiet (by (have h0 := held_cell (held_after hU.1 r_p0_0) 3 _ rfl; go_simp <;> exact rfl))⟩)
  refine Seg.step _ rfl (Or.inl ⟨by rfl, fun U hU => ?_⟩) ?_
  · go_simp
    refine vp_call (k3.out _)
  refine Seg.sa ?_
  refine Seg.sq ?_
  refine Seg.sq ?_
  refine Seg.stop (fun U4 hU hk => ?_)
  clear hk hge hne
  replace r_p0_0 := held_after hU r_p0_0
  have sz4 := hU.size
  replace hB := bthen hB hU
  clear hU
  go_upto_region 6 with (fail)
  generalize A ++ B ++ C = X at *
  clear y1 y2 z1 z2 z3 k1 k2 k3 kM
  have u0 := held_cell r_p0_0 0 _ rfl
  have u1 := held_cell r_p0_0 1 _ rfl
  have u2 := held_cell r_p0_0 2 _ rfl
  have u3 := held_cell r_p0_0 3 _ rfl
  have u4 := held_cell r_p0_0 4 _ rfl
  have y3 : ¬ (9223372036854775807 < X.size + 1) := by omega
  have y4 : ¬ (9223372036854775807 < X.size + 1 + D.size) := by omega
  have y5 : ¬ (9223372036854775807 < X.size + 1 + E.size) := by omega
  by_cases cz : c = 0
  · rw [if_pos cz] at hT
    replace hT := hid hT
    go_wp2_with fail
    go_ret2
    exact ⟨by rw [hT.out]; rfl, hB⟩
  rw [if_neg cz] at hT
  have cz0 : (c == 0) = false := by simpa using cz
  by_cases cy : c % 10 = 0
  · rw [if_pos cy] at hT
    replace hT := hid hT
    go_wp2_with fail
    refine (k4.out _).mono ?_
    rintro e V ⟨rfl, hst⟩
    have hB2 := bthen hB hst
    clear hB hst
    go_wp2_with fail
    go_ret2
    exact ⟨by rw [hT.out]; rfl, hB2⟩
  rw [if_neg cy] at hT
  replace hT := hid hT
  have cy0 : (c % 10 == 0) = false := by simpa using cy
  go_wp2_with fail
  refine (k4.out _).mono ?_
  rintro e V ⟨rfl, hst⟩
  have hB2 := bthen hB hst
  clear hB hst
  go_wp2_with fail
  go_ret2
  exact ⟨by rw [hT.out]; rfl, hB2⟩
set_option maxRecDepth 100000 in
set_option maxHeartbeats 8000000 in
theorem putd_any (b : Bool) (d m y : Int) (w : World) : Calls Tryz.prog 32 #[.agg #[.bool b, .int .i64 d, .int .i64 m, .int .i64 y]] w fun e w' => e = .returned (putDt b d m y) ∧ Below w.heap.size w w' := by
  have kM := fun (v : World) => maydate_any b d m y v
  cases em : mayDB b d m y
  · rw [em] at kM
    replace kM := hid kM
    have hV : putDt b d m y = .tuple #[.string { data := #[] }, .int .i64 5] := by unfold putDt; rw [em]; rfl
    rw [hV]
    clear hV em
    go_enter Tryz.func32, Tryz.ntmps32
    go_upto_region 0 with (fail)
    apply wp_region_seg0 (w := w) (S := [.al 1000, .q [], .q []]) (E := [.al ((fun p => .pointer (some ⟨p, 0, none⟩)), _) 1000, .q0 _, .q0 _]) rfl (by kernel_rfl) rfl rfl
    intro th hge hne
    refine Seg.step _ rfl ⟨by rfl, fun U hU => ?_⟩ ?_
    · go_simp; exact vp_alloc rfl rfl rfl
    refine Seg.sa ?_
    refine Seg.sq ?_
    refine Seg.sq ?_
    refine Seg.stop (fun U1 hU hk => ?_)
    have nb0 := hge 0 _ _ rfl
    have rb0 := (hk 0 _ _ rfl trivial).1.2 (by simp)
    clear hk hge hne
    generalize th (0 + 0) = p0_0 at *
    dsimp only at rb0
    have r_p0_0 := rb0
    clear rb0
    have n_p0_0 := nb0
    clear nb0
    have sz1 := hU.size
    have hB : Below w.heap.size w U1 := hU
    clear hU
    go_upto_region 1 with (fail)
    apply wp_region_seg0 (w := U1) (S := [.q [], .q [], .q []]) (E := [.q0 _, .c0 _, .q0 _]) rfl (by kernel_rfl) rfl rfl
    intro th hge hne
    refine Seg.sq ?_ (ht := Or.inl ⟨by rfl, fun U hU => vp_quiet (by (have h0 := held_cell (held_after hU.1 r_p0_0) 0 _ rfl; have h1 := held_cell (held_after hU.1 r_p0_0) 1 _ rfl; have h2 := held_cell (held_after hU.1 r_p0_0) 2 _ rfl; have h3 := held_cell (held_after hU.1 r_p0_0) 3 _ rfl; go_simp <;> exact rfl))⟩)
    refine Seg.step _ rfl (Or.inl ⟨by rfl, fun U hU => ?_⟩) ?_
    · go_simp
      refine vp_call (kM.out _)
    refine Seg.sa ?_
    refine Seg.sq ?_
    refine Seg.stop (fun U2 hU hk => ?_)
    clear hk hge hne
    replace r_p0_0 := held_after hU r_p0_0
    have sz2 := hU.size
    replace hB := bthen hB hU
    clear hU
    go_wp2_with fail
    go_ret2
    exact ⟨rfl, hB⟩
  rw [em] at kM
  replace kM := hid kM
  cases b
  · have hV : putDt false d m y = .tuple #[.string { data := #[] }, .int .i64 0] := by unfold putDt; rw [em]; rfl
    rw [hV]
    clear hV em
    go_enter Tryz.func32, Tryz.ntmps32
    go_upto_region 0 with (fail)
    apply wp_region_seg0 (w := w) (S := [.al 1000, .q [], .q []]) (E := [.al ((fun p => .pointer (some ⟨p, 0, none⟩)), _) 1000, .q0 _, .q0 _]) rfl (by kernel_rfl) rfl rfl
    intro th hge hne
    refine Seg.step _ rfl ⟨by rfl, fun U hU => ?_⟩ ?_
    · go_simp; exact vp_alloc rfl rfl rfl
    refine Seg.sa ?_
    refine Seg.sq ?_
    refine Seg.sq ?_
    refine Seg.stop (fun U1 hU hk => ?_)
    have nb0 := hge 0 _ _ rfl
    have rb0 := (hk 0 _ _ rfl trivial).1.2 (by simp)
    clear hk hge hne
    generalize th (0 + 0) = p0_0 at *
    dsimp only at rb0
    have r_p0_0 := rb0
    clear rb0
    have n_p0_0 := nb0
    clear nb0
    have sz1 := hU.size
    have hB : Below w.heap.size w U1 := hU
    clear hU
    go_upto_region 1 with (fail)
    apply wp_region_seg0 (w := U1) (S := [.q [], .q [], .q []]) (E := [.q0 _, .c0 _, .q0 _]) rfl (by kernel_rfl) rfl rfl
    intro th hge hne
    refine Seg.sq ?_ (ht := Or.inl ⟨by rfl, fun U hU => vp_quiet (by (have h0 := held_cell (held_after hU.1 r_p0_0) 0 _ rfl; have h1 := held_cell (held_after hU.1 r_p0_0) 1 _ rfl; have h2 := held_cell (held_after hU.1 r_p0_0) 2 _ rfl; have h3 := held_cell (held_after hU.1 r_p0_0) 3 _ rfl; go_simp <;> exact rfl))⟩)
    refine Seg.step _ rfl (Or.inl ⟨by rfl, fun U hU => ?_⟩) ?_
    · go_simp
      refine vp_call (kM.out _)
    refine Seg.sa ?_
    refine Seg.sq ?_
    refine Seg.stop (fun U2 hU hk => ?_)
    clear hk hge hne
    replace r_p0_0 := held_after hU r_p0_0
    have sz2 := hU.size
    replace hB := bthen hB hU
    clear hU
    go_upto_region 3 with (fail)
    apply wp_region_seg0 (w := U2) (S := [.q [], .q [], .q []]) (E := [.q0 _, .q0 _, .q0 _]) rfl (by kernel_rfl) rfl rfl
    intro th hge hne
    refine Seg.sq ?_
    refine Seg.sq ?_ (ht := Or.inl ⟨by rfl, fun U hU => vp_quiet (by (have h0 := held_cell (held_after hU.1 r_p0_0) 0 _ rfl; go_simp <;> exact rfl))⟩)
    refine Seg.sq ?_
    refine Seg.stop (fun U3 hU hk => ?_)
    clear hk hge hne
    replace r_p0_0 := held_after hU r_p0_0
    have sz3 := hU.size
    replace hB := bthen hB hU
    clear hU
    go_wp2_with fail
    go_ret2
    exact ⟨rfl, hB⟩
  obtain ⟨d1, d2x, m1, m2, y1, y2⟩ := mayd_in em
  have hV : putDt true d m y = .tuple #[.string (d2 d ++ d2 m ++ d2 (y - 2000)), .int .i64 0] := by unfold putDt; rw [em]; rfl
  rw [hV]
  clear hV em
  have k1 := hid (fun v => two_any d v (by omega) (by omega))
  have k2 := hid (fun v => two_any m v (by omega) (by omega))
  have k3 := hid (fun v => two_any (y - 2000) v (by omega) (by omega))
  have z1 := d2_size d
  have z2 := d2_size m
  have z3 := d2_size (y - 2000)
  have fy : IntKind.i64.wrap (y - 2000) = y - 2000 := by rw [IntKind.wrap_i64]; omega
  generalize d2 d = A at *
  generalize d2 m = B at *
  generalize d2 (y - 2000) = C at *
  have x1 : ¬ (9223372036854775807 < A.size + B.size) := by omega
  have x2 : ¬ (9223372036854775807 < A.size + B.size + C.size) := by omega
  go_enter Tryz.func32, Tryz.ntmps32
  go_upto_region 0 with (fail)
  apply wp_region_seg0 (w := w) (S := [.al 1000, .q [], .q []]) (E := [.al ((fun p => .pointer (some ⟨p, 0, none⟩)), _) 1000, .q0 _, .q0 _]) rfl (by kernel_rfl) rfl rfl
  intro th hge hne
  refine Seg.step _ rfl ⟨by rfl, fun U hU => ?_⟩ ?_
  · go_simp; exact vp_alloc rfl rfl rfl
  refine Seg.sa ?_
  refine Seg.sq ?_
  refine Seg.sq ?_
  refine Seg.stop (fun U1 hU hk => ?_)
  have nb0 := hge 0 _ _ rfl
  have rb0 := (hk 0 _ _ rfl trivial).1.2 (by simp)
  clear hk hge hne
  generalize th (0 + 0) = p0_0 at *
  dsimp only at rb0
  have r_p0_0 := rb0
  clear rb0
  have n_p0_0 := nb0
  clear nb0
  have sz1 := hU.size
  have hB : Below w.heap.size w U1 := hU
  clear hU
  go_upto_region 1 with (fail)
  apply wp_region_seg0 (w := U1) (S := [.q [], .q [], .q []]) (E := [.q0 _, .c0 _, .q0 _]) rfl (by kernel_rfl) rfl rfl
  intro th hge hne
  refine Seg.sq ?_ (ht := Or.inl ⟨by rfl, fun U hU => vp_quiet (by (have h0 := held_cell (held_after hU.1 r_p0_0) 0 _ rfl; have h1 := held_cell (held_after hU.1 r_p0_0) 1 _ rfl; have h2 := held_cell (held_after hU.1 r_p0_0) 2 _ rfl; have h3 := held_cell (held_after hU.1 r_p0_0) 3 _ rfl; go_simp <;> exact rfl))⟩)
  refine Seg.step _ rfl (Or.inl ⟨by rfl, fun U hU => ?_⟩) ?_
  · go_simp
    refine vp_call (kM.out _)
  refine Seg.sa ?_
  refine Seg.sq ?_
  refine Seg.stop (fun U2 hU hk => ?_)
  clear hk hge hne
  replace r_p0_0 := held_after hU r_p0_0
  have sz2 := hU.size
  replace hB := bthen hB hU
  clear hU
  go_upto_region 3 with (fail)
  apply wp_region_seg0 (w := U2) (S := [.q [], .q [], .q []]) (E := [.q0 _, .q0 _, .q0 _]) rfl (by kernel_rfl) rfl rfl
  intro th hge hne
  refine Seg.sq ?_
  refine Seg.sq ?_ (ht := Or.inl ⟨by rfl, fun U hU => vp_quiet (by (have h0 := held_cell (held_after hU.1 r_p0_0) 0 _ rfl; go_simp <;> exact rfl))⟩)
  refine Seg.sq ?_
  refine Seg.stop (fun U3 hU hk => ?_)
  clear hk hge hne
  replace r_p0_0 := held_after hU r_p0_0
  have sz3 := hU.size
  replace hB := bthen hB hU
  clear hU
  go_upto_region 5 with (fail)
  apply wp_region_seg (w := U3) (S := [.q [], .q [], .q [], .q [], .q [], .q [], .q [], .q [], .q [], .q [], .q [], .q [], .q [], .q []]) (E := [.q0 _, .q0 _, .c0 _, .q0 _, .q0 _, .c0 _, .q0 _, .q0 _, .q0 _, .q0 _, .c0 _, .q0 _, .q0 _, .q0 _]) (by kernel_rfl) rfl (by kernel_rfl) rfl rfl
  intro th hge hne
  refine Seg.sq ?_
  refine Seg.sq ?_ (ht := Or.inl ⟨by rfl, fun U hU => vp_quiet (by (have h0 := held_cell (held_after hU.1 r_p0_0) 1 _ rfl; go_simp <;> exact rfl))⟩)
  refine Seg.step _ rfl (Or.inl ⟨by rfl, fun U hU => ?_⟩) ?_
  · go_simp
    refine vp_call (k1.out _)
  refine Seg.sa ?_
  refine Seg.sq ?_
  refine Seg.sq ?_ (ht := Or.inl ⟨by rfl, fun U hU => vp_quiet (by (have h0 := held_cell (held_after hU.1 r_p0_0) 2 _ rfl; go_simp <;> exact rfl))⟩)
  refine Seg.step _ rfl (Or.inl ⟨by rfl, fun U hU => ?_⟩) ?_
  · go_simp
    refine vp_call (k2.out _)
  refine Seg.sa ?_
  refine Seg.sq ?_
  refine Seg.sq ?_
  refine Seg.sq ?_ (ht := Or.inl ⟨by rfl, fun U hU => vp_quiet (by (have h0 := held_cell (held_after hU.1 r_p0_0) 3 _ rfl; go_simp <;> exact rfl))⟩)
  refine Seg.sq ?_
  refine Seg.step _ rfl (Or.inl ⟨by rfl, fun U hU => ?_⟩) ?_
  · go_simp
    refine vp_call (k3.out _)
  refine Seg.sa ?_
  iterate 3 refine Seg.sq ?_
  refine Seg.stop (fun U4 hU hk => ?_)
  clear hk hge hne
  replace r_p0_0 := held_after hU r_p0_0
  have sz4 := hU.size
  replace hB := bthen hB hU
  clear hU
  go_wp2_with fail
  go_ret2
  exact ⟨rfl, hB⟩

end Go.Proofs.YthnoomdhgbaecaaGreatDoor
