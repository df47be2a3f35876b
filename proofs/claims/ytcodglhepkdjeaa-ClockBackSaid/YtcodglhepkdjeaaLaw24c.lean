/- The law ClockBack, walked. -/
import Derived.Test.YtcodglhepkdjeaaLaw24b
import Derived.Deep.DeepCutAuto
namespace Go.Proofs.Ytcodglhepkdjeaa
open Go.ChangeShapes Go.WideShapes Go.ChangeAt Go.RowKit
set_option linter.unusedVariables false

def tN (n : Int) : Nat := (48 + n / 10).toNat
def uN (n : Int) : Nat := (48 + n % 10).toNat
theorem tN_dg {n : Int} (h0 : 0 ≤ n) (h1 : n ≤ 99) : dgB (tN n) = true ∧ dgB (uN n) = true ∧ pairN (tN n) (uN n) = n := by
  unfold tN uN pairN
  refine ⟨dgB_yes (by omega) (by omega), dgB_yes (by omega) (by omega), by omega⟩
theorem six_all {h m s : Int} (h0 : 0 ≤ h) (h1 : h ≤ 99) (m0 : 0 ≤ m) (m1 : m ≤ 99) (s0 : 0 ≤ s) (s1 : s ≤ 99) : okAll (prS [tN h, uN h, tN m, uN m, tN s, uN s]) = true ∧ gN (prS [tN h, uN h, tN m, uN m, tN s, uN s]) 0 = h ∧ gN (prS [tN h, uN h, tN m, uN m, tN s, uN s]) 1 = m ∧ gN (prS [tN h, uN h, tN m, uN m, tN s, uN s]) 2 = s := by
  obtain ⟨a1, a2, a3⟩ := tN_dg h0 h1
  obtain ⟨b1, b2, b3⟩ := tN_dg m0 m1
  obtain ⟨c1, c2, c3⟩ := tN_dg s0 s1
  obtain ⟨e1, e2⟩ := prS_six (tN h) (uN h) (tN m) (uN m) (tN s) (uN s)
  have hd : dAll [tN h, uN h, tN m, uN m, tN s, uN s] = true := by unfold dAll; simp [a1, a2, b1, b2, c1, c2]
  obtain ⟨g0, g1, g2⟩ := e2 hd
  exact ⟨by rw [e1, hd], by rw [g0, a3], by rw [g1, b3], by rw [g2, c3]⟩
theorem sb_d6 {h m s : Int} (h0 : 0 ≤ h) (h1 : h ≤ 99) (m0 : 0 ≤ m) (m1 : m ≤ 99) (s0 : 0 ≤ s) (s1 : s ≤ 99) : sb (d2 h ++ d2 m ++ d2 s) = [tN h, uN h, tN m, uN m, tN s, uN s] := by
  rw [sb_append, sb_append]
  unfold d2
  rw [sb_textOf _ (by intro n hn; simp at hn; omega), sb_textOf _ (by intro n hn; simp at hn; omega), sb_textOf _ (by intro n hn; simp at hn; omega)]
  rfl
theorem sb_dot : sb { data := #[46] } = [46] := by decide
theorem take_put {b : Bool} {h m s c : Int} (hm : mayTB b h m s c = true) : ∃ S : ByteArray, putV b h m s c = .tuple #[.string S, .int .i64 0] ∧ S.size ≤ 9 ∧ (b = true → 6 ≤ S.size) ∧ takeV (sb S) = .tuple #[.agg #[.bool b, .int .i64 h, .int .i64 m, .int .i64 s, .int .i64 c], .int .i64 0] := by
  cases b
  · have hz : h = 0 ∧ m = 0 ∧ s = 0 ∧ c = 0 := by unfold mayTB at hm; simpa using hm
    obtain ⟨rfl, rfl, rfl, rfl⟩ := hz
    exact ⟨{ data := #[] }, by unfold putV; rw [hm]; rfl, by decide, fun h => by simp at h, rfl⟩
  · obtain ⟨h1, hh2, m1, m2, s1, s2, c1, c2⟩ := may_in hm
    have hP : putV true h m s c = .tuple #[.string (putT h m s c), .int .i64 0] := by unfold putV; rw [hm]; rfl
    obtain ⟨k0, k1, k2, k3⟩ := six_all h1 (show h ≤ 99 by omega) m1 (show m ≤ 99 by omega) s1 (show s ≤ 99 by omega)
    have h6 := sb_d6 h1 (show h ≤ 99 by omega) m1 (show m ≤ 99 by omega) s1 (show s ≤ 99 by omega)
    have main : ∀ r : List Nat, hunS r = (c, true) → takeV ([tN h, uN h, tN m, uN m, tN s, uN s] ++ r) = .tuple #[.agg #[.bool true, .int .i64 h, .int .i64 m, .int .i64 s, .int .i64 c], .int .i64 0] := by
      intro r hr
      have ht : ([tN h, uN h, tN m, uN m, tN s, uN s] ++ r).take 6 = [tN h, uN h, tN m, uN m, tN s, uN s] := rfl
      have hd : ([tN h, uN h, tN m, uN m, tN s, uN s] ++ r).drop 6 = r := rfl
      have hl : ([tN h, uN h, tN m, uN m, tN s, uN s] ++ r).length = r.length + 6 := by simp
      unfold takeV takeB
      rw [ht, hd, hl, k0, k1, k2, k3, hr]
      have q1 : (true && (c, true).2) = true := rfl
      have q2 : mayTB true h m s (c, true).1 = true := hm
      rw [if_neg (by omega), if_neg (by omega), if_pos q1, if_pos q2]
    have z1 := d2_size h
    have z2 := d2_size m
    have z3 := d2_size s
    have z4 := d2_size c
    have z5 := d1_size (c / 10)
    have zd : ({ data := #[46] } : ByteArray).size = 1 := rfl
    refine ⟨_, hP, ?_⟩
    unfold putT
    by_cases cz : c = 0
    · rw [if_pos cz]
      refine ⟨by rw [ByteArray.size_append, ByteArray.size_append]; omega, fun _ => by rw [ByteArray.size_append, ByteArray.size_append]; omega, ?_⟩
      have := main [] (by rw [cz]; rfl)
      rw [List.append_nil] at this
      rw [h6]; exact this
    · rw [if_neg cz]
      obtain ⟨q1, q2, q3⟩ := tN_dg c1 c2
      by_cases cy : c % 10 = 0
      · rw [if_pos cy]
        refine ⟨by simp only [ByteArray.size_append]; omega, fun _ => by simp only [ByteArray.size_append]; omega, ?_⟩
        have e1 : sb (d1 (c / 10)) = [tN c] := by unfold d1; rw [sb_textOf _ (by intro n hn; simp at hn; omega)]; rfl
        rw [sb_append, sb_append, h6, sb_dot, e1, List.append_assoc]
        refine main ([46] ++ [tN c]) ?_
        show h2 (tN c) 48 = (c, true)
        unfold h2
        rw [q1, if_pos (by decide)]
        have : pairN (tN c) 48 = c := by unfold pairN tN; omega
        rw [this]
      · rw [if_neg cy]
        refine ⟨by simp only [ByteArray.size_append]; omega, fun _ => by simp only [ByteArray.size_append]; omega, ?_⟩
        have e1 : sb (d2 c) = [tN c, uN c] := by unfold d2; rw [sb_textOf _ (by intro n hn; simp at hn; omega)]; rfl
        rw [sb_append, sb_append, h6, sb_dot, e1, List.append_assoc]
        refine main ([46] ++ [tN c, uN c]) ?_
        show h2 (tN c) (uN c) = (c, true)
        unfold h2
        rw [q1, q2, if_pos (show (true && true) = true from rfl), q3]
theorem putV_no {b : Bool} {h m s c : Int} (hm : mayTB b h m s c = false) : putV b h m s c = .tuple #[.string { data := #[] }, .int .i64 5] := by unfold putV; rw [hm]; rfl
theorem putD_no {b : Bool} {d m y : Int} (hm : mayDB b d m y = false) : putD b d m y = .tuple #[.string { data := #[] }, .int .i64 5] := by unfold putD; rw [hm]; rfl
theorem taked_put {b : Bool} {d m y : Int} (hm : mayDB b d m y = true) : ∃ S : ByteArray, putD b d m y = .tuple #[.string S, .int .i64 0] ∧ S.size ≤ 6 ∧ (b = true → S.size = 6) ∧ takeD (sb S) = .tuple #[.agg #[.bool b, .int .i64 d, .int .i64 m, .int .i64 y], .int .i64 0] := by
  cases b
  · have hz : d = 0 ∧ m = 0 ∧ y = 0 := by unfold mayDB at hm; simpa using hm
    obtain ⟨rfl, rfl, rfl⟩ := hz
    exact ⟨{ data := #[] }, by unfold putD; rw [hm]; rfl, by decide, fun h => by simp at h, rfl⟩
  · obtain ⟨d1x, d2x, m1, m2, y1, y2⟩ := mayd_in hm
    obtain ⟨k0, k1, k2, k3⟩ := six_all (show 0 ≤ d by omega) (show d ≤ 99 by omega) (show 0 ≤ m by omega) (show m ≤ 99 by omega) (show 0 ≤ y - 2000 by omega) (show y - 2000 ≤ 99 by omega)
    have h6 := sb_d6 (show 0 ≤ d by omega) (show d ≤ 99 by omega) (show 0 ≤ m by omega) (show m ≤ 99 by omega) (show 0 ≤ y - 2000 by omega) (show y - 2000 ≤ 99 by omega)
    have z1 := d2_size d
    have z2 := d2_size m
    have z3 := d2_size (y - 2000)
    refine ⟨d2 d ++ d2 m ++ d2 (y - 2000), by unfold putD; rw [hm]; rfl, by simp only [ByteArray.size_append]; omega, fun _ => by simp only [ByteArray.size_append]; omega, ?_⟩
    rw [h6]
    unfold takeD
    rw [if_neg (by simp), if_pos ⟨rfl, k0⟩, k1, k2, k3, show 2000 + (y - 2000) = y from by omega, if_pos hm]
theorem cntB_in {bd : Bool} {d m y : Int} {bc : Bool} {h i s c : Int} (h0 : cntB bd d m y bc h i s c = true) : bd = true ∧ bc = true ∧ mayDB bd d m y = true ∧ mayTB bc h i s c = true := by
  unfold cntB at h0; simpa using h0
theorem of_count {d m y h i s c : Int} (h0 : cntB true d m y true h i s c = true) : 0 ≤ cntS d m y h i s c ∧ cntS d m y h i s c < 315576000000 ∧ ∀ v : World, Calls Try.prog 21 #[.int .i64 (cntS d m y h i s c)] v fun e w' => e = .returned (.tuple #[.agg #[.bool true, .int .i64 d, .int .i64 m, .int .i64 y], .agg #[.bool true, .int .i64 h, .int .i64 i, .int .i64 s, .int .i64 c], .bool true]) ∧ Below v.heap.size v w' := by
  obtain ⟨-, -, hd, ht⟩ := cntB_in h0
  obtain ⟨m1, m2, y1, y2, d1x, d2x, h1, h2, i1, i2, s1, s2, c1, c2⟩ := cnt_in hd ht
  have hst := cum_step m1 m2 y1 y2
  have a1 := cum_le y1 y2 (m := 1) (m' := m) (by omega) (by omega) (by omega)
  have a2 := cum_le y1 y2 (m := m + 1) (m' := 13) (by omega) (by omega) (by omega)
  have a3 := cum_year y
  have a4 := cum_one (y + 1)
  have a5 := cum_one y
  have hn : cntS d m y h i s c = (d - 1 + cumM y m) * 8640000 + (360000 * h + 6000 * i + 100 * s) + c := rfl
  obtain ⟨X, hX⟩ : ∃ X, d - 1 + cumM y m = X := ⟨_, rfl⟩
  rw [hX] at hn
  have bX : 0 ≤ X ∧ X < 36525 := by omega
  obtain ⟨n, hN⟩ : ∃ n, cntS d m y h i s c = n := ⟨_, rfl⟩
  rw [hN] at hn ⊢
  have q : n / 8640000 = X := by omega
  refine ⟨by omega, by omega, fun v => ?_⟩
  have k := of_any n y m v (by omega) (by omega) y1 y2 m1 m2 (by omega) (by omega)
  have e1 : n / 8640000 - cumM y m + 1 = d := by omega
  have e2 : n % 8640000 / 360000 = h := by omega
  have e3 : n % 360000 / 6000 = i := by omega
  have e4 : n % 6000 / 100 = s := by omega
  have e5 : n % 100 = c := by omega
  rw [e1, e2, e3, e4, e5] at k
  exact k
theorem count_of {n y m : Int} (n1 : 0 ≤ n) (n2 : n < 315576000000) (y1 : 2000 ≤ y) (y2 : y ≤ 2099) (m1 : 1 ≤ m) (m2 : m ≤ 12) (c1 : cumM y m ≤ n / 8640000) (c2 : n / 8640000 < cumM y (m + 1)) : mayDB true (n / 8640000 - cumM y m + 1) m y = true ∧ mayTB true (n % 8640000 / 360000) (n % 360000 / 6000) (n % 6000 / 100) (n % 100) = true ∧ cntS (n / 8640000 - cumM y m + 1) m y (n % 8640000 / 360000) (n % 360000 / 6000) (n % 6000 / 100) (n % 100) = n := by
  have hst := cum_step m1 m2 y1 y2
  refine ⟨wnB_iff.2 ⟨by omega, by omega⟩, ?_, ?_⟩
  · show (wnB _ 0 23 && (wnB _ 0 59 && (wnB _ 0 59 && wnB _ 0 99))) = true
    simp only [Bool.and_eq_true, wnB_iff]
    omega
  · unfold cntS
    omega
theorem cntV_yes {bd : Bool} {d m y : Int} {bc : Bool} {h i s c : Int} (h0 : cntB bd d m y bc h i s c = true) : cntV bd d m y bc h i s c = .tuple #[.int .i64 (cntS d m y h i s c), .bool true] := by unfold cntV; rw [if_pos h0]
theorem cntV_no {bd : Bool} {d m y : Int} {bc : Bool} {h i s c : Int} (h0 : cntB bd d m y bc h i s c = false) : cntV bd d m y bc h i s c = .tuple #[.int .i64 0, .bool false] := by unfold cntV; rw [if_neg (by rw [h0]; decide)]
set_option maxRecDepth 100000 in
set_option maxHeartbeats 16000000 in
theorem law_ClockBack (a0_0 : Bool) (a0_1 : Int) (a0_2 : Int) (a0_3 : Int) (a1_0 : Bool) (a1_1 : Int) (a1_2 : Int) (a1_3 : Int) (a1_4 : Int) (a2 : Int) (W : World) (w0_1 : (Lit.int .i64 a0_1).wf = true) (w0_2 : (Lit.int .i64 a0_2).wf = true) (w0_3 : (Lit.int .i64 a0_3).wf = true) (w1_1 : (Lit.int .i64 a1_1).wf = true) (w1_2 : (Lit.int .i64 a1_2).wf = true) (w1_3 : (Lit.int .i64 a1_3).wf = true) (w1_4 : (Lit.int .i64 a1_4).wf = true) (w2 : (Lit.int .i64 a2).wf = true) :
    Calls Try.prog 6 #[.agg #[.bool a0_0, .int .i64 a0_1, .int .i64 a0_2, .int .i64 a0_3], .agg #[.bool a1_0, .int .i64 a1_1, .int .i64 a1_2, .int .i64 a1_3, .int .i64 a1_4], .int .i64 a2] W fun e w' => e = .returned (.bool true) ∧ Below W.heap.size W w' := by
  clear w0_1 w0_2 w0_3 w1_1 w1_2 w1_3 w1_4
  have hn := bounds_i64 w2
  clear w2
  obtain ⟨S, k, hS, hk⟩ : ∃ (S : ByteArray) (k : Int), putV a1_0 a1_1 a1_2 a1_3 a1_4 = .tuple #[.string S, .int .i64 k] ∧ (k = 5 ∨ (k = 0 ∧ S.size ≤ 9 ∧ takeV (sb S) = .tuple #[.agg #[.bool a1_0, .int .i64 a1_1, .int .i64 a1_2, .int .i64 a1_3, .int .i64 a1_4], .int .i64 0])) := by
    cases em : mayTB a1_0 a1_1 a1_2 a1_3 a1_4
    · exact ⟨_, _, putV_no em, .inl rfl⟩
    · obtain ⟨S, hS, z1, -, hT⟩ := take_put em
      exact ⟨S, 0, hS, .inr ⟨rfl, z1, hT⟩⟩
  have k1 := hid (fun v : World => hS ▸ put_any a1_0 a1_1 a1_2 a1_3 a1_4 v)
  clear hS
  go_enter Try.func6, Try.ntmps6
  go_upto_region 0 with (fail)
  apply wp_region_seg0 (w := W) (S := [.al 1000, .al 1000, .q []]) (E := [.al ((fun p => .pointer (some ⟨p, 0, none⟩)), _) 1000, .al ((fun p => .pointer (some ⟨p, 0, none⟩)), _) 1000, .q0 _]) rfl (by kernel_rfl) rfl rfl
  intro th hge hne
  refine Seg.step _ rfl ⟨by rfl, fun U hU => ?_⟩ ?_
  · go_simp; exact vp_alloc rfl rfl rfl
  refine ⟨_, by (simp only [Ent.val]; go_simp <;> exact rfl), ?_⟩
  refine Seg.step _ rfl ⟨by rfl, fun U hU => ?_⟩ ?_
  · go_simp; exact vp_alloc rfl rfl rfl
  refine ⟨_, by (simp only [Ent.val]; go_simp <;> exact rfl), ?_⟩
  refine Seg.step _ rfl (Or.inl ⟨by rfl, fun U hU => vp_quiet (by (go_simp <;> exact rfl))⟩) ⟨_, by (simp only [Ent.val]; go_simp <;> exact rfl), ?_⟩
  refine Seg.stop (fun U1 hU hk => ?_)
  have nb0 := hge 0 _ _ rfl
  have rb0 := (hk 0 _ _ rfl trivial).1.2 (by simp)
  have nb1 := hge 1 _ _ rfl
  have rb1 := (hk 1 _ _ rfl trivial).1.2 (by simp)
  have ne0_1 := hne 0 1 _ _ _ _ rfl rfl (by omega)
  clear hk hge hne
  generalize th (0 + 0) = p0_0 at *
  dsimp only at rb0
  generalize th (0 + 1) = p0_1 at *
  dsimp only at rb1
  have r_p0_0 := rb0
  clear rb0
  have n_p0_0 := nb0
  clear nb0
  have d_p0_0_p0_1 := ne0_1
  clear ne0_1
  have r_p0_1 := rb1
  clear rb1
  have n_p0_1 := nb1
  clear nb1
  have sz1 := hU.size
  have hB : Below W.heap.size W U1 := hU
  clear hU
  go_upto_region 1 with (fail)
  apply wp_region_seg0 (w := U1) (S := [.q [], .q [], .q [], .q [], .q [], .q [], .q []]) (E := [.q0 _, .c0 _, .q0 _, .q0 _, .q0 _, .q0 _, .q0 _]) rfl (by kernel_rfl) rfl rfl
  intro th hge hne
  refine Seg.step _ rfl (Or.inl ⟨by rfl, fun U hU => vp_quiet (by (have h0 := held_cell (held_after hU.1 r_p0_1) 0 _ rfl; have h1 := held_cell (held_after hU.1 r_p0_1) 1 _ rfl; have h2 := held_cell (held_after hU.1 r_p0_1) 2 _ rfl; have h3 := held_cell (held_after hU.1 r_p0_1) 3 _ rfl; have h4 := held_cell (held_after hU.1 r_p0_1) 4 _ rfl; go_simp <;> exact rfl))⟩) ⟨_, by (simp only [Ent.val]; go_simp <;> exact rfl), ?_⟩
  refine Seg.step _ rfl (Or.inl ⟨by rfl, fun U hU => ?_⟩) ?_
  · go_simp
    refine vp_call (k1.out _)
  refine ⟨_, by (simp only [Ent.val]; go_simp <;> exact rfl), ?_⟩
  refine Seg.step _ rfl (Or.inl ⟨by rfl, fun U hU => vp_quiet (by (go_simp <;> exact rfl))⟩) ⟨_, by (simp only [Ent.val]; go_simp <;> exact rfl), ?_⟩
  refine Seg.step _ rfl (Or.inl ⟨by rfl, fun U hU => vp_quiet (by (go_simp <;> exact rfl))⟩) ⟨_, by (simp only [Ent.val]; go_simp <;> exact rfl), ?_⟩
  refine Seg.step _ rfl (Or.inl ⟨by rfl, fun U hU => vp_quiet (by (go_simp <;> exact rfl))⟩) ⟨_, by (simp only [Ent.val]; go_simp <;> exact rfl), ?_⟩
  refine Seg.step _ rfl (Or.inl ⟨by rfl, fun U hU => vp_quiet (by (go_simp <;> exact rfl))⟩) ⟨_, by (simp only [Ent.val]; go_simp <;> exact rfl), ?_⟩
  refine Seg.step _ rfl (Or.inl ⟨by rfl, fun U hU => vp_quiet (by (go_simp <;> exact rfl))⟩) ⟨_, by (simp only [Ent.val]; go_simp <;> exact rfl), ?_⟩
  refine Seg.stop (fun U2 hU hk => ?_)
  clear hk hge hne
  replace r_p0_0 := held_after hU r_p0_0
  replace r_p0_1 := held_after hU r_p0_1
  have sz2 := hU.size
  replace hB := bthen hB hU
  clear hU
  go_upto_region 2 with (fail)
  apply wp_region_seg0 (w := U2) (S := [.q [], .q [], .q []]) (E := [.q0 _, .c0 _, .q0 _]) rfl (by kernel_rfl) rfl rfl
  intro th hge hne
  refine Seg.step _ rfl (Or.inl ⟨by rfl, fun U hU => vp_quiet (by (go_simp <;> exact rfl))⟩) ⟨_, by (simp only [Ent.val]; go_simp <;> exact rfl), ?_⟩
  refine Seg.step _ rfl (Or.inl ⟨by rfl, fun U hU => ?_⟩) ?_
  · go_simp
    refine vp_calls (num24_any _ _)
  refine ⟨_, by (simp only [Ent.val]; go_simp <;> exact rfl), ?_⟩
  refine Seg.step _ rfl (Or.inl ⟨by rfl, fun U hU => vp_quiet (by (go_simp <;> exact rfl))⟩) ⟨_, by (simp only [Ent.val]; go_simp <;> exact rfl), ?_⟩
  refine Seg.stop (fun U3 hU hk => ?_)
  clear hk hge hne
  replace r_p0_0 := held_after hU r_p0_0
  replace r_p0_1 := held_after hU r_p0_1
  have sz3 := hU.size
  replace hB := bthen hB hU
  clear hU
  go_upto_if 36 with (fail)
  go_cut [9, 10] from 37 to 49 (fun _ _ W0 => W0.heap[p0_0]? = some (.cells #[.bool a0_0, .int .i64 a0_1, .int .i64 a0_2, .int .i64 a0_3] 33 (0, 0)) ∧ W0.heap[p0_1]? = some (.cells #[.bool a1_0, .int .i64 a1_1, .int .i64 a1_2, .int .i64 a1_3, .int .i64 a1_4] 23 (0, 0)) ∧ Below W.heap.size W W0)
  case first =>
    rcases hk with rfl | ⟨rfl, z1, hT⟩
    · go_wp2_with fail
      go_meet
      exact ⟨r_p0_0, r_p0_1, hB⟩
    · have k2 := hid (fun v : World => hT ▸ take_any S v (by omega))
      clear hT z1
      go_upto_region 3 with (fail)
      apply wp_region_seg0 (w := U3) (S := [.q [], .q [], .q [], .q [], .q [], .al 6, .st 5 [], .q []]) (E := [.q0 _, .c0 _, .q0 _, .q0 _, .q0 _, .al ((fun p => .pointer (some ⟨p, 0, none⟩)), _) 6, .s0 5 (.cells _ _), .q0 _]) rfl (by kernel_rfl) rfl rfl
      intro th hge hne
      refine Seg.step _ rfl (Or.inl ⟨by rfl, fun U hU => vp_quiet (by (go_simp <;> exact rfl))⟩) ⟨_, by (simp only [Ent.val]; go_simp <;> exact rfl), ?_⟩
      refine Seg.step _ rfl (Or.inl ⟨by rfl, fun U hU => ?_⟩) ?_
      · go_simp
        refine vp_call (k2.out _)
      refine ⟨_, by (simp only [Ent.val]; go_simp <;> exact rfl), ?_⟩
      refine Seg.step _ rfl (Or.inl ⟨by rfl, fun U hU => vp_quiet (by (go_simp <;> exact rfl))⟩) ⟨_, by (simp only [Ent.val]; go_simp <;> exact rfl), ?_⟩
      refine Seg.step _ rfl (Or.inl ⟨by rfl, fun U hU => vp_quiet (by (go_simp <;> exact rfl))⟩) ⟨_, by (simp only [Ent.val]; go_simp <;> exact rfl), ?_⟩
      refine Seg.step _ rfl (Or.inl ⟨by rfl, fun U hU => vp_quiet (by (go_simp <;> exact rfl))⟩) ⟨_, by (simp only [Ent.val]; go_simp <;> exact rfl), ?_⟩
      refine Seg.step _ rfl ⟨by rfl, fun U hU => ?_⟩ ?_
      · go_simp; exact vp_alloc rfl rfl rfl
      refine ⟨_, by (simp only [Ent.val]; go_simp <;> exact rfl), ?_⟩
      refine Seg.step _ rfl ⟨by rfl, fun U z k hz hU hc => ?_⟩ ?_
      · have hz2 := Option.some.inj hz
        cases hz2; clear hz
        exact vp_store_agg _ _ _ rfl hc rfl rfl (by kernel_rfl) rfl (by rfl)
      refine ⟨_, by (simp only [Ent.val]; go_simp <;> exact rfl), ?_⟩
      refine Seg.step _ rfl (Or.inl ⟨by rfl, fun U hU => vp_quiet (by (go_simp <;> exact rfl))⟩) ⟨_, by (simp only [Ent.val]; go_simp <;> exact rfl), ?_⟩
      refine Seg.stop (fun U4 hU hk => ?_)
      have nb5 := hge 5 _ _ rfl
      have rb5 := (hk 5 _ 6 rfl trivial).1.1 trivial _ (Nat.zero_le _) rfl
      clear hk hge hne
      generalize th (0 + 5) = p3_5 at *
      simp only [Ent.obj] at rb5
      replace r_p0_0 := held_after hU r_p0_0
      replace r_p0_1 := held_after hU r_p0_1
      have r_p3_5 := rb5
      clear rb5
      have n_p3_5 := nb5
      clear nb5
      have sz4 := hU.size
      replace hB := bthen hB hU
      clear hU
      go_upto_region 4 with (fail)
      apply wp_region_seg0 (w := U4) (S := [.q [], .q [], .q [], .q [], .q [], .q [], .q [], .q []]) (E := [.q0 _, .q0 _, .q0 _, .q0 _, .q0 _, .c0 _, .q0 _, .q0 _]) rfl (by kernel_rfl) rfl rfl
      intro th hge hne
      refine Seg.step _ rfl (Or.inl ⟨by rfl, fun U hU => vp_quiet (by (have h0 := held_cell (held_after hU.1 r_p3_5) 0 _ rfl; have h1 := held_cell (held_after hU.1 r_p3_5) 1 _ rfl; have h2 := held_cell (held_after hU.1 r_p3_5) 2 _ rfl; have h3 := held_cell (held_after hU.1 r_p3_5) 3 _ rfl; have h4 := held_cell (held_after hU.1 r_p3_5) 4 _ rfl; go_simp <;> exact rfl))⟩) ⟨_, by (simp only [Ent.val]; go_simp <;> exact rfl), ?_⟩
      refine Seg.step _ rfl (Or.inl ⟨by rfl, fun U hU => vp_quiet (by (have h0 := held_cell (held_after hU.1 r_p0_1) 0 _ rfl; have h1 := held_cell (held_after hU.1 r_p0_1) 1 _ rfl; have h2 := held_cell (held_after hU.1 r_p0_1) 2 _ rfl; have h3 := held_cell (held_after hU.1 r_p0_1) 3 _ rfl; have h4 := held_cell (held_after hU.1 r_p0_1) 4 _ rfl; go_simp <;> exact rfl))⟩) ⟨_, by (simp only [Ent.val]; go_simp <;> exact rfl), ?_⟩
      refine Seg.step _ rfl (Or.inl ⟨by rfl, fun U hU => vp_quiet (by (go_simp <;> exact rfl))⟩) ⟨_, by (simp only [Ent.val]; go_simp <;> exact rfl), ?_⟩
      refine Seg.step _ rfl (Or.inl ⟨by rfl, fun U hU => vp_quiet (by (go_simp <;> exact rfl))⟩) ⟨_, by (simp only [Ent.val]; go_simp <;> exact rfl), ?_⟩
      refine Seg.step _ rfl (Or.inl ⟨by rfl, fun U hU => vp_quiet (by (go_simp <;> exact rfl))⟩) ⟨_, by (simp only [Ent.val]; go_simp <;> exact rfl), ?_⟩
      refine Seg.step _ rfl (Or.inl ⟨by rfl, fun U hU => ?_⟩) ?_
      · go_simp
        refine vp_calls (num24_any _ _)
      refine ⟨_, by (simp only [Ent.val]; go_simp <;> exact rfl), ?_⟩
      refine Seg.step _ rfl (Or.inl ⟨by rfl, fun U hU => vp_quiet (by (go_simp <;> exact rfl))⟩) ⟨_, by (simp only [Ent.val]; go_simp <;> exact rfl), ?_⟩
      refine Seg.step _ rfl (Or.inl ⟨by rfl, fun U hU => vp_quiet (by (go_simp <;> exact rfl))⟩) ⟨_, by (simp only [Ent.val]; go_simp <;> exact rfl), ?_⟩
      refine Seg.stop (fun U5 hU hk => ?_)
      clear hk hge hne
      replace r_p0_0 := held_after hU r_p0_0
      replace r_p0_1 := held_after hU r_p0_1
      replace r_p3_5 := held_after hU r_p3_5
      have sz5 := hU.size
      replace hB := bthen hB hU
      clear hU
      go_wp2_with fail
      go_meet
      exact ⟨r_p0_0, r_p0_1, hB⟩
  case rest =>
    clear r_p0_0 r_p0_1 hB
    obtain ⟨r_p0_0, r_p0_1, hB⟩ := hcut
    clear hk k1
    obtain ⟨SD, kd, hS, hk⟩ : ∃ (S : ByteArray) (k : Int), putD a0_0 a0_1 a0_2 a0_3 = .tuple #[.string S, .int .i64 k] ∧ (k = 5 ∨ (k = 0 ∧ S.size ≤ 6 ∧ takeD (sb S) = .tuple #[.agg #[.bool a0_0, .int .i64 a0_1, .int .i64 a0_2, .int .i64 a0_3], .int .i64 0])) := by
      cases em : mayDB a0_0 a0_1 a0_2 a0_3
      · exact ⟨_, _, putD_no em, .inl rfl⟩
      · obtain ⟨S, hS, z1, -, hT⟩ := taked_put em
        exact ⟨S, 0, hS, .inr ⟨rfl, z1, hT⟩⟩
    have k1 := hid (fun v : World => hS ▸ putd_any a0_0 a0_1 a0_2 a0_3 v)
    clear hS
    go_upto_region 6 with (fail)
    apply wp_region_seg0 (w := wc) (S := [.q [], .q [], .q [], .q [], .q [], .q [], .q []]) (E := [.q0 _, .c0 _, .q0 _, .q0 _, .q0 _, .q0 _, .q0 _]) rfl (by kernel_rfl) rfl rfl
    intro th hge hne
    refine Seg.step _ rfl (Or.inl ⟨by rfl, fun U hU => vp_quiet (by (have h0 := held_cell (held_after hU.1 r_p0_0) 0 _ rfl; have h1 := held_cell (held_after hU.1 r_p0_0) 1 _ rfl; have h2 := held_cell (held_after hU.1 r_p0_0) 2 _ rfl; have h3 := held_cell (held_after hU.1 r_p0_0) 3 _ rfl; go_simp <;> exact rfl))⟩) ⟨_, by (simp only [Ent.val]; go_simp <;> exact rfl), ?_⟩
    refine Seg.step _ rfl (Or.inl ⟨by rfl, fun U hU => ?_⟩) ?_
    · go_simp
      refine vp_call (k1.out _)
    refine ⟨_, by (simp only [Ent.val]; go_simp <;> exact rfl), ?_⟩
    refine Seg.step _ rfl (Or.inl ⟨by rfl, fun U hU => vp_quiet (by (go_simp <;> exact rfl))⟩) ⟨_, by (simp only [Ent.val]; go_simp <;> exact rfl), ?_⟩
    refine Seg.step _ rfl (Or.inl ⟨by rfl, fun U hU => vp_quiet (by (go_simp <;> exact rfl))⟩) ⟨_, by (simp only [Ent.val]; go_simp <;> exact rfl), ?_⟩
    refine Seg.step _ rfl (Or.inl ⟨by rfl, fun U hU => vp_quiet (by (go_simp <;> exact rfl))⟩) ⟨_, by (simp only [Ent.val]; go_simp <;> exact rfl), ?_⟩
    refine Seg.step _ rfl (Or.inl ⟨by rfl, fun U hU => vp_quiet (by (go_simp <;> exact rfl))⟩) ⟨_, by (simp only [Ent.val]; go_simp <;> exact rfl), ?_⟩
    refine Seg.step _ rfl (Or.inl ⟨by rfl, fun U hU => vp_quiet (by (go_simp <;> exact rfl))⟩) ⟨_, by (simp only [Ent.val]; go_simp <;> exact rfl), ?_⟩
    refine Seg.stop (fun U6 hU hk => ?_)
    clear hk hge hne
    replace r_p0_0 := held_after hU r_p0_0
    replace r_p0_1 := held_after hU r_p0_1
    have sz6 := hU.size
    replace hB := bthen hB hU
    clear hU
    go_upto_region 7 with (fail)
    apply wp_region_seg0 (w := U6) (S := [.q [], .q [], .q []]) (E := [.q0 _, .c0 _, .q0 _]) rfl (by kernel_rfl) rfl rfl
    intro th hge hne
    refine Seg.step _ rfl (Or.inl ⟨by rfl, fun U hU => vp_quiet (by (go_simp <;> exact rfl))⟩) ⟨_, by (simp only [Ent.val]; go_simp <;> exact rfl), ?_⟩
    refine Seg.step _ rfl (Or.inl ⟨by rfl, fun U hU => ?_⟩) ?_
    · go_simp
      refine vp_calls (num24_any _ _)
    refine ⟨_, by (simp only [Ent.val]; go_simp <;> exact rfl), ?_⟩
    refine Seg.step _ rfl (Or.inl ⟨by rfl, fun U hU => vp_quiet (by (go_simp <;> exact rfl))⟩) ⟨_, by (simp only [Ent.val]; go_simp <;> exact rfl), ?_⟩
    refine Seg.stop (fun U7 hU hk => ?_)
    clear hk hge hne
    replace r_p0_0 := held_after hU r_p0_0
    replace r_p0_1 := held_after hU r_p0_1
    have sz7 := hU.size
    replace hB := bthen hB hU
    clear hU
    go_upto_if 57 with (fail)
    go_cut [13, 14] from 58 to 70 (fun _ _ W0 => W0.heap[p0_0]? = some (.cells #[.bool a0_0, .int .i64 a0_1, .int .i64 a0_2, .int .i64 a0_3] 33 (0, 0)) ∧ W0.heap[p0_1]? = some (.cells #[.bool a1_0, .int .i64 a1_1, .int .i64 a1_2, .int .i64 a1_3, .int .i64 a1_4] 23 (0, 0)) ∧ Below W.heap.size W W0)
    case first =>
      rcases hk with rfl | ⟨rfl, z1, hT⟩
      · go_wp2_with fail
        go_meet
        exact ⟨r_p0_0, r_p0_1, hB⟩
      · have k2 := hid (fun v : World => hT ▸ taked_any SD v (by omega))
        clear hT z1
        go_upto_region 8 with (fail)
        apply wp_region_seg0 (w := U7) (S := [.q [], .q [], .q [], .q [], .q [], .al 6, .st 5 [], .q []]) (E := [.q0 _, .c0 _, .q0 _, .q0 _, .q0 _, .al ((fun p => .pointer (some ⟨p, 0, none⟩)), _) 6, .s0 5 (.cells _ _), .q0 _]) rfl (by kernel_rfl) rfl rfl
        intro th hge hne
        refine Seg.step _ rfl (Or.inl ⟨by rfl, fun U hU => vp_quiet (by (go_simp <;> exact rfl))⟩) ⟨_, by (simp only [Ent.val]; go_simp <;> exact rfl), ?_⟩
        refine Seg.step _ rfl (Or.inl ⟨by rfl, fun U hU => ?_⟩) ?_
        · go_simp
          refine vp_call (k2.out _)
        refine ⟨_, by (simp only [Ent.val]; go_simp <;> exact rfl), ?_⟩
        refine Seg.step _ rfl (Or.inl ⟨by rfl, fun U hU => vp_quiet (by (go_simp <;> exact rfl))⟩) ⟨_, by (simp only [Ent.val]; go_simp <;> exact rfl), ?_⟩
        refine Seg.step _ rfl (Or.inl ⟨by rfl, fun U hU => vp_quiet (by (go_simp <;> exact rfl))⟩) ⟨_, by (simp only [Ent.val]; go_simp <;> exact rfl), ?_⟩
        refine Seg.step _ rfl (Or.inl ⟨by rfl, fun U hU => vp_quiet (by (go_simp <;> exact rfl))⟩) ⟨_, by (simp only [Ent.val]; go_simp <;> exact rfl), ?_⟩
        refine Seg.step _ rfl ⟨by rfl, fun U hU => ?_⟩ ?_
        · go_simp; exact vp_alloc rfl rfl rfl
        refine ⟨_, by (simp only [Ent.val]; go_simp <;> exact rfl), ?_⟩
        refine Seg.step _ rfl ⟨by rfl, fun U z k hz hU hc => ?_⟩ ?_
        · have hz2 := Option.some.inj hz
          cases hz2; clear hz
          exact vp_store_agg _ _ _ rfl hc rfl rfl (by kernel_rfl) rfl (by rfl)
        refine ⟨_, by (simp only [Ent.val]; go_simp <;> exact rfl), ?_⟩
        refine Seg.step _ rfl (Or.inl ⟨by rfl, fun U hU => vp_quiet (by (go_simp <;> exact rfl))⟩) ⟨_, by (simp only [Ent.val]; go_simp <;> exact rfl), ?_⟩
        refine Seg.stop (fun U8 hU hk => ?_)
        have nb5 := hge 5 _ _ rfl
        have rb5 := (hk 5 _ 6 rfl trivial).1.1 trivial _ (Nat.zero_le _) rfl
        clear hk hge hne
        generalize th (0 + 5) = p8_5 at *
        simp only [Ent.obj] at rb5
        replace r_p0_0 := held_after hU r_p0_0
        replace r_p0_1 := held_after hU r_p0_1
        have r_p8_5 := rb5
        clear rb5
        have n_p8_5 := nb5
        clear nb5
        have sz8 := hU.size
        replace hB := bthen hB hU
        clear hU
        go_upto_region 9 with (fail)
        apply wp_region_seg0 (w := U8) (S := [.q [], .q [], .q [], .q [], .q [], .q [], .q [], .q []]) (E := [.q0 _, .q0 _, .q0 _, .q0 _, .q0 _, .c0 _, .q0 _, .q0 _]) rfl (by kernel_rfl) rfl rfl
        intro th hge hne
        refine Seg.step _ rfl (Or.inl ⟨by rfl, fun U hU => vp_quiet (by (have h0 := held_cell (held_after hU.1 r_p8_5) 0 _ rfl; have h1 := held_cell (held_after hU.1 r_p8_5) 1 _ rfl; have h2 := held_cell (held_after hU.1 r_p8_5) 2 _ rfl; have h3 := held_cell (held_after hU.1 r_p8_5) 3 _ rfl; go_simp <;> exact rfl))⟩) ⟨_, by (simp only [Ent.val]; go_simp <;> exact rfl), ?_⟩
        refine Seg.step _ rfl (Or.inl ⟨by rfl, fun U hU => vp_quiet (by (have h0 := held_cell (held_after hU.1 r_p0_0) 0 _ rfl; have h1 := held_cell (held_after hU.1 r_p0_0) 1 _ rfl; have h2 := held_cell (held_after hU.1 r_p0_0) 2 _ rfl; have h3 := held_cell (held_after hU.1 r_p0_0) 3 _ rfl; go_simp <;> exact rfl))⟩) ⟨_, by (simp only [Ent.val]; go_simp <;> exact rfl), ?_⟩
        refine Seg.step _ rfl (Or.inl ⟨by rfl, fun U hU => vp_quiet (by (go_simp <;> exact rfl))⟩) ⟨_, by (simp only [Ent.val]; go_simp <;> exact rfl), ?_⟩
        refine Seg.step _ rfl (Or.inl ⟨by rfl, fun U hU => vp_quiet (by (go_simp <;> exact rfl))⟩) ⟨_, by (simp only [Ent.val]; go_simp <;> exact rfl), ?_⟩
        refine Seg.step _ rfl (Or.inl ⟨by rfl, fun U hU => vp_quiet (by (go_simp <;> exact rfl))⟩) ⟨_, by (simp only [Ent.val]; go_simp <;> exact rfl), ?_⟩
        refine Seg.step _ rfl (Or.inl ⟨by rfl, fun U hU => ?_⟩) ?_
        · go_simp
          refine vp_calls (num24_any _ _)
        refine ⟨_, by (simp only [Ent.val]; go_simp <;> exact rfl), ?_⟩
        refine Seg.step _ rfl (Or.inl ⟨by rfl, fun U hU => vp_quiet (by (go_simp <;> exact rfl))⟩) ⟨_, by (simp only [Ent.val]; go_simp <;> exact rfl), ?_⟩
        refine Seg.step _ rfl (Or.inl ⟨by rfl, fun U hU => vp_quiet (by (go_simp <;> exact rfl))⟩) ⟨_, by (simp only [Ent.val]; go_simp <;> exact rfl), ?_⟩
        refine Seg.stop (fun U9 hU hk => ?_)
        clear hk hge hne
        replace r_p0_0 := held_after hU r_p0_0
        replace r_p0_1 := held_after hU r_p0_1
        replace r_p8_5 := held_after hU r_p8_5
        have sz9 := hU.size
        replace hB := bthen hB hU
        clear hU
        go_wp2_with fail
        go_meet
        exact ⟨r_p0_0, r_p0_1, hB⟩
    case rest =>
      clear r_p0_0 r_p0_1 hB
      obtain ⟨r_p0_0, r_p0_1, hB⟩ := hcut
      clear hk k1
      obtain ⟨K, ok, hC, hK⟩ : ∃ (K : Int) (ok : Bool), cntV a0_0 a0_1 a0_2 a0_3 a1_0 a1_1 a1_2 a1_3 a1_4 = .tuple #[.int .i64 K, .bool ok] ∧ (ok = true → 0 ≤ K ∧ ∀ v : World, Calls Try.prog 21 #[.int .i64 K] v fun e w' => e = .returned (.tuple #[.agg #[.bool a0_0, .int .i64 a0_1, .int .i64 a0_2, .int .i64 a0_3], .agg #[.bool a1_0, .int .i64 a1_1, .int .i64 a1_2, .int .i64 a1_3, .int .i64 a1_4], .bool true]) ∧ Below v.heap.size v w') := by
        cases em : cntB a0_0 a0_1 a0_2 a0_3 a1_0 a1_1 a1_2 a1_3 a1_4
        · exact ⟨_, _, cntV_no em, fun h => by cases h⟩
        · obtain ⟨rfl, rfl, -, -⟩ := cntB_in em
          obtain ⟨o1, -, o2⟩ := of_count em
          exact ⟨_, _, cntV_yes em, fun _ => ⟨o1, o2⟩⟩
      replace hK := hid hK
      have k1 := hid (fun v : World => hC ▸ count_any a0_0 a0_1 a0_2 a0_3 a1_0 a1_1 a1_2 a1_3 a1_4 v)
      clear hC
      go_upto_region 11 with (fail)
      apply wp_region_seg0 (w := wc) (S := [.q [], .q [], .q [], .q [], .q [], .q [], .q [], .q []]) (E := [.q0 _, .q0 _, .c0 _, .q0 _, .q0 _, .q0 _, .q0 _, .q0 _]) rfl (by kernel_rfl) rfl rfl
      intro th hge hne
      refine Seg.step _ rfl (Or.inl ⟨by rfl, fun U hU => vp_quiet (by (have h0 := held_cell (held_after hU.1 r_p0_0) 0 _ rfl; have h1 := held_cell (held_after hU.1 r_p0_0) 1 _ rfl; have h2 := held_cell (held_after hU.1 r_p0_0) 2 _ rfl; have h3 := held_cell (held_after hU.1 r_p0_0) 3 _ rfl; go_simp <;> exact rfl))⟩) ⟨_, by (simp only [Ent.val]; go_simp <;> exact rfl), ?_⟩
      refine Seg.step _ rfl (Or.inl ⟨by rfl, fun U hU => vp_quiet (by (have h0 := held_cell (held_after hU.1 r_p0_1) 0 _ rfl; have h1 := held_cell (held_after hU.1 r_p0_1) 1 _ rfl; have h2 := held_cell (held_after hU.1 r_p0_1) 2 _ rfl; have h3 := held_cell (held_after hU.1 r_p0_1) 3 _ rfl; have h4 := held_cell (held_after hU.1 r_p0_1) 4 _ rfl; go_simp <;> exact rfl))⟩) ⟨_, by (simp only [Ent.val]; go_simp <;> exact rfl), ?_⟩
      refine Seg.step _ rfl (Or.inl ⟨by rfl, fun U hU => ?_⟩) ?_
      · go_simp
        refine vp_call (k1.out _)
      refine ⟨_, by (simp only [Ent.val]; go_simp <;> exact rfl), ?_⟩
      refine Seg.step _ rfl (Or.inl ⟨by rfl, fun U hU => vp_quiet (by (go_simp <;> exact rfl))⟩) ⟨_, by (simp only [Ent.val]; go_simp <;> exact rfl), ?_⟩
      refine Seg.step _ rfl (Or.inl ⟨by rfl, fun U hU => vp_quiet (by (go_simp <;> exact rfl))⟩) ⟨_, by (simp only [Ent.val]; go_simp <;> exact rfl), ?_⟩
      refine Seg.step _ rfl (Or.inl ⟨by rfl, fun U hU => vp_quiet (by (go_simp <;> exact rfl))⟩) ⟨_, by (simp only [Ent.val]; go_simp <;> exact rfl), ?_⟩
      refine Seg.step _ rfl (Or.inl ⟨by rfl, fun U hU => vp_quiet (by (go_simp <;> exact rfl))⟩) ⟨_, by (simp only [Ent.val]; go_simp <;> exact rfl), ?_⟩
      refine Seg.step _ rfl (Or.inl ⟨by rfl, fun U hU => vp_quiet (by (go_simp <;> exact rfl))⟩) ⟨_, by (simp only [Ent.val]; go_simp <;> exact rfl), ?_⟩
      refine Seg.stop (fun U10 hU hk => ?_)
      clear hk hge hne
      replace r_p0_0 := held_after hU r_p0_0
      replace r_p0_1 := held_after hU r_p0_1
      have sz10 := hU.size
      replace hB := bthen hB hU
      clear hU
      go_upto_if 77 with (fail)
      go_cut [17, 18, 19] from 78 to 99 (fun _ _ _ W0 => W0.heap[p0_0]? = some (.cells #[.bool a0_0, .int .i64 a0_1, .int .i64 a0_2, .int .i64 a0_3] 33 (0, 0)) ∧ W0.heap[p0_1]? = some (.cells #[.bool a1_0, .int .i64 a1_1, .int .i64 a1_2, .int .i64 a1_3, .int .i64 a1_4] 23 (0, 0)) ∧ Below W.heap.size W W0)
      case first =>
        cases ok
        · go_wp2_with fail
          go_meet
          exact ⟨r_p0_0, r_p0_1, hB⟩
        · obtain ⟨o1, o2⟩ := hK.out rfl
          replace o2 := hid o2
          have d1 : decide (K < 0) = false := by simp; omega
          clear hK
          go_upto_region 13 with (fail)
          apply wp_region_seg0 (w := U10) (S := [.q [], .q [], .q [], .q [], .q [], .q [], .al 8, .al 9, .st 6 [], .st 7 [], .q []]) (E := [.q0 _, .c0 _, .q0 _, .q0 _, .q0 _, .q0 _, .al ((fun p => .pointer (some ⟨p, 0, none⟩)), _) 8, .al ((fun p => .pointer (some ⟨p, 0, none⟩)), _) 9, .s0 6 (.cells _ _), .s0 7 (.cells _ _), .q0 _]) rfl (by kernel_rfl) rfl rfl
          intro th hge hne
          refine Seg.step _ rfl (Or.inl ⟨by rfl, fun U hU => vp_quiet (by (go_simp <;> exact rfl))⟩) ⟨_, by (simp only [Ent.val]; go_simp <;> exact rfl), ?_⟩
          refine Seg.step _ rfl (Or.inl ⟨by rfl, fun U hU => ?_⟩) ?_
          · go_simp
            refine vp_call (o2.out _)
          refine ⟨_, by (simp only [Ent.val]; go_simp <;> exact rfl), ?_⟩
          refine Seg.step _ rfl (Or.inl ⟨by rfl, fun U hU => vp_quiet (by (go_simp <;> exact rfl))⟩) ⟨_, by (simp only [Ent.val]; go_simp <;> exact rfl), ?_⟩
          refine Seg.step _ rfl (Or.inl ⟨by rfl, fun U hU => vp_quiet (by (go_simp <;> exact rfl))⟩) ⟨_, by (simp only [Ent.val]; go_simp <;> exact rfl), ?_⟩
          refine Seg.step _ rfl (Or.inl ⟨by rfl, fun U hU => vp_quiet (by (go_simp <;> exact rfl))⟩) ⟨_, by (simp only [Ent.val]; go_simp <;> exact rfl), ?_⟩
          refine Seg.step _ rfl (Or.inl ⟨by rfl, fun U hU => vp_quiet (by (go_simp <;> exact rfl))⟩) ⟨_, by (simp only [Ent.val]; go_simp <;> exact rfl), ?_⟩
          refine Seg.step _ rfl ⟨by rfl, fun U hU => ?_⟩ ?_
          · go_simp; exact vp_alloc rfl rfl rfl
          refine ⟨_, by (simp only [Ent.val]; go_simp <;> exact rfl), ?_⟩
          refine Seg.step _ rfl ⟨by rfl, fun U hU => ?_⟩ ?_
          · go_simp; exact vp_alloc rfl rfl rfl
          refine ⟨_, by (simp only [Ent.val]; go_simp <;> exact rfl), ?_⟩
          refine Seg.step _ rfl ⟨by rfl, fun U z k hz hU hc => ?_⟩ ?_
          · have hz2 := Option.some.inj hz
            cases hz2; clear hz
            exact vp_store_agg _ _ _ rfl hc rfl rfl (by kernel_rfl) rfl (by rfl)
          refine ⟨_, by (simp only [Ent.val]; go_simp <;> exact rfl), ?_⟩
          refine Seg.step _ rfl ⟨by rfl, fun U z k hz hU hc => ?_⟩ ?_
          · have hz2 := Option.some.inj hz
            cases hz2; clear hz
            exact vp_store_agg _ _ _ rfl hc rfl rfl (by kernel_rfl) rfl (by rfl)
          refine ⟨_, by (simp only [Ent.val]; go_simp <;> exact rfl), ?_⟩
          refine Seg.step _ rfl (Or.inl ⟨by rfl, fun U hU => vp_quiet (by (go_simp <;> exact rfl))⟩) ⟨_, by (simp only [Ent.val]; go_simp <;> exact rfl), ?_⟩
          refine Seg.stop (fun U11 hU hk => ?_)
          have nb6 := hge 6 _ _ rfl
          have rb6 := (hk 6 _ 8 rfl trivial).1.1 trivial _ (Nat.zero_le _) rfl
          have nb7 := hge 7 _ _ rfl
          have rb7 := (hk 7 _ 9 rfl trivial).1.1 trivial _ (Nat.zero_le _) rfl
          have ne6_7 := hne 6 7 _ _ _ _ rfl rfl (by omega)
          clear hk hge hne
          generalize th (0 + 6) = p13_6 at *
          simp only [Ent.obj] at rb6
          generalize th (0 + 7) = p13_7 at *
          simp only [Ent.obj] at rb7
          replace r_p0_0 := held_after hU r_p0_0
          replace r_p0_1 := held_after hU r_p0_1
          have r_p13_6 := rb6
          clear rb6
          have n_p13_6 := nb6
          clear nb6
          have d_p13_6_p13_7 := ne6_7
          clear ne6_7
          have r_p13_7 := rb7
          clear rb7
          have n_p13_7 := nb7
          clear nb7
          have sz11 := hU.size
          replace hB := bthen hB hU
          clear hU
          go_upto_region 14 with (fail)
          apply wp_region_seg0 (w := U11) (S := [.q [], .q [], .q [], .q [], .q [], .q [], .q [], .q [], .q [], .q [], .q [], .q [], .q [], .q [], .q [], .q []]) (E := [.q0 _, .q0 _, .q0 _, .q0 _, .q0 _, .q0 _, .q0 _, .q0 _, .q0 _, .q0 _, .q0 _, .q0 _, .q0 _, .q0 _, .q0 _, .q0 _]) rfl (by kernel_rfl) rfl rfl
          intro th hge hne
          refine Seg.step _ rfl (Or.inl ⟨by rfl, fun U hU => vp_quiet (by (go_simp <;> exact rfl))⟩) ⟨_, by (simp only [Ent.val]; go_simp <;> exact rfl), ?_⟩
          refine Seg.step _ rfl (Or.inl ⟨by rfl, fun U hU => vp_quiet (by (go_simp <;> exact rfl))⟩) ⟨_, by (simp only [Ent.val]; go_simp <;> exact rfl), ?_⟩
          refine Seg.step _ rfl (Or.inl ⟨by rfl, fun U hU => vp_quiet (by (go_simp <;> exact rfl))⟩) ⟨_, by (simp only [Ent.val]; go_simp <;> exact rfl), ?_⟩
          refine Seg.step _ rfl (Or.inl ⟨by rfl, fun U hU => vp_quiet (by (have h0 := held_cell (held_after hU.1 r_p13_6) 0 _ rfl; have h1 := held_cell (held_after hU.1 r_p13_6) 1 _ rfl; have h2 := held_cell (held_after hU.1 r_p13_6) 2 _ rfl; have h3 := held_cell (held_after hU.1 r_p13_6) 3 _ rfl; go_simp <;> exact rfl))⟩) ⟨_, by (simp only [Ent.val]; go_simp <;> exact rfl), ?_⟩
          refine Seg.step _ rfl (Or.inl ⟨by rfl, fun U hU => vp_quiet (by (have h0 := held_cell (held_after hU.1 r_p0_0) 0 _ rfl; have h1 := held_cell (held_after hU.1 r_p0_0) 1 _ rfl; have h2 := held_cell (held_after hU.1 r_p0_0) 2 _ rfl; have h3 := held_cell (held_after hU.1 r_p0_0) 3 _ rfl; go_simp <;> exact rfl))⟩) ⟨_, by (simp only [Ent.val]; go_simp <;> exact rfl), ?_⟩
          refine Seg.step _ rfl (Or.inl ⟨by rfl, fun U hU => vp_quiet (by (go_simp <;> exact rfl))⟩) ⟨_, by (simp only [Ent.val]; go_simp <;> exact rfl), ?_⟩
          refine Seg.step _ rfl (Or.inl ⟨by rfl, fun U hU => vp_quiet (by (go_simp <;> exact rfl))⟩) ⟨_, by (simp only [Ent.val]; go_simp <;> exact rfl), ?_⟩
          refine Seg.step _ rfl (Or.inl ⟨by rfl, fun U hU => vp_quiet (by (go_simp <;> exact rfl))⟩) ⟨_, by (simp only [Ent.val]; go_simp <;> exact rfl), ?_⟩
          refine Seg.step _ rfl (Or.inl ⟨by rfl, fun U hU => vp_quiet (by (have h0 := held_cell (held_after hU.1 r_p13_7) 0 _ rfl; have h1 := held_cell (held_after hU.1 r_p13_7) 1 _ rfl; have h2 := held_cell (held_after hU.1 r_p13_7) 2 _ rfl; have h3 := held_cell (held_after hU.1 r_p13_7) 3 _ rfl; have h4 := held_cell (held_after hU.1 r_p13_7) 4 _ rfl; go_simp <;> exact rfl))⟩) ⟨_, by (simp only [Ent.val]; go_simp <;> exact rfl), ?_⟩
          refine Seg.step _ rfl (Or.inl ⟨by rfl, fun U hU => vp_quiet (by (have h0 := held_cell (held_after hU.1 r_p0_1) 0 _ rfl; have h1 := held_cell (held_after hU.1 r_p0_1) 1 _ rfl; have h2 := held_cell (held_after hU.1 r_p0_1) 2 _ rfl; have h3 := held_cell (held_after hU.1 r_p0_1) 3 _ rfl; have h4 := held_cell (held_after hU.1 r_p0_1) 4 _ rfl; go_simp <;> exact rfl))⟩) ⟨_, by (simp only [Ent.val]; go_simp <;> exact rfl), ?_⟩
          refine Seg.step _ rfl (Or.inl ⟨by rfl, fun U hU => vp_quiet (by (go_simp <;> exact rfl))⟩) ⟨_, by (simp only [Ent.val]; go_simp <;> exact rfl), ?_⟩
          refine Seg.step _ rfl (Or.inl ⟨by rfl, fun U hU => vp_quiet (by (go_simp <;> exact rfl))⟩) ⟨_, by (simp only [Ent.val]; go_simp <;> exact rfl), ?_⟩
          refine Seg.step _ rfl (Or.inl ⟨by rfl, fun U hU => vp_quiet (by (go_simp <;> exact rfl))⟩) ⟨_, by (simp only [Ent.val]; go_simp <;> exact rfl), ?_⟩
          refine Seg.step _ rfl (Or.inl ⟨by rfl, fun U hU => vp_quiet (by (go_simp <;> exact rfl))⟩) ⟨_, by (simp only [Ent.val]; go_simp <;> exact rfl), ?_⟩
          refine Seg.step _ rfl (Or.inl ⟨by rfl, fun U hU => vp_quiet (by (go_simp <;> exact rfl))⟩) ⟨_, by (simp only [Ent.val]; go_simp <;> exact rfl), ?_⟩
          refine Seg.step _ rfl (Or.inl ⟨by rfl, fun U hU => vp_quiet (by (go_simp <;> exact rfl))⟩) ⟨_, by (simp only [Ent.val]; go_simp <;> exact rfl), ?_⟩
          refine Seg.stop (fun U12 hU hk => ?_)
          clear hk hge hne
          replace r_p0_0 := held_after hU r_p0_0
          replace r_p0_1 := held_after hU r_p0_1
          replace r_p13_6 := held_after hU r_p13_6
          replace r_p13_7 := held_after hU r_p13_7
          have sz12 := hU.size
          replace hB := bthen hB hU
          clear hU
          go_wp2_with fail
          go_meet
          exact ⟨r_p0_0, r_p0_1, hB⟩
      case rest =>
        clear r_p0_0 r_p0_1 hB
        obtain ⟨r_p0_0, r_p0_1, hB⟩ := hcut
        clear hK k1
        skip
        by_cases hx : a2 < 0 ∨ 315576000000 ≤ a2
        · have k2 := hid (fun v : World => of_any_no a2 v hx)
          replace k2 : Go.RowKit.Hid (∀ v : World, Calls Try.prog 21 #[.int .i64 a2] v fun e w' => e = .returned (.tuple #[.agg #[.bool false, .int .i64 0, .int .i64 0, .int .i64 0], .agg #[.bool false, .int .i64 0, .int .i64 0, .int .i64 0, .int .i64 0], .bool false]) ∧ Below v.heap.size v w') := k2
          by_cases hy : a2 < 0
          case pos =>
            have d1 : decide (a2 < 0) = true := by simp; omega
            go_upto_region 16 with (fail)
            apply wp_region_seg0 (w := wc) (S := [.q [], .q [], .q [], .q [], .q [], .q [], .al 8, .al 9, .st 6 [], .st 7 [], .q []]) (E := [.q0 _, .c0 _, .q0 _, .q0 _, .q0 _, .q0 _, .al ((fun p => .pointer (some ⟨p, 0, none⟩)), _) 8, .al ((fun p => .pointer (some ⟨p, 0, none⟩)), _) 9, .s0 6 (.cells _ _), .s0 7 (.cells _ _), .q0 _]) rfl (by kernel_rfl) rfl rfl
            intro th hge hne
            refine Seg.step _ rfl (Or.inl ⟨by rfl, fun U hU => vp_quiet (by (go_simp <;> exact rfl))⟩) ⟨_, by (simp only [Ent.val]; go_simp <;> exact rfl), ?_⟩
            refine Seg.step _ rfl (Or.inl ⟨by rfl, fun U hU => ?_⟩) ?_
            · go_simp
              refine vp_call (k2.out _)
            refine ⟨_, by (simp only [Ent.val]; go_simp <;> exact rfl), ?_⟩
            refine Seg.step _ rfl (Or.inl ⟨by rfl, fun U hU => vp_quiet (by (go_simp <;> exact rfl))⟩) ⟨_, by (simp only [Ent.val]; go_simp <;> exact rfl), ?_⟩
            refine Seg.step _ rfl (Or.inl ⟨by rfl, fun U hU => vp_quiet (by (go_simp <;> exact rfl))⟩) ⟨_, by (simp only [Ent.val]; go_simp <;> exact rfl), ?_⟩
            refine Seg.step _ rfl (Or.inl ⟨by rfl, fun U hU => vp_quiet (by (go_simp <;> exact rfl))⟩) ⟨_, by (simp only [Ent.val]; go_simp <;> exact rfl), ?_⟩
            refine Seg.step _ rfl (Or.inl ⟨by rfl, fun U hU => vp_quiet (by (go_simp <;> exact rfl))⟩) ⟨_, by (simp only [Ent.val]; go_simp <;> exact rfl), ?_⟩
            refine Seg.step _ rfl ⟨by rfl, fun U hU => ?_⟩ ?_
            · go_simp; exact vp_alloc rfl rfl rfl
            refine ⟨_, by (simp only [Ent.val]; go_simp <;> exact rfl), ?_⟩
            refine Seg.step _ rfl ⟨by rfl, fun U hU => ?_⟩ ?_
            · go_simp; exact vp_alloc rfl rfl rfl
            refine ⟨_, by (simp only [Ent.val]; go_simp <;> exact rfl), ?_⟩
            refine Seg.step _ rfl ⟨by rfl, fun U z k hz hU hc => ?_⟩ ?_
            · have hz2 := Option.some.inj hz
              cases hz2; clear hz
              exact vp_store_agg _ _ _ rfl hc rfl rfl (by kernel_rfl) rfl (by rfl)
            refine ⟨_, by (simp only [Ent.val]; go_simp <;> exact rfl), ?_⟩
            refine Seg.step _ rfl ⟨by rfl, fun U z k hz hU hc => ?_⟩ ?_
            · have hz2 := Option.some.inj hz
              cases hz2; clear hz
              exact vp_store_agg _ _ _ rfl hc rfl rfl (by kernel_rfl) rfl (by rfl)
            refine ⟨_, by (simp only [Ent.val]; go_simp <;> exact rfl), ?_⟩
            refine Seg.step _ rfl (Or.inl ⟨by rfl, fun U hU => vp_quiet (by (go_simp <;> exact rfl))⟩) ⟨_, by (simp only [Ent.val]; go_simp <;> exact rfl), ?_⟩
            refine Seg.stop (fun U13 hU hk => ?_)
            have nb6 := hge 6 _ _ rfl
            have rb6 := (hk 6 _ 8 rfl trivial).1.1 trivial _ (Nat.zero_le _) rfl
            have nb7 := hge 7 _ _ rfl
            have rb7 := (hk 7 _ 9 rfl trivial).1.1 trivial _ (Nat.zero_le _) rfl
            have ne6_7 := hne 6 7 _ _ _ _ rfl rfl (by omega)
            clear hk hge hne
            generalize th (0 + 6) = p16_6 at *
            simp only [Ent.obj] at rb6
            generalize th (0 + 7) = p16_7 at *
            simp only [Ent.obj] at rb7
            replace r_p0_0 := held_after hU r_p0_0
            replace r_p0_1 := held_after hU r_p0_1
            have r_p16_6 := rb6
            clear rb6
            have n_p16_6 := nb6
            clear nb6
            have d_p16_6_p16_7 := ne6_7
            clear ne6_7
            have r_p16_7 := rb7
            clear rb7
            have n_p16_7 := nb7
            clear nb7
            have sz13 := hU.size
            replace hB := bthen hB hU
            clear hU
            go_upto_region 18 with (fail)
            apply wp_region_seg0 (w := U13) (S := [.q [], .q [], .q [], .q [], .q [], .q [], .q [], .q [], .q [], .q []]) (E := [.q0 _, .q0 _, .q0 _, .q0 _, .q0 _, .q0 _, .q0 _, .c0 _, .q0 _, .q0 _]) rfl (by kernel_rfl) rfl rfl
            intro th hge hne
            refine Seg.step _ rfl (Or.inl ⟨by rfl, fun U hU => vp_quiet (by (go_simp <;> exact rfl))⟩) ⟨_, by (simp only [Ent.val]; go_simp <;> exact rfl), ?_⟩
            refine Seg.step _ rfl (Or.inl ⟨by rfl, fun U hU => vp_quiet (by (go_simp <;> exact rfl))⟩) ⟨_, by (simp only [Ent.val]; go_simp <;> exact rfl), ?_⟩
            refine Seg.step _ rfl (Or.inl ⟨by rfl, fun U hU => vp_quiet (by (go_simp <;> exact rfl))⟩) ⟨_, by (simp only [Ent.val]; go_simp <;> exact rfl), ?_⟩
            refine Seg.step _ rfl (Or.inr ⟨by rfl, rfl⟩) ⟨_, by (simp only [Ent.val]; go_simp <;> exact rfl), ?_⟩
            refine Seg.step _ rfl (Or.inr ⟨by rfl, rfl⟩) ⟨_, by (simp only [Ent.val]; go_simp <;> exact rfl), ?_⟩
            refine Seg.step _ rfl (Or.inl ⟨by rfl, fun U hU => vp_quiet (by (go_simp <;> exact rfl))⟩) ⟨_, by (simp only [Ent.val]; go_simp <;> exact rfl), ?_⟩
            refine Seg.step _ rfl (Or.inl ⟨by rfl, fun U hU => vp_quiet (by (go_simp <;> exact rfl))⟩) ⟨_, by (simp only [Ent.val]; go_simp <;> exact rfl), ?_⟩
            refine Seg.step _ rfl (Or.inl ⟨by rfl, fun U hU => ?_⟩) ?_
            · go_simp
              refine vp_call (knows24_any _)
            refine ⟨_, by (simp only [Ent.val]; go_simp <;> exact rfl), ?_⟩
            refine Seg.step _ rfl (Or.inl ⟨by rfl, fun U hU => vp_quiet (by (go_simp <;> exact rfl))⟩) ⟨_, by (simp only [Ent.val]; go_simp <;> exact rfl), ?_⟩
            refine Seg.step _ rfl (Or.inl ⟨by rfl, fun U hU => vp_quiet (by (go_simp <;> exact rfl))⟩) ⟨_, by (simp only [Ent.val]; go_simp <;> exact rfl), ?_⟩
            refine Seg.stop (fun U14 hU hk => ?_)
            clear hk hge hne
            replace r_p0_0 := held_after hU r_p0_0
            replace r_p0_1 := held_after hU r_p0_1
            replace r_p16_6 := held_after hU r_p16_6
            replace r_p16_7 := held_after hU r_p16_7
            have sz14 := hU.size
            replace hB := bthen hB hU
            clear hU
            go_wp2_with fail
            go_ret
            exact ⟨rfl, hB⟩
          case neg =>
            have d1 : decide (a2 < 0) = false := by simp; omega
            have d2 : decide (315576000000 ≤ a2) = true := by simp; omega
            go_upto_region 16 with (fail)
            apply wp_region_seg0 (w := wc) (S := [.q [], .q [], .q [], .q [], .q [], .q [], .al 8, .al 9, .st 6 [], .st 7 [], .q []]) (E := [.q0 _, .c0 _, .q0 _, .q0 _, .q0 _, .q0 _, .al ((fun p => .pointer (some ⟨p, 0, none⟩)), _) 8, .al ((fun p => .pointer (some ⟨p, 0, none⟩)), _) 9, .s0 6 (.cells _ _), .s0 7 (.cells _ _), .q0 _]) rfl (by kernel_rfl) rfl rfl
            intro th hge hne
            refine Seg.step _ rfl (Or.inl ⟨by rfl, fun U hU => vp_quiet (by (go_simp <;> exact rfl))⟩) ⟨_, by (simp only [Ent.val]; go_simp <;> exact rfl), ?_⟩
            refine Seg.step _ rfl (Or.inl ⟨by rfl, fun U hU => ?_⟩) ?_
            · go_simp
              refine vp_call (k2.out _)
            refine ⟨_, by (simp only [Ent.val]; go_simp <;> exact rfl), ?_⟩
            refine Seg.step _ rfl (Or.inl ⟨by rfl, fun U hU => vp_quiet (by (go_simp <;> exact rfl))⟩) ⟨_, by (simp only [Ent.val]; go_simp <;> exact rfl), ?_⟩
            refine Seg.step _ rfl (Or.inl ⟨by rfl, fun U hU => vp_quiet (by (go_simp <;> exact rfl))⟩) ⟨_, by (simp only [Ent.val]; go_simp <;> exact rfl), ?_⟩
            refine Seg.step _ rfl (Or.inl ⟨by rfl, fun U hU => vp_quiet (by (go_simp <;> exact rfl))⟩) ⟨_, by (simp only [Ent.val]; go_simp <;> exact rfl), ?_⟩
            refine Seg.step _ rfl (Or.inl ⟨by rfl, fun U hU => vp_quiet (by (go_simp <;> exact rfl))⟩) ⟨_, by (simp only [Ent.val]; go_simp <;> exact rfl), ?_⟩
            refine Seg.step _ rfl ⟨by rfl, fun U hU => ?_⟩ ?_
            · go_simp; exact vp_alloc rfl rfl rfl
            refine ⟨_, by (simp only [Ent.val]; go_simp <;> exact rfl), ?_⟩
            refine Seg.step _ rfl ⟨by rfl, fun U hU => ?_⟩ ?_
            · go_simp; exact vp_alloc rfl rfl rfl
            refine ⟨_, by (simp only [Ent.val]; go_simp <;> exact rfl), ?_⟩
            refine Seg.step _ rfl ⟨by rfl, fun U z k hz hU hc => ?_⟩ ?_
            · have hz2 := Option.some.inj hz
              cases hz2; clear hz
              exact vp_store_agg _ _ _ rfl hc rfl rfl (by kernel_rfl) rfl (by rfl)
            refine ⟨_, by (simp only [Ent.val]; go_simp <;> exact rfl), ?_⟩
            refine Seg.step _ rfl ⟨by rfl, fun U z k hz hU hc => ?_⟩ ?_
            · have hz2 := Option.some.inj hz
              cases hz2; clear hz
              exact vp_store_agg _ _ _ rfl hc rfl rfl (by kernel_rfl) rfl (by rfl)
            refine ⟨_, by (simp only [Ent.val]; go_simp <;> exact rfl), ?_⟩
            refine Seg.step _ rfl (Or.inl ⟨by rfl, fun U hU => vp_quiet (by (go_simp <;> exact rfl))⟩) ⟨_, by (simp only [Ent.val]; go_simp <;> exact rfl), ?_⟩
            refine Seg.stop (fun U13 hU hk => ?_)
            have nb6 := hge 6 _ _ rfl
            have rb6 := (hk 6 _ 8 rfl trivial).1.1 trivial _ (Nat.zero_le _) rfl
            have nb7 := hge 7 _ _ rfl
            have rb7 := (hk 7 _ 9 rfl trivial).1.1 trivial _ (Nat.zero_le _) rfl
            have ne6_7 := hne 6 7 _ _ _ _ rfl rfl (by omega)
            clear hk hge hne
            generalize th (0 + 6) = p16_6 at *
            simp only [Ent.obj] at rb6
            generalize th (0 + 7) = p16_7 at *
            simp only [Ent.obj] at rb7
            replace r_p0_0 := held_after hU r_p0_0
            replace r_p0_1 := held_after hU r_p0_1
            have r_p16_6 := rb6
            clear rb6
            have n_p16_6 := nb6
            clear nb6
            have d_p16_6_p16_7 := ne6_7
            clear ne6_7
            have r_p16_7 := rb7
            clear rb7
            have n_p16_7 := nb7
            clear nb7
            have sz13 := hU.size
            replace hB := bthen hB hU
            clear hU
            go_upto_region 18 with (fail)
            apply wp_region_seg0 (w := U13) (S := [.q [], .q [], .q [], .q [], .q [], .q [], .q [], .q [], .q [], .q []]) (E := [.q0 _, .q0 _, .q0 _, .q0 _, .q0 _, .q0 _, .q0 _, .c0 _, .q0 _, .q0 _]) rfl (by kernel_rfl) rfl rfl
            intro th hge hne
            refine Seg.step _ rfl (Or.inl ⟨by rfl, fun U hU => vp_quiet (by (go_simp <;> exact rfl))⟩) ⟨_, by (simp only [Ent.val]; go_simp <;> exact rfl), ?_⟩
            refine Seg.step _ rfl (Or.inl ⟨by rfl, fun U hU => vp_quiet (by (go_simp <;> exact rfl))⟩) ⟨_, by (simp only [Ent.val]; go_simp <;> exact rfl), ?_⟩
            refine Seg.step _ rfl (Or.inl ⟨by rfl, fun U hU => vp_quiet (by (go_simp <;> exact rfl))⟩) ⟨_, by (simp only [Ent.val]; go_simp <;> exact rfl), ?_⟩
            refine Seg.step _ rfl (Or.inl ⟨by rfl, fun U hU => vp_quiet (by (go_simp <;> exact rfl))⟩) ⟨_, by (simp only [Ent.val]; go_simp <;> exact rfl), ?_⟩
            refine Seg.step _ rfl (Or.inl ⟨by rfl, fun U hU => vp_quiet (by (go_simp <;> exact rfl))⟩) ⟨_, by (simp only [Ent.val]; go_simp <;> exact rfl), ?_⟩
            refine Seg.step _ rfl (Or.inl ⟨by rfl, fun U hU => vp_quiet (by (go_simp <;> exact rfl))⟩) ⟨_, by (simp only [Ent.val]; go_simp <;> exact rfl), ?_⟩
            refine Seg.step _ rfl (Or.inl ⟨by rfl, fun U hU => vp_quiet (by (go_simp <;> exact rfl))⟩) ⟨_, by (simp only [Ent.val]; go_simp <;> exact rfl), ?_⟩
            refine Seg.step _ rfl (Or.inl ⟨by rfl, fun U hU => ?_⟩) ?_
            · go_simp
              refine vp_call (knows24_any _)
            refine ⟨_, by (simp only [Ent.val]; go_simp <;> exact rfl), ?_⟩
            refine Seg.step _ rfl (Or.inl ⟨by rfl, fun U hU => vp_quiet (by (go_simp <;> exact rfl))⟩) ⟨_, by (simp only [Ent.val]; go_simp <;> exact rfl), ?_⟩
            refine Seg.step _ rfl (Or.inl ⟨by rfl, fun U hU => vp_quiet (by (go_simp <;> exact rfl))⟩) ⟨_, by (simp only [Ent.val]; go_simp <;> exact rfl), ?_⟩
            refine Seg.stop (fun U14 hU hk => ?_)
            clear hk hge hne
            replace r_p0_0 := held_after hU r_p0_0
            replace r_p0_1 := held_after hU r_p0_1
            replace r_p16_6 := held_after hU r_p16_6
            replace r_p16_7 := held_after hU r_p16_7
            have sz14 := hU.size
            replace hB := bthen hB hU
            clear hU
            go_wp2_with fail
            go_ret
            exact ⟨rfl, hB⟩
        · obtain ⟨y, m, y1, y2, m1, m2, c1, c2⟩ := of_ex (D := a2 / 8640000) (by omega) (by omega)
          obtain ⟨j1, j2, j3⟩ := count_of (n := a2) (by omega) (by omega) y1 y2 m1 m2 c1 c2
          have k2 := fun v : World => of_any a2 y m v (by omega) (by omega) y1 y2 m1 m2 c1 c2
          obtain ⟨D, eD⟩ : ∃ X, a2 / 8640000 - cumM y m + 1 = X := ⟨_, rfl⟩
          obtain ⟨H, eH⟩ : ∃ X, a2 % 8640000 / 360000 = X := ⟨_, rfl⟩
          obtain ⟨I, eI⟩ : ∃ X, a2 % 360000 / 6000 = X := ⟨_, rfl⟩
          obtain ⟨S, eS⟩ : ∃ X, a2 % 6000 / 100 = X := ⟨_, rfl⟩
          obtain ⟨C, eC⟩ : ∃ X, a2 % 100 = X := ⟨_, rfl⟩
          rw [eD, eH, eI, eS, eC] at k2 j3
          rw [eD] at j1
          rw [eH, eI, eS, eC] at j2
          clear eD eH eI eS eC c1 c2
          have jc : cntB true D m y true H I S C = true := by unfold cntB; rw [j1, j2]; rfl
          have jV := cntV_yes jc
          rw [j3] at jV
          have k3 := hid (fun v : World => jV ▸ count_any true D m y true H I S C v)
          obtain ⟨T6, hT6, -, z6, -⟩ := taked_put j1
          obtain ⟨T9, hT9, z9, z7, -⟩ := take_put j2
          have k4 := hid (fun v : World => hT6 ▸ putd_any true D m y v)
          have k5 := hid (fun v : World => hT9 ▸ put_any true H I S C v)
          replace z6 := z6 rfl
          replace z7 := z7 rfl
          replace k2 := hid k2
          clear jc jV j1 j2 j3 hT6 hT9
          replace k2 : Go.RowKit.Hid (∀ v : World, Calls Try.prog 21 #[.int .i64 a2] v fun e w' => e = .returned (.tuple #[.agg #[.bool true, .int .i64 D, .int .i64 m, .int .i64 y], .agg #[.bool true, .int .i64 H, .int .i64 I, .int .i64 S, .int .i64 C], .bool true]) ∧ Below v.heap.size v w') := k2
          have y6 : ((T6.size : Int) == 6) = true := by simp [z6]
          have y7 : decide ((6 : Int) ≤ T9.size) = true := by simp; omega
          have y9 : decide ((T9.size : Int) ≤ 9) = true := by simp; omega
          have yy6 : (T6.size : Int) = 6 := by omega
          go_upto_region 16 with (fail)
          apply wp_region_seg0 (w := wc) (S := [.q [], .q [], .q [], .q [], .q [], .q [], .al 8, .al 9, .st 6 [], .st 7 [], .q []]) (E := [.q0 _, .c0 _, .q0 _, .q0 _, .q0 _, .q0 _, .al ((fun p => .pointer (some ⟨p, 0, none⟩)), _) 8, .al ((fun p => .pointer (some ⟨p, 0, none⟩)), _) 9, .s0 6 (.cells _ _), .s0 7 (.cells _ _), .q0 _]) rfl (by kernel_rfl) rfl rfl
          intro th hge hne
          refine Seg.step _ rfl (Or.inl ⟨by rfl, fun U hU => vp_quiet (by (go_simp <;> exact rfl))⟩) ⟨_, by (simp only [Ent.val]; go_simp <;> exact rfl), ?_⟩
          refine Seg.step _ rfl (Or.inl ⟨by rfl, fun U hU => ?_⟩) ?_
          · go_simp
            refine vp_call (k2.out _)
          refine ⟨_, by (simp only [Ent.val]; go_simp <;> exact rfl), ?_⟩
          refine Seg.step _ rfl (Or.inl ⟨by rfl, fun U hU => vp_quiet (by (go_simp <;> exact rfl))⟩) ⟨_, by (simp only [Ent.val]; go_simp <;> exact rfl), ?_⟩
          refine Seg.step _ rfl (Or.inl ⟨by rfl, fun U hU => vp_quiet (by (go_simp <;> exact rfl))⟩) ⟨_, by (simp only [Ent.val]; go_simp <;> exact rfl), ?_⟩
          refine Seg.step _ rfl (Or.inl ⟨by rfl, fun U hU => vp_quiet (by (go_simp <;> exact rfl))⟩) ⟨_, by (simp only [Ent.val]; go_simp <;> exact rfl), ?_⟩
          refine Seg.step _ rfl (Or.inl ⟨by rfl, fun U hU => vp_quiet (by (go_simp <;> exact rfl))⟩) ⟨_, by (simp only [Ent.val]; go_simp <;> exact rfl), ?_⟩
          refine Seg.step _ rfl ⟨by rfl, fun U hU => ?_⟩ ?_
          · go_simp; exact vp_alloc rfl rfl rfl
          refine ⟨_, by (simp only [Ent.val]; go_simp <;> exact rfl), ?_⟩
          refine Seg.step _ rfl ⟨by rfl, fun U hU => ?_⟩ ?_
          · go_simp; exact vp_alloc rfl rfl rfl
          refine ⟨_, by (simp only [Ent.val]; go_simp <;> exact rfl), ?_⟩
          refine Seg.step _ rfl ⟨by rfl, fun U z k hz hU hc => ?_⟩ ?_
          · have hz2 := Option.some.inj hz
            cases hz2; clear hz
            exact vp_store_agg _ _ _ rfl hc rfl rfl (by kernel_rfl) rfl (by rfl)
          refine ⟨_, by (simp only [Ent.val]; go_simp <;> exact rfl), ?_⟩
          refine Seg.step _ rfl ⟨by rfl, fun U z k hz hU hc => ?_⟩ ?_
          · have hz2 := Option.some.inj hz
            cases hz2; clear hz
            exact vp_store_agg _ _ _ rfl hc rfl rfl (by kernel_rfl) rfl (by rfl)
          refine ⟨_, by (simp only [Ent.val]; go_simp <;> exact rfl), ?_⟩
          refine Seg.step _ rfl (Or.inl ⟨by rfl, fun U hU => vp_quiet (by (go_simp <;> exact rfl))⟩) ⟨_, by (simp only [Ent.val]; go_simp <;> exact rfl), ?_⟩
          refine Seg.stop (fun U13 hU hk => ?_)
          have nb6 := hge 6 _ _ rfl
          have rb6 := (hk 6 _ 8 rfl trivial).1.1 trivial _ (Nat.zero_le _) rfl
          have nb7 := hge 7 _ _ rfl
          have rb7 := (hk 7 _ 9 rfl trivial).1.1 trivial _ (Nat.zero_le _) rfl
          have ne6_7 := hne 6 7 _ _ _ _ rfl rfl (by omega)
          clear hk hge hne
          generalize th (0 + 6) = p16_6 at *
          simp only [Ent.obj] at rb6
          generalize th (0 + 7) = p16_7 at *
          simp only [Ent.obj] at rb7
          replace r_p0_0 := held_after hU r_p0_0
          replace r_p0_1 := held_after hU r_p0_1
          have r_p16_6 := rb6
          clear rb6
          have n_p16_6 := nb6
          clear nb6
          have d_p16_6_p16_7 := ne6_7
          clear ne6_7
          have r_p16_7 := rb7
          clear rb7
          have n_p16_7 := nb7
          clear nb7
          have sz13 := hU.size
          replace hB := bthen hB hU
          clear hU
          go_upto_region 19 with (fail)
          apply wp_region_seg0 (w := U13) (S := [.q [], .q [], .q [], .q [], .q [], .q [], .q [], .q []]) (E := [.q0 _, .q0 _, .c0 _, .q0 _, .q0 _, .q0 _, .q0 _, .q0 _]) rfl (by kernel_rfl) rfl rfl
          intro th hge hne
          refine Seg.step _ rfl (Or.inl ⟨by rfl, fun U hU => vp_quiet (by (have h0 := held_cell (held_after hU.1 r_p16_6) 0 _ rfl; have h1 := held_cell (held_after hU.1 r_p16_6) 1 _ rfl; have h2 := held_cell (held_after hU.1 r_p16_6) 2 _ rfl; have h3 := held_cell (held_after hU.1 r_p16_6) 3 _ rfl; go_simp <;> exact rfl))⟩) ⟨_, by (simp only [Ent.val]; go_simp <;> exact rfl), ?_⟩
          refine Seg.step _ rfl (Or.inl ⟨by rfl, fun U hU => vp_quiet (by (have h0 := held_cell (held_after hU.1 r_p16_7) 0 _ rfl; have h1 := held_cell (held_after hU.1 r_p16_7) 1 _ rfl; have h2 := held_cell (held_after hU.1 r_p16_7) 2 _ rfl; have h3 := held_cell (held_after hU.1 r_p16_7) 3 _ rfl; have h4 := held_cell (held_after hU.1 r_p16_7) 4 _ rfl; go_simp <;> exact rfl))⟩) ⟨_, by (simp only [Ent.val]; go_simp <;> exact rfl), ?_⟩
          refine Seg.step _ rfl (Or.inl ⟨by rfl, fun U hU => ?_⟩) ?_
          · go_simp
            refine vp_call (k3.out _)
          refine ⟨_, by (simp only [Ent.val]; go_simp <;> exact rfl), ?_⟩
          refine Seg.step _ rfl (Or.inl ⟨by rfl, fun U hU => vp_quiet (by (go_simp <;> exact rfl))⟩) ⟨_, by (simp only [Ent.val]; go_simp <;> exact rfl), ?_⟩
          refine Seg.step _ rfl (Or.inl ⟨by rfl, fun U hU => vp_quiet (by (go_simp <;> exact rfl))⟩) ⟨_, by (simp only [Ent.val]; go_simp <;> exact rfl), ?_⟩
          refine Seg.step _ rfl (Or.inl ⟨by rfl, fun U hU => vp_quiet (by (go_simp <;> exact rfl))⟩) ⟨_, by (simp only [Ent.val]; go_simp <;> exact rfl), ?_⟩
          refine Seg.step _ rfl (Or.inl ⟨by rfl, fun U hU => vp_quiet (by (go_simp <;> exact rfl))⟩) ⟨_, by (simp only [Ent.val]; go_simp <;> exact rfl), ?_⟩
          refine Seg.step _ rfl (Or.inl ⟨by rfl, fun U hU => vp_quiet (by (go_simp <;> exact rfl))⟩) ⟨_, by (simp only [Ent.val]; go_simp <;> exact rfl), ?_⟩
          refine Seg.stop (fun U14 hU hk => ?_)
          clear hk hge hne
          replace r_p0_0 := held_after hU r_p0_0
          replace r_p0_1 := held_after hU r_p0_1
          replace r_p16_6 := held_after hU r_p16_6
          replace r_p16_7 := held_after hU r_p16_7
          have sz14 := hU.size
          replace hB := bthen hB hU
          clear hU
          go_upto_region 20 with (fail)
          apply wp_region_seg0 (w := U14) (S := [.q [], .q [], .q [], .q [], .q [], .q [], .q []]) (E := [.q0 _, .c0 _, .q0 _, .q0 _, .q0 _, .q0 _, .q0 _]) rfl (by kernel_rfl) rfl rfl
          intro th hge hne
          refine Seg.step _ rfl (Or.inl ⟨by rfl, fun U hU => vp_quiet (by (have h0 := held_cell (held_after hU.1 r_p16_6) 0 _ rfl; have h1 := held_cell (held_after hU.1 r_p16_6) 1 _ rfl; have h2 := held_cell (held_after hU.1 r_p16_6) 2 _ rfl; have h3 := held_cell (held_after hU.1 r_p16_6) 3 _ rfl; go_simp <;> exact rfl))⟩) ⟨_, by (simp only [Ent.val]; go_simp <;> exact rfl), ?_⟩
          refine Seg.step _ rfl (Or.inl ⟨by rfl, fun U hU => ?_⟩) ?_
          · go_simp
            refine vp_call (k4.out _)
          refine ⟨_, by (simp only [Ent.val]; go_simp <;> exact rfl), ?_⟩
          refine Seg.step _ rfl (Or.inl ⟨by rfl, fun U hU => vp_quiet (by (go_simp <;> exact rfl))⟩) ⟨_, by (simp only [Ent.val]; go_simp <;> exact rfl), ?_⟩
          refine Seg.step _ rfl (Or.inl ⟨by rfl, fun U hU => vp_quiet (by (go_simp <;> exact rfl))⟩) ⟨_, by (simp only [Ent.val]; go_simp <;> exact rfl), ?_⟩
          refine Seg.step _ rfl (Or.inl ⟨by rfl, fun U hU => vp_quiet (by (go_simp <;> exact rfl))⟩) ⟨_, by (simp only [Ent.val]; go_simp <;> exact rfl), ?_⟩
          refine Seg.step _ rfl (Or.inl ⟨by rfl, fun U hU => vp_quiet (by (go_simp <;> exact rfl))⟩) ⟨_, by (simp only [Ent.val]; go_simp <;> exact rfl), ?_⟩
          refine Seg.step _ rfl (Or.inl ⟨by rfl, fun U hU => vp_quiet (by (go_simp <;> exact rfl))⟩) ⟨_, by (simp only [Ent.val]; go_simp <;> exact rfl), ?_⟩
          refine Seg.stop (fun U15 hU hk => ?_)
          clear hk hge hne
          replace r_p0_0 := held_after hU r_p0_0
          replace r_p0_1 := held_after hU r_p0_1
          replace r_p16_6 := held_after hU r_p16_6
          replace r_p16_7 := held_after hU r_p16_7
          have sz15 := hU.size
          replace hB := bthen hB hU
          clear hU
          go_upto_region 21 with (fail)
          apply wp_region_seg0 (w := U15) (S := [.q [], .q [], .q [], .q [], .q [], .q [], .q []]) (E := [.q0 _, .c0 _, .q0 _, .q0 _, .q0 _, .q0 _, .q0 _]) rfl (by kernel_rfl) rfl rfl
          intro th hge hne
          refine Seg.step _ rfl (Or.inl ⟨by rfl, fun U hU => vp_quiet (by (have h0 := held_cell (held_after hU.1 r_p16_7) 0 _ rfl; have h1 := held_cell (held_after hU.1 r_p16_7) 1 _ rfl; have h2 := held_cell (held_after hU.1 r_p16_7) 2 _ rfl; have h3 := held_cell (held_after hU.1 r_p16_7) 3 _ rfl; have h4 := held_cell (held_after hU.1 r_p16_7) 4 _ rfl; go_simp <;> exact rfl))⟩) ⟨_, by (simp only [Ent.val]; go_simp <;> exact rfl), ?_⟩
          refine Seg.step _ rfl (Or.inl ⟨by rfl, fun U hU => ?_⟩) ?_
          · go_simp
            refine vp_call (k5.out _)
          refine ⟨_, by (simp only [Ent.val]; go_simp <;> exact rfl), ?_⟩
          refine Seg.step _ rfl (Or.inl ⟨by rfl, fun U hU => vp_quiet (by (go_simp <;> exact rfl))⟩) ⟨_, by (simp only [Ent.val]; go_simp <;> exact rfl), ?_⟩
          refine Seg.step _ rfl (Or.inl ⟨by rfl, fun U hU => vp_quiet (by (go_simp <;> exact rfl))⟩) ⟨_, by (simp only [Ent.val]; go_simp <;> exact rfl), ?_⟩
          refine Seg.step _ rfl (Or.inl ⟨by rfl, fun U hU => vp_quiet (by (go_simp <;> exact rfl))⟩) ⟨_, by (simp only [Ent.val]; go_simp <;> exact rfl), ?_⟩
          refine Seg.step _ rfl (Or.inl ⟨by rfl, fun U hU => vp_quiet (by (go_simp <;> exact rfl))⟩) ⟨_, by (simp only [Ent.val]; go_simp <;> exact rfl), ?_⟩
          refine Seg.step _ rfl (Or.inl ⟨by rfl, fun U hU => vp_quiet (by (go_simp <;> exact rfl))⟩) ⟨_, by (simp only [Ent.val]; go_simp <;> exact rfl), ?_⟩
          refine Seg.stop (fun U16 hU hk => ?_)
          clear hk hge hne
          replace r_p0_0 := held_after hU r_p0_0
          replace r_p0_1 := held_after hU r_p0_1
          replace r_p16_6 := held_after hU r_p16_6
          replace r_p16_7 := held_after hU r_p16_7
          have sz16 := hU.size
          replace hB := bthen hB hU
          clear hU
          go_upto_region 22 with (fail)
          apply wp_region_seg0 (w := U16) (S := (.q [] :: .q [] :: .q [] :: .q [] :: .q [] :: .q [] :: .q [] :: .q [] :: .q [] :: .q [] :: .q [] :: .q [] :: .q [] :: .q [] :: .q [] :: .q [] :: .q [] :: .q [] :: .q [] :: .q [] :: .q [] :: .q [] :: .q [] :: .q [] :: .q [] :: .q [] :: .q [] :: .q [] :: .q [] :: .q [] :: .q [] :: .q [] :: .q [] :: [])) (E := (.q0 _ :: .q0 _ :: .q0 _ :: .q0 _ :: .q0 _ :: .q0 _ :: .q0 _ :: .q0 _ :: .q0 _ :: .q0 _ :: .q0 _ :: .q0 _ :: .q0 _ :: .q0 _ :: .q0 _ :: .q0 _ :: .q0 _ :: .q0 _ :: .q0 _ :: .q0 _ :: .q0 _ :: .q0 _ :: .q0 _ :: .c0 _ :: .q0 _ :: .c0 _ :: .q0 _ :: .q0 _ :: .q0 _ :: .q0 _ :: .c0 _ :: .q0 _ :: .q0 _ :: [])) rfl (by kernel_rfl) rfl rfl
          intro th hge hne
          refine Seg.step _ rfl (Or.inl ⟨by rfl, fun U hU => vp_quiet (by (go_simp <;> exact rfl))⟩) ⟨_, by (simp only [Ent.val]; go_simp <;> exact rfl), ?_⟩
          refine Seg.step _ rfl (Or.inl ⟨by rfl, fun U hU => vp_quiet (by (go_simp <;> exact rfl))⟩) ⟨_, by (simp only [Ent.val]; go_simp <;> exact rfl), ?_⟩
          refine Seg.step _ rfl (Or.inl ⟨by rfl, fun U hU => vp_quiet (by (go_simp <;> exact rfl))⟩) ⟨_, by (simp only [Ent.val]; go_simp <;> exact rfl), ?_⟩
          refine Seg.step _ rfl (Or.inl ⟨by rfl, fun U hU => vp_quiet (by (go_simp <;> exact rfl))⟩) ⟨_, by (simp only [Ent.val]; go_simp <;> exact rfl), ?_⟩
          refine Seg.step _ rfl (Or.inl ⟨by rfl, fun U hU => vp_quiet (by (go_simp <;> exact rfl))⟩) ⟨_, by (simp only [Ent.val]; go_simp <;> exact rfl), ?_⟩
          refine Seg.step _ rfl (Or.inl ⟨by rfl, fun U hU => vp_quiet (by (go_simp <;> exact rfl))⟩) ⟨_, by (simp only [Ent.val]; go_simp <;> exact rfl), ?_⟩
          refine Seg.step _ rfl (Or.inl ⟨by rfl, fun U hU => vp_quiet (by (go_simp <;> exact rfl))⟩) ⟨_, by (simp only [Ent.val]; go_simp <;> exact rfl), ?_⟩
          refine Seg.step _ rfl (Or.inl ⟨by rfl, fun U hU => vp_quiet (by (go_simp <;> exact rfl))⟩) ⟨_, by (simp only [Ent.val]; go_simp <;> exact rfl), ?_⟩
          refine Seg.step _ rfl (Or.inl ⟨by rfl, fun U hU => vp_quiet (by (go_simp <;> exact rfl))⟩) ⟨_, by (simp only [Ent.val]; go_simp <;> exact rfl), ?_⟩
          refine Seg.step _ rfl (Or.inl ⟨by rfl, fun U hU => vp_quiet (by (go_simp <;> exact rfl))⟩) ⟨_, by (simp only [Ent.val]; go_simp <;> exact rfl), ?_⟩
          refine Seg.step _ rfl (Or.inl ⟨by rfl, fun U hU => vp_quiet (by (go_simp <;> exact rfl))⟩) ⟨_, by (simp only [Ent.val]; go_simp <;> exact rfl), ?_⟩
          refine Seg.step _ rfl (Or.inl ⟨by rfl, fun U hU => vp_quiet (by (go_simp <;> exact rfl))⟩) ⟨_, by (simp only [Ent.val]; go_simp <;> exact rfl), ?_⟩
          refine Seg.step _ rfl (Or.inl ⟨by rfl, fun U hU => vp_quiet (by (go_simp <;> exact rfl))⟩) ⟨_, by (simp only [Ent.val]; go_simp <;> exact rfl), ?_⟩
          refine Seg.step _ rfl (Or.inl ⟨by rfl, fun U hU => vp_quiet (by (go_simp <;> exact rfl))⟩) ⟨_, by (simp only [Ent.val]; go_simp <;> exact rfl), ?_⟩
          refine Seg.step _ rfl (Or.inl ⟨by rfl, fun U hU => vp_quiet (by (go_simp <;> exact rfl))⟩) ⟨_, by (simp only [Ent.val]; go_simp <;> exact rfl), ?_⟩
          refine Seg.step _ rfl (Or.inl ⟨by rfl, fun U hU => vp_quiet (by (go_simp <;> exact rfl))⟩) ⟨_, by (simp only [Ent.val]; go_simp <;> exact rfl), ?_⟩
          refine Seg.step _ rfl (Or.inl ⟨by rfl, fun U hU => vp_quiet (by (go_simp <;> exact rfl))⟩) ⟨_, by (simp only [Ent.val]; go_simp <;> exact rfl), ?_⟩
          refine Seg.step _ rfl (Or.inl ⟨by rfl, fun U hU => vp_quiet (by (go_simp <;> exact rfl))⟩) ⟨_, by (simp only [Ent.val]; go_simp <;> exact rfl), ?_⟩
          refine Seg.step _ rfl (Or.inl ⟨by rfl, fun U hU => vp_quiet (by (go_simp <;> exact rfl))⟩) ⟨_, by (simp only [Ent.val]; go_simp <;> exact rfl), ?_⟩
          refine Seg.step _ rfl (Or.inl ⟨by rfl, fun U hU => vp_quiet (by (go_simp <;> exact rfl))⟩) ⟨_, by (simp only [Ent.val]; go_simp <;> exact rfl), ?_⟩
          refine Seg.step _ rfl (Or.inl ⟨by rfl, fun U hU => vp_quiet (by (go_simp <;> exact rfl))⟩) ⟨_, by (simp only [Ent.val]; go_simp <;> exact rfl), ?_⟩
          refine Seg.step _ rfl (Or.inl ⟨by rfl, fun U hU => vp_quiet (by (go_simp <;> exact rfl))⟩) ⟨_, by (simp only [Ent.val]; go_simp <;> exact rfl), ?_⟩
          refine Seg.step _ rfl (Or.inl ⟨by rfl, fun U hU => vp_quiet (by (go_simp <;> exact rfl))⟩) ⟨_, by (simp only [Ent.val]; go_simp <;> exact rfl), ?_⟩
          refine Seg.step _ rfl (Or.inl ⟨by rfl, fun U hU => ?_⟩) ?_
          · go_simp
            refine vp_calls (num24_any _ _)
          refine ⟨_, by (simp only [Ent.val]; go_simp <;> exact rfl), ?_⟩
          refine Seg.step _ rfl (Or.inl ⟨by rfl, fun U hU => vp_quiet (by (go_simp <;> exact rfl))⟩) ⟨_, by (simp only [Ent.val]; go_simp <;> exact rfl), ?_⟩
          refine Seg.step _ rfl (Or.inl ⟨by rfl, fun U hU => ?_⟩) ?_
          · go_simp
            refine vp_calls (num24_any _ _)
          refine ⟨_, by (simp only [Ent.val]; go_simp <;> exact rfl), ?_⟩
          refine Seg.step _ rfl (Or.inl ⟨by rfl, fun U hU => vp_quiet (by (go_simp <;> exact rfl))⟩) ⟨_, by (simp only [Ent.val]; go_simp <;> exact rfl), ?_⟩
          refine Seg.step _ rfl (Or.inl ⟨by rfl, fun U hU => vp_quiet (by (go_simp <;> exact rfl))⟩) ⟨_, by (simp only [Ent.val]; go_simp <;> exact rfl), ?_⟩
          refine Seg.step _ rfl (Or.inl ⟨by rfl, fun U hU => vp_quiet (by (go_simp <;> exact rfl))⟩) ⟨_, by (simp only [Ent.val]; go_simp <;> exact rfl), ?_⟩
          refine Seg.step _ rfl (Or.inl ⟨by rfl, fun U hU => vp_quiet (by (go_simp <;> exact rfl))⟩) ⟨_, by (simp only [Ent.val]; go_simp <;> exact rfl), ?_⟩
          refine Seg.step _ rfl (Or.inl ⟨by rfl, fun U hU => ?_⟩) ?_
          · go_simp
            refine vp_call (knows24_any _)
          refine ⟨_, by (simp only [Ent.val]; go_simp <;> exact rfl), ?_⟩
          refine Seg.step _ rfl (Or.inl ⟨by rfl, fun U hU => vp_quiet (by (go_simp <;> exact rfl))⟩) ⟨_, by (simp only [Ent.val]; go_simp <;> exact rfl), ?_⟩
          refine Seg.step _ rfl (Or.inl ⟨by rfl, fun U hU => vp_quiet (by (go_simp <;> exact rfl))⟩) ⟨_, by (simp only [Ent.val]; go_simp <;> exact rfl), ?_⟩
          refine Seg.stop (fun U17 hU hk => ?_)
          clear hk hge hne
          replace r_p0_0 := held_after hU r_p0_0
          replace r_p0_1 := held_after hU r_p0_1
          replace r_p16_6 := held_after hU r_p16_6
          replace r_p16_7 := held_after hU r_p16_7
          have sz17 := hU.size
          replace hB := bthen hB hU
          clear hU
          go_wp2_with fail
          go_ret
          exact ⟨rfl, hB⟩


end Go.Proofs.Ytcodglhepkdjeaa
