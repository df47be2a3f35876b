/- Package flog: Add. -/
import Derived.Test.YtkpncailoekjpaaFlog2
import Derived.Test.YtkpncailoekjpaaBlkM
import Derived.Deep.DeepCutAuto
namespace Go.Proofs.Ytkpncailoekjpaa
open Go.ChangeShapes Go.WideShapes Go.ChangeAt Go.RowKit
set_option linter.unusedVariables false
set_option linter.unusedSimpArgs false

theorem add_not {ev : Nat} {s : FSt} {r : Int × List Int} (h : ¬ 248 < (entS (0, zer12) (s.1 ++ [(keyS ev s, r)])).length) : addS ev s r = ([], (s.1 ++ [(keyS ev s, r)], s.2.1 + 1, s.2.2)) := by unfold addS; rw [if_neg h]
theorem add_over {ev : Nat} {s : FSt} {r : Int × List Int} (h : 248 < (entS (0, zer12) (s.1 ++ [(keyS ev s, r)])).length) : addS ev s r = ((flushS s).1, ([(true, r)], s.2.1 + 1, (flushS s).2.2.2)) := by unfold addS; rw [if_pos h]
theorem owp_new {B j p : Nat} {w W W2 : World} (h : Owp B j w W) (ho : Only p W W2) (hp : w.heap.size ≤ p) (hB : p ≠ B) : Owp B j w W2 :=
  ⟨by rw [ho.size]; exact h.size, fun k hk h1 h2 => (ho.block k (by omega)).trans (h.block k hk h1 h2), fun k hk => h.own k (by rw [← wown_same (ho.block B (fun e => hB e.symm))]; exact hk)⟩
set_option maxRecDepth 100000 in
set_option maxHeartbeats 16000000 in
theorem ladd_any (B base B0 ev : Nat) (s : FSt) (u b0 b1 b2 b3 b4 b5 b6 b7 b8 b9 b10 b11 : Int) (w : World) (hL : LgSt B base w ev s) (hF : FOk s) (he : 0 < ev) (he2 : ev ≤ 255) (hc : s.2.1 ≤ 1000000) (hb : s.2.2 ≤ 1000000) (hu : 0 ≤ u ∧ u ≤ 4294967295) (hv : ∀ x ∈ [b0, b1, b2, b3, b4, b5, b6, b7, b8, b9, b10, b11], -2147483648 ≤ x ∧ x ≤ 2147483647) (h1 : B0 ≤ B) (h2 : B0 ≤ base) (h3 : base ≤ w.heap.size) : Calls Try.prog 11 #[.pointer (some ⟨B, 0, none⟩), .agg #[.int .u32 u, .int .i32 b0, .int .i32 b1, .int .i32 b2, .int .i32 b3, .int .i32 b4, .int .i32 b5, .int .i32 b6, .int .i32 b7, .int .i32 b8, .int .i32 b9, .int .i32 b10, .int .i32 b11]] w (FnOk B base B0 ev w (addS ev s (u, [b0, b1, b2, b3, b4, b5, b6, b7, b8, b9, b10, b11]))) := by
  have hst := lastR_ok hF.2.2
  have hov := add_over (ev := ev) (s := s) (r := (u, [b0, b1, b2, b3, b4, b5, b6, b7, b8, b9, b10, b11]))
  have hnt := add_not (ev := ev) (s := s) (r := (u, [b0, b1, b2, b3, b4, b5, b6, b7, b8, b9, b10, b11]))
  have hsm := over_some (ev := ev) (s := s) (r := (u, [b0, b1, b2, b3, b4, b5, b6, b7, b8, b9, b10, b11])) ⟨hu, rfl, hv⟩
  rw [entS_snoc, List.length_append] at hov hnt hsm
  obtain ⟨r, hr⟩ : ∃ r, addS ev s (u, [b0, b1, b2, b3, b4, b5, b6, b7, b8, b9, b10, b11]) = r := ⟨_, rfl⟩
  rw [hr] at hov hnt ⊢
  clear hr
  have hL0 := hid hL
  obtain ⟨a, cap, hH, hOE⟩ := hL
  have hfew := fok_few hF
  have hF0 := hid hF
  have hlo := hid hF.2.2
  have h248 := hF.2.1
  clear hF
  have hK0 : (s.1.length = 0 → keyS ev s = true) ∧ (s.1.length ≠ 0 → keyS ev s = decide (s.2.1 % ev = 0)) := ⟨fun e => keyS_nil ev (List.eq_nil_of_length_eq_zero e), fun e => by unfold keyS; cases hs : s.1 with
      | nil => rw [hs] at e; exact absurd rfl e
      | cons x y => rfl⟩
  obtain ⟨KK, hK⟩ : ∃ k, keyS ev s = k := ⟨_, rfl⟩
  rw [hK] at hov hnt hsm hK0
  clear hK
  obtain ⟨⟨t, v⟩, hla⟩ : ∃ z, lastR (0, zer12) s.1 = z := ⟨_, rfl⟩
  rw [hla] at hov hnt hsm hst
  obtain ⟨ht, hvl, hvb⟩ := hst
  dsimp only at ht hvl hvb
  obtain ⟨a0, a1, a2, a3, a4, a5, a6, a7, a8, a9, a10, a11, rfl⟩ := list12 hvl
  clear hvl
  have hH0 := held_lt hH
  have hE := hOE.els (entsV_len s.1) (entsV_m hlo.out)
  obtain ⟨n, hn⟩ : ∃ n, s.1.length = n := ⟨_, rfl⟩
  have kLs := fun U hU hE => last_any B ev n cap (entS (0, zer12) s.1).length s.2.1 s.2.2 a s.1 U hU hn (by omega) hE hlo.out
  rw [hn] at hH hOE hE hK0 hfew
  rw [hla, show recA (t, [a0, a1, a2, a3, a4, a5, a6, a7, a8, a9, a10, a11]).1 (t, [a0, a1, a2, a3, a4, a5, a6, a7, a8, a9, a10, a11]).2 = .agg #[.int .u32 t, .int .i32 a0, .int .i32 a1, .int .i32 a2, .int .i32 a3, .int .i32 a4, .int .i32 a5, .int .i32 a6, .int .i32 a7, .int .i32 a8, .int .i32 a9, .int .i32 a10, .int .i32 a11] from rfl] at kLs
  obtain ⟨sz, hsz⟩ : ∃ z, (entS (0, zer12) s.1).length = z := ⟨_, rfl⟩
  rw [hsz] at hH hov hnt hsm h248 kLs
  have kLy := hid (fun U => lay_any t u a0 a1 a2 a3 a4 a5 a6 a7 a8 a9 a10 a11 b0 b1 b2 b3 b4 b5 b6 b7 b8 b9 b10 b11 KK U ht hu hvb hv)
  have hly := layS_len (st := (t, [a0, a1, a2, a3, a4, a5, a6, a7, a8, a9, a10, a11])) (x := (KK, u, [b0, b1, b2, b3, b4, b5, b6, b7, b8, b9, b10, b11])) hvb ⟨hu, rfl, hv⟩
  obtain ⟨LY, hLY⟩ : ∃ y, layS (t, [a0, a1, a2, a3, a4, a5, a6, a7, a8, a9, a10, a11]) (KK, u, [b0, b1, b2, b3, b4, b5, b6, b7, b8, b9, b10, b11]) = y := ⟨_, rfl⟩
  rw [hLY] at kLy hov hnt hsm hly
  have hLY0 := hid hLY
  clear hLY
  replace kLs := hid kLs
  replace hla := hid hla
  replace hn := hid hn
  obtain ⟨rc, hrc⟩ : ∃ z, s.2.1 = z := ⟨_, rfl⟩
  rw [hrc] at hH hc hov hnt hK0 kLs
  obtain ⟨bk, hbk⟩ : ∃ z, s.2.2 = z := ⟨_, rfl⟩
  have hb0 := hb
  rw [hbk] at hH hb hnt kLs
  replace hov := hid hov
  replace hnt := hid hnt
  replace hsm := hid hsm
  replace hbk := hid hbk
  replace hrc := hid hrc
  replace hsz := hid hsz
  go_enter Try.func11, Try.ntmps11
  go_upto_region 0 with (fail)
  apply wp_region_seg0 (w := w) (S := [.al 1000, .q []]) (E := [.al ((fun p => .pointer (some ⟨p, 0, none⟩)), _) 1000, .q0 _]) rfl (by kernel_rfl) rfl rfl
  intro th hge hne
  refine Seg.step _ rfl ⟨by rfl, fun U hU => ?_⟩ ?_
  · go_simp; exact vp_alloc rfl rfl rfl
  refine ⟨_, by (simp only [Ent.val]; go_simp <;> exact rfl), ?_⟩
  refine Seg.step _ rfl (Or.inl ⟨by rfl, fun U hU => vp_quiet (by (go_simp <;> exact rfl))⟩) ⟨_, by (simp only [Ent.val]; go_simp <;> exact rfl), ?_⟩
  refine Seg.stop (fun U1 hU hk => ?_)
  have nb0 := hge 0 _ _ rfl
  have rb0 := (hk 0 _ _ rfl trivial).1.2 (by simp)
  clear hk hge hne
  generalize th (0 + 0) = p0_0 at *
  dsimp only at rb0
  have r_p0_0 := rb0
  clear rb0
  have n_p0_0 := nb0
  clear nb0
  have sz1 := hU.size
  have hB : Below w.heap.size w U1 := hU
  clear hU
  have hHb := held_after hB hH
  have kR := right_good B ev _ _ _ _ U1 hHb (by omega)
  have sB := hB.size
  have hL1 := hid (hL0.out.aft hB)
  have hOE1 := hid (hOE.below hB)
  have nB : B ≠ p0_0 := by omega
  have np := n_p0_0
  have hBr := hid hB
  clear hOE hH hE hL0
  go_wp2_with fail
  refine kR.mono ?_
  rintro e V ⟨rfl, hv9⟩
  obtain rfl : U1 = V := hv9.symm
  clear hv9 kR
  go_upto_region 4 with (fail)
  have hHh := hid hHb
  have r0h := hid r_p0_0
  go_cut [6] from 11 to 15 (fun s6 wx => ∃ px : Nat, s6 = .pointer (some ⟨px, 0, none⟩) ∧ U1.heap.size ≤ px ∧ wx.heap[px]? = some (.cells #[.bool KK, .int .u32 u, .int .i32 b0, .int .i32 b1, .int .i32 b2, .int .i32 b3, .int .i32 b4, .int .i32 b5, .int .i32 b6, .int .i32 b7, .int .i32 b8, .int .i32 b9, .int .i32 b10, .int .i32 b11] 57 (0, 0)) ∧ After U1 wx)
  case first =>
    have nB1 := hHb
    clear nB1
    have hBs : Below U1.heap.size U1 U1 := Below.refl _ _
    by_cases hn0 : n = 0
    case pos =>
      have hKt : KK = true := hK0.1 hn0
      clear hK0
      subst hKt
      clear hBr hBs
      apply wp_region_seg (w := U1) (S := [.q [], .q [], .q [], .q [], .q [], .al 6, .st 5 []]) (E := [.q0 _, .c0 _, .q0 _, .q0 _, .c0 _, .al ((fun p => .pointer (some ⟨p, 0, none⟩)), _) 6, .s0 5 (.cells _ _)]) (by kernel_rfl) rfl (by kernel_rfl) rfl rfl
      intro th hge hne
      refine Seg.step _ rfl (Or.inl ⟨by rfl, fun U hU => vp_quiet (by (go_simp <;> exact rfl))⟩) ⟨_, by (simp only [Ent.val]; go_simp <;> exact rfl), ?_⟩
      refine Seg.step _ rfl (Or.inl ⟨by rfl, fun U hU => ?_⟩) ?_
      · go_simp
        refine vp_call (way_empty B ev n cap sz rc bk a _ (held_after hU.1 hHh.out) he he2 hc hn0)
      refine ⟨_, by (simp only [Ent.val]; go_simp <;> exact rfl), ?_⟩
      refine Seg.step _ rfl (Or.inl ⟨by rfl, fun U hU => vp_quiet (by (go_simp <;> exact rfl))⟩) ⟨_, by (simp only [Ent.val]; go_simp <;> exact rfl), ?_⟩
      refine Seg.step _ rfl (Or.inl ⟨by rfl, fun U hU => vp_quiet (by (have h0 := held_cell (held_after hU.1 r_p0_0) 0 _ rfl; have h1 := held_cell (held_after hU.1 r_p0_0) 1 _ rfl; have h2 := held_cell (held_after hU.1 r_p0_0) 2 _ rfl; have h3 := held_cell (held_after hU.1 r_p0_0) 3 _ rfl; have h4 := held_cell (held_after hU.1 r_p0_0) 4 _ rfl; have h5 := held_cell (held_after hU.1 r_p0_0) 5 _ rfl; have h6 := held_cell (held_after hU.1 r_p0_0) 6 _ rfl; have h7 := held_cell (held_after hU.1 r_p0_0) 7 _ rfl; have h8 := held_cell (held_after hU.1 r_p0_0) 8 _ rfl; have h9 := held_cell (held_after hU.1 r_p0_0) 9 _ rfl; have h10 := held_cell (held_after hU.1 r_p0_0) 10 _ rfl; have h11 := held_cell (held_after hU.1 r_p0_0) 11 _ rfl; have h12 := held_cell (held_after hU.1 r_p0_0) 12 _ rfl; go_simp <;> exact rfl))⟩) ⟨_, by (simp only [Ent.val]; go_simp <;> exact rfl), ?_⟩
      refine Seg.step _ rfl (Or.inl ⟨by rfl, fun U hU => ?_⟩) ?_
      · go_simp
        refine vp_call (whole_any _ u b0 b1 b2 b3 b4 b5 b6 b7 b8 b9 b10 b11 _)
      refine ⟨_, by (simp only [Ent.val]; go_simp <;> exact rfl), ?_⟩
      refine Seg.step _ rfl ⟨by rfl, fun U hU => ?_⟩ ?_
      · go_simp; exact vp_alloc rfl rfl rfl
      refine ⟨_, by (simp only [Ent.val]; go_simp <;> exact rfl), ?_⟩
      refine Seg.step _ rfl ⟨by rfl, fun U z k hz hU hc => ?_⟩ ?_
      · have hz2 := Option.some.inj hz
        cases hz2; clear hz
        exact vp_store_agg _ _ _ rfl hc rfl rfl (by kernel_rfl) rfl (by rfl)
      refine ⟨_, by (simp only [Ent.val]; go_simp <;> exact rfl), ?_⟩
      refine Seg.stop (fun U6 hU hk => ?_)
      have nb5 := hge 5 _ _ rfl
      have rb5 := (hk 5 _ 6 rfl trivial).1.1 trivial _ (Nat.zero_le _) rfl
      clear hk hge hne
      generalize th (0 + 5) = p4_5 at *
      simp only [Ent.obj] at rb5
      replace r_p0_0 := held_after hU r_p0_0
      have r_p4_5 := rb5
      clear rb5
      have n_p4_5 := nb5
      clear nb5
      have sz6 := hU.size
      have hB : Below U1.heap.size U1 U6 := hU
      clear hU
      have hA9 := hid hB
      have rx := hid r_p4_5
      have nx := n_p4_5
      clear hB r_p4_5
      go_wp2_with fail
      go_meet
      exact ⟨_, rfl, nx, rx.out, hA9.out⟩
    by_cases hk0 : rc % ev = 0
    case pos =>
      have hKt : KK = true := (hK0.2 hn0).trans (by simp [hk0])
      have hk1 := hid hk0
      clear hK0 hk0
      subst hKt
      clear hBr hBs
      apply wp_region_seg (w := U1) (S := [.q [], .q [], .q [], .q [], .q [], .al 6, .st 5 []]) (E := [.q0 _, .c0 _, .q0 _, .q0 _, .c0 _, .al ((fun p => .pointer (some ⟨p, 0, none⟩)), _) 6, .s0 5 (.cells _ _)]) (by kernel_rfl) rfl (by kernel_rfl) rfl rfl
      intro th hge hne
      refine Seg.step _ rfl (Or.inl ⟨by rfl, fun U hU => vp_quiet (by (go_simp <;> exact rfl))⟩) ⟨_, by (simp only [Ent.val]; go_simp <;> exact rfl), ?_⟩
      refine Seg.step _ rfl (Or.inl ⟨by rfl, fun U hU => ?_⟩) ?_
      · go_simp
        refine vp_call (way_key B ev n cap sz rc bk a _ (held_after hU.1 hHh.out) he he2 hc hn0 hk1.out)
      refine ⟨_, by (simp only [Ent.val]; go_simp <;> exact rfl), ?_⟩
      refine Seg.step _ rfl (Or.inl ⟨by rfl, fun U hU => vp_quiet (by (go_simp <;> exact rfl))⟩) ⟨_, by (simp only [Ent.val]; go_simp <;> exact rfl), ?_⟩
      refine Seg.step _ rfl (Or.inl ⟨by rfl, fun U hU => vp_quiet (by (have h0 := held_cell (held_after hU.1 r_p0_0) 0 _ rfl; have h1 := held_cell (held_after hU.1 r_p0_0) 1 _ rfl; have h2 := held_cell (held_after hU.1 r_p0_0) 2 _ rfl; have h3 := held_cell (held_after hU.1 r_p0_0) 3 _ rfl; have h4 := held_cell (held_after hU.1 r_p0_0) 4 _ rfl; have h5 := held_cell (held_after hU.1 r_p0_0) 5 _ rfl; have h6 := held_cell (held_after hU.1 r_p0_0) 6 _ rfl; have h7 := held_cell (held_after hU.1 r_p0_0) 7 _ rfl; have h8 := held_cell (held_after hU.1 r_p0_0) 8 _ rfl; have h9 := held_cell (held_after hU.1 r_p0_0) 9 _ rfl; have h10 := held_cell (held_after hU.1 r_p0_0) 10 _ rfl; have h11 := held_cell (held_after hU.1 r_p0_0) 11 _ rfl; have h12 := held_cell (held_after hU.1 r_p0_0) 12 _ rfl; go_simp <;> exact rfl))⟩) ⟨_, by (simp only [Ent.val]; go_simp <;> exact rfl), ?_⟩
      refine Seg.step _ rfl (Or.inl ⟨by rfl, fun U hU => ?_⟩) ?_
      · go_simp
        refine vp_call (whole_any _ u b0 b1 b2 b3 b4 b5 b6 b7 b8 b9 b10 b11 _)
      refine ⟨_, by (simp only [Ent.val]; go_simp <;> exact rfl), ?_⟩
      refine Seg.step _ rfl ⟨by rfl, fun U hU => ?_⟩ ?_
      · go_simp; exact vp_alloc rfl rfl rfl
      refine ⟨_, by (simp only [Ent.val]; go_simp <;> exact rfl), ?_⟩
      refine Seg.step _ rfl ⟨by rfl, fun U z k hz hU hc => ?_⟩ ?_
      · have hz2 := Option.some.inj hz
        cases hz2; clear hz
        exact vp_store_agg _ _ _ rfl hc rfl rfl (by kernel_rfl) rfl (by rfl)
      refine ⟨_, by (simp only [Ent.val]; go_simp <;> exact rfl), ?_⟩
      refine Seg.stop (fun U6 hU hk => ?_)
      have nb5 := hge 5 _ _ rfl
      have rb5 := (hk 5 _ 6 rfl trivial).1.1 trivial _ (Nat.zero_le _) rfl
      clear hk hge hne
      generalize th (0 + 5) = p4_5 at *
      simp only [Ent.obj] at rb5
      replace r_p0_0 := held_after hU r_p0_0
      have r_p4_5 := rb5
      clear rb5
      have n_p4_5 := nb5
      clear nb5
      have sz6 := hU.size
      have hB : Below U1.heap.size U1 U6 := hU
      clear hU
      have hA9 := hid hB
      have rx := hid r_p4_5
      have nx := n_p4_5
      clear hB r_p4_5
      go_wp2_with fail
      go_meet
      exact ⟨_, rfl, nx, rx.out, hA9.out⟩
    have hKt : KK = false := (hK0.2 hn0).trans (by simp [hk0])
    have hk1 := hid hk0
    clear hK0 hk0
    subst hKt
    clear hBr hBs
    apply wp_region_seg (w := U1) (S := [.q [], .q [], .q [], .q [], .q [], .al 6, .st 5 []]) (E := [.q0 _, .c0 _, .q0 _, .q0 _, .c0 _, .al ((fun p => .pointer (some ⟨p, 0, none⟩)), _) 6, .s0 5 (.cells _ _)]) (by kernel_rfl) rfl (by kernel_rfl) rfl rfl
    intro th hge hne
    refine Seg.step _ rfl (Or.inl ⟨by rfl, fun U hU => vp_quiet (by (go_simp <;> exact rfl))⟩) ⟨_, by (simp only [Ent.val]; go_simp <;> exact rfl), ?_⟩
    refine Seg.step _ rfl (Or.inl ⟨by rfl, fun U hU => ?_⟩) ?_
    · go_simp
      refine vp_call (way_change B ev n cap sz rc bk a _ (held_after hU.1 hHh.out) he he2 hc hn0 hk1.out)
    refine ⟨_, by (simp only [Ent.val]; go_simp <;> exact rfl), ?_⟩
    refine Seg.step _ rfl (Or.inl ⟨by rfl, fun U hU => vp_quiet (by (go_simp <;> exact rfl))⟩) ⟨_, by (simp only [Ent.val]; go_simp <;> exact rfl), ?_⟩
    refine Seg.step _ rfl (Or.inl ⟨by rfl, fun U hU => vp_quiet (by (have h0 := held_cell (held_after hU.1 r_p0_0) 0 _ rfl; have h1 := held_cell (held_after hU.1 r_p0_0) 1 _ rfl; have h2 := held_cell (held_after hU.1 r_p0_0) 2 _ rfl; have h3 := held_cell (held_after hU.1 r_p0_0) 3 _ rfl; have h4 := held_cell (held_after hU.1 r_p0_0) 4 _ rfl; have h5 := held_cell (held_after hU.1 r_p0_0) 5 _ rfl; have h6 := held_cell (held_after hU.1 r_p0_0) 6 _ rfl; have h7 := held_cell (held_after hU.1 r_p0_0) 7 _ rfl; have h8 := held_cell (held_after hU.1 r_p0_0) 8 _ rfl; have h9 := held_cell (held_after hU.1 r_p0_0) 9 _ rfl; have h10 := held_cell (held_after hU.1 r_p0_0) 10 _ rfl; have h11 := held_cell (held_after hU.1 r_p0_0) 11 _ rfl; have h12 := held_cell (held_after hU.1 r_p0_0) 12 _ rfl; go_simp <;> exact rfl))⟩) ⟨_, by (simp only [Ent.val]; go_simp <;> exact rfl), ?_⟩
    refine Seg.step _ rfl (Or.inl ⟨by rfl, fun U hU => ?_⟩) ?_
    · go_simp
      refine vp_call (change_any _ u b0 b1 b2 b3 b4 b5 b6 b7 b8 b9 b10 b11 _)
    refine ⟨_, by (simp only [Ent.val]; go_simp <;> exact rfl), ?_⟩
    refine Seg.step _ rfl ⟨by rfl, fun U hU => ?_⟩ ?_
    · go_simp; exact vp_alloc rfl rfl rfl
    refine ⟨_, by (simp only [Ent.val]; go_simp <;> exact rfl), ?_⟩
    refine Seg.step _ rfl ⟨by rfl, fun U z k hz hU hc => ?_⟩ ?_
    · have hz2 := Option.some.inj hz
      cases hz2; clear hz
      exact vp_store_agg _ _ _ rfl hc rfl rfl (by kernel_rfl) rfl (by rfl)
    refine ⟨_, by (simp only [Ent.val]; go_simp <;> exact rfl), ?_⟩
    refine Seg.stop (fun U6 hU hk => ?_)
    have nb5 := hge 5 _ _ rfl
    have rb5 := (hk 5 _ 6 rfl trivial).1.1 trivial _ (Nat.zero_le _) rfl
    clear hk hge hne
    generalize th (0 + 5) = p4_5 at *
    simp only [Ent.obj] at rb5
    replace r_p0_0 := held_after hU r_p0_0
    have r_p4_5 := rb5
    clear rb5
    have n_p4_5 := nb5
    clear nb5
    have sz6 := hU.size
    have hB : Below U1.heap.size U1 U6 := hU
    clear hU
    have hA9 := hid hB
    have rx := hid r_p4_5
    have nx := n_p4_5
    clear hB r_p4_5
    go_wp2_with fail
    go_meet
    exact ⟨_, rfl, nx, rx.out, hA9.out⟩
  case rest =>
    obtain ⟨px, rfl, hpx, rx, hA⟩ := hcut
    have hH2 := held_after hA hHb
    have r2 := held_after hA r_p0_0
    have hL2 := hid (hL1.out.aft hA)
    have hOE2 := hid (hOE1.out.below hA)
    have hB2 := bthen hBr.out hA
    have hEw := hid (hOE2.out.els (by rw [entsV_len]; exact hn.out) (entsV_m hlo.out))
    have hfx := hid (fun g (hg : (Value.slice a n cap).ownBlock = some g) => (show g ≠ px from by have := (hOE1.out.lt g hg).2.1; omega))
    have hpB : B ≠ px := by omega
    have hp0 : p0_0 ≠ px := by have := held_lt r_p0_0; omega
    clear hA hHb r_p0_0 hL1 hOE1 hBr hHh r0h hK0
    go_upto_region 5 with (fail)
    have bQ := hid (show wc.drew.heap[B]? = _ from hH2)
    have xQ := hid (show wc.drew.heap[px]? = _ from rx)
    have eQ := hid (show Els wc.drew 14 a n cap (entsV s.1) from hEw.out)
    have hT := hid (show After wc wc.drew from (Below.refl _ wc).drew)
    refine wp_region_R (by kernel_rfl) ?_
    refine wpAnyR_take 0 rfl (by kernel_rfl) (by kernel_rfl) (by kernel_rfl) (fun _ _ _ _ h => h) ⟨_, Or.inl ⟨by rfl, fun w2 hb2 => by (go_simp; try with_reducible rfl)⟩, _, by (go_simp; try rfl), ?_⟩
    refine wpAnyR_take 2 rfl (by kernel_rfl) (by kernel_rfl) (by kernel_rfl) (fun _ _ _ _ h => h) ⟨_, Or.inl ⟨by rfl, fun w2 hb2 => by (have hr := held_after hb2 xQ.out; have q0 := held_cell hr 0 _ rfl; have q1 := held_cell hr 1 _ rfl; have q2 := held_cell hr 2 _ rfl; have q3 := held_cell hr 3 _ rfl; have q4 := held_cell hr 4 _ rfl; have q5 := held_cell hr 5 _ rfl; have q6 := held_cell hr 6 _ rfl; have q7 := held_cell hr 7 _ rfl; have q8 := held_cell hr 8 _ rfl; have q9 := held_cell hr 9 _ rfl; have q10 := held_cell hr 10 _ rfl; have q11 := held_cell hr 11 _ rfl; have q12 := held_cell hr 12 _ rfl; have q13 := held_cell hr 13 _ rfl; go_simp; try with_reducible rfl)⟩, _, by (go_simp; try rfl), ?_⟩
    refine wpAnyR_only 1 rfl (by kernel_rfl) (by rfl) (fun K hK => ?_)
    go_simp
    refine (kLs.out _ bQ.out eQ.out).mono ?_
    rintro e V5 ⟨rfl, hA5⟩
    replace hT := hid (bthen hT.out hA5)
    replace xQ := hid (held_after hA5 xQ.out)
    go_simp
    refine hK _ _ ⟨hA5, ?_⟩
    clear hK
    clear hA5 bQ eQ kLs
    refine wpAnyR_only 3 rfl (by kernel_rfl) (by rfl) (fun K hK => ?_)
    go_simp
    refine (kLy.out _).mono ?_
    rintro e V6 ⟨qa, qc, rfl, hO, hA5⟩
    replace hT := hid (bthen hT.out hA5)
    clear hO
    go_simp
    refine hK _ _ ⟨hA5, ?_⟩
    clear hK
    clear hA5 xQ kLy
    refine wpAnyR_take 4 rfl (by kernel_rfl) (by kernel_rfl) (by kernel_rfl) (fun _ _ _ _ h => h) ⟨_, Or.inl ⟨by rfl, fun w2 hb2 => by (go_simp; try with_reducible rfl)⟩, _, by (go_simp; try rfl), ?_⟩
    refine wpAnyR_take 5 rfl (by kernel_rfl) (by kernel_rfl) (by kernel_rfl) (fun _ _ _ _ h => h) ⟨_, Or.inl ⟨by rfl, fun w2 hb2 => by (go_simp; try with_reducible rfl)⟩, _, by (go_simp; try rfl), ?_⟩
    refine wpAnyR_done (by kernel_rfl) ?_ _
    have hA := hT.out
    have hH3 := held_after hA hH2
    have r3 := held_after hA r2
    have x3 := held_after hA rx
    have hL3 := hid (hL2.out.aft hA)
    have hOE3 := hid (hOE2.out.below hA)
    have hB3 := bthen hB2 hA
    have s3 := hB3.size
    clear hT hH2 r2 rx hL2 hOE2 hB2 hEw
    have z2 := held_cell hH3 2 _ rfl
    have ws : IntKind.i64.wrap ((sz : Int) + (LY.length : Int)) = ((sz + LY.length : Nat) : Int) := by rw [IntKind.wrap_i64]; omega
    obtain ⟨sm, hsm2⟩ : ∃ z, sz + LY.length = z := ⟨_, rfl⟩
    rw [hsm2] at ws
    have hov2 := hov.out
    have hnt2 := hnt.out
    have hsx := hsm.out
    rw [hsm2] at hov2 hnt2 hsx
    replace hov := hid hov2
    replace hnt := hid hnt2
    replace hsm := hid hsx
    clear hov2 hnt2 hsx
    replace hsm2 := hid hsm2
    by_cases hbig : 248 < sm
    case neg =>
      have hb3w := hid ((Below.refl B0 w).trans (hB3.mono (show B0 ≤ w.heap.size by omega)))
      have k0w := hid (Owp.after (j := 1) hH0 hB3)
      have tN : Own .u8 5 V6 V6.heap.size (.slice none 0 0) [] := Own.nil _ _ _ _
      have qs : ¬ (248 : Int) < (sm : Int) := by omega
      go_upto_region 10 with (fail)
      have bQ := (show V6.drew.heap[B]? = _ from hH3)
      have xQ := (show V6.drew.heap[px]? = _ from x3)
      have oQ := hid (show OwnE _ V6.drew _ _ _ _ _ from hOE3.out)
      have hAd : After V6 V6.drew := (Below.refl _ V6).drew
      obtain ⟨QQ, hQQ⟩ : ∃ X, V6.drew = X := ⟨_, rfl⟩
      rw [hQQ] at bQ xQ oQ hAd
      have sW := k0w.out.size
      have lB := held_lt hH3
      refine wp_region_T (Value.slice a n cap).ownBlock 10 (by kernel_rfl) ?_
      rw [hQQ]
      refine wpAnyT_take 0 rfl (by kernel_rfl) (by kernel_rfl) (by kernel_rfl) (by kernel_rfl) (fun _ _ _ _ h => h) ⟨_, Or.inl ⟨by rfl, fun w2 hb2 => by (go_simp; try with_reducible rfl)⟩, _, by (go_simp; try rfl), ?_⟩
      refine wpAnyT_take 1 rfl (by kernel_rfl) (by kernel_rfl) (by kernel_rfl) (by kernel_rfl) (fun _ _ _ _ h => h) ⟨_, Or.inl ⟨by rfl, fun w2 hb2 => by (go_simp; try with_reducible rfl)⟩, _, by (go_simp; try rfl), ?_⟩
      refine wpAnyT_take 2 rfl (by kernel_rfl) (by kernel_rfl) (by kernel_rfl) (by kernel_rfl) (fun _ _ _ _ h => h) ⟨_, Or.inl ⟨by rfl, fun w2 hb2 => by (go_simp; try with_reducible rfl)⟩, _, by (go_simp; try rfl), ?_⟩
      refine wpAnyT_take 3 rfl (by kernel_rfl) (by kernel_rfl) (by kernel_rfl) (by kernel_rfl) (fun _ _ _ _ h => h) ⟨_, Or.inl ⟨by rfl, fun w2 hb2 => by (go_simp; try with_reducible rfl)⟩, _, by (go_simp; try rfl), ?_⟩
      refine wpAnyT_take 4 rfl (by kernel_rfl) (by kernel_rfl) (by kernel_rfl) (by kernel_rfl) (fun _ _ _ _ h => h) ⟨_, Or.inl ⟨by rfl, fun w2 hb2 => by (have y1 := hb2.cell (held_cell bQ 1 _ rfl) (fun e => oQ.out.ne bQ (by decide) e.symm); go_simp; try with_reducible rfl)⟩, _, by (go_simp; try rfl), ?_⟩
      refine wpAnyT_take 5 rfl (by kernel_rfl) (by kernel_rfl) (by kernel_rfl) (by kernel_rfl) (fun _ _ _ _ h => h) ⟨_, Or.inl ⟨by rfl, fun w2 hb2 => by (have q0 := hb2.cell (held_cell xQ 0 _ rfl) (fun e => hfx.out px e.symm rfl); have q1 := hb2.cell (held_cell xQ 1 _ rfl) (fun e => hfx.out px e.symm rfl); have q2 := hb2.cell (held_cell xQ 2 _ rfl) (fun e => hfx.out px e.symm rfl); have q3 := hb2.cell (held_cell xQ 3 _ rfl) (fun e => hfx.out px e.symm rfl); have q4 := hb2.cell (held_cell xQ 4 _ rfl) (fun e => hfx.out px e.symm rfl); have q5 := hb2.cell (held_cell xQ 5 _ rfl) (fun e => hfx.out px e.symm rfl); have q6 := hb2.cell (held_cell xQ 6 _ rfl) (fun e => hfx.out px e.symm rfl); have q7 := hb2.cell (held_cell xQ 7 _ rfl) (fun e => hfx.out px e.symm rfl); have q8 := hb2.cell (held_cell xQ 8 _ rfl) (fun e => hfx.out px e.symm rfl); have q9 := hb2.cell (held_cell xQ 9 _ rfl) (fun e => hfx.out px e.symm rfl); have q10 := hb2.cell (held_cell xQ 10 _ rfl) (fun e => hfx.out px e.symm rfl); have q11 := hb2.cell (held_cell xQ 11 _ rfl) (fun e => hfx.out px e.symm rfl); have q12 := hb2.cell (held_cell xQ 12 _ rfl) (fun e => hfx.out px e.symm rfl); have q13 := hb2.cell (held_cell xQ 13 _ rfl) (fun e => hfx.out px e.symm rfl); go_simp; try with_reducible rfl)⟩, _, by (go_simp; try rfl), ?_⟩
      refine wpAnyT_only 6 rfl (by kernel_rfl) (by rfl) (fun K hK => ?_)
      go_simp
      have nC := alloc_new QQ (.cells #[.bool KK, .int .u32 u, .int .i32 b0, .int .i32 b1, .int .i32 b2, .int .i32 b3, .int .i32 b4, .int .i32 b5, .int .i32 b6, .int .i32 b7, .int .i32 b8, .int .i32 b9, .int .i32 b10, .int .i32 b11] 57)
      have hAC := nC.2.1
      have hEe := els_blk (m := 14) nC.2.2 rfl
      have hE2 : Els (QQ.alloc (.cells #[.bool KK, .int .u32 u, .int .i32 b0, .int .i32 b1, .int .i32 b2, .int .i32 b3, .int .i32 b4, .int .i32 b5, .int .i32 b6, .int .i32 b7, .int .i32 b8, .int .i32 b9, .int .i32 b10, .int .i32 b11] 57)) 14 (some ⟨QQ.heap.size, 0, none⟩) 1 1 [entC (KK, u, [b0, b1, b2, b3, b4, b5, b6, b7, b8, b9, b10, b11])] := hEe
      have oQ2 := oQ.out.below hAC
      have bQ2 := held_after hAC bQ
      have tQ2 := hid (tN.below (hAd.trans hAC))
      clear nC hEe
      obtain ⟨X6, hX6⟩ : ∃ X, QQ.alloc (.cells #[.bool KK, .int .u32 u, .int .i32 b0, .int .i32 b1, .int .i32 b2, .int .i32 b3, .int .i32 b4, .int .i32 b5, .int .i32 b6, .int .i32 b7, .int .i32 b8, .int .i32 b9, .int .i32 b10, .int .i32 b11] 57) = X := ⟨_, rfl⟩
      rw [hX6] at hAC hE2 oQ2 bQ2 tQ2 ⊢
      obtain ⟨pc, hpc⟩ : ∃ X, QQ.heap.size = X := ⟨_, rfl⟩
      rw [hpc] at hE2 ⊢
      have hA6 := hAd.trans hAC
      have s6 := hA6.size
      clear hX6 hpc
      refine hK _ _ ⟨fun _ => rx_after hAC, ?_⟩
      clear hK
      clear hAC
      refine wpAnyT_only 7 rfl (by kernel_rfl) (by rfl) (fun K hK => ?_)
      refine wp_appE (.tmp 41) (.tmp 43) 26 rfl base 57 14 56 entO (by decide) (.slice a n cap) n (entsV s.1).flatten rfl oQ2 (some ⟨pc, 0, none⟩) 1 1 [entC (KK, u, [b0, b1, b2, b3, b4, b5, b6, b7, b8, b9, b10, b11])] rfl hE2 (entC_one _) (by unfold maxLen; omega) (by omega) (by omega) ?_
      intro a9 c9 W9 hO9 hG9 hN9
      refine hK _ _ ⟨fun _ => RX.of_grown hG9, ?_⟩
      clear hK
      refine wpAnyT_takeP 8 rfl (by kernel_rfl) (by kernel_rfl) (by kernel_rfl) (fun _ _ _ _ h => h) ⟨_, Or.inl ⟨by rfl, fun w2 _ => by (go_simp; try with_reducible rfl)⟩, _, by (go_simp; try rfl), ?_⟩
      refine wpAnyT_take 9 rfl (by kernel_rfl) (by kernel_rfl) (by kernel_rfl) (by kernel_rfl) (fun _ _ _ _ h => h) ⟨_, Or.inl ⟨by rfl, fun w2 hb2 => by (go_simp; try with_reducible rfl)⟩, _, by (go_simp; try rfl), ?_⟩
      refine wpAnyT_only 10 rfl (by kernel_rfl) (by rfl) (fun K hK => ?_)
      have bQ3 := (hG9.block B (held_lt bQ2) (fun e2 => oQ2.ne bQ2 (by decide) e2.symm)).trans bQ2
      have tQ3 := own_kpE tQ2.out oQ2 hG9 (by decide)
      have z1 := held_cell bQ3 1 _ rfl
      have f1 := held_free bQ3 1
      obtain ⟨S1, hS1, q1, o1⟩ := st1 bQ3 1 (.slice a9 (n + 1) c9)
      have k1 : Owp B 1 w X6 := k0w.out.trans (Owp.after lB hA6)
      have k2 := k1.trans (Owp.set (v := .slice a9 (n + 1) c9) bQ3 (by simp) hG9 (fun k e => by rw [wown_at bQ2 (j := 1) rfl]; exact e) (fun k e => by rw [wown_at bQ2 (j := 1) rfl]; exact hN9 k e))
      rw [hS1] at k2
      have hb9 := hb3w.out.trans ((hA6.mono (show B0 ≤ V6.heap.size by omega)).trans ((Below.refl B0 X6).grown hG9 (by omega) (fun k e => by have := (oQ2.lt k e).1; omega)))
      have hb10 := belowS hb9 o1 h1
      have oS := hid (hO9.kept (fun g hg => o1.block g (fun e2 => by subst e2; exact (hO9.ne bQ3 (by decide)) hg)))
      have tS := hid (tQ3.kept2 bQ3 (by decide) o1)
      clear o1 bQ3 hG9 hN9 hO9 hb9 k1 tQ3
      go_simp
      refine hK _ _ ⟨fun h => (h rfl).elim, ?_⟩
      clear hK
      refine wpAnyT_done (by kernel_rfl) ?_ _
      have q1b := (show S1.heap[B]? = some (.cells #[.int .i64 ev, .slice a9 (n + 1) c9, .int .i64 (sz : Nat), .int .i64 rc, .int .i64 (bk : Nat)] 59 (0, 0)) from q1)
      have y2 := held_cell q1b 2 _ rfl
      have g2 := held_free q1b 2
      obtain ⟨S2, hS2, q2, o2⟩ := st1 q1b 2 (.int .i64 (sm : Int))
      have k3 := k2.trans (Owp.cell (i := 2) (v := .int .i64 (sm : Int)) q1b (by decide) (by simp))
      rw [hS2] at k3
      have hb11 := belowS hb10 o2 h1
      have y3 := held_cell q2 3 _ rfl
      have g3 := held_free q2 3
      obtain ⟨rc2, hrc2⟩ : ∃ z, rc + 1 = z := ⟨_, rfl⟩
      have wr3 : IntKind.i64.wrap ((rc : Int) + 1) = (rc2 : Int) := by rw [IntKind.wrap_i64]; omega
      obtain ⟨S3, hS3, q3, o3⟩ := st1 q2 3 (.int .i64 (rc2 : Int))
      have k4 := k3.trans (Owp.cell (i := 3) (v := .int .i64 (rc2 : Int)) q2 (by decide) (by simp))
      rw [hS3] at k4
      replace k4 := hid k4
      have hb12 := hid (belowS hb11 o3 h1)
      have oS2 := oS.out.kept (fun g hg => o2.block g (fun e2 => by subst e2; exact (oS.out.ne q1b (by decide)) hg))
      have oF := hid (oS2.kept (fun g hg => o3.block g (fun e2 => by subst e2; exact (oS2.ne q2 (by decide)) hg)))
      have tF := hid ((tS.out.kept2 q1b (by decide) o2).kept2 q2 (by decide) o3)
      have q3b := hid q3
      clear q3 o2 o3 k2 k3 hb10 hb11 oS oS2 tS bQ xQ bQ2 oQ2 oQ hE2 hAd hA6 tQ2 q1 hQQ
      replace hrc2 := hid hrc2
      go_wp2_with fail
      go_ret
      rw [hnt.out hbig]
      have e1 : (s.1 ++ [(KK, u, [b0, b1, b2, b3, b4, b5, b6, b7, b8, b9, b10, b11])]).length = n + 1 := by rw [List.length_append, hn.out]; rfl
      have e2 : (entS (0, zer12) (s.1 ++ [(KK, u, [b0, b1, b2, b3, b4, b5, b6, b7, b8, b9, b10, b11])])).length = sm := by rw [entS_snoc, List.length_append, hla.out, hLY0.out, hsz.out, hsm2.out]
      refine ⟨none, 0, rfl, Own.nil _ _ _ _, ⟨a9, c9, ?_, ?_⟩, hb12.out, k4.out⟩
      · dsimp only
        rw [e1, e2, hrc2.out]
        exact q3b.out
      · dsimp only
        rw [entsV_snoc, e1]
        exact oF.out
    have qs : (248 : Int) < (sm : Int) := by omega
    have hsn := hsm.out hbig
    have kF := finish_any B base B0 ev s V6 hL3.out hF0.out hsn hb0 h1 h2 (by omega)
    have hT2 := (flush_some hF0.out hsn).2
    have hov3 := hov.out hbig
    rw [hT2] at kF hov3
    rw [hrc.out, hbk.out] at kF
    rw [hbk.out] at hov3
    obtain ⟨TD, hTD⟩ : ∃ z, (putB (bk : Int) s.1).1 = z := ⟨_, rfl⟩
    rw [hTD] at kF hov3
    dsimp only at hov3
    replace hov := hid hov3
    replace kF := hid kF
    clear hov3 hTD hT2 hnt hsn hsm
    obtain ⟨bk2, hbk2⟩ : ∃ z, bk + 1 = z := ⟨_, rfl⟩
    rw [hbk2] at kF hov
    have hbk9 : bk2 ≤ 1000001 := by omega
    clear hbk2
    have hwo := hid (wown_at hH3 (j := 1) rfl)
    go_wp2_with fail
    refine kF.out.mono ?_
    rintro e V8 ⟨ta, tc, rfl, hO, hL8, hW8⟩
    dsimp only at hO hL8 ⊢
    have x8 := (hW8.2.block px (held_lt x3) (fun e => hpB e.symm) (fun e => by rw [hwo.out] at e; exact hfx.out px e.symm rfl)).trans x3
    have r8 := hL3.out.besides hW8.2 r3 (fun e => nB e.symm) (by decide)
    have hb8 := hid (((Below.refl B0 w).trans (hB3.mono (show B0 ≤ w.heap.size by omega))).trans hW8.1)
    have k8 := (Owp.after (j := 1) hH0 hB3).trans hW8.2
    have hfx2 := hW8.2.own
    rw [hwo.out] at hfx2
    obtain ⟨a2, cap2, hH8, hOE8⟩ := hL8
    dsimp only at hH8 hOE8
    have hpx8 := held_lt x3
    obtain ⟨n2, hn2⟩ : ∃ z, ([] : List En).length = z := ⟨_, rfl⟩
    rw [hn2] at hH8 hOE8
    have hn3 : n2 < 1 := by rw [← hn2]; decide
    obtain ⟨sz2, hsz2⟩ : ∃ z, (entS (0, zer12) ([] : List En)).length = z := ⟨_, rfl⟩
    rw [hsz2] at hH8
    have hsz3 : sz2 < 1 := by rw [← hsz2]; decide
    have hwo8 := wown_at hH8 (j := 1) rfl
    have hfx3 := hid (fun g (hg : (Value.slice a2 n2 cap2).ownBlock = some g) => (show g ≠ px from (hfx2 g (hwo8.trans hg)).elim (fun h => hfx.out g h) (fun h => by omega)))
    replace hOE8 := hid hOE8
    replace k8 := hid k8
    replace hO := hid hO
    clear hn2 hsz2 hfx2 hfx hwo hwo8 hL3 hH3 x3 r3 hOE3 hB3 hW8 kF z2 ws
    have q0 := held_cell r8 0 _ rfl
    have q1 := held_cell r8 1 _ rfl
    have q2 := held_cell r8 2 _ rfl
    have q3 := held_cell r8 3 _ rfl
    have q4 := held_cell r8 4 _ rfl
    have q5 := held_cell r8 5 _ rfl
    have q6 := held_cell r8 6 _ rfl
    have q7 := held_cell r8 7 _ rfl
    have q8 := held_cell r8 8 _ rfl
    have q9 := held_cell r8 9 _ rfl
    have q10 := held_cell r8 10 _ rfl
    have q11 := held_cell r8 11 _ rfl
    have q12 := held_cell r8 12 _ rfl
    go_wp2_with fail
    refine (whole_any _ u b0 b1 b2 b3 b4 b5 b6 b7 b8 b9 b10 b11 _).mono ?_
    rintro e V9 ⟨rfl, hA⟩
    have x9 := held_after hA x8
    have hH9 := held_after hA hH8
    have hOE9 := hid (hOE8.out.below hA)
    have hO9 := hid (hO.out.below hA)
    have hb9 := hid (hb8.out.trans (hA.mono (show B0 ≤ V8.heap.size by have := hb8.out.size; omega)))
    have k9 := hid (k8.out.trans (Owp.after (held_lt hH8) hA))
    clear hA x8 hH8 hOE8 hO hb8 k8 r8 q0 q1 q2 q3 q4 q5 q6 q7 q8 q9 q10 q11 q12
    have q0 := held_cell x9 0 _ rfl
    have q1 := held_cell x9 1 _ rfl
    have q2 := held_cell x9 2 _ rfl
    have q3 := held_cell x9 3 _ rfl
    have q4 := held_cell x9 4 _ rfl
    have q5 := held_cell x9 5 _ rfl
    have q6 := held_cell x9 6 _ rfl
    have q7 := held_cell x9 7 _ rfl
    have q8 := held_cell x9 8 _ rfl
    have q9 := held_cell x9 9 _ rfl
    have q10 := held_cell x9 10 _ rfl
    have q11 := held_cell x9 11 _ rfl
    have q12 := held_cell x9 12 _ rfl
    have q13 := held_cell x9 13 _ rfl
    have g0 := held_free x9 0
    have g1 := held_free x9 1
    have g2 := held_free x9 2
    have g3 := held_free x9 3
    have g4 := held_free x9 4
    have g5 := held_free x9 5
    have g6 := held_free x9 6
    have g7 := held_free x9 7
    have g8 := held_free x9 8
    have g9 := held_free x9 9
    have g10 := held_free x9 10
    have g11 := held_free x9 11
    have g12 := held_free x9 12
    have g13 := held_free x9 13
    obtain ⟨W9, hW9, ya, yO⟩ := st14 x9 (.bool true) (.int .u32 u) (.int .i32 b0) (.int .i32 b1) (.int .i32 b2) (.int .i32 b3) (.int .i32 b4) (.int .i32 b5) (.int .i32 b6) (.int .i32 b7) (.int .i32 b8) (.int .i32 b9) (.int .i32 b10) (.int .i32 b11)
    have x10 := hid (show W9.heap[px]? = some (.cells #[.bool true, .int .u32 u, .int .i32 b0, .int .i32 b1, .int .i32 b2, .int .i32 b3, .int .i32 b4, .int .i32 b5, .int .i32 b6, .int .i32 b7, .int .i32 b8, .int .i32 b9, .int .i32 b10, .int .i32 b11] 57 (0, 0)) from ya)
    have hH10 := hid (held_only yO hpB hH9)
    have hOE10 := hid (hOE9.out.kept (fun g hg => yO.block g (fun e2 => hfx3.out g hg e2)))
    have hO10 := hid (hO9.out.kept2 x9 (by decide) yO)
    have hb10 := hid (belowS hb9.out yO (by omega))
    have k10 := hid (owp_new k9.out yO (by omega) (fun e => hpB e.symm))
    clear ya yO hH9 hOE9 hO9 hb9 k9 x9
    have e0 := held_cell x10.out 0 _ rfl
    have e1 := held_cell x10.out 1 _ rfl
    have e2 := held_cell x10.out 2 _ rfl
    have e3 := held_cell x10.out 3 _ rfl
    have e4 := held_cell x10.out 4 _ rfl
    have e5 := held_cell x10.out 5 _ rfl
    have e6 := held_cell x10.out 6 _ rfl
    have e7 := held_cell x10.out 7 _ rfl
    have e8 := held_cell x10.out 8 _ rfl
    have e9 := held_cell x10.out 9 _ rfl
    have e10 := held_cell x10.out 10 _ rfl
    have e11 := held_cell x10.out 11 _ rfl
    have e12 := held_cell x10.out 12 _ rfl
    have e13 := held_cell x10.out 13 _ rfl
    have kZ := fun U => lay_any 0 u 0 0 0 0 0 0 0 0 0 0 0 0 b0 b1 b2 b3 b4 b5 b6 b7 b8 b9 b10 b11 true U (by decide) hu stK0.2.2 hv
    have hl53 : (layS (0, [0, 0, 0, 0, 0, 0, 0, 0, 0, 0, 0, 0]) (true, u, [b0, b1, b2, b3, b4, b5, b6, b7, b8, b9, b10, b11])).length = 53 := by show (75 :: keyV u [b0, b1, b2, b3, b4, b5, b6, b7, b8, b9, b10, b11]).length = 53; rw [List.length_cons, keyV_len _ _ rfl]
    obtain ⟨LZ, hLZ⟩ : ∃ z, layS (0, [0, 0, 0, 0, 0, 0, 0, 0, 0, 0, 0, 0]) (true, u, [b0, b1, b2, b3, b4, b5, b6, b7, b8, b9, b10, b11]) = z := ⟨_, rfl⟩
    rw [hLZ] at kZ hl53
    clear hLZ
    replace kZ := hid kZ
    have hlz1 : LZ.length < 54 := by omega
    have hlz2 : 52 < LZ.length := by omega
    clear hl53
    go_wp2_with fail
    refine (kZ.out _).mono ?_
    rintro e VA ⟨qb, qd, rfl, hOz, hA⟩
    have xA := held_after hA x10.out
    have hHA := held_after hA hH10.out
    have hOEA := hid (hOE10.out.below hA)
    have tA := hO10.out.below hA
    have hbA := hid (hb10.out.trans (hA.mono (show B0 ≤ W9.heap.size by have := hb10.out.size; omega)))
    have kA := hid (k10.out.trans (Owp.after (held_lt hH10.out) hA))
    clear hA hOz x10 hH10 hOE10 hO10 hb10 k10 kZ e0 e1 e2 e3 e4 e5 e6 e7 e8 e9 e10 e11 e12 e13
    obtain ⟨sm9, hsm9⟩ : ∃ z, sz2 + LZ.length = z := ⟨_, rfl⟩
    have ws9 : IntKind.i64.wrap ((sz2 : Int) + (LZ.length : Int)) = (sm9 : Int) := by rw [IntKind.wrap_i64]; omega
    have h53 : sm9 < 54 ∧ 52 < sm9 := by omega
    clear hsm9
    go_upto_region 10 with (fail)
    have bQ := (show VA.drew.heap[B]? = _ from hHA)
    have xQ := (show VA.drew.heap[px]? = _ from xA)
    have oQ := hid (show OwnE _ VA.drew _ _ _ _ _ from hOEA.out)
    have hAd : After VA VA.drew := (Below.refl _ VA).drew
    obtain ⟨QQ, hQQ⟩ : ∃ X, VA.drew = X := ⟨_, rfl⟩
    rw [hQQ] at bQ xQ oQ hAd
    have sW := kA.out.size
    have lB := held_lt hHA
    refine wp_region_T (Value.slice a2 n2 cap2).ownBlock 10 (by kernel_rfl) ?_
    rw [hQQ]
    refine wpAnyT_take 0 rfl (by kernel_rfl) (by kernel_rfl) (by kernel_rfl) (by kernel_rfl) (fun _ _ _ _ h => h) ⟨_, Or.inl ⟨by rfl, fun w2 hb2 => by (go_simp; try with_reducible rfl)⟩, _, by (go_simp; try rfl), ?_⟩
    refine wpAnyT_take 1 rfl (by kernel_rfl) (by kernel_rfl) (by kernel_rfl) (by kernel_rfl) (fun _ _ _ _ h => h) ⟨_, Or.inl ⟨by rfl, fun w2 hb2 => by (go_simp; try with_reducible rfl)⟩, _, by (go_simp; try rfl), ?_⟩
    refine wpAnyT_take 2 rfl (by kernel_rfl) (by kernel_rfl) (by kernel_rfl) (by kernel_rfl) (fun _ _ _ _ h => h) ⟨_, Or.inl ⟨by rfl, fun w2 hb2 => by (go_simp; try with_reducible rfl)⟩, _, by (go_simp; try rfl), ?_⟩
    refine wpAnyT_take 3 rfl (by kernel_rfl) (by kernel_rfl) (by kernel_rfl) (by kernel_rfl) (fun _ _ _ _ h => h) ⟨_, Or.inl ⟨by rfl, fun w2 hb2 => by (go_simp; try with_reducible rfl)⟩, _, by (go_simp; try rfl), ?_⟩
    refine wpAnyT_take 4 rfl (by kernel_rfl) (by kernel_rfl) (by kernel_rfl) (by kernel_rfl) (fun _ _ _ _ h => h) ⟨_, Or.inl ⟨by rfl, fun w2 hb2 => by (have y1 := hb2.cell (held_cell bQ 1 _ rfl) (fun e => oQ.out.ne bQ (by decide) e.symm); go_simp; try with_reducible rfl)⟩, _, by (go_simp; try rfl), ?_⟩
    refine wpAnyT_take 5 rfl (by kernel_rfl) (by kernel_rfl) (by kernel_rfl) (by kernel_rfl) (fun _ _ _ _ h => h) ⟨_, Or.inl ⟨by rfl, fun w2 hb2 => by (have q0 := hb2.cell (held_cell xQ 0 _ rfl) (fun e => hfx3.out px e.symm rfl); have q1 := hb2.cell (held_cell xQ 1 _ rfl) (fun e => hfx3.out px e.symm rfl); have q2 := hb2.cell (held_cell xQ 2 _ rfl) (fun e => hfx3.out px e.symm rfl); have q3 := hb2.cell (held_cell xQ 3 _ rfl) (fun e => hfx3.out px e.symm rfl); have q4 := hb2.cell (held_cell xQ 4 _ rfl) (fun e => hfx3.out px e.symm rfl); have q5 := hb2.cell (held_cell xQ 5 _ rfl) (fun e => hfx3.out px e.symm rfl); have q6 := hb2.cell (held_cell xQ 6 _ rfl) (fun e => hfx3.out px e.symm rfl); have q7 := hb2.cell (held_cell xQ 7 _ rfl) (fun e => hfx3.out px e.symm rfl); have q8 := hb2.cell (held_cell xQ 8 _ rfl) (fun e => hfx3.out px e.symm rfl); have q9 := hb2.cell (held_cell xQ 9 _ rfl) (fun e => hfx3.out px e.symm rfl); have q10 := hb2.cell (held_cell xQ 10 _ rfl) (fun e => hfx3.out px e.symm rfl); have q11 := hb2.cell (held_cell xQ 11 _ rfl) (fun e => hfx3.out px e.symm rfl); have q12 := hb2.cell (held_cell xQ 12 _ rfl) (fun e => hfx3.out px e.symm rfl); have q13 := hb2.cell (held_cell xQ 13 _ rfl) (fun e => hfx3.out px e.symm rfl); go_simp; try with_reducible rfl)⟩, _, by (go_simp; try rfl), ?_⟩
    refine wpAnyT_only 6 rfl (by kernel_rfl) (by rfl) (fun K hK => ?_)
    go_simp
    have nC := alloc_new QQ (.cells #[.bool true, .int .u32 u, .int .i32 b0, .int .i32 b1, .int .i32 b2, .int .i32 b3, .int .i32 b4, .int .i32 b5, .int .i32 b6, .int .i32 b7, .int .i32 b8, .int .i32 b9, .int .i32 b10, .int .i32 b11] 57)
    have hAC := nC.2.1
    have hEe := els_blk (m := 14) nC.2.2 rfl
    have hE2 : Els (QQ.alloc (.cells #[.bool true, .int .u32 u, .int .i32 b0, .int .i32 b1, .int .i32 b2, .int .i32 b3, .int .i32 b4, .int .i32 b5, .int .i32 b6, .int .i32 b7, .int .i32 b8, .int .i32 b9, .int .i32 b10, .int .i32 b11] 57)) 14 (some ⟨QQ.heap.size, 0, none⟩) 1 1 [entC (true, u, [b0, b1, b2, b3, b4, b5, b6, b7, b8, b9, b10, b11])] := hEe
    have oQ2 := oQ.out.below hAC
    have bQ2 := held_after hAC bQ
    have tQ2 := hid (tA.below (hAd.trans hAC))
    clear nC hEe
    obtain ⟨X6, hX6⟩ : ∃ X, QQ.alloc (.cells #[.bool true, .int .u32 u, .int .i32 b0, .int .i32 b1, .int .i32 b2, .int .i32 b3, .int .i32 b4, .int .i32 b5, .int .i32 b6, .int .i32 b7, .int .i32 b8, .int .i32 b9, .int .i32 b10, .int .i32 b11] 57) = X := ⟨_, rfl⟩
    rw [hX6] at hAC hE2 oQ2 bQ2 tQ2 ⊢
    obtain ⟨pc, hpc⟩ : ∃ X, QQ.heap.size = X := ⟨_, rfl⟩
    rw [hpc] at hE2 ⊢
    have hA6 := hAd.trans hAC
    have s6 := hA6.size
    clear hX6 hpc
    refine hK _ _ ⟨fun _ => rx_after hAC, ?_⟩
    clear hK
    clear hAC
    refine wpAnyT_only 7 rfl (by kernel_rfl) (by rfl) (fun K hK => ?_)
    refine wp_appE (.tmp 41) (.tmp 43) 26 rfl base 57 14 56 entO (by decide) (.slice a2 n2 cap2) n2 (entsV ([] : List En)).flatten rfl oQ2 (some ⟨pc, 0, none⟩) 1 1 [entC (true, u, [b0, b1, b2, b3, b4, b5, b6, b7, b8, b9, b10, b11])] rfl hE2 (entC_one _) (by unfold maxLen; omega) (by omega) (by omega) ?_
    intro a9 c9 W9 hO9 hG9 hN9
    refine hK _ _ ⟨fun _ => RX.of_grown hG9, ?_⟩
    clear hK
    refine wpAnyT_takeP 8 rfl (by kernel_rfl) (by kernel_rfl) (by kernel_rfl) (fun _ _ _ _ h => h) ⟨_, Or.inl ⟨by rfl, fun w2 _ => by (go_simp; try with_reducible rfl)⟩, _, by (go_simp; try rfl), ?_⟩
    refine wpAnyT_take 9 rfl (by kernel_rfl) (by kernel_rfl) (by kernel_rfl) (by kernel_rfl) (fun _ _ _ _ h => h) ⟨_, Or.inl ⟨by rfl, fun w2 hb2 => by (go_simp; try with_reducible rfl)⟩, _, by (go_simp; try rfl), ?_⟩
    refine wpAnyT_only 10 rfl (by kernel_rfl) (by rfl) (fun K hK => ?_)
    have bQ3 := (hG9.block B (held_lt bQ2) (fun e2 => oQ2.ne bQ2 (by decide) e2.symm)).trans bQ2
    have tQ3 := own_kpE tQ2.out oQ2 hG9 (by decide)
    have z1 := held_cell bQ3 1 _ rfl
    have f1 := held_free bQ3 1
    obtain ⟨S1, hS1, q1, o1⟩ := st1 bQ3 1 (.slice a9 (n2 + 1) c9)
    have k1 : Owp B 1 w X6 := kA.out.trans (Owp.after lB hA6)
    have k2 := k1.trans (Owp.set (v := .slice a9 (n2 + 1) c9) bQ3 (by simp) hG9 (fun k e => by rw [wown_at bQ2 (j := 1) rfl]; exact e) (fun k e => by rw [wown_at bQ2 (j := 1) rfl]; exact hN9 k e))
    rw [hS1] at k2
    have hb9 := hbA.out.trans ((hA6.mono (show B0 ≤ VA.heap.size by omega)).trans ((Below.refl B0 X6).grown hG9 (by omega) (fun k e => by have := (oQ2.lt k e).1; omega)))
    have hb10 := belowS hb9 o1 h1
    have oS := hid (hO9.kept (fun g hg => o1.block g (fun e2 => by subst e2; exact (hO9.ne bQ3 (by decide)) hg)))
    have tS := hid (tQ3.kept2 bQ3 (by decide) o1)
    clear o1 bQ3 hG9 hN9 hO9 hb9 k1 tQ3
    go_simp
    refine hK _ _ ⟨fun h => (h rfl).elim, ?_⟩
    clear hK
    refine wpAnyT_done (by kernel_rfl) ?_ _
    have q1b := (show S1.heap[B]? = some (.cells #[.int .i64 ev, .slice a9 (n2 + 1) c9, .int .i64 (sz2 : Nat), .int .i64 rc, .int .i64 (bk2 : Nat)] 59 (0, 0)) from q1)
    have y2 := held_cell q1b 2 _ rfl
    have g2 := held_free q1b 2
    obtain ⟨S2, hS2, q2, o2⟩ := st1 q1b 2 (.int .i64 (sm9 : Int))
    have k3 := k2.trans (Owp.cell (i := 2) (v := .int .i64 (sm9 : Int)) q1b (by decide) (by simp))
    rw [hS2] at k3
    have hb11 := belowS hb10 o2 h1
    have y3 := held_cell q2 3 _ rfl
    have g3 := held_free q2 3
    obtain ⟨rc2, hrc2⟩ : ∃ z, rc + 1 = z := ⟨_, rfl⟩
    have wr3 : IntKind.i64.wrap ((rc : Int) + 1) = (rc2 : Int) := by rw [IntKind.wrap_i64]; omega
    obtain ⟨S3, hS3, q3, o3⟩ := st1 q2 3 (.int .i64 (rc2 : Int))
    have k4 := k3.trans (Owp.cell (i := 3) (v := .int .i64 (rc2 : Int)) q2 (by decide) (by simp))
    rw [hS3] at k4
    replace k4 := hid k4
    have hb12 := hid (belowS hb11 o3 h1)
    have oS2 := oS.out.kept (fun g hg => o2.block g (fun e2 => by subst e2; exact (oS.out.ne q1b (by decide)) hg))
    have oF := hid (oS2.kept (fun g hg => o3.block g (fun e2 => by subst e2; exact (oS2.ne q2 (by decide)) hg)))
    have tF := hid ((tS.out.kept2 q1b (by decide) o2).kept2 q2 (by decide) o3)
    have q3b := hid q3
    clear q3 o2 o3 k2 k3 hb10 hb11 oS oS2 tS bQ xQ bQ2 oQ2 oQ hE2 hAd hA6 tQ2 q1 hQQ
    replace hrc2 := hid hrc2
    go_wp2_with fail
    go_ret
    rw [hov.out]
    have e1 : [((true, u, [b0, b1, b2, b3, b4, b5, b6, b7, b8, b9, b10, b11]) : En)].length = n2 + 1 := by simp; omega
    have e2 : (entS (0, zer12) [(true, u, [b0, b1, b2, b3, b4, b5, b6, b7, b8, b9, b10, b11])]).length = sm9 := by rw [ent1 rfl]; omega
    refine ⟨ta, tc, rfl, tF.out.base (by omega), ⟨a9, c9, ?_, ?_⟩, hb12.out, k4.out⟩
    · dsimp only
      rw [e1, e2, hrc2.out]
      exact q3b.out
    · dsimp only
      have e3 := entsV_snoc ([] : List En) (true, u, [b0, b1, b2, b3, b4, b5, b6, b7, b8, b9, b10, b11])
      rw [List.nil_append] at e3
      rw [e3, e1]
      exact oF.out

end Go.Proofs.Ytkpncailoekjpaa
