/- Package flog: the papers' Add. -/
import Derived.Test.YtkpncailoekjpaaFlog5
import Derived.Test.YtkpncailoekjpaaBlk4
import Derived.Deep.DeepCutAuto
namespace Go.Proofs.Ytkpncailoekjpaa
open Go.ChangeShapes Go.WideShapes Go.ChangeAt Go.RowKit
set_option linter.unusedVariables false
set_option linter.unusedSimpArgs false

theorem kpf {N : Nat} {w w' : World} (h : Below N w w') : Kp N [] w w' := ⟨h.os, h.tape, h.output, h.size, fun k hk _ => h.block k hk⟩
theorem grow_below {E : TypeId} {base N m n : Nat} {v : Value} {xs : List Value} {w w2 w0 : World} (hO : OwnE E w base m v n xs) (hG : w.grownBy w2 v.ownBlock) (hB : Below N w0 w) (hN : N ≤ base) (hw : N ≤ w.heap.size) : Below N w0 w2 :=
  hB.trans ((Below.refl N w).grown hG hw (fun k e => Nat.le_trans hN (hO.lt k e).1))
theorem list1 (x : En) : (entsV [x]).flatten = [entC x].flatten := by simp [entsV]
theorem ents_one (l : List En) : ∀ y ∈ entsV l, ∀ u ∈ y, u.oneCell' = true := by
  intro y hy
  obtain ⟨x, _, rfl⟩ := List.mem_map.1 hy
  exact entC_one x _ (by simp)
set_option maxRecDepth 100000 in
set_option maxHeartbeats 16000000 in
theorem radd_any (ev : Nat) (s : FSt) (u b0 b1 b2 b3 b4 b5 b6 b7 b8 b9 b10 b11 : Int) (a : Option Addr) (cap : Nat) (w : World) (hE : Els w 14 a s.1.length cap (entsV s.1)) (ha : ∀ p, a = some p → p.block < w.heap.size) (hF : FOk s) (he : 0 < ev) (he2 : ev ≤ 255) (hc : s.2.1 ≤ 1000000) (hb : s.2.2 ≤ 1000000) (hu : 0 ≤ u ∧ u ≤ 4294967295) (hv : ∀ x ∈ [b0, b1, b2, b3, b4, b5, b6, b7, b8, b9, b10, b11], -2147483648 ≤ x ∧ x ≤ 2147483647) : Calls Try.prog 12 #[.agg #[.int .i64 (ev : Int), .slice a s.1.length cap, .int .i64 (s.2.1 : Nat), .int .i64 (s.2.2 : Nat)], .agg #[.int .u32 u, .int .i32 b0, .int .i32 b1, .int .i32 b2, .int .i32 b3, .int .i32 b4, .int .i32 b5, .int .i32 b6, .int .i32 b7, .int .i32 b8, .int .i32 b9, .int .i32 b10, .int .i32 b11]] w (RfOk ev a w (addS ev s (u, [b0, b1, b2, b3, b4, b5, b6, b7, b8, b9, b10, b11]))) := by
  have hov := add_over (ev := ev) (s := s) (r := (u, [b0, b1, b2, b3, b4, b5, b6, b7, b8, b9, b10, b11]))
  have hnt := add_not (ev := ev) (s := s) (r := (u, [b0, b1, b2, b3, b4, b5, b6, b7, b8, b9, b10, b11]))
  obtain ⟨r, hr⟩ : ∃ r, addS ev s (u, [b0, b1, b2, b3, b4, b5, b6, b7, b8, b9, b10, b11]) = r := ⟨_, rfl⟩
  rw [hr] at hov hnt ⊢
  clear hr
  have hfew := fok_few hF
  have hlo := hid hF.2.2
  have hF0 := hid hF
  clear hF
  have hK0 : (s.1.length = 0 → keyS ev s = true) ∧ (s.1.length ≠ 0 → keyS ev s = decide (s.2.1 % ev = 0)) := ⟨fun e => keyS_nil ev (List.eq_nil_of_length_eq_zero e), fun e => by unfold keyS; cases hs : s.1 with
      | nil => rw [hs] at e; exact absurd rfl e
      | cons x y => rfl⟩
  obtain ⟨KK, hK⟩ : ∃ k, keyS ev s = k := ⟨_, rfl⟩
  rw [hK] at hov hnt hK0
  clear hK
  have hsz := fun U a9 c9 hU => rsize_any a9 c9 (s.1 ++ [(KK, u, [b0, b1, b2, b3, b4, b5, b6, b7, b8, b9, b10, b11])]) U hU (by rw [List.length_append]; simp; omega) (fun x hx => (List.mem_append.1 hx).elim (hlo.out x) (fun h => by rw [List.mem_singleton] at h; subst h; exact ⟨hu, rfl, hv⟩))
  have hmx : ∀ x ∈ entsV (s.1 ++ [(KK, u, [b0, b1, b2, b3, b4, b5, b6, b7, b8, b9, b10, b11])]), x.length = 14 := entsV_m (fun x hx => (List.mem_append.1 hx).elim (hlo.out x) (fun h => by rw [List.mem_singleton] at h; subst h; exact ⟨hu, rfl, hv⟩))
  have e1 : (s.1 ++ [(KK, u, [b0, b1, b2, b3, b4, b5, b6, b7, b8, b9, b10, b11])]).length = s.1.length + 1 := by rw [List.length_append]; rfl
  have hel : (entsV (s.1 ++ [(KK, u, [b0, b1, b2, b3, b4, b5, b6, b7, b8, b9, b10, b11])])).length = s.1.length + 1 := by rw [entsV_len, e1]
  rw [e1] at hsz
  obtain ⟨sz, hsze⟩ : ∃ z, (entS (0, zer12) (s.1 ++ [(KK, u, [b0, b1, b2, b3, b4, b5, b6, b7, b8, b9, b10, b11])])).length = z := ⟨_, rfl⟩
  rw [hsze] at hsz hov hnt
  clear hsze
  have hkf := hid (fun U a9 c9 h1 h2 => rflush_any ev s a9 c9 U h1 h2 hF0.out hb)
  obtain ⟨TT, hTT⟩ : ∃ z, flushS s = z := ⟨_, rfl⟩
  have hfc := flush_cnt s
  rw [hTT] at hkf hov hfc
  clear hTT
  obtain ⟨n, hn⟩ : ∃ n, s.1.length = n := ⟨_, rfl⟩
  rw [hn] at hE hfew hK0 hsz hkf hel ⊢
  obtain ⟨rc, hrc⟩ : ∃ z, s.2.1 = z := ⟨_, rfl⟩
  rw [hrc] at hc hov hnt hK0 hkf ⊢
  obtain ⟨bk, hbk⟩ : ∃ z, s.2.2 = z := ⟨_, rfl⟩
  rw [hbk] at hb hnt hkf ⊢
  replace hov := hid hov
  replace hnt := hid hnt
  replace hsz := hid hsz
  replace hmx := hid hmx
  replace e1 := hid e1
  replace hel := hid hel
  replace hn := hid hn
  replace hrc := hid hrc
  replace hbk := hid hbk
  replace hfc := hid hfc
  go_enter Try.func12, Try.ntmps12
  go_upto_region 0 with (fail)
  apply wp_region_seg0 (w := w) (S := [.al 1000, .al 1000, .al 1000, .q []]) (E := [.al ((fun p => .pointer (some ⟨p, 0, none⟩)), _) 1000, .al ((fun p => .pointer (some ⟨p, 0, none⟩)), _) 1000, .al ((fun p => .pointer (some ⟨p, 0, none⟩)), _) 1000, .q0 _]) rfl (by kernel_rfl) rfl rfl
  intro th hge hne
  refine Seg.step _ rfl ⟨by rfl, fun U hU => ?_⟩ ?_
  · go_simp; exact vp_alloc rfl rfl rfl
  refine ⟨_, by (simp only [Ent.val]; go_simp <;> exact rfl), ?_⟩
  refine Seg.step _ rfl ⟨by rfl, fun U hU => ?_⟩ ?_
  · go_simp; exact vp_alloc rfl rfl rfl
  refine ⟨_, by (simp only [Ent.val]; go_simp <;> exact rfl), ?_⟩
  refine Seg.step _ rfl ⟨by rfl, fun U hU => ?_⟩ ?_
  · go_simp; exact vp_alloc rfl rfl rfl
  refine ⟨_, by (simp only [Ent.val]; go_simp <;> exact rfl), ?_⟩
  refine Seg.step _ rfl (Or.inl ⟨by rfl, fun U hU => vp_quiet (by (go_simp <;> exact rfl))⟩) ⟨_, by (simp only [Ent.val]; go_simp <;> exact rfl), ?_⟩
  refine Seg.stop (fun U1 hU hk => ?_)
  have nb0 := hge 0 _ _ rfl
  have rb0 := (hk 0 _ _ rfl trivial).1.2 (by simp)
  have nb1 := hge 1 _ _ rfl
  have rb1 := (hk 1 _ _ rfl trivial).1.2 (by simp)
  have nb2 := hge 2 _ _ rfl
  have rb2 := (hk 2 _ _ rfl trivial).1.2 (by simp)
  have ne0_1 := hne 0 1 _ _ _ _ rfl rfl (by omega)
  have ne0_2 := hne 0 2 _ _ _ _ rfl rfl (by omega)
  have ne1_2 := hne 1 2 _ _ _ _ rfl rfl (by omega)
  clear hk hge hne
  generalize th (0 + 0) = p0_0 at *
  dsimp only at rb0
  generalize th (0 + 1) = p0_1 at *
  dsimp only at rb1
  generalize th (0 + 2) = p0_2 at *
  dsimp only at rb2
  have r_p0_0 := rb0
  clear rb0
  have n_p0_0 := nb0
  clear nb0
  have d_p0_0_p0_1 := ne0_1
  clear ne0_1
  have d_p0_0_p0_2 := ne0_2
  clear ne0_2
  have r_p0_1 := rb1
  clear rb1
  have n_p0_1 := nb1
  clear nb1
  have d_p0_1_p0_2 := ne1_2
  clear ne1_2
  have r_p0_2 := rb2
  clear rb2
  have n_p0_2 := nb2
  clear nb2
  have sz1 := hU.size
  have hB : Below w.heap.size w U1 := hU
  clear hU
  have np0 := n_p0_0
  have np1 := n_p0_1
  have np2 := n_p0_2
  have hE1 := hid (hE.below hB)
  have hBh := hid hB
  have r0 := hid r_p0_0
  have r1 := hid r_p0_1
  have r2 := hid r_p0_2
  clear hE
  have d02 : p0_0 ≠ p0_2 := d_p0_0_p0_2
  have sB := hB.size
  go_upto_region 1 with (fail)
  go_cut [6] from 9 to 22 (fun s6 wx => ∃ px : Nat, s6 = .pointer (some ⟨px, 0, none⟩) ∧ U1.heap.size ≤ px ∧ wx.heap[px]? = some (.cells #[.bool KK, .int .u32 u, .int .i32 b0, .int .i32 b1, .int .i32 b2, .int .i32 b3, .int .i32 b4, .int .i32 b5, .int .i32 b6, .int .i32 b7, .int .i32 b8, .int .i32 b9, .int .i32 b10, .int .i32 b11] 57 (0, 0)) ∧ After U1 wx)
  case first =>
    have hBs : Below U1.heap.size U1 U1 := Below.refl _ _
    clear hB
    by_cases hn0 : n = 0
    case pos =>
      have hKt : KK = true := hK0.1 hn0
      subst hKt
      have q0 : ((n : Int) == 0) = true := by rw [hn0]; rfl
      clear hK0 hBs
      replace hn0 := hid hn0
      apply wp_region_seg (w := U1) (S := [.q [], .q [], .q [], .q [], .q [], .q [], .q [], .q [], .q [], .q [], .q [], .q [], .q [], .q [], .al 15, .st 14 []]) (E := [.q0 _, .q0 _, .q0 _, .q0 _, .q0 _, .q0 _, .q0 _, .q0 _, .q0 _, .q0 _, .q0 _, .q0 _, .q0 _, .q0 _, .al ((fun p => .pointer (some ⟨p, 0, none⟩)), _) 15, .s0 14 (.cells _ _)]) (by kernel_rfl) rfl (by kernel_rfl) rfl rfl
      intro th hge hne
      refine Seg.step _ rfl (Or.inl ⟨by rfl, fun U hU => vp_quiet (by (go_simp <;> exact rfl))⟩) ⟨_, by (simp only [Ent.val]; go_simp <;> exact rfl), ?_⟩
      refine Seg.step _ rfl (Or.inl ⟨by rfl, fun U hU => vp_quiet (by (have h0 := held_cell (held_after hU.1 r_p0_0) 1 _ rfl; go_simp <;> exact rfl))⟩) ⟨_, by (simp only [Ent.val]; go_simp <;> exact rfl), ?_⟩
      refine Seg.step _ rfl (Or.inl ⟨by rfl, fun U hU => vp_quiet (by (go_simp <;> exact rfl))⟩) ⟨_, by (simp only [Ent.val]; go_simp <;> exact rfl), ?_⟩
      refine Seg.step _ rfl (Or.inl ⟨by rfl, fun U hU => vp_quiet (by (go_simp <;> exact rfl))⟩) ⟨_, by (simp only [Ent.val]; go_simp <;> exact rfl), ?_⟩
      refine Seg.step _ rfl (Or.inl ⟨by rfl, fun U hU => vp_quiet (by (go_simp <;> exact rfl))⟩) ⟨_, by (simp only [Ent.val]; go_simp <;> exact rfl), ?_⟩
      refine Seg.step _ rfl (Or.inr ⟨by rfl, rfl⟩) ⟨_, by (simp only [Ent.val]; go_simp <;> exact rfl), ?_⟩
      refine Seg.step _ rfl (Or.inr ⟨by rfl, rfl⟩) ⟨_, by (simp only [Ent.val]; go_simp <;> exact rfl), ?_⟩
      refine Seg.step _ rfl (Or.inr ⟨by rfl, rfl⟩) ⟨_, by (simp only [Ent.val]; go_simp <;> exact rfl), ?_⟩
      refine Seg.step _ rfl (Or.inr ⟨by rfl, rfl⟩) ⟨_, by (simp only [Ent.val]; go_simp <;> exact rfl), ?_⟩
      refine Seg.step _ rfl (Or.inr ⟨by rfl, rfl⟩) ⟨_, by (simp only [Ent.val]; go_simp <;> exact rfl), ?_⟩
      refine Seg.step _ rfl (Or.inr ⟨by rfl, rfl⟩) ⟨_, by (simp only [Ent.val]; go_simp <;> exact rfl), ?_⟩
      refine Seg.step _ rfl (Or.inl ⟨by rfl, fun U hU => vp_quiet (by (go_simp <;> exact rfl))⟩) ⟨_, by (simp only [Ent.val]; go_simp <;> exact rfl), ?_⟩
      refine Seg.step _ rfl (Or.inl ⟨by rfl, fun U hU => vp_quiet (by (have h0 := held_cell (held_after hU.1 r_p0_1) 0 _ rfl; have h1 := held_cell (held_after hU.1 r_p0_1) 1 _ rfl; have h2 := held_cell (held_after hU.1 r_p0_1) 2 _ rfl; have h3 := held_cell (held_after hU.1 r_p0_1) 3 _ rfl; have h4 := held_cell (held_after hU.1 r_p0_1) 4 _ rfl; have h5 := held_cell (held_after hU.1 r_p0_1) 5 _ rfl; have h6 := held_cell (held_after hU.1 r_p0_1) 6 _ rfl; have h7 := held_cell (held_after hU.1 r_p0_1) 7 _ rfl; have h8 := held_cell (held_after hU.1 r_p0_1) 8 _ rfl; have h9 := held_cell (held_after hU.1 r_p0_1) 9 _ rfl; have h10 := held_cell (held_after hU.1 r_p0_1) 10 _ rfl; have h11 := held_cell (held_after hU.1 r_p0_1) 11 _ rfl; have h12 := held_cell (held_after hU.1 r_p0_1) 12 _ rfl; go_simp <;> exact rfl))⟩) ⟨_, by (simp only [Ent.val]; go_simp <;> exact rfl), ?_⟩
      refine Seg.step _ rfl (Or.inl ⟨by rfl, fun U hU => vp_quiet (by (go_simp <;> exact rfl))⟩) ⟨_, by (simp only [Ent.val]; go_simp <;> exact rfl), ?_⟩
      refine Seg.step _ rfl ⟨by rfl, fun U hU => ?_⟩ ?_
      · go_simp; exact vp_alloc rfl rfl rfl
      refine ⟨_, by (simp only [Ent.val]; go_simp <;> exact rfl), ?_⟩
      refine Seg.step _ rfl ⟨by rfl, fun U z k hz hU hc => ?_⟩ ?_
      · have hz2 := Option.some.inj hz
        cases hz2; clear hz
        exact vp_store_agg _ _ _ rfl hc rfl rfl (by kernel_rfl) rfl (by rfl)
      refine ⟨_, by (simp only [Ent.val]; go_simp <;> exact rfl), ?_⟩
      refine Seg.stop (fun U6 hU hk => ?_)
      have nb14 := hge 14 _ _ rfl
      have rb14 := (hk 14 _ 15 rfl trivial).1.1 trivial _ (Nat.zero_le _) rfl
      clear hk hge hne
      generalize th (0 + 14) = p1_14 at *
      simp only [Ent.obj] at rb14
      replace r_p0_0 := held_after hU r_p0_0
      replace r_p0_1 := held_after hU r_p0_1
      replace r_p0_2 := held_after hU r_p0_2
      have r_p1_14 := rb14
      clear rb14
      have n_p1_14 := nb14
      clear nb14
      have sz6 := hU.size
      have hB : Below U1.heap.size U1 U6 := hU
      clear hU
      have hA9 := hid hB
      have rx := hid r_p1_14
      have nx := n_p1_14
      clear hB r_p1_14
      go_wp2_with fail
      go_meet
      exact ⟨_, rfl, nx, rx.out, hA9.out⟩
    have hKt : decide (rc % ev = 0) = KK := (hK0.2 hn0).symm
    have q0 : ((n : Int) == 0) = false := by simpa using hn0
    have qr : (Int.tmod (rc : Int) (ev : Int) == 0) = KK := by rw [rem_is he]; exact hKt
    have hez : (ev : Int) ≠ 0 := by omega
    have hen : ¬ ev = 0 := by omega
    have wr9 : IntKind.i64.wrap (Int.tmod (rc : Int) (ev : Int)) = Int.tmod (rc : Int) (ev : Int) := by rw [Int.tmod_eq_emod_of_nonneg (by omega), IntKind.wrap_i64]; have := Int.emod_lt_of_pos (rc : Int) (show (0 : Int) < ev by omega); have := Int.emod_nonneg (rc : Int) hez; omega
    clear hK0 hBs hKt
    replace hn0 := hid hn0
    apply wp_region_seg (w := U1) (S := [.q [], .q [], .q [], .q [], .q [], .q [], .q [], .q [], .q [], .q [], .q [], .q [], .q [], .q [], .al 15, .st 14 []]) (E := [.q0 _, .q0 _, .q0 _, .q0 _, .q0 _, .q0 _, .q0 _, .q0 _, .q0 _, .q0 _, .q0 _, .q0 _, .q0 _, .q0 _, .al ((fun p => .pointer (some ⟨p, 0, none⟩)), _) 15, .s0 14 (.cells _ _)]) (by kernel_rfl) rfl (by kernel_rfl) rfl rfl
    intro th hge hne
    refine Seg.step _ rfl (Or.inl ⟨by rfl, fun U hU => vp_quiet (by (go_simp <;> exact rfl))⟩) ⟨_, by (simp only [Ent.val]; go_simp <;> exact rfl), ?_⟩
    refine Seg.step _ rfl (Or.inl ⟨by rfl, fun U hU => vp_quiet (by (have h0 := held_cell (held_after hU.1 r_p0_0) 1 _ rfl; go_simp <;> exact rfl))⟩) ⟨_, by (simp only [Ent.val]; go_simp <;> exact rfl), ?_⟩
    refine Seg.step _ rfl (Or.inl ⟨by rfl, fun U hU => vp_quiet (by (go_simp <;> exact rfl))⟩) ⟨_, by (simp only [Ent.val]; go_simp <;> exact rfl), ?_⟩
    refine Seg.step _ rfl (Or.inl ⟨by rfl, fun U hU => vp_quiet (by (go_simp <;> exact rfl))⟩) ⟨_, by (simp only [Ent.val]; go_simp <;> exact rfl), ?_⟩
    refine Seg.step _ rfl (Or.inl ⟨by rfl, fun U hU => vp_quiet (by (go_simp <;> exact rfl))⟩) ⟨_, by (simp only [Ent.val]; go_simp <;> exact rfl), ?_⟩
    refine Seg.step _ rfl (Or.inl ⟨by rfl, fun U hU => vp_quiet (by (go_simp <;> exact rfl))⟩) ⟨_, by (simp only [Ent.val]; go_simp <;> exact rfl), ?_⟩
    refine Seg.step _ rfl (Or.inl ⟨by rfl, fun U hU => vp_quiet (by (have h0 := held_cell (held_after hU.1 r_p0_0) 2 _ rfl; go_simp <;> exact rfl))⟩) ⟨_, by (simp only [Ent.val]; go_simp <;> exact rfl), ?_⟩
    refine Seg.step _ rfl (Or.inl ⟨by rfl, fun U hU => vp_quiet (by (go_simp <;> exact rfl))⟩) ⟨_, by (simp only [Ent.val]; go_simp <;> exact rfl), ?_⟩
    refine Seg.step _ rfl (Or.inl ⟨by rfl, fun U hU => vp_quiet (by (have h0 := held_cell (held_after hU.1 r_p0_0) 0 _ rfl; go_simp <;> exact rfl))⟩) ⟨_, by (simp only [Ent.val]; go_simp <;> exact rfl), ?_⟩
    refine Seg.step _ rfl (Or.inl ⟨by rfl, fun U hU => vp_quiet (by (go_simp <;> exact rfl))⟩) ⟨_, by (simp only [Ent.val]; go_simp <;> exact rfl), ?_⟩
    refine Seg.step _ rfl (Or.inl ⟨by rfl, fun U hU => vp_quiet (by (go_simp <;> exact rfl))⟩) ⟨_, by (simp only [Ent.val]; go_simp <;> exact rfl), ?_⟩
    refine Seg.step _ rfl (Or.inl ⟨by rfl, fun U hU => vp_quiet (by (go_simp <;> exact rfl))⟩) ⟨_, by (simp only [Ent.val]; go_simp <;> exact rfl), ?_⟩
    refine Seg.step _ rfl (Or.inl ⟨by rfl, fun U hU => vp_quiet (by (have h0 := held_cell (held_after hU.1 r_p0_1) 0 _ rfl; have h1 := held_cell (held_after hU.1 r_p0_1) 1 _ rfl; have h2 := held_cell (held_after hU.1 r_p0_1) 2 _ rfl; have h3 := held_cell (held_after hU.1 r_p0_1) 3 _ rfl; have h4 := held_cell (held_after hU.1 r_p0_1) 4 _ rfl; have h5 := held_cell (held_after hU.1 r_p0_1) 5 _ rfl; have h6 := held_cell (held_after hU.1 r_p0_1) 6 _ rfl; have h7 := held_cell (held_after hU.1 r_p0_1) 7 _ rfl; have h8 := held_cell (held_after hU.1 r_p0_1) 8 _ rfl; have h9 := held_cell (held_after hU.1 r_p0_1) 9 _ rfl; have h10 := held_cell (held_after hU.1 r_p0_1) 10 _ rfl; have h11 := held_cell (held_after hU.1 r_p0_1) 11 _ rfl; have h12 := held_cell (held_after hU.1 r_p0_1) 12 _ rfl; go_simp <;> exact rfl))⟩) ⟨_, by (simp only [Ent.val]; go_simp <;> exact rfl), ?_⟩
    refine Seg.step _ rfl (Or.inl ⟨by rfl, fun U hU => vp_quiet (by (go_simp <;> exact rfl))⟩) ⟨_, by (simp only [Ent.val]; go_simp <;> exact rfl), ?_⟩
    refine Seg.step _ rfl ⟨by rfl, fun U hU => ?_⟩ ?_
    · go_simp; exact vp_alloc rfl rfl rfl
    refine ⟨_, by (simp only [Ent.val]; go_simp <;> exact rfl), ?_⟩
    refine Seg.step _ rfl ⟨by rfl, fun U z k hz hU hc => ?_⟩ ?_
    · have hz2 := Option.some.inj hz
      cases hz2; clear hz
      exact vp_store_agg _ _ _ rfl hc rfl rfl (by kernel_rfl) rfl (by rfl)
    refine ⟨_, by (simp only [Ent.val]; go_simp <;> exact rfl), ?_⟩
    refine Seg.stop (fun U6 hU hk => ?_)
    have nb14 := hge 14 _ _ rfl
    have rb14 := (hk 14 _ 15 rfl trivial).1.1 trivial _ (Nat.zero_le _) rfl
    clear hk hge hne
    generalize th (0 + 14) = p1_14 at *
    simp only [Ent.obj] at rb14
    replace r_p0_0 := held_after hU r_p0_0
    replace r_p0_1 := held_after hU r_p0_1
    replace r_p0_2 := held_after hU r_p0_2
    have r_p1_14 := rb14
    clear rb14
    have n_p1_14 := nb14
    clear nb14
    have sz6 := hU.size
    have hB : Below U1.heap.size U1 U6 := hU
    clear hU
    have hA9 := hid hB
    have rx := hid r_p1_14
    have nx := n_p1_14
    clear hB r_p1_14
    go_wp2_with fail
    go_meet
    exact ⟨_, rfl, nx, rx.out, hA9.out⟩
  case rest =>
    obtain ⟨px, rfl, hpx, rx, hA⟩ := hcut
    have ra := hid (held_after hA r_p0_0)
    have rr := hid (held_after hA r_p0_1)
    have rt := hid (held_after hA r_p0_2)
    have hB2 := hid (bthen hB hA)
    have hE2 := hid (hE1.out.below hA)
    replace rx := hid rx
    clear hA hB r_p0_0 r_p0_1 r_p0_2 r0 r1 r2 hE1 hBh hK0
    have s2 := hB2.out.size
    generalize hVV : wc = V1 at *
    clear hVV
    have l0 := held_lt ra.out
    have l2 := held_lt rt.out
    go_upto_region 2 with (fail)
    go_cut [7] from 23 to 29 (fun s7 wx => ∃ (a7 : Option Addr) (c7 : Nat), s7 = .slice a7 (n + 1) c7 ∧ OwnE 57 wx V1.heap.size 14 (.slice a7 (n + 1) c7) (n + 1) (entsV (s.1 ++ [(KK, u, [b0, b1, b2, b3, b4, b5, b6, b7, b8, b9, b10, b11])])).flatten ∧ After V1 wx)
    case first =>
      obtain ⟨QQ, hQQ⟩ : ∃ X, V1.drew = X := ⟨_, rfl⟩
      have bQ := (show V1.drew.heap[p0_0]? = _ from ra.out)
      have xQ := (show V1.drew.heap[px]? = _ from rx.out)
      have eQ := (show Els V1.drew 14 a n cap (entsV s.1) from hE2.out)
      rw [hQQ] at bQ xQ eQ
      replace eQ := hid eQ
      have hQ := Below.refl QQ.heap.size QQ
      have lb := held_lt bQ
      have lx := held_lt xQ
      have ez : 0 + n = n := Nat.zero_add n
      refine wp_region_K (N := QQ.heap.size) (X := []) (by kernel_rfl) ?_
      rw [hQQ]
      refine wpAnyK_take 1 rfl (by kernel_rfl) (by kernel_rfl) (by kernel_rfl) (fun _ _ _ _ h => h) ⟨_, Or.inl ⟨by rfl, fun w2 hb => by (go_simp; try with_reducible rfl)⟩, _, by (go_simp; try rfl), ?_⟩
      refine wpAnyK_take 2 rfl (by kernel_rfl) (by kernel_rfl) (by kernel_rfl) (fun _ _ _ _ h => h) ⟨_, Or.inl ⟨by rfl, fun w2 hb => by (have g1 := hb.cellB (p := ⟨p0_0, 1, none⟩) (by show p0_0 < _; exact lb) (by simp) (held_cell bQ 1 _ rfl); go_simp; try with_reducible rfl)⟩, _, by (go_simp; try rfl), ?_⟩
      refine wpAnyK_take 4 rfl (by kernel_rfl) (by kernel_rfl) (by kernel_rfl) (fun _ _ _ _ h => h) ⟨_, Or.inl ⟨by rfl, fun w2 hb => by (have q0 := hb.cellB (p := ⟨px, 0, none⟩) (by show px < _; exact lx) (by simp) (held_cell xQ 0 _ rfl); have q1 := hb.cellB (p := ⟨px, 1, none⟩) (by show px < _; exact lx) (by simp) (held_cell xQ 1 _ rfl); have q2 := hb.cellB (p := ⟨px, 2, none⟩) (by show px < _; exact lx) (by simp) (held_cell xQ 2 _ rfl); have q3 := hb.cellB (p := ⟨px, 3, none⟩) (by show px < _; exact lx) (by simp) (held_cell xQ 3 _ rfl); have q4 := hb.cellB (p := ⟨px, 4, none⟩) (by show px < _; exact lx) (by simp) (held_cell xQ 4 _ rfl); have q5 := hb.cellB (p := ⟨px, 5, none⟩) (by show px < _; exact lx) (by simp) (held_cell xQ 5 _ rfl); have q6 := hb.cellB (p := ⟨px, 6, none⟩) (by show px < _; exact lx) (by simp) (held_cell xQ 6 _ rfl); have q7 := hb.cellB (p := ⟨px, 7, none⟩) (by show px < _; exact lx) (by simp) (held_cell xQ 7 _ rfl); have q8 := hb.cellB (p := ⟨px, 8, none⟩) (by show px < _; exact lx) (by simp) (held_cell xQ 8 _ rfl); have q9 := hb.cellB (p := ⟨px, 9, none⟩) (by show px < _; exact lx) (by simp) (held_cell xQ 9 _ rfl); have q10 := hb.cellB (p := ⟨px, 10, none⟩) (by show px < _; exact lx) (by simp) (held_cell xQ 10 _ rfl); have q11 := hb.cellB (p := ⟨px, 11, none⟩) (by show px < _; exact lx) (by simp) (held_cell xQ 11 _ rfl); have q12 := hb.cellB (p := ⟨px, 12, none⟩) (by show px < _; exact lx) (by simp) (held_cell xQ 12 _ rfl); have q13 := hb.cellB (p := ⟨px, 13, none⟩) (by show px < _; exact lx) (by simp) (held_cell xQ 13 _ rfl); go_simp; try with_reducible rfl)⟩, _, by (go_simp; try rfl), ?_⟩
      refine wpAnyK_two 0 5 rfl rfl (by kernel_rfl) (by rfl) (by rfl) (fun K hK => ?_) (fun K hK => ?_)
      · go_simp
        have nw := alloc_new QQ (.cells #[] 57)
        have kp := Kp.of (X := []) nw.2.1 hQ.size
        have own : OwnE 57 (QQ.alloc (.cells #[] 57)) QQ.heap.size 14 (.slice (some ⟨QQ.heap.size, 0, none⟩) 0 0) 0 [] := OwnE.lit QQ #[] 0 QQ.heap.size 14 hQ.size (by unfold maxLen; omega) rfl
        replace hQ := bthen hQ nw.2.1
        clear nw
        obtain ⟨Y1, hY1⟩ : ∃ X, QQ.alloc (.cells #[] 57) = X := ⟨_, rfl⟩
        rw [hY1] at own kp hQ ⊢
        clear hY1
        refine hK _ _ ⟨kp, ?_⟩
        clear hK
        clear kp
        refine wpAnyK_two 3 5 rfl rfl (by kernel_rfl) (by rfl) (by rfl) (fun K hK => ?_) (fun K hK => ?_)
        · have sl9 := eQ.out.below hQ
          refine wp_appE (.tmp 23) (.tmp 25) 26 rfl QQ.heap.size 57 14 56 entO (by decide) (.slice (some ⟨QQ.heap.size, 0, none⟩) 0 0) 0 [] rfl own a n cap (entsV s.1) rfl sl9 (ents_one _) (by unfold maxLen; omega) (by omega) hQ.size ?_
          intro a3 c3 Y2 hO3 hG hN
          have kp : Kp QQ.heap.size [] Y1 Y2 := kpf (grow_below own hG (Below.refl _ _) (Nat.le_refl _) hQ.size)
          replace hQ := grow_below own hG hQ (Nat.le_refl _) hQ.size
          rw [ez, List.nil_append] at hO3
          rw [ez]
          clear own sl9 hG hN
          have own := hO3
          clear hO3
          refine hK _ _ ⟨kp, ?_⟩
          clear hK
          clear kp
          refine wpAnyK_only 5 rfl (by kernel_rfl) (by rfl) (fun K hK => ?_)
          go_simp
          have nw := alloc_new Y2 (.cells #[.bool KK, .int .u32 u, .int .i32 b0, .int .i32 b1, .int .i32 b2, .int .i32 b3, .int .i32 b4, .int .i32 b5, .int .i32 b6, .int .i32 b7, .int .i32 b8, .int .i32 b9, .int .i32 b10, .int .i32 b11] 57)
          have kp := Kp.of (X := []) nw.2.1 hQ.size
          replace own := own.below nw.2.1
          have h5 := nw.2.2
          replace hQ := bthen hQ nw.2.1
          clear nw
          obtain ⟨Y3, hY3⟩ : ∃ X, Y2.alloc (.cells #[.bool KK, .int .u32 u, .int .i32 b0, .int .i32 b1, .int .i32 b2, .int .i32 b3, .int .i32 b4, .int .i32 b5, .int .i32 b6, .int .i32 b7, .int .i32 b8, .int .i32 b9, .int .i32 b10, .int .i32 b11] 57) = X := ⟨_, rfl⟩
          rw [hY3] at h5 kp hQ own ⊢
          clear hY3
          refine hK _ _ ⟨kp, ?_⟩
          clear hK
          clear kp
          refine wpAnyK_only 6 rfl (by kernel_rfl) (by rfl) (fun K hK => ?_)
          have e6 : Els Y3 14 (some ⟨Y2.heap.size, 0, none⟩) 1 1 [entC (KK, u, [b0, b1, b2, b3, b4, b5, b6, b7, b8, b9, b10, b11])] := els_blk (m := 14) h5 rfl
          refine wp_appE (.tmp 26) (.tmp 28) 26 rfl QQ.heap.size 57 14 56 entO (by decide) (.slice a3 n c3) n (entsV s.1).flatten rfl own (some ⟨Y2.heap.size, 0, none⟩) 1 1 [entC (KK, u, [b0, b1, b2, b3, b4, b5, b6, b7, b8, b9, b10, b11])] rfl e6 (entC_one _) (by unfold maxLen; omega) (by omega) hQ.size ?_
          intro a9 c9 Y4 hO9 hG hN
          have kp : Kp QQ.heap.size [] Y3 Y4 := kpf (grow_below own hG (Below.refl _ _) (Nat.le_refl _) hQ.size)
          replace hQ := grow_below own hG hQ (Nat.le_refl _) hQ.size
          rw [← entsV_snoc] at hO9
          clear own e6 h5 hG hN
          refine hK _ _ ⟨kp, ?_⟩
          clear hK
          clear kp
          refine wpAnyK_take 7 rfl (by kernel_rfl) (by kernel_rfl) (by kernel_rfl) (fun _ _ _ _ h => h) ⟨_, Or.inl ⟨by rfl, fun w2 hb => by (go_simp; try with_reducible rfl)⟩, _, by (go_simp; try rfl), ?_⟩
          refine wpAnyK_done (by kernel_rfl) ?_ _
          have hA : After V1 Y4 := bthen (Below.refl V1.heap.size V1).drew (show Below V1.drew.heap.size V1.drew Y4 from by rw [hQQ]; exact hQ)
          have eq9 : QQ.heap.size = V1.heap.size := by rw [← hQQ]; rfl
          rw [eq9] at hO9
          clear hQ bQ xQ eQ hQQ
          go_wp2_with fail
          go_meet
          exact ⟨_, _, rfl, hO9, hA⟩
        · go_simp
          have nw := alloc_new Y1 (.cells #[.bool KK, .int .u32 u, .int .i32 b0, .int .i32 b1, .int .i32 b2, .int .i32 b3, .int .i32 b4, .int .i32 b5, .int .i32 b6, .int .i32 b7, .int .i32 b8, .int .i32 b9, .int .i32 b10, .int .i32 b11] 57)
          have kp := Kp.of (X := []) nw.2.1 hQ.size
          have hne : QQ.heap.size ≠ Y1.heap.size := by have := (own.lt QQ.heap.size rfl).2.1; omega
          replace own := own.below nw.2.1
          have h5 := nw.2.2
          replace hQ := bthen hQ nw.2.1
          clear nw
          obtain ⟨Y2, hY2⟩ : ∃ X, Y1.alloc (.cells #[.bool KK, .int .u32 u, .int .i32 b0, .int .i32 b1, .int .i32 b2, .int .i32 b3, .int .i32 b4, .int .i32 b5, .int .i32 b6, .int .i32 b7, .int .i32 b8, .int .i32 b9, .int .i32 b10, .int .i32 b11] 57) = X := ⟨_, rfl⟩
          rw [hY2] at h5 kp hQ own ⊢
          clear hY2
          refine hK _ _ ⟨kp, ?_⟩
          clear hK
          clear kp
          refine wpAnyK_only 3 rfl (by kernel_rfl) (by rfl) (fun K hK => ?_)
          have sl9 := eQ.out.below hQ
          refine wp_appE (.tmp 23) (.tmp 25) 26 rfl QQ.heap.size 57 14 56 entO (by decide) (.slice (some ⟨QQ.heap.size, 0, none⟩) 0 0) 0 [] rfl own a n cap (entsV s.1) rfl sl9 (ents_one _) (by unfold maxLen; omega) (by omega) hQ.size ?_
          intro a3 c3 Y3 hO3 hG hN
          have kp : Kp QQ.heap.size [] Y2 Y3 := kpf (grow_below own hG (Below.refl _ _) (Nat.le_refl _) hQ.size)
          replace h5 := (hG.block _ (held_lt h5) (fun e => hne (Option.some.inj e).symm)).trans h5
          clear hne
          replace hQ := grow_below own hG hQ (Nat.le_refl _) hQ.size
          rw [ez, List.nil_append] at hO3
          rw [ez]
          clear own sl9 hG hN
          have own := hO3
          clear hO3
          refine hK _ _ ⟨kp, ?_⟩
          clear hK
          clear kp
          refine wpAnyK_only 6 rfl (by kernel_rfl) (by rfl) (fun K hK => ?_)
          have e6 : Els Y3 14 (some ⟨Y1.heap.size, 0, none⟩) 1 1 [entC (KK, u, [b0, b1, b2, b3, b4, b5, b6, b7, b8, b9, b10, b11])] := els_blk (m := 14) h5 rfl
          refine wp_appE (.tmp 26) (.tmp 28) 26 rfl QQ.heap.size 57 14 56 entO (by decide) (.slice a3 n c3) n (entsV s.1).flatten rfl own (some ⟨Y1.heap.size, 0, none⟩) 1 1 [entC (KK, u, [b0, b1, b2, b3, b4, b5, b6, b7, b8, b9, b10, b11])] rfl e6 (entC_one _) (by unfold maxLen; omega) (by omega) hQ.size ?_
          intro a9 c9 Y4 hO9 hG hN
          have kp : Kp QQ.heap.size [] Y3 Y4 := kpf (grow_below own hG (Below.refl _ _) (Nat.le_refl _) hQ.size)
          replace hQ := grow_below own hG hQ (Nat.le_refl _) hQ.size
          rw [← entsV_snoc] at hO9
          clear own e6 h5 hG hN
          refine hK _ _ ⟨kp, ?_⟩
          clear hK
          clear kp
          refine wpAnyK_take 7 rfl (by kernel_rfl) (by kernel_rfl) (by kernel_rfl) (fun _ _ _ _ h => h) ⟨_, Or.inl ⟨by rfl, fun w2 hb => by (go_simp; try with_reducible rfl)⟩, _, by (go_simp; try rfl), ?_⟩
          refine wpAnyK_done (by kernel_rfl) ?_ _
          have hA : After V1 Y4 := bthen (Below.refl V1.heap.size V1).drew (show Below V1.drew.heap.size V1.drew Y4 from by rw [hQQ]; exact hQ)
          have eq9 : QQ.heap.size = V1.heap.size := by rw [← hQQ]; rfl
          rw [eq9] at hO9
          clear hQ bQ xQ eQ hQQ
          go_wp2_with fail
          go_meet
          exact ⟨_, _, rfl, hO9, hA⟩
      · go_simp
        have nw := alloc_new QQ (.cells #[.bool KK, .int .u32 u, .int .i32 b0, .int .i32 b1, .int .i32 b2, .int .i32 b3, .int .i32 b4, .int .i32 b5, .int .i32 b6, .int .i32 b7, .int .i32 b8, .int .i32 b9, .int .i32 b10, .int .i32 b11] 57)
        have kp := Kp.of (X := []) nw.2.1 hQ.size
        have h5 := nw.2.2
        replace hQ := bthen hQ nw.2.1
        clear nw
        obtain ⟨Y1, hY1⟩ : ∃ X, QQ.alloc (.cells #[.bool KK, .int .u32 u, .int .i32 b0, .int .i32 b1, .int .i32 b2, .int .i32 b3, .int .i32 b4, .int .i32 b5, .int .i32 b6, .int .i32 b7, .int .i32 b8, .int .i32 b9, .int .i32 b10, .int .i32 b11] 57) = X := ⟨_, rfl⟩
        rw [hY1] at h5 kp hQ ⊢
        clear hY1
        refine hK _ _ ⟨kp, ?_⟩
        clear hK
        clear kp
        refine wpAnyK_only 0 rfl (by kernel_rfl) (by rfl) (fun K hK => ?_)
        go_simp
        have nw := alloc_new Y1 (.cells #[] 57)
        have kp := Kp.of (X := []) nw.2.1 hQ.size
        have own : OwnE 57 (Y1.alloc (.cells #[] 57)) QQ.heap.size 14 (.slice (some ⟨Y1.heap.size, 0, none⟩) 0 0) 0 [] := OwnE.lit Y1 #[] 0 QQ.heap.size 14 hQ.size (by unfold maxLen; omega) rfl
        have hne : Y1.heap.size ≠ QQ.heap.size := by have := held_lt h5; omega
        replace h5 := held_after nw.2.1 h5
        replace hQ := bthen hQ nw.2.1
        clear nw
        obtain ⟨Y2, hY2⟩ : ∃ X, Y1.alloc (.cells #[] 57) = X := ⟨_, rfl⟩
        rw [hY2] at own kp hQ h5 ⊢
        clear hY2
        refine hK _ _ ⟨kp, ?_⟩
        clear hK
        clear kp
        refine wpAnyK_only 3 rfl (by kernel_rfl) (by rfl) (fun K hK => ?_)
        have sl9 := eQ.out.below hQ
        refine wp_appE (.tmp 23) (.tmp 25) 26 rfl QQ.heap.size 57 14 56 entO (by decide) (.slice (some ⟨Y1.heap.size, 0, none⟩) 0 0) 0 [] rfl own a n cap (entsV s.1) rfl sl9 (ents_one _) (by unfold maxLen; omega) (by omega) hQ.size ?_
        intro a3 c3 Y3 hO3 hG hN
        have kp : Kp QQ.heap.size [] Y2 Y3 := kpf (grow_below own hG (Below.refl _ _) (Nat.le_refl _) hQ.size)
        replace h5 := (hG.block _ (held_lt h5) (fun e => hne (Option.some.inj e).symm)).trans h5
        clear hne
        replace hQ := grow_below own hG hQ (Nat.le_refl _) hQ.size
        rw [ez, List.nil_append] at hO3
        rw [ez]
        clear own sl9 hG hN
        have own := hO3
        clear hO3
        refine hK _ _ ⟨kp, ?_⟩
        clear hK
        clear kp
        refine wpAnyK_only 6 rfl (by kernel_rfl) (by rfl) (fun K hK => ?_)
        have e6 : Els Y3 14 (some ⟨QQ.heap.size, 0, none⟩) 1 1 [entC (KK, u, [b0, b1, b2, b3, b4, b5, b6, b7, b8, b9, b10, b11])] := els_blk (m := 14) h5 rfl
        refine wp_appE (.tmp 26) (.tmp 28) 26 rfl QQ.heap.size 57 14 56 entO (by decide) (.slice a3 n c3) n (entsV s.1).flatten rfl own (some ⟨QQ.heap.size, 0, none⟩) 1 1 [entC (KK, u, [b0, b1, b2, b3, b4, b5, b6, b7, b8, b9, b10, b11])] rfl e6 (entC_one _) (by unfold maxLen; omega) (by omega) hQ.size ?_
        intro a9 c9 Y4 hO9 hG hN
        have kp : Kp QQ.heap.size [] Y3 Y4 := kpf (grow_below own hG (Below.refl _ _) (Nat.le_refl _) hQ.size)
        replace hQ := grow_below own hG hQ (Nat.le_refl _) hQ.size
        rw [← entsV_snoc] at hO9
        clear own e6 h5 hG hN
        refine hK _ _ ⟨kp, ?_⟩
        clear hK
        clear kp
        refine wpAnyK_take 7 rfl (by kernel_rfl) (by kernel_rfl) (by kernel_rfl) (fun _ _ _ _ h => h) ⟨_, Or.inl ⟨by rfl, fun w2 hb => by (go_simp; try with_reducible rfl)⟩, _, by (go_simp; try rfl), ?_⟩
        refine wpAnyK_done (by kernel_rfl) ?_ _
        have hA : After V1 Y4 := bthen (Below.refl V1.heap.size V1).drew (show Below V1.drew.heap.size V1.drew Y4 from by rw [hQQ]; exact hQ)
        have eq9 : QQ.heap.size = V1.heap.size := by rw [← hQQ]; rfl
        rw [eq9] at hO9
        clear hQ bQ xQ eQ hQQ
        go_wp2_with fail
        go_meet
        exact ⟨_, _, rfl, hO9, hA⟩
    case rest =>
      obtain ⟨a7, c7, rfl, hO7, hA⟩ := hcut
      have ra2 := hid (held_after hA ra.out)
      have rr2 := hid (held_after hA rr.out)
      have rt2 := hid (held_after hA rt.out)
      have hB3 := bthen hB2.out hA
      have hE3 := hid (hE2.out.below hA)
      have hE7 := hO7.els hel.out hmx.out
      have hty := hid (et_own hO7)
      have haq : ∀ q, a7 = some q → V1.heap.size ≤ q.block := by
        intro q e
        obtain ⟨a8, c8, e8, _, _, _, h4⟩ := hO7.sl
        cases e8
        exact (h4 q e).2.2
      clear hA ra rr rt hB2 hE2 hO7 rx
      have hB3h := hid hB3
      go_wp2_with fail
      refine (hsz.out _ a7 c7 hE7).mono ?_
      rintro e V3 ⟨rfl, hA⟩
      have ra3 := held_after hA ra2.out
      have rr3 := hid (held_after hA rr2.out)
      have rt3 := held_after hA rt2.out
      have hB4 := bthen hB3 hA
      have hE4 := hE3.out.below hA
      have hE8 := hid (hE7.below hA)
      replace hty := hid (et_aft hty.out hA)
      clear hA ra2 rr2 rt2 hB3 hB3h hE3 hE7 hsz hel hmx
      by_cases hbig : 248 < sz
      case neg =>
        have qs : ¬ (248 : Int) < (sz : Int) := by omega
        have hne7 : ∀ q, a7 = some q → q.block ≠ p0_0 ∧ q.block ≠ p0_2 := fun q e => by have := haq q e; omega
        have zz1 := held_cell ra3 1 _ rfl
        have ff1 := held_free ra3 1
        obtain ⟨S1, hS1, t1, o1⟩ := st1 ra3 1 (.slice a7 (n + 1) c7)
        have t1b := (show S1.heap[p0_0]? = some (.cells #[.int .i64 (ev : Int), .slice a7 (n + 1) c7, .int .i64 (rc : Nat), .int .i64 (bk : Nat)] 28 (0, 0)) from t1)
        have zz2 := held_cell t1b 2 _ rfl
        have ff2 := held_free t1b 2
        obtain ⟨rc2, hrc2⟩ : ∃ z, rc + 1 = z := ⟨_, rfl⟩
        have wr3 : IntKind.i64.wrap ((rc : Int) + 1) = (rc2 : Int) := by rw [IntKind.wrap_i64]; omega
        obtain ⟨S2, hS2, t2, o2⟩ := st1 t1b 2 (.int .i64 (rc2 : Int))
        have t2b := (show S2.heap[p0_0]? = some (.cells #[.int .i64 (ev : Int), .slice a7 (n + 1) c7, .int .i64 (rc2 : Nat), .int .i64 (bk : Nat)] 28 (0, 0)) from t2)
        have q2 := held_only o2 (fun e => d02 e.symm) (held_only o1 (fun e => d02 e.symm) rt3)
        have hB5 := belowS (belowS hB4 o1 np0) o2 np0
        have hE5 := els_only (els_only hE8.out o1 (fun q e => (hne7 q e).1)) o2 (fun q e => (hne7 q e).1)
        have xx0 := held_cell t2b 0 _ rfl
        have xx1 := held_cell t2b 1 _ rfl
        have xx2 := held_cell t2b 2 _ rfl
        have xx3 := held_cell t2b 3 _ rfl
        have uu0 := held_cell q2 0 _ rfl
        have uu1 := held_cell q2 1 _ rfl
        have uu2 := held_cell q2 2 _ rfl
        have uu3 := held_cell q2 3 _ rfl
        have gg0 := held_free q2 0
        have gg1 := held_free q2 1
        have gg2 := held_free q2 2
        have gg3 := held_free q2 3
        obtain ⟨W9, hW9, ya, yO⟩ := st4w q2 (.int .i64 (ev : Int)) (.slice a7 (n + 1) c7) (.int .i64 (rc2 : Nat)) (.int .i64 (bk : Nat))
        have hB9 := hid (belowS hB5 yO np2)
        have hE9 := hid (els_only hE5 yO (fun q e => (hne7 q e).2))
        have ty9 := hid (et_only (et_only (et_only hty.out o1 (fun q e => (hne7 q e).1)) o2 (fun q e => (hne7 q e).1)) yO (fun q e => (hne7 q e).2))
        have ez0 := held_cell ya 0 _ rfl
        have ez1 := held_cell ya 1 _ rfl
        have ez2 := held_cell ya 2 _ rfl
        have ez3 := held_cell ya 3 _ rfl
        clear yO ya t1 t1b t2 t2b o1 o2 q2 hB5 hE5
        replace hrc2 := hid hrc2
        go_wp2_with fail
        refine bodyPost_ret (v := .tuple #[.agg #[.int .i64 (ev : Int), .slice a7 (n + 1) c7, .int .i64 (rc2 : Nat), .int .i64 (bk : Nat)], .slice none 0 0]) (by simp [results, Try.results12, go_sem, ez0, ez1, ez2, ez3]) rfl ?_
        rw [hnt.out hbig]
        try dsimp only
        refine ⟨a7, c7, none, 0, ?_, ?_, Own.nil _ _ _ _, hB9.out, (fun q e => .inr (by have := haq q e; omega)), fun _ => ty9.out⟩
        · try dsimp only
          rw [e1.out, hn.out, hrc2.out]; try rfl
        · try dsimp only
          rw [e1.out, hn.out]; exact hE9.out
      have qs : (248 : Int) < (sz : Int) := by omega
      have hov2 := hov.out hbig
      replace hov := hid hov2
      clear hov2 hnt hE8 haq hty
      have y0 := held_cell ra3 0 _ rfl
      have y1 := held_cell ra3 1 _ rfl
      have y2 := held_cell ra3 2 _ rfl
      have y3 := held_cell ra3 3 _ rfl
      have hlt3 : ∀ p, a = some p → p.block < V3.heap.size := fun p e => by have := ha p e; have := hB4.size; omega
      go_wp2_with fail
      refine (hkf.out _ a cap hE4 hlt3).mono ?_
      rintro e V4 ⟨a4, c4, ta, tc, rfl, hE5, hTo, hA, hfr, -⟩
      have ra4 := held_after hA ra3
      have rr4 := held_after hA rr3.out
      have rt4 := held_after hA rt3
      have hB5 := bthen hB4 hA
      have hTo2 := hTo.base hB4.size
      clear hA ra3 rt3 rr3 hB4 hE4 hE5 hTo hkf hlt3 hfr y0 y1 y2 y3
      obtain ⟨TL, s4⟩ := TT
      obtain ⟨l4, rc4, bk4⟩ := s4
      have hf1 := hfc.out.1
      have hf2 := hfc.out.2
      dsimp only at hf1 hf2 hTo2 ⊢
      have hf3 : rc = rc4 := by rw [hf1]; exact hrc.out.symm
      subst hf3
      clear hf1 hf2
      have y0 := held_cell ra4 0 _ rfl
      have y1 := held_cell ra4 1 _ rfl
      have y2 := held_cell ra4 2 _ rfl
      have y3 := held_cell ra4 3 _ rfl
      have v0 := held_free ra4 0
      have v1 := held_free ra4 1
      have v2 := held_free ra4 2
      have v3 := held_free ra4 3
      obtain ⟨l4n, hl4⟩ : ∃ z, l4.length = z := ⟨_, rfl⟩
      try rw [hl4]
      obtain ⟨W5, hW5, yb, yP⟩ := st4w ra4 (.int .i64 (ev : Int)) (.slice a4 l4n c4) (.int .i64 (rc : Nat)) (.int .i64 (bk4 : Nat))
      have rr5 := held_only yP (show p0_1 ≠ p0_0 from fun e => d_p0_0_p0_1 e.symm) rr4
      have rt5 := held_only yP (fun e => d02 e.symm) rt4
      have hB6 := belowS hB5 yP np0
      have hT5 := hTo2.kept2 ra4 (by decide) yP
      clear yP ra4 rr4 rt4 hB5 hTo2
      have k0 := held_cell rr5 0 _ rfl
      have k1 := held_cell rr5 1 _ rfl
      have k2 := held_cell rr5 2 _ rfl
      have k3 := held_cell rr5 3 _ rfl
      have k4 := held_cell rr5 4 _ rfl
      have k5 := held_cell rr5 5 _ rfl
      have k6 := held_cell rr5 6 _ rfl
      have k7 := held_cell rr5 7 _ rfl
      have k8 := held_cell rr5 8 _ rfl
      have k9 := held_cell rr5 9 _ rfl
      have k10 := held_cell rr5 10 _ rfl
      have k11 := held_cell rr5 11 _ rfl
      have k12 := held_cell rr5 12 _ rfl
      have nC := alloc_new W5 (.cells #[.bool true, .int .u32 u, .int .i32 b0, .int .i32 b1, .int .i32 b2, .int .i32 b3, .int .i32 b4, .int .i32 b5, .int .i32 b6, .int .i32 b7, .int .i32 b8, .int .i32 b9, .int .i32 b10, .int .i32 b11] 57)
      have hAC := nC.2.1
      have rC := nC.2.2
      have hE6 := els_blk (m := 14) rC rfl
      have ty6 : EtAt (W5.alloc (.cells #[.bool true, .int .u32 u, .int .i32 b0, .int .i32 b1, .int .i32 b2, .int .i32 b3, .int .i32 b4, .int .i32 b5, .int .i32 b6, .int .i32 b7, .int .i32 b8, .int .i32 b9, .int .i32 b10, .int .i32 b11] 57)) (some ⟨W5.heap.size, 0, none⟩) := fun q e => by cases e; exact ⟨_, rC⟩
      have rb6 := held_after hAC yb
      have rt6 := held_after hAC rt5
      have hB7 := bthen hB6 hAC
      have hT6 := hT5.below hAC
      have s5 := hB6.size
      have lW := held_lt yb
      have lW2 := held_lt rt5
      clear nC hAC rC yb rt5 hB6 hT5
      obtain ⟨W6, hW6⟩ : ∃ X, W5.alloc (.cells #[.bool true, .int .u32 u, .int .i32 b0, .int .i32 b1, .int .i32 b2, .int .i32 b3, .int .i32 b4, .int .i32 b5, .int .i32 b6, .int .i32 b7, .int .i32 b8, .int .i32 b9, .int .i32 b10, .int .i32 b11] 57) = X := ⟨_, rfl⟩
      rw [hW6] at hE6 rb6 rt6 hB7 hT6 ty6
      obtain ⟨pc, hpc⟩ : ∃ X, W5.heap.size = X := ⟨_, rfl⟩
      rw [hpc] at hE6 s5 lW lW2 ty6
      have hE66 : Els W6 14 (some ⟨pc, 0, none⟩) 1 1 [entC (true, u, [b0, b1, b2, b3, b4, b5, b6, b7, b8, b9, b10, b11])] := hE6
      clear hE6
      have hne6 : ∀ q, (some ⟨pc, 0, none⟩ : Option Addr) = some q → q.block ≠ p0_0 ∧ q.block ≠ p0_2 := fun q e => by cases e; exact ⟨by show pc ≠ _; omega, by show pc ≠ _; omega⟩
      have zz1 := held_cell rb6 1 _ rfl
      have ff1 := held_free rb6 1
      obtain ⟨S1, hS1, t1, o1⟩ := st1 rb6 1 (.slice (some ⟨pc, 0, none⟩) 1 1)
      have t1b := (show S1.heap[p0_0]? = some (.cells #[.int .i64 (ev : Int), .slice (some ⟨pc, 0, none⟩) 1 1, .int .i64 (rc : Nat), .int .i64 (bk4 : Nat)] 28 (0, 0)) from t1)
      have zz2 := held_cell t1b 2 _ rfl
      have ff2 := held_free t1b 2
      obtain ⟨rc2, hrc2⟩ : ∃ z, rc + 1 = z := ⟨_, rfl⟩
      have wr3 : IntKind.i64.wrap ((rc : Int) + 1) = (rc2 : Int) := by rw [IntKind.wrap_i64]; omega
      obtain ⟨S2, hS2, t2, o2⟩ := st1 t1b 2 (.int .i64 (rc2 : Int))
      have t2b := (show S2.heap[p0_0]? = some (.cells #[.int .i64 (ev : Int), .slice (some ⟨pc, 0, none⟩) 1 1, .int .i64 (rc2 : Nat), .int .i64 (bk4 : Nat)] 28 (0, 0)) from t2)
      have q2 := held_only o2 (fun e => d02 e.symm) (held_only o1 (fun e => d02 e.symm) rt6)
      have hB5 := belowS (belowS hB7 o1 np0) o2 np0
      have hE5 := els_only (els_only hE66 o1 (fun q e => (hne6 q e).1)) o2 (fun q e => (hne6 q e).1)
      have tO2 := (hT6.kept2 rb6 (by decide) o1).kept2 t1b (by decide) o2
      have xx0 := held_cell t2b 0 _ rfl
      have xx1 := held_cell t2b 1 _ rfl
      have xx2 := held_cell t2b 2 _ rfl
      have xx3 := held_cell t2b 3 _ rfl
      have uu0 := held_cell q2 0 _ rfl
      have uu1 := held_cell q2 1 _ rfl
      have uu2 := held_cell q2 2 _ rfl
      have uu3 := held_cell q2 3 _ rfl
      have gg0 := held_free q2 0
      have gg1 := held_free q2 1
      have gg2 := held_free q2 2
      have gg3 := held_free q2 3
      obtain ⟨W9, hW9, ya, yO⟩ := st4w q2 (.int .i64 (ev : Int)) (.slice (some ⟨pc, 0, none⟩) 1 1) (.int .i64 (rc2 : Nat)) (.int .i64 (bk4 : Nat))
      have hB9 := hid (belowS hB5 yO np2)
      have hE9 := hid (els_only hE5 yO (fun q e => (hne6 q e).2))
      have ty9 := hid (et_only (et_only (et_only ty6 o1 (fun q e => (hne6 q e).1)) o2 (fun q e => (hne6 q e).1)) yO (fun q e => (hne6 q e).2))
      have tO9 := hid (tO2.kept2 q2 (by decide) yO)
      have ez0 := held_cell ya 0 _ rfl
      have ez1 := held_cell ya 1 _ rfl
      have ez2 := held_cell ya 2 _ rfl
      have ez3 := held_cell ya 3 _ rfl
      clear yO ya t1 t1b t2 t2b o1 o2 q2 hB5 hE5
      replace hrc2 := hid hrc2
      go_wp2_with fail
      refine bodyPost_ret (v := .tuple #[.agg #[.int .i64 (ev : Int), .slice (some ⟨pc, 0, none⟩) 1 1, .int .i64 (rc2 : Nat), .int .i64 (bk4 : Nat)], .slice ta TL.length tc]) (by simp [results, Try.results12, go_sem, ez0, ez1, ez2, ez3]) rfl ?_
      rw [hov.out]
      refine ⟨some ⟨pc, 0, none⟩, 1, ta, tc, ?_, ?_, tO9.out, hB9.out, (fun q e => .inr (by cases e; exact s5)), fun _ => ty9.out⟩
      · try dsimp only
        rw [hrc2.out]; try rfl
      · exact hE9.out

end Go.Proofs.Ytkpncailoekjpaa
