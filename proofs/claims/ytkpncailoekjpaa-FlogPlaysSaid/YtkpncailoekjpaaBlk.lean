/- Package block: entries: Lay. -/
import Derived.Test.YtkpncailoekjpaaRecB
import Derived.Deep.DeepCutAuto
namespace Go.Proofs.Ytkpncailoekjpaa
open Go.ChangeShapes Go.WideShapes Go.ChangeAt Go.RowKit
set_option linter.unusedVariables false
set_option linter.unusedSimpArgs false

/-- An entry: whether it is whole, its time, its numbers. -/
abbrev En := Bool × Int × List Int
def layS (st : Int × List Int) (x : En) : List Int := if x.1 then 75 :: keyV x.2.1 x.2.2 else 68 :: deltaV st.1 x.2.1 st.2 x.2.2
def entS (st : Int × List Int) : List En → List Int
  | [] => []
  | x :: r => layS st x ++ entS x.2 r
def lastR (st : Int × List Int) : List En → Int × List Int
  | [] => st
  | x :: r => lastR x.2 r
theorem entS_snoc : ∀ (st : Int × List Int) (l : List En) (x : En), entS st (l ++ [x]) = entS st l ++ layS (lastR st l) x
  | st, [], x => by simp [entS, lastR]
  | st, y :: l, x => by
    show layS st y ++ entS y.2 (l ++ [x]) = _
    rw [entS_snoc y.2 l x, ← List.append_assoc]
    rfl
theorem lastR_snoc : ∀ (st : Int × List Int) (l : List En) (x : En), lastR st (l ++ [x]) = x.2
  | st, [], x => rfl
  | st, y :: l, x => lastR_snoc y.2 l x
theorem entS_app : ∀ (st : Int × List Int) (l r : List En), entS st (l ++ r) = entS st l ++ entS (lastR st l) r
  | st, [], r => rfl
  | st, y :: l, r => by
    show layS st y ++ entS y.2 (l ++ r) = _
    rw [entS_app y.2 l r, ← List.append_assoc]
    rfl
theorem keyV_len (t : Int) (v : List Int) (h : v.length = 12) : (keyV t v).length = 52 := by unfold keyV; rw [List.length_append, bytesL_len, keyF_len, h]
set_option maxRecDepth 100000 in
set_option maxHeartbeats 4000000 in
theorem lay_any (t u a0 a1 a2 a3 a4 a5 a6 a7 a8 a9 a10 a11 b0 b1 b2 b3 b4 b5 b6 b7 b8 b9 b10 b11 : Int) (k : Bool) (w : World) (ht : 0 ≤ t ∧ t ≤ 4294967295) (hu : 0 ≤ u ∧ u ≤ 4294967295) (ha : ∀ x ∈ [a0, a1, a2, a3, a4, a5, a6, a7, a8, a9, a10, a11], -2147483648 ≤ x ∧ x ≤ 2147483647) (hb : ∀ x ∈ [b0, b1, b2, b3, b4, b5, b6, b7, b8, b9, b10, b11], -2147483648 ≤ x ∧ x ≤ 2147483647) : Calls Try.prog 23 #[.agg #[.int .u32 t, .int .i32 a0, .int .i32 a1, .int .i32 a2, .int .i32 a3, .int .i32 a4, .int .i32 a5, .int .i32 a6, .int .i32 a7, .int .i32 a8, .int .i32 a9, .int .i32 a10, .int .i32 a11], .agg #[.bool k, .int .u32 u, .int .i32 b0, .int .i32 b1, .int .i32 b2, .int .i32 b3, .int .i32 b4, .int .i32 b5, .int .i32 b6, .int .i32 b7, .int .i32 b8, .int .i32 b9, .int .i32 b10, .int .i32 b11]] w (BytesOk w (layS (t, [a0, a1, a2, a3, a4, a5, a6, a7, a8, a9, a10, a11]) (k, u, [b0, b1, b2, b3, b4, b5, b6, b7, b8, b9, b10, b11]))) := by
  have hdl := (deltaV_len (t := t) (u := u) (get_bd ha) (get_bd hb)).2
  have hkl := keyV_len u [b0, b1, b2, b3, b4, b5, b6, b7, b8, b9, b10, b11] rfl
  replace ha := hid ha
  replace hb := hid hb
  go_enter Try.func23, Try.ntmps23
  go_upto_region 0 with (fail)
  apply wp_region_seg0 (w := w) (S := [.al 1000, .al 1000, .q []]) (E := [.al ((fun p => .pointer (some ⟨p, 0, none⟩)), _) 1000, .al ((fun p => .pointer (some ⟨p, 0, none⟩)), _) 1000, .q0 _]) rfl (by kernel_rfl) rfl rfl
  intro th hge hne
  refine Seg.step _ rfl ⟨by rfl, fun U hU => ?_⟩ ?_
  · go_simp; exact vp_alloc rfl rfl rfl
  refine ⟨_, by (simp only [Ent.val]; go_simp <;> exact rfl), ?_⟩
  refine Seg.step _ rfl ⟨by rfl, fun U hU => ?_⟩ ?_
  · go_simp; exact vp_alloc rfl rfl rfl
  refine ⟨_, by (simp only [Ent.val]; go_simp <;> exact rfl), ?_⟩
  refine Seg.step _ rfl (Or.inl ⟨by rfl, fun U hU => vp_quiet (by (go_simp <;> exact rfl))⟩) ⟨_, by (simp only [Ent.val]; go_simp <;> exact rfl), ?_⟩
  refine Seg.stop (fun U1 hU hk => ?_)
  have nb0 := hge 0 _ _ rfl
  have rb0 := (hk 0 _ _ rfl trivial).1.2 (by simp)
  have nb1 := hge 1 _ _ rfl
  have rb1 := (hk 1 _ _ rfl trivial).1.2 (by simp)
  have ne0_1 := hne 0 1 _ _ _ _ rfl rfl (by omega)
  clear hk hge hne
  generalize th (0 + 0) = p0_0 at *
  dsimp only at rb0
  generalize th (0 + 1) = p0_1 at *
  dsimp only at rb1
  have r_p0_0 := rb0
  clear rb0
  have n_p0_0 := nb0
  clear nb0
  have d_p0_0_p0_1 := ne0_1
  clear ne0_1
  have r_p0_1 := rb1
  clear rb1
  have n_p0_1 := nb1
  clear nb1
  have sz1 := hU.size
  have hB : Below w.heap.size w U1 := hU
  clear hU
  have sU := hB.size
  cases k
  · have e : layS (t, [a0, a1, a2, a3, a4, a5, a6, a7, a8, a9, a10, a11]) (false, u, [b0, b1, b2, b3, b4, b5, b6, b7, b8, b9, b10, b11]) = 68 :: deltaV t u [a0, a1, a2, a3, a4, a5, a6, a7, a8, a9, a10, a11] [b0, b1, b2, b3, b4, b5, b6, b7, b8, b9, b10, b11] := rfl
    replace e := hid e
    have z0 := held_cell r_p0_1 0 _ rfl
    have nE := alloc_new U1 (.cells #[.int .u8 68] 5)
    have own := Own.lit .u8 5 U1 [68] w.heap.size sU (by unfold maxLen; simp) #[.int .u8 68] rfl
    have hAE := nE.2.1
    have s0 := held_after hAE r_p0_0
    have s1 := held_after hAE r_p0_1
    have hB1 := hid (bthen hB hAE)
    obtain ⟨W1, hW1⟩ : ∃ X, U1.alloc (.cells #[.int .u8 68] 5) = X := ⟨_, rfl⟩
    rw [hW1] at own s0 s1 hB1
    clear nE hAE hB
    have g0 := held_cell s0 0 _ rfl
    have g1 := held_cell s0 1 _ rfl
    have g2 := held_cell s0 2 _ rfl
    have g3 := held_cell s0 3 _ rfl
    have g4 := held_cell s0 4 _ rfl
    have g5 := held_cell s0 5 _ rfl
    have g6 := held_cell s0 6 _ rfl
    have g7 := held_cell s0 7 _ rfl
    have g8 := held_cell s0 8 _ rfl
    have g9 := held_cell s0 9 _ rfl
    have g10 := held_cell s0 10 _ rfl
    have g11 := held_cell s0 11 _ rfl
    have g12 := held_cell s0 12 _ rfl
    have f0 := held_cell s1 0 _ rfl
    have f1 := held_cell s1 1 _ rfl
    have f2 := held_cell s1 2 _ rfl
    have f3 := held_cell s1 3 _ rfl
    have f4 := held_cell s1 4 _ rfl
    have f5 := held_cell s1 5 _ rfl
    have f6 := held_cell s1 6 _ rfl
    have f7 := held_cell s1 7 _ rfl
    have f8 := held_cell s1 8 _ rfl
    have f9 := held_cell s1 9 _ rfl
    have f10 := held_cell s1 10 _ rfl
    have f11 := held_cell s1 11 _ rfl
    have f12 := held_cell s1 12 _ rfl
    have f13 := held_cell s1 13 _ rfl
    clear s0 s1
    replace own := hid own
    have sW := hid hB1.out.size
    go_wp2_with fail
    refine (delta_any t u a0 a1 a2 a3 a4 a5 a6 a7 a8 a9 a10 a11 b0 b1 b2 b3 b4 b5 b6 b7 b8 b9 b10 b11 _ ht hu ha.out hb.out).mono ?_
    rintro e V ⟨da, dc, rfl, hO, hA⟩
    have hS := hid hO.slf
    have own2 := hid (own.out.below hA)
    have hB2 := hid (bthen hB1.out hA)
    have sz := hid hB2.out.size
    have hla := hid (show [(68 : Int)].length + (deltaV t u [a0, a1, a2, a3, a4, a5, a6, a7, a8, a9, a10, a11] [b0, b1, b2, b3, b4, b5, b6, b7, b8, b9, b10, b11]).length ≤ 140737488355328 / 1 by rw [List.length_singleton]; omega)
    clear hO hA own hB1 hdl hkl g0 g1 g2 g3 g4 g5 g6 g7 g8 g9 g10 g11 g12 f0 f1 f2 f3 f4 f5 f6 f7 f8 f9 f10 f11 f12 f13
    generalize deltaV t u [a0, a1, a2, a3, a4, a5, a6, a7, a8, a9, a10, a11] [b0, b1, b2, b3, b4, b5, b6, b7, b8, b9, b10, b11] = L at *
    go_wp2_with (first | (at_builtin; refine wpList_app _ rfl (.tmp 12) (.tmp 16) 29 rfl w.heap.size 5 .u8 1 bytesOf (.slice (some ⟨U1.heap.size, 0, none⟩) 1 1) [68] rfl own2.out da dc L rfl hS.out.2.2.2.2 hS.out.2.2.2.1 hla.out (by omega) sz.out ?_))
    intro v9 w9 hO9 hG
    obtain ⟨ga, gc, hv9, -⟩ := hO9.sl
    subst hv9
    have hB9 := hid (own2.out.grew hG hB2.out (Nat.le_refl _) sz.out)
    replace hO9 := hid hO9
    clear hG
    go_wp2_with fail
    go_ret
    show ∃ a c, _ ∧ _
    rw [e.out]
    exact ⟨ga, gc, rfl, hO9.out, hB9.out⟩
  · have e : layS (t, [a0, a1, a2, a3, a4, a5, a6, a7, a8, a9, a10, a11]) (true, u, [b0, b1, b2, b3, b4, b5, b6, b7, b8, b9, b10, b11]) = 75 :: keyV u [b0, b1, b2, b3, b4, b5, b6, b7, b8, b9, b10, b11] := rfl
    replace e := hid e
    have z0 := held_cell r_p0_1 0 _ rfl
    have nE := alloc_new U1 (.cells #[.int .u8 75] 5)
    have own := Own.lit .u8 5 U1 [75] w.heap.size sU (by unfold maxLen; simp) #[.int .u8 75] rfl
    have hAE := nE.2.1
    have s0 := held_after hAE r_p0_0
    have s1 := held_after hAE r_p0_1
    have hB1 := hid (bthen hB hAE)
    obtain ⟨W1, hW1⟩ : ∃ X, U1.alloc (.cells #[.int .u8 75] 5) = X := ⟨_, rfl⟩
    rw [hW1] at own s0 s1 hB1
    clear nE hAE hB
    have g0 := held_cell s0 0 _ rfl
    have g1 := held_cell s0 1 _ rfl
    have g2 := held_cell s0 2 _ rfl
    have g3 := held_cell s0 3 _ rfl
    have g4 := held_cell s0 4 _ rfl
    have g5 := held_cell s0 5 _ rfl
    have g6 := held_cell s0 6 _ rfl
    have g7 := held_cell s0 7 _ rfl
    have g8 := held_cell s0 8 _ rfl
    have g9 := held_cell s0 9 _ rfl
    have g10 := held_cell s0 10 _ rfl
    have g11 := held_cell s0 11 _ rfl
    have g12 := held_cell s0 12 _ rfl
    have f0 := held_cell s1 0 _ rfl
    have f1 := held_cell s1 1 _ rfl
    have f2 := held_cell s1 2 _ rfl
    have f3 := held_cell s1 3 _ rfl
    have f4 := held_cell s1 4 _ rfl
    have f5 := held_cell s1 5 _ rfl
    have f6 := held_cell s1 6 _ rfl
    have f7 := held_cell s1 7 _ rfl
    have f8 := held_cell s1 8 _ rfl
    have f9 := held_cell s1 9 _ rfl
    have f10 := held_cell s1 10 _ rfl
    have f11 := held_cell s1 11 _ rfl
    have f12 := held_cell s1 12 _ rfl
    have f13 := held_cell s1 13 _ rfl
    clear s0 s1
    replace own := hid own
    have sW := hid hB1.out.size
    go_wp2_with fail
    refine (key_any u b0 b1 b2 b3 b4 b5 b6 b7 b8 b9 b10 b11 _ hu hb.out).mono ?_
    rintro e V ⟨da, dc, rfl, hO, hA⟩
    have hS := hid hO.slf
    have own2 := hid (own.out.below hA)
    have hB2 := hid (bthen hB1.out hA)
    have sz := hid hB2.out.size
    have hla := hid (show [(75 : Int)].length + (keyV u [b0, b1, b2, b3, b4, b5, b6, b7, b8, b9, b10, b11]).length ≤ 140737488355328 / 1 by rw [List.length_singleton]; omega)
    clear hO hA own hB1 hdl hkl g0 g1 g2 g3 g4 g5 g6 g7 g8 g9 g10 g11 g12 f0 f1 f2 f3 f4 f5 f6 f7 f8 f9 f10 f11 f12 f13
    generalize keyV u [b0, b1, b2, b3, b4, b5, b6, b7, b8, b9, b10, b11] = L at *
    go_wp2_with (first | (at_builtin; refine wpList_app _ rfl (.tmp 7) (.tmp 10) 29 rfl w.heap.size 5 .u8 1 bytesOf (.slice (some ⟨U1.heap.size, 0, none⟩) 1 1) [75] rfl own2.out da dc L rfl hS.out.2.2.2.2 hS.out.2.2.2.1 hla.out (by omega) sz.out ?_))
    intro v9 w9 hO9 hG
    obtain ⟨ga, gc, hv9, -⟩ := hO9.sl
    subst hv9
    have hB9 := hid (own2.out.grew hG hB2.out (Nat.le_refl _) sz.out)
    replace hO9 := hid hO9
    clear hG
    go_wp2_with fail
    go_ret
    show ∃ a c, _ ∧ _
    rw [e.out]
    exact ⟨ga, gc, rfl, hO9.out, hB9.out⟩
set_option maxRecDepth 100000 in
set_option maxHeartbeats 4000000 in
theorem rlay_any (t u a0 a1 a2 a3 a4 a5 a6 a7 a8 a9 a10 a11 b0 b1 b2 b3 b4 b5 b6 b7 b8 b9 b10 b11 : Int) (k : Bool) (w : World) (ht : 0 ≤ t ∧ t ≤ 4294967295) (hu : 0 ≤ u ∧ u ≤ 4294967295) (ha : ∀ x ∈ [a0, a1, a2, a3, a4, a5, a6, a7, a8, a9, a10, a11], -2147483648 ≤ x ∧ x ≤ 2147483647) (hb : ∀ x ∈ [b0, b1, b2, b3, b4, b5, b6, b7, b8, b9, b10, b11], -2147483648 ≤ x ∧ x ≤ 2147483647) : Calls Try.prog 47 #[.agg #[.int .u32 t, .int .i32 a0, .int .i32 a1, .int .i32 a2, .int .i32 a3, .int .i32 a4, .int .i32 a5, .int .i32 a6, .int .i32 a7, .int .i32 a8, .int .i32 a9, .int .i32 a10, .int .i32 a11], .agg #[.bool k, .int .u32 u, .int .i32 b0, .int .i32 b1, .int .i32 b2, .int .i32 b3, .int .i32 b4, .int .i32 b5, .int .i32 b6, .int .i32 b7, .int .i32 b8, .int .i32 b9, .int .i32 b10, .int .i32 b11]] w (BytesOk w (layS (t, [a0, a1, a2, a3, a4, a5, a6, a7, a8, a9, a10, a11]) (k, u, [b0, b1, b2, b3, b4, b5, b6, b7, b8, b9, b10, b11]))) := by
  have hdl := (deltaV_len (t := t) (u := u) (get_bd ha) (get_bd hb)).2
  have hkl := keyV_len u [b0, b1, b2, b3, b4, b5, b6, b7, b8, b9, b10, b11] rfl
  replace ha := hid ha
  replace hb := hid hb
  go_enter Try.func47, Try.ntmps47
  go_upto_region 0 with (fail)
  apply wp_region_seg0 (w := w) (S := [.al 1000, .al 1000, .q []]) (E := [.al ((fun p => .pointer (some ⟨p, 0, none⟩)), _) 1000, .al ((fun p => .pointer (some ⟨p, 0, none⟩)), _) 1000, .q0 _]) rfl (by kernel_rfl) rfl rfl
  intro th hge hne
  refine Seg.step _ rfl ⟨by rfl, fun U hU => ?_⟩ ?_
  · go_simp; exact vp_alloc rfl rfl rfl
  refine ⟨_, by (simp only [Ent.val]; go_simp <;> exact rfl), ?_⟩
  refine Seg.step _ rfl ⟨by rfl, fun U hU => ?_⟩ ?_
  · go_simp; exact vp_alloc rfl rfl rfl
  refine ⟨_, by (simp only [Ent.val]; go_simp <;> exact rfl), ?_⟩
  refine Seg.step _ rfl (Or.inl ⟨by rfl, fun U hU => vp_quiet (by (go_simp <;> exact rfl))⟩) ⟨_, by (simp only [Ent.val]; go_simp <;> exact rfl), ?_⟩
  refine Seg.stop (fun U1 hU hk => ?_)
  have nb0 := hge 0 _ _ rfl
  have rb0 := (hk 0 _ _ rfl trivial).1.2 (by simp)
  have nb1 := hge 1 _ _ rfl
  have rb1 := (hk 1 _ _ rfl trivial).1.2 (by simp)
  have ne0_1 := hne 0 1 _ _ _ _ rfl rfl (by omega)
  clear hk hge hne
  generalize th (0 + 0) = p0_0 at *
  dsimp only at rb0
  generalize th (0 + 1) = p0_1 at *
  dsimp only at rb1
  have r_p0_0 := rb0
  clear rb0
  have n_p0_0 := nb0
  clear nb0
  have d_p0_0_p0_1 := ne0_1
  clear ne0_1
  have r_p0_1 := rb1
  clear rb1
  have n_p0_1 := nb1
  clear nb1
  have sz1 := hU.size
  have hB : Below w.heap.size w U1 := hU
  clear hU
  have sU := hB.size
  cases k
  · have e : layS (t, [a0, a1, a2, a3, a4, a5, a6, a7, a8, a9, a10, a11]) (false, u, [b0, b1, b2, b3, b4, b5, b6, b7, b8, b9, b10, b11]) = 68 :: deltaV t u [a0, a1, a2, a3, a4, a5, a6, a7, a8, a9, a10, a11] [b0, b1, b2, b3, b4, b5, b6, b7, b8, b9, b10, b11] := rfl
    replace e := hid e
    have z0 := held_cell r_p0_1 0 _ rfl
    have nE := alloc_new U1 (.cells #[.int .u8 68] 5)
    have own := Own.lit .u8 5 U1 [68] w.heap.size sU (by unfold maxLen; simp) #[.int .u8 68] rfl
    have hAE := nE.2.1
    have s0 := held_after hAE r_p0_0
    have s1 := held_after hAE r_p0_1
    have hB1 := hid (bthen hB hAE)
    obtain ⟨W1, hW1⟩ : ∃ X, U1.alloc (.cells #[.int .u8 68] 5) = X := ⟨_, rfl⟩
    rw [hW1] at own s0 s1 hB1
    clear nE hAE hB
    have g0 := held_cell s0 0 _ rfl
    have g1 := held_cell s0 1 _ rfl
    have g2 := held_cell s0 2 _ rfl
    have g3 := held_cell s0 3 _ rfl
    have g4 := held_cell s0 4 _ rfl
    have g5 := held_cell s0 5 _ rfl
    have g6 := held_cell s0 6 _ rfl
    have g7 := held_cell s0 7 _ rfl
    have g8 := held_cell s0 8 _ rfl
    have g9 := held_cell s0 9 _ rfl
    have g10 := held_cell s0 10 _ rfl
    have g11 := held_cell s0 11 _ rfl
    have g12 := held_cell s0 12 _ rfl
    have f0 := held_cell s1 0 _ rfl
    have f1 := held_cell s1 1 _ rfl
    have f2 := held_cell s1 2 _ rfl
    have f3 := held_cell s1 3 _ rfl
    have f4 := held_cell s1 4 _ rfl
    have f5 := held_cell s1 5 _ rfl
    have f6 := held_cell s1 6 _ rfl
    have f7 := held_cell s1 7 _ rfl
    have f8 := held_cell s1 8 _ rfl
    have f9 := held_cell s1 9 _ rfl
    have f10 := held_cell s1 10 _ rfl
    have f11 := held_cell s1 11 _ rfl
    have f12 := held_cell s1 12 _ rfl
    have f13 := held_cell s1 13 _ rfl
    clear s0 s1
    replace own := hid own
    have sW := hid hB1.out.size
    go_wp2_with fail
    refine (rdelta_any t u a0 a1 a2 a3 a4 a5 a6 a7 a8 a9 a10 a11 b0 b1 b2 b3 b4 b5 b6 b7 b8 b9 b10 b11 _ ht hu ha.out hb.out).mono ?_
    rintro e V ⟨da, dc, rfl, hO, hA⟩
    have hS := hid hO.slf
    have own2 := hid (own.out.below hA)
    have hB2 := hid (bthen hB1.out hA)
    have sz := hid hB2.out.size
    have hla := hid (show [(68 : Int)].length + (deltaV t u [a0, a1, a2, a3, a4, a5, a6, a7, a8, a9, a10, a11] [b0, b1, b2, b3, b4, b5, b6, b7, b8, b9, b10, b11]).length ≤ 140737488355328 / 1 by rw [List.length_singleton]; omega)
    clear hO hA own hB1 hdl hkl g0 g1 g2 g3 g4 g5 g6 g7 g8 g9 g10 g11 g12 f0 f1 f2 f3 f4 f5 f6 f7 f8 f9 f10 f11 f12 f13
    generalize deltaV t u [a0, a1, a2, a3, a4, a5, a6, a7, a8, a9, a10, a11] [b0, b1, b2, b3, b4, b5, b6, b7, b8, b9, b10, b11] = L at *
    go_wp2_with (first | (at_builtin; refine wpList_app _ rfl (.tmp 12) (.tmp 16) 29 rfl w.heap.size 5 .u8 1 bytesOf (.slice (some ⟨U1.heap.size, 0, none⟩) 1 1) [68] rfl own2.out da dc L rfl hS.out.2.2.2.2 hS.out.2.2.2.1 hla.out (by omega) sz.out ?_))
    intro v9 w9 hO9 hG
    obtain ⟨ga, gc, hv9, -⟩ := hO9.sl
    subst hv9
    have hB9 := hid (own2.out.grew hG hB2.out (Nat.le_refl _) sz.out)
    replace hO9 := hid hO9
    clear hG
    go_wp2_with fail
    go_ret
    show ∃ a c, _ ∧ _
    rw [e.out]
    exact ⟨ga, gc, rfl, hO9.out, hB9.out⟩
  · have e : layS (t, [a0, a1, a2, a3, a4, a5, a6, a7, a8, a9, a10, a11]) (true, u, [b0, b1, b2, b3, b4, b5, b6, b7, b8, b9, b10, b11]) = 75 :: keyV u [b0, b1, b2, b3, b4, b5, b6, b7, b8, b9, b10, b11] := rfl
    replace e := hid e
    have z0 := held_cell r_p0_1 0 _ rfl
    have nE := alloc_new U1 (.cells #[.int .u8 75] 5)
    have own := Own.lit .u8 5 U1 [75] w.heap.size sU (by unfold maxLen; simp) #[.int .u8 75] rfl
    have hAE := nE.2.1
    have s0 := held_after hAE r_p0_0
    have s1 := held_after hAE r_p0_1
    have hB1 := hid (bthen hB hAE)
    obtain ⟨W1, hW1⟩ : ∃ X, U1.alloc (.cells #[.int .u8 75] 5) = X := ⟨_, rfl⟩
    rw [hW1] at own s0 s1 hB1
    clear nE hAE hB
    have g0 := held_cell s0 0 _ rfl
    have g1 := held_cell s0 1 _ rfl
    have g2 := held_cell s0 2 _ rfl
    have g3 := held_cell s0 3 _ rfl
    have g4 := held_cell s0 4 _ rfl
    have g5 := held_cell s0 5 _ rfl
    have g6 := held_cell s0 6 _ rfl
    have g7 := held_cell s0 7 _ rfl
    have g8 := held_cell s0 8 _ rfl
    have g9 := held_cell s0 9 _ rfl
    have g10 := held_cell s0 10 _ rfl
    have g11 := held_cell s0 11 _ rfl
    have g12 := held_cell s0 12 _ rfl
    have f0 := held_cell s1 0 _ rfl
    have f1 := held_cell s1 1 _ rfl
    have f2 := held_cell s1 2 _ rfl
    have f3 := held_cell s1 3 _ rfl
    have f4 := held_cell s1 4 _ rfl
    have f5 := held_cell s1 5 _ rfl
    have f6 := held_cell s1 6 _ rfl
    have f7 := held_cell s1 7 _ rfl
    have f8 := held_cell s1 8 _ rfl
    have f9 := held_cell s1 9 _ rfl
    have f10 := held_cell s1 10 _ rfl
    have f11 := held_cell s1 11 _ rfl
    have f12 := held_cell s1 12 _ rfl
    have f13 := held_cell s1 13 _ rfl
    clear s0 s1
    replace own := hid own
    have sW := hid hB1.out.size
    go_wp2_with fail
    refine (rkey_any u b0 b1 b2 b3 b4 b5 b6 b7 b8 b9 b10 b11 _ hu hb.out).mono ?_
    rintro e V ⟨da, dc, rfl, hO, hA⟩
    have hS := hid hO.slf
    have own2 := hid (own.out.below hA)
    have hB2 := hid (bthen hB1.out hA)
    have sz := hid hB2.out.size
    have hla := hid (show [(75 : Int)].length + (keyV u [b0, b1, b2, b3, b4, b5, b6, b7, b8, b9, b10, b11]).length ≤ 140737488355328 / 1 by rw [List.length_singleton]; omega)
    clear hO hA own hB1 hdl hkl g0 g1 g2 g3 g4 g5 g6 g7 g8 g9 g10 g11 g12 f0 f1 f2 f3 f4 f5 f6 f7 f8 f9 f10 f11 f12 f13
    generalize keyV u [b0, b1, b2, b3, b4, b5, b6, b7, b8, b9, b10, b11] = L at *
    go_wp2_with (first | (at_builtin; refine wpList_app _ rfl (.tmp 7) (.tmp 10) 29 rfl w.heap.size 5 .u8 1 bytesOf (.slice (some ⟨U1.heap.size, 0, none⟩) 1 1) [75] rfl own2.out da dc L rfl hS.out.2.2.2.2 hS.out.2.2.2.1 hla.out (by omega) sz.out ?_))
    intro v9 w9 hO9 hG
    obtain ⟨ga, gc, hv9, -⟩ := hO9.sl
    subst hv9
    have hB9 := hid (own2.out.grew hG hB2.out (Nat.le_refl _) sz.out)
    replace hO9 := hid hO9
    clear hG
    go_wp2_with fail
    go_ret
    show ∃ a c, _ ∧ _
    rw [e.out]
    exact ⟨ga, gc, rfl, hO9.out, hB9.out⟩

end Go.Proofs.Ytkpncailoekjpaa
