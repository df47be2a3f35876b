/- The laws of layer 34: RecBack. -/
import Derived.Test.YtnoifpdjfpbmjaaLaw34
import Derived.Test.YtnoifpdjfpbmjaaRecB
import Derived.Laws.StructEq
import Derived.Deep.DeepCutAuto
namespace Go.Proofs.Ytnoifpdjfpbmjaa
open Go.ChangeShapes Go.WideShapes Go.ChangeAt Go.RowKit
set_option linter.unusedVariables false
set_option linter.unusedSimpArgs false

theorem keyV_bd (t : Int) (v : List Int) : ∀ x ∈ keyV t v, 0 ≤ x ∧ x ≤ 255 := by
  intro x hx
  rcases List.mem_append.1 hx with hx | hx
  · exact bytesL_bd _ _ x hx
  · obtain ⟨y, _, hy⟩ := List.mem_flatMap.1 hx
    exact bytesL_bd _ _ x hy
theorem deltaV_wf {t u : Int} {a b : List Int} (ha : ∀ j, -2147483648 ≤ a.getD j 0 ∧ a.getD j 0 ≤ 2147483647) (hb : ∀ j, -2147483648 ≤ b.getD j 0 ∧ b.getD j 0 ≤ 2147483647) : ∀ x ∈ deltaV t u a b, (Lit.int .u8 x).wf = true := by
  have h10 : (128 : Nat) ^ (9 + 1) = 1180591620717411303424 := by decide
  have hL := late_bd t u
  have hm := mskF_lt a b 12
  have h12 : (2 : Nat) ^ 12 = 4096 := by decide
  intro x hx
  unfold deltaV at hx
  rcases List.mem_append.1 hx with hx | hx
  · rcases List.mem_append.1 hx with hx | hx
    · have := vpF_wf 9 (lateV t u) (by omega) x hx
      exact vwf_byte this.1 this.2
    · have := vpF_wf 9 (mskF a b 12) (by omega) x hx
      exact vwf_byte this.1 this.2
  · exact ints_wf _ (fun n hn => by
      obtain ⟨y, hy, rfl⟩ := List.mem_map.1 hn
      have := (chgF_bd ha hb 12 y hy).2.1
      omega) x hx
theorem own_ge {k : IntKind} {E : TypeId} {W : World} {base g : Nat} {v : Value} {zs : List Int} (h : Own k E W base v zs) (e : v.ownBlock = some g) : base ≤ g := by
  rcases h.2 with ⟨rfl, _⟩ | ⟨g', cap, cur, rfl, hb, _⟩
  · cases e
  · have : g' = g := by simpa [Value.ownBlock] using e
    omega
theorem kp_below {N : Nat} {w w' : World} (h : Below N w w') : Kp N [] w w' := ⟨h.os, h.tape, h.output, h.size, fun k hk _ => h.block k hk⟩
set_option maxRecDepth 100000 in
set_option maxHeartbeats 8000000 in
theorem law_RecBack (a0_0 : Int) (a0_1 : Int) (a0_2 : Int) (a0_3 : Int) (a0_4 : Int) (a0_5 : Int) (a0_6 : Int) (a0_7 : Int) (a0_8 : Int) (a0_9 : Int) (a0_10 : Int) (a0_11 : Int) (a0_12 : Int) (a1_0 : Int) (a1_1 : Int) (a1_2 : Int) (a1_3 : Int) (a1_4 : Int) (a1_5 : Int) (a1_6 : Int) (a1_7 : Int) (a1_8 : Int) (a1_9 : Int) (a1_10 : Int) (a1_11 : Int) (a1_12 : Int) (a2 : Option Addr) (len2 cap2 : Nat) (z2 : List Int) (W : World) (w0_0 : (Lit.int .u32 a0_0).wf = true) (w0_1 : (Lit.int .i32 a0_1).wf = true) (w0_2 : (Lit.int .i32 a0_2).wf = true) (w0_3 : (Lit.int .i32 a0_3).wf = true) (w0_4 : (Lit.int .i32 a0_4).wf = true) (w0_5 : (Lit.int .i32 a0_5).wf = true) (w0_6 : (Lit.int .i32 a0_6).wf = true) (w0_7 : (Lit.int .i32 a0_7).wf = true) (w0_8 : (Lit.int .i32 a0_8).wf = true) (w0_9 : (Lit.int .i32 a0_9).wf = true) (w0_10 : (Lit.int .i32 a0_10).wf = true) (w0_11 : (Lit.int .i32 a0_11).wf = true) (w0_12 : (Lit.int .i32 a0_12).wf = true) (w1_0 : (Lit.int .u32 a1_0).wf = true) (w1_1 : (Lit.int .i32 a1_1).wf = true) (w1_2 : (Lit.int .i32 a1_2).wf = true) (w1_3 : (Lit.int .i32 a1_3).wf = true) (w1_4 : (Lit.int .i32 a1_4).wf = true) (w1_5 : (Lit.int .i32 a1_5).wf = true) (w1_6 : (Lit.int .i32 a1_6).wf = true) (w1_7 : (Lit.int .i32 a1_7).wf = true) (w1_8 : (Lit.int .i32 a1_8).wf = true) (w1_9 : (Lit.int .i32 a1_9).wf = true) (w1_10 : (Lit.int .i32 a1_10).wf = true) (w1_11 : (Lit.int .i32 a1_11).wf = true) (w1_12 : (Lit.int .i32 a1_12).wf = true) (w2 : IsRow .u8 W a2 len2 cap2 z2) :
    Calls Try.prog 5 #[.agg #[.int .u32 a0_0, .int .i32 a0_1, .int .i32 a0_2, .int .i32 a0_3, .int .i32 a0_4, .int .i32 a0_5, .int .i32 a0_6, .int .i32 a0_7, .int .i32 a0_8, .int .i32 a0_9, .int .i32 a0_10, .int .i32 a0_11, .int .i32 a0_12], .agg #[.int .u32 a1_0, .int .i32 a1_1, .int .i32 a1_2, .int .i32 a1_3, .int .i32 a1_4, .int .i32 a1_5, .int .i32 a1_6, .int .i32 a1_7, .int .i32 a1_8, .int .i32 a1_9, .int .i32 a1_10, .int .i32 a1_11, .int .i32 a1_12], .slice a2 len2 cap2] W fun e w' => e = .returned (.bool true) ∧ Below W.heap.size W w' := by
  have t0 := u32_bd w0_0
  have v0 := hid (show ∀ x ∈ [a0_1, a0_2, a0_3, a0_4, a0_5, a0_6, a0_7, a0_8, a0_9, a0_10, a0_11, a0_12], -2147483648 ≤ x ∧ x ≤ 2147483647 from by intro x hx; simp only [List.mem_cons, List.not_mem_nil, or_false] at hx; rcases hx with rfl | rfl | rfl | rfl | rfl | rfl | rfl | rfl | rfl | rfl | rfl | rfl <;> first | exact i32_bd w0_1 | exact i32_bd w0_2 | exact i32_bd w0_3 | exact i32_bd w0_4 | exact i32_bd w0_5 | exact i32_bd w0_6 | exact i32_bd w0_7 | exact i32_bd w0_8 | exact i32_bd w0_9 | exact i32_bd w0_10 | exact i32_bd w0_11 | exact i32_bd w0_12)
  clear w0_0 w0_1 w0_2 w0_3 w0_4 w0_5 w0_6 w0_7 w0_8 w0_9 w0_10 w0_11 w0_12
  have t1 := u32_bd w1_0
  have v1 := hid (show ∀ x ∈ [a1_1, a1_2, a1_3, a1_4, a1_5, a1_6, a1_7, a1_8, a1_9, a1_10, a1_11, a1_12], -2147483648 ≤ x ∧ x ≤ 2147483647 from by intro x hx; simp only [List.mem_cons, List.not_mem_nil, or_false] at hx; rcases hx with rfl | rfl | rfl | rfl | rfl | rfl | rfl | rfl | rfl | rfl | rfl | rfl <;> first | exact i32_bd w1_1 | exact i32_bd w1_2 | exact i32_bd w1_3 | exact i32_bd w1_4 | exact i32_bd w1_5 | exact i32_bd w1_6 | exact i32_bd w1_7 | exact i32_bd w1_8 | exact i32_bd w1_9 | exact i32_bd w1_10 | exact i32_bd w1_11 | exact i32_bd w1_12)
  clear w1_0 w1_1 w1_2 w1_3 w1_4 w1_5 w1_6 w1_7 w1_8 w1_9 w1_10 w1_11 w1_12
  obtain ⟨hs1, hw1⟩ := w2.sl
  generalize z2.take len2 = bs at hs1 hw1
  clear w2
  have hb2 := hid (bytes_bd hw1)
  have hbl := hid hs1.1
  replace hs1 := hid hs1
  replace hw1 := hid hw1
  obtain rfl : bs.length = len2 := hbl.out
  clear hbl
  go_enter Try.func5, Try.ntmps5
  go_upto_region 0 with (fail)
  apply wp_region_seg0 (w := W) (S := [.al 1000, .al 1000, .q []]) (E := [.al ((fun p => .pointer (some ⟨p, 0, none⟩)), _) 1000, .al ((fun p => .pointer (some ⟨p, 0, none⟩)), _) 1000, .q0 _]) rfl (by kernel_rfl) rfl rfl
  intro th hge hne
  refine Seg.step _ rfl ⟨by rfl, fun U hU => ?_⟩ ?_
  · go_simp; exact vp_alloc rfl rfl rfl
  refine ⟨_, by (simp only [Ent.val]; go_simp <;> exact rfl), ?_⟩
  refine Seg.step _ rfl ⟨by rfl, fun U hU => ?_⟩ ?_
  · go_simp; exact vp_alloc rfl rfl rfl
  refine ⟨_, by (simp only [Ent.val]; go_simp <;> exact rfl), ?_⟩
  refine Seg.step _ rfl (Or.inl ⟨by rfl, fun U hU => vp_quiet (by (go_simp <;> exact rfl))⟩) ⟨_, by (simp only [Ent.val]; go_simp <;> exact rfl), ?_⟩
  refine Seg.stop (fun U1 hU hk => ?_)
  have nb0 := hge 0 _ _ rfl
  have rb0 := (hk 0 _ _ rfl trivial).1.2 (by simp)
  have nb1 := hge 1 _ _ rfl
  have rb1 := (hk 1 _ _ rfl trivial).1.2 (by simp)
  have ne0_1 := hne 0 1 _ _ _ _ rfl rfl (by omega)
  clear hk hge hne
  generalize th (0 + 0) = p0_0 at *
  dsimp only at rb0
  generalize th (0 + 1) = p0_1 at *
  dsimp only at rb1
  have r_p0_0 := rb0
  clear rb0
  have n_p0_0 := nb0
  clear nb0
  have d_p0_0_p0_1 := ne0_1
  clear ne0_1
  have r_p0_1 := rb1
  clear rb1
  have n_p0_1 := nb1
  clear nb1
  have sz1 := hU.size
  have hB : Below W.heap.size W U1 := hU
  clear hU
  replace hB := hid hB
  have ra := hid r_p0_0
  have rb := hid r_p0_1
  clear r_p0_0 r_p0_1
  by_cases cb : (500 : Int) < bs.length
  case pos =>
    go_wp2_with fail
    refine (knows34_any _).mono ?_
    rintro e V ⟨rfl, hst⟩
    replace hst := hid (bthen hB.out hst)
    go_wp2_with fail
    go_ret
    exact ⟨rfl, hst.out⟩
  have hkt := takK_key (t := a1_0) (v := [a1_1, a1_2, a1_3, a1_4, a1_5, a1_6, a1_7, a1_8, a1_9, a1_10, a1_11, a1_12]) t1 rfl v1.out bs
  have hdt := takD_delta (t := a0_0) (u := a1_0) (a := [a0_1, a0_2, a0_3, a0_4, a0_5, a0_6, a0_7, a0_8, a0_9, a0_10, a0_11, a0_12]) (b := [a1_1, a1_2, a1_3, a1_4, a1_5, a1_6, a1_7, a1_8, a1_9, a1_10, a1_11, a1_12]) t0 t1 rfl rfl (get_bd v0.out) (get_bd v1.out) bs
  have hkl : (keyV a1_0 [a1_1, a1_2, a1_3, a1_4, a1_5, a1_6, a1_7, a1_8, a1_9, a1_10, a1_11, a1_12]).length = 52 := by unfold keyV; rw [List.length_append, bytesL_len, keyF_len]; rfl
  have hdl := deltaV_len (t := a0_0) (u := a1_0) (get_bd v0.out) (get_bd v1.out)
  have kwf : ∀ x ∈ (keyV a1_0 [a1_1, a1_2, a1_3, a1_4, a1_5, a1_6, a1_7, a1_8, a1_9, a1_10, a1_11, a1_12]) ++ bs, (Lit.int .u8 x).wf = true := fun x hx => by rcases List.mem_append.1 hx with hx | hx; exact vwf_byte (keyV_bd _ _ x hx).1 (keyV_bd _ _ x hx).2; exact hw1.out x hx
  have dwf : ∀ x ∈ (deltaV a0_0 a1_0 [a0_1, a0_2, a0_3, a0_4, a0_5, a0_6, a0_7, a0_8, a0_9, a0_10, a0_11, a0_12] [a1_1, a1_2, a1_3, a1_4, a1_5, a1_6, a1_7, a1_8, a1_9, a1_10, a1_11, a1_12]) ++ bs, (Lit.int .u8 x).wf = true := fun x hx => by rcases List.mem_append.1 hx with hx | hx; exact deltaV_wf (get_bd v0.out) (get_bd v1.out) x hx; exact hw1.out x hx
  have kA := fun U => key_any a1_0 a1_1 a1_2 a1_3 a1_4 a1_5 a1_6 a1_7 a1_8 a1_9 a1_10 a1_11 a1_12 U t1 v1.out
  have kB := fun U => delta_any a0_0 a1_0 a0_1 a0_2 a0_3 a0_4 a0_5 a0_6 a0_7 a0_8 a0_9 a0_10 a0_11 a0_12 a1_1 a1_2 a1_3 a1_4 a1_5 a1_6 a1_7 a1_8 a1_9 a1_10 a1_11 a1_12 U t0 t1 v0.out v1.out
  have kC := fun U a c (h : Sl .u8 U a ((keyV a1_0 [a1_1, a1_2, a1_3, a1_4, a1_5, a1_6, a1_7, a1_8, a1_9, a1_10, a1_11, a1_12]) ++ bs).length c ((keyV a1_0 [a1_1, a1_2, a1_3, a1_4, a1_5, a1_6, a1_7, a1_8, a1_9, a1_10, a1_11, a1_12]) ++ bs)) hl => takeKey_any a _ c _ U h kwf hl
  have kD := fun U a c (h : Sl .u8 U a ((deltaV a0_0 a1_0 [a0_1, a0_2, a0_3, a0_4, a0_5, a0_6, a0_7, a0_8, a0_9, a0_10, a0_11, a0_12] [a1_1, a1_2, a1_3, a1_4, a1_5, a1_6, a1_7, a1_8, a1_9, a1_10, a1_11, a1_12]) ++ bs).length c ((deltaV a0_0 a1_0 [a0_1, a0_2, a0_3, a0_4, a0_5, a0_6, a0_7, a0_8, a0_9, a0_10, a0_11, a0_12] [a1_1, a1_2, a1_3, a1_4, a1_5, a1_6, a1_7, a1_8, a1_9, a1_10, a1_11, a1_12]) ++ bs)) hl => takeDelta_any a0_0 a0_1 a0_2 a0_3 a0_4 a0_5 a0_6 a0_7 a0_8 a0_9 a0_10 a0_11 a0_12 a _ c _ U h dwf hl t0 v0.out
  rw [hkt] at kC
  rw [hdt] at kD
  dsimp only at kC kD
  rw [show recA a1_0 [a1_1, a1_2, a1_3, a1_4, a1_5, a1_6, a1_7, a1_8, a1_9, a1_10, a1_11, a1_12] = .agg #[.int .u32 a1_0, .int .i32 a1_1, .int .i32 a1_2, .int .i32 a1_3, .int .i32 a1_4, .int .i32 a1_5, .int .i32 a1_6, .int .i32 a1_7, .int .i32 a1_8, .int .i32 a1_9, .int .i32 a1_10, .int .i32 a1_11, .int .i32 a1_12] from rfl] at kC kD
  clear hkt hdt kwf dwf
  obtain ⟨LK, hLK⟩ : ∃ l, (keyV a1_0 [a1_1, a1_2, a1_3, a1_4, a1_5, a1_6, a1_7, a1_8, a1_9, a1_10, a1_11, a1_12]) = l := ⟨_, rfl⟩
  obtain ⟨LD, hLD⟩ : ∃ l, (deltaV a0_0 a1_0 [a0_1, a0_2, a0_3, a0_4, a0_5, a0_6, a0_7, a0_8, a0_9, a0_10, a0_11, a0_12] [a1_1, a1_2, a1_3, a1_4, a1_5, a1_6, a1_7, a1_8, a1_9, a1_10, a1_11, a1_12]) = l := ⟨_, rfl⟩
  rw [hLK] at hkl kA kC
  rw [hLD] at hdl kB kD
  clear hLK hLD
  have hKX : (LK ++ bs).length ≤ 1000 := by rw [List.length_append]; omega
  have hDX : (LD ++ bs).length ≤ 1000 := by rw [List.length_append]; omega
  obtain ⟨LX, hLX⟩ : ∃ l, LK ++ bs = l := ⟨_, rfl⟩
  obtain ⟨LY, hLY⟩ : ∃ l, LD ++ bs = l := ⟨_, rfl⟩
  rw [hLX] at hKX kC
  rw [hLY] at hDX kD
  have hne : ((52 : Int) != ((LK.length : Nat) : Int)) = false := by rw [hkl]; rfl
  have hll : LK.length ≤ 100 := by omega
  have hlq : LD.length ≤ 100 := by omega
  replace hLX := hid hLX
  replace hLY := hid hLY
  replace kA := hid kA
  replace kB := hid kB
  replace kC := hid kC
  replace kD := hid kD
  replace hkl := hid hkl
  clear hdl
  have hyl := takD_len a0_0 (a := [a0_1, a0_2, a0_3, a0_4, a0_5, a0_6, a0_7, a0_8, a0_9, a0_10, a0_11, a0_12]) rfl bs
  have hye := takD_e a0_0 [a0_1, a0_2, a0_3, a0_4, a0_5, a0_6, a0_7, a0_8, a0_9, a0_10, a0_11, a0_12] hw1.out
  have hbad := fun h => takD_bad (t := a0_0) (a := [a0_1, a0_2, a0_3, a0_4, a0_5, a0_6, a0_7, a0_8, a0_9, a0_10, a0_11, a0_12]) (bs := bs) h
  have hbk := fun T n v h => takD_back (t := a0_0) (a := [a0_1, a0_2, a0_3, a0_4, a0_5, a0_6, a0_7, a0_8, a0_9, a0_10, a0_11, a0_12]) (bs := bs) t0 rfl (get_bd v0.out) hw1.out (T := T) (n := n) (v := v) h
  have kE := fun U h => takeDelta_any a0_0 a0_1 a0_2 a0_3 a0_4 a0_5 a0_6 a0_7 a0_8 a0_9 a0_10 a0_11 a0_12 a2 bs.length cap2 bs U h hw1.out (by omega) t0 v0.out
  obtain ⟨⟨⟨Ty, ly⟩, ny, ey⟩, qy⟩ : ∃ r, takD a0_0 [a0_1, a0_2, a0_3, a0_4, a0_5, a0_6, a0_7, a0_8, a0_9, a0_10, a0_11, a0_12] bs = r := ⟨_, rfl⟩
  rw [qy] at hyl hye kE hbad
  dsimp only at hyl hye kE hbad
  have hbk2 := fun h : ey = 0 => hbk Ty ny ly (h ▸ qy)
  clear hbk qy
  obtain ⟨y0, y1, y2, y3, y4, y5, y6, y7, y8, y9, y10, y11, rfl⟩ := list12 hyl
  rw [show recA Ty [y0, y1, y2, y3, y4, y5, y6, y7, y8, y9, y10, y11] = .agg #[.int .u32 Ty, .int .i32 y0, .int .i32 y1, .int .i32 y2, .int .i32 y3, .int .i32 y4, .int .i32 y5, .int .i32 y6, .int .i32 y7, .int .i32 y8, .int .i32 y9, .int .i32 y10, .int .i32 y11] from rfl] at kE
  clear hyl
  replace kE := hid kE
  replace hbad := hid hbad
  replace hbk2 := hid hbk2
  have n0w := n_p0_0
  have n1w := n_p0_1
  go_wp2_with fail
  refine (knows34_any _).mono ?_
  rintro e V1 ⟨rfl, hA⟩
  replace ra := hid (held_after hA ra.out)
  replace rb := hid (held_after hA rb.out)
  replace hB := hid (bthen hB.out hA)
  clear hA
  have Y0 := held_cell rb.out 0 _ rfl
  have Y1 := held_cell rb.out 1 _ rfl
  have Y2 := held_cell rb.out 2 _ rfl
  have Y3 := held_cell rb.out 3 _ rfl
  have Y4 := held_cell rb.out 4 _ rfl
  have Y5 := held_cell rb.out 5 _ rfl
  have Y6 := held_cell rb.out 6 _ rfl
  have Y7 := held_cell rb.out 7 _ rfl
  have Y8 := held_cell rb.out 8 _ rfl
  have Y9 := held_cell rb.out 9 _ rfl
  have Y10 := held_cell rb.out 10 _ rfl
  have Y11 := held_cell rb.out 11 _ rfl
  have Y12 := held_cell rb.out 12 _ rfl
  go_wp2_with fail
  refine (kA.out _).mono ?_
  rintro e V2 ⟨ka, kc, rfl, hO1, hA⟩
  replace ra := hid (held_after hA ra.out)
  replace rb := hid (held_after hA rb.out)
  replace hB := hid (bthen hB.out hA)
  clear hA
  have hS1 := hid hO1.slf
  clear hO1 Y0 Y1 Y2 Y3 Y4 Y5 Y6 Y7 Y8 Y9 Y10 Y11 Y12
  have Z0 := held_cell ra.out 0 _ rfl
  have Z1 := held_cell ra.out 1 _ rfl
  have Z2 := held_cell ra.out 2 _ rfl
  have Z3 := held_cell ra.out 3 _ rfl
  have Z4 := held_cell ra.out 4 _ rfl
  have Z5 := held_cell ra.out 5 _ rfl
  have Z6 := held_cell ra.out 6 _ rfl
  have Z7 := held_cell ra.out 7 _ rfl
  have Z8 := held_cell ra.out 8 _ rfl
  have Z9 := held_cell ra.out 9 _ rfl
  have Z10 := held_cell ra.out 10 _ rfl
  have Z11 := held_cell ra.out 11 _ rfl
  have Z12 := held_cell ra.out 12 _ rfl
  have Y0 := held_cell rb.out 0 _ rfl
  have Y1 := held_cell rb.out 1 _ rfl
  have Y2 := held_cell rb.out 2 _ rfl
  have Y3 := held_cell rb.out 3 _ rfl
  have Y4 := held_cell rb.out 4 _ rfl
  have Y5 := held_cell rb.out 5 _ rfl
  have Y6 := held_cell rb.out 6 _ rfl
  have Y7 := held_cell rb.out 7 _ rfl
  have Y8 := held_cell rb.out 8 _ rfl
  have Y9 := held_cell rb.out 9 _ rfl
  have Y10 := held_cell rb.out 10 _ rfl
  have Y11 := held_cell rb.out 11 _ rfl
  have Y12 := held_cell rb.out 12 _ rfl
  go_wp2_with fail
  refine (kB.out _).mono ?_
  rintro e V3 ⟨da, dc, rfl, hO2, hA⟩
  replace hS1 := hid (hS1.out.below hA)
  replace ra := hid (held_after hA ra.out)
  replace rb := hid (held_after hA rb.out)
  replace hB := hid (bthen hB.out hA)
  clear hA
  have hS2 := hid hO2.slf
  clear hO2 Y0 Y1 Y2 Y3 Y4 Y5 Y6 Y7 Y8 Y9 Y10 Y11 Y12 Z0 Z1 Z2 Z3 Z4 Z5 Z6 Z7 Z8 Z9 Z10 Z11 Z12
  have nE := alloc_new V3 (.cells #[] 5)
  have ownE := Own.lit .u8 5 V3 [] V3.heap.size (Nat.le_refl _) (by simp) #[] rfl
  have hAE := nE.2.1
  have slA := hS1.out.below hAE
  clear nE
  have hl1 := hid (show ([] : List Int).length + LK.length ≤ 140737488355328 / 1 by simp; omega)
  have hl2 := hid (show LK.length + bs.length ≤ 140737488355328 / 1 by omega)
  go_wp2_with (first | (at_builtin; refine wpList_app _ rfl (.tmp 32) (.tmp 33) 26 rfl V3.heap.size 5 .u8 1 bytesOf (.slice (some ⟨V3.heap.size, 0, none⟩) 0 0) [] rfl ownE ka kc LK rfl slA.2.2.2.2 slA.2.2.2.1 hl1.out (by omega) hAE.size ?_))
  intro v8 V8 hO8 hG8
  obtain ⟨g8, h8, hv8, -⟩ := hO8.sl
  subst hv8
  try rw [List.nil_append] at hO8
  try rw [List.nil_append]
  have hA8 := ownE.grew hG8 hAE (Nat.le_refl _) hAE.size
  have slB := hs1.out.below (bthen hB.out hA8)
  clear hG8 ownE slA hAE
  go_wp2_with (first | (at_builtin; refine wpList_app _ rfl (.tmp 34) (.tmp 35) 26 rfl V3.heap.size 5 .u8 1 bytesOf (.slice g8 LK.length h8) LK rfl hO8 a2 cap2 bs rfl slB.2.2.2.2 slB.2.2.2.1 hl2.out (by omega) hA8.size ?_))
  intro v9 V9 hO9 hG9
  obtain ⟨g9, h9, hv9, -⟩ := hO9.sl
  subst hv9
  rw [hLX.out] at hO9 ⊢
  have hA := hO8.grew hG9 hA8 (Nat.le_refl _) hA8.size
  have hS9 := hid hO9.slf
  clear hG9 hO8 hO9 slB hA8
  replace hS1 := hid (hS1.out.below hA)
  replace hS2 := hid (hS2.out.below hA)
  replace ra := hid (held_after hA ra.out)
  replace rb := hid (held_after hA rb.out)
  replace hB := hid (bthen hB.out hA)
  clear hA
  go_wp2_with fail
  refine (kC.out _ _ _ hS9.out (by omega)).mono ?_
  rintro e V10 ⟨rfl, hA⟩
  replace hS1 := hid (hS1.out.below hA)
  replace hS2 := hid (hS2.out.below hA)
  replace ra := hid (held_after hA ra.out)
  replace rb := hid (held_after hA rb.out)
  replace hB := hid (bthen hB.out hA)
  clear hA
  clear hS9
  have nw := alloc_new V10 (.cells #[.int .u32 a1_0, .int .i32 a1_1, .int .i32 a1_2, .int .i32 a1_3, .int .i32 a1_4, .int .i32 a1_5, .int .i32 a1_6, .int .i32 a1_7, .int .i32 a1_8, .int .i32 a1_9, .int .i32 a1_10, .int .i32 a1_11, .int .i32 a1_12] 25)
  have hA := nw.2.1
  have rk9 := nw.2.2
  clear nw
  go_upto_region 6 with (fail)
  obtain ⟨V11, hV11⟩ : ∃ X, V10.alloc (.cells #[.int .u32 a1_0, .int .i32 a1_1, .int .i32 a1_2, .int .i32 a1_3, .int .i32 a1_4, .int .i32 a1_5, .int .i32 a1_6, .int .i32 a1_7, .int .i32 a1_8, .int .i32 a1_9, .int .i32 a1_10, .int .i32 a1_11, .int .i32 a1_12] 25) = X := ⟨_, rfl⟩
  rw [hV11] at hA rk9 ⊢
  obtain ⟨qk9, hqk9⟩ : ∃ X, V10.heap.size = X := ⟨_, rfl⟩
  rw [hqk9] at rk9 ⊢
  replace hV11 := hid hV11
  replace hqk9 := hid hqk9
  replace hS1 := hid (hS1.out.below hA)
  replace hS2 := hid (hS2.out.below hA)
  replace ra := hid (held_after hA ra.out)
  replace rb := hid (held_after hA rb.out)
  replace hB := hid (bthen hB.out hA)
  clear hA
  replace rk9 := hid rk9
  go_cut [12, 13, 14] from 41 to 51 (fun s12 s13 s14 wx => ∃ pF : Nat, s12 = .pointer (some ⟨pF, 0, none⟩) ∧ s13 = .int .i64 ((LD.length : Nat) : Int) ∧ s14 = .int .i64 0 ∧ wx.heap[pF]? = some (.cells #[.int .u32 a1_0, .int .i32 a1_1, .int .i32 a1_2, .int .i32 a1_3, .int .i32 a1_4, .int .i32 a1_5, .int .i32 a1_6, .int .i32 a1_7, .int .i32 a1_8, .int .i32 a1_9, .int .i32 a1_10, .int .i32 a1_11, .int .i32 a1_12] 25 (0, 0)) ∧ After V11 wx)
  case first =>
    obtain ⟨QQ, hQQ⟩ : ∃ X, V11.drew = X := ⟨_, rfl⟩
    have raQ := (show V11.drew.heap[p0_0]? = _ from ra.out)
    have sdQ := (show Sl .u8 V11.drew da LD.length dc LD from hS2.out)
    have sb0 := hs1.out.below hB.out
    have sbQ := (show Sl .u8 V11.drew a2 bs.length cap2 bs from sb0)
    clear sb0
    rw [hQQ] at raQ sdQ sbQ
    have hQ := Below.refl QQ.heap.size QQ
    have lra := held_lt raQ
    have hl3 := hid (show ([] : List Int).length + LD.length ≤ 140737488355328 / 1 by simp; omega)
    have hl4 := hid (show LD.length + bs.length ≤ 140737488355328 / 1 by omega)
    refine wp_region_K (N := QQ.heap.size) (X := []) (by kernel_rfl) ?_
    rw [hQQ]
    refine wpAnyK_take 0 rfl (by kernel_rfl) (by kernel_rfl) (by kernel_rfl) (fun _ _ _ _ h => h) ⟨_, Or.inl ⟨by rfl, fun w2 hb => by (have g0 := hb.cellB (p := ⟨p0_0, 0, none⟩) (by show p0_0 < _; exact lra) (by simp) (held_cell raQ 0 _ rfl); have g1 := hb.cellB (p := ⟨p0_0, 1, none⟩) (by show p0_0 < _; exact lra) (by simp) (held_cell raQ 1 _ rfl); have g2 := hb.cellB (p := ⟨p0_0, 2, none⟩) (by show p0_0 < _; exact lra) (by simp) (held_cell raQ 2 _ rfl); have g3 := hb.cellB (p := ⟨p0_0, 3, none⟩) (by show p0_0 < _; exact lra) (by simp) (held_cell raQ 3 _ rfl); have g4 := hb.cellB (p := ⟨p0_0, 4, none⟩) (by show p0_0 < _; exact lra) (by simp) (held_cell raQ 4 _ rfl); have g5 := hb.cellB (p := ⟨p0_0, 5, none⟩) (by show p0_0 < _; exact lra) (by simp) (held_cell raQ 5 _ rfl); have g6 := hb.cellB (p := ⟨p0_0, 6, none⟩) (by show p0_0 < _; exact lra) (by simp) (held_cell raQ 6 _ rfl); have g7 := hb.cellB (p := ⟨p0_0, 7, none⟩) (by show p0_0 < _; exact lra) (by simp) (held_cell raQ 7 _ rfl); have g8 := hb.cellB (p := ⟨p0_0, 8, none⟩) (by show p0_0 < _; exact lra) (by simp) (held_cell raQ 8 _ rfl); have g9 := hb.cellB (p := ⟨p0_0, 9, none⟩) (by show p0_0 < _; exact lra) (by simp) (held_cell raQ 9 _ rfl); have g10 := hb.cellB (p := ⟨p0_0, 10, none⟩) (by show p0_0 < _; exact lra) (by simp) (held_cell raQ 10 _ rfl); have g11 := hb.cellB (p := ⟨p0_0, 11, none⟩) (by show p0_0 < _; exact lra) (by simp) (held_cell raQ 11 _ rfl); have g12 := hb.cellB (p := ⟨p0_0, 12, none⟩) (by show p0_0 < _; exact lra) (by simp) (held_cell raQ 12 _ rfl); go_simp; try with_reducible rfl)⟩, _, by (go_simp; try rfl), ?_⟩
    refine wpAnyK_take 2 rfl (by kernel_rfl) (by kernel_rfl) (by kernel_rfl) (fun _ _ _ _ h => h) ⟨_, Or.inl ⟨by rfl, fun w2 hb => by (go_simp; try with_reducible rfl)⟩, _, by (go_simp; try rfl), ?_⟩
    refine wpAnyK_take 4 rfl (by kernel_rfl) (by kernel_rfl) (by kernel_rfl) (fun _ _ _ _ h => h) ⟨_, Or.inl ⟨by rfl, fun w2 hb => by (go_simp; try with_reducible rfl)⟩, _, by (go_simp; try rfl), ?_⟩
    refine wpAnyK_two 1 11 rfl rfl (by kernel_rfl) (by rfl) (by rfl) (fun K hK => ?_) (fun K hK => ?_)
    · go_simp
      have nw := alloc_new QQ (.cells #[] 5)
      have own := Own.lit .u8 5 QQ [] QQ.heap.size hQ.size (by simp) #[] rfl
      have kp := Kp.of (X := []) nw.2.1 hQ.size
      replace hQ := bthen hQ nw.2.1
      clear nw
      obtain ⟨Y1, hY1⟩ : ∃ X, QQ.alloc (.cells #[] 5) = X := ⟨_, rfl⟩
      rw [hY1] at own kp hQ ⊢
      clear hY1
      refine hK _ _ ⟨kp, ?_⟩
      clear hK
      clear kp
      refine wpAnyK_two 3 11 rfl rfl (by kernel_rfl) (by rfl) (by rfl) (fun K hK => ?_) (fun K hK => ?_)
      · have sl9 := sdQ.below hQ
        refine wp_app _ (.tmp 43) (.tmp 44) 26 rfl QQ.heap.size 5 .u8 1 bytesOf (.slice (some ⟨QQ.heap.size, 0, none⟩) 0 0) [] rfl own da dc LD rfl sl9.2.2.2.2 sl9.2.2.2.1 hl3.out (by omega) hQ.size ?_
        intro v9 Y2 hO9 hG
        obtain ⟨g3, h3, hv9, -⟩ := hO9.sl
        subst hv9
        try rw [List.nil_append] at hO9
        try rw [List.nil_append]
        have kp : Kp QQ.heap.size [] Y1 Y2 := kp_below ((Below.refl QQ.heap.size Y1).grown hG hQ.size (fun k e => own_ge own e))
        replace hQ := own.grew hG hQ (Nat.le_refl _) hQ.size
        clear own hG sl9
        have own := hO9
        clear hO9
        refine hK _ _ ⟨kp, ?_⟩
        clear hK
        clear kp
        refine wpAnyK_two 5 11 rfl rfl (by kernel_rfl) (by rfl) (by rfl) (fun K hK => ?_) (fun K hK => ?_)
        · have sl9 := sbQ.below hQ
          refine wp_app _ (.tmp 45) (.tmp 46) 26 rfl QQ.heap.size 5 .u8 1 bytesOf (.slice g3 LD.length h3) LD rfl own a2 cap2 bs rfl sl9.2.2.2.2 sl9.2.2.2.1 hl4.out (by omega) hQ.size ?_
          intro v9 Y3 hO9 hG
          obtain ⟨g5, h5, hv9, -⟩ := hO9.sl
          subst hv9
          rw [hLY.out] at hO9 ⊢
          have kp : Kp QQ.heap.size [] Y2 Y3 := kp_below ((Below.refl QQ.heap.size Y2).grown hG hQ.size (fun k e => own_ge own e))
          replace hQ := own.grew hG hQ (Nat.le_refl _) hQ.size
          clear own hG sl9
          have own := hO9
          clear hO9
          refine hK _ _ ⟨kp, ?_⟩
          clear hK
          clear kp
          refine wpAnyK_two 6 11 rfl rfl (by kernel_rfl) (by rfl) (by rfl) (fun K hK => ?_) (fun K hK => ?_)
          · go_simp
            refine (kD.out _ _ _ own.slf (by omega)).mono ?_
            rintro e Y4 ⟨rfl, hA⟩
            have kp := Kp.of (X := []) hA hQ.size
            replace hQ := bthen hQ hA
            clear own hA
            go_simp
            refine hK _ _ ⟨kp, ?_⟩
            clear hK
            clear kp
            refine wpAnyK_take 7 rfl (by kernel_rfl) (by kernel_rfl) (by kernel_rfl) (fun _ _ _ _ h => h) ⟨_, Or.inl ⟨by rfl, fun w2 hb => by (go_simp; try with_reducible rfl)⟩, _, by (go_simp; try rfl), ?_⟩
            refine wpAnyK_take 8 rfl (by kernel_rfl) (by kernel_rfl) (by kernel_rfl) (fun _ _ _ _ h => h) ⟨_, Or.inl ⟨by rfl, fun w2 hb => by (go_simp; try with_reducible rfl)⟩, _, by (go_simp; try rfl), ?_⟩
            refine wpAnyK_take 9 rfl (by kernel_rfl) (by kernel_rfl) (by kernel_rfl) (fun _ _ _ _ h => h) ⟨_, Or.inl ⟨by rfl, fun w2 hb => by (go_simp; try with_reducible rfl)⟩, _, by (go_simp; try rfl), ?_⟩
            refine wpAnyK_take 10 rfl (by kernel_rfl) (by kernel_rfl) (by kernel_rfl) (fun _ _ _ _ h => h) ⟨_, Or.inl ⟨by rfl, fun w2 hb => by (go_simp; try with_reducible rfl)⟩, _, by (go_simp; try rfl), ?_⟩
            refine wpAnyK_only 11 rfl (by kernel_rfl) (by rfl) (fun K hK => ?_)
            go_simp
            have nw := alloc_new Y4 (.cells #[.int .u32 0, .int .i32 0, .int .i32 0, .int .i32 0, .int .i32 0, .int .i32 0, .int .i32 0, .int .i32 0, .int .i32 0, .int .i32 0, .int .i32 0, .int .i32 0, .int .i32 0] 25)
            have kp := Kp.of (X := []) nw.2.1 hQ.size
            have hF0 := hQ.size
            replace hQ := bthen hQ nw.2.1
            have rF := nw.2.2
            clear nw
            obtain ⟨Y5, hY5⟩ : ∃ X, Y4.alloc (.cells #[.int .u32 0, .int .i32 0, .int .i32 0, .int .i32 0, .int .i32 0, .int .i32 0, .int .i32 0, .int .i32 0, .int .i32 0, .int .i32 0, .int .i32 0, .int .i32 0, .int .i32 0] 25) = X := ⟨_, rfl⟩
            rw [hY5] at rF kp hQ ⊢
            clear hY5
            refine hK _ _ ⟨kp, ?_⟩
            clear hK
            clear kp
            refine wpAnyK_only 12 rfl (by kernel_rfl) (by rfl) (fun K hK => ?_)
            have y100 := held_cell rF 0 _ rfl
            have y101 := held_cell rF 1 _ rfl
            have y102 := held_cell rF 2 _ rfl
            have y103 := held_cell rF 3 _ rfl
            have y104 := held_cell rF 4 _ rfl
            have y105 := held_cell rF 5 _ rfl
            have y106 := held_cell rF 6 _ rfl
            have y107 := held_cell rF 7 _ rfl
            have y108 := held_cell rF 8 _ rfl
            have y109 := held_cell rF 9 _ rfl
            have y110 := held_cell rF 10 _ rfl
            have y111 := held_cell rF 11 _ rfl
            have y112 := held_cell rF 12 _ rfl
            have f100 := held_free rF 0
            have f101 := held_free rF 1
            have f102 := held_free rF 2
            have f103 := held_free rF 3
            have f104 := held_free rF 4
            have f105 := held_free rF 5
            have f106 := held_free rF 6
            have f107 := held_free rF 7
            have f108 := held_free rF 8
            have f109 := held_free rF 9
            have f110 := held_free rF 10
            have f111 := held_free rF 11
            have f112 := held_free rF 12
            obtain ⟨W9, hW9, ya, yO⟩ := st13 rF (.int .u32 a1_0) (.int .i32 a1_1) (.int .i32 a1_2) (.int .i32 a1_3) (.int .i32 a1_4) (.int .i32 a1_5) (.int .i32 a1_6) (.int .i32 a1_7) (.int .i32 a1_8) (.int .i32 a1_9) (.int .i32 a1_10) (.int .i32 a1_11) (.int .i32 a1_12)
            have kp : Kp QQ.heap.size [] Y5 W9 := kp_below (belowS (Below.refl QQ.heap.size Y5) yO hF0)
            replace hQ := belowS hQ yO hF0
            clear rF yO
            go_simp
            refine hK _ _ ⟨kp, ?_⟩
            clear hK
            clear kp hW9 y100 y101 y102 y103 y104 y105 y106 y107 y108 y109 y110 y111 y112 f100 f101 f102 f103 f104 f105 f106 f107 f108 f109 f110 f111 f112
            refine wpAnyK_take 13 rfl (by kernel_rfl) (by kernel_rfl) (by kernel_rfl) (fun _ _ _ _ h => h) ⟨_, Or.inl ⟨by rfl, fun w2 hb => by (go_simp; try with_reducible rfl)⟩, _, by (go_simp; try rfl), ?_⟩
            refine wpAnyK_take 14 rfl (by kernel_rfl) (by kernel_rfl) (by kernel_rfl) (fun _ _ _ _ h => h) ⟨_, Or.inl ⟨by rfl, fun w2 hb => by (go_simp; try with_reducible rfl)⟩, _, by (go_simp; try rfl), ?_⟩
            refine wpAnyK_done (by kernel_rfl) ?_ _
            have hA : After V11 W9 := bthen (Below.refl V11.heap.size V11).drew (show Below V11.drew.heap.size V11.drew W9 from by rw [hQQ]; exact hQ)
            clear hQ raQ sdQ sbQ hl3 hl4 hQQ
            go_wp2_with fail
            go_meet
            exact ⟨_, rfl, rfl, rfl, ya, hA⟩
          · go_simp
            have nw := alloc_new Y3 (.cells #[.int .u32 0, .int .i32 0, .int .i32 0, .int .i32 0, .int .i32 0, .int .i32 0, .int .i32 0, .int .i32 0, .int .i32 0, .int .i32 0, .int .i32 0, .int .i32 0, .int .i32 0] 25)
            have kp := Kp.of (X := []) nw.2.1 hQ.size
            have hF0 := hQ.size
            replace hQ := bthen hQ nw.2.1
            replace own := own.below nw.2.1
            have rF := nw.2.2
            clear nw
            obtain ⟨Y4, hY4⟩ : ∃ X, Y3.alloc (.cells #[.int .u32 0, .int .i32 0, .int .i32 0, .int .i32 0, .int .i32 0, .int .i32 0, .int .i32 0, .int .i32 0, .int .i32 0, .int .i32 0, .int .i32 0, .int .i32 0, .int .i32 0] 25) = X := ⟨_, rfl⟩
            rw [hY4] at rF kp hQ own ⊢
            clear hY4
            refine hK _ _ ⟨kp, ?_⟩
            clear hK
            clear kp
            refine wpAnyK_only 6 rfl (by kernel_rfl) (by rfl) (fun K hK => ?_)
            go_simp
            refine (kD.out _ _ _ own.slf (by omega)).mono ?_
            rintro e Y5 ⟨rfl, hA⟩
            have kp := Kp.of (X := []) hA hQ.size
            replace hQ := bthen hQ hA
            replace rF := held_after hA rF
            clear own hA
            go_simp
            refine hK _ _ ⟨kp, ?_⟩
            clear hK
            clear kp
            refine wpAnyK_take 7 rfl (by kernel_rfl) (by kernel_rfl) (by kernel_rfl) (fun _ _ _ _ h => h) ⟨_, Or.inl ⟨by rfl, fun w2 hb => by (go_simp; try with_reducible rfl)⟩, _, by (go_simp; try rfl), ?_⟩
            refine wpAnyK_take 8 rfl (by kernel_rfl) (by kernel_rfl) (by kernel_rfl) (fun _ _ _ _ h => h) ⟨_, Or.inl ⟨by rfl, fun w2 hb => by (go_simp; try with_reducible rfl)⟩, _, by (go_simp; try rfl), ?_⟩
            refine wpAnyK_take 9 rfl (by kernel_rfl) (by kernel_rfl) (by kernel_rfl) (fun _ _ _ _ h => h) ⟨_, Or.inl ⟨by rfl, fun w2 hb => by (go_simp; try with_reducible rfl)⟩, _, by (go_simp; try rfl), ?_⟩
            refine wpAnyK_take 10 rfl (by kernel_rfl) (by kernel_rfl) (by kernel_rfl) (fun _ _ _ _ h => h) ⟨_, Or.inl ⟨by rfl, fun w2 hb => by (go_simp; try with_reducible rfl)⟩, _, by (go_simp; try rfl), ?_⟩
            refine wpAnyK_only 12 rfl (by kernel_rfl) (by rfl) (fun K hK => ?_)
            have y100 := held_cell rF 0 _ rfl
            have y101 := held_cell rF 1 _ rfl
            have y102 := held_cell rF 2 _ rfl
            have y103 := held_cell rF 3 _ rfl
            have y104 := held_cell rF 4 _ rfl
            have y105 := held_cell rF 5 _ rfl
            have y106 := held_cell rF 6 _ rfl
            have y107 := held_cell rF 7 _ rfl
            have y108 := held_cell rF 8 _ rfl
            have y109 := held_cell rF 9 _ rfl
            have y110 := held_cell rF 10 _ rfl
            have y111 := held_cell rF 11 _ rfl
            have y112 := held_cell rF 12 _ rfl
            have f100 := held_free rF 0
            have f101 := held_free rF 1
            have f102 := held_free rF 2
            have f103 := held_free rF 3
            have f104 := held_free rF 4
            have f105 := held_free rF 5
            have f106 := held_free rF 6
            have f107 := held_free rF 7
            have f108 := held_free rF 8
            have f109 := held_free rF 9
            have f110 := held_free rF 10
            have f111 := held_free rF 11
            have f112 := held_free rF 12
            obtain ⟨W9, hW9, ya, yO⟩ := st13 rF (.int .u32 a1_0) (.int .i32 a1_1) (.int .i32 a1_2) (.int .i32 a1_3) (.int .i32 a1_4) (.int .i32 a1_5) (.int .i32 a1_6) (.int .i32 a1_7) (.int .i32 a1_8) (.int .i32 a1_9) (.int .i32 a1_10) (.int .i32 a1_11) (.int .i32 a1_12)
            have kp : Kp QQ.heap.size [] Y5 W9 := kp_below (belowS (Below.refl QQ.heap.size Y5) yO hF0)
            replace hQ := belowS hQ yO hF0
            clear rF yO
            go_simp
            refine hK _ _ ⟨kp, ?_⟩
            clear hK
            clear kp hW9 y100 y101 y102 y103 y104 y105 y106 y107 y108 y109 y110 y111 y112 f100 f101 f102 f103 f104 f105 f106 f107 f108 f109 f110 f111 f112
            refine wpAnyK_take 13 rfl (by kernel_rfl) (by kernel_rfl) (by kernel_rfl) (fun _ _ _ _ h => h) ⟨_, Or.inl ⟨by rfl, fun w2 hb => by (go_simp; try with_reducible rfl)⟩, _, by (go_simp; try rfl), ?_⟩
            refine wpAnyK_take 14 rfl (by kernel_rfl) (by kernel_rfl) (by kernel_rfl) (fun _ _ _ _ h => h) ⟨_, Or.inl ⟨by rfl, fun w2 hb => by (go_simp; try with_reducible rfl)⟩, _, by (go_simp; try rfl), ?_⟩
            refine wpAnyK_done (by kernel_rfl) ?_ _
            have hA : After V11 W9 := bthen (Below.refl V11.heap.size V11).drew (show Below V11.drew.heap.size V11.drew W9 from by rw [hQQ]; exact hQ)
            clear hQ raQ sdQ sbQ hl3 hl4 hQQ
            go_wp2_with fail
            go_meet
            exact ⟨_, rfl, rfl, rfl, ya, hA⟩
        · go_simp
          have nw := alloc_new Y2 (.cells #[.int .u32 0, .int .i32 0, .int .i32 0, .int .i32 0, .int .i32 0, .int .i32 0, .int .i32 0, .int .i32 0, .int .i32 0, .int .i32 0, .int .i32 0, .int .i32 0, .int .i32 0] 25)
          have kp := Kp.of (X := []) nw.2.1 hQ.size
          have hF0 := hQ.size
          replace hQ := bthen hQ nw.2.1
          replace own := own.below nw.2.1
          have rF := nw.2.2
          clear nw
          obtain ⟨Y3, hY3⟩ : ∃ X, Y2.alloc (.cells #[.int .u32 0, .int .i32 0, .int .i32 0, .int .i32 0, .int .i32 0, .int .i32 0, .int .i32 0, .int .i32 0, .int .i32 0, .int .i32 0, .int .i32 0, .int .i32 0, .int .i32 0] 25) = X := ⟨_, rfl⟩
          rw [hY3] at rF kp hQ own ⊢
          clear hY3
          refine hK _ _ ⟨kp, ?_⟩
          clear hK
          clear kp
          refine wpAnyK_only 5 rfl (by kernel_rfl) (by rfl) (fun K hK => ?_)
          have sl9 := sbQ.below hQ
          refine wp_app _ (.tmp 45) (.tmp 46) 26 rfl QQ.heap.size 5 .u8 1 bytesOf (.slice g3 LD.length h3) LD rfl own a2 cap2 bs rfl sl9.2.2.2.2 sl9.2.2.2.1 hl4.out (by omega) hQ.size ?_
          intro v9 Y4 hO9 hG
          obtain ⟨g5, h5, hv9, -⟩ := hO9.sl
          subst hv9
          rw [hLY.out] at hO9 ⊢
          have kp : Kp QQ.heap.size [] Y3 Y4 := kp_below ((Below.refl QQ.heap.size Y3).grown hG hQ.size (fun k e => own_ge own e))
          replace hQ := own.grew hG hQ (Nat.le_refl _) hQ.size
          replace rF := held_grown rF hG (own_ne own rF (by decide))
          clear own hG sl9
          have own := hO9
          clear hO9
          refine hK _ _ ⟨kp, ?_⟩
          clear hK
          clear kp
          refine wpAnyK_only 6 rfl (by kernel_rfl) (by rfl) (fun K hK => ?_)
          go_simp
          refine (kD.out _ _ _ own.slf (by omega)).mono ?_
          rintro e Y5 ⟨rfl, hA⟩
          have kp := Kp.of (X := []) hA hQ.size
          replace hQ := bthen hQ hA
          replace rF := held_after hA rF
          clear own hA
          go_simp
          refine hK _ _ ⟨kp, ?_⟩
          clear hK
          clear kp
          refine wpAnyK_take 7 rfl (by kernel_rfl) (by kernel_rfl) (by kernel_rfl) (fun _ _ _ _ h => h) ⟨_, Or.inl ⟨by rfl, fun w2 hb => by (go_simp; try with_reducible rfl)⟩, _, by (go_simp; try rfl), ?_⟩
          refine wpAnyK_take 8 rfl (by kernel_rfl) (by kernel_rfl) (by kernel_rfl) (fun _ _ _ _ h => h) ⟨_, Or.inl ⟨by rfl, fun w2 hb => by (go_simp; try with_reducible rfl)⟩, _, by (go_simp; try rfl), ?_⟩
          refine wpAnyK_take 9 rfl (by kernel_rfl) (by kernel_rfl) (by kernel_rfl) (fun _ _ _ _ h => h) ⟨_, Or.inl ⟨by rfl, fun w2 hb => by (go_simp; try with_reducible rfl)⟩, _, by (go_simp; try rfl), ?_⟩
          refine wpAnyK_take 10 rfl (by kernel_rfl) (by kernel_rfl) (by kernel_rfl) (fun _ _ _ _ h => h) ⟨_, Or.inl ⟨by rfl, fun w2 hb => by (go_simp; try with_reducible rfl)⟩, _, by (go_simp; try rfl), ?_⟩
          refine wpAnyK_only 12 rfl (by kernel_rfl) (by rfl) (fun K hK => ?_)
          have y100 := held_cell rF 0 _ rfl
          have y101 := held_cell rF 1 _ rfl
          have y102 := held_cell rF 2 _ rfl
          have y103 := held_cell rF 3 _ rfl
          have y104 := held_cell rF 4 _ rfl
          have y105 := held_cell rF 5 _ rfl
          have y106 := held_cell rF 6 _ rfl
          have y107 := held_cell rF 7 _ rfl
          have y108 := held_cell rF 8 _ rfl
          have y109 := held_cell rF 9 _ rfl
          have y110 := held_cell rF 10 _ rfl
          have y111 := held_cell rF 11 _ rfl
          have y112 := held_cell rF 12 _ rfl
          have f100 := held_free rF 0
          have f101 := held_free rF 1
          have f102 := held_free rF 2
          have f103 := held_free rF 3
          have f104 := held_free rF 4
          have f105 := held_free rF 5
          have f106 := held_free rF 6
          have f107 := held_free rF 7
          have f108 := held_free rF 8
          have f109 := held_free rF 9
          have f110 := held_free rF 10
          have f111 := held_free rF 11
          have f112 := held_free rF 12
          obtain ⟨W9, hW9, ya, yO⟩ := st13 rF (.int .u32 a1_0) (.int .i32 a1_1) (.int .i32 a1_2) (.int .i32 a1_3) (.int .i32 a1_4) (.int .i32 a1_5) (.int .i32 a1_6) (.int .i32 a1_7) (.int .i32 a1_8) (.int .i32 a1_9) (.int .i32 a1_10) (.int .i32 a1_11) (.int .i32 a1_12)
          have kp : Kp QQ.heap.size [] Y5 W9 := kp_below (belowS (Below.refl QQ.heap.size Y5) yO hF0)
          replace hQ := belowS hQ yO hF0
          clear rF yO
          go_simp
          refine hK _ _ ⟨kp, ?_⟩
          clear hK
          clear kp hW9 y100 y101 y102 y103 y104 y105 y106 y107 y108 y109 y110 y111 y112 f100 f101 f102 f103 f104 f105 f106 f107 f108 f109 f110 f111 f112
          refine wpAnyK_take 13 rfl (by kernel_rfl) (by kernel_rfl) (by kernel_rfl) (fun _ _ _ _ h => h) ⟨_, Or.inl ⟨by rfl, fun w2 hb => by (go_simp; try with_reducible rfl)⟩, _, by (go_simp; try rfl), ?_⟩
          refine wpAnyK_take 14 rfl (by kernel_rfl) (by kernel_rfl) (by kernel_rfl) (fun _ _ _ _ h => h) ⟨_, Or.inl ⟨by rfl, fun w2 hb => by (go_simp; try with_reducible rfl)⟩, _, by (go_simp; try rfl), ?_⟩
          refine wpAnyK_done (by kernel_rfl) ?_ _
          have hA : After V11 W9 := bthen (Below.refl V11.heap.size V11).drew (show Below V11.drew.heap.size V11.drew W9 from by rw [hQQ]; exact hQ)
          clear hQ raQ sdQ sbQ hl3 hl4 hQQ
          go_wp2_with fail
          go_meet
          exact ⟨_, rfl, rfl, rfl, ya, hA⟩
      · go_simp
        have nw := alloc_new Y1 (.cells #[.int .u32 0, .int .i32 0, .int .i32 0, .int .i32 0, .int .i32 0, .int .i32 0, .int .i32 0, .int .i32 0, .int .i32 0, .int .i32 0, .int .i32 0, .int .i32 0, .int .i32 0] 25)
        have kp := Kp.of (X := []) nw.2.1 hQ.size
        have hF0 := hQ.size
        replace hQ := bthen hQ nw.2.1
        replace own := own.below nw.2.1
        have rF := nw.2.2
        clear nw
        obtain ⟨Y2, hY2⟩ : ∃ X, Y1.alloc (.cells #[.int .u32 0, .int .i32 0, .int .i32 0, .int .i32 0, .int .i32 0, .int .i32 0, .int .i32 0, .int .i32 0, .int .i32 0, .int .i32 0, .int .i32 0, .int .i32 0, .int .i32 0] 25) = X := ⟨_, rfl⟩
        rw [hY2] at rF kp hQ own ⊢
        clear hY2
        refine hK _ _ ⟨kp, ?_⟩
        clear hK
        clear kp
        refine wpAnyK_only 3 rfl (by kernel_rfl) (by rfl) (fun K hK => ?_)
        have sl9 := sdQ.below hQ
        refine wp_app _ (.tmp 43) (.tmp 44) 26 rfl QQ.heap.size 5 .u8 1 bytesOf (.slice (some ⟨QQ.heap.size, 0, none⟩) 0 0) [] rfl own da dc LD rfl sl9.2.2.2.2 sl9.2.2.2.1 hl3.out (by omega) hQ.size ?_
        intro v9 Y3 hO9 hG
        obtain ⟨g3, h3, hv9, -⟩ := hO9.sl
        subst hv9
        try rw [List.nil_append] at hO9
        try rw [List.nil_append]
        have kp : Kp QQ.heap.size [] Y2 Y3 := kp_below ((Below.refl QQ.heap.size Y2).grown hG hQ.size (fun k e => own_ge own e))
        replace hQ := own.grew hG hQ (Nat.le_refl _) hQ.size
        replace rF := held_grown rF hG (own_ne own rF (by decide))
        clear own hG sl9
        have own := hO9
        clear hO9
        refine hK _ _ ⟨kp, ?_⟩
        clear hK
        clear kp
        refine wpAnyK_only 5 rfl (by kernel_rfl) (by rfl) (fun K hK => ?_)
        have sl9 := sbQ.below hQ
        refine wp_app _ (.tmp 45) (.tmp 46) 26 rfl QQ.heap.size 5 .u8 1 bytesOf (.slice g3 LD.length h3) LD rfl own a2 cap2 bs rfl sl9.2.2.2.2 sl9.2.2.2.1 hl4.out (by omega) hQ.size ?_
        intro v9 Y4 hO9 hG
        obtain ⟨g5, h5, hv9, -⟩ := hO9.sl
        subst hv9
        rw [hLY.out] at hO9 ⊢
        have kp : Kp QQ.heap.size [] Y3 Y4 := kp_below ((Below.refl QQ.heap.size Y3).grown hG hQ.size (fun k e => own_ge own e))
        replace hQ := own.grew hG hQ (Nat.le_refl _) hQ.size
        replace rF := held_grown rF hG (own_ne own rF (by decide))
        clear own hG sl9
        have own := hO9
        clear hO9
        refine hK _ _ ⟨kp, ?_⟩
        clear hK
        clear kp
        refine wpAnyK_only 6 rfl (by kernel_rfl) (by rfl) (fun K hK => ?_)
        go_simp
        refine (kD.out _ _ _ own.slf (by omega)).mono ?_
        rintro e Y5 ⟨rfl, hA⟩
        have kp := Kp.of (X := []) hA hQ.size
        replace hQ := bthen hQ hA
        replace rF := held_after hA rF
        clear own hA
        go_simp
        refine hK _ _ ⟨kp, ?_⟩
        clear hK
        clear kp
        refine wpAnyK_take 7 rfl (by kernel_rfl) (by kernel_rfl) (by kernel_rfl) (fun _ _ _ _ h => h) ⟨_, Or.inl ⟨by rfl, fun w2 hb => by (go_simp; try with_reducible rfl)⟩, _, by (go_simp; try rfl), ?_⟩
        refine wpAnyK_take 8 rfl (by kernel_rfl) (by kernel_rfl) (by kernel_rfl) (fun _ _ _ _ h => h) ⟨_, Or.inl ⟨by rfl, fun w2 hb => by (go_simp; try with_reducible rfl)⟩, _, by (go_simp; try rfl), ?_⟩
        refine wpAnyK_take 9 rfl (by kernel_rfl) (by kernel_rfl) (by kernel_rfl) (fun _ _ _ _ h => h) ⟨_, Or.inl ⟨by rfl, fun w2 hb => by (go_simp; try with_reducible rfl)⟩, _, by (go_simp; try rfl), ?_⟩
        refine wpAnyK_take 10 rfl (by kernel_rfl) (by kernel_rfl) (by kernel_rfl) (fun _ _ _ _ h => h) ⟨_, Or.inl ⟨by rfl, fun w2 hb => by (go_simp; try with_reducible rfl)⟩, _, by (go_simp; try rfl), ?_⟩
        refine wpAnyK_only 12 rfl (by kernel_rfl) (by rfl) (fun K hK => ?_)
        have y100 := held_cell rF 0 _ rfl
        have y101 := held_cell rF 1 _ rfl
        have y102 := held_cell rF 2 _ rfl
        have y103 := held_cell rF 3 _ rfl
        have y104 := held_cell rF 4 _ rfl
        have y105 := held_cell rF 5 _ rfl
        have y106 := held_cell rF 6 _ rfl
        have y107 := held_cell rF 7 _ rfl
        have y108 := held_cell rF 8 _ rfl
        have y109 := held_cell rF 9 _ rfl
        have y110 := held_cell rF 10 _ rfl
        have y111 := held_cell rF 11 _ rfl
        have y112 := held_cell rF 12 _ rfl
        have f100 := held_free rF 0
        have f101 := held_free rF 1
        have f102 := held_free rF 2
        have f103 := held_free rF 3
        have f104 := held_free rF 4
        have f105 := held_free rF 5
        have f106 := held_free rF 6
        have f107 := held_free rF 7
        have f108 := held_free rF 8
        have f109 := held_free rF 9
        have f110 := held_free rF 10
        have f111 := held_free rF 11
        have f112 := held_free rF 12
        obtain ⟨W9, hW9, ya, yO⟩ := st13 rF (.int .u32 a1_0) (.int .i32 a1_1) (.int .i32 a1_2) (.int .i32 a1_3) (.int .i32 a1_4) (.int .i32 a1_5) (.int .i32 a1_6) (.int .i32 a1_7) (.int .i32 a1_8) (.int .i32 a1_9) (.int .i32 a1_10) (.int .i32 a1_11) (.int .i32 a1_12)
        have kp : Kp QQ.heap.size [] Y5 W9 := kp_below (belowS (Below.refl QQ.heap.size Y5) yO hF0)
        replace hQ := belowS hQ yO hF0
        clear rF yO
        go_simp
        refine hK _ _ ⟨kp, ?_⟩
        clear hK
        clear kp hW9 y100 y101 y102 y103 y104 y105 y106 y107 y108 y109 y110 y111 y112 f100 f101 f102 f103 f104 f105 f106 f107 f108 f109 f110 f111 f112
        refine wpAnyK_take 13 rfl (by kernel_rfl) (by kernel_rfl) (by kernel_rfl) (fun _ _ _ _ h => h) ⟨_, Or.inl ⟨by rfl, fun w2 hb => by (go_simp; try with_reducible rfl)⟩, _, by (go_simp; try rfl), ?_⟩
        refine wpAnyK_take 14 rfl (by kernel_rfl) (by kernel_rfl) (by kernel_rfl) (fun _ _ _ _ h => h) ⟨_, Or.inl ⟨by rfl, fun w2 hb => by (go_simp; try with_reducible rfl)⟩, _, by (go_simp; try rfl), ?_⟩
        refine wpAnyK_done (by kernel_rfl) ?_ _
        have hA : After V11 W9 := bthen (Below.refl V11.heap.size V11).drew (show Below V11.drew.heap.size V11.drew W9 from by rw [hQQ]; exact hQ)
        clear hQ raQ sdQ sbQ hl3 hl4 hQQ
        go_wp2_with fail
        go_meet
        exact ⟨_, rfl, rfl, rfl, ya, hA⟩
    · go_simp
      have nw := alloc_new QQ (.cells #[.int .u32 0, .int .i32 0, .int .i32 0, .int .i32 0, .int .i32 0, .int .i32 0, .int .i32 0, .int .i32 0, .int .i32 0, .int .i32 0, .int .i32 0, .int .i32 0, .int .i32 0] 25)
      have kp := Kp.of (X := []) nw.2.1 hQ.size
      have hF0 := hQ.size
      replace hQ := bthen hQ nw.2.1
      have rF := nw.2.2
      clear nw
      obtain ⟨Y1, hY1⟩ : ∃ X, QQ.alloc (.cells #[.int .u32 0, .int .i32 0, .int .i32 0, .int .i32 0, .int .i32 0, .int .i32 0, .int .i32 0, .int .i32 0, .int .i32 0, .int .i32 0, .int .i32 0, .int .i32 0, .int .i32 0] 25) = X := ⟨_, rfl⟩
      rw [hY1] at rF kp hQ ⊢
      clear hY1
      refine hK _ _ ⟨kp, ?_⟩
      clear hK
      clear kp
      refine wpAnyK_only 1 rfl (by kernel_rfl) (by rfl) (fun K hK => ?_)
      go_simp
      have nw := alloc_new Y1 (.cells #[] 5)
      have own := Own.lit .u8 5 Y1 [] QQ.heap.size hQ.size (by simp) #[] rfl
      have kp := Kp.of (X := []) nw.2.1 hQ.size
      replace hQ := bthen hQ nw.2.1
      replace rF := held_after nw.2.1 rF
      clear nw
      obtain ⟨Y2, hY2⟩ : ∃ X, Y1.alloc (.cells #[] 5) = X := ⟨_, rfl⟩
      rw [hY2] at own kp hQ rF ⊢
      clear hY2
      refine hK _ _ ⟨kp, ?_⟩
      clear hK
      clear kp
      refine wpAnyK_only 3 rfl (by kernel_rfl) (by rfl) (fun K hK => ?_)
      have sl9 := sdQ.below hQ
      refine wp_app _ (.tmp 43) (.tmp 44) 26 rfl QQ.heap.size 5 .u8 1 bytesOf (.slice (some ⟨Y1.heap.size, 0, none⟩) 0 0) [] rfl own da dc LD rfl sl9.2.2.2.2 sl9.2.2.2.1 hl3.out (by omega) hQ.size ?_
      intro v9 Y3 hO9 hG
      obtain ⟨g3, h3, hv9, -⟩ := hO9.sl
      subst hv9
      try rw [List.nil_append] at hO9
      try rw [List.nil_append]
      have kp : Kp QQ.heap.size [] Y2 Y3 := kp_below ((Below.refl QQ.heap.size Y2).grown hG hQ.size (fun k e => own_ge own e))
      replace hQ := own.grew hG hQ (Nat.le_refl _) hQ.size
      replace rF := held_grown rF hG (own_ne own rF (by decide))
      clear own hG sl9
      have own := hO9
      clear hO9
      refine hK _ _ ⟨kp, ?_⟩
      clear hK
      clear kp
      refine wpAnyK_only 5 rfl (by kernel_rfl) (by rfl) (fun K hK => ?_)
      have sl9 := sbQ.below hQ
      refine wp_app _ (.tmp 45) (.tmp 46) 26 rfl QQ.heap.size 5 .u8 1 bytesOf (.slice g3 LD.length h3) LD rfl own a2 cap2 bs rfl sl9.2.2.2.2 sl9.2.2.2.1 hl4.out (by omega) hQ.size ?_
      intro v9 Y4 hO9 hG
      obtain ⟨g5, h5, hv9, -⟩ := hO9.sl
      subst hv9
      rw [hLY.out] at hO9 ⊢
      have kp : Kp QQ.heap.size [] Y3 Y4 := kp_below ((Below.refl QQ.heap.size Y3).grown hG hQ.size (fun k e => own_ge own e))
      replace hQ := own.grew hG hQ (Nat.le_refl _) hQ.size
      replace rF := held_grown rF hG (own_ne own rF (by decide))
      clear own hG sl9
      have own := hO9
      clear hO9
      refine hK _ _ ⟨kp, ?_⟩
      clear hK
      clear kp
      refine wpAnyK_only 6 rfl (by kernel_rfl) (by rfl) (fun K hK => ?_)
      go_simp
      refine (kD.out _ _ _ own.slf (by omega)).mono ?_
      rintro e Y5 ⟨rfl, hA⟩
      have kp := Kp.of (X := []) hA hQ.size
      replace hQ := bthen hQ hA
      replace rF := held_after hA rF
      clear own hA
      go_simp
      refine hK _ _ ⟨kp, ?_⟩
      clear hK
      clear kp
      refine wpAnyK_take 7 rfl (by kernel_rfl) (by kernel_rfl) (by kernel_rfl) (fun _ _ _ _ h => h) ⟨_, Or.inl ⟨by rfl, fun w2 hb => by (go_simp; try with_reducible rfl)⟩, _, by (go_simp; try rfl), ?_⟩
      refine wpAnyK_take 8 rfl (by kernel_rfl) (by kernel_rfl) (by kernel_rfl) (fun _ _ _ _ h => h) ⟨_, Or.inl ⟨by rfl, fun w2 hb => by (go_simp; try with_reducible rfl)⟩, _, by (go_simp; try rfl), ?_⟩
      refine wpAnyK_take 9 rfl (by kernel_rfl) (by kernel_rfl) (by kernel_rfl) (fun _ _ _ _ h => h) ⟨_, Or.inl ⟨by rfl, fun w2 hb => by (go_simp; try with_reducible rfl)⟩, _, by (go_simp; try rfl), ?_⟩
      refine wpAnyK_take 10 rfl (by kernel_rfl) (by kernel_rfl) (by kernel_rfl) (fun _ _ _ _ h => h) ⟨_, Or.inl ⟨by rfl, fun w2 hb => by (go_simp; try with_reducible rfl)⟩, _, by (go_simp; try rfl), ?_⟩
      refine wpAnyK_only 12 rfl (by kernel_rfl) (by rfl) (fun K hK => ?_)
      have y100 := held_cell rF 0 _ rfl
      have y101 := held_cell rF 1 _ rfl
      have y102 := held_cell rF 2 _ rfl
      have y103 := held_cell rF 3 _ rfl
      have y104 := held_cell rF 4 _ rfl
      have y105 := held_cell rF 5 _ rfl
      have y106 := held_cell rF 6 _ rfl
      have y107 := held_cell rF 7 _ rfl
      have y108 := held_cell rF 8 _ rfl
      have y109 := held_cell rF 9 _ rfl
      have y110 := held_cell rF 10 _ rfl
      have y111 := held_cell rF 11 _ rfl
      have y112 := held_cell rF 12 _ rfl
      have f100 := held_free rF 0
      have f101 := held_free rF 1
      have f102 := held_free rF 2
      have f103 := held_free rF 3
      have f104 := held_free rF 4
      have f105 := held_free rF 5
      have f106 := held_free rF 6
      have f107 := held_free rF 7
      have f108 := held_free rF 8
      have f109 := held_free rF 9
      have f110 := held_free rF 10
      have f111 := held_free rF 11
      have f112 := held_free rF 12
      obtain ⟨W9, hW9, ya, yO⟩ := st13 rF (.int .u32 a1_0) (.int .i32 a1_1) (.int .i32 a1_2) (.int .i32 a1_3) (.int .i32 a1_4) (.int .i32 a1_5) (.int .i32 a1_6) (.int .i32 a1_7) (.int .i32 a1_8) (.int .i32 a1_9) (.int .i32 a1_10) (.int .i32 a1_11) (.int .i32 a1_12)
      have kp : Kp QQ.heap.size [] Y5 W9 := kp_below (belowS (Below.refl QQ.heap.size Y5) yO hF0)
      replace hQ := belowS hQ yO hF0
      clear rF yO
      go_simp
      refine hK _ _ ⟨kp, ?_⟩
      clear hK
      clear kp hW9 y100 y101 y102 y103 y104 y105 y106 y107 y108 y109 y110 y111 y112 f100 f101 f102 f103 f104 f105 f106 f107 f108 f109 f110 f111 f112
      refine wpAnyK_take 13 rfl (by kernel_rfl) (by kernel_rfl) (by kernel_rfl) (fun _ _ _ _ h => h) ⟨_, Or.inl ⟨by rfl, fun w2 hb => by (go_simp; try with_reducible rfl)⟩, _, by (go_simp; try rfl), ?_⟩
      refine wpAnyK_take 14 rfl (by kernel_rfl) (by kernel_rfl) (by kernel_rfl) (fun _ _ _ _ h => h) ⟨_, Or.inl ⟨by rfl, fun w2 hb => by (go_simp; try with_reducible rfl)⟩, _, by (go_simp; try rfl), ?_⟩
      refine wpAnyK_done (by kernel_rfl) ?_ _
      have hA : After V11 W9 := bthen (Below.refl V11.heap.size V11).drew (show Below V11.drew.heap.size V11.drew W9 from by rw [hQQ]; exact hQ)
      clear hQ raQ sdQ sbQ hl3 hl4 hQQ
      go_wp2_with fail
      go_meet
      exact ⟨_, rfl, rfl, rfl, ya, hA⟩
  case rest =>
    obtain ⟨pF, rfl, rfl, rfl, rk12, hA⟩ := hcut
    replace rk12 := hid rk12
    replace hS1 := hid (hS1.out.below hA)
    replace hS2 := hid (hS2.out.below hA)
    replace ra := hid (held_after hA ra.out)
    replace rb := hid (held_after hA rb.out)
    replace rk9 := hid (held_after hA rk9.out)
    replace hB := hid (bthen hB.out hA)
    clear hA
    have c0 := held_cell rk9.out 0 _ rfl
    have c1 := held_cell rk9.out 1 _ rfl
    have c2 := held_cell rk9.out 2 _ rfl
    have c3 := held_cell rk9.out 3 _ rfl
    have c4 := held_cell rk9.out 4 _ rfl
    have c5 := held_cell rk9.out 5 _ rfl
    have c6 := held_cell rk9.out 6 _ rfl
    have c7 := held_cell rk9.out 7 _ rfl
    have c8 := held_cell rk9.out 8 _ rfl
    have c9 := held_cell rk9.out 9 _ rfl
    have c10 := held_cell rk9.out 10 _ rfl
    have c11 := held_cell rk9.out 11 _ rfl
    have c12 := held_cell rk9.out 12 _ rfl
    have Y0 := held_cell rb.out 0 _ rfl
    have Y1 := held_cell rb.out 1 _ rfl
    have Y2 := held_cell rb.out 2 _ rfl
    have Y3 := held_cell rb.out 3 _ rfl
    have Y4 := held_cell rb.out 4 _ rfl
    have Y5 := held_cell rb.out 5 _ rfl
    have Y6 := held_cell rb.out 6 _ rfl
    have Y7 := held_cell rb.out 7 _ rfl
    have Y8 := held_cell rb.out 8 _ rfl
    have Y9 := held_cell rb.out 9 _ rfl
    have Y10 := held_cell rb.out 10 _ rfl
    have Y11 := held_cell rb.out 11 _ rfl
    have Y12 := held_cell rb.out 12 _ rfl
    have f0 := held_cell rk12.out 0 _ rfl
    have f1 := held_cell rk12.out 1 _ rfl
    have f2 := held_cell rk12.out 2 _ rfl
    have f3 := held_cell rk12.out 3 _ rfl
    have f4 := held_cell rk12.out 4 _ rfl
    have f5 := held_cell rk12.out 5 _ rfl
    have f6 := held_cell rk12.out 6 _ rfl
    have f7 := held_cell rk12.out 7 _ rfl
    have f8 := held_cell rk12.out 8 _ rfl
    have f9 := held_cell rk12.out 9 _ rfl
    have f10 := held_cell rk12.out 10 _ rfl
    have f11 := held_cell rk12.out 11 _ rfl
    have f12 := held_cell rk12.out 12 _ rfl
    have Z0 := held_cell ra.out 0 _ rfl
    have Z1 := held_cell ra.out 1 _ rfl
    have Z2 := held_cell ra.out 2 _ rfl
    have Z3 := held_cell ra.out 3 _ rfl
    have Z4 := held_cell ra.out 4 _ rfl
    have Z5 := held_cell ra.out 5 _ rfl
    have Z6 := held_cell ra.out 6 _ rfl
    have Z7 := held_cell ra.out 7 _ rfl
    have Z8 := held_cell ra.out 8 _ rfl
    have Z9 := held_cell ra.out 9 _ rfl
    have Z10 := held_cell ra.out 10 _ rfl
    have Z11 := held_cell ra.out 11 _ rfl
    have Z12 := held_cell ra.out 12 _ rfl
    have eqx := fun W => eq12s a1_1 a1_2 a1_3 a1_4 a1_5 a1_6 a1_7 a1_8 a1_9 a1_10 a1_11 a1_12 W
    go_wp2_with fail
    refine (num34_any 0 _ (by omega) (by omega)).mono ?_
    rintro e V ⟨rfl, rfl⟩
    go_wp2_with fail
    refine (num34_any 0 _ (by omega) (by omega)).mono ?_
    rintro e V ⟨rfl, rfl⟩
    go_wp2_with fail
    clear eqx
    refine (kE.out _ (hs1.out.below hB.out)).mono ?_
    rintro e V21 ⟨rfl, hA⟩
    replace hS1 := hid (hS1.out.below hA)
    replace hS2 := hid (hS2.out.below hA)
    replace ra := hid (held_after hA ra.out)
    replace rb := hid (held_after hA rb.out)
    replace rk9 := hid (held_after hA rk9.out)
    replace rk12 := hid (held_after hA rk12.out)
    replace hB := hid (bthen hB.out hA)
    clear hA
    clear c0 c1 c2 c3 c4 c5 c6 c7 c8 c9 c10 c11 c12 Y0 Y1 Y2 Y3 Y4 Y5 Y6 Y7 Y8 Y9 Y10 Y11 Y12 f0 f1 f2 f3 f4 f5 f6 f7 f8 f9 f10 f11 f12 Z0 Z1 Z2 Z3 Z4 Z5 Z6 Z7 Z8 Z9 Z10 Z11 Z12
    have nw := alloc_new V21 (.cells #[.int .u32 Ty, .int .i32 y0, .int .i32 y1, .int .i32 y2, .int .i32 y3, .int .i32 y4, .int .i32 y5, .int .i32 y6, .int .i32 y7, .int .i32 y8, .int .i32 y9, .int .i32 y10, .int .i32 y11] 25)
    have hA := nw.2.1
    have rk15 := nw.2.2
    clear nw
    go_upto_region 10 with (fail)
    obtain ⟨V22, hV22⟩ : ∃ X, V21.alloc (.cells #[.int .u32 Ty, .int .i32 y0, .int .i32 y1, .int .i32 y2, .int .i32 y3, .int .i32 y4, .int .i32 y5, .int .i32 y6, .int .i32 y7, .int .i32 y8, .int .i32 y9, .int .i32 y10, .int .i32 y11] 25) = X := ⟨_, rfl⟩
    rw [hV22] at hA rk15 ⊢
    obtain ⟨qk15, hqk15⟩ : ∃ X, V21.heap.size = X := ⟨_, rfl⟩
    rw [hqk15] at rk15 ⊢
    replace hV22 := hid hV22
    replace hqk15 := hid hqk15
    replace hS1 := hid (hS1.out.below hA)
    replace hS2 := hid (hS2.out.below hA)
    replace ra := hid (held_after hA ra.out)
    replace rb := hid (held_after hA rb.out)
    replace rk9 := hid (held_after hA rk9.out)
    replace rk12 := hid (held_after hA rk12.out)
    replace hB := hid (bthen hB.out hA)
    clear hA
    replace rk15 := hid rk15
    go_wp2_with fail
    refine (num34_any ey _ (by omega) (by omega)).mono ?_
    rintro e V ⟨rfl, hv⟩
    obtain rfl : V22 = V := hv.symm
    clear hv
    by_cases hey : ey = 0
    case neg =>
      have hn := hbad.out hey
      obtain rfl : Ty = 0 := congrArg (fun r => r.1.1) hn
      have hyz : [y0, y1, y2, y3, y4, y5, y6, y7, y8, y9, y10, y11] = [0, 0, 0, 0, 0, 0, 0, 0, 0, 0, 0, 0] := congrArg (fun r => r.1.2) hn
      obtain rfl : ny = 0 := congrArg (fun r => r.2.1) hn
      simp only [List.cons.injEq, and_true] at hyz
      obtain ⟨rfl, rfl, rfl, rfl, rfl, rfl, rfl, rfl, rfl, rfl, rfl, rfl⟩ := hyz
      clear hn
      have hq : (ey != 0) = true := by simp [hey]
      replace hey := hid hey
      have eqz := fun W => eq12s 0 0 0 0 0 0 0 0 0 0 0 0 W
      have g0 := held_cell rk15.out 0 _ rfl
      have g1 := held_cell rk15.out 1 _ rfl
      have g2 := held_cell rk15.out 2 _ rfl
      have g3 := held_cell rk15.out 3 _ rfl
      have g4 := held_cell rk15.out 4 _ rfl
      have g5 := held_cell rk15.out 5 _ rfl
      have g6 := held_cell rk15.out 6 _ rfl
      have g7 := held_cell rk15.out 7 _ rfl
      have g8 := held_cell rk15.out 8 _ rfl
      have g9 := held_cell rk15.out 9 _ rfl
      have g10 := held_cell rk15.out 10 _ rfl
      have g11 := held_cell rk15.out 11 _ rfl
      have g12 := held_cell rk15.out 12 _ rfl
      go_wp2_with fail
      go_ret
      exact ⟨ret_bool (by simp), hB.out⟩
    obtain ⟨N, hN, hNl, hN2, hDd, hTb, hvb⟩ := hbk2.out hey
    subst hey
    subst hN
    clear hbad hbk2
    have kF := fun U => delta_any a0_0 Ty a0_1 a0_2 a0_3 a0_4 a0_5 a0_6 a0_7 a0_8 a0_9 a0_10 a0_11 a0_12 y0 y1 y2 y3 y4 y5 y6 y7 y8 y9 y10 y11 U t0 hTb v0.out (fun x hx => by obtain ⟨i, hi, rfl⟩ := List.getElem_of_mem hx; have h := hvb i; rw [List.getD_eq_getElem?_getD, List.getElem?_eq_getElem hi] at h; exact h)
    rw [hDd] at kF
    have hSN := (hs1.out.below hB.out).take N hNl
    obtain ⟨S5, hS5⟩ : ∃ s, bs.take N = s := ⟨_, rfl⟩
    rw [hS5] at kF hSN
    have hcap := hs1.out.2.1
    have q1 : (N : Int) ≤ bs.length := by omega
    have q2 : (2 : Int) ≤ N := by omega
    have q3 : (N : Int) ≤ cap2 := by omega
    have q4 : (0 : Int) ≤ N := by omega
    clear hDd hvb hS5
    replace kF := hid kF
    go_upto_region 12 with (fail)
    refine wp_region_R (by kernel_rfl) ?_
    refine wpAnyR_take 0 rfl (by kernel_rfl) (by kernel_rfl) (by kernel_rfl) (fun _ _ _ _ h => h) ⟨_, Or.inl ⟨by rfl, fun w2 hb2 => by (go_simp; try with_reducible rfl)⟩, _, by (go_simp; try rfl), ?_⟩
    refine wpAnyR_take 1 rfl (by kernel_rfl) (by kernel_rfl) (by kernel_rfl) (fun _ _ _ _ h => h) ⟨_, Or.inl ⟨by rfl, fun w2 hb2 => by (go_simp; try with_reducible rfl)⟩, _, by (go_simp; try rfl), ?_⟩
    refine wpAnyR_take 2 rfl (by kernel_rfl) (by kernel_rfl) (by kernel_rfl) (fun _ _ _ _ h => h) ⟨_, Or.inl ⟨by rfl, fun w2 hb2 => by (go_simp; try with_reducible rfl)⟩, _, by (go_simp; try rfl), ?_⟩
    refine wpAnyR_take 3 rfl (by kernel_rfl) (by kernel_rfl) (by kernel_rfl) (fun _ _ _ _ h => h) ⟨_, Or.inl ⟨by rfl, fun w2 hb2 => by (go_simp; try with_reducible rfl)⟩, _, by (go_simp; try rfl), ?_⟩
    refine wpAnyR_take 4 rfl (by kernel_rfl) (by kernel_rfl) (by kernel_rfl) (fun _ _ _ _ h => h) ⟨_, Or.inl ⟨by rfl, fun w2 hb2 => by (go_simp; try with_reducible rfl)⟩, _, by (go_simp; try rfl), ?_⟩
    refine wpAnyR_take 5 rfl (by kernel_rfl) (by kernel_rfl) (by kernel_rfl) (fun _ _ _ _ h => h) ⟨_, Or.inl ⟨by rfl, fun w2 hb2 => by (go_simp; try with_reducible rfl)⟩, _, by (go_simp; try rfl), ?_⟩
    refine wpAnyR_take 6 rfl (by kernel_rfl) (by kernel_rfl) (by kernel_rfl) (fun _ _ _ _ h => h) ⟨_, Or.inl ⟨by rfl, fun w2 hb2 => by (go_simp; try with_reducible rfl)⟩, _, by (go_simp; try rfl), ?_⟩
    refine wpAnyR_take 7 rfl (by kernel_rfl) (by kernel_rfl) (by kernel_rfl) (fun _ _ _ _ h => h) ⟨_, Or.inl ⟨by rfl, fun w2 hb2 => by (go_simp; try with_reducible rfl)⟩, _, by (go_simp; try rfl), ?_⟩
    refine wpAnyR_take 8 rfl (by kernel_rfl) (by kernel_rfl) (by kernel_rfl) (fun _ _ _ _ h => h) ⟨_, Or.inl ⟨by rfl, fun w2 hb2 => by (go_simp; try with_reducible rfl)⟩, _, by (go_simp; try rfl), ?_⟩
    refine wpAnyR_take 9 rfl (by kernel_rfl) (by kernel_rfl) (by kernel_rfl) (fun _ _ _ _ h => h) ⟨_, Or.inl ⟨by rfl, fun w2 hb2 => by (have hr := held_after hb2 (show V22.drew.heap[_]? = _ from ra.out); have g0 := held_cell hr 0 _ rfl; have g1 := held_cell hr 1 _ rfl; have g2 := held_cell hr 2 _ rfl; have g3 := held_cell hr 3 _ rfl; have g4 := held_cell hr 4 _ rfl; have g5 := held_cell hr 5 _ rfl; have g6 := held_cell hr 6 _ rfl; have g7 := held_cell hr 7 _ rfl; have g8 := held_cell hr 8 _ rfl; have g9 := held_cell hr 9 _ rfl; have g10 := held_cell hr 10 _ rfl; have g11 := held_cell hr 11 _ rfl; have g12 := held_cell hr 12 _ rfl; go_simp; try with_reducible rfl)⟩, _, by (go_simp; try rfl), ?_⟩
    refine wpAnyR_take 10 rfl (by kernel_rfl) (by kernel_rfl) (by kernel_rfl) (fun _ _ _ _ h => h) ⟨_, Or.inl ⟨by rfl, fun w2 hb2 => by (have hr := held_after hb2 (show V22.drew.heap[_]? = _ from rk15.out); have g0 := held_cell hr 0 _ rfl; have g1 := held_cell hr 1 _ rfl; have g2 := held_cell hr 2 _ rfl; have g3 := held_cell hr 3 _ rfl; have g4 := held_cell hr 4 _ rfl; have g5 := held_cell hr 5 _ rfl; have g6 := held_cell hr 6 _ rfl; have g7 := held_cell hr 7 _ rfl; have g8 := held_cell hr 8 _ rfl; have g9 := held_cell hr 9 _ rfl; have g10 := held_cell hr 10 _ rfl; have g11 := held_cell hr 11 _ rfl; have g12 := held_cell hr 12 _ rfl; go_simp; try with_reducible rfl)⟩, _, by (go_simp; try rfl), ?_⟩
    refine wpAnyR_take 13 rfl (by kernel_rfl) (by kernel_rfl) (by kernel_rfl) (fun _ _ _ _ h => h) ⟨_, Or.inl ⟨by rfl, fun w2 hb2 => by (go_simp; try with_reducible rfl)⟩, _, by (go_simp; try rfl), ?_⟩
    refine wpAnyR_take 14 rfl (by kernel_rfl) (by kernel_rfl) (by kernel_rfl) (fun _ _ _ _ h => h) ⟨_, Or.inl ⟨by rfl, fun w2 hb2 => by (go_simp; try with_reducible rfl)⟩, _, by (go_simp; try rfl), ?_⟩
    refine wpAnyR_take 15 rfl (by kernel_rfl) (by kernel_rfl) (by kernel_rfl) (fun _ _ _ _ h => h) ⟨_, Or.inl ⟨by rfl, fun w2 hb2 => by (go_simp; try with_reducible rfl)⟩, _, by (go_simp; try rfl), ?_⟩
    refine wpAnyR_take 16 rfl (by kernel_rfl) (by kernel_rfl) (by kernel_rfl) (fun _ _ _ _ h => h) ⟨_, Or.inl ⟨by rfl, fun w2 hb2 => by (have hx := txt34 ((show Sl .u8 V22.drew a2 N cap2 S5 from hSN).below hb2); go_simp; try with_reducible rfl)⟩, _, by (go_simp; try rfl), ?_⟩
    refine wpAnyR_only 11 rfl (by kernel_rfl) (by rfl) (fun K hK => ?_)
    go_simp
    refine (kF.out _).mono ?_
    rintro e VZ ⟨fa, fc, rfl, hO5, hA⟩
    have hAf := hid hA
    go_simp
    refine hK _ _ ⟨hA, ?_⟩
    clear hK
    have hB9 := hid (bthen (bthen hB.out (Below.refl _ V22).drew) hA)
    clear hA
    refine wpAnyR_take 12 rfl (by kernel_rfl) (by kernel_rfl) (by kernel_rfl) (fun _ _ _ _ h => h) ⟨_, Or.inl ⟨by rfl, fun w2 hb2 => by (have hx := txt34 (hO5.slf.below hb2); go_simp; try with_reducible rfl)⟩, _, by (go_simp; try rfl), ?_⟩
    refine wpAnyR_take 17 rfl (by kernel_rfl) (by kernel_rfl) (by kernel_rfl) (fun _ _ _ _ h => h) ⟨_, Or.inl ⟨by rfl, fun w2 hb2 => by (go_simp; try with_reducible rfl)⟩, _, by (go_simp; try rfl), ?_⟩
    refine wpAnyR_take 18 rfl (by kernel_rfl) (by kernel_rfl) (by kernel_rfl) (fun _ _ _ _ h => h) ⟨_, Or.inl ⟨by rfl, fun w2 hb2 => by (go_simp; try with_reducible rfl)⟩, _, by (go_simp; try rfl), ?_⟩
    refine wpAnyR_take 19 rfl (by kernel_rfl) (by kernel_rfl) (by kernel_rfl) (fun _ _ _ _ h => h) ⟨_, Or.inl ⟨by rfl, fun w2 hb2 => by (go_simp; try with_reducible rfl)⟩, _, by (go_simp; try rfl), ?_⟩
    refine wpAnyR_done (by kernel_rfl) ?_ _
    go_wp2_with fail
    go_ret
    exact ⟨ret_bool (by simp), hB9.out⟩

end Go.Proofs.Ytnoifpdjfpbmjaa
