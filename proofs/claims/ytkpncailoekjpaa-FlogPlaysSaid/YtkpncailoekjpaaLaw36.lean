/- The laws of layer 36: knows, FlogNil. -/
import Derived.Test.YtkpncailoekjpaaFlog4
import Derived.Deep.DeepCutAuto
namespace Go.Proofs.Ytkpncailoekjpaa
open Go.ChangeShapes Go.WideShapes Go.ChangeAt Go.RowKit
set_option linter.unusedVariables false
set_option linter.unusedSimpArgs false

theorem txt36 {w : World} {a : Option Addr} {len cap : Nat} {zs : List Int} (h : Sl .u8 w a len cap zs) : (convert 29 9 (.slice a len cap)).run Try.prog w = .ok (.string (textOf zs)) w :=
  h.text 29 9 5 Try.underlying29 Try.underlying5 Try.underlying9
theorem num36_any (n : Int) (w : World) (h1 : -9223372036854775808 ≤ n) (h2 : n ≤ 9223372036854775807) :
    Calls Try.prog 17 #[.int .i64 n] w fun e w' => e = .returned (.int .i64 n) ∧ w' = w := by
  go_enter Try.func17, Try.ntmps17
  go_wp2_with fail
  go_ret
  exact ⟨rfl, rfl⟩
theorem u32_bd36 {x : Int} (h : (Lit.int .u32 x).wf = true) : 0 ≤ x ∧ x ≤ 4294967295 := by
  have h3 : IntKind.u32.min = 0 := rfl
  have h4 : IntKind.u32.max = 4294967295 := rfl
  simp [Lit.wf, h3, h4] at h; exact h
theorem i32_bd36 {x : Int} (h : (Lit.int .i32 x).wf = true) : -2147483648 ≤ x ∧ x ≤ 2147483647 := by
  have h3 : IntKind.i32.min = -2147483648 := rfl
  have h4 : IntKind.i32.max = 2147483647 := rfl
  simp [Lit.wf, h3, h4] at h; exact h
theorem els_recs : ∀ {xs : List (List Value)}, (∀ x ∈ xs, (∃ (c0 : Int) (c1 : Int) (c2 : Int) (c3 : Int) (c4 : Int) (c5 : Int) (c6 : Int) (c7 : Int) (c8 : Int) (c9 : Int) (c10 : Int) (c11 : Int) (c12 : Int), x = [.int .u32 c0, .int .i32 c1, .int .i32 c2, .int .i32 c3, .int .i32 c4, .int .i32 c5, .int .i32 c6, .int .i32 c7, .int .i32 c8, .int .i32 c9, .int .i32 c10, .int .i32 c11, .int .i32 c12] ∧ ((Lit.int .u32 c0).wf = true) ∧ ((Lit.int .i32 c1).wf = true) ∧ ((Lit.int .i32 c2).wf = true) ∧ ((Lit.int .i32 c3).wf = true) ∧ ((Lit.int .i32 c4).wf = true) ∧ ((Lit.int .i32 c5).wf = true) ∧ ((Lit.int .i32 c6).wf = true) ∧ ((Lit.int .i32 c7).wf = true) ∧ ((Lit.int .i32 c8).wf = true) ∧ ((Lit.int .i32 c9).wf = true) ∧ ((Lit.int .i32 c10).wf = true) ∧ ((Lit.int .i32 c11).wf = true) ∧ ((Lit.int .i32 c12).wf = true))) → ∃ l : List Rc, xs = recsV l ∧ ∀ z ∈ l, StK z
  | [], _ => ⟨[], rfl, fun z hz => by cases hz⟩
  | y :: xs, h => by
    obtain ⟨c0, c1, c2, c3, c4, c5, c6, c7, c8, c9, c10, c11, c12, rfl, h0, h1, h2, h3, h4, h5, h6, h7, h8, h9, h10, h11, h12⟩ := h y (by simp)
    obtain ⟨l, rfl, hl⟩ := els_recs (xs := xs) (fun z hz => h z (List.mem_cons_of_mem _ hz))
    refine ⟨(c0, [c1, c2, c3, c4, c5, c6, c7, c8, c9, c10, c11, c12]) :: l, rfl, fun z hz => ?_⟩
    rcases List.mem_cons.1 hz with rfl | hz
    · refine ⟨u32_bd36 h0, rfl, fun y hy => ?_⟩
      simp only [List.mem_cons, List.not_mem_nil, or_false] at hy
      rcases hy with rfl | rfl | rfl | rfl | rfl | rfl | rfl | rfl | rfl | rfl | rfl | rfl <;> first | exact i32_bd36 h1 | exact i32_bd36 h2 | exact i32_bd36 h3 | exact i32_bd36 h4 | exact i32_bd36 h5 | exact i32_bd36 h6 | exact i32_bd36 h7 | exact i32_bd36 h8 | exact i32_bd36 h9 | exact i32_bd36 h10 | exact i32_bd36 h11 | exact i32_bd36 h12
    · exact hl z hz
/-- A log that there is not, or that no call made. -/
def BadL (p : Option Addr) (w : World) : Prop := p = none ∨ ∃ B, p = some ⟨B, 0, none⟩ ∧ w.heap[B]? = some (.cells #[.int .i64 0, .slice none 0 0, .int .i64 0, .int .i64 0, .int .i64 0] 59 (0, 0))
theorem BadL.aft {p : Option Addr} {w w2 : World} (h : BadL p w) (hA : After w w2) : BadL p w2 := by
  rcases h with h | ⟨B, h1, h2⟩
  · exact .inl h
  · exact .inr ⟨B, h1, held_after hA h2⟩
theorem right_bad (p : Option Addr) (w : World) (h : BadL p w) : Calls Try.prog 19 #[.pointer p] w fun e w' => e = .returned (.bool false) ∧ w' = w := by
  rcases h with rfl | ⟨B, rfl, hH⟩
  · exact right_nil w
  · exact right_zero B _ _ _ _ w hH
set_option maxRecDepth 100000 in
set_option maxHeartbeats 2000000 in
theorem flush_bad (p : Option Addr) (w : World) (h : BadL p w) : Calls Try.prog 9 #[.pointer p] w fun e w' => e = .returned (.slice none 0 0) ∧ w' = w := by
  have kR := right_bad p w h
  clear h
  go_enter Try.func9, Try.ntmps9
  go_wp2_with fail
  refine kR.mono ?_
  rintro e V ⟨rfl, hv⟩
  obtain rfl : w = V := hv.symm
  clear hv
  go_wp2_with fail
  go_ret
  exact ⟨rfl, rfl⟩
set_option maxRecDepth 100000 in
set_option maxHeartbeats 2000000 in
theorem open_bad (p : Option Addr) (w : World) (h : BadL p w) : Calls Try.prog 14 #[.pointer p] w fun e w' => e = .returned (.int .i64 0) ∧ w' = w := by
  have kR := right_bad p w h
  clear h
  go_enter Try.func14, Try.ntmps14
  go_wp2_with fail
  refine kR.mono ?_
  rintro e V ⟨rfl, hv⟩
  obtain rfl : w = V := hv.symm
  clear hv
  go_wp2_with fail
  go_ret
  exact ⟨rfl, rfl⟩
set_option maxRecDepth 100000 in
set_option maxHeartbeats 2000000 in
theorem counts_bad (p : Option Addr) (w : World) (h : BadL p w) : Calls Try.prog 13 #[.pointer p] w fun e w' => e = .returned (.tuple #[.int .i64 0, .int .i64 0]) ∧ w' = w := by
  have kR := right_bad p w h
  clear h
  go_enter Try.func13, Try.ntmps13
  go_wp2_with fail
  refine kR.mono ?_
  rintro e V ⟨rfl, hv⟩
  obtain rfl : w = V := hv.symm
  clear hv
  go_wp2_with fail
  go_ret2
  exact ⟨rfl, rfl⟩
set_option maxRecDepth 100000 in
set_option maxHeartbeats 2000000 in
theorem add_bad (p : Option Addr) (u b0 b1 b2 b3 b4 b5 b6 b7 b8 b9 b10 b11 : Int) (w : World) (h : BadL p w) : Calls Try.prog 11 #[.pointer p, .agg #[.int .u32 u, .int .i32 b0, .int .i32 b1, .int .i32 b2, .int .i32 b3, .int .i32 b4, .int .i32 b5, .int .i32 b6, .int .i32 b7, .int .i32 b8, .int .i32 b9, .int .i32 b10, .int .i32 b11]] w fun e w' => e = .returned (.slice none 0 0) ∧ After w w' := by
  go_enter Try.func11, Try.ntmps11
  go_upto_region 0 with (fail)
  apply wp_region_seg0 (w := w) (S := [.al 1000, .q []]) (E := [.al ((fun p => .pointer (some ⟨p, 0, none⟩)), _) 1000, .q0 _]) rfl (by kernel_rfl) rfl rfl
  intro th hge hne
  refine Seg.step _ rfl ⟨by rfl, fun U hU => ?_⟩ ?_
  · go_simp; exact vp_alloc rfl rfl rfl
  refine ⟨_, by (simp only [Ent.val]; go_simp <;> exact rfl), ?_⟩
  refine Seg.step _ rfl (Or.inl ⟨by rfl, fun U hU => vp_quiet (by (go_simp <;> exact rfl))⟩) ⟨_, by (simp only [Ent.val]; go_simp <;> exact rfl), ?_⟩
  refine Seg.stop (fun U1 hU hk => ?_)
  have nb0 := hge 0 _ _ rfl
  have rb0 := (hk 0 _ _ rfl trivial).1.2 (by simp)
  clear hk hge hne
  generalize th (0 + 0) = p0_0 at *
  dsimp only at rb0
  have r_p0_0 := rb0
  clear rb0
  have n_p0_0 := nb0
  clear nb0
  have sz1 := hU.size
  have hB : Below w.heap.size w U1 := hU
  clear hU
  have kR := right_bad p U1 (h.aft hB)
  replace hB := hid hB
  clear h r_p0_0
  go_wp2_with fail
  refine kR.mono ?_
  rintro e V ⟨rfl, hv⟩
  obtain rfl : U1 = V := hv.symm
  clear hv
  go_wp2_with fail
  go_ret
  exact ⟨rfl, hB.out⟩
set_option maxRecDepth 100000 in
set_option maxHeartbeats 4000000 in
theorem knows36_any (w : World) : Calls Try.prog 7 #[] w fun e w' => e = .returned (.bool true) ∧ Below w.heap.size w w' := by
  have eA : addS 1 ([], 0, 0) (3, [0, 0, 0, 0, 0, 0, 0, 0, 0, 0, 0, 0]) = ([], ([(true, 3, [0, 0, 0, 0, 0, 0, 0, 0, 0, 0, 0, 0])], 1, 0)) := by decide +kernel
  have eF : (flushS ([(true, 3, [0, 0, 0, 0, 0, 0, 0, 0, 0, 0, 0, 0])], 1, 0)).1.length = 256 := by decide +kernel
  have eW : writeS 1 [] = [] := rfl
  have hz : ∀ x ∈ [0, 0, 0, 0, 0, 0, 0, 0, 0, 0, 0, 0], (-2147483648 : Int) ≤ x ∧ x ≤ 2147483647 := by intro x hx; simp at hx; subst hx; decide
  have hok : FOk ([(true, 3, [0, 0, 0, 0, 0, 0, 0, 0, 0, 0, 0, 0])], 1, 0) := by have := add_ok (ev := 1) (s := ([], 0, 0)) (r := (3, [0, 0, 0, 0, 0, 0, 0, 0, 0, 0, 0, 0])) fok0 ⟨by decide, rfl, hz⟩; rw [eA] at this; exact this
  have kN := lnew_any 1 w (by omega) (by omega)
  have kM := hid (fun U => lnew_bad 0 U (by omega))
  have kA := fun B U hL h3 => ladd_any B w.heap.size w.heap.size 1 ([], 0, 0) 3 0 0 0 0 0 0 0 0 0 0 0 0 U hL fok0 (by omega) (by omega) (by decide) (by decide) (by omega) hz h3 (Nat.le_refl _)
  rw [eA] at kA
  have kF := fun B U hL h3 h4 => lflush_any B w.heap.size w.heap.size 1 ([(true, 3, [0, 0, 0, 0, 0, 0, 0, 0, 0, 0, 0, 0])], 1, 0) U hL hok (by omega) (by decide) h3 (Nat.le_refl _) h4
  have kW := fun U => lwrite_any 1 none 0 0 [] U (by omega) (by omega) rfl (by omega) (Els.nil U 13) (fun r hr => by cases hr)
  rw [eW] at kW
  have kO := hid (fun B U hL => lopen_any B w.heap.size 1 ([(true, 3, [0, 0, 0, 0, 0, 0, 0, 0, 0, 0, 0, 0])], 1, 0) U hL (by omega))
  obtain ⟨FS, hFS⟩ : ∃ f, flushS ([(true, 3, [0, 0, 0, 0, 0, 0, 0, 0, 0, 0, 0, 0])], 1, 0) = f := ⟨_, rfl⟩
  rw [hFS] at kF eF
  clear hFS eA eW hz hok
  replace kA := hid kA
  replace kF := hid kF
  replace kW := hid kW
  replace eF := hid eF
  go_enter Try.func7, Try.ntmps7
  go_wp2_with fail
  refine kN.mono ?_
  rintro e V1 ⟨B, rfl, hB, hL, hA⟩
  replace hL := hid hL
  replace hA := hid hA
  go_wp2_with fail
  refine (kM.out _).mono ?_
  rintro e V ⟨rfl, hv⟩
  obtain rfl : V1 = V := hv.symm
  clear hv
  go_wp2_with fail
  refine (kA.out B _ hL.out hB hA.out.size).mono ?_
  rintro e V2 ⟨ta, tc, rfl, hT, hL2, hW⟩
  dsimp only [List.length_nil] at hT hL2 ⊢
  have hA2 := hid (Below.trans hA.out hW.1)
  replace hL2 := hid hL2
  clear hT hW hL hA
  go_wp2_with fail
  refine (kW.out _).mono ?_
  rintro e V3 ⟨ua, uc, rfl, hT, hA3⟩
  dsimp only [List.length_nil] at hT ⊢
  have hL3 := hid (hL2.out.aft hA3)
  have hB3 := hid (bthen hA2.out hA3)
  clear hT hA3 hL2 hA2
  go_wp2_with fail
  refine (kO.out B _ hL3.out).mono ?_
  rintro e V ⟨rfl, hv⟩
  obtain rfl : V3 = V := hv.symm
  clear hv
  go_wp2_with fail
  refine (kF.out B _ hL3.out hB hB3.out.size).mono ?_
  rintro e V4 ⟨va, vc, rfl, hT, hL4, hW⟩
  rw [eF.out] at hT ⊢
  have hB4 := hid (Below.trans hB3.out hW.1)
  clear hT hL4 hW hL3 hB3
  go_wp2_with fail
  refine (num36_any 0 _ (by omega) (by omega)).mono ?_
  rintro e V ⟨rfl, hv⟩
  obtain rfl : V4 = V := hv.symm
  clear hv
  go_wp2_with fail
  go_ret
  exact ⟨rfl, hB4.out⟩
set_option maxRecDepth 100000 in
set_option maxHeartbeats 4000000 in
theorem law_FlogNil (a0_0 : Int) (a0_1 : Int) (a0_2 : Int) (a0_3 : Int) (a0_4 : Int) (a0_5 : Int) (a0_6 : Int) (a0_7 : Int) (a0_8 : Int) (a0_9 : Int) (a0_10 : Int) (a0_11 : Int) (a0_12 : Int) (W : World) (w0_0 : (Lit.int .u32 a0_0).wf = true) (w0_1 : (Lit.int .i32 a0_1).wf = true) (w0_2 : (Lit.int .i32 a0_2).wf = true) (w0_3 : (Lit.int .i32 a0_3).wf = true) (w0_4 : (Lit.int .i32 a0_4).wf = true) (w0_5 : (Lit.int .i32 a0_5).wf = true) (w0_6 : (Lit.int .i32 a0_6).wf = true) (w0_7 : (Lit.int .i32 a0_7).wf = true) (w0_8 : (Lit.int .i32 a0_8).wf = true) (w0_9 : (Lit.int .i32 a0_9).wf = true) (w0_10 : (Lit.int .i32 a0_10).wf = true) (w0_11 : (Lit.int .i32 a0_11).wf = true) (w0_12 : (Lit.int .i32 a0_12).wf = true) :
    Calls Try.prog 6 #[.agg #[.int .u32 a0_0, .int .i32 a0_1, .int .i32 a0_2, .int .i32 a0_3, .int .i32 a0_4, .int .i32 a0_5, .int .i32 a0_6, .int .i32 a0_7, .int .i32 a0_8, .int .i32 a0_9, .int .i32 a0_10, .int .i32 a0_11, .int .i32 a0_12]] W fun e w' => e = .returned (.bool true) ∧ Below W.heap.size W w' := by
  clear w0_0 w0_1 w0_2 w0_3 w0_4 w0_5 w0_6 w0_7 w0_8 w0_9 w0_10 w0_11 w0_12
  go_enter Try.func6, Try.ntmps6
  go_upto_region 0 with (fail)
  apply wp_region_seg0 (w := W) (S := [.al 1000, .q []]) (E := [.al ((fun p => .pointer (some ⟨p, 0, none⟩)), _) 1000, .q0 _]) rfl (by kernel_rfl) rfl rfl
  intro th hge hne
  refine Seg.step _ rfl ⟨by rfl, fun U hU => ?_⟩ ?_
  · go_simp; exact vp_alloc rfl rfl rfl
  refine ⟨_, by (simp only [Ent.val]; go_simp <;> exact rfl), ?_⟩
  refine Seg.step _ rfl (Or.inl ⟨by rfl, fun U hU => vp_quiet (by (go_simp <;> exact rfl))⟩) ⟨_, by (simp only [Ent.val]; go_simp <;> exact rfl), ?_⟩
  refine Seg.stop (fun U1 hU hk => ?_)
  have nb0 := hge 0 _ _ rfl
  have rb0 := (hk 0 _ _ rfl trivial).1.2 (by simp)
  clear hk hge hne
  generalize th (0 + 0) = p0_0 at *
  dsimp only at rb0
  have r_p0_0 := rb0
  clear rb0
  have n_p0_0 := nb0
  clear nb0
  have sz1 := hU.size
  have hB : Below W.heap.size W U1 := hU
  clear hU
  have r0 := hid r_p0_0
  replace hB := hid hB
  clear r_p0_0
  go_wp2_with fail
  go_loopw [3, 4] (fun lv ix wr => ∃ (k : Nat) (p : Option Addr), k ≤ 2 ∧ ix = .int .i64 k ∧ lv = .pointer p ∧ BadL p wr ∧ wr.heap[p0_0]? = some (.cells #[.int .u32 a0_0, .int .i32 a0_1, .int .i32 a0_2, .int .i32 a0_3, .int .i32 a0_4, .int .i32 a0_5, .int .i32 a0_6, .int .i32 a0_7, .int .i32 a0_8, .int .i32 a0_9, .int .i32 a0_10, .int .i32 a0_11, .int .i32 a0_12] 33 (0, 0)) ∧ Below W.heap.size W wr) (fun _ ix _ => 2 - (intOf ix).toNat)
  case atStart => exact ⟨0, none, by omega, rfl, rfl, .inl rfl, r0.out, hB.out⟩
  case round =>
    clear r0 hB
    obtain ⟨k, p, hk, rfl, rfl, hbd, r0, hB⟩ := hrel
    replace hB := hid hB
    replace r0 := hid r0
    by_cases hlt : (k : Int) < 2
    case neg =>
      clear hbd r0
      go_wp2_with fail
      refine (knows36_any _).mono ?_
      rintro e V ⟨rfl, hst⟩
      replace hst := hid (bthen hB.out hst)
      go_wp2_with fail
      go_ret
      exact ⟨rfl, hst.out⟩
    have kz : (0 : Int) ≤ k := by omega
    have wk : IntKind.i64.wrap ((k : Int) + 1) = (k : Int) + 1 := by rw [IntKind.wrap_i64]; omega
    have hk1 := hid (show k + 1 ≤ 2 by omega)
    have z0 := held_cell r0.out 0 _ rfl
    have z1 := held_cell r0.out 1 _ rfl
    have z2 := held_cell r0.out 2 _ rfl
    have z3 := held_cell r0.out 3 _ rfl
    have z4 := held_cell r0.out 4 _ rfl
    have z5 := held_cell r0.out 5 _ rfl
    have z6 := held_cell r0.out 6 _ rfl
    have z7 := held_cell r0.out 7 _ rfl
    have z8 := held_cell r0.out 8 _ rfl
    have z9 := held_cell r0.out 9 _ rfl
    have z10 := held_cell r0.out 10 _ rfl
    have z11 := held_cell r0.out 11 _ rfl
    have z12 := held_cell r0.out 12 _ rfl
    have hbd := hid hbd
    go_wp2_with fail
    refine (add_bad p a0_0 a0_1 a0_2 a0_3 a0_4 a0_5 a0_6 a0_7 a0_8 a0_9 a0_10 a0_11 a0_12 _ hbd.out).mono ?_
    rintro e V1 ⟨rfl, hA⟩
    replace hbd := hid (hbd.out.aft hA)
    replace r0 := hid (held_after hA r0.out)
    replace hB := hid (bthen hB.out hA)
    clear hA z0 z1 z2 z3 z4 z5 z6 z7 z8 z9 z10 z11 z12
    go_wp2_with fail
    refine (flush_bad p _ hbd.out).mono ?_
    rintro e V ⟨rfl, hv⟩
    obtain rfl : V1 = V := hv.symm
    clear hv
    go_wp2_with fail
    refine (counts_bad p _ hbd.out).mono ?_
    rintro e V ⟨rfl, hv⟩
    obtain rfl : V1 = V := hv.symm
    clear hv
    go_wp2_with fail
    refine (open_bad p _ hbd.out).mono ?_
    rintro e V ⟨rfl, hv⟩
    obtain rfl : V1 = V := hv.symm
    clear hv
    have nw := alloc_new V1 (.cells #[.int .i64 0, .slice none 0 0, .int .i64 0, .int .i64 0, .int .i64 0] 59)
    have hA2 := hid nw.2.1
    have rB := hid nw.2.2
    have r9 := hid (held_after nw.2.1 r0.out)
    have hB9 := hid (bthen hB.out nw.2.1)
    clear nw r0 hB hbd
    obtain ⟨W9, hW9⟩ : ∃ X, V1.alloc (.cells #[.int .i64 0, .slice none 0 0, .int .i64 0, .int .i64 0, .int .i64 0] 59) = X := ⟨_, rfl⟩
    rw [hW9] at rB r9 hB9
    go_wp2_with fail
    go_roundw
    case rel => exact ⟨k + 1, _, hk1.out, by simp, rfl, .inr ⟨V1.heap.size, rfl, rB.out⟩, r9.out, hB9.out⟩
    case measure => simp [intOf]; omega

end Go.Proofs.Ytkpncailoekjpaa
