/- Package small: Pack. -/
import Derived.Test.YtnabfimammojhaaSmall2
namespace Go.Proofs.Ytnabfimammojhaa
open Go.ChangeShapes Go.WideShapes Go.ChangeAt Go.RowKit Go.Shelf
set_option linter.unusedVariables false

def sg4 (x y z t : Int) : Int := if sel4 (best4 x y z t) x y z t < 0 then -1 else 1
def packG (x y z t : Int) (i : Fin 4) : Int := numS (sg4 x y z t * sel4 i.val x y z t)
def packL (x y z t : Int) : List Int := (best4 x y z t : Int) :: (oth (best4 x y z t) 4).map (packG x y z t)
def isU (x y z t : Int) : Bool := decide (offS (sqs [x, y, z, t] 0) ≤ 1099511627776)
def packT (x y z t : Int) : Value := if isU x y z t then .tuple #[.int .u32 (joinV [2, 10, 10, 10] (packL x y z t) : Nat), .bool true] else .tuple #[.int .u32 0, .bool false]
theorem sg4_b (x y z t : Int) (i : Nat) (p0 : B32 x) (p1 : B32 y) (p2 : B32 z) (p3 : B32 t) : -2147483648 ≤ sg4 x y z t * sel4 i x y z t ∧ sg4 x y z t * sel4 i x y z t ≤ 2147483648 := by
  have := sel4_b i p0 p1 p2 p3
  unfold B32 at this
  unfold sg4; split <;> omega
theorem u32_wf {n : Int} (h : 0 ≤ n ∧ n ≤ 4294967295) : (Lit.int .u32 n).wf = true := by
  have e1 : IntKind.u32.min = 0 := rfl
  have e2 : IntKind.u32.max = 4294967295 := rfl
  simp [Lit.wf, e1, e2]; omega
theorem packL_wf (x y z t : Int) : ∀ n ∈ packL x y z t, (Lit.int .u32 n).wf = true := by
  intro n hn
  unfold packL at hn
  rcases List.mem_cons.1 hn with rfl | h
  · have := best4_lt x y z t; exact u32_wf (by omega)
  · obtain ⟨i, _, rfl⟩ := List.mem_map.1 h
    have := numC_b (overS (511 * (sg4 x y z t * sel4 i.val x y z t)) 759250125)
    exact u32_wf (by unfold packG numS; omega)
theorem oth_all : ∀ o : Nat, o < 4 → (oth o 4).length = 3 := by decide
theorem packL_len (x y z t : Int) : (packL x y z t).length = 4 := by
  unfold packL; rw [List.length_cons, List.length_map, oth_all _ (best4_lt x y z t)]
theorem right4 : rightP [2, 10, 10, 10] := by decide
theorem pack_fits (x y z t : Int) : joinOk [2, 10, 10, 10] (packL x y z t) = true := by
  refine decide_eq_true ⟨right4, packL_len x y z t, fun i hi => ?_⟩
  have hb := best4_lt x y z t
  have hl := oth_all _ hb
  have hg : ∀ j : Fin 4, 0 ≤ packG x y z t j ∧ packG x y z t j ≤ 1023 := fun j => by
    have := numC_b (overS (511 * (sg4 x y z t * sel4 j.val x y z t)) 759250125); unfold packG numS; omega
  unfold packL
  generalize oth (best4 x y z t) 4 = l at *
  match l, hl with
  | [a, b, c], _ =>
    have h1 := hg a; have h2 := hg b; have h3 := hg c
    simp at hi
    obtain rfl | rfl | rfl | rfl : i = 0 ∨ i = 1 ∨ i = 2 ∨ i = 3 := by omega
    · show (best4 x y z t : Int).toNat < 4; omega
    · show (packG x y z t a).toNat < 1024; omega
    · show (packG x y z t b).toNat < 1024; omega
    · show (packG x y z t c).toNat < 1024; omega

attribute [local go_sem] Oper.semAt_some
/-- The numbers that are there when pre has come. -/
def zsP (o : Nat) (G : Fin 4 → Int) (pre : List (Fin 4)) : List Int := (o : Int) :: pre.map G
theorem zsP_len (o : Nat) (G : Fin 4 → Int) (pre : List (Fin 4)) : (zsP o G pre).length = pre.length + 1 := by simp [zsP]
theorem zsP_next (o : Nat) (G : Fin 4 → Int) (pre : List (Fin 4)) (i : Fin 4) : zsP o G (pre ++ [i]) = zsP o G pre ++ [G i] := by simp [zsP]

set_option maxRecDepth 100000 in
set_option maxHeartbeats 4000000 in
theorem pack_any (x y z t : Int) (w : World) (p0 : B32 x) (p1 : B32 y) (p2 : B32 z) (p3 : B32 t) :
    Calls Try.prog 7 #[.agg #[.int .i32 x, .int .i32 y, .int .i32 z, .int .i32 t]] w fun e w' => e = .returned (packT x y z t) ∧ Below w.heap.size w w' := by
  have kU := fun w => isu_any x y z t w p0 p1 p2 p3
  by_cases cu : isU x y z t = true
  case neg =>
    have cu := Bool.not_eq_true _ ▸ cu
    have ht := hid (show packT x y z t = .tuple #[.int .u32 0, .bool false] by unfold packT; rw [cu]; rfl)
    have hd := hid cu
    unfold isU at hd
    clear cu
    refine calls_of_marks Try.func7 rfl ?_
    simp only [Try.ntmps7, List.size_toArray, List.length_cons, List.length_nil, Nat.reduceAdd, Nat.reduceSub, Array.replicate_succ, Array.replicate_zero, List.push_toArray, List.append_toArray, List.nil_append, List.cons_append]
    go_wp2_with fail
    refine (kU _).mono ?_
    rintro e w2 ⟨rfl, hst⟩
    rw [hd.out]
    replace hst := bthen ((Below.refl _ w).alloc (Nat.le_refl _) _) hst
    go_wp2_with fail
    refine marks_ret0 (v := packT x y z t) ?_ ⟨rfl, hst⟩
    rw [ht.out]
    simp [results, Try.results7, go_sem]
  have ht := hid (show packT x y z t = .tuple #[.int .u32 (joinV [2, 10, 10, 10] (packL x y z t) : Nat), .bool true] by unfold packT; rw [cu]; rfl)
  have hd := hid cu
  unfold isU at hd
  clear cu
  have kF := fun w => farthest_any x y z t w p0 p1 p2 p3
  have hsg := hid (fun i => sg4_b x y z t i p0 p1 p2 p3)
  clear p0 p1 p2 p3
  have ho := best4_lt x y z t
  have hs : Go.RowKit.Hid (sg4 x y z t = if sel4 (best4 x y z t) x y z t < 0 then -1 else 1) := hid rfl
  have kL : Go.RowKit.Hid (packL x y z t = (best4 x y z t : Int) :: (oth (best4 x y z t) 4).map (packG x y z t)) := hid rfl
  have hoa := hid (oth_all _ ho)
  generalize best4 x y z t = o at *
  refine calls_of_marks Try.func7 rfl ?_
  simp only [Try.ntmps7, List.size_toArray, List.length_cons, List.length_nil, Nat.reduceAdd, Nat.reduceSub, Array.replicate_succ, Array.replicate_zero, List.push_toArray, List.append_toArray, List.nil_append, List.cons_append]
  go_upto_region 0 with (fail)
  apply wp_region_seg0 (w := w) (S := [.al 1000, .q [], .q []]) (E := [.al ((fun p => .pointer (some ⟨p, 0, none⟩)), _) 1000, .q0 _, .q0 _]) rfl (by kernel_rfl) rfl rfl
  intro th hge hne
  refine Seg.step _ rfl ⟨by rfl, fun U hU => ?_⟩ ?_
  · go_simp; exact vp_alloc rfl rfl rfl
  refine ⟨_, by (simp only [Ent.val]; go_simp <;> exact rfl), ?_⟩
  refine Seg.step _ rfl (Or.inl ⟨by rfl, fun U hU => vp_quiet (by (go_simp <;> exact rfl))⟩) ⟨_, by (simp only [Ent.val]; go_simp <;> exact rfl), ?_⟩
  refine Seg.step _ rfl (Or.inl ⟨by rfl, fun U hU => vp_quiet (by (go_simp <;> exact rfl))⟩) ⟨_, by (simp only [Ent.val]; go_simp <;> exact rfl), ?_⟩
  refine Seg.stop (fun U1 hU hk => ?_)
  have nb0 := hge 0 _ _ rfl
  have rb0 := (hk 0 _ _ rfl trivial).1.2 (by simp)
  clear hk hge hne
  generalize th (0 + 0) = p0_0 at *
  dsimp only at rb0
  have r_p0_0 := rb0
  clear rb0
  have n_p0_0 := nb0
  clear nb0
  have sz1 := hU.size
  have hB : Below w.heap.size w U1 := hU
  clear hU
  go_upto_region 1 with (fail)
  apply wp_region_seg0 (w := U1) (S := [.q [], .q [], .q []]) (E := [.q0 _, .c0 _, .q0 _]) rfl (by kernel_rfl) rfl rfl
  intro th hge hne
  refine Seg.step _ rfl (Or.inl ⟨by rfl, fun U hU => vp_quiet (by (have h0 := held_cell (held_after hU.1 r_p0_0) 0 _ rfl; have h1 := held_cell (held_after hU.1 r_p0_0) 1 _ rfl; have h2 := held_cell (held_after hU.1 r_p0_0) 2 _ rfl; have h3 := held_cell (held_after hU.1 r_p0_0) 3 _ rfl; go_simp <;> exact rfl))⟩) ⟨_, by (simp only [Ent.val]; go_simp <;> exact rfl), ?_⟩
  refine Seg.step _ rfl (Or.inl ⟨by rfl, fun U hU => ?_⟩) ?_
  · go_simp
    refine vp_call (kU _)
  refine ⟨_, by (simp only [Ent.val]; go_simp <;> exact rfl), ?_⟩
  refine Seg.step _ rfl (Or.inl ⟨by rfl, fun U hU => vp_quiet (by (go_simp <;> exact rfl))⟩) ⟨_, by (simp only [Ent.val]; go_simp <;> exact rfl), ?_⟩
  refine Seg.stop (fun U2 hU hk => ?_)
  clear hk hge hne
  replace r_p0_0 := held_after hU r_p0_0
  have sz2 := hU.size
  replace hB := bthen hB hU
  clear hU
  rw [hd.out]
  go_upto_region 3 with (fail)
  apply wp_region_seg0 (w := U2) (S := [.q [], .q [], .q [], .q [], .q [], .q [], .q [], .q [], .q [], .al 10, .st 9 []]) (E := [.q0 _, .q0 _, .q0 _, .q0 _, .q0 _, .q0 _, .q0 _, .q0 _, .q0 _, .al ((fun p => .pointer (some ⟨p, 0, none⟩)), _) 10, .s0 9 (.cells _ _)]) rfl (by kernel_rfl) rfl rfl
  intro th hge hne
  refine Seg.step _ rfl (Or.inl ⟨by rfl, fun U hU => vp_quiet (by (go_simp <;> exact rfl))⟩) ⟨_, by (simp only [Ent.val]; go_simp <;> exact rfl), ?_⟩
  refine Seg.step _ rfl (Or.inl ⟨by rfl, fun U hU => vp_quiet (by (have h0 := held_cell (held_after hU.1 r_p0_0) 0 _ rfl; go_simp <;> exact rfl))⟩) ⟨_, by (simp only [Ent.val]; go_simp <;> exact rfl), ?_⟩
  refine Seg.step _ rfl (Or.inl ⟨by rfl, fun U hU => vp_quiet (by (go_simp <;> exact rfl))⟩) ⟨_, by (simp only [Ent.val]; go_simp <;> exact rfl), ?_⟩
  refine Seg.step _ rfl (Or.inl ⟨by rfl, fun U hU => vp_quiet (by (have h0 := held_cell (held_after hU.1 r_p0_0) 1 _ rfl; go_simp <;> exact rfl))⟩) ⟨_, by (simp only [Ent.val]; go_simp <;> exact rfl), ?_⟩
  refine Seg.step _ rfl (Or.inl ⟨by rfl, fun U hU => vp_quiet (by (go_simp <;> exact rfl))⟩) ⟨_, by (simp only [Ent.val]; go_simp <;> exact rfl), ?_⟩
  refine Seg.step _ rfl (Or.inl ⟨by rfl, fun U hU => vp_quiet (by (have h0 := held_cell (held_after hU.1 r_p0_0) 2 _ rfl; go_simp <;> exact rfl))⟩) ⟨_, by (simp only [Ent.val]; go_simp <;> exact rfl), ?_⟩
  refine Seg.step _ rfl (Or.inl ⟨by rfl, fun U hU => vp_quiet (by (go_simp <;> exact rfl))⟩) ⟨_, by (simp only [Ent.val]; go_simp <;> exact rfl), ?_⟩
  refine Seg.step _ rfl (Or.inl ⟨by rfl, fun U hU => vp_quiet (by (have h0 := held_cell (held_after hU.1 r_p0_0) 3 _ rfl; go_simp <;> exact rfl))⟩) ⟨_, by (simp only [Ent.val]; go_simp <;> exact rfl), ?_⟩
  refine Seg.step _ rfl (Or.inl ⟨by rfl, fun U hU => vp_quiet (by (go_simp <;> exact rfl))⟩) ⟨_, by (simp only [Ent.val]; go_simp <;> exact rfl), ?_⟩
  refine Seg.step _ rfl ⟨by rfl, fun U hU => ?_⟩ ?_
  · go_simp; exact vp_alloc rfl rfl rfl
  refine ⟨_, by (simp only [Ent.val]; go_simp <;> exact rfl), ?_⟩
  refine Seg.step _ rfl ⟨by rfl, fun U z k hz hU hc => ?_⟩ ?_
  · have hz2 := Option.some.inj hz
    cases hz2; clear hz
    exact vp_store_agg _ _ _ rfl hc rfl rfl (by kernel_rfl) rfl (by rfl)
  refine ⟨_, by (simp only [Ent.val]; go_simp <;> exact rfl), ?_⟩
  refine Seg.stop (fun U3 hU hk => ?_)
  have nb9 := hge 9 _ _ rfl
  have rb9 := (hk 9 _ 10 rfl trivial).1.1 trivial _ (Nat.zero_le _) rfl
  clear hk hge hne
  generalize th (0 + 9) = p3_9 at *
  simp only [Ent.obj] at rb9
  have df_p0_0_p3_9 : p0_0 ≠ p3_9 := by have := held_lt r_p0_0; omega
  replace r_p0_0 := held_after hU r_p0_0
  have r_p3_9 := rb9
  clear rb9
  have n_p3_9 := nb9
  clear nb9
  have sz3 := hU.size
  replace hB := bthen hB hU
  clear hU
  go_upto_region 4 with (fail)
  apply wp_region_seg0 (w := U3) (S := [.q [], .q [], .q []]) (E := [.q0 _, .c0 _, .q0 _]) rfl (by kernel_rfl) rfl rfl
  intro th hge hne
  refine Seg.step _ rfl (Or.inl ⟨by rfl, fun U hU => vp_quiet (by (have h0 := held_cell (held_after hU.1 r_p3_9) 0 _ rfl; have h1 := held_cell (held_after hU.1 r_p3_9) 1 _ rfl; have h2 := held_cell (held_after hU.1 r_p3_9) 2 _ rfl; have h3 := held_cell (held_after hU.1 r_p3_9) 3 _ rfl; go_simp <;> exact rfl))⟩) ⟨_, by (simp only [Ent.val]; go_simp <;> exact rfl), ?_⟩
  refine Seg.step _ rfl (Or.inl ⟨by rfl, fun U hU => ?_⟩) ?_
  · go_simp
    refine vp_call (kF _)
  refine ⟨_, by (simp only [Ent.val]; go_simp <;> exact rfl), ?_⟩
  refine Seg.step _ rfl (Or.inl ⟨by rfl, fun U hU => vp_quiet (by (go_simp <;> exact rfl))⟩) ⟨_, by (simp only [Ent.val]; go_simp <;> exact rfl), ?_⟩
  refine Seg.stop (fun U4 hU hk => ?_)
  clear hk hge hne
  replace r_p0_0 := held_after hU r_p0_0
  replace r_p3_9 := held_after hU r_p3_9
  have sz4 := hU.size
  replace hB := bthen hB hU
  clear hU
  go_upto_region 5 with (fail)
  apply wp_region_seg0 (w := U4) (S := [.al 1, .st 0 []]) (E := [.al ((fun p => .pointer (some ⟨p, 0, none⟩)), _) 1, .s0 0 (.cells _ _)]) rfl (by kernel_rfl) rfl rfl
  intro th hge hne
  refine Seg.step _ rfl ⟨by rfl, fun U hU => ?_⟩ ?_
  · go_simp; exact vp_alloc rfl rfl rfl
  refine ⟨_, by (simp only [Ent.val]; go_simp <;> exact rfl), ?_⟩
  refine Seg.step _ rfl ⟨by rfl, fun U z k hz hU hc => ?_⟩ ?_
  · have hz2 := Option.some.inj hz
    cases hz2; clear hz
    exact vp_store_one _ _ _ rfl hc rfl rfl (by kernel_rfl) rfl ⟨rfl, rfl⟩
  refine ⟨_, by (simp only [Ent.val]; go_simp <;> exact rfl), ?_⟩
  refine Seg.stop (fun U5 hU hk => ?_)
  have nb0 := hge 0 _ _ rfl
  have rb0 := (hk 0 _ 1 rfl trivial).1.1 trivial _ (Nat.zero_le _) rfl
  clear hk hge hne
  generalize th (0 + 0) = p5_0 at *
  simp only [Ent.obj] at rb0
  have df_p0_0_p5_0 : p0_0 ≠ p5_0 := by have := held_lt r_p0_0; omega
  have df_p3_9_p5_0 : p3_9 ≠ p5_0 := by have := held_lt r_p3_9; omega
  replace r_p0_0 := held_after hU r_p0_0
  replace r_p3_9 := held_after hU r_p3_9
  have r_p5_0 := rb0
  clear rb0
  have n_p5_0 := nb0
  clear nb0
  have sz5 := hU.size
  replace hB := bthen hB hU
  clear hU
  have dPS := df_p3_9_p5_0
  have ra : Row .i32 32 U5 p3_9 [x, y, z, t] := r_p3_9
  have hc := ra.cellAt o (show o < 4 from ho)
  rw [getD4 o x y z t ho] at hc
  have hs0 := held_cell r_p5_0 0 _ rfl
  have hs1 := held_free r_p5_0 0
  have hset := held_set r_p5_0 0 (.int .i64 (-1))
  replace ra := hid ra
  replace hset := hid hset
  replace hB := hid hB
  have nSG : w.heap.size ≤ p5_0 := by omega
  have rs := hid r_p5_0
  have rp := hid r_p3_9
  clear r_p5_0 r_p3_9
  have hsv : Go.RowKit.Hid (sel4 o x y z t = sel4 o x y z t) := hid rfl
  by_cases cn : sel4 o x y z t < 0
  · have esg : sg4 x y z t = -1 := by rw [hs.out, if_pos cn]
    replace esg := hid esg
    go_upto_region 8 with (fail)
    replace hB := hB.out.setCell (p := ⟨p5_0, 0, none⟩) nSG (.int .i64 (-1))
    have r_p5_0 := hset.out
    have r_p3_9 := rp.out
    replace r_p3_9 := (held_oth (j := 0) (v := .int .i64 (-1)) dPS r_p3_9)
    generalize U5.setCell ⟨p5_0, 0, none⟩ (.int .i64 (-1)) = V at *
    clear hset rs rp ra hc hs0 hs1
    have hwo : IntKind.u32.wrap (o : Int) = o := by simp [IntKind.wrap, IntKind.bits, IntKind.signed]; omega
    go_wp2_with fail
    refine (others_any _ _).mono ?_
    rintro e w3 ⟨rfl, rfl⟩
    go_wp2_with fail
    clear kU kF hd
    obtain ⟨qg, qL, qC, qz, qA⟩ := three_new V (.cells #[.int .u32 o] 24) (.cells #[.slice (some ⟨V.heap.size, 0, none⟩) 1 1] 37) (.cells #[.int .i64 o] 3)
    have hP := held_after qA r_p3_9
    have hS := held_after qA r_p5_0
    replace hB := bthen hB qA
    have hgw : w.heap.size ≤ V.heap.size := by have := hB.size; have := held_lt r_p3_9; omega
    have dL1 : p3_9 ≠ V.heap.size + 1 := by have := held_lt r_p3_9; omega
    have dL2 : p5_0 ≠ V.heap.size + 1 := by have := held_lt r_p5_0; omega
    generalize ((V.alloc (.cells #[.int .u32 o] 24)).alloc (.cells #[.slice (some ⟨V.heap.size, 0, none⟩) 1 1] 37)).alloc (.cells #[.int .i64 o] 3) = W0 at *
    clear qA r_p3_9 r_p5_0
    generalize V.heap.size = g at *
    have hltC : g + 1 + 1 < W0.heap.size := by omega
    have hcC := held_cell qC 0 _ rfl
    refine wp_rangeFunc_F (gf := 32) (lb := #[.pointer (some ⟨(g + 1 + 1), 0, none⟩)]) rfl (enters_of Try.func32 (by kernel_rfl) rfl) (others_stops 8 o ho (g + 1 + 1) W0 hltC hcC) (fun h k => kpAt_t h k) (kpAt_b hltC) (Below.refl _ _) (fun _ => rfl)
      (fun pre W => ∃ (ad : Option Addr) (cap : Nat), W.heap[g + 1]? = some (.cells #[.slice ad (zsP o (packG x y z t) pre).length cap] 37 (0, 0)) ∧ Own .u32 24 W w.heap.size (.slice ad (zsP o (packG x y z t) pre).length cap) (zsP o (packG x y z t) pre) ∧ W.heap[p3_9]? = some (.cells #[.int .i32 x, .int .i32 y, .int .i32 z, .int .i32 t] 32 (0, 0)) ∧ W.heap[p5_0]? = some (.cells #[.int .i64 (-1)] 2 (0, 0)) ∧ W.heap[g + 1 + 1]? = some (.cells #[.int .i64 o] 3 (0, 0)) ∧ Below w.heap.size w W) (fun _ _ _ => False) ?own ?ownx ?start (fun i => { tmps := #[.agg #[.int .i32 x, .int .i32 y, .int .i32 z, .int .i32 t], .pointer (some ⟨p0_0, 0, none⟩), .int .u32 0, .bool false, .pointer (some ⟨p3_9, 0, none⟩), .int .i64 o, .pointer (some ⟨p5_0, 0, none⟩), .pointer (some ⟨(g + 1), 0, none⟩), .int .i64 (i.val : Int), .agg #[.int .i32 x, .int .i32 y, .int .i32 z, .int .i32 t], .bool true, .bool false, .pointer (some ⟨p0_0, 0, none⟩), .int .i32 x, .pointer (some ⟨p0_0, 1, none⟩), .int .i32 y, .pointer (some ⟨p0_0, 2, none⟩), .int .i32 z, .pointer (some ⟨p0_0, 3, none⟩), .int .i32 t, .agg #[.int .i32 x, .int .i32 y, .int .i32 z, .int .i32 t], .agg #[.int .i32 x, .int .i32 y, .int .i32 z, .int .i32 t], .int .i64 o, .int .i64 o, .pointer (some ⟨p3_9, o, none⟩), .int .i32 (sel4 o x y z t), .bool true, .int .i64 o, .int .u32 o, .slice (some ⟨g, 0, none⟩) 1 1, .int .i64 o, .func (.func 32) #[] #[.pointer (some ⟨(g + 1 + 1), 0, none⟩)], .int .i64 (i.val : Int), undef, undef, undef, undef, undef, undef, undef, undef, undef, undef, undef, undef, undef, undef, undef], defers := [] }) ?assign ?body ?done ?stop
    case own =>
      rintro pre A B row ⟨ad, cap, k1, k2, k3, k4, k5, k6⟩ hg hr
      exact ⟨ad, cap, keeps_row k1 rfl hg hr, keeps_own k2 hg hr, keeps_row k3 rfl hg hr, keeps_row k4 rfl hg hr, keeps_row k5 rfl hg hr, keeps_below k6 (by omega) k6.size hg hr⟩
    case ownx => exact fun _ _ _ _ _ h _ _ => h
    case start => exact ⟨some ⟨g, 0, none⟩, 1, qL, Row.own (show Row .u32 24 W0 g [(o : Int)] from qg) _ hgw (by unfold maxLen; simp), hP, hS, qC, hB⟩
    case assign =>
      intro l i W K hK
      gi_wp2
      exact hK
    case stop =>
      rintro D c pre W _ _ h _
      exact h.elim
    case body =>
      rintro l pre ⟨i, hi⟩ W ⟨ad, cap, hL, hO, hP, hS, hC, hB⟩ hlen
      dsimp only
      apply wpIn_block
      have hsi := hsg.out i
      rw [esg.out] at hsi
      have hG := hid (show packG x y z t ⟨i, hi⟩ = numS (-sel4 i x y z t) by unfold packG; dsimp only; rw [esg.out]; congr 1; omega)
      have hvb : -2147483648 ≤ sel4 i x y z t ∧ sel4 i x y z t ≤ 2147483648 := by omega
      have hw1 : IntKind.i64.wrap (sel4 i x y z t) = sel4 i x y z t := by rw [IntKind.wrap_i64]; omega
      have hw2 : IntKind.i64.wrap (-sel4 i x y z t) = -sel4 i x y z t := by rw [IntKind.wrap_i64]; omega
      have hzl := hid (zsP_len o (packG x y z t) pre)
      have hnx := hid (zsP_next o (packG x y z t) pre ⟨i, hi⟩)
      have hC0 := hid hC
      have hO2 := hid hO
      have hB2 := hid hB
      have hi4 : (i : Int) < 4 := by omega
      clear hO hB
      apply wpIn_region_part (w := W) (S := [.q [], .q [], .q [], .q [], .q [], .q [], .q [], .q [], .al 1000]) (E := [.q0 _, .q0 _, .q0 _, .q0 _, .q0 _, .q0 _, .q0 _, .c0 _, .al ((fun p => .slice (some ⟨p, 0, none⟩) 1 1), _) 1000]) 9 2 (by kernel_rfl) (fun ⟨_, _, h⟩ => h) (by kernel_rfl) rfl (by kernel_rfl) rfl rfl rfl
      intro th hge hne
      refine Seg.step _ rfl (Or.inl ⟨by rfl, fun U hU => vp_quiet (by (have h0 := held_cell (held_after hU.1 hL) 0 _ rfl; go_simp <;> exact rfl))⟩) ⟨_, by (simp only [Ent.val]; go_simp <;> exact rfl), ?_⟩
      refine Seg.step _ rfl (Or.inl ⟨by rfl, fun U hU => vp_quiet (by (have h0 := held_cell (held_after hU.1 hS) 0 _ rfl; go_simp <;> exact rfl))⟩) ⟨_, by (simp only [Ent.val]; go_simp <;> exact rfl), ?_⟩
      refine Seg.step _ rfl (Or.inl ⟨by rfl, fun U hU => vp_quiet (by (go_simp <;> exact rfl))⟩) ⟨_, by (simp only [Ent.val]; go_simp <;> exact rfl), ?_⟩
      refine Seg.step _ rfl (Or.inl ⟨by rfl, fun U hU => vp_quiet (by (go_simp <;> exact rfl))⟩) ⟨_, by (simp only [Ent.val]; go_simp <;> exact rfl), ?_⟩
      refine Seg.step _ rfl (Or.inl ⟨by rfl, fun U hU => vp_quiet (by (have h0 := Row.cellAt (k := .i32) (zs := [x, y, z, t]) (show Row .i32 32 _ _ [x, y, z, t] from held_after hU.1 hP) i hi; rw [getD4 i x y z t hi] at h0; go_simp <;> exact rfl))⟩) ⟨_, by (simp only [Ent.val]; go_simp <;> exact rfl), ?_⟩
      refine Seg.step _ rfl (Or.inl ⟨by rfl, fun U hU => vp_quiet (by (go_simp <;> exact rfl))⟩) ⟨_, by (simp only [Ent.val]; go_simp <;> exact rfl), ?_⟩
      refine Seg.step _ rfl (Or.inl ⟨by rfl, fun U hU => vp_quiet (by (go_simp <;> exact rfl))⟩) ⟨_, by (simp only [Ent.val]; go_simp <;> exact rfl), ?_⟩
      refine Seg.step _ rfl (Or.inl ⟨by rfl, fun U hU => ?_⟩) ?_
      · go_simp
        refine vp_calld (number_any _ _ (by omega) (by omega))
      refine ⟨_, by (simp only [Ent.val]; go_simp <;> exact rfl), ?_⟩
      refine Seg.step _ rfl ⟨by rfl, fun U hU => ?_⟩ ?_
      · go_simp; exact vp_alloc rfl rfl rfl
      refine ⟨_, by (simp only [Ent.val]; go_simp <;> exact rfl), ?_⟩
      refine Seg.stop (fun U11 hU hk => ?_)
      have nb8 := hge 8 _ _ rfl
      have rb8 := (hk 8 _ _ rfl trivial).1.2 (by simp)
      clear hk hge hne
      generalize th (0 + 8) = p11_8 at *
      dsimp only at rb8
      replace hP := held_after hU hP
      replace hS := held_after hU hS
      replace hL := held_after hU hL
      have r_p11_8 := rb8
      clear rb8
      have n_p11_8 := nb8
      clear nb8
      have sz11 := hU.size
      have hB : Below W.heap.size W U11 := hU
      have hC := held_after hU hC
      have hO := hO2.out.below hU
      have kA := keepsOthers_after hU
      have hB := bthen hB2.out hU
      clear hO2 hB2 hU
      rw [← hG.out] at r_p11_8
      have hzs : (zsP o (packG x y z t) pre).length + 1 ≤ 140737488355328 / 4 := by rw [hzl.out]; omega
      refine Seg.only (m := 9) (k := 1) rfl (by kernel_rfl) (by rfl) (fun K hK => ?_)
      refine wp_app1 (.tmp 33) (.tmp 41) 37 rfl w.heap.size 24 .u32 4 u32s _ _ rfl hO p11_8 _ _ rfl r_p11_8 hzs (by omega) (hB.size) ?_
      intro a9 cap9 w9 hO9 hg9
      refine hK _ _ ?_
      clear hK
      have hL9 := held_grown hL hg9 (own_ne hO hL (by decide))
      have hP9 := held_grown hP hg9 (own_ne hO hP (by decide))
      have hS9 := held_grown hS hg9 (own_ne hO hS (by decide))
      have hC9 := held_grown hC hg9 (own_ne hO hC (by decide))
      have hB9 := hO.grew hg9 hB (Nat.le_refl _) hB.size
      have kA9 := kA.trans (KeepsOthers.of_grownBy hg9 (fun j ob e hj => own_cells hO e hj))
      clear hO hg9 hL hP hS hC
      rw [← hnx.out] at hO9
      have hc9 := held_cell hL9 0 _ rfl
      have hf9 := held_free hL9 0
      replace hO9 := hid hO9
      replace hB9 := hid hB9
      refine Seg.only (m := 10) (k := 0) rfl (by kernel_rfl) (by rfl) (fun K hK => ?_)
      go_simp
      refine hK _ _ (Seg.finish ?_ _)
      clear hK
      have hsz : (zsP o (packG x y z t) pre).length + 1 = (zsP o (packG x y z t) (pre ++ [⟨i, hi⟩])).length := by rw [hnx.out, List.length_append]; rfl
      rw [hsz] at hO9 ⊢
      refine ⟨kA9.trans (KeepsOthers.setCell _ _ _), ⟨?_, ?_⟩, a9, cap9, held_set hL9 0 _, hO9.out.oth hL9 (by decide) 0 _, held_oth dL1 hP9, held_oth dL2 hS9, held_oth (by omega) hC9, hB9.out.setCell (p := ⟨g + 1, 0, none⟩) (by show _ ≤ g + 1; omega) _⟩
      · have := kA9.size; simpa [World.setCell] using this
      · rw [show _ = _ from held_oth (show g + 1 + 1 ≠ g + 1 by omega) hC9]; exact hC0.out.symm
    case done =>
      rintro D ys W hD rfl ⟨ad, cap, hL, hO, hP, hS, hC, hB⟩ hK
      have ez : zsP o (packG x y z t) (oth o 4) = packL x y z t := kL.out.symm
      rw [ez] at hL hO
      have hl4 : (packL x y z t).length ≤ 4 := by rw [packL_len]; exact Nat.le_refl _
      have hwf := hid (packL_wf x y z t)
      have hok := pack_fits x y z t
      clear ez kL hs hsg hoa esg qg qL qC hP hS hC
      generalize packL x y z t = zs at *
      obtain ⟨bd, cb, hv, hsl⟩ := hO.sl
      cases hv
      have hrow := World.alloc_heap_new W (.cells #[.int .i64 2, .int .i64 10, .int .i64 10, .int .i64 10] 3)
      have hA : After W (W.alloc (.cells #[.int .i64 2, .int .i64 10, .int .i64 10, .int .i64 10] 3)) := (Below.refl _ W).alloc (Nat.le_refl _) _
      have kJ := join_any (some ⟨W.heap.size, 0, none⟩) ad 4 4 zs.length cap [2, 10, 10, 10] zs _ (Row.sl (show Row .i64 3 _ _ [2, 10, 10, 10] from hrow) (by unfold maxLen; simp)) (by decide) (by omega) (hsl.below hA) hwf.out (by omega)
      replace hK := hid (held_after hA hK)
      replace hB := hid (bthen hB hA)
      have hcl := held_cell (held_after hA hL) 0 _ rfl
      clear hsl hA hrow hO hL
      go_wp2_with fail
      refine kJ.mono ?_
      rintro e w5 ⟨rfl, hb5⟩
      replace hK := held_after hb5 hK.out
      replace hB := bthen hB.out hb5
      replace hK := hid hK
      replace hB := hid hB
      go_wp2_with fail
      refine marks_ret1 (v := packT x y z t) hK.out ?_ ⟨rfl, below_mark hB.out (by omega) hD hK.out⟩
      rw [ht.out]
      simp [results, Try.results7, go_sem]
  · have esg : sg4 x y z t = 1 := by rw [hs.out, if_neg cn]
    replace esg := hid esg
    go_upto_region 8 with (fail)
    replace hB := hB.out
    have r_p5_0 := rs.out
    have r_p3_9 := rp.out
    clear hset rs rp ra hc hs0 hs1
    have hwo : IntKind.u32.wrap (o : Int) = o := by simp [IntKind.wrap, IntKind.bits, IntKind.signed]; omega
    go_wp2_with fail
    refine (others_any _ _).mono ?_
    rintro e w3 ⟨rfl, rfl⟩
    go_wp2_with fail
    clear kU kF hd
    obtain ⟨qg, qL, qC, qz, qA⟩ := three_new U5 (.cells #[.int .u32 o] 24) (.cells #[.slice (some ⟨U5.heap.size, 0, none⟩) 1 1] 37) (.cells #[.int .i64 o] 3)
    have hP := held_after qA r_p3_9
    have hS := held_after qA r_p5_0
    replace hB := bthen hB qA
    have hgw : w.heap.size ≤ U5.heap.size := by have := hB.size; have := held_lt r_p3_9; omega
    have dL1 : p3_9 ≠ U5.heap.size + 1 := by have := held_lt r_p3_9; omega
    have dL2 : p5_0 ≠ U5.heap.size + 1 := by have := held_lt r_p5_0; omega
    generalize ((U5.alloc (.cells #[.int .u32 o] 24)).alloc (.cells #[.slice (some ⟨U5.heap.size, 0, none⟩) 1 1] 37)).alloc (.cells #[.int .i64 o] 3) = W0 at *
    clear qA r_p3_9 r_p5_0
    generalize U5.heap.size = g at *
    have hltC : g + 1 + 1 < W0.heap.size := by omega
    have hcC := held_cell qC 0 _ rfl
    refine wp_rangeFunc_F (gf := 32) (lb := #[.pointer (some ⟨(g + 1 + 1), 0, none⟩)]) rfl (enters_of Try.func32 (by kernel_rfl) rfl) (others_stops 8 o ho (g + 1 + 1) W0 hltC hcC) (fun h k => kpAt_t h k) (kpAt_b hltC) (Below.refl _ _) (fun _ => rfl)
      (fun pre W => ∃ (ad : Option Addr) (cap : Nat), W.heap[g + 1]? = some (.cells #[.slice ad (zsP o (packG x y z t) pre).length cap] 37 (0, 0)) ∧ Own .u32 24 W w.heap.size (.slice ad (zsP o (packG x y z t) pre).length cap) (zsP o (packG x y z t) pre) ∧ W.heap[p3_9]? = some (.cells #[.int .i32 x, .int .i32 y, .int .i32 z, .int .i32 t] 32 (0, 0)) ∧ W.heap[p5_0]? = some (.cells #[.int .i64 (1)] 2 (0, 0)) ∧ W.heap[g + 1 + 1]? = some (.cells #[.int .i64 o] 3 (0, 0)) ∧ Below w.heap.size w W) (fun _ _ _ => False) ?own ?ownx ?start (fun i => { tmps := #[.agg #[.int .i32 x, .int .i32 y, .int .i32 z, .int .i32 t], .pointer (some ⟨p0_0, 0, none⟩), .int .u32 0, .bool false, .pointer (some ⟨p3_9, 0, none⟩), .int .i64 o, .pointer (some ⟨p5_0, 0, none⟩), .pointer (some ⟨(g + 1), 0, none⟩), .int .i64 (i.val : Int), .agg #[.int .i32 x, .int .i32 y, .int .i32 z, .int .i32 t], .bool true, .bool false, .pointer (some ⟨p0_0, 0, none⟩), .int .i32 x, .pointer (some ⟨p0_0, 1, none⟩), .int .i32 y, .pointer (some ⟨p0_0, 2, none⟩), .int .i32 z, .pointer (some ⟨p0_0, 3, none⟩), .int .i32 t, .agg #[.int .i32 x, .int .i32 y, .int .i32 z, .int .i32 t], .agg #[.int .i32 x, .int .i32 y, .int .i32 z, .int .i32 t], .int .i64 o, .int .i64 o, .pointer (some ⟨p3_9, o, none⟩), .int .i32 (sel4 o x y z t), .bool false, .int .i64 o, .int .u32 o, .slice (some ⟨g, 0, none⟩) 1 1, .int .i64 o, .func (.func 32) #[] #[.pointer (some ⟨(g + 1 + 1), 0, none⟩)], .int .i64 (i.val : Int), undef, undef, undef, undef, undef, undef, undef, undef, undef, undef, undef, undef, undef, undef, undef], defers := [] }) ?assign ?body ?done ?stop
    case own =>
      rintro pre A B row ⟨ad, cap, k1, k2, k3, k4, k5, k6⟩ hg hr
      exact ⟨ad, cap, keeps_row k1 rfl hg hr, keeps_own k2 hg hr, keeps_row k3 rfl hg hr, keeps_row k4 rfl hg hr, keeps_row k5 rfl hg hr, keeps_below k6 (by omega) k6.size hg hr⟩
    case ownx => exact fun _ _ _ _ _ h _ _ => h
    case start => exact ⟨some ⟨g, 0, none⟩, 1, qL, Row.own (show Row .u32 24 W0 g [(o : Int)] from qg) _ hgw (by unfold maxLen; simp), hP, hS, qC, hB⟩
    case assign =>
      intro l i W K hK
      gi_wp2
      exact hK
    case stop =>
      rintro D c pre W _ _ h _
      exact h.elim
    case body =>
      rintro l pre ⟨i, hi⟩ W ⟨ad, cap, hL, hO, hP, hS, hC, hB⟩ hlen
      dsimp only
      apply wpIn_block
      have hsi := hsg.out i
      rw [esg.out] at hsi
      have hG := hid (show packG x y z t ⟨i, hi⟩ = numS (sel4 i x y z t) by unfold packG; dsimp only; rw [esg.out]; congr 1; omega)
      have hvb : -2147483648 ≤ sel4 i x y z t ∧ sel4 i x y z t ≤ 2147483648 := by omega
      have hw1 : IntKind.i64.wrap (sel4 i x y z t) = sel4 i x y z t := by rw [IntKind.wrap_i64]; omega
      have hw2 : IntKind.i64.wrap (-sel4 i x y z t) = -sel4 i x y z t := by rw [IntKind.wrap_i64]; omega
      have hzl := hid (zsP_len o (packG x y z t) pre)
      have hnx := hid (zsP_next o (packG x y z t) pre ⟨i, hi⟩)
      have hC0 := hid hC
      have hO2 := hid hO
      have hB2 := hid hB
      have hi4 : (i : Int) < 4 := by omega
      clear hO hB
      apply wpIn_region_part (w := W) (S := [.q [], .q [], .q [], .q [], .q [], .q [], .q [], .q [], .al 1000]) (E := [.q0 _, .q0 _, .q0 _, .q0 _, .q0 _, .q0 _, .q0 _, .c0 _, .al ((fun p => .slice (some ⟨p, 0, none⟩) 1 1), _) 1000]) 9 2 (by kernel_rfl) (fun ⟨_, _, h⟩ => h) (by kernel_rfl) rfl (by kernel_rfl) rfl rfl rfl
      intro th hge hne
      refine Seg.step _ rfl (Or.inl ⟨by rfl, fun U hU => vp_quiet (by (have h0 := held_cell (held_after hU.1 hL) 0 _ rfl; go_simp <;> exact rfl))⟩) ⟨_, by (simp only [Ent.val]; go_simp <;> exact rfl), ?_⟩
      refine Seg.step _ rfl (Or.inl ⟨by rfl, fun U hU => vp_quiet (by (have h0 := held_cell (held_after hU.1 hS) 0 _ rfl; go_simp <;> exact rfl))⟩) ⟨_, by (simp only [Ent.val]; go_simp <;> exact rfl), ?_⟩
      refine Seg.step _ rfl (Or.inl ⟨by rfl, fun U hU => vp_quiet (by (go_simp <;> exact rfl))⟩) ⟨_, by (simp only [Ent.val]; go_simp <;> exact rfl), ?_⟩
      refine Seg.step _ rfl (Or.inl ⟨by rfl, fun U hU => vp_quiet (by (go_simp <;> exact rfl))⟩) ⟨_, by (simp only [Ent.val]; go_simp <;> exact rfl), ?_⟩
      refine Seg.step _ rfl (Or.inl ⟨by rfl, fun U hU => vp_quiet (by (have h0 := Row.cellAt (k := .i32) (zs := [x, y, z, t]) (show Row .i32 32 _ _ [x, y, z, t] from held_after hU.1 hP) i hi; rw [getD4 i x y z t hi] at h0; go_simp <;> exact rfl))⟩) ⟨_, by (simp only [Ent.val]; go_simp <;> exact rfl), ?_⟩
      refine Seg.step _ rfl (Or.inl ⟨by rfl, fun U hU => vp_quiet (by (go_simp <;> exact rfl))⟩) ⟨_, by (simp only [Ent.val]; go_simp <;> exact rfl), ?_⟩
      refine Seg.step _ rfl (Or.inl ⟨by rfl, fun U hU => vp_quiet (by (go_simp <;> exact rfl))⟩) ⟨_, by (simp only [Ent.val]; go_simp <;> exact rfl), ?_⟩
      refine Seg.step _ rfl (Or.inl ⟨by rfl, fun U hU => ?_⟩) ?_
      · go_simp
        refine vp_calld (number_any _ _ (by omega) (by omega))
      refine ⟨_, by (simp only [Ent.val]; go_simp <;> exact rfl), ?_⟩
      refine Seg.step _ rfl ⟨by rfl, fun U hU => ?_⟩ ?_
      · go_simp; exact vp_alloc rfl rfl rfl
      refine ⟨_, by (simp only [Ent.val]; go_simp <;> exact rfl), ?_⟩
      refine Seg.stop (fun U11 hU hk => ?_)
      have nb8 := hge 8 _ _ rfl
      have rb8 := (hk 8 _ _ rfl trivial).1.2 (by simp)
      clear hk hge hne
      generalize th (0 + 8) = p11_8 at *
      dsimp only at rb8
      replace hP := held_after hU hP
      replace hS := held_after hU hS
      replace hL := held_after hU hL
      have r_p11_8 := rb8
      clear rb8
      have n_p11_8 := nb8
      clear nb8
      have sz11 := hU.size
      have hB : Below W.heap.size W U11 := hU
      have hC := held_after hU hC
      have hO := hO2.out.below hU
      have kA := keepsOthers_after hU
      have hB := bthen hB2.out hU
      clear hO2 hB2 hU
      rw [← hG.out] at r_p11_8
      have hzs : (zsP o (packG x y z t) pre).length + 1 ≤ 140737488355328 / 4 := by rw [hzl.out]; omega
      refine Seg.only (m := 9) (k := 1) rfl (by kernel_rfl) (by rfl) (fun K hK => ?_)
      refine wp_app1 (.tmp 33) (.tmp 41) 37 rfl w.heap.size 24 .u32 4 u32s _ _ rfl hO p11_8 _ _ rfl r_p11_8 hzs (by omega) (hB.size) ?_
      intro a9 cap9 w9 hO9 hg9
      refine hK _ _ ?_
      clear hK
      have hL9 := held_grown hL hg9 (own_ne hO hL (by decide))
      have hP9 := held_grown hP hg9 (own_ne hO hP (by decide))
      have hS9 := held_grown hS hg9 (own_ne hO hS (by decide))
      have hC9 := held_grown hC hg9 (own_ne hO hC (by decide))
      have hB9 := hO.grew hg9 hB (Nat.le_refl _) hB.size
      have kA9 := kA.trans (KeepsOthers.of_grownBy hg9 (fun j ob e hj => own_cells hO e hj))
      clear hO hg9 hL hP hS hC
      rw [← hnx.out] at hO9
      have hc9 := held_cell hL9 0 _ rfl
      have hf9 := held_free hL9 0
      replace hO9 := hid hO9
      replace hB9 := hid hB9
      refine Seg.only (m := 10) (k := 0) rfl (by kernel_rfl) (by rfl) (fun K hK => ?_)
      go_simp
      refine hK _ _ (Seg.finish ?_ _)
      clear hK
      have hsz : (zsP o (packG x y z t) pre).length + 1 = (zsP o (packG x y z t) (pre ++ [⟨i, hi⟩])).length := by rw [hnx.out, List.length_append]; rfl
      rw [hsz] at hO9 ⊢
      refine ⟨kA9.trans (KeepsOthers.setCell _ _ _), ⟨?_, ?_⟩, a9, cap9, held_set hL9 0 _, hO9.out.oth hL9 (by decide) 0 _, held_oth dL1 hP9, held_oth dL2 hS9, held_oth (by omega) hC9, hB9.out.setCell (p := ⟨g + 1, 0, none⟩) (by show _ ≤ g + 1; omega) _⟩
      · have := kA9.size; simpa [World.setCell] using this
      · rw [show _ = _ from held_oth (show g + 1 + 1 ≠ g + 1 by omega) hC9]; exact hC0.out.symm
    case done =>
      rintro D ys W hD rfl ⟨ad, cap, hL, hO, hP, hS, hC, hB⟩ hK
      have ez : zsP o (packG x y z t) (oth o 4) = packL x y z t := kL.out.symm
      rw [ez] at hL hO
      have hl4 : (packL x y z t).length ≤ 4 := by rw [packL_len]; exact Nat.le_refl _
      have hwf := hid (packL_wf x y z t)
      have hok := pack_fits x y z t
      clear ez kL hs hsg hoa esg qg qL qC hP hS hC
      generalize packL x y z t = zs at *
      obtain ⟨bd, cb, hv, hsl⟩ := hO.sl
      cases hv
      have hrow := World.alloc_heap_new W (.cells #[.int .i64 2, .int .i64 10, .int .i64 10, .int .i64 10] 3)
      have hA : After W (W.alloc (.cells #[.int .i64 2, .int .i64 10, .int .i64 10, .int .i64 10] 3)) := (Below.refl _ W).alloc (Nat.le_refl _) _
      have kJ := join_any (some ⟨W.heap.size, 0, none⟩) ad 4 4 zs.length cap [2, 10, 10, 10] zs _ (Row.sl (show Row .i64 3 _ _ [2, 10, 10, 10] from hrow) (by unfold maxLen; simp)) (by decide) (by omega) (hsl.below hA) hwf.out (by omega)
      replace hK := hid (held_after hA hK)
      replace hB := hid (bthen hB hA)
      have hcl := held_cell (held_after hA hL) 0 _ rfl
      clear hsl hA hrow hO hL
      go_wp2_with fail
      refine kJ.mono ?_
      rintro e w5 ⟨rfl, hb5⟩
      replace hK := held_after hb5 hK.out
      replace hB := bthen hB.out hb5
      replace hK := hid hK
      replace hB := hid hB
      go_wp2_with fail
      refine marks_ret1 (v := packT x y z t) hK.out ?_ ⟨rfl, below_mark hB.out (by omega) hD hK.out⟩
      rw [ht.out]
      simp [results, Try.results7, go_sem]

end Go.Proofs.Ytnabfimammojhaa
