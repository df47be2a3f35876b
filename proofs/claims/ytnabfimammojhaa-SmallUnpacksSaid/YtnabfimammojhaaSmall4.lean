/- The reference of package small: Pack. -/
import Derived.Test.YtnabfimammojhaaSmall3
namespace Go.Proofs.Ytnabfimammojhaa
open Go.ChangeShapes Go.WideShapes Go.ChangeAt Go.RowKit Go.Shelf
set_option linter.unusedVariables false

theorem bst_up {f : Nat → Int} {k : Nat} (h : f (bst f k) < f (k + 1)) : bst f (k + 1) = k + 1 := if_pos h
theorem bst_no {f : Nat → Int} {k : Nat} (h : ¬ f (bst f k) < f (k + 1)) : bst f (k + 1) = bst f k := if_neg h
theorem zsP_same {o k : Nat} {G : Fin 4 → Int} (h : k = o) : zsP o G (oth o (k + 1)) = zsP o G (oth o k) := by rw [oth_same h]
theorem zsP_more {o k : Nat} {G : Fin 4 → Int} (hk : k < 4) (h : k ≠ o) : zsP o G (oth o (k + 1)) = zsP o G (oth o k) ++ [G ⟨k, hk⟩] := by rw [oth_next hk h, zsP_next]
theorem oth_le : ∀ o : Nat, o < 4 → ∀ k : Nat, k < 5 → (oth o k).length ≤ 4 := by decide

set_option maxRecDepth 100000 in
set_option maxHeartbeats 4000000 in
theorem rpack_any (x y z t : Int) (w : World) (p0 : B32 x) (p1 : B32 y) (p2 : B32 z) (p3 : B32 t) :
    Calls Try.prog 8 #[.agg #[.int .i32 x, .int .i32 y, .int .i32 z, .int .i32 t]] w fun e w' => e = .returned (packT x y z t) ∧ Below w.heap.size w w' := by
  have kU := fun w => risu_any x y z t w p0 p1 p2 p3
  by_cases cu : isU x y z t = true
  case neg =>
    have cu := Bool.not_eq_true _ ▸ cu
    have ht := hid (show packT x y z t = .tuple #[.int .u32 0, .bool false] by unfold packT; rw [cu]; rfl)
    have hd := hid cu
    unfold isU at hd
    clear cu
    go_enter Try.func8, Try.ntmps8
    go_wp2_with fail
    refine (kU _).mono ?_
    rintro e w2 ⟨rfl, hst⟩
    rw [hd.out]
    replace hst := bthen ((Below.refl _ w).alloc (Nat.le_refl _) _) hst
    go_wp2_with fail
    refine bodyPost_ret (v := packT x y z t) ?_ rfl ⟨rfl, hst⟩
    rw [ht.out]
    simp [results, Try.results8, go_sem]
  have ht := hid (show packT x y z t = .tuple #[.int .u32 (joinV [2, 10, 10, 10] (packL x y z t) : Nat), .bool true] by unfold packT; rw [cu]; rfl)
  have hd := hid cu
  unfold isU at hd
  clear cu
  have hsg := hid (fun i => sg4_b x y z t i p0 p1 p2 p3)
  have hsb := hid (fun k => sel4_b k p0 p1 p2 p3)
  clear p0 p1 p2 p3
  go_enter Try.func8, Try.ntmps8
  go_upto_region 0 with (fail)
  apply wp_region_seg0 (w := w) (S := [.al 1000, .q [], .q []]) (E := [.al ((fun p => .pointer (some ⟨p, 0, none⟩)), _) 1000, .q0 _, .q0 _]) rfl (by kernel_rfl) rfl rfl
  intro th hge hne
  refine Seg.step _ rfl ⟨by rfl, fun U hU => ?_⟩ ?_
  · go_simp; exact vp_alloc rfl rfl rfl
  refine ⟨_, by (simp only [Ent.val]; go_simp <;> exact rfl), ?_⟩
  refine Seg.step _ rfl (Or.inl ⟨by rfl, fun U hU => vp_quiet (by (go_simp <;> exact rfl))⟩) ⟨_, by (simp only [Ent.val]; go_simp <;> exact rfl), ?_⟩
  refine Seg.step _ rfl (Or.inl ⟨by rfl, fun U hU => vp_quiet (by (go_simp <;> exact rfl))⟩) ⟨_, by (simp only [Ent.val]; go_simp <;> exact rfl), ?_⟩
  refine Seg.stop (fun U1 hU hk => ?_)
  have nb0 := hge 0 _ _ rfl
  have rb0 := (hk 0 _ _ rfl trivial).1.2 (by simp)
  clear hk hge hne
  generalize th (0 + 0) = p0_0 at *
  dsimp only at rb0
  have r_p0_0 := rb0
  clear rb0
  have n_p0_0 := nb0
  clear nb0
  have sz1 := hU.size
  have hB : Below w.heap.size w U1 := hU
  clear hU
  go_upto_region 1 with (fail)
  apply wp_region_seg0 (w := U1) (S := [.q [], .q [], .q []]) (E := [.q0 _, .c0 _, .q0 _]) rfl (by kernel_rfl) rfl rfl
  intro th hge hne
  refine Seg.step _ rfl (Or.inl ⟨by rfl, fun U hU => vp_quiet (by (have h0 := held_cell (held_after hU.1 r_p0_0) 0 _ rfl; have h1 := held_cell (held_after hU.1 r_p0_0) 1 _ rfl; have h2 := held_cell (held_after hU.1 r_p0_0) 2 _ rfl; have h3 := held_cell (held_after hU.1 r_p0_0) 3 _ rfl; go_simp <;> exact rfl))⟩) ⟨_, by (simp only [Ent.val]; go_simp <;> exact rfl), ?_⟩
  refine Seg.step _ rfl (Or.inl ⟨by rfl, fun U hU => ?_⟩) ?_
  · go_simp
    refine vp_call (kU _)
  refine ⟨_, by (simp only [Ent.val]; go_simp <;> exact rfl), ?_⟩
  refine Seg.step _ rfl (Or.inl ⟨by rfl, fun U hU => vp_quiet (by (go_simp <;> exact rfl))⟩) ⟨_, by (simp only [Ent.val]; go_simp <;> exact rfl), ?_⟩
  refine Seg.stop (fun U2 hU hk => ?_)
  clear hk hge hne
  replace r_p0_0 := held_after hU r_p0_0
  have sz2 := hU.size
  replace hB := bthen hB hU
  clear hU
  rw [hd.out]
  go_upto_region 3 with (fail)
  apply wp_region_seg0 (w := U2) (S := [.q [], .q [], .q [], .q [], .q [], .q [], .q [], .q [], .al 1000, .q [8]]) (E := [.q0 _, .q0 _, .q0 _, .q0 _, .q0 _, .q0 _, .q0 _, .q0 _, .al ((fun p => .slice (some ⟨p, 0, none⟩) 4 4), _) 1000, .q1 8 (fun p => .slice (some ⟨p, 0, none⟩) 4 4)]) rfl (by kernel_rfl) rfl rfl
  intro th hge hne
  refine Seg.step _ rfl (Or.inl ⟨by rfl, fun U hU => vp_quiet (by (go_simp <;> exact rfl))⟩) ⟨_, by (simp only [Ent.val]; go_simp <;> exact rfl), ?_⟩
  refine Seg.step _ rfl (Or.inl ⟨by rfl, fun U hU => vp_quiet (by (have h0 := held_cell (held_after hU.1 r_p0_0) 0 _ rfl; go_simp <;> exact rfl))⟩) ⟨_, by (simp only [Ent.val]; go_simp <;> exact rfl), ?_⟩
  refine Seg.step _ rfl (Or.inl ⟨by rfl, fun U hU => vp_quiet (by (go_simp <;> exact rfl))⟩) ⟨_, by (simp only [Ent.val]; go_simp <;> exact rfl), ?_⟩
  refine Seg.step _ rfl (Or.inl ⟨by rfl, fun U hU => vp_quiet (by (have h0 := held_cell (held_after hU.1 r_p0_0) 1 _ rfl; go_simp <;> exact rfl))⟩) ⟨_, by (simp only [Ent.val]; go_simp <;> exact rfl), ?_⟩
  refine Seg.step _ rfl (Or.inl ⟨by rfl, fun U hU => vp_quiet (by (go_simp <;> exact rfl))⟩) ⟨_, by (simp only [Ent.val]; go_simp <;> exact rfl), ?_⟩
  refine Seg.step _ rfl (Or.inl ⟨by rfl, fun U hU => vp_quiet (by (have h0 := held_cell (held_after hU.1 r_p0_0) 2 _ rfl; go_simp <;> exact rfl))⟩) ⟨_, by (simp only [Ent.val]; go_simp <;> exact rfl), ?_⟩
  refine Seg.step _ rfl (Or.inl ⟨by rfl, fun U hU => vp_quiet (by (go_simp <;> exact rfl))⟩) ⟨_, by (simp only [Ent.val]; go_simp <;> exact rfl), ?_⟩
  refine Seg.step _ rfl (Or.inl ⟨by rfl, fun U hU => vp_quiet (by (have h0 := held_cell (held_after hU.1 r_p0_0) 3 _ rfl; go_simp <;> exact rfl))⟩) ⟨_, by (simp only [Ent.val]; go_simp <;> exact rfl), ?_⟩
  refine Seg.step _ rfl ⟨by rfl, fun U hU => ?_⟩ ?_
  · go_simp; exact vp_alloc rfl rfl rfl
  refine ⟨_, by (simp only [Ent.val]; go_simp <;> exact rfl), ?_⟩
  refine Seg.step _ rfl (Or.inl ⟨by rfl, fun U hU => vp_quiet (by (go_simp <;> exact rfl))⟩) ⟨_, by (simp only [Ent.val]; go_simp <;> exact rfl), ?_⟩
  refine Seg.stop (fun U3 hU hk => ?_)
  have nb8 := hge 8 _ _ rfl
  have rb8 := (hk 8 _ _ rfl trivial).1.2 (by simp)
  clear hk hge hne
  generalize th (0 + 8) = p3_8 at *
  dsimp only at rb8
  have df_p0_0_p3_8 : p0_0 ≠ p3_8 := by have := held_lt r_p0_0; omega
  replace r_p0_0 := held_after hU r_p0_0
  have r_p3_8 := rb8
  clear rb8
  have n_p3_8 := nb8
  clear nb8
  have sz3 := hU.size
  replace hB := bthen hB hU
  clear hU
  go_upto_region 4 with (fail)
  have ra : Row .i32 21 U3 p3_8 [x, y, z, t] := r_p3_8
  have nA : w.heap.size ≤ p3_8 := by omega
  clear kU hd
  clear r_p3_8 r_p0_0
  go_wp2_with fail
  go_loopw [5, 6] (fun b i wr => ∃ k : Nat, k ≤ 3 ∧ i = .int .i64 ((k : Int) + 1) ∧ b = .int .i64 (bst (far4S x y z t) k : Nat) ∧ Row .i32 21 wr p3_8 [x, y, z, t] ∧ Below w.heap.size w wr) (fun b i _ => 4 - (intOf i).toNat)
  case atStart => exact ⟨0, by omega, rfl, rfl, ra, hB⟩
  case round =>
    clear ra hB
    obtain ⟨k, hk, rfl, rfl, ra, hB⟩ := hrel
    by_cases hlt : (k : Int) + 1 < 4
    case pos =>
      have hb3 := bst_le (far4S x y z t) k
      have hlt2 : k + 1 < 4 := by omega
      have hbl : bst (far4S x y z t) k < 4 := by omega
      have hup := hid (bst_up (f := far4S x y z t) (k := k))
      have hno := hid (bst_no (f := far4S x y z t) (k := k))
      have hf1 := hid (show far4S x y z t (k + 1) = absI (sel4 (k + 1) x y z t) from rfl)
      have hf2 := hid (show far4S x y z t (bst (far4S x y z t) k) = absI (sel4 (bst (far4S x y z t) k) x y z t) from rfl)
      rw [hf1.out, hf2.out] at hup hno
      have hc1 := ra.cellAt (k + 1) (show k + 1 < 4 from hlt2)
      rw [getD4 (k + 1) x y z t hlt2] at hc1
      have hc2 := ra.cellAt (bst (far4S x y z t) k) (show _ < 4 from hbl)
      rw [getD4 _ x y z t hbl] at hc2
      have hB1 := hsb.out (k + 1)
      have hB2 := hsb.out (bst (far4S x y z t) k)
      have k1 := hid (fun (v : World) => rfar12_any (sel4 (k + 1) x y z t) v hB1)
      have k2 := hid (fun (v : World) => rfar12_any (sel4 (bst (far4S x y z t) k) x y z t) v hB2)
      clear hf1 hf2 hB1 hB2
      replace hup := hid hup
      replace hno := hid hno
      generalize sel4 (k + 1) x y z t = u1 at *
      generalize sel4 (bst (far4S x y z t) k) x y z t = u2 at *
      generalize absI u1 = n1 at *
      generalize absI u2 = n2 at *
      generalize hbk : bst (far4S x y z t) k = bb at *
      replace hbk := hid hbk
      have hbi : (bb : Int) < 4 := by omega
      have hw1 : IntKind.i64.wrap ((k : Int) + 1 + 1) = (k : Int) + 1 + 1 := by rw [IntKind.wrap_i64]; omega
      by_cases cc : n2 < n1
      · have e := hid (hup.out.out cc)
        have cb : decide (n2 < n1) = true := decide_eq_true cc
        clear hup hno
        replace ra := hid ra
        have hBw := hid hB
        clear hB
        have cb2 : decide ((k : Int) + 1 < 4) = true := decide_eq_true hlt
        clear cc
        go_upto_region 8 with (fail)
        apply wp_region_seg (w := wr) (S := [.q [], .q [], .q [], .q [], .q [], .q [], .q [], .q [], .q [], .q [], .q []]) (E := [.q0 _, .q0 _, .q0 _, .q0 _, .c0 _, .q0 _, .q0 _, .q0 _, .q0 _, .c0 _, .q0 _]) (by kernel_rfl) rfl (by kernel_rfl) rfl rfl
        intro th hge hne
        refine Seg.step _ rfl (Or.inl ⟨by rfl, fun U hU => vp_quiet (by (go_simp <;> exact rfl))⟩) ⟨_, by (simp only [Ent.val]; go_simp <;> exact rfl), ?_⟩
        refine Seg.step _ rfl (Or.inl ⟨by rfl, fun U hU => vp_quiet (by (go_simp <;> exact rfl))⟩) ⟨_, by (simp only [Ent.val]; go_simp <;> exact rfl), ?_⟩
        refine Seg.step _ rfl (Or.inl ⟨by rfl, fun U hU => vp_quiet (by (go_simp <;> exact rfl))⟩) ⟨_, by (simp only [Ent.val]; go_simp <;> exact rfl), ?_⟩
        refine Seg.step _ rfl (Or.inl ⟨by rfl, fun U hU => vp_quiet (by (have h0 := After.cellB hU.1 hc1; go_simp <;> exact rfl))⟩) ⟨_, by (simp only [Ent.val]; go_simp <;> exact rfl), ?_⟩
        refine Seg.step _ rfl (Or.inl ⟨by rfl, fun U hU => ?_⟩) ?_
        · go_simp
          refine vp_calls (k1.out _)
        refine ⟨_, by (simp only [Ent.val]; go_simp <;> exact rfl), ?_⟩
        refine Seg.step _ rfl (Or.inl ⟨by rfl, fun U hU => vp_quiet (by (go_simp <;> exact rfl))⟩) ⟨_, by (simp only [Ent.val]; go_simp <;> exact rfl), ?_⟩
        refine Seg.step _ rfl (Or.inl ⟨by rfl, fun U hU => vp_quiet (by (go_simp <;> exact rfl))⟩) ⟨_, by (simp only [Ent.val]; go_simp <;> exact rfl), ?_⟩
        refine Seg.step _ rfl (Or.inl ⟨by rfl, fun U hU => vp_quiet (by (go_simp <;> exact rfl))⟩) ⟨_, by (simp only [Ent.val]; go_simp <;> exact rfl), ?_⟩
        refine Seg.step _ rfl (Or.inl ⟨by rfl, fun U hU => vp_quiet (by (have h0 := After.cellB hU.1 hc2; go_simp <;> exact rfl))⟩) ⟨_, by (simp only [Ent.val]; go_simp <;> exact rfl), ?_⟩
        refine Seg.step _ rfl (Or.inl ⟨by rfl, fun U hU => ?_⟩) ?_
        · go_simp
          refine vp_calls (k2.out _)
        refine ⟨_, by (simp only [Ent.val]; go_simp <;> exact rfl), ?_⟩
        refine Seg.step _ rfl (Or.inl ⟨by rfl, fun U hU => vp_quiet (by (go_simp <;> exact rfl))⟩) ⟨_, by (simp only [Ent.val]; go_simp <;> exact rfl), ?_⟩
        refine Seg.stop (fun U21 hU hk => ?_)
        clear hk hge hne
        have sz21 := hU.size
        have hB : Below wr.heap.size wr U21 := hU
        replace ra := ra.out.below hU
        replace hB := bthen hBw.out hU
        clear hU hc1 hc2 k1 k2 hBw
        go_wp2_with omega
        go_roundw
        case rel => exact ⟨k + 1, by omega, by simp, by rw [e.out]; simp, ra, hB⟩
        case measure => simp only [intOf]; omega
      · have e := hid (hno.out.out cc)
        have cb : decide (n2 < n1) = false := decide_eq_false cc
        clear hup hno
        replace ra := hid ra
        have hBw := hid hB
        clear hB
        have cb2 : decide ((k : Int) + 1 < 4) = true := decide_eq_true hlt
        clear cc
        go_upto_region 8 with (fail)
        apply wp_region_seg (w := wr) (S := [.q [], .q [], .q [], .q [], .q [], .q [], .q [], .q [], .q [], .q [], .q []]) (E := [.q0 _, .q0 _, .q0 _, .q0 _, .c0 _, .q0 _, .q0 _, .q0 _, .q0 _, .c0 _, .q0 _]) (by kernel_rfl) rfl (by kernel_rfl) rfl rfl
        intro th hge hne
        refine Seg.step _ rfl (Or.inl ⟨by rfl, fun U hU => vp_quiet (by (go_simp <;> exact rfl))⟩) ⟨_, by (simp only [Ent.val]; go_simp <;> exact rfl), ?_⟩
        refine Seg.step _ rfl (Or.inl ⟨by rfl, fun U hU => vp_quiet (by (go_simp <;> exact rfl))⟩) ⟨_, by (simp only [Ent.val]; go_simp <;> exact rfl), ?_⟩
        refine Seg.step _ rfl (Or.inl ⟨by rfl, fun U hU => vp_quiet (by (go_simp <;> exact rfl))⟩) ⟨_, by (simp only [Ent.val]; go_simp <;> exact rfl), ?_⟩
        refine Seg.step _ rfl (Or.inl ⟨by rfl, fun U hU => vp_quiet (by (have h0 := After.cellB hU.1 hc1; go_simp <;> exact rfl))⟩) ⟨_, by (simp only [Ent.val]; go_simp <;> exact rfl), ?_⟩
        refine Seg.step _ rfl (Or.inl ⟨by rfl, fun U hU => ?_⟩) ?_
        · go_simp
          refine vp_calls (k1.out _)
        refine ⟨_, by (simp only [Ent.val]; go_simp <;> exact rfl), ?_⟩
        refine Seg.step _ rfl (Or.inl ⟨by rfl, fun U hU => vp_quiet (by (go_simp <;> exact rfl))⟩) ⟨_, by (simp only [Ent.val]; go_simp <;> exact rfl), ?_⟩
        refine Seg.step _ rfl (Or.inl ⟨by rfl, fun U hU => vp_quiet (by (go_simp <;> exact rfl))⟩) ⟨_, by (simp only [Ent.val]; go_simp <;> exact rfl), ?_⟩
        refine Seg.step _ rfl (Or.inl ⟨by rfl, fun U hU => vp_quiet (by (go_simp <;> exact rfl))⟩) ⟨_, by (simp only [Ent.val]; go_simp <;> exact rfl), ?_⟩
        refine Seg.step _ rfl (Or.inl ⟨by rfl, fun U hU => vp_quiet (by (have h0 := After.cellB hU.1 hc2; go_simp <;> exact rfl))⟩) ⟨_, by (simp only [Ent.val]; go_simp <;> exact rfl), ?_⟩
        refine Seg.step _ rfl (Or.inl ⟨by rfl, fun U hU => ?_⟩) ?_
        · go_simp
          refine vp_calls (k2.out _)
        refine ⟨_, by (simp only [Ent.val]; go_simp <;> exact rfl), ?_⟩
        refine Seg.step _ rfl (Or.inl ⟨by rfl, fun U hU => vp_quiet (by (go_simp <;> exact rfl))⟩) ⟨_, by (simp only [Ent.val]; go_simp <;> exact rfl), ?_⟩
        refine Seg.stop (fun U21 hU hk => ?_)
        clear hk hge hne
        have sz21 := hU.size
        have hB : Below wr.heap.size wr U21 := hU
        replace ra := ra.out.below hU
        replace hB := bthen hBw.out hU
        clear hU hc1 hc2 k1 k2 hBw
        go_wp2_with omega
        go_roundw
        case rel => exact ⟨k + 1, by omega, by simp, by rw [e.out], ra, hB⟩
        case measure => simp only [intOf]; omega
    case neg =>
      obtain rfl : k = 3 := by omega
      have ho := best4_lt x y z t
      have hs : Go.RowKit.Hid (sg4 x y z t = if sel4 (best4 x y z t) x y z t < 0 then -1 else 1) := hid rfl
      have kL : Go.RowKit.Hid (packL x y z t = (best4 x y z t : Int) :: (oth (best4 x y z t) 4).map (packG x y z t)) := hid rfl
      have eb : bst (far4S x y z t) 3 = best4 x y z t := rfl
      rw [eb]
      clear eb hlt hk
      generalize best4 x y z t = o at *
      have hwo : IntKind.u32.wrap (o : Int) = o := by simp [IntKind.wrap, IntKind.bits, IntKind.signed]; omega
      replace ra := hid ra
      replace hB := hid hB
      go_wp2_with fail
      have hrow := World.alloc_heap_new wr (.cells #[.int .u32 o] 24)
      have hA : After wr (wr.alloc (.cells #[.int .u32 o] 24)) := (Below.refl _ wr).alloc (Nat.le_refl _) _
      have nG : w.heap.size ≤ wr.heap.size := hB.out.size
      have ra2 := ra.out.below hA
      have hB2 := bthen hB.out hA
      clear ra hB hA
      generalize wr.heap.size = g at *
      generalize wr.alloc (.cells #[.int .u32 o] 24) = W0 at *
      have hO0 : Own .u32 24 W0 w.heap.size (.slice (some ⟨g, 0, none⟩) (zsP o (packG x y z t) (oth o 0)).length 1) (zsP o (packG x y z t) (oth o 0)) := Row.own (show Row .u32 24 W0 g [(o : Int)] from hrow) _ nG (by unfold maxLen; simp)
      go_loopw [7, 8] (fun l i wr => ∃ (k : Nat) (ad : Option Addr) (cap : Nat), k ≤ 4 ∧ i = .int .i64 k ∧ l = .slice ad (zsP o (packG x y z t) (oth o k)).length cap ∧ Own .u32 24 wr w.heap.size (.slice ad (zsP o (packG x y z t) (oth o k)).length cap) (zsP o (packG x y z t) (oth o k)) ∧ Row .i32 21 wr p3_8 [x, y, z, t] ∧ Below w.heap.size w wr) (fun l i _ => 4 - (intOf i).toNat)
      case atStart => exact ⟨0, some ⟨g, 0, none⟩, 1, by omega, rfl, rfl, hO0, ra2, hB2⟩
      case round =>
        clear hO0 ra2 hB2 hrow
        obtain ⟨k, ad, cap, hk, rfl, rfl, hO, ra, hB⟩ := hrel
        by_cases hlt : (k : Int) < 4
        case neg =>
          obtain rfl : k = 4 := by omega
          have ez : zsP o (packG x y z t) (oth o 4) = packL x y z t := kL.out.symm
          rw [ez] at hO ⊢
          have hl4 : (packL x y z t).length ≤ 4 := by rw [packL_len]; exact Nat.le_refl _
          have hwf := hid (packL_wf x y z t)
          have hok := pack_fits x y z t
          clear ez kL hs hsg hsb
          generalize packL x y z t = zs at *
          obtain ⟨bd, cb, hv, hsl⟩ := hO.sl
          cases hv
          have hrow := World.alloc_heap_new wr (.cells #[.int .i64 2, .int .i64 10, .int .i64 10, .int .i64 10] 3)
          have hA : After wr (wr.alloc (.cells #[.int .i64 2, .int .i64 10, .int .i64 10, .int .i64 10] 3)) := (Below.refl _ wr).alloc (Nat.le_refl _) _
          have kJ := rjoin_any (some ⟨wr.heap.size, 0, none⟩) ad 4 4 zs.length cap [2, 10, 10, 10] zs _ (Row.sl (show Row .i64 3 _ _ [2, 10, 10, 10] from hrow) (by unfold maxLen; simp)) (by decide) (by omega) (hsl.below hA) hwf.out (by omega)
          replace hB := hid (bthen hB hA)
          clear hsl hA hrow hO ra
          go_wp2_with fail
          refine kJ.mono ?_
          rintro e w5 ⟨rfl, hb5⟩
          replace hB := bthen hB.out hb5
          replace hB := hid hB
          go_wp2_with fail
          refine bodyPost_ret (v := packT x y z t) ?_ rfl ⟨rfl, hB.out⟩
          rw [ht.out]
          simp [results, Try.results8, go_sem]
        case pos =>
          have hlt2 : k < 4 := by omega
          have hoi : (o : Int) < 4 := by omega
          have hc1 := ra.cellAt k (show k < 4 from hlt2)
          rw [getD4 k x y z t hlt2] at hc1
          have hc2 := ra.cellAt o (show o < 4 from ho)
          rw [getD4 o x y z t ho] at hc2
          have hsi := hsg.out k
          have hvb := hsb.out k
          unfold B32 at hvb
          have hsame := hid (zsP_same (o := o) (k := k) (G := packG x y z t))
          have hmore := hid (zsP_more (o := o) (k := k) (G := packG x y z t) hlt2)
          have hzl : (zsP o (packG x y z t) (oth o k)).length ≤ 5 := by rw [zsP_len]; have := oth_le o ho k (by omega); omega
          have hw1 : IntKind.i64.wrap (sel4 k x y z t) = sel4 k x y z t := by rw [IntKind.wrap_i64]; omega
          have hw2 : IntKind.i64.wrap (-sel4 k x y z t) = -sel4 k x y z t := by rw [IntKind.wrap_i64]; omega
          have hsz := hB.size
          replace hO := hid hO
          replace ra := hid ra
          replace hB := hid hB
          have hG : Go.RowKit.Hid (packG x y z t ⟨k, hlt2⟩ = numS (sg4 x y z t * sel4 k x y z t)) := hid rfl
          generalize hzz : zsP o (packG x y z t) (oth o k) = zz at *
          replace hzz := hid hzz
          by_cases cn : sel4 o x y z t < 0
          · have esg : sg4 x y z t = -1 := by rw [hs.out, if_pos cn]
            rw [esg] at hsi hG
            clear esg
            have hpb : -2147483648 ≤ -sel4 k x y z t ∧ -sel4 k x y z t ≤ 2147483648 := by omega
            have hG2 : Go.RowKit.Hid (packG x y z t ⟨k, hlt2⟩ = numC (overS (511 * -sel4 k x y z t) 759250125)) := hid (by rw [hG.out]; unfold numS; congr 2; omega)
            clear hG hsi
            have hw3 : IntKind.i64.wrap (-(511 * sel4 k x y z t)) = -(511 * sel4 k x y z t) := by rw [IntKind.wrap_i64]; omega
            have hw4 : IntKind.i64.wrap (511 * (-sel4 k x y z t)) = 511 * (-sel4 k x y z t) := by rw [IntKind.wrap_i64]; omega
            have hov := fun w => rover_any (511 * -sel4 k x y z t) 759250125 w (by omega) (by omega) (by omega) (by omega)
            have hon := overS_b (511 * -sel4 k x y z t) 759250125 (by omega) (by omega)
            generalize overS (511 * -sel4 k x y z t) 759250125 = n at *
            have hc : Go.RowKit.Hid (numC n = 512 + (if n < -511 then -511 else if 511 < n then 511 else n)) := hid rfl
            by_cases he : (k : Int) = o
            · have e1 := hid (hsame.out (show k = o by omega))
              clear hmore hsame hc2
              obtain rfl : k = o := by omega
              clear he
              go_wp2_with omega
              refine (hov _).mono ?_
              rintro e w5 ⟨rfl, rfl⟩
              go_wp2_with omega
              go_roundw
              case rel => ((repeat apply Exists.intro); exact ⟨⟨k + 1, ad, cap, by omega, by simp, by rw [e1.out], by rw [e1.out]; exact hO.out, ra.out, hB.out⟩, rfl⟩)
              case measure => show 4 - ((k : Int) + 1).toNat < 4 - (k : Int).toNat; omega
            have e1 := hid (hmore.out (show k ≠ o by omega))
            have hb1 : ((k : Int) != (o : Int)) = true := by simp; omega
            clear hmore hsame
            rw [hG2.out] at e1
            by_cases c0 : n ≤ -511
            · have ev : numC n = 1 := by rw [hc.out]; split <;> (try split) <;> omega
              rw [ev] at e1
              clear ev hc hG2
              go_wp2_with omega
              refine (hov _).mono ?_
              rintro e w5 ⟨rfl, rfl⟩
              go_wp2_with (first | omega | (at_builtin; refine wpList_app2 w5 w rfl (.tmp 66) (.tmp 72) 37 rfl w.heap.size w.heap.size 24 .u32 4 u32s (.slice ad zz.length cap) zz rfl hO.out (1) rfl (by omega) (by decide) hB.out (Nat.le_refl _) hsz ?_))
              intro a9 cap9 w9 hO9 hB9 hk9
              replace ra := hid (show Row .i32 21 w9 p3_8 [x, y, z, t] from hk9 _ _ _ _ _ (by decide) ra.out)
              clear hk9
              replace hO9 := hid hO9
              replace hB9 := hid hB9
              go_wp2_with omega
              go_roundw
              case rel => ((repeat apply Exists.intro); exact ⟨⟨k + 1, a9, cap9, by omega, by simp, by rw [e1.out, List.length_append]; rfl, by rw [e1.out, List.length_append]; exact hO9.out, ra.out, hB9.out⟩, rfl⟩)
              case measure => show 4 - ((k : Int) + 1).toNat < 4 - (k : Int).toNat; omega
            by_cases c1 : 511 < n
            · have ev : numC n = 1023 := by rw [hc.out]; split <;> (try split) <;> omega
              rw [ev] at e1
              clear ev hc hG2
              go_wp2_with omega
              refine (hov _).mono ?_
              rintro e w5 ⟨rfl, rfl⟩
              go_wp2_with (first | omega | (at_builtin; refine wpList_app2 w5 w rfl (.tmp 66) (.tmp 72) 37 rfl w.heap.size w.heap.size 24 .u32 4 u32s (.slice ad zz.length cap) zz rfl hO.out (1023) rfl (by omega) (by decide) hB.out (Nat.le_refl _) hsz ?_))
              intro a9 cap9 w9 hO9 hB9 hk9
              replace ra := hid (show Row .i32 21 w9 p3_8 [x, y, z, t] from hk9 _ _ _ _ _ (by decide) ra.out)
              clear hk9
              replace hO9 := hid hO9
              replace hB9 := hid hB9
              go_wp2_with omega
              go_roundw
              case rel => ((repeat apply Exists.intro); exact ⟨⟨k + 1, a9, cap9, by omega, by simp, by rw [e1.out, List.length_append]; rfl, by rw [e1.out, List.length_append]; exact hO9.out, ra.out, hB9.out⟩, rfl⟩)
              case measure => show 4 - ((k : Int) + 1).toNat < 4 - (k : Int).toNat; omega
            have ev : numC n = 512 + n := by rw [hc.out]; split <;> (try split) <;> omega
            rw [ev] at e1
            clear ev hc hG2
            have hw5 : IntKind.i64.wrap (512 + n) = 512 + n := by rw [IntKind.wrap_i64]; omega
            have hw6 : IntKind.u32.wrap (512 + n) = 512 + n := by simp [IntKind.wrap, IntKind.bits, IntKind.signed]; omega
            go_wp2_with omega
            refine (hov _).mono ?_
            rintro e w5 ⟨rfl, rfl⟩
            go_wp2_with (first | omega | (at_builtin; refine wpList_app2 w5 w rfl (.tmp 66) (.tmp 72) 37 rfl w.heap.size w.heap.size 24 .u32 4 u32s (.slice ad zz.length cap) zz rfl hO.out (512 + n) rfl (by omega) (by decide) hB.out (Nat.le_refl _) hsz ?_))
            intro a9 cap9 w9 hO9 hB9 hk9
            replace ra := hid (show Row .i32 21 w9 p3_8 [x, y, z, t] from hk9 _ _ _ _ _ (by decide) ra.out)
            clear hk9
            replace hO9 := hid hO9
            replace hB9 := hid hB9
            go_wp2_with omega
            go_roundw
            case rel => ((repeat apply Exists.intro); exact ⟨⟨k + 1, a9, cap9, by omega, by simp, by rw [e1.out, List.length_append]; rfl, by rw [e1.out, List.length_append]; exact hO9.out, ra.out, hB9.out⟩, rfl⟩)
            case measure => show 4 - ((k : Int) + 1).toNat < 4 - (k : Int).toNat; omega
          · have esg : sg4 x y z t = 1 := by rw [hs.out, if_neg cn]
            rw [esg] at hsi hG
            clear esg
            have hpb : -2147483648 ≤ sel4 k x y z t ∧ sel4 k x y z t ≤ 2147483648 := by omega
            have hG2 : Go.RowKit.Hid (packG x y z t ⟨k, hlt2⟩ = numC (overS (511 * sel4 k x y z t) 759250125)) := hid (by rw [hG.out]; unfold numS; congr 2; omega)
            clear hG hsi
            have hw3 : IntKind.i64.wrap (511 * (sel4 k x y z t)) = 511 * (sel4 k x y z t) := by rw [IntKind.wrap_i64]; omega
            have hov := fun w => rover_any (511 * sel4 k x y z t) 759250125 w (by omega) (by omega) (by omega) (by omega)
            have hon := overS_b (511 * sel4 k x y z t) 759250125 (by omega) (by omega)
            generalize overS (511 * sel4 k x y z t) 759250125 = n at *
            have hc : Go.RowKit.Hid (numC n = 512 + (if n < -511 then -511 else if 511 < n then 511 else n)) := hid rfl
            by_cases he : (k : Int) = o
            · have e1 := hid (hsame.out (show k = o by omega))
              clear hmore hsame hc2
              obtain rfl : k = o := by omega
              clear he
              go_wp2_with omega
              refine (hov _).mono ?_
              rintro e w5 ⟨rfl, rfl⟩
              go_wp2_with omega
              go_roundw
              case rel => ((repeat apply Exists.intro); exact ⟨⟨k + 1, ad, cap, by omega, by simp, by rw [e1.out], by rw [e1.out]; exact hO.out, ra.out, hB.out⟩, rfl⟩)
              case measure => show 4 - ((k : Int) + 1).toNat < 4 - (k : Int).toNat; omega
            have e1 := hid (hmore.out (show k ≠ o by omega))
            have hb1 : ((k : Int) != (o : Int)) = true := by simp; omega
            clear hmore hsame
            rw [hG2.out] at e1
            by_cases c0 : n ≤ -511
            · have ev : numC n = 1 := by rw [hc.out]; split <;> (try split) <;> omega
              rw [ev] at e1
              clear ev hc hG2
              go_wp2_with omega
              refine (hov _).mono ?_
              rintro e w5 ⟨rfl, rfl⟩
              go_wp2_with (first | omega | (at_builtin; refine wpList_app2 w5 w rfl (.tmp 66) (.tmp 72) 37 rfl w.heap.size w.heap.size 24 .u32 4 u32s (.slice ad zz.length cap) zz rfl hO.out (1) rfl (by omega) (by decide) hB.out (Nat.le_refl _) hsz ?_))
              intro a9 cap9 w9 hO9 hB9 hk9
              replace ra := hid (show Row .i32 21 w9 p3_8 [x, y, z, t] from hk9 _ _ _ _ _ (by decide) ra.out)
              clear hk9
              replace hO9 := hid hO9
              replace hB9 := hid hB9
              go_wp2_with omega
              go_roundw
              case rel => ((repeat apply Exists.intro); exact ⟨⟨k + 1, a9, cap9, by omega, by simp, by rw [e1.out, List.length_append]; rfl, by rw [e1.out, List.length_append]; exact hO9.out, ra.out, hB9.out⟩, rfl⟩)
              case measure => show 4 - ((k : Int) + 1).toNat < 4 - (k : Int).toNat; omega
            by_cases c1 : 511 < n
            · have ev : numC n = 1023 := by rw [hc.out]; split <;> (try split) <;> omega
              rw [ev] at e1
              clear ev hc hG2
              go_wp2_with omega
              refine (hov _).mono ?_
              rintro e w5 ⟨rfl, rfl⟩
              go_wp2_with (first | omega | (at_builtin; refine wpList_app2 w5 w rfl (.tmp 66) (.tmp 72) 37 rfl w.heap.size w.heap.size 24 .u32 4 u32s (.slice ad zz.length cap) zz rfl hO.out (1023) rfl (by omega) (by decide) hB.out (Nat.le_refl _) hsz ?_))
              intro a9 cap9 w9 hO9 hB9 hk9
              replace ra := hid (show Row .i32 21 w9 p3_8 [x, y, z, t] from hk9 _ _ _ _ _ (by decide) ra.out)
              clear hk9
              replace hO9 := hid hO9
              replace hB9 := hid hB9
              go_wp2_with omega
              go_roundw
              case rel => ((repeat apply Exists.intro); exact ⟨⟨k + 1, a9, cap9, by omega, by simp, by rw [e1.out, List.length_append]; rfl, by rw [e1.out, List.length_append]; exact hO9.out, ra.out, hB9.out⟩, rfl⟩)
              case measure => show 4 - ((k : Int) + 1).toNat < 4 - (k : Int).toNat; omega
            have ev : numC n = 512 + n := by rw [hc.out]; split <;> (try split) <;> omega
            rw [ev] at e1
            clear ev hc hG2
            have hw5 : IntKind.i64.wrap (512 + n) = 512 + n := by rw [IntKind.wrap_i64]; omega
            have hw6 : IntKind.u32.wrap (512 + n) = 512 + n := by simp [IntKind.wrap, IntKind.bits, IntKind.signed]; omega
            go_wp2_with omega
            refine (hov _).mono ?_
            rintro e w5 ⟨rfl, rfl⟩
            go_wp2_with (first | omega | (at_builtin; refine wpList_app2 w5 w rfl (.tmp 66) (.tmp 72) 37 rfl w.heap.size w.heap.size 24 .u32 4 u32s (.slice ad zz.length cap) zz rfl hO.out (512 + n) rfl (by omega) (by decide) hB.out (Nat.le_refl _) hsz ?_))
            intro a9 cap9 w9 hO9 hB9 hk9
            replace ra := hid (show Row .i32 21 w9 p3_8 [x, y, z, t] from hk9 _ _ _ _ _ (by decide) ra.out)
            clear hk9
            replace hO9 := hid hO9
            replace hB9 := hid hB9
            go_wp2_with omega
            go_roundw
            case rel => ((repeat apply Exists.intro); exact ⟨⟨k + 1, a9, cap9, by omega, by simp, by rw [e1.out, List.length_append]; rfl, by rw [e1.out, List.length_append]; exact hO9.out, ra.out, hB9.out⟩, rfl⟩)
            case measure => show 4 - ((k : Int) + 1).toNat < 4 - (k : Int).toNat; omega

end Go.Proofs.Ytnabfimammojhaa
