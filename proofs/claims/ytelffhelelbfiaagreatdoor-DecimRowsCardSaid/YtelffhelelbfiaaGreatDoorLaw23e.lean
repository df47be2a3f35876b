/- The laws of layer 23: DecimRows. -/
import Derived.Test.YtelffhelelbfiaaGreatDoorRowG
import Derived.Laws.StructEq
import Derived.Deep.DeepCutAuto
namespace Go.Proofs.YtelffhelelbfiaaGreatDoor
open Go.ChangeShapes Go.WideShapes Go.ChangeAt Go.RowKit
set_option linter.unusedVariables false
set_option linter.unusedSimpArgs false

set_option maxRecDepth 100000 in
set_option maxHeartbeats 32000000 in
theorem law_DecimRows (a0 : Option Addr) (len0 cap0 : Nat) (x0 : List (List Value)) (a1 : Option Addr) (len1 cap1 : Nat) (x1 : List (List Value)) (W : World) (w0 : Els W 11 a0 len0 cap0 x0) (t0 : ∀ x ∈ x0, (∃ (c0 : Int) (c1 : Bool) (c2 : Int) (c3 : Int) (c4 : Int) (c5 : Int) (c6 : Int) (c7 : Int) (c8 : Bool) (c9 : ByteArray) (c10 : Int), x = [.int .i64 c0, .bool c1, .int .i64 c2, .int .i64 c3, .int .i64 c4, .int .i64 c5, .int .i64 c6, .int .i64 c7, .bool c8, .string c9, .int .i64 c10] ∧ ((Lit.int .i64 c0).wf = true) ∧ ((Lit.int .i64 c2).wf = true) ∧ ((Lit.int .i64 c3).wf = true) ∧ ((Lit.int .i64 c4).wf = true) ∧ ((Lit.int .i64 c5).wf = true) ∧ ((Lit.int .i64 c6).wf = true) ∧ ((Lit.int .i64 c7).wf = true) ∧ (c9.size ≤ maxLen) ∧ ((Lit.int .i64 c10).wf = true))) (w1 : Els W 1 a1 len1 cap1 x1) (t1 : ∀ x ∈ x1, (∃ (c0 : ByteArray), x = [.string c0] ∧ (c0.size ≤ maxLen))) (hT : Tab W) :
    Calls Tryz.prog 3 #[.slice a0 len0 cap0, .slice a1 len1 cap1] W fun e w' => e = .returned (.bool true) ∧ Below W.heap.size W w' := by
  obtain ⟨F, rfl⟩ : ∃ F, x1 = strV23 F := strV23_of x1 (fun x hx => by obtain ⟨c, h, -⟩ := t1 x hx; exact ⟨c, h⟩)
  have hlen := w1.1
  rw [strV23_len] at hlen
  have hx0 := w0.1
  have hElW := hid w1
  have hE0 := hid w0
  clear t1 w1 w0
  have hT0 := hid hT
  clear hT
  replace t0 := hid t0
  replace hx0 := hid hx0
  by_cases cb : (30 : Int) < len0
  case pos =>
    clear hlen
    go_enter Tryz.func3, Tryz.ntmps3
    go_wp2_with fail
    refine (knows23_any _ hT0.out).mono ?_
    rintro e V ⟨rfl, hst⟩
    replace hst := hid hst
    go_wp2_with fail
    go_ret
    exact ⟨rfl, hst.out⟩
  by_cases cc : (40 : Int) < len1
  case pos =>
    clear hlen
    go_enter Tryz.func3, Tryz.ntmps3
    go_wp2_with fail
    refine (knows23_any _ hT0.out).mono ?_
    rintro e V ⟨rfl, hst⟩
    replace hst := hid hst
    go_wp2_with fail
    go_ret
    exact ⟨rfl, hst.out⟩
  go_enter Tryz.func3, Tryz.ntmps3
  go_wp2_with fail
  refine (knows23_any _ hT0.out).mono ?_
  rintro e V1 ⟨rfl, hA⟩
  have hB1 := hid hA
  have hEl := hid (hElW.out.below hA)
  clear hA
  have hall := hid (show F.take len1 = F by rw [← hlen, List.take_length])
  replace hlen := hid hlen
  go_wp2_with fail
  go_loopw [5] (fun ix wr => ∃ k : Nat, ix = .int .i64 k ∧ k ≤ len1 ∧ Hid (∀ f ∈ F.take k, f.size ≤ 100) ∧ wr = V1) (fun ix _ => len1 - (intOf ix).toNat)
  case atStart => exact ⟨0, rfl, by omega, hid (fun f hf => by simp at hf), rfl⟩
  case round =>
    obtain ⟨k, rfl, hk, hm, hv⟩ := hrel
    obtain rfl : V1 = wr := hv.symm
    by_cases hlt : (k : Int) < len1
    case pos =>
      obtain ⟨f, hf⟩ : ∃ x, F[k]? = some x := ⟨_, List.getElem?_eq_getElem (show k < F.length by have := hlen.out; omega)⟩
      obtain ⟨p1, o1, rfl, g0⟩ := hEl.out.at1 (strV23_at hf)
      have kz : (0 : Int) ≤ k := by omega
      have wk : IntKind.i64.wrap ((k : Int) + 1) = (k : Int) + 1 := by rw [IntKind.wrap_i64]; omega
      have hk1 := hid (show k + 1 ≤ len1 by omega)
      have hms := hid (show len1 - (k + 1) < len1 - k by omega)
      obtain ⟨sz, hsz⟩ : ∃ z, f.size = z := ⟨_, rfl⟩
      have isz : (f.size : Int) = (sz : Int) := by omega
      by_cases q2 : (100 : Int) < sz
      case pos =>
        clear hf hk hsz
        go_wp2_with fail
        refine (knows23_any _ (hT0.out.on hB1.out)).mono ?_
        rintro e V ⟨rfl, hst⟩
        replace hst := hid (bthen hB1.out hst)
        go_wp2_with fail
        go_ret
        exact ⟨rfl, hst.out⟩
      have hm3 := hid (show ∀ x ∈ F.take (k + 1), x.size ≤ 100 by
        intro x hx
        rw [List.take_add_one, hf] at hx
        rcases List.mem_append.1 hx with hx | hx
        · exact hm.out x hx
        · simp at hx; subst hx; omega)
      clear hf hk hsz hm
      go_wp2_with fail
      go_roundw
      case rel => exact ⟨k + 1, by simp, hk1.out, hm3, trivial⟩
      case measure => simp [intOf]; exact hms.out
    obtain rfl : k = len1 := by omega
    have hsz : ∀ s ∈ F, s.size ≤ 1000 := by have := hm.out; rw [hall.out] at this; exact fun s hs => Nat.le_trans (this s hs) (by decide)
    clear hm hall
    go_wp2_with fail
    refine (prowN_any _).mono ?_
    rintro e V2 ⟨Bp, rfl, b1, hA, l1⟩
    have hB2 := bthen hB1.out hA
    replace hEl := hid (hEl.out.below hA)
    clear hA
    have l1b := held_lt b1
    have l1w := hB1.out.size
    go_wp2_with fail
    refine (lookN_any a1 k cap1 F _ hlen.out (by omega) hEl.out).mono ?_
    rintro e V3 ⟨Br, rfl, hr, hA, l2⟩
    replace hB2 := bthen hB2 hA
    replace b1 := held_after hA b1
    replace hEl := hid (hEl.out.below hA)
    clear hA
    have l2b := hr.lt
    have hB := hB2
    clear hB2
    go_upto_region 9 with (fail)
    apply wp_region_seg0 (w := V3) (S := [.q [], .al 1000, .q [], .q [], .al 1000, .q [1], .q [4]]) (E := [.q0 _, .al ((fun p => .pointer (some ⟨p, 0, none⟩)), _) 1000, .q0 _, .q0 _, .al ((fun p => .pointer (some ⟨p, 0, none⟩)), _) 1000, .q1 1 (fun p => .pointer (some ⟨p, 0, none⟩)), .q1 4 (fun p => .pointer (some ⟨p, 0, none⟩))]) rfl (by kernel_rfl) rfl rfl
    intro th hge hne
    refine Seg.step _ rfl (Or.inl ⟨by rfl, fun U hU => vp_quiet (by (go_simp <;> exact rfl))⟩) ⟨_, by (simp only [Ent.val]; go_simp <;> exact rfl), ?_⟩
    refine Seg.step _ rfl ⟨by rfl, fun U hU => ?_⟩ ?_
    · go_simp; exact vp_alloc rfl rfl rfl
    refine ⟨_, by (simp only [Ent.val]; go_simp <;> exact rfl), ?_⟩
    refine Seg.step _ rfl (Or.inl ⟨by rfl, fun U hU => vp_quiet (by (go_simp <;> exact rfl))⟩) ⟨_, by (simp only [Ent.val]; go_simp <;> exact rfl), ?_⟩
    refine Seg.step _ rfl (Or.inl ⟨by rfl, fun U hU => vp_quiet (by (go_simp <;> exact rfl))⟩) ⟨_, by (simp only [Ent.val]; go_simp <;> exact rfl), ?_⟩
    refine Seg.step _ rfl ⟨by rfl, fun U hU => ?_⟩ ?_
    · go_simp; exact vp_alloc rfl rfl rfl
    refine ⟨_, by (simp only [Ent.val]; go_simp <;> exact rfl), ?_⟩
    refine Seg.step _ rfl (Or.inl ⟨by rfl, fun U hU => vp_quiet (by (go_simp <;> exact rfl))⟩) ⟨_, by (simp only [Ent.val]; go_simp <;> exact rfl), ?_⟩
    refine Seg.step _ rfl (Or.inl ⟨by rfl, fun U hU => vp_quiet (by (go_simp <;> exact rfl))⟩) ⟨_, by (simp only [Ent.val]; go_simp <;> exact rfl), ?_⟩
    refine Seg.stop (fun U11 hU hk => ?_)
    have nb1 := hge 1 _ _ rfl
    have rb1 := (hk 1 _ _ rfl trivial).1.2 (by simp)
    have nb4 := hge 4 _ _ rfl
    have rb4 := (hk 4 _ _ rfl trivial).1.2 (by simp)
    have ne1_4 := hne 1 4 _ _ _ _ rfl rfl (by omega)
    clear hk hge hne
    generalize th (0 + 1) = p9_1 at *
    dsimp only at rb1
    generalize th (0 + 4) = p9_4 at *
    dsimp only at rb4
    replace b1 := held_after hU b1
    have r_p9_1 := rb1
    clear rb1
    have n_p9_1 := nb1
    clear nb1
    have d_p9_1_p9_4 := ne1_4
    clear ne1_4
    have r_p9_4 := rb4
    clear rb4
    have n_p9_4 := nb4
    clear nb4
    have sz11 := hU.size
    replace hB := bthen hB hU
    replace hr := hr.aft hU
    replace hEl := hid (hEl.out.below hU)
    have l9 := hU.size
    clear hU
    have lq := held_lt r_p9_1
    have ls := held_lt r_p9_4
    obtain ⟨N, hN⟩ : ∃ n, U11.heap.size = n := ⟨_, rfl⟩
    rw [hN] at lq ls
    have P : Plc W.heap.size Bp Br p9_1 p9_4 N := ⟨by omega, by omega, by omega, by omega, d_p9_1_p9_4, by omega, by omega⟩
    have hR : Rnd Bp Br p9_1 p9_4 N W 0 U11 0 [] 0 F := ⟨⟨⟨none, 0, b1, OwnE.nil _ _ _ _⟩, ⟨none, 0, r_p9_1, OwnE.nil _ _ _ _⟩, hr, ⟨F, a1, cap1, 0, rfl, Nat.zero_le _, by have := hlen.out; omega, by rw [hlen.out]; exact r_p9_4, by rw [hlen.out]; exact hEl.out, fun x hx h0 => ⟨by subst hx; exact els_lt23 hElW.out h0, by omega⟩⟩, fun g hg => (by rw [wown_at b1 (j := 2) rfl] at hg; cases hg), by omega⟩, hB, by simp, by have := hlen.out; omega, hsz⟩
    replace hR := hid hR
    clear hr b1 r_p9_1 r_p9_4 hB hEl hN hsz n_p9_1 n_p9_4 d_p9_1_p9_4
    replace P := hid P
    clear l1 l1b l1w l2 l2b l9 lq ls hB1
    go_wp2_with fail
    go_loopw [10] (fun ix wr => ∃ (k : Nat) (e er : Int) (LP LR : List ByteArray), ix = .int .i64 k ∧ k ≤ len0 ∧ Hid (Rnd Bp Br p9_1 p9_4 N W k wr e LP er LR)) (fun ix _ => len0 - (intOf ix).toNat)
    case atStart => exact ⟨0, 0, 0, [], F, rfl, by omega, hR⟩
    case round =>
      clear hR
      obtain ⟨j, e, er, LP, LR, rfl, hj, hR⟩ := hrel
      by_cases hlt2 : (j : Int) < len0
      case neg =>
        obtain ⟨hF, hB, hlp, hlr, hsz⟩ := hR.out
        clear hR
        have hj2 : j = len0 := by omega
        obtain ⟨FF, hFF⟩ : ∃ F, (if e = 0 then LP else []) = F := ⟨_, rfl⟩
        have kd1 := fun U h => pdoneN_any N W.heap.size Bp e LP U h (by omega)
        have kd2 := fun U h => rdoneN_any N W.heap.size p9_1 e LP U h (by omega)
        unfold DnOk at kd1 kd2
        rw [hFF] at kd1 kd2
        obtain ⟨ml, hml⟩ : ∃ m, FF.length = m := ⟨_, rfl⟩
        rw [hml] at kd1 kd2
        have hm1 : ml ≤ 1000 := by rw [← hml, ← hFF]; split <;> first | omega | (simp)
        replace kd1 := hid kd1
        replace kd2 := hid kd2
        replace hml := hid hml
        clear hFF
        go_wp2_with fail
        refine (kd1.out _ hF.hp).mono ?_
        rintro r Y1 ⟨m1, d1, rfl, g1, -, hA⟩
        replace hF := hF.aft hA
        replace hB := hB.trans (hA.mono hB.size)
        replace g1 := hid g1
        clear hA
        go_wp2_with fail
        refine (kd2.out _ hF.hq).mono ?_
        rintro r Y2 ⟨m2, d2, rfl, g2, -, hA⟩
        replace g1 := hid (g1.out.below hA)
        replace hB := hid (hB.trans (hA.mono hB.size))
        replace g2 := hid g2
        clear hA hF
        go_wp2_with fail
        refine (num23b_any e _).mono ?_
        rintro r V ⟨rfl, hv⟩
        obtain rfl : Y2 = V := hv.symm
        go_wp2_with fail
        refine (num23b_any e _).mono ?_
        rintro r V ⟨rfl, hv⟩
        obtain rfl : Y2 = V := hv.symm
        go_wp2_with fail
        go_loopw [20] (fun ix wr => ∃ k : Nat, ix = .int .i64 k ∧ k ≤ ml ∧ After Y2 wr) (fun ix _ => ml - (intOf ix).toNat)
        case atStart => exact ⟨0, rfl, by omega, Below.refl _ _⟩
        case round =>
          obtain ⟨q, rfl, hq, hA⟩ := hrel
          by_cases hlt3 : (q : Int) < ml
          case neg =>
            replace hA := hid hA
            go_wp2_with fail
            go_ret
            exact ⟨rfl, bthen hB.out hA.out⟩
          obtain ⟨f, hf⟩ : ∃ x, FF[q]? = some x := ⟨_, List.getElem?_eq_getElem (show q < FF.length by have := hml.out; omega)⟩
          obtain ⟨b1, o1, rfl, g0⟩ := (g1.out.below hA).at1 (strV23_at hf)
          obtain ⟨b2, o2, rfl, d0⟩ := (g2.out.below hA).at1 (strV23_at hf)
          have kz : (0 : Int) ≤ q := by omega
          have wk : IntKind.i64.wrap ((q : Int) + 1) = (q : Int) + 1 := by rw [IntKind.wrap_i64]; omega
          have hk1 := hid (show q + 1 ≤ ml by omega)
          have hms := hid (show ml - (q + 1) < ml - q by omega)
          clear hf hq
          go_upto_region 45 with (fail)
          apply wp_region_seg (w := wr) (S := [.q [], .q [], .q [], .q [], .q [], .q [], .q [], .q [], .q []]) (E := [.q0 _, .q0 _, .q0 _, .q0 _, .q0 _, .q0 _, .q0 _, .q0 _, .q0 _]) (by kernel_rfl) rfl (by kernel_rfl) rfl rfl
          intro th hge hne
          refine Seg.step _ rfl (Or.inl ⟨by rfl, fun U hU => vp_quiet (by (go_simp <;> exact rfl))⟩) ⟨_, by (simp only [Ent.val]; go_simp <;> exact rfl), ?_⟩
          refine Seg.step _ rfl (Or.inl ⟨by rfl, fun U hU => vp_quiet (by (go_simp <;> exact rfl))⟩) ⟨_, by (simp only [Ent.val]; go_simp <;> exact rfl), ?_⟩
          refine Seg.step _ rfl (Or.inl ⟨by rfl, fun U hU => vp_quiet (by (go_simp <;> exact rfl))⟩) ⟨_, by (simp only [Ent.val]; go_simp <;> exact rfl), ?_⟩
          refine Seg.step _ rfl (Or.inl ⟨by rfl, fun U hU => vp_quiet (by (have hx := After.cellB hU.1 g0; go_simp <;> exact rfl))⟩) ⟨_, by (simp only [Ent.val]; go_simp <;> exact rfl), ?_⟩
          refine Seg.step _ rfl (Or.inl ⟨by rfl, fun U hU => vp_quiet (by (go_simp <;> exact rfl))⟩) ⟨_, by (simp only [Ent.val]; go_simp <;> exact rfl), ?_⟩
          refine Seg.step _ rfl (Or.inl ⟨by rfl, fun U hU => vp_quiet (by (go_simp <;> exact rfl))⟩) ⟨_, by (simp only [Ent.val]; go_simp <;> exact rfl), ?_⟩
          refine Seg.step _ rfl (Or.inl ⟨by rfl, fun U hU => vp_quiet (by (go_simp <;> exact rfl))⟩) ⟨_, by (simp only [Ent.val]; go_simp <;> exact rfl), ?_⟩
          refine Seg.step _ rfl (Or.inl ⟨by rfl, fun U hU => vp_quiet (by (have hx := After.cellB hU.1 d0; go_simp <;> exact rfl))⟩) ⟨_, by (simp only [Ent.val]; go_simp <;> exact rfl), ?_⟩
          refine Seg.step _ rfl (Or.inl ⟨by rfl, fun U hU => vp_quiet (by (go_simp <;> exact rfl))⟩) ⟨_, by (simp only [Ent.val]; go_simp <;> exact rfl), ?_⟩
          refine Seg.stop (fun U71 hU hk => ?_)
          clear hk hge hne
          have sz71 := hU.size
          have hA9 : Below wr.heap.size wr U71 := hU
          clear hU
          have hAd := hid (After.trans hA hA9)
          clear hA hA9
          go_wp2_with fail
          go_roundw
          case rel => exact ⟨q + 1, by simp, hk1.out, hAd.out⟩
          case measure => simp [intOf]; exact hms.out
      obtain ⟨hF, hB, hlp, hlr, hsz⟩ := hR.out
      clear hR
      obtain ⟨p1, p2, p3, p4, p5, p6, p7⟩ := P.out
      have kz : (0 : Int) ≤ j := by omega
      have wk : IntKind.i64.wrap ((j : Int) + 1) = (j : Int) + 1 := by rw [IntKind.wrap_i64]; omega
      have hk1 := hid (show j + 1 ≤ len0 by omega)
      have hms := hid (show len0 - (j + 1) < len0 - j by omega)
      obtain ⟨x, hx⟩ : ∃ x, x0[j]? = some x := ⟨_, List.getElem?_eq_getElem (show j < x0.length by have := hx0.out; omega)⟩
      obtain ⟨c0, c1, c2, c3, c4, c5, c6, c7, c8, c9, c10, rfl, -, f2, -, -, -, f6, f7, -, -⟩ := t0.out x (List.mem_of_getElem? hx)
      have hm2 := bounds_i64 f2
      have hlb := And.intro (bounds_i64 f6) (bounds_i64 f7)
      clear f2 f6 f7
      obtain ⟨-, b0, o0, rfl, hc⟩ := (hE0.out.below hB).2.2.2.2 j _ hx
      have d0 := hc 0 _ rfl
      have d1 := hc 1 _ rfl
      have d2 := hc 2 _ rfl
      have d3 := hc 3 _ rfl
      have d4 := hc 4 _ rfl
      have d5 := hc 5 _ rfl
      have d6 := hc 6 _ rfl
      have d7 := hc 7 _ rfl
      have d8 := hc 8 _ rfl
      have d9 := hc 9 _ rfl
      have d10 := hc 10 _ rfl
      rw [Nat.add_zero] at d0
      clear hc hx
      have lwr := hF.hn
      go_upto_region 13 with (fail)
      apply wp_region_seg0 (w := wr) (S := [.q [], .q [], .q [], .q [], .al 5, .st 4 []]) (E := [.q0 _, .q0 _, .q0 _, .q0 _, .al ((fun p => .pointer (some ⟨p, 0, none⟩)), _) 5, .s0 4 (.cells _ _)]) rfl (by kernel_rfl) rfl rfl
      intro th hge hne
      refine Seg.step _ rfl (Or.inl ⟨by rfl, fun U hU => vp_quiet (by (go_simp <;> exact rfl))⟩) ⟨_, by (simp only [Ent.val]; go_simp <;> exact rfl), ?_⟩
      refine Seg.step _ rfl (Or.inl ⟨by rfl, fun U hU => vp_quiet (by (go_simp <;> exact rfl))⟩) ⟨_, by (simp only [Ent.val]; go_simp <;> exact rfl), ?_⟩
      refine Seg.step _ rfl (Or.inl ⟨by rfl, fun U hU => vp_quiet (by (go_simp <;> exact rfl))⟩) ⟨_, by (simp only [Ent.val]; go_simp <;> exact rfl), ?_⟩
      refine Seg.step _ rfl (Or.inl ⟨by rfl, fun U hU => vp_quiet (by (have h0 := After.cellB hU.1 d0; have h1 := After.cellB hU.1 d1; have h2 := After.cellB hU.1 d2; have h3 := After.cellB hU.1 d3; have h4 := After.cellB hU.1 d4; have h5 := After.cellB hU.1 d5; have h6 := After.cellB hU.1 d6; have h7 := After.cellB hU.1 d7; have h8 := After.cellB hU.1 d8; have h9 := After.cellB hU.1 d9; have h10 := After.cellB hU.1 d10; go_simp <;> exact rfl))⟩) ⟨_, by (simp only [Ent.val]; go_simp <;> exact rfl), ?_⟩
      refine Seg.step _ rfl ⟨by rfl, fun U hU => ?_⟩ ?_
      · go_simp; exact vp_alloc rfl rfl rfl
      refine ⟨_, by (simp only [Ent.val]; go_simp <;> exact rfl), ?_⟩
      refine Seg.step _ rfl ⟨by rfl, fun U z k hz hU hc => ?_⟩ ?_
      · have hz2 := Option.some.inj hz
        cases hz2; clear hz
        exact vp_store_agg _ _ _ rfl hc rfl rfl (by kernel_rfl) rfl (by rfl)
      refine ⟨_, by (simp only [Ent.val]; go_simp <;> exact rfl), ?_⟩
      refine Seg.stop (fun U21 hU hk => ?_)
      have nb4 := hge 4 _ _ rfl
      have rb4 := (hk 4 _ 5 rfl trivial).1.1 trivial _ (Nat.zero_le _) rfl
      clear hk hge hne
      generalize th (0 + 4) = p13_4 at *
      simp only [Ent.obj] at rb4
      have r_p13_4 := rb4
      clear rb4
      have n_p13_4 := nb4
      clear nb4
      have sz21 := hU.size
      have hA0 : Below wr.heap.size wr U21 := hU
      clear hU
      clear d0 d1 d2 d3 d4 d5 d6 d7 d8 d9 d10
      have lx1 := held_lt r_p13_4
      go_upto_region 14 with (fail)
      apply wp_region_seg0 (w := U21) (S := [.q [], .al 2, .st 1 []]) (E := [.q0 _, .al ((fun p => .pointer (some ⟨p, 0, none⟩)), _) 2, .s0 1 (.cells _ _)]) rfl (by kernel_rfl) rfl rfl
      intro th hge hne
      refine Seg.step _ rfl (Or.inl ⟨by rfl, fun U hU => vp_quiet (by (go_simp <;> exact rfl))⟩) ⟨_, by (simp only [Ent.val]; go_simp <;> exact rfl), ?_⟩
      refine Seg.step _ rfl ⟨by rfl, fun U hU => ?_⟩ ?_
      · go_simp; exact vp_alloc rfl rfl rfl
      refine ⟨_, by (simp only [Ent.val]; go_simp <;> exact rfl), ?_⟩
      refine Seg.step _ rfl ⟨by rfl, fun U z k hz hU hc => ?_⟩ ?_
      · have hz2 := Option.some.inj hz
        cases hz2; clear hz
        exact vp_store_agg _ _ _ rfl hc rfl rfl (by kernel_rfl) rfl (by rfl)
      refine ⟨_, by (simp only [Ent.val]; go_simp <;> exact rfl), ?_⟩
      refine Seg.stop (fun U22 hU hk => ?_)
      have nb1 := hge 1 _ _ rfl
      have rb1 := (hk 1 _ 2 rfl trivial).1.1 trivial _ (Nat.zero_le _) rfl
      clear hk hge hne
      generalize th (0 + 1) = p14_1 at *
      simp only [Ent.obj] at rb1
      replace r_p13_4 := held_after hU r_p13_4
      have r_p14_1 := rb1
      clear rb1
      have n_p14_1 := nb1
      clear nb1
      have sz22 := hU.size
      replace hA0 := bthen hA0 hU
      clear hU
      have lx2 := held_lt r_p14_1
      go_upto_region 15 with (fail)
      apply wp_region_seg0 (w := U22) (S := [.q [], .al 2, .st 1 []]) (E := [.q0 _, .al ((fun p => .pointer (some ⟨p, 0, none⟩)), _) 2, .s0 1 (.cells _ _)]) rfl (by kernel_rfl) rfl rfl
      intro th hge hne
      refine Seg.step _ rfl (Or.inl ⟨by rfl, fun U hU => vp_quiet (by (go_simp <;> exact rfl))⟩) ⟨_, by (simp only [Ent.val]; go_simp <;> exact rfl), ?_⟩
      refine Seg.step _ rfl ⟨by rfl, fun U hU => ?_⟩ ?_
      · go_simp; exact vp_alloc rfl rfl rfl
      refine ⟨_, by (simp only [Ent.val]; go_simp <;> exact rfl), ?_⟩
      refine Seg.step _ rfl ⟨by rfl, fun U z k hz hU hc => ?_⟩ ?_
      · have hz2 := Option.some.inj hz
        cases hz2; clear hz
        exact vp_store_agg _ _ _ rfl hc rfl rfl (by kernel_rfl) rfl (by rfl)
      refine ⟨_, by (simp only [Ent.val]; go_simp <;> exact rfl), ?_⟩
      refine Seg.stop (fun U23 hU hk => ?_)
      have nb1 := hge 1 _ _ rfl
      have rb1 := (hk 1 _ 2 rfl trivial).1.1 trivial _ (Nat.zero_le _) rfl
      clear hk hge hne
      generalize th (0 + 1) = p15_1 at *
      simp only [Ent.obj] at rb1
      replace r_p13_4 := held_after hU r_p13_4
      replace r_p14_1 := held_after hU r_p14_1
      have r_p15_1 := rb1
      clear rb1
      have n_p15_1 := nb1
      clear nb1
      have sz23 := hU.size
      replace hA0 := bthen hA0 hU
      clear hU
      replace hF := hF.aft hA0
      replace hB := hB.trans (hA0.mono hB.size)
      clear hA0
      have r_x := r_p13_4
      have r12 := r_p14_1
      have r13 := r_p15_1
      clear r_p13_4 r_p14_1 r_p15_1
      have nx_p : p13_4 ≠ Bp := by omega
      have nx_r : p13_4 ≠ Br := by omega
      have n12_p : p14_1 ≠ Bp := by omega
      have n12_r : p14_1 ≠ Br := by omega
      have n13_p : p15_1 ≠ Bp := by omega
      have n13_r : p15_1 ≠ Br := by omega
      have nx_q : p13_4 ≠ p9_1 := by omega
      have nx_s : p13_4 ≠ p9_4 := by omega
      have n12_q : p14_1 ≠ p9_1 := by omega
      have n12_s : p14_1 ≠ p9_4 := by omega
      have n13_q : p15_1 ≠ p9_1 := by omega
      have n13_s : p15_1 ≠ p9_4 := by omega
      have l13 := held_lt r_x
      have nx12 : p13_4 ≠ p14_1 := by omega
      have nx13 : p13_4 ≠ p15_1 := by omega
      have n1213 : p14_1 ≠ p15_1 := by omega
      clear lx1 lx2
      have nos2 : ∀ (b : Bool) (n : Int) (j : Nat) (s : ByteArray), (#[Value.bool b, .int .i64 n] : Array Value)[j]? ≠ some (.string s) := by
        intro b n j s h
        match j, h with
        | 0, h => simp at h
        | 1, h => simp at h
        | j + 2, h => simp at h
      by_cases q_0 : c0 = 0
      case pos =>
        subst q_0
        obtain ⟨⟨PL, x⟩, hpd⟩ : ∃ r, putD c1 c2 c3 c4 c5 c6 c7 = r := ⟨_, rfl⟩
        obtain ⟨⟨⟨ni, nn⟩, er2, LR2⟩, hnm⟩ : ∃ r, nmS er LR c3 c4 c5 c6 c7 = r := ⟨_, rfl⟩
        have hleft := nmS_left (e := er) (L := LR) (W := c3) (M := c4) (F := c5) (lo := c6) (hi := c7) hsz
        rw [hnm] at hleft
        dsimp only at hleft
        have kp1 := fun U h h2 h3 => pnumN_any N W.heap.size Bp e LP c1 c2 c3 c4 c5 c6 c7 U h (by omega) (by omega) (by omega) h2 hm2 hlb h3
        have kq1 := fun U h h2 => rnumN_any N W.heap.size p9_1 e LP c1 c2 c3 c4 c5 c6 c7 U h (by omega) (by omega) (by omega) h2 hm2 hlb
        have kr1 := fun U h => enumN_any Br Br er LR c3 c4 c5 c6 c7 U h hlr hsz hlb
        have ks1 := fun U h => rtakenumN_any W.heap.size p9_4 er LR c3 c4 c5 c6 c7 U h hsz hlb
        rw [hpd] at kp1 kq1
        rw [hnm] at kr1 ks1
        dsimp only at kp1 kq1 kr1 ks1
        generalize nb PL = S at kp1 kq1
        replace kp1 := hid kp1
        replace kq1 := hid kq1
        replace kr1 := hid kr1
        replace ks1 := hid ks1
        clear hpd hnm hm2 hlb
        have x0 := held_cell r_x 0 _ rfl
        have x1 := held_cell r_x 1 _ rfl
        have x2 := held_cell r_x 2 _ rfl
        have x3 := held_cell r_x 3 _ rfl
        have x4 := held_cell r_x 4 _ rfl
        have x5 := held_cell r_x 5 _ rfl
        have x6 := held_cell r_x 6 _ rfl
        have x7 := held_cell r_x 7 _ rfl
        have x8 := held_cell r_x 8 _ rfl
        have x9 := held_cell r_x 9 _ rfl
        have x10 := held_cell r_x 10 _ rfl
        go_wp2_with fail
        refine (kp1.out _ hF.hp hF.hn (hT0.out.on hB)).mono ?_
        rintro r Y1 ⟨rfl, hp2, k1⟩
        obtain ⟨q1, q2, q3, q4, q5⟩ := Four.pen P.out hF k1 hp2
        replace r_x := hF.hp.besides k1 r_x nx_p (by decide)
        replace r12 := hF.hp.besides k1 r12 n12_p (by decide)
        replace r13 := hF.hp.besides k1 r13 n13_p (by decide)
        replace hB := hB.trans k1.below
        clear hF k1
        clear x0 x1 x2 x3 x4 x5 x6 x7 x8 x9 x10
        have x0 := held_cell r_x 0 _ rfl
        have x1 := held_cell r_x 1 _ rfl
        have x2 := held_cell r_x 2 _ rfl
        have x3 := held_cell r_x 3 _ rfl
        have x4 := held_cell r_x 4 _ rfl
        have x5 := held_cell r_x 5 _ rfl
        have x6 := held_cell r_x 6 _ rfl
        have x7 := held_cell r_x 7 _ rfl
        have x8 := held_cell r_x 8 _ rfl
        have x9 := held_cell r_x 9 _ rfl
        have x10 := held_cell r_x 10 _ rfl
        go_wp2_with fail
        refine (kq1.out _ q1 q5).mono ?_
        rintro r Y2 ⟨rfl, hq2, k2⟩
        have hF := Four.row P.out hp2 q1 q2 q3 q4 q5 k2 hq2
        replace r_x := q1.besides k2 r_x nx_q (by decide)
        replace r12 := q1.besides k2 r12 n12_q (by decide)
        replace r13 := q1.besides k2 r13 n13_q (by decide)
        replace hB := hB.trans k2.below
        clear hp2 q1 q2 q3 q4 q5 k2 hq2
        clear x0 x1 x2 x3 x4 x5 x6 x7 x8 x9 x10
        have x0 := held_cell r_x 0 _ rfl
        have x1 := held_cell r_x 1 _ rfl
        have x2 := held_cell r_x 2 _ rfl
        have x3 := held_cell r_x 3 _ rfl
        have x4 := held_cell r_x 4 _ rfl
        have x5 := held_cell r_x 5 _ rfl
        have x6 := held_cell r_x 6 _ rfl
        have x7 := held_cell r_x 7 _ rfl
        have x8 := held_cell r_x 8 _ rfl
        have x9 := held_cell r_x 9 _ rfl
        have x10 := held_cell r_x 10 _ rfl
        go_wp2_with fail
        refine (kr1.out _ hF.hr).mono ?_
        rintro r Y3 ⟨rfl, hr2, k3⟩
        have hP := Pc.eye P.out hF.pc k3 hr2
        replace r_x := eff_block24 k3 r_x nx_r
        replace r12 := eff_block24 k3 r12 n12_r
        replace r13 := eff_block24 k3 r13 n13_r
        replace hB := eff_below24 hB k3 (by omega) hB.size
        clear k3 hr2 hF
        clear x0 x1 x2 x3 x4 x5 x6 x7 x8 x9 x10
        have z0 := held_cell r12 0 _ rfl
        have z1 := held_cell r12 1 _ rfl
        have g0 := held_free r12 0
        have g1 := held_free r12 1
        obtain ⟨Sr12, hSr12, s1, o1⟩ := st2 r12 (.bool ni) (.int .i64 nn)
        replace hP := Pc.only hP o1 r12 (by decide) (nos2 _ _) n12_p n12_r n12_q n12_s ⟨by omega, by omega⟩
        replace r_x := (o1.block _ nx12).trans r_x
        replace r13 := (o1.block _ n1213.symm).trans r13
        replace hB := belowS hB o1 (by omega)
        clear o1
        go_upto_region 25 with (fail)
        replace hSr12 := hid hSr12
        clear z0 z1 g0 g1 r12
        have r12 := s1
        clear s1
        have x0 := held_cell r_x 0 _ rfl
        have x1 := held_cell r_x 1 _ rfl
        have x2 := held_cell r_x 2 _ rfl
        have x3 := held_cell r_x 3 _ rfl
        have x4 := held_cell r_x 4 _ rfl
        have x5 := held_cell r_x 5 _ rfl
        have x6 := held_cell r_x 6 _ rfl
        have x7 := held_cell r_x 7 _ rfl
        have x8 := held_cell r_x 8 _ rfl
        have x9 := held_cell r_x 9 _ rfl
        have x10 := held_cell r_x 10 _ rfl
        go_wp2_with fail
        refine (ks1.out _ hP.hs).mono ?_
        rintro r Y4 ⟨rfl, hr2, k3⟩
        replace hP := Pc.rd P.out hP k3 hr2
        replace r_x := eff_block24 k3 r_x nx_s
        replace r12 := eff_block24 k3 r12 n12_s
        replace r13 := eff_block24 k3 r13 n13_s
        replace hB := eff_below24 hB k3 (by omega) hB.size
        clear k3 hr2
        clear x0 x1 x2 x3 x4 x5 x6 x7 x8 x9 x10
        have z0 := held_cell r13 0 _ rfl
        have z1 := held_cell r13 1 _ rfl
        have g0 := held_free r13 0
        have g1 := held_free r13 1
        obtain ⟨Sr13, hSr13, s1, o1⟩ := st2 r13 (.bool ni) (.int .i64 nn)
        replace hP := Pc.only hP o1 r13 (by decide) (nos2 _ _) n13_p n13_r n13_q n13_s ⟨by omega, by omega⟩
        replace r_x := (o1.block _ nx13).trans r_x
        replace r12 := (o1.block _ n1213).trans r12
        replace hB := belowS hB o1 (by omega)
        clear o1
        go_upto_region 36 with (fail)
        replace hSr13 := hid hSr13
        clear z0 z1 g0 g1 r13
        have r13 := s1
        clear s1
        have hF := hP.four
        clear hP
        obtain ⟨F9, a9, c9x, i9, -, -, -, g9, -, -⟩ := hF.hs
        go_upto_region 36 with (fail)
        apply wp_region_seg (w := Sr13) (S := [.q [], .q [], .q [], .q [], .q [], .q [], .q [], .q [], .q [], .q [], .q [], .q [], .q [], .q [], .q [], .q [], .q [], .q [], .q [], .q [], .q [], .q [], .q [], .q [], .q [], .q []]) (E := [.q0 _, .q0 _, .q0 _, .q0 _, .q0 _, .q0 _, .q0 _, .q0 _, .q0 _, .q0 _, .c0 _, .q0 _, .c0 _, .q0 _, .q0 _, .q0 _, .q0 _, .c0 _, .c0 _, .q0 _, .q0 _, .q0 _, .q0 _, .c0 _, .q0 _, .q0 _]) (by kernel_rfl) rfl (by kernel_rfl) rfl rfl
        intro th hge hne
        refine Seg.step _ rfl (Or.inl ⟨by rfl, fun U hU => vp_quiet (by (have h0 := held_cell (held_after hU.1 r12) 0 _ rfl; have h1 := held_cell (held_after hU.1 r12) 1 _ rfl; go_simp <;> exact rfl))⟩) ⟨_, by (simp only [Ent.val]; go_simp <;> exact rfl), ?_⟩
        refine Seg.step _ rfl (Or.inl ⟨by rfl, fun U hU => vp_quiet (by (have h0 := held_cell (held_after hU.1 r13) 0 _ rfl; have h1 := held_cell (held_after hU.1 r13) 1 _ rfl; go_simp <;> exact rfl))⟩) ⟨_, by (simp only [Ent.val]; go_simp <;> exact rfl), ?_⟩
        refine Seg.step _ rfl (Or.inl ⟨by rfl, fun U hU => vp_quiet (by (go_simp <;> exact rfl))⟩) ⟨_, by (simp only [Ent.val]; go_simp <;> exact rfl), ?_⟩
        refine Seg.step _ rfl (Or.inl ⟨by rfl, fun U hU => vp_quiet (by (go_simp <;> exact rfl))⟩) ⟨_, by (simp only [Ent.val]; go_simp <;> exact rfl), ?_⟩
        refine Seg.step _ rfl (Or.inl ⟨by rfl, fun U hU => vp_quiet (by (go_simp <;> exact rfl))⟩) ⟨_, by (simp only [Ent.val]; go_simp <;> exact rfl), ?_⟩
        refine Seg.step _ rfl (Or.inl ⟨by rfl, fun U hU => vp_quiet (by (go_simp <;> exact rfl))⟩) ⟨_, by (simp only [Ent.val]; go_simp <;> exact rfl), ?_⟩
        refine Seg.step _ rfl (Or.inl ⟨by rfl, fun U hU => vp_quiet (by (go_simp <;> exact rfl))⟩) ⟨_, by (simp only [Ent.val]; go_simp <;> exact rfl), ?_⟩
        refine Seg.step _ rfl (Or.inl ⟨by rfl, fun U hU => vp_quiet (by (go_simp <;> exact rfl))⟩) ⟨_, by (simp only [Ent.val]; go_simp <;> exact rfl), ?_⟩
        refine Seg.step _ rfl (Or.inl ⟨by rfl, fun U hU => vp_quiet (by (go_simp <;> exact rfl))⟩) ⟨_, by (simp only [Ent.val]; go_simp <;> exact rfl), ?_⟩
        refine Seg.step _ rfl (Or.inl ⟨by rfl, fun U hU => vp_quiet (by (go_simp <;> exact rfl))⟩) ⟨_, by (simp only [Ent.val]; go_simp <;> exact rfl), ?_⟩
        refine Seg.step _ rfl (Or.inl ⟨by rfl, fun U hU => ?_⟩) ?_
        · go_simp
          refine vp_calls (eleftN_any Br Br er2 LR2 _ (hF.hr.aft hU.1))
        refine ⟨_, by (simp only [Ent.val]; go_simp <;> exact rfl), ?_⟩
        refine Seg.step _ rfl (Or.inl ⟨by rfl, fun U hU => vp_quiet (by (go_simp <;> exact rfl))⟩) ⟨_, by (simp only [Ent.val]; go_simp <;> exact rfl), ?_⟩
        refine Seg.step _ rfl (Or.inl ⟨by rfl, fun U hU => ?_⟩) ?_
        · go_simp
          refine vp_call (rleftN_any W.heap.size p9_4 er2 LR2 _ (hF.hs.aft hU.1))
        refine ⟨_, by (simp only [Ent.val]; go_simp <;> exact rfl), ?_⟩
        refine Seg.step _ rfl (Or.inl ⟨by rfl, fun U hU => vp_quiet (by (go_simp <;> exact rfl))⟩) ⟨_, by (simp only [Ent.val]; go_simp <;> exact rfl), ?_⟩
        refine Seg.step _ rfl (Or.inl ⟨by rfl, fun U hU => vp_quiet (by (go_simp <;> exact rfl))⟩) ⟨_, by (simp only [Ent.val]; go_simp <;> exact rfl), ?_⟩
        refine Seg.step _ rfl (Or.inl ⟨by rfl, fun U hU => vp_quiet (by (go_simp <;> exact rfl))⟩) ⟨_, by (simp only [Ent.val]; go_simp <;> exact rfl), ?_⟩
        refine Seg.step _ rfl (Or.inl ⟨by rfl, fun U hU => vp_quiet (by (go_simp <;> exact rfl))⟩) ⟨_, by (simp only [Ent.val]; go_simp <;> exact rfl), ?_⟩
        refine Seg.step _ rfl (Or.inl ⟨by rfl, fun U hU => ?_⟩) ?_
        · go_simp
          refine vp_calls (eerrN_any Br Br er2 LR2 _ (hF.hr.aft hU.1))
        refine ⟨_, by (simp only [Ent.val]; go_simp <;> exact rfl), ?_⟩
        refine Seg.step _ rfl (Or.inl ⟨by rfl, fun U hU => ?_⟩) ?_
        · go_simp
          refine vp_calls (num23b_any _ _)
        refine ⟨_, by (simp only [Ent.val]; go_simp <;> exact rfl), ?_⟩
        refine Seg.step _ rfl (Or.inl ⟨by rfl, fun U hU => vp_quiet (by (go_simp <;> exact rfl))⟩) ⟨_, by (simp only [Ent.val]; go_simp <;> exact rfl), ?_⟩
        refine Seg.step _ rfl (Or.inl ⟨by rfl, fun U hU => vp_quiet (by (go_simp <;> exact rfl))⟩) ⟨_, by (simp only [Ent.val]; go_simp <;> exact rfl), ?_⟩
        refine Seg.step _ rfl (Or.inl ⟨by rfl, fun U hU => vp_quiet (by (go_simp <;> exact rfl))⟩) ⟨_, by (simp only [Ent.val]; go_simp <;> exact rfl), ?_⟩
        refine Seg.step _ rfl (Or.inl ⟨by rfl, fun U hU => vp_quiet (by (have h0 := held_cell (held_after hU.1 g9) 2 _ rfl; go_simp <;> exact rfl))⟩) ⟨_, by (simp only [Ent.val]; go_simp <;> exact rfl), ?_⟩
        refine Seg.step _ rfl (Or.inl ⟨by rfl, fun U hU => ?_⟩) ?_
        · go_simp
          refine vp_calls (num23b_any _ _)
        refine ⟨_, by (simp only [Ent.val]; go_simp <;> exact rfl), ?_⟩
        refine Seg.step _ rfl (Or.inl ⟨by rfl, fun U hU => vp_quiet (by (go_simp <;> exact rfl))⟩) ⟨_, by (simp only [Ent.val]; go_simp <;> exact rfl), ?_⟩
        refine Seg.step _ rfl (Or.inl ⟨by rfl, fun U hU => vp_quiet (by (go_simp <;> exact rfl))⟩) ⟨_, by (simp only [Ent.val]; go_simp <;> exact rfl), ?_⟩
        refine Seg.stop (fun U51 hU hk => ?_)
        clear hk hge hne
        have sz51 := hU.size
        have hA0 : Below Sr13.heap.size Sr13 U51 := hU
        clear hU
        have hR2 := hid (show Rnd Bp Br p9_1 p9_4 N W (j + 1) _ _ _ er2 LR2 from ⟨hF.aft hA0, hB.trans (hA0.mono hB.size), by rw [List.length_append]; simp; omega, Nat.le_trans hleft.2 hlr, hleft.1⟩)
        clear hF hB hA0 g9 r_x r12 r13
        go_wp2_with fail
        go_roundw
        case rel => exact ⟨j + 1, _, _, _, _, by simp, hk1.out, hR2⟩
        case measure => simp [intOf]; exact hms.out
      have t_0 : (c0 == 0) = false := by simpa using q_0
      by_cases q_1 : c0 = 1
      case pos =>
        subst q_1
        obtain ⟨⟨PA, PB, x⟩, hpd⟩ : ∃ r, angD c1 c2 c8 = r := ⟨_, rfl⟩
        obtain ⟨⟨⟨ni, nn⟩, er2, LR2⟩, hnm⟩ : ∃ r, agS er LR c8 = r := ⟨_, rfl⟩
        have hleft := agS_left (e := er) (L := LR) (lat := c8) hsz
        rw [hnm] at hleft
        dsimp only at hleft
        have kp1 := fun U h h2 h3 => pangN_any N W.heap.size Bp e LP c1 c2 c8 U h (by omega) (by omega) (by omega) h2 hm2 h3
        have kq1 := fun U h h2 => rangN_any N W.heap.size p9_1 e LP c1 c2 c8 U h (by omega) (by omega) (by omega) h2 hm2
        have kr1 := fun U h => eangN_any Br Br er LR c8 U h hlr hsz
        have ks1 := fun U h => rtakeangN_any W.heap.size p9_4 er LR c8 U h hsz
        rw [hpd] at kp1 kq1
        rw [hnm] at kr1 ks1
        dsimp only at kp1 kq1 kr1 ks1
        generalize nb PA = S at kp1 kq1
        generalize nb PB = S2 at kp1 kq1
        replace kp1 := hid kp1
        replace kq1 := hid kq1
        replace kr1 := hid kr1
        replace ks1 := hid ks1
        clear hpd hnm hm2 hlb
        have x0 := held_cell r_x 0 _ rfl
        have x1 := held_cell r_x 1 _ rfl
        have x2 := held_cell r_x 2 _ rfl
        have x3 := held_cell r_x 3 _ rfl
        have x4 := held_cell r_x 4 _ rfl
        have x5 := held_cell r_x 5 _ rfl
        have x6 := held_cell r_x 6 _ rfl
        have x7 := held_cell r_x 7 _ rfl
        have x8 := held_cell r_x 8 _ rfl
        have x9 := held_cell r_x 9 _ rfl
        have x10 := held_cell r_x 10 _ rfl
        go_wp2_with fail
        refine (kp1.out _ hF.hp hF.hn (hT0.out.on hB)).mono ?_
        rintro r Y1 ⟨rfl, hp2, k1⟩
        obtain ⟨q1, q2, q3, q4, q5⟩ := Four.pen P.out hF k1 hp2
        replace r_x := hF.hp.besides k1 r_x nx_p (by decide)
        replace r12 := hF.hp.besides k1 r12 n12_p (by decide)
        replace r13 := hF.hp.besides k1 r13 n13_p (by decide)
        replace hB := hB.trans k1.below
        clear hF k1
        clear x0 x1 x2 x3 x4 x5 x6 x7 x8 x9 x10
        have x0 := held_cell r_x 0 _ rfl
        have x1 := held_cell r_x 1 _ rfl
        have x2 := held_cell r_x 2 _ rfl
        have x3 := held_cell r_x 3 _ rfl
        have x4 := held_cell r_x 4 _ rfl
        have x5 := held_cell r_x 5 _ rfl
        have x6 := held_cell r_x 6 _ rfl
        have x7 := held_cell r_x 7 _ rfl
        have x8 := held_cell r_x 8 _ rfl
        have x9 := held_cell r_x 9 _ rfl
        have x10 := held_cell r_x 10 _ rfl
        go_wp2_with fail
        refine (kq1.out _ q1 q5).mono ?_
        rintro r Y2 ⟨rfl, hq2, k2⟩
        have hF := Four.row P.out hp2 q1 q2 q3 q4 q5 k2 hq2
        replace r_x := q1.besides k2 r_x nx_q (by decide)
        replace r12 := q1.besides k2 r12 n12_q (by decide)
        replace r13 := q1.besides k2 r13 n13_q (by decide)
        replace hB := hB.trans k2.below
        clear hp2 q1 q2 q3 q4 q5 k2 hq2
        clear x0 x1 x2 x3 x4 x5 x6 x7 x8 x9 x10
        have x0 := held_cell r_x 0 _ rfl
        have x1 := held_cell r_x 1 _ rfl
        have x2 := held_cell r_x 2 _ rfl
        have x3 := held_cell r_x 3 _ rfl
        have x4 := held_cell r_x 4 _ rfl
        have x5 := held_cell r_x 5 _ rfl
        have x6 := held_cell r_x 6 _ rfl
        have x7 := held_cell r_x 7 _ rfl
        have x8 := held_cell r_x 8 _ rfl
        have x9 := held_cell r_x 9 _ rfl
        have x10 := held_cell r_x 10 _ rfl
        go_wp2_with fail
        refine (kr1.out _ hF.hr).mono ?_
        rintro r Y3 ⟨rfl, hr2, k3⟩
        have hP := Pc.eye P.out hF.pc k3 hr2
        replace r_x := eff_block24 k3 r_x nx_r
        replace r12 := eff_block24 k3 r12 n12_r
        replace r13 := eff_block24 k3 r13 n13_r
        replace hB := eff_below24 hB k3 (by omega) hB.size
        clear k3 hr2 hF
        clear x0 x1 x2 x3 x4 x5 x6 x7 x8 x9 x10
        have z0 := held_cell r12 0 _ rfl
        have z1 := held_cell r12 1 _ rfl
        have g0 := held_free r12 0
        have g1 := held_free r12 1
        obtain ⟨Sr12, hSr12, s1, o1⟩ := st2 r12 (.bool ni) (.int .i64 nn)
        replace hP := Pc.only hP o1 r12 (by decide) (nos2 _ _) n12_p n12_r n12_q n12_s ⟨by omega, by omega⟩
        replace r_x := (o1.block _ nx12).trans r_x
        replace r13 := (o1.block _ n1213.symm).trans r13
        replace hB := belowS hB o1 (by omega)
        clear o1
        go_upto_region 30 with (fail)
        replace hSr12 := hid hSr12
        clear z0 z1 g0 g1 r12
        have r12 := s1
        clear s1
        have x0 := held_cell r_x 0 _ rfl
        have x1 := held_cell r_x 1 _ rfl
        have x2 := held_cell r_x 2 _ rfl
        have x3 := held_cell r_x 3 _ rfl
        have x4 := held_cell r_x 4 _ rfl
        have x5 := held_cell r_x 5 _ rfl
        have x6 := held_cell r_x 6 _ rfl
        have x7 := held_cell r_x 7 _ rfl
        have x8 := held_cell r_x 8 _ rfl
        have x9 := held_cell r_x 9 _ rfl
        have x10 := held_cell r_x 10 _ rfl
        go_wp2_with fail
        refine (ks1.out _ hP.hs).mono ?_
        rintro r Y4 ⟨rfl, hr2, k3⟩
        replace hP := Pc.rd P.out hP k3 hr2
        replace r_x := eff_block24 k3 r_x nx_s
        replace r12 := eff_block24 k3 r12 n12_s
        replace r13 := eff_block24 k3 r13 n13_s
        replace hB := eff_below24 hB k3 (by omega) hB.size
        clear k3 hr2
        clear x0 x1 x2 x3 x4 x5 x6 x7 x8 x9 x10
        have z0 := held_cell r13 0 _ rfl
        have z1 := held_cell r13 1 _ rfl
        have g0 := held_free r13 0
        have g1 := held_free r13 1
        obtain ⟨Sr13, hSr13, s1, o1⟩ := st2 r13 (.bool ni) (.int .i64 nn)
        replace hP := Pc.only hP o1 r13 (by decide) (nos2 _ _) n13_p n13_r n13_q n13_s ⟨by omega, by omega⟩
        replace r_x := (o1.block _ nx13).trans r_x
        replace r12 := (o1.block _ n1213).trans r12
        replace hB := belowS hB o1 (by omega)
        clear o1
        go_upto_region 36 with (fail)
        replace hSr13 := hid hSr13
        clear z0 z1 g0 g1 r13
        have r13 := s1
        clear s1
        have hF := hP.four
        clear hP
        obtain ⟨F9, a9, c9x, i9, -, -, -, g9, -, -⟩ := hF.hs
        go_upto_region 36 with (fail)
        apply wp_region_seg (w := Sr13) (S := [.q [], .q [], .q [], .q [], .q [], .q [], .q [], .q [], .q [], .q [], .q [], .q [], .q [], .q [], .q [], .q [], .q [], .q [], .q [], .q [], .q [], .q [], .q [], .q [], .q [], .q []]) (E := [.q0 _, .q0 _, .q0 _, .q0 _, .q0 _, .q0 _, .q0 _, .q0 _, .q0 _, .q0 _, .c0 _, .q0 _, .c0 _, .q0 _, .q0 _, .q0 _, .q0 _, .c0 _, .c0 _, .q0 _, .q0 _, .q0 _, .q0 _, .c0 _, .q0 _, .q0 _]) (by kernel_rfl) rfl (by kernel_rfl) rfl rfl
        intro th hge hne
        refine Seg.step _ rfl (Or.inl ⟨by rfl, fun U hU => vp_quiet (by (have h0 := held_cell (held_after hU.1 r12) 0 _ rfl; have h1 := held_cell (held_after hU.1 r12) 1 _ rfl; go_simp <;> exact rfl))⟩) ⟨_, by (simp only [Ent.val]; go_simp <;> exact rfl), ?_⟩
        refine Seg.step _ rfl (Or.inl ⟨by rfl, fun U hU => vp_quiet (by (have h0 := held_cell (held_after hU.1 r13) 0 _ rfl; have h1 := held_cell (held_after hU.1 r13) 1 _ rfl; go_simp <;> exact rfl))⟩) ⟨_, by (simp only [Ent.val]; go_simp <;> exact rfl), ?_⟩
        refine Seg.step _ rfl (Or.inl ⟨by rfl, fun U hU => vp_quiet (by (go_simp <;> exact rfl))⟩) ⟨_, by (simp only [Ent.val]; go_simp <;> exact rfl), ?_⟩
        refine Seg.step _ rfl (Or.inl ⟨by rfl, fun U hU => vp_quiet (by (go_simp <;> exact rfl))⟩) ⟨_, by (simp only [Ent.val]; go_simp <;> exact rfl), ?_⟩
        refine Seg.step _ rfl (Or.inl ⟨by rfl, fun U hU => vp_quiet (by (go_simp <;> exact rfl))⟩) ⟨_, by (simp only [Ent.val]; go_simp <;> exact rfl), ?_⟩
        refine Seg.step _ rfl (Or.inl ⟨by rfl, fun U hU => vp_quiet (by (go_simp <;> exact rfl))⟩) ⟨_, by (simp only [Ent.val]; go_simp <;> exact rfl), ?_⟩
        refine Seg.step _ rfl (Or.inl ⟨by rfl, fun U hU => vp_quiet (by (go_simp <;> exact rfl))⟩) ⟨_, by (simp only [Ent.val]; go_simp <;> exact rfl), ?_⟩
        refine Seg.step _ rfl (Or.inl ⟨by rfl, fun U hU => vp_quiet (by (go_simp <;> exact rfl))⟩) ⟨_, by (simp only [Ent.val]; go_simp <;> exact rfl), ?_⟩
        refine Seg.step _ rfl (Or.inl ⟨by rfl, fun U hU => vp_quiet (by (go_simp <;> exact rfl))⟩) ⟨_, by (simp only [Ent.val]; go_simp <;> exact rfl), ?_⟩
        refine Seg.step _ rfl (Or.inl ⟨by rfl, fun U hU => vp_quiet (by (go_simp <;> exact rfl))⟩) ⟨_, by (simp only [Ent.val]; go_simp <;> exact rfl), ?_⟩
        refine Seg.step _ rfl (Or.inl ⟨by rfl, fun U hU => ?_⟩) ?_
        · go_simp
          refine vp_calls (eleftN_any Br Br er2 LR2 _ (hF.hr.aft hU.1))
        refine ⟨_, by (simp only [Ent.val]; go_simp <;> exact rfl), ?_⟩
        refine Seg.step _ rfl (Or.inl ⟨by rfl, fun U hU => vp_quiet (by (go_simp <;> exact rfl))⟩) ⟨_, by (simp only [Ent.val]; go_simp <;> exact rfl), ?_⟩
        refine Seg.step _ rfl (Or.inl ⟨by rfl, fun U hU => ?_⟩) ?_
        · go_simp
          refine vp_call (rleftN_any W.heap.size p9_4 er2 LR2 _ (hF.hs.aft hU.1))
        refine ⟨_, by (simp only [Ent.val]; go_simp <;> exact rfl), ?_⟩
        refine Seg.step _ rfl (Or.inl ⟨by rfl, fun U hU => vp_quiet (by (go_simp <;> exact rfl))⟩) ⟨_, by (simp only [Ent.val]; go_simp <;> exact rfl), ?_⟩
        refine Seg.step _ rfl (Or.inl ⟨by rfl, fun U hU => vp_quiet (by (go_simp <;> exact rfl))⟩) ⟨_, by (simp only [Ent.val]; go_simp <;> exact rfl), ?_⟩
        refine Seg.step _ rfl (Or.inl ⟨by rfl, fun U hU => vp_quiet (by (go_simp <;> exact rfl))⟩) ⟨_, by (simp only [Ent.val]; go_simp <;> exact rfl), ?_⟩
        refine Seg.step _ rfl (Or.inl ⟨by rfl, fun U hU => vp_quiet (by (go_simp <;> exact rfl))⟩) ⟨_, by (simp only [Ent.val]; go_simp <;> exact rfl), ?_⟩
        refine Seg.step _ rfl (Or.inl ⟨by rfl, fun U hU => ?_⟩) ?_
        · go_simp
          refine vp_calls (eerrN_any Br Br er2 LR2 _ (hF.hr.aft hU.1))
        refine ⟨_, by (simp only [Ent.val]; go_simp <;> exact rfl), ?_⟩
        refine Seg.step _ rfl (Or.inl ⟨by rfl, fun U hU => ?_⟩) ?_
        · go_simp
          refine vp_calls (num23b_any _ _)
        refine ⟨_, by (simp only [Ent.val]; go_simp <;> exact rfl), ?_⟩
        refine Seg.step _ rfl (Or.inl ⟨by rfl, fun U hU => vp_quiet (by (go_simp <;> exact rfl))⟩) ⟨_, by (simp only [Ent.val]; go_simp <;> exact rfl), ?_⟩
        refine Seg.step _ rfl (Or.inl ⟨by rfl, fun U hU => vp_quiet (by (go_simp <;> exact rfl))⟩) ⟨_, by (simp only [Ent.val]; go_simp <;> exact rfl), ?_⟩
        refine Seg.step _ rfl (Or.inl ⟨by rfl, fun U hU => vp_quiet (by (go_simp <;> exact rfl))⟩) ⟨_, by (simp only [Ent.val]; go_simp <;> exact rfl), ?_⟩
        refine Seg.step _ rfl (Or.inl ⟨by rfl, fun U hU => vp_quiet (by (have h0 := held_cell (held_after hU.1 g9) 2 _ rfl; go_simp <;> exact rfl))⟩) ⟨_, by (simp only [Ent.val]; go_simp <;> exact rfl), ?_⟩
        refine Seg.step _ rfl (Or.inl ⟨by rfl, fun U hU => ?_⟩) ?_
        · go_simp
          refine vp_calls (num23b_any _ _)
        refine ⟨_, by (simp only [Ent.val]; go_simp <;> exact rfl), ?_⟩
        refine Seg.step _ rfl (Or.inl ⟨by rfl, fun U hU => vp_quiet (by (go_simp <;> exact rfl))⟩) ⟨_, by (simp only [Ent.val]; go_simp <;> exact rfl), ?_⟩
        refine Seg.step _ rfl (Or.inl ⟨by rfl, fun U hU => vp_quiet (by (go_simp <;> exact rfl))⟩) ⟨_, by (simp only [Ent.val]; go_simp <;> exact rfl), ?_⟩
        refine Seg.stop (fun U51 hU hk => ?_)
        clear hk hge hne
        have sz51 := hU.size
        have hA0 : Below Sr13.heap.size Sr13 U51 := hU
        clear hU
        have hR2 := hid (show Rnd Bp Br p9_1 p9_4 N W (j + 1) _ _ _ er2 LR2 from ⟨hF.aft hA0, hB.trans (hA0.mono hB.size), by rw [List.length_append]; simp; omega, Nat.le_trans hleft.2 hlr, hleft.1⟩)
        clear hF hB hA0 g9 r_x r12 r13
        go_wp2_with fail
        go_roundw
        case rel => exact ⟨j + 1, _, _, _, _, by simp, hk1.out, hR2⟩
        case measure => simp [intOf]; exact hms.out
      have t_1 : (c0 == 1) = false := by simpa using q_1
      by_cases q_2 : c0 = 2
      case pos =>
        subst q_2
        obtain ⟨⟨tx, er2, LR2⟩, hnm⟩ : ∃ r, txS er LR = r := ⟨_, rfl⟩
        have hleft := txS_size (e := er) (L := LR) hsz
        rw [hnm] at hleft
        dsimp only at hleft
        have kp1 := fun U h h2 => ptextN_any N W.heap.size Bp e c10 LP c9 U h (by omega) (by omega) (by omega) h2
        have kq1 := fun U h h2 => rtextN_any N W.heap.size p9_1 e c10 LP c9 U h (by omega) (by omega) (by omega) h2
        have kr1 := fun U h => etextN_any Br Br er LR U h hlr
        have ks1 := fun U h => rtaketextN_any W.heap.size p9_4 er LR U h
        rw [hnm] at kr1 ks1
        dsimp only at kr1 ks1
        replace kp1 := hid kp1
        replace kq1 := hid kq1
        replace kr1 := hid kr1
        replace ks1 := hid ks1
        clear hnm hm2 hlb
        have x0 := held_cell r_x 0 _ rfl
        have x1 := held_cell r_x 1 _ rfl
        have x2 := held_cell r_x 2 _ rfl
        have x3 := held_cell r_x 3 _ rfl
        have x4 := held_cell r_x 4 _ rfl
        have x5 := held_cell r_x 5 _ rfl
        have x6 := held_cell r_x 6 _ rfl
        have x7 := held_cell r_x 7 _ rfl
        have x8 := held_cell r_x 8 _ rfl
        have x9 := held_cell r_x 9 _ rfl
        have x10 := held_cell r_x 10 _ rfl
        go_wp2_with fail
        refine (kp1.out _ hF.hp hF.hn).mono ?_
        rintro r Y1 ⟨rfl, hp2, k1⟩
        obtain ⟨q1, q2, q3, q4, q5⟩ := Four.pen P.out hF k1 hp2
        replace r_x := hF.hp.besides k1 r_x nx_p (by decide)
        replace r12 := hF.hp.besides k1 r12 n12_p (by decide)
        replace r13 := hF.hp.besides k1 r13 n13_p (by decide)
        replace hB := hB.trans k1.below
        clear hF k1
        clear x0 x1 x2 x3 x4 x5 x6 x7 x8 x9 x10
        have x0 := held_cell r_x 0 _ rfl
        have x1 := held_cell r_x 1 _ rfl
        have x2 := held_cell r_x 2 _ rfl
        have x3 := held_cell r_x 3 _ rfl
        have x4 := held_cell r_x 4 _ rfl
        have x5 := held_cell r_x 5 _ rfl
        have x6 := held_cell r_x 6 _ rfl
        have x7 := held_cell r_x 7 _ rfl
        have x8 := held_cell r_x 8 _ rfl
        have x9 := held_cell r_x 9 _ rfl
        have x10 := held_cell r_x 10 _ rfl
        go_wp2_with fail
        refine (kq1.out _ q1 q5).mono ?_
        rintro r Y2 ⟨rfl, hq2, k2⟩
        have hF := Four.row P.out hp2 q1 q2 q3 q4 q5 k2 hq2
        replace r_x := q1.besides k2 r_x nx_q (by decide)
        replace r12 := q1.besides k2 r12 n12_q (by decide)
        replace r13 := q1.besides k2 r13 n13_q (by decide)
        replace hB := hB.trans k2.below
        clear hp2 q1 q2 q3 q4 q5 k2 hq2
        clear x0 x1 x2 x3 x4 x5 x6 x7 x8 x9 x10
        have x0 := held_cell r_x 0 _ rfl
        have x1 := held_cell r_x 1 _ rfl
        have x2 := held_cell r_x 2 _ rfl
        have x3 := held_cell r_x 3 _ rfl
        have x4 := held_cell r_x 4 _ rfl
        have x5 := held_cell r_x 5 _ rfl
        have x6 := held_cell r_x 6 _ rfl
        have x7 := held_cell r_x 7 _ rfl
        have x8 := held_cell r_x 8 _ rfl
        have x9 := held_cell r_x 9 _ rfl
        have x10 := held_cell r_x 10 _ rfl
        go_wp2_with fail
        refine (kr1.out _ hF.hr).mono ?_
        rintro r Y3 ⟨rfl, hr2, k3⟩
        have hP := Pc.eye P.out hF.pc k3 hr2
        replace r_x := eff_block24 k3 r_x nx_r
        replace r12 := eff_block24 k3 r12 n12_r
        replace r13 := eff_block24 k3 r13 n13_r
        replace hB := eff_below24 hB k3 (by omega) hB.size
        clear k3 hr2 hF
        clear x0 x1 x2 x3 x4 x5 x6 x7 x8 x9 x10
        have x0 := held_cell r_x 0 _ rfl
        have x1 := held_cell r_x 1 _ rfl
        have x2 := held_cell r_x 2 _ rfl
        have x3 := held_cell r_x 3 _ rfl
        have x4 := held_cell r_x 4 _ rfl
        have x5 := held_cell r_x 5 _ rfl
        have x6 := held_cell r_x 6 _ rfl
        have x7 := held_cell r_x 7 _ rfl
        have x8 := held_cell r_x 8 _ rfl
        have x9 := held_cell r_x 9 _ rfl
        have x10 := held_cell r_x 10 _ rfl
        go_wp2_with fail
        refine (ks1.out _ hP.hs).mono ?_
        rintro r Y4 ⟨rfl, hr2, k3⟩
        replace hP := Pc.rd P.out hP k3 hr2
        replace r_x := eff_block24 k3 r_x nx_s
        replace r12 := eff_block24 k3 r12 n12_s
        replace r13 := eff_block24 k3 r13 n13_s
        replace hB := eff_below24 hB k3 (by omega) hB.size
        clear k3 hr2
        clear x0 x1 x2 x3 x4 x5 x6 x7 x8 x9 x10
        have hF := hP.four
        clear hP
        obtain ⟨F9, a9, c9x, i9, -, -, -, g9, -, -⟩ := hF.hs
        go_upto_region 36 with (fail)
        apply wp_region_seg (w := Y4) (S := [.q [], .q [], .q [], .q [], .q [], .q [], .q [], .q [], .q [], .q [], .q [], .q [], .q [], .q [], .q [], .q [], .q [], .q [], .q [], .q [], .q [], .q [], .q [], .q [], .q [], .q []]) (E := [.q0 _, .q0 _, .q0 _, .q0 _, .q0 _, .q0 _, .q0 _, .q0 _, .q0 _, .q0 _, .c0 _, .q0 _, .c0 _, .q0 _, .q0 _, .q0 _, .q0 _, .c0 _, .c0 _, .q0 _, .q0 _, .q0 _, .q0 _, .c0 _, .q0 _, .q0 _]) (by kernel_rfl) rfl (by kernel_rfl) rfl rfl
        intro th hge hne
        refine Seg.step _ rfl (Or.inl ⟨by rfl, fun U hU => vp_quiet (by (have h0 := held_cell (held_after hU.1 r12) 0 _ rfl; have h1 := held_cell (held_after hU.1 r12) 1 _ rfl; go_simp <;> exact rfl))⟩) ⟨_, by (simp only [Ent.val]; go_simp <;> exact rfl), ?_⟩
        refine Seg.step _ rfl (Or.inl ⟨by rfl, fun U hU => vp_quiet (by (have h0 := held_cell (held_after hU.1 r13) 0 _ rfl; have h1 := held_cell (held_after hU.1 r13) 1 _ rfl; go_simp <;> exact rfl))⟩) ⟨_, by (simp only [Ent.val]; go_simp <;> exact rfl), ?_⟩
        refine Seg.step _ rfl (Or.inl ⟨by rfl, fun U hU => vp_quiet (by (go_simp <;> exact rfl))⟩) ⟨_, by (simp only [Ent.val]; go_simp <;> exact rfl), ?_⟩
        refine Seg.step _ rfl (Or.inl ⟨by rfl, fun U hU => vp_quiet (by (go_simp <;> exact rfl))⟩) ⟨_, by (simp only [Ent.val]; go_simp <;> exact rfl), ?_⟩
        refine Seg.step _ rfl (Or.inl ⟨by rfl, fun U hU => vp_quiet (by (go_simp <;> exact rfl))⟩) ⟨_, by (simp only [Ent.val]; go_simp <;> exact rfl), ?_⟩
        refine Seg.step _ rfl (Or.inl ⟨by rfl, fun U hU => vp_quiet (by (go_simp <;> exact rfl))⟩) ⟨_, by (simp only [Ent.val]; go_simp <;> exact rfl), ?_⟩
        refine Seg.step _ rfl (Or.inl ⟨by rfl, fun U hU => vp_quiet (by (go_simp <;> exact rfl))⟩) ⟨_, by (simp only [Ent.val]; go_simp <;> exact rfl), ?_⟩
        refine Seg.step _ rfl (Or.inl ⟨by rfl, fun U hU => vp_quiet (by (go_simp <;> exact rfl))⟩) ⟨_, by (simp only [Ent.val]; go_simp <;> exact rfl), ?_⟩
        refine Seg.step _ rfl (Or.inl ⟨by rfl, fun U hU => vp_quiet (by (go_simp <;> exact rfl))⟩) ⟨_, by (simp only [Ent.val]; go_simp <;> exact rfl), ?_⟩
        refine Seg.step _ rfl (Or.inl ⟨by rfl, fun U hU => vp_quiet (by (go_simp <;> exact rfl))⟩) ⟨_, by (simp only [Ent.val]; go_simp <;> exact rfl), ?_⟩
        refine Seg.step _ rfl (Or.inl ⟨by rfl, fun U hU => ?_⟩) ?_
        · go_simp
          refine vp_calls (eleftN_any Br Br er2 LR2 _ (hF.hr.aft hU.1))
        refine ⟨_, by (simp only [Ent.val]; go_simp <;> exact rfl), ?_⟩
        refine Seg.step _ rfl (Or.inl ⟨by rfl, fun U hU => vp_quiet (by (go_simp <;> exact rfl))⟩) ⟨_, by (simp only [Ent.val]; go_simp <;> exact rfl), ?_⟩
        refine Seg.step _ rfl (Or.inl ⟨by rfl, fun U hU => ?_⟩) ?_
        · go_simp
          refine vp_call (rleftN_any W.heap.size p9_4 er2 LR2 _ (hF.hs.aft hU.1))
        refine ⟨_, by (simp only [Ent.val]; go_simp <;> exact rfl), ?_⟩
        refine Seg.step _ rfl (Or.inl ⟨by rfl, fun U hU => vp_quiet (by (go_simp <;> exact rfl))⟩) ⟨_, by (simp only [Ent.val]; go_simp <;> exact rfl), ?_⟩
        refine Seg.step _ rfl (Or.inl ⟨by rfl, fun U hU => vp_quiet (by (go_simp <;> exact rfl))⟩) ⟨_, by (simp only [Ent.val]; go_simp <;> exact rfl), ?_⟩
        refine Seg.step _ rfl (Or.inl ⟨by rfl, fun U hU => vp_quiet (by (go_simp <;> exact rfl))⟩) ⟨_, by (simp only [Ent.val]; go_simp <;> exact rfl), ?_⟩
        refine Seg.step _ rfl (Or.inl ⟨by rfl, fun U hU => vp_quiet (by (go_simp <;> exact rfl))⟩) ⟨_, by (simp only [Ent.val]; go_simp <;> exact rfl), ?_⟩
        refine Seg.step _ rfl (Or.inl ⟨by rfl, fun U hU => ?_⟩) ?_
        · go_simp
          refine vp_calls (eerrN_any Br Br er2 LR2 _ (hF.hr.aft hU.1))
        refine ⟨_, by (simp only [Ent.val]; go_simp <;> exact rfl), ?_⟩
        refine Seg.step _ rfl (Or.inl ⟨by rfl, fun U hU => ?_⟩) ?_
        · go_simp
          refine vp_calls (num23b_any _ _)
        refine ⟨_, by (simp only [Ent.val]; go_simp <;> exact rfl), ?_⟩
        refine Seg.step _ rfl (Or.inl ⟨by rfl, fun U hU => vp_quiet (by (go_simp <;> exact rfl))⟩) ⟨_, by (simp only [Ent.val]; go_simp <;> exact rfl), ?_⟩
        refine Seg.step _ rfl (Or.inl ⟨by rfl, fun U hU => vp_quiet (by (go_simp <;> exact rfl))⟩) ⟨_, by (simp only [Ent.val]; go_simp <;> exact rfl), ?_⟩
        refine Seg.step _ rfl (Or.inl ⟨by rfl, fun U hU => vp_quiet (by (go_simp <;> exact rfl))⟩) ⟨_, by (simp only [Ent.val]; go_simp <;> exact rfl), ?_⟩
        refine Seg.step _ rfl (Or.inl ⟨by rfl, fun U hU => vp_quiet (by (have h0 := held_cell (held_after hU.1 g9) 2 _ rfl; go_simp <;> exact rfl))⟩) ⟨_, by (simp only [Ent.val]; go_simp <;> exact rfl), ?_⟩
        refine Seg.step _ rfl (Or.inl ⟨by rfl, fun U hU => ?_⟩) ?_
        · go_simp
          refine vp_calls (num23b_any _ _)
        refine ⟨_, by (simp only [Ent.val]; go_simp <;> exact rfl), ?_⟩
        refine Seg.step _ rfl (Or.inl ⟨by rfl, fun U hU => vp_quiet (by (go_simp <;> exact rfl))⟩) ⟨_, by (simp only [Ent.val]; go_simp <;> exact rfl), ?_⟩
        refine Seg.step _ rfl (Or.inl ⟨by rfl, fun U hU => vp_quiet (by (go_simp <;> exact rfl))⟩) ⟨_, by (simp only [Ent.val]; go_simp <;> exact rfl), ?_⟩
        refine Seg.stop (fun U51 hU hk => ?_)
        clear hk hge hne
        have sz51 := hU.size
        have hA0 : Below Y4.heap.size Y4 U51 := hU
        clear hU
        have hR2 := hid (show Rnd Bp Br p9_1 p9_4 N W (j + 1) _ _ _ er2 LR2 from ⟨hF.aft hA0, hB.trans (hA0.mono hB.size), by rw [List.length_append]; simp; omega, Nat.le_trans hleft.2.2 hlr, hleft.2.1⟩)
        clear hF hB hA0 g9 r_x r12 r13
        go_wp2_with fail
        go_roundw
        case rel => exact ⟨j + 1, _, _, _, _, by simp, hk1.out, hR2⟩
        case measure => simp [intOf]; exact hms.out
      have t_2 : (c0 == 2) = false := by simpa using q_2
      have kr1 := fun U h => efailN_any Br Br er c10 LR U h
      have ks1 := fun U h => rfirstRN_any W.heap.size p9_4 er c10 LR U h
      replace kr1 := hid kr1
      replace ks1 := hid ks1
      clear hm2 hlb
      have x0 := held_cell r_x 0 _ rfl
      have x1 := held_cell r_x 1 _ rfl
      have x2 := held_cell r_x 2 _ rfl
      have x3 := held_cell r_x 3 _ rfl
      have x4 := held_cell r_x 4 _ rfl
      have x5 := held_cell r_x 5 _ rfl
      have x6 := held_cell r_x 6 _ rfl
      have x7 := held_cell r_x 7 _ rfl
      have x8 := held_cell r_x 8 _ rfl
      have x9 := held_cell r_x 9 _ rfl
      have x10 := held_cell r_x 10 _ rfl
      go_wp2_with fail
      refine (kr1.out _ hF.hr).mono ?_
      rintro r Y3 ⟨rfl, hr2, k3⟩
      have hP := Pc.eye P.out hF.pc k3 hr2
      replace r_x := eff_block24 k3 r_x nx_r
      replace r12 := eff_block24 k3 r12 n12_r
      replace r13 := eff_block24 k3 r13 n13_r
      replace hB := eff_below24 hB k3 (by omega) hB.size
      clear k3 hr2 hF
      clear x0 x1 x2 x3 x4 x5 x6 x7 x8 x9 x10
      have x0 := held_cell r_x 0 _ rfl
      have x1 := held_cell r_x 1 _ rfl
      have x2 := held_cell r_x 2 _ rfl
      have x3 := held_cell r_x 3 _ rfl
      have x4 := held_cell r_x 4 _ rfl
      have x5 := held_cell r_x 5 _ rfl
      have x6 := held_cell r_x 6 _ rfl
      have x7 := held_cell r_x 7 _ rfl
      have x8 := held_cell r_x 8 _ rfl
      have x9 := held_cell r_x 9 _ rfl
      have x10 := held_cell r_x 10 _ rfl
      go_wp2_with fail
      refine (ks1.out _ hP.hs).mono ?_
      rintro r Y4 ⟨rfl, hr2, k3⟩
      replace hP := Pc.rd P.out hP k3 hr2
      replace r_x := eff_block24 k3 r_x nx_s
      replace r12 := eff_block24 k3 r12 n12_s
      replace r13 := eff_block24 k3 r13 n13_s
      replace hB := eff_below24 hB k3 (by omega) hB.size
      clear k3 hr2
      clear x0 x1 x2 x3 x4 x5 x6 x7 x8 x9 x10
      have hF := hP.four
      clear hP
      obtain ⟨F9, a9, c9x, i9, -, -, -, g9, -, -⟩ := hF.hs
      go_upto_region 36 with (fail)
      apply wp_region_seg (w := Y4) (S := [.q [], .q [], .q [], .q [], .q [], .q [], .q [], .q [], .q [], .q [], .q [], .q [], .q [], .q [], .q [], .q [], .q [], .q [], .q [], .q [], .q [], .q [], .q [], .q [], .q [], .q []]) (E := [.q0 _, .q0 _, .q0 _, .q0 _, .q0 _, .q0 _, .q0 _, .q0 _, .q0 _, .q0 _, .c0 _, .q0 _, .c0 _, .q0 _, .q0 _, .q0 _, .q0 _, .c0 _, .c0 _, .q0 _, .q0 _, .q0 _, .q0 _, .c0 _, .q0 _, .q0 _]) (by kernel_rfl) rfl (by kernel_rfl) rfl rfl
      intro th hge hne
      refine Seg.step _ rfl (Or.inl ⟨by rfl, fun U hU => vp_quiet (by (have h0 := held_cell (held_after hU.1 r12) 0 _ rfl; have h1 := held_cell (held_after hU.1 r12) 1 _ rfl; go_simp <;> exact rfl))⟩) ⟨_, by (simp only [Ent.val]; go_simp <;> exact rfl), ?_⟩
      refine Seg.step _ rfl (Or.inl ⟨by rfl, fun U hU => vp_quiet (by (have h0 := held_cell (held_after hU.1 r13) 0 _ rfl; have h1 := held_cell (held_after hU.1 r13) 1 _ rfl; go_simp <;> exact rfl))⟩) ⟨_, by (simp only [Ent.val]; go_simp <;> exact rfl), ?_⟩
      refine Seg.step _ rfl (Or.inl ⟨by rfl, fun U hU => vp_quiet (by (go_simp <;> exact rfl))⟩) ⟨_, by (simp only [Ent.val]; go_simp <;> exact rfl), ?_⟩
      refine Seg.step _ rfl (Or.inl ⟨by rfl, fun U hU => vp_quiet (by (go_simp <;> exact rfl))⟩) ⟨_, by (simp only [Ent.val]; go_simp <;> exact rfl), ?_⟩
      refine Seg.step _ rfl (Or.inl ⟨by rfl, fun U hU => vp_quiet (by (go_simp <;> exact rfl))⟩) ⟨_, by (simp only [Ent.val]; go_simp <;> exact rfl), ?_⟩
      refine Seg.step _ rfl (Or.inl ⟨by rfl, fun U hU => vp_quiet (by (go_simp <;> exact rfl))⟩) ⟨_, by (simp only [Ent.val]; go_simp <;> exact rfl), ?_⟩
      refine Seg.step _ rfl (Or.inl ⟨by rfl, fun U hU => vp_quiet (by (go_simp <;> exact rfl))⟩) ⟨_, by (simp only [Ent.val]; go_simp <;> exact rfl), ?_⟩
      refine Seg.step _ rfl (Or.inl ⟨by rfl, fun U hU => vp_quiet (by (go_simp <;> exact rfl))⟩) ⟨_, by (simp only [Ent.val]; go_simp <;> exact rfl), ?_⟩
      refine Seg.step _ rfl (Or.inl ⟨by rfl, fun U hU => vp_quiet (by (go_simp <;> exact rfl))⟩) ⟨_, by (simp only [Ent.val]; go_simp <;> exact rfl), ?_⟩
      refine Seg.step _ rfl (Or.inl ⟨by rfl, fun U hU => vp_quiet (by (go_simp <;> exact rfl))⟩) ⟨_, by (simp only [Ent.val]; go_simp <;> exact rfl), ?_⟩
      refine Seg.step _ rfl (Or.inl ⟨by rfl, fun U hU => ?_⟩) ?_
      · go_simp
        refine vp_calls (eleftN_any Br Br _ LR _ (hF.hr.aft hU.1))
      refine ⟨_, by (simp only [Ent.val]; go_simp <;> exact rfl), ?_⟩
      refine Seg.step _ rfl (Or.inl ⟨by rfl, fun U hU => vp_quiet (by (go_simp <;> exact rfl))⟩) ⟨_, by (simp only [Ent.val]; go_simp <;> exact rfl), ?_⟩
      refine Seg.step _ rfl (Or.inl ⟨by rfl, fun U hU => ?_⟩) ?_
      · go_simp
        refine vp_call (rleftN_any W.heap.size p9_4 _ LR _ (hF.hs.aft hU.1))
      refine ⟨_, by (simp only [Ent.val]; go_simp <;> exact rfl), ?_⟩
      refine Seg.step _ rfl (Or.inl ⟨by rfl, fun U hU => vp_quiet (by (go_simp <;> exact rfl))⟩) ⟨_, by (simp only [Ent.val]; go_simp <;> exact rfl), ?_⟩
      refine Seg.step _ rfl (Or.inl ⟨by rfl, fun U hU => vp_quiet (by (go_simp <;> exact rfl))⟩) ⟨_, by (simp only [Ent.val]; go_simp <;> exact rfl), ?_⟩
      refine Seg.step _ rfl (Or.inl ⟨by rfl, fun U hU => vp_quiet (by (go_simp <;> exact rfl))⟩) ⟨_, by (simp only [Ent.val]; go_simp <;> exact rfl), ?_⟩
      refine Seg.step _ rfl (Or.inl ⟨by rfl, fun U hU => vp_quiet (by (go_simp <;> exact rfl))⟩) ⟨_, by (simp only [Ent.val]; go_simp <;> exact rfl), ?_⟩
      refine Seg.step _ rfl (Or.inl ⟨by rfl, fun U hU => ?_⟩) ?_
      · go_simp
        refine vp_calls (eerrN_any Br Br _ LR _ (hF.hr.aft hU.1))
      refine ⟨_, by (simp only [Ent.val]; go_simp <;> exact rfl), ?_⟩
      refine Seg.step _ rfl (Or.inl ⟨by rfl, fun U hU => ?_⟩) ?_
      · go_simp
        refine vp_calls (num23b_any _ _)
      refine ⟨_, by (simp only [Ent.val]; go_simp <;> exact rfl), ?_⟩
      refine Seg.step _ rfl (Or.inl ⟨by rfl, fun U hU => vp_quiet (by (go_simp <;> exact rfl))⟩) ⟨_, by (simp only [Ent.val]; go_simp <;> exact rfl), ?_⟩
      refine Seg.step _ rfl (Or.inl ⟨by rfl, fun U hU => vp_quiet (by (go_simp <;> exact rfl))⟩) ⟨_, by (simp only [Ent.val]; go_simp <;> exact rfl), ?_⟩
      refine Seg.step _ rfl (Or.inl ⟨by rfl, fun U hU => vp_quiet (by (go_simp <;> exact rfl))⟩) ⟨_, by (simp only [Ent.val]; go_simp <;> exact rfl), ?_⟩
      refine Seg.step _ rfl (Or.inl ⟨by rfl, fun U hU => vp_quiet (by (have h0 := held_cell (held_after hU.1 g9) 2 _ rfl; go_simp <;> exact rfl))⟩) ⟨_, by (simp only [Ent.val]; go_simp <;> exact rfl), ?_⟩
      refine Seg.step _ rfl (Or.inl ⟨by rfl, fun U hU => ?_⟩) ?_
      · go_simp
        refine vp_calls (num23b_any _ _)
      refine ⟨_, by (simp only [Ent.val]; go_simp <;> exact rfl), ?_⟩
      refine Seg.step _ rfl (Or.inl ⟨by rfl, fun U hU => vp_quiet (by (go_simp <;> exact rfl))⟩) ⟨_, by (simp only [Ent.val]; go_simp <;> exact rfl), ?_⟩
      refine Seg.step _ rfl (Or.inl ⟨by rfl, fun U hU => vp_quiet (by (go_simp <;> exact rfl))⟩) ⟨_, by (simp only [Ent.val]; go_simp <;> exact rfl), ?_⟩
      refine Seg.stop (fun U51 hU hk => ?_)
      clear hk hge hne
      have sz51 := hU.size
      have hA0 : Below Y4.heap.size Y4 U51 := hU
      clear hU
      have hR2 := hid (show Rnd Bp Br p9_1 p9_4 N W (j + 1) _ _ _ _ LR from ⟨hF.aft hA0, hB.trans (hA0.mono hB.size), by omega, hlr, hsz⟩)
      clear hF hB hA0 g9 r_x r12 r13
      go_wp2_with fail
      go_roundw
      case rel => exact ⟨j + 1, _, _, _, _, by simp, hk1.out, hR2⟩
      case measure => simp [intOf]; exact hms.out

end Go.Proofs.YtelffhelelbfiaaGreatDoor
