/- AckOnce. -/
import Derived.Test.YthcaljelmchkcaaLaw19c
import Derived.Laws.StructEq
import Derived.Deep.DeepCutAuto
namespace Go.Proofs.Ythcaljelmchkcaa
open Go.ChangeShapes Go.WideShapes Go.ChangeAt Go.RowKit
set_option linter.unusedVariables false
set_option linter.unusedSimpArgs false

set_option maxRecDepth 100000 in
set_option maxHeartbeats 16000000 in
theorem law_AckOnce (a0 : Option Addr) (len0 cap0 : Nat) (x0 : List (List Value)) (W : World) (w0 : Els W 4 a0 len0 cap0 x0) (t0 : ∀ x ∈ x0, (∃ (c0 : Bool) (c1 : Bool) (c2 : Int) (c3 : Int), x = [.bool c0, .bool c1, .int .i64 c2, .int .i64 c3] ∧ ((Lit.int .i64 c2).wf = true) ∧ ((Lit.int .i64 c3).wf = true))) :
    Calls Try.prog 5 #[.slice a0 len0 cap0] W fun e w' => e = .returned (.bool true) ∧ Below W.heap.size W w' := by
  have hx0 := w0.1
  have hlc := w0.2.1
  have hcm := w0.2.2.1
  have hmm : maxLen ≤ 9223372036854775807 := by decide
  replace w0 := hid w0
  replace t0 := hid t0
  by_cases cb : (60 : Int) < len0
  case pos =>
    go_enter Try.func5, Try.ntmps5
    go_wp2_with fail
    refine (knows19_any _).mono ?_
    rintro e V ⟨rfl, hst⟩
    replace hst := hid hst
    go_wp2_with fail
    go_ret
    exact ⟨rfl, hst.out⟩
  go_enter Try.func5, Try.ntmps5
  go_wp2_with fail
  refine (knows19_any _).mono ?_
  rintro e V0 ⟨rfl, hst⟩
  have sV := hst.size
  go_wp2_with fail
  refine (nack_any _).mono ?_
  rintro e V1 ⟨rfl, hv⟩
  have n1 := alloc_new V0 (.cells #[.bool true, .slice none 0 0, .int .i64 0, .int .i64 0, .int .i64 0] 53)
  have hp := n1.2.2
  have hB := bthen hst n1.2.1
  have pl := n1.1
  rw [← hv] at hp hB pl
  clear n1 hv hst
  obtain ⟨p, hpp⟩ : ∃ p, V0.heap.size = p := ⟨_, rfl⟩
  rw [hpp] at hp pl sV ⊢
  clear hpp
  have bk := hid (⟨none, 0, hp, OwnE.nil _ _ _ _⟩ : BookAt V1 W.heap.size p [] 0 0 0)
  have sp : W.heap.size ≤ p := sV
  have e60 : (len0 : Int) ≤ 60 := by omega
  replace hB := hid hB
  clear hp
  go_wp2_with fail
  go_loopw [4] (fun ix wr => ∃ (k : Nat) (s : St), k ≤ len0 ∧ ix = .int .i64 k ∧ BookAt wr W.heap.size p s.l s.y s.n s.o ∧ s.l.length ≤ 16 ∧ 0 ≤ s.y ∧ 0 ≤ s.n ∧ 0 ≤ s.o ∧ s.y + s.n + s.o + s.l.length ≤ k ∧ Below W.heap.size W wr) (fun ix _ => len0 - (intOf ix).toNat)
  case atStart => exact ⟨0, ⟨[], 0, 0, 0⟩, by omega, rfl, bk.out, by decide, by decide, by decide, by decide, by decide, hB.out⟩
  case round =>
    clear bk hB
    obtain ⟨k, s, hk, rfl, hbk, hl, hy, hn, ho, hs, hB⟩ := hrel
    have hbk0 := hid hbk
    obtain ⟨ka, kc, hp5, hO5⟩ := hbk
    clear hO5
    by_cases hlt : (k : Int) < len0
    case neg =>
      obtain rfl : k = len0 := by omega
      have kz5 := hid (fun h => counts_at p (.slice ka s.l.length kc) s.y s.n s.o wr h)
      replace hB := hid hB
      have wz1 : IntKind.i64.wrap (s.y + s.n) = s.y + s.n := by rw [IntKind.wrap_i64]; omega
      have wz2 : IntKind.i64.wrap (s.y + s.n + s.o) = s.y + s.n + s.o := by rw [IntKind.wrap_i64]; omega
      have wz3 : IntKind.i64.wrap (s.y + s.n + s.o + s.l.length) = s.y + s.n + s.o + s.l.length := by rw [IntKind.wrap_i64]; omega
      go_wp2_with fail
      refine (kz5.out hp5).mono ?_
      rintro e V6 ⟨rfl, hA6⟩
      have hbk7 := hid (hbk0.out.after hA6)
      have hB7 := hid (bthen hB.out hA6)
      clear hA6 hp5 kz5 hbk0
      go_wp2_with fail
      refine (open_any W.heap.size p s.l s.y s.n s.o _ hbk7.out hl).mono ?_
      rintro e V7 ⟨a7, c7, rfl, hE9, hA7⟩
      have hB9 := hid (bthen hB7.out hA7)
      clear hE9 hA7
      go_wp2_with fail
      go_ret
      exact ⟨ret_bool (by first | (simp; done) | (simp; omega)), hB9.out⟩
    obtain ⟨x, hx⟩ : ∃ x, x0[k]? = some x := ⟨_, List.getElem?_eq_getElem (show k < x0.length by omega)⟩
    obtain ⟨c0, d1, d2, d3, rfl, f2, f3⟩ := t0.out x (List.mem_of_getElem? hx)
    clear f2 f3
    obtain ⟨bb, off, rfl, g0, g1, g2, g3⟩ := (w0.out.below hB).at4 hx
    have kz : (0 : Int) ≤ k := by omega
    have w1 : IntKind.i64.wrap ((k : Int) + 1) = (k : Int) + 1 := by rw [IntKind.wrap_i64]; omega
    have hbb : bb < W.heap.size := by obtain ⟨_, b2, o2, e2, hc2⟩ := w0.out.2.2.2.2 k _ hx; cases e2; exact World.block_lt_of_cell? W _ (hc2 0 _ rfl)
    have z0 : W.cell? ⟨bb, off + k * 4, none⟩ = some (.bool c0) := by obtain ⟨_, b2, o2, e2, hc2⟩ := w0.out.2.2.2.2 k _ hx; cases e2; exact hc2 0 _ rfl
    have z1 : W.cell? ⟨bb, off + k * 4 + 1, none⟩ = some (.bool d1) := by obtain ⟨_, b2, o2, e2, hc2⟩ := w0.out.2.2.2.2 k _ hx; cases e2; exact hc2 1 _ rfl
    have z2 : W.cell? ⟨bb, off + k * 4 + 2, none⟩ = some (.int .i64 d2) := by obtain ⟨_, b2, o2, e2, hc2⟩ := w0.out.2.2.2.2 k _ hx; cases e2; exact hc2 2 _ rfl
    have z3 : W.cell? ⟨bb, off + k * 4 + 3, none⟩ = some (.int .i64 d3) := by obtain ⟨_, b2, o2, e2, hc2⟩ := w0.out.2.2.2.2 k _ hx; cases e2; exact hc2 3 _ rfl
    have hbd := hid (⟨hy, by omega, hn, by omega, ho, by omega⟩ : 0 ≤ s.y ∧ s.y ≤ 1000 ∧ 0 ≤ s.n ∧ s.n ≤ 1000 ∧ 0 ≤ s.o ∧ s.o ≤ 1000)
    have hk1 := hid (show k + 1 ≤ len0 by omega)
    have of1 := ofS_le s.l d2 d3
    have hma := askS_bd s.l d2 d3 s.y s.n s.o k hs hl
    have hmh := hearS_bd s d1 d2 d3 k ⟨hy, hn, ho⟩ hs hl
    clear hp5 hs hk
    replace hB := hid hB
    obtain ⟨N, hN⟩ : ∃ N, ofS s.l d2 d3 = N := ⟨_, rfl⟩
    rw [hN] at hma hmh of1
    have nX := alloc_new wr (.cells #[.bool d1, .int .i64 d2, .int .i64 d3] 23)
    have hX := nX.2.2
    have hAX := nX.2.1
    have hbk2 := hid (hbk0.out.after hAX)
    have hB2 := hid (bthen hB.out hAX)
    clear nX
    obtain ⟨xb, hxb⟩ : ∃ q, wr.heap.size = q := ⟨_, rfl⟩
    rw [hxb] at hX
    have exb : W.heap.size ≤ xb := by have := hB.out.size; omega
    have hxo := hid (show wown p 1 (wr.alloc (.cells #[.bool d1, .int .i64 d2, .int .i64 d3] 23)) ≠ some xb from fun e => by rw [wown_same (hAX.block p hbk0.out.lt)] at e; have := hbk0.out.own_lt xb e; omega)
    clear hAX hbk0
    go_upto_region 8 with (fail)
    try rw [hxb]
    obtain ⟨V2, hV2⟩ : ∃ V, wr.alloc (.cells #[.bool d1, .int .i64 d2, .int .i64 d3] 23) = V := ⟨_, rfl⟩
    rw [hV2] at hX hbk2 hB2 hxo ⊢
    have hxp : xb ≠ p := by intro e; subst e; obtain ⟨_, _, h3, _⟩ := hbk2.out; rw [hX] at h3; cases h3
    clear hV2 hB hxb g0 g1 g2 g3
    have hX3 := (show V2.drew.heap[xb]? = _ from hX)
    have hbk3 := hid (show BookAt V2.drew _ _ _ _ _ _ from hbk2.out)
    have hB3 := hid hB2.out.drew
    replace hxo := hid (show wown p 1 V2.drew ≠ some xb from hxo.out)
    clear hX hbk2 hB2
    refine wp_region_R (by kernel_rfl) ?_
    refine wpAnyR_take 0 rfl (by kernel_rfl) (by kernel_rfl) (by kernel_rfl) (fun _ _ _ _ h => h) ⟨_, Or.inl ⟨by rfl, fun w2 hb2 => by (go_simp; try with_reducible rfl)⟩, _, by (go_simp; try rfl), ?_⟩
    refine wpAnyR_take 2 rfl (by kernel_rfl) (by kernel_rfl) (by kernel_rfl) (fun _ _ _ _ h => h) ⟨_, Or.inl ⟨by rfl, fun w2 hb2 => by (have hx0 := held_cell (held_after hb2 hX3) 0 _ rfl; have hx1 := held_cell (held_after hb2 hX3) 1 _ rfl; have hx2 := held_cell (held_after hb2 hX3) 2 _ rfl; go_simp; try with_reducible rfl)⟩, _, by (go_simp; try rfl), ?_⟩
    refine wpAnyR_only 1 rfl (by kernel_rfl) (by rfl) (fun K hK => ?_)
    go_simp
    refine (open_any W.heap.size p s.l s.y s.n s.o _ hbk3.out hl).mono ?_
    rintro e V4 ⟨a4, c4, rfl, hE4, hA4⟩
    go_simp
    refine hK _ _ ⟨hA4, ?_⟩
    clear hK
    have hX4 := held_after hA4 hX3
    replace hxo := hid (fun e => hxo.out ((wown_same (hA4.block p hbk3.out.lt)).symm.trans e))
    have hbk4 := hid (hbk3.out.after hA4)
    have hB4 := hid (hB3.out.trans (hA4.mono (show W.heap.size ≤ V2.drew.heap.size from hB3.out.size)))
    clear hX3 hbk3 hB3 hA4
    refine wpAnyR_only 3 rfl (by kernel_rfl) (by rfl) (fun K hK => ?_)
    go_simp
    refine (of_any a4 c4 s.l d1 d2 d3 _ hE4 hl).mono ?_
    rw [hN]
    rintro e V5 ⟨rfl, hA5⟩
    go_simp
    refine hK _ _ ⟨hA5, ?_⟩
    clear hK
    have hX5 := held_after hA5 hX4
    replace hxo := hid (fun e => hxo.out ((wown_same (hA5.block p hbk4.out.lt)).symm.trans e))
    have hbk5 := hid (hbk4.out.after hA5)
    have hB5 := hid (hB4.out.trans (hA5.mono hB4.out.size))
    clear hX4 hbk4 hB4 hA5 hE4
    refine wpAnyR_take 4 rfl (by kernel_rfl) (by kernel_rfl) (by kernel_rfl) (fun _ _ _ _ h => h) ⟨_, Or.inl ⟨by rfl, fun w2 hb2 => by (go_simp; try with_reducible rfl)⟩, _, by (go_simp; try rfl), ?_⟩
    refine wpAnyR_done (by kernel_rfl) ?_ _
    go_wp2_with fail
    refine (open_any W.heap.size p s.l s.y s.n s.o _ hbk5.out hl).mono ?_
    rintro e V6 ⟨a6, c6, rfl, hE6, hA6⟩
    have hX6 := held_after hA6 hX5
    replace hxo := hid (fun e => hxo.out ((wown_same (hA6.block p hbk5.out.lt)).symm.trans e))
    have hbk6 := hid (hbk5.out.after hA6)
    have hB6 := hid (hB5.out.trans (hA6.mono hB5.out.size))
    clear hE6 hX5 hbk5 hB5 hA6
    have y0 := (hB6.out.cell (p := ⟨bb, off + k * 4, none⟩) hbb).trans z0
    have x0 := held_cell hX6 0 _ rfl
    have x1 := held_cell hX6 1 _ rfl
    have x2 := held_cell hX6 2 _ rfl
    cases c0
    · obtain ⟨⟨s2, ok⟩, hr⟩ : ∃ r, hearS s d1 d2 d3 = r := ⟨_, rfl⟩
      rw [hr] at hmh
      dsimp only at hmh
      obtain ⟨m1, n2, n3, n4, m2, m3, m4, m5⟩ := hmh
      clear hma
      replace hr := hid hr
      obtain ⟨M, hM⟩ : ∃ M, ofS s2.l d2 d3 = M := ⟨_, rfl⟩
      rw [hM] at m3
      go_wp2_with fail
      refine (hear_any W.heap.size p s d1 d2 d3 _ hbk6.out hl sp hbd.out).mono ?_
      rw [hr.out]
      rintro e V7 ⟨rfl, hbk7, hef⟩
      dsimp only at hbk7 ⊢
      have hX7 := (hef.owp.block xb (held_lt hX6) hxp (fun e => hxo.out e.symm)).trans hX6
      have hB7 := hid (hB6.out.trans hef.below)
      have y7 := (hB7.out.cell (p := ⟨bb, off + k * 4, none⟩) hbb).trans z0
      replace hbk7 := hid hbk7
      clear hef y0 x0 x1 x2 hX6 hbk6 hB6 hxo
      have x0 := held_cell hX7 0 _ rfl
      have x1 := held_cell hX7 1 _ rfl
      have x2 := held_cell hX7 2 _ rfl
      cases ok
      · simp only [if_true, if_false, Bool.false_eq_true] at m3 m4 m5
        have m6 : ¬ 0 < N := by simpa using m5
        skip
        have wa : IntKind.i64.wrap (N : Int) = (M : Int) := by rw [IntKind.wrap_i64]; omega
        have wb : IntKind.i64.wrap (s.l.length : Int) = (s2.l.length : Int) := by rw [IntKind.wrap_i64]; omega
        have w16 : ¬ ((16 : Int) < s2.l.length) := by omega
        have m7 : ¬ ((0 : Int) < N) := by omega
        replace hM := hid hM
        have mm := hid (⟨m1, m2, n2, n3, n4⟩ : s2.l.length ≤ 16 ∧ s2.y + s2.n + s2.o + s2.l.length ≤ ((k + 1 : Nat) : Int) ∧ 0 ≤ s2.y ∧ 0 ≤ s2.n ∧ 0 ≤ s2.o)
        have hyy := hid (⟨hy, hn, ho⟩ : 0 ≤ s.y ∧ 0 ≤ s.n ∧ 0 ≤ s.o)
        clear m1 m2 m3 m4 of1 hy hn ho hN hl m5 n2 n3 n4
        go_upto_region 15 with (fail)
        have hX8 := (show V7.drew.heap[xb]? = _ from hX7)
        have hbk8 := hid (show BookAt V7.drew _ _ _ _ _ _ from hbk7.out)
        have hB8 := hid hB7.out.drew
        clear hX7 hbk7 hB7 x0 x1 x2
        refine wp_region_R (by kernel_rfl) ?_
        refine wpAnyR_take 0 rfl (by kernel_rfl) (by kernel_rfl) (by kernel_rfl) (fun _ _ _ _ h => h) ⟨_, Or.inl ⟨by rfl, fun w2 hb2 => by (go_simp; try with_reducible rfl)⟩, _, by (go_simp; try rfl), ?_⟩
        refine wpAnyR_take 2 rfl (by kernel_rfl) (by kernel_rfl) (by kernel_rfl) (fun _ _ _ _ h => h) ⟨_, Or.inl ⟨by rfl, fun w2 hb2 => by (have hx0 := held_cell (held_after hb2 hX8) 0 _ rfl; have hx1 := held_cell (held_after hb2 hX8) 1 _ rfl; have hx2 := held_cell (held_after hb2 hX8) 2 _ rfl; go_simp; try with_reducible rfl)⟩, _, by (go_simp; try rfl), ?_⟩
        refine wpAnyR_take 4 rfl (by kernel_rfl) (by kernel_rfl) (by kernel_rfl) (fun _ _ _ _ h => h) ⟨_, Or.inl ⟨by rfl, fun w2 hb2 => by (go_simp; try with_reducible rfl)⟩, _, by (go_simp; try rfl), ?_⟩
        refine wpAnyR_take 5 rfl (by kernel_rfl) (by kernel_rfl) (by kernel_rfl) (fun _ _ _ _ h => h) ⟨_, Or.inl ⟨by rfl, fun w2 hb2 => by (go_simp; try with_reducible rfl)⟩, _, by (go_simp; try rfl), ?_⟩
        refine wpAnyR_take 6 rfl (by kernel_rfl) (by kernel_rfl) (by kernel_rfl) (fun _ _ _ _ h => h) ⟨_, Or.inl ⟨by rfl, fun w2 hb2 => by (go_simp; try with_reducible rfl)⟩, _, by (go_simp; try rfl), ?_⟩
        refine wpAnyR_only 1 rfl (by kernel_rfl) (by rfl) (fun K hK => ?_)
        go_simp
        refine (open_any W.heap.size p s2.l s2.y s2.n s2.o _ hbk8.out mm.out.1).mono ?_
        rintro e V9 ⟨a9, c9, rfl, hE9, hA⟩
        go_simp
        refine hK _ _ ⟨hA, ?_⟩
        clear hK
        have hX9 := held_after hA hX8
        have hbk9 := hid (hbk8.out.after hA)
        have hB9 := hid (hB8.out.trans (hA.mono (show W.heap.size ≤ V7.drew.heap.size from hB8.out.size)))
        clear hX8 hbk8 hB8 hA
        refine wpAnyR_only 3 rfl (by kernel_rfl) (by rfl) (fun K hK => ?_)
        go_simp
        refine (of_any a9 c9 s2.l d1 d2 d3 _ hE9 mm.out.1).mono ?_
        rw [hM.out]
        rintro e V10 ⟨rfl, hA⟩
        go_simp
        refine hK _ _ ⟨hA, ?_⟩
        clear hK
        have hX10 := held_after hA hX9
        have hbk10 := hid (hbk9.out.after hA)
        have hB10 := hid (hB9.out.trans (hA.mono hB9.out.size))
        clear hX9 hbk9 hB9 hA hE9
        refine wpAnyR_take 7 rfl (by kernel_rfl) (by kernel_rfl) (by kernel_rfl) (fun _ _ _ _ h => h) ⟨_, Or.inl ⟨by rfl, fun w2 hb2 => by (go_simp; try with_reducible rfl)⟩, _, by (go_simp; try rfl), ?_⟩
        refine wpAnyR_take 8 rfl (by kernel_rfl) (by kernel_rfl) (by kernel_rfl) (fun _ _ _ _ h => h) ⟨_, Or.inl ⟨by rfl, fun w2 hb2 => by (go_simp; try with_reducible rfl)⟩, _, by (go_simp; try rfl), ?_⟩
        refine wpAnyR_take 9 rfl (by kernel_rfl) (by kernel_rfl) (by kernel_rfl) (fun _ _ _ _ h => h) ⟨_, Or.inl ⟨by rfl, fun w2 hb2 => by (go_simp; try with_reducible rfl)⟩, _, by (go_simp; try rfl), ?_⟩
        refine wpAnyR_take 12 rfl (by kernel_rfl) (by kernel_rfl) (by kernel_rfl) (fun _ _ _ _ h => h) ⟨_, Or.inl ⟨by rfl, fun w2 hb2 => by (go_simp; try with_reducible rfl)⟩, _, by (go_simp; try rfl), ?_⟩
        refine wpAnyR_take 13 rfl (by kernel_rfl) (by kernel_rfl) (by kernel_rfl) (fun _ _ _ _ h => h) ⟨_, Or.inl ⟨by rfl, fun w2 hb2 => by (go_simp; try with_reducible rfl)⟩, _, by (go_simp; try rfl), ?_⟩
        refine wpAnyR_take 14 rfl (by kernel_rfl) (by kernel_rfl) (by kernel_rfl) (fun _ _ _ _ h => h) ⟨_, Or.inl ⟨by rfl, fun w2 hb2 => by (go_simp; try with_reducible rfl)⟩, _, by (go_simp; try rfl), ?_⟩
        refine wpAnyR_only 10 rfl (by kernel_rfl) (by rfl) (fun K hK => ?_)
        go_simp
        refine (open_any W.heap.size p s2.l s2.y s2.n s2.o _ hbk10.out mm.out.1).mono ?_
        rintro e V11 ⟨a11, c11, rfl, hE11, hA⟩
        go_simp
        refine hK _ _ ⟨hA, ?_⟩
        clear hK
        have hbk11 := hid (hbk10.out.after hA)
        have hB11 := hid (hB10.out.trans (hA.mono hB10.out.size))
        have y11 := (hB11.out.cell (p := ⟨bb, off + k * 4, none⟩) hbb).trans z0
        clear hX10 hbk10 hB10 hA hE11
        refine wpAnyR_take 11 rfl (by kernel_rfl) (by kernel_rfl) (by kernel_rfl) (fun _ _ _ _ h => h) ⟨_, Or.inl ⟨by rfl, fun w2 hb2 => by (go_simp; try with_reducible rfl)⟩, _, by (go_simp; try rfl), ?_⟩
        refine wpAnyR_take 15 rfl (by kernel_rfl) (by kernel_rfl) (by kernel_rfl) (fun _ _ _ _ h => h) ⟨_, Or.inl ⟨by rfl, fun w2 hb2 => by (go_simp; try with_reducible rfl)⟩, _, by (go_simp; try rfl), ?_⟩
        refine wpAnyR_take 16 rfl (by kernel_rfl) (by kernel_rfl) (by kernel_rfl) (fun _ _ _ _ h => h) ⟨_, Or.inl ⟨by rfl, fun w2 hb2 => by (go_simp; try with_reducible rfl)⟩, _, by (go_simp; try rfl), ?_⟩
        refine wpAnyR_take 17 rfl (by kernel_rfl) (by kernel_rfl) (by kernel_rfl) (fun _ _ _ _ h => h) ⟨_, Or.inl ⟨by rfl, fun w2 hb2 => by (go_simp; try with_reducible rfl)⟩, _, by (go_simp; try rfl), ?_⟩
        refine wpAnyR_take 18 rfl (by kernel_rfl) (by kernel_rfl) (by kernel_rfl) (fun _ _ _ _ h => h) ⟨_, Or.inl ⟨by rfl, fun w2 hb2 => by (go_simp; try with_reducible rfl)⟩, _, by (go_simp; try rfl), ?_⟩
        refine wpAnyR_take 19 rfl (by kernel_rfl) (by kernel_rfl) (by kernel_rfl) (fun _ _ _ _ h => h) ⟨_, Or.inl ⟨by rfl, fun w2 hb2 => by (go_simp; try with_reducible rfl)⟩, _, by (go_simp; try rfl), ?_⟩
        refine wpAnyR_take 20 rfl (by kernel_rfl) (by kernel_rfl) (by kernel_rfl) (fun _ _ _ _ h => h) ⟨_, Or.inl ⟨by rfl, fun w2 hb2 => by (go_simp; try with_reducible rfl)⟩, _, by (go_simp; try rfl), ?_⟩
        refine wpAnyR_take 21 rfl (by kernel_rfl) (by kernel_rfl) (by kernel_rfl) (fun _ _ _ _ h => h) ⟨_, Or.inl ⟨by rfl, fun w2 hb2 => by (go_simp; try with_reducible rfl)⟩, _, by (go_simp; try rfl), ?_⟩
        refine wpAnyR_take 22 rfl (by kernel_rfl) (by kernel_rfl) (by kernel_rfl) (fun _ _ _ _ h => h) ⟨_, Or.inl ⟨by rfl, fun w2 hb2 => by (go_simp; try with_reducible rfl)⟩, _, by (go_simp; try rfl), ?_⟩
        refine wpAnyR_take 23 rfl (by kernel_rfl) (by kernel_rfl) (by kernel_rfl) (fun _ _ _ _ h => h) ⟨_, Or.inl ⟨by rfl, fun w2 hb2 => by (go_simp; try with_reducible rfl)⟩, _, by (go_simp; try rfl), ?_⟩
        refine wpAnyR_take 24 rfl (by kernel_rfl) (by kernel_rfl) (by kernel_rfl) (fun _ _ _ _ h => h) ⟨_, Or.inl ⟨by rfl, fun w2 hb2 => by (go_simp; try with_reducible rfl)⟩, _, by (go_simp; try rfl), ?_⟩
        refine wpAnyR_take 25 rfl (by kernel_rfl) (by kernel_rfl) (by kernel_rfl) (fun _ _ _ _ h => h) ⟨_, Or.inl ⟨by rfl, fun w2 hb2 => by (go_simp; try with_reducible rfl)⟩, _, by (go_simp; try rfl), ?_⟩
        refine wpAnyR_take 26 rfl (by kernel_rfl) (by kernel_rfl) (by kernel_rfl) (fun _ _ _ _ h => h) ⟨_, Or.inl ⟨by rfl, fun w2 hb2 => by (go_simp; try with_reducible rfl)⟩, _, by (go_simp; try rfl), ?_⟩
        refine wpAnyR_take 27 rfl (by kernel_rfl) (by kernel_rfl) (by kernel_rfl) (fun _ _ _ _ h => h) ⟨_, Or.inl ⟨by rfl, fun w2 hb2 => by (go_simp; try with_reducible rfl)⟩, _, by (go_simp; try rfl), ?_⟩
        refine wpAnyR_take 28 rfl (by kernel_rfl) (by kernel_rfl) (by kernel_rfl) (fun _ _ _ _ h => h) ⟨_, Or.inl ⟨by rfl, fun w2 hb2 => by (have hx := hb2.cellB y11; go_simp; try with_reducible rfl)⟩, _, by (go_simp; try rfl), ?_⟩
        refine wpAnyR_take 29 rfl (by kernel_rfl) (by kernel_rfl) (by kernel_rfl) (fun _ _ _ _ h => h) ⟨_, Or.inl ⟨by rfl, fun w2 hb2 => by (go_simp; try with_reducible rfl)⟩, _, by (go_simp; try rfl), ?_⟩
        refine wpAnyR_take 30 rfl (by kernel_rfl) (by kernel_rfl) (by kernel_rfl) (fun _ _ _ _ h => h) ⟨_, Or.inl ⟨by rfl, fun w2 hb2 => by (go_simp; try with_reducible rfl)⟩, _, by (go_simp; try rfl), ?_⟩
        refine wpAnyR_take 31 rfl (by kernel_rfl) (by kernel_rfl) (by kernel_rfl) (fun _ _ _ _ h => h) ⟨_, Or.inl ⟨by rfl, fun w2 hb2 => by (go_simp; try with_reducible rfl)⟩, _, by (go_simp; try rfl), ?_⟩
        refine wpAnyR_take 32 rfl (by kernel_rfl) (by kernel_rfl) (by kernel_rfl) (fun _ _ _ _ h => h) ⟨_, Or.inl ⟨by rfl, fun w2 hb2 => by (go_simp; try with_reducible rfl)⟩, _, by (go_simp; try rfl), ?_⟩
        refine wpAnyR_take 33 rfl (by kernel_rfl) (by kernel_rfl) (by kernel_rfl) (fun _ _ _ _ h => h) ⟨_, Or.inl ⟨by rfl, fun w2 hb2 => by (go_simp; try with_reducible rfl)⟩, _, by (go_simp; try rfl), ?_⟩
        refine wpAnyR_take 34 rfl (by kernel_rfl) (by kernel_rfl) (by kernel_rfl) (fun _ _ _ _ h => h) ⟨_, Or.inl ⟨by rfl, fun w2 hb2 => by (go_simp; try with_reducible rfl)⟩, _, by (go_simp; try rfl), ?_⟩
        refine wpAnyR_take 35 rfl (by kernel_rfl) (by kernel_rfl) (by kernel_rfl) (fun _ _ _ _ h => h) ⟨_, Or.inl ⟨by rfl, fun w2 hb2 => by (go_simp; try with_reducible rfl)⟩, _, by (go_simp; try rfl), ?_⟩
        refine wpAnyR_take 36 rfl (by kernel_rfl) (by kernel_rfl) (by kernel_rfl) (fun _ _ _ _ h => h) ⟨_, Or.inl ⟨by rfl, fun w2 hb2 => by (go_simp; try with_reducible rfl)⟩, _, by (go_simp; try rfl), ?_⟩
        refine wpAnyR_take 37 rfl (by kernel_rfl) (by kernel_rfl) (by kernel_rfl) (fun _ _ _ _ h => h) ⟨_, Or.inl ⟨by rfl, fun w2 hb2 => by (go_simp; try with_reducible rfl)⟩, _, by (go_simp; try rfl), ?_⟩
        refine wpAnyR_done (by kernel_rfl) ?_ _
        go_wp2_with fail
        go_roundw
        case rel => exact ⟨k + 1, s2, hk1.out, by simp, hbk11.out, mm.out.1, mm.out.2.2.1, mm.out.2.2.2.1, mm.out.2.2.2.2, mm.out.2.1, hB11.out⟩
        case measure => simp [intOf]; omega
      · simp only [if_true, if_false, Bool.false_eq_true] at m3 m4 m5
        have m6 : 0 < N := by simpa using m5
        skip
        have wa : IntKind.i64.wrap ((N : Int) + (-1)) = (M : Int) := by rw [IntKind.wrap_i64]; omega
        have wb : IntKind.i64.wrap ((s.l.length : Int) + (-1)) = (s2.l.length : Int) := by rw [IntKind.wrap_i64]; omega
        have w16 : ¬ ((16 : Int) < s2.l.length) := by omega
        have m7 : (0 : Int) < N := by omega
        replace hM := hid hM
        have mm := hid (⟨m1, m2, n2, n3, n4⟩ : s2.l.length ≤ 16 ∧ s2.y + s2.n + s2.o + s2.l.length ≤ ((k + 1 : Nat) : Int) ∧ 0 ≤ s2.y ∧ 0 ≤ s2.n ∧ 0 ≤ s2.o)
        have hyy := hid (⟨hy, hn, ho⟩ : 0 ≤ s.y ∧ 0 ≤ s.n ∧ 0 ≤ s.o)
        clear m1 m2 m3 m4 of1 hy hn ho hN hl m5 n2 n3 n4
        go_upto_region 15 with (fail)
        have hX8 := (show V7.drew.heap[xb]? = _ from hX7)
        have hbk8 := hid (show BookAt V7.drew _ _ _ _ _ _ from hbk7.out)
        have hB8 := hid hB7.out.drew
        clear hX7 hbk7 hB7 x0 x1 x2
        refine wp_region_R (by kernel_rfl) ?_
        refine wpAnyR_take 0 rfl (by kernel_rfl) (by kernel_rfl) (by kernel_rfl) (fun _ _ _ _ h => h) ⟨_, Or.inl ⟨by rfl, fun w2 hb2 => by (go_simp; try with_reducible rfl)⟩, _, by (go_simp; try rfl), ?_⟩
        refine wpAnyR_take 2 rfl (by kernel_rfl) (by kernel_rfl) (by kernel_rfl) (fun _ _ _ _ h => h) ⟨_, Or.inl ⟨by rfl, fun w2 hb2 => by (have hx0 := held_cell (held_after hb2 hX8) 0 _ rfl; have hx1 := held_cell (held_after hb2 hX8) 1 _ rfl; have hx2 := held_cell (held_after hb2 hX8) 2 _ rfl; go_simp; try with_reducible rfl)⟩, _, by (go_simp; try rfl), ?_⟩
        refine wpAnyR_take 4 rfl (by kernel_rfl) (by kernel_rfl) (by kernel_rfl) (fun _ _ _ _ h => h) ⟨_, Or.inl ⟨by rfl, fun w2 hb2 => by (go_simp; try with_reducible rfl)⟩, _, by (go_simp; try rfl), ?_⟩
        refine wpAnyR_take 5 rfl (by kernel_rfl) (by kernel_rfl) (by kernel_rfl) (fun _ _ _ _ h => h) ⟨_, Or.inl ⟨by rfl, fun w2 hb2 => by (go_simp; try with_reducible rfl)⟩, _, by (go_simp; try rfl), ?_⟩
        refine wpAnyR_take 6 rfl (by kernel_rfl) (by kernel_rfl) (by kernel_rfl) (fun _ _ _ _ h => h) ⟨_, Or.inl ⟨by rfl, fun w2 hb2 => by (go_simp; try with_reducible rfl)⟩, _, by (go_simp; try rfl), ?_⟩
        refine wpAnyR_only 1 rfl (by kernel_rfl) (by rfl) (fun K hK => ?_)
        go_simp
        refine (open_any W.heap.size p s2.l s2.y s2.n s2.o _ hbk8.out mm.out.1).mono ?_
        rintro e V9 ⟨a9, c9, rfl, hE9, hA⟩
        go_simp
        refine hK _ _ ⟨hA, ?_⟩
        clear hK
        have hX9 := held_after hA hX8
        have hbk9 := hid (hbk8.out.after hA)
        have hB9 := hid (hB8.out.trans (hA.mono (show W.heap.size ≤ V7.drew.heap.size from hB8.out.size)))
        clear hX8 hbk8 hB8 hA
        refine wpAnyR_only 3 rfl (by kernel_rfl) (by rfl) (fun K hK => ?_)
        go_simp
        refine (of_any a9 c9 s2.l d1 d2 d3 _ hE9 mm.out.1).mono ?_
        rw [hM.out]
        rintro e V10 ⟨rfl, hA⟩
        go_simp
        refine hK _ _ ⟨hA, ?_⟩
        clear hK
        have hX10 := held_after hA hX9
        have hbk10 := hid (hbk9.out.after hA)
        have hB10 := hid (hB9.out.trans (hA.mono hB9.out.size))
        clear hX9 hbk9 hB9 hA hE9
        refine wpAnyR_take 7 rfl (by kernel_rfl) (by kernel_rfl) (by kernel_rfl) (fun _ _ _ _ h => h) ⟨_, Or.inl ⟨by rfl, fun w2 hb2 => by (go_simp; try with_reducible rfl)⟩, _, by (go_simp; try rfl), ?_⟩
        refine wpAnyR_take 8 rfl (by kernel_rfl) (by kernel_rfl) (by kernel_rfl) (fun _ _ _ _ h => h) ⟨_, Or.inl ⟨by rfl, fun w2 hb2 => by (go_simp; try with_reducible rfl)⟩, _, by (go_simp; try rfl), ?_⟩
        refine wpAnyR_take 9 rfl (by kernel_rfl) (by kernel_rfl) (by kernel_rfl) (fun _ _ _ _ h => h) ⟨_, Or.inl ⟨by rfl, fun w2 hb2 => by (go_simp; try with_reducible rfl)⟩, _, by (go_simp; try rfl), ?_⟩
        refine wpAnyR_take 12 rfl (by kernel_rfl) (by kernel_rfl) (by kernel_rfl) (fun _ _ _ _ h => h) ⟨_, Or.inl ⟨by rfl, fun w2 hb2 => by (go_simp; try with_reducible rfl)⟩, _, by (go_simp; try rfl), ?_⟩
        refine wpAnyR_take 13 rfl (by kernel_rfl) (by kernel_rfl) (by kernel_rfl) (fun _ _ _ _ h => h) ⟨_, Or.inl ⟨by rfl, fun w2 hb2 => by (go_simp; try with_reducible rfl)⟩, _, by (go_simp; try rfl), ?_⟩
        refine wpAnyR_take 14 rfl (by kernel_rfl) (by kernel_rfl) (by kernel_rfl) (fun _ _ _ _ h => h) ⟨_, Or.inl ⟨by rfl, fun w2 hb2 => by (go_simp; try with_reducible rfl)⟩, _, by (go_simp; try rfl), ?_⟩
        refine wpAnyR_only 10 rfl (by kernel_rfl) (by rfl) (fun K hK => ?_)
        go_simp
        refine (open_any W.heap.size p s2.l s2.y s2.n s2.o _ hbk10.out mm.out.1).mono ?_
        rintro e V11 ⟨a11, c11, rfl, hE11, hA⟩
        go_simp
        refine hK _ _ ⟨hA, ?_⟩
        clear hK
        have hbk11 := hid (hbk10.out.after hA)
        have hB11 := hid (hB10.out.trans (hA.mono hB10.out.size))
        have y11 := (hB11.out.cell (p := ⟨bb, off + k * 4, none⟩) hbb).trans z0
        clear hX10 hbk10 hB10 hA hE11
        refine wpAnyR_take 11 rfl (by kernel_rfl) (by kernel_rfl) (by kernel_rfl) (fun _ _ _ _ h => h) ⟨_, Or.inl ⟨by rfl, fun w2 hb2 => by (go_simp; try with_reducible rfl)⟩, _, by (go_simp; try rfl), ?_⟩
        refine wpAnyR_take 15 rfl (by kernel_rfl) (by kernel_rfl) (by kernel_rfl) (fun _ _ _ _ h => h) ⟨_, Or.inl ⟨by rfl, fun w2 hb2 => by (go_simp; try with_reducible rfl)⟩, _, by (go_simp; try rfl), ?_⟩
        refine wpAnyR_take 16 rfl (by kernel_rfl) (by kernel_rfl) (by kernel_rfl) (fun _ _ _ _ h => h) ⟨_, Or.inl ⟨by rfl, fun w2 hb2 => by (go_simp; try with_reducible rfl)⟩, _, by (go_simp; try rfl), ?_⟩
        refine wpAnyR_take 17 rfl (by kernel_rfl) (by kernel_rfl) (by kernel_rfl) (fun _ _ _ _ h => h) ⟨_, Or.inl ⟨by rfl, fun w2 hb2 => by (go_simp; try with_reducible rfl)⟩, _, by (go_simp; try rfl), ?_⟩
        refine wpAnyR_take 18 rfl (by kernel_rfl) (by kernel_rfl) (by kernel_rfl) (fun _ _ _ _ h => h) ⟨_, Or.inl ⟨by rfl, fun w2 hb2 => by (go_simp; try with_reducible rfl)⟩, _, by (go_simp; try rfl), ?_⟩
        refine wpAnyR_take 19 rfl (by kernel_rfl) (by kernel_rfl) (by kernel_rfl) (fun _ _ _ _ h => h) ⟨_, Or.inl ⟨by rfl, fun w2 hb2 => by (go_simp; try with_reducible rfl)⟩, _, by (go_simp; try rfl), ?_⟩
        refine wpAnyR_take 20 rfl (by kernel_rfl) (by kernel_rfl) (by kernel_rfl) (fun _ _ _ _ h => h) ⟨_, Or.inl ⟨by rfl, fun w2 hb2 => by (go_simp; try with_reducible rfl)⟩, _, by (go_simp; try rfl), ?_⟩
        refine wpAnyR_take 21 rfl (by kernel_rfl) (by kernel_rfl) (by kernel_rfl) (fun _ _ _ _ h => h) ⟨_, Or.inl ⟨by rfl, fun w2 hb2 => by (go_simp; try with_reducible rfl)⟩, _, by (go_simp; try rfl), ?_⟩
        refine wpAnyR_take 22 rfl (by kernel_rfl) (by kernel_rfl) (by kernel_rfl) (fun _ _ _ _ h => h) ⟨_, Or.inl ⟨by rfl, fun w2 hb2 => by (go_simp; try with_reducible rfl)⟩, _, by (go_simp; try rfl), ?_⟩
        refine wpAnyR_take 23 rfl (by kernel_rfl) (by kernel_rfl) (by kernel_rfl) (fun _ _ _ _ h => h) ⟨_, Or.inl ⟨by rfl, fun w2 hb2 => by (go_simp; try with_reducible rfl)⟩, _, by (go_simp; try rfl), ?_⟩
        refine wpAnyR_take 24 rfl (by kernel_rfl) (by kernel_rfl) (by kernel_rfl) (fun _ _ _ _ h => h) ⟨_, Or.inl ⟨by rfl, fun w2 hb2 => by (go_simp; try with_reducible rfl)⟩, _, by (go_simp; try rfl), ?_⟩
        refine wpAnyR_take 25 rfl (by kernel_rfl) (by kernel_rfl) (by kernel_rfl) (fun _ _ _ _ h => h) ⟨_, Or.inl ⟨by rfl, fun w2 hb2 => by (go_simp; try with_reducible rfl)⟩, _, by (go_simp; try rfl), ?_⟩
        refine wpAnyR_take 26 rfl (by kernel_rfl) (by kernel_rfl) (by kernel_rfl) (fun _ _ _ _ h => h) ⟨_, Or.inl ⟨by rfl, fun w2 hb2 => by (go_simp; try with_reducible rfl)⟩, _, by (go_simp; try rfl), ?_⟩
        refine wpAnyR_take 27 rfl (by kernel_rfl) (by kernel_rfl) (by kernel_rfl) (fun _ _ _ _ h => h) ⟨_, Or.inl ⟨by rfl, fun w2 hb2 => by (go_simp; try with_reducible rfl)⟩, _, by (go_simp; try rfl), ?_⟩
        refine wpAnyR_take 28 rfl (by kernel_rfl) (by kernel_rfl) (by kernel_rfl) (fun _ _ _ _ h => h) ⟨_, Or.inl ⟨by rfl, fun w2 hb2 => by (have hx := hb2.cellB y11; go_simp; try with_reducible rfl)⟩, _, by (go_simp; try rfl), ?_⟩
        refine wpAnyR_take 29 rfl (by kernel_rfl) (by kernel_rfl) (by kernel_rfl) (fun _ _ _ _ h => h) ⟨_, Or.inl ⟨by rfl, fun w2 hb2 => by (go_simp; try with_reducible rfl)⟩, _, by (go_simp; try rfl), ?_⟩
        refine wpAnyR_take 30 rfl (by kernel_rfl) (by kernel_rfl) (by kernel_rfl) (fun _ _ _ _ h => h) ⟨_, Or.inl ⟨by rfl, fun w2 hb2 => by (go_simp; try with_reducible rfl)⟩, _, by (go_simp; try rfl), ?_⟩
        refine wpAnyR_take 31 rfl (by kernel_rfl) (by kernel_rfl) (by kernel_rfl) (fun _ _ _ _ h => h) ⟨_, Or.inl ⟨by rfl, fun w2 hb2 => by (go_simp; try with_reducible rfl)⟩, _, by (go_simp; try rfl), ?_⟩
        refine wpAnyR_take 32 rfl (by kernel_rfl) (by kernel_rfl) (by kernel_rfl) (fun _ _ _ _ h => h) ⟨_, Or.inl ⟨by rfl, fun w2 hb2 => by (go_simp; try with_reducible rfl)⟩, _, by (go_simp; try rfl), ?_⟩
        refine wpAnyR_take 33 rfl (by kernel_rfl) (by kernel_rfl) (by kernel_rfl) (fun _ _ _ _ h => h) ⟨_, Or.inl ⟨by rfl, fun w2 hb2 => by (go_simp; try with_reducible rfl)⟩, _, by (go_simp; try rfl), ?_⟩
        refine wpAnyR_take 34 rfl (by kernel_rfl) (by kernel_rfl) (by kernel_rfl) (fun _ _ _ _ h => h) ⟨_, Or.inl ⟨by rfl, fun w2 hb2 => by (go_simp; try with_reducible rfl)⟩, _, by (go_simp; try rfl), ?_⟩
        refine wpAnyR_take 35 rfl (by kernel_rfl) (by kernel_rfl) (by kernel_rfl) (fun _ _ _ _ h => h) ⟨_, Or.inl ⟨by rfl, fun w2 hb2 => by (go_simp; try with_reducible rfl)⟩, _, by (go_simp; try rfl), ?_⟩
        refine wpAnyR_take 36 rfl (by kernel_rfl) (by kernel_rfl) (by kernel_rfl) (fun _ _ _ _ h => h) ⟨_, Or.inl ⟨by rfl, fun w2 hb2 => by (go_simp; try with_reducible rfl)⟩, _, by (go_simp; try rfl), ?_⟩
        refine wpAnyR_take 37 rfl (by kernel_rfl) (by kernel_rfl) (by kernel_rfl) (fun _ _ _ _ h => h) ⟨_, Or.inl ⟨by rfl, fun w2 hb2 => by (go_simp; try with_reducible rfl)⟩, _, by (go_simp; try rfl), ?_⟩
        refine wpAnyR_done (by kernel_rfl) ?_ _
        go_wp2_with fail
        go_roundw
        case rel => exact ⟨k + 1, s2, hk1.out, by simp, hbk11.out, mm.out.1, mm.out.2.2.1, mm.out.2.2.2.1, mm.out.2.2.2.2, mm.out.2.1, hB11.out⟩
        case measure => simp [intOf]; omega
    · obtain ⟨⟨l2, ok⟩, hr⟩ : ∃ r, askS s.l d2 d3 = r := ⟨_, rfl⟩
      rw [hr] at hma
      dsimp only at hma
      obtain ⟨m1, m2, m3, m4⟩ := hma
      clear hmh
      replace hr := hid hr
      obtain ⟨M, hM⟩ : ∃ M, ofS l2 d2 d3 = M := ⟨_, rfl⟩
      rw [hM] at m3
      go_wp2_with fail
      refine (ask_any W.heap.size p s.l s.y s.n s.o d2 d3 _ hbk6.out hl sp).mono ?_
      rw [hr.out]
      rintro e V7 ⟨rfl, hbk7, hef⟩
      dsimp only at hbk7 ⊢
      have hX7 := (hef.owp.block xb (held_lt hX6) hxp (fun e => hxo.out e.symm)).trans hX6
      have hB7 := hid (hB6.out.trans hef.below)
      have y7 := (hB7.out.cell (p := ⟨bb, off + k * 4, none⟩) hbb).trans z0
      replace hbk7 := hid hbk7
      clear hef y0 x0 x1 x2 hX6 hbk6 hB6 hxo
      have x0 := held_cell hX7 0 _ rfl
      have x1 := held_cell hX7 1 _ rfl
      have x2 := held_cell hX7 2 _ rfl
      cases ok
      · simp only [if_true, if_false, Bool.false_eq_true] at m3 m4
        skip
        have wa : IntKind.i64.wrap (N : Int) = (M : Int) := by rw [IntKind.wrap_i64]; omega
        have wb : IntKind.i64.wrap (s.l.length : Int) = (l2.length : Int) := by rw [IntKind.wrap_i64]; omega
        have w16 : ¬ ((16 : Int) < l2.length) := by omega
        replace hM := hid hM
        have mm := hid (⟨m1, m2⟩ : l2.length ≤ 16 ∧ s.y + s.n + s.o + l2.length ≤ ((k + 1 : Nat) : Int))
        have hyy := hid (⟨hy, hn, ho⟩ : 0 ≤ s.y ∧ 0 ≤ s.n ∧ 0 ≤ s.o)
        clear m1 m2 m3 m4 of1 hy hn ho hN hl
        go_upto_region 15 with (fail)
        have hX8 := (show V7.drew.heap[xb]? = _ from hX7)
        have hbk8 := hid (show BookAt V7.drew _ _ _ _ _ _ from hbk7.out)
        have hB8 := hid hB7.out.drew
        clear hX7 hbk7 hB7 x0 x1 x2
        refine wp_region_R (by kernel_rfl) ?_
        refine wpAnyR_take 0 rfl (by kernel_rfl) (by kernel_rfl) (by kernel_rfl) (fun _ _ _ _ h => h) ⟨_, Or.inl ⟨by rfl, fun w2 hb2 => by (go_simp; try with_reducible rfl)⟩, _, by (go_simp; try rfl), ?_⟩
        refine wpAnyR_take 2 rfl (by kernel_rfl) (by kernel_rfl) (by kernel_rfl) (fun _ _ _ _ h => h) ⟨_, Or.inl ⟨by rfl, fun w2 hb2 => by (have hx0 := held_cell (held_after hb2 hX8) 0 _ rfl; have hx1 := held_cell (held_after hb2 hX8) 1 _ rfl; have hx2 := held_cell (held_after hb2 hX8) 2 _ rfl; go_simp; try with_reducible rfl)⟩, _, by (go_simp; try rfl), ?_⟩
        refine wpAnyR_take 4 rfl (by kernel_rfl) (by kernel_rfl) (by kernel_rfl) (fun _ _ _ _ h => h) ⟨_, Or.inl ⟨by rfl, fun w2 hb2 => by (go_simp; try with_reducible rfl)⟩, _, by (go_simp; try rfl), ?_⟩
        refine wpAnyR_take 5 rfl (by kernel_rfl) (by kernel_rfl) (by kernel_rfl) (fun _ _ _ _ h => h) ⟨_, Or.inl ⟨by rfl, fun w2 hb2 => by (go_simp; try with_reducible rfl)⟩, _, by (go_simp; try rfl), ?_⟩
        refine wpAnyR_take 6 rfl (by kernel_rfl) (by kernel_rfl) (by kernel_rfl) (fun _ _ _ _ h => h) ⟨_, Or.inl ⟨by rfl, fun w2 hb2 => by (go_simp; try with_reducible rfl)⟩, _, by (go_simp; try rfl), ?_⟩
        refine wpAnyR_only 1 rfl (by kernel_rfl) (by rfl) (fun K hK => ?_)
        go_simp
        refine (open_any W.heap.size p l2 s.y s.n s.o _ hbk8.out mm.out.1).mono ?_
        rintro e V9 ⟨a9, c9, rfl, hE9, hA⟩
        go_simp
        refine hK _ _ ⟨hA, ?_⟩
        clear hK
        have hX9 := held_after hA hX8
        have hbk9 := hid (hbk8.out.after hA)
        have hB9 := hid (hB8.out.trans (hA.mono (show W.heap.size ≤ V7.drew.heap.size from hB8.out.size)))
        clear hX8 hbk8 hB8 hA
        refine wpAnyR_only 3 rfl (by kernel_rfl) (by rfl) (fun K hK => ?_)
        go_simp
        refine (of_any a9 c9 l2 d1 d2 d3 _ hE9 mm.out.1).mono ?_
        rw [hM.out]
        rintro e V10 ⟨rfl, hA⟩
        go_simp
        refine hK _ _ ⟨hA, ?_⟩
        clear hK
        have hX10 := held_after hA hX9
        have hbk10 := hid (hbk9.out.after hA)
        have hB10 := hid (hB9.out.trans (hA.mono hB9.out.size))
        clear hX9 hbk9 hB9 hA hE9
        refine wpAnyR_take 7 rfl (by kernel_rfl) (by kernel_rfl) (by kernel_rfl) (fun _ _ _ _ h => h) ⟨_, Or.inl ⟨by rfl, fun w2 hb2 => by (go_simp; try with_reducible rfl)⟩, _, by (go_simp; try rfl), ?_⟩
        refine wpAnyR_take 8 rfl (by kernel_rfl) (by kernel_rfl) (by kernel_rfl) (fun _ _ _ _ h => h) ⟨_, Or.inl ⟨by rfl, fun w2 hb2 => by (go_simp; try with_reducible rfl)⟩, _, by (go_simp; try rfl), ?_⟩
        refine wpAnyR_take 9 rfl (by kernel_rfl) (by kernel_rfl) (by kernel_rfl) (fun _ _ _ _ h => h) ⟨_, Or.inl ⟨by rfl, fun w2 hb2 => by (go_simp; try with_reducible rfl)⟩, _, by (go_simp; try rfl), ?_⟩
        refine wpAnyR_take 12 rfl (by kernel_rfl) (by kernel_rfl) (by kernel_rfl) (fun _ _ _ _ h => h) ⟨_, Or.inl ⟨by rfl, fun w2 hb2 => by (go_simp; try with_reducible rfl)⟩, _, by (go_simp; try rfl), ?_⟩
        refine wpAnyR_take 13 rfl (by kernel_rfl) (by kernel_rfl) (by kernel_rfl) (fun _ _ _ _ h => h) ⟨_, Or.inl ⟨by rfl, fun w2 hb2 => by (go_simp; try with_reducible rfl)⟩, _, by (go_simp; try rfl), ?_⟩
        refine wpAnyR_take 14 rfl (by kernel_rfl) (by kernel_rfl) (by kernel_rfl) (fun _ _ _ _ h => h) ⟨_, Or.inl ⟨by rfl, fun w2 hb2 => by (go_simp; try with_reducible rfl)⟩, _, by (go_simp; try rfl), ?_⟩
        refine wpAnyR_only 10 rfl (by kernel_rfl) (by rfl) (fun K hK => ?_)
        go_simp
        refine (open_any W.heap.size p l2 s.y s.n s.o _ hbk10.out mm.out.1).mono ?_
        rintro e V11 ⟨a11, c11, rfl, hE11, hA⟩
        go_simp
        refine hK _ _ ⟨hA, ?_⟩
        clear hK
        have hbk11 := hid (hbk10.out.after hA)
        have hB11 := hid (hB10.out.trans (hA.mono hB10.out.size))
        have y11 := (hB11.out.cell (p := ⟨bb, off + k * 4, none⟩) hbb).trans z0
        clear hX10 hbk10 hB10 hA hE11
        refine wpAnyR_take 11 rfl (by kernel_rfl) (by kernel_rfl) (by kernel_rfl) (fun _ _ _ _ h => h) ⟨_, Or.inl ⟨by rfl, fun w2 hb2 => by (go_simp; try with_reducible rfl)⟩, _, by (go_simp; try rfl), ?_⟩
        refine wpAnyR_take 15 rfl (by kernel_rfl) (by kernel_rfl) (by kernel_rfl) (fun _ _ _ _ h => h) ⟨_, Or.inl ⟨by rfl, fun w2 hb2 => by (go_simp; try with_reducible rfl)⟩, _, by (go_simp; try rfl), ?_⟩
        refine wpAnyR_take 16 rfl (by kernel_rfl) (by kernel_rfl) (by kernel_rfl) (fun _ _ _ _ h => h) ⟨_, Or.inl ⟨by rfl, fun w2 hb2 => by (go_simp; try with_reducible rfl)⟩, _, by (go_simp; try rfl), ?_⟩
        refine wpAnyR_take 17 rfl (by kernel_rfl) (by kernel_rfl) (by kernel_rfl) (fun _ _ _ _ h => h) ⟨_, Or.inl ⟨by rfl, fun w2 hb2 => by (go_simp; try with_reducible rfl)⟩, _, by (go_simp; try rfl), ?_⟩
        refine wpAnyR_take 18 rfl (by kernel_rfl) (by kernel_rfl) (by kernel_rfl) (fun _ _ _ _ h => h) ⟨_, Or.inl ⟨by rfl, fun w2 hb2 => by (go_simp; try with_reducible rfl)⟩, _, by (go_simp; try rfl), ?_⟩
        refine wpAnyR_take 19 rfl (by kernel_rfl) (by kernel_rfl) (by kernel_rfl) (fun _ _ _ _ h => h) ⟨_, Or.inl ⟨by rfl, fun w2 hb2 => by (go_simp; try with_reducible rfl)⟩, _, by (go_simp; try rfl), ?_⟩
        refine wpAnyR_take 20 rfl (by kernel_rfl) (by kernel_rfl) (by kernel_rfl) (fun _ _ _ _ h => h) ⟨_, Or.inl ⟨by rfl, fun w2 hb2 => by (go_simp; try with_reducible rfl)⟩, _, by (go_simp; try rfl), ?_⟩
        refine wpAnyR_take 21 rfl (by kernel_rfl) (by kernel_rfl) (by kernel_rfl) (fun _ _ _ _ h => h) ⟨_, Or.inl ⟨by rfl, fun w2 hb2 => by (go_simp; try with_reducible rfl)⟩, _, by (go_simp; try rfl), ?_⟩
        refine wpAnyR_take 22 rfl (by kernel_rfl) (by kernel_rfl) (by kernel_rfl) (fun _ _ _ _ h => h) ⟨_, Or.inl ⟨by rfl, fun w2 hb2 => by (go_simp; try with_reducible rfl)⟩, _, by (go_simp; try rfl), ?_⟩
        refine wpAnyR_take 23 rfl (by kernel_rfl) (by kernel_rfl) (by kernel_rfl) (fun _ _ _ _ h => h) ⟨_, Or.inl ⟨by rfl, fun w2 hb2 => by (go_simp; try with_reducible rfl)⟩, _, by (go_simp; try rfl), ?_⟩
        refine wpAnyR_take 24 rfl (by kernel_rfl) (by kernel_rfl) (by kernel_rfl) (fun _ _ _ _ h => h) ⟨_, Or.inl ⟨by rfl, fun w2 hb2 => by (go_simp; try with_reducible rfl)⟩, _, by (go_simp; try rfl), ?_⟩
        refine wpAnyR_take 25 rfl (by kernel_rfl) (by kernel_rfl) (by kernel_rfl) (fun _ _ _ _ h => h) ⟨_, Or.inl ⟨by rfl, fun w2 hb2 => by (go_simp; try with_reducible rfl)⟩, _, by (go_simp; try rfl), ?_⟩
        refine wpAnyR_take 26 rfl (by kernel_rfl) (by kernel_rfl) (by kernel_rfl) (fun _ _ _ _ h => h) ⟨_, Or.inl ⟨by rfl, fun w2 hb2 => by (go_simp; try with_reducible rfl)⟩, _, by (go_simp; try rfl), ?_⟩
        refine wpAnyR_take 27 rfl (by kernel_rfl) (by kernel_rfl) (by kernel_rfl) (fun _ _ _ _ h => h) ⟨_, Or.inl ⟨by rfl, fun w2 hb2 => by (go_simp; try with_reducible rfl)⟩, _, by (go_simp; try rfl), ?_⟩
        refine wpAnyR_take 28 rfl (by kernel_rfl) (by kernel_rfl) (by kernel_rfl) (fun _ _ _ _ h => h) ⟨_, Or.inl ⟨by rfl, fun w2 hb2 => by (have hx := hb2.cellB y11; go_simp; try with_reducible rfl)⟩, _, by (go_simp; try rfl), ?_⟩
        refine wpAnyR_take 29 rfl (by kernel_rfl) (by kernel_rfl) (by kernel_rfl) (fun _ _ _ _ h => h) ⟨_, Or.inl ⟨by rfl, fun w2 hb2 => by (go_simp; try with_reducible rfl)⟩, _, by (go_simp; try rfl), ?_⟩
        refine wpAnyR_take 30 rfl (by kernel_rfl) (by kernel_rfl) (by kernel_rfl) (fun _ _ _ _ h => h) ⟨_, Or.inl ⟨by rfl, fun w2 hb2 => by (go_simp; try with_reducible rfl)⟩, _, by (go_simp; try rfl), ?_⟩
        refine wpAnyR_take 31 rfl (by kernel_rfl) (by kernel_rfl) (by kernel_rfl) (fun _ _ _ _ h => h) ⟨_, Or.inr ⟨by rfl, rfl⟩, _, by (go_simp; try rfl), ?_⟩
        refine wpAnyR_take 32 rfl (by kernel_rfl) (by kernel_rfl) (by kernel_rfl) (fun _ _ _ _ h => h) ⟨_, Or.inr ⟨by rfl, rfl⟩, _, by (go_simp; try rfl), ?_⟩
        refine wpAnyR_take 33 rfl (by kernel_rfl) (by kernel_rfl) (by kernel_rfl) (fun _ _ _ _ h => h) ⟨_, Or.inr ⟨by rfl, rfl⟩, _, by (go_simp; try rfl), ?_⟩
        refine wpAnyR_take 34 rfl (by kernel_rfl) (by kernel_rfl) (by kernel_rfl) (fun _ _ _ _ h => h) ⟨_, Or.inr ⟨by rfl, rfl⟩, _, by (go_simp; try rfl), ?_⟩
        refine wpAnyR_take 35 rfl (by kernel_rfl) (by kernel_rfl) (by kernel_rfl) (fun _ _ _ _ h => h) ⟨_, Or.inr ⟨by rfl, rfl⟩, _, by (go_simp; try rfl), ?_⟩
        refine wpAnyR_take 36 rfl (by kernel_rfl) (by kernel_rfl) (by kernel_rfl) (fun _ _ _ _ h => h) ⟨_, Or.inl ⟨by rfl, fun w2 hb2 => by (go_simp; try with_reducible rfl)⟩, _, by (go_simp; try rfl), ?_⟩
        refine wpAnyR_take 37 rfl (by kernel_rfl) (by kernel_rfl) (by kernel_rfl) (fun _ _ _ _ h => h) ⟨_, Or.inl ⟨by rfl, fun w2 hb2 => by (go_simp; try with_reducible rfl)⟩, _, by (go_simp; try rfl), ?_⟩
        refine wpAnyR_done (by kernel_rfl) ?_ _
        go_wp2_with fail
        go_roundw
        case rel => exact ⟨k + 1, ⟨l2, s.y, s.n, s.o⟩, hk1.out, by simp, hbk11.out, mm.out.1, hyy.out.1, hyy.out.2.1, hyy.out.2.2, mm.out.2, hB11.out⟩
        case measure => simp [intOf]; omega
      · simp only [if_true, if_false, Bool.false_eq_true] at m3 m4
        skip
        have wa : IntKind.i64.wrap ((N : Int) + 1) = (M : Int) := by rw [IntKind.wrap_i64]; omega
        have wb : IntKind.i64.wrap ((s.l.length : Int) + 1) = (l2.length : Int) := by rw [IntKind.wrap_i64]; omega
        have w16 : ¬ ((16 : Int) < l2.length) := by omega
        replace hM := hid hM
        have mm := hid (⟨m1, m2⟩ : l2.length ≤ 16 ∧ s.y + s.n + s.o + l2.length ≤ ((k + 1 : Nat) : Int))
        have hyy := hid (⟨hy, hn, ho⟩ : 0 ≤ s.y ∧ 0 ≤ s.n ∧ 0 ≤ s.o)
        clear m1 m2 m3 m4 of1 hy hn ho hN hl
        go_upto_region 15 with (fail)
        have hX8 := (show V7.drew.heap[xb]? = _ from hX7)
        have hbk8 := hid (show BookAt V7.drew _ _ _ _ _ _ from hbk7.out)
        have hB8 := hid hB7.out.drew
        clear hX7 hbk7 hB7 x0 x1 x2
        refine wp_region_R (by kernel_rfl) ?_
        refine wpAnyR_take 0 rfl (by kernel_rfl) (by kernel_rfl) (by kernel_rfl) (fun _ _ _ _ h => h) ⟨_, Or.inl ⟨by rfl, fun w2 hb2 => by (go_simp; try with_reducible rfl)⟩, _, by (go_simp; try rfl), ?_⟩
        refine wpAnyR_take 2 rfl (by kernel_rfl) (by kernel_rfl) (by kernel_rfl) (fun _ _ _ _ h => h) ⟨_, Or.inl ⟨by rfl, fun w2 hb2 => by (have hx0 := held_cell (held_after hb2 hX8) 0 _ rfl; have hx1 := held_cell (held_after hb2 hX8) 1 _ rfl; have hx2 := held_cell (held_after hb2 hX8) 2 _ rfl; go_simp; try with_reducible rfl)⟩, _, by (go_simp; try rfl), ?_⟩
        refine wpAnyR_take 4 rfl (by kernel_rfl) (by kernel_rfl) (by kernel_rfl) (fun _ _ _ _ h => h) ⟨_, Or.inl ⟨by rfl, fun w2 hb2 => by (go_simp; try with_reducible rfl)⟩, _, by (go_simp; try rfl), ?_⟩
        refine wpAnyR_take 5 rfl (by kernel_rfl) (by kernel_rfl) (by kernel_rfl) (fun _ _ _ _ h => h) ⟨_, Or.inl ⟨by rfl, fun w2 hb2 => by (go_simp; try with_reducible rfl)⟩, _, by (go_simp; try rfl), ?_⟩
        refine wpAnyR_take 6 rfl (by kernel_rfl) (by kernel_rfl) (by kernel_rfl) (fun _ _ _ _ h => h) ⟨_, Or.inl ⟨by rfl, fun w2 hb2 => by (go_simp; try with_reducible rfl)⟩, _, by (go_simp; try rfl), ?_⟩
        refine wpAnyR_only 1 rfl (by kernel_rfl) (by rfl) (fun K hK => ?_)
        go_simp
        refine (open_any W.heap.size p l2 s.y s.n s.o _ hbk8.out mm.out.1).mono ?_
        rintro e V9 ⟨a9, c9, rfl, hE9, hA⟩
        go_simp
        refine hK _ _ ⟨hA, ?_⟩
        clear hK
        have hX9 := held_after hA hX8
        have hbk9 := hid (hbk8.out.after hA)
        have hB9 := hid (hB8.out.trans (hA.mono (show W.heap.size ≤ V7.drew.heap.size from hB8.out.size)))
        clear hX8 hbk8 hB8 hA
        refine wpAnyR_only 3 rfl (by kernel_rfl) (by rfl) (fun K hK => ?_)
        go_simp
        refine (of_any a9 c9 l2 d1 d2 d3 _ hE9 mm.out.1).mono ?_
        rw [hM.out]
        rintro e V10 ⟨rfl, hA⟩
        go_simp
        refine hK _ _ ⟨hA, ?_⟩
        clear hK
        have hX10 := held_after hA hX9
        have hbk10 := hid (hbk9.out.after hA)
        have hB10 := hid (hB9.out.trans (hA.mono hB9.out.size))
        clear hX9 hbk9 hB9 hA hE9
        refine wpAnyR_take 7 rfl (by kernel_rfl) (by kernel_rfl) (by kernel_rfl) (fun _ _ _ _ h => h) ⟨_, Or.inl ⟨by rfl, fun w2 hb2 => by (go_simp; try with_reducible rfl)⟩, _, by (go_simp; try rfl), ?_⟩
        refine wpAnyR_take 8 rfl (by kernel_rfl) (by kernel_rfl) (by kernel_rfl) (fun _ _ _ _ h => h) ⟨_, Or.inl ⟨by rfl, fun w2 hb2 => by (go_simp; try with_reducible rfl)⟩, _, by (go_simp; try rfl), ?_⟩
        refine wpAnyR_take 9 rfl (by kernel_rfl) (by kernel_rfl) (by kernel_rfl) (fun _ _ _ _ h => h) ⟨_, Or.inl ⟨by rfl, fun w2 hb2 => by (go_simp; try with_reducible rfl)⟩, _, by (go_simp; try rfl), ?_⟩
        refine wpAnyR_take 12 rfl (by kernel_rfl) (by kernel_rfl) (by kernel_rfl) (fun _ _ _ _ h => h) ⟨_, Or.inl ⟨by rfl, fun w2 hb2 => by (go_simp; try with_reducible rfl)⟩, _, by (go_simp; try rfl), ?_⟩
        refine wpAnyR_take 13 rfl (by kernel_rfl) (by kernel_rfl) (by kernel_rfl) (fun _ _ _ _ h => h) ⟨_, Or.inl ⟨by rfl, fun w2 hb2 => by (go_simp; try with_reducible rfl)⟩, _, by (go_simp; try rfl), ?_⟩
        refine wpAnyR_take 14 rfl (by kernel_rfl) (by kernel_rfl) (by kernel_rfl) (fun _ _ _ _ h => h) ⟨_, Or.inl ⟨by rfl, fun w2 hb2 => by (go_simp; try with_reducible rfl)⟩, _, by (go_simp; try rfl), ?_⟩
        refine wpAnyR_only 10 rfl (by kernel_rfl) (by rfl) (fun K hK => ?_)
        go_simp
        refine (open_any W.heap.size p l2 s.y s.n s.o _ hbk10.out mm.out.1).mono ?_
        rintro e V11 ⟨a11, c11, rfl, hE11, hA⟩
        go_simp
        refine hK _ _ ⟨hA, ?_⟩
        clear hK
        have hbk11 := hid (hbk10.out.after hA)
        have hB11 := hid (hB10.out.trans (hA.mono hB10.out.size))
        have y11 := (hB11.out.cell (p := ⟨bb, off + k * 4, none⟩) hbb).trans z0
        clear hX10 hbk10 hB10 hA hE11
        refine wpAnyR_take 11 rfl (by kernel_rfl) (by kernel_rfl) (by kernel_rfl) (fun _ _ _ _ h => h) ⟨_, Or.inl ⟨by rfl, fun w2 hb2 => by (go_simp; try with_reducible rfl)⟩, _, by (go_simp; try rfl), ?_⟩
        refine wpAnyR_take 15 rfl (by kernel_rfl) (by kernel_rfl) (by kernel_rfl) (fun _ _ _ _ h => h) ⟨_, Or.inl ⟨by rfl, fun w2 hb2 => by (go_simp; try with_reducible rfl)⟩, _, by (go_simp; try rfl), ?_⟩
        refine wpAnyR_take 16 rfl (by kernel_rfl) (by kernel_rfl) (by kernel_rfl) (fun _ _ _ _ h => h) ⟨_, Or.inl ⟨by rfl, fun w2 hb2 => by (go_simp; try with_reducible rfl)⟩, _, by (go_simp; try rfl), ?_⟩
        refine wpAnyR_take 17 rfl (by kernel_rfl) (by kernel_rfl) (by kernel_rfl) (fun _ _ _ _ h => h) ⟨_, Or.inl ⟨by rfl, fun w2 hb2 => by (go_simp; try with_reducible rfl)⟩, _, by (go_simp; try rfl), ?_⟩
        refine wpAnyR_take 18 rfl (by kernel_rfl) (by kernel_rfl) (by kernel_rfl) (fun _ _ _ _ h => h) ⟨_, Or.inl ⟨by rfl, fun w2 hb2 => by (go_simp; try with_reducible rfl)⟩, _, by (go_simp; try rfl), ?_⟩
        refine wpAnyR_take 19 rfl (by kernel_rfl) (by kernel_rfl) (by kernel_rfl) (fun _ _ _ _ h => h) ⟨_, Or.inl ⟨by rfl, fun w2 hb2 => by (go_simp; try with_reducible rfl)⟩, _, by (go_simp; try rfl), ?_⟩
        refine wpAnyR_take 20 rfl (by kernel_rfl) (by kernel_rfl) (by kernel_rfl) (fun _ _ _ _ h => h) ⟨_, Or.inl ⟨by rfl, fun w2 hb2 => by (go_simp; try with_reducible rfl)⟩, _, by (go_simp; try rfl), ?_⟩
        refine wpAnyR_take 21 rfl (by kernel_rfl) (by kernel_rfl) (by kernel_rfl) (fun _ _ _ _ h => h) ⟨_, Or.inl ⟨by rfl, fun w2 hb2 => by (go_simp; try with_reducible rfl)⟩, _, by (go_simp; try rfl), ?_⟩
        refine wpAnyR_take 22 rfl (by kernel_rfl) (by kernel_rfl) (by kernel_rfl) (fun _ _ _ _ h => h) ⟨_, Or.inl ⟨by rfl, fun w2 hb2 => by (go_simp; try with_reducible rfl)⟩, _, by (go_simp; try rfl), ?_⟩
        refine wpAnyR_take 23 rfl (by kernel_rfl) (by kernel_rfl) (by kernel_rfl) (fun _ _ _ _ h => h) ⟨_, Or.inl ⟨by rfl, fun w2 hb2 => by (go_simp; try with_reducible rfl)⟩, _, by (go_simp; try rfl), ?_⟩
        refine wpAnyR_take 24 rfl (by kernel_rfl) (by kernel_rfl) (by kernel_rfl) (fun _ _ _ _ h => h) ⟨_, Or.inl ⟨by rfl, fun w2 hb2 => by (go_simp; try with_reducible rfl)⟩, _, by (go_simp; try rfl), ?_⟩
        refine wpAnyR_take 25 rfl (by kernel_rfl) (by kernel_rfl) (by kernel_rfl) (fun _ _ _ _ h => h) ⟨_, Or.inl ⟨by rfl, fun w2 hb2 => by (go_simp; try with_reducible rfl)⟩, _, by (go_simp; try rfl), ?_⟩
        refine wpAnyR_take 26 rfl (by kernel_rfl) (by kernel_rfl) (by kernel_rfl) (fun _ _ _ _ h => h) ⟨_, Or.inl ⟨by rfl, fun w2 hb2 => by (go_simp; try with_reducible rfl)⟩, _, by (go_simp; try rfl), ?_⟩
        refine wpAnyR_take 27 rfl (by kernel_rfl) (by kernel_rfl) (by kernel_rfl) (fun _ _ _ _ h => h) ⟨_, Or.inl ⟨by rfl, fun w2 hb2 => by (go_simp; try with_reducible rfl)⟩, _, by (go_simp; try rfl), ?_⟩
        refine wpAnyR_take 28 rfl (by kernel_rfl) (by kernel_rfl) (by kernel_rfl) (fun _ _ _ _ h => h) ⟨_, Or.inl ⟨by rfl, fun w2 hb2 => by (have hx := hb2.cellB y11; go_simp; try with_reducible rfl)⟩, _, by (go_simp; try rfl), ?_⟩
        refine wpAnyR_take 29 rfl (by kernel_rfl) (by kernel_rfl) (by kernel_rfl) (fun _ _ _ _ h => h) ⟨_, Or.inl ⟨by rfl, fun w2 hb2 => by (go_simp; try with_reducible rfl)⟩, _, by (go_simp; try rfl), ?_⟩
        refine wpAnyR_take 30 rfl (by kernel_rfl) (by kernel_rfl) (by kernel_rfl) (fun _ _ _ _ h => h) ⟨_, Or.inl ⟨by rfl, fun w2 hb2 => by (go_simp; try with_reducible rfl)⟩, _, by (go_simp; try rfl), ?_⟩
        refine wpAnyR_take 31 rfl (by kernel_rfl) (by kernel_rfl) (by kernel_rfl) (fun _ _ _ _ h => h) ⟨_, Or.inr ⟨by rfl, rfl⟩, _, by (go_simp; try rfl), ?_⟩
        refine wpAnyR_take 32 rfl (by kernel_rfl) (by kernel_rfl) (by kernel_rfl) (fun _ _ _ _ h => h) ⟨_, Or.inr ⟨by rfl, rfl⟩, _, by (go_simp; try rfl), ?_⟩
        refine wpAnyR_take 33 rfl (by kernel_rfl) (by kernel_rfl) (by kernel_rfl) (fun _ _ _ _ h => h) ⟨_, Or.inr ⟨by rfl, rfl⟩, _, by (go_simp; try rfl), ?_⟩
        refine wpAnyR_take 34 rfl (by kernel_rfl) (by kernel_rfl) (by kernel_rfl) (fun _ _ _ _ h => h) ⟨_, Or.inr ⟨by rfl, rfl⟩, _, by (go_simp; try rfl), ?_⟩
        refine wpAnyR_take 35 rfl (by kernel_rfl) (by kernel_rfl) (by kernel_rfl) (fun _ _ _ _ h => h) ⟨_, Or.inr ⟨by rfl, rfl⟩, _, by (go_simp; try rfl), ?_⟩
        refine wpAnyR_take 36 rfl (by kernel_rfl) (by kernel_rfl) (by kernel_rfl) (fun _ _ _ _ h => h) ⟨_, Or.inl ⟨by rfl, fun w2 hb2 => by (go_simp; try with_reducible rfl)⟩, _, by (go_simp; try rfl), ?_⟩
        refine wpAnyR_take 37 rfl (by kernel_rfl) (by kernel_rfl) (by kernel_rfl) (fun _ _ _ _ h => h) ⟨_, Or.inl ⟨by rfl, fun w2 hb2 => by (go_simp; try with_reducible rfl)⟩, _, by (go_simp; try rfl), ?_⟩
        refine wpAnyR_done (by kernel_rfl) ?_ _
        go_wp2_with fail
        go_roundw
        case rel => exact ⟨k + 1, ⟨l2, s.y, s.n, s.o⟩, hk1.out, by simp, hbk11.out, mm.out.1, hyy.out.1, hyy.out.2.1, hyy.out.2.2, mm.out.2, hB11.out⟩
        case measure => simp [intOf]; omega

end Go.Proofs.Ythcaljelmchkcaa
