/- The law FusePlays, walked. -/
import Derived.Test.YtpdpcdifnlellaaGreatLaw42
import Derived.Deep.DeepCutAuto
namespace Go.Proofs.YtpdpcdifnlellaaGreat
open Go.ChangeShapes Go.WideShapes Go.ChangeAt Go.RowKit
set_option maxRecDepth 100000
set_option linter.unusedVariables false
set_option linter.unusedSimpArgs false

theorem rx_after42 {X : Option Nat} {w w' : World} (h : After w w') : RX X w w' := ⟨h.size, fun k hk _ => h.block k hk⟩
/-- Two states, alike, after i steps. -/
def PlaysI (W : World) (ps pq i : Nat) (wr : World) : Prop :=
  ∃ (q0 q1 q2 q3 b0 b1 b2 st cu : Int), (B32 q0 ∧ B32 q1 ∧ B32 q2 ∧ B32 q3) ∧ (B32 b0 ∧ B32 b1 ∧ B32 b2) ∧ (0 ≤ st ∧ st ≤ i) ∧ (0 ≤ cu ∧ cu ≤ 29 * i) ∧ wr.heap[ps]? = some (.cells #[.int .i32 q0, .int .i32 q1, .int .i32 q2, .int .i32 q3, .int .i32 b0, .int .i32 b1, .int .i32 b2, .int .i64 st, .int .i64 cu] 34 (0, 0)) ∧ wr.heap[pq]? = some (.cells #[.int .i32 q0, .int .i32 q1, .int .i32 q2, .int .i32 q3, .int .i32 b0, .int .i32 b1, .int .i32 b2, .int .i64 st, .int .i64 cu] 27 (0, 0)) ∧ Below W.heap.size W wr
theorem els7 {w : World} {a : Option Addr} {len cap i : Nat} {xs : List (List Value)} {v0 v1 v2 v3 v4 v5 v6 : Value} (h : Els w 7 a len cap xs) (hx : xs[i]? = some [v0, v1, v2, v3, v4, v5, v6]) : ∃ b off, a = some ⟨b, off, none⟩ ∧ b < w.heap.size ∧ ∀ w', Below w.heap.size w w' → w'.cell? ⟨b, off + i * 7, none⟩ = some v0 ∧ w'.cell? ⟨b, off + i * 7 + 1, none⟩ = some v1 ∧ w'.cell? ⟨b, off + i * 7 + 2, none⟩ = some v2 ∧ w'.cell? ⟨b, off + i * 7 + 3, none⟩ = some v3 ∧ w'.cell? ⟨b, off + i * 7 + 4, none⟩ = some v4 ∧ w'.cell? ⟨b, off + i * 7 + 5, none⟩ = some v5 ∧ w'.cell? ⟨b, off + i * 7 + 6, none⟩ = some v6 := by
  obtain ⟨-, b, off, e, hc⟩ := h.2.2.2.2 i _ hx
  have hl := World.block_lt_of_cell? w _ (hc 0 v0 rfl)
  refine ⟨b, off, e, hl, fun w' hb => ?_⟩
  have k : ∀ j v, [v0, v1, v2, v3, v4, v5, v6][j]? = some v → w'.cell? ⟨b, off + i * 7 + j, none⟩ = some v := fun j v hj => (World.cell?_of_block (w := w) (a := ⟨b, off + i * 7 + j, none⟩) (hb.block b hl)).trans (hc j v hj)
  exact ⟨k 0 _ rfl, k 1 _ rfl, k 2 _ rfl, k 3 _ rfl, k 4 _ rfl, k 5 _ rfl, k 6 _ rfl⟩
set_option maxHeartbeats 64000000 in
theorem law_FusePlays (a0 : Option Addr) (len0 cap0 : Nat) (x0 : List (List Value)) (W : World) (w0 : Els W 7 a0 len0 cap0 x0) (t0 : ∀ x ∈ x0, (∃ (c0 : Int) (c1 : Int) (c2 : Int) (c3 : Int) (c4 : Int) (c5 : Int) (c6 : Int), x = [.int .i32 c0, .int .i32 c1, .int .i32 c2, .int .i32 c3, .int .i32 c4, .int .i32 c5, .int .i32 c6] ∧ ((Lit.int .i32 c0).wf = true) ∧ ((Lit.int .i32 c1).wf = true) ∧ ((Lit.int .i32 c2).wf = true) ∧ ((Lit.int .i32 c3).wf = true) ∧ ((Lit.int .i32 c4).wf = true) ∧ ((Lit.int .i32 c5).wf = true) ∧ ((Lit.int .i32 c6).wf = true))) :
    Calls Tryz.prog 4 #[.slice a0 len0 cap0] W fun e w' => e = .returned (.bool true) ∧ Below W.heap.size W w' := by
  have hlen := w0.1
  have hcap := w0.2.1
  have hcm := w0.2.2.1
  have hmm : maxLen ≤ 9223372036854775807 := by decide
  by_cases hl : 100 < len0
  case pos =>
    have d1 : decide ((100 : Int) < (len0 : Int)) = true := by simp; omega
    clear hlen hl t0
    replace w0 := hid w0
    go_enter Tryz.func4, Tryz.ntmps4
    go_upto_region 0 with (fail)
    apply wp_region_seg0 (w := W) (S := [.q []]) (E := [.q0 _]) rfl (by kernel_rfl) rfl rfl
    intro th hge hne
    refine Seg.sq ?_
    refine Seg.stop (fun U1 hU hk => ?_)
    clear hk hge hne
    have sz1 := hU.size
    have hB : Below W.heap.size W U1 := hU
    clear hU
    go_upto_region 1 with (fail)
    apply wp_region_seg0 (w := U1) (S := [.q [], .q [], .q [], .q [], .q [], .q [], .q []]) (E := [.q0 _, .q0 _, .q0 _, .q0 _, .c0 _, .q0 _, .q0 _]) rfl (by kernel_rfl) rfl rfl
    intro th hge hne
    iterate 4 refine Seg.sq ?_
    refine Seg.sq ?_ (ht := Or.inr ⟨by rfl, rfl⟩)
    refine Seg.sq ?_ (ht := Or.inr ⟨by rfl, rfl⟩)
    refine Seg.sq ?_
    refine Seg.stop (fun U2 hU hk => ?_)
    clear hk hge hne
    have sz2 := hU.size
    replace hB := bthen hB hU
    clear hU
    go_upto_region 2 with (fail)
    apply wp_region_seg0 (w := U2) (S := [.q [], .q []]) (E := [.c0 _, .q0 _]) rfl (by kernel_rfl) rfl rfl
    intro th hge hne
    refine Seg.step _ rfl (Or.inl ⟨by rfl, fun U hU => ?_⟩) ?_
    · go_simp
      refine vp_call (knows42_any _)
    refine Seg.sa ?_
    refine Seg.sq ?_
    refine Seg.stop (fun U3 hU hk => ?_)
    clear hk hge hne
    have sz3 := hU.size
    replace hB := bthen hB hU
    clear hU
    go_wp2_with fail
    go_ret
    exact ⟨rfl, hB⟩
  have d1 : decide ((100 : Int) < (len0 : Int)) = false := by simp; omega
  replace hlen := hid hlen
  replace t0 := hid t0
  replace w0 := hid w0
  go_enter Tryz.func4, Tryz.ntmps4
  go_upto_region 0 with (fail)
  apply wp_region_seg0 (w := W) (S := [.q []]) (E := [.q0 _]) rfl (by kernel_rfl) rfl rfl
  intro th hge hne
  refine Seg.sq ?_
  refine Seg.stop (fun U1 hU hk => ?_)
  clear hk hge hne
  have sz1 := hU.size
  have hB : Below W.heap.size W U1 := hU
  clear hU
  go_upto_region 1 with (fail)
  apply wp_region_seg0 (w := U1) (S := [.q [], .q [], .q [], .q [], .q [], .q [], .q []]) (E := [.q0 _, .q0 _, .q0 _, .q0 _, .c0 _, .q0 _, .q0 _]) rfl (by kernel_rfl) rfl rfl
  intro th hge hne
  iterate 4 refine Seg.sq ?_
  refine Seg.step _ rfl (Or.inl ⟨by rfl, fun U hU => ?_⟩) ?_
  · go_simp
    refine vp_call (knows42_any _)
  refine Seg.sa ?_
  refine Seg.sq ?_
  refine Seg.sq ?_
  refine Seg.stop (fun U2 hU hk => ?_)
  clear hk hge hne
  have sz2 := hU.size
  replace hB := bthen hB hU
  clear hU
  go_upto_region 3 with (fail)
  apply wp_region_seg0 (w := U2) (S := [.q [], .al 2, .st 1 []]) (E := [.c0 _, .al ((fun p => .pointer (some ⟨p, 0, none⟩)), _) 2, .s0 1 (.cells _ _)]) rfl (by kernel_rfl) rfl rfl
  intro th hge hne
  refine Seg.step _ rfl (Or.inl ⟨by rfl, fun U hU => ?_⟩) ?_
  · go_simp
    refine vp_call (fstart_any _)
  refine Seg.sa ?_
  refine Seg.step _ rfl ⟨by rfl, fun U hU => ?_⟩ ?_
  · go_simp; exact vp_alloc rfl rfl rfl
  refine Seg.sa ?_
  refine Seg.step _ rfl ⟨by rfl, fun U z k hz hU hc => ?_⟩ ?_
  · have hz2 := Option.some.inj hz
    cases hz2; clear hz
    exact vp_store_agg _ _ _ rfl hc rfl rfl (by kernel_rfl) rfl (by rfl)
  refine Seg.sa ?_
  refine Seg.stop (fun U3 hU hk => ?_)
  have nb1 := hge 1 _ _ rfl
  have rb1 := (hk 1 _ 2 rfl trivial).1.1 trivial _ (Nat.zero_le _) rfl
  clear hk hge hne
  generalize th (0 + 1) = p3_1 at *
  simp only [Ent.obj] at rb1
  have r_p3_1 := rb1
  clear rb1
  have n_p3_1 := nb1
  clear nb1
  have sz3 := hU.size
  replace hB := bthen hB hU
  clear hU
  go_upto_region 4 with (fail)
  apply wp_region_seg0 (w := U3) (S := [.q [], .al 2, .st 1 []]) (E := [.c0 _, .al ((fun p => .pointer (some ⟨p, 0, none⟩)), _) 2, .s0 1 (.cells _ _)]) rfl (by kernel_rfl) rfl rfl
  intro th hge hne
  refine Seg.step _ rfl (Or.inl ⟨by rfl, fun U hU => ?_⟩) ?_
  · go_simp
    refine vp_call (rfstart_any _)
  refine Seg.sa ?_
  refine Seg.step _ rfl ⟨by rfl, fun U hU => ?_⟩ ?_
  · go_simp; exact vp_alloc rfl rfl rfl
  refine Seg.sa ?_
  refine Seg.step _ rfl ⟨by rfl, fun U z k hz hU hc => ?_⟩ ?_
  · have hz2 := Option.some.inj hz
    cases hz2; clear hz
    exact vp_store_agg _ _ _ rfl hc rfl rfl (by kernel_rfl) rfl (by rfl)
  refine Seg.sa ?_
  refine Seg.stop (fun U4 hU hk => ?_)
  have nb1 := hge 1 _ _ rfl
  have rb1 := (hk 1 _ 2 rfl trivial).1.1 trivial _ (Nat.zero_le _) rfl
  clear hk hge hne
  generalize th (0 + 1) = p4_1 at *
  simp only [Ent.obj] at rb1
  replace r_p3_1 := held_after hU r_p3_1
  have r_p4_1 := rb1
  clear rb1
  have n_p4_1 := nb1
  clear nb1
  have sz4 := hU.size
  replace hB := bthen hB hU
  clear hU
  have one : B32 1073741824 := by unfold B32; omega
  have hI : PlaysI W p3_1 p4_1 0 U4 := ⟨1073741824, 0, 0, 0, 0, 0, 0, 0, 0, ⟨one, b32_0, b32_0, b32_0⟩, ⟨b32_0, b32_0, b32_0⟩, by omega, by omega, r_p3_1, r_p4_1, hB⟩
  have sps : W.heap.size ≤ p3_1 := by omega
  have spq : W.heap.size ≤ p4_1 := by omega
  have dpq : p3_1 ≠ p4_1 := fun e => by subst e; have h9 := r_p3_1.symm.trans r_p4_1; simp at h9
  clear r_p3_1 r_p4_1 hB one
  replace sps := hid sps
  replace spq := hid spq
  replace dpq := hid dpq
  go_wp2_with fail
  go_loopw [5] (fun ix wr => ∃ i : Nat, ix = .int .i64 i ∧ i ≤ len0 ∧ PlaysI W p3_1 p4_1 i wr) (fun ix _ => len0 - (intOf ix).toNat)
  case atStart => exact ⟨0, rfl, by omega, hI⟩
  case round =>
    clear hI
    obtain ⟨i, rfl, hi, hI⟩ := hrel
    by_cases hlt : (i : Int) < len0
    case neg =>
      obtain ⟨_, _, _, _, _, _, _, _, _, -, -, -, -, -, -, hB⟩ := hI
      go_wp2_with fail
      go_ret
      exact ⟨rfl, hB⟩
    obtain ⟨q0, q1, q2, q3, b0, b1, b2, st, cu, ⟨t0q, t1q, t2q, t3q⟩, ⟨p0, p1, p2⟩, ⟨m1, m2⟩, ⟨m3, m4⟩, hs, hq, hB⟩ := hI
    have hin : i < x0.length := by rw [hlen.out]; omega
    obtain ⟨x, hx⟩ : ∃ x, x0[i]? = some x := ⟨_, List.getElem?_eq_getElem hin⟩
    obtain ⟨g0, g1, g2, a0c, a1c, a2c, d, rfl, v0, v1, v2, u0, u1, u2, ud⟩ := t0.out x (List.mem_of_getElem? hx)
    obtain ⟨bb, off, rfl, hbb, hC⟩ := els7 w0.out hx
    replace v0 := b32_42 v0
    replace v1 := b32_42 v1
    replace v2 := b32_42 v2
    replace u0 := b32_42 u0
    replace u1 := b32_42 u1
    replace u2 := b32_42 u2
    replace ud := b32_42 ud
    clear hx hin
    obtain ⟨Q0, Q1, Q2, Q3, B0, B1, B2, N, hS, ⟨o0, o1, o2, o3⟩, -, ⟨g1b, g2b, g3b, g4b, g5b, g6b⟩, n1, n2⟩ := step_form q0 q1 q2 q3 b0 b1 b2 g0 g1 g2 a0c a1c a2c d ⟨p0, p1, p2⟩
    obtain ⟨xw, ok2, hP⟩ := pack_form42 Q0 Q1 Q2 Q3
    have k1 := hid (fun U => fstep_any q0 q1 q2 q3 b0 b1 b2 g0 g1 g2 a0c a1c a2c d st cu U t0q t1q t2q t3q p0 p1 p2 v0 v1 v2 u0 u1 u2 ud m1 (by omega) m3 (by omega) Q0 Q1 Q2 Q3 B0 B1 B2 N hS)
    have k2 := hid (fun U => rfstep_any q0 q1 q2 q3 b0 b1 b2 g0 g1 g2 a0c a1c a2c d st cu U t0q t1q t2q t3q p0 p1 p2 v0 v1 v2 u0 u1 u2 ud m1 (by omega) m3 (by omega) Q0 Q1 Q2 Q3 B0 B1 B2 N hS)
    have k3 := hid (fun U => own_any42 Q0 Q1 Q2 Q3 B0 B1 B2 (st + 1) (cu + N) U)
    have k4 := hid (fun U => fword_any Q0 Q1 Q2 Q3 B0 B1 B2 (st + 1) (cu + N) xw ok2 hP U o0 o1 o2 o3)
    have k5 := hid (fun U => rfword_any Q0 Q1 Q2 Q3 B0 B1 B2 (st + 1) (cu + N) xw ok2 hP U o0 o1 o2 o3)
    have e2 := fun W => eqS9r Q0 Q1 Q2 Q3 B0 B1 B2 (st + 1) (cu + N) W
    have hbd := hid (show (B32 Q0 ∧ B32 Q1 ∧ B32 Q2 ∧ B32 Q3) ∧ (B32 B0 ∧ B32 B1 ∧ B32 B2) ∧ (0 ≤ st + 1 ∧ st + 1 ≤ (i + 1 : Nat)) ∧ (0 ≤ cu + N ∧ cu + N ≤ 29 * (i + 1 : Nat)) from ⟨⟨o0, o1, o2, o3⟩, ⟨by unfold B32; omega, by unfold B32; omega, by unfold B32; omega⟩, by omega, by omega⟩)
    have i0 : (0 : Int) ≤ i := by omega
    have wi : IntKind.i64.wrap ((i : Int) + 1) = (i : Int) + 1 := by rw [IntKind.wrap_i64]; omega
    have hi1 := hid (show i + 1 ≤ len0 by omega)
    clear hS hP t0q t1q t2q t3q p0 p1 p2 m1 m2 m3 m4 v0 v1 v2 u0 u1 u2 ud o0 o1 o2 o3 g1b g2b g3b g4b g5b g6b n1 n2 hi
    replace hC := hid hC
    replace hbb := hid hbb
    go_upto_region 8 with (fail)
    obtain ⟨c0, c1, c2, c3, c4, c5, c6⟩ := hC.out wr hB
    replace hB := hid hB
    replace hs := hid hs
    replace hq := hid hq
    refine wp_region_T none 17 (by kernel_rfl) ?_
    refine wpAnyT_take 0 rfl (by kernel_rfl) (by kernel_rfl) (by kernel_rfl) (by kernel_rfl) (fun _ _ _ _ h => h) ⟨_, Or.inl ⟨by rfl, fun w2 hb2 => by (have y0 := held_cell (hb2.held (show wr.drew.heap[p3_1]? = _ from hs.out) (by simp)) 0 _ rfl; have y1 := held_cell (hb2.held (show wr.drew.heap[p3_1]? = _ from hs.out) (by simp)) 1 _ rfl; have y2 := held_cell (hb2.held (show wr.drew.heap[p3_1]? = _ from hs.out) (by simp)) 2 _ rfl; have y3 := held_cell (hb2.held (show wr.drew.heap[p3_1]? = _ from hs.out) (by simp)) 3 _ rfl; have y4 := held_cell (hb2.held (show wr.drew.heap[p3_1]? = _ from hs.out) (by simp)) 4 _ rfl; have y5 := held_cell (hb2.held (show wr.drew.heap[p3_1]? = _ from hs.out) (by simp)) 5 _ rfl; have y6 := held_cell (hb2.held (show wr.drew.heap[p3_1]? = _ from hs.out) (by simp)) 6 _ rfl; have y7 := held_cell (hb2.held (show wr.drew.heap[p3_1]? = _ from hs.out) (by simp)) 7 _ rfl; have y8 := held_cell (hb2.held (show wr.drew.heap[p3_1]? = _ from hs.out) (by simp)) 8 _ rfl; go_simp; try with_reducible rfl)⟩, _, by (go_simp; try rfl), ?_⟩
    refine wpAnyT_take 1 rfl (by kernel_rfl) (by kernel_rfl) (by kernel_rfl) (by kernel_rfl) (fun _ _ _ _ h => h) ⟨_, Or.inl ⟨by rfl, fun w2 hb2 => by (go_simp; try with_reducible rfl)⟩, _, by (go_simp; try rfl), ?_⟩
    refine wpAnyT_take 2 rfl (by kernel_rfl) (by kernel_rfl) (by kernel_rfl) (by kernel_rfl) (fun _ _ _ _ h => h) ⟨_, Or.inl ⟨by rfl, fun w2 hb2 => by (go_simp; try with_reducible rfl)⟩, _, by (go_simp; try rfl), ?_⟩
    refine wpAnyT_take 3 rfl (by kernel_rfl) (by kernel_rfl) (by kernel_rfl) (by kernel_rfl) (fun _ _ _ _ h => h) ⟨_, Or.inl ⟨by rfl, fun w2 hb2 => by (go_simp; try with_reducible rfl)⟩, _, by (go_simp; try rfl), ?_⟩
    refine wpAnyT_take 4 rfl (by kernel_rfl) (by kernel_rfl) (by kernel_rfl) (by kernel_rfl) (fun _ _ _ _ h => h) ⟨_, Or.inl ⟨by rfl, fun w2 hb2 => by (go_simp; try with_reducible rfl)⟩, _, by (go_simp; try rfl), ?_⟩
    refine wpAnyT_take 5 rfl (by kernel_rfl) (by kernel_rfl) (by kernel_rfl) (by kernel_rfl) (fun _ _ _ _ h => h) ⟨_, Or.inl ⟨by rfl, fun w2 hb2 => by (have h0 := hb2.cell (show wr.drew.cell? _ = _ from c0) (by simp); have h1 := hb2.cell (show wr.drew.cell? _ = _ from c1) (by simp); have h2 := hb2.cell (show wr.drew.cell? _ = _ from c2) (by simp); go_simp; try with_reducible rfl)⟩, _, by (go_simp; try rfl), ?_⟩
    refine wpAnyT_take 6 rfl (by kernel_rfl) (by kernel_rfl) (by kernel_rfl) (by kernel_rfl) (fun _ _ _ _ h => h) ⟨_, Or.inl ⟨by rfl, fun w2 hb2 => by (go_simp; try with_reducible rfl)⟩, _, by (go_simp; try rfl), ?_⟩
    refine wpAnyT_take 7 rfl (by kernel_rfl) (by kernel_rfl) (by kernel_rfl) (by kernel_rfl) (fun _ _ _ _ h => h) ⟨_, Or.inl ⟨by rfl, fun w2 hb2 => by (go_simp; try with_reducible rfl)⟩, _, by (go_simp; try rfl), ?_⟩
    refine wpAnyT_take 8 rfl (by kernel_rfl) (by kernel_rfl) (by kernel_rfl) (by kernel_rfl) (fun _ _ _ _ h => h) ⟨_, Or.inl ⟨by rfl, fun w2 hb2 => by (go_simp; try with_reducible rfl)⟩, _, by (go_simp; try rfl), ?_⟩
    refine wpAnyT_take 9 rfl (by kernel_rfl) (by kernel_rfl) (by kernel_rfl) (by kernel_rfl) (fun _ _ _ _ h => h) ⟨_, Or.inl ⟨by rfl, fun w2 hb2 => by (go_simp; try with_reducible rfl)⟩, _, by (go_simp; try rfl), ?_⟩
    refine wpAnyT_take 10 rfl (by kernel_rfl) (by kernel_rfl) (by kernel_rfl) (by kernel_rfl) (fun _ _ _ _ h => h) ⟨_, Or.inl ⟨by rfl, fun w2 hb2 => by (have h3 := hb2.cell (show wr.drew.cell? _ = _ from c3) (by simp); have h4 := hb2.cell (show wr.drew.cell? _ = _ from c4) (by simp); have h5 := hb2.cell (show wr.drew.cell? _ = _ from c5) (by simp); go_simp; try with_reducible rfl)⟩, _, by (go_simp; try rfl), ?_⟩
    refine wpAnyT_take 11 rfl (by kernel_rfl) (by kernel_rfl) (by kernel_rfl) (by kernel_rfl) (fun _ _ _ _ h => h) ⟨_, Or.inl ⟨by rfl, fun w2 hb2 => by (go_simp; try with_reducible rfl)⟩, _, by (go_simp; try rfl), ?_⟩
    refine wpAnyT_take 12 rfl (by kernel_rfl) (by kernel_rfl) (by kernel_rfl) (by kernel_rfl) (fun _ _ _ _ h => h) ⟨_, Or.inl ⟨by rfl, fun w2 hb2 => by (go_simp; try with_reducible rfl)⟩, _, by (go_simp; try rfl), ?_⟩
    refine wpAnyT_take 13 rfl (by kernel_rfl) (by kernel_rfl) (by kernel_rfl) (by kernel_rfl) (fun _ _ _ _ h => h) ⟨_, Or.inl ⟨by rfl, fun w2 hb2 => by (go_simp; try with_reducible rfl)⟩, _, by (go_simp; try rfl), ?_⟩
    refine wpAnyT_take 14 rfl (by kernel_rfl) (by kernel_rfl) (by kernel_rfl) (by kernel_rfl) (fun _ _ _ _ h => h) ⟨_, Or.inl ⟨by rfl, fun w2 hb2 => by (go_simp; try with_reducible rfl)⟩, _, by (go_simp; try rfl), ?_⟩
    refine wpAnyT_take 15 rfl (by kernel_rfl) (by kernel_rfl) (by kernel_rfl) (by kernel_rfl) (fun _ _ _ _ h => h) ⟨_, Or.inl ⟨by rfl, fun w2 hb2 => by (have h6 := hb2.cell (show wr.drew.cell? _ = _ from c6) (by simp); go_simp; try with_reducible rfl)⟩, _, by (go_simp; try rfl), ?_⟩
    refine wpAnyT_only 16 rfl (by kernel_rfl) (by rfl) (fun K hK => ?_)
    go_simp
    refine (k1.out _).mono ?_
    rintro r U8 ⟨rfl, hA⟩
    have hx := held_after hA (show wr.drew.heap[p3_1]? = _ from hs.out)
    have ho := hid (held_after hA (show wr.drew.heap[p4_1]? = _ from hq.out))
    have hB2 := hid (bthen hB.out.drew hA)
    refine hK _ _ ⟨fun _ => rx_after42 hA, ?_⟩
    clear hK
    clear hA c0 c1 c2 c3 c4 c5 c6
    have z0 := held_cell hx 0 _ rfl
    have z1 := held_cell hx 1 _ rfl
    have z2 := held_cell hx 2 _ rfl
    have z3 := held_cell hx 3 _ rfl
    have z4 := held_cell hx 4 _ rfl
    have z5 := held_cell hx 5 _ rfl
    have z6 := held_cell hx 6 _ rfl
    have z7 := held_cell hx 7 _ rfl
    have z8 := held_cell hx 8 _ rfl
    have f0 := held_free hx 0
    have f1 := held_free hx 1
    have f2 := held_free hx 2
    have f3 := held_free hx 3
    have f4 := held_free hx 4
    have f5 := held_free hx 5
    have f6 := held_free hx 6
    have f7 := held_free hx 7
    have f8 := held_free hx 8
    obtain ⟨W8, hW8, y9, o9⟩ := st9 hx (.int .i32 Q0) (.int .i32 Q1) (.int .i32 Q2) (.int .i32 Q3) (.int .i32 B0) (.int .i32 B1) (.int .i32 B2) (.int .i64 (st + 1)) (.int .i64 (cu + N))
    have hB9 := hid (belowS hB2.out o9 sps.out)
    have ho9 := hid ((o9.block _ (Ne.symm dpq.out)).trans ho.out)
    replace y9 := hid y9
    clear o9 hx ho hB2 hB hs hq
    refine wpAnyT_only 17 rfl (by kernel_rfl) (by rfl) (fun K hK => ?_)
    go_simp
    refine hK _ _ ⟨fun h => (h rfl).elim, ?_⟩
    clear hK
    refine wpAnyT_done (by kernel_rfl) ?_ _
    go_upto_region 9 with (fail)
    clear z0
    clear z1
    clear z2
    clear z3
    clear z4
    clear z5
    clear z6
    clear z7
    clear z8
    clear f0
    clear f1
    clear f2
    clear f3
    clear f4
    clear f5
    clear f6
    clear f7
    clear f8
    clear hW8
    have hB := hB9.out
    have hs := y9.out
    have hq := ho9.out
    clear hB9 y9 ho9
    obtain ⟨c0, c1, c2, c3, c4, c5, c6⟩ := hC.out W8 hB
    replace hB := hid hB
    replace hq := hid hq
    replace hs := hid hs
    refine wp_region_T none 17 (by kernel_rfl) ?_
    refine wpAnyT_take 0 rfl (by kernel_rfl) (by kernel_rfl) (by kernel_rfl) (by kernel_rfl) (fun _ _ _ _ h => h) ⟨_, Or.inl ⟨by rfl, fun w2 hb2 => by (have y0 := held_cell (hb2.held (show W8.drew.heap[p4_1]? = _ from hq.out) (by simp)) 0 _ rfl; have y1 := held_cell (hb2.held (show W8.drew.heap[p4_1]? = _ from hq.out) (by simp)) 1 _ rfl; have y2 := held_cell (hb2.held (show W8.drew.heap[p4_1]? = _ from hq.out) (by simp)) 2 _ rfl; have y3 := held_cell (hb2.held (show W8.drew.heap[p4_1]? = _ from hq.out) (by simp)) 3 _ rfl; have y4 := held_cell (hb2.held (show W8.drew.heap[p4_1]? = _ from hq.out) (by simp)) 4 _ rfl; have y5 := held_cell (hb2.held (show W8.drew.heap[p4_1]? = _ from hq.out) (by simp)) 5 _ rfl; have y6 := held_cell (hb2.held (show W8.drew.heap[p4_1]? = _ from hq.out) (by simp)) 6 _ rfl; have y7 := held_cell (hb2.held (show W8.drew.heap[p4_1]? = _ from hq.out) (by simp)) 7 _ rfl; have y8 := held_cell (hb2.held (show W8.drew.heap[p4_1]? = _ from hq.out) (by simp)) 8 _ rfl; go_simp; try with_reducible rfl)⟩, _, by (go_simp; try rfl), ?_⟩
    refine wpAnyT_take 1 rfl (by kernel_rfl) (by kernel_rfl) (by kernel_rfl) (by kernel_rfl) (fun _ _ _ _ h => h) ⟨_, Or.inl ⟨by rfl, fun w2 hb2 => by (go_simp; try with_reducible rfl)⟩, _, by (go_simp; try rfl), ?_⟩
    refine wpAnyT_take 2 rfl (by kernel_rfl) (by kernel_rfl) (by kernel_rfl) (by kernel_rfl) (fun _ _ _ _ h => h) ⟨_, Or.inl ⟨by rfl, fun w2 hb2 => by (go_simp; try with_reducible rfl)⟩, _, by (go_simp; try rfl), ?_⟩
    refine wpAnyT_take 3 rfl (by kernel_rfl) (by kernel_rfl) (by kernel_rfl) (by kernel_rfl) (fun _ _ _ _ h => h) ⟨_, Or.inl ⟨by rfl, fun w2 hb2 => by (go_simp; try with_reducible rfl)⟩, _, by (go_simp; try rfl), ?_⟩
    refine wpAnyT_take 4 rfl (by kernel_rfl) (by kernel_rfl) (by kernel_rfl) (by kernel_rfl) (fun _ _ _ _ h => h) ⟨_, Or.inl ⟨by rfl, fun w2 hb2 => by (go_simp; try with_reducible rfl)⟩, _, by (go_simp; try rfl), ?_⟩
    refine wpAnyT_take 5 rfl (by kernel_rfl) (by kernel_rfl) (by kernel_rfl) (by kernel_rfl) (fun _ _ _ _ h => h) ⟨_, Or.inl ⟨by rfl, fun w2 hb2 => by (have h0 := hb2.cell (show W8.drew.cell? _ = _ from c0) (by simp); have h1 := hb2.cell (show W8.drew.cell? _ = _ from c1) (by simp); have h2 := hb2.cell (show W8.drew.cell? _ = _ from c2) (by simp); go_simp; try with_reducible rfl)⟩, _, by (go_simp; try rfl), ?_⟩
    refine wpAnyT_take 6 rfl (by kernel_rfl) (by kernel_rfl) (by kernel_rfl) (by kernel_rfl) (fun _ _ _ _ h => h) ⟨_, Or.inl ⟨by rfl, fun w2 hb2 => by (go_simp; try with_reducible rfl)⟩, _, by (go_simp; try rfl), ?_⟩
    refine wpAnyT_take 7 rfl (by kernel_rfl) (by kernel_rfl) (by kernel_rfl) (by kernel_rfl) (fun _ _ _ _ h => h) ⟨_, Or.inl ⟨by rfl, fun w2 hb2 => by (go_simp; try with_reducible rfl)⟩, _, by (go_simp; try rfl), ?_⟩
    refine wpAnyT_take 8 rfl (by kernel_rfl) (by kernel_rfl) (by kernel_rfl) (by kernel_rfl) (fun _ _ _ _ h => h) ⟨_, Or.inl ⟨by rfl, fun w2 hb2 => by (go_simp; try with_reducible rfl)⟩, _, by (go_simp; try rfl), ?_⟩
    refine wpAnyT_take 9 rfl (by kernel_rfl) (by kernel_rfl) (by kernel_rfl) (by kernel_rfl) (fun _ _ _ _ h => h) ⟨_, Or.inl ⟨by rfl, fun w2 hb2 => by (go_simp; try with_reducible rfl)⟩, _, by (go_simp; try rfl), ?_⟩
    refine wpAnyT_take 10 rfl (by kernel_rfl) (by kernel_rfl) (by kernel_rfl) (by kernel_rfl) (fun _ _ _ _ h => h) ⟨_, Or.inl ⟨by rfl, fun w2 hb2 => by (have h3 := hb2.cell (show W8.drew.cell? _ = _ from c3) (by simp); have h4 := hb2.cell (show W8.drew.cell? _ = _ from c4) (by simp); have h5 := hb2.cell (show W8.drew.cell? _ = _ from c5) (by simp); go_simp; try with_reducible rfl)⟩, _, by (go_simp; try rfl), ?_⟩
    refine wpAnyT_take 11 rfl (by kernel_rfl) (by kernel_rfl) (by kernel_rfl) (by kernel_rfl) (fun _ _ _ _ h => h) ⟨_, Or.inl ⟨by rfl, fun w2 hb2 => by (go_simp; try with_reducible rfl)⟩, _, by (go_simp; try rfl), ?_⟩
    refine wpAnyT_take 12 rfl (by kernel_rfl) (by kernel_rfl) (by kernel_rfl) (by kernel_rfl) (fun _ _ _ _ h => h) ⟨_, Or.inl ⟨by rfl, fun w2 hb2 => by (go_simp; try with_reducible rfl)⟩, _, by (go_simp; try rfl), ?_⟩
    refine wpAnyT_take 13 rfl (by kernel_rfl) (by kernel_rfl) (by kernel_rfl) (by kernel_rfl) (fun _ _ _ _ h => h) ⟨_, Or.inl ⟨by rfl, fun w2 hb2 => by (go_simp; try with_reducible rfl)⟩, _, by (go_simp; try rfl), ?_⟩
    refine wpAnyT_take 14 rfl (by kernel_rfl) (by kernel_rfl) (by kernel_rfl) (by kernel_rfl) (fun _ _ _ _ h => h) ⟨_, Or.inl ⟨by rfl, fun w2 hb2 => by (go_simp; try with_reducible rfl)⟩, _, by (go_simp; try rfl), ?_⟩
    refine wpAnyT_take 15 rfl (by kernel_rfl) (by kernel_rfl) (by kernel_rfl) (by kernel_rfl) (fun _ _ _ _ h => h) ⟨_, Or.inl ⟨by rfl, fun w2 hb2 => by (have h6 := hb2.cell (show W8.drew.cell? _ = _ from c6) (by simp); go_simp; try with_reducible rfl)⟩, _, by (go_simp; try rfl), ?_⟩
    refine wpAnyT_only 16 rfl (by kernel_rfl) (by rfl) (fun K hK => ?_)
    go_simp
    refine (k2.out _).mono ?_
    rintro r U9 ⟨rfl, hA⟩
    have hx := held_after hA (show W8.drew.heap[p4_1]? = _ from hq.out)
    have ho := hid (held_after hA (show W8.drew.heap[p3_1]? = _ from hs.out))
    have hB2 := hid (bthen hB.out.drew hA)
    refine hK _ _ ⟨fun _ => rx_after42 hA, ?_⟩
    clear hK
    clear hA c0 c1 c2 c3 c4 c5 c6
    have z0 := held_cell hx 0 _ rfl
    have z1 := held_cell hx 1 _ rfl
    have z2 := held_cell hx 2 _ rfl
    have z3 := held_cell hx 3 _ rfl
    have z4 := held_cell hx 4 _ rfl
    have z5 := held_cell hx 5 _ rfl
    have z6 := held_cell hx 6 _ rfl
    have z7 := held_cell hx 7 _ rfl
    have z8 := held_cell hx 8 _ rfl
    have f0 := held_free hx 0
    have f1 := held_free hx 1
    have f2 := held_free hx 2
    have f3 := held_free hx 3
    have f4 := held_free hx 4
    have f5 := held_free hx 5
    have f6 := held_free hx 6
    have f7 := held_free hx 7
    have f8 := held_free hx 8
    obtain ⟨W9, hW9, y9, o9⟩ := st9 hx (.int .i32 Q0) (.int .i32 Q1) (.int .i32 Q2) (.int .i32 Q3) (.int .i32 B0) (.int .i32 B1) (.int .i32 B2) (.int .i64 (st + 1)) (.int .i64 (cu + N))
    have hB9 := hid (belowS hB2.out o9 spq.out)
    have ho9 := hid ((o9.block _ dpq.out).trans ho.out)
    replace y9 := hid y9
    clear o9 hx ho hB2 hB hs hq
    refine wpAnyT_only 17 rfl (by kernel_rfl) (by rfl) (fun K hK => ?_)
    go_simp
    refine hK _ _ ⟨fun h => (h rfl).elim, ?_⟩
    clear hK
    refine wpAnyT_done (by kernel_rfl) ?_ _
    go_upto_region 10 with (fail)
    clear z0
    clear z1
    clear z2
    clear z3
    clear z4
    clear z5
    clear z6
    clear z7
    clear z8
    clear f0
    clear f1
    clear f2
    clear f3
    clear f4
    clear f5
    clear f6
    clear f7
    clear f8
    clear hW9
    have hB := hB9.out
    have hq := y9.out
    have hs := ho9.out
    clear hB9 y9 ho9
    apply wp_region_seg (w := W9) (S := [.q [], .q [], .q [], .q [], .q [], .q [], .q [], .q [], .q [], .q [], .q []]) (E := [.q0 _, .c0 _, .q0 _, .q0 _, .q0 _, .q0 _, .c0 _, .q0 _, .c0 _, .q0 _, .q0 _]) (by kernel_rfl) rfl (by kernel_rfl) rfl rfl
    intro th hge hne
    refine Seg.sq ?_ (ht := Or.inl ⟨by rfl, fun U hU => vp_quiet (by (have h0 := held_cell (held_after hU.1 hs) 0 _ rfl; have h1 := held_cell (held_after hU.1 hs) 1 _ rfl; have h2 := held_cell (held_after hU.1 hs) 2 _ rfl; have h3 := held_cell (held_after hU.1 hs) 3 _ rfl; have h4 := held_cell (held_after hU.1 hs) 4 _ rfl; have h5 := held_cell (held_after hU.1 hs) 5 _ rfl; have h6 := held_cell (held_after hU.1 hs) 6 _ rfl; have h7 := held_cell (held_after hU.1 hs) 7 _ rfl; have h8 := held_cell (held_after hU.1 hs) 8 _ rfl; go_simp <;> exact rfl))⟩)
    refine Seg.step _ rfl (Or.inl ⟨by rfl, fun U hU => ?_⟩) ?_
    · go_simp
      refine vp_call (k3.out _)
    refine Seg.sa ?_
    refine Seg.sq ?_ (ht := Or.inl ⟨by rfl, fun U hU => vp_quiet (by (have h0 := held_cell (held_after hU.1 hq) 0 _ rfl; have h1 := held_cell (held_after hU.1 hq) 1 _ rfl; have h2 := held_cell (held_after hU.1 hq) 2 _ rfl; have h3 := held_cell (held_after hU.1 hq) 3 _ rfl; have h4 := held_cell (held_after hU.1 hq) 4 _ rfl; have h5 := held_cell (held_after hU.1 hq) 5 _ rfl; have h6 := held_cell (held_after hU.1 hq) 6 _ rfl; have h7 := held_cell (held_after hU.1 hq) 7 _ rfl; have h8 := held_cell (held_after hU.1 hq) 8 _ rfl; go_simp <;> exact rfl))⟩)
    refine Seg.sq ?_
    refine Seg.sq ?_
    refine Seg.sq ?_ (ht := Or.inl ⟨by rfl, fun U hU => vp_quiet (by (have h0 := held_cell (held_after hU.1 hs) 0 _ rfl; have h1 := held_cell (held_after hU.1 hs) 1 _ rfl; have h2 := held_cell (held_after hU.1 hs) 2 _ rfl; have h3 := held_cell (held_after hU.1 hs) 3 _ rfl; have h4 := held_cell (held_after hU.1 hs) 4 _ rfl; have h5 := held_cell (held_after hU.1 hs) 5 _ rfl; have h6 := held_cell (held_after hU.1 hs) 6 _ rfl; have h7 := held_cell (held_after hU.1 hs) 7 _ rfl; have h8 := held_cell (held_after hU.1 hs) 8 _ rfl; go_simp <;> exact rfl))⟩)
    refine Seg.step _ rfl (Or.inl ⟨by rfl, fun U hU => ?_⟩) ?_
    · go_simp
      refine vp_call (k4.out _)
    refine Seg.sa ?_
    refine Seg.sq ?_ (ht := Or.inl ⟨by rfl, fun U hU => vp_quiet (by (have h0 := held_cell (held_after hU.1 hq) 0 _ rfl; have h1 := held_cell (held_after hU.1 hq) 1 _ rfl; have h2 := held_cell (held_after hU.1 hq) 2 _ rfl; have h3 := held_cell (held_after hU.1 hq) 3 _ rfl; have h4 := held_cell (held_after hU.1 hq) 4 _ rfl; have h5 := held_cell (held_after hU.1 hq) 5 _ rfl; have h6 := held_cell (held_after hU.1 hq) 6 _ rfl; have h7 := held_cell (held_after hU.1 hq) 7 _ rfl; have h8 := held_cell (held_after hU.1 hq) 8 _ rfl; go_simp <;> exact rfl))⟩)
    refine Seg.step _ rfl (Or.inl ⟨by rfl, fun U hU => ?_⟩) ?_
    · go_simp
      refine vp_call (k5.out _)
    refine Seg.sa ?_
    refine Seg.sq ?_
    refine Seg.sq ?_
    refine Seg.stop (fun U51 hU hk => ?_)
    clear hk hge hne
    replace hs := held_after hU hs
    replace hq := held_after hU hq
    have sz51 := hU.size
    replace hB := bthen hB hU
    clear hU
    go_wp2_with fail
    go_roundw
    case rel => exact ⟨i + 1, by simp, hi1.out, Q0, Q1, Q2, Q3, B0, B1, B2, st + 1, cu + N, hbd.out.1, hbd.out.2.1, hbd.out.2.2.1, hbd.out.2.2.2, hs, hq, hB⟩
    case measure => simp [intOf]; omega
end Go.Proofs.YtpdpcdifnlellaaGreat
