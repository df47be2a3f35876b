/- Package flog: the papers' Flush. -/
import Derived.Test.YtkpncailoekjpaaFlog4
import Derived.Deep.DeepCutAuto
namespace Go.Proofs.Ytkpncailoekjpaa
open Go.ChangeShapes Go.WideShapes Go.ChangeAt Go.RowKit
set_option linter.unusedVariables false
set_option linter.unusedSimpArgs false

theorem st4w {U : World} {p : Nat} {v0 v1 v2 v3 : Value} {T : TypeId} (h : U.heap[p]? = some (.cells #[v0, v1, v2, v3] T (0, 0))) (u0 u1 u2 u3 : Value) :
    ∃ W2, ((((U.setCell ⟨p, 0, none⟩ u0).setCell ⟨p, 1, none⟩ u1).setCell ⟨p, 2, none⟩ u2).setCell ⟨p, 3, none⟩ u3) = W2 ∧ W2.heap[p]? = some (.cells #[u0, u1, u2, u3] T (0, 0)) ∧ Only p U W2 := by
  have h0 : (U.setCell ⟨p, 0, none⟩ u0).heap[p]? = some (.cells #[u0, v1, v2, v3] T (0, 0)) := held_set h 0 u0
  have o0 : Only p U (U.setCell ⟨p, 0, none⟩ u0) := Only.set p 0 u0 U
  obtain ⟨W0, hW0⟩ : ∃ W, (U.setCell ⟨p, 0, none⟩ u0) = W := ⟨_, rfl⟩
  rw [hW0] at h0 o0 ⊢
  have h1 : (W0.setCell ⟨p, 1, none⟩ u1).heap[p]? = some (.cells #[u0, u1, v2, v3] T (0, 0)) := held_set h0 1 u1
  have o1 : Only p U (W0.setCell ⟨p, 1, none⟩ u1) := putS o0 1 u1
  obtain ⟨W1, hW1⟩ : ∃ W, (W0.setCell ⟨p, 1, none⟩ u1) = W := ⟨_, rfl⟩
  rw [hW1] at h1 o1 ⊢
  have h2 : (W1.setCell ⟨p, 2, none⟩ u2).heap[p]? = some (.cells #[u0, u1, u2, v3] T (0, 0)) := held_set h1 2 u2
  have o2 : Only p U (W1.setCell ⟨p, 2, none⟩ u2) := putS o1 2 u2
  obtain ⟨W2, hW2⟩ : ∃ W, (W1.setCell ⟨p, 2, none⟩ u2) = W := ⟨_, rfl⟩
  rw [hW2] at h2 o2 ⊢
  have h3 : (W2.setCell ⟨p, 3, none⟩ u3).heap[p]? = some (.cells #[u0, u1, u2, u3] T (0, 0)) := held_set h2 3 u3
  have o3 : Only p U (W2.setCell ⟨p, 3, none⟩ u3) := putS o2 3 u3
  obtain ⟨W3, hW3⟩ : ∃ W, (W2.setCell ⟨p, 3, none⟩ u3) = W := ⟨_, rfl⟩
  rw [hW3] at h3 o3 ⊢
  exact ⟨_, rfl, h3, o3⟩
def EtAt (w : World) (a : Option Addr) : Prop := ∀ q, a = some q → ∃ cs, w.heap[q.block]? = some (.cells cs 57 (0, 0))
theorem et_aft {w w2 : World} {a : Option Addr} (h : EtAt w a) (hA : After w w2) : EtAt w2 a := fun q e => by
  obtain ⟨cs, hc⟩ := h q e
  exact ⟨cs, held_after hA hc⟩
theorem et_only {w w2 : World} {p : Nat} {a : Option Addr} (h : EtAt w a) (ho : Only p w w2) (hp : ∀ q, a = some q → q.block ≠ p) : EtAt w2 a := fun q e => by
  obtain ⟨cs, hc⟩ := h q e
  exact ⟨cs, held_only ho (hp q e) hc⟩
theorem et_own {w : World} {base m n c k : Nat} {a : Option Addr} {xs : List Value} (h : OwnE 57 w base m (.slice a n c) k xs) : EtAt w a := fun q e => by
  subst e
  obtain ⟨_, _, cs, hc⟩ := h.lt q.block rfl
  exact ⟨cs, hc⟩
def RfOk (ev : Nat) (a : Option Addr) (w : World) (r : List Int × FSt) (e : Ending) (w' : World) : Prop := ∃ a' c' ta tc, e = .returned (.tuple #[.agg #[.int .i64 (ev : Int), .slice a' r.2.1.length c', .int .i64 (r.2.2.1 : Nat), .int .i64 (r.2.2.2 : Nat)], .slice ta r.1.length tc]) ∧ Els w' 14 a' r.2.1.length c' (entsV r.2.1) ∧ Own .u8 5 w' w.heap.size (.slice ta r.1.length tc) r.1 ∧ After w w' ∧ (∀ p, a' = some p → a = some p ∨ w.heap.size ≤ p.block) ∧ (EtAt w a → EtAt w' a')
theorem els_only {w w2 : World} {m len cap p : Nat} {a : Option Addr} {xs : List (List Value)} (h : Els w m a len cap xs) (ho : Only p w w2) (hp : ∀ q, a = some q → q.block ≠ p) : Els w2 m a len cap xs :=
  ⟨h.1, h.2.1, h.2.2.1, h.2.2.2.1, fun i x hx => by
    obtain ⟨h1, b, off, e, hc⟩ := h.2.2.2.2 i x hx
    exact ⟨h1, b, off, e, fun j v hj => (World.cell?_of_block (w := w) (ho.block b (hp _ e))).trans (hc j v hj)⟩⟩
set_option maxRecDepth 100000 in
set_option maxHeartbeats 8000000 in
theorem rflush_any (ev : Nat) (s : FSt) (a : Option Addr) (cap : Nat) (w : World) (hE : Els w 14 a s.1.length cap (entsV s.1)) (ha : ∀ p, a = some p → p.block < w.heap.size) (hF : FOk s) (hb : s.2.2 ≤ 1000000) : Calls Try.prog 10 #[.agg #[.int .i64 (ev : Int), .slice a s.1.length cap, .int .i64 (s.2.1 : Nat), .int .i64 (s.2.2 : Nat)]] w (RfOk ev a w (flushS s)) := by
  have hfew := fok_few hF
  have hlo := hid hF.2.2
  go_enter Try.func10, Try.ntmps10
  go_upto_region 0 with (fail)
  apply wp_region_seg0 (w := w) (S := [.al 1000, .al 1000, .q []]) (E := [.al ((fun p => .pointer (some ⟨p, 0, none⟩)), _) 1000, .al ((fun p => .pointer (some ⟨p, 0, none⟩)), _) 1000, .q0 _]) rfl (by kernel_rfl) rfl rfl
  intro th hge hne
  refine Seg.step _ rfl ⟨by rfl, fun U hU => ?_⟩ ?_
  · go_simp; exact vp_alloc rfl rfl rfl
  refine ⟨_, by (simp only [Ent.val]; go_simp <;> exact rfl), ?_⟩
  refine Seg.step _ rfl ⟨by rfl, fun U hU => ?_⟩ ?_
  · go_simp; exact vp_alloc rfl rfl rfl
  refine ⟨_, by (simp only [Ent.val]; go_simp <;> exact rfl), ?_⟩
  refine Seg.step _ rfl (Or.inl ⟨by rfl, fun U hU => vp_quiet (by (go_simp <;> exact rfl))⟩) ⟨_, by (simp only [Ent.val]; go_simp <;> exact rfl), ?_⟩
  refine Seg.stop (fun U1 hU hk => ?_)
  have nb0 := hge 0 _ _ rfl
  have rb0 := (hk 0 _ _ rfl trivial).1.2 (by simp)
  have nb1 := hge 1 _ _ rfl
  have rb1 := (hk 1 _ _ rfl trivial).1.2 (by simp)
  have ne0_1 := hne 0 1 _ _ _ _ rfl rfl (by omega)
  clear hk hge hne
  generalize th (0 + 0) = p0_0 at *
  dsimp only at rb0
  generalize th (0 + 1) = p0_1 at *
  dsimp only at rb1
  have r_p0_0 := rb0
  clear rb0
  have n_p0_0 := nb0
  clear nb0
  have d_p0_0_p0_1 := ne0_1
  clear ne0_1
  have r_p0_1 := rb1
  clear rb1
  have n_p0_1 := nb1
  clear nb1
  have sz1 := hU.size
  have hB : Below w.heap.size w U1 := hU
  clear hU
  have np := n_p0_0
  have np1 := n_p0_1
  have d01 : p0_0 ≠ p0_1 := d_p0_0_p0_1
  have hE1 := hE.below hB
  have hBh := hid hB
  obtain ⟨l, rc, bk⟩ := s
  by_cases hl : l = []
  case pos =>
    subst hl
    have hEz := hE
    rw [show flushS (([], rc, bk) : FSt) = ([], ([], rc, bk)) from rfl]
    have rb : U1.heap[p0_0]? = some (.cells #[.int .i64 (ev : Int), .slice a 0 cap, .int .i64 (rc : Nat), .int .i64 (bk : Nat)] 28 (0, 0)) := r_p0_0
    have y0 := held_cell rb 0 _ rfl
    have y1 := held_cell rb 1 _ rfl
    have y2 := held_cell rb 2 _ rfl
    have y3 := held_cell rb 3 _ rfl
    have z0 := held_cell r_p0_1 0 _ rfl
    have z1 := held_cell r_p0_1 1 _ rfl
    have z2 := held_cell r_p0_1 2 _ rfl
    have z3 := held_cell r_p0_1 3 _ rfl
    have g0 := held_free r_p0_1 0
    have g1 := held_free r_p0_1 1
    have g2 := held_free r_p0_1 2
    have g3 := held_free r_p0_1 3
    obtain ⟨W9, hW9, ya, yO⟩ := st4w r_p0_1 (.int .i64 (ev : Int)) (.slice a 0 cap) (.int .i64 (rc : Nat)) (.int .i64 (bk : Nat))
    have hB9 := hid (belowS hB yO np1)
    have hE9 := hid (els_only hE1 yO (fun q e => by have := ha q e; omega))
    have ez0 := held_cell ya 0 _ rfl
    have ez1 := held_cell ya 1 _ rfl
    have ez2 := held_cell ya 2 _ rfl
    have ez3 := held_cell ya 3 _ rfl
    clear yO ya rb r_p0_0 r_p0_1 hE hE1 hEz hB
    go_wp2_with fail
    refine bodyPost_ret (v := .tuple #[.agg #[.int .i64 (ev : Int), .slice a 0 cap, .int .i64 (rc : Nat), .int .i64 (bk : Nat)], .slice none 0 0]) (by simp [results, Try.results10, go_sem, ez0, ez1, ez2, ez3]) rfl ⟨a, cap, none, 0, rfl, hE9.out, Own.nil _ _ _ _, hB9.out, fun p e => .inl e, fun h => et_aft h hB9.out⟩
  obtain ⟨e1, e2⟩ := flush_some hF hl
  dsimp only at e1 e2 hb hfew hlo hE1 r_p0_0
  have kP := hid (fun U (h : Els U 14 a l.length cap (entsV l)) => rbput_any bk a l.length cap l U (by omega) rfl h (by omega) hlo.out)
  rw [e1] at kP
  have e3 : (flushS (l, rc, bk)).2 = ([], rc, bk + 1) := by rw [e2]
  obtain ⟨r, hr⟩ : ∃ r, flushS (l, rc, bk) = r := ⟨_, rfl⟩
  rw [hr] at kP e3 ⊢
  obtain ⟨T, s2⟩ := r
  dsimp only at kP e3
  subst e3
  have hr9 := hr
  have hle : ((l.length : Int) == 0) = false := by have : l.length ≠ 0 := fun e => hl (List.eq_nil_of_length_eq_zero e); exact beq_false_of_ne (by omega)
  clear hr e1 e2 hF hl
  obtain ⟨n, hn⟩ : ∃ n, l.length = n := ⟨_, rfl⟩
  rw [hn] at r_p0_0 hE1 kP hfew hle
  replace hn := hid hn
  obtain ⟨bk2, hbk2⟩ : ∃ z, bk + 1 = z := ⟨_, rfl⟩
  rw [hbk2] at hr9
  try rw [hbk2]
  replace hr9 := hid hr9
  have wk : IntKind.i64.wrap ((bk : Int) + 1) = (bk2 : Int) := by rw [IntKind.wrap_i64]; omega
  have wb : IntKind.u32.wrap (bk : Int) = (bk : Int) := by rw [IntKind.wrap_u32]; omega
  replace hbk2 := hid hbk2
  have y0 := held_cell r_p0_0 0 _ rfl
  have y1 := held_cell r_p0_0 1 _ rfl
  have y2 := held_cell r_p0_0 2 _ rfl
  have y3 := held_cell r_p0_0 3 _ rfl
  have s1 := hB.size
  go_wp2_with fail
  refine (kP.out _ hE1).mono ?_
  rintro e V1 ⟨ta, tc, rfl, hO, hA⟩
  dsimp only at hO ⊢
  have r1 := held_after hA r_p0_0
  have q1 := held_after hA r_p0_1
  have hB1 := bthen hB hA
  clear hA hB hBh kP hE1 r_p0_0 r_p0_1 hE y0 y1 y2 y3
  have z1 := held_cell r1 1 _ rfl
  have f1 := held_free r1 1
  obtain ⟨S1, hS1, t1, o1⟩ := st1 r1 1 (.slice none 0 0)
  have t1b := (show S1.heap[p0_0]? = some (.cells #[.int .i64 (ev : Int), .slice none 0 0, .int .i64 (rc : Nat), .int .i64 (bk : Nat)] 28 (0, 0)) from t1)
  have z3 := held_cell t1b 3 _ rfl
  have f3 := held_free t1b 3
  obtain ⟨S2, hS2, t2, o2⟩ := st1 t1b 3 (.int .i64 (bk2 : Int))
  have t2b := (show S2.heap[p0_0]? = some (.cells #[.int .i64 (ev : Int), .slice none 0 0, .int .i64 (rc : Nat), .int .i64 (bk2 : Nat)] 28 (0, 0)) from t2)
  have q2 := held_only o2 (fun e => d01 e.symm) (held_only o1 (fun e => d01 e.symm) q1)
  have hB2 := belowS (belowS hB1 o1 np) o2 np
  have hO2 := ((hO.base s1).kept2 r1 (by decide) o1).kept2 t1b (by decide) o2
  have x0 := held_cell t2b 0 _ rfl
  have x1 := held_cell t2b 1 _ rfl
  have x2 := held_cell t2b 2 _ rfl
  have x3 := held_cell t2b 3 _ rfl
  have u0 := held_cell q2 0 _ rfl
  have u1 := held_cell q2 1 _ rfl
  have u2 := held_cell q2 2 _ rfl
  have u3 := held_cell q2 3 _ rfl
  have g0 := held_free q2 0
  have g1 := held_free q2 1
  have g2 := held_free q2 2
  have g3 := held_free q2 3
  obtain ⟨W9, hW9, ya, yO⟩ := st4w q2 (.int .i64 (ev : Int)) (.slice none 0 0) (.int .i64 (rc : Nat)) (.int .i64 (bk2 : Nat))
  have hB9 := hid (belowS hB2 yO np1)
  have hO9 := hid (hO2.kept2 q2 (by decide) yO)
  have ez0 := held_cell ya 0 _ rfl
  have ez1 := held_cell ya 1 _ rfl
  have ez2 := held_cell ya 2 _ rfl
  have ez3 := held_cell ya 3 _ rfl
  clear yO ya t1 t1b t2 t2b o1 o2 q1 q2 r1 hO hO2 hB1 hB2
  go_wp2_with fail
  refine bodyPost_ret (v := .tuple #[.agg #[.int .i64 (ev : Int), .slice none 0 0, .int .i64 (rc : Nat), .int .i64 (bk2 : Nat)], .slice ta T.length tc]) (by simp [results, Try.results10, go_sem, ez0, ez1, ez2, ez3]) rfl ?_
  rw [hr9.out]
  exact ⟨none, 0, ta, tc, rfl, Els.nil _ _, hO9.out, hB9.out, (fun p e => by cases e), fun h q e => by cases e⟩

end Go.Proofs.Ytkpncailoekjpaa
