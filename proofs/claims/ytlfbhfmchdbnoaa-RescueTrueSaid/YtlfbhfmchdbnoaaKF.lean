/- Several texts in one: Flog, Flog2, Flog3, Flog4, Flog5, Flog6, Flog7. -/
import Derived.Test.YtlfbhfmchdbnoaaKN
import Derived.Test.YtlfbhfmchdbnoaaEls
import Derived.Test.YtlfbhfmchdbnoaaKB
import Derived.Test.YtlfbhfmchdbnoaaBlk10
import Derived.Deep.DeepCutAuto
import Derived.Test.YtlfbhfmchdbnoaaBlk7
import Derived.Test.YtlfbhfmchdbnoaaBlkM
import Derived.Test.YtlfbhfmchdbnoaaKL

/- Package flog: the small methods. -/
namespace Go.Proofs.Ytlfbhfmchdbnoaa
open Go.ChangeShapes Go.WideShapes Go.ChangeAt Go.RowKit
set_option linter.unusedVariables false
set_option linter.unusedSimpArgs false

def Lw (B B0 : Nat) (w w' : World) : Prop := Below B0 w w' ∧ Owp B 1 w w'
theorem rem_is {a b : Nat} (hb : 0 < b) : (Int.tmod (a : Int) (b : Int) == 0) = decide (a % b = 0) := by
  have e : Int.tmod (a : Int) (b : Int) = ((a % b : Nat) : Int) := by
    rw [Int.tmod_eq_emod_of_nonneg (by omega)]; rfl
  rw [e]
  by_cases h : a % b = 0
  · rw [h]; rfl
  · have h2 : (((a % b : Nat) : Int) == 0) = false := beq_false_of_ne (by omega)
    rw [h2]; simp [h]
theorem lastR_at : ∀ {l : List En} {st : Int × List Int} {n : Nat} {x : En}, l.length = n → 0 < n → l[n - 1]? = some x → lastR st l = x.2
  | [], _, n, _, h, h0, _ => by simp at h; omega
  | [y], st, n, x, h, h0, hx => by
    obtain rfl : n = 1 := by simpa using h.symm
    simp at hx; subst hx; rfl
  | y :: z :: l, st, n, x, h, h0, hx => by
    have h1 : (z :: l).length = n - 1 := by simp at h ⊢; omega
    show lastR y.2 (z :: l) = x.2
    refine lastR_at (n := n - 1) h1 (by simp at h1; omega) ?_
    rw [show n - 1 = (n - 1 - 1) + 1 by simp at h1; omega] at hx
    simpa using hx
end Go.Proofs.Ytlfbhfmchdbnoaa

/- Package flog: finish, Flush, Open, Counts, New. -/
namespace Go.Proofs.Ytlfbhfmchdbnoaa
open Go.ChangeShapes Go.WideShapes Go.ChangeAt Go.RowKit
set_option linter.unusedVariables false
set_option linter.unusedSimpArgs false

theorem grow0 (w : World) (r : Option Nat) : w.grownBy w r := ⟨rfl, rfl, rfl, Nat.le_refl _, fun _ _ _ => rfl⟩
theorem own_kpE {k1 : IntKind} {E1 E2 : TypeId} {W w' : World} {b1 b2 m n : Nat} {v1 v2 : Value} {z1 : List Int} {xs : List Value} (h : Own k1 E1 W b1 v1 z1) (hO : OwnE E2 W b2 m v2 n xs) (hG : W.grownBy w' v2.ownBlock) (hT : E1 ≠ E2) : Own k1 E1 w' b1 v1 z1 := by
  refine World.ownsRow.kept h hG ?_
  rcases h.2 with ⟨rfl, _⟩ | ⟨g, cap, cur, rfl, _, hgb, _⟩
  · exact .inl rfl
  · exact .inr fun e' => hO.ne hgb hT (by simpa [Value.ownBlock] using e'.symm)
end Go.Proofs.Ytlfbhfmchdbnoaa

/- Package flog: Add. -/
namespace Go.Proofs.Ytlfbhfmchdbnoaa
open Go.ChangeShapes Go.WideShapes Go.ChangeAt Go.RowKit
set_option linter.unusedVariables false
set_option linter.unusedSimpArgs false

theorem add_not {ev : Nat} {s : FSt} {r : Int × List Int} (h : ¬ 248 < (entS (0, zer12) (s.1 ++ [(keyS ev s, r)])).length) : addS ev s r = ([], (s.1 ++ [(keyS ev s, r)], s.2.1 + 1, s.2.2)) := by unfold addS; rw [if_neg h]
theorem add_over {ev : Nat} {s : FSt} {r : Int × List Int} (h : 248 < (entS (0, zer12) (s.1 ++ [(keyS ev s, r)])).length) : addS ev s r = ((flushS s).1, ([(true, r)], s.2.1 + 1, (flushS s).2.2.2)) := by unfold addS; rw [if_pos h]
theorem owp_new {B j p : Nat} {w W W2 : World} (h : Owp B j w W) (ho : Only p W W2) (hp : w.heap.size ≤ p) (hB : p ≠ B) : Owp B j w W2 :=
  ⟨by rw [ho.size]; exact h.size, fun k hk h1 h2 => (ho.block k (by omega)).trans (h.block k hk h1 h2), fun k hk => h.own k (by rw [← wown_same (ho.block B (fun e => hB e.symm))]; exact hk)⟩
end Go.Proofs.Ytlfbhfmchdbnoaa

/- Package flog: Write. -/
namespace Go.Proofs.Ytlfbhfmchdbnoaa
open Go.ChangeShapes Go.WideShapes Go.ChangeAt Go.RowKit
set_option linter.unusedVariables false
set_option linter.unusedSimpArgs false

def recL (r : Rc) : List Value := .int .u32 r.1 :: r.2.map (Value.int .i32)
def recsV (l : List Rc) : List (List Value) := l.map recL
theorem recsV_at {l : List Rc} {k : Nat} {x : Rc} (h : l[k]? = some x) : (recsV l)[k]? = some (recL x) := by simp [recsV, h]
theorem Els.at13 {w : World} {a : Option Addr} {len cap k : Nat} {l : List (List Value)} {u b0 b1 b2 b3 b4 b5 b6 b7 b8 b9 b10 b11 : Int} (h : Els w 13 a len cap l) (hx : l[k]? = some (recL (u, [b0, b1, b2, b3, b4, b5, b6, b7, b8, b9, b10, b11]))) : ∃ b off, a = some ⟨b, off, none⟩ ∧ w.cell? ⟨b, off + k * 13, none⟩ = some (.int .u32 u) ∧ w.cell? ⟨b, off + k * 13 + 1, none⟩ = some (.int .i32 b0) ∧ w.cell? ⟨b, off + k * 13 + 2, none⟩ = some (.int .i32 b1) ∧ w.cell? ⟨b, off + k * 13 + 3, none⟩ = some (.int .i32 b2) ∧ w.cell? ⟨b, off + k * 13 + 4, none⟩ = some (.int .i32 b3) ∧ w.cell? ⟨b, off + k * 13 + 5, none⟩ = some (.int .i32 b4) ∧ w.cell? ⟨b, off + k * 13 + 6, none⟩ = some (.int .i32 b5) ∧ w.cell? ⟨b, off + k * 13 + 7, none⟩ = some (.int .i32 b6) ∧ w.cell? ⟨b, off + k * 13 + 8, none⟩ = some (.int .i32 b7) ∧ w.cell? ⟨b, off + k * 13 + 9, none⟩ = some (.int .i32 b8) ∧ w.cell? ⟨b, off + k * 13 + 10, none⟩ = some (.int .i32 b9) ∧ w.cell? ⟨b, off + k * 13 + 11, none⟩ = some (.int .i32 b10) ∧ w.cell? ⟨b, off + k * 13 + 12, none⟩ = some (.int .i32 b11) := by
  obtain ⟨_, b, off, e, hc⟩ := h.2.2.2.2 k _ hx
  exact ⟨b, off, e, hc 0 _ rfl, hc 1 _ rfl, hc 2 _ rfl, hc 3 _ rfl, hc 4 _ rfl, hc 5 _ rfl, hc 6 _ rfl, hc 7 _ rfl, hc 8 _ rfl, hc 9 _ rfl, hc 10 _ rfl, hc 11 _ rfl, hc 12 _ rfl⟩
theorem take_snocR {l : List Rc} {k : Nat} {x : Rc} (hx : l[k]? = some x) : l.take (k + 1) = l.take k ++ [x] := by
  rw [List.take_add_one, hx]; rfl
theorem adds_cnt (ev : Nat) : ∀ (l : List Rc) (s : FSt), (addsS ev s l).2.2.1 ≤ s.2.1 + l.length ∧ (addsS ev s l).2.2.2 ≤ s.2.2 + l.length
  | [], s => ⟨Nat.le_refl _, Nat.le_refl _⟩
  | r :: l, s => by
    have h1 := add_cnt ev s r
    have h2 := adds_cnt ev l (addS ev s r).2
    show (addsS ev (addS ev s r).2 l).2.2.1 ≤ _ ∧ (addsS ev (addS ev s r).2 l).2.2.2 ≤ _
    rw [List.length_cons]
    omega
theorem adds_len {ev : Nat} : ∀ {l : List Rc} {s : FSt}, FOk s → (∀ r ∈ l, StK r) → (addsS ev s l).1.length ≤ 256 * l.length
  | [], _, _, _ => by simp [addsS]
  | r :: l, s, h, hr => by
    have h1 := (add_wf (ev := ev) (r := r) h).2
    have h2 := adds_len (ev := ev) (l := l) (s := (addS ev s r).2) (add_ok (ev := ev) h (hr r (by simp))) (fun x hx => hr x (by simp [hx]))
    show ((addS ev s r).1 ++ (addsS ev (addS ev s r).2 l).1).length ≤ _
    rw [List.length_append, List.length_cons]
    omega
def WrOk (w : World) (L : List Int) (n : Int) (e : Ending) (w' : World) : Prop := ∃ a cap, e = .returned (.tuple #[.slice a L.length cap, .int .i64 n]) ∧ Own .u8 5 w' w.heap.size (.slice a L.length cap) L ∧ After w w'
end Go.Proofs.Ytlfbhfmchdbnoaa

/- Package flog: the papers' Flush. -/
namespace Go.Proofs.Ytlfbhfmchdbnoaa
open Go.ChangeShapes Go.WideShapes Go.ChangeAt Go.RowKit
set_option linter.unusedVariables false
set_option linter.unusedSimpArgs false

theorem st4w {U : World} {p : Nat} {v0 v1 v2 v3 : Value} {T : TypeId} (h : U.heap[p]? = some (.cells #[v0, v1, v2, v3] T (0, 0))) (u0 u1 u2 u3 : Value) :
    ∃ W2, ((((U.setCell ⟨p, 0, none⟩ u0).setCell ⟨p, 1, none⟩ u1).setCell ⟨p, 2, none⟩ u2).setCell ⟨p, 3, none⟩ u3) = W2 ∧ W2.heap[p]? = some (.cells #[u0, u1, u2, u3] T (0, 0)) ∧ Only p U W2 := by
  have h0 : (U.setCell ⟨p, 0, none⟩ u0).heap[p]? = some (.cells #[u0, v1, v2, v3] T (0, 0)) := held_set h 0 u0
  have o0 : Only p U (U.setCell ⟨p, 0, none⟩ u0) := Only.set p 0 u0 U
  obtain ⟨W0, hW0⟩ : ∃ W, (U.setCell ⟨p, 0, none⟩ u0) = W := ⟨_, rfl⟩
  rw [hW0] at h0 o0 ⊢
  have h1 : (W0.setCell ⟨p, 1, none⟩ u1).heap[p]? = some (.cells #[u0, u1, v2, v3] T (0, 0)) := held_set h0 1 u1
  have o1 : Only p U (W0.setCell ⟨p, 1, none⟩ u1) := putS o0 1 u1
  obtain ⟨W1, hW1⟩ : ∃ W, (W0.setCell ⟨p, 1, none⟩ u1) = W := ⟨_, rfl⟩
  rw [hW1] at h1 o1 ⊢
  have h2 : (W1.setCell ⟨p, 2, none⟩ u2).heap[p]? = some (.cells #[u0, u1, u2, v3] T (0, 0)) := held_set h1 2 u2
  have o2 : Only p U (W1.setCell ⟨p, 2, none⟩ u2) := putS o1 2 u2
  obtain ⟨W2, hW2⟩ : ∃ W, (W1.setCell ⟨p, 2, none⟩ u2) = W := ⟨_, rfl⟩
  rw [hW2] at h2 o2 ⊢
  have h3 : (W2.setCell ⟨p, 3, none⟩ u3).heap[p]? = some (.cells #[u0, u1, u2, u3] T (0, 0)) := held_set h2 3 u3
  have o3 : Only p U (W2.setCell ⟨p, 3, none⟩ u3) := putS o2 3 u3
  obtain ⟨W3, hW3⟩ : ∃ W, (W2.setCell ⟨p, 3, none⟩ u3) = W := ⟨_, rfl⟩
  rw [hW3] at h3 o3 ⊢
  exact ⟨_, rfl, h3, o3⟩
def EtAt (w : World) (a : Option Addr) : Prop := ∀ q, a = some q → ∃ cs, w.heap[q.block]? = some (.cells cs 71 (0, 0))
theorem et_aft {w w2 : World} {a : Option Addr} (h : EtAt w a) (hA : After w w2) : EtAt w2 a := fun q e => by
  obtain ⟨cs, hc⟩ := h q e
  exact ⟨cs, held_after hA hc⟩
theorem et_only {w w2 : World} {p : Nat} {a : Option Addr} (h : EtAt w a) (ho : Only p w w2) (hp : ∀ q, a = some q → q.block ≠ p) : EtAt w2 a := fun q e => by
  obtain ⟨cs, hc⟩ := h q e
  exact ⟨cs, held_only ho (hp q e) hc⟩
theorem et_own {w : World} {base m n c k : Nat} {a : Option Addr} {xs : List Value} (h : OwnE 71 w base m (.slice a n c) k xs) : EtAt w a := fun q e => by
  subst e
  obtain ⟨_, _, cs, hc⟩ := h.lt q.block rfl
  exact ⟨cs, hc⟩
def RfOk (ev : Nat) (a : Option Addr) (w : World) (r : List Int × FSt) (e : Ending) (w' : World) : Prop := ∃ a' c' ta tc, e = .returned (.tuple #[.agg #[.int .i64 (ev : Int), .slice a' r.2.1.length c', .int .i64 (r.2.2.1 : Nat), .int .i64 (r.2.2.2 : Nat)], .slice ta r.1.length tc]) ∧ Els w' 14 a' r.2.1.length c' (entsV r.2.1) ∧ Own .u8 5 w' w.heap.size (.slice ta r.1.length tc) r.1 ∧ After w w' ∧ (∀ p, a' = some p → a = some p ∨ w.heap.size ≤ p.block) ∧ (EtAt w a → EtAt w' a')
theorem els_only {w w2 : World} {m len cap p : Nat} {a : Option Addr} {xs : List (List Value)} (h : Els w m a len cap xs) (ho : Only p w w2) (hp : ∀ q, a = some q → q.block ≠ p) : Els w2 m a len cap xs :=
  ⟨h.1, h.2.1, h.2.2.1, h.2.2.2.1, fun i x hx => by
    obtain ⟨h1, b, off, e, hc⟩ := h.2.2.2.2 i x hx
    exact ⟨h1, b, off, e, fun j v hj => (World.cell?_of_block (w := w) (ho.block b (hp _ e))).trans (hc j v hj)⟩⟩
set_option maxRecDepth 100000 in
set_option maxHeartbeats 8000000 in
theorem rflush_any (ev : Nat) (s : FSt) (a : Option Addr) (cap : Nat) (w : World) (hE : Els w 14 a s.1.length cap (entsV s.1)) (ha : ∀ p, a = some p → p.block < w.heap.size) (hF : FOk s) (hb : s.2.2 ≤ 1000000) : Calls Try.prog 29 #[.agg #[.int .i64 (ev : Int), .slice a s.1.length cap, .int .i64 (s.2.1 : Nat), .int .i64 (s.2.2 : Nat)]] w (RfOk ev a w (flushS s)) := by
  have hfew := fok_few hF
  have hlo := hid hF.2.2
  go_enter Try.func29, Try.ntmps29
  go_upto_region 0 with (fail)
  apply wp_region_seg0 (w := w) (S := [.al 1000, .al 1000, .q []]) (E := [.al ((fun p => .pointer (some ⟨p, 0, none⟩)), _) 1000, .al ((fun p => .pointer (some ⟨p, 0, none⟩)), _) 1000, .q0 _]) rfl (by kernel_rfl) rfl rfl
  intro th hge hne
  refine Seg.step _ rfl ⟨by rfl, fun U hU => ?_⟩ ?_
  · go_simp; exact vp_alloc rfl rfl rfl
  refine ⟨_, by (simp only [Ent.val]; go_simp <;> exact rfl), ?_⟩
  refine Seg.step _ rfl ⟨by rfl, fun U hU => ?_⟩ ?_
  · go_simp; exact vp_alloc rfl rfl rfl
  refine ⟨_, by (simp only [Ent.val]; go_simp <;> exact rfl), ?_⟩
  refine Seg.step _ rfl (Or.inl ⟨by rfl, fun U hU => vp_quiet (by (go_simp <;> exact rfl))⟩) ⟨_, by (simp only [Ent.val]; go_simp <;> exact rfl), ?_⟩
  refine Seg.stop (fun U1 hU hk => ?_)
  have nb0 := hge 0 _ _ rfl
  have rb0 := (hk 0 _ _ rfl trivial).1.2 (by simp)
  have nb1 := hge 1 _ _ rfl
  have rb1 := (hk 1 _ _ rfl trivial).1.2 (by simp)
  have ne0_1 := hne 0 1 _ _ _ _ rfl rfl (by omega)
  clear hk hge hne
  generalize th (0 + 0) = p0_0 at *
  dsimp only at rb0
  generalize th (0 + 1) = p0_1 at *
  dsimp only at rb1
  have r_p0_0 := rb0
  clear rb0
  have n_p0_0 := nb0
  clear nb0
  have d_p0_0_p0_1 := ne0_1
  clear ne0_1
  have r_p0_1 := rb1
  clear rb1
  have n_p0_1 := nb1
  clear nb1
  have sz1 := hU.size
  have hB : Below w.heap.size w U1 := hU
  clear hU
  have np := n_p0_0
  have np1 := n_p0_1
  have d01 : p0_0 ≠ p0_1 := d_p0_0_p0_1
  have hE1 := hE.below hB
  have hBh := hid hB
  obtain ⟨l, rc, bk⟩ := s
  by_cases hl : l = []
  case pos =>
    subst hl
    have hEz := hE
    rw [show flushS (([], rc, bk) : FSt) = ([], ([], rc, bk)) from rfl]
    have rb : U1.heap[p0_0]? = some (.cells #[.int .i64 (ev : Int), .slice a 0 cap, .int .i64 (rc : Nat), .int .i64 (bk : Nat)] 77 (0, 0)) := r_p0_0
    have y0 := held_cell rb 0 _ rfl
    have y1 := held_cell rb 1 _ rfl
    have y2 := held_cell rb 2 _ rfl
    have y3 := held_cell rb 3 _ rfl
    have z0 := held_cell r_p0_1 0 _ rfl
    have z1 := held_cell r_p0_1 1 _ rfl
    have z2 := held_cell r_p0_1 2 _ rfl
    have z3 := held_cell r_p0_1 3 _ rfl
    have g0 := held_free r_p0_1 0
    have g1 := held_free r_p0_1 1
    have g2 := held_free r_p0_1 2
    have g3 := held_free r_p0_1 3
    obtain ⟨W9, hW9, ya, yO⟩ := st4w r_p0_1 (.int .i64 (ev : Int)) (.slice a 0 cap) (.int .i64 (rc : Nat)) (.int .i64 (bk : Nat))
    have hB9 := hid (belowS hB yO np1)
    have hE9 := hid (els_only hE1 yO (fun q e => by have := ha q e; omega))
    have ez0 := held_cell ya 0 _ rfl
    have ez1 := held_cell ya 1 _ rfl
    have ez2 := held_cell ya 2 _ rfl
    have ez3 := held_cell ya 3 _ rfl
    clear yO ya rb r_p0_0 r_p0_1 hE hE1 hEz hB
    go_wp2_with fail
    refine bodyPost_ret (v := .tuple #[.agg #[.int .i64 (ev : Int), .slice a 0 cap, .int .i64 (rc : Nat), .int .i64 (bk : Nat)], .slice none 0 0]) (by simp [results, Try.results29, go_sem, ez0, ez1, ez2, ez3]) rfl ⟨a, cap, none, 0, rfl, hE9.out, Own.nil _ _ _ _, hB9.out, fun p e => .inl e, fun h => et_aft h hB9.out⟩
  obtain ⟨e1, e2⟩ := flush_some hF hl
  dsimp only at e1 e2 hb hfew hlo hE1 r_p0_0
  have kP := hid (fun U (h : Els U 14 a l.length cap (entsV l)) => rbput_any bk a l.length cap l U (by omega) rfl h (by omega) hlo.out)
  rw [e1] at kP
  have e3 : (flushS (l, rc, bk)).2 = ([], rc, bk + 1) := by rw [e2]
  obtain ⟨r, hr⟩ : ∃ r, flushS (l, rc, bk) = r := ⟨_, rfl⟩
  rw [hr] at kP e3 ⊢
  obtain ⟨T, s2⟩ := r
  dsimp only at kP e3
  subst e3
  have hr9 := hr
  have hle : ((l.length : Int) == 0) = false := by have : l.length ≠ 0 := fun e => hl (List.eq_nil_of_length_eq_zero e); exact beq_false_of_ne (by omega)
  clear hr e1 e2 hF hl
  obtain ⟨n, hn⟩ : ∃ n, l.length = n := ⟨_, rfl⟩
  rw [hn] at r_p0_0 hE1 kP hfew hle
  replace hn := hid hn
  obtain ⟨bk2, hbk2⟩ : ∃ z, bk + 1 = z := ⟨_, rfl⟩
  rw [hbk2] at hr9
  try rw [hbk2]
  replace hr9 := hid hr9
  have wk : IntKind.i64.wrap ((bk : Int) + 1) = (bk2 : Int) := by rw [IntKind.wrap_i64]; omega
  have wb : IntKind.u32.wrap (bk : Int) = (bk : Int) := by rw [IntKind.wrap_u32]; omega
  replace hbk2 := hid hbk2
  have y0 := held_cell r_p0_0 0 _ rfl
  have y1 := held_cell r_p0_0 1 _ rfl
  have y2 := held_cell r_p0_0 2 _ rfl
  have y3 := held_cell r_p0_0 3 _ rfl
  have s1 := hB.size
  go_wp2_with fail
  refine (kP.out _ hE1).mono ?_
  rintro e V1 ⟨ta, tc, rfl, hO, hA⟩
  dsimp only at hO ⊢
  have r1 := held_after hA r_p0_0
  have q1 := held_after hA r_p0_1
  have hB1 := bthen hB hA
  clear hA hB hBh kP hE1 r_p0_0 r_p0_1 hE y0 y1 y2 y3
  have z1 := held_cell r1 1 _ rfl
  have f1 := held_free r1 1
  obtain ⟨S1, hS1, t1, o1⟩ := st1 r1 1 (.slice none 0 0)
  have t1b := (show S1.heap[p0_0]? = some (.cells #[.int .i64 (ev : Int), .slice none 0 0, .int .i64 (rc : Nat), .int .i64 (bk : Nat)] 77 (0, 0)) from t1)
  have z3 := held_cell t1b 3 _ rfl
  have f3 := held_free t1b 3
  obtain ⟨S2, hS2, t2, o2⟩ := st1 t1b 3 (.int .i64 (bk2 : Int))
  have t2b := (show S2.heap[p0_0]? = some (.cells #[.int .i64 (ev : Int), .slice none 0 0, .int .i64 (rc : Nat), .int .i64 (bk2 : Nat)] 77 (0, 0)) from t2)
  have q2 := held_only o2 (fun e => d01 e.symm) (held_only o1 (fun e => d01 e.symm) q1)
  have hB2 := belowS (belowS hB1 o1 np) o2 np
  have hO2 := ((hO.base s1).kept2 r1 (by decide) o1).kept2 t1b (by decide) o2
  have x0 := held_cell t2b 0 _ rfl
  have x1 := held_cell t2b 1 _ rfl
  have x2 := held_cell t2b 2 _ rfl
  have x3 := held_cell t2b 3 _ rfl
  have u0 := held_cell q2 0 _ rfl
  have u1 := held_cell q2 1 _ rfl
  have u2 := held_cell q2 2 _ rfl
  have u3 := held_cell q2 3 _ rfl
  have g0 := held_free q2 0
  have g1 := held_free q2 1
  have g2 := held_free q2 2
  have g3 := held_free q2 3
  obtain ⟨W9, hW9, ya, yO⟩ := st4w q2 (.int .i64 (ev : Int)) (.slice none 0 0) (.int .i64 (rc : Nat)) (.int .i64 (bk2 : Nat))
  have hB9 := hid (belowS hB2 yO np1)
  have hO9 := hid (hO2.kept2 q2 (by decide) yO)
  have ez0 := held_cell ya 0 _ rfl
  have ez1 := held_cell ya 1 _ rfl
  have ez2 := held_cell ya 2 _ rfl
  have ez3 := held_cell ya 3 _ rfl
  clear yO ya t1 t1b t2 t2b o1 o2 q1 q2 r1 hO hO2 hB1 hB2
  go_wp2_with fail
  refine bodyPost_ret (v := .tuple #[.agg #[.int .i64 (ev : Int), .slice none 0 0, .int .i64 (rc : Nat), .int .i64 (bk2 : Nat)], .slice ta T.length tc]) (by simp [results, Try.results29, go_sem, ez0, ez1, ez2, ez3]) rfl ?_
  rw [hr9.out]
  exact ⟨none, 0, ta, tc, rfl, Els.nil _ _, hO9.out, hB9.out, (fun p e => by cases e), fun h q e => by cases e⟩

end Go.Proofs.Ytlfbhfmchdbnoaa

/- Package flog: the papers' Add. -/
namespace Go.Proofs.Ytlfbhfmchdbnoaa
open Go.ChangeShapes Go.WideShapes Go.ChangeAt Go.RowKit
set_option linter.unusedVariables false
set_option linter.unusedSimpArgs false

theorem kpf {N : Nat} {w w' : World} (h : Below N w w') : Kp N [] w w' := ⟨h.os, h.tape, h.output, h.size, fun k hk _ => h.block k hk⟩
theorem grow_below {E : TypeId} {base N m n : Nat} {v : Value} {xs : List Value} {w w2 w0 : World} (hO : OwnE E w base m v n xs) (hG : w.grownBy w2 v.ownBlock) (hB : Below N w0 w) (hN : N ≤ base) (hw : N ≤ w.heap.size) : Below N w0 w2 :=
  hB.trans ((Below.refl N w).grown hG hw (fun k e => Nat.le_trans hN (hO.lt k e).1))
theorem list1 (x : En) : (entsV [x]).flatten = [entC x].flatten := by simp [entsV]
theorem ents_one (l : List En) : ∀ y ∈ entsV l, ∀ u ∈ y, u.oneCell' = true := by
  intro y hy
  obtain ⟨x, _, rfl⟩ := List.mem_map.1 hy
  exact entC_one x _ (by simp)
set_option maxRecDepth 100000 in
set_option maxHeartbeats 16000000 in
theorem radd_any (ev : Nat) (s : FSt) (u b0 b1 b2 b3 b4 b5 b6 b7 b8 b9 b10 b11 : Int) (a : Option Addr) (cap : Nat) (w : World) (hE : Els w 14 a s.1.length cap (entsV s.1)) (ha : ∀ p, a = some p → p.block < w.heap.size) (hF : FOk s) (he : 0 < ev) (he2 : ev ≤ 255) (hc : s.2.1 ≤ 1000000) (hb : s.2.2 ≤ 1000000) (hu : 0 ≤ u ∧ u ≤ 4294967295) (hv : ∀ x ∈ [b0, b1, b2, b3, b4, b5, b6, b7, b8, b9, b10, b11], -2147483648 ≤ x ∧ x ≤ 2147483647) : Calls Try.prog 28 #[.agg #[.int .i64 (ev : Int), .slice a s.1.length cap, .int .i64 (s.2.1 : Nat), .int .i64 (s.2.2 : Nat)], .agg #[.int .u32 u, .int .i32 b0, .int .i32 b1, .int .i32 b2, .int .i32 b3, .int .i32 b4, .int .i32 b5, .int .i32 b6, .int .i32 b7, .int .i32 b8, .int .i32 b9, .int .i32 b10, .int .i32 b11]] w (RfOk ev a w (addS ev s (u, [b0, b1, b2, b3, b4, b5, b6, b7, b8, b9, b10, b11]))) := by
  have hov := add_over (ev := ev) (s := s) (r := (u, [b0, b1, b2, b3, b4, b5, b6, b7, b8, b9, b10, b11]))
  have hnt := add_not (ev := ev) (s := s) (r := (u, [b0, b1, b2, b3, b4, b5, b6, b7, b8, b9, b10, b11]))
  obtain ⟨r, hr⟩ : ∃ r, addS ev s (u, [b0, b1, b2, b3, b4, b5, b6, b7, b8, b9, b10, b11]) = r := ⟨_, rfl⟩
  rw [hr] at hov hnt ⊢
  clear hr
  have hfew := fok_few hF
  have hlo := hid hF.2.2
  have hF0 := hid hF
  clear hF
  have hK0 : (s.1.length = 0 → keyS ev s = true) ∧ (s.1.length ≠ 0 → keyS ev s = decide (s.2.1 % ev = 0)) := ⟨fun e => keyS_nil ev (List.eq_nil_of_length_eq_zero e), fun e => by unfold keyS; cases hs : s.1 with
      | nil => rw [hs] at e; exact absurd rfl e
      | cons x y => rfl⟩
  obtain ⟨KK, hK⟩ : ∃ k, keyS ev s = k := ⟨_, rfl⟩
  rw [hK] at hov hnt hK0
  clear hK
  have hsz := fun U a9 c9 hU => rsize_any a9 c9 (s.1 ++ [(KK, u, [b0, b1, b2, b3, b4, b5, b6, b7, b8, b9, b10, b11])]) U hU (by rw [List.length_append]; simp; omega) (fun x hx => (List.mem_append.1 hx).elim (hlo.out x) (fun h => by rw [List.mem_singleton] at h; subst h; exact ⟨hu, rfl, hv⟩))
  have hmx : ∀ x ∈ entsV (s.1 ++ [(KK, u, [b0, b1, b2, b3, b4, b5, b6, b7, b8, b9, b10, b11])]), x.length = 14 := entsV_m (fun x hx => (List.mem_append.1 hx).elim (hlo.out x) (fun h => by rw [List.mem_singleton] at h; subst h; exact ⟨hu, rfl, hv⟩))
  have e1 : (s.1 ++ [(KK, u, [b0, b1, b2, b3, b4, b5, b6, b7, b8, b9, b10, b11])]).length = s.1.length + 1 := by rw [List.length_append]; rfl
  have hel : (entsV (s.1 ++ [(KK, u, [b0, b1, b2, b3, b4, b5, b6, b7, b8, b9, b10, b11])])).length = s.1.length + 1 := by rw [entsV_len, e1]
  rw [e1] at hsz
  obtain ⟨sz, hsze⟩ : ∃ z, (entS (0, zer12) (s.1 ++ [(KK, u, [b0, b1, b2, b3, b4, b5, b6, b7, b8, b9, b10, b11])])).length = z := ⟨_, rfl⟩
  rw [hsze] at hsz hov hnt
  clear hsze
  have hkf := hid (fun U a9 c9 h1 h2 => rflush_any ev s a9 c9 U h1 h2 hF0.out hb)
  obtain ⟨TT, hTT⟩ : ∃ z, flushS s = z := ⟨_, rfl⟩
  have hfc := flush_cnt s
  rw [hTT] at hkf hov hfc
  clear hTT
  obtain ⟨n, hn⟩ : ∃ n, s.1.length = n := ⟨_, rfl⟩
  rw [hn] at hE hfew hK0 hsz hkf hel ⊢
  obtain ⟨rc, hrc⟩ : ∃ z, s.2.1 = z := ⟨_, rfl⟩
  rw [hrc] at hc hov hnt hK0 hkf ⊢
  obtain ⟨bk, hbk⟩ : ∃ z, s.2.2 = z := ⟨_, rfl⟩
  rw [hbk] at hb hnt hkf ⊢
  replace hov := hid hov
  replace hnt := hid hnt
  replace hsz := hid hsz
  replace hmx := hid hmx
  replace e1 := hid e1
  replace hel := hid hel
  replace hn := hid hn
  replace hrc := hid hrc
  replace hbk := hid hbk
  replace hfc := hid hfc
  go_enter Try.func28, Try.ntmps28
  go_upto_region 0 with (fail)
  apply wp_region_seg0 (w := w) (S := [.al 1000, .al 1000, .al 1000, .q []]) (E := [.al ((fun p => .pointer (some ⟨p, 0, none⟩)), _) 1000, .al ((fun p => .pointer (some ⟨p, 0, none⟩)), _) 1000, .al ((fun p => .pointer (some ⟨p, 0, none⟩)), _) 1000, .q0 _]) rfl (by kernel_rfl) rfl rfl
  intro th hge hne
  refine Seg.step _ rfl ⟨by rfl, fun U hU => ?_⟩ ?_
  · go_simp; exact vp_alloc rfl rfl rfl
  refine ⟨_, by (simp only [Ent.val]; go_simp <;> exact rfl), ?_⟩
  refine Seg.step _ rfl ⟨by rfl, fun U hU => ?_⟩ ?_
  · go_simp; exact vp_alloc rfl rfl rfl
  refine ⟨_, by (simp only [Ent.val]; go_simp <;> exact rfl), ?_⟩
  refine Seg.step _ rfl ⟨by rfl, fun U hU => ?_⟩ ?_
  · go_simp; exact vp_alloc rfl rfl rfl
  refine ⟨_, by (simp only [Ent.val]; go_simp <;> exact rfl), ?_⟩
  refine Seg.step _ rfl (Or.inl ⟨by rfl, fun U hU => vp_quiet (by (go_simp <;> exact rfl))⟩) ⟨_, by (simp only [Ent.val]; go_simp <;> exact rfl), ?_⟩
  refine Seg.stop (fun U1 hU hk => ?_)
  have nb0 := hge 0 _ _ rfl
  have rb0 := (hk 0 _ _ rfl trivial).1.2 (by simp)
  have nb1 := hge 1 _ _ rfl
  have rb1 := (hk 1 _ _ rfl trivial).1.2 (by simp)
  have nb2 := hge 2 _ _ rfl
  have rb2 := (hk 2 _ _ rfl trivial).1.2 (by simp)
  have ne0_1 := hne 0 1 _ _ _ _ rfl rfl (by omega)
  have ne0_2 := hne 0 2 _ _ _ _ rfl rfl (by omega)
  have ne1_2 := hne 1 2 _ _ _ _ rfl rfl (by omega)
  clear hk hge hne
  generalize th (0 + 0) = p0_0 at *
  dsimp only at rb0
  generalize th (0 + 1) = p0_1 at *
  dsimp only at rb1
  generalize th (0 + 2) = p0_2 at *
  dsimp only at rb2
  have r_p0_0 := rb0
  clear rb0
  have n_p0_0 := nb0
  clear nb0
  have d_p0_0_p0_1 := ne0_1
  clear ne0_1
  have d_p0_0_p0_2 := ne0_2
  clear ne0_2
  have r_p0_1 := rb1
  clear rb1
  have n_p0_1 := nb1
  clear nb1
  have d_p0_1_p0_2 := ne1_2
  clear ne1_2
  have r_p0_2 := rb2
  clear rb2
  have n_p0_2 := nb2
  clear nb2
  have sz1 := hU.size
  have hB : Below w.heap.size w U1 := hU
  clear hU
  have np0 := n_p0_0
  have np1 := n_p0_1
  have np2 := n_p0_2
  have hE1 := hid (hE.below hB)
  have hBh := hid hB
  have r0 := hid r_p0_0
  have r1 := hid r_p0_1
  have r2 := hid r_p0_2
  clear hE
  have d02 : p0_0 ≠ p0_2 := d_p0_0_p0_2
  have sB := hB.size
  go_upto_region 1 with (fail)
  go_cut [6] from 9 to 22 (fun s6 wx => ∃ px : Nat, s6 = .pointer (some ⟨px, 0, none⟩) ∧ U1.heap.size ≤ px ∧ wx.heap[px]? = some (.cells #[.bool KK, .int .u32 u, .int .i32 b0, .int .i32 b1, .int .i32 b2, .int .i32 b3, .int .i32 b4, .int .i32 b5, .int .i32 b6, .int .i32 b7, .int .i32 b8, .int .i32 b9, .int .i32 b10, .int .i32 b11] 71 (0, 0)) ∧ After U1 wx)
  case first =>
    have hBs : Below U1.heap.size U1 U1 := Below.refl _ _
    clear hB
    by_cases hn0 : n = 0
    case pos =>
      have hKt : KK = true := hK0.1 hn0
      subst hKt
      have q0 : ((n : Int) == 0) = true := by rw [hn0]; rfl
      clear hK0 hBs
      replace hn0 := hid hn0
      apply wp_region_seg (w := U1) (S := [.q [], .q [], .q [], .q [], .q [], .q [], .q [], .q [], .q [], .q [], .q [], .q [], .q [], .q [], .al 15, .st 14 []]) (E := [.q0 _, .q0 _, .q0 _, .q0 _, .q0 _, .q0 _, .q0 _, .q0 _, .q0 _, .q0 _, .q0 _, .q0 _, .q0 _, .q0 _, .al ((fun p => .pointer (some ⟨p, 0, none⟩)), _) 15, .s0 14 (.cells _ _)]) (by kernel_rfl) rfl (by kernel_rfl) rfl rfl
      intro th hge hne
      refine Seg.step _ rfl (Or.inl ⟨by rfl, fun U hU => vp_quiet (by (go_simp <;> exact rfl))⟩) ⟨_, by (simp only [Ent.val]; go_simp <;> exact rfl), ?_⟩
      refine Seg.step _ rfl (Or.inl ⟨by rfl, fun U hU => vp_quiet (by (have h0 := held_cell (held_after hU.1 r_p0_0) 1 _ rfl; go_simp <;> exact rfl))⟩) ⟨_, by (simp only [Ent.val]; go_simp <;> exact rfl), ?_⟩
      refine Seg.step _ rfl (Or.inl ⟨by rfl, fun U hU => vp_quiet (by (go_simp <;> exact rfl))⟩) ⟨_, by (simp only [Ent.val]; go_simp <;> exact rfl), ?_⟩
      refine Seg.step _ rfl (Or.inl ⟨by rfl, fun U hU => vp_quiet (by (go_simp <;> exact rfl))⟩) ⟨_, by (simp only [Ent.val]; go_simp <;> exact rfl), ?_⟩
      refine Seg.step _ rfl (Or.inl ⟨by rfl, fun U hU => vp_quiet (by (go_simp <;> exact rfl))⟩) ⟨_, by (simp only [Ent.val]; go_simp <;> exact rfl), ?_⟩
      refine Seg.step _ rfl (Or.inr ⟨by rfl, rfl⟩) ⟨_, by (simp only [Ent.val]; go_simp <;> exact rfl), ?_⟩
      refine Seg.step _ rfl (Or.inr ⟨by rfl, rfl⟩) ⟨_, by (simp only [Ent.val]; go_simp <;> exact rfl), ?_⟩
      refine Seg.step _ rfl (Or.inr ⟨by rfl, rfl⟩) ⟨_, by (simp only [Ent.val]; go_simp <;> exact rfl), ?_⟩
      refine Seg.step _ rfl (Or.inr ⟨by rfl, rfl⟩) ⟨_, by (simp only [Ent.val]; go_simp <;> exact rfl), ?_⟩
      refine Seg.step _ rfl (Or.inr ⟨by rfl, rfl⟩) ⟨_, by (simp only [Ent.val]; go_simp <;> exact rfl), ?_⟩
      refine Seg.step _ rfl (Or.inr ⟨by rfl, rfl⟩) ⟨_, by (simp only [Ent.val]; go_simp <;> exact rfl), ?_⟩
      refine Seg.step _ rfl (Or.inl ⟨by rfl, fun U hU => vp_quiet (by (go_simp <;> exact rfl))⟩) ⟨_, by (simp only [Ent.val]; go_simp <;> exact rfl), ?_⟩
      refine Seg.step _ rfl (Or.inl ⟨by rfl, fun U hU => vp_quiet (by (have h0 := held_cell (held_after hU.1 r_p0_1) 0 _ rfl; have h1 := held_cell (held_after hU.1 r_p0_1) 1 _ rfl; have h2 := held_cell (held_after hU.1 r_p0_1) 2 _ rfl; have h3 := held_cell (held_after hU.1 r_p0_1) 3 _ rfl; have h4 := held_cell (held_after hU.1 r_p0_1) 4 _ rfl; have h5 := held_cell (held_after hU.1 r_p0_1) 5 _ rfl; have h6 := held_cell (held_after hU.1 r_p0_1) 6 _ rfl; have h7 := held_cell (held_after hU.1 r_p0_1) 7 _ rfl; have h8 := held_cell (held_after hU.1 r_p0_1) 8 _ rfl; have h9 := held_cell (held_after hU.1 r_p0_1) 9 _ rfl; have h10 := held_cell (held_after hU.1 r_p0_1) 10 _ rfl; have h11 := held_cell (held_after hU.1 r_p0_1) 11 _ rfl; have h12 := held_cell (held_after hU.1 r_p0_1) 12 _ rfl; go_simp <;> exact rfl))⟩) ⟨_, by (simp only [Ent.val]; go_simp <;> exact rfl), ?_⟩
      refine Seg.step _ rfl (Or.inl ⟨by rfl, fun U hU => vp_quiet (by (go_simp <;> exact rfl))⟩) ⟨_, by (simp only [Ent.val]; go_simp <;> exact rfl), ?_⟩
      refine Seg.step _ rfl ⟨by rfl, fun U hU => ?_⟩ ?_
      · go_simp; exact vp_alloc rfl rfl rfl
      refine ⟨_, by (simp only [Ent.val]; go_simp <;> exact rfl), ?_⟩
      refine Seg.step _ rfl ⟨by rfl, fun U z k hz hU hc => ?_⟩ ?_
      · have hz2 := Option.some.inj hz
        cases hz2; clear hz
        exact vp_store_agg _ _ _ rfl hc rfl rfl (by kernel_rfl) rfl (by rfl)
      refine ⟨_, by (simp only [Ent.val]; go_simp <;> exact rfl), ?_⟩
      refine Seg.stop (fun U6 hU hk => ?_)
      have nb14 := hge 14 _ _ rfl
      have rb14 := (hk 14 _ 15 rfl trivial).1.1 trivial _ (Nat.zero_le _) rfl
      clear hk hge hne
      generalize th (0 + 14) = p1_14 at *
      simp only [Ent.obj] at rb14
      replace r_p0_0 := held_after hU r_p0_0
      replace r_p0_1 := held_after hU r_p0_1
      replace r_p0_2 := held_after hU r_p0_2
      have r_p1_14 := rb14
      clear rb14
      have n_p1_14 := nb14
      clear nb14
      have sz6 := hU.size
      have hB : Below U1.heap.size U1 U6 := hU
      clear hU
      have hA9 := hid hB
      have rx := hid r_p1_14
      have nx := n_p1_14
      clear hB r_p1_14
      go_wp2_with fail
      go_meet
      exact ⟨_, rfl, nx, rx.out, hA9.out⟩
    have hKt : decide (rc % ev = 0) = KK := (hK0.2 hn0).symm
    have q0 : ((n : Int) == 0) = false := by simpa using hn0
    have qr : (Int.tmod (rc : Int) (ev : Int) == 0) = KK := by rw [rem_is he]; exact hKt
    have hez : (ev : Int) ≠ 0 := by omega
    have hen : ¬ ev = 0 := by omega
    have wr9 : IntKind.i64.wrap (Int.tmod (rc : Int) (ev : Int)) = Int.tmod (rc : Int) (ev : Int) := by rw [Int.tmod_eq_emod_of_nonneg (by omega), IntKind.wrap_i64]; have := Int.emod_lt_of_pos (rc : Int) (show (0 : Int) < ev by omega); have := Int.emod_nonneg (rc : Int) hez; omega
    clear hK0 hBs hKt
    replace hn0 := hid hn0
    apply wp_region_seg (w := U1) (S := [.q [], .q [], .q [], .q [], .q [], .q [], .q [], .q [], .q [], .q [], .q [], .q [], .q [], .q [], .al 15, .st 14 []]) (E := [.q0 _, .q0 _, .q0 _, .q0 _, .q0 _, .q0 _, .q0 _, .q0 _, .q0 _, .q0 _, .q0 _, .q0 _, .q0 _, .q0 _, .al ((fun p => .pointer (some ⟨p, 0, none⟩)), _) 15, .s0 14 (.cells _ _)]) (by kernel_rfl) rfl (by kernel_rfl) rfl rfl
    intro th hge hne
    refine Seg.step _ rfl (Or.inl ⟨by rfl, fun U hU => vp_quiet (by (go_simp <;> exact rfl))⟩) ⟨_, by (simp only [Ent.val]; go_simp <;> exact rfl), ?_⟩
    refine Seg.step _ rfl (Or.inl ⟨by rfl, fun U hU => vp_quiet (by (have h0 := held_cell (held_after hU.1 r_p0_0) 1 _ rfl; go_simp <;> exact rfl))⟩) ⟨_, by (simp only [Ent.val]; go_simp <;> exact rfl), ?_⟩
    refine Seg.step _ rfl (Or.inl ⟨by rfl, fun U hU => vp_quiet (by (go_simp <;> exact rfl))⟩) ⟨_, by (simp only [Ent.val]; go_simp <;> exact rfl), ?_⟩
    refine Seg.step _ rfl (Or.inl ⟨by rfl, fun U hU => vp_quiet (by (go_simp <;> exact rfl))⟩) ⟨_, by (simp only [Ent.val]; go_simp <;> exact rfl), ?_⟩
    refine Seg.step _ rfl (Or.inl ⟨by rfl, fun U hU => vp_quiet (by (go_simp <;> exact rfl))⟩) ⟨_, by (simp only [Ent.val]; go_simp <;> exact rfl), ?_⟩
    refine Seg.step _ rfl (Or.inl ⟨by rfl, fun U hU => vp_quiet (by (go_simp <;> exact rfl))⟩) ⟨_, by (simp only [Ent.val]; go_simp <;> exact rfl), ?_⟩
    refine Seg.step _ rfl (Or.inl ⟨by rfl, fun U hU => vp_quiet (by (have h0 := held_cell (held_after hU.1 r_p0_0) 2 _ rfl; go_simp <;> exact rfl))⟩) ⟨_, by (simp only [Ent.val]; go_simp <;> exact rfl), ?_⟩
    refine Seg.step _ rfl (Or.inl ⟨by rfl, fun U hU => vp_quiet (by (go_simp <;> exact rfl))⟩) ⟨_, by (simp only [Ent.val]; go_simp <;> exact rfl), ?_⟩
    refine Seg.step _ rfl (Or.inl ⟨by rfl, fun U hU => vp_quiet (by (have h0 := held_cell (held_after hU.1 r_p0_0) 0 _ rfl; go_simp <;> exact rfl))⟩) ⟨_, by (simp only [Ent.val]; go_simp <;> exact rfl), ?_⟩
    refine Seg.step _ rfl (Or.inl ⟨by rfl, fun U hU => vp_quiet (by (go_simp <;> exact rfl))⟩) ⟨_, by (simp only [Ent.val]; go_simp <;> exact rfl), ?_⟩
    refine Seg.step _ rfl (Or.inl ⟨by rfl, fun U hU => vp_quiet (by (go_simp <;> exact rfl))⟩) ⟨_, by (simp only [Ent.val]; go_simp <;> exact rfl), ?_⟩
    refine Seg.step _ rfl (Or.inl ⟨by rfl, fun U hU => vp_quiet (by (go_simp <;> exact rfl))⟩) ⟨_, by (simp only [Ent.val]; go_simp <;> exact rfl), ?_⟩
    refine Seg.step _ rfl (Or.inl ⟨by rfl, fun U hU => vp_quiet (by (have h0 := held_cell (held_after hU.1 r_p0_1) 0 _ rfl; have h1 := held_cell (held_after hU.1 r_p0_1) 1 _ rfl; have h2 := held_cell (held_after hU.1 r_p0_1) 2 _ rfl; have h3 := held_cell (held_after hU.1 r_p0_1) 3 _ rfl; have h4 := held_cell (held_after hU.1 r_p0_1) 4 _ rfl; have h5 := held_cell (held_after hU.1 r_p0_1) 5 _ rfl; have h6 := held_cell (held_after hU.1 r_p0_1) 6 _ rfl; have h7 := held_cell (held_after hU.1 r_p0_1) 7 _ rfl; have h8 := held_cell (held_after hU.1 r_p0_1) 8 _ rfl; have h9 := held_cell (held_after hU.1 r_p0_1) 9 _ rfl; have h10 := held_cell (held_after hU.1 r_p0_1) 10 _ rfl; have h11 := held_cell (held_after hU.1 r_p0_1) 11 _ rfl; have h12 := held_cell (held_after hU.1 r_p0_1) 12 _ rfl; go_simp <;> exact rfl))⟩) ⟨_, by (simp only [Ent.val]; go_simp <;> exact rfl), ?_⟩
    refine Seg.step _ rfl (Or.inl ⟨by rfl, fun U hU => vp_quiet (by (go_simp <;> exact rfl))⟩) ⟨_, by (simp only [Ent.val]; go_simp <;> exact rfl), ?_⟩
    refine Seg.step _ rfl ⟨by rfl, fun U hU => ?_⟩ ?_
    · go_simp; exact vp_alloc rfl rfl rfl
    refine ⟨_, by (simp only [Ent.val]; go_simp <;> exact rfl), ?_⟩
    refine Seg.step _ rfl ⟨by rfl, fun U z k hz hU hc => ?_⟩ ?_
    · have hz2 := Option.some.inj hz
      cases hz2; clear hz
      exact vp_store_agg _ _ _ rfl hc rfl rfl (by kernel_rfl) rfl (by rfl)
    refine ⟨_, by (simp only [Ent.val]; go_simp <;> exact rfl), ?_⟩
    refine Seg.stop (fun U6 hU hk => ?_)
    have nb14 := hge 14 _ _ rfl
    have rb14 := (hk 14 _ 15 rfl trivial).1.1 trivial _ (Nat.zero_le _) rfl
    clear hk hge hne
    generalize th (0 + 14) = p1_14 at *
    simp only [Ent.obj] at rb14
    replace r_p0_0 := held_after hU r_p0_0
    replace r_p0_1 := held_after hU r_p0_1
    replace r_p0_2 := held_after hU r_p0_2
    have r_p1_14 := rb14
    clear rb14
    have n_p1_14 := nb14
    clear nb14
    have sz6 := hU.size
    have hB : Below U1.heap.size U1 U6 := hU
    clear hU
    have hA9 := hid hB
    have rx := hid r_p1_14
    have nx := n_p1_14
    clear hB r_p1_14
    go_wp2_with fail
    go_meet
    exact ⟨_, rfl, nx, rx.out, hA9.out⟩
  case rest =>
    obtain ⟨px, rfl, hpx, rx, hA⟩ := hcut
    have ra := hid (held_after hA r_p0_0)
    have rr := hid (held_after hA r_p0_1)
    have rt := hid (held_after hA r_p0_2)
    have hB2 := hid (bthen hB hA)
    have hE2 := hid (hE1.out.below hA)
    replace rx := hid rx
    clear hA hB r_p0_0 r_p0_1 r_p0_2 r0 r1 r2 hE1 hBh hK0
    have s2 := hB2.out.size
    generalize hVV : wc = V1 at *
    clear hVV
    have l0 := held_lt ra.out
    have l2 := held_lt rt.out
    go_upto_region 2 with (fail)
    go_cut [7] from 23 to 29 (fun s7 wx => ∃ (a7 : Option Addr) (c7 : Nat), s7 = .slice a7 (n + 1) c7 ∧ OwnE 71 wx V1.heap.size 14 (.slice a7 (n + 1) c7) (n + 1) (entsV (s.1 ++ [(KK, u, [b0, b1, b2, b3, b4, b5, b6, b7, b8, b9, b10, b11])])).flatten ∧ After V1 wx)
    case first =>
      obtain ⟨QQ, hQQ⟩ : ∃ X, V1.drew = X := ⟨_, rfl⟩
      have bQ := (show V1.drew.heap[p0_0]? = _ from ra.out)
      have xQ := (show V1.drew.heap[px]? = _ from rx.out)
      have eQ := (show Els V1.drew 14 a n cap (entsV s.1) from hE2.out)
      rw [hQQ] at bQ xQ eQ
      replace eQ := hid eQ
      have hQ := Below.refl QQ.heap.size QQ
      have lb := held_lt bQ
      have lx := held_lt xQ
      have ez : 0 + n = n := Nat.zero_add n
      refine wp_region_K (N := QQ.heap.size) (X := []) (by kernel_rfl) ?_
      rw [hQQ]
      refine wpAnyK_take 1 rfl (by kernel_rfl) (by kernel_rfl) (by kernel_rfl) (fun _ _ _ _ h => h) ⟨_, Or.inl ⟨by rfl, fun w2 hb => by (go_simp; try with_reducible rfl)⟩, _, by (go_simp; try rfl), ?_⟩
      refine wpAnyK_take 2 rfl (by kernel_rfl) (by kernel_rfl) (by kernel_rfl) (fun _ _ _ _ h => h) ⟨_, Or.inl ⟨by rfl, fun w2 hb => by (have g1 := hb.cellB (p := ⟨p0_0, 1, none⟩) (by show p0_0 < _; exact lb) (by simp) (held_cell bQ 1 _ rfl); go_simp; try with_reducible rfl)⟩, _, by (go_simp; try rfl), ?_⟩
      refine wpAnyK_take 4 rfl (by kernel_rfl) (by kernel_rfl) (by kernel_rfl) (fun _ _ _ _ h => h) ⟨_, Or.inl ⟨by rfl, fun w2 hb => by (have q0 := hb.cellB (p := ⟨px, 0, none⟩) (by show px < _; exact lx) (by simp) (held_cell xQ 0 _ rfl); have q1 := hb.cellB (p := ⟨px, 1, none⟩) (by show px < _; exact lx) (by simp) (held_cell xQ 1 _ rfl); have q2 := hb.cellB (p := ⟨px, 2, none⟩) (by show px < _; exact lx) (by simp) (held_cell xQ 2 _ rfl); have q3 := hb.cellB (p := ⟨px, 3, none⟩) (by show px < _; exact lx) (by simp) (held_cell xQ 3 _ rfl); have q4 := hb.cellB (p := ⟨px, 4, none⟩) (by show px < _; exact lx) (by simp) (held_cell xQ 4 _ rfl); have q5 := hb.cellB (p := ⟨px, 5, none⟩) (by show px < _; exact lx) (by simp) (held_cell xQ 5 _ rfl); have q6 := hb.cellB (p := ⟨px, 6, none⟩) (by show px < _; exact lx) (by simp) (held_cell xQ 6 _ rfl); have q7 := hb.cellB (p := ⟨px, 7, none⟩) (by show px < _; exact lx) (by simp) (held_cell xQ 7 _ rfl); have q8 := hb.cellB (p := ⟨px, 8, none⟩) (by show px < _; exact lx) (by simp) (held_cell xQ 8 _ rfl); have q9 := hb.cellB (p := ⟨px, 9, none⟩) (by show px < _; exact lx) (by simp) (held_cell xQ 9 _ rfl); have q10 := hb.cellB (p := ⟨px, 10, none⟩) (by show px < _; exact lx) (by simp) (held_cell xQ 10 _ rfl); have q11 := hb.cellB (p := ⟨px, 11, none⟩) (by show px < _; exact lx) (by simp) (held_cell xQ 11 _ rfl); have q12 := hb.cellB (p := ⟨px, 12, none⟩) (by show px < _; exact lx) (by simp) (held_cell xQ 12 _ rfl); have q13 := hb.cellB (p := ⟨px, 13, none⟩) (by show px < _; exact lx) (by simp) (held_cell xQ 13 _ rfl); go_simp; try with_reducible rfl)⟩, _, by (go_simp; try rfl), ?_⟩
      refine wpAnyK_two 0 5 rfl rfl (by kernel_rfl) (by rfl) (by rfl) (fun K hK => ?_) (fun K hK => ?_)
      · go_simp
        have nw := alloc_new QQ (.cells #[] 71)
        have kp := Kp.of (X := []) nw.2.1 hQ.size
        have own : OwnE 71 (QQ.alloc (.cells #[] 71)) QQ.heap.size 14 (.slice (some ⟨QQ.heap.size, 0, none⟩) 0 0) 0 [] := OwnE.lit QQ #[] 0 QQ.heap.size 14 hQ.size (by unfold maxLen; omega) rfl
        replace hQ := bthen hQ nw.2.1
        clear nw
        obtain ⟨Y1, hY1⟩ : ∃ X, QQ.alloc (.cells #[] 71) = X := ⟨_, rfl⟩
        rw [hY1] at own kp hQ ⊢
        clear hY1
        refine hK _ _ ⟨kp, ?_⟩
        clear hK
        clear kp
        refine wpAnyK_two 3 5 rfl rfl (by kernel_rfl) (by rfl) (by rfl) (fun K hK => ?_) (fun K hK => ?_)
        · have sl9 := eQ.out.below hQ
          refine wp_appE (.tmp 23) (.tmp 25) 24 rfl QQ.heap.size 71 14 56 entO (by decide) (.slice (some ⟨QQ.heap.size, 0, none⟩) 0 0) 0 [] rfl own a n cap (entsV s.1) rfl sl9 (ents_one _) (by unfold maxLen; omega) (by omega) hQ.size ?_
          intro a3 c3 Y2 hO3 hG hN
          have kp : Kp QQ.heap.size [] Y1 Y2 := kpf (grow_below own hG (Below.refl _ _) (Nat.le_refl _) hQ.size)
          replace hQ := grow_below own hG hQ (Nat.le_refl _) hQ.size
          rw [ez, List.nil_append] at hO3
          rw [ez]
          clear own sl9 hG hN
          have own := hO3
          clear hO3
          refine hK _ _ ⟨kp, ?_⟩
          clear hK
          clear kp
          refine wpAnyK_only 5 rfl (by kernel_rfl) (by rfl) (fun K hK => ?_)
          go_simp
          have nw := alloc_new Y2 (.cells #[.bool KK, .int .u32 u, .int .i32 b0, .int .i32 b1, .int .i32 b2, .int .i32 b3, .int .i32 b4, .int .i32 b5, .int .i32 b6, .int .i32 b7, .int .i32 b8, .int .i32 b9, .int .i32 b10, .int .i32 b11] 71)
          have kp := Kp.of (X := []) nw.2.1 hQ.size
          replace own := own.below nw.2.1
          have h5 := nw.2.2
          replace hQ := bthen hQ nw.2.1
          clear nw
          obtain ⟨Y3, hY3⟩ : ∃ X, Y2.alloc (.cells #[.bool KK, .int .u32 u, .int .i32 b0, .int .i32 b1, .int .i32 b2, .int .i32 b3, .int .i32 b4, .int .i32 b5, .int .i32 b6, .int .i32 b7, .int .i32 b8, .int .i32 b9, .int .i32 b10, .int .i32 b11] 71) = X := ⟨_, rfl⟩
          rw [hY3] at h5 kp hQ own ⊢
          clear hY3
          refine hK _ _ ⟨kp, ?_⟩
          clear hK
          clear kp
          refine wpAnyK_only 6 rfl (by kernel_rfl) (by rfl) (fun K hK => ?_)
          have e6 : Els Y3 14 (some ⟨Y2.heap.size, 0, none⟩) 1 1 [entC (KK, u, [b0, b1, b2, b3, b4, b5, b6, b7, b8, b9, b10, b11])] := els_blk (m := 14) h5 rfl
          refine wp_appE (.tmp 26) (.tmp 28) 24 rfl QQ.heap.size 71 14 56 entO (by decide) (.slice a3 n c3) n (entsV s.1).flatten rfl own (some ⟨Y2.heap.size, 0, none⟩) 1 1 [entC (KK, u, [b0, b1, b2, b3, b4, b5, b6, b7, b8, b9, b10, b11])] rfl e6 (entC_one _) (by unfold maxLen; omega) (by omega) hQ.size ?_
          intro a9 c9 Y4 hO9 hG hN
          have kp : Kp QQ.heap.size [] Y3 Y4 := kpf (grow_below own hG (Below.refl _ _) (Nat.le_refl _) hQ.size)
          replace hQ := grow_below own hG hQ (Nat.le_refl _) hQ.size
          rw [← entsV_snoc] at hO9
          clear own e6 h5 hG hN
          refine hK _ _ ⟨kp, ?_⟩
          clear hK
          clear kp
          refine wpAnyK_take 7 rfl (by kernel_rfl) (by kernel_rfl) (by kernel_rfl) (fun _ _ _ _ h => h) ⟨_, Or.inl ⟨by rfl, fun w2 hb => by (go_simp; try with_reducible rfl)⟩, _, by (go_simp; try rfl), ?_⟩
          refine wpAnyK_done (by kernel_rfl) ?_ _
          have hA : After V1 Y4 := bthen (Below.refl V1.heap.size V1).drew (show Below V1.drew.heap.size V1.drew Y4 from by rw [hQQ]; exact hQ)
          have eq9 : QQ.heap.size = V1.heap.size := by rw [← hQQ]; rfl
          rw [eq9] at hO9
          clear hQ bQ xQ eQ hQQ
          go_wp2_with fail
          go_meet
          exact ⟨_, _, rfl, hO9, hA⟩
        · go_simp
          have nw := alloc_new Y1 (.cells #[.bool KK, .int .u32 u, .int .i32 b0, .int .i32 b1, .int .i32 b2, .int .i32 b3, .int .i32 b4, .int .i32 b5, .int .i32 b6, .int .i32 b7, .int .i32 b8, .int .i32 b9, .int .i32 b10, .int .i32 b11] 71)
          have kp := Kp.of (X := []) nw.2.1 hQ.size
          have hne : QQ.heap.size ≠ Y1.heap.size := by have := (own.lt QQ.heap.size rfl).2.1; omega
          replace own := own.below nw.2.1
          have h5 := nw.2.2
          replace hQ := bthen hQ nw.2.1
          clear nw
          obtain ⟨Y2, hY2⟩ : ∃ X, Y1.alloc (.cells #[.bool KK, .int .u32 u, .int .i32 b0, .int .i32 b1, .int .i32 b2, .int .i32 b3, .int .i32 b4, .int .i32 b5, .int .i32 b6, .int .i32 b7, .int .i32 b8, .int .i32 b9, .int .i32 b10, .int .i32 b11] 71) = X := ⟨_, rfl⟩
          rw [hY2] at h5 kp hQ own ⊢
          clear hY2
          refine hK _ _ ⟨kp, ?_⟩
          clear hK
          clear kp
          refine wpAnyK_only 3 rfl (by kernel_rfl) (by rfl) (fun K hK => ?_)
          have sl9 := eQ.out.below hQ
          refine wp_appE (.tmp 23) (.tmp 25) 24 rfl QQ.heap.size 71 14 56 entO (by decide) (.slice (some ⟨QQ.heap.size, 0, none⟩) 0 0) 0 [] rfl own a n cap (entsV s.1) rfl sl9 (ents_one _) (by unfold maxLen; omega) (by omega) hQ.size ?_
          intro a3 c3 Y3 hO3 hG hN
          have kp : Kp QQ.heap.size [] Y2 Y3 := kpf (grow_below own hG (Below.refl _ _) (Nat.le_refl _) hQ.size)
          replace h5 := (hG.block _ (held_lt h5) (fun e => hne (Option.some.inj e).symm)).trans h5
          clear hne
          replace hQ := grow_below own hG hQ (Nat.le_refl _) hQ.size
          rw [ez, List.nil_append] at hO3
          rw [ez]
          clear own sl9 hG hN
          have own := hO3
          clear hO3
          refine hK _ _ ⟨kp, ?_⟩
          clear hK
          clear kp
          refine wpAnyK_only 6 rfl (by kernel_rfl) (by rfl) (fun K hK => ?_)
          have e6 : Els Y3 14 (some ⟨Y1.heap.size, 0, none⟩) 1 1 [entC (KK, u, [b0, b1, b2, b3, b4, b5, b6, b7, b8, b9, b10, b11])] := els_blk (m := 14) h5 rfl
          refine wp_appE (.tmp 26) (.tmp 28) 24 rfl QQ.heap.size 71 14 56 entO (by decide) (.slice a3 n c3) n (entsV s.1).flatten rfl own (some ⟨Y1.heap.size, 0, none⟩) 1 1 [entC (KK, u, [b0, b1, b2, b3, b4, b5, b6, b7, b8, b9, b10, b11])] rfl e6 (entC_one _) (by unfold maxLen; omega) (by omega) hQ.size ?_
          intro a9 c9 Y4 hO9 hG hN
          have kp : Kp QQ.heap.size [] Y3 Y4 := kpf (grow_below own hG (Below.refl _ _) (Nat.le_refl _) hQ.size)
          replace hQ := grow_below own hG hQ (Nat.le_refl _) hQ.size
          rw [← entsV_snoc] at hO9
          clear own e6 h5 hG hN
          refine hK _ _ ⟨kp, ?_⟩
          clear hK
          clear kp
          refine wpAnyK_take 7 rfl (by kernel_rfl) (by kernel_rfl) (by kernel_rfl) (fun _ _ _ _ h => h) ⟨_, Or.inl ⟨by rfl, fun w2 hb => by (go_simp; try with_reducible rfl)⟩, _, by (go_simp; try rfl), ?_⟩
          refine wpAnyK_done (by kernel_rfl) ?_ _
          have hA : After V1 Y4 := bthen (Below.refl V1.heap.size V1).drew (show Below V1.drew.heap.size V1.drew Y4 from by rw [hQQ]; exact hQ)
          have eq9 : QQ.heap.size = V1.heap.size := by rw [← hQQ]; rfl
          rw [eq9] at hO9
          clear hQ bQ xQ eQ hQQ
          go_wp2_with fail
          go_meet
          exact ⟨_, _, rfl, hO9, hA⟩
      · go_simp
        have nw := alloc_new QQ (.cells #[.bool KK, .int .u32 u, .int .i32 b0, .int .i32 b1, .int .i32 b2, .int .i32 b3, .int .i32 b4, .int .i32 b5, .int .i32 b6, .int .i32 b7, .int .i32 b8, .int .i32 b9, .int .i32 b10, .int .i32 b11] 71)
        have kp := Kp.of (X := []) nw.2.1 hQ.size
        have h5 := nw.2.2
        replace hQ := bthen hQ nw.2.1
        clear nw
        obtain ⟨Y1, hY1⟩ : ∃ X, QQ.alloc (.cells #[.bool KK, .int .u32 u, .int .i32 b0, .int .i32 b1, .int .i32 b2, .int .i32 b3, .int .i32 b4, .int .i32 b5, .int .i32 b6, .int .i32 b7, .int .i32 b8, .int .i32 b9, .int .i32 b10, .int .i32 b11] 71) = X := ⟨_, rfl⟩
        rw [hY1] at h5 kp hQ ⊢
        clear hY1
        refine hK _ _ ⟨kp, ?_⟩
        clear hK
        clear kp
        refine wpAnyK_only 0 rfl (by kernel_rfl) (by rfl) (fun K hK => ?_)
        go_simp
        have nw := alloc_new Y1 (.cells #[] 71)
        have kp := Kp.of (X := []) nw.2.1 hQ.size
        have own : OwnE 71 (Y1.alloc (.cells #[] 71)) QQ.heap.size 14 (.slice (some ⟨Y1.heap.size, 0, none⟩) 0 0) 0 [] := OwnE.lit Y1 #[] 0 QQ.heap.size 14 hQ.size (by unfold maxLen; omega) rfl
        have hne : Y1.heap.size ≠ QQ.heap.size := by have := held_lt h5; omega
        replace h5 := held_after nw.2.1 h5
        replace hQ := bthen hQ nw.2.1
        clear nw
        obtain ⟨Y2, hY2⟩ : ∃ X, Y1.alloc (.cells #[] 71) = X := ⟨_, rfl⟩
        rw [hY2] at own kp hQ h5 ⊢
        clear hY2
        refine hK _ _ ⟨kp, ?_⟩
        clear hK
        clear kp
        refine wpAnyK_only 3 rfl (by kernel_rfl) (by rfl) (fun K hK => ?_)
        have sl9 := eQ.out.below hQ
        refine wp_appE (.tmp 23) (.tmp 25) 24 rfl QQ.heap.size 71 14 56 entO (by decide) (.slice (some ⟨Y1.heap.size, 0, none⟩) 0 0) 0 [] rfl own a n cap (entsV s.1) rfl sl9 (ents_one _) (by unfold maxLen; omega) (by omega) hQ.size ?_
        intro a3 c3 Y3 hO3 hG hN
        have kp : Kp QQ.heap.size [] Y2 Y3 := kpf (grow_below own hG (Below.refl _ _) (Nat.le_refl _) hQ.size)
        replace h5 := (hG.block _ (held_lt h5) (fun e => hne (Option.some.inj e).symm)).trans h5
        clear hne
        replace hQ := grow_below own hG hQ (Nat.le_refl _) hQ.size
        rw [ez, List.nil_append] at hO3
        rw [ez]
        clear own sl9 hG hN
        have own := hO3
        clear hO3
        refine hK _ _ ⟨kp, ?_⟩
        clear hK
        clear kp
        refine wpAnyK_only 6 rfl (by kernel_rfl) (by rfl) (fun K hK => ?_)
        have e6 : Els Y3 14 (some ⟨QQ.heap.size, 0, none⟩) 1 1 [entC (KK, u, [b0, b1, b2, b3, b4, b5, b6, b7, b8, b9, b10, b11])] := els_blk (m := 14) h5 rfl
        refine wp_appE (.tmp 26) (.tmp 28) 24 rfl QQ.heap.size 71 14 56 entO (by decide) (.slice a3 n c3) n (entsV s.1).flatten rfl own (some ⟨QQ.heap.size, 0, none⟩) 1 1 [entC (KK, u, [b0, b1, b2, b3, b4, b5, b6, b7, b8, b9, b10, b11])] rfl e6 (entC_one _) (by unfold maxLen; omega) (by omega) hQ.size ?_
        intro a9 c9 Y4 hO9 hG hN
        have kp : Kp QQ.heap.size [] Y3 Y4 := kpf (grow_below own hG (Below.refl _ _) (Nat.le_refl _) hQ.size)
        replace hQ := grow_below own hG hQ (Nat.le_refl _) hQ.size
        rw [← entsV_snoc] at hO9
        clear own e6 h5 hG hN
        refine hK _ _ ⟨kp, ?_⟩
        clear hK
        clear kp
        refine wpAnyK_take 7 rfl (by kernel_rfl) (by kernel_rfl) (by kernel_rfl) (fun _ _ _ _ h => h) ⟨_, Or.inl ⟨by rfl, fun w2 hb => by (go_simp; try with_reducible rfl)⟩, _, by (go_simp; try rfl), ?_⟩
        refine wpAnyK_done (by kernel_rfl) ?_ _
        have hA : After V1 Y4 := bthen (Below.refl V1.heap.size V1).drew (show Below V1.drew.heap.size V1.drew Y4 from by rw [hQQ]; exact hQ)
        have eq9 : QQ.heap.size = V1.heap.size := by rw [← hQQ]; rfl
        rw [eq9] at hO9
        clear hQ bQ xQ eQ hQQ
        go_wp2_with fail
        go_meet
        exact ⟨_, _, rfl, hO9, hA⟩
    case rest =>
      obtain ⟨a7, c7, rfl, hO7, hA⟩ := hcut
      have ra2 := hid (held_after hA ra.out)
      have rr2 := hid (held_after hA rr.out)
      have rt2 := hid (held_after hA rt.out)
      have hB3 := bthen hB2.out hA
      have hE3 := hid (hE2.out.below hA)
      have hE7 := hO7.els hel.out hmx.out
      have hty := hid (et_own hO7)
      have haq : ∀ q, a7 = some q → V1.heap.size ≤ q.block := by
        intro q e
        obtain ⟨a8, c8, e8, _, _, _, h4⟩ := hO7.sl
        cases e8
        exact (h4 q e).2.2
      clear hA ra rr rt hB2 hE2 hO7 rx
      have hB3h := hid hB3
      go_wp2_with fail
      refine (hsz.out _ a7 c7 hE7).mono ?_
      rintro e V3 ⟨rfl, hA⟩
      have ra3 := held_after hA ra2.out
      have rr3 := hid (held_after hA rr2.out)
      have rt3 := held_after hA rt2.out
      have hB4 := bthen hB3 hA
      have hE4 := hE3.out.below hA
      have hE8 := hid (hE7.below hA)
      replace hty := hid (et_aft hty.out hA)
      clear hA ra2 rr2 rt2 hB3 hB3h hE3 hE7 hsz hel hmx
      by_cases hbig : 248 < sz
      case neg =>
        have qs : ¬ (248 : Int) < (sz : Int) := by omega
        have hne7 : ∀ q, a7 = some q → q.block ≠ p0_0 ∧ q.block ≠ p0_2 := fun q e => by have := haq q e; omega
        have zz1 := held_cell ra3 1 _ rfl
        have ff1 := held_free ra3 1
        obtain ⟨S1, hS1, t1, o1⟩ := st1 ra3 1 (.slice a7 (n + 1) c7)
        have t1b := (show S1.heap[p0_0]? = some (.cells #[.int .i64 (ev : Int), .slice a7 (n + 1) c7, .int .i64 (rc : Nat), .int .i64 (bk : Nat)] 77 (0, 0)) from t1)
        have zz2 := held_cell t1b 2 _ rfl
        have ff2 := held_free t1b 2
        obtain ⟨rc2, hrc2⟩ : ∃ z, rc + 1 = z := ⟨_, rfl⟩
        have wr3 : IntKind.i64.wrap ((rc : Int) + 1) = (rc2 : Int) := by rw [IntKind.wrap_i64]; omega
        obtain ⟨S2, hS2, t2, o2⟩ := st1 t1b 2 (.int .i64 (rc2 : Int))
        have t2b := (show S2.heap[p0_0]? = some (.cells #[.int .i64 (ev : Int), .slice a7 (n + 1) c7, .int .i64 (rc2 : Nat), .int .i64 (bk : Nat)] 77 (0, 0)) from t2)
        have q2 := held_only o2 (fun e => d02 e.symm) (held_only o1 (fun e => d02 e.symm) rt3)
        have hB5 := belowS (belowS hB4 o1 np0) o2 np0
        have hE5 := els_only (els_only hE8.out o1 (fun q e => (hne7 q e).1)) o2 (fun q e => (hne7 q e).1)
        have xx0 := held_cell t2b 0 _ rfl
        have xx1 := held_cell t2b 1 _ rfl
        have xx2 := held_cell t2b 2 _ rfl
        have xx3 := held_cell t2b 3 _ rfl
        have uu0 := held_cell q2 0 _ rfl
        have uu1 := held_cell q2 1 _ rfl
        have uu2 := held_cell q2 2 _ rfl
        have uu3 := held_cell q2 3 _ rfl
        have gg0 := held_free q2 0
        have gg1 := held_free q2 1
        have gg2 := held_free q2 2
        have gg3 := held_free q2 3
        obtain ⟨W9, hW9, ya, yO⟩ := st4w q2 (.int .i64 (ev : Int)) (.slice a7 (n + 1) c7) (.int .i64 (rc2 : Nat)) (.int .i64 (bk : Nat))
        have hB9 := hid (belowS hB5 yO np2)
        have hE9 := hid (els_only hE5 yO (fun q e => (hne7 q e).2))
        have ty9 := hid (et_only (et_only (et_only hty.out o1 (fun q e => (hne7 q e).1)) o2 (fun q e => (hne7 q e).1)) yO (fun q e => (hne7 q e).2))
        have ez0 := held_cell ya 0 _ rfl
        have ez1 := held_cell ya 1 _ rfl
        have ez2 := held_cell ya 2 _ rfl
        have ez3 := held_cell ya 3 _ rfl
        clear yO ya t1 t1b t2 t2b o1 o2 q2 hB5 hE5
        replace hrc2 := hid hrc2
        go_wp2_with fail
        refine bodyPost_ret (v := .tuple #[.agg #[.int .i64 (ev : Int), .slice a7 (n + 1) c7, .int .i64 (rc2 : Nat), .int .i64 (bk : Nat)], .slice none 0 0]) (by simp [results, Try.results28, go_sem, ez0, ez1, ez2, ez3]) rfl ?_
        rw [hnt.out hbig]
        try dsimp only
        refine ⟨a7, c7, none, 0, ?_, ?_, Own.nil _ _ _ _, hB9.out, (fun q e => .inr (by have := haq q e; omega)), fun _ => ty9.out⟩
        · try dsimp only
          rw [e1.out, hn.out, hrc2.out]; try rfl
        · try dsimp only
          rw [e1.out, hn.out]; exact hE9.out
      have qs : (248 : Int) < (sz : Int) := by omega
      have hov2 := hov.out hbig
      replace hov := hid hov2
      clear hov2 hnt hE8 haq hty
      have y0 := held_cell ra3 0 _ rfl
      have y1 := held_cell ra3 1 _ rfl
      have y2 := held_cell ra3 2 _ rfl
      have y3 := held_cell ra3 3 _ rfl
      have hlt3 : ∀ p, a = some p → p.block < V3.heap.size := fun p e => by have := ha p e; have := hB4.size; omega
      go_wp2_with fail
      refine (hkf.out _ a cap hE4 hlt3).mono ?_
      rintro e V4 ⟨a4, c4, ta, tc, rfl, hE5, hTo, hA, hfr, -⟩
      have ra4 := held_after hA ra3
      have rr4 := held_after hA rr3.out
      have rt4 := held_after hA rt3
      have hB5 := bthen hB4 hA
      have hTo2 := hTo.base hB4.size
      clear hA ra3 rt3 rr3 hB4 hE4 hE5 hTo hkf hlt3 hfr y0 y1 y2 y3
      obtain ⟨TL, s4⟩ := TT
      obtain ⟨l4, rc4, bk4⟩ := s4
      have hf1 := hfc.out.1
      have hf2 := hfc.out.2
      dsimp only at hf1 hf2 hTo2 ⊢
      have hf3 : rc = rc4 := by rw [hf1]; exact hrc.out.symm
      subst hf3
      clear hf1 hf2
      have y0 := held_cell ra4 0 _ rfl
      have y1 := held_cell ra4 1 _ rfl
      have y2 := held_cell ra4 2 _ rfl
      have y3 := held_cell ra4 3 _ rfl
      have v0 := held_free ra4 0
      have v1 := held_free ra4 1
      have v2 := held_free ra4 2
      have v3 := held_free ra4 3
      obtain ⟨l4n, hl4⟩ : ∃ z, l4.length = z := ⟨_, rfl⟩
      try rw [hl4]
      obtain ⟨W5, hW5, yb, yP⟩ := st4w ra4 (.int .i64 (ev : Int)) (.slice a4 l4n c4) (.int .i64 (rc : Nat)) (.int .i64 (bk4 : Nat))
      have rr5 := held_only yP (show p0_1 ≠ p0_0 from fun e => d_p0_0_p0_1 e.symm) rr4
      have rt5 := held_only yP (fun e => d02 e.symm) rt4
      have hB6 := belowS hB5 yP np0
      have hT5 := hTo2.kept2 ra4 (by decide) yP
      clear yP ra4 rr4 rt4 hB5 hTo2
      have k0 := held_cell rr5 0 _ rfl
      have k1 := held_cell rr5 1 _ rfl
      have k2 := held_cell rr5 2 _ rfl
      have k3 := held_cell rr5 3 _ rfl
      have k4 := held_cell rr5 4 _ rfl
      have k5 := held_cell rr5 5 _ rfl
      have k6 := held_cell rr5 6 _ rfl
      have k7 := held_cell rr5 7 _ rfl
      have k8 := held_cell rr5 8 _ rfl
      have k9 := held_cell rr5 9 _ rfl
      have k10 := held_cell rr5 10 _ rfl
      have k11 := held_cell rr5 11 _ rfl
      have k12 := held_cell rr5 12 _ rfl
      have nC := alloc_new W5 (.cells #[.bool true, .int .u32 u, .int .i32 b0, .int .i32 b1, .int .i32 b2, .int .i32 b3, .int .i32 b4, .int .i32 b5, .int .i32 b6, .int .i32 b7, .int .i32 b8, .int .i32 b9, .int .i32 b10, .int .i32 b11] 71)
      have hAC := nC.2.1
      have rC := nC.2.2
      have hE6 := els_blk (m := 14) rC rfl
      have ty6 : EtAt (W5.alloc (.cells #[.bool true, .int .u32 u, .int .i32 b0, .int .i32 b1, .int .i32 b2, .int .i32 b3, .int .i32 b4, .int .i32 b5, .int .i32 b6, .int .i32 b7, .int .i32 b8, .int .i32 b9, .int .i32 b10, .int .i32 b11] 71)) (some ⟨W5.heap.size, 0, none⟩) := fun q e => by cases e; exact ⟨_, rC⟩
      have rb6 := held_after hAC yb
      have rt6 := held_after hAC rt5
      have hB7 := bthen hB6 hAC
      have hT6 := hT5.below hAC
      have s5 := hB6.size
      have lW := held_lt yb
      have lW2 := held_lt rt5
      clear nC hAC rC yb rt5 hB6 hT5
      obtain ⟨W6, hW6⟩ : ∃ X, W5.alloc (.cells #[.bool true, .int .u32 u, .int .i32 b0, .int .i32 b1, .int .i32 b2, .int .i32 b3, .int .i32 b4, .int .i32 b5, .int .i32 b6, .int .i32 b7, .int .i32 b8, .int .i32 b9, .int .i32 b10, .int .i32 b11] 71) = X := ⟨_, rfl⟩
      rw [hW6] at hE6 rb6 rt6 hB7 hT6 ty6
      obtain ⟨pc, hpc⟩ : ∃ X, W5.heap.size = X := ⟨_, rfl⟩
      rw [hpc] at hE6 s5 lW lW2 ty6
      have hE66 : Els W6 14 (some ⟨pc, 0, none⟩) 1 1 [entC (true, u, [b0, b1, b2, b3, b4, b5, b6, b7, b8, b9, b10, b11])] := hE6
      clear hE6
      have hne6 : ∀ q, (some ⟨pc, 0, none⟩ : Option Addr) = some q → q.block ≠ p0_0 ∧ q.block ≠ p0_2 := fun q e => by cases e; exact ⟨by show pc ≠ _; omega, by show pc ≠ _; omega⟩
      have zz1 := held_cell rb6 1 _ rfl
      have ff1 := held_free rb6 1
      obtain ⟨S1, hS1, t1, o1⟩ := st1 rb6 1 (.slice (some ⟨pc, 0, none⟩) 1 1)
      have t1b := (show S1.heap[p0_0]? = some (.cells #[.int .i64 (ev : Int), .slice (some ⟨pc, 0, none⟩) 1 1, .int .i64 (rc : Nat), .int .i64 (bk4 : Nat)] 77 (0, 0)) from t1)
      have zz2 := held_cell t1b 2 _ rfl
      have ff2 := held_free t1b 2
      obtain ⟨rc2, hrc2⟩ : ∃ z, rc + 1 = z := ⟨_, rfl⟩
      have wr3 : IntKind.i64.wrap ((rc : Int) + 1) = (rc2 : Int) := by rw [IntKind.wrap_i64]; omega
      obtain ⟨S2, hS2, t2, o2⟩ := st1 t1b 2 (.int .i64 (rc2 : Int))
      have t2b := (show S2.heap[p0_0]? = some (.cells #[.int .i64 (ev : Int), .slice (some ⟨pc, 0, none⟩) 1 1, .int .i64 (rc2 : Nat), .int .i64 (bk4 : Nat)] 77 (0, 0)) from t2)
      have q2 := held_only o2 (fun e => d02 e.symm) (held_only o1 (fun e => d02 e.symm) rt6)
      have hB5 := belowS (belowS hB7 o1 np0) o2 np0
      have hE5 := els_only (els_only hE66 o1 (fun q e => (hne6 q e).1)) o2 (fun q e => (hne6 q e).1)
      have tO2 := (hT6.kept2 rb6 (by decide) o1).kept2 t1b (by decide) o2
      have xx0 := held_cell t2b 0 _ rfl
      have xx1 := held_cell t2b 1 _ rfl
      have xx2 := held_cell t2b 2 _ rfl
      have xx3 := held_cell t2b 3 _ rfl
      have uu0 := held_cell q2 0 _ rfl
      have uu1 := held_cell q2 1 _ rfl
      have uu2 := held_cell q2 2 _ rfl
      have uu3 := held_cell q2 3 _ rfl
      have gg0 := held_free q2 0
      have gg1 := held_free q2 1
      have gg2 := held_free q2 2
      have gg3 := held_free q2 3
      obtain ⟨W9, hW9, ya, yO⟩ := st4w q2 (.int .i64 (ev : Int)) (.slice (some ⟨pc, 0, none⟩) 1 1) (.int .i64 (rc2 : Nat)) (.int .i64 (bk4 : Nat))
      have hB9 := hid (belowS hB5 yO np2)
      have hE9 := hid (els_only hE5 yO (fun q e => (hne6 q e).2))
      have ty9 := hid (et_only (et_only (et_only ty6 o1 (fun q e => (hne6 q e).1)) o2 (fun q e => (hne6 q e).1)) yO (fun q e => (hne6 q e).2))
      have tO9 := hid (tO2.kept2 q2 (by decide) yO)
      have ez0 := held_cell ya 0 _ rfl
      have ez1 := held_cell ya 1 _ rfl
      have ez2 := held_cell ya 2 _ rfl
      have ez3 := held_cell ya 3 _ rfl
      clear yO ya t1 t1b t2 t2b o1 o2 q2 hB5 hE5
      replace hrc2 := hid hrc2
      go_wp2_with fail
      refine bodyPost_ret (v := .tuple #[.agg #[.int .i64 (ev : Int), .slice (some ⟨pc, 0, none⟩) 1 1, .int .i64 (rc2 : Nat), .int .i64 (bk4 : Nat)], .slice ta TL.length tc]) (by simp [results, Try.results28, go_sem, ez0, ez1, ez2, ez3]) rfl ?_
      rw [hov.out]
      refine ⟨some ⟨pc, 0, none⟩, 1, ta, tc, ?_, ?_, tO9.out, hB9.out, (fun q e => .inr (by cases e; exact s5)), fun _ => ty9.out⟩
      · try dsimp only
        rw [hrc2.out]; try rfl
      · exact hE9.out

end Go.Proofs.Ytlfbhfmchdbnoaa

/- Package flog: the papers' Write. -/
namespace Go.Proofs.Ytlfbhfmchdbnoaa
open Go.ChangeShapes Go.WideShapes Go.ChangeAt Go.RowKit
set_option linter.unusedVariables false
set_option linter.unusedSimpArgs false

theorem et_grown {k1 : IntKind} {E1 : TypeId} {w w2 : World} {b1 : Nat} {v : Value} {zs : List Int} {a : Option Addr} (h : EtAt w a) (hO : Own k1 E1 w b1 v zs) (hG : w.grownBy w2 v.ownBlock) (hT : 71 ≠ E1) : EtAt w2 a := fun q e => by
  obtain ⟨cs, hc⟩ := h q e
  exact ⟨cs, held_grown hc hG (own_ne hO hc hT)⟩
theorem els_grownE {k1 : IntKind} {E1 : TypeId} {w w2 : World} {b1 m len cap : Nat} {v : Value} {zs : List Int} {a : Option Addr} {xs : List (List Value)} (hE : Els w m a len cap xs) (h : EtAt w a) (hO : Own k1 E1 w b1 v zs) (hG : w.grownBy w2 v.ownBlock) (hT : 71 ≠ E1) : Els w2 m a len cap xs :=
  ⟨hE.1, hE.2.1, hE.2.2.1, hE.2.2.2.1, fun i x hx => by
    obtain ⟨h1, b, off, e, hc⟩ := hE.2.2.2.2 i x hx
    obtain ⟨cs, hb⟩ := h _ e
    exact ⟨h1, b, off, e, fun j v hj => (World.cell?_of_block (w := w) ((hG.block b (held_lt hb) (own_ne hO hb hT)))).trans (hc j v hj)⟩⟩
theorem et_ne {w : World} {a : Option Addr} {p : Nat} {c : Array Value} {T : TypeId} (h : EtAt w a) (hp : w.heap[p]? = some (.cells c T (0, 0))) (hT : T ≠ 71) : ∀ q, a = some q → q.block ≠ p := fun q e e2 => by
  obtain ⟨cs, hc⟩ := h q e
  rw [e2, hp] at hc
  cases hc; exact hT rfl
theorem et_lt {w : World} {a : Option Addr} (h : EtAt w a) : ∀ q, a = some q → q.block < w.heap.size := fun q e => by
  obtain ⟨cs, hc⟩ := h q e
  exact held_lt hc
theorem sl_only9 {w w2 : World} {p : Nat} {a : Option Addr} {len cap : Nat} {zs : List Int} {e0 r0 b0 : Int} {s0 : Option Addr} {sl sc : Nat} (h : Sl .u8 w a len cap zs) (hp : w.heap[p]? = some (.cells #[.int .i64 e0, .slice s0 sl sc, .int .i64 r0, .int .i64 b0] 77 (0, 0))) (ho : Only p w w2) : Sl .u8 w2 a len cap zs :=
  h.other hp (by
    intro i x hh
    match i with
    | 0 => simp at hh
    | 1 => simp at hh
    | 2 => simp at hh
    | 3 => simp at hh
    | n + 4 => simp at hh) (fun b hb => ho.block b hb)
set_option maxRecDepth 100000 in
set_option maxHeartbeats 2000000 in
theorem rwrite_bad (ev : Int) (v : Value) (w : World) (h : ev < 1 ∨ 255 < ev) : Calls Try.prog 22 #[.int .i64 ev, v] w (WrOk w [] 1) := by
  by_cases h1 : ev < 1
  · go_enter Try.func22, Try.ntmps22
    go_wp2_with fail
    go_ret2
    exact ⟨none, 0, rfl, Own.nil _ _ _ _, Below.refl _ _⟩
  have h2 : 255 < ev := by omega
  go_enter Try.func22, Try.ntmps22
  go_wp2_with fail
  go_ret2
  exact ⟨none, 0, rfl, Own.nil _ _ _ _, Below.refl _ _⟩
set_option maxRecDepth 100000 in
set_option maxHeartbeats 16000000 in
theorem rwrite_any (ev : Nat) (a : Option Addr) (n cap : Nat) (l : List Rc) (w : World) (h1 : 1 ≤ ev) (h2 : ev ≤ 255) (hn : l.length = n) (h100 : n ≤ 1000) (hE : Els w 13 a n cap (recsV l)) (hl : ∀ r ∈ l, StK r) : Calls Try.prog 22 #[.int .i64 (ev : Int), .slice a n cap] w (WrOk w (writeS ev l) 0) := by
  have hall := hid (show l.take n = l by rw [← hn, List.take_length])
  replace hE := hid hE
  replace hl := hid hl
  replace hn := hid hn
  have q1 : ¬ (ev : Int) < 1 := by omega
  have q2 : ¬ (255 : Int) < ev := by omega
  have nw := alloc_new w (.cells #[.int .i64 (ev : Int), .slice none 0 0, .int .i64 0, .int .i64 0] 77)
  have hA := hid nw.2.1
  have rB := hid nw.2.2
  clear nw
  go_enter Try.func22, Try.ntmps22
  go_upto_region 4 with (fail)
  obtain ⟨V1, hV1⟩ : ∃ X, w.alloc (.cells #[.int .i64 (ev : Int), .slice none 0 0, .int .i64 0, .int .i64 0] 77) = X := ⟨_, rfl⟩
  rw [hV1] at hA rB
  try rw [hV1]
  obtain ⟨p6, hp6⟩ : ∃ X, w.heap.size = X := ⟨_, rfl⟩
  have hp : w.heap.size ≤ p6 := by omega
  rw [hp6] at rB
  try rw [hp6]
  clear hV1 hp6
  go_wp2_with fail
  go_loopw [7, 8] (fun ov ix wr => ∃ (k : Nat) (oa : Option Addr) (ol oc : Nat) (L : List Int) (l0 : List En) (rc bk m : Nat) (sa : Option Addr) (sc : Nat), k ≤ n ∧ ix = .int .i64 k ∧ ov = .slice oa ol oc ∧ Hid (L.length = ol) ∧ ol ≤ 256 * k ∧ Own .u8 5 wr w.heap.size (.slice oa ol oc) L ∧ wr.heap[p6]? = some (.cells #[.int .i64 (ev : Int), .slice sa m sc, .int .i64 (rc : Nat), .int .i64 (bk : Nat)] 77 (0, 0)) ∧ Els wr 14 sa m sc (entsV l0) ∧ EtAt wr sa ∧ Hid (l0.length = m) ∧ Hid (addsS ev ([], 0, 0) (l.take k) = (L, (l0, rc, bk))) ∧ Below w.heap.size w wr) (fun _ ix _ => n - (intOf ix).toNat)
  case atStart => exact ⟨0, none, 0, 0, [], [], 0, 0, 0, none, 0, by omega, rfl, rfl, hid rfl, by omega, Own.nil _ _ _ _, rB.out, Els.nil _ _, (fun q e => by cases e), hid rfl, hid rfl, hA.out⟩
  case round =>
    clear rB hA
    obtain ⟨k, oa, ol, oc, L, l0, rc, bk, m, sa, sc, hk, rfl, rfl, hol, hol2, hO, rB, hEs, hty, hm, hs, hA⟩ := hrel
    have sA := hA.size
    have hFk : FOk (l0, rc, bk) := by have := adds_ok (ev := ev) (l := l.take k) fok0 (fun r hr => hl.out r (List.mem_of_mem_take hr)); rw [hs.out] at this; exact this
    have hcn := adds_cnt ev (l.take k) ([], 0, 0)
    rw [hs.out, List.length_take] at hcn
    dsimp only at hcn
    have hc1 : rc ≤ 1000 := by omega
    have hc2 : bk ≤ 1000 := by omega
    clear hcn
    replace hO := hid hO
    replace hEs := hid hEs
    replace hty := hid hty
    have x0 := held_cell rB 0 _ rfl
    have x1 := held_cell rB 1 _ rfl
    have x2 := held_cell rB 2 _ rfl
    have x3 := held_cell rB 3 _ rfl
    replace rB := hid rB
    replace hA := hid hA
    by_cases hlt : (k : Int) < n
    case neg =>
      obtain rfl : k = n := by omega
      have hws : writeS ev l = L ++ (flushS (l0, rc, bk)).1 := by unfold writeS; rw [← hall.out, hs.out]
      have hfl := (told_wf hFk).2
      have kF := fun U h1 h2 => rflush_any ev (l0, rc, bk) sa sc U h1 h2 hFk (show bk ≤ 1000000 by omega)
      obtain ⟨r, hr⟩ : ∃ r, flushS (l0, rc, bk) = r := ⟨_, rfl⟩
      rw [hr] at kF hws hfl
      obtain ⟨T, s2⟩ := r
      obtain ⟨l2, rc2, bk2⟩ := s2
      dsimp only at hws hfl kF
      rw [hm.out] at kF
      replace hws := hid hws
      replace kF := hid kF
      clear hr hs
      have ltE := et_lt hty.out
      go_wp2_with fail
      refine (kF.out _ hEs.out ltE).mono ?_
      rintro e V2 ⟨a2, c2, ta, tc, rfl, hE2, hT, hA2, -, -⟩
      dsimp only at hT ⊢
      have hO2 := hid (hO.out.below hA2)
      have hB2 := hid (bthen hA.out hA2)
      have sl2 := hid hT.slf
      clear hT hA2 hE2 hA hO kF rB hEs hty ltE x0 x1 x2 x3
      obtain ⟨l2n, hl2n⟩ : ∃ z, l2.length = z := ⟨_, rfl⟩
      try rw [hl2n]
      have nC := alloc_new V2 (.cells #[.int .i64 (ev : Int), .slice a2 l2n c2, .int .i64 (rc2 : Nat), .int .i64 (bk2 : Nat)] 77)
      have hO3 := hid (hO2.out.below nC.2.1)
      have hB3 := bthen hB2.out nC.2.1
      have sl3 := hid (sl2.out.below nC.2.1)
      clear nC hO2 hB2 sl2
      obtain ⟨V3, hV3⟩ : ∃ X, V2.alloc (.cells #[.int .i64 (ev : Int), .slice a2 l2n c2, .int .i64 (rc2 : Nat), .int .i64 (bk2 : Nat)] 77) = X := ⟨_, rfl⟩
      rw [hV3] at hO3 hB3 sl3
      have s2z := hB3.size
      have hla := hid (show L.length + T.length ≤ 140737488355328 / 1 by have := hol.out; omega)
      replace hl2n := hid hl2n
      go_wp2_with (first | (at_builtin; refine wpList_app _ rfl (.tmp 45) (.tmp 46) 22 rfl w.heap.size 5 .u8 1 bytesOf (.slice oa ol oc) L rfl hO3.out ta tc T rfl sl3.out.2.2.2.2 sl3.out.2.2.2.1 hla.out (by omega) s2z ?_))
      intro v9 w9 hO9 hG
      obtain ⟨ga, gc, hv9, -⟩ := hO9.sl
      subst hv9
      have hB9 := hid (hO3.out.grew hG hB3 (Nat.le_refl _) s2z)
      clear hG hO3 hB3
      rw [← hws.out] at hO9 ⊢
      obtain ⟨Z, hZ⟩ : ∃ z, writeS ev l = z := ⟨_, rfl⟩
      rw [hZ] at hO9 ⊢
      clear hws
      replace hZ := hid hZ
      replace hO9 := hid hO9
      go_wp2_with fail
      go_ret2
      rw [hZ.out]
      exact ⟨ga, gc, rfl, hO9.out, hB9.out⟩
    obtain ⟨x, hx⟩ : ∃ x, l[k]? = some x := ⟨_, List.getElem?_eq_getElem (show k < l.length by have := hn.out; omega)⟩
    have hxo := hl.out x (List.mem_of_getElem? hx)
    have hsn := addsS_snoc ev (l.take k) ([], 0, 0) x
    rw [← take_snocR hx, hs.out] at hsn
    dsimp only at hsn
    have hfl := (add_wf (ev := ev) (r := x) hFk).2
    obtain ⟨u, bl⟩ := x
    obtain ⟨hu, hbl, hbb⟩ := hxo
    dsimp only at hu hbl hbb
    obtain ⟨b0, b1, b2, b3, b4, b5, b6, b7, b8, b9, b10, b11, rfl⟩ := list12 hbl
    obtain ⟨bb, off, rfl, g0, g1, g2, g3, g4, g5, g6, g7, g8, g9, g10, g11, g12⟩ := (hE.out.below hA.out).at13 (recsV_at hx)
    have kz : (0 : Int) ≤ k := by omega
    have wk : IntKind.i64.wrap ((k : Int) + 1) = (k : Int) + 1 := by rw [IntKind.wrap_i64]; omega
    have hk1 := hid (show k + 1 ≤ n by omega)
    have kA := fun U h1 h3 => radd_any ev (l0, rc, bk) u b0 b1 b2 b3 b4 b5 b6 b7 b8 b9 b10 b11 sa sc U h1 h3 hFk (by omega) h2 (show rc ≤ 1000000 by omega) (show bk ≤ 1000000 by omega) hu hbb
    obtain ⟨r, hr⟩ : ∃ r, addS ev (l0, rc, bk) (u, [b0, b1, b2, b3, b4, b5, b6, b7, b8, b9, b10, b11]) = r := ⟨_, rfl⟩
    rw [hr] at kA hsn hfl
    clear hr
    obtain ⟨T, s2⟩ := r
    obtain ⟨l2, rc2, bk2⟩ := s2
    dsimp only at hsn hfl kA
    rw [hm.out] at kA
    replace hsn := hid hsn
    replace kA := hid kA
    clear hx hbl hs hbb hk
    go_upto_region 8 with (fail)
    obtain ⟨m2, hm2⟩ : ∃ z, l2.length = z := ⟨_, rfl⟩
    replace hm2 := hid hm2
    go_cut [9, 10] from 27 to 35 (fun s9 s10 wx => ∃ (p9 : Nat) (a2 : Option Addr) (c2 : Nat) (ta : Option Addr) (tc : Nat), s9 = .pointer (some ⟨p9, 0, none⟩) ∧ s10 = .slice ta T.length tc ∧ wr.heap.size ≤ p9 ∧ wx.heap[p9]? = some (.cells #[.int .i64 (ev : Int), .slice a2 m2 c2, .int .i64 (rc2 : Nat), .int .i64 (bk2 : Nat)] 77 (0, 0)) ∧ Els wx 14 a2 m2 c2 (entsV l2) ∧ EtAt wx a2 ∧ Sl .u8 wx ta T.length tc T ∧ After wr wx)
    case first =>
      obtain ⟨QQ, hQQ⟩ : ∃ X, wr.drew = X := ⟨_, rfl⟩
      have bQ := (show wr.drew.heap[p6]? = _ from rB.out)
      have eQ := (show Els wr.drew 14 sa m sc (entsV l0) from hEs.out)
      have yQ := (show EtAt wr.drew sa from hty.out)
      have v0 := (show wr.drew.cell? _ = _ from g0)
      have v1 := (show wr.drew.cell? _ = _ from g1)
      have v2 := (show wr.drew.cell? _ = _ from g2)
      have v3 := (show wr.drew.cell? _ = _ from g3)
      have v4 := (show wr.drew.cell? _ = _ from g4)
      have v5 := (show wr.drew.cell? _ = _ from g5)
      have v6 := (show wr.drew.cell? _ = _ from g6)
      have v7 := (show wr.drew.cell? _ = _ from g7)
      have v8 := (show wr.drew.cell? _ = _ from g8)
      have v9 := (show wr.drew.cell? _ = _ from g9)
      have v10 := (show wr.drew.cell? _ = _ from g10)
      have v11 := (show wr.drew.cell? _ = _ from g11)
      have v12 := (show wr.drew.cell? _ = _ from g12)
      rw [hQQ] at bQ eQ yQ v0 v1 v2 v3 v4 v5 v6 v7 v8 v9 v10 v11 v12
      replace eQ := hid eQ
      replace yQ := hid yQ
      have hQ := Below.refl QQ.heap.size QQ
      have lb := held_lt bQ
      have lv := World.block_lt_of_cell? QQ _ v0
      refine wp_region_K (N := QQ.heap.size) (X := []) (by kernel_rfl) ?_
      rw [hQQ]
      refine wpAnyK_take 0 rfl (by kernel_rfl) (by kernel_rfl) (by kernel_rfl) (fun _ _ _ _ h => h) ⟨_, Or.inl ⟨by rfl, fun w2 hb => by (have g0 := hb.cellB (p := ⟨p6, 0, none⟩) (by show p6 < _; exact lb) (by simp) (held_cell bQ 0 _ rfl); have g1 := hb.cellB (p := ⟨p6, 1, none⟩) (by show p6 < _; exact lb) (by simp) (held_cell bQ 1 _ rfl); have g2 := hb.cellB (p := ⟨p6, 2, none⟩) (by show p6 < _; exact lb) (by simp) (held_cell bQ 2 _ rfl); have g3 := hb.cellB (p := ⟨p6, 3, none⟩) (by show p6 < _; exact lb) (by simp) (held_cell bQ 3 _ rfl); go_simp; try with_reducible rfl)⟩, _, by (go_simp; try rfl), ?_⟩
      refine wpAnyK_take 1 rfl (by kernel_rfl) (by kernel_rfl) (by kernel_rfl) (fun _ _ _ _ h => h) ⟨_, Or.inl ⟨by rfl, fun w2 hb => by (go_simp; try with_reducible rfl)⟩, _, by (go_simp; try rfl), ?_⟩
      refine wpAnyK_take 2 rfl (by kernel_rfl) (by kernel_rfl) (by kernel_rfl) (fun _ _ _ _ h => h) ⟨_, Or.inl ⟨by rfl, fun w2 hb => by (go_simp; try with_reducible rfl)⟩, _, by (go_simp; try rfl), ?_⟩
      refine wpAnyK_take 3 rfl (by kernel_rfl) (by kernel_rfl) (by kernel_rfl) (fun _ _ _ _ h => h) ⟨_, Or.inl ⟨by rfl, fun w2 hb => by (go_simp; try with_reducible rfl)⟩, _, by (go_simp; try rfl), ?_⟩
      refine wpAnyK_take 4 rfl (by kernel_rfl) (by kernel_rfl) (by kernel_rfl) (fun _ _ _ _ h => h) ⟨_, Or.inl ⟨by rfl, fun w2 hb => by (have g0 := hb.cellB (by show bb < _; exact lv) (by simp) v0; have g1 := hb.cellB (by show bb < _; exact lv) (by simp) v1; have g2 := hb.cellB (by show bb < _; exact lv) (by simp) v2; have g3 := hb.cellB (by show bb < _; exact lv) (by simp) v3; have g4 := hb.cellB (by show bb < _; exact lv) (by simp) v4; have g5 := hb.cellB (by show bb < _; exact lv) (by simp) v5; have g6 := hb.cellB (by show bb < _; exact lv) (by simp) v6; have g7 := hb.cellB (by show bb < _; exact lv) (by simp) v7; have g8 := hb.cellB (by show bb < _; exact lv) (by simp) v8; have g9 := hb.cellB (by show bb < _; exact lv) (by simp) v9; have g10 := hb.cellB (by show bb < _; exact lv) (by simp) v10; have g11 := hb.cellB (by show bb < _; exact lv) (by simp) v11; have g12 := hb.cellB (by show bb < _; exact lv) (by simp) v12; go_simp; try with_reducible rfl)⟩, _, by (go_simp; try rfl), ?_⟩
      refine wpAnyK_two 5 9 rfl rfl (by kernel_rfl) (by rfl) (by rfl) (fun K hK => ?_) (fun K hK => ?_)
      · go_simp
        refine (kA.out _ (eQ.out.below hQ) (et_lt (et_aft yQ.out hQ))).mono ?_
        rintro e Y1 ⟨a2, c2, ta, tc, rfl, hE2, hT, hA2, -, hEt⟩
        dsimp only at hT hE2 ⊢
        have hE3 := hid hE2
        have hE3b := hE3.out
        rw [hm2.out] at hE3b
        have hy3 := hid (hEt (et_aft yQ.out hQ))
        have sl3 := hT.slf
        have kp := Kp.of (X := []) hA2 hQ.size
        replace hQ := bthen hQ hA2
        clear hT hA2 hEt hE2 hE3
        try rw [hm2.out]
        go_simp
        refine hK _ _ ⟨kp, ?_⟩
        clear hK
        clear kp
        refine wpAnyK_take 6 rfl (by kernel_rfl) (by kernel_rfl) (by kernel_rfl) (fun _ _ _ _ h => h) ⟨_, Or.inl ⟨by rfl, fun w2 hb => by (go_simp; try with_reducible rfl)⟩, _, by (go_simp; try rfl), ?_⟩
        refine wpAnyK_take 7 rfl (by kernel_rfl) (by kernel_rfl) (by kernel_rfl) (fun _ _ _ _ h => h) ⟨_, Or.inl ⟨by rfl, fun w2 hb => by (go_simp; try with_reducible rfl)⟩, _, by (go_simp; try rfl), ?_⟩
        refine wpAnyK_take 8 rfl (by kernel_rfl) (by kernel_rfl) (by kernel_rfl) (fun _ _ _ _ h => h) ⟨_, Or.inl ⟨by rfl, fun w2 hb => by (go_simp; try with_reducible rfl)⟩, _, by (go_simp; try rfl), ?_⟩
        refine wpAnyK_only 9 rfl (by kernel_rfl) (by rfl) (fun K hK => ?_)
        go_simp
        have nw := alloc_new Y1 (.cells #[.int .i64 0, .slice none 0 0, .int .i64 0, .int .i64 0] 77)
        have kp := Kp.of (X := []) nw.2.1 hQ.size
        have r9 := nw.2.2
        have n9 : QQ.heap.size ≤ Y1.heap.size := hQ.size
        replace hE3b := hE3b.below nw.2.1
        replace hy3 := hid (et_aft hy3.out nw.2.1)
        replace sl3 := sl3.below nw.2.1
        replace hQ := bthen hQ nw.2.1
        clear nw
        obtain ⟨Y2, hY2⟩ : ∃ X, Y1.alloc (.cells #[.int .i64 0, .slice none 0 0, .int .i64 0, .int .i64 0] 77) = X := ⟨_, rfl⟩
        rw [hY2] at r9 kp hQ hE3b hy3 sl3 ⊢
        clear hY2
        refine hK _ _ ⟨kp, ?_⟩
        clear hK
        clear kp
        refine wpAnyK_only 10 rfl (by kernel_rfl) (by rfl) (fun K hK => ?_)
        have zz0 := held_cell r9 0 _ rfl
        have zz1 := held_cell r9 1 _ rfl
        have zz2 := held_cell r9 2 _ rfl
        have zz3 := held_cell r9 3 _ rfl
        have ff0 := held_free r9 0
        have ff1 := held_free r9 1
        have ff2 := held_free r9 2
        have ff3 := held_free r9 3
        obtain ⟨W9, hW9, ya, yO⟩ := st4w r9 (.int .i64 (ev : Int)) (.slice a2 m2 c2) (.int .i64 (rc2 : Nat)) (.int .i64 (bk2 : Nat))
        have ne9 := et_ne hy3.out r9 (by decide)
        have hE4 := els_only hE3b yO ne9
        have hy4 := et_only hy3.out yO ne9
        have sl4 := sl_only9 sl3 r9 yO
        have kp : Kp QQ.heap.size [] Y2 W9 := kpf (belowS (Below.refl QQ.heap.size Y2) yO n9)
        replace hQ := belowS hQ yO n9
        clear yO
        go_simp
        refine hK _ _ ⟨kp, ?_⟩
        clear hK
        clear kp
        refine wpAnyK_take 11 rfl (by kernel_rfl) (by kernel_rfl) (by kernel_rfl) (fun _ _ _ _ h => h) ⟨_, Or.inl ⟨by rfl, fun w2 hb => by (go_simp; try with_reducible rfl)⟩, _, by (go_simp; try rfl), ?_⟩
        refine wpAnyK_done (by kernel_rfl) ?_ _
        have hA9 : After wr W9 := bthen (Below.refl wr.heap.size wr).drew (show Below wr.drew.heap.size wr.drew W9 from by rw [hQQ]; exact hQ)
        have eq9 : QQ.heap.size = wr.heap.size := by rw [← hQQ]; rfl
        have n10 := Nat.le_trans (Nat.le_of_eq eq9.symm) n9
        clear hQ bQ eQ yQ hQQ eq9
        go_wp2_with fail
        go_meet
        exact ⟨_, _, _, _, _, rfl, rfl, n10, ya, hE4, hy4, sl4, hA9⟩
      · go_simp
        have nw := alloc_new QQ (.cells #[.int .i64 0, .slice none 0 0, .int .i64 0, .int .i64 0] 77)
        have kp := Kp.of (X := []) nw.2.1 hQ.size
        have r9 := nw.2.2
        have n9 : QQ.heap.size ≤ QQ.heap.size := hQ.size
        replace hQ := bthen hQ nw.2.1
        clear nw
        obtain ⟨Y1, hY1⟩ : ∃ X, QQ.alloc (.cells #[.int .i64 0, .slice none 0 0, .int .i64 0, .int .i64 0] 77) = X := ⟨_, rfl⟩
        rw [hY1] at r9 kp hQ ⊢
        clear hY1
        refine hK _ _ ⟨kp, ?_⟩
        clear hK
        clear kp
        refine wpAnyK_only 5 rfl (by kernel_rfl) (by rfl) (fun K hK => ?_)
        go_simp
        refine (kA.out _ (eQ.out.below hQ) (et_lt (et_aft yQ.out hQ))).mono ?_
        rintro e Y2 ⟨a2, c2, ta, tc, rfl, hE2, hT, hA2, -, hEt⟩
        dsimp only at hT hE2 ⊢
        have hE3 := hid hE2
        have hE3b := hE3.out
        rw [hm2.out] at hE3b
        have hy3 := hid (hEt (et_aft yQ.out hQ))
        have sl3 := hT.slf
        have kp := Kp.of (X := []) hA2 hQ.size
        replace r9 := held_after hA2 r9
        replace hQ := bthen hQ hA2
        clear hT hA2 hEt hE2 hE3
        try rw [hm2.out]
        go_simp
        refine hK _ _ ⟨kp, ?_⟩
        clear hK
        clear kp
        refine wpAnyK_take 6 rfl (by kernel_rfl) (by kernel_rfl) (by kernel_rfl) (fun _ _ _ _ h => h) ⟨_, Or.inl ⟨by rfl, fun w2 hb => by (go_simp; try with_reducible rfl)⟩, _, by (go_simp; try rfl), ?_⟩
        refine wpAnyK_take 7 rfl (by kernel_rfl) (by kernel_rfl) (by kernel_rfl) (fun _ _ _ _ h => h) ⟨_, Or.inl ⟨by rfl, fun w2 hb => by (go_simp; try with_reducible rfl)⟩, _, by (go_simp; try rfl), ?_⟩
        refine wpAnyK_take 8 rfl (by kernel_rfl) (by kernel_rfl) (by kernel_rfl) (fun _ _ _ _ h => h) ⟨_, Or.inl ⟨by rfl, fun w2 hb => by (go_simp; try with_reducible rfl)⟩, _, by (go_simp; try rfl), ?_⟩
        refine wpAnyK_only 10 rfl (by kernel_rfl) (by rfl) (fun K hK => ?_)
        have zz0 := held_cell r9 0 _ rfl
        have zz1 := held_cell r9 1 _ rfl
        have zz2 := held_cell r9 2 _ rfl
        have zz3 := held_cell r9 3 _ rfl
        have ff0 := held_free r9 0
        have ff1 := held_free r9 1
        have ff2 := held_free r9 2
        have ff3 := held_free r9 3
        obtain ⟨W9, hW9, ya, yO⟩ := st4w r9 (.int .i64 (ev : Int)) (.slice a2 m2 c2) (.int .i64 (rc2 : Nat)) (.int .i64 (bk2 : Nat))
        have ne9 := et_ne hy3.out r9 (by decide)
        have hE4 := els_only hE3b yO ne9
        have hy4 := et_only hy3.out yO ne9
        have sl4 := sl_only9 sl3 r9 yO
        have kp : Kp QQ.heap.size [] Y2 W9 := kpf (belowS (Below.refl QQ.heap.size Y2) yO n9)
        replace hQ := belowS hQ yO n9
        clear yO
        go_simp
        refine hK _ _ ⟨kp, ?_⟩
        clear hK
        clear kp
        refine wpAnyK_take 11 rfl (by kernel_rfl) (by kernel_rfl) (by kernel_rfl) (fun _ _ _ _ h => h) ⟨_, Or.inl ⟨by rfl, fun w2 hb => by (go_simp; try with_reducible rfl)⟩, _, by (go_simp; try rfl), ?_⟩
        refine wpAnyK_done (by kernel_rfl) ?_ _
        have hA9 : After wr W9 := bthen (Below.refl wr.heap.size wr).drew (show Below wr.drew.heap.size wr.drew W9 from by rw [hQQ]; exact hQ)
        have eq9 : QQ.heap.size = wr.heap.size := by rw [← hQQ]; rfl
        have n10 := Nat.le_trans (Nat.le_of_eq eq9.symm) n9
        clear hQ bQ eQ yQ hQQ eq9
        go_wp2_with fail
        go_meet
        exact ⟨_, _, _, _, _, rfl, rfl, n10, ya, hE4, hy4, sl4, hA9⟩
    case rest =>
      obtain ⟨p9, a2, c2, ta, tc, rfl, rfl, hp9, r9, hE2, hy2, sl2, hA2⟩ := hcut
      have rB2 := held_after hA2 rB.out
      have hO2 := hid (hO.out.below hA2)
      have hB2 := bthen hA.out hA2
      clear hA2 rB hO hA hEs hty kA x0 x1 x2 x3 g0 g1 g2 g3 g4 g5 g6 g7 g8 g9 g10 g11 g12
      have y0 := held_cell r9 0 _ rfl
      have y1 := held_cell r9 1 _ rfl
      have y2 := held_cell r9 2 _ rfl
      have y3 := held_cell r9 3 _ rfl
      have z0 := held_cell rB2 0 _ rfl
      have z1 := held_cell rB2 1 _ rfl
      have z2 := held_cell rB2 2 _ rfl
      have z3 := held_cell rB2 3 _ rfl
      have f0 := held_free rB2 0
      have f1 := held_free rB2 1
      have f2 := held_free rB2 2
      have f3 := held_free rB2 3
      obtain ⟨W9, hW9, ya, yO⟩ := st4w rB2 (.int .i64 (ev : Int)) (.slice a2 m2 c2) (.int .i64 (rc2 : Nat)) (.int .i64 (bk2 : Nat))
      have ne6 := et_ne hy2 rB2 (by decide)
      have hE4 := els_only hE2 yO ne6
      have hy4 := hid (et_only hy2 yO ne6)
      have sl4 := hid (sl_only9 sl2 rB2 yO)
      have hO4 := hid (hO2.out.kept2 rB2 (by decide) yO)
      have hB4 := belowS hB2 yO hp
      have s2z := hB4.size
      have ya2 := hid ya
      replace hE4 := hid hE4
      clear yO ya hE2 hy2 sl2 hO2 hB2 rB2 r9
      have hla := hid (show L.length + T.length ≤ 140737488355328 / 1 by have := hol.out; omega)
      go_wp2_with (first | (at_builtin; refine wpList_app _ rfl (.tmp 37) (.tmp 38) 22 rfl w.heap.size 5 .u8 1 bytesOf (.slice oa ol oc) L rfl hO4.out ta tc T rfl sl4.out.2.2.2.2 sl4.out.2.2.2.1 hla.out (by omega) s2z ?_))
      intro v9 w9 hO9 hG
      obtain ⟨ga, gc, hv9, -⟩ := hO9.sl
      subst hv9
      have hB9 := hid (hO4.out.grew hG hB4 (Nat.le_refl _) s2z)
      have rB9 := hid (held_grown ya2.out hG (own_ne hO4.out ya2.out (by decide)))
      have hE9 := hid (els_grownE hE4.out hy4.out hO4.out hG (by decide))
      have hy9 := hid (et_grown hy4.out hO4.out hG (by decide))
      have hl9 : (L ++ T).length ≤ 256 * (k + 1) := by rw [List.length_append]; have := hol.out; omega
      obtain ⟨Z, hZ⟩ : ∃ z, L ++ T = z := ⟨_, rfl⟩
      have hsn2 := hsn.out
      rw [hZ] at hO9 hl9 hsn2 ⊢
      obtain ⟨zl, hzl⟩ : ∃ z, Z.length = z := ⟨_, rfl⟩
      rw [hzl] at hO9 hl9 ⊢
      replace hzl := hid hzl
      replace hsn := hid hsn2
      clear hG hO4 hB4 ya2 hE4 hy4 sl4 hZ hsn2
      replace hO9 := hid hO9
      go_wp2_with fail
      go_roundw
      case rel => exact ⟨k + 1, ga, zl, gc, Z, l2, rc2, bk2, m2, a2, c2, hk1.out, by simp, rfl, hzl, hl9, hO9.out, rB9.out, hE9.out, hy9.out, hm2, hsn, hB9.out⟩
      case measure => simp [intOf]; omega

end Go.Proofs.Ytlfbhfmchdbnoaa
