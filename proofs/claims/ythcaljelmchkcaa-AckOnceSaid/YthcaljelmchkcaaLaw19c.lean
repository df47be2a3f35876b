/- AckPlays. -/
import Derived.Test.YthcaljelmchkcaaAck6
import Derived.Test.YthcaljelmchkcaaLaw19
import Derived.Test.YthcaljelmchkcaaEls
import Derived.Laws.StructEq
import Derived.Deep.DeepCutAuto
namespace Go.Proofs.Ythcaljelmchkcaa
open Go.ChangeShapes Go.WideShapes Go.ChangeAt Go.RowKit
set_option linter.unusedVariables false
set_option linter.unusedSimpArgs false

theorem hearS_bd (s : St) (b : Bool) (c i : Int) (k : Nat) (hc : 0 ≤ s.y ∧ 0 ≤ s.n ∧ 0 ≤ s.o) (hs : s.y + s.n + s.o + s.l.length ≤ k) (hl : s.l.length ≤ 16) : (hearS s b c i).1.l.length ≤ 16 ∧ 0 ≤ (hearS s b c i).1.y ∧ 0 ≤ (hearS s b c i).1.n ∧ 0 ≤ (hearS s b c i).1.o ∧ (hearS s b c i).1.y + (hearS s b c i).1.n + (hearS s b c i).1.o + (hearS s b c i).1.l.length ≤ ((k + 1 : Nat) : Int) ∧ (ofS (hearS s b c i).1.l c i : Int) = ofS s.l c i + (if (hearS s b c i).2 = true then -1 else 0) ∧ ((hearS s b c i).1.l.length : Int) = s.l.length + (if (hearS s b c i).2 = true then -1 else 0) ∧ ((hearS s b c i).2 = true ↔ 0 < ofS s.l c i) := by
  obtain ⟨l, y, n, o⟩ := s
  unfold hearS
  dsimp only at hc hs hl ⊢
  by_cases h : placeS l c i < l.length
  · have h1 := ofS_erase h
    have h2 := (ofS_pos l c i).2 h
    rw [if_pos h]
    dsimp only
    rw [List.length_eraseIdx, if_pos h, if_pos rfl]
    refine ⟨by omega, ?_, ?_, by omega, ?_, by omega, by omega, by simp [h2]⟩
    · cases b <;> simp <;> omega
    · cases b <;> simp <;> omega
    · cases b <;> simp <;> omega
  · have h2 : ¬ 0 < ofS l c i := fun h3 => h ((ofS_pos l c i).1 h3)
    rw [if_neg h]
    dsimp only
    exact ⟨hl, hc.1, hc.2.1, by omega, by omega, by simp, by simp, by simp [h2]⟩
theorem askS_bd (l : List (Int × Int)) (c i : Int) (y n o : Int) (k : Nat) (hs : y + n + o + l.length ≤ k) (hl : l.length ≤ 16) : (askS l c i).1.length ≤ 16 ∧ y + n + o + (askS l c i).1.length ≤ ((k + 1 : Nat) : Int) ∧ (ofS (askS l c i).1 c i : Int) = ofS l c i + (if (askS l c i).2 = true then 1 else 0) ∧ ((askS l c i).1.length : Int) = l.length + (if (askS l c i).2 = true then 1 else 0) := by
  cases h : (askS l c i).2
  · rw [ofS_ask0 h]; simp; omega
  · obtain ⟨h1, h2, h3⟩ := ofS_ask h
    rw [h1, h2]; simp; omega
theorem els_away {base p : Nat} {w w' : World} {m : Nat} {a : Option Addr} {len cap : Nat} {xs : List (List Value)} (h : Els w m a len cap xs) (he : BookEff base p w w') (hn : xs.length ≠ 0 → ∀ g, a = some g → g.block ≠ p ∧ some g.block ≠ wown p 1 w) : Els w' m a len cap xs :=
  ⟨h.1, h.2.1, h.2.2.1, h.2.2.2.1, fun i x hx => by
    obtain ⟨h1, b, off, e, hc⟩ := h.2.2.2.2 i x hx
    obtain ⟨n1, n2⟩ := hn (by have := (List.getElem?_eq_some_iff.1 hx).1; omega) _ e
    refine ⟨h1, b, off, e, fun j v hj => ?_⟩
    have hv := hc j v hj
    exact (World.cell?_of_block (w := w) (a := ⟨b, off + i * m + j, none⟩) (he.owp.block b (World.block_lt_of_cell? w _ hv) n1 n2)).trans hv⟩
theorem rx_aft {X : Option Nat} {W U : World} (h : After W U) : RX X W U := ⟨h.size, fun k hk _ => h.block k hk⟩
theorem els_live {w : World} {m : Nat} {a : Option Addr} {len cap : Nat} {xs : List (List Value)} (h : Els w m a len cap xs) (hm : 0 < m) (h0 : xs.length ≠ 0) : ∀ g, a = some g → g.block < w.heap.size := fun g hg => by
  obtain ⟨h1, b, off, e, hc⟩ := h.2.2.2.2 0 _ (List.getElem?_eq_getElem (by omega))
  rw [hg] at e; cases e
  have := hc 0 _ (List.getElem?_eq_getElem (by omega))
  exact (World.block_lt_of_cell? w ⟨b, off + 0 * m + 0, none⟩ this)
theorem acks_other {w w' : World} {a : Option Addr} {len cap q : Nat} {l : List (Int × Int)} {c : Array Value} {T : TypeId} (h : Els w 3 a len cap (acksV l)) (hq : w.heap[q]? = some (.cells c T (0, 0))) (hc : ∀ (i : Nat) (b : Bool), c[i]? ≠ some (.bool b)) (hw : ∀ b, b ≠ q → w'.heap[b]? = w.heap[b]?) : Els w' 3 a len cap (acksV l) :=
  ⟨h.1, h.2.1, h.2.2.1, h.2.2.2.1, fun i x hx => by
    obtain ⟨h1, b, off, e, hcc⟩ := h.2.2.2.2 i x hx
    refine ⟨h1, b, off, e, fun j v hj => ?_⟩
    have hne : b ≠ q := by
      intro e2
      subst e2
      obtain ⟨y, hy, rfl⟩ := List.mem_map.1 (List.mem_of_getElem? hx)
      have h0 := hcc 0 (.bool false) rfl
      rw [cell_of_row w b _ _ T (0, 0) hq] at h0
      exact hc _ _ h0
    exact (World.cell?_of_block (w := w) (a := ⟨b, off + i * 3 + j, none⟩) (hw b hne)).trans (hcc j v hj)⟩
theorem nobool4 {a : Option Addr} {l c : Nat} {x y z : Int} (i : Nat) (b : Bool) : (#[Value.slice a l c, .int .i64 x, .int .i64 y, .int .i64 z] : Array Value)[i]? ≠ some (.bool b) := by
  intro h
  match i with
  | 0 => cases h
  | 1 => cases h
  | 2 => cases h
  | 3 => cases h
  | n + 4 => simp at h
theorem BookAt.own_ne {w : World} {base p q : Nat} {l : List (Int × Int)} {y n o : Int} (h : BookAt w base p l y n o) {c : Array Value} {T : TypeId} (hq : w.heap[q]? = some (.cells c T (0, 0))) (hT : T ≠ 23) : wown p 1 w ≠ some q := by
  obtain ⟨a, cap, hp, hO⟩ := h
  rw [wown_at hp (j := 1) (v := .slice a l.length cap) rfl]
  exact hO.ne hq hT
theorem BookAt.own_lt {w : World} {base p : Nat} {l : List (Int × Int)} {y n o : Int} (h : BookAt w base p l y n o) : ∀ g, wown p 1 w = some g → g < w.heap.size := by
  obtain ⟨a, cap, hp, hO⟩ := h
  rw [wown_at hp (j := 1) (v := .slice a l.length cap) rfl]
  exact fun g e => (hO.lt g e).2.1
theorem BookAt.lt {w : World} {base p : Nat} {l : List (Int × Int)} {y n o : Int} (h : BookAt w base p l y n o) : p < w.heap.size := by
  obtain ⟨a, cap, hp, hO⟩ := h; exact held_lt hp
theorem BookAt.after {w w' : World} {base p : Nat} {l : List (Int × Int)} {y n o : Int} (h : BookAt w base p l y n o) (hA : After w w') : BookAt w' base p l y n o := by
  obtain ⟨a, cap, hp, hO⟩ := h; exact ⟨a, cap, held_after hA hp, hO.below hA⟩
theorem BookAt.only {w w' : World} {base p q : Nat} {l : List (Int × Int)} {y n o : Int} (h : BookAt w base p l y n o) (hO : Only q w w') (hne : p ≠ q) {c : Array Value} {T : TypeId} (hq : w.heap[q]? = some (.cells c T (0, 0))) (hT : T ≠ 23) : BookAt w' base p l y n o := by
  obtain ⟨a, cap, hp, hOw⟩ := h
  exact ⟨a, cap, (hO.block p hne).trans hp, hOw.kept fun g hg => hO.block g (fun e => by subst e; exact hOw.ne hq hT hg)⟩
/-- The papers' list lies apart from the book's. -/
def Away (p : Nat) (w : World) (a : Option Addr) (n : Nat) : Prop := n ≠ 0 → ∀ g, a = some g → g.block ≠ p ∧ some g.block ≠ wown p 1 w
theorem Away.eff {base p : Nat} {w w' : World} {m : Nat} {a : Option Addr} {len cap : Nat} {xs : List (List Value)} (h : Away p w a xs.length) (hE : Els w m a len cap xs) (hm : 0 < m) (he : BookEff base p w w') : Away p w' a xs.length := fun h0 g hg =>
  ⟨(h h0 g hg).1, fun e => by
    rcases he.owp.own _ e.symm with h2 | h2
    · exact (h h0 g hg).2 h2.symm
    · have := els_live hE hm h0 g hg; omega⟩
theorem Away.told {base p : Nat} {w w' : World} {l l' : List (Int × Int)} {y n o : Int} {a a' : Option Addr} {lk : List (Int × Int)} (h : Away p w a l.length) (hb : BookAt w base p lk y n o) (hA : After w w') (ht : (a' = a ∧ l' = l) ∨ ∀ g, a' = some g → w.heap.size ≤ g.block) : Away p w' a' l'.length := fun h0 g hg => by
  have e : wown p 1 w' = wown p 1 w := wown_same (hA.block p hb.lt)
  rw [e]
  rcases ht with ⟨rfl, rfl⟩ | h2
  · exact h h0 g hg
  · have h3 := h2 g hg
    exact ⟨by have := hb.lt; omega, fun e2 => by have := hb.own_lt _ e2.symm; omega⟩
theorem Away.only {p q : Nat} {w w' : World} {a : Option Addr} {n : Nat} (h : Away p w a n) (hO : Only q w w') (hne : p ≠ q) : Away p w' a n := fun h0 g hg => by
  rw [show wown p 1 w' = wown p 1 w from wown_same (hO.block p hne)]
  exact h h0 g hg
theorem wown_after {p : Nat} {w w' : World} (hp : p < w.heap.size) (h : After w w') : wown p 1 w' = wown p 1 w := wown_same (h.block p hp)
set_option maxRecDepth 100000 in
set_option maxHeartbeats 16000000 in
theorem law_AckPlays (a0 : Option Addr) (len0 cap0 : Nat) (x0 : List (List Value)) (W : World) (w0 : Els W 4 a0 len0 cap0 x0) (t0 : ∀ x ∈ x0, (∃ (c0 : Bool) (c1 : Bool) (c2 : Int) (c3 : Int), x = [.bool c0, .bool c1, .int .i64 c2, .int .i64 c3] ∧ ((Lit.int .i64 c2).wf = true) ∧ ((Lit.int .i64 c3).wf = true))) :
    Calls Try.prog 4 #[.slice a0 len0 cap0] W fun e w' => e = .returned (.bool true) ∧ Below W.heap.size W w' := by
  have hx0 := w0.1
  have hlc := w0.2.1
  have hcm := w0.2.2.1
  have hmm : maxLen ≤ 9223372036854775807 := by decide
  replace w0 := hid w0
  replace t0 := hid t0
  by_cases cb : (60 : Int) < len0
  case pos =>
    go_enter Try.func4, Try.ntmps4
    go_wp2_with fail
    refine (knows19_any _).mono ?_
    rintro e V ⟨rfl, hst⟩
    replace hst := hid hst
    go_wp2_with fail
    go_ret
    exact ⟨rfl, hst.out⟩
  go_enter Try.func4, Try.ntmps4
  go_wp2_with fail
  refine (knows19_any _).mono ?_
  rintro e V0 ⟨rfl, hst⟩
  have sV := hst.size
  go_wp2_with fail
  refine (nack_any _).mono ?_
  rintro e V1 ⟨rfl, hv⟩
  have n1 := alloc_new V0 (.cells #[.bool true, .slice none 0 0, .int .i64 0, .int .i64 0, .int .i64 0] 53)
  have hp := n1.2.2
  have hB := bthen hst n1.2.1
  have pl := n1.1
  rw [← hv] at hp hB pl
  clear n1 hv hst
  obtain ⟨p, hpp⟩ : ∃ p, V0.heap.size = p := ⟨_, rfl⟩
  rw [hpp] at hp pl sV ⊢
  clear hpp
  have bk : BookAt V1 W.heap.size p [] 0 0 0 := ⟨none, 0, hp, OwnE.nil _ _ _ _⟩
  have n2 := alloc_new V1 (.cells #[.slice none 0 0, .int .i64 0, .int .i64 0, .int .i64 0] 38)
  have hq := n2.2.2
  have hB2 := bthen hB n2.2.1
  obtain ⟨q, hqq⟩ : ∃ q, V1.heap.size = q := ⟨_, rfl⟩
  have ne1 : p ≠ q := by omega
  have hw0 := wown_at hp (j := 1) (v := .slice none 0 0) rfl
  have hw1 := wown_after pl n2.2.1
  replace hq := hid hq
  replace hB2 := hid hB2
  obtain ⟨U0, hU0⟩ : ∃ X, V1.alloc (.cells #[.slice none 0 0, .int .i64 0, .int .i64 0, .int .i64 0] 38) = X := ⟨_, rfl⟩
  have bk2 := hid (show BookAt (V1.alloc (.cells #[.slice none 0 0, .int .i64 0, .int .i64 0, .int .i64 0] 38)) W.heap.size p [] 0 0 0 from ⟨none, 0, held_after n2.2.1 hp, OwnE.nil _ _ _ _⟩)
  clear n2 bk
  rw [hU0] at hq hB2 hw1 bk2
  have hq2 := hq.out
  rw [hqq] at hq2
  replace hq := hid hq2
  clear hq2
  replace hw1 := hid (show wown p 1 U0 = none by rw [hw1, hw0]; rfl)
  clear hw0
  have sq : W.heap.size ≤ q := by have := hB.size; omega
  have sp : W.heap.size ≤ p := sV
  clear hp hB
  replace hU0 := hid hU0
  go_wp2_with fail
  go_loopw [5] (fun ix wr => ∃ (k : Nat) (s : St) (a1 : Option Addr) (c1 : Nat), k ≤ len0 ∧ ix = .int .i64 k ∧ BookAt wr W.heap.size p s.l s.y s.n s.o ∧ wr.heap[q]? = some (.cells #[.slice a1 s.l.length c1, .int .i64 s.y, .int .i64 s.n, .int .i64 s.o] 38 (0, 0)) ∧ Els wr 3 a1 s.l.length c1 (acksV s.l) ∧ Away p wr a1 s.l.length ∧ s.l.length ≤ 16 ∧ 0 ≤ s.y ∧ 0 ≤ s.n ∧ 0 ≤ s.o ∧ s.y + s.n + s.o + s.l.length ≤ k ∧ Below W.heap.size W wr) (fun ix _ => len0 - (intOf ix).toNat)
  case atStart => have hz := hU0.out; subst hz; exact ⟨0, ⟨[], 0, 0, 0⟩, none, 0, by omega, rfl, bk2.out, hq.out, Els.nil _ _, (fun h => absurd rfl h), by decide, by decide, by decide, by decide, by decide, hB2.out⟩
  case round =>
    clear hq hB2 hw1 bk2 hU0
    obtain ⟨k, s, a1, c1, hk, rfl, hbk, hq, hE, haw, hl, hy, hn, ho, hs, hB⟩ := hrel
    by_cases hlt : (k : Int) < len0
    case neg =>
      replace hbk := hid hbk
      replace hq := hid hq
      replace hE := hid hE
      replace hB := hid hB
      go_wp2_with fail
      go_ret
      exact ⟨rfl, hB.out⟩
    obtain ⟨x, hx⟩ : ∃ x, x0[k]? = some x := ⟨_, List.getElem?_eq_getElem (show k < x0.length by omega)⟩
    obtain ⟨c0, d1, d2, d3, rfl, f2, f3⟩ := t0.out x (List.mem_of_getElem? hx)
    clear f2 f3
    obtain ⟨bb, off, rfl, g0, g1, g2, g3⟩ := (w0.out.below hB).at4 hx
    have kz : (0 : Int) ≤ k := by omega
    have w1 : IntKind.i64.wrap ((k : Int) + 1) = (k : Int) + 1 := by rw [IntKind.wrap_i64]; omega
    have hbb : bb < W.heap.size := by obtain ⟨_, b2, o2, e2, hc2⟩ := w0.out.2.2.2.2 k _ hx; cases e2; exact World.block_lt_of_cell? W _ (hc2 0 _ rfl)
    have lq := held_lt hq
    have hpw : p < wr.heap.size := by obtain ⟨_, _, h, _⟩ := hbk; exact held_lt h
    have hla : (acksV s.l).length = s.l.length := by simp [acksV]
    skip
    have hbd := hid (⟨hy, by omega, hn, by omega, ho, by omega⟩ : 0 ≤ s.y ∧ s.y ≤ 1000 ∧ 0 ≤ s.n ∧ s.n ≤ 1000 ∧ 0 ≤ s.o ∧ s.o ≤ 1000)
    have e60 : (len0 : Int) ≤ 60 := by omega
    cases c0
    · have hm := hearS_bd s d1 d2 d3 k ⟨hy, hn, ho⟩ hs hl
      obtain ⟨⟨s2, ok⟩, hr⟩ : ∃ r, hearS s d1 d2 d3 = r := ⟨_, rfl⟩
      rw [hr] at hm
      dsimp only at hm
      obtain ⟨m1, m2, m3, m4, m5, _, _, _⟩ := hm
      have hs2 := hid (⟨m1, m2, m3, m4, m5⟩ : s2.l.length ≤ 16 ∧ 0 ≤ s2.y ∧ 0 ≤ s2.n ∧ 0 ≤ s2.o ∧ s2.y + s2.n + s2.o + s2.l.length ≤ ((k + 1 : Nat) : Int))
      replace hr := hid hr
      have hk1 := hid (show k + 1 ≤ len0 by omega)
      clear hs hy hn ho hk
      have hqn := hbk.own_ne hq (by decide)
      have z0 : W.cell? ⟨bb, off + k * 4, none⟩ = some (.bool false) := by obtain ⟨_, b2, o2, e2, hc2⟩ := w0.out.2.2.2.2 k _ hx; cases e2; exact hc2 0 _ rfl
      have z1 : W.cell? ⟨bb, off + k * 4 + 1, none⟩ = some (.bool d1) := by obtain ⟨_, b2, o2, e2, hc2⟩ := w0.out.2.2.2.2 k _ hx; cases e2; exact hc2 1 _ rfl
      have z2 : W.cell? ⟨bb, off + k * 4 + 2, none⟩ = some (.int .i64 d2) := by obtain ⟨_, b2, o2, e2, hc2⟩ := w0.out.2.2.2.2 k _ hx; cases e2; exact hc2 2 _ rfl
      have z3 : W.cell? ⟨bb, off + k * 4 + 3, none⟩ = some (.int .i64 d3) := by obtain ⟨_, b2, o2, e2, hc2⟩ := w0.out.2.2.2.2 k _ hx; cases e2; exact hc2 3 _ rfl
      have hqd := hq
      have hEd := hE
      have hawd := haw
      have hBd := hB
      have hbkd := hbk
      clear hq hE haw hB hbk
      go_wp2_with fail
      refine (hear_any W.heap.size p s d1 d2 d3 _ hbkd hl sp hbd.out).mono ?_
      rw [hr.out]
      rintro e V ⟨rfl, hbk2, hef⟩
      dsimp only at hbk2 ⊢
      have hq2 := (hef.owp.block q (held_lt hqd) (fun e => ne1 e.symm) (fun e => hqn e.symm)).trans hqd
      have hE2 := els_away hEd hef (fun h0 => hawd (by rw [← hla]; exact h0))
      have haw2 : Away p V a1 s.l.length := by have h2 := Away.eff (xs := acksV s.l) (by rw [hla]; exact hawd) hEd (by decide) hef; rw [hla] at h2; exact h2
      have hB2 := hBd.trans hef.below
      clear hef hqn hqd hEd hawd hBd hbkd
      have y0 := (hB2.cell (p := ⟨bb, off + k * 4, none⟩) hbb).trans z0
      have y1 := (hB2.cell (p := ⟨bb, off + k * 4 + 1, none⟩) hbb).trans z1
      have y2 := (hB2.cell (p := ⟨bb, off + k * 4 + 2, none⟩) hbb).trans z2
      have y3 := (hB2.cell (p := ⟨bb, off + k * 4 + 3, none⟩) hbb).trans z3
      clear g0 g1 g2 g3
      replace hB2 := hid hB2
      replace hE2 := hid hE2
      replace haw2 := hid haw2
      go_upto_region 14 with (fail)
      have hq3 := (show V.drew.heap[q]? = _ from hq2)
      have hE3 := hid (show Els V.drew 3 _ _ _ _ from hE2.out)
      have haw3 := hid (show Away p V.drew _ _ from haw2.out)
      have hB3 := hid hB2.out.drew
      have hbk3 := (show BookAt V.drew _ _ _ _ _ _ from hbk2)
      clear hq2 hE2 haw2 hB2 hbk2
      refine wp_region_T none 10 (by kernel_rfl) ?_
      refine wpAnyT_take 0 rfl (by kernel_rfl) (by kernel_rfl) (by kernel_rfl) (by kernel_rfl) (fun _ _ _ _ h => h) ⟨_, Or.inl ⟨by rfl, fun w2 hb2 => by (have hx0 := held_cell (hb2.held hq3 (by simp)) 0 _ rfl; have hx1 := held_cell (hb2.held hq3 (by simp)) 1 _ rfl; have hx2 := held_cell (hb2.held hq3 (by simp)) 2 _ rfl; have hx3 := held_cell (hb2.held hq3 (by simp)) 3 _ rfl; go_simp; try with_reducible rfl)⟩, _, by (go_simp; try rfl), ?_⟩
      refine wpAnyT_take 1 rfl (by kernel_rfl) (by kernel_rfl) (by kernel_rfl) (by kernel_rfl) (fun _ _ _ _ h => h) ⟨_, Or.inl ⟨by rfl, fun w2 hb2 => by (go_simp; try with_reducible rfl)⟩, _, by (go_simp; try rfl), ?_⟩
      refine wpAnyT_take 2 rfl (by kernel_rfl) (by kernel_rfl) (by kernel_rfl) (by kernel_rfl) (fun _ _ _ _ h => h) ⟨_, Or.inl ⟨by rfl, fun w2 hb2 => by (go_simp; try with_reducible rfl)⟩, _, by (go_simp; try rfl), ?_⟩
      refine wpAnyT_take 3 rfl (by kernel_rfl) (by kernel_rfl) (by kernel_rfl) (by kernel_rfl) (fun _ _ _ _ h => h) ⟨_, Or.inl ⟨by rfl, fun w2 hb2 => by (go_simp; try with_reducible rfl)⟩, _, by (go_simp; try rfl), ?_⟩
      refine wpAnyT_take 4 rfl (by kernel_rfl) (by kernel_rfl) (by kernel_rfl) (by kernel_rfl) (fun _ _ _ _ h => h) ⟨_, Or.inl ⟨by rfl, fun w2 hb2 => by (go_simp; try with_reducible rfl)⟩, _, by (go_simp; try rfl), ?_⟩
      refine wpAnyT_take 5 rfl (by kernel_rfl) (by kernel_rfl) (by kernel_rfl) (by kernel_rfl) (fun _ _ _ _ h => h) ⟨_, Or.inl ⟨by rfl, fun w2 hb2 => by (have hx1 := hb2.cell (show V.drew.cell? _ = _ from y1) (by simp); have hx2 := hb2.cell (show V.drew.cell? _ = _ from y2) (by simp); have hx3 := hb2.cell (show V.drew.cell? _ = _ from y3) (by simp); go_simp; try with_reducible rfl)⟩, _, by (go_simp; try rfl), ?_⟩
      refine wpAnyT_only 6 rfl (by kernel_rfl) (by rfl) (fun K hK => ?_)
      go_simp
      refine (rhear_any a1 c1 s d1 d2 d3 _ hE3.out hl hbd.out).mono ?_
      rw [hr.out]
      rintro e V2 ⟨a2, c2, rfl, hE4, hA4, hfr⟩
      dsimp only at hE4 hfr ⊢
      go_simp
      refine hK _ _ ⟨fun _ => rx_aft hA4, ?_⟩
      clear hK
      have hq4 := held_after hA4 hq3
      have hbk4 := hbk3.after hA4
      have haw4 := hid (haw3.out.told (l := s.l) (l' := s2.l) hbk3 hA4 hfr)
      have hB4 := hB3.out.trans (hA4.mono (show W.heap.size ≤ V.drew.heap.size from hB3.out.size))
      clear hq3 hE3 haw3 hB3 hbk3 hA4 hfr
      refine wpAnyT_take 7 rfl (by kernel_rfl) (by kernel_rfl) (by kernel_rfl) (by kernel_rfl) (fun _ _ _ _ h => h) ⟨_, Or.inl ⟨by rfl, fun w2 hb2 => by (go_simp; try with_reducible rfl)⟩, _, by (go_simp; try rfl), ?_⟩
      refine wpAnyT_take 8 rfl (by kernel_rfl) (by kernel_rfl) (by kernel_rfl) (by kernel_rfl) (fun _ _ _ _ h => h) ⟨_, Or.inl ⟨by rfl, fun w2 hb2 => by (go_simp; try with_reducible rfl)⟩, _, by (go_simp; try rfl), ?_⟩
      refine wpAnyT_takeP 9 rfl (by kernel_rfl) (by kernel_rfl) (by kernel_rfl) (fun _ _ _ _ h => h) ⟨_, Or.inl ⟨by rfl, fun w2 _ => by (go_simp; try with_reducible rfl)⟩, _, by (go_simp; try rfl), ?_⟩
      refine wpAnyT_only 10 rfl (by kernel_rfl) (by rfl) (fun K hK => ?_)
      have zq0 := held_cell hq4 0 _ rfl
      have zq1 := held_cell hq4 1 _ rfl
      have zq2 := held_cell hq4 2 _ rfl
      have zq3 := held_cell hq4 3 _ rfl
      have gq0 := held_free hq4 0
      have gq1 := held_free hq4 1
      have gq2 := held_free hq4 2
      have gq3 := held_free hq4 3
      obtain ⟨W4, hW4, ya, yO⟩ := st4 hq4 (.slice a2 s2.l.length c2) (.int .i64 s2.y) (.int .i64 s2.n) (.int .i64 s2.o)
      go_simp
      refine hK _ _ ⟨fun h => (h rfl).elim, ?_⟩
      clear hK
      have hbk5 := hbk4.only yO ne1 hq4 (by decide)
      have hE5 := hid (acks_other hE4 hq4 nobool4 (fun b hb => yO.block b hb))
      have haw5 := hid (haw4.out.only yO ne1)
      have hB5 := hid (belowS hB4 yO sq)
      clear hq4 hE4 haw4 hB4 hbk4 yO zq0 gq0 zq1 gq1 zq2 gq2 zq3 gq3
      refine wpAnyT_only 11 rfl (by kernel_rfl) (by rfl) (fun K hK => ?_)
      go_simp
      refine hK _ _ ⟨fun _ => RX.refl _ _, ?_⟩
      clear hK
      refine wpAnyT_done (by kernel_rfl) ?_ _
      have hbk6 := hid hbk5
      obtain ⟨ka, kc, hp5, hO5⟩ := hbk5
      clear hO5
      have kz5 := hid (fun h => counts_at p (.slice ka s2.l.length kc) s2.y s2.n s2.o W4 h)
      go_wp2_with fail
      refine (kz5.out hp5).mono ?_
      rintro e V6 ⟨rfl, hA6⟩
      have hq6 := held_after hA6 ya
      have hbk7 := hid (hbk6.out.after hA6)
      have hE7 := hid (hE5.out.below hA6)
      have haw7 := hid (haw5.out.told (l := s2.l) (l' := s2.l) hbk6.out hA6 (.inl ⟨rfl, rfl⟩))
      have hB7 := bthen hB5.out hA6
      clear hA6 ya hp5 kz5 hbk6 hE5 haw5 hB5
      go_upto_region 16 with (fail)
      have hq8 := (show V6.drew.heap[q]? = _ from hq6)
      have hE8 := hid (show Els V6.drew 3 _ _ _ _ from hE7.out)
      have haw8 := hid (show Away p V6.drew _ _ from haw7.out)
      have hB8 := hid hB7.drew
      have hbk8 := hid (show BookAt V6.drew _ _ _ _ _ _ from hbk7.out)
      clear hq6 hE7 haw7 hB7 hbk7
      have hl2 := hs2.out.1
      refine wp_region_R (by kernel_rfl) ?_
      refine wpAnyR_take 0 rfl (by kernel_rfl) (by kernel_rfl) (by kernel_rfl) (fun _ _ _ _ h => h) ⟨_, Or.inl ⟨by rfl, fun w2 hb2 => by (go_simp; try with_reducible rfl)⟩, _, by (go_simp; try rfl), ?_⟩
      refine wpAnyR_take 1 rfl (by kernel_rfl) (by kernel_rfl) (by kernel_rfl) (fun _ _ _ _ h => h) ⟨_, Or.inl ⟨by rfl, fun w2 hb2 => by (go_simp; try with_reducible rfl)⟩, _, by (go_simp; try rfl), ?_⟩
      refine wpAnyR_take 2 rfl (by kernel_rfl) (by kernel_rfl) (by kernel_rfl) (fun _ _ _ _ h => h) ⟨_, Or.inl ⟨by rfl, fun w2 hb2 => by (go_simp; try with_reducible rfl)⟩, _, by (go_simp; try rfl), ?_⟩
      refine wpAnyR_take 3 rfl (by kernel_rfl) (by kernel_rfl) (by kernel_rfl) (fun _ _ _ _ h => h) ⟨_, Or.inl ⟨by rfl, fun w2 hb2 => by (go_simp; try with_reducible rfl)⟩, _, by (go_simp; try rfl), ?_⟩
      refine wpAnyR_take 4 rfl (by kernel_rfl) (by kernel_rfl) (by kernel_rfl) (fun _ _ _ _ h => h) ⟨_, Or.inl ⟨by rfl, fun w2 hb2 => by (go_simp; try with_reducible rfl)⟩, _, by (go_simp; try rfl), ?_⟩
      refine wpAnyR_take 6 rfl (by kernel_rfl) (by kernel_rfl) (by kernel_rfl) (fun _ _ _ _ h => h) ⟨_, Or.inl ⟨by rfl, fun w2 hb2 => by (go_simp; try with_reducible rfl)⟩, _, by (go_simp; try rfl), ?_⟩
      refine wpAnyR_take 7 rfl (by kernel_rfl) (by kernel_rfl) (by kernel_rfl) (fun _ _ _ _ h => h) ⟨_, Or.inl ⟨by rfl, fun w2 hb2 => by (have hx := held_cell (held_after hb2 hq8) 0 _ rfl; go_simp; try with_reducible rfl)⟩, _, by (go_simp; try rfl), ?_⟩
      refine wpAnyR_only 5 rfl (by kernel_rfl) (by rfl) (fun K hK => ?_)
      go_simp
      refine (open_any W.heap.size p s2.l s2.y s2.n s2.o _ hbk8.out hl2).mono ?_
      rintro e V7 ⟨a7, c7, rfl, hE9, hA7⟩
      go_simp
      refine hK _ _ ⟨hA7, ?_⟩
      clear hK
      refine wpAnyR_only 8 rfl (by kernel_rfl) (by rfl) (fun K hK => ?_)
      go_simp
      refine (same19_refl a7 a2 c7 c2 s2.l _ hE9 (hE8.out.below hA7) hl2).mono ?_
      rintro e V8 ⟨rfl, hA8⟩
      go_simp
      refine hK _ _ ⟨hA8, ?_⟩
      clear hK
      have hA9 := After.trans hA7 hA8
      have hq9 := held_after hA9 hq8
      have hbk9 := hid (hbk8.out.after hA9)
      have hE10 := hid (hE8.out.below hA9)
      have haw9 := hid (haw8.out.told (l := s2.l) (l' := s2.l) hbk8.out hA9 (.inl ⟨rfl, rfl⟩))
      have hB9 := hid (hB8.out.trans (hA9.mono (show W.heap.size ≤ V6.drew.heap.size from hB8.out.size)))
      clear hq8 hE8 haw8 hB8 hbk8 hA7 hA8 hA9 hE9
      refine wpAnyR_take 9 rfl (by kernel_rfl) (by kernel_rfl) (by kernel_rfl) (fun _ _ _ _ h => h) ⟨_, Or.inl ⟨by rfl, fun w2 hb2 => by (go_simp; try with_reducible rfl)⟩, _, by (go_simp; try rfl), ?_⟩
      refine wpAnyR_take 10 rfl (by kernel_rfl) (by kernel_rfl) (by kernel_rfl) (fun _ _ _ _ h => h) ⟨_, Or.inl ⟨by rfl, fun w2 hb2 => by (go_simp; try with_reducible rfl)⟩, _, by (go_simp; try rfl), ?_⟩
      refine wpAnyR_take 11 rfl (by kernel_rfl) (by kernel_rfl) (by kernel_rfl) (fun _ _ _ _ h => h) ⟨_, Or.inl ⟨by rfl, fun w2 hb2 => by (go_simp; try with_reducible rfl)⟩, _, by (go_simp; try rfl), ?_⟩
      refine wpAnyR_take 12 rfl (by kernel_rfl) (by kernel_rfl) (by kernel_rfl) (fun _ _ _ _ h => h) ⟨_, Or.inl ⟨by rfl, fun w2 hb2 => by (go_simp; try with_reducible rfl)⟩, _, by (go_simp; try rfl), ?_⟩
      refine wpAnyR_take 13 rfl (by kernel_rfl) (by kernel_rfl) (by kernel_rfl) (fun _ _ _ _ h => h) ⟨_, Or.inl ⟨by rfl, fun w2 hb2 => by (go_simp; try with_reducible rfl)⟩, _, by (go_simp; try rfl), ?_⟩
      refine wpAnyR_take 14 rfl (by kernel_rfl) (by kernel_rfl) (by kernel_rfl) (fun _ _ _ _ h => h) ⟨_, Or.inl ⟨by rfl, fun w2 hb2 => by (have hx := held_cell (held_after hb2 hq9) 1 _ rfl; go_simp; try with_reducible rfl)⟩, _, by (go_simp; try rfl), ?_⟩
      refine wpAnyR_take 15 rfl (by kernel_rfl) (by kernel_rfl) (by kernel_rfl) (fun _ _ _ _ h => h) ⟨_, Or.inl ⟨by rfl, fun w2 hb2 => by (go_simp; try with_reducible rfl)⟩, _, by (go_simp; try rfl), ?_⟩
      refine wpAnyR_take 16 rfl (by kernel_rfl) (by kernel_rfl) (by kernel_rfl) (fun _ _ _ _ h => h) ⟨_, Or.inl ⟨by rfl, fun w2 hb2 => by (go_simp; try with_reducible rfl)⟩, _, by (go_simp; try rfl), ?_⟩
      refine wpAnyR_take 17 rfl (by kernel_rfl) (by kernel_rfl) (by kernel_rfl) (fun _ _ _ _ h => h) ⟨_, Or.inl ⟨by rfl, fun w2 hb2 => by (go_simp; try with_reducible rfl)⟩, _, by (go_simp; try rfl), ?_⟩
      refine wpAnyR_take 18 rfl (by kernel_rfl) (by kernel_rfl) (by kernel_rfl) (fun _ _ _ _ h => h) ⟨_, Or.inl ⟨by rfl, fun w2 hb2 => by (go_simp; try with_reducible rfl)⟩, _, by (go_simp; try rfl), ?_⟩
      refine wpAnyR_take 19 rfl (by kernel_rfl) (by kernel_rfl) (by kernel_rfl) (fun _ _ _ _ h => h) ⟨_, Or.inl ⟨by rfl, fun w2 hb2 => by (go_simp; try with_reducible rfl)⟩, _, by (go_simp; try rfl), ?_⟩
      refine wpAnyR_take 20 rfl (by kernel_rfl) (by kernel_rfl) (by kernel_rfl) (fun _ _ _ _ h => h) ⟨_, Or.inl ⟨by rfl, fun w2 hb2 => by (have hx := held_cell (held_after hb2 hq9) 2 _ rfl; go_simp; try with_reducible rfl)⟩, _, by (go_simp; try rfl), ?_⟩
      refine wpAnyR_take 21 rfl (by kernel_rfl) (by kernel_rfl) (by kernel_rfl) (fun _ _ _ _ h => h) ⟨_, Or.inl ⟨by rfl, fun w2 hb2 => by (go_simp; try with_reducible rfl)⟩, _, by (go_simp; try rfl), ?_⟩
      refine wpAnyR_take 22 rfl (by kernel_rfl) (by kernel_rfl) (by kernel_rfl) (fun _ _ _ _ h => h) ⟨_, Or.inl ⟨by rfl, fun w2 hb2 => by (go_simp; try with_reducible rfl)⟩, _, by (go_simp; try rfl), ?_⟩
      refine wpAnyR_take 23 rfl (by kernel_rfl) (by kernel_rfl) (by kernel_rfl) (fun _ _ _ _ h => h) ⟨_, Or.inl ⟨by rfl, fun w2 hb2 => by (go_simp; try with_reducible rfl)⟩, _, by (go_simp; try rfl), ?_⟩
      refine wpAnyR_take 24 rfl (by kernel_rfl) (by kernel_rfl) (by kernel_rfl) (fun _ _ _ _ h => h) ⟨_, Or.inl ⟨by rfl, fun w2 hb2 => by (go_simp; try with_reducible rfl)⟩, _, by (go_simp; try rfl), ?_⟩
      refine wpAnyR_take 25 rfl (by kernel_rfl) (by kernel_rfl) (by kernel_rfl) (fun _ _ _ _ h => h) ⟨_, Or.inl ⟨by rfl, fun w2 hb2 => by (go_simp; try with_reducible rfl)⟩, _, by (go_simp; try rfl), ?_⟩
      refine wpAnyR_take 26 rfl (by kernel_rfl) (by kernel_rfl) (by kernel_rfl) (fun _ _ _ _ h => h) ⟨_, Or.inl ⟨by rfl, fun w2 hb2 => by (have hx := held_cell (held_after hb2 hq9) 3 _ rfl; go_simp; try with_reducible rfl)⟩, _, by (go_simp; try rfl), ?_⟩
      refine wpAnyR_take 27 rfl (by kernel_rfl) (by kernel_rfl) (by kernel_rfl) (fun _ _ _ _ h => h) ⟨_, Or.inl ⟨by rfl, fun w2 hb2 => by (go_simp; try with_reducible rfl)⟩, _, by (go_simp; try rfl), ?_⟩
      refine wpAnyR_take 28 rfl (by kernel_rfl) (by kernel_rfl) (by kernel_rfl) (fun _ _ _ _ h => h) ⟨_, Or.inl ⟨by rfl, fun w2 hb2 => by (go_simp; try with_reducible rfl)⟩, _, by (go_simp; try rfl), ?_⟩
      refine wpAnyR_done (by kernel_rfl) ?_ _
      go_wp2_with fail
      go_roundw
      case rel => exact ⟨k + 1, s2, a2, c2, hk1.out, by simp, hbk9.out, hq9, hE10.out, haw9.out, hs2.out.1, hs2.out.2.1, hs2.out.2.2.1, hs2.out.2.2.2.1, hs2.out.2.2.2.2, hB9.out⟩
      case measure => simp [intOf]; omega
    · have hm := askS_bd s.l d2 d3 s.y s.n s.o k hs hl
      obtain ⟨⟨l2, ok⟩, hr⟩ : ∃ r, askS s.l d2 d3 = r := ⟨_, rfl⟩
      rw [hr] at hm
      dsimp only at hm
      obtain ⟨m1, m2, _, _⟩ := hm
      have hs2 := hid (⟨m1, hy, hn, ho, m2⟩ : l2.length ≤ 16 ∧ 0 ≤ s.y ∧ 0 ≤ s.n ∧ 0 ≤ s.o ∧ s.y + s.n + s.o + l2.length ≤ ((k + 1 : Nat) : Int))
      replace hr := hid hr
      have hk1 := hid (show k + 1 ≤ len0 by omega)
      clear hs hy hn ho hk
      have hqn := hbk.own_ne hq (by decide)
      have z0 : W.cell? ⟨bb, off + k * 4, none⟩ = some (.bool true) := by obtain ⟨_, b2, o2, e2, hc2⟩ := w0.out.2.2.2.2 k _ hx; cases e2; exact hc2 0 _ rfl
      have z1 : W.cell? ⟨bb, off + k * 4 + 1, none⟩ = some (.bool d1) := by obtain ⟨_, b2, o2, e2, hc2⟩ := w0.out.2.2.2.2 k _ hx; cases e2; exact hc2 1 _ rfl
      have z2 : W.cell? ⟨bb, off + k * 4 + 2, none⟩ = some (.int .i64 d2) := by obtain ⟨_, b2, o2, e2, hc2⟩ := w0.out.2.2.2.2 k _ hx; cases e2; exact hc2 2 _ rfl
      have z3 : W.cell? ⟨bb, off + k * 4 + 3, none⟩ = some (.int .i64 d3) := by obtain ⟨_, b2, o2, e2, hc2⟩ := w0.out.2.2.2.2 k _ hx; cases e2; exact hc2 3 _ rfl
      go_upto_region 11 with (fail)
      have hqd := (show wr.drew.heap[q]? = _ from hq)
      have hEd := (show Els wr.drew 3 _ _ _ _ from hE)
      have hawd := (show Away p wr.drew _ _ from haw)
      have hBd := hB.drew
      have hbkd := (show BookAt wr.drew _ _ _ _ _ _ from hbk)
      replace hqn := (show wown p 1 wr.drew ≠ some q from hqn)
      clear hq hE haw hB hbk
      refine wp_region_T none 13 (by kernel_rfl) ?_
      refine wpAnyT_take 0 rfl (by kernel_rfl) (by kernel_rfl) (by kernel_rfl) (by kernel_rfl) (fun _ _ _ _ h => h) ⟨_, Or.inl ⟨by rfl, fun w2 hb2 => by (go_simp; try with_reducible rfl)⟩, _, by (go_simp; try rfl), ?_⟩
      refine wpAnyT_takeP 1 rfl (by kernel_rfl) (by kernel_rfl) (by kernel_rfl) (fun _ _ _ _ h => h) ⟨_, Or.inl ⟨by rfl, fun w2 _ => by (go_simp; try with_reducible rfl)⟩, _, by (go_simp; try rfl), ?_⟩
      refine wpAnyT_takeP 2 rfl (by kernel_rfl) (by kernel_rfl) (by kernel_rfl) (fun _ _ _ _ h => h) ⟨_, Or.inl ⟨by rfl, fun w2 _ => by (go_simp; try with_reducible rfl)⟩, _, by (go_simp; try rfl), ?_⟩
      refine wpAnyT_takeP 3 rfl (by kernel_rfl) (by kernel_rfl) (by kernel_rfl) (fun _ _ _ _ h => h) ⟨_, Or.inl ⟨by rfl, fun w2 _ => by (go_simp; try with_reducible rfl)⟩, _, by (go_simp; try rfl), ?_⟩
      refine wpAnyT_takeP 4 rfl (by kernel_rfl) (by kernel_rfl) (by kernel_rfl) (fun _ _ _ _ h => h) ⟨_, Or.inl ⟨by rfl, fun w2 _ => by (go_simp; try with_reducible rfl)⟩, _, by (go_simp; try rfl), ?_⟩
      refine wpAnyT_takeP 5 rfl (by kernel_rfl) (by kernel_rfl) (by kernel_rfl) (fun _ _ _ _ h => h) ⟨_, Or.inl ⟨by rfl, fun w2 _ => by (go_simp; try with_reducible rfl)⟩, _, by (go_simp; try rfl), ?_⟩
      refine wpAnyT_take 6 rfl (by kernel_rfl) (by kernel_rfl) (by kernel_rfl) (by kernel_rfl) (fun _ _ _ _ h => h) ⟨_, Or.inl ⟨by rfl, fun w2 hb2 => by (have hx := hb2.cell (show wr.drew.cell? _ = _ from g2) (by simp); go_simp; try with_reducible rfl)⟩, _, by (go_simp; try rfl), ?_⟩
      refine wpAnyT_takeP 7 rfl (by kernel_rfl) (by kernel_rfl) (by kernel_rfl) (fun _ _ _ _ h => h) ⟨_, Or.inl ⟨by rfl, fun w2 _ => by (go_simp; try with_reducible rfl)⟩, _, by (go_simp; try rfl), ?_⟩
      refine wpAnyT_takeP 8 rfl (by kernel_rfl) (by kernel_rfl) (by kernel_rfl) (fun _ _ _ _ h => h) ⟨_, Or.inl ⟨by rfl, fun w2 _ => by (go_simp; try with_reducible rfl)⟩, _, by (go_simp; try rfl), ?_⟩
      refine wpAnyT_takeP 9 rfl (by kernel_rfl) (by kernel_rfl) (by kernel_rfl) (fun _ _ _ _ h => h) ⟨_, Or.inl ⟨by rfl, fun w2 _ => by (go_simp; try with_reducible rfl)⟩, _, by (go_simp; try rfl), ?_⟩
      refine wpAnyT_takeP 10 rfl (by kernel_rfl) (by kernel_rfl) (by kernel_rfl) (fun _ _ _ _ h => h) ⟨_, Or.inl ⟨by rfl, fun w2 _ => by (go_simp; try with_reducible rfl)⟩, _, by (go_simp; try rfl), ?_⟩
      refine wpAnyT_takeP 11 rfl (by kernel_rfl) (by kernel_rfl) (by kernel_rfl) (fun _ _ _ _ h => h) ⟨_, Or.inl ⟨by rfl, fun w2 _ => by (go_simp; try with_reducible rfl)⟩, _, by (go_simp; try rfl), ?_⟩
      refine wpAnyT_take 12 rfl (by kernel_rfl) (by kernel_rfl) (by kernel_rfl) (by kernel_rfl) (fun _ _ _ _ h => h) ⟨_, Or.inl ⟨by rfl, fun w2 hb2 => by (have hx := hb2.cell (show wr.drew.cell? _ = _ from g3) (by simp); go_simp; try with_reducible rfl)⟩, _, by (go_simp; try rfl), ?_⟩
      refine wpAnyT_only 13 rfl (by kernel_rfl) (by rfl) (fun K hK => ?_)
      go_simp
      refine (ask_any W.heap.size p s.l s.y s.n s.o d2 d3 _ hbkd hl sp).mono ?_
      rw [hr.out]
      rintro e V ⟨rfl, hbk2, hef⟩
      dsimp only at hbk2 ⊢
      have hq2 := (hef.owp.block q (held_lt hqd) (fun e => ne1 e.symm) (fun e => hqn e.symm)).trans hqd
      have hE2 := els_away hEd hef (fun h0 => hawd (by rw [← hla]; exact h0))
      have haw2 : Away p V a1 s.l.length := by have h2 := Away.eff (xs := acksV s.l) (by rw [hla]; exact hawd) hEd (by decide) hef; rw [hla] at h2; exact h2
      have hB2 := hBd.trans hef.below
      clear hef hqn hqd hEd hawd hBd hbkd
      have y0 := (hB2.cell (p := ⟨bb, off + k * 4, none⟩) hbb).trans z0
      have y1 := (hB2.cell (p := ⟨bb, off + k * 4 + 1, none⟩) hbb).trans z1
      have y2 := (hB2.cell (p := ⟨bb, off + k * 4 + 2, none⟩) hbb).trans z2
      have y3 := (hB2.cell (p := ⟨bb, off + k * 4 + 3, none⟩) hbb).trans z3
      clear g0 g1 g2 g3
      replace hB2 := hid hB2
      replace hE2 := hid hE2
      replace haw2 := hid haw2
      go_simp
      refine hK _ _ ⟨fun h => (h rfl).elim, ?_⟩
      clear hK
      refine wpAnyT_only 14 rfl (by kernel_rfl) (by rfl) (fun K hK => ?_)
      go_simp
      refine hK _ _ ⟨fun _ => RX.refl _ _, ?_⟩
      clear hK
      refine wpAnyT_done (by kernel_rfl) ?_ _
      go_upto_region 12 with (fail)
      have hq3 := (show V.drew.heap[q]? = _ from hq2)
      have hE3 := hid (show Els V.drew 3 _ _ _ _ from hE2.out)
      have haw3 := hid (show Away p V.drew _ _ from haw2.out)
      have hB3 := hid hB2.out.drew
      have hbk3 := (show BookAt V.drew _ _ _ _ _ _ from hbk2)
      clear hq2 hE2 haw2 hB2 hbk2
      refine wp_region_T none 17 (by kernel_rfl) ?_
      refine wpAnyT_take 0 rfl (by kernel_rfl) (by kernel_rfl) (by kernel_rfl) (by kernel_rfl) (fun _ _ _ _ h => h) ⟨_, Or.inl ⟨by rfl, fun w2 hb2 => by (have hx0 := held_cell (hb2.held hq3 (by simp)) 0 _ rfl; have hx1 := held_cell (hb2.held hq3 (by simp)) 1 _ rfl; have hx2 := held_cell (hb2.held hq3 (by simp)) 2 _ rfl; have hx3 := held_cell (hb2.held hq3 (by simp)) 3 _ rfl; go_simp; try with_reducible rfl)⟩, _, by (go_simp; try rfl), ?_⟩
      refine wpAnyT_take 1 rfl (by kernel_rfl) (by kernel_rfl) (by kernel_rfl) (by kernel_rfl) (fun _ _ _ _ h => h) ⟨_, Or.inl ⟨by rfl, fun w2 hb2 => by (go_simp; try with_reducible rfl)⟩, _, by (go_simp; try rfl), ?_⟩
      refine wpAnyT_take 2 rfl (by kernel_rfl) (by kernel_rfl) (by kernel_rfl) (by kernel_rfl) (fun _ _ _ _ h => h) ⟨_, Or.inl ⟨by rfl, fun w2 hb2 => by (go_simp; try with_reducible rfl)⟩, _, by (go_simp; try rfl), ?_⟩
      refine wpAnyT_take 3 rfl (by kernel_rfl) (by kernel_rfl) (by kernel_rfl) (by kernel_rfl) (fun _ _ _ _ h => h) ⟨_, Or.inl ⟨by rfl, fun w2 hb2 => by (go_simp; try with_reducible rfl)⟩, _, by (go_simp; try rfl), ?_⟩
      refine wpAnyT_take 4 rfl (by kernel_rfl) (by kernel_rfl) (by kernel_rfl) (by kernel_rfl) (fun _ _ _ _ h => h) ⟨_, Or.inl ⟨by rfl, fun w2 hb2 => by (go_simp; try with_reducible rfl)⟩, _, by (go_simp; try rfl), ?_⟩
      refine wpAnyT_take 5 rfl (by kernel_rfl) (by kernel_rfl) (by kernel_rfl) (by kernel_rfl) (fun _ _ _ _ h => h) ⟨_, Or.inl ⟨by rfl, fun w2 hb2 => by (go_simp; try with_reducible rfl)⟩, _, by (go_simp; try rfl), ?_⟩
      refine wpAnyT_take 6 rfl (by kernel_rfl) (by kernel_rfl) (by kernel_rfl) (by kernel_rfl) (fun _ _ _ _ h => h) ⟨_, Or.inl ⟨by rfl, fun w2 hb2 => by (have hx := hb2.cell (show V.drew.cell? _ = _ from y2) (by simp); go_simp; try with_reducible rfl)⟩, _, by (go_simp; try rfl), ?_⟩
      refine wpAnyT_take 7 rfl (by kernel_rfl) (by kernel_rfl) (by kernel_rfl) (by kernel_rfl) (fun _ _ _ _ h => h) ⟨_, Or.inl ⟨by rfl, fun w2 hb2 => by (go_simp; try with_reducible rfl)⟩, _, by (go_simp; try rfl), ?_⟩
      refine wpAnyT_take 8 rfl (by kernel_rfl) (by kernel_rfl) (by kernel_rfl) (by kernel_rfl) (fun _ _ _ _ h => h) ⟨_, Or.inl ⟨by rfl, fun w2 hb2 => by (go_simp; try with_reducible rfl)⟩, _, by (go_simp; try rfl), ?_⟩
      refine wpAnyT_take 9 rfl (by kernel_rfl) (by kernel_rfl) (by kernel_rfl) (by kernel_rfl) (fun _ _ _ _ h => h) ⟨_, Or.inl ⟨by rfl, fun w2 hb2 => by (go_simp; try with_reducible rfl)⟩, _, by (go_simp; try rfl), ?_⟩
      refine wpAnyT_take 10 rfl (by kernel_rfl) (by kernel_rfl) (by kernel_rfl) (by kernel_rfl) (fun _ _ _ _ h => h) ⟨_, Or.inl ⟨by rfl, fun w2 hb2 => by (go_simp; try with_reducible rfl)⟩, _, by (go_simp; try rfl), ?_⟩
      refine wpAnyT_take 11 rfl (by kernel_rfl) (by kernel_rfl) (by kernel_rfl) (by kernel_rfl) (fun _ _ _ _ h => h) ⟨_, Or.inl ⟨by rfl, fun w2 hb2 => by (go_simp; try with_reducible rfl)⟩, _, by (go_simp; try rfl), ?_⟩
      refine wpAnyT_take 12 rfl (by kernel_rfl) (by kernel_rfl) (by kernel_rfl) (by kernel_rfl) (fun _ _ _ _ h => h) ⟨_, Or.inl ⟨by rfl, fun w2 hb2 => by (have hx := hb2.cell (show V.drew.cell? _ = _ from y3) (by simp); go_simp; try with_reducible rfl)⟩, _, by (go_simp; try rfl), ?_⟩
      refine wpAnyT_only 13 rfl (by kernel_rfl) (by rfl) (fun K hK => ?_)
      go_simp
      refine (rask_any a1 c1 s.l s.y s.n s.o d2 d3 _ hE3.out hl).mono ?_
      rw [hr.out]
      rintro e V2 ⟨a2, c2, rfl, hE4, hA4, hfr⟩
      dsimp only at hE4 hfr ⊢
      go_simp
      refine hK _ _ ⟨fun _ => rx_aft hA4, ?_⟩
      clear hK
      have hq4 := held_after hA4 hq3
      have hbk4 := hbk3.after hA4
      have haw4 := hid (haw3.out.told (l := s.l) (l' := l2) hbk3 hA4 hfr)
      have hB4 := hB3.out.trans (hA4.mono (show W.heap.size ≤ V.drew.heap.size from hB3.out.size))
      clear hq3 hE3 haw3 hB3 hbk3 hA4 hfr
      refine wpAnyT_take 14 rfl (by kernel_rfl) (by kernel_rfl) (by kernel_rfl) (by kernel_rfl) (fun _ _ _ _ h => h) ⟨_, Or.inl ⟨by rfl, fun w2 hb2 => by (go_simp; try with_reducible rfl)⟩, _, by (go_simp; try rfl), ?_⟩
      refine wpAnyT_take 15 rfl (by kernel_rfl) (by kernel_rfl) (by kernel_rfl) (by kernel_rfl) (fun _ _ _ _ h => h) ⟨_, Or.inl ⟨by rfl, fun w2 hb2 => by (go_simp; try with_reducible rfl)⟩, _, by (go_simp; try rfl), ?_⟩
      refine wpAnyT_takeP 16 rfl (by kernel_rfl) (by kernel_rfl) (by kernel_rfl) (fun _ _ _ _ h => h) ⟨_, Or.inl ⟨by rfl, fun w2 _ => by (go_simp; try with_reducible rfl)⟩, _, by (go_simp; try rfl), ?_⟩
      refine wpAnyT_only 17 rfl (by kernel_rfl) (by rfl) (fun K hK => ?_)
      have zq0 := held_cell hq4 0 _ rfl
      have zq1 := held_cell hq4 1 _ rfl
      have zq2 := held_cell hq4 2 _ rfl
      have zq3 := held_cell hq4 3 _ rfl
      have gq0 := held_free hq4 0
      have gq1 := held_free hq4 1
      have gq2 := held_free hq4 2
      have gq3 := held_free hq4 3
      obtain ⟨W4, hW4, ya, yO⟩ := st4 hq4 (.slice a2 l2.length c2) (.int .i64 s.y) (.int .i64 s.n) (.int .i64 s.o)
      go_simp
      refine hK _ _ ⟨fun h => (h rfl).elim, ?_⟩
      clear hK
      have hbk5 := hbk4.only yO ne1 hq4 (by decide)
      have hE5 := hid (acks_other hE4 hq4 nobool4 (fun b hb => yO.block b hb))
      have haw5 := hid (haw4.out.only yO ne1)
      have hB5 := hid (belowS hB4 yO sq)
      clear hq4 hE4 haw4 hB4 hbk4 yO zq0 gq0 zq1 gq1 zq2 gq2 zq3 gq3
      refine wpAnyT_only 18 rfl (by kernel_rfl) (by rfl) (fun K hK => ?_)
      go_simp
      refine hK _ _ ⟨fun _ => RX.refl _ _, ?_⟩
      clear hK
      refine wpAnyT_done (by kernel_rfl) ?_ _
      have hbk6 := hid hbk5
      obtain ⟨ka, kc, hp5, hO5⟩ := hbk5
      clear hO5
      have kz5 := hid (fun h => counts_at p (.slice ka l2.length kc) s.y s.n s.o W4 h)
      go_wp2_with fail
      refine (kz5.out hp5).mono ?_
      rintro e V6 ⟨rfl, hA6⟩
      have hq6 := held_after hA6 ya
      have hbk7 := hid (hbk6.out.after hA6)
      have hE7 := hid (hE5.out.below hA6)
      have haw7 := hid (haw5.out.told (l := l2) (l' := l2) hbk6.out hA6 (.inl ⟨rfl, rfl⟩))
      have hB7 := bthen hB5.out hA6
      clear hA6 ya hp5 kz5 hbk6 hE5 haw5 hB5
      go_upto_region 16 with (fail)
      have hq8 := (show V6.drew.heap[q]? = _ from hq6)
      have hE8 := hid (show Els V6.drew 3 _ _ _ _ from hE7.out)
      have haw8 := hid (show Away p V6.drew _ _ from haw7.out)
      have hB8 := hid hB7.drew
      have hbk8 := hid (show BookAt V6.drew _ _ _ _ _ _ from hbk7.out)
      clear hq6 hE7 haw7 hB7 hbk7
      have hl2 := hs2.out.1
      refine wp_region_R (by kernel_rfl) ?_
      refine wpAnyR_take 0 rfl (by kernel_rfl) (by kernel_rfl) (by kernel_rfl) (fun _ _ _ _ h => h) ⟨_, Or.inl ⟨by rfl, fun w2 hb2 => by (go_simp; try with_reducible rfl)⟩, _, by (go_simp; try rfl), ?_⟩
      refine wpAnyR_take 1 rfl (by kernel_rfl) (by kernel_rfl) (by kernel_rfl) (fun _ _ _ _ h => h) ⟨_, Or.inl ⟨by rfl, fun w2 hb2 => by (go_simp; try with_reducible rfl)⟩, _, by (go_simp; try rfl), ?_⟩
      refine wpAnyR_take 2 rfl (by kernel_rfl) (by kernel_rfl) (by kernel_rfl) (fun _ _ _ _ h => h) ⟨_, Or.inl ⟨by rfl, fun w2 hb2 => by (go_simp; try with_reducible rfl)⟩, _, by (go_simp; try rfl), ?_⟩
      refine wpAnyR_take 3 rfl (by kernel_rfl) (by kernel_rfl) (by kernel_rfl) (fun _ _ _ _ h => h) ⟨_, Or.inl ⟨by rfl, fun w2 hb2 => by (go_simp; try with_reducible rfl)⟩, _, by (go_simp; try rfl), ?_⟩
      refine wpAnyR_take 4 rfl (by kernel_rfl) (by kernel_rfl) (by kernel_rfl) (fun _ _ _ _ h => h) ⟨_, Or.inl ⟨by rfl, fun w2 hb2 => by (go_simp; try with_reducible rfl)⟩, _, by (go_simp; try rfl), ?_⟩
      refine wpAnyR_take 6 rfl (by kernel_rfl) (by kernel_rfl) (by kernel_rfl) (fun _ _ _ _ h => h) ⟨_, Or.inl ⟨by rfl, fun w2 hb2 => by (go_simp; try with_reducible rfl)⟩, _, by (go_simp; try rfl), ?_⟩
      refine wpAnyR_take 7 rfl (by kernel_rfl) (by kernel_rfl) (by kernel_rfl) (fun _ _ _ _ h => h) ⟨_, Or.inl ⟨by rfl, fun w2 hb2 => by (have hx := held_cell (held_after hb2 hq8) 0 _ rfl; go_simp; try with_reducible rfl)⟩, _, by (go_simp; try rfl), ?_⟩
      refine wpAnyR_only 5 rfl (by kernel_rfl) (by rfl) (fun K hK => ?_)
      go_simp
      refine (open_any W.heap.size p l2 s.y s.n s.o _ hbk8.out hl2).mono ?_
      rintro e V7 ⟨a7, c7, rfl, hE9, hA7⟩
      go_simp
      refine hK _ _ ⟨hA7, ?_⟩
      clear hK
      refine wpAnyR_only 8 rfl (by kernel_rfl) (by rfl) (fun K hK => ?_)
      go_simp
      refine (same19_refl a7 a2 c7 c2 l2 _ hE9 (hE8.out.below hA7) hl2).mono ?_
      rintro e V8 ⟨rfl, hA8⟩
      go_simp
      refine hK _ _ ⟨hA8, ?_⟩
      clear hK
      have hA9 := After.trans hA7 hA8
      have hq9 := held_after hA9 hq8
      have hbk9 := hid (hbk8.out.after hA9)
      have hE10 := hid (hE8.out.below hA9)
      have haw9 := hid (haw8.out.told (l := l2) (l' := l2) hbk8.out hA9 (.inl ⟨rfl, rfl⟩))
      have hB9 := hid (hB8.out.trans (hA9.mono (show W.heap.size ≤ V6.drew.heap.size from hB8.out.size)))
      clear hq8 hE8 haw8 hB8 hbk8 hA7 hA8 hA9 hE9
      refine wpAnyR_take 9 rfl (by kernel_rfl) (by kernel_rfl) (by kernel_rfl) (fun _ _ _ _ h => h) ⟨_, Or.inl ⟨by rfl, fun w2 hb2 => by (go_simp; try with_reducible rfl)⟩, _, by (go_simp; try rfl), ?_⟩
      refine wpAnyR_take 10 rfl (by kernel_rfl) (by kernel_rfl) (by kernel_rfl) (fun _ _ _ _ h => h) ⟨_, Or.inl ⟨by rfl, fun w2 hb2 => by (go_simp; try with_reducible rfl)⟩, _, by (go_simp; try rfl), ?_⟩
      refine wpAnyR_take 11 rfl (by kernel_rfl) (by kernel_rfl) (by kernel_rfl) (fun _ _ _ _ h => h) ⟨_, Or.inl ⟨by rfl, fun w2 hb2 => by (go_simp; try with_reducible rfl)⟩, _, by (go_simp; try rfl), ?_⟩
      refine wpAnyR_take 12 rfl (by kernel_rfl) (by kernel_rfl) (by kernel_rfl) (fun _ _ _ _ h => h) ⟨_, Or.inl ⟨by rfl, fun w2 hb2 => by (go_simp; try with_reducible rfl)⟩, _, by (go_simp; try rfl), ?_⟩
      refine wpAnyR_take 13 rfl (by kernel_rfl) (by kernel_rfl) (by kernel_rfl) (fun _ _ _ _ h => h) ⟨_, Or.inl ⟨by rfl, fun w2 hb2 => by (go_simp; try with_reducible rfl)⟩, _, by (go_simp; try rfl), ?_⟩
      refine wpAnyR_take 14 rfl (by kernel_rfl) (by kernel_rfl) (by kernel_rfl) (fun _ _ _ _ h => h) ⟨_, Or.inl ⟨by rfl, fun w2 hb2 => by (have hx := held_cell (held_after hb2 hq9) 1 _ rfl; go_simp; try with_reducible rfl)⟩, _, by (go_simp; try rfl), ?_⟩
      refine wpAnyR_take 15 rfl (by kernel_rfl) (by kernel_rfl) (by kernel_rfl) (fun _ _ _ _ h => h) ⟨_, Or.inl ⟨by rfl, fun w2 hb2 => by (go_simp; try with_reducible rfl)⟩, _, by (go_simp; try rfl), ?_⟩
      refine wpAnyR_take 16 rfl (by kernel_rfl) (by kernel_rfl) (by kernel_rfl) (fun _ _ _ _ h => h) ⟨_, Or.inl ⟨by rfl, fun w2 hb2 => by (go_simp; try with_reducible rfl)⟩, _, by (go_simp; try rfl), ?_⟩
      refine wpAnyR_take 17 rfl (by kernel_rfl) (by kernel_rfl) (by kernel_rfl) (fun _ _ _ _ h => h) ⟨_, Or.inl ⟨by rfl, fun w2 hb2 => by (go_simp; try with_reducible rfl)⟩, _, by (go_simp; try rfl), ?_⟩
      refine wpAnyR_take 18 rfl (by kernel_rfl) (by kernel_rfl) (by kernel_rfl) (fun _ _ _ _ h => h) ⟨_, Or.inl ⟨by rfl, fun w2 hb2 => by (go_simp; try with_reducible rfl)⟩, _, by (go_simp; try rfl), ?_⟩
      refine wpAnyR_take 19 rfl (by kernel_rfl) (by kernel_rfl) (by kernel_rfl) (fun _ _ _ _ h => h) ⟨_, Or.inl ⟨by rfl, fun w2 hb2 => by (go_simp; try with_reducible rfl)⟩, _, by (go_simp; try rfl), ?_⟩
      refine wpAnyR_take 20 rfl (by kernel_rfl) (by kernel_rfl) (by kernel_rfl) (fun _ _ _ _ h => h) ⟨_, Or.inl ⟨by rfl, fun w2 hb2 => by (have hx := held_cell (held_after hb2 hq9) 2 _ rfl; go_simp; try with_reducible rfl)⟩, _, by (go_simp; try rfl), ?_⟩
      refine wpAnyR_take 21 rfl (by kernel_rfl) (by kernel_rfl) (by kernel_rfl) (fun _ _ _ _ h => h) ⟨_, Or.inl ⟨by rfl, fun w2 hb2 => by (go_simp; try with_reducible rfl)⟩, _, by (go_simp; try rfl), ?_⟩
      refine wpAnyR_take 22 rfl (by kernel_rfl) (by kernel_rfl) (by kernel_rfl) (fun _ _ _ _ h => h) ⟨_, Or.inl ⟨by rfl, fun w2 hb2 => by (go_simp; try with_reducible rfl)⟩, _, by (go_simp; try rfl), ?_⟩
      refine wpAnyR_take 23 rfl (by kernel_rfl) (by kernel_rfl) (by kernel_rfl) (fun _ _ _ _ h => h) ⟨_, Or.inl ⟨by rfl, fun w2 hb2 => by (go_simp; try with_reducible rfl)⟩, _, by (go_simp; try rfl), ?_⟩
      refine wpAnyR_take 24 rfl (by kernel_rfl) (by kernel_rfl) (by kernel_rfl) (fun _ _ _ _ h => h) ⟨_, Or.inl ⟨by rfl, fun w2 hb2 => by (go_simp; try with_reducible rfl)⟩, _, by (go_simp; try rfl), ?_⟩
      refine wpAnyR_take 25 rfl (by kernel_rfl) (by kernel_rfl) (by kernel_rfl) (fun _ _ _ _ h => h) ⟨_, Or.inl ⟨by rfl, fun w2 hb2 => by (go_simp; try with_reducible rfl)⟩, _, by (go_simp; try rfl), ?_⟩
      refine wpAnyR_take 26 rfl (by kernel_rfl) (by kernel_rfl) (by kernel_rfl) (fun _ _ _ _ h => h) ⟨_, Or.inl ⟨by rfl, fun w2 hb2 => by (have hx := held_cell (held_after hb2 hq9) 3 _ rfl; go_simp; try with_reducible rfl)⟩, _, by (go_simp; try rfl), ?_⟩
      refine wpAnyR_take 27 rfl (by kernel_rfl) (by kernel_rfl) (by kernel_rfl) (fun _ _ _ _ h => h) ⟨_, Or.inl ⟨by rfl, fun w2 hb2 => by (go_simp; try with_reducible rfl)⟩, _, by (go_simp; try rfl), ?_⟩
      refine wpAnyR_take 28 rfl (by kernel_rfl) (by kernel_rfl) (by kernel_rfl) (fun _ _ _ _ h => h) ⟨_, Or.inl ⟨by rfl, fun w2 hb2 => by (go_simp; try with_reducible rfl)⟩, _, by (go_simp; try rfl), ?_⟩
      refine wpAnyR_done (by kernel_rfl) ?_ _
      go_wp2_with fail
      go_roundw
      case rel => exact ⟨k + 1, ⟨l2, s.y, s.n, s.o⟩, a2, c2, hk1.out, by simp, hbk9.out, hq9, hE10.out, haw9.out, hs2.out.1, hs2.out.2.1, hs2.out.2.2.1, hs2.out.2.2.2.1, hs2.out.2.2.2.2, hB9.out⟩
      case measure => simp [intOf]; omega

end Go.Proofs.Ythcaljelmchkcaa
