/- Package ack's book: the papers'. -/
import Derived.Test.YthcaljelmchkcaaAck4
import Derived.Laws.OwnMore
import Derived.Deep.DeepCutAuto
namespace Go.Proofs.Ythcaljelmchkcaa
open Go.ChangeShapes Go.WideShapes Go.ChangeAt Go.RowKit
set_option linter.unusedVariables false
set_option linter.unusedSimpArgs false

/-- A papers' book that is told: its list lies where it lay, or in new memory. -/
def RbOk (w : World) (a : Option Addr) (l : List (Int × Int)) (s : St) (ok : Bool) (e : Ending) (w' : World) : Prop := ∃ (a' : Option Addr) (cap' : Nat), e = .returned (.tuple #[.agg #[.slice a' s.l.length cap', .int .i64 s.y, .int .i64 s.n, .int .i64 s.o], .bool ok]) ∧ Els w' 3 a' s.l.length cap' (acksV s.l) ∧ After w w' ∧ ((a' = a ∧ s.l = l) ∨ ∀ g, a' = some g → w.heap.size ≤ g.block)
theorem OwnE.blk {E : TypeId} {w : World} {base m n cap : Nat} {a : Option Addr} {xs : List Value} (h : OwnE E w base m (.slice a n cap) n xs) : ∀ g, a = some g → base ≤ g.block := by
  obtain ⟨a', c', e, _, _, _, h4⟩ := h.sl
  cases e
  exact fun g hg => (h4 g hg).2.2
set_option maxRecDepth 100000 in
set_option maxHeartbeats 4000000 in
theorem rask_any (a : Option Addr) (cap : Nat) (l : List (Int × Int)) (y n o c i : Int) (w : World) (hE : Els w 3 a l.length cap (acksV l)) (hl : l.length ≤ 16) : Calls Try.prog 15 #[.agg #[.slice a l.length cap, .int .i64 y, .int .i64 n, .int .i64 o], .int .i64 c, .int .i64 i] w (RbOk w a l ⟨(askS l c i).1, y, n, o⟩ (askS l c i).2) := by
  have hE0 := hid hE
  have k1 := hid (fun W => octet19_any c W)
  have k2 := hid (fun W => octet19_any i W)
  have hl2 : (l.length : Int) ≤ 16 := by omega
  have hcap := hE.2.1
  have hcm := hE.2.2.1
  replace hE := hid hE
  go_enter Try.func15, Try.ntmps15
  go_upto_region 0 with (fail)
  apply wp_region_seg0 (w := w) (S := [.al 1000, .al 1000, .q []]) (E := [.al ((fun p => .pointer (some ⟨p, 0, none⟩)), _) 1000, .al ((fun p => .pointer (some ⟨p, 0, none⟩)), _) 1000, .q0 _]) rfl (by kernel_rfl) rfl rfl
  intro th hge hne
  refine Seg.step _ rfl ⟨by rfl, fun U hU => ?_⟩ ?_
  · go_simp; exact vp_alloc rfl rfl rfl
  refine ⟨_, by (simp only [Ent.val]; go_simp <;> exact rfl), ?_⟩
  refine Seg.step _ rfl ⟨by rfl, fun U hU => ?_⟩ ?_
  · go_simp; exact vp_alloc rfl rfl rfl
  refine ⟨_, by (simp only [Ent.val]; go_simp <;> exact rfl), ?_⟩
  refine Seg.step _ rfl (Or.inl ⟨by rfl, fun U hU => vp_quiet (by (go_simp <;> exact rfl))⟩) ⟨_, by (simp only [Ent.val]; go_simp <;> exact rfl), ?_⟩
  refine Seg.stop (fun U1 hU hk => ?_)
  have nb0 := hge 0 _ _ rfl
  have rb0 := (hk 0 _ _ rfl trivial).1.2 (by simp)
  have nb1 := hge 1 _ _ rfl
  have rb1 := (hk 1 _ _ rfl trivial).1.2 (by simp)
  have ne0_1 := hne 0 1 _ _ _ _ rfl rfl (by omega)
  clear hk hge hne
  generalize th (0 + 0) = p0_0 at *
  dsimp only at rb0
  generalize th (0 + 1) = p0_1 at *
  dsimp only at rb1
  have r_p0_0 := rb0
  clear rb0
  have n_p0_0 := nb0
  clear nb0
  have d_p0_0_p0_1 := ne0_1
  clear ne0_1
  have r_p0_1 := rb1
  clear rb1
  have n_p0_1 := nb1
  clear nb1
  have sz1 := hU.size
  have hB : Below w.heap.size w U1 := hU
  clear hU
  replace hE := hid (hE.out.below hB)
  have np0 := n_p0_0
  have np1 := n_p0_1
  have sB := hB.size
  have z0 := held_cell r_p0_0 0 _ rfl
  have z1 := held_cell r_p0_0 1 _ rfl
  have z2 := held_cell r_p0_0 2 _ rfl
  have z3 := held_cell r_p0_0 3 _ rfl
  cases h1 : byB c
  · rw [h1] at k1
    have e : askS l c i = (l, false) := by unfold askS; rw [if_neg (by rw [h1]; simp)]
    replace e := hid e
    have y0 := held_cell r_p0_1 0 _ rfl
    have y1 := held_cell r_p0_1 1 _ rfl
    have y2 := held_cell r_p0_1 2 _ rfl
    have y3 := held_cell r_p0_1 3 _ rfl
    have f0 := held_free r_p0_1 0
    have f1 := held_free r_p0_1 1
    have f2 := held_free r_p0_1 2
    have f3 := held_free r_p0_1 3
    obtain ⟨W4, hW4, ya, yO⟩ := st4 r_p0_1 (.slice a l.length cap) (.int .i64 y) (.int .i64 n) (.int .i64 o)
    have hB4 := hid (belowS hB yO np1)
    have ez0 := held_cell ya 0 _ rfl
    have ez1 := held_cell ya 1 _ rfl
    have ez2 := held_cell ya 2 _ rfl
    have ez3 := held_cell ya 3 _ rfl
    have hE4 := hid (show Els W4 3 a l.length cap (acksV l) from ⟨hE.out.1, hE.out.2.1, hE.out.2.2.1, hE.out.2.2.2.1, fun i2 x hx => by
      obtain ⟨h1, b, off, e2, hc⟩ := hE0.out.2.2.2.2 i2 x hx
      exact ⟨h1, b, off, e2, fun j v hj => (Below.cell hB4.out (World.block_lt_of_cell? w _ (hc j v hj))).trans (hc j v hj)⟩⟩)
    clear yO ya r_p0_0 r_p0_1
    replace hB := hid hB
    go_wp2_with fail
    refine (k1.out _).mono ?_
    rintro e V ⟨rfl, rfl⟩
    go_wp2_with fail
    refine bodyPost_ret (v := .tuple #[.agg #[.slice a l.length cap, .int .i64 y, .int .i64 n, .int .i64 o], .bool false]) (by simp [results, Try.results15, go_sem, ez0, ez1, ez2, ez3]) rfl ?_
    rw [e.out]
    exact ⟨a, cap, rfl, hE4.out, hB4.out, .inl ⟨rfl, rfl⟩⟩
  rw [h1] at k1
  cases h2 : byB i
  · rw [h2] at k2
    have e : askS l c i = (l, false) := by unfold askS; rw [if_neg (by rw [h1, h2]; simp)]
    replace e := hid e
    have y0 := held_cell r_p0_1 0 _ rfl
    have y1 := held_cell r_p0_1 1 _ rfl
    have y2 := held_cell r_p0_1 2 _ rfl
    have y3 := held_cell r_p0_1 3 _ rfl
    have f0 := held_free r_p0_1 0
    have f1 := held_free r_p0_1 1
    have f2 := held_free r_p0_1 2
    have f3 := held_free r_p0_1 3
    obtain ⟨W4, hW4, ya, yO⟩ := st4 r_p0_1 (.slice a l.length cap) (.int .i64 y) (.int .i64 n) (.int .i64 o)
    have hB4 := hid (belowS hB yO np1)
    have ez0 := held_cell ya 0 _ rfl
    have ez1 := held_cell ya 1 _ rfl
    have ez2 := held_cell ya 2 _ rfl
    have ez3 := held_cell ya 3 _ rfl
    have hE4 := hid (show Els W4 3 a l.length cap (acksV l) from ⟨hE.out.1, hE.out.2.1, hE.out.2.2.1, hE.out.2.2.2.1, fun i2 x hx => by
      obtain ⟨h1, b, off, e2, hc⟩ := hE0.out.2.2.2.2 i2 x hx
      exact ⟨h1, b, off, e2, fun j v hj => (Below.cell hB4.out (World.block_lt_of_cell? w _ (hc j v hj))).trans (hc j v hj)⟩⟩)
    clear yO ya r_p0_0 r_p0_1
    replace hB := hid hB
    go_wp2_with fail
    refine (k1.out _).mono ?_
    rintro e V ⟨rfl, rfl⟩
    go_wp2_with fail
    refine (k2.out _).mono ?_
    rintro e V ⟨rfl, rfl⟩
    go_wp2_with fail
    refine bodyPost_ret (v := .tuple #[.agg #[.slice a l.length cap, .int .i64 y, .int .i64 n, .int .i64 o], .bool false]) (by simp [results, Try.results15, go_sem, ez0, ez1, ez2, ez3]) rfl ?_
    rw [e.out]
    exact ⟨a, cap, rfl, hE4.out, hB4.out, .inl ⟨rfl, rfl⟩⟩
  rw [h2] at k2
  by_cases h3 : (16 : Int) ≤ l.length
  · have h3n : ¬ l.length < 16 := by omega
    have e : askS l c i = (l, false) := by unfold askS; rw [if_neg (by rw [h1, h2]; simp; omega)]
    replace e := hid e
    have y0 := held_cell r_p0_1 0 _ rfl
    have y1 := held_cell r_p0_1 1 _ rfl
    have y2 := held_cell r_p0_1 2 _ rfl
    have y3 := held_cell r_p0_1 3 _ rfl
    have f0 := held_free r_p0_1 0
    have f1 := held_free r_p0_1 1
    have f2 := held_free r_p0_1 2
    have f3 := held_free r_p0_1 3
    obtain ⟨W4, hW4, ya, yO⟩ := st4 r_p0_1 (.slice a l.length cap) (.int .i64 y) (.int .i64 n) (.int .i64 o)
    have hB4 := hid (belowS hB yO np1)
    have ez0 := held_cell ya 0 _ rfl
    have ez1 := held_cell ya 1 _ rfl
    have ez2 := held_cell ya 2 _ rfl
    have ez3 := held_cell ya 3 _ rfl
    have hE4 := hid (show Els W4 3 a l.length cap (acksV l) from ⟨hE.out.1, hE.out.2.1, hE.out.2.2.1, hE.out.2.2.2.1, fun i2 x hx => by
      obtain ⟨h1, b, off, e2, hc⟩ := hE0.out.2.2.2.2 i2 x hx
      exact ⟨h1, b, off, e2, fun j v hj => (Below.cell hB4.out (World.block_lt_of_cell? w _ (hc j v hj))).trans (hc j v hj)⟩⟩)
    clear yO ya r_p0_0 r_p0_1
    replace hB := hid hB
    go_wp2_with fail
    refine (k1.out _).mono ?_
    rintro e V ⟨rfl, rfl⟩
    go_wp2_with fail
    refine (k2.out _).mono ?_
    rintro e V ⟨rfl, rfl⟩
    go_wp2_with fail
    refine bodyPost_ret (v := .tuple #[.agg #[.slice a l.length cap, .int .i64 y, .int .i64 n, .int .i64 o], .bool false]) (by simp [results, Try.results15, go_sem, ez0, ez1, ez2, ez3]) rfl ?_
    rw [e.out]
    exact ⟨a, cap, rfl, hE4.out, hB4.out, .inl ⟨rfl, rfl⟩⟩
  have h3n : l.length < 16 := by omega
  have e : askS l c i = (l ++ [(c, i)], true) := by unfold askS; rw [if_pos (by rw [h1, h2]; simp; omega)]
  replace e := hid e
  clear h1 h2 hl
  have hA1 := (alloc_new U1 (.cells #[] 23)).2.1
  have hO1 := hid (OwnE.lit (E := 23) U1 #[] 0 w.heap.size 3 sB (by unfold maxLen; omega) rfl)
  have hE1 := hid (hE.out.below hA1)
  have sA1 := hA1.size
  have r0a := held_after hA1 r_p0_0
  have r1a := held_after hA1 r_p0_1
  have hBa := hid (bthen hB hA1)
  have q0 := held_cell r0a 0 _ rfl
  have bs1 : w.heap.size ≤ (U1.alloc (.cells #[] 23)).heap.size := by omega
  clear hA1 hE hB r_p0_0 r_p0_1 z1 z2 z3
  have hl9 := hid hl2
  go_wp2_with fail
  refine (k1.out _).mono ?_
  rintro e V ⟨rfl, rfl⟩
  go_wp2_with fail
  refine (k2.out _).mono ?_
  rintro e V ⟨rfl, rfl⟩
  skip
  go_wp2_with (first | (at_builtin; refine wpList_appE rfl (.tmp 23) (.tmp 25) 36 rfl w.heap.size 23 3 24 ackO (by decide) (.slice (some ⟨_, 0, none⟩) 0 0) 0 [] rfl hO1.out a l.length cap (acksV l) rfl hE1.out (acksV_1 l) (by unfold maxLen; omega) (by omega) bs1 ?_))
  try simp only [Nat.zero_add, List.nil_append]
  intro a9 c9 W9 hO9 hG9 hN9
  try simp only [Nat.zero_add, List.nil_append] at hO9 hN9
  have r0b := (hG9.block p0_0 (held_lt r0a) (fun e => hO1.out.ne r0a (by decide) e.symm)).trans r0a
  have r1b := (hG9.block p0_1 (held_lt r1a) (fun e => hO1.out.ne r1a (by decide) e.symm)).trans r1a
  have hBb := hBa.out.grown hG9 bs1 (fun k e => (hO1.out.lt k e).1)
  have hA2 := (alloc_new W9 (.cells #[.bool false, .int .i64 c, .int .i64 i] 23)).2.1
  have hE2 := hid (els_one W9 #[.bool false, .int .i64 c, .int .i64 i] 23 3 rfl)
  have hO2 := hid (hO9.below hA2)
  have r0c := held_after hA2 r0b
  have r1c := held_after hA2 r1b
  have hBc := hid (bthen hBb hA2)
  have bs2 := hBc.out.size
  clear hO9 hG9 hN9 r0b r1b hBb hA2 r0a r1a hBa hE1 hO1
  go_wp2_with (first | (at_builtin; refine wpList_appE rfl (.tmp 26) (.tmp 30) 36 rfl w.heap.size 23 3 24 ackO (by decide) (.slice a9 l.length c9) l.length (acksV l).flatten rfl hO2.out (some ⟨_, 0, none⟩) 1 1 [ackV (c, i)] rfl hE2.out (acksV_1 [(c, i)]) (by unfold maxLen; omega) (by omega) bs2 ?_))
  intro a8 c8 W8 hO8 hG8 hN8
  have r0d := (hG8.block p0_0 (held_lt r0c) (fun e => hO2.out.ne r0c (by decide) e.symm)).trans r0c
  have r1d := (hG8.block p0_1 (held_lt r1c) (fun e => hO2.out.ne r1c (by decide) e.symm)).trans r1c
  have hBd := hBc.out.grown hG8 bs2 (fun k e => (hO2.out.lt k e).1)
  have x0 := held_cell r0d 0 _ rfl
  have g0 := held_free r0d 0
  obtain ⟨S1, hS1, s1, q1⟩ := st1 r0d 0 (.slice a8 (l.length + 1) c8)
  have hBe := belowS hBd q1 np0
  have r1e := (q1.block p0_1 (fun e => d_p0_0_p0_1 e.symm)).trans r1d
  have hO7 := hO8.kept (w' := S1) (fun g2 hg2 => q1.block g2 (fun e => by subst e; exact (hO8.ne r0d (by decide)) hg2))
  have hl8 : l.length + 1 = (l ++ [(c, i)]).length := by simp
  have u0 := held_cell s1 0 _ rfl
  have u1 := held_cell s1 1 _ rfl
  have u2 := held_cell s1 2 _ rfl
  have u3 := held_cell s1 3 _ rfl
  replace hO7 := hid hO7
  clear hO8 hG8 hN8 hBd q1 s1 r0d r1d r0c r1c hBc hO2 hE2 q0
  have y0 := held_cell r1e 0 _ rfl
  have y1 := held_cell r1e 1 _ rfl
  have y2 := held_cell r1e 2 _ rfl
  have y3 := held_cell r1e 3 _ rfl
  have f0 := held_free r1e 0
  have f1 := held_free r1e 1
  have f2 := held_free r1e 2
  have f3 := held_free r1e 3
  obtain ⟨W4, hW4, ya, yO⟩ := st4 r1e (.slice a8 (l.length + 1) c8) (.int .i64 y) (.int .i64 n) (.int .i64 o)
  have hB4 := hid (belowS hBe yO np1)
  have ez0 := held_cell ya 0 _ rfl
  have ez1 := held_cell ya 1 _ rfl
  have ez2 := held_cell ya 2 _ rfl
  have ez3 := held_cell ya 3 _ rfl
  have hO6 := hO7.out.kept (w' := W4) (fun g2 hg2 => yO.block g2 (fun e => by subst e; exact (hO7.out.ne r1e (by decide)) hg2))
  have hE6 : Els W4 3 a8 (l ++ [(c, i)]).length c8 (acksV (l ++ [(c, i)])) := by
    rw [show (acksV l).flatten ++ ackV (c, i) = (acksV (l ++ [(c, i)])).flatten from by simp [acksV]] at hO6
    rw [hl8] at hO6
    exact hO6.els (by simp [acksV]) (acksV_m _)
  have hbk := hO6.blk
  replace hE6 := hid hE6
  replace hbk := hid hbk
  replace hl8 := hid hl8
  clear yO ya r1e hO6 hO7 hBe
  go_wp2_with fail
  refine bodyPost_ret (v := .tuple #[.agg #[.slice a8 (l.length + 1) c8, .int .i64 y, .int .i64 n, .int .i64 o], .bool true]) (by simp [results, Try.results15, go_sem, ez0, ez1, ez2, ez3]) rfl ?_
  rw [e.out]
  exact ⟨a8, c8, by rw [hl8.out], hE6.out, hB4.out, .inr hbk.out⟩
set_option maxRecDepth 100000 in
set_option maxHeartbeats 8000000 in
theorem rhear_any (a : Option Addr) (cap : Nat) (s : St) (b : Bool) (c i : Int) (w : World) (hE : Els w 3 a s.l.length cap (acksV s.l)) (hl : s.l.length ≤ 16) (hc : 0 ≤ s.y ∧ s.y ≤ 1000 ∧ 0 ≤ s.n ∧ s.n ≤ 1000 ∧ 0 ≤ s.o ∧ s.o ≤ 1000) : Calls Try.prog 17 #[.agg #[.slice a s.l.length cap, .int .i64 s.y, .int .i64 s.n, .int .i64 s.o], .agg #[.bool b, .int .i64 c, .int .i64 i]] w (RbOk w a s.l (hearS s b c i).1 (hearS s b c i).2) := by
  obtain ⟨l, y, n, o⟩ := s
  dsimp only at hE hl hc ⊢
  obtain ⟨y1, y2, n1, n2, o1, o2⟩ := hc
  have hl2 : (l.length : Int) ≤ 16 := by omega
  have hcap := hE.2.1
  have hcm := hE.2.2.1
  have hmm : maxLen ≤ 9223372036854775807 := by decide
  replace hE := hid hE
  go_enter Try.func17, Try.ntmps17
  go_upto_region 0 with (fail)
  apply wp_region_seg0 (w := w) (S := [.al 1000, .al 1000, .al 1000, .q []]) (E := [.al ((fun p => .pointer (some ⟨p, 0, none⟩)), _) 1000, .al ((fun p => .pointer (some ⟨p, 0, none⟩)), _) 1000, .al ((fun p => .pointer (some ⟨p, 0, none⟩)), _) 1000, .q0 _]) rfl (by kernel_rfl) rfl rfl
  intro th hge hne
  refine Seg.step _ rfl ⟨by rfl, fun U hU => ?_⟩ ?_
  · go_simp; exact vp_alloc rfl rfl rfl
  refine ⟨_, by (simp only [Ent.val]; go_simp <;> exact rfl), ?_⟩
  refine Seg.step _ rfl ⟨by rfl, fun U hU => ?_⟩ ?_
  · go_simp; exact vp_alloc rfl rfl rfl
  refine ⟨_, by (simp only [Ent.val]; go_simp <;> exact rfl), ?_⟩
  refine Seg.step _ rfl ⟨by rfl, fun U hU => ?_⟩ ?_
  · go_simp; exact vp_alloc rfl rfl rfl
  refine ⟨_, by (simp only [Ent.val]; go_simp <;> exact rfl), ?_⟩
  refine Seg.step _ rfl (Or.inl ⟨by rfl, fun U hU => vp_quiet (by (go_simp <;> exact rfl))⟩) ⟨_, by (simp only [Ent.val]; go_simp <;> exact rfl), ?_⟩
  refine Seg.stop (fun U1 hU hk => ?_)
  have nb0 := hge 0 _ _ rfl
  have rb0 := (hk 0 _ _ rfl trivial).1.2 (by simp)
  have nb1 := hge 1 _ _ rfl
  have rb1 := (hk 1 _ _ rfl trivial).1.2 (by simp)
  have nb2 := hge 2 _ _ rfl
  have rb2 := (hk 2 _ _ rfl trivial).1.2 (by simp)
  have ne0_1 := hne 0 1 _ _ _ _ rfl rfl (by omega)
  have ne0_2 := hne 0 2 _ _ _ _ rfl rfl (by omega)
  have ne1_2 := hne 1 2 _ _ _ _ rfl rfl (by omega)
  clear hk hge hne
  generalize th (0 + 0) = p0_0 at *
  dsimp only at rb0
  generalize th (0 + 1) = p0_1 at *
  dsimp only at rb1
  generalize th (0 + 2) = p0_2 at *
  dsimp only at rb2
  have r_p0_0 := rb0
  clear rb0
  have n_p0_0 := nb0
  clear nb0
  have d_p0_0_p0_1 := ne0_1
  clear ne0_1
  have d_p0_0_p0_2 := ne0_2
  clear ne0_2
  have r_p0_1 := rb1
  clear rb1
  have n_p0_1 := nb1
  clear nb1
  have d_p0_1_p0_2 := ne1_2
  clear ne1_2
  have r_p0_2 := rb2
  clear rb2
  have n_p0_2 := nb2
  clear nb2
  have sz1 := hU.size
  have hB : Below w.heap.size w U1 := hU
  clear hU
  have np0 := n_p0_0
  have np2 := n_p0_2
  have e02 := d_p0_0_p0_2
  have e01 := d_p0_0_p0_1
  replace hB := hid hB
  replace r_p0_0 := hid r_p0_0
  replace r_p0_1 := hid r_p0_1
  replace r_p0_2 := hid r_p0_2
  go_wp2_with fail
  go_loopw [6] (fun ix wr => ∃ k : Nat, k ≤ placeS l c i ∧ ix = .int .i64 k ∧ After U1 wr) (fun ix _ => 17 - (intOf ix).toNat)
  case atStart => exact ⟨0, by omega, rfl, After.refl _⟩
  case round =>
    obtain ⟨k, hk, rfl, hA⟩ := hrel
    have hpl := placeS_le l c i
    have hkl : k ≤ l.length := by omega
    have r0 := held_after hA r_p0_0.out
    have r1 := held_after hA r_p0_1.out
    have r2 := held_after hA r_p0_2.out
    have hB2 := bthen hB.out hA
    have hE2 := hE.out.below hB2
    clear hB r_p0_0 r_p0_1 r_p0_2
    have z0 := held_cell r0 0 _ rfl
    have z1 := held_cell r0 1 _ rfl
    have z2 := held_cell r0 2 _ rfl
    have z3 := held_cell r0 3 _ rfl
    have a0 := held_cell r1 0 _ rfl
    have a1 := held_cell r1 1 _ rfl
    have a2 := held_cell r1 2 _ rfl
    have kz : (0 : Int) ≤ k := by omega
    by_cases hlt : (k : Int) < l.length
    case neg =>
      have e : hearS ⟨l, y, n, o⟩ b c i = (⟨l, y, n, o + 1⟩, false) := by unfold hearS; rw [if_neg (by dsimp only; omega)]
      replace e := hid e
      have w4 : IntKind.i64.wrap (o + 1) = o + 1 := by rw [IntKind.wrap_i64]; omega
      have f3 := held_free r0 3
      obtain ⟨S1, hS1, s1, q1⟩ := st1 r0 3 (.int .i64 (o + 1))
      have hB3 := belowS hB2 q1 np0
      have r3 := (q1.block p0_2 (fun e => e02 e.symm)).trans r2
      have u0 := held_cell s1 0 _ rfl
      have u1 := held_cell s1 1 _ rfl
      have u2 := held_cell s1 2 _ rfl
      have u3 := held_cell s1 3 _ rfl
      have y0 := held_cell r3 0 _ rfl
      have y1 := held_cell r3 1 _ rfl
      have y2 := held_cell r3 2 _ rfl
      have y3 := held_cell r3 3 _ rfl
      have g0 := held_free r3 0
      have g1 := held_free r3 1
      have g2 := held_free r3 2
      have g3 := held_free r3 3
      obtain ⟨W4, hW4, ya, yO⟩ := st4 r3 (.slice a l.length cap) (.int .i64 y) (.int .i64 n) (.int .i64 (o + 1))
      have hB4 := hid (belowS hB3 yO np2)
      have ez0 := held_cell ya 0 _ rfl
      have ez1 := held_cell ya 1 _ rfl
      have ez2 := held_cell ya 2 _ rfl
      have ez3 := held_cell ya 3 _ rfl
      have hE4 := hid (hE.out.below hB4.out)
      clear hE2 hB2 hB3 q1 yO ya hk hpl
      replace r0 := hid r0
      replace r1 := hid r1
      replace r2 := hid r2
      replace r3 := hid r3
      replace s1 := hid s1
      go_wp2_with fail
      refine bodyPost_ret (v := .tuple #[.agg #[.slice a l.length cap, .int .i64 y, .int .i64 n, .int .i64 (o + 1)], .bool false]) (by simp [results, Try.results17, go_sem, ez0, ez1, ez2, ez3]) rfl ?_
      rw [e.out]
      exact ⟨a, cap, rfl, hE4.out, hB4.out, .inl ⟨rfl, rfl⟩⟩
    obtain ⟨x, hx⟩ : ∃ x, l[k]? = some x := ⟨_, List.getElem?_eq_getElem (show k < l.length by omega)⟩
    obtain ⟨bb, off, rfl, g0, g1, g2⟩ := hE2.at3 (acksV_at hx)
    by_cases hkp : k = placeS l c i
    · have hxx := placeS_yes (hkp ▸ hx)
      have hkl2 : k < l.length := by omega
      have e : hearS ⟨l, y, n, o⟩ b c i = (⟨l.eraseIdx k, if b then y + 1 else y, if b then n else n + 1, o⟩, true) := by unfold hearS; dsimp only; rw [← hkp, if_pos hkl2]
      replace e := hid e
      have q1 : (x.1 == c) = true := by simp [hxx.1]
      have q2 : (x.2 == i) = true := by simp [hxx.2]
      obtain ⟨x1, x2⟩ := x
      dsimp only at g1 g2 q1 q2
      clear hxx hk hpl hkp hx
      have w1 : IntKind.i64.wrap ((k : Int) + 1) = (k : Int) + 1 := by rw [IntKind.wrap_i64]; omega
      have t5 : ((k : Int) + 1).toNat = k + 1 := by omega
      have k5 : (k : Int) + 1 ≤ l.length := by omega
      have k6 : (k : Int) ≤ cap := by omega
      have kz1 : (0 : Int) ≤ (k : Int) + 1 := by omega
      replace r0 := hid r0
      replace r1 := hid r1
      replace r2 := hid r2
      replace hB2 := hid hB2
      replace hE2 := hid hE2
      clear hA
      go_wp2_with fail
      go_quiet (fail)
      clear z0 z1 z2 z3 a0 a1 a2 g0 g1 g2
      have hBq := below_drewN hB2.out nq
      have r0q := (show (wr.drewN nq).heap[p0_0]? = _ from r0.out)
      have r1q := (show (wr.drewN nq).heap[p0_1]? = _ from r1.out)
      have r2q := (show (wr.drewN nq).heap[p0_2]? = _ from r2.out)
      have hEq := (show Els (wr.drewN nq) 3 _ _ _ _ from hE2.out)
      generalize wr.drewN nq = wq at *
      clear r0 r1 r2 hB2 hE2
      have sB := hBq.size
      have z0 := held_cell r0q 0 _ rfl
      have hA1 := (alloc_new wq (.cells #[] 23)).2.1
      have hO1 := hid (OwnE.lit (E := 23) wq #[] 0 w.heap.size 3 sB (by unfold maxLen; omega) rfl)
      have hET := hid ((hEq.take k cap (by omega) (by omega) (Nat.le_refl _)).below hA1)
      have r0a := held_after hA1 r0q
      have r1a := held_after hA1 r1q
      have r2a := held_after hA1 r2q
      have hBa := hid (bthen hBq hA1)
      have bs1 : w.heap.size ≤ (wq.alloc (.cells #[] 23)).heap.size := by have := hA1.size; omega
      have q0 := held_cell r0a 0 _ rfl
      have hE9 := hid (hEq.below hA1)
      clear hA1 hEq hBq
      go_wp2_with (first | (at_builtin; refine wpList_appE rfl (.tmp 35) (.tmp 39) 36 rfl w.heap.size 23 3 24 ackO (by decide) (.slice (some ⟨_, 0, none⟩) 0 0) 0 [] rfl hO1.out _ k cap ((acksV l).take k) rfl hET.out (fun y hy => acksV_1 l y (List.mem_of_mem_take hy)) (by unfold maxLen; omega) (by omega) bs1 ?_))
      try simp only [Nat.zero_add, List.nil_append]
      intro a9 c9 W9 hO9 hG9 hN9
      try simp only [Nat.zero_add, List.nil_append] at hO9 hN9
      have r0b := (hG9.block p0_0 (held_lt r0a) (fun e => hO1.out.ne r0a (by decide) e.symm)).trans r0a
      have r1b := (hG9.block p0_1 (held_lt r1a) (fun e => by have e2 : p0_1 = wq.heap.size := Option.some.inj e; have := held_lt r1q; omega)).trans r1a
      have r2b := (hG9.block p0_2 (held_lt r2a) (fun e => hO1.out.ne r2a (by decide) e.symm)).trans r2a
      have hBb := hBa.out.grown hG9 bs1 (fun k2 e => (hO1.out.lt k2 e).1)
      have bs2 := hBb.size
      have hEb := hid (hE.out.below hBb)
      have z1 := held_cell r0b 0 _ rfl
      replace hO9 := hid hO9
      replace hBb := hid hBb
      have hN9' := hN9
      clear hG9 hN9 r0a r1a r2a hBa hET hO1 hE9 q0
      have hnb := hid (show (Value.slice a9 k c9).ownBlock ≠ some p0_1 from fun e => by
        rcases hN9' p0_1 e with h | h
        · have e2 : wq.heap.size = p0_1 := Option.some.inj h
          have := held_lt r1q
          omega
        · have := held_lt r1q; omega)
      by_cases hce : cap = k + 1
      · subst hce
        have hys : Els W9 3 (some ⟨bb, off, none⟩) 0 0 ((acksV l).drop (k + 1)) := by
          have h1 : (acksV l).drop (k + 1) = [] := List.drop_of_length_le (by simp [acksV]; omega)
          rw [h1]; exact ⟨by simp, by omega, by omega, (fun e => by cases e), fun i x hx => by simp at hx⟩
        replace hys := hid hys
        clear hEb
        go_wp2_with (first | (at_builtin; refine wpList_appE rfl (.tmp 41) (.tmp 46) 36 rfl w.heap.size 23 3 24 ackO (by decide) (.slice a9 k c9) k ((acksV l).take k).flatten rfl hO9.out _ 0 _ ((acksV l).drop (k + 1)) rfl hys.out (fun y hy => acksV_1 l y (List.mem_of_mem_drop hy)) (by unfold maxLen; omega) (by omega) bs2 ?_))
        intro a8 c8 W8 hO8 hG8 hN8
        replace hO8 : OwnE _ W8 w.heap.size 3 (.slice a8 k c8) k _ := hO8
        have r0d := (hG8.block p0_0 (held_lt r0b) (fun e => hO9.out.ne r0b (by decide) e.symm)).trans r0b
        have r1d := (hG8.block p0_1 (held_lt r1b) (fun e => hnb.out e.symm)).trans r1b
        have r2d := (hG8.block p0_2 (held_lt r2b) (fun e => hO9.out.ne r2b (by decide) e.symm)).trans r2b
        have hBd := hBb.out.grown hG8 bs2 (fun k2 e => (hO9.out.lt k2 e).1)
        have x0 := held_cell r0d 0 _ rfl
        have f0 := held_free r0d 0
        obtain ⟨S1, hS1, s1, q1⟩ := st1 r0d 0 (.slice a8 k c8)
        have hBe := belowS hBd q1 np0
        have r2e := (q1.block p0_2 (fun e => e02 e.symm)).trans r2d
        have r1e := (q1.block p0_1 (fun e => e01 e.symm)).trans r1d
        have hO7 := hO8.kept (w' := S1) (fun g2 hg2 => q1.block g2 (fun e => by subst e; exact (hO8.ne r0d (by decide)) hg2))
        obtain ⟨l2, hl9⟩ : ∃ l2, l.eraseIdx k = l2 := ⟨_, rfl⟩
        have hcs : ((acksV l).take k).flatten ++ ((acksV l).drop (k + 1)).flatten = (acksV l2).flatten := by rw [← hl9, ← List.flatten_append]; congr 1; simp [acksV, List.eraseIdx_eq_take_drop_succ, List.map_take, List.map_drop]
        rw [hcs] at hO7
        have hle := hid (show k = l2.length by rw [← hl9, List.length_eraseIdx]; split <;> omega)
        replace hl9 := hid hl9
        have m0 := held_cell r1e 0 _ rfl
        have u0 := held_cell s1 0 _ rfl
        have u1 := held_cell s1 1 _ rfl
        have u2 := held_cell s1 2 _ rfl
        have u3 := held_cell s1 3 _ rfl
        have wy : IntKind.i64.wrap (y + 1) = y + 1 := by rw [IntKind.wrap_i64]; omega
        have wn : IntKind.i64.wrap (n + 1) = n + 1 := by rw [IntKind.wrap_i64]; omega
        clear hO8 hG8 hN8 hBd q1 r0d r1d r2d r0b r1b r2b z0 z1 hys hcs hO9 r0q r1q r2q
        cases b
        · have ff := held_free s1 2
          obtain ⟨S2, hS2, s2, q2⟩ := st1 s1 2 (.int .i64 (n + 1))
          have hBf := belowS hBe q2 np0
          have r2f := (q2.block p0_2 (fun e => e02 e.symm)).trans r2e
          have hO5 := hO7.kept (w' := S2) (fun g2 hg2 => q2.block g2 (fun e => by subst e; exact (hO7.ne s1 (by decide)) hg2))
          have v0 := held_cell s2 0 _ rfl
          have v1 := held_cell s2 1 _ rfl
          have v2 := held_cell s2 2 _ rfl
          have v3 := held_cell s2 3 _ rfl
          have y0 := held_cell r2f 0 _ rfl
          have y1 := held_cell r2f 1 _ rfl
          have y2 := held_cell r2f 2 _ rfl
          have y3 := held_cell r2f 3 _ rfl
          have g0 := held_free r2f 0
          have g1 := held_free r2f 1
          have g2 := held_free r2f 2
          have g3 := held_free r2f 3
          obtain ⟨W4, hW4, ya, yO⟩ := st4 r2f (.slice a8 k c8) (.int .i64 y) (.int .i64 (n + 1)) (.int .i64 o)
          have hB4 := hid (belowS hBf yO np2)
          have ez0 := held_cell ya 0 _ rfl
          have ez1 := held_cell ya 1 _ rfl
          have ez2 := held_cell ya 2 _ rfl
          have ez3 := held_cell ya 3 _ rfl
          have hO6 := hO5.kept (w' := W4) (fun g2 hg2 => yO.block g2 (fun e => by subst e; exact (hO5.ne r2f (by decide)) hg2))
          rw [hle.out] at hO6
          have hE6 := hid (hO6.els (by simp [acksV]) (acksV_m _))
          have hbk := hid hO6.blk
          clear hO5 hO6 hO7 yO ya q2 hBf hBe
          replace s1 := hid s1
          replace s2 := hid s2
          replace r2e := hid r2e
          replace r2f := hid r2f
          replace r1e := hid r1e
          go_wp2_with fail
          refine bodyPost_ret (v := .tuple #[.agg #[.slice a8 k c8, .int .i64 y, .int .i64 (n + 1), .int .i64 o], .bool true]) (by simp [results, Try.results17, go_sem, ez0, ez1, ez2, ez3]) rfl ?_
          rw [e.out]
          exact ⟨a8, c8, by rw [← hl9.out] at hle; rw [show (l.eraseIdx k).length = k from hle.out.symm]; rfl, by rw [hl9.out]; exact hE6.out, hB4.out, .inr hbk.out⟩
        · have ff := held_free s1 1
          obtain ⟨S2, hS2, s2, q2⟩ := st1 s1 1 (.int .i64 (y + 1))
          have hBf := belowS hBe q2 np0
          have r2f := (q2.block p0_2 (fun e => e02 e.symm)).trans r2e
          have hO5 := hO7.kept (w' := S2) (fun g2 hg2 => q2.block g2 (fun e => by subst e; exact (hO7.ne s1 (by decide)) hg2))
          have v0 := held_cell s2 0 _ rfl
          have v1 := held_cell s2 1 _ rfl
          have v2 := held_cell s2 2 _ rfl
          have v3 := held_cell s2 3 _ rfl
          have y0 := held_cell r2f 0 _ rfl
          have y1 := held_cell r2f 1 _ rfl
          have y2 := held_cell r2f 2 _ rfl
          have y3 := held_cell r2f 3 _ rfl
          have g0 := held_free r2f 0
          have g1 := held_free r2f 1
          have g2 := held_free r2f 2
          have g3 := held_free r2f 3
          obtain ⟨W4, hW4, ya, yO⟩ := st4 r2f (.slice a8 k c8) (.int .i64 (y + 1)) (.int .i64 n) (.int .i64 o)
          have hB4 := hid (belowS hBf yO np2)
          have ez0 := held_cell ya 0 _ rfl
          have ez1 := held_cell ya 1 _ rfl
          have ez2 := held_cell ya 2 _ rfl
          have ez3 := held_cell ya 3 _ rfl
          have hO6 := hO5.kept (w' := W4) (fun g2 hg2 => yO.block g2 (fun e => by subst e; exact (hO5.ne r2f (by decide)) hg2))
          rw [hle.out] at hO6
          have hE6 := hid (hO6.els (by simp [acksV]) (acksV_m _))
          have hbk := hid hO6.blk
          clear hO5 hO6 hO7 yO ya q2 hBf hBe
          replace s1 := hid s1
          replace s2 := hid s2
          replace r2e := hid r2e
          replace r2f := hid r2f
          replace r1e := hid r1e
          go_wp2_with fail
          refine bodyPost_ret (v := .tuple #[.agg #[.slice a8 k c8, .int .i64 (y + 1), .int .i64 n, .int .i64 o], .bool true]) (by simp [results, Try.results17, go_sem, ez0, ez1, ez2, ez3]) rfl ?_
          rw [e.out]
          exact ⟨a8, c8, by rw [← hl9.out] at hle; rw [show (l.eraseIdx k).length = k from hle.out.symm]; rfl, by rw [hl9.out]; exact hE6.out, hB4.out, .inr hbk.out⟩
      · have hys := hEb.out.drop (k + 1) (by omega)
        rw [show (Option.map (fun x : Addr => x.add ((k + 1) * 3)) (some ⟨bb, off, none⟩)) = some ⟨bb, off + (k + 1) * 3, none⟩ from by simp [Addr.add]] at hys
        have hce2 : (0 : Int) < (cap : Int) - (k + 1) := by omega
        replace hys := hid hys
        clear hEb
        go_wp2_with (first | (at_builtin; refine wpList_appE rfl (.tmp 41) (.tmp 46) 36 rfl w.heap.size 23 3 24 ackO (by decide) (.slice a9 k c9) k ((acksV l).take k).flatten rfl hO9.out _ (l.length - (k + 1)) _ ((acksV l).drop (k + 1)) rfl hys.out (fun y hy => acksV_1 l y (List.mem_of_mem_drop hy)) (by unfold maxLen; omega) (by omega) bs2 ?_))
        intro a8 c8 W8 hO8 hG8 hN8
        replace hO8 : OwnE _ W8 w.heap.size 3 (.slice a8 (k + (l.length - (k + 1))) c8) (k + (l.length - (k + 1))) _ := hO8
        have r0d := (hG8.block p0_0 (held_lt r0b) (fun e => hO9.out.ne r0b (by decide) e.symm)).trans r0b
        have r1d := (hG8.block p0_1 (held_lt r1b) (fun e => hnb.out e.symm)).trans r1b
        have r2d := (hG8.block p0_2 (held_lt r2b) (fun e => hO9.out.ne r2b (by decide) e.symm)).trans r2b
        have hBd := hBb.out.grown hG8 bs2 (fun k2 e => (hO9.out.lt k2 e).1)
        have x0 := held_cell r0d 0 _ rfl
        have f0 := held_free r0d 0
        obtain ⟨S1, hS1, s1, q1⟩ := st1 r0d 0 (.slice a8 (k + (l.length - (k + 1))) c8)
        have hBe := belowS hBd q1 np0
        have r2e := (q1.block p0_2 (fun e => e02 e.symm)).trans r2d
        have r1e := (q1.block p0_1 (fun e => e01 e.symm)).trans r1d
        have hO7 := hO8.kept (w' := S1) (fun g2 hg2 => q1.block g2 (fun e => by subst e; exact (hO8.ne r0d (by decide)) hg2))
        obtain ⟨l2, hl9⟩ : ∃ l2, l.eraseIdx k = l2 := ⟨_, rfl⟩
        have hcs : ((acksV l).take k).flatten ++ ((acksV l).drop (k + 1)).flatten = (acksV l2).flatten := by rw [← hl9, ← List.flatten_append]; congr 1; simp [acksV, List.eraseIdx_eq_take_drop_succ, List.map_take, List.map_drop]
        rw [hcs] at hO7
        have hle := hid (show (k + (l.length - (k + 1))) = l2.length by rw [← hl9, List.length_eraseIdx]; split <;> omega)
        replace hl9 := hid hl9
        have m0 := held_cell r1e 0 _ rfl
        have u0 := held_cell s1 0 _ rfl
        have u1 := held_cell s1 1 _ rfl
        have u2 := held_cell s1 2 _ rfl
        have u3 := held_cell s1 3 _ rfl
        have wy : IntKind.i64.wrap (y + 1) = y + 1 := by rw [IntKind.wrap_i64]; omega
        have wn : IntKind.i64.wrap (n + 1) = n + 1 := by rw [IntKind.wrap_i64]; omega
        clear hO8 hG8 hN8 hBd q1 r0d r1d r2d r0b r1b r2b z0 z1 hys hcs hO9 r0q r1q r2q
        cases b
        · have ff := held_free s1 2
          obtain ⟨S2, hS2, s2, q2⟩ := st1 s1 2 (.int .i64 (n + 1))
          have hBf := belowS hBe q2 np0
          have r2f := (q2.block p0_2 (fun e => e02 e.symm)).trans r2e
          have hO5 := hO7.kept (w' := S2) (fun g2 hg2 => q2.block g2 (fun e => by subst e; exact (hO7.ne s1 (by decide)) hg2))
          have v0 := held_cell s2 0 _ rfl
          have v1 := held_cell s2 1 _ rfl
          have v2 := held_cell s2 2 _ rfl
          have v3 := held_cell s2 3 _ rfl
          have y0 := held_cell r2f 0 _ rfl
          have y1 := held_cell r2f 1 _ rfl
          have y2 := held_cell r2f 2 _ rfl
          have y3 := held_cell r2f 3 _ rfl
          have g0 := held_free r2f 0
          have g1 := held_free r2f 1
          have g2 := held_free r2f 2
          have g3 := held_free r2f 3
          obtain ⟨W4, hW4, ya, yO⟩ := st4 r2f (.slice a8 (k + (l.length - (k + 1))) c8) (.int .i64 y) (.int .i64 (n + 1)) (.int .i64 o)
          have hB4 := hid (belowS hBf yO np2)
          have ez0 := held_cell ya 0 _ rfl
          have ez1 := held_cell ya 1 _ rfl
          have ez2 := held_cell ya 2 _ rfl
          have ez3 := held_cell ya 3 _ rfl
          have hO6 := hO5.kept (w' := W4) (fun g2 hg2 => yO.block g2 (fun e => by subst e; exact (hO5.ne r2f (by decide)) hg2))
          rw [hle.out] at hO6
          have hE6 := hid (hO6.els (by simp [acksV]) (acksV_m _))
          have hbk := hid hO6.blk
          clear hO5 hO6 hO7 yO ya q2 hBf hBe
          replace s1 := hid s1
          replace s2 := hid s2
          replace r2e := hid r2e
          replace r2f := hid r2f
          replace r1e := hid r1e
          go_wp2_with fail
          refine bodyPost_ret (v := .tuple #[.agg #[.slice a8 (k + (l.length - (k + 1))) c8, .int .i64 y, .int .i64 (n + 1), .int .i64 o], .bool true]) (by simp [results, Try.results17, go_sem, ez0, ez1, ez2, ez3]) rfl ?_
          rw [e.out]
          exact ⟨a8, c8, by rw [← hl9.out] at hle; rw [show (l.eraseIdx k).length = (k + (l.length - (k + 1))) from hle.out.symm]; rfl, by rw [hl9.out]; exact hE6.out, hB4.out, .inr hbk.out⟩
        · have ff := held_free s1 1
          obtain ⟨S2, hS2, s2, q2⟩ := st1 s1 1 (.int .i64 (y + 1))
          have hBf := belowS hBe q2 np0
          have r2f := (q2.block p0_2 (fun e => e02 e.symm)).trans r2e
          have hO5 := hO7.kept (w' := S2) (fun g2 hg2 => q2.block g2 (fun e => by subst e; exact (hO7.ne s1 (by decide)) hg2))
          have v0 := held_cell s2 0 _ rfl
          have v1 := held_cell s2 1 _ rfl
          have v2 := held_cell s2 2 _ rfl
          have v3 := held_cell s2 3 _ rfl
          have y0 := held_cell r2f 0 _ rfl
          have y1 := held_cell r2f 1 _ rfl
          have y2 := held_cell r2f 2 _ rfl
          have y3 := held_cell r2f 3 _ rfl
          have g0 := held_free r2f 0
          have g1 := held_free r2f 1
          have g2 := held_free r2f 2
          have g3 := held_free r2f 3
          obtain ⟨W4, hW4, ya, yO⟩ := st4 r2f (.slice a8 (k + (l.length - (k + 1))) c8) (.int .i64 (y + 1)) (.int .i64 n) (.int .i64 o)
          have hB4 := hid (belowS hBf yO np2)
          have ez0 := held_cell ya 0 _ rfl
          have ez1 := held_cell ya 1 _ rfl
          have ez2 := held_cell ya 2 _ rfl
          have ez3 := held_cell ya 3 _ rfl
          have hO6 := hO5.kept (w' := W4) (fun g2 hg2 => yO.block g2 (fun e => by subst e; exact (hO5.ne r2f (by decide)) hg2))
          rw [hle.out] at hO6
          have hE6 := hid (hO6.els (by simp [acksV]) (acksV_m _))
          have hbk := hid hO6.blk
          clear hO5 hO6 hO7 yO ya q2 hBf hBe
          replace s1 := hid s1
          replace s2 := hid s2
          replace r2e := hid r2e
          replace r2f := hid r2f
          replace r1e := hid r1e
          go_wp2_with fail
          refine bodyPost_ret (v := .tuple #[.agg #[.slice a8 (k + (l.length - (k + 1))) c8, .int .i64 (y + 1), .int .i64 n, .int .i64 o], .bool true]) (by simp [results, Try.results17, go_sem, ez0, ez1, ez2, ez3]) rfl ?_
          rw [e.out]
          exact ⟨a8, c8, by rw [← hl9.out] at hle; rw [show (l.eraseIdx k).length = (k + (l.length - (k + 1))) from hle.out.symm]; rfl, by rw [hl9.out]; exact hE6.out, hB4.out, .inr hbk.out⟩
    · have hxx := placeS_no (show k < placeS l c i by omega) hx
      have hk1 := hid (show k + 1 ≤ placeS l c i by omega)
      obtain ⟨x1, x2⟩ := x
      dsimp only at g1 g2 hxx
      clear hk hpl hkp hx hE2 hB2
      have w1 : IntKind.i64.wrap ((k : Int) + 1) = (k : Int) + 1 := by rw [IntKind.wrap_i64]; omega
      replace r0 := hid r0
      replace r1 := hid r1
      replace r2 := hid r2
      replace hA := hid hA
      cases q1 : (x1 == c)
      · clear hxx
        go_wp2_with fail
        go_quiet (fail)
        go_wp2_with fail
        go_roundw
        case rel => exact ⟨k + 1, hk1.out, by simp, below_drewN hA.out _⟩
        case measure => simp [intOf]; omega
      · have q2 : (x2 == i) = false := by rw [q1] at hxx; simpa using hxx
        clear hxx
        go_wp2_with fail
        go_quiet (fail)
        go_wp2_with fail
        go_roundw
        case rel => exact ⟨k + 1, hk1.out, by simp, below_drewN hA.out _⟩
        case measure => simp [intOf]; omega

end Go.Proofs.Ythcaljelmchkcaa
