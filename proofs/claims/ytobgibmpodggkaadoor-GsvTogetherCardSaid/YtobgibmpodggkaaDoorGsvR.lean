/- Package landfallref29: Add. -/
import Derived.Test.YtobgibmpodggkaaDoorGV3
import Derived.Test.YtobgibmpodggkaaDoorGV2
import Derived.Test.YtobgibmpodggkaaDoorKA
import Derived.Laws.Tables
import Derived.Laws.StructEq
import Derived.Deep.DeepCutAuto
namespace Go.Proofs.YtobgibmpodggkaaDoor
open Go.ChangeShapes Go.WideShapes Go.ChangeAt Go.RowKit
set_option linter.unusedVariables false
set_option linter.unusedSimpArgs false

/-- How the papers answer a message. -/
def RdOk (w : World) (s : (Int × Int × List V4) × Option (List V4)) (r : Ending) (w' : World) : Prop :=
  ∃ (a1 : Option Addr) (n1 c1 : Nat) (a2 : Option Addr) (n2 c2 : Nat), r = .returned (.tuple #[.agg #[.int .i64 s.1.1, .int .i64 s.1.2.1, .slice a1 n1 c1], .slice a2 n2 c2, .bool s.2.isSome]) ∧ Els w' 8 a1 n1 c1 (s.1.2.2.map enV) ∧ Els w' 8 a2 n2 c2 ((s.2.getD []).map enV) ∧ (∀ x, a1 = some x → w.heap.size ≤ x.block) ∧ (∀ x, a2 = some x → w.heap.size ≤ x.block) ∧ After w w'
theorem preB29 (N : Nat) : PreO (Below N) := ⟨fun w => Below.refl _ w, fun h k => h.trans k⟩
set_option maxRecDepth 100000 in
set_option maxHeartbeats 16000000 in
theorem radd29_any (t n : Int) (la : Option Addr) (ln lc : Nat) (ls : List V4) (tt no sn : Int) (va : Option Addr) (vn vc : Nat) (vs : List V4) (w : World) (hL : Els w 8 la ln lc (ls.map enV)) (h36 : ls.length ≤ 100) (hS : Els w 8 va vn vc (vs.map enV)) : Calls Tryd.prog 18 #[.agg #[.int .i64 t, .int .i64 n, .slice la ln lc], .agg #[.int .i64 tt, .int .i64 no, .int .i64 sn, .slice va vn vc]] w (RdOk w (addS t n ls tt no vs)) := by
  have hvl : vs.length = vn := by have := hS.1; rw [List.length_map] at this; exact this
  have hll : ls.length = ln := by have := hL.1; rw [List.length_map] at this; exact this
  have eno := addS_no (t := t) (n := n) (ls := ls) (tt := tt) (no := no) (vs := vs)
  have emo := fun l1 => addS_more (t := t) (n := n) (ls := ls) (l1 := l1) (tt := tt) (no := no) (vs := vs)
  have ela := fun l1 => addS_last (t := t) (n := n) (ls := ls) (l1 := l1) (tt := tt) (no := no) (vs := vs)
  obtain ⟨R, hR⟩ : ∃ R, addS t n ls tt no vs = R := ⟨_, rfl⟩
  rw [hR] at eno
  simp only [hR] at emo ela
  rw [hR]
  rw [hvl] at eno
  simp only [hvl] at emo ela
  clear hR
  replace hll := hid hll
  replace eno := hid eno
  replace emo := hid emo
  replace ela := hid ela
  replace hvl := hid hvl
  replace hS := hid hS
  replace hL := hid hL
  go_enter Tryd.func18, Tryd.ntmps18
  go_upto_region 0 with (fail)
  apply wp_region_seg0 (w := w) (S := [.al 1000, .al 1000, .al 1000, .q [], .q []]) (E := [.al ((fun p => .pointer (some ⟨p, 0, none⟩)), _) 1000, .al ((fun p => .pointer (some ⟨p, 0, none⟩)), _) 1000, .al ((fun p => .pointer (some ⟨p, 0, none⟩)), _) 1000, .q0 _, .q0 _]) rfl (by kernel_rfl) rfl rfl
  intro th hge hne
  refine Seg.step _ rfl ⟨by rfl, fun U hU => ?_⟩ ?_
  · go_simp; exact vp_alloc rfl rfl rfl
  refine Seg.sa ?_
  refine Seg.step _ rfl ⟨by rfl, fun U hU => ?_⟩ ?_
  · go_simp; exact vp_alloc rfl rfl rfl
  refine Seg.sa ?_
  refine Seg.step _ rfl ⟨by rfl, fun U hU => ?_⟩ ?_
  · go_simp; exact vp_alloc rfl rfl rfl
  refine Seg.sa ?_
  refine Seg.sq ?_
  refine Seg.sq ?_
  refine Seg.stop (fun U1 hU hk => ?_)
  have nb0 := hge 0 _ _ rfl
  have rb0 := (hk 0 _ _ rfl trivial).1.2 (by simp)
  have nb1 := hge 1 _ _ rfl
  have rb1 := (hk 1 _ _ rfl trivial).1.2 (by simp)
  have nb2 := hge 2 _ _ rfl
  have rb2 := (hk 2 _ _ rfl trivial).1.2 (by simp)
  have ne0_1 := hne 0 1 _ _ _ _ rfl rfl (by omega)
  have ne0_2 := hne 0 2 _ _ _ _ rfl rfl (by omega)
  have ne1_2 := hne 1 2 _ _ _ _ rfl rfl (by omega)
  clear hk hge hne
  generalize th (0 + 0) = p0_0 at *
  dsimp only at rb0
  generalize th (0 + 1) = p0_1 at *
  dsimp only at rb1
  generalize th (0 + 2) = p0_2 at *
  dsimp only at rb2
  have r_p0_0 := rb0
  clear rb0
  have n_p0_0 := nb0
  clear nb0
  have d_p0_0_p0_1 := ne0_1
  clear ne0_1
  have d_p0_0_p0_2 := ne0_2
  clear ne0_2
  have r_p0_1 := rb1
  clear rb1
  have n_p0_1 := nb1
  clear nb1
  have d_p0_1_p0_2 := ne1_2
  clear ne1_2
  have r_p0_2 := rb2
  clear rb2
  have n_p0_2 := nb2
  clear nb2
  have sz1 := hU.size
  have hB : Below w.heap.size w U1 := hU
  clear hU
  have hS0 := hid (els_lt29 hS.out (by decide))
  replace hL := hid (hL.out.below hB)
  replace hS := hid (hS.out.below hB)
  have lt0 := held_lt r_p0_0
  have lt1 := held_lt r_p0_1
  have lt2 := held_lt r_p0_2
  have k0 := held_cell r_p0_0 0 _ rfl
  have k1 := held_cell r_p0_0 1 _ rfl
  have k2 := held_cell r_p0_0 2 _ rfl
  have m0 := held_cell r_p0_1 0 _ rfl
  have m1 := held_cell r_p0_1 1 _ rfl
  have m2 := held_cell r_p0_1 2 _ rfl
  have m3 := held_cell r_p0_1 3 _ rfl
  have hk := hid r_p0_0
  have hm := hid r_p0_1
  have hr := hid r_p0_2
  replace hB := hid hB
  clear r_p0_0 r_p0_1 r_p0_2
  by_cases q0 : tt < 1
  case pos =>
    have b0 : decide (tt < 1) = true := by simpa using q0
    have e0 := eno.out (fun h => by have h2 : 1 ≤ tt ∧ tt ≤ 9 ∧ 1 ≤ no ∧ no ≤ tt ∧ vn ≤ 4 := of_decide_eq_true h.1; omega)
    clear eno emo ela
    subst e0
    have x0 := held_cell hr.out 0 _ rfl
    have x1 := held_cell hr.out 1 _ rfl
    have x2 := held_cell hr.out 2 _ rfl
    have f0 := held_free hr.out 0
    have f1 := held_free hr.out 1
    have f2 := held_free hr.out 2
    obtain ⟨W9, hW9, ya, yO⟩ := st3 hr.out (.int .i64 0) (.int .i64 0) (.slice none 0 0)
    have hB9 := belowS hB.out yO n_p0_2
    have hfin := hid (show RdOk w ((0, 0, []), none) (.returned (.tuple #[.agg #[.int .i64 0, .int .i64 0, .slice none 0 0], .slice none 0 0, .bool false])) W9 from ⟨none, 0, 0, none, 0, 0, rfl, Els.nil _ _, Els.nil _ _, fun x hx => (by cases hx), fun x hx => (by cases hx), hB9⟩)
    have ez0 := held_cell ya 0 _ rfl
    have ez1 := held_cell ya 1 _ rfl
    have ez2 := held_cell ya 2 _ rfl
    clear ya yO hB9
    go_wp2_with fail
    refine bodyPost_ret (v := .tuple #[.agg #[.int .i64 0, .int .i64 0, .slice none 0 0], .slice none 0 0, .bool false]) (by simp [results, Tryd.results18, go_sem, ez0, ez1, ez2]) rfl hfin.out
  have b0 : decide (tt < 1) = false := by simpa using q0
  by_cases q1 : 9 < tt
  case pos =>
    have b1 : decide (9 < tt) = true := by simpa using q1
    have e0 := eno.out (fun h => by have h2 : 1 ≤ tt ∧ tt ≤ 9 ∧ 1 ≤ no ∧ no ≤ tt ∧ vn ≤ 4 := of_decide_eq_true h.1; omega)
    clear eno emo ela
    subst e0
    have x0 := held_cell hr.out 0 _ rfl
    have x1 := held_cell hr.out 1 _ rfl
    have x2 := held_cell hr.out 2 _ rfl
    have f0 := held_free hr.out 0
    have f1 := held_free hr.out 1
    have f2 := held_free hr.out 2
    obtain ⟨W9, hW9, ya, yO⟩ := st3 hr.out (.int .i64 0) (.int .i64 0) (.slice none 0 0)
    have hB9 := belowS hB.out yO n_p0_2
    have hfin := hid (show RdOk w ((0, 0, []), none) (.returned (.tuple #[.agg #[.int .i64 0, .int .i64 0, .slice none 0 0], .slice none 0 0, .bool false])) W9 from ⟨none, 0, 0, none, 0, 0, rfl, Els.nil _ _, Els.nil _ _, fun x hx => (by cases hx), fun x hx => (by cases hx), hB9⟩)
    have ez0 := held_cell ya 0 _ rfl
    have ez1 := held_cell ya 1 _ rfl
    have ez2 := held_cell ya 2 _ rfl
    clear ya yO hB9
    go_wp2_with fail
    refine bodyPost_ret (v := .tuple #[.agg #[.int .i64 0, .int .i64 0, .slice none 0 0], .slice none 0 0, .bool false]) (by simp [results, Tryd.results18, go_sem, ez0, ez1, ez2]) rfl hfin.out
  have b1 : decide (9 < tt) = false := by simpa using q1
  by_cases q2 : no < 1
  case pos =>
    have b2 : decide (no < 1) = true := by simpa using q2
    have e0 := eno.out (fun h => by have h2 : 1 ≤ tt ∧ tt ≤ 9 ∧ 1 ≤ no ∧ no ≤ tt ∧ vn ≤ 4 := of_decide_eq_true h.1; omega)
    clear eno emo ela
    subst e0
    have x0 := held_cell hr.out 0 _ rfl
    have x1 := held_cell hr.out 1 _ rfl
    have x2 := held_cell hr.out 2 _ rfl
    have f0 := held_free hr.out 0
    have f1 := held_free hr.out 1
    have f2 := held_free hr.out 2
    obtain ⟨W9, hW9, ya, yO⟩ := st3 hr.out (.int .i64 0) (.int .i64 0) (.slice none 0 0)
    have hB9 := belowS hB.out yO n_p0_2
    have hfin := hid (show RdOk w ((0, 0, []), none) (.returned (.tuple #[.agg #[.int .i64 0, .int .i64 0, .slice none 0 0], .slice none 0 0, .bool false])) W9 from ⟨none, 0, 0, none, 0, 0, rfl, Els.nil _ _, Els.nil _ _, fun x hx => (by cases hx), fun x hx => (by cases hx), hB9⟩)
    have ez0 := held_cell ya 0 _ rfl
    have ez1 := held_cell ya 1 _ rfl
    have ez2 := held_cell ya 2 _ rfl
    clear ya yO hB9
    go_wp2_with fail
    refine bodyPost_ret (v := .tuple #[.agg #[.int .i64 0, .int .i64 0, .slice none 0 0], .slice none 0 0, .bool false]) (by simp [results, Tryd.results18, go_sem, ez0, ez1, ez2]) rfl hfin.out
  have b2 : decide (no < 1) = false := by simpa using q2
  by_cases q3 : tt < no
  case pos =>
    have b3 : decide (tt < no) = true := by simpa using q3
    have e0 := eno.out (fun h => by have h2 : 1 ≤ tt ∧ tt ≤ 9 ∧ 1 ≤ no ∧ no ≤ tt ∧ vn ≤ 4 := of_decide_eq_true h.1; omega)
    clear eno emo ela
    subst e0
    have x0 := held_cell hr.out 0 _ rfl
    have x1 := held_cell hr.out 1 _ rfl
    have x2 := held_cell hr.out 2 _ rfl
    have f0 := held_free hr.out 0
    have f1 := held_free hr.out 1
    have f2 := held_free hr.out 2
    obtain ⟨W9, hW9, ya, yO⟩ := st3 hr.out (.int .i64 0) (.int .i64 0) (.slice none 0 0)
    have hB9 := belowS hB.out yO n_p0_2
    have hfin := hid (show RdOk w ((0, 0, []), none) (.returned (.tuple #[.agg #[.int .i64 0, .int .i64 0, .slice none 0 0], .slice none 0 0, .bool false])) W9 from ⟨none, 0, 0, none, 0, 0, rfl, Els.nil _ _, Els.nil _ _, fun x hx => (by cases hx), fun x hx => (by cases hx), hB9⟩)
    have ez0 := held_cell ya 0 _ rfl
    have ez1 := held_cell ya 1 _ rfl
    have ez2 := held_cell ya 2 _ rfl
    clear ya yO hB9
    go_wp2_with fail
    refine bodyPost_ret (v := .tuple #[.agg #[.int .i64 0, .int .i64 0, .slice none 0 0], .slice none 0 0, .bool false]) (by simp [results, Tryd.results18, go_sem, ez0, ez1, ez2]) rfl hfin.out
  have b3 : decide (tt < no) = false := by simpa using q3
  by_cases q4 : 4 < vn
  case pos =>
    have b4 : decide ((4 : Int) < (vn : Int)) = true := by simp; omega
    have e0 := eno.out (fun h => by have h2 : 1 ≤ tt ∧ tt ≤ 9 ∧ 1 ≤ no ∧ no ≤ tt ∧ vn ≤ 4 := of_decide_eq_true h.1; omega)
    clear eno emo ela
    subst e0
    have x0 := held_cell hr.out 0 _ rfl
    have x1 := held_cell hr.out 1 _ rfl
    have x2 := held_cell hr.out 2 _ rfl
    have f0 := held_free hr.out 0
    have f1 := held_free hr.out 1
    have f2 := held_free hr.out 2
    obtain ⟨W9, hW9, ya, yO⟩ := st3 hr.out (.int .i64 0) (.int .i64 0) (.slice none 0 0)
    have hB9 := belowS hB.out yO n_p0_2
    have hfin := hid (show RdOk w ((0, 0, []), none) (.returned (.tuple #[.agg #[.int .i64 0, .int .i64 0, .slice none 0 0], .slice none 0 0, .bool false])) W9 from ⟨none, 0, 0, none, 0, 0, rfl, Els.nil _ _, Els.nil _ _, fun x hx => (by cases hx), fun x hx => (by cases hx), hB9⟩)
    have ez0 := held_cell ya 0 _ rfl
    have ez1 := held_cell ya 1 _ rfl
    have ez2 := held_cell ya 2 _ rfl
    clear ya yO hB9
    go_wp2_with fail
    refine bodyPost_ret (v := .tuple #[.agg #[.int .i64 0, .int .i64 0, .slice none 0 0], .slice none 0 0, .bool false]) (by simp [results, Tryd.results18, go_sem, ez0, ez1, ez2]) rfl hfin.out
  have b4 : decide ((4 : Int) < (vn : Int)) = false := by simp; omega
  have hg : rgB tt no vn = true := decide_eq_true (by omega)
  by_cases c1 : no = 1
  case pos =>
    have bq : (no == 1) = true := by simpa using c1
    have bq2 : (no != 1) = false := by simp [c1]
    replace c1 := hid c1
    have tq2 : (tt != tt) = false := bne_self_eq_false tt
    have f0 := held_free hk.out 0
    have f1 := held_free hk.out 1
    have f2 := held_free hk.out 2
    obtain ⟨W3, hW3, ya, yO⟩ := st3 hk.out (.int .i64 tt) (.int .i64 1) (.slice none 0 0)
    obtain ⟨ls1, hL1⟩ : ∃ L, ([] : List V4) = L := ⟨_, rfl⟩
    obtain ⟨l1, hl0⟩ : ∃ l, 0 = l := ⟨_, rfl⟩
    obtain ⟨n1, hn1⟩ : ∃ x : Int, 1 = x := ⟨_, rfl⟩
    replace hL := hid (show Els W3 8 none l1 0 (ls1.map enV) from by rw [← hL1, ← hl0]; exact Els.nil _ _)
    replace hS := hid (hS.out.kept29 (fun x hx h0 => yO.block x.block (fun e => by have := els_lt29 hS.out (by decide) x hx h0; have := hS0.out x hx h0; omega)))
    replace hm := hid ((yO.block p0_1 (Ne.symm d_p0_0_p0_1)).trans hm.out)
    replace hr := hid ((yO.block p0_2 (Ne.symm d_p0_0_p0_2)).trans hr.out)
    replace hB := hid (belowS hB.out yO n_p0_0)
    have n5 := held_cell ya 0 _ rfl
    have n6 := held_cell ya 1 _ rfl
    have n7 := held_cell ya 2 _ rfl
    have o5 := held_cell hm.out 0 _ rfl
    have o6 := held_cell hm.out 1 _ rfl
    have o7 := held_cell hm.out 2 _ rfl
    have o8 := held_cell hm.out 3 _ rfl
    replace hk := hid (show W3.heap[p0_0]? = some (.cells #[.int .i64 tt, .int .i64 n1, .slice none l1 0] 42 (0, 0)) from by rw [← hn1, ← hl0]; exact ya)
    replace hL1 := hid hL1
    replace hl0 := hid hl0
    replace hn1 := hid hn1
    clear ya yO
    go_upto_region 7 with (fail)
    clear n5 n6 n7 o5 o6 o7 o8 f0 f1 f2 hW3
    have hgg := hid (show rgB tt no vn = true ∧ (no = 1 ∨ (t = tt ∧ n = no)) from ⟨hg, .inl c1.out⟩)
    have hi1 := hid (show (if no = 1 then [] else ls) = ls1 from (if_pos c1.out).trans hL1.out)
    replace emo := hid (fun h => emo.out ls1 hgg.out hi1.out h)
    replace ela := hid (fun h => ela.out ls1 hgg.out hi1.out h)
    clear hgg hi1 eno hg
    have hl1 := hid (show (ls1 : List V4).length = l1 from by rw [← hL1.out, ← hl0.out]; rfl)
    have hl100 : l1 ≤ 100 := by have := hl1.out; have := hl0.out; omega
    have hNn := hid (show n1 = no from hn1.out.symm.trans c1.out.symm)
    go_upto_region 7 with (fail)
    clear m0 m1 m2 m3 b0 b1 b2 b3 b4
    have kQ := hid (show W3.drew.heap[p0_0]? = _ from hk.out)
    have mQ := hid (show W3.drew.heap[p0_1]? = _ from hm.out)
    have rQ := hid (show W3.drew.heap[p0_2]? = _ from hr.out)
    have lQ := hid (show Els W3.drew _ _ _ _ _ from hL.out)
    have sQ := hid (show Els W3.drew _ _ _ _ _ from hS.out)
    have hBQ := hid (show Below w.heap.size w W3.drew from hB.out.drew)
    obtain ⟨QQ, hQQ⟩ : ∃ X, W3.drew = X := ⟨_, rfl⟩
    rw [hQQ] at kQ mQ rQ lQ sQ hBQ
    have hT := hid (Below.refl QQ.heap.size QQ)
    have lk := held_lt kQ.out
    have lm := held_lt mQ.out
    have lr := held_lt rQ.out
    have hwQ := hBQ.out.size
    clear hk hm hr hL hS hB
    refine wp_region_G (Below W3.drew.heap.size) 8 (by kernel_rfl) ?_
    rw [hQQ]
    refine wpAnyG_takeP (preB29 _) 1 rfl (by kernel_rfl) (by kernel_rfl) (by kernel_rfl) (fun _ _ _ _ h => h) ⟨_, Or.inl ⟨by rfl, fun w2 _ => by (go_simp; try with_reducible rfl)⟩, _, by (go_simp; try rfl), ?_⟩
    refine wpAnyG_take (preB29 _) 2 rfl (by kernel_rfl) (by kernel_rfl) (by kernel_rfl) (by kernel_rfl) (fun _ _ _ _ h => h) ⟨_, Or.inl ⟨by rfl, fun w2 hb2 => by (have h2 := held_cell ((hb2.block p0_0 lk).trans kQ.out) 2 _ rfl; go_simp; try with_reducible rfl)⟩, _, by (go_simp; try rfl), ?_⟩
    refine wpAnyG_takeP (preB29 _) 4 rfl (by kernel_rfl) (by kernel_rfl) (by kernel_rfl) (fun _ _ _ _ h => h) ⟨_, Or.inl ⟨by rfl, fun w2 _ => by (go_simp; try with_reducible rfl)⟩, _, by (go_simp; try rfl), ?_⟩
    refine wpAnyG_take (preB29 _) 5 rfl (by kernel_rfl) (by kernel_rfl) (by kernel_rfl) (by kernel_rfl) (fun _ _ _ _ h => h) ⟨_, Or.inl ⟨by rfl, fun w2 hb2 => by (have h3 := held_cell ((hb2.block p0_1 lm).trans mQ.out) 3 _ rfl; go_simp; try with_reducible rfl)⟩, _, by (go_simp; try rfl), ?_⟩
    refine wpAnyG_only 0 rfl (by kernel_rfl) (by rfl) (fun K hK => ?_)
    go_simp
    have hO := OwnE.lit (E := 69) QQ #[] 0 QQ.heap.size 8 (Nat.le_refl _) (by unfold maxLen; omega) rfl
    have hA := (alloc_new QQ (.cells #[] 69)).2.1
    obtain ⟨X0, hX0⟩ : ∃ X, QQ.alloc (.cells #[] 69) = X := ⟨_, rfl⟩
    rw [hX0] at hA hO ⊢
    replace hO := hid hO
    replace hT := hid (show Below QQ.heap.size QQ X0 from hA)
    clear hX0
    refine hK _ _ ⟨fun _ => hA, ?_⟩
    clear hK
    clear hA
    refine wpAnyG_only 3 rfl (by kernel_rfl) (by rfl) (fun K hK => ?_)
    have sX := hT.out.size
    refine wp_appE (.tmp 53) (.tmp 55) 22 rfl QQ.heap.size 69 8 64 viO (by decide) (.slice (some ⟨QQ.heap.size, 0, none⟩) 0 0) 0 [] rfl hO.out none l1 0 ((ls1 : List V4).map enV) rfl (lQ.out.below hT.out) (enV_one _) (by unfold maxLen; omega) (by omega) sX ?_
    try simp only [Nat.zero_add, List.nil_append]
    intro a7 c7 W7 hO7 hG7 hN7
    try simp only [Nat.zero_add, List.nil_append] at hO7 hN7
    have hA := (Below.refl QQ.heap.size X0).grown hG7 sX (fun k e => (hO.out.lt k e).1)
    replace hT := hid (hT.out.trans hA)
    replace hO := hid hO7
    clear hO7 hG7 hN7 sX
    refine hK _ _ ⟨fun _ => hA, ?_⟩
    clear hK
    clear hA
    refine wpAnyG_only 6 rfl (by kernel_rfl) (by rfl) (fun K hK => ?_)
    have sX := hT.out.size
    refine wp_appE (.tmp 56) (.tmp 58) 22 rfl QQ.heap.size 69 8 64 viO (by decide) (.slice a7 l1 c7) l1 ((ls1 : List V4).map enV).flatten rfl hO.out va vn vc (vs.map enV) rfl (sQ.out.below hT.out) (enV_one _) (by unfold maxLen; omega) (by omega) sX ?_
    intro a9 c9 W9 hO9 hG9 hN9
    have hA := (Below.refl QQ.heap.size W7).grown hG9 sX (fun k e => (hO.out.lt k e).1)
    replace hT := hid (hT.out.trans hA)
    replace hO := hid hO9
    clear hO9 hG9 hN9 sX
    refine hK _ _ ⟨fun _ => hA, ?_⟩
    clear hK
    clear hA
    refine wpAnyG_takeP (preB29 _) 7 rfl (by kernel_rfl) (by kernel_rfl) (by kernel_rfl) (fun _ _ _ _ h => h) ⟨_, Or.inl ⟨by rfl, fun w2 _ => by (go_simp; try with_reducible rfl)⟩, _, by (go_simp; try rfl), ?_⟩
    refine wpAnyG_only 8 rfl (by kernel_rfl) (by rfl) (fun K hK => ?_)
    have k9 := (hT.out.block p0_0 lk).trans kQ.out
    have z1 := held_cell k9 2 _ rfl
    have f1 := held_free k9 2
    obtain ⟨S1, hS1, y1, o1⟩ := st1 k9 2 (.slice a9 (l1 + vn) c9)
    have hO2 := hid (ownE_only hO.out k9 (by decide) o1)
    have m9 := hid ((o1.block p0_1 (Ne.symm d_p0_0_p0_1)).trans ((hT.out.block p0_1 lm).trans mQ.out))
    have r9 := hid ((o1.block p0_2 (Ne.symm d_p0_0_p0_2)).trans ((hT.out.block p0_2 lr).trans rQ.out))
    have hB9 := hid (belowS (hBQ.out.trans (hT.out.mono (by omega))) o1 n_p0_0)
    clear o1 hO hT mQ rQ lQ sQ hBQ
    go_simp
    refine hK _ _ ⟨fun h => (h rfl).elim, ?_⟩
    clear hK
    refine wpAnyG_done (by kernel_rfl) ?_ _
    have k9 := hid (show S1.heap[p0_0]? = some (.cells #[.int .i64 tt, .int .i64 n1, .slice a9 (l1 + vn) c9] 42 (0, 0)) from y1)
    clear y1 z1 f1 hS1 kQ k0 k1 k2
    have hO := hid (show OwnE 69 S1 QQ.heap.size 8 (.slice a9 (l1 + vn) c9) (l1 + vn) ((ls1 ++ vs).map enV).flatten from by rw [List.map_append, List.flatten_append]; exact hO2.out)
    have lF := hid (show (ls1 ++ vs).length = l1 + vn from by rw [List.length_append, hl1.out, hvl.out])
    clear hO2
    obtain ⟨L9, hL9⟩ : ∃ L, ls1 ++ vs = L := ⟨_, rfl⟩
    rw [hL9] at emo ela hO lF
    replace hL9 := hid hL9
    obtain ⟨l9, hl9⟩ : ∃ l, l1 + vn = l := ⟨_, rfl⟩
    rw [hl9] at k9 hO lF
    replace hl9 := hid hl9
    have hnew := hid (fun x (hx : a9 = some x) => (show w.heap.size ≤ x.block from by have := hO.out.lt x.block (by rw [hx]; rfl); omega))
    have y1 := held_cell k9.out 1 _ rfl
    have f1 := held_free k9.out 1
    obtain ⟨S2, hS2, y2, o2⟩ := st1 k9.out 1 (.int .i64 (no + 1))
    have wn : IntKind.i64.wrap (n1 + 1) = no + 1 := by rw [hNn.out, IntKind.wrap_i64]; omega
    replace hO := hid (ownE_only hO.out k9.out (by decide) o2)
    replace m9 := hid ((o2.block p0_1 (Ne.symm d_p0_0_p0_1)).trans m9.out)
    replace r9 := hid ((o2.block p0_2 (Ne.symm d_p0_0_p0_2)).trans r9.out)
    replace hB9 := hid (belowS hB9.out o2 n_p0_0)
    have k8 := hid (show S2.heap[p0_0]? = some (.cells #[.int .i64 tt, .int .i64 (no + 1), .slice a9 l9 c9] 42 (0, 0)) from y2)
    clear o2 y2 k9
    have m0 := held_cell m9.out 0 _ rfl
    have m1 := held_cell m9.out 1 _ rfl
    have hEl := hid (hO.out.els (by rw [List.length_map]; exact lF.out) (enV_m L9))
    by_cases qc : no = tt
    case neg =>
      have b9 : (no == tt) = false := by simpa using qc
      have e9 := emo.out (by omega)
      clear emo ela
      subst e9
      have z0 := held_cell k8.out 0 _ rfl
      have z1 := held_cell k8.out 1 _ rfl
      have z2 := held_cell k8.out 2 _ rfl
      have x0 := held_cell r9.out 0 _ rfl
      have x1 := held_cell r9.out 1 _ rfl
      have x2 := held_cell r9.out 2 _ rfl
      have g0 := held_free r9.out 0
      have g1 := held_free r9.out 1
      have g2 := held_free r9.out 2
      obtain ⟨W9, hW9, ya, yO⟩ := st3 r9.out (.int .i64 tt) (.int .i64 (no + 1)) (.slice a9 l9 c9)
      have hBf := belowS hB9.out yO n_p0_2
      have hEf := (ownE_only hO.out r9.out (by decide) yO).els (by rw [List.length_map]; exact lF.out) (enV_m L9)
      have hfin := hid (show RdOk w ((tt, no + 1, L9), none) (.returned (.tuple #[.agg #[.int .i64 tt, .int .i64 (no + 1), .slice a9 l9 c9], .slice none 0 0, .bool false])) W9 from ⟨a9, l9, c9, none, 0, 0, rfl, hEf, Els.nil _ _, hnew.out, fun x hx => (by cases hx), hBf⟩)
      have ez0 := held_cell ya 0 _ rfl
      have ez1 := held_cell ya 1 _ rfl
      have ez2 := held_cell ya 2 _ rfl
      clear ya yO hBf hEf
      go_wp2_with fail
      refine bodyPost_ret (v := .tuple #[.agg #[.int .i64 tt, .int .i64 (no + 1), .slice a9 l9 c9], .slice none 0 0, .bool false]) (by simp [results, Tryd.results18, go_sem, ez0, ez1, ez2]) rfl hfin.out
    have b9 : (no == tt) = true := by simpa using qc
    have qcl : ¬ no < tt := by omega
    have e9 := ela.out (by omega)
    clear emo ela
    subst e9
    replace qc := hid qc
    go_upto_region 10 with (fail)
    clear m0 m1
    have kQ := (show S2.drew.heap[p0_0]? = _ from k8.out)
    have rQ := (show S2.drew.heap[p0_2]? = _ from r9.out)
    have oQ := hid (show OwnE _ S2.drew _ _ _ _ _ from hO.out)
    have hBQ := hid (show Below w.heap.size w S2.drew from hB9.out.drew)
    clear hQQ
    obtain ⟨QP, hQP⟩ : ∃ X, S2.drew = X := ⟨_, rfl⟩
    have hQQ := hQP
    rw [hQP] at kQ rQ oQ hBQ
    have hlq := held_lt kQ
    have c2q := held_cell kQ 2 _ rfl
    have x0 := held_cell rQ 0 _ rfl
    have x1 := held_cell rQ 1 _ rfl
    have x2 := held_cell rQ 2 _ rfl
    have g0 := held_free rQ 0
    have g1 := held_free rQ 1
    have g2 := held_free rQ 2
    obtain ⟨W9, hW9, ya, yO⟩ := st3 rQ (.int .i64 0) (.int .i64 0) (.slice none 0 0)
    have hBf := belowS hBQ.out yO n_p0_2
    have hEf := (ownE_only oQ.out rQ (by decide) yO).els (by rw [List.length_map]; exact lF.out) (enV_m L9)
    have hfin := hid (show RdOk w ((0, 0, []), some L9) (.returned (.tuple #[.agg #[.int .i64 0, .int .i64 0, .slice none 0 0], .slice a9 l9 c9, .bool true])) W9 from ⟨none, 0, 0, a9, l9, c9, rfl, Els.nil _ _, hEf, fun x hx => (by cases hx), hnew.out, hBf⟩)
    have ez0 := held_cell ya 0 _ rfl
    have ez1 := held_cell ya 1 _ rfl
    have ez2 := held_cell ya 2 _ rfl
    have kpf := hid (show Kp QP.heap.size [p0_2] QP W9 from ⟨yO.os, yO.tape, yO.output, by rw [yO.size]; exact Nat.le_refl _, fun k h1 h2 => yO.block k (fun e => h2 (by simp [e]))⟩)
    clear ya yO hBf hEf
    refine wp_region_K (N := S2.drew.heap.size) (X := [p0_2]) (by kernel_rfl) ?_
    rw [hQQ]
    refine wpAnyK_take 0 rfl (by kernel_rfl) (by kernel_rfl) (by kernel_rfl) (fun _ _ _ _ h => h) ⟨_, Or.inl ⟨by rfl, fun w2 hb => by (go_simp; try with_reducible rfl)⟩, _, by (go_simp; try rfl), ?_⟩
    refine wpAnyK_take 1 rfl (by kernel_rfl) (by kernel_rfl) (by kernel_rfl) (fun _ _ _ _ h => h) ⟨_, Or.inl ⟨by rfl, fun w2 hb => by (go_simp; try with_reducible rfl)⟩, _, by (go_simp; try rfl), ?_⟩
    refine wpAnyK_take 2 rfl (by kernel_rfl) (by kernel_rfl) (by kernel_rfl) (fun _ _ _ _ h => h) ⟨_, Or.inl ⟨by rfl, fun w2 hb => by (have h2 := Kp.cellB hb (by simpa using hlq) (by simp [d_p0_0_p0_2]) c2q; go_simp; try with_reducible rfl)⟩, _, by (go_simp; try rfl), ?_⟩
    refine wpAnyK_only 3 rfl (by kernel_rfl) (by rfl) (fun K hK => ?_)
    go_simp
    refine hK _ _ ⟨kpf.out, ?_⟩
    clear hK
    refine wpAnyK_take 4 rfl (by kernel_rfl) (by kernel_rfl) (by kernel_rfl) (fun _ _ _ _ h => h) ⟨_, Or.inl ⟨by rfl, fun w2 hb => by (go_simp; try with_reducible rfl)⟩, _, by (go_simp; try rfl), ?_⟩
    refine wpAnyK_take 5 rfl (by kernel_rfl) (by kernel_rfl) (by kernel_rfl) (fun _ _ _ _ h => h) ⟨_, Or.inl ⟨by rfl, fun w2 hb => by (go_simp; try with_reducible rfl)⟩, _, by (go_simp; try rfl), ?_⟩
    refine wpAnyK_done (by kernel_rfl) ?_ _
    go_wp2_with fail
    refine bodyPost_ret (v := .tuple #[.agg #[.int .i64 0, .int .i64 0, .slice none 0 0], .slice a9 l9 c9, .bool true]) (by simp [results, Tryd.results18, go_sem, ez0, ez1, ez2]) rfl hfin.out
  have bq : (no == 1) = false := by simpa using c1
  by_cases cn : no = n
  case neg =>
    have b5 : (no != n) = true := by simpa using cn
    have e0 := eno.out (fun h => by rcases h.2 with h | h; exact c1 h; exact cn h.2.symm)
    clear eno emo ela
    subst e0
    have x0 := held_cell hr.out 0 _ rfl
    have x1 := held_cell hr.out 1 _ rfl
    have x2 := held_cell hr.out 2 _ rfl
    have f0 := held_free hr.out 0
    have f1 := held_free hr.out 1
    have f2 := held_free hr.out 2
    obtain ⟨W9, hW9, ya, yO⟩ := st3 hr.out (.int .i64 0) (.int .i64 0) (.slice none 0 0)
    have hB9 := belowS hB.out yO n_p0_2
    have hfin := hid (show RdOk w ((0, 0, []), none) (.returned (.tuple #[.agg #[.int .i64 0, .int .i64 0, .slice none 0 0], .slice none 0 0, .bool false])) W9 from ⟨none, 0, 0, none, 0, 0, rfl, Els.nil _ _, Els.nil _ _, fun x hx => (by cases hx), fun x hx => (by cases hx), hB9⟩)
    have ez0 := held_cell ya 0 _ rfl
    have ez1 := held_cell ya 1 _ rfl
    have ez2 := held_cell ya 2 _ rfl
    clear ya yO hB9
    go_wp2_with fail
    refine bodyPost_ret (v := .tuple #[.agg #[.int .i64 0, .int .i64 0, .slice none 0 0], .slice none 0 0, .bool false]) (by simp [results, Tryd.results18, go_sem, ez0, ez1, ez2]) rfl hfin.out
  have b5 : (no != n) = false := by simp [cn]
  by_cases ct : tt = t
  case neg =>
    have b6 : (tt != t) = true := by simpa using ct
    have e0 := eno.out (fun h => by rcases h.2 with h | h; exact c1 h; exact ct h.1.symm)
    clear eno emo ela
    subst e0
    have x0 := held_cell hr.out 0 _ rfl
    have x1 := held_cell hr.out 1 _ rfl
    have x2 := held_cell hr.out 2 _ rfl
    have f0 := held_free hr.out 0
    have f1 := held_free hr.out 1
    have f2 := held_free hr.out 2
    obtain ⟨W9, hW9, ya, yO⟩ := st3 hr.out (.int .i64 0) (.int .i64 0) (.slice none 0 0)
    have hB9 := belowS hB.out yO n_p0_2
    have hfin := hid (show RdOk w ((0, 0, []), none) (.returned (.tuple #[.agg #[.int .i64 0, .int .i64 0, .slice none 0 0], .slice none 0 0, .bool false])) W9 from ⟨none, 0, 0, none, 0, 0, rfl, Els.nil _ _, Els.nil _ _, fun x hx => (by cases hx), fun x hx => (by cases hx), hB9⟩)
    have ez0 := held_cell ya 0 _ rfl
    have ez1 := held_cell ya 1 _ rfl
    have ez2 := held_cell ya 2 _ rfl
    clear ya yO hB9
    go_wp2_with fail
    refine bodyPost_ret (v := .tuple #[.agg #[.int .i64 0, .int .i64 0, .slice none 0 0], .slice none 0 0, .bool false]) (by simp [results, Tryd.results18, go_sem, ez0, ez1, ez2]) rfl hfin.out
  have b6 : (tt != t) = false := by simp [ct]
  subst cn ct
  have hgg := hid (show rgB tt no vn = true ∧ (no = 1 ∨ (tt = tt ∧ no = no)) from ⟨hg, .inr ⟨rfl, rfl⟩⟩)
  have hi1 := hid (show (if no = 1 then [] else ls) = ls from if_neg c1)
  replace emo := hid (fun h => emo.out ls hgg.out hi1.out h)
  replace ela := hid (fun h => ela.out ls hgg.out hi1.out h)
  clear hgg hi1 eno hg
  have hl1 := hid (show (ls : List V4).length = ln from hll.out)
  have hl100 : ln ≤ 100 := by have := hl1.out; omega
  have hNn := hid (show no = no from rfl)
  go_upto_region 7 with (fail)
  clear m0 m1 m2 m3 b0 b1 b2 b3 b4
  have kQ := hid (show U1.drew.heap[p0_0]? = _ from hk.out)
  have mQ := hid (show U1.drew.heap[p0_1]? = _ from hm.out)
  have rQ := hid (show U1.drew.heap[p0_2]? = _ from hr.out)
  have lQ := hid (show Els U1.drew _ _ _ _ _ from hL.out)
  have sQ := hid (show Els U1.drew _ _ _ _ _ from hS.out)
  have hBQ := hid (show Below w.heap.size w U1.drew from hB.out.drew)
  obtain ⟨QQ, hQQ⟩ : ∃ X, U1.drew = X := ⟨_, rfl⟩
  rw [hQQ] at kQ mQ rQ lQ sQ hBQ
  have hT := hid (Below.refl QQ.heap.size QQ)
  have lk := held_lt kQ.out
  have lm := held_lt mQ.out
  have lr := held_lt rQ.out
  have hwQ := hBQ.out.size
  clear hk hm hr hL hS hB
  refine wp_region_G (Below U1.drew.heap.size) 8 (by kernel_rfl) ?_
  rw [hQQ]
  refine wpAnyG_takeP (preB29 _) 1 rfl (by kernel_rfl) (by kernel_rfl) (by kernel_rfl) (fun _ _ _ _ h => h) ⟨_, Or.inl ⟨by rfl, fun w2 _ => by (go_simp; try with_reducible rfl)⟩, _, by (go_simp; try rfl), ?_⟩
  refine wpAnyG_take (preB29 _) 2 rfl (by kernel_rfl) (by kernel_rfl) (by kernel_rfl) (by kernel_rfl) (fun _ _ _ _ h => h) ⟨_, Or.inl ⟨by rfl, fun w2 hb2 => by (have h2 := held_cell ((hb2.block p0_0 lk).trans kQ.out) 2 _ rfl; go_simp; try with_reducible rfl)⟩, _, by (go_simp; try rfl), ?_⟩
  refine wpAnyG_takeP (preB29 _) 4 rfl (by kernel_rfl) (by kernel_rfl) (by kernel_rfl) (fun _ _ _ _ h => h) ⟨_, Or.inl ⟨by rfl, fun w2 _ => by (go_simp; try with_reducible rfl)⟩, _, by (go_simp; try rfl), ?_⟩
  refine wpAnyG_take (preB29 _) 5 rfl (by kernel_rfl) (by kernel_rfl) (by kernel_rfl) (by kernel_rfl) (fun _ _ _ _ h => h) ⟨_, Or.inl ⟨by rfl, fun w2 hb2 => by (have h3 := held_cell ((hb2.block p0_1 lm).trans mQ.out) 3 _ rfl; go_simp; try with_reducible rfl)⟩, _, by (go_simp; try rfl), ?_⟩
  refine wpAnyG_only 0 rfl (by kernel_rfl) (by rfl) (fun K hK => ?_)
  go_simp
  have hO := OwnE.lit (E := 69) QQ #[] 0 QQ.heap.size 8 (Nat.le_refl _) (by unfold maxLen; omega) rfl
  have hA := (alloc_new QQ (.cells #[] 69)).2.1
  obtain ⟨X0, hX0⟩ : ∃ X, QQ.alloc (.cells #[] 69) = X := ⟨_, rfl⟩
  rw [hX0] at hA hO ⊢
  replace hO := hid hO
  replace hT := hid (show Below QQ.heap.size QQ X0 from hA)
  clear hX0
  refine hK _ _ ⟨fun _ => hA, ?_⟩
  clear hK
  clear hA
  refine wpAnyG_only 3 rfl (by kernel_rfl) (by rfl) (fun K hK => ?_)
  have sX := hT.out.size
  refine wp_appE (.tmp 53) (.tmp 55) 22 rfl QQ.heap.size 69 8 64 viO (by decide) (.slice (some ⟨QQ.heap.size, 0, none⟩) 0 0) 0 [] rfl hO.out la ln lc ((ls : List V4).map enV) rfl (lQ.out.below hT.out) (enV_one _) (by unfold maxLen; omega) (by omega) sX ?_
  try simp only [Nat.zero_add, List.nil_append]
  intro a7 c7 W7 hO7 hG7 hN7
  try simp only [Nat.zero_add, List.nil_append] at hO7 hN7
  have hA := (Below.refl QQ.heap.size X0).grown hG7 sX (fun k e => (hO.out.lt k e).1)
  replace hT := hid (hT.out.trans hA)
  replace hO := hid hO7
  clear hO7 hG7 hN7 sX
  refine hK _ _ ⟨fun _ => hA, ?_⟩
  clear hK
  clear hA
  refine wpAnyG_only 6 rfl (by kernel_rfl) (by rfl) (fun K hK => ?_)
  have sX := hT.out.size
  refine wp_appE (.tmp 56) (.tmp 58) 22 rfl QQ.heap.size 69 8 64 viO (by decide) (.slice a7 ln c7) ln ((ls : List V4).map enV).flatten rfl hO.out va vn vc (vs.map enV) rfl (sQ.out.below hT.out) (enV_one _) (by unfold maxLen; omega) (by omega) sX ?_
  intro a9 c9 W9 hO9 hG9 hN9
  have hA := (Below.refl QQ.heap.size W7).grown hG9 sX (fun k e => (hO.out.lt k e).1)
  replace hT := hid (hT.out.trans hA)
  replace hO := hid hO9
  clear hO9 hG9 hN9 sX
  refine hK _ _ ⟨fun _ => hA, ?_⟩
  clear hK
  clear hA
  refine wpAnyG_takeP (preB29 _) 7 rfl (by kernel_rfl) (by kernel_rfl) (by kernel_rfl) (fun _ _ _ _ h => h) ⟨_, Or.inl ⟨by rfl, fun w2 _ => by (go_simp; try with_reducible rfl)⟩, _, by (go_simp; try rfl), ?_⟩
  refine wpAnyG_only 8 rfl (by kernel_rfl) (by rfl) (fun K hK => ?_)
  have k9 := (hT.out.block p0_0 lk).trans kQ.out
  have z1 := held_cell k9 2 _ rfl
  have f1 := held_free k9 2
  obtain ⟨S1, hS1, y1, o1⟩ := st1 k9 2 (.slice a9 (ln + vn) c9)
  have hO2 := hid (ownE_only hO.out k9 (by decide) o1)
  have m9 := hid ((o1.block p0_1 (Ne.symm d_p0_0_p0_1)).trans ((hT.out.block p0_1 lm).trans mQ.out))
  have r9 := hid ((o1.block p0_2 (Ne.symm d_p0_0_p0_2)).trans ((hT.out.block p0_2 lr).trans rQ.out))
  have hB9 := hid (belowS (hBQ.out.trans (hT.out.mono (by omega))) o1 n_p0_0)
  clear o1 hO hT mQ rQ lQ sQ hBQ
  go_simp
  refine hK _ _ ⟨fun h => (h rfl).elim, ?_⟩
  clear hK
  refine wpAnyG_done (by kernel_rfl) ?_ _
  have k9 := hid (show S1.heap[p0_0]? = some (.cells #[.int .i64 tt, .int .i64 no, .slice a9 (ln + vn) c9] 42 (0, 0)) from y1)
  clear y1 z1 f1 hS1 kQ k0 k1 k2
  have hO := hid (show OwnE 69 S1 QQ.heap.size 8 (.slice a9 (ln + vn) c9) (ln + vn) ((ls ++ vs).map enV).flatten from by rw [List.map_append, List.flatten_append]; exact hO2.out)
  have lF := hid (show (ls ++ vs).length = ln + vn from by rw [List.length_append, hl1.out, hvl.out])
  clear hO2
  obtain ⟨L9, hL9⟩ : ∃ L, ls ++ vs = L := ⟨_, rfl⟩
  rw [hL9] at emo ela hO lF
  replace hL9 := hid hL9
  obtain ⟨l9, hl9⟩ : ∃ l, ln + vn = l := ⟨_, rfl⟩
  rw [hl9] at k9 hO lF
  replace hl9 := hid hl9
  have hnew := hid (fun x (hx : a9 = some x) => (show w.heap.size ≤ x.block from by have := hO.out.lt x.block (by rw [hx]; rfl); omega))
  have y1 := held_cell k9.out 1 _ rfl
  have f1 := held_free k9.out 1
  obtain ⟨S2, hS2, y2, o2⟩ := st1 k9.out 1 (.int .i64 (no + 1))
  have wn : IntKind.i64.wrap (no + 1) = no + 1 := by rw [hNn.out, IntKind.wrap_i64]; omega
  replace hO := hid (ownE_only hO.out k9.out (by decide) o2)
  replace m9 := hid ((o2.block p0_1 (Ne.symm d_p0_0_p0_1)).trans m9.out)
  replace r9 := hid ((o2.block p0_2 (Ne.symm d_p0_0_p0_2)).trans r9.out)
  replace hB9 := hid (belowS hB9.out o2 n_p0_0)
  have k8 := hid (show S2.heap[p0_0]? = some (.cells #[.int .i64 tt, .int .i64 (no + 1), .slice a9 l9 c9] 42 (0, 0)) from y2)
  clear o2 y2 k9
  have m0 := held_cell m9.out 0 _ rfl
  have m1 := held_cell m9.out 1 _ rfl
  have hEl := hid (hO.out.els (by rw [List.length_map]; exact lF.out) (enV_m L9))
  by_cases qc : no = tt
  case neg =>
    have b9 : (no == tt) = false := by simpa using qc
    have e9 := emo.out (by omega)
    clear emo ela
    subst e9
    have z0 := held_cell k8.out 0 _ rfl
    have z1 := held_cell k8.out 1 _ rfl
    have z2 := held_cell k8.out 2 _ rfl
    have x0 := held_cell r9.out 0 _ rfl
    have x1 := held_cell r9.out 1 _ rfl
    have x2 := held_cell r9.out 2 _ rfl
    have g0 := held_free r9.out 0
    have g1 := held_free r9.out 1
    have g2 := held_free r9.out 2
    obtain ⟨W9, hW9, ya, yO⟩ := st3 r9.out (.int .i64 tt) (.int .i64 (no + 1)) (.slice a9 l9 c9)
    have hBf := belowS hB9.out yO n_p0_2
    have hEf := (ownE_only hO.out r9.out (by decide) yO).els (by rw [List.length_map]; exact lF.out) (enV_m L9)
    have hfin := hid (show RdOk w ((tt, no + 1, L9), none) (.returned (.tuple #[.agg #[.int .i64 tt, .int .i64 (no + 1), .slice a9 l9 c9], .slice none 0 0, .bool false])) W9 from ⟨a9, l9, c9, none, 0, 0, rfl, hEf, Els.nil _ _, hnew.out, fun x hx => (by cases hx), hBf⟩)
    have ez0 := held_cell ya 0 _ rfl
    have ez1 := held_cell ya 1 _ rfl
    have ez2 := held_cell ya 2 _ rfl
    clear ya yO hBf hEf
    go_wp2_with fail
    refine bodyPost_ret (v := .tuple #[.agg #[.int .i64 tt, .int .i64 (no + 1), .slice a9 l9 c9], .slice none 0 0, .bool false]) (by simp [results, Tryd.results18, go_sem, ez0, ez1, ez2]) rfl hfin.out
  have b9 : (no == tt) = true := by simpa using qc
  have qcl : ¬ no < tt := by omega
  have e9 := ela.out (by omega)
  clear emo ela
  subst e9
  replace qc := hid qc
  go_upto_region 10 with (fail)
  clear m0 m1
  have kQ := (show S2.drew.heap[p0_0]? = _ from k8.out)
  have rQ := (show S2.drew.heap[p0_2]? = _ from r9.out)
  have oQ := hid (show OwnE _ S2.drew _ _ _ _ _ from hO.out)
  have hBQ := hid (show Below w.heap.size w S2.drew from hB9.out.drew)
  clear hQQ
  obtain ⟨QP, hQP⟩ : ∃ X, S2.drew = X := ⟨_, rfl⟩
  have hQQ := hQP
  rw [hQP] at kQ rQ oQ hBQ
  have hlq := held_lt kQ
  have c2q := held_cell kQ 2 _ rfl
  have x0 := held_cell rQ 0 _ rfl
  have x1 := held_cell rQ 1 _ rfl
  have x2 := held_cell rQ 2 _ rfl
  have g0 := held_free rQ 0
  have g1 := held_free rQ 1
  have g2 := held_free rQ 2
  obtain ⟨W9, hW9, ya, yO⟩ := st3 rQ (.int .i64 0) (.int .i64 0) (.slice none 0 0)
  have hBf := belowS hBQ.out yO n_p0_2
  have hEf := (ownE_only oQ.out rQ (by decide) yO).els (by rw [List.length_map]; exact lF.out) (enV_m L9)
  have hfin := hid (show RdOk w ((0, 0, []), some L9) (.returned (.tuple #[.agg #[.int .i64 0, .int .i64 0, .slice none 0 0], .slice a9 l9 c9, .bool true])) W9 from ⟨none, 0, 0, a9, l9, c9, rfl, Els.nil _ _, hEf, fun x hx => (by cases hx), hnew.out, hBf⟩)
  have ez0 := held_cell ya 0 _ rfl
  have ez1 := held_cell ya 1 _ rfl
  have ez2 := held_cell ya 2 _ rfl
  have kpf := hid (show Kp QP.heap.size [p0_2] QP W9 from ⟨yO.os, yO.tape, yO.output, by rw [yO.size]; exact Nat.le_refl _, fun k h1 h2 => yO.block k (fun e => h2 (by simp [e]))⟩)
  clear ya yO hBf hEf
  refine wp_region_K (N := S2.drew.heap.size) (X := [p0_2]) (by kernel_rfl) ?_
  rw [hQQ]
  refine wpAnyK_take 0 rfl (by kernel_rfl) (by kernel_rfl) (by kernel_rfl) (fun _ _ _ _ h => h) ⟨_, Or.inl ⟨by rfl, fun w2 hb => by (go_simp; try with_reducible rfl)⟩, _, by (go_simp; try rfl), ?_⟩
  refine wpAnyK_take 1 rfl (by kernel_rfl) (by kernel_rfl) (by kernel_rfl) (fun _ _ _ _ h => h) ⟨_, Or.inl ⟨by rfl, fun w2 hb => by (go_simp; try with_reducible rfl)⟩, _, by (go_simp; try rfl), ?_⟩
  refine wpAnyK_take 2 rfl (by kernel_rfl) (by kernel_rfl) (by kernel_rfl) (fun _ _ _ _ h => h) ⟨_, Or.inl ⟨by rfl, fun w2 hb => by (have h2 := Kp.cellB hb (by simpa using hlq) (by simp [d_p0_0_p0_2]) c2q; go_simp; try with_reducible rfl)⟩, _, by (go_simp; try rfl), ?_⟩
  refine wpAnyK_only 3 rfl (by kernel_rfl) (by rfl) (fun K hK => ?_)
  go_simp
  refine hK _ _ ⟨kpf.out, ?_⟩
  clear hK
  refine wpAnyK_take 4 rfl (by kernel_rfl) (by kernel_rfl) (by kernel_rfl) (fun _ _ _ _ h => h) ⟨_, Or.inl ⟨by rfl, fun w2 hb => by (go_simp; try with_reducible rfl)⟩, _, by (go_simp; try rfl), ?_⟩
  refine wpAnyK_take 5 rfl (by kernel_rfl) (by kernel_rfl) (by kernel_rfl) (fun _ _ _ _ h => h) ⟨_, Or.inl ⟨by rfl, fun w2 hb => by (go_simp; try with_reducible rfl)⟩, _, by (go_simp; try rfl), ?_⟩
  refine wpAnyK_done (by kernel_rfl) ?_ _
  go_wp2_with fail
  refine bodyPost_ret (v := .tuple #[.agg #[.int .i64 0, .int .i64 0, .slice none 0 0], .slice a9 l9 c9, .bool true]) (by simp [results, Tryd.results18, go_sem, ez0, ez1, ez2]) rfl hfin.out

end Go.Proofs.YtobgibmpodggkaaDoor
