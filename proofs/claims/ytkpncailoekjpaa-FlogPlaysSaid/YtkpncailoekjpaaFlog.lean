/- Package flog: the small methods. -/
import Derived.Test.YtkpncailoekjpaaFlogM
import Derived.Test.YtkpncailoekjpaaEls
import Derived.Test.YtkpncailoekjpaaKB
import Derived.Test.YtkpncailoekjpaaBlk10
import Derived.Deep.DeepCutAuto
namespace Go.Proofs.Ytkpncailoekjpaa
open Go.ChangeShapes Go.WideShapes Go.ChangeAt Go.RowKit
set_option linter.unusedVariables false
set_option linter.unusedSimpArgs false

/-- A log in memory. -/
def LgSt (B base : Nat) (w : World) (ev : Nat) (s : FSt) : Prop := ∃ a cap, w.heap[B]? = some (.cells #[.int .i64 ev, .slice a s.1.length cap, .int .i64 ((entS (0, zer12) s.1).length : Nat), .int .i64 (s.2.1 : Nat), .int .i64 (s.2.2 : Nat)] 59 (0, 0)) ∧ OwnE 57 w base 14 (.slice a s.1.length cap) s.1.length (entsV s.1).flatten
def Lw (B B0 : Nat) (w w' : World) : Prop := Below B0 w w' ∧ Owp B 1 w w'
theorem LgSt.lt {B base : Nat} {w : World} {ev : Nat} {s : FSt} (h : LgSt B base w ev s) : B < w.heap.size := by
  obtain ⟨_, _, h1, _⟩ := h
  exact held_lt h1
theorem LgSt.aft {B base : Nat} {w w2 : World} {ev : Nat} {s : FSt} (h : LgSt B base w ev s) (hA : After w w2) : LgSt B base w2 ev s := by
  obtain ⟨a, cap, h1, h2⟩ := h
  exact ⟨a, cap, held_after hA h1, h2.below hA⟩
/-- What stands beside a log stays. -/
theorem LgSt.besides {B base D : Nat} {w w2 : World} {ev : Nat} {s : FSt} {c : Array Value} {T : TypeId} (h : LgSt B base w ev s) (hK : Owp B 1 w w2) (hD : w.heap[D]? = some (.cells c T (0, 0))) (hne : D ≠ B) (hT : T ≠ 57) : w2.heap[D]? = some (.cells c T (0, 0)) := by
  obtain ⟨a, cap, h1, h2⟩ := h
  rw [hK.block D (held_lt hD) hne (by rw [wown_at h1 (j := 1) rfl]; exact fun e => h2.ne hD hT e.symm)]
  exact hD
theorem rem_is {a b : Nat} (hb : 0 < b) : (Int.tmod (a : Int) (b : Int) == 0) = decide (a % b = 0) := by
  have e : Int.tmod (a : Int) (b : Int) = ((a % b : Nat) : Int) := by
    rw [Int.tmod_eq_emod_of_nonneg (by omega)]; rfl
  rw [e]
  by_cases h : a % b = 0
  · rw [h]; rfl
  · have h2 : (((a % b : Nat) : Int) == 0) = false := beq_false_of_ne (by omega)
    rw [h2]; simp [h]
theorem right_good (B : Nat) (ev : Int) (v1 v2 v3 v4 : Value) (w : World) (hH : w.heap[B]? = some (.cells #[.int .i64 ev, v1, v2, v3, v4] 59 (0, 0))) (h0 : 0 < ev) : Calls Try.prog 19 #[.pointer (some ⟨B, 0, none⟩)] w fun e w' => e = .returned (.bool true) ∧ w' = w := by
  have z0 := held_cell hH 0 _ rfl
  clear hH
  go_enter Try.func19, Try.ntmps19
  go_wp2_with fail
  go_ret
  exact ⟨rfl, rfl⟩
theorem right_zero (B : Nat) (v1 v2 v3 v4 : Value) (w : World) (hH : w.heap[B]? = some (.cells #[.int .i64 0, v1, v2, v3, v4] 59 (0, 0))) : Calls Try.prog 19 #[.pointer (some ⟨B, 0, none⟩)] w fun e w' => e = .returned (.bool false) ∧ w' = w := by
  have z0 := held_cell hH 0 _ rfl
  clear hH
  go_enter Try.func19, Try.ntmps19
  go_wp2_with fail
  go_ret
  exact ⟨rfl, rfl⟩
theorem right_nil (w : World) : Calls Try.prog 19 #[.pointer none] w fun e w' => e = .returned (.bool false) ∧ w' = w := by
  go_enter Try.func19, Try.ntmps19
  go_wp2_with fail
  go_ret
  exact ⟨rfl, rfl⟩
set_option maxRecDepth 100000 in
set_option maxHeartbeats 4000000 in
theorem whole_any (v0 : Value) (u b0 b1 b2 b3 b4 b5 b6 b7 b8 b9 b10 b11 : Int) (w : World) : Calls Try.prog 25 #[v0, .agg #[.int .u32 u, .int .i32 b0, .int .i32 b1, .int .i32 b2, .int .i32 b3, .int .i32 b4, .int .i32 b5, .int .i32 b6, .int .i32 b7, .int .i32 b8, .int .i32 b9, .int .i32 b10, .int .i32 b11]] w fun e w' => e = .returned (.agg #[.bool true, .int .u32 u, .int .i32 b0, .int .i32 b1, .int .i32 b2, .int .i32 b3, .int .i32 b4, .int .i32 b5, .int .i32 b6, .int .i32 b7, .int .i32 b8, .int .i32 b9, .int .i32 b10, .int .i32 b11]) ∧ After w w' := by
  go_enter Try.func25, Try.ntmps25
  go_upto_region 0 with (fail)
  apply wp_region_seg0 (w := w) (S := [.al 1000, .al 1000]) (E := [.al ((fun p => .pointer (some ⟨p, 0, none⟩)), _) 1000, .al ((fun p => .pointer (some ⟨p, 0, none⟩)), _) 1000]) rfl (by kernel_rfl) rfl rfl
  intro th hge hne
  refine Seg.step _ rfl ⟨by rfl, fun U hU => ?_⟩ ?_
  · go_simp; exact vp_alloc rfl rfl rfl
  refine ⟨_, by (simp only [Ent.val]; go_simp <;> exact rfl), ?_⟩
  refine Seg.step _ rfl ⟨by rfl, fun U hU => ?_⟩ ?_
  · go_simp; exact vp_alloc rfl rfl rfl
  refine ⟨_, by (simp only [Ent.val]; go_simp <;> exact rfl), ?_⟩
  refine Seg.stop (fun U1 hU hk => ?_)
  have nb0 := hge 0 _ _ rfl
  have rb0 := (hk 0 _ _ rfl trivial).1.2 (by simp)
  have nb1 := hge 1 _ _ rfl
  have rb1 := (hk 1 _ _ rfl trivial).1.2 (by simp)
  have ne0_1 := hne 0 1 _ _ _ _ rfl rfl (by omega)
  clear hk hge hne
  generalize th (0 + 0) = p0_0 at *
  dsimp only at rb0
  generalize th (0 + 1) = p0_1 at *
  dsimp only at rb1
  have r_p0_0 := rb0
  clear rb0
  have n_p0_0 := nb0
  clear nb0
  have d_p0_0_p0_1 := ne0_1
  clear ne0_1
  have r_p0_1 := rb1
  clear rb1
  have n_p0_1 := nb1
  clear nb1
  have sz1 := hU.size
  have hB : Below w.heap.size w U1 := hU
  clear hU
  have np := n_p0_1
  have x0 := held_cell r_p0_0 0 _ rfl
  have x1 := held_cell r_p0_0 1 _ rfl
  have x2 := held_cell r_p0_0 2 _ rfl
  have x3 := held_cell r_p0_0 3 _ rfl
  have x4 := held_cell r_p0_0 4 _ rfl
  have x5 := held_cell r_p0_0 5 _ rfl
  have x6 := held_cell r_p0_0 6 _ rfl
  have x7 := held_cell r_p0_0 7 _ rfl
  have x8 := held_cell r_p0_0 8 _ rfl
  have x9 := held_cell r_p0_0 9 _ rfl
  have x10 := held_cell r_p0_0 10 _ rfl
  have x11 := held_cell r_p0_0 11 _ rfl
  have x12 := held_cell r_p0_0 12 _ rfl
  have z0 := held_cell r_p0_1 0 _ rfl
  have z1 := held_cell r_p0_1 1 _ rfl
  have z2 := held_cell r_p0_1 2 _ rfl
  have z3 := held_cell r_p0_1 3 _ rfl
  have z4 := held_cell r_p0_1 4 _ rfl
  have z5 := held_cell r_p0_1 5 _ rfl
  have z6 := held_cell r_p0_1 6 _ rfl
  have z7 := held_cell r_p0_1 7 _ rfl
  have z8 := held_cell r_p0_1 8 _ rfl
  have z9 := held_cell r_p0_1 9 _ rfl
  have z10 := held_cell r_p0_1 10 _ rfl
  have z11 := held_cell r_p0_1 11 _ rfl
  have z12 := held_cell r_p0_1 12 _ rfl
  have z13 := held_cell r_p0_1 13 _ rfl
  have g0 := held_free r_p0_1 0
  have g1 := held_free r_p0_1 1
  have g2 := held_free r_p0_1 2
  have g3 := held_free r_p0_1 3
  have g4 := held_free r_p0_1 4
  have g5 := held_free r_p0_1 5
  have g6 := held_free r_p0_1 6
  have g7 := held_free r_p0_1 7
  have g8 := held_free r_p0_1 8
  have g9 := held_free r_p0_1 9
  have g10 := held_free r_p0_1 10
  have g11 := held_free r_p0_1 11
  have g12 := held_free r_p0_1 12
  have g13 := held_free r_p0_1 13
  obtain ⟨W9, hW9, ya, yO⟩ := st14 r_p0_1 (.bool true) (.int .u32 u) (.int .i32 b0) (.int .i32 b1) (.int .i32 b2) (.int .i32 b3) (.int .i32 b4) (.int .i32 b5) (.int .i32 b6) (.int .i32 b7) (.int .i32 b8) (.int .i32 b9) (.int .i32 b10) (.int .i32 b11)
  have hB9 := hid (belowS hB yO np)
  have ez0 := held_cell ya 0 _ rfl
  have ez1 := held_cell ya 1 _ rfl
  have ez2 := held_cell ya 2 _ rfl
  have ez3 := held_cell ya 3 _ rfl
  have ez4 := held_cell ya 4 _ rfl
  have ez5 := held_cell ya 5 _ rfl
  have ez6 := held_cell ya 6 _ rfl
  have ez7 := held_cell ya 7 _ rfl
  have ez8 := held_cell ya 8 _ rfl
  have ez9 := held_cell ya 9 _ rfl
  have ez10 := held_cell ya 10 _ rfl
  have ez11 := held_cell ya 11 _ rfl
  have ez12 := held_cell ya 12 _ rfl
  have ez13 := held_cell ya 13 _ rfl
  clear yO ya
  go_wp2_with fail
  refine bodyPost_ret (v := .agg #[.bool true, .int .u32 u, .int .i32 b0, .int .i32 b1, .int .i32 b2, .int .i32 b3, .int .i32 b4, .int .i32 b5, .int .i32 b6, .int .i32 b7, .int .i32 b8, .int .i32 b9, .int .i32 b10, .int .i32 b11]) (by simp [results, Try.results25, go_sem, ez0, ez1, ez2, ez3, ez4, ez5, ez6, ez7, ez8, ez9, ez10, ez11, ez12, ez13]) rfl ⟨rfl, hB9.out⟩
set_option maxRecDepth 100000 in
set_option maxHeartbeats 4000000 in
theorem change_any (v0 : Value) (u b0 b1 b2 b3 b4 b5 b6 b7 b8 b9 b10 b11 : Int) (w : World) : Calls Try.prog 35 #[v0, .agg #[.int .u32 u, .int .i32 b0, .int .i32 b1, .int .i32 b2, .int .i32 b3, .int .i32 b4, .int .i32 b5, .int .i32 b6, .int .i32 b7, .int .i32 b8, .int .i32 b9, .int .i32 b10, .int .i32 b11]] w fun e w' => e = .returned (.agg #[.bool false, .int .u32 u, .int .i32 b0, .int .i32 b1, .int .i32 b2, .int .i32 b3, .int .i32 b4, .int .i32 b5, .int .i32 b6, .int .i32 b7, .int .i32 b8, .int .i32 b9, .int .i32 b10, .int .i32 b11]) ∧ After w w' := by
  go_enter Try.func35, Try.ntmps35
  go_upto_region 0 with (fail)
  apply wp_region_seg0 (w := w) (S := [.al 1000, .al 1000]) (E := [.al ((fun p => .pointer (some ⟨p, 0, none⟩)), _) 1000, .al ((fun p => .pointer (some ⟨p, 0, none⟩)), _) 1000]) rfl (by kernel_rfl) rfl rfl
  intro th hge hne
  refine Seg.step _ rfl ⟨by rfl, fun U hU => ?_⟩ ?_
  · go_simp; exact vp_alloc rfl rfl rfl
  refine ⟨_, by (simp only [Ent.val]; go_simp <;> exact rfl), ?_⟩
  refine Seg.step _ rfl ⟨by rfl, fun U hU => ?_⟩ ?_
  · go_simp; exact vp_alloc rfl rfl rfl
  refine ⟨_, by (simp only [Ent.val]; go_simp <;> exact rfl), ?_⟩
  refine Seg.stop (fun U1 hU hk => ?_)
  have nb0 := hge 0 _ _ rfl
  have rb0 := (hk 0 _ _ rfl trivial).1.2 (by simp)
  have nb1 := hge 1 _ _ rfl
  have rb1 := (hk 1 _ _ rfl trivial).1.2 (by simp)
  have ne0_1 := hne 0 1 _ _ _ _ rfl rfl (by omega)
  clear hk hge hne
  generalize th (0 + 0) = p0_0 at *
  dsimp only at rb0
  generalize th (0 + 1) = p0_1 at *
  dsimp only at rb1
  have r_p0_0 := rb0
  clear rb0
  have n_p0_0 := nb0
  clear nb0
  have d_p0_0_p0_1 := ne0_1
  clear ne0_1
  have r_p0_1 := rb1
  clear rb1
  have n_p0_1 := nb1
  clear nb1
  have sz1 := hU.size
  have hB : Below w.heap.size w U1 := hU
  clear hU
  have np := n_p0_1
  have x0 := held_cell r_p0_0 0 _ rfl
  have x1 := held_cell r_p0_0 1 _ rfl
  have x2 := held_cell r_p0_0 2 _ rfl
  have x3 := held_cell r_p0_0 3 _ rfl
  have x4 := held_cell r_p0_0 4 _ rfl
  have x5 := held_cell r_p0_0 5 _ rfl
  have x6 := held_cell r_p0_0 6 _ rfl
  have x7 := held_cell r_p0_0 7 _ rfl
  have x8 := held_cell r_p0_0 8 _ rfl
  have x9 := held_cell r_p0_0 9 _ rfl
  have x10 := held_cell r_p0_0 10 _ rfl
  have x11 := held_cell r_p0_0 11 _ rfl
  have x12 := held_cell r_p0_0 12 _ rfl
  have z0 := held_cell r_p0_1 0 _ rfl
  have z1 := held_cell r_p0_1 1 _ rfl
  have z2 := held_cell r_p0_1 2 _ rfl
  have z3 := held_cell r_p0_1 3 _ rfl
  have z4 := held_cell r_p0_1 4 _ rfl
  have z5 := held_cell r_p0_1 5 _ rfl
  have z6 := held_cell r_p0_1 6 _ rfl
  have z7 := held_cell r_p0_1 7 _ rfl
  have z8 := held_cell r_p0_1 8 _ rfl
  have z9 := held_cell r_p0_1 9 _ rfl
  have z10 := held_cell r_p0_1 10 _ rfl
  have z11 := held_cell r_p0_1 11 _ rfl
  have z12 := held_cell r_p0_1 12 _ rfl
  have z13 := held_cell r_p0_1 13 _ rfl
  have g0 := held_free r_p0_1 0
  have g1 := held_free r_p0_1 1
  have g2 := held_free r_p0_1 2
  have g3 := held_free r_p0_1 3
  have g4 := held_free r_p0_1 4
  have g5 := held_free r_p0_1 5
  have g6 := held_free r_p0_1 6
  have g7 := held_free r_p0_1 7
  have g8 := held_free r_p0_1 8
  have g9 := held_free r_p0_1 9
  have g10 := held_free r_p0_1 10
  have g11 := held_free r_p0_1 11
  have g12 := held_free r_p0_1 12
  have g13 := held_free r_p0_1 13
  obtain ⟨W9, hW9, ya, yO⟩ := st14 r_p0_1 (.bool false) (.int .u32 u) (.int .i32 b0) (.int .i32 b1) (.int .i32 b2) (.int .i32 b3) (.int .i32 b4) (.int .i32 b5) (.int .i32 b6) (.int .i32 b7) (.int .i32 b8) (.int .i32 b9) (.int .i32 b10) (.int .i32 b11)
  have hB9 := hid (belowS hB yO np)
  have ez0 := held_cell ya 0 _ rfl
  have ez1 := held_cell ya 1 _ rfl
  have ez2 := held_cell ya 2 _ rfl
  have ez3 := held_cell ya 3 _ rfl
  have ez4 := held_cell ya 4 _ rfl
  have ez5 := held_cell ya 5 _ rfl
  have ez6 := held_cell ya 6 _ rfl
  have ez7 := held_cell ya 7 _ rfl
  have ez8 := held_cell ya 8 _ rfl
  have ez9 := held_cell ya 9 _ rfl
  have ez10 := held_cell ya 10 _ rfl
  have ez11 := held_cell ya 11 _ rfl
  have ez12 := held_cell ya 12 _ rfl
  have ez13 := held_cell ya 13 _ rfl
  clear yO ya
  go_wp2_with fail
  refine bodyPost_ret (v := .agg #[.bool false, .int .u32 u, .int .i32 b0, .int .i32 b1, .int .i32 b2, .int .i32 b3, .int .i32 b4, .int .i32 b5, .int .i32 b6, .int .i32 b7, .int .i32 b8, .int .i32 b9, .int .i32 b10, .int .i32 b11]) (by simp [results, Try.results35, go_sem, ez0, ez1, ez2, ez3, ez4, ez5, ez6, ez7, ez8, ez9, ez10, ez11, ez12, ez13]) rfl ⟨rfl, hB9.out⟩
theorem lastR_at : ∀ {l : List En} {st : Int × List Int} {n : Nat} {x : En}, l.length = n → 0 < n → l[n - 1]? = some x → lastR st l = x.2
  | [], _, n, _, h, h0, _ => by simp at h; omega
  | [y], st, n, x, h, h0, hx => by
    obtain rfl : n = 1 := by simpa using h.symm
    simp at hx; subst hx; rfl
  | y :: z :: l, st, n, x, h, h0, hx => by
    have h1 : (z :: l).length = n - 1 := by simp at h ⊢; omega
    show lastR y.2 (z :: l) = x.2
    refine lastR_at (n := n - 1) h1 (by simp at h1; omega) ?_
    rw [show n - 1 = (n - 1 - 1) + 1 by simp at h1; omega] at hx
    simpa using hx
set_option maxRecDepth 100000 in
set_option maxHeartbeats 8000000 in
theorem last_any (B ev n cap sz rc bk : Nat) (a : Option Addr) (l : List En) (w : World) (hH : w.heap[B]? = some (.cells #[.int .i64 ev, .slice a n cap, .int .i64 sz, .int .i64 rc, .int .i64 bk] 59 (0, 0))) (hn : l.length = n) (h100 : n ≤ 1000) (hE : Els w 14 a n cap (entsV l)) (hl : ∀ x ∈ l, EnOk x) : Calls Try.prog 24 #[.pointer (some ⟨B, 0, none⟩)] w fun e w' => e = .returned (recA (lastR (0, zer12) l).1 (lastR (0, zer12) l).2) ∧ After w w' := by
  obtain ⟨r, hr⟩ : ∃ r, lastR (0, zer12) l = r := ⟨_, rfl⟩
  rw [hr]
  go_enter Try.func24, Try.ntmps24
  go_upto_region 0 with (fail)
  apply wp_region_seg0 (w := w) (S := [.al 1000]) (E := [.al ((fun p => .pointer (some ⟨p, 0, none⟩)), _) 1000]) rfl (by kernel_rfl) rfl rfl
  intro th hge hne
  refine Seg.step _ rfl ⟨by rfl, fun U hU => ?_⟩ ?_
  · go_simp; exact vp_alloc rfl rfl rfl
  refine ⟨_, by (simp only [Ent.val]; go_simp <;> exact rfl), ?_⟩
  refine Seg.stop (fun U1 hU hk => ?_)
  have nb0 := hge 0 _ _ rfl
  have rb0 := (hk 0 _ _ rfl trivial).1.2 (by simp)
  clear hk hge hne
  generalize th (0 + 0) = p0_0 at *
  dsimp only at rb0
  have r_p0_0 := rb0
  clear rb0
  have n_p0_0 := nb0
  clear nb0
  have sz1 := hU.size
  have hB : Below w.heap.size w U1 := hU
  clear hU
  have np := n_p0_0
  have hHb := held_after hB hH
  have nB : B ≠ p0_0 := by have := held_lt hH; omega
  have y1 := held_cell hHb 1 _ rfl
  by_cases h0 : n = 0
  case pos =>
    obtain rfl : l = [] := List.eq_nil_of_length_eq_zero (by omega)
    replace hr : r = (0, zer12) := hr.symm
    replace hr := hid hr
    have q0 : ((n : Int) == 0) = true := by rw [h0]; rfl
    have z0 := held_cell r_p0_0 0 _ rfl
    have z1 := held_cell r_p0_0 1 _ rfl
    have z2 := held_cell r_p0_0 2 _ rfl
    have z3 := held_cell r_p0_0 3 _ rfl
    have z4 := held_cell r_p0_0 4 _ rfl
    have z5 := held_cell r_p0_0 5 _ rfl
    have z6 := held_cell r_p0_0 6 _ rfl
    have z7 := held_cell r_p0_0 7 _ rfl
    have z8 := held_cell r_p0_0 8 _ rfl
    have z9 := held_cell r_p0_0 9 _ rfl
    have z10 := held_cell r_p0_0 10 _ rfl
    have z11 := held_cell r_p0_0 11 _ rfl
    have z12 := held_cell r_p0_0 12 _ rfl
    have g0 := held_free r_p0_0 0
    have g1 := held_free r_p0_0 1
    have g2 := held_free r_p0_0 2
    have g3 := held_free r_p0_0 3
    have g4 := held_free r_p0_0 4
    have g5 := held_free r_p0_0 5
    have g6 := held_free r_p0_0 6
    have g7 := held_free r_p0_0 7
    have g8 := held_free r_p0_0 8
    have g9 := held_free r_p0_0 9
    have g10 := held_free r_p0_0 10
    have g11 := held_free r_p0_0 11
    have g12 := held_free r_p0_0 12
    obtain ⟨W9, hW9, ya, yO⟩ := st13 r_p0_0 (.int .u32 0) (.int .i32 0) (.int .i32 0) (.int .i32 0) (.int .i32 0) (.int .i32 0) (.int .i32 0) (.int .i32 0) (.int .i32 0) (.int .i32 0) (.int .i32 0) (.int .i32 0) (.int .i32 0)
    have hB9 := hid (belowS hB yO np)
    have ez0 := held_cell ya 0 _ rfl
    have ez1 := held_cell ya 1 _ rfl
    have ez2 := held_cell ya 2 _ rfl
    have ez3 := held_cell ya 3 _ rfl
    have ez4 := held_cell ya 4 _ rfl
    have ez5 := held_cell ya 5 _ rfl
    have ez6 := held_cell ya 6 _ rfl
    have ez7 := held_cell ya 7 _ rfl
    have ez8 := held_cell ya 8 _ rfl
    have ez9 := held_cell ya 9 _ rfl
    have ez10 := held_cell ya 10 _ rfl
    have ez11 := held_cell ya 11 _ rfl
    have ez12 := held_cell ya 12 _ rfl
    clear yO ya
    go_wp2_with fail
    refine bodyPost_ret (v := .agg #[.int .u32 0, .int .i32 0, .int .i32 0, .int .i32 0, .int .i32 0, .int .i32 0, .int .i32 0, .int .i32 0, .int .i32 0, .int .i32 0, .int .i32 0, .int .i32 0, .int .i32 0]) (by simp [results, Try.results24, go_sem, ez0, ez1, ez2, ez3, ez4, ez5, ez6, ez7, ez8, ez9, ez10, ez11, ez12]) rfl ⟨by rw [hr.out]; rfl, hB9.out⟩
  have q0 : ((n : Int) == 0) = false := by simpa using h0
  obtain ⟨x, hx⟩ : ∃ x, l[n - 1]? = some x := ⟨_, List.getElem?_eq_getElem (show n - 1 < l.length by omega)⟩
  have hxl : lastR (0, zer12) l = x.2 := lastR_at hn (by omega) hx
  obtain ⟨hu, hbl, hbb⟩ := hl x (List.mem_of_getElem? hx)
  obtain ⟨kb, u, bl⟩ := x
  dsimp only at hu hbl hbb
  obtain ⟨b0, b1, b2, b3, b4, b5, b6, b7, b8, b9, b10, b11, rfl⟩ := list12 hbl
  replace hr : r = (u, [b0, b1, b2, b3, b4, b5, b6, b7, b8, b9, b10, b11]) := hr.symm.trans hxl
  replace hr := hid hr
  obtain ⟨bb, of2, rfl, g0, g1, g2, g3, g4, g5, g6, g7, g8, g9, g10, g11, g12, g13⟩ := hE.at14 (entsV_at hx)
  have lbw : bb < w.heap.size := World.block_lt_of_cell? w _ g1
  have hne : bb ≠ p0_0 := by omega
  replace g0 := (Below.cell hB (World.block_lt_of_cell? w _ g0)).trans g0
  replace g1 := (Below.cell hB (World.block_lt_of_cell? w _ g1)).trans g1
  replace g2 := (Below.cell hB (World.block_lt_of_cell? w _ g2)).trans g2
  replace g3 := (Below.cell hB (World.block_lt_of_cell? w _ g3)).trans g3
  replace g4 := (Below.cell hB (World.block_lt_of_cell? w _ g4)).trans g4
  replace g5 := (Below.cell hB (World.block_lt_of_cell? w _ g5)).trans g5
  replace g6 := (Below.cell hB (World.block_lt_of_cell? w _ g6)).trans g6
  replace g7 := (Below.cell hB (World.block_lt_of_cell? w _ g7)).trans g7
  replace g8 := (Below.cell hB (World.block_lt_of_cell? w _ g8)).trans g8
  replace g9 := (Below.cell hB (World.block_lt_of_cell? w _ g9)).trans g9
  replace g10 := (Below.cell hB (World.block_lt_of_cell? w _ g10)).trans g10
  replace g11 := (Below.cell hB (World.block_lt_of_cell? w _ g11)).trans g11
  replace g12 := (Below.cell hB (World.block_lt_of_cell? w _ g12)).trans g12
  replace g13 := (Below.cell hB (World.block_lt_of_cell? w _ g13)).trans g13
  obtain ⟨m, hm⟩ : ∃ m, n - 1 = m := ⟨_, rfl⟩
  rw [hm] at g0 g1 g2 g3 g4 g5 g6 g7 g8 g9 g10 g11 g12 g13
  have wn : IntKind.i64.wrap ((n : Int) - 1) = (m : Int) := by rw [IntKind.wrap_i64]; omega
  have hmn : (m : Int) < n := by omega
  have hmz : (0 : Int) ≤ m := by omega
  have hmn2 : m < n := by omega
  clear hm hxl hu hbb hx hbl hE hn
  go_upto_region 3 with (fail)
  obtain ⟨QQ, hQQ⟩ : ∃ X, U1.drew = X := ⟨_, rfl⟩
  have bQ := (show U1.drew.heap[B]? = _ from hHb)
  have rQ := (show U1.drew.heap[p0_0]? = _ from r_p0_0)
  have hBQ := hB.drew
  have v1 := (show U1.drew.cell? _ = _ from g1)
  have v2 := (show U1.drew.cell? _ = _ from g2)
  have v3 := (show U1.drew.cell? _ = _ from g3)
  have v4 := (show U1.drew.cell? _ = _ from g4)
  have v5 := (show U1.drew.cell? _ = _ from g5)
  have v6 := (show U1.drew.cell? _ = _ from g6)
  have v7 := (show U1.drew.cell? _ = _ from g7)
  have v8 := (show U1.drew.cell? _ = _ from g8)
  have v9 := (show U1.drew.cell? _ = _ from g9)
  have v10 := (show U1.drew.cell? _ = _ from g10)
  have v11 := (show U1.drew.cell? _ = _ from g11)
  have v12 := (show U1.drew.cell? _ = _ from g12)
  have v13 := (show U1.drew.cell? _ = _ from g13)
  rw [hQQ] at bQ rQ hBQ v1 v2 v3 v4 v5 v6 v7 v8 v9 v10 v11 v12 v13
  have lbb := World.block_lt_of_cell? QQ _ v1
  clear g0 g1 g2 g3 g4 g5 g6 g7 g8 g9 g10 g11 g12 g13 y1
  have lB := held_lt bQ
  refine wp_region_K (N := QQ.heap.size) (X := [p0_0]) (by kernel_rfl) ?_
  rw [hQQ]
  refine wpAnyK_take 0 rfl (by kernel_rfl) (by kernel_rfl) (by kernel_rfl) (fun _ _ _ _ h => h) ⟨_, Or.inl ⟨by rfl, fun w2 hb => by (go_simp; try with_reducible rfl)⟩, _, by (go_simp; try rfl), ?_⟩
  refine wpAnyK_take 1 rfl (by kernel_rfl) (by kernel_rfl) (by kernel_rfl) (fun _ _ _ _ h => h) ⟨_, Or.inl ⟨by rfl, fun w2 hb => by (go_simp; try with_reducible rfl)⟩, _, by (go_simp; try rfl), ?_⟩
  refine wpAnyK_take 2 rfl (by kernel_rfl) (by kernel_rfl) (by kernel_rfl) (fun _ _ _ _ h => h) ⟨_, Or.inl ⟨by rfl, fun w2 hb => by (go_simp; try with_reducible rfl)⟩, _, by (go_simp; try rfl), ?_⟩
  refine wpAnyK_take 3 rfl (by kernel_rfl) (by kernel_rfl) (by kernel_rfl) (fun _ _ _ _ h => h) ⟨_, Or.inl ⟨by rfl, fun w2 hb => by (have y := hb.cellB (p := ⟨B, 1, none⟩) (by show B < _; exact lB) (by simp; exact nB) (held_cell bQ 1 _ rfl); go_simp; try with_reducible rfl)⟩, _, by (go_simp; try rfl), ?_⟩
  refine wpAnyK_take 4 rfl (by kernel_rfl) (by kernel_rfl) (by kernel_rfl) (fun _ _ _ _ h => h) ⟨_, Or.inl ⟨by rfl, fun w2 hb => by (go_simp; try with_reducible rfl)⟩, _, by (go_simp; try rfl), ?_⟩
  refine wpAnyK_take 5 rfl (by kernel_rfl) (by kernel_rfl) (by kernel_rfl) (fun _ _ _ _ h => h) ⟨_, Or.inl ⟨by rfl, fun w2 hb => by (go_simp; try with_reducible rfl)⟩, _, by (go_simp; try rfl), ?_⟩
  refine wpAnyK_take 6 rfl (by kernel_rfl) (by kernel_rfl) (by kernel_rfl) (fun _ _ _ _ h => h) ⟨_, Or.inl ⟨by rfl, fun w2 hb => by (go_simp; try with_reducible rfl)⟩, _, by (go_simp; try rfl), ?_⟩
  refine wpAnyK_take 7 rfl (by kernel_rfl) (by kernel_rfl) (by kernel_rfl) (fun _ _ _ _ h => h) ⟨_, Or.inl ⟨by rfl, fun w2 hb => by (have y := hb.cellB (p := ⟨B, 1, none⟩) (by show B < _; exact lB) (by simp; exact nB) (held_cell bQ 1 _ rfl); go_simp; try with_reducible rfl)⟩, _, by (go_simp; try rfl), ?_⟩
  refine wpAnyK_take 8 rfl (by kernel_rfl) (by kernel_rfl) (by kernel_rfl) (fun _ _ _ _ h => h) ⟨_, Or.inl ⟨by rfl, fun w2 hb => by (go_simp; try with_reducible rfl)⟩, _, by (go_simp; try rfl), ?_⟩
  refine wpAnyK_take 9 rfl (by kernel_rfl) (by kernel_rfl) (by kernel_rfl) (fun _ _ _ _ h => h) ⟨_, Or.inl ⟨by rfl, fun w2 hb => by (go_simp; try with_reducible rfl)⟩, _, by (go_simp; try rfl), ?_⟩
  refine wpAnyK_take 10 rfl (by kernel_rfl) (by kernel_rfl) (by kernel_rfl) (fun _ _ _ _ h => h) ⟨_, Or.inl ⟨by rfl, fun w2 hb => by (go_simp; try with_reducible rfl)⟩, _, by (go_simp; try rfl), ?_⟩
  refine wpAnyK_take 11 rfl (by kernel_rfl) (by kernel_rfl) (by kernel_rfl) (fun _ _ _ _ h => h) ⟨_, Or.inl ⟨by rfl, fun w2 hb => by (go_simp; try with_reducible rfl)⟩, _, by (go_simp; try rfl), ?_⟩
  refine wpAnyK_take 12 rfl (by kernel_rfl) (by kernel_rfl) (by kernel_rfl) (fun _ _ _ _ h => h) ⟨_, Or.inl ⟨by rfl, fun w2 hb => by (have h1 := hb.cellB (by show bb < _; exact lbb) (by simp; exact hne) v1; have h2 := hb.cellB (by show bb < _; exact lbb) (by simp; exact hne) v2; have h3 := hb.cellB (by show bb < _; exact lbb) (by simp; exact hne) v3; have h4 := hb.cellB (by show bb < _; exact lbb) (by simp; exact hne) v4; have h5 := hb.cellB (by show bb < _; exact lbb) (by simp; exact hne) v5; have h6 := hb.cellB (by show bb < _; exact lbb) (by simp; exact hne) v6; have h7 := hb.cellB (by show bb < _; exact lbb) (by simp; exact hne) v7; have h8 := hb.cellB (by show bb < _; exact lbb) (by simp; exact hne) v8; have h9 := hb.cellB (by show bb < _; exact lbb) (by simp; exact hne) v9; have h10 := hb.cellB (by show bb < _; exact lbb) (by simp; exact hne) v10; have h11 := hb.cellB (by show bb < _; exact lbb) (by simp; exact hne) v11; have h12 := hb.cellB (by show bb < _; exact lbb) (by simp; exact hne) v12; have h13 := hb.cellB (by show bb < _; exact lbb) (by simp; exact hne) v13; go_simp; try with_reducible rfl)⟩, _, by (go_simp; try rfl), ?_⟩
  refine wpAnyK_only 13 rfl (by kernel_rfl) (by rfl) (fun K hK => ?_)
  have z0 := held_cell rQ 0 _ rfl
  have z1 := held_cell rQ 1 _ rfl
  have z2 := held_cell rQ 2 _ rfl
  have z3 := held_cell rQ 3 _ rfl
  have z4 := held_cell rQ 4 _ rfl
  have z5 := held_cell rQ 5 _ rfl
  have z6 := held_cell rQ 6 _ rfl
  have z7 := held_cell rQ 7 _ rfl
  have z8 := held_cell rQ 8 _ rfl
  have z9 := held_cell rQ 9 _ rfl
  have z10 := held_cell rQ 10 _ rfl
  have z11 := held_cell rQ 11 _ rfl
  have z12 := held_cell rQ 12 _ rfl
  have f0 := held_free rQ 0
  have f1 := held_free rQ 1
  have f2 := held_free rQ 2
  have f3 := held_free rQ 3
  have f4 := held_free rQ 4
  have f5 := held_free rQ 5
  have f6 := held_free rQ 6
  have f7 := held_free rQ 7
  have f8 := held_free rQ 8
  have f9 := held_free rQ 9
  have f10 := held_free rQ 10
  have f11 := held_free rQ 11
  have f12 := held_free rQ 12
  obtain ⟨W9, hW9, ya, yO⟩ := st13 rQ (.int .u32 u) (.int .i32 b0) (.int .i32 b1) (.int .i32 b2) (.int .i32 b3) (.int .i32 b4) (.int .i32 b5) (.int .i32 b6) (.int .i32 b7) (.int .i32 b8) (.int .i32 b9) (.int .i32 b10) (.int .i32 b11)
  have hB9 := hid (belowS hBQ yO np)
  have kp : Kp QQ.heap.size [p0_0] QQ W9 := ⟨yO.os, yO.tape, yO.output, Nat.le_of_eq yO.size.symm, fun k _ hk => yO.block k (fun e => hk (by rw [e]; simp))⟩
  have ez0 := held_cell ya 0 _ rfl
  have ez1 := held_cell ya 1 _ rfl
  have ez2 := held_cell ya 2 _ rfl
  have ez3 := held_cell ya 3 _ rfl
  have ez4 := held_cell ya 4 _ rfl
  have ez5 := held_cell ya 5 _ rfl
  have ez6 := held_cell ya 6 _ rfl
  have ez7 := held_cell ya 7 _ rfl
  have ez8 := held_cell ya 8 _ rfl
  have ez9 := held_cell ya 9 _ rfl
  have ez10 := held_cell ya 10 _ rfl
  have ez11 := held_cell ya 11 _ rfl
  have ez12 := held_cell ya 12 _ rfl
  clear yO ya
  go_simp
  refine hK _ _ ⟨kp, ?_⟩
  clear hK
  clear kp
  refine wpAnyK_done (by kernel_rfl) ?_ _
  go_wp2_with fail
  refine bodyPost_ret (v := .agg #[.int .u32 u, .int .i32 b0, .int .i32 b1, .int .i32 b2, .int .i32 b3, .int .i32 b4, .int .i32 b5, .int .i32 b6, .int .i32 b7, .int .i32 b8, .int .i32 b9, .int .i32 b10, .int .i32 b11]) (by simp [results, Try.results24, go_sem, ez0, ez1, ez2, ez3, ez4, ez5, ez6, ez7, ez8, ez9, ez10, ez11, ez12]) rfl ⟨by rw [hr.out]; rfl, hB9.out⟩
set_option maxRecDepth 100000 in
set_option maxHeartbeats 4000000 in
theorem way_empty (B ev n cap sz rc bk : Nat) (a : Option Addr) (w : World) (hH : w.heap[B]? = some (.cells #[.int .i64 ev, .slice a n cap, .int .i64 sz, .int .i64 rc, .int .i64 bk] 59 (0, 0))) (h0 : 0 < ev) (he : ev ≤ 255) (hrc : rc ≤ 1000000) (hn : n = 0) : Calls Try.prog 22 #[.pointer (some ⟨B, 0, none⟩)] w fun e w' => e = .returned (.func (.func 25) #[] #[]) ∧ After w w' := by
  have q0 : ((n : Int) == 0) = true := by rw [hn]; rfl
  go_enter Try.func22, Try.ntmps22
  go_upto_region 0 with (fail)
  go_upto_region 1 with (fail)
  have bQ := (show w.drew.heap[B]? = _ from hH)
  have hA := hid (show After w w.drew from (Below.refl _ w).drew)
  clear hH
  refine wp_region_R (by kernel_rfl) ?_
  refine wpAnyR_take 0 rfl (by kernel_rfl) (by kernel_rfl) (by kernel_rfl) (fun _ _ _ _ h => h) ⟨_, Or.inl ⟨by rfl, fun w2 hb2 => by (go_simp; try with_reducible rfl)⟩, _, by (go_simp; try rfl), ?_⟩
  refine wpAnyR_take 1 rfl (by kernel_rfl) (by kernel_rfl) (by kernel_rfl) (fun _ _ _ _ h => h) ⟨_, Or.inl ⟨by rfl, fun w2 hb2 => by (go_simp; try with_reducible rfl)⟩, _, by (go_simp; try rfl), ?_⟩
  refine wpAnyR_take 2 rfl (by kernel_rfl) (by kernel_rfl) (by kernel_rfl) (fun _ _ _ _ h => h) ⟨_, Or.inl ⟨by rfl, fun w2 hb2 => by (go_simp; try with_reducible rfl)⟩, _, by (go_simp; try rfl), ?_⟩
  refine wpAnyR_take 3 rfl (by kernel_rfl) (by kernel_rfl) (by kernel_rfl) (fun _ _ _ _ h => h) ⟨_, Or.inl ⟨by rfl, fun w2 hb2 => by (have hr := held_after hb2 bQ; have y1 := held_cell hr 1 _ rfl; go_simp; try with_reducible rfl)⟩, _, by (go_simp; try rfl), ?_⟩
  refine wpAnyR_take 4 rfl (by kernel_rfl) (by kernel_rfl) (by kernel_rfl) (fun _ _ _ _ h => h) ⟨_, Or.inl ⟨by rfl, fun w2 hb2 => by (go_simp; try with_reducible rfl)⟩, _, by (go_simp; try rfl), ?_⟩
  refine wpAnyR_take 5 rfl (by kernel_rfl) (by kernel_rfl) (by kernel_rfl) (fun _ _ _ _ h => h) ⟨_, Or.inl ⟨by rfl, fun w2 hb2 => by (go_simp; try with_reducible rfl)⟩, _, by (go_simp; try rfl), ?_⟩
  refine wpAnyR_take 6 rfl (by kernel_rfl) (by kernel_rfl) (by kernel_rfl) (fun _ _ _ _ h => h) ⟨_, Or.inl ⟨by rfl, fun w2 hb2 => by (go_simp; try with_reducible rfl)⟩, _, by (go_simp; try rfl), ?_⟩
  refine wpAnyR_take 7 rfl (by kernel_rfl) (by kernel_rfl) (by kernel_rfl) (fun _ _ _ _ h => h) ⟨_, Or.inr ⟨by rfl, rfl⟩, _, by (go_simp; try rfl), ?_⟩
  refine wpAnyR_take 8 rfl (by kernel_rfl) (by kernel_rfl) (by kernel_rfl) (fun _ _ _ _ h => h) ⟨_, Or.inr ⟨by rfl, rfl⟩, _, by (go_simp; try rfl), ?_⟩
  refine wpAnyR_take 9 rfl (by kernel_rfl) (by kernel_rfl) (by kernel_rfl) (fun _ _ _ _ h => h) ⟨_, Or.inr ⟨by rfl, rfl⟩, _, by (go_simp; try rfl), ?_⟩
  refine wpAnyR_take 10 rfl (by kernel_rfl) (by kernel_rfl) (by kernel_rfl) (fun _ _ _ _ h => h) ⟨_, Or.inr ⟨by rfl, rfl⟩, _, by (go_simp; try rfl), ?_⟩
  refine wpAnyR_take 11 rfl (by kernel_rfl) (by kernel_rfl) (by kernel_rfl) (fun _ _ _ _ h => h) ⟨_, Or.inr ⟨by rfl, rfl⟩, _, by (go_simp; try rfl), ?_⟩
  refine wpAnyR_take 12 rfl (by kernel_rfl) (by kernel_rfl) (by kernel_rfl) (fun _ _ _ _ h => h) ⟨_, Or.inr ⟨by rfl, rfl⟩, _, by (go_simp; try rfl), ?_⟩
  refine wpAnyR_take 13 rfl (by kernel_rfl) (by kernel_rfl) (by kernel_rfl) (fun _ _ _ _ h => h) ⟨_, Or.inr ⟨by rfl, rfl⟩, _, by (go_simp; try rfl), ?_⟩
  refine wpAnyR_take 14 rfl (by kernel_rfl) (by kernel_rfl) (by kernel_rfl) (fun _ _ _ _ h => h) ⟨_, Or.inr ⟨by rfl, rfl⟩, _, by (go_simp; try rfl), ?_⟩
  refine wpAnyR_take 15 rfl (by kernel_rfl) (by kernel_rfl) (by kernel_rfl) (fun _ _ _ _ h => h) ⟨_, Or.inr ⟨by rfl, rfl⟩, _, by (go_simp; try rfl), ?_⟩
  refine wpAnyR_take 16 rfl (by kernel_rfl) (by kernel_rfl) (by kernel_rfl) (fun _ _ _ _ h => h) ⟨_, Or.inr ⟨by rfl, rfl⟩, _, by (go_simp; try rfl), ?_⟩
  refine wpAnyR_take 17 rfl (by kernel_rfl) (by kernel_rfl) (by kernel_rfl) (fun _ _ _ _ h => h) ⟨_, Or.inl ⟨by rfl, fun w2 hb2 => by (go_simp; try with_reducible rfl)⟩, _, by (go_simp; try rfl), ?_⟩
  refine wpAnyR_done (by kernel_rfl) ?_ _
  go_wp2_with fail
  go_ret
  exact ⟨rfl, hA.out⟩
set_option maxRecDepth 100000 in
set_option maxHeartbeats 4000000 in
theorem way_key (B ev n cap sz rc bk : Nat) (a : Option Addr) (w : World) (hH : w.heap[B]? = some (.cells #[.int .i64 ev, .slice a n cap, .int .i64 sz, .int .i64 rc, .int .i64 bk] 59 (0, 0))) (h0 : 0 < ev) (he : ev ≤ 255) (hrc : rc ≤ 1000000) (hn : n ≠ 0) (hk : rc % ev = 0) : Calls Try.prog 22 #[.pointer (some ⟨B, 0, none⟩)] w fun e w' => e = .returned (.func (.func 25) #[] #[]) ∧ After w w' := by
  have q0 : ((n : Int) == 0) = false := by simpa using hn
  have qr : (Int.tmod (rc : Int) (ev : Int) == 0) = true := by rw [rem_is h0]; simpa using hk
  have hez : (ev : Int) ≠ 0 := by omega
  have hen : ¬ ev = 0 := by omega
  have hez2 : ((ev : Int) == 0) = false := by simp; omega
  have wr : IntKind.i64.wrap (Int.tmod (rc : Int) (ev : Int)) = Int.tmod (rc : Int) (ev : Int) := by rw [Int.tmod_eq_emod_of_nonneg (by omega), IntKind.wrap_i64]; have := Int.emod_lt_of_pos (rc : Int) (show (0 : Int) < ev by omega); have := Int.emod_nonneg (rc : Int) hez; omega
  go_enter Try.func22, Try.ntmps22
  go_upto_region 0 with (fail)
  go_upto_region 1 with (fail)
  have bQ := (show w.drew.heap[B]? = _ from hH)
  have hA := hid (show After w w.drew from (Below.refl _ w).drew)
  clear hH
  refine wp_region_R (by kernel_rfl) ?_
  refine wpAnyR_take 0 rfl (by kernel_rfl) (by kernel_rfl) (by kernel_rfl) (fun _ _ _ _ h => h) ⟨_, Or.inl ⟨by rfl, fun w2 hb2 => by (go_simp; try with_reducible rfl)⟩, _, by (go_simp; try rfl), ?_⟩
  refine wpAnyR_take 1 rfl (by kernel_rfl) (by kernel_rfl) (by kernel_rfl) (fun _ _ _ _ h => h) ⟨_, Or.inl ⟨by rfl, fun w2 hb2 => by (go_simp; try with_reducible rfl)⟩, _, by (go_simp; try rfl), ?_⟩
  refine wpAnyR_take 2 rfl (by kernel_rfl) (by kernel_rfl) (by kernel_rfl) (fun _ _ _ _ h => h) ⟨_, Or.inl ⟨by rfl, fun w2 hb2 => by (go_simp; try with_reducible rfl)⟩, _, by (go_simp; try rfl), ?_⟩
  refine wpAnyR_take 3 rfl (by kernel_rfl) (by kernel_rfl) (by kernel_rfl) (fun _ _ _ _ h => h) ⟨_, Or.inl ⟨by rfl, fun w2 hb2 => by (have hr := held_after hb2 bQ; have y1 := held_cell hr 1 _ rfl; go_simp; try with_reducible rfl)⟩, _, by (go_simp; try rfl), ?_⟩
  refine wpAnyR_take 4 rfl (by kernel_rfl) (by kernel_rfl) (by kernel_rfl) (fun _ _ _ _ h => h) ⟨_, Or.inl ⟨by rfl, fun w2 hb2 => by (go_simp; try with_reducible rfl)⟩, _, by (go_simp; try rfl), ?_⟩
  refine wpAnyR_take 5 rfl (by kernel_rfl) (by kernel_rfl) (by kernel_rfl) (fun _ _ _ _ h => h) ⟨_, Or.inl ⟨by rfl, fun w2 hb2 => by (go_simp; try with_reducible rfl)⟩, _, by (go_simp; try rfl), ?_⟩
  refine wpAnyR_take 6 rfl (by kernel_rfl) (by kernel_rfl) (by kernel_rfl) (fun _ _ _ _ h => h) ⟨_, Or.inl ⟨by rfl, fun w2 hb2 => by (go_simp; try with_reducible rfl)⟩, _, by (go_simp; try rfl), ?_⟩
  refine wpAnyR_take 7 rfl (by kernel_rfl) (by kernel_rfl) (by kernel_rfl) (fun _ _ _ _ h => h) ⟨_, Or.inl ⟨by rfl, fun w2 hb2 => by (go_simp; try with_reducible rfl)⟩, _, by (go_simp; try rfl), ?_⟩
  refine wpAnyR_take 8 rfl (by kernel_rfl) (by kernel_rfl) (by kernel_rfl) (fun _ _ _ _ h => h) ⟨_, Or.inl ⟨by rfl, fun w2 hb2 => by (go_simp; try with_reducible rfl)⟩, _, by (go_simp; try rfl), ?_⟩
  refine wpAnyR_take 9 rfl (by kernel_rfl) (by kernel_rfl) (by kernel_rfl) (fun _ _ _ _ h => h) ⟨_, Or.inl ⟨by rfl, fun w2 hb2 => by (go_simp; try with_reducible rfl)⟩, _, by (go_simp; try rfl), ?_⟩
  refine wpAnyR_take 10 rfl (by kernel_rfl) (by kernel_rfl) (by kernel_rfl) (fun _ _ _ _ h => h) ⟨_, Or.inl ⟨by rfl, fun w2 hb2 => by (have hr := held_after hb2 bQ; have y1 := held_cell hr 3 _ rfl; go_simp; try with_reducible rfl)⟩, _, by (go_simp; try rfl), ?_⟩
  refine wpAnyR_take 11 rfl (by kernel_rfl) (by kernel_rfl) (by kernel_rfl) (fun _ _ _ _ h => h) ⟨_, Or.inl ⟨by rfl, fun w2 hb2 => by (go_simp; try with_reducible rfl)⟩, _, by (go_simp; try rfl), ?_⟩
  refine wpAnyR_take 12 rfl (by kernel_rfl) (by kernel_rfl) (by kernel_rfl) (fun _ _ _ _ h => h) ⟨_, Or.inl ⟨by rfl, fun w2 hb2 => by (go_simp; try with_reducible rfl)⟩, _, by (go_simp; try rfl), ?_⟩
  refine wpAnyR_take 13 rfl (by kernel_rfl) (by kernel_rfl) (by kernel_rfl) (fun _ _ _ _ h => h) ⟨_, Or.inl ⟨by rfl, fun w2 hb2 => by (go_simp; try with_reducible rfl)⟩, _, by (go_simp; try rfl), ?_⟩
  refine wpAnyR_take 14 rfl (by kernel_rfl) (by kernel_rfl) (by kernel_rfl) (fun _ _ _ _ h => h) ⟨_, Or.inl ⟨by rfl, fun w2 hb2 => by (have hr := held_after hb2 bQ; have y1 := held_cell hr 0 _ rfl; go_simp; try with_reducible rfl)⟩, _, by (go_simp; try rfl), ?_⟩
  refine wpAnyR_take 15 rfl (by kernel_rfl) (by kernel_rfl) (by kernel_rfl) (fun _ _ _ _ h => h) ⟨_, Or.inl ⟨by rfl, fun w2 hb2 => by (go_simp; try with_reducible rfl)⟩, _, by (go_simp; try rfl), ?_⟩
  refine wpAnyR_take 16 rfl (by kernel_rfl) (by kernel_rfl) (by kernel_rfl) (fun _ _ _ _ h => h) ⟨_, Or.inl ⟨by rfl, fun w2 hb2 => by (go_simp; try with_reducible rfl)⟩, _, by (go_simp; try rfl), ?_⟩
  refine wpAnyR_take 17 rfl (by kernel_rfl) (by kernel_rfl) (by kernel_rfl) (fun _ _ _ _ h => h) ⟨_, Or.inl ⟨by rfl, fun w2 hb2 => by (go_simp; try with_reducible rfl)⟩, _, by (go_simp; try rfl), ?_⟩
  refine wpAnyR_done (by kernel_rfl) ?_ _
  go_wp2_with fail
  go_ret
  exact ⟨rfl, hA.out⟩
set_option maxRecDepth 100000 in
set_option maxHeartbeats 4000000 in
theorem way_change (B ev n cap sz rc bk : Nat) (a : Option Addr) (w : World) (hH : w.heap[B]? = some (.cells #[.int .i64 ev, .slice a n cap, .int .i64 sz, .int .i64 rc, .int .i64 bk] 59 (0, 0))) (h0 : 0 < ev) (he : ev ≤ 255) (hrc : rc ≤ 1000000) (hn : n ≠ 0) (hk : rc % ev ≠ 0) : Calls Try.prog 22 #[.pointer (some ⟨B, 0, none⟩)] w fun e w' => e = .returned (.func (.func 35) #[] #[]) ∧ After w w' := by
  have q0 : ((n : Int) == 0) = false := by simpa using hn
  have qr : (Int.tmod (rc : Int) (ev : Int) == 0) = false := by rw [rem_is h0]; simpa using hk
  have hez : (ev : Int) ≠ 0 := by omega
  have hen : ¬ ev = 0 := by omega
  have hez2 : ((ev : Int) == 0) = false := by simp; omega
  have wr : IntKind.i64.wrap (Int.tmod (rc : Int) (ev : Int)) = Int.tmod (rc : Int) (ev : Int) := by rw [Int.tmod_eq_emod_of_nonneg (by omega), IntKind.wrap_i64]; have := Int.emod_lt_of_pos (rc : Int) (show (0 : Int) < ev by omega); have := Int.emod_nonneg (rc : Int) hez; omega
  go_enter Try.func22, Try.ntmps22
  go_upto_region 0 with (fail)
  go_upto_region 1 with (fail)
  have bQ := (show w.drew.heap[B]? = _ from hH)
  have hA := hid (show After w w.drew from (Below.refl _ w).drew)
  clear hH
  refine wp_region_R (by kernel_rfl) ?_
  refine wpAnyR_take 0 rfl (by kernel_rfl) (by kernel_rfl) (by kernel_rfl) (fun _ _ _ _ h => h) ⟨_, Or.inl ⟨by rfl, fun w2 hb2 => by (go_simp; try with_reducible rfl)⟩, _, by (go_simp; try rfl), ?_⟩
  refine wpAnyR_take 1 rfl (by kernel_rfl) (by kernel_rfl) (by kernel_rfl) (fun _ _ _ _ h => h) ⟨_, Or.inl ⟨by rfl, fun w2 hb2 => by (go_simp; try with_reducible rfl)⟩, _, by (go_simp; try rfl), ?_⟩
  refine wpAnyR_take 2 rfl (by kernel_rfl) (by kernel_rfl) (by kernel_rfl) (fun _ _ _ _ h => h) ⟨_, Or.inl ⟨by rfl, fun w2 hb2 => by (go_simp; try with_reducible rfl)⟩, _, by (go_simp; try rfl), ?_⟩
  refine wpAnyR_take 3 rfl (by kernel_rfl) (by kernel_rfl) (by kernel_rfl) (fun _ _ _ _ h => h) ⟨_, Or.inl ⟨by rfl, fun w2 hb2 => by (have hr := held_after hb2 bQ; have y1 := held_cell hr 1 _ rfl; go_simp; try with_reducible rfl)⟩, _, by (go_simp; try rfl), ?_⟩
  refine wpAnyR_take 4 rfl (by kernel_rfl) (by kernel_rfl) (by kernel_rfl) (fun _ _ _ _ h => h) ⟨_, Or.inl ⟨by rfl, fun w2 hb2 => by (go_simp; try with_reducible rfl)⟩, _, by (go_simp; try rfl), ?_⟩
  refine wpAnyR_take 5 rfl (by kernel_rfl) (by kernel_rfl) (by kernel_rfl) (fun _ _ _ _ h => h) ⟨_, Or.inl ⟨by rfl, fun w2 hb2 => by (go_simp; try with_reducible rfl)⟩, _, by (go_simp; try rfl), ?_⟩
  refine wpAnyR_take 6 rfl (by kernel_rfl) (by kernel_rfl) (by kernel_rfl) (fun _ _ _ _ h => h) ⟨_, Or.inl ⟨by rfl, fun w2 hb2 => by (go_simp; try with_reducible rfl)⟩, _, by (go_simp; try rfl), ?_⟩
  refine wpAnyR_take 7 rfl (by kernel_rfl) (by kernel_rfl) (by kernel_rfl) (fun _ _ _ _ h => h) ⟨_, Or.inl ⟨by rfl, fun w2 hb2 => by (go_simp; try with_reducible rfl)⟩, _, by (go_simp; try rfl), ?_⟩
  refine wpAnyR_take 8 rfl (by kernel_rfl) (by kernel_rfl) (by kernel_rfl) (fun _ _ _ _ h => h) ⟨_, Or.inl ⟨by rfl, fun w2 hb2 => by (go_simp; try with_reducible rfl)⟩, _, by (go_simp; try rfl), ?_⟩
  refine wpAnyR_take 9 rfl (by kernel_rfl) (by kernel_rfl) (by kernel_rfl) (fun _ _ _ _ h => h) ⟨_, Or.inl ⟨by rfl, fun w2 hb2 => by (go_simp; try with_reducible rfl)⟩, _, by (go_simp; try rfl), ?_⟩
  refine wpAnyR_take 10 rfl (by kernel_rfl) (by kernel_rfl) (by kernel_rfl) (fun _ _ _ _ h => h) ⟨_, Or.inl ⟨by rfl, fun w2 hb2 => by (have hr := held_after hb2 bQ; have y1 := held_cell hr 3 _ rfl; go_simp; try with_reducible rfl)⟩, _, by (go_simp; try rfl), ?_⟩
  refine wpAnyR_take 11 rfl (by kernel_rfl) (by kernel_rfl) (by kernel_rfl) (fun _ _ _ _ h => h) ⟨_, Or.inl ⟨by rfl, fun w2 hb2 => by (go_simp; try with_reducible rfl)⟩, _, by (go_simp; try rfl), ?_⟩
  refine wpAnyR_take 12 rfl (by kernel_rfl) (by kernel_rfl) (by kernel_rfl) (fun _ _ _ _ h => h) ⟨_, Or.inl ⟨by rfl, fun w2 hb2 => by (go_simp; try with_reducible rfl)⟩, _, by (go_simp; try rfl), ?_⟩
  refine wpAnyR_take 13 rfl (by kernel_rfl) (by kernel_rfl) (by kernel_rfl) (fun _ _ _ _ h => h) ⟨_, Or.inl ⟨by rfl, fun w2 hb2 => by (go_simp; try with_reducible rfl)⟩, _, by (go_simp; try rfl), ?_⟩
  refine wpAnyR_take 14 rfl (by kernel_rfl) (by kernel_rfl) (by kernel_rfl) (fun _ _ _ _ h => h) ⟨_, Or.inl ⟨by rfl, fun w2 hb2 => by (have hr := held_after hb2 bQ; have y1 := held_cell hr 0 _ rfl; go_simp; try with_reducible rfl)⟩, _, by (go_simp; try rfl), ?_⟩
  refine wpAnyR_take 15 rfl (by kernel_rfl) (by kernel_rfl) (by kernel_rfl) (fun _ _ _ _ h => h) ⟨_, Or.inl ⟨by rfl, fun w2 hb2 => by (go_simp; try with_reducible rfl)⟩, _, by (go_simp; try rfl), ?_⟩
  refine wpAnyR_take 16 rfl (by kernel_rfl) (by kernel_rfl) (by kernel_rfl) (fun _ _ _ _ h => h) ⟨_, Or.inl ⟨by rfl, fun w2 hb2 => by (go_simp; try with_reducible rfl)⟩, _, by (go_simp; try rfl), ?_⟩
  refine wpAnyR_take 17 rfl (by kernel_rfl) (by kernel_rfl) (by kernel_rfl) (fun _ _ _ _ h => h) ⟨_, Or.inl ⟨by rfl, fun w2 hb2 => by (go_simp; try with_reducible rfl)⟩, _, by (go_simp; try rfl), ?_⟩
  refine wpAnyR_done (by kernel_rfl) ?_ _
  go_wp2_with fail
  go_ret
  exact ⟨rfl, hA.out⟩

end Go.Proofs.Ytkpncailoekjpaa
