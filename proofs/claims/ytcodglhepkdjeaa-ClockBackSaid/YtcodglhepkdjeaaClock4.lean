/- Package clock: Of. -/
import Derived.Test.YtcodglhepkdjeaaClock3
import Derived.Deep.DeepCutAuto
namespace Go.Proofs.Ytcodglhepkdjeaa
open Go.ChangeShapes Go.WideShapes Go.ChangeAt Go.RowKit
set_option linter.unusedVariables false

theorem of_ex {D : Int} (h0 : 0 ≤ D) (h1 : D < 36525) : ∃ y m : Int, 2000 ≤ y ∧ y ≤ 2099 ∧ 1 ≤ m ∧ m ≤ 12 ∧ cumM y m ≤ D ∧ D < cumM y (m + 1) := by
  have hy : ∀ k : Nat, k ≤ 100 → D < cumM (2000 + k) 1 → ∃ y : Int, 2000 ≤ y ∧ y ≤ 2099 ∧ cumM y 1 ≤ D ∧ D < cumM (y + 1) 1 := by
    intro k
    induction k with
    | zero => intro _ h; rw [cum_one] at h; exfalso; simp at h; omega
    | succ k ih =>
      intro hk h
      by_cases c : D < cumM (2000 + k) 1
      · exact ih (by omega) c
      · exact ⟨2000 + k, by omega, by omega, by omega, by rw [show (2000 + (k : Int) + 1) = 2000 + ((k + 1 : Nat) : Int) from by omega]; exact h⟩
  obtain ⟨y, y1, y2, y3, y4⟩ := hy 100 (by omega) (by rw [cum_one]; simp; omega)
  rw [← cum_year] at y4
  have hm : ∀ k : Nat, k ≤ 12 → D < cumM y (1 + k) → ∃ m : Int, 1 ≤ m ∧ m ≤ 12 ∧ cumM y m ≤ D ∧ D < cumM y (m + 1) := by
    intro k
    induction k with
    | zero => intro _ h; exfalso; simp at h; omega
    | succ k ih =>
      intro hk h
      by_cases c : D < cumM y (1 + k)
      · exact ih (by omega) c
      · exact ⟨1 + k, by omega, by omega, by omega, by rw [show (1 + (k : Int) + 1) = 1 + ((k + 1 : Nat) : Int) from by omega]; exact h⟩
  obtain ⟨m, m1, m2, m3, m4⟩ := hm 12 (by omega) y4
  exact ⟨y, m, y1, y2, m1, m2, m3, m4⟩
def ofV (d m y h i s c : Int) : Value := .tuple #[.agg #[.bool true, .int .i64 d, .int .i64 m, .int .i64 y], .agg #[.bool true, .int .i64 h, .int .i64 i, .int .i64 s, .int .i64 c], .bool true]
def ofNo : Value := .tuple #[.agg #[.bool false, .int .i64 0, .int .i64 0, .int .i64 0], .agg #[.bool false, .int .i64 0, .int .i64 0, .int .i64 0, .int .i64 0], .bool false]
def cellInt24 (w : World) (b j : Nat) : Int := match w.cell? ⟨b, j, none⟩ with | some (.int _ n) => n | _ => 0
theorem cellInt24_of {w : World} {b j : Nat} {k : IntKind} {n : Int} (h : w.cell? ⟨b, j, none⟩ = some (.int k n)) : cellInt24 w b j = n := by unfold cellInt24; rw [h]
theorem only_put {U V : World} {p : Nat} (h : Only p U V) (j : Nat) (v : Value) : Only p U (V.setCell ⟨p, j, none⟩ v) := h.then (Only.set p j v V)
theorem set1 {U : World} {p : Nat} {c : Array Value} {T : TypeId} (h : U.heap[p]? = some (.cells c T (0, 0))) (j : Nat) (v : Value) : ∃ W2, U.setCell ⟨p, j, none⟩ v = W2 ∧ W2.heap[p]? = some (.cells (c.setIfInBounds j v) T (0, 0)) ∧ Only p U W2 :=
  ⟨_, rfl, held_set h j v, Only.set p j v U⟩
theorem set4 {U : World} {p : Nat} {v0 v1 v2 v3 : Value} {T : TypeId} (h : U.heap[p]? = some (.cells #[v0, v1, v2, v3] T (0, 0))) (u0 u1 u2 u3 : Value) :
    ∃ W2, (((U.setCell ⟨p, 0, none⟩ u0).setCell ⟨p, 1, none⟩ u1).setCell ⟨p, 2, none⟩ u2).setCell ⟨p, 3, none⟩ u3 = W2 ∧ W2.heap[p]? = some (.cells #[u0, u1, u2, u3] T (0, 0)) ∧ Only p U W2 := by
  have h4 := held_set (held_set (held_set (held_set h 0 u0) 1 u1) 2 u2) 3 u3
  exact ⟨_, rfl, h4, only_put (only_put (only_put (Only.set p 0 u0 U) 1 u1) 2 u2) 3 u3⟩
theorem set5 {U : World} {p : Nat} {v0 v1 v2 v3 v4 : Value} {T : TypeId} (h : U.heap[p]? = some (.cells #[v0, v1, v2, v3, v4] T (0, 0))) (u0 u1 u2 u3 u4 : Value) :
    ∃ W2, ((((U.setCell ⟨p, 0, none⟩ u0).setCell ⟨p, 1, none⟩ u1).setCell ⟨p, 2, none⟩ u2).setCell ⟨p, 3, none⟩ u3).setCell ⟨p, 4, none⟩ u4 = W2 ∧ W2.heap[p]? = some (.cells #[u0, u1, u2, u3, u4] T (0, 0)) ∧ Only p U W2 := by
  have h4 := held_set (held_set (held_set (held_set (held_set h 0 u0) 1 u1) 2 u2) 3 u3) 4 u4
  exact ⟨_, rfl, h4, only_put (only_put (only_put (only_put (Only.set p 0 u0 U) 1 u1) 2 u2) 3 u3) 4 u4⟩
theorem heldC {w w' : World} {p q : Nat} {o : Obj} (hO : Only p w w') (hne : q ≠ p) (h : w.heap[q]? = some o) : w'.heap[q]? = some o := by rw [hO.block q hne]; exact h
theorem belowC {B : Nat} {w0 w w' : World} {p : Nat} (h : Below B w0 w) (hO : Only p w w') (hp : B ≤ p) : Below B w0 w' := h.trans ⟨hO.os, hO.tape, hO.output, by rw [hO.size]; exact Nat.le_refl _, fun k hk => hO.block k (by omega)⟩
theorem of_at {y m Y M D : Int} (y1 : 2000 ≤ y) (y2 : y ≤ 2099) (m1 : 1 ≤ m) (m2 : m ≤ 12) (Y1 : 2000 ≤ Y) (Y2 : Y ≤ y) (M1 : 1 ≤ M) (M2 : M ≤ 12) (M3 : Y = y → M ≤ m) (c1 : cumM y m ≤ D) (c2 : D < cumM y (m + 1)) :
    (Y = y ∧ M = m ∧ D - cumM Y M + 1 ≤ daysS M Y ∧ 1 ≤ D - cumM Y M + 1) ∨ (daysS M Y < D - cumM Y M + 1 ∧ 28 ≤ daysS M Y ∧ M = 12 ∧ Y + 1 ≤ y ∧ D - cumM Y M + 1 - daysS M Y = D - cumM (Y + 1) 1 + 1) ∨ (daysS M Y < D - cumM Y M + 1 ∧ 28 ≤ daysS M Y ∧ M < 12 ∧ (Y = y → M + 1 ≤ m) ∧ D - cumM Y M + 1 - daysS M Y = D - cumM Y (M + 1) + 1) := by
  have hs := cum_step M1 M2 Y1 (by omega)
  have hp := days_pos M1 M2 Y1 (by omega)
  by_cases c : Y = y ∧ M = m
  · obtain ⟨rfl, rfl⟩ := c
    exact .inl ⟨rfl, rfl, by omega, by omega⟩
  · have hl : Y < y ∨ (Y = y ∧ M < m) := by omega
    have hc := cum_lt Y1 (by omega) M1 M2 y1 y2 m1 m2 hl
    by_cases d : M = 12
    · subst d
      have hy := cum_year Y
      have hs2 : cumM Y 13 = cumM Y 12 + daysS 12 Y := hs
      have hc2 : cumM Y 13 ≤ cumM y m := hc
      clear hs
      exact .inr (.inl ⟨by omega, hp, rfl, by omega, by omega⟩)
    · exact .inr (.inr ⟨by omega, hp, by omega, by omega, by omega⟩)
set_option maxRecDepth 100000 in
set_option maxHeartbeats 8000000 in
theorem of_any_no (n : Int) (w : World) (hn : n < 0 ∨ 315576000000 ≤ n) : Calls Try.prog 21 #[.int .i64 n] w fun e w' => e = .returned ofNo ∧ Below w.heap.size w w' := by
  by_cases c : n < 0
  · clear hn
    go_enter Try.func21, Try.ntmps21
    go_upto_region 0 with (fail)
    apply wp_region_seg0 (w := w) (S := [.al 1000, .al 1000, .q []]) (E := [.al ((fun p => .pointer (some ⟨p, 0, none⟩)), _) 1000, .al ((fun p => .pointer (some ⟨p, 0, none⟩)), _) 1000, .q0 _]) rfl (by kernel_rfl) rfl rfl
    intro th hge hne
    refine Seg.step _ rfl ⟨by rfl, fun U hU => ?_⟩ ?_
    · go_simp; exact vp_alloc rfl rfl rfl
    refine ⟨_, by (simp only [Ent.val]; go_simp <;> exact rfl), ?_⟩
    refine Seg.step _ rfl ⟨by rfl, fun U hU => ?_⟩ ?_
    · go_simp; exact vp_alloc rfl rfl rfl
    refine ⟨_, by (simp only [Ent.val]; go_simp <;> exact rfl), ?_⟩
    refine Seg.step _ rfl (Or.inl ⟨by rfl, fun U hU => vp_quiet (by (go_simp <;> exact rfl))⟩) ⟨_, by (simp only [Ent.val]; go_simp <;> exact rfl), ?_⟩
    refine Seg.stop (fun U1 hU hk => ?_)
    have nb0 := hge 0 _ _ rfl
    have rb0 := (hk 0 _ _ rfl trivial).1.2 (by simp)
    have nb1 := hge 1 _ _ rfl
    have rb1 := (hk 1 _ _ rfl trivial).1.2 (by simp)
    have ne0_1 := hne 0 1 _ _ _ _ rfl rfl (by omega)
    clear hk hge hne
    generalize th (0 + 0) = p0_0 at *
    dsimp only at rb0
    generalize th (0 + 1) = p0_1 at *
    dsimp only at rb1
    have r_p0_0 := rb0
    clear rb0
    have n_p0_0 := nb0
    clear nb0
    have d_p0_0_p0_1 := ne0_1
    clear ne0_1
    have r_p0_1 := rb1
    clear rb1
    have n_p0_1 := nb1
    clear nb1
    have sz1 := hU.size
    have hB : Below w.heap.size w U1 := hU
    clear hU
    go_upto_region 2 with (fail)
    have az0 := held_cell r_p0_0 0 _ rfl
    have az1 := held_cell r_p0_0 1 _ rfl
    have az2 := held_cell r_p0_0 2 _ rfl
    have az3 := held_cell r_p0_0 3 _ rfl
    have ag0 := held_free r_p0_0 0
    have ag1 := held_free r_p0_0 1
    have ag2 := held_free r_p0_0 2
    have ag3 := held_free r_p0_0 3
    have bz0 := held_cell r_p0_1 0 _ rfl
    have bz1 := held_cell r_p0_1 1 _ rfl
    have bz2 := held_cell r_p0_1 2 _ rfl
    have bz3 := held_cell r_p0_1 3 _ rfl
    have bz4 := held_cell r_p0_1 4 _ rfl
    have bg0 := held_free r_p0_1 0
    have bg1 := held_free r_p0_1 1
    have bg2 := held_free r_p0_1 2
    have bg3 := held_free r_p0_1 3
    have bg4 := held_free r_p0_1 4
    obtain ⟨W5, hW5, xa, xO⟩ := set4 r_p0_0 (.bool false) (.int .i64 0) (.int .i64 0) (.int .i64 0)
    have xb := heldC xO (Ne.symm d_p0_0_p0_1) r_p0_1
    replace hB := belowC hB xO n_p0_0
    have cz0 := held_cell xb 0 _ rfl
    have cz1 := held_cell xb 1 _ rfl
    have cz2 := held_cell xb 2 _ rfl
    have cz3 := held_cell xb 3 _ rfl
    have cz4 := held_cell xb 4 _ rfl
    have cg0 := held_free xb 0
    have cg1 := held_free xb 1
    have cg2 := held_free xb 2
    have cg3 := held_free xb 3
    have cg4 := held_free xb 4
    obtain ⟨W6, hW6, ya, yO⟩ := set5 xb (.bool false) (.int .i64 0) (.int .i64 0) (.int .i64 0) (.int .i64 0)
    have yb := heldC yO d_p0_0_p0_1 xa
    replace hB := belowC hB yO n_p0_1
    have dz0 := held_cell yb 0 _ rfl
    have dz1 := held_cell yb 1 _ rfl
    have dz2 := held_cell yb 2 _ rfl
    have dz3 := held_cell yb 3 _ rfl
    have dg0 := held_free yb 0
    have dg1 := held_free yb 1
    have dg2 := held_free yb 2
    have dg3 := held_free yb 3
    have ez0 := held_cell ya 0 _ rfl
    have ez1 := held_cell ya 1 _ rfl
    have ez2 := held_cell ya 2 _ rfl
    have ez3 := held_cell ya 3 _ rfl
    have ez4 := held_cell ya 4 _ rfl
    have eg0 := held_free ya 0
    have eg1 := held_free ya 1
    have eg2 := held_free ya 2
    have eg3 := held_free ya 3
    have eg4 := held_free ya 4
    clear xO yO
    replace hB := hid hB
    go_wp2_with fail
    refine bodyPost_ret (v := ofNo) (by simp [results, ofNo, Try.results21, go_sem, dz0, dz1, dz2, dz3, ez0, ez1, ez2, ez3, ez4]) rfl ⟨rfl, hB.out⟩
  · have c2 : 315576000000 ≤ n := by omega
    clear hn
    go_enter Try.func21, Try.ntmps21
    go_upto_region 0 with (fail)
    apply wp_region_seg0 (w := w) (S := [.al 1000, .al 1000, .q []]) (E := [.al ((fun p => .pointer (some ⟨p, 0, none⟩)), _) 1000, .al ((fun p => .pointer (some ⟨p, 0, none⟩)), _) 1000, .q0 _]) rfl (by kernel_rfl) rfl rfl
    intro th hge hne
    refine Seg.step _ rfl ⟨by rfl, fun U hU => ?_⟩ ?_
    · go_simp; exact vp_alloc rfl rfl rfl
    refine ⟨_, by (simp only [Ent.val]; go_simp <;> exact rfl), ?_⟩
    refine Seg.step _ rfl ⟨by rfl, fun U hU => ?_⟩ ?_
    · go_simp; exact vp_alloc rfl rfl rfl
    refine ⟨_, by (simp only [Ent.val]; go_simp <;> exact rfl), ?_⟩
    refine Seg.step _ rfl (Or.inl ⟨by rfl, fun U hU => vp_quiet (by (go_simp <;> exact rfl))⟩) ⟨_, by (simp only [Ent.val]; go_simp <;> exact rfl), ?_⟩
    refine Seg.stop (fun U1 hU hk => ?_)
    have nb0 := hge 0 _ _ rfl
    have rb0 := (hk 0 _ _ rfl trivial).1.2 (by simp)
    have nb1 := hge 1 _ _ rfl
    have rb1 := (hk 1 _ _ rfl trivial).1.2 (by simp)
    have ne0_1 := hne 0 1 _ _ _ _ rfl rfl (by omega)
    clear hk hge hne
    generalize th (0 + 0) = p0_0 at *
    dsimp only at rb0
    generalize th (0 + 1) = p0_1 at *
    dsimp only at rb1
    have r_p0_0 := rb0
    clear rb0
    have n_p0_0 := nb0
    clear nb0
    have d_p0_0_p0_1 := ne0_1
    clear ne0_1
    have r_p0_1 := rb1
    clear rb1
    have n_p0_1 := nb1
    clear nb1
    have sz1 := hU.size
    have hB : Below w.heap.size w U1 := hU
    clear hU
    go_upto_region 2 with (fail)
    have az0 := held_cell r_p0_0 0 _ rfl
    have az1 := held_cell r_p0_0 1 _ rfl
    have az2 := held_cell r_p0_0 2 _ rfl
    have az3 := held_cell r_p0_0 3 _ rfl
    have ag0 := held_free r_p0_0 0
    have ag1 := held_free r_p0_0 1
    have ag2 := held_free r_p0_0 2
    have ag3 := held_free r_p0_0 3
    have bz0 := held_cell r_p0_1 0 _ rfl
    have bz1 := held_cell r_p0_1 1 _ rfl
    have bz2 := held_cell r_p0_1 2 _ rfl
    have bz3 := held_cell r_p0_1 3 _ rfl
    have bz4 := held_cell r_p0_1 4 _ rfl
    have bg0 := held_free r_p0_1 0
    have bg1 := held_free r_p0_1 1
    have bg2 := held_free r_p0_1 2
    have bg3 := held_free r_p0_1 3
    have bg4 := held_free r_p0_1 4
    obtain ⟨W5, hW5, xa, xO⟩ := set4 r_p0_0 (.bool false) (.int .i64 0) (.int .i64 0) (.int .i64 0)
    have xb := heldC xO (Ne.symm d_p0_0_p0_1) r_p0_1
    replace hB := belowC hB xO n_p0_0
    have cz0 := held_cell xb 0 _ rfl
    have cz1 := held_cell xb 1 _ rfl
    have cz2 := held_cell xb 2 _ rfl
    have cz3 := held_cell xb 3 _ rfl
    have cz4 := held_cell xb 4 _ rfl
    have cg0 := held_free xb 0
    have cg1 := held_free xb 1
    have cg2 := held_free xb 2
    have cg3 := held_free xb 3
    have cg4 := held_free xb 4
    obtain ⟨W6, hW6, ya, yO⟩ := set5 xb (.bool false) (.int .i64 0) (.int .i64 0) (.int .i64 0) (.int .i64 0)
    have yb := heldC yO d_p0_0_p0_1 xa
    replace hB := belowC hB yO n_p0_1
    have dz0 := held_cell yb 0 _ rfl
    have dz1 := held_cell yb 1 _ rfl
    have dz2 := held_cell yb 2 _ rfl
    have dz3 := held_cell yb 3 _ rfl
    have dg0 := held_free yb 0
    have dg1 := held_free yb 1
    have dg2 := held_free yb 2
    have dg3 := held_free yb 3
    have ez0 := held_cell ya 0 _ rfl
    have ez1 := held_cell ya 1 _ rfl
    have ez2 := held_cell ya 2 _ rfl
    have ez3 := held_cell ya 3 _ rfl
    have ez4 := held_cell ya 4 _ rfl
    have eg0 := held_free ya 0
    have eg1 := held_free ya 1
    have eg2 := held_free ya 2
    have eg3 := held_free ya 3
    have eg4 := held_free ya 4
    clear xO yO
    replace hB := hid hB
    go_wp2_with fail
    refine bodyPost_ret (v := ofNo) (by simp [results, ofNo, Try.results21, go_sem, dz0, dz1, dz2, dz3, ez0, ez1, ez2, ez3, ez4]) rfl ⟨rfl, hB.out⟩
set_option maxRecDepth 100000 in
set_option maxHeartbeats 16000000 in
theorem of_any (n y m : Int) (w : World) (n1 : 0 ≤ n) (n2 : n < 315576000000) (y1 : 2000 ≤ y) (y2 : y ≤ 2099) (m1 : 1 ≤ m) (m2 : m ≤ 12) (c1 : cumM y m ≤ n / 8640000) (c2 : n / 8640000 < cumM y (m + 1)) : Calls Try.prog 21 #[.int .i64 n] w fun e w' => e = .returned (ofV (n / 8640000 - cumM y m + 1) m y (n % 8640000 / 360000) (n % 360000 / 6000) (n % 6000 / 100) (n % 100)) ∧ Below w.heap.size w w' := by
  have q1 : 0 ≤ n / 8640000 ∧ n / 8640000 < 36525 := by omega
  have z0 : cumM 2000 1 = 0 := by decide
  have z00 := hid z0
  go_enter Try.func21, Try.ntmps21
  go_upto_region 0 with (fail)
  apply wp_region_seg0 (w := w) (S := [.al 1000, .al 1000, .q []]) (E := [.al ((fun p => .pointer (some ⟨p, 0, none⟩)), _) 1000, .al ((fun p => .pointer (some ⟨p, 0, none⟩)), _) 1000, .q0 _]) rfl (by kernel_rfl) rfl rfl
  intro th hge hne
  refine Seg.step _ rfl ⟨by rfl, fun U hU => ?_⟩ ?_
  · go_simp; exact vp_alloc rfl rfl rfl
  refine ⟨_, by (simp only [Ent.val]; go_simp <;> exact rfl), ?_⟩
  refine Seg.step _ rfl ⟨by rfl, fun U hU => ?_⟩ ?_
  · go_simp; exact vp_alloc rfl rfl rfl
  refine ⟨_, by (simp only [Ent.val]; go_simp <;> exact rfl), ?_⟩
  refine Seg.step _ rfl (Or.inl ⟨by rfl, fun U hU => vp_quiet (by (go_simp <;> exact rfl))⟩) ⟨_, by (simp only [Ent.val]; go_simp <;> exact rfl), ?_⟩
  refine Seg.stop (fun U1 hU hk => ?_)
  have nb0 := hge 0 _ _ rfl
  have rb0 := (hk 0 _ _ rfl trivial).1.2 (by simp)
  have nb1 := hge 1 _ _ rfl
  have rb1 := (hk 1 _ _ rfl trivial).1.2 (by simp)
  have ne0_1 := hne 0 1 _ _ _ _ rfl rfl (by omega)
  clear hk hge hne
  generalize th (0 + 0) = p0_0 at *
  dsimp only at rb0
  generalize th (0 + 1) = p0_1 at *
  dsimp only at rb1
  have r_p0_0 := rb0
  clear rb0
  have n_p0_0 := nb0
  clear nb0
  have d_p0_0_p0_1 := ne0_1
  clear ne0_1
  have r_p0_1 := rb1
  clear rb1
  have n_p0_1 := nb1
  clear nb1
  have sz1 := hU.size
  have hB : Below w.heap.size w U1 := hU
  clear hU
  go_upto_region 3 with (fail)
  apply wp_region_seg0 (w := U1) (S := [.q [], .q [], .q [], .q [], .al 5, .st 4 []]) (E := [.q0 _, .q0 _, .q0 _, .q0 _, .al ((fun p => .pointer (some ⟨p, 0, none⟩)), _) 5, .s0 4 (.cells _ _)]) rfl (by kernel_rfl) rfl rfl
  intro th hge hne
  refine Seg.step _ rfl (Or.inl ⟨by rfl, fun U hU => vp_quiet (by (go_simp <;> exact rfl))⟩) ⟨_, by (simp only [Ent.val]; go_simp <;> exact rfl), ?_⟩
  refine Seg.step _ rfl (Or.inl ⟨by rfl, fun U hU => vp_quiet (by (go_simp <;> exact rfl))⟩) ⟨_, by (simp only [Ent.val]; go_simp <;> exact rfl), ?_⟩
  refine Seg.step _ rfl (Or.inl ⟨by rfl, fun U hU => vp_quiet (by (go_simp <;> exact rfl))⟩) ⟨_, by (simp only [Ent.val]; go_simp <;> exact rfl), ?_⟩
  refine Seg.step _ rfl (Or.inl ⟨by rfl, fun U hU => vp_quiet (by (go_simp <;> exact rfl))⟩) ⟨_, by (simp only [Ent.val]; go_simp <;> exact rfl), ?_⟩
  refine Seg.step _ rfl ⟨by rfl, fun U hU => ?_⟩ ?_
  · go_simp; exact vp_alloc rfl rfl rfl
  refine ⟨_, by (simp only [Ent.val]; go_simp <;> exact rfl), ?_⟩
  refine Seg.step _ rfl ⟨by rfl, fun U z k hz hU hc => ?_⟩ ?_
  · have hz2 := Option.some.inj hz
    cases hz2; clear hz
    exact vp_store_agg _ _ _ rfl hc rfl rfl (by kernel_rfl) rfl (by rfl)
  refine ⟨_, by (simp only [Ent.val]; go_simp <;> exact rfl), ?_⟩
  refine Seg.stop (fun U2 hU hk => ?_)
  have nb4 := hge 4 _ _ rfl
  have rb4 := (hk 4 _ 5 rfl trivial).1.1 trivial _ (Nat.zero_le _) rfl
  clear hk hge hne
  generalize th (0 + 4) = p3_4 at *
  simp only [Ent.obj] at rb4
  have df_p0_0_p3_4 : p0_0 ≠ p3_4 := by have := held_lt r_p0_0; omega
  have df_p0_1_p3_4 : p0_1 ≠ p3_4 := by have := held_lt r_p0_1; omega
  replace r_p0_0 := held_after hU r_p0_0
  replace r_p0_1 := held_after hU r_p0_1
  have r_p3_4 := rb4
  clear rb4
  have n_p3_4 := nb4
  clear nb4
  have sz2 := hU.size
  replace hB := bthen hB hU
  clear hU
  have e3 : IntKind.i64.wrap (IntKind.i64.wrap (n.tdiv 8640000) + 1) = n / 8640000 - cumM 2000 1 + 1 := by
    rw [Int.tdiv_eq_ediv_of_nonneg n1, z0, IntKind.wrap_i64, IntKind.wrap_i64]; omega
  rw [e3] at r_p3_4
  clear e3 z0
  have nP : w.heap.size ≤ p3_4 := by omega
  have nA : w.heap.size ≤ p0_0 := n_p0_0
  have nB : w.heap.size ≤ p0_1 := n_p0_1
  have dAB : p0_0 ≠ p0_1 := d_p0_0_p0_1
  have dAP : p0_0 ≠ p3_4 := df_p0_0_p3_4
  have dBP : p0_1 ≠ p3_4 := df_p0_1_p3_4
  replace dAB := hid dAB
  replace dAP := hid dAP
  replace dBP := hid dBP
  clear n_p0_0 n_p0_1 n_p3_4 d_p0_0_p0_1 df_p0_0_p3_4 df_p0_1_p3_4 sz1 sz2
  go_wp2_with fail
  go_loopw [6] (fun lx wr => ∃ M Y : Int, 2000 ≤ Y ∧ Y ≤ y ∧ 1 ≤ M ∧ M ≤ 12 ∧ (Y = y → M ≤ m) ∧ wr.heap[p0_0]? = some (.cells #[.bool false, .int .i64 0, .int .i64 0, .int .i64 0] 33 (0, 0)) ∧ wr.heap[p0_1]? = some (.cells #[.bool false, .int .i64 0, .int .i64 0, .int .i64 0, .int .i64 0] 23 (0, 0)) ∧ wr.heap[p3_4]? = some (.cells #[.bool true, .int .i64 (n / 8640000 - cumM Y M + 1), .int .i64 M, .int .i64 Y] 33 (0, 0)) ∧ Below w.heap.size w wr) (fun _ wr => (cellInt24 wr p3_4 1).toNat)
  case atStart => exact ⟨1, 2000, by omega, y1, by omega, by omega, by omega, r_p0_0, r_p0_1, r_p3_4, hB⟩
  case round =>
    clear r_p0_0 r_p0_1 r_p3_4 hB
    obtain ⟨M, Y, Y1, Y2, M1, M2, M3, ra, rb, rp, hB⟩ := hrel
    have hE := of_at y1 y2 m1 m2 Y1 Y2 M1 M2 M3 c1 c2
    have db := daysS_b M Y
    have kk := hid (fun v => days_any M Y v)
    have hms := cellInt24_of (held_cell rp 1 _ rfl)
    replace hms := hid hms
    have hEb : n / 8640000 - cumM Y M + 1 ≤ 36526 := by
      have a1 := cum_le Y1 (show Y ≤ 2099 by omega) (m := 1) (m' := M) (by omega) (by omega) (by omega)
      have a2 := cum_one Y
      omega
    obtain ⟨E, hEE⟩ : ∃ E, n / 8640000 - cumM Y M + 1 = E := ⟨_, rfl⟩
    rw [hEE] at rp hE hEb hms
    obtain ⟨L, hL⟩ : ∃ L, daysS M Y = L := ⟨_, rfl⟩
    rw [hL] at hE db kk
    replace hEE := hid hEE
    have x0 := held_cell rp 0 _ rfl
    have x1 := held_cell rp 1 _ rfl
    have x2 := held_cell rp 2 _ rfl
    have x3 := held_cell rp 3 _ rfl
    have xf0 := held_free rp 0
    have xf1 := held_free rp 1
    have xf2 := held_free rp 2
    have xf3 := held_free rp 3
    rcases hE with ⟨rfl, rfl, e1, e2⟩ | ⟨e1, e2, rfl, e3, e4⟩ | ⟨e1, e2, e3, e4, e5⟩
    · go_wp2_with fail
      refine (kk.out _).mono ?_
      rintro e V ⟨rfl, hst⟩
      replace ra := held_on ra hst
      replace rb := held_on rb hst
      replace rp := held_on rp hst
      replace hB := bthen hB hst
      have v0 := held_cell rp 0 _ rfl
      have v1 := held_cell rp 1 _ rfl
      have v2 := held_cell rp 2 _ rfl
      have v3 := held_cell rp 3 _ rfl
      have vf0 := held_free rp 0
      have vf1 := held_free rp 1
      have vf2 := held_free rp 2
      have vf3 := held_free rp 3
      go_upto_region 11 with (fail)
      apply wp_region_seg0 (w := V) (S := [.q [], .q [], .q [], .q [], .q [], .q [], .q [], .q [], .q [], .q [], .q [], .q [], .al 13, .st 12 []]) (E := [.q0 _, .q0 _, .q0 _, .q0 _, .q0 _, .q0 _, .q0 _, .q0 _, .q0 _, .q0 _, .q0 _, .q0 _, .al ((fun p => .pointer (some ⟨p, 0, none⟩)), _) 13, .s0 12 (.cells _ _)]) rfl (by kernel_rfl) rfl rfl
      intro th hge hne
      refine Seg.step _ rfl (Or.inl ⟨by rfl, fun U hU => vp_quiet (by (go_simp <;> exact rfl))⟩) ⟨_, by (simp only [Ent.val]; go_simp <;> exact rfl), ?_⟩
      refine Seg.step _ rfl (Or.inl ⟨by rfl, fun U hU => vp_quiet (by (go_simp <;> exact rfl))⟩) ⟨_, by (simp only [Ent.val]; go_simp <;> exact rfl), ?_⟩
      refine Seg.step _ rfl (Or.inl ⟨by rfl, fun U hU => vp_quiet (by (go_simp <;> exact rfl))⟩) ⟨_, by (simp only [Ent.val]; go_simp <;> exact rfl), ?_⟩
      refine Seg.step _ rfl (Or.inl ⟨by rfl, fun U hU => vp_quiet (by (go_simp <;> exact rfl))⟩) ⟨_, by (simp only [Ent.val]; go_simp <;> exact rfl), ?_⟩
      refine Seg.step _ rfl (Or.inl ⟨by rfl, fun U hU => vp_quiet (by (go_simp <;> exact rfl))⟩) ⟨_, by (simp only [Ent.val]; go_simp <;> exact rfl), ?_⟩
      refine Seg.step _ rfl (Or.inl ⟨by rfl, fun U hU => vp_quiet (by (go_simp <;> exact rfl))⟩) ⟨_, by (simp only [Ent.val]; go_simp <;> exact rfl), ?_⟩
      refine Seg.step _ rfl (Or.inl ⟨by rfl, fun U hU => vp_quiet (by (go_simp <;> exact rfl))⟩) ⟨_, by (simp only [Ent.val]; go_simp <;> exact rfl), ?_⟩
      refine Seg.step _ rfl (Or.inl ⟨by rfl, fun U hU => vp_quiet (by (go_simp <;> exact rfl))⟩) ⟨_, by (simp only [Ent.val]; go_simp <;> exact rfl), ?_⟩
      refine Seg.step _ rfl (Or.inl ⟨by rfl, fun U hU => vp_quiet (by (go_simp <;> exact rfl))⟩) ⟨_, by (simp only [Ent.val]; go_simp <;> exact rfl), ?_⟩
      refine Seg.step _ rfl (Or.inl ⟨by rfl, fun U hU => vp_quiet (by (go_simp <;> exact rfl))⟩) ⟨_, by (simp only [Ent.val]; go_simp <;> exact rfl), ?_⟩
      refine Seg.step _ rfl (Or.inl ⟨by rfl, fun U hU => vp_quiet (by (go_simp <;> exact rfl))⟩) ⟨_, by (simp only [Ent.val]; go_simp <;> exact rfl), ?_⟩
      refine Seg.step _ rfl (Or.inl ⟨by rfl, fun U hU => vp_quiet (by (go_simp <;> exact rfl))⟩) ⟨_, by (simp only [Ent.val]; go_simp <;> exact rfl), ?_⟩
      refine Seg.step _ rfl ⟨by rfl, fun U hU => ?_⟩ ?_
      · go_simp; exact vp_alloc rfl rfl rfl
      refine ⟨_, by (simp only [Ent.val]; go_simp <;> exact rfl), ?_⟩
      refine Seg.step _ rfl ⟨by rfl, fun U z k hz hU hc => ?_⟩ ?_
      · have hz2 := Option.some.inj hz
        cases hz2; clear hz
        exact vp_store_agg _ _ _ rfl hc rfl rfl (by kernel_rfl) rfl (by rfl)
      refine ⟨_, by (simp only [Ent.val]; go_simp <;> exact rfl), ?_⟩
      refine Seg.stop (fun U3 hU hk => ?_)
      have nb12 := hge 12 _ _ rfl
      have rb12 := (hk 12 _ 13 rfl trivial).1.1 trivial _ (Nat.zero_le _) rfl
      clear hk hge hne
      generalize th (0 + 12) = p11_12 at *
      simp only [Ent.obj] at rb12
      have df_p0_0_p11_12 : p0_0 ≠ p11_12 := by have := held_lt ra; omega
      have df_p0_1_p11_12 : p0_1 ≠ p11_12 := by have := held_lt rb; omega
      have df_p3_4_p11_12 : p3_4 ≠ p11_12 := by have := held_lt rp; omega
      replace ra := held_after hU ra
      replace rb := held_after hU rb
      replace rp := held_after hU rp
      have r_p11_12 := rb12
      clear rb12
      have n_p11_12 := nb12
      clear nb12
      have sz3 := hU.size
      replace hB := bthen hB hU
      clear hU
      have t1 : IntKind.i64.wrap ((n.tmod 8640000).tdiv 360000) = n % 8640000 / 360000 := by rw [Int.tmod_eq_emod_of_nonneg n1, Int.tdiv_eq_ediv_of_nonneg (by omega), IntKind.wrap_i64]; omega
      have t2 : IntKind.i64.wrap ((n.tmod 360000).tdiv 6000) = n % 360000 / 6000 := by rw [Int.tmod_eq_emod_of_nonneg n1, Int.tdiv_eq_ediv_of_nonneg (by omega), IntKind.wrap_i64]; omega
      have t3 : IntKind.i64.wrap ((n.tmod 6000).tdiv 100) = n % 6000 / 100 := by rw [Int.tmod_eq_emod_of_nonneg n1, Int.tdiv_eq_ediv_of_nonneg (by omega), IntKind.wrap_i64]; omega
      have t4 : n.tmod 100 = n % 100 := Int.tmod_eq_emod_of_nonneg n1
      rw [t1, t2, t3, t4] at r_p11_12
      clear t1 t2 t3 t4
      obtain ⟨H1, hH1⟩ : ∃ H, n % 8640000 / 360000 = H := ⟨_, rfl⟩
      obtain ⟨H2, hH2⟩ : ∃ H, n % 360000 / 6000 = H := ⟨_, rfl⟩
      obtain ⟨H3, hH3⟩ : ∃ H, n % 6000 / 100 = H := ⟨_, rfl⟩
      obtain ⟨H4, hH4⟩ : ∃ H, n % 100 = H := ⟨_, rfl⟩
      rw [hH1, hH2, hH3, hH4] at r_p11_12
      replace hH1 := hid hH1
      replace hH2 := hid hH2
      replace hH3 := hid hH3
      replace hH4 := hid hH4
      have dAQ : p0_0 ≠ p11_12 := df_p0_0_p11_12
      have dBQ : p0_1 ≠ p11_12 := df_p0_1_p11_12
      have dPQ : p3_4 ≠ p11_12 := df_p3_4_p11_12
      replace dAQ := hid dAQ
      replace dBQ := hid dBQ
      replace dPQ := hid dPQ
      clear df_p0_0_p11_12 df_p0_1_p11_12 df_p3_4_p11_12
      go_upto_region 12 with (fail)
      clear v0 v1 v2 v3 vf0 vf1 vf2 vf3 hms hL kk e1 e2
      have a0 := held_cell rp 0 _ rfl
      have a1 := held_cell rp 1 _ rfl
      have a2 := held_cell rp 2 _ rfl
      have a3 := held_cell rp 3 _ rfl
      have b0 := held_cell r_p11_12 0 _ rfl
      have b1 := held_cell r_p11_12 1 _ rfl
      have b2 := held_cell r_p11_12 2 _ rfl
      have b3 := held_cell r_p11_12 3 _ rfl
      have b4 := held_cell r_p11_12 4 _ rfl
      have c0 := held_cell ra 0 _ rfl
      have c1 := held_cell ra 1 _ rfl
      have c2 := held_cell ra 2 _ rfl
      have c3 := held_cell ra 3 _ rfl
      have cf0 := held_free ra 0
      have cf1 := held_free ra 1
      have cf2 := held_free ra 2
      have cf3 := held_free ra 3
      have d0 := held_cell rb 0 _ rfl
      have d1 := held_cell rb 1 _ rfl
      have d2 := held_cell rb 2 _ rfl
      have d3 := held_cell rb 3 _ rfl
      have d4 := held_cell rb 4 _ rfl
      have df0 := held_free rb 0
      have df1 := held_free rb 1
      have df2 := held_free rb 2
      have df3 := held_free rb 3
      have df4 := held_free rb 4
      obtain ⟨S1, hS1, s1, o1⟩ := set4 ra (.bool true) (.int .i64 E) (.int .i64 M) (.int .i64 Y)
      have s1b := heldC o1 (Ne.symm dAB.out) rb
      have s1q := heldC o1 (Ne.symm dAQ.out) r_p11_12
      have e0 := held_cell s1b 0 _ rfl
      have e1 := held_cell s1b 1 _ rfl
      have e2 := held_cell s1b 2 _ rfl
      have e3 := held_cell s1b 3 _ rfl
      have e4 := held_cell s1b 4 _ rfl
      have ef0 := held_free s1b 0
      have ef1 := held_free s1b 1
      have ef2 := held_free s1b 2
      have ef3 := held_free s1b 3
      have ef4 := held_free s1b 4
      have f0 := held_cell s1q 0 _ rfl
      have f1 := held_cell s1q 1 _ rfl
      have f2 := held_cell s1q 2 _ rfl
      have f3 := held_cell s1q 3 _ rfl
      have f4 := held_cell s1q 4 _ rfl
      obtain ⟨S2, hS2, s2, o2⟩ := set5 s1b (.bool true) (.int .i64 H1) (.int .i64 H2) (.int .i64 H3) (.int .i64 H4)
      have s2a := heldC o2 dAB.out s1
      have hB2 := hid (belowC (belowC hB o1 nA) o2 nB)
      clear o1 o2 hB
      have g0 := held_cell s2a 0 _ rfl
      have g1 := held_cell s2a 1 _ rfl
      have g2 := held_cell s2a 2 _ rfl
      have g3 := held_cell s2a 3 _ rfl
      have h0 := held_cell s2 0 _ rfl
      have h1 := held_cell s2 1 _ rfl
      have h2 := held_cell s2 2 _ rfl
      have h3 := held_cell s2 3 _ rfl
      have h4 := held_cell s2 4 _ rfl
      go_region
      go_wp2_with fail
      refine bodyPost_ret (v := ofV E M Y H1 H2 H3 H4) (by simp [results, ofV, Try.results21, go_sem, g0, g1, g2, g3, h0, h1, h2, h3, h4]) rfl ⟨ret_val (by rw [← hEE.out, ← hH1.out, ← hH2.out, ← hH3.out, ← hH4.out]), below_drewN hB2.out 1⟩
    · replace e4 := hid e4
      go_wp2_with fail
      refine (kk.out _).mono ?_
      rintro e V ⟨rfl, hst⟩
      replace ra := held_on ra hst
      replace rb := held_on rb hst
      replace rp := held_on rp hst
      replace hB := bthen hB hst
      clear x0 x1 x2 x3 xf0 xf1 xf2 xf3
      have v0 := held_cell rp 0 _ rfl
      have v1 := held_cell rp 1 _ rfl
      have v2 := held_cell rp 2 _ rfl
      have v3 := held_cell rp 3 _ rfl
      have vf0 := held_free rp 0
      have vf1 := held_free rp 1
      have vf2 := held_free rp 2
      have vf3 := held_free rp 3
      obtain ⟨A1, hA1, r1, o1⟩ := set1 rp 1 (.int .i64 (E - L))
      have y0 := held_cell r1 0 _ rfl
      have y1 := held_cell r1 1 _ rfl
      have y2 := held_cell r1 2 _ rfl
      have y3 := held_cell r1 3 _ rfl
      have yf0 := held_free r1 0
      have yf1 := held_free r1 1
      have yf2 := held_free r1 2
      have yf3 := held_free r1 3
      obtain ⟨A2, hA2, r2, o2⟩ := set1 r1 2 (.int .i64 13)
      have z0 := held_cell r2 0 _ rfl
      have z1 := held_cell r2 1 _ rfl
      have z2 := held_cell r2 2 _ rfl
      have z3 := held_cell r2 3 _ rfl
      have zf0 := held_free r2 0
      have zf1 := held_free r2 1
      have zf2 := held_free r2 2
      have zf3 := held_free r2 3
      obtain ⟨A3, hA3, r3, o3⟩ := set1 r2 2 (.int .i64 1)
      have s0 := held_cell r3 0 _ rfl
      have s1 := held_cell r3 1 _ rfl
      have s2 := held_cell r3 2 _ rfl
      have s3 := held_cell r3 3 _ rfl
      have sf0 := held_free r3 0
      have sf1 := held_free r3 1
      have sf2 := held_free r3 2
      have sf3 := held_free r3 3
      obtain ⟨A4, hA4, r4, o4⟩ := set1 r3 3 (.int .i64 (Y + 1))
      have t0 := held_cell r4 0 _ rfl
      have t1 := held_cell r4 1 _ rfl
      have t2 := held_cell r4 2 _ rfl
      have t3 := held_cell r4 3 _ rfl
      have tf0 := held_free r4 0
      have tf1 := held_free r4 1
      have tf2 := held_free r4 2
      have tf3 := held_free r4 3
      have oo := ((o1.then o2).then o3).then o4
      have ra2 := heldC oo dAP.out ra
      have rb2 := heldC oo dBP.out rb
      replace hB := belowC hB oo nP
      have hm2 := hid (cellInt24_of (held_cell r4 1 _ rfl))
      clear oo o1 o2 o3 o4
      go_wp2_with fail
      go_roundw
      case rel =>
        refine ⟨1, Y + 1, by omega, by omega, by omega, by omega, by omega, ra2, rb2, ?_, hB⟩
        rw [← e4.out]
        exact r4
      case measure => rw [hm2.out, hms.out]; omega
    · replace e5 := hid e5
      go_wp2_with fail
      refine (kk.out _).mono ?_
      rintro e V ⟨rfl, hst⟩
      replace ra := held_on ra hst
      replace rb := held_on rb hst
      replace rp := held_on rp hst
      replace hB := bthen hB hst
      clear x0 x1 x2 x3 xf0 xf1 xf2 xf3
      have v0 := held_cell rp 0 _ rfl
      have v1 := held_cell rp 1 _ rfl
      have v2 := held_cell rp 2 _ rfl
      have v3 := held_cell rp 3 _ rfl
      have vf0 := held_free rp 0
      have vf1 := held_free rp 1
      have vf2 := held_free rp 2
      have vf3 := held_free rp 3
      obtain ⟨A1, hA1, r1, o1⟩ := set1 rp 1 (.int .i64 (E - L))
      have y0 := held_cell r1 0 _ rfl
      have y1 := held_cell r1 1 _ rfl
      have y2 := held_cell r1 2 _ rfl
      have y3 := held_cell r1 3 _ rfl
      have yf0 := held_free r1 0
      have yf1 := held_free r1 1
      have yf2 := held_free r1 2
      have yf3 := held_free r1 3
      obtain ⟨A2, hA2, r2, o2⟩ := set1 r1 2 (.int .i64 (M + 1))
      have z0 := held_cell r2 0 _ rfl
      have z1 := held_cell r2 1 _ rfl
      have z2 := held_cell r2 2 _ rfl
      have z3 := held_cell r2 3 _ rfl
      have zf0 := held_free r2 0
      have zf1 := held_free r2 1
      have zf2 := held_free r2 2
      have zf3 := held_free r2 3
      have oo := (o1.then o2)
      have ra2 := heldC oo dAP.out ra
      have rb2 := heldC oo dBP.out rb
      replace hB := belowC hB oo nP
      have hm2 := hid (cellInt24_of (held_cell r2 1 _ rfl))
      clear oo o1 o2
      go_wp2_with fail
      go_roundw
      case rel =>
        refine ⟨M + 1, Y, by omega, by omega, by omega, by omega, e4, ra2, rb2, ?_, hB⟩
        rw [← e5.out]
        exact r2
      case measure => rw [hm2.out, hms.out]; omega
set_option maxRecDepth 100000 in
set_option maxHeartbeats 8000000 in
theorem rof_any_no (n : Int) (w : World) (hn : n < 0 ∨ 315576000000 ≤ n) : Calls Try.prog 22 #[.int .i64 n] w fun e w' => e = .returned ofNo ∧ Below w.heap.size w w' := by
  by_cases c : n < 0
  · clear hn
    go_enter Try.func22, Try.ntmps22
    go_upto_region 0 with (fail)
    apply wp_region_seg0 (w := w) (S := [.al 1000, .al 1000, .q []]) (E := [.al ((fun p => .pointer (some ⟨p, 0, none⟩)), _) 1000, .al ((fun p => .pointer (some ⟨p, 0, none⟩)), _) 1000, .q0 _]) rfl (by kernel_rfl) rfl rfl
    intro th hge hne
    refine Seg.step _ rfl ⟨by rfl, fun U hU => ?_⟩ ?_
    · go_simp; exact vp_alloc rfl rfl rfl
    refine ⟨_, by (simp only [Ent.val]; go_simp <;> exact rfl), ?_⟩
    refine Seg.step _ rfl ⟨by rfl, fun U hU => ?_⟩ ?_
    · go_simp; exact vp_alloc rfl rfl rfl
    refine ⟨_, by (simp only [Ent.val]; go_simp <;> exact rfl), ?_⟩
    refine Seg.step _ rfl (Or.inl ⟨by rfl, fun U hU => vp_quiet (by (go_simp <;> exact rfl))⟩) ⟨_, by (simp only [Ent.val]; go_simp <;> exact rfl), ?_⟩
    refine Seg.stop (fun U1 hU hk => ?_)
    have nb0 := hge 0 _ _ rfl
    have rb0 := (hk 0 _ _ rfl trivial).1.2 (by simp)
    have nb1 := hge 1 _ _ rfl
    have rb1 := (hk 1 _ _ rfl trivial).1.2 (by simp)
    have ne0_1 := hne 0 1 _ _ _ _ rfl rfl (by omega)
    clear hk hge hne
    generalize th (0 + 0) = p0_0 at *
    dsimp only at rb0
    generalize th (0 + 1) = p0_1 at *
    dsimp only at rb1
    have r_p0_0 := rb0
    clear rb0
    have n_p0_0 := nb0
    clear nb0
    have d_p0_0_p0_1 := ne0_1
    clear ne0_1
    have r_p0_1 := rb1
    clear rb1
    have n_p0_1 := nb1
    clear nb1
    have sz1 := hU.size
    have hB : Below w.heap.size w U1 := hU
    clear hU
    go_upto_region 2 with (fail)
    have az0 := held_cell r_p0_0 0 _ rfl
    have az1 := held_cell r_p0_0 1 _ rfl
    have az2 := held_cell r_p0_0 2 _ rfl
    have az3 := held_cell r_p0_0 3 _ rfl
    have ag0 := held_free r_p0_0 0
    have ag1 := held_free r_p0_0 1
    have ag2 := held_free r_p0_0 2
    have ag3 := held_free r_p0_0 3
    have bz0 := held_cell r_p0_1 0 _ rfl
    have bz1 := held_cell r_p0_1 1 _ rfl
    have bz2 := held_cell r_p0_1 2 _ rfl
    have bz3 := held_cell r_p0_1 3 _ rfl
    have bz4 := held_cell r_p0_1 4 _ rfl
    have bg0 := held_free r_p0_1 0
    have bg1 := held_free r_p0_1 1
    have bg2 := held_free r_p0_1 2
    have bg3 := held_free r_p0_1 3
    have bg4 := held_free r_p0_1 4
    obtain ⟨W5, hW5, xa, xO⟩ := set4 r_p0_0 (.bool false) (.int .i64 0) (.int .i64 0) (.int .i64 0)
    have xb := heldC xO (Ne.symm d_p0_0_p0_1) r_p0_1
    replace hB := belowC hB xO n_p0_0
    have cz0 := held_cell xb 0 _ rfl
    have cz1 := held_cell xb 1 _ rfl
    have cz2 := held_cell xb 2 _ rfl
    have cz3 := held_cell xb 3 _ rfl
    have cz4 := held_cell xb 4 _ rfl
    have cg0 := held_free xb 0
    have cg1 := held_free xb 1
    have cg2 := held_free xb 2
    have cg3 := held_free xb 3
    have cg4 := held_free xb 4
    obtain ⟨W6, hW6, ya, yO⟩ := set5 xb (.bool false) (.int .i64 0) (.int .i64 0) (.int .i64 0) (.int .i64 0)
    have yb := heldC yO d_p0_0_p0_1 xa
    replace hB := belowC hB yO n_p0_1
    have dz0 := held_cell yb 0 _ rfl
    have dz1 := held_cell yb 1 _ rfl
    have dz2 := held_cell yb 2 _ rfl
    have dz3 := held_cell yb 3 _ rfl
    have dg0 := held_free yb 0
    have dg1 := held_free yb 1
    have dg2 := held_free yb 2
    have dg3 := held_free yb 3
    have ez0 := held_cell ya 0 _ rfl
    have ez1 := held_cell ya 1 _ rfl
    have ez2 := held_cell ya 2 _ rfl
    have ez3 := held_cell ya 3 _ rfl
    have ez4 := held_cell ya 4 _ rfl
    have eg0 := held_free ya 0
    have eg1 := held_free ya 1
    have eg2 := held_free ya 2
    have eg3 := held_free ya 3
    have eg4 := held_free ya 4
    clear xO yO
    replace hB := hid hB
    go_wp2_with fail
    refine bodyPost_ret (v := ofNo) (by simp [results, ofNo, Try.results22, go_sem, dz0, dz1, dz2, dz3, ez0, ez1, ez2, ez3, ez4]) rfl ⟨rfl, hB.out⟩
  · have c2 : 315576000000 ≤ n := by omega
    clear hn
    go_enter Try.func22, Try.ntmps22
    go_upto_region 0 with (fail)
    apply wp_region_seg0 (w := w) (S := [.al 1000, .al 1000, .q []]) (E := [.al ((fun p => .pointer (some ⟨p, 0, none⟩)), _) 1000, .al ((fun p => .pointer (some ⟨p, 0, none⟩)), _) 1000, .q0 _]) rfl (by kernel_rfl) rfl rfl
    intro th hge hne
    refine Seg.step _ rfl ⟨by rfl, fun U hU => ?_⟩ ?_
    · go_simp; exact vp_alloc rfl rfl rfl
    refine ⟨_, by (simp only [Ent.val]; go_simp <;> exact rfl), ?_⟩
    refine Seg.step _ rfl ⟨by rfl, fun U hU => ?_⟩ ?_
    · go_simp; exact vp_alloc rfl rfl rfl
    refine ⟨_, by (simp only [Ent.val]; go_simp <;> exact rfl), ?_⟩
    refine Seg.step _ rfl (Or.inl ⟨by rfl, fun U hU => vp_quiet (by (go_simp <;> exact rfl))⟩) ⟨_, by (simp only [Ent.val]; go_simp <;> exact rfl), ?_⟩
    refine Seg.stop (fun U1 hU hk => ?_)
    have nb0 := hge 0 _ _ rfl
    have rb0 := (hk 0 _ _ rfl trivial).1.2 (by simp)
    have nb1 := hge 1 _ _ rfl
    have rb1 := (hk 1 _ _ rfl trivial).1.2 (by simp)
    have ne0_1 := hne 0 1 _ _ _ _ rfl rfl (by omega)
    clear hk hge hne
    generalize th (0 + 0) = p0_0 at *
    dsimp only at rb0
    generalize th (0 + 1) = p0_1 at *
    dsimp only at rb1
    have r_p0_0 := rb0
    clear rb0
    have n_p0_0 := nb0
    clear nb0
    have d_p0_0_p0_1 := ne0_1
    clear ne0_1
    have r_p0_1 := rb1
    clear rb1
    have n_p0_1 := nb1
    clear nb1
    have sz1 := hU.size
    have hB : Below w.heap.size w U1 := hU
    clear hU
    go_upto_region 2 with (fail)
    have az0 := held_cell r_p0_0 0 _ rfl
    have az1 := held_cell r_p0_0 1 _ rfl
    have az2 := held_cell r_p0_0 2 _ rfl
    have az3 := held_cell r_p0_0 3 _ rfl
    have ag0 := held_free r_p0_0 0
    have ag1 := held_free r_p0_0 1
    have ag2 := held_free r_p0_0 2
    have ag3 := held_free r_p0_0 3
    have bz0 := held_cell r_p0_1 0 _ rfl
    have bz1 := held_cell r_p0_1 1 _ rfl
    have bz2 := held_cell r_p0_1 2 _ rfl
    have bz3 := held_cell r_p0_1 3 _ rfl
    have bz4 := held_cell r_p0_1 4 _ rfl
    have bg0 := held_free r_p0_1 0
    have bg1 := held_free r_p0_1 1
    have bg2 := held_free r_p0_1 2
    have bg3 := held_free r_p0_1 3
    have bg4 := held_free r_p0_1 4
    obtain ⟨W5, hW5, xa, xO⟩ := set4 r_p0_0 (.bool false) (.int .i64 0) (.int .i64 0) (.int .i64 0)
    have xb := heldC xO (Ne.symm d_p0_0_p0_1) r_p0_1
    replace hB := belowC hB xO n_p0_0
    have cz0 := held_cell xb 0 _ rfl
    have cz1 := held_cell xb 1 _ rfl
    have cz2 := held_cell xb 2 _ rfl
    have cz3 := held_cell xb 3 _ rfl
    have cz4 := held_cell xb 4 _ rfl
    have cg0 := held_free xb 0
    have cg1 := held_free xb 1
    have cg2 := held_free xb 2
    have cg3 := held_free xb 3
    have cg4 := held_free xb 4
    obtain ⟨W6, hW6, ya, yO⟩ := set5 xb (.bool false) (.int .i64 0) (.int .i64 0) (.int .i64 0) (.int .i64 0)
    have yb := heldC yO d_p0_0_p0_1 xa
    replace hB := belowC hB yO n_p0_1
    have dz0 := held_cell yb 0 _ rfl
    have dz1 := held_cell yb 1 _ rfl
    have dz2 := held_cell yb 2 _ rfl
    have dz3 := held_cell yb 3 _ rfl
    have dg0 := held_free yb 0
    have dg1 := held_free yb 1
    have dg2 := held_free yb 2
    have dg3 := held_free yb 3
    have ez0 := held_cell ya 0 _ rfl
    have ez1 := held_cell ya 1 _ rfl
    have ez2 := held_cell ya 2 _ rfl
    have ez3 := held_cell ya 3 _ rfl
    have ez4 := held_cell ya 4 _ rfl
    have eg0 := held_free ya 0
    have eg1 := held_free ya 1
    have eg2 := held_free ya 2
    have eg3 := held_free ya 3
    have eg4 := held_free ya 4
    clear xO yO
    replace hB := hid hB
    go_wp2_with fail
    refine bodyPost_ret (v := ofNo) (by simp [results, ofNo, Try.results22, go_sem, dz0, dz1, dz2, dz3, ez0, ez1, ez2, ez3, ez4]) rfl ⟨rfl, hB.out⟩
set_option maxRecDepth 100000 in
set_option maxHeartbeats 16000000 in
theorem rof_any (n y m : Int) (w : World) (n1 : 0 ≤ n) (n2 : n < 315576000000) (y1 : 2000 ≤ y) (y2 : y ≤ 2099) (m1 : 1 ≤ m) (m2 : m ≤ 12) (c1 : cumM y m ≤ n / 8640000) (c2 : n / 8640000 < cumM y (m + 1)) : Calls Try.prog 22 #[.int .i64 n] w fun e w' => e = .returned (ofV (n / 8640000 - cumM y m + 1) m y (n % 8640000 / 360000) (n % 360000 / 6000) (n % 6000 / 100) (n % 100)) ∧ Below w.heap.size w w' := by
  have q1 : 0 ≤ n / 8640000 ∧ n / 8640000 < 36525 := by omega
  have z0 : cumM 2000 1 = 0 := by decide
  have z00 := hid z0
  obtain ⟨Q, hQ⟩ : ∃ Q, n / 8640000 = Q := ⟨_, rfl⟩
  rw [hQ] at c1 c2 q1 ⊢
  go_enter Try.func22, Try.ntmps22
  go_upto_region 0 with (fail)
  apply wp_region_seg0 (w := w) (S := [.al 1000, .al 1000, .q []]) (E := [.al ((fun p => .pointer (some ⟨p, 0, none⟩)), _) 1000, .al ((fun p => .pointer (some ⟨p, 0, none⟩)), _) 1000, .q0 _]) rfl (by kernel_rfl) rfl rfl
  intro th hge hne
  refine Seg.step _ rfl ⟨by rfl, fun U hU => ?_⟩ ?_
  · go_simp; exact vp_alloc rfl rfl rfl
  refine ⟨_, by (simp only [Ent.val]; go_simp <;> exact rfl), ?_⟩
  refine Seg.step _ rfl ⟨by rfl, fun U hU => ?_⟩ ?_
  · go_simp; exact vp_alloc rfl rfl rfl
  refine ⟨_, by (simp only [Ent.val]; go_simp <;> exact rfl), ?_⟩
  refine Seg.step _ rfl (Or.inl ⟨by rfl, fun U hU => vp_quiet (by (go_simp <;> exact rfl))⟩) ⟨_, by (simp only [Ent.val]; go_simp <;> exact rfl), ?_⟩
  refine Seg.stop (fun U1 hU hk => ?_)
  have nb0 := hge 0 _ _ rfl
  have rb0 := (hk 0 _ _ rfl trivial).1.2 (by simp)
  have nb1 := hge 1 _ _ rfl
  have rb1 := (hk 1 _ _ rfl trivial).1.2 (by simp)
  have ne0_1 := hne 0 1 _ _ _ _ rfl rfl (by omega)
  clear hk hge hne
  generalize th (0 + 0) = p0_0 at *
  dsimp only at rb0
  generalize th (0 + 1) = p0_1 at *
  dsimp only at rb1
  have r_p0_0 := rb0
  clear rb0
  have n_p0_0 := nb0
  clear nb0
  have d_p0_0_p0_1 := ne0_1
  clear ne0_1
  have r_p0_1 := rb1
  clear rb1
  have n_p0_1 := nb1
  clear nb1
  have sz1 := hU.size
  have hB : Below w.heap.size w U1 := hU
  clear hU
  go_upto_region 3 with (fail)
  obtain ⟨R, hR⟩ : ∃ R, n % 8640000 = R := ⟨_, rfl⟩
  have bR : 0 ≤ R ∧ R < 8640000 := by omega
  go_upto_region 5 with (fail)
  rw [hQ, hR]
  clear z0
  have e0 : Q = Q - cumM 2000 1 := by rw [z00.out]; omega
  replace e0 := hid e0
  have k1 : R / 360000 = n % 8640000 / 360000 := by omega
  have k2 : R / 6000 % 60 = n % 360000 / 6000 := by omega
  have k3 : R / 100 % 60 = n % 6000 / 100 := by omega
  have k4 : R % 100 = n % 100 := by omega
  replace k1 := hid k1
  replace k2 := hid k2
  replace k3 := hid k3
  replace k4 := hid k4
  clear hQ hR
  apply wp_region_seg0 (w := U1) (S := [.q [], .al 2, .st 1 []]) (E := [.q0 _, .al ((fun p => .pointer (some ⟨p, 0, none⟩)), _) 2, .s0 1 (.cells _ _)]) rfl (by kernel_rfl) rfl rfl
  intro th hge hne
  refine Seg.step _ rfl (Or.inl ⟨by rfl, fun U hU => vp_quiet (by (go_simp <;> exact rfl))⟩) ⟨_, by (simp only [Ent.val]; go_simp <;> exact rfl), ?_⟩
  refine Seg.step _ rfl ⟨by rfl, fun U hU => ?_⟩ ?_
  · go_simp; exact vp_alloc rfl rfl rfl
  refine ⟨_, by (simp only [Ent.val]; go_simp <;> exact rfl), ?_⟩
  refine Seg.step _ rfl ⟨by rfl, fun U z k hz hU hc => ?_⟩ ?_
  · have hz2 := Option.some.inj hz
    cases hz2; clear hz
    exact vp_store_agg _ _ _ rfl hc rfl rfl (by kernel_rfl) rfl (by rfl)
  refine ⟨_, by (simp only [Ent.val]; go_simp <;> exact rfl), ?_⟩
  refine Seg.stop (fun U2 hU hk => ?_)
  have nb1 := hge 1 _ _ rfl
  have rb1 := (hk 1 _ 2 rfl trivial).1.1 trivial _ (Nat.zero_le _) rfl
  clear hk hge hne
  generalize th (0 + 1) = p5_1 at *
  simp only [Ent.obj] at rb1
  have df_p0_0_p5_1 : p0_0 ≠ p5_1 := by have := held_lt r_p0_0; omega
  have df_p0_1_p5_1 : p0_1 ≠ p5_1 := by have := held_lt r_p0_1; omega
  replace r_p0_0 := held_after hU r_p0_0
  replace r_p0_1 := held_after hU r_p0_1
  have r_p5_1 := rb1
  clear rb1
  have n_p5_1 := nb1
  clear nb1
  have sz2 := hU.size
  replace hB := bthen hB hU
  clear hU
  have nP : w.heap.size ≤ p5_1 := by omega
  have nA : w.heap.size ≤ p0_0 := n_p0_0
  have nB : w.heap.size ≤ p0_1 := n_p0_1
  have dAB : p0_0 ≠ p0_1 := d_p0_0_p0_1
  have dAP : p0_0 ≠ p5_1 := df_p0_0_p5_1
  have dBP : p0_1 ≠ p5_1 := df_p0_1_p5_1
  replace dAB := hid dAB
  replace dAP := hid dAP
  replace dBP := hid dBP
  clear n_p0_0 n_p0_1 n_p5_1 d_p0_0_p0_1 df_p0_0_p5_1 df_p0_1_p5_1 sz1 sz2
  go_wp2_with fail
  go_loopw [5] (fun dx wr => ∃ M Y : Int, 2000 ≤ Y ∧ Y ≤ y ∧ 1 ≤ M ∧ M ≤ 12 ∧ (Y = y → M ≤ m) ∧ dx = .int .i64 (Q - cumM Y M) ∧ wr.heap[p0_0]? = some (.cells #[.bool false, .int .i64 0, .int .i64 0, .int .i64 0] 33 (0, 0)) ∧ wr.heap[p0_1]? = some (.cells #[.bool false, .int .i64 0, .int .i64 0, .int .i64 0, .int .i64 0] 23 (0, 0)) ∧ wr.heap[p5_1]? = some (.cells #[.bool true, .int .i64 0, .int .i64 M, .int .i64 Y] 33 (0, 0)) ∧ Below w.heap.size w wr) (fun dx _ => (intOf dx + 1).toNat)
  case atStart => exact ⟨1, 2000, by omega, y1, by omega, by omega, by omega, by rw [← e0.out], r_p0_0, r_p0_1, r_p5_1, hB⟩
  case round =>
    clear r_p0_0 r_p0_1 r_p5_1 hB
    obtain ⟨M, Y, Y1, Y2, M1, M2, M3, rfl, ra, rb, rp, hB⟩ := hrel
    have hE := of_at y1 y2 m1 m2 Y1 Y2 M1 M2 M3 c1 c2
    have db := daysS_b M Y
    have kk := hid (fun v => rdays_any M Y v)
    have hEb : Q - cumM Y M + 1 ≤ 36526 := by
      have a1 := cum_le Y1 (show Y ≤ 2099 by omega) (m := 1) (m' := M) (by omega) (by omega) (by omega)
      have a2 := cum_one Y
      omega
    have hEE2 : Q - cumM Y M = Q - cumM Y M + 1 - 1 := by omega
    obtain ⟨E, hEE⟩ : ∃ E, Q - cumM Y M + 1 = E := ⟨_, rfl⟩
    rw [hEE2, hEE]
    rw [hEE] at hE hEb
    clear hEE2
    obtain ⟨L, hL⟩ : ∃ L, daysS M Y = L := ⟨_, rfl⟩
    rw [hL] at hE db kk
    replace hEE := hid hEE
    have x0 := held_cell rp 0 _ rfl
    have x1 := held_cell rp 1 _ rfl
    have x2 := held_cell rp 2 _ rfl
    have x3 := held_cell rp 3 _ rfl
    have xf0 := held_free rp 0
    have xf1 := held_free rp 1
    have xf2 := held_free rp 2
    have xf3 := held_free rp 3
    rcases hE with ⟨rfl, rfl, e1, e2⟩ | ⟨e1, e2, rfl, e3, e4⟩ | ⟨e1, e2, e3, e4, e5⟩
    · have s1e : E - 1 + 1 = E := by omega
      go_wp2_with fail
      refine (kk.out _).mono ?_
      rintro e V ⟨rfl, rfl⟩
      go_upto_region 12 with (fail)
      obtain ⟨S0, hS0, rp2, o0⟩ := set1 rp 1 (.int .i64 E)
      have ra2 := heldC o0 dAP.out ra
      have rb2 := heldC o0 dBP.out rb
      have v0 := held_cell rp2 0 _ rfl
      have v1 := held_cell rp2 1 _ rfl
      have v2 := held_cell rp2 2 _ rfl
      have v3 := held_cell rp2 3 _ rfl
      have vf0 := held_free rp2 0
      have vf1 := held_free rp2 1
      have vf2 := held_free rp2 2
      have vf3 := held_free rp2 3
      have c0 := held_cell ra2 0 _ rfl
      have c1 := held_cell ra2 1 _ rfl
      have c2 := held_cell ra2 2 _ rfl
      have c3 := held_cell ra2 3 _ rfl
      have cf0 := held_free ra2 0
      have cf1 := held_free ra2 1
      have cf2 := held_free ra2 2
      have cf3 := held_free ra2 3
      have d0 := held_cell rb2 0 _ rfl
      have d1 := held_cell rb2 1 _ rfl
      have d2 := held_cell rb2 2 _ rfl
      have d3 := held_cell rb2 3 _ rfl
      have d4 := held_cell rb2 4 _ rfl
      have df0 := held_free rb2 0
      have df1 := held_free rb2 1
      have df2 := held_free rb2 2
      have df3 := held_free rb2 3
      have df4 := held_free rb2 4
      obtain ⟨S1, hS1, s1, o1⟩ := set4 ra2 (.bool true) (.int .i64 E) (.int .i64 M) (.int .i64 Y)
      have s1b := heldC o1 (Ne.symm dAB.out) rb2
      have e0 := held_cell s1b 0 _ rfl
      have e1 := held_cell s1b 1 _ rfl
      have e2 := held_cell s1b 2 _ rfl
      have e3 := held_cell s1b 3 _ rfl
      have e4 := held_cell s1b 4 _ rfl
      have ef0 := held_free s1b 0
      have ef1 := held_free s1b 1
      have ef2 := held_free s1b 2
      have ef3 := held_free s1b 3
      have ef4 := held_free s1b 4
      obtain ⟨S2, hS2, s2, o2⟩ := set5 s1b (.bool true) (.int .i64 (R / 360000)) (.int .i64 (R / 6000 % 60)) (.int .i64 (R / 100 % 60)) (.int .i64 (R % 100))
      have s2a := heldC o2 dAB.out s1
      have hB2 := hid (belowC (belowC (belowC hB o0 nP) o1 nA) o2 nB)
      clear o0 o1 o2 hB
      have g0 := held_cell s2a 0 _ rfl
      have g1 := held_cell s2a 1 _ rfl
      have g2 := held_cell s2a 2 _ rfl
      have g3 := held_cell s2a 3 _ rfl
      have h0 := held_cell s2 0 _ rfl
      have h1 := held_cell s2 1 _ rfl
      have h2 := held_cell s2 2 _ rfl
      have h3 := held_cell s2 3 _ rfl
      have h4 := held_cell s2 4 _ rfl
      go_wp2_with fail
      refine bodyPost_ret (v := ofV E M Y (R / 360000) (R / 6000 % 60) (R / 100 % 60) (R % 100)) (by simp [results, ofV, Try.results22, go_sem, g0, g1, g2, g3, h0, h1, h2, h3, h4]) rfl ⟨ret_val (by rw [← hEE.out, k1.out, k2.out, k3.out, k4.out]), hB2.out⟩
    · replace e4 := hid e4
      go_wp2_with fail
      refine (kk.out _).mono ?_
      rintro e V ⟨rfl, rfl⟩
      go_wp2_with fail
      refine (kk.out _).mono ?_
      rintro e V ⟨rfl, rfl⟩
      obtain ⟨A2, hA2, r2, o2⟩ := set1 rp 2 (.int .i64 13)
      have z0 := held_cell r2 0 _ rfl
      have z1 := held_cell r2 1 _ rfl
      have z2 := held_cell r2 2 _ rfl
      have z3 := held_cell r2 3 _ rfl
      have zf0 := held_free r2 0
      have zf1 := held_free r2 1
      have zf2 := held_free r2 2
      have zf3 := held_free r2 3
      obtain ⟨A3, hA3, r3, o3⟩ := set1 r2 2 (.int .i64 1)
      have s0 := held_cell r3 0 _ rfl
      have s1 := held_cell r3 1 _ rfl
      have s2 := held_cell r3 2 _ rfl
      have s3 := held_cell r3 3 _ rfl
      have sf0 := held_free r3 0
      have sf1 := held_free r3 1
      have sf2 := held_free r3 2
      have sf3 := held_free r3 3
      obtain ⟨A4, hA4, r4, o4⟩ := set1 r3 3 (.int .i64 (Y + 1))
      have t0 := held_cell r4 0 _ rfl
      have t1 := held_cell r4 1 _ rfl
      have t2 := held_cell r4 2 _ rfl
      have t3 := held_cell r4 3 _ rfl
      have tf0 := held_free r4 0
      have tf1 := held_free r4 1
      have tf2 := held_free r4 2
      have tf3 := held_free r4 3
      have oo := (o2.then o3).then o4
      have ra2 := heldC oo dAP.out ra
      have rb2 := heldC oo dBP.out rb
      replace hB := belowC hB oo nP
      clear oo o2 o3 o4
      go_wp2_with fail
      go_roundw
      case rel =>
        refine ⟨1, Y + 1, by omega, by omega, by omega, by omega, by omega, ?_, ra2, rb2, r4, hB⟩
        have := e4.out
        rw [show E - 1 - L = Q - cumM (Y + 1) 1 from by omega]
      case measure => simp [intOf]; omega
    · replace e5 := hid e5
      go_wp2_with fail
      refine (kk.out _).mono ?_
      rintro e V ⟨rfl, rfl⟩
      go_wp2_with fail
      refine (kk.out _).mono ?_
      rintro e V ⟨rfl, rfl⟩
      obtain ⟨A2, hA2, r2, o2⟩ := set1 rp 2 (.int .i64 (M + 1))
      have z0 := held_cell r2 0 _ rfl
      have z1 := held_cell r2 1 _ rfl
      have z2 := held_cell r2 2 _ rfl
      have z3 := held_cell r2 3 _ rfl
      have zf0 := held_free r2 0
      have zf1 := held_free r2 1
      have zf2 := held_free r2 2
      have zf3 := held_free r2 3
      have oo := o2
      have ra2 := heldC oo dAP.out ra
      have rb2 := heldC oo dBP.out rb
      replace hB := belowC hB oo nP
      clear oo o2
      go_wp2_with fail
      go_roundw
      case rel =>
        refine ⟨M + 1, Y, by omega, by omega, by omega, by omega, e4, ?_, ra2, rb2, r2, hB⟩
        have := e5.out
        rw [show E - 1 - L = Q - cumM Y (M + 1) from by omega]
      case measure => simp [intOf]; omega

end Go.Proofs.Ytcodglhepkdjeaa
