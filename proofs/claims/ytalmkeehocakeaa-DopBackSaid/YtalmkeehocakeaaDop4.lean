/- Package dop: Take. -/
import Derived.Test.YtalmkeehocakeaaDop3
import Derived.Test.YtalmkeehocakeaaKB
import Derived.Deep.DeepCutAuto
namespace Go.Proofs.Ytalmkeehocakeaa
open Go.ChangeShapes Go.WideShapes Go.ChangeAt Go.RowKit
set_option linter.unusedVariables false
set_option linter.unusedSimpArgs false

/-- The message of a take. -/
def dopV (P : List Int) : Value := .agg #[.int .i64 (P.getD 0 0), .int .i64 (P.getD 1 0), .int .i64 (P.getD 2 0), .int .i64 (P.getD 3 0), .int .i64 (P.getD 4 0), .int .i64 (P.getD 5 0), .int .i64 (P.getD 6 0), .int .i64 (P.getD 7 0)]
theorem list8 {P : List Int} (h : P.length = 8) : ∃ x0 x1 x2 x3 x4 x5 x6 x7, P = [x0, x1, x2, x3, x4, x5, x6, x7] := by
  match P, h with
  | [a, b, c, d, e, f, g, k], _ => exact ⟨a, b, c, d, e, f, g, k, rfl⟩
def DtOk (w : World) (r : List Int × Int) (e : Ending) (w' : World) : Prop := e = .returned (.tuple #[dopV r.1, .int .i64 r.2]) ∧ After w w'
set_option maxRecDepth 100000 in
set_option maxHeartbeats 4000000 in
theorem takeD_any (ba : Option Addr) (bl bc : Nat) (zs : List Int) (w : World) (hS : Sl .u8 w ba bl bc zs) (hz : ∀ x ∈ zs, (Lit.int .u8 x).wf = true) (hbl : bl ≤ 100000) : Calls Try.prog 9 #[.slice ba bl bc] w (DtOk w (takL DL zs)) := by
  obtain ⟨⟨P, er⟩, hr⟩ : ∃ r, takL DL zs = r := ⟨_, rfl⟩
  rw [hr]
  have hP0 := hid (fun h => stak_bad hr h)
  have hP8 := hid (fun h : er = 0 => (tak_spec (h ▸ hr)).2.2.2)
  replace hr := hid hr
  replace hz := hid hz
  replace hS := hid hS
  go_enter Try.func9, Try.ntmps9
  go_upto_region 0 with (fail)
  apply wp_region_seg0 (w := w) (S := [.al 1000, .q []]) (E := [.al ((fun p => .pointer (some ⟨p, 0, none⟩)), _) 1000, .q0 _]) rfl (by kernel_rfl) rfl rfl
  intro th hge hne
  refine Seg.step _ rfl ⟨by rfl, fun U hU => ?_⟩ ?_
  · go_simp; exact vp_alloc rfl rfl rfl
  refine ⟨_, by (simp only [Ent.val]; go_simp <;> exact rfl), ?_⟩
  refine Seg.step _ rfl (Or.inl ⟨by rfl, fun U hU => vp_quiet (by (go_simp <;> exact rfl))⟩) ⟨_, by (simp only [Ent.val]; go_simp <;> exact rfl), ?_⟩
  refine Seg.stop (fun U1 hU hk => ?_)
  have nb0 := hge 0 _ _ rfl
  have rb0 := (hk 0 _ _ rfl trivial).1.2 (by simp)
  clear hk hge hne
  generalize th (0 + 0) = p0_0 at *
  dsimp only at rb0
  have r_p0_0 := rb0
  clear rb0
  have n_p0_0 := nb0
  clear nb0
  have sz1 := hU.size
  have hB : Below w.heap.size w U1 := hU
  clear hU
  have nP : w.heap.size ≤ p0_0 := n_p0_0
  have hBs := hB.size
  go_wp2_with fail
  refine (fieldsD_any _).mono ?_
  rintro e V1 ⟨fa, fc, rfl, hF, hA1⟩
  have hB1 := bthen hB hA1
  have rP := held_after hA1 r_p0_0
  clear hB hA1 r_p0_0
  replace hF := hid hF
  replace hB1 := hid hB1
  replace rP := hid rP
  go_wp2_with fail
  refine (stake_any fa 8 fc (fN DL) (fS DL) (fL DL) (fH DL) ba bl bc zs _ hF.out (hS.out.below hB1.out) hz.out (by omega) hbl).mono ?_
  rintro e V2 ⟨ra, rc, rfl, hO, hA2⟩
  have hB := bthen hB1.out hA2
  have rP2 := held_after hA2 rP.out
  change Own _ _ _ _ (.slice ra (takL DL zs).1.length rc) (takL DL zs).1 at hO
  have e1 : (takF (fN DL) (fS DL) (fL DL) (fH DL) 8 zs) = (P, er) := hr.out
  rw [hr.out] at hO
  rw [e1]
  dsimp only at hO
  clear e1 hA2 hB1 rP hF
  replace hO := hid hO
  by_cases he : er = 0
  case neg =>
    obtain rfl : P = [] := hP0.out he
    clear hP0 hP8
    go_upto_region 3 with (fail)
    have z0 := held_cell rP2 0 _ rfl
    have z1 := held_cell rP2 1 _ rfl
    have z2 := held_cell rP2 2 _ rfl
    have z3 := held_cell rP2 3 _ rfl
    have z4 := held_cell rP2 4 _ rfl
    have z5 := held_cell rP2 5 _ rfl
    have z6 := held_cell rP2 6 _ rfl
    have z7 := held_cell rP2 7 _ rfl
    have g0 := held_free rP2 0
    have g1 := held_free rP2 1
    have g2 := held_free rP2 2
    have g3 := held_free rP2 3
    have g4 := held_free rP2 4
    have g5 := held_free rP2 5
    have g6 := held_free rP2 6
    have g7 := held_free rP2 7
    obtain ⟨W9, hW9, ya, yO⟩ := st8 rP2 (.int .i64 0) (.int .i64 0) (.int .i64 0) (.int .i64 0) (.int .i64 0) (.int .i64 0) (.int .i64 0) (.int .i64 0)
    replace hB := belowS hB yO nP
    have ez0 := held_cell ya 0 _ rfl
    have ez1 := held_cell ya 1 _ rfl
    have ez2 := held_cell ya 2 _ rfl
    have ez3 := held_cell ya 3 _ rfl
    have ez4 := held_cell ya 4 _ rfl
    have ez5 := held_cell ya 5 _ rfl
    have ez6 := held_cell ya 6 _ rfl
    have ez7 := held_cell ya 7 _ rfl
    clear yO ya
    replace hB := hid hB
    go_wp2_with fail
    refine bodyPost_ret (v := .tuple #[.agg #[.int .i64 0, .int .i64 0, .int .i64 0, .int .i64 0, .int .i64 0, .int .i64 0, .int .i64 0, .int .i64 0], .int .i64 er]) (by simp [results, Try.results9, go_sem, ez0, ez1, ez2, ez3, ez4, ez5, ez6, ez7]) rfl ⟨rfl, hB.out⟩
  subst he
  have hPl : P.length = 8 := by rw [hP8.out rfl]; simp [DL, DLk]
  obtain ⟨x0, x1, x2, x3, x4, x5, x6, x7, rfl⟩ := list8 hPl
  have hR := hid hO.out.slf.2.2.2.2
  obtain ⟨qb, qo, rfl, v0⟩ := hR.out 0 (by simp)
  have v1 : V2.cell? ⟨qb, qo + 1, none⟩ = some (.int .i64 x1) := by obtain ⟨b9, o9, e9, v9⟩ := hR.out 1 (by simp); cases e9; exact v9
  have v2 : V2.cell? ⟨qb, qo + 2, none⟩ = some (.int .i64 x2) := by obtain ⟨b9, o9, e9, v9⟩ := hR.out 2 (by simp); cases e9; exact v9
  have v3 : V2.cell? ⟨qb, qo + 3, none⟩ = some (.int .i64 x3) := by obtain ⟨b9, o9, e9, v9⟩ := hR.out 3 (by simp); cases e9; exact v9
  have v4 : V2.cell? ⟨qb, qo + 4, none⟩ = some (.int .i64 x4) := by obtain ⟨b9, o9, e9, v9⟩ := hR.out 4 (by simp); cases e9; exact v9
  have v5 : V2.cell? ⟨qb, qo + 5, none⟩ = some (.int .i64 x5) := by obtain ⟨b9, o9, e9, v9⟩ := hR.out 5 (by simp); cases e9; exact v9
  have v6 : V2.cell? ⟨qb, qo + 6, none⟩ = some (.int .i64 x6) := by obtain ⟨b9, o9, e9, v9⟩ := hR.out 6 (by simp); cases e9; exact v9
  have v7 : V2.cell? ⟨qb, qo + 7, none⟩ = some (.int .i64 x7) := by obtain ⟨b9, o9, e9, v9⟩ := hR.out 7 (by simp); cases e9; exact v9
  replace v0 : V2.cell? ⟨qb, qo + 0, none⟩ = some (.int .i64 x0) := v0
  rw [Nat.add_zero] at v0
  clear hP0 hP8 hPl hR
  replace hB := hid hB
  go_upto_region 4 with (fail)
  obtain ⟨QQ, hQQ⟩ : ∃ QQ, V2.drew = QQ := ⟨_, rfl⟩
  have rq := (show V2.drew.heap[p0_0]? = _ from rP2)
  rw [hQQ] at rq
  have hBq := hB.out.drew
  rw [hQQ] at hBq
  clear hB
  have vq0 := (show V2.drew.cell? _ = _ from v0)
  rw [hQQ] at vq0
  have vq1 := (show V2.drew.cell? _ = _ from v1)
  rw [hQQ] at vq1
  have vq2 := (show V2.drew.cell? _ = _ from v2)
  rw [hQQ] at vq2
  have vq3 := (show V2.drew.cell? _ = _ from v3)
  rw [hQQ] at vq3
  have vq4 := (show V2.drew.cell? _ = _ from v4)
  rw [hQQ] at vq4
  have vq5 := (show V2.drew.cell? _ = _ from v5)
  rw [hQQ] at vq5
  have vq6 := (show V2.drew.cell? _ = _ from v6)
  rw [hQQ] at vq6
  have vq7 := (show V2.drew.cell? _ = _ from v7)
  rw [hQQ] at vq7
  have hne : some qb ≠ some p0_0 := fun e => by have e2 := Option.some.inj e; subst e2; rcases hO.out.2 with ⟨h1, h2⟩ | ⟨g9, c9, cur, h1, h2, h3, _⟩ <;> cases h1; rw [rP2] at h3; cases h3
  refine wp_region_T (some p0_0) 26 (by kernel_rfl) ?_
  refine wpAnyT_take 0 rfl (by kernel_rfl) (by kernel_rfl) (by kernel_rfl) (by kernel_rfl) (fun _ _ _ _ h => h) ⟨_, Or.inl ⟨by rfl, fun w2 hb2 => by (go_simp; try with_reducible rfl)⟩, _, by (go_simp; try rfl), ?_⟩
  refine wpAnyT_take 1 rfl (by kernel_rfl) (by kernel_rfl) (by kernel_rfl) (by kernel_rfl) (fun _ _ _ _ h => h) ⟨_, Or.inl ⟨by rfl, fun w2 hb2 => by (go_simp; try with_reducible rfl)⟩, _, by (go_simp; try rfl), ?_⟩
  refine wpAnyT_take 2 rfl (by kernel_rfl) (by kernel_rfl) (by kernel_rfl) (by kernel_rfl) (fun _ _ _ _ h => h) ⟨_, Or.inl ⟨by rfl, fun w2 hb2 => by (have hx := hb2.cell (show V2.drew.cell? _ = _ from (by rw [hQQ]; exact vq0)) hne; go_simp; try with_reducible rfl)⟩, _, by (go_simp; try rfl), ?_⟩
  refine wpAnyT_take 3 rfl (by kernel_rfl) (by kernel_rfl) (by kernel_rfl) (by kernel_rfl) (fun _ _ _ _ h => h) ⟨_, Or.inl ⟨by rfl, fun w2 hb2 => by (go_simp; try with_reducible rfl)⟩, _, by (go_simp; try rfl), ?_⟩
  refine wpAnyT_take 4 rfl (by kernel_rfl) (by kernel_rfl) (by kernel_rfl) (by kernel_rfl) (fun _ _ _ _ h => h) ⟨_, Or.inl ⟨by rfl, fun w2 hb2 => by (go_simp; try with_reducible rfl)⟩, _, by (go_simp; try rfl), ?_⟩
  refine wpAnyT_take 5 rfl (by kernel_rfl) (by kernel_rfl) (by kernel_rfl) (by kernel_rfl) (fun _ _ _ _ h => h) ⟨_, Or.inl ⟨by rfl, fun w2 hb2 => by (have hx := hb2.cell (show V2.drew.cell? _ = _ from (by rw [hQQ]; exact vq1)) hne; go_simp; try with_reducible rfl)⟩, _, by (go_simp; try rfl), ?_⟩
  refine wpAnyT_take 6 rfl (by kernel_rfl) (by kernel_rfl) (by kernel_rfl) (by kernel_rfl) (fun _ _ _ _ h => h) ⟨_, Or.inl ⟨by rfl, fun w2 hb2 => by (go_simp; try with_reducible rfl)⟩, _, by (go_simp; try rfl), ?_⟩
  refine wpAnyT_take 7 rfl (by kernel_rfl) (by kernel_rfl) (by kernel_rfl) (by kernel_rfl) (fun _ _ _ _ h => h) ⟨_, Or.inl ⟨by rfl, fun w2 hb2 => by (go_simp; try with_reducible rfl)⟩, _, by (go_simp; try rfl), ?_⟩
  refine wpAnyT_take 8 rfl (by kernel_rfl) (by kernel_rfl) (by kernel_rfl) (by kernel_rfl) (fun _ _ _ _ h => h) ⟨_, Or.inl ⟨by rfl, fun w2 hb2 => by (have hx := hb2.cell (show V2.drew.cell? _ = _ from (by rw [hQQ]; exact vq2)) hne; go_simp; try with_reducible rfl)⟩, _, by (go_simp; try rfl), ?_⟩
  refine wpAnyT_take 9 rfl (by kernel_rfl) (by kernel_rfl) (by kernel_rfl) (by kernel_rfl) (fun _ _ _ _ h => h) ⟨_, Or.inl ⟨by rfl, fun w2 hb2 => by (go_simp; try with_reducible rfl)⟩, _, by (go_simp; try rfl), ?_⟩
  refine wpAnyT_take 10 rfl (by kernel_rfl) (by kernel_rfl) (by kernel_rfl) (by kernel_rfl) (fun _ _ _ _ h => h) ⟨_, Or.inl ⟨by rfl, fun w2 hb2 => by (go_simp; try with_reducible rfl)⟩, _, by (go_simp; try rfl), ?_⟩
  refine wpAnyT_take 11 rfl (by kernel_rfl) (by kernel_rfl) (by kernel_rfl) (by kernel_rfl) (fun _ _ _ _ h => h) ⟨_, Or.inl ⟨by rfl, fun w2 hb2 => by (have hx := hb2.cell (show V2.drew.cell? _ = _ from (by rw [hQQ]; exact vq3)) hne; go_simp; try with_reducible rfl)⟩, _, by (go_simp; try rfl), ?_⟩
  refine wpAnyT_take 12 rfl (by kernel_rfl) (by kernel_rfl) (by kernel_rfl) (by kernel_rfl) (fun _ _ _ _ h => h) ⟨_, Or.inl ⟨by rfl, fun w2 hb2 => by (go_simp; try with_reducible rfl)⟩, _, by (go_simp; try rfl), ?_⟩
  refine wpAnyT_take 13 rfl (by kernel_rfl) (by kernel_rfl) (by kernel_rfl) (by kernel_rfl) (fun _ _ _ _ h => h) ⟨_, Or.inl ⟨by rfl, fun w2 hb2 => by (go_simp; try with_reducible rfl)⟩, _, by (go_simp; try rfl), ?_⟩
  refine wpAnyT_take 14 rfl (by kernel_rfl) (by kernel_rfl) (by kernel_rfl) (by kernel_rfl) (fun _ _ _ _ h => h) ⟨_, Or.inl ⟨by rfl, fun w2 hb2 => by (have hx := hb2.cell (show V2.drew.cell? _ = _ from (by rw [hQQ]; exact vq4)) hne; go_simp; try with_reducible rfl)⟩, _, by (go_simp; try rfl), ?_⟩
  refine wpAnyT_take 15 rfl (by kernel_rfl) (by kernel_rfl) (by kernel_rfl) (by kernel_rfl) (fun _ _ _ _ h => h) ⟨_, Or.inl ⟨by rfl, fun w2 hb2 => by (go_simp; try with_reducible rfl)⟩, _, by (go_simp; try rfl), ?_⟩
  refine wpAnyT_take 16 rfl (by kernel_rfl) (by kernel_rfl) (by kernel_rfl) (by kernel_rfl) (fun _ _ _ _ h => h) ⟨_, Or.inl ⟨by rfl, fun w2 hb2 => by (go_simp; try with_reducible rfl)⟩, _, by (go_simp; try rfl), ?_⟩
  refine wpAnyT_take 17 rfl (by kernel_rfl) (by kernel_rfl) (by kernel_rfl) (by kernel_rfl) (fun _ _ _ _ h => h) ⟨_, Or.inl ⟨by rfl, fun w2 hb2 => by (have hx := hb2.cell (show V2.drew.cell? _ = _ from (by rw [hQQ]; exact vq5)) hne; go_simp; try with_reducible rfl)⟩, _, by (go_simp; try rfl), ?_⟩
  refine wpAnyT_take 18 rfl (by kernel_rfl) (by kernel_rfl) (by kernel_rfl) (by kernel_rfl) (fun _ _ _ _ h => h) ⟨_, Or.inl ⟨by rfl, fun w2 hb2 => by (go_simp; try with_reducible rfl)⟩, _, by (go_simp; try rfl), ?_⟩
  refine wpAnyT_take 19 rfl (by kernel_rfl) (by kernel_rfl) (by kernel_rfl) (by kernel_rfl) (fun _ _ _ _ h => h) ⟨_, Or.inl ⟨by rfl, fun w2 hb2 => by (go_simp; try with_reducible rfl)⟩, _, by (go_simp; try rfl), ?_⟩
  refine wpAnyT_take 20 rfl (by kernel_rfl) (by kernel_rfl) (by kernel_rfl) (by kernel_rfl) (fun _ _ _ _ h => h) ⟨_, Or.inl ⟨by rfl, fun w2 hb2 => by (have hx := hb2.cell (show V2.drew.cell? _ = _ from (by rw [hQQ]; exact vq6)) hne; go_simp; try with_reducible rfl)⟩, _, by (go_simp; try rfl), ?_⟩
  refine wpAnyT_take 21 rfl (by kernel_rfl) (by kernel_rfl) (by kernel_rfl) (by kernel_rfl) (fun _ _ _ _ h => h) ⟨_, Or.inl ⟨by rfl, fun w2 hb2 => by (go_simp; try with_reducible rfl)⟩, _, by (go_simp; try rfl), ?_⟩
  refine wpAnyT_take 22 rfl (by kernel_rfl) (by kernel_rfl) (by kernel_rfl) (by kernel_rfl) (fun _ _ _ _ h => h) ⟨_, Or.inl ⟨by rfl, fun w2 hb2 => by (go_simp; try with_reducible rfl)⟩, _, by (go_simp; try rfl), ?_⟩
  refine wpAnyT_take 23 rfl (by kernel_rfl) (by kernel_rfl) (by kernel_rfl) (by kernel_rfl) (fun _ _ _ _ h => h) ⟨_, Or.inl ⟨by rfl, fun w2 hb2 => by (have hx := hb2.cell (show V2.drew.cell? _ = _ from (by rw [hQQ]; exact vq7)) hne; go_simp; try with_reducible rfl)⟩, _, by (go_simp; try rfl), ?_⟩
  refine wpAnyT_take 24 rfl (by kernel_rfl) (by kernel_rfl) (by kernel_rfl) (by kernel_rfl) (fun _ _ _ _ h => h) ⟨_, Or.inl ⟨by rfl, fun w2 hb2 => by (go_simp; try with_reducible rfl)⟩, _, by (go_simp; try rfl), ?_⟩
  refine wpAnyT_only 25 rfl (by kernel_rfl) (by rfl) (fun K hK => ?_)
  have z0 := held_cell rq 0 _ rfl
  have z1 := held_cell rq 1 _ rfl
  have z2 := held_cell rq 2 _ rfl
  have z3 := held_cell rq 3 _ rfl
  have z4 := held_cell rq 4 _ rfl
  have z5 := held_cell rq 5 _ rfl
  have z6 := held_cell rq 6 _ rfl
  have z7 := held_cell rq 7 _ rfl
  have g0 := held_free rq 0
  have g1 := held_free rq 1
  have g2 := held_free rq 2
  have g3 := held_free rq 3
  have g4 := held_free rq 4
  have g5 := held_free rq 5
  have g6 := held_free rq 6
  have g7 := held_free rq 7
  obtain ⟨W9, hW9, ya, yO⟩ := st8 rq (.int .i64 x0) (.int .i64 x1) (.int .i64 x2) (.int .i64 x3) (.int .i64 x4) (.int .i64 x5) (.int .i64 x6) (.int .i64 x7)
  have hB9 := hid (belowS hBq yO nP)
  have ez0 := held_cell ya 0 _ rfl
  have ez1 := held_cell ya 1 _ rfl
  have ez2 := held_cell ya 2 _ rfl
  have ez3 := held_cell ya 3 _ rfl
  have ez4 := held_cell ya 4 _ rfl
  have ez5 := held_cell ya 5 _ rfl
  have ez6 := held_cell ya 6 _ rfl
  have ez7 := held_cell ya 7 _ rfl
  go_simp
  refine hK _ _ ⟨fun _ => (by rw [hQQ]; exact ⟨Nat.le_of_eq yO.size.symm, fun k _ hk => yO.block k (fun e => hk (by rw [e]))⟩), ?_⟩
  clear hK
  refine wpAnyT_only 26 rfl (by kernel_rfl) (by rfl) (fun K hK => ?_)
  go_simp
  refine hK _ _ ⟨fun h => (h rfl).elim, ?_⟩
  clear hK
  refine wpAnyT_done (by kernel_rfl) ?_ _
  clear yO ya
  go_wp2_with fail
  refine bodyPost_ret (v := .tuple #[.agg #[.int .i64 x0, .int .i64 x1, .int .i64 x2, .int .i64 x3, .int .i64 x4, .int .i64 x5, .int .i64 x6, .int .i64 x7], .int .i64 0]) (by simp [results, Try.results9, go_sem, ez0, ez1, ez2, ez3, ez4, ez5, ez6, ez7]) rfl ⟨rfl, hB9.out⟩
set_option maxRecDepth 100000 in
set_option maxHeartbeats 4000000 in
theorem rtakeD_any (ba : Option Addr) (bl bc : Nat) (zs : List Int) (w : World) (hS : Sl .u8 w ba bl bc zs) (hz : ∀ x ∈ zs, (Lit.int .u8 x).wf = true) (hbl : bl ≤ 100000) : Calls Try.prog 10 #[.slice ba bl bc] w (DtOk w (takL DL zs)) := by
  obtain ⟨⟨P, er⟩, hr⟩ : ∃ r, takL DL zs = r := ⟨_, rfl⟩
  rw [hr]
  have hP0 := hid (fun h => stak_bad hr h)
  have hP8 := hid (fun h : er = 0 => (tak_spec (h ▸ hr)).2.2.2)
  replace hr := hid hr
  replace hz := hid hz
  replace hS := hid hS
  go_enter Try.func10, Try.ntmps10
  go_upto_region 0 with (fail)
  apply wp_region_seg0 (w := w) (S := [.al 1000, .q []]) (E := [.al ((fun p => .pointer (some ⟨p, 0, none⟩)), _) 1000, .q0 _]) rfl (by kernel_rfl) rfl rfl
  intro th hge hne
  refine Seg.step _ rfl ⟨by rfl, fun U hU => ?_⟩ ?_
  · go_simp; exact vp_alloc rfl rfl rfl
  refine ⟨_, by (simp only [Ent.val]; go_simp <;> exact rfl), ?_⟩
  refine Seg.step _ rfl (Or.inl ⟨by rfl, fun U hU => vp_quiet (by (go_simp <;> exact rfl))⟩) ⟨_, by (simp only [Ent.val]; go_simp <;> exact rfl), ?_⟩
  refine Seg.stop (fun U1 hU hk => ?_)
  have nb0 := hge 0 _ _ rfl
  have rb0 := (hk 0 _ _ rfl trivial).1.2 (by simp)
  clear hk hge hne
  generalize th (0 + 0) = p0_0 at *
  dsimp only at rb0
  have r_p0_0 := rb0
  clear rb0
  have n_p0_0 := nb0
  clear nb0
  have sz1 := hU.size
  have hB : Below w.heap.size w U1 := hU
  clear hU
  have nP : w.heap.size ≤ p0_0 := n_p0_0
  have hBs := hB.size
  go_wp2_with fail
  refine (rfieldsD_any _).mono ?_
  rintro e V1 ⟨fa, fc, rfl, hF, hA1⟩
  have hB1 := bthen hB hA1
  have rP := held_after hA1 r_p0_0
  clear hB hA1 r_p0_0
  replace hF := hid hF
  replace hB1 := hid hB1
  replace rP := hid rP
  go_wp2_with fail
  refine (rstake_any fa 8 fc (fN DL) (fS DL) (fL DL) (fH DL) ba bl bc zs _ hF.out (hS.out.below hB1.out) hz.out (by omega) hbl).mono ?_
  rintro e V2 ⟨ra, rc, rfl, hO, hA2⟩
  have hB := bthen hB1.out hA2
  have rP2 := held_after hA2 rP.out
  change Own _ _ _ _ (.slice ra (takL DL zs).1.length rc) (takL DL zs).1 at hO
  have e1 : (takF (fN DL) (fS DL) (fL DL) (fH DL) 8 zs) = (P, er) := hr.out
  rw [hr.out] at hO
  rw [e1]
  dsimp only at hO
  clear e1 hA2 hB1 rP hF
  replace hO := hid hO
  by_cases he : er = 0
  case neg =>
    obtain rfl : P = [] := hP0.out he
    clear hP0 hP8
    go_upto_region 3 with (fail)
    have z0 := held_cell rP2 0 _ rfl
    have z1 := held_cell rP2 1 _ rfl
    have z2 := held_cell rP2 2 _ rfl
    have z3 := held_cell rP2 3 _ rfl
    have z4 := held_cell rP2 4 _ rfl
    have z5 := held_cell rP2 5 _ rfl
    have z6 := held_cell rP2 6 _ rfl
    have z7 := held_cell rP2 7 _ rfl
    have g0 := held_free rP2 0
    have g1 := held_free rP2 1
    have g2 := held_free rP2 2
    have g3 := held_free rP2 3
    have g4 := held_free rP2 4
    have g5 := held_free rP2 5
    have g6 := held_free rP2 6
    have g7 := held_free rP2 7
    obtain ⟨W9, hW9, ya, yO⟩ := st8 rP2 (.int .i64 0) (.int .i64 0) (.int .i64 0) (.int .i64 0) (.int .i64 0) (.int .i64 0) (.int .i64 0) (.int .i64 0)
    replace hB := belowS hB yO nP
    have ez0 := held_cell ya 0 _ rfl
    have ez1 := held_cell ya 1 _ rfl
    have ez2 := held_cell ya 2 _ rfl
    have ez3 := held_cell ya 3 _ rfl
    have ez4 := held_cell ya 4 _ rfl
    have ez5 := held_cell ya 5 _ rfl
    have ez6 := held_cell ya 6 _ rfl
    have ez7 := held_cell ya 7 _ rfl
    clear yO ya
    replace hB := hid hB
    go_wp2_with fail
    refine bodyPost_ret (v := .tuple #[.agg #[.int .i64 0, .int .i64 0, .int .i64 0, .int .i64 0, .int .i64 0, .int .i64 0, .int .i64 0, .int .i64 0], .int .i64 er]) (by simp [results, Try.results10, go_sem, ez0, ez1, ez2, ez3, ez4, ez5, ez6, ez7]) rfl ⟨rfl, hB.out⟩
  subst he
  have hPl : P.length = 8 := by rw [hP8.out rfl]; simp [DL, DLk]
  obtain ⟨x0, x1, x2, x3, x4, x5, x6, x7, rfl⟩ := list8 hPl
  have hR := hid hO.out.slf.2.2.2.2
  obtain ⟨qb, qo, rfl, v0⟩ := hR.out 0 (by simp)
  have v1 : V2.cell? ⟨qb, qo + 1, none⟩ = some (.int .i64 x1) := by obtain ⟨b9, o9, e9, v9⟩ := hR.out 1 (by simp); cases e9; exact v9
  have v2 : V2.cell? ⟨qb, qo + 2, none⟩ = some (.int .i64 x2) := by obtain ⟨b9, o9, e9, v9⟩ := hR.out 2 (by simp); cases e9; exact v9
  have v3 : V2.cell? ⟨qb, qo + 3, none⟩ = some (.int .i64 x3) := by obtain ⟨b9, o9, e9, v9⟩ := hR.out 3 (by simp); cases e9; exact v9
  have v4 : V2.cell? ⟨qb, qo + 4, none⟩ = some (.int .i64 x4) := by obtain ⟨b9, o9, e9, v9⟩ := hR.out 4 (by simp); cases e9; exact v9
  have v5 : V2.cell? ⟨qb, qo + 5, none⟩ = some (.int .i64 x5) := by obtain ⟨b9, o9, e9, v9⟩ := hR.out 5 (by simp); cases e9; exact v9
  have v6 : V2.cell? ⟨qb, qo + 6, none⟩ = some (.int .i64 x6) := by obtain ⟨b9, o9, e9, v9⟩ := hR.out 6 (by simp); cases e9; exact v9
  have v7 : V2.cell? ⟨qb, qo + 7, none⟩ = some (.int .i64 x7) := by obtain ⟨b9, o9, e9, v9⟩ := hR.out 7 (by simp); cases e9; exact v9
  replace v0 : V2.cell? ⟨qb, qo + 0, none⟩ = some (.int .i64 x0) := v0
  rw [Nat.add_zero] at v0
  clear hP0 hP8 hPl hR
  replace hB := hid hB
  go_upto_region 4 with (fail)
  obtain ⟨QQ, hQQ⟩ : ∃ QQ, V2.drew = QQ := ⟨_, rfl⟩
  have rq := (show V2.drew.heap[p0_0]? = _ from rP2)
  rw [hQQ] at rq
  have hBq := hB.out.drew
  rw [hQQ] at hBq
  clear hB
  have vq0 := (show V2.drew.cell? _ = _ from v0)
  rw [hQQ] at vq0
  have vq1 := (show V2.drew.cell? _ = _ from v1)
  rw [hQQ] at vq1
  have vq2 := (show V2.drew.cell? _ = _ from v2)
  rw [hQQ] at vq2
  have vq3 := (show V2.drew.cell? _ = _ from v3)
  rw [hQQ] at vq3
  have vq4 := (show V2.drew.cell? _ = _ from v4)
  rw [hQQ] at vq4
  have vq5 := (show V2.drew.cell? _ = _ from v5)
  rw [hQQ] at vq5
  have vq6 := (show V2.drew.cell? _ = _ from v6)
  rw [hQQ] at vq6
  have vq7 := (show V2.drew.cell? _ = _ from v7)
  rw [hQQ] at vq7
  have hne : some qb ≠ some p0_0 := fun e => by have e2 := Option.some.inj e; subst e2; rcases hO.out.2 with ⟨h1, h2⟩ | ⟨g9, c9, cur, h1, h2, h3, _⟩ <;> cases h1; rw [rP2] at h3; cases h3
  refine wp_region_T (some p0_0) 26 (by kernel_rfl) ?_
  refine wpAnyT_take 0 rfl (by kernel_rfl) (by kernel_rfl) (by kernel_rfl) (by kernel_rfl) (fun _ _ _ _ h => h) ⟨_, Or.inl ⟨by rfl, fun w2 hb2 => by (go_simp; try with_reducible rfl)⟩, _, by (go_simp; try rfl), ?_⟩
  refine wpAnyT_take 1 rfl (by kernel_rfl) (by kernel_rfl) (by kernel_rfl) (by kernel_rfl) (fun _ _ _ _ h => h) ⟨_, Or.inl ⟨by rfl, fun w2 hb2 => by (go_simp; try with_reducible rfl)⟩, _, by (go_simp; try rfl), ?_⟩
  refine wpAnyT_take 2 rfl (by kernel_rfl) (by kernel_rfl) (by kernel_rfl) (by kernel_rfl) (fun _ _ _ _ h => h) ⟨_, Or.inl ⟨by rfl, fun w2 hb2 => by (have hx := hb2.cell (show V2.drew.cell? _ = _ from (by rw [hQQ]; exact vq0)) hne; go_simp; try with_reducible rfl)⟩, _, by (go_simp; try rfl), ?_⟩
  refine wpAnyT_take 3 rfl (by kernel_rfl) (by kernel_rfl) (by kernel_rfl) (by kernel_rfl) (fun _ _ _ _ h => h) ⟨_, Or.inl ⟨by rfl, fun w2 hb2 => by (go_simp; try with_reducible rfl)⟩, _, by (go_simp; try rfl), ?_⟩
  refine wpAnyT_take 4 rfl (by kernel_rfl) (by kernel_rfl) (by kernel_rfl) (by kernel_rfl) (fun _ _ _ _ h => h) ⟨_, Or.inl ⟨by rfl, fun w2 hb2 => by (go_simp; try with_reducible rfl)⟩, _, by (go_simp; try rfl), ?_⟩
  refine wpAnyT_take 5 rfl (by kernel_rfl) (by kernel_rfl) (by kernel_rfl) (by kernel_rfl) (fun _ _ _ _ h => h) ⟨_, Or.inl ⟨by rfl, fun w2 hb2 => by (have hx := hb2.cell (show V2.drew.cell? _ = _ from (by rw [hQQ]; exact vq1)) hne; go_simp; try with_reducible rfl)⟩, _, by (go_simp; try rfl), ?_⟩
  refine wpAnyT_take 6 rfl (by kernel_rfl) (by kernel_rfl) (by kernel_rfl) (by kernel_rfl) (fun _ _ _ _ h => h) ⟨_, Or.inl ⟨by rfl, fun w2 hb2 => by (go_simp; try with_reducible rfl)⟩, _, by (go_simp; try rfl), ?_⟩
  refine wpAnyT_take 7 rfl (by kernel_rfl) (by kernel_rfl) (by kernel_rfl) (by kernel_rfl) (fun _ _ _ _ h => h) ⟨_, Or.inl ⟨by rfl, fun w2 hb2 => by (go_simp; try with_reducible rfl)⟩, _, by (go_simp; try rfl), ?_⟩
  refine wpAnyT_take 8 rfl (by kernel_rfl) (by kernel_rfl) (by kernel_rfl) (by kernel_rfl) (fun _ _ _ _ h => h) ⟨_, Or.inl ⟨by rfl, fun w2 hb2 => by (have hx := hb2.cell (show V2.drew.cell? _ = _ from (by rw [hQQ]; exact vq2)) hne; go_simp; try with_reducible rfl)⟩, _, by (go_simp; try rfl), ?_⟩
  refine wpAnyT_take 9 rfl (by kernel_rfl) (by kernel_rfl) (by kernel_rfl) (by kernel_rfl) (fun _ _ _ _ h => h) ⟨_, Or.inl ⟨by rfl, fun w2 hb2 => by (go_simp; try with_reducible rfl)⟩, _, by (go_simp; try rfl), ?_⟩
  refine wpAnyT_take 10 rfl (by kernel_rfl) (by kernel_rfl) (by kernel_rfl) (by kernel_rfl) (fun _ _ _ _ h => h) ⟨_, Or.inl ⟨by rfl, fun w2 hb2 => by (go_simp; try with_reducible rfl)⟩, _, by (go_simp; try rfl), ?_⟩
  refine wpAnyT_take 11 rfl (by kernel_rfl) (by kernel_rfl) (by kernel_rfl) (by kernel_rfl) (fun _ _ _ _ h => h) ⟨_, Or.inl ⟨by rfl, fun w2 hb2 => by (have hx := hb2.cell (show V2.drew.cell? _ = _ from (by rw [hQQ]; exact vq3)) hne; go_simp; try with_reducible rfl)⟩, _, by (go_simp; try rfl), ?_⟩
  refine wpAnyT_take 12 rfl (by kernel_rfl) (by kernel_rfl) (by kernel_rfl) (by kernel_rfl) (fun _ _ _ _ h => h) ⟨_, Or.inl ⟨by rfl, fun w2 hb2 => by (go_simp; try with_reducible rfl)⟩, _, by (go_simp; try rfl), ?_⟩
  refine wpAnyT_take 13 rfl (by kernel_rfl) (by kernel_rfl) (by kernel_rfl) (by kernel_rfl) (fun _ _ _ _ h => h) ⟨_, Or.inl ⟨by rfl, fun w2 hb2 => by (go_simp; try with_reducible rfl)⟩, _, by (go_simp; try rfl), ?_⟩
  refine wpAnyT_take 14 rfl (by kernel_rfl) (by kernel_rfl) (by kernel_rfl) (by kernel_rfl) (fun _ _ _ _ h => h) ⟨_, Or.inl ⟨by rfl, fun w2 hb2 => by (have hx := hb2.cell (show V2.drew.cell? _ = _ from (by rw [hQQ]; exact vq4)) hne; go_simp; try with_reducible rfl)⟩, _, by (go_simp; try rfl), ?_⟩
  refine wpAnyT_take 15 rfl (by kernel_rfl) (by kernel_rfl) (by kernel_rfl) (by kernel_rfl) (fun _ _ _ _ h => h) ⟨_, Or.inl ⟨by rfl, fun w2 hb2 => by (go_simp; try with_reducible rfl)⟩, _, by (go_simp; try rfl), ?_⟩
  refine wpAnyT_take 16 rfl (by kernel_rfl) (by kernel_rfl) (by kernel_rfl) (by kernel_rfl) (fun _ _ _ _ h => h) ⟨_, Or.inl ⟨by rfl, fun w2 hb2 => by (go_simp; try with_reducible rfl)⟩, _, by (go_simp; try rfl), ?_⟩
  refine wpAnyT_take 17 rfl (by kernel_rfl) (by kernel_rfl) (by kernel_rfl) (by kernel_rfl) (fun _ _ _ _ h => h) ⟨_, Or.inl ⟨by rfl, fun w2 hb2 => by (have hx := hb2.cell (show V2.drew.cell? _ = _ from (by rw [hQQ]; exact vq5)) hne; go_simp; try with_reducible rfl)⟩, _, by (go_simp; try rfl), ?_⟩
  refine wpAnyT_take 18 rfl (by kernel_rfl) (by kernel_rfl) (by kernel_rfl) (by kernel_rfl) (fun _ _ _ _ h => h) ⟨_, Or.inl ⟨by rfl, fun w2 hb2 => by (go_simp; try with_reducible rfl)⟩, _, by (go_simp; try rfl), ?_⟩
  refine wpAnyT_take 19 rfl (by kernel_rfl) (by kernel_rfl) (by kernel_rfl) (by kernel_rfl) (fun _ _ _ _ h => h) ⟨_, Or.inl ⟨by rfl, fun w2 hb2 => by (go_simp; try with_reducible rfl)⟩, _, by (go_simp; try rfl), ?_⟩
  refine wpAnyT_take 20 rfl (by kernel_rfl) (by kernel_rfl) (by kernel_rfl) (by kernel_rfl) (fun _ _ _ _ h => h) ⟨_, Or.inl ⟨by rfl, fun w2 hb2 => by (have hx := hb2.cell (show V2.drew.cell? _ = _ from (by rw [hQQ]; exact vq6)) hne; go_simp; try with_reducible rfl)⟩, _, by (go_simp; try rfl), ?_⟩
  refine wpAnyT_take 21 rfl (by kernel_rfl) (by kernel_rfl) (by kernel_rfl) (by kernel_rfl) (fun _ _ _ _ h => h) ⟨_, Or.inl ⟨by rfl, fun w2 hb2 => by (go_simp; try with_reducible rfl)⟩, _, by (go_simp; try rfl), ?_⟩
  refine wpAnyT_take 22 rfl (by kernel_rfl) (by kernel_rfl) (by kernel_rfl) (by kernel_rfl) (fun _ _ _ _ h => h) ⟨_, Or.inl ⟨by rfl, fun w2 hb2 => by (go_simp; try with_reducible rfl)⟩, _, by (go_simp; try rfl), ?_⟩
  refine wpAnyT_take 23 rfl (by kernel_rfl) (by kernel_rfl) (by kernel_rfl) (by kernel_rfl) (fun _ _ _ _ h => h) ⟨_, Or.inl ⟨by rfl, fun w2 hb2 => by (have hx := hb2.cell (show V2.drew.cell? _ = _ from (by rw [hQQ]; exact vq7)) hne; go_simp; try with_reducible rfl)⟩, _, by (go_simp; try rfl), ?_⟩
  refine wpAnyT_take 24 rfl (by kernel_rfl) (by kernel_rfl) (by kernel_rfl) (by kernel_rfl) (fun _ _ _ _ h => h) ⟨_, Or.inl ⟨by rfl, fun w2 hb2 => by (go_simp; try with_reducible rfl)⟩, _, by (go_simp; try rfl), ?_⟩
  refine wpAnyT_only 25 rfl (by kernel_rfl) (by rfl) (fun K hK => ?_)
  have z0 := held_cell rq 0 _ rfl
  have z1 := held_cell rq 1 _ rfl
  have z2 := held_cell rq 2 _ rfl
  have z3 := held_cell rq 3 _ rfl
  have z4 := held_cell rq 4 _ rfl
  have z5 := held_cell rq 5 _ rfl
  have z6 := held_cell rq 6 _ rfl
  have z7 := held_cell rq 7 _ rfl
  have g0 := held_free rq 0
  have g1 := held_free rq 1
  have g2 := held_free rq 2
  have g3 := held_free rq 3
  have g4 := held_free rq 4
  have g5 := held_free rq 5
  have g6 := held_free rq 6
  have g7 := held_free rq 7
  obtain ⟨W9, hW9, ya, yO⟩ := st8 rq (.int .i64 x0) (.int .i64 x1) (.int .i64 x2) (.int .i64 x3) (.int .i64 x4) (.int .i64 x5) (.int .i64 x6) (.int .i64 x7)
  have hB9 := hid (belowS hBq yO nP)
  have ez0 := held_cell ya 0 _ rfl
  have ez1 := held_cell ya 1 _ rfl
  have ez2 := held_cell ya 2 _ rfl
  have ez3 := held_cell ya 3 _ rfl
  have ez4 := held_cell ya 4 _ rfl
  have ez5 := held_cell ya 5 _ rfl
  have ez6 := held_cell ya 6 _ rfl
  have ez7 := held_cell ya 7 _ rfl
  go_simp
  refine hK _ _ ⟨fun _ => (by rw [hQQ]; exact ⟨Nat.le_of_eq yO.size.symm, fun k _ hk => yO.block k (fun e => hk (by rw [e]))⟩), ?_⟩
  clear hK
  refine wpAnyT_only 26 rfl (by kernel_rfl) (by rfl) (fun K hK => ?_)
  go_simp
  refine hK _ _ ⟨fun h => (h rfl).elim, ?_⟩
  clear hK
  refine wpAnyT_done (by kernel_rfl) ?_ _
  clear yO ya
  go_wp2_with fail
  refine bodyPost_ret (v := .tuple #[.agg #[.int .i64 x0, .int .i64 x1, .int .i64 x2, .int .i64 x3, .int .i64 x4, .int .i64 x5, .int .i64 x6, .int .i64 x7], .int .i64 0]) (by simp [results, Try.results10, go_sem, ez0, ez1, ez2, ez3, ez4, ez5, ez6, ez7]) rfl ⟨rfl, hB9.out⟩

end Go.Proofs.Ytalmkeehocakeaa
