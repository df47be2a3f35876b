/- Several texts in one: Fuse, Fuse2, Fuse3, Fuse4, Fuse5. -/
import Derived.Test.YtpdpcdifnlellaaGreatTurn13
import Derived.Test.YtpdpcdifnlellaaGreatVec9
import Derived.Test.YtpdpcdifnlellaaGreatFZ2
import Derived.Test.YtpdpcdifnlellaaGreatFZ3
import Derived.Deep.DeepCutAuto
import Derived.Laws.EntriesVeiled

/- Package fuse: what is reckoned; product, the part of an error, Error. -/
namespace Go.Proofs.YtpdpcdifnlellaaGreat
open Go.ChangeShapes Go.WideShapes Go.ChangeAt Go.RowKit
set_option maxRecDepth 100000
set_option linter.unusedVariables false
set_option linter.unusedSimpArgs false

/-- A part of an error: two products, one less the other. -/
def crE (a b c d : Int) : Int := roundS (roundS (a * b) 30 - roundS (c * d) 30) 14
def ueS (a b c : Int) : Int × Int × Int := (unitN (unitL a b c) (dbl 33 a b c).1, unitN (unitL a b c) (dbl 33 a b c).2.1, unitN (unitL a b c) (dbl 33 a b c).2.2)
def errIn (a b c : Int) : Prop := 32768 ≤ lengthS [a, b, c] ∧ lengthS [a, b, c] ≤ 98304
instance (a b c : Int) : Decidable (errIn a b c) := by unfold errIn; infer_instance
/-- How far up, as q has it, is turned away from up, as it is felt. -/
def errS (x y z t a b c : Int) : Int × Int × Int × Bool :=
  if errIn a b c then (clampS (crE (ueS a b c).2.1 (clampS (upZ x y z t)) (ueS a b c).2.2 (clampS (upY x y z t))), clampS (crE (ueS a b c).2.2 (clampS (upX x y z t)) (ueS a b c).1 (clampS (upZ x y z t))), clampS (crE (ueS a b c).1 (clampS (upY x y z t)) (ueS a b c).2.1 (clampS (upX x y z t))), true)
  else (0, 0, 0, false)
theorem b32_clamp (n : Int) : B32 (clampS n) := by unfold clampS B32; split <;> (try split) <;> omega
theorem b32_unit (L X : Int) : B32 (unitN L X) := by
  unfold unitN wrap32 B32; omega
theorem b32_0 : B32 0 := by unfold B32; omega
theorem errS_b {x y z t a b c e0 e1 e2 : Int} {ok : Bool} (h : errS x y z t a b c = (e0, e1, e2, ok)) : B32 e0 ∧ B32 e1 ∧ B32 e2 := by
  unfold errS at h
  split at h
  · simp only [Prod.mk.injEq] at h
    obtain ⟨rfl, rfl, rfl, -⟩ := h
    exact ⟨b32_clamp _, b32_clamp _, b32_clamp _⟩
  · simp only [Prod.mk.injEq] at h
    obtain ⟨rfl, rfl, rfl, -⟩ := h
    exact ⟨b32_0, b32_0, b32_0⟩
theorem crE_bd {a b c d : Int} (h1 : B32 a) (h2 : B32 b) (h3 : B32 c) (h4 : B32 d) : (-8589934594 ≤ roundS (a * b) 30 - roundS (c * d) 30 ∧ roundS (a * b) 30 - roundS (c * d) 30 ≤ 8589934594) ∧ -9223372036854775808 ≤ crE a b c d ∧ crE a b c d ≤ 9223372036854775807 := by
  have e1 := rnd30_bd a b h1 h2
  have e2 := rnd30_bd c d h3 h4
  refine ⟨⟨by omega, by omega⟩, ?_⟩
  unfold crE
  exact round_bd _ 14 (by omega) (by omega)
theorem unit_in {a b c : Int} (h : errIn a b c) : unitT a b c = .tuple #[.agg #[.int .i32 (ueS a b c).1, .int .i32 (ueS a b c).2.1, .int .i32 (ueS a b c).2.2], .bool true] := by
  unfold unitT
  rw [if_neg]
  · rfl
  · rintro ⟨rfl, rfl, rfl⟩
    have : lengthS [0, 0, 0] = 0 := by decide +kernel
    unfold errIn at h
    omega
theorem cut3_form (n : Nat → Int) : ∃ (v0 v1 v2 k : Int), cut3 n = .tuple #[.agg #[.int .i32 v0, .int .i32 v1, .int .i32 v2], .int .i64 k] ∧ B32 v0 ∧ B32 v1 ∧ B32 v2 ∧ 0 ≤ k ∧ k ≤ 3 :=
  ⟨_, _, _, _, rfl, b32_clamp _, b32_clamp _, b32_clamp _, Int.natCast_nonneg _, by have h := cuts_le n 3; exact_mod_cast h⟩
theorem vp_mono42 {P : Program} {R R' : Value → World → Prop} {r : Result Next} (h : vp P R r) (hR : ∀ v w, R v w → R' v w) : vp P R' r := by
  cases r with
  | halt x w => exact (show False from h).elim
  | ok x w => cases x <;> first | exact hR _ _ h | exact (show False from h).elim | exact Calls.mono h (fun e w'' ⟨v, h1, h2⟩ => ⟨v, h1, hR _ _ h2⟩)
theorem vp_eff_st {P : Program} {o : Oper} {a : Act} {U : World} {p : Nat} {c c' : Array Value} {T : TypeId} (ty : TypeId) (x y : Operand) (ho : o.op = .store ty x y) (h : U.heap[p]? = some (.cells c T (0, 0)))
    (hx : a.eval x = .pointer (some ⟨p, 0, none⟩)) (hy : a.eval y = .agg c') (hi : (P.info? ty).map (·.size) = some c'.size) (hs : c.size = c'.size) (h1 : c'.toList.all (·.oneCell') = true) :
    vp P (fun v U' => v = undef ∧ Eff p U U' ∧ U'.heap[p]? = some (.cells c' T (0, 0))) ((execOp a.eval o).run P U) := by
  refine vp_mono42 (vp_store_agg ty x y ho h hx hy hi hs h1) ?_
  rintro v U' ⟨h1, h2, h3⟩
  exact ⟨h1, ⟨h2.os, h2.tape, h2.output, by rw [h2.size]; exact Nat.le_refl _, fun k _ hn => h2.block k hn⟩, h3⟩
theorem adrewN_f (w : World) (n : Nat) : After w (w.drewN n) := below_drewN (Below.refl _ w) n
set_option maxHeartbeats 2000000 in
theorem fprod_any (a b : Int) (w : World) (h1 : B32 a) (h2 : B32 b) :
    Calls Tryz.prog 23 #[.int .i32 a, .int .i32 b] w fun e w' => e = .returned (.int .i64 (roundS (a * b) 30)) ∧ After w w' := by
  obtain ⟨m1, m2⟩ := mul_bd a b h1.1 h1.2 h2.1 h2.2
  have fm : IntKind.i64.wrap (a * b) = a * b := by rw [IntKind.wrap_i64]; omega
  have g1 : IntKind.i64.wrap a = a := by have := h1.1; have := h1.2; rw [IntKind.wrap_i64]; omega
  have g2 : IntKind.i64.wrap b = b := by have := h2.1; have := h2.2; rw [IntKind.wrap_i64]; omega
  obtain ⟨P, hP⟩ : ∃ P, a * b = P := ⟨_, rfl⟩
  rw [hP] at fm m1 m2 ⊢
  have kr := hid (fun (v : World) => round_any P 30 v (by omega) (by omega))
  clear h1 h2 m1 m2
  generalize roundS P 30 = R at *
  go_enter Tryz.func23, Tryz.ntmps23
  go_wp2_with fail
  refine (kr.out _).mono ?_
  rintro e w1 ⟨rfl, k, rfl⟩
  go_wp2_with fail
  go_ret
  exact ⟨rfl, adrewN_f _ _⟩
set_option maxHeartbeats 4000000 in
theorem part_any42 (a b c d : Int) (w : World) (h1 : B32 a) (h2 : B32 b) (h3 : B32 c) (h4 : B32 d) :
    Calls Tryz.prog 20 #[.int .i32 a, .int .i32 b, .int .i32 c, .int .i32 d] w fun e w' => e = .returned (.int .i32 (clampS (crE a b c d))) ∧ After w w' := by
  obtain ⟨⟨l1, l2⟩, l3, l4⟩ := crE_bd h1 h2 h3 h4
  have k1 := hid (fun (v : World) => fprod_any a b v h1 h2)
  have k2 := hid (fun (v : World) => fprod_any c d v h3 h4)
  clear h1 h2 h3 h4
  unfold crE at l3 l4 ⊢
  generalize roundS (a * b) 30 = x at *
  generalize roundS (c * d) 30 = y at *
  have f1 : IntKind.i64.wrap (x - y) = x - y := by rw [IntKind.wrap_i64]; omega
  have k3 := hid (fun (v : World) => round_any (x - y) 14 v (by omega) (by omega))
  have k4 := hid (fun (v : World) => clampV_def (roundS (x - y) 14) ▸ clamp_any (roundS (x - y) 14) v l3 l4)
  clear l1 l2 l3 l4
  generalize roundS (x - y) 14 = z at *
  generalize clampS z = s at *
  generalize clampB z = t at *
  go_enter Tryz.func20, Tryz.ntmps20
  go_wp2_with fail
  refine (k1.out _).mono ?_
  rintro e w1 ⟨rfl, hB⟩
  go_wp2_with fail
  refine (k2.out _).mono ?_
  rintro e w2 ⟨rfl, h2⟩
  replace hB := bthen hB h2
  go_wp2_with fail
  refine (k3.out _).mono ?_
  rintro e w3 ⟨rfl, k, rfl⟩
  replace hB := bthen hB (adrewN_f w2 k)
  go_wp2_with fail
  refine (k4.out _).mono ?_
  rintro e w4 ⟨rfl, h4⟩
  replace hB := bthen hB h4
  go_wp2_with fail
  go_ret
  exact ⟨rfl, hB⟩
set_option maxHeartbeats 8000000 in
theorem err_any (x y z t a b c : Int) (w : World) (p0 : B32 x) (p1 : B32 y) (p2 : B32 z) (p3 : B32 t) (s0 : B32 a) (s1 : B32 b) (s2 : B32 c) :
    Calls Tryz.prog 7 #[.agg #[.int .i32 x, .int .i32 y, .int .i32 z, .int .i32 t], .agg #[.int .i32 a, .int .i32 b, .int .i32 c]] w fun e w' => e = .returned (.tuple #[.agg #[.int .i32 (errS x y z t a b c).1, .int .i32 (errS x y z t a b c).2.1, .int .i32 (errS x y z t a b c).2.2.1], .bool (errS x y z t a b c).2.2.2]) ∧ Below w.heap.size w w' := by
  have kL := hid (fun (v : World) => vlength_any a b c v s0 s1 s2)
  have hLt := lengthS_lt a b c
  by_cases hin : errIn a b c
  case neg =>
    have hE : errS x y z t a b c = (0, 0, 0, false) := if_neg hin
    rw [hE]
    dsimp only
    unfold errIn at hin
    clear hE p0 p1 p2 p3 s0 s1 s2
    generalize lengthS [a, b, c] = L at *
    by_cases hlo : L < 32768
    case pos =>
      have d1 : decide ((L : Int) < 32768) = true := by simp; omega
      clear hin
      go_enter Tryz.func7, Tryz.ntmps7
      go_upto_region 0 with (fail)
      apply wp_region_seg0 (w := w) (S := [.al 1000, .al 1000, .al 1000, .q []]) (E := [.al ((fun p => .pointer (some ⟨p, 0, none⟩)), _) 1000, .al ((fun p => .pointer (some ⟨p, 0, none⟩)), _) 1000, .al ((fun p => .pointer (some ⟨p, 0, none⟩)), _) 1000, .q0 _]) rfl (by kernel_rfl) rfl rfl
      intro th hge hne
      refine Seg.step _ rfl ⟨by rfl, fun U hU => ?_⟩ ?_
      · go_simp; exact vp_alloc rfl rfl rfl
      refine Seg.sa ?_
      refine Seg.step _ rfl ⟨by rfl, fun U hU => ?_⟩ ?_
      · go_simp; exact vp_alloc rfl rfl rfl
      refine Seg.sa ?_
      refine Seg.step _ rfl ⟨by rfl, fun U hU => ?_⟩ ?_
      · go_simp; exact vp_alloc rfl rfl rfl
      refine Seg.sa ?_
      refine Seg.sq ?_
      refine Seg.stop (fun U1 hU hk => ?_)
      have nb0 := hge 0 _ _ rfl
      have rb0 := (hk 0 _ _ rfl trivial).1.2 (by simp)
      have nb1 := hge 1 _ _ rfl
      have rb1 := (hk 1 _ _ rfl trivial).1.2 (by simp)
      have nb2 := hge 2 _ _ rfl
      have rb2 := (hk 2 _ _ rfl trivial).1.2 (by simp)
      have ne0_1 := hne 0 1 _ _ _ _ rfl rfl (by omega)
      have ne0_2 := hne 0 2 _ _ _ _ rfl rfl (by omega)
      have ne1_2 := hne 1 2 _ _ _ _ rfl rfl (by omega)
      clear hk hge hne
      generalize th (0 + 0) = p0_0 at *
      dsimp only at rb0
      generalize th (0 + 1) = p0_1 at *
      dsimp only at rb1
      generalize th (0 + 2) = p0_2 at *
      dsimp only at rb2
      have r_p0_0 := rb0
      clear rb0
      have n_p0_0 := nb0
      clear nb0
      have d_p0_0_p0_1 := ne0_1
      clear ne0_1
      have d_p0_0_p0_2 := ne0_2
      clear ne0_2
      have r_p0_1 := rb1
      clear rb1
      have n_p0_1 := nb1
      clear nb1
      have d_p0_1_p0_2 := ne1_2
      clear ne1_2
      have r_p0_2 := rb2
      clear rb2
      have n_p0_2 := nb2
      clear nb2
      have sz1 := hU.size
      have hB : Below w.heap.size w U1 := hU
      clear hU
      go_upto_region 1 with (fail)
      apply wp_region_seg0 (w := U1) (S := [.q [], .q [], .q []]) (E := [.q0 _, .c0 _, .q0 _]) rfl (by kernel_rfl) rfl rfl
      intro th hge hne
      refine Seg.sq ?_ (ht := Or.inl ⟨by rfl, fun U hU => vp_quiet (by (have h0 := held_cell (held_after hU.1 r_p0_1) 0 _ rfl; have h1 := held_cell (held_after hU.1 r_p0_1) 1 _ rfl; have h2 := held_cell (held_after hU.1 r_p0_1) 2 _ rfl; go_simp <;> exact rfl))⟩)
      refine Seg.step _ rfl (Or.inl ⟨by rfl, fun U hU => ?_⟩) ?_
      · go_simp
        refine vp_call (kL.out _)
      refine Seg.sa ?_
      refine Seg.sq ?_
      refine Seg.stop (fun U2 hU hk => ?_)
      clear hk hge hne
      replace r_p0_0 := held_after hU r_p0_0
      replace r_p0_1 := held_after hU r_p0_1
      replace r_p0_2 := held_after hU r_p0_2
      have sz2 := hU.size
      replace hB := bthen hB hU
      clear hU
      have z0 := held_cell r_p0_2 0 _ rfl
      have z1 := held_cell r_p0_2 1 _ rfl
      have z2 := held_cell r_p0_2 2 _ rfl
      have g0 := held_free r_p0_2 0
      have g1 := held_free r_p0_2 1
      have g2 := held_free r_p0_2 2
      obtain ⟨W9, hW9, ya, yO⟩ := st3 r_p0_2 (.int .i32 0) (.int .i32 0) (.int .i32 0)
      have hB9 := hid (belowS hB yO (by omega))
      have ez0 := held_cell ya 0 _ rfl
      have ez1 := held_cell ya 1 _ rfl
      have ez2 := held_cell ya 2 _ rfl
      clear ya yO hB
      go_wp2_with fail
      refine bodyPost_ret (v := .tuple #[.agg #[.int .i32 0, .int .i32 0, .int .i32 0], .bool false]) (by simp [results, Tryz.results7, go_sem, ez0, ez1, ez2]) rfl ⟨rfl, hB9.out⟩
    have d1 : decide ((L : Int) < 32768) = false := by simp; omega
    have d2 : decide ((98304 : Int) < (L : Int)) = true := by simp; omega
    clear hin
    go_enter Tryz.func7, Tryz.ntmps7
    go_upto_region 0 with (fail)
    apply wp_region_seg0 (w := w) (S := [.al 1000, .al 1000, .al 1000, .q []]) (E := [.al ((fun p => .pointer (some ⟨p, 0, none⟩)), _) 1000, .al ((fun p => .pointer (some ⟨p, 0, none⟩)), _) 1000, .al ((fun p => .pointer (some ⟨p, 0, none⟩)), _) 1000, .q0 _]) rfl (by kernel_rfl) rfl rfl
    intro th hge hne
    refine Seg.step _ rfl ⟨by rfl, fun U hU => ?_⟩ ?_
    · go_simp; exact vp_alloc rfl rfl rfl
    refine Seg.sa ?_
    refine Seg.step _ rfl ⟨by rfl, fun U hU => ?_⟩ ?_
    · go_simp; exact vp_alloc rfl rfl rfl
    refine Seg.sa ?_
    refine Seg.step _ rfl ⟨by rfl, fun U hU => ?_⟩ ?_
    · go_simp; exact vp_alloc rfl rfl rfl
    refine Seg.sa ?_
    refine Seg.sq ?_
    refine Seg.stop (fun U1 hU hk => ?_)
    have nb0 := hge 0 _ _ rfl
    have rb0 := (hk 0 _ _ rfl trivial).1.2 (by simp)
    have nb1 := hge 1 _ _ rfl
    have rb1 := (hk 1 _ _ rfl trivial).1.2 (by simp)
    have nb2 := hge 2 _ _ rfl
    have rb2 := (hk 2 _ _ rfl trivial).1.2 (by simp)
    have ne0_1 := hne 0 1 _ _ _ _ rfl rfl (by omega)
    have ne0_2 := hne 0 2 _ _ _ _ rfl rfl (by omega)
    have ne1_2 := hne 1 2 _ _ _ _ rfl rfl (by omega)
    clear hk hge hne
    generalize th (0 + 0) = p0_0 at *
    dsimp only at rb0
    generalize th (0 + 1) = p0_1 at *
    dsimp only at rb1
    generalize th (0 + 2) = p0_2 at *
    dsimp only at rb2
    have r_p0_0 := rb0
    clear rb0
    have n_p0_0 := nb0
    clear nb0
    have d_p0_0_p0_1 := ne0_1
    clear ne0_1
    have d_p0_0_p0_2 := ne0_2
    clear ne0_2
    have r_p0_1 := rb1
    clear rb1
    have n_p0_1 := nb1
    clear nb1
    have d_p0_1_p0_2 := ne1_2
    clear ne1_2
    have r_p0_2 := rb2
    clear rb2
    have n_p0_2 := nb2
    clear nb2
    have sz1 := hU.size
    have hB : Below w.heap.size w U1 := hU
    clear hU
    go_upto_region 1 with (fail)
    apply wp_region_seg0 (w := U1) (S := [.q [], .q [], .q []]) (E := [.q0 _, .c0 _, .q0 _]) rfl (by kernel_rfl) rfl rfl
    intro th hge hne
    refine Seg.sq ?_ (ht := Or.inl ⟨by rfl, fun U hU => vp_quiet (by (have h0 := held_cell (held_after hU.1 r_p0_1) 0 _ rfl; have h1 := held_cell (held_after hU.1 r_p0_1) 1 _ rfl; have h2 := held_cell (held_after hU.1 r_p0_1) 2 _ rfl; go_simp <;> exact rfl))⟩)
    refine Seg.step _ rfl (Or.inl ⟨by rfl, fun U hU => ?_⟩) ?_
    · go_simp
      refine vp_call (kL.out _)
    refine Seg.sa ?_
    refine Seg.sq ?_
    refine Seg.stop (fun U2 hU hk => ?_)
    clear hk hge hne
    replace r_p0_0 := held_after hU r_p0_0
    replace r_p0_1 := held_after hU r_p0_1
    replace r_p0_2 := held_after hU r_p0_2
    have sz2 := hU.size
    replace hB := bthen hB hU
    clear hU
    have z0 := held_cell r_p0_2 0 _ rfl
    have z1 := held_cell r_p0_2 1 _ rfl
    have z2 := held_cell r_p0_2 2 _ rfl
    have g0 := held_free r_p0_2 0
    have g1 := held_free r_p0_2 1
    have g2 := held_free r_p0_2 2
    obtain ⟨W9, hW9, ya, yO⟩ := st3 r_p0_2 (.int .i32 0) (.int .i32 0) (.int .i32 0)
    have hB9 := hid (belowS hB yO (by omega))
    have ez0 := held_cell ya 0 _ rfl
    have ez1 := held_cell ya 1 _ rfl
    have ez2 := held_cell ya 2 _ rfl
    clear ya yO hB
    go_wp2_with fail
    refine bodyPost_ret (v := .tuple #[.agg #[.int .i32 0, .int .i32 0, .int .i32 0], .bool false]) (by simp [results, Tryz.results7, go_sem, ez0, ez1, ez2]) rfl ⟨rfl, hB9.out⟩
  have hE : errS x y z t a b c = (clampS (crE (ueS a b c).2.1 (clampS (upZ x y z t)) (ueS a b c).2.2 (clampS (upY x y z t))), clampS (crE (ueS a b c).2.2 (clampS (upX x y z t)) (ueS a b c).1 (clampS (upZ x y z t))), clampS (crE (ueS a b c).1 (clampS (upY x y z t)) (ueS a b c).2.1 (clampS (upX x y z t))), true) := if_pos hin
  rw [hE]
  dsimp only
  clear hE
  have kU := hid (fun (v : World) => unit_in hin ▸ vunit_any a b c v s0 s1 s2)
  have kV := hid (fun (v : World) => (show upV x y z t = Value.agg #[.int .i32 (clampS (upX x y z t)), .int .i32 (clampS (upY x y z t)), .int .i32 (clampS (upZ x y z t))] from rfl) ▸ up_any x y z t v p0 p1 p2 p3)
  unfold errIn at hin
  have bu0 : B32 (ueS a b c).1 := b32_unit _ _
  have bu1 : B32 (ueS a b c).2.1 := b32_unit _ _
  have bu2 : B32 (ueS a b c).2.2 := b32_unit _ _
  have bv0 := b32_clamp (upX x y z t)
  have bv1 := b32_clamp (upY x y z t)
  have bv2 := b32_clamp (upZ x y z t)
  clear p0 p1 p2 p3 s0 s1 s2
  generalize lengthS [a, b, c] = L at *
  generalize (ueS a b c).1 = u0 at *
  generalize (ueS a b c).2.1 = u1 at *
  generalize (ueS a b c).2.2 = u2 at *
  generalize clampS (upX x y z t) = v0 at *
  generalize clampS (upY x y z t) = v1 at *
  generalize clampS (upZ x y z t) = v2 at *
  have d1 : decide ((L : Int) < 32768) = false := by simp; omega
  have d2 : decide ((98304 : Int) < (L : Int)) = false := by simp; omega
  have c0 := hid (fun (v : World) => part_any42 u1 v2 u2 v1 v bu1 bv2 bu2 bv1)
  have c1 := hid (fun (v : World) => part_any42 u2 v0 u0 v2 v bu2 bv0 bu0 bv2)
  have c2 := hid (fun (v : World) => part_any42 u0 v1 u1 v0 v bu0 bv1 bu1 bv0)
  clear hin bu0 bu1 bu2 bv0 bv1 bv2
  generalize clampS (crE u1 v2 u2 v1) = e0 at *
  generalize clampS (crE u2 v0 u0 v2) = e1 at *
  generalize clampS (crE u0 v1 u1 v0) = e2 at *
  go_enter Tryz.func7, Tryz.ntmps7
  go_upto_region 0 with (fail)
  apply wp_region_seg0 (w := w) (S := [.al 1000, .al 1000, .al 1000, .q []]) (E := [.al ((fun p => .pointer (some ⟨p, 0, none⟩)), _) 1000, .al ((fun p => .pointer (some ⟨p, 0, none⟩)), _) 1000, .al ((fun p => .pointer (some ⟨p, 0, none⟩)), _) 1000, .q0 _]) rfl (by kernel_rfl) rfl rfl
  intro th hge hne
  refine Seg.step _ rfl ⟨by rfl, fun U hU => ?_⟩ ?_
  · go_simp; exact vp_alloc rfl rfl rfl
  refine Seg.sa ?_
  refine Seg.step _ rfl ⟨by rfl, fun U hU => ?_⟩ ?_
  · go_simp; exact vp_alloc rfl rfl rfl
  refine Seg.sa ?_
  refine Seg.step _ rfl ⟨by rfl, fun U hU => ?_⟩ ?_
  · go_simp; exact vp_alloc rfl rfl rfl
  refine Seg.sa ?_
  refine Seg.sq ?_
  refine Seg.stop (fun U1 hU hk => ?_)
  have nb0 := hge 0 _ _ rfl
  have rb0 := (hk 0 _ _ rfl trivial).1.2 (by simp)
  have nb1 := hge 1 _ _ rfl
  have rb1 := (hk 1 _ _ rfl trivial).1.2 (by simp)
  have nb2 := hge 2 _ _ rfl
  have rb2 := (hk 2 _ _ rfl trivial).1.2 (by simp)
  have ne0_1 := hne 0 1 _ _ _ _ rfl rfl (by omega)
  have ne0_2 := hne 0 2 _ _ _ _ rfl rfl (by omega)
  have ne1_2 := hne 1 2 _ _ _ _ rfl rfl (by omega)
  clear hk hge hne
  generalize th (0 + 0) = p0_0 at *
  dsimp only at rb0
  generalize th (0 + 1) = p0_1 at *
  dsimp only at rb1
  generalize th (0 + 2) = p0_2 at *
  dsimp only at rb2
  have r_p0_0 := rb0
  clear rb0
  have n_p0_0 := nb0
  clear nb0
  have d_p0_0_p0_1 := ne0_1
  clear ne0_1
  have d_p0_0_p0_2 := ne0_2
  clear ne0_2
  have r_p0_1 := rb1
  clear rb1
  have n_p0_1 := nb1
  clear nb1
  have d_p0_1_p0_2 := ne1_2
  clear ne1_2
  have r_p0_2 := rb2
  clear rb2
  have n_p0_2 := nb2
  clear nb2
  have sz1 := hU.size
  have hB : Below w.heap.size w U1 := hU
  clear hU
  go_upto_region 1 with (fail)
  apply wp_region_seg0 (w := U1) (S := [.q [], .q [], .q []]) (E := [.q0 _, .c0 _, .q0 _]) rfl (by kernel_rfl) rfl rfl
  intro th hge hne
  refine Seg.sq ?_ (ht := Or.inl ⟨by rfl, fun U hU => vp_quiet (by (have h0 := held_cell (held_after hU.1 r_p0_1) 0 _ rfl; have h1 := held_cell (held_after hU.1 r_p0_1) 1 _ rfl; have h2 := held_cell (held_after hU.1 r_p0_1) 2 _ rfl; go_simp <;> exact rfl))⟩)
  refine Seg.step _ rfl (Or.inl ⟨by rfl, fun U hU => ?_⟩) ?_
  · go_simp
    refine vp_call (kL.out _)
  refine Seg.sa ?_
  refine Seg.sq ?_
  refine Seg.stop (fun U2 hU hk => ?_)
  clear hk hge hne
  replace r_p0_0 := held_after hU r_p0_0
  replace r_p0_1 := held_after hU r_p0_1
  replace r_p0_2 := held_after hU r_p0_2
  have sz2 := hU.size
  replace hB := bthen hB hU
  clear hU
  go_upto_region 4 with (fail)
  apply wp_region_seg0 (w := U2) (S := [.q [], .q [], .q [], .q [], .q [], .al 6, .st 5 [], .q []]) (E := [.q0 _, .c0 _, .q0 _, .q0 _, .q0 _, .al ((fun p => .pointer (some ⟨p, 0, none⟩)), _) 6, .s0 5 (.cells _ _), .q0 _]) rfl (by kernel_rfl) rfl rfl
  intro th hge hne
  refine Seg.sq ?_ (ht := Or.inl ⟨by rfl, fun U hU => vp_quiet (by (have h0 := held_cell (held_after hU.1 r_p0_1) 0 _ rfl; have h1 := held_cell (held_after hU.1 r_p0_1) 1 _ rfl; have h2 := held_cell (held_after hU.1 r_p0_1) 2 _ rfl; go_simp <;> exact rfl))⟩)
  refine Seg.step _ rfl (Or.inl ⟨by rfl, fun U hU => ?_⟩) ?_
  · go_simp
    refine vp_call (kU.out _)
  refine Seg.sa ?_
  iterate 3 refine Seg.sq ?_
  refine Seg.step _ rfl ⟨by rfl, fun U hU => ?_⟩ ?_
  · go_simp; exact vp_alloc rfl rfl rfl
  refine Seg.sa ?_
  refine Seg.step _ rfl ⟨by rfl, fun U z k hz hU hc => ?_⟩ ?_
  · have hz2 := Option.some.inj hz
    cases hz2; clear hz
    exact vp_store_agg _ _ _ rfl hc rfl rfl (by kernel_rfl) rfl (by rfl)
  refine Seg.sa ?_
  refine Seg.sq ?_
  refine Seg.stop (fun U3 hU hk => ?_)
  have nb5 := hge 5 _ _ rfl
  have rb5 := (hk 5 _ 6 rfl trivial).1.1 trivial _ (Nat.zero_le _) rfl
  clear hk hge hne
  generalize th (0 + 5) = p4_5 at *
  simp only [Ent.obj] at rb5
  have df_p0_0_p4_5 : p0_0 ≠ p4_5 := by have := held_lt r_p0_0; omega
  have df_p0_1_p4_5 : p0_1 ≠ p4_5 := by have := held_lt r_p0_1; omega
  have df_p0_2_p4_5 : p0_2 ≠ p4_5 := by have := held_lt r_p0_2; omega
  replace r_p0_0 := held_after hU r_p0_0
  replace r_p0_1 := held_after hU r_p0_1
  replace r_p0_2 := held_after hU r_p0_2
  have r_p4_5 := rb5
  clear rb5
  have n_p4_5 := nb5
  clear nb5
  have sz3 := hU.size
  replace hB := bthen hB hU
  clear hU
  go_upto_region 7 with (fail)
  apply wp_region_seg0 (w := U3) (S := [.q [], .q [], .al 3, .st 2 []]) (E := [.q0 _, .c0 _, .al ((fun p => .pointer (some ⟨p, 0, none⟩)), _) 3, .s0 2 (.cells _ _)]) rfl (by kernel_rfl) rfl rfl
  intro th hge hne
  refine Seg.sq ?_ (ht := Or.inl ⟨by rfl, fun U hU => vp_quiet (by (have h0 := held_cell (held_after hU.1 r_p0_0) 0 _ rfl; have h1 := held_cell (held_after hU.1 r_p0_0) 1 _ rfl; have h2 := held_cell (held_after hU.1 r_p0_0) 2 _ rfl; have h3 := held_cell (held_after hU.1 r_p0_0) 3 _ rfl; go_simp <;> exact rfl))⟩)
  refine Seg.step _ rfl (Or.inl ⟨by rfl, fun U hU => ?_⟩) ?_
  · go_simp
    refine vp_call (kV.out _)
  refine Seg.sa ?_
  refine Seg.step _ rfl ⟨by rfl, fun U hU => ?_⟩ ?_
  · go_simp; exact vp_alloc rfl rfl rfl
  refine Seg.sa ?_
  refine Seg.step _ rfl ⟨by rfl, fun U z k hz hU hc => ?_⟩ ?_
  · have hz2 := Option.some.inj hz
    cases hz2; clear hz
    exact vp_store_agg _ _ _ rfl hc rfl rfl (by kernel_rfl) rfl (by rfl)
  refine Seg.sa ?_
  refine Seg.stop (fun U4 hU hk => ?_)
  have nb2 := hge 2 _ _ rfl
  have rb2 := (hk 2 _ 3 rfl trivial).1.1 trivial _ (Nat.zero_le _) rfl
  clear hk hge hne
  generalize th (0 + 2) = p7_2 at *
  simp only [Ent.obj] at rb2
  have df_p0_0_p7_2 : p0_0 ≠ p7_2 := by have := held_lt r_p0_0; omega
  have df_p0_1_p7_2 : p0_1 ≠ p7_2 := by have := held_lt r_p0_1; omega
  have df_p0_2_p7_2 : p0_2 ≠ p7_2 := by have := held_lt r_p0_2; omega
  have df_p4_5_p7_2 : p4_5 ≠ p7_2 := by have := held_lt r_p4_5; omega
  replace r_p0_0 := held_after hU r_p0_0
  replace r_p0_1 := held_after hU r_p0_1
  replace r_p0_2 := held_after hU r_p0_2
  replace r_p4_5 := held_after hU r_p4_5
  have r_p7_2 := rb2
  clear rb2
  have n_p7_2 := nb2
  clear nb2
  have sz4 := hU.size
  replace hB := bthen hB hU
  clear hU
  go_upto_region 9 with (fail)
  have sR : w.heap.size ≤ p0_2 := n_p0_2
  have q1 := Ne.symm df_p0_2_p4_5
  have q2 := Ne.symm df_p0_2_p7_2
  skip
  clear df_p0_0_p4_5 df_p0_0_p7_2 df_p0_1_p4_5 df_p0_1_p7_2 df_p0_2_p4_5 df_p0_2_p7_2 df_p4_5_p7_2
  apply wp_region_segX (w := U4) (S := (.q [] :: .q [] :: .q [] :: .q [] :: .q [] :: .q [] :: .q [] :: .q [] :: .q [] :: .q [] :: .q [] :: .q [] :: .q [] :: .q [] :: .q [] :: .q [] :: .q [] :: .q [] :: .q [] :: .q [] :: .q [] :: .q [] :: .q [] :: .q [] :: .q [] :: .q [] :: .q [] :: .q [] :: .q [] :: .q [] :: .q [] :: .ef 0 none :: .q [] :: [])) (E := (.q0 _ :: .q0 _ :: .q0 _ :: .q0 _ :: .q0 _ :: .q0 _ :: .q0 _ :: .q0 _ :: .q0 _ :: .c0 _ :: .q0 _ :: .q0 _ :: .q0 _ :: .q0 _ :: .q0 _ :: .q0 _ :: .q0 _ :: .q0 _ :: .q0 _ :: .c0 _ :: .q0 _ :: .q0 _ :: .q0 _ :: .q0 _ :: .q0 _ :: .q0 _ :: .q0 _ :: .q0 _ :: .q0 _ :: .c0 _ :: .q0 _ :: .ef 0 none _ _ :: .q0 _ :: [])) [(p0_2, _)] (by kernel_rfl) rfl (by kernel_rfl) rfl (x1_w r_p0_2) x1_d (x1_e (S := (.q [] :: .q [] :: .q [] :: .q [] :: .q [] :: .q [] :: .q [] :: .q [] :: .q [] :: .q [] :: .q [] :: .q [] :: .q [] :: .q [] :: .q [] :: .q [] :: .q [] :: .q [] :: .q [] :: .q [] :: .q [] :: .q [] :: .q [] :: .q [] :: .q [] :: .q [] :: .q [] :: .q [] :: .q [] :: .q [] :: .q [] :: .ef 0 none :: .q [] :: [])) rfl rfl)
  intro th hge hne
  refine Seg.sq ?_
  refine Seg.sq ?_
  refine Seg.sq ?_ (ht := Or.inl ⟨by rfl, fun U hU => vp_quiet (by (have h0 := held_cell (keep1 hU.1 (by omega) r_p4_5) 1 _ rfl; go_simp <;> exact rfl))⟩)
  refine Seg.sq ?_
  refine Seg.sq ?_ (ht := Or.inl ⟨by rfl, fun U hU => vp_quiet (by (have h0 := held_cell (keep1 hU.1 (by omega) r_p7_2) 2 _ rfl; go_simp <;> exact rfl))⟩)
  refine Seg.sq ?_
  refine Seg.sq ?_ (ht := Or.inl ⟨by rfl, fun U hU => vp_quiet (by (have h0 := held_cell (keep1 hU.1 (by omega) r_p4_5) 2 _ rfl; go_simp <;> exact rfl))⟩)
  refine Seg.sq ?_
  refine Seg.sq ?_ (ht := Or.inl ⟨by rfl, fun U hU => vp_quiet (by (have h0 := held_cell (keep1 hU.1 (by omega) r_p7_2) 1 _ rfl; go_simp <;> exact rfl))⟩)
  refine Seg.step _ rfl (Or.inl ⟨by rfl, fun U hU => ?_⟩) ?_
  · go_simp
    refine vp_call (c0.out _)
  refine Seg.sa ?_
  refine Seg.sq ?_
  refine Seg.sq ?_
  refine Seg.sq ?_ (ht := Or.inl ⟨by rfl, fun U hU => vp_quiet (by (have h0 := held_cell (keep1 hU.1 (by omega) r_p4_5) 2 _ rfl; go_simp <;> exact rfl))⟩)
  refine Seg.sq ?_
  refine Seg.sq ?_ (ht := Or.inl ⟨by rfl, fun U hU => vp_quiet (by (have h0 := held_cell (keep1 hU.1 (by omega) r_p7_2) 0 _ rfl; go_simp <;> exact rfl))⟩)
  refine Seg.sq ?_
  refine Seg.sq ?_ (ht := Or.inl ⟨by rfl, fun U hU => vp_quiet (by (have h0 := held_cell (keep1 hU.1 (by omega) r_p4_5) 0 _ rfl; go_simp <;> exact rfl))⟩)
  refine Seg.sq ?_
  refine Seg.sq ?_ (ht := Or.inl ⟨by rfl, fun U hU => vp_quiet (by (have h0 := held_cell (keep1 hU.1 (by omega) r_p7_2) 2 _ rfl; go_simp <;> exact rfl))⟩)
  refine Seg.step _ rfl (Or.inl ⟨by rfl, fun U hU => ?_⟩) ?_
  · go_simp
    refine vp_call (c1.out _)
  refine Seg.sa ?_
  refine Seg.sq ?_
  refine Seg.sq ?_
  refine Seg.sq ?_ (ht := Or.inl ⟨by rfl, fun U hU => vp_quiet (by (have h0 := held_cell (keep1 hU.1 (by omega) r_p4_5) 0 _ rfl; go_simp <;> exact rfl))⟩)
  refine Seg.sq ?_
  refine Seg.sq ?_ (ht := Or.inl ⟨by rfl, fun U hU => vp_quiet (by (have h0 := held_cell (keep1 hU.1 (by omega) r_p7_2) 1 _ rfl; go_simp <;> exact rfl))⟩)
  refine Seg.sq ?_
  refine Seg.sq ?_ (ht := Or.inl ⟨by rfl, fun U hU => vp_quiet (by (have h0 := held_cell (keep1 hU.1 (by omega) r_p4_5) 1 _ rfl; go_simp <;> exact rfl))⟩)
  refine Seg.sq ?_
  refine Seg.sq ?_ (ht := Or.inl ⟨by rfl, fun U hU => vp_quiet (by (have h0 := held_cell (keep1 hU.1 (by omega) r_p7_2) 0 _ rfl; go_simp <;> exact rfl))⟩)
  refine Seg.step _ rfl (Or.inl ⟨by rfl, fun U hU => ?_⟩) ?_
  · go_simp
    refine vp_call (c2.out _)
  refine Seg.sa ?_
  refine Seg.sq ?_
  refine Seg.step _ rfl ⟨by rfl, fun U g0 o0 o1 hx hc hU hg => ?_⟩ ?_
  · have hx2 := Option.some.inj hx
    cases hx2
    have hc2 := Option.some.inj hc
    cases hc2
    clear hx hc
    exact vp_eff_st (p := p0_2) (c' := #[.int .i32 e0, .int .i32 e1, .int .i32 e2]) _ _ _ rfl hg rfl rfl (by kernel_rfl) rfl (by rfl)
  refine Seg.sa ?_
  refine Seg.sq ?_
  refine Seg.stop (fun U5 hU hk hX => ?_)
  have rx := Seg.end1 hX (S := (.q [] :: .q [] :: .q [] :: .q [] :: .q [] :: .q [] :: .q [] :: .q [] :: .q [] :: .q [] :: .q [] :: .q [] :: .q [] :: .q [] :: .q [] :: .q [] :: .q [] :: .q [] :: .q [] :: .q [] :: .q [] :: .q [] :: .q [] :: .q [] :: .q [] :: .q [] :: .q [] :: .q [] :: .q [] :: .q [] :: .q [] :: .ef 0 none :: .q [] :: [])) rfl 0 31 (by rfl) rfl rfl
  clear hX
  clear hk hge hne
  replace r_p0_0 := keep1 hU (by omega) r_p0_0
  replace r_p0_1 := keep1 hU (by omega) r_p0_1
  clear r_p0_2
  have r_p0_2 := rx
  clear rx
  replace r_p4_5 := keep1 hU (by omega) r_p4_5
  replace r_p7_2 := keep1 hU (by omega) r_p7_2
  have sz5 := keep1_size hU
  replace hB := keep1_below hB hU (by omega) (by omega)
  clear hU
  have ez0 := held_cell r_p0_2 0 _ rfl
  have ez1 := held_cell r_p0_2 1 _ rfl
  have ez2 := held_cell r_p0_2 2 _ rfl
  go_wp2_with fail
  refine bodyPost_ret (v := .tuple #[.agg #[.int .i32 e0, .int .i32 e1, .int .i32 e2], .bool true]) (by simp [results, Tryz.results7, go_sem, ez0, ez1, ez2]) rfl ⟨rfl, hB⟩
end Go.Proofs.YtpdpcdifnlellaaGreat

/- Package fuse: note, straighten. -/
namespace Go.Proofs.YtpdpcdifnlellaaGreat
open Go.ChangeShapes Go.WideShapes Go.ChangeAt Go.RowKit
set_option maxRecDepth 100000
set_option linter.unusedVariables false
set_option linter.unusedSimpArgs false

/-- A step that is done, in memory. -/
def wk (q0 q1 q2 q3 b0 b1 b2 st cu g0 g1 g2 a0 a1 a2 d r0 r1 r2 : Int) : Array Value := #[.int .i32 q0, .int .i32 q1, .int .i32 q2, .int .i32 q3, .int .i32 b0, .int .i32 b1, .int .i32 b2, .int .i64 st, .int .i64 cu, .int .i32 g0, .int .i32 g1, .int .i32 g2, .int .i32 a0, .int .i32 a1, .int .i32 a2, .int .i32 d, .int .i32 r0, .int .i32 r1, .int .i32 r2]
/-- What may happen beside what a step reads: only its count of cuts is written. -/
structure WkR (p : Nat) (w w' : World) : Prop where
  size : w.heap.size ≤ w'.heap.size
  block : ∀ k, k < w.heap.size → k ≠ p → w'.heap[k]? = w.heap[k]?
  cell : ∀ j, j ≠ 8 → w'.cell? ⟨p, j, none⟩ = w.cell? ⟨p, j, none⟩
theorem wkR_o (p : Nat) : PreO (WkR p) := ⟨fun w => ⟨Nat.le_refl _, fun _ _ _ => rfl, fun _ _ => rfl⟩, fun h k => ⟨Nat.le_trans h.size k.size, fun m h1 h2 => (k.block m (Nat.lt_of_lt_of_le h1 h.size) h2).trans (h.block m h1 h2), fun j hj => (k.cell j hj).trans (h.cell j hj)⟩⟩
theorem wkR_after {p : Nat} {w w' : World} (h : After w w') (hp : p < w.heap.size) : WkR p w w' := ⟨h.size, fun k hk _ => h.block k hk, fun j _ => World.cell?_of_block (w := w) (a := ⟨p, j, none⟩) (h.block p hp)⟩
theorem wkR_note {p : Nat} {w w' : World} {C : Array Value} {T : TypeId} {v : Value} (h : Eff p w w') (h1 : w.heap[p]? = some (.cells C T (0, 0))) (h2 : w'.heap[p]? = some (.cells (C.setIfInBounds 8 v) T (0, 0))) : WkR p w w' :=
  ⟨h.size, fun k hk hn => h.block k hk hn, fun j hj => by rw [cell_of_row w p j C T (0, 0) h1, cell_of_row w' p j _ T (0, 0) h2, Array.getElem?_setIfInBounds_ne (Ne.symm hj)]⟩
theorem WkR.held {p g : Nat} {w w' : World} {o : Obj} (h : WkR p w w') (hg : w.heap[g]? = some o) (hn : g ≠ p) : w'.heap[g]? = some o := (h.block g (held_lt hg) hn).trans hg
theorem eff_t42 {g : Nat} {a b c : World} (h : Eff g a b) (k : Eff g b c) : Eff g a c := ⟨k.os.trans h.os, k.tape.trans h.tape, k.output.trans h.output, Nat.le_trans h.size k.size, fun j h1 h2 => (k.block j (Nat.lt_of_lt_of_le h1 h.size) h2).trans (h.block j h1 h2)⟩
theorem eff_a42 {g : Nat} {a b : World} (h : After a b) : Eff g a b := ⟨h.os, h.tape, h.output, h.size, fun j h1 _ => h.block j h1⟩
theorem eff_d42 {g : Nat} {a b : World} (h : Eff g a.drew b) : Eff g a b := ⟨h.os, h.tape, h.output, h.size, h.block⟩
theorem eff_o42 {g : Nat} {a b : World} (h : Only g a b) : Eff g a b := ⟨h.os, h.tape, h.output, by rw [h.size]; exact Nat.le_refl _, fun j _ h2 => h.block j h2⟩
theorem eff_b42 {g p : Nat} {a b : World} (h : Eff p a b) {o : Obj} (hg : a.heap[g]? = some o) (hn : g ≠ p) : b.heap[g]? = some o := (h.block g (held_lt hg) hn).trans hg
theorem set3_42 {U : World} {p : Nat} {C : Array Value} {T : TypeId} (h : U.heap[p]? = some (.cells C T (0, 0))) (i j k : Nat) (a b c : Value) : ∃ W2, ((U.setCell ⟨p, i, none⟩ a).setCell ⟨p, j, none⟩ b).setCell ⟨p, k, none⟩ c = W2 ∧ W2.heap[p]? = some (.cells (((C.setIfInBounds i a).setIfInBounds j b).setIfInBounds k c) T (0, 0)) ∧ Only p U W2 :=
  ⟨_, rfl, held_set (held_set (held_set h i a) j b) k c, ((Only.set p i a U).then (Only.set p j b _)).then (Only.set p k c _)⟩
theorem set4_42 {U : World} {p : Nat} {C : Array Value} {T : TypeId} (h : U.heap[p]? = some (.cells C T (0, 0))) (i j k l : Nat) (a b c d : Value) : ∃ W2, (((U.setCell ⟨p, i, none⟩ a).setCell ⟨p, j, none⟩ b).setCell ⟨p, k, none⟩ c).setCell ⟨p, l, none⟩ d = W2 ∧ W2.heap[p]? = some (.cells ((((C.setIfInBounds i a).setIfInBounds j b).setIfInBounds k c).setIfInBounds l d) T (0, 0)) ∧ Only p U W2 :=
  ⟨_, rfl, held_set (held_set (held_set (held_set h i a) j b) k c) l d, (((Only.set p i a U).then (Only.set p j b _)).then (Only.set p k c _)).then (Only.set p l d _)⟩
theorem eff_new42 {g p : Nat} {w V W : World} (h : Eff g w V) (k : Only p V W) (hp : w.heap.size ≤ p) : Eff g w W := ⟨k.os.trans h.os, k.tape.trans h.tape, k.output.trans h.output, by rw [k.size]; exact h.size, fun j hj hn => (k.block j (by omega)).trans (h.block j hj hn)⟩
set_option maxHeartbeats 4000000 in
theorem note_any (p : Nat) (C : Array Value) (cu n v0 v1 v2 : Int) (w : World) (h : w.heap[p]? = some (.cells (C) 60 (0, 0))) (h8 : C[8]? = some (.int .i64 cu)) (hw : IntKind.i64.wrap (cu + n) = cu + n) : Calls Tryz.prog 58 #[.pointer (some ⟨p, 0, none⟩), .agg #[.int .i32 v0, .int .i32 v1, .int .i32 v2], .int .i64 n] w fun r w' => r = .returned (.agg #[.int .i32 v0, .int .i32 v1, .int .i32 v2]) ∧ Eff p w w' ∧ w'.heap[p]? = some (.cells (C.setIfInBounds 8 (.int .i64 (cu + n))) 60 (0, 0)) := by
  have hlt := held_lt h
  go_enter Tryz.func58, Tryz.ntmps58
  go_upto_region 0 with (fail)
  apply wp_region_seg0 (w := w) (S := [.al 1000, .al 1000]) (E := [.al ((fun p => .pointer (some ⟨p, 0, none⟩)), _) 1000, .al ((fun p => .pointer (some ⟨p, 0, none⟩)), _) 1000]) rfl (by kernel_rfl) rfl rfl
  intro th hge hne
  refine Seg.step _ rfl ⟨by rfl, fun U hU => ?_⟩ ?_
  · go_simp; exact vp_alloc rfl rfl rfl
  refine Seg.sa ?_
  refine Seg.step _ rfl ⟨by rfl, fun U hU => ?_⟩ ?_
  · go_simp; exact vp_alloc rfl rfl rfl
  refine Seg.sa ?_
  refine Seg.stop (fun U1 hU hk => ?_)
  have nb0 := hge 0 _ _ rfl
  have rb0 := (hk 0 _ _ rfl trivial).1.2 (by simp)
  have nb1 := hge 1 _ _ rfl
  have rb1 := (hk 1 _ _ rfl trivial).1.2 (by simp)
  have ne0_1 := hne 0 1 _ _ _ _ rfl rfl (by omega)
  clear hk hge hne
  generalize th (0 + 0) = p0_0 at *
  dsimp only at rb0
  generalize th (0 + 1) = p0_1 at *
  dsimp only at rb1
  have df_p_p0_0 : p ≠ p0_0 := by have := held_lt h; omega
  have df_p_p0_1 : p ≠ p0_1 := by have := held_lt h; omega
  replace h := held_after hU h
  have r_p0_0 := rb0
  clear rb0
  have n_p0_0 := nb0
  clear nb0
  have d_p0_0_p0_1 := ne0_1
  clear ne0_1
  have r_p0_1 := rb1
  clear rb1
  have n_p0_1 := nb1
  clear nb1
  have sz1 := hU.size
  have hB : Below w.heap.size w U1 := hU
  clear hU
  have e8 := held_cell h 8 _ h8
  have f8 := held_free h 8
  obtain ⟨W9, hW9, y9, o9⟩ := st1 h 8 (.int .i64 (cu + n))
  have hE := hid (eff_t42 (eff_a42 hB) (eff_o42 o9))
  have r4 := (o9.block _ (Ne.symm df_p_p0_0)).trans r_p0_0
  have r6 := (o9.block _ (Ne.symm df_p_p0_1)).trans r_p0_1
  have hE2 := hid (show w.heap.size ≤ p0_1 from n_p0_1)
  replace y9 := hid y9
  have hne := hid df_p_p0_1
  clear h o9 hB r_p0_0 r_p0_1 df_p_p0_0 df_p_p0_1 h8
  have x0 := held_cell r4 0 _ rfl
  have x1 := held_cell r4 1 _ rfl
  have x2 := held_cell r4 2 _ rfl
  have z0 := held_cell r6 0 _ rfl
  have z1 := held_cell r6 1 _ rfl
  have z2 := held_cell r6 2 _ rfl
  have g0 := held_free r6 0
  have g1 := held_free r6 1
  have g2 := held_free r6 2
  obtain ⟨W8, hW8, y8, o8⟩ := st3 r6 (.int .i32 v0) (.int .i32 v1) (.int .i32 v2)
  have ez0 := held_cell y8 0 _ rfl
  have ez1 := held_cell y8 1 _ rfl
  have ez2 := held_cell y8 2 _ rfl
  have hF := hid (eff_new42 hE.out o8 hE2.out)
  have y7 := hid ((o8.block _ hne.out).trans y9.out)
  clear o8 y8 r4 r6
  go_wp2_with fail
  refine bodyPost_ret (v := .agg #[.int .i32 v0, .int .i32 v1, .int .i32 v2]) (by simp [results, Tryz.results58, go_sem, ez0, ez1, ez2]) rfl ⟨rfl, hF.out, y7.out⟩
set_option maxHeartbeats 8000000 in
theorem straight_any (p : Nat) (q0 q1 q2 q3 b0 b1 b2 st cu g0 g1 g2 a0 a1 a2 d r0 r1 r2 : Int) (w : World) (h : w.heap[p]? = some (.cells (wk q0 q1 q2 q3 b0 b1 b2 st cu g0 g1 g2 a0 a1 a2 d r0 r1 r2) 60 (0, 0))) (p0 : B32 b0) (p1 : B32 b1) (p2 : B32 b2) (s0 : B32 g0) (s1 : B32 g1) (s2 : B32 g2) (hc1 : 0 ≤ cu) (hc2 : cu ≤ 2305843009213693952) (v0 v1 v2 k : Int) (hR : cut3 (fun i => sel i g0 g1 g2 - sel i b0 b1 b2) = .tuple #[.agg #[.int .i32 v0, .int .i32 v1, .int .i32 v2], .int .i64 k]) (hk1 : 0 ≤ k) (hk2 : k ≤ 3) : Calls Tryz.prog 29 #[.pointer (some ⟨p, 0, none⟩)] w fun r w' => r = .returned (.tuple #[]) ∧ Eff p w w' ∧ w'.heap[p]? = some (.cells (wk q0 q1 q2 q3 b0 b1 b2 st (cu + k) g0 g1 g2 a0 a1 a2 d v0 v1 v2) 60 (0, 0)) := by
  have kS := hid (fun U => hR ▸ vsub_any g0 g1 g2 b0 b1 b2 U s0 s1 s2 p0 p1 p2)
  have kN := hid (fun U hh => note_any p (wk q0 q1 q2 q3 b0 b1 b2 st cu g0 g1 g2 a0 a1 a2 d r0 r1 r2) cu k v0 v1 v2 U hh rfl (by rw [IntKind.wrap_i64]; omega))
  have hlt := held_lt h
  have c4 := held_cell h 4 _ rfl
  have c5 := held_cell h 5 _ rfl
  have c6 := held_cell h 6 _ rfl
  have c9 := held_cell h 9 _ rfl
  have c10 := held_cell h 10 _ rfl
  have c11 := held_cell h 11 _ rfl
  replace h := hid h
  clear hR p0 p1 p2 s0 s1 s2 hc1 hc2 hk1 hk2
  go_enter Tryz.func29, Tryz.ntmps29
  go_upto_region 0 with (fail)
  refine wp_region_G (WkR p) 17 (by kernel_rfl) ?_
  refine wpAnyG_takeP (wkR_o p) 0 rfl (by kernel_rfl) (by kernel_rfl) (by kernel_rfl) (fun _ _ _ _ h => h) ⟨_, Or.inl ⟨by rfl, fun w2 _ => by (go_simp; try with_reducible rfl)⟩, _, by (go_simp; try rfl), ?_⟩
  refine wpAnyG_takeP (wkR_o p) 1 rfl (by kernel_rfl) (by kernel_rfl) (by kernel_rfl) (fun _ _ _ _ h => h) ⟨_, Or.inl ⟨by rfl, fun w2 _ => by (go_simp; try with_reducible rfl)⟩, _, by (go_simp; try rfl), ?_⟩
  refine wpAnyG_takeP (wkR_o p) 2 rfl (by kernel_rfl) (by kernel_rfl) (by kernel_rfl) (fun _ _ _ _ h => h) ⟨_, Or.inl ⟨by rfl, fun w2 _ => by (go_simp; try with_reducible rfl)⟩, _, by (go_simp; try rfl), ?_⟩
  refine wpAnyG_takeP (wkR_o p) 3 rfl (by kernel_rfl) (by kernel_rfl) (by kernel_rfl) (fun _ _ _ _ h => h) ⟨_, Or.inl ⟨by rfl, fun w2 _ => by (go_simp; try with_reducible rfl)⟩, _, by (go_simp; try rfl), ?_⟩
  refine wpAnyG_takeP (wkR_o p) 4 rfl (by kernel_rfl) (by kernel_rfl) (by kernel_rfl) (fun _ _ _ _ h => h) ⟨_, Or.inl ⟨by rfl, fun w2 _ => by (go_simp; try with_reducible rfl)⟩, _, by (go_simp; try rfl), ?_⟩
  refine wpAnyG_take (wkR_o p) 5 rfl (by kernel_rfl) (by kernel_rfl) (by kernel_rfl) (by kernel_rfl) (fun _ _ _ _ h => h) ⟨_, Or.inl ⟨by rfl, fun w2 hb2 => by (have h9 := (hb2.cell 9 (by decide)).trans c9; have h10 := (hb2.cell 10 (by decide)).trans c10; have h11 := (hb2.cell 11 (by decide)).trans c11; go_simp; try with_reducible rfl)⟩, _, by (go_simp; try rfl), ?_⟩
  refine wpAnyG_takeP (wkR_o p) 6 rfl (by kernel_rfl) (by kernel_rfl) (by kernel_rfl) (fun _ _ _ _ h => h) ⟨_, Or.inl ⟨by rfl, fun w2 _ => by (go_simp; try with_reducible rfl)⟩, _, by (go_simp; try rfl), ?_⟩
  refine wpAnyG_takeP (wkR_o p) 7 rfl (by kernel_rfl) (by kernel_rfl) (by kernel_rfl) (fun _ _ _ _ h => h) ⟨_, Or.inl ⟨by rfl, fun w2 _ => by (go_simp; try with_reducible rfl)⟩, _, by (go_simp; try rfl), ?_⟩
  refine wpAnyG_takeP (wkR_o p) 8 rfl (by kernel_rfl) (by kernel_rfl) (by kernel_rfl) (fun _ _ _ _ h => h) ⟨_, Or.inl ⟨by rfl, fun w2 _ => by (go_simp; try with_reducible rfl)⟩, _, by (go_simp; try rfl), ?_⟩
  refine wpAnyG_takeP (wkR_o p) 9 rfl (by kernel_rfl) (by kernel_rfl) (by kernel_rfl) (fun _ _ _ _ h => h) ⟨_, Or.inl ⟨by rfl, fun w2 _ => by (go_simp; try with_reducible rfl)⟩, _, by (go_simp; try rfl), ?_⟩
  refine wpAnyG_take (wkR_o p) 10 rfl (by kernel_rfl) (by kernel_rfl) (by kernel_rfl) (by kernel_rfl) (fun _ _ _ _ h => h) ⟨_, Or.inl ⟨by rfl, fun w2 hb2 => by (have h4 := (hb2.cell 4 (by decide)).trans c4; have h5 := (hb2.cell 5 (by decide)).trans c5; have h6 := (hb2.cell 6 (by decide)).trans c6; go_simp; try with_reducible rfl)⟩, _, by (go_simp; try rfl), ?_⟩
  refine wpAnyG_only 11 rfl (by kernel_rfl) (by rfl) (fun K hK => ?_)
  go_simp
  refine (kS.out _).mono ?_
  rintro r U1 ⟨rfl, hA⟩
  have hp1 := held_after hA (show w.drew.heap[p]? = _ from h.out)
  have hE1 := hid (eff_d42 (eff_a42 (g := p) hA))
  refine hK _ _ ⟨fun _ => wkR_after hA hlt, ?_⟩
  clear hK
  clear hA
  refine wpAnyG_takeP (wkR_o p) 12 rfl (by kernel_rfl) (by kernel_rfl) (by kernel_rfl) (fun _ _ _ _ h => h) ⟨_, Or.inl ⟨by rfl, fun w2 _ => by (go_simp; try with_reducible rfl)⟩, _, by (go_simp; try rfl), ?_⟩
  refine wpAnyG_takeP (wkR_o p) 13 rfl (by kernel_rfl) (by kernel_rfl) (by kernel_rfl) (fun _ _ _ _ h => h) ⟨_, Or.inl ⟨by rfl, fun w2 _ => by (go_simp; try with_reducible rfl)⟩, _, by (go_simp; try rfl), ?_⟩
  refine wpAnyG_only 14 rfl (by kernel_rfl) (by rfl) (fun K hK => ?_)
  go_simp
  refine (kN.out _ hp1).mono ?_
  rintro r U2 ⟨rfl, hF, hp2⟩
  refine hK _ _ ⟨fun _ => wkR_note hF hp1 hp2, ?_⟩
  clear hK
  have hE2 := hid (eff_t42 hE1.out hF)
  have hx := hp2
  clear hF hE1 hp1
  have x16 := held_cell hx 16 _ rfl
  have x17 := held_cell hx 17 _ rfl
  have x18 := held_cell hx 18 _ rfl
  have f16 := held_free hx 16
  have f17 := held_free hx 17
  have f18 := held_free hx 18
  obtain ⟨W9, hW9, y9, o9⟩ := set3_42 hx 16 17 18 (.int .i32 v0) (.int .i32 v1) (.int .i32 v2)
  have hE3 := hid (eff_t42 hE2.out (eff_o42 o9))
  replace y9 := hid y9
  clear hp2 hx o9 hE2
  refine wpAnyG_takeP (wkR_o p) 15 rfl (by kernel_rfl) (by kernel_rfl) (by kernel_rfl) (fun _ _ _ _ h => h) ⟨_, Or.inl ⟨by rfl, fun w2 _ => by (go_simp; try with_reducible rfl)⟩, _, by (go_simp; try rfl), ?_⟩
  refine wpAnyG_takeP (wkR_o p) 16 rfl (by kernel_rfl) (by kernel_rfl) (by kernel_rfl) (fun _ _ _ _ h => h) ⟨_, Or.inl ⟨by rfl, fun w2 _ => by (go_simp; try with_reducible rfl)⟩, _, by (go_simp; try rfl), ?_⟩
  refine wpAnyG_only 17 rfl (by kernel_rfl) (by rfl) (fun K hK => ?_)
  go_simp
  refine hK _ _ ⟨fun h => (h rfl).elim, ?_⟩
  clear hK
  refine wpAnyG_done (by kernel_rfl) ?_ _
  go_wp2_with fail
  go_end0
  exact ⟨rfl, hE3.out, y9.out⟩
end Go.Proofs.YtpdpcdifnlellaaGreat

/- Package fuse: lean. -/
namespace Go.Proofs.YtpdpcdifnlellaaGreat
open Go.ChangeShapes Go.WideShapes Go.ChangeAt Go.RowKit
set_option maxRecDepth 100000
set_option linter.unusedVariables false
set_option linter.unusedSimpArgs false

/-- What leads the rate and the bias where up is felt. -/
structure LY (e0 e1 e2 b0 b1 b2 d r0 r1 r2 f0 f1 f2 k2 k3 l0 l1 l2 k4 y0 y1 y2 k5 k6 C0 C1 C2 R0 R1 R2 K : Int) : Prop where
  hF : cut3 (fun i => roundS (sel i e0 e1 e2 * 65536) 16) = .tuple #[.agg #[.int .i32 f0, .int .i32 f1, .int .i32 f2], .int .i64 k2]
  hS : cut3 (fun i => sel i r0 r1 r2 + sel i f0 f1 f2) = .tuple #[.agg #[.int .i32 R0, .int .i32 R1, .int .i32 R2], .int .i64 k3]
  hL : cut3 (fun i => roundS (sel i e0 e1 e2 * 655) 16) = .tuple #[.agg #[.int .i32 l0, .int .i32 l1, .int .i32 l2], .int .i64 k4]
  hY : cut3 (fun i => roundS (sel i l0 l1 l2 * d) 16) = .tuple #[.agg #[.int .i32 y0, .int .i32 y1, .int .i32 y2], .int .i64 k5]
  hC : cut3 (fun i => sel i b0 b1 b2 - sel i y0 y1 y2) = .tuple #[.agg #[.int .i32 C0, .int .i32 C1, .int .i32 C2], .int .i64 k6]
  hK : K = k2 + k3 + k4 + k5 + k6
  be : B32 e0 ∧ B32 e1 ∧ B32 e2
  bf : B32 f0 ∧ B32 f1 ∧ B32 f2
  bl : B32 l0 ∧ B32 l1 ∧ B32 l2
  by_ : B32 y0 ∧ B32 y1 ∧ B32 y2
  bR : B32 R0 ∧ B32 R1 ∧ B32 R2
  bC : B32 C0 ∧ B32 C1 ∧ B32 C2
  m2 : 0 ≤ k2 ∧ k2 ≤ 3
  m3 : 0 ≤ k3 ∧ k3 ≤ 3
  m4 : 0 ≤ k4 ∧ k4 ≤ 3
  m5 : 0 ≤ k5 ∧ k5 ≤ 3
  m6 : 0 ≤ k6 ∧ k6 ≤ 3
theorem ly_form (e0 e1 e2 b0 b1 b2 d r0 r1 r2 : Int) (be : B32 e0 ∧ B32 e1 ∧ B32 e2) : ∃ f0 f1 f2 k2 k3 l0 l1 l2 k4 y0 y1 y2 k5 k6 C0 C1 C2 R0 R1 R2 K, LY e0 e1 e2 b0 b1 b2 d r0 r1 r2 f0 f1 f2 k2 k3 l0 l1 l2 k4 y0 y1 y2 k5 k6 C0 C1 C2 R0 R1 R2 K := by
  obtain ⟨f0, f1, f2, k2, hF, g1, g2, g3, g4, g5⟩ := cut3_form (fun i => roundS (sel i e0 e1 e2 * 65536) 16)
  obtain ⟨R0, R1, R2, k3, hS, g6, g7, g8, g9, g10⟩ := cut3_form (fun i => sel i r0 r1 r2 + sel i f0 f1 f2)
  obtain ⟨l0, l1, l2, k4, hL, i1, i2, i3, i4, i5⟩ := cut3_form (fun i => roundS (sel i e0 e1 e2 * 655) 16)
  obtain ⟨y0, y1, y2, k5, hY, j1, j2, j3, j4, j5⟩ := cut3_form (fun i => roundS (sel i l0 l1 l2 * d) 16)
  obtain ⟨C0, C1, C2, k6, hC, j6, j7, j8, j9, j10⟩ := cut3_form (fun i => sel i b0 b1 b2 - sel i y0 y1 y2)
  exact ⟨f0, f1, f2, k2, k3, l0, l1, l2, k4, y0, y1, y2, k5, k6, C0, C1, C2, R0, R1, R2, _, hF, hS, hL, hY, hC, rfl, be, ⟨g1, g2, g3⟩, ⟨i1, i2, i3⟩, ⟨j1, j2, j3⟩, ⟨g6, g7, g8⟩, ⟨j6, j7, j8⟩, ⟨g4, g5⟩, ⟨g9, g10⟩, ⟨i4, i5⟩, ⟨j4, j5⟩, ⟨j9, j10⟩⟩
/-- The same where nothing is felt. -/
def LeanL (q0 q1 q2 q3 b0 b1 b2 a0 a1 a2 d r0 r1 r2 C0 C1 C2 R0 R1 R2 K : Int) : Prop :=
  ∃ (e0 e1 e2 : Int) (ok : Bool), errS q0 q1 q2 q3 a0 a1 a2 = (e0, e1, e2, ok) ∧ ((ok = false ∧ C0 = b0 ∧ C1 = b1 ∧ C2 = b2 ∧ R0 = r0 ∧ R1 = r1 ∧ R2 = r2 ∧ K = 0) ∨
    (ok = true ∧ ∃ f0 f1 f2 k2 k3 l0 l1 l2 k4 y0 y1 y2 k5 k6, LY e0 e1 e2 b0 b1 b2 d r0 r1 r2 f0 f1 f2 k2 k3 l0 l1 l2 k4 y0 y1 y2 k5 k6 C0 C1 C2 R0 R1 R2 K))
theorem lean_form (q0 q1 q2 q3 b0 b1 b2 a0 a1 a2 d r0 r1 r2 : Int) (hb : B32 b0 ∧ B32 b1 ∧ B32 b2) (hr : B32 r0 ∧ B32 r1 ∧ B32 r2) : ∃ C0 C1 C2 R0 R1 R2 K, LeanL q0 q1 q2 q3 b0 b1 b2 a0 a1 a2 d r0 r1 r2 C0 C1 C2 R0 R1 R2 K ∧ (B32 C0 ∧ B32 C1 ∧ B32 C2) ∧ (B32 R0 ∧ B32 R1 ∧ B32 R2) ∧ 0 ≤ K ∧ K ≤ 15 := by
  obtain ⟨⟨e0, e1, e2, ok⟩, hE⟩ : ∃ r, errS q0 q1 q2 q3 a0 a1 a2 = r := ⟨_, rfl⟩
  cases ok
  · exact ⟨b0, b1, b2, r0, r1, r2, 0, ⟨e0, e1, e2, false, hE, .inl ⟨rfl, rfl, rfl, rfl, rfl, rfl, rfl, rfl⟩⟩, hb, hr, by omega, by omega⟩
  · obtain ⟨f0, f1, f2, k2, k3, l0, l1, l2, k4, y0, y1, y2, k5, k6, C0, C1, C2, R0, R1, R2, K, h⟩ := ly_form e0 e1 e2 b0 b1 b2 d r0 r1 r2 (errS_b hE)
    refine ⟨C0, C1, C2, R0, R1, R2, K, ⟨e0, e1, e2, true, hE, .inr ⟨rfl, f0, f1, f2, k2, k3, l0, l1, l2, k4, y0, y1, y2, k5, k6, h⟩⟩, h.bC, h.bR, ?_⟩
    have := h.hK; have := h.m2; have := h.m3; have := h.m4; have := h.m5; have := h.m6
    omega
theorem clampS_in42 {n : Int} (h : B32 n) : clampS n = n := by unfold B32 at h; unfold clampS; rw [if_neg (by omega), if_neg (by omega)]
theorem clampB_in42 {n : Int} (h : B32 n) : clampB n = false := by unfold B32 at h; unfold clampB; simp; omega
theorem cut3_in (n : Nat → Int) (h0 : B32 (n 0)) (h1 : B32 (n 1)) (h2 : B32 (n 2)) : cut3 n = .tuple #[.agg #[.int .i32 (n 0), .int .i32 (n 1), .int .i32 (n 2)], .int .i64 0] := by
  unfold cut3
  rw [clampS_in42 h0, clampS_in42 h1, clampS_in42 h2]
  have : cuts n 3 = 0 := by simp [cuts, clampB_in42 h0, clampB_in42 h1, clampB_in42 h2]
  rw [this]; rfl
theorem tup_inj {a b c k a' b' c' k' : Int} (h : (Value.tuple #[.agg #[.int .i32 a, .int .i32 b, .int .i32 c], .int .i64 k]) = .tuple #[.agg #[.int .i32 a', .int .i32 b', .int .i32 c'], .int .i64 k']) : a = a' ∧ b = b' ∧ c = c' ∧ k = k' := by
  injection h with h; injection h with h
  simp at h
  exact ⟨h.1.1, h.1.2.1, h.1.2.2, h.2⟩
theorem rnd0_42 (f : Int) : roundS (0 * f) 16 = 0 := by rw [Int.zero_mul]; decide +kernel
/-- Of no error nothing is added. -/
theorem ly_zero {e0 e1 e2 b0 b1 b2 d r0 r1 r2 f0 f1 f2 k2 k3 l0 l1 l2 k4 y0 y1 y2 k5 k6 C0 C1 C2 R0 R1 R2 K : Int} (h : LY e0 e1 e2 b0 b1 b2 d r0 r1 r2 f0 f1 f2 k2 k3 l0 l1 l2 k4 y0 y1 y2 k5 k6 C0 C1 C2 R0 R1 R2 K) (he : e0 = 0 ∧ e1 = 0 ∧ e2 = 0) (hb : B32 b0 ∧ B32 b1 ∧ B32 b2) (hr : B32 r0 ∧ B32 r1 ∧ B32 r2) : (C0 = b0 ∧ C1 = b1 ∧ C2 = b2) ∧ (R0 = r0 ∧ R1 = r1 ∧ R2 = r2) ∧ K = 0 := by
  obtain ⟨rfl, rfl, rfl⟩ := he
  have s0 : ∀ i, sel i 0 0 0 = 0 := fun i => by unfold sel; split <;> (try split) <;> rfl
  have z : ∀ (f : Int) (i : Nat), roundS (sel i 0 0 0 * f) 16 = 0 := fun f i => by rw [s0]; exact rnd0_42 f
  obtain ⟨e1, e2, e3, e4⟩ := tup_inj (h.hF.symm.trans (cut3_in _ (by rw [z]; exact b32_0) (by rw [z]; exact b32_0) (by rw [z]; exact b32_0)))
  obtain ⟨g1, g2, g3, g4⟩ := tup_inj (h.hL.symm.trans (cut3_in _ (by rw [z]; exact b32_0) (by rw [z]; exact b32_0) (by rw [z]; exact b32_0)))
  rw [z] at e1 e2 e3 g1 g2 g3
  have hS := h.hS
  have hY := h.hY
  have hC := h.hC
  have hK := h.hK
  rw [e1, e2, e3] at hS
  rw [g1, g2, g3] at hY
  obtain ⟨i1, i2, i3, i4⟩ := tup_inj (hY.symm.trans (cut3_in _ (by rw [z]; exact b32_0) (by rw [z]; exact b32_0) (by rw [z]; exact b32_0)))
  rw [z] at i1 i2 i3
  rw [i1, i2, i3] at hC
  have q1 : ∀ (x y w : Int) (i : Nat), sel i x y w + sel i 0 0 0 = sel i x y w := fun x y w i => by rw [s0]; omega
  have q2 : ∀ (x y w : Int) (i : Nat), sel i x y w - sel i 0 0 0 = sel i x y w := fun x y w i => by rw [s0]; omega
  obtain ⟨j1, j2, j3, j4⟩ := tup_inj (hS.symm.trans (cut3_in _ (by rw [q1]; exact hr.1) (by rw [q1]; exact hr.2.1) (by rw [q1]; exact hr.2.2)))
  obtain ⟨l1, l2, l3, l4⟩ := tup_inj (hC.symm.trans (cut3_in _ (by rw [q2]; exact hb.1) (by rw [q2]; exact hb.2.1) (by rw [q2]; exact hb.2.2)))
  rw [q1] at j1 j2 j3
  rw [q2] at l1 l2 l3
  exact ⟨⟨l1, l2, l3⟩, ⟨j1, j2, j3⟩, by omega⟩
theorem eqV3_no (e0 e1 e2 : Int) (h : ¬ (e0 = 0 ∧ e1 = 0 ∧ e2 = 0)) (w : World) : (Op.equalIn 10000 25 (.agg #[.int .i32 e0, .int .i32 e1, .int .i32 e2]) (.agg #[.int .i32 0, .int .i32 0, .int .i32 0])).run Tryz.prog w = .ok false w := by
  rw [show (10000 : Nat) = 9999 + 1 from rfl, run_equalIn_struct w 9999 _ _ _ (by rfl) (by kernel_rfl)]
  by_cases c0 : e0 = 0
  · by_cases c1 : e1 = 0
    · have c2 : ¬ e2 = 0 := fun c2 => h ⟨c0, c1, c2⟩
      have d2 : (e2 == 0) = false := by simpa using c2
      subst c0 c1
      clear h
      go_simp
    · have d1 : (e1 == 0) = false := by simpa using c1
      subst c0
      clear h
      go_simp
  · have d0 : (e0 == 0) = false := by simpa using c0
    clear h
    go_simp
set_option maxHeartbeats 16000000 in
theorem lean_any (p : Nat) (q0 q1 q2 q3 b0 b1 b2 st cu g0 g1 g2 a0 a1 a2 d r0 r1 r2 : Int) (w : World) (h : w.heap[p]? = some (.cells (wk q0 q1 q2 q3 b0 b1 b2 st cu g0 g1 g2 a0 a1 a2 d r0 r1 r2) 60 (0, 0))) (t0 : B32 q0) (t1 : B32 q1) (t2 : B32 q2) (t3 : B32 q3) (p0 : B32 b0) (p1 : B32 b1) (p2 : B32 b2) (s0 : B32 a0) (s1 : B32 a1) (s2 : B32 a2) (u0 : B32 r0) (u1 : B32 r1) (u2 : B32 r2) (pd : B32 d) (hc1 : 0 ≤ cu) (hc2 : cu ≤ 2305843009213693952) (C0 C1 C2 R0 R1 R2 K : Int) (hL : LeanL q0 q1 q2 q3 b0 b1 b2 a0 a1 a2 d r0 r1 r2 C0 C1 C2 R0 R1 R2 K) : Calls Tryz.prog 30 #[.pointer (some ⟨p, 0, none⟩)] w fun r w' => r = .returned (.tuple #[]) ∧ Eff p w w' ∧ w'.heap[p]? = some (.cells (wk q0 q1 q2 q3 C0 C1 C2 st (cu + K) g0 g1 g2 a0 a1 a2 d R0 R1 R2) 60 (0, 0)) := by
  obtain ⟨e0, e1, e2, ok, hE, hL⟩ := hL
  have kE := fun U => err_any q0 q1 q2 q3 a0 a1 a2 U t0 t1 t2 t3 s0 s1 s2
  rw [hE] at kE
  dsimp only at kE
  replace kE := hid kE
  have hlt := held_lt h
  clear hE t0 t1 t2 t3 s0 s1 s2
  rcases hL with ⟨rfl, rfl, rfl, rfl, rfl, rfl, rfl, rfl⟩ | ⟨rfl, f0, f1, f2, k2, k3, l0, l1, l2, k4, y0, y1, y2, k5, k6, hL⟩
  · have h : w.heap[p]? = some (.cells #[.int .i32 q0, .int .i32 q1, .int .i32 q2, .int .i32 q3, .int .i32 C0, .int .i32 C1, .int .i32 C2, .int .i64 st, .int .i64 cu, .int .i32 g0, .int .i32 g1, .int .i32 g2, .int .i32 a0, .int .i32 a1, .int .i32 a2, .int .i32 d, .int .i32 R0, .int .i32 R1, .int .i32 R2] 60 (0, 0)) := h
    go_enter Tryz.func30, Tryz.ntmps30
    go_upto_region 0 with (fail)
    apply wp_region_seg (w := w) (S := [.q [], .q [], .q [], .q [], .q [], .q [], .q [], .q [], .q [], .q [], .q [], .q [], .q [], .al 14, .st 13 [], .q []]) (E := [.q0 _, .q0 _, .q0 _, .q0 _, .q0 _, .q0 _, .q0 _, .q0 _, .q0 _, .c0 _, .q0 _, .q0 _, .q0 _, .al ((fun p => .pointer (some ⟨p, 0, none⟩)), _) 14, .s0 13 (.cells _ _), .q0 _]) (by kernel_rfl) rfl (by kernel_rfl) rfl rfl
    intro th hge hne
    iterate 4 refine Seg.sq ?_
    refine Seg.sq ?_ (ht := Or.inl ⟨by rfl, fun U hU => vp_quiet (by (have h0 := held_cell (held_after hU.1 h) 0 _ rfl; have h1 := held_cell (held_after hU.1 h) 1 _ rfl; have h2 := held_cell (held_after hU.1 h) 2 _ rfl; have h3 := held_cell (held_after hU.1 h) 3 _ rfl; go_simp <;> exact rfl))⟩)
    iterate 3 refine Seg.sq ?_
    refine Seg.sq ?_ (ht := Or.inl ⟨by rfl, fun U hU => vp_quiet (by (have h0 := held_cell (held_after hU.1 h) 12 _ rfl; have h1 := held_cell (held_after hU.1 h) 13 _ rfl; have h2 := held_cell (held_after hU.1 h) 14 _ rfl; go_simp <;> exact rfl))⟩)
    refine Seg.step _ rfl (Or.inl ⟨by rfl, fun U hU => ?_⟩) ?_
    · go_simp
      refine vp_call (kE.out _)
    refine Seg.sa ?_
    iterate 3 refine Seg.sq ?_
    refine Seg.step _ rfl ⟨by rfl, fun U hU => ?_⟩ ?_
    · go_simp; exact vp_alloc rfl rfl rfl
    refine Seg.sa ?_
    refine Seg.step _ rfl ⟨by rfl, fun U z k hz hU hc => ?_⟩ ?_
    · have hz2 := Option.some.inj hz
      cases hz2; clear hz
      exact vp_store_agg _ _ _ rfl hc rfl rfl (by kernel_rfl) rfl (by rfl)
    refine Seg.sa ?_
    refine Seg.sq ?_
    refine Seg.stop (fun U1 hU hk => ?_)
    have nb13 := hge 13 _ _ rfl
    have rb13 := (hk 13 _ 14 rfl trivial).1.1 trivial _ (Nat.zero_le _) rfl
    clear hk hge hne
    generalize th (0 + 13) = p0_13 at *
    simp only [Ent.obj] at rb13
    have df_p_p0_13 : p ≠ p0_13 := by have := held_lt h; omega
    replace h := held_after hU h
    have r_p0_13 := rb13
    clear rb13
    have n_p0_13 := nb13
    clear nb13
    have sz1 := hU.size
    have hB : Below w.heap.size w U1 := hU
    clear hU
    have hE0 := hid (eff_a42 (g := p) hB)
    clear hB
    go_wp2_with fail
    refine bodyPost_ret (results_none rfl _ _ _) rfl ?_
    exact ⟨rfl, hE0.out, by rw [Int.add_zero]; exact h⟩
  by_cases hz : e0 = 0 ∧ e1 = 0 ∧ e2 = 0
  case pos =>
    obtain ⟨⟨rfl, rfl, rfl⟩, ⟨rfl, rfl, rfl⟩, rfl⟩ := ly_zero hL hz ⟨p0, p1, p2⟩ ⟨u0, u1, u2⟩
    clear hL
    obtain ⟨rfl, rfl, rfl⟩ := hz
    have h : w.heap[p]? = some (.cells #[.int .i32 q0, .int .i32 q1, .int .i32 q2, .int .i32 q3, .int .i32 C0, .int .i32 C1, .int .i32 C2, .int .i64 st, .int .i64 cu, .int .i32 g0, .int .i32 g1, .int .i32 g2, .int .i32 a0, .int .i32 a1, .int .i32 a2, .int .i32 d, .int .i32 R0, .int .i32 R1, .int .i32 R2] 60 (0, 0)) := h
    go_enter Tryz.func30, Tryz.ntmps30
    go_upto_region 0 with (fail)
    apply wp_region_seg (w := w) (S := [.q [], .q [], .q [], .q [], .q [], .q [], .q [], .q [], .q [], .q [], .q [], .q [], .q [], .al 14, .st 13 [], .q []]) (E := [.q0 _, .q0 _, .q0 _, .q0 _, .q0 _, .q0 _, .q0 _, .q0 _, .q0 _, .c0 _, .q0 _, .q0 _, .q0 _, .al ((fun p => .pointer (some ⟨p, 0, none⟩)), _) 14, .s0 13 (.cells _ _), .q0 _]) (by kernel_rfl) rfl (by kernel_rfl) rfl rfl
    intro th hge hne
    iterate 4 refine Seg.sq ?_
    refine Seg.sq ?_ (ht := Or.inl ⟨by rfl, fun U hU => vp_quiet (by (have h0 := held_cell (held_after hU.1 h) 0 _ rfl; have h1 := held_cell (held_after hU.1 h) 1 _ rfl; have h2 := held_cell (held_after hU.1 h) 2 _ rfl; have h3 := held_cell (held_after hU.1 h) 3 _ rfl; go_simp <;> exact rfl))⟩)
    iterate 3 refine Seg.sq ?_
    refine Seg.sq ?_ (ht := Or.inl ⟨by rfl, fun U hU => vp_quiet (by (have h0 := held_cell (held_after hU.1 h) 12 _ rfl; have h1 := held_cell (held_after hU.1 h) 13 _ rfl; have h2 := held_cell (held_after hU.1 h) 14 _ rfl; go_simp <;> exact rfl))⟩)
    refine Seg.step _ rfl (Or.inl ⟨by rfl, fun U hU => ?_⟩) ?_
    · go_simp
      refine vp_call (kE.out _)
    refine Seg.sa ?_
    iterate 3 refine Seg.sq ?_
    refine Seg.step _ rfl ⟨by rfl, fun U hU => ?_⟩ ?_
    · go_simp; exact vp_alloc rfl rfl rfl
    refine Seg.sa ?_
    refine Seg.step _ rfl ⟨by rfl, fun U z k hz hU hc => ?_⟩ ?_
    · have hz2 := Option.some.inj hz
      cases hz2; clear hz
      exact vp_store_agg _ _ _ rfl hc rfl rfl (by kernel_rfl) rfl (by rfl)
    refine Seg.sa ?_
    refine Seg.sq ?_
    refine Seg.stop (fun U1 hU hk => ?_)
    have nb13 := hge 13 _ _ rfl
    have rb13 := (hk 13 _ 14 rfl trivial).1.1 trivial _ (Nat.zero_le _) rfl
    clear hk hge hne
    generalize th (0 + 13) = p0_13 at *
    simp only [Ent.obj] at rb13
    have df_p_p0_13 : p ≠ p0_13 := by have := held_lt h; omega
    replace h := held_after hU h
    have r_p0_13 := rb13
    clear rb13
    have n_p0_13 := nb13
    clear nb13
    have sz1 := hU.size
    have hB : Below w.heap.size w U1 := hU
    clear hU
    have hE0 := hid (eff_a42 (g := p) hB)
    clear hB
    have x0 := held_cell r_p0_13 0 _ rfl
    have x1 := held_cell r_p0_13 1 _ rfl
    have x2 := held_cell r_p0_13 2 _ rfl
    go_wp2_with fail
    refine bodyPost_ret (results_none rfl _ _ _) rfl ?_
    exact ⟨rfl, hE0.out, by rw [Int.add_zero]; exact h⟩
  have hq := fun W => eqV3_no e0 e1 e2 hz W
  clear hz
  obtain ⟨hF, hS, hLL, hY, hC, rfl, ⟨be0, be1, be2⟩, ⟨bf0, bf1, bf2⟩, ⟨bl0, bl1, bl2⟩, ⟨by0, by1, by2⟩, -, -, ⟨m2, m2b⟩, ⟨m3, m3b⟩, ⟨m4, m4b⟩, ⟨m5, m5b⟩, ⟨m6, m6b⟩⟩ := hL
  have n65 : B32 65536 := by unfold B32; omega
  have n655 : B32 655 := by unfold B32; omega
  have k1 := hid (fun U => hF ▸ vscale_any e0 e1 e2 65536 U be0 be1 be2 n65)
  have k2c := hid (fun U => hS ▸ vadd_any r0 r1 r2 f0 f1 f2 U u0 u1 u2 bf0 bf1 bf2)
  have k3c := hid (fun U => hLL ▸ vscale_any e0 e1 e2 655 U be0 be1 be2 n655)
  have k4c := hid (fun U => hY ▸ vscale_any l0 l1 l2 d U bl0 bl1 bl2 pd)
  have k5c := hid (fun U => hC ▸ vsub_any b0 b1 b2 y0 y1 y2 U p0 p1 p2 by0 by1 by2)
  have n0 := hid (fun U hh => note_any p (wk q0 q1 q2 q3 b0 b1 b2 st cu g0 g1 g2 a0 a1 a2 d r0 r1 r2) (cu) k2 f0 f1 f2 U hh rfl (by rw [IntKind.wrap_i64]; omega))
  have n1 := hid (fun U hh => note_any p (wk q0 q1 q2 q3 b0 b1 b2 st (cu + k2) g0 g1 g2 a0 a1 a2 d r0 r1 r2) (cu + k2) k3 R0 R1 R2 U hh rfl (by rw [IntKind.wrap_i64]; omega))
  have n2 := hid (fun U hh => note_any p (wk q0 q1 q2 q3 b0 b1 b2 st (cu + k2 + k3) g0 g1 g2 a0 a1 a2 d R0 R1 R2) (cu + k2 + k3) k4 l0 l1 l2 U hh rfl (by rw [IntKind.wrap_i64]; omega))
  have n3 := hid (fun U hh => note_any p (wk q0 q1 q2 q3 b0 b1 b2 st (cu + k2 + k3 + k4) g0 g1 g2 a0 a1 a2 d R0 R1 R2) (cu + k2 + k3 + k4) k5 y0 y1 y2 U hh rfl (by rw [IntKind.wrap_i64]; omega))
  have n4 := hid (fun U hh => note_any p (wk q0 q1 q2 q3 b0 b1 b2 st (cu + k2 + k3 + k4 + k5) g0 g1 g2 a0 a1 a2 d R0 R1 R2) (cu + k2 + k3 + k4 + k5) k6 C0 C1 C2 U hh rfl (by rw [IntKind.wrap_i64]; omega))
  have hfin : cu + (k2 + k3 + k4 + k5 + k6) = cu + k2 + k3 + k4 + k5 + k6 := by omega
  rw [hfin]
  clear hfin hF hS hLL hY hC p0 p1 p2 u0 u1 u2 pd be0 be1 be2 bf0 bf1 bf2 bl0 bl1 bl2 by0 by1 by2 m2 m2b m3 m3b m4 m4b m5 m5b m6 m6b hc1 hc2 n65 n655
  have h : w.heap[p]? = some (.cells #[.int .i32 q0, .int .i32 q1, .int .i32 q2, .int .i32 q3, .int .i32 b0, .int .i32 b1, .int .i32 b2, .int .i64 st, .int .i64 cu, .int .i32 g0, .int .i32 g1, .int .i32 g2, .int .i32 a0, .int .i32 a1, .int .i32 a2, .int .i32 d, .int .i32 r0, .int .i32 r1, .int .i32 r2] 60 (0, 0)) := h
  go_enter Tryz.func30, Tryz.ntmps30
  go_upto_region 0 with (fail)
  apply wp_region_seg (w := w) (S := [.q [], .q [], .q [], .q [], .q [], .q [], .q [], .q [], .q [], .q [], .q [], .q [], .q [], .al 14, .st 13 [], .q []]) (E := [.q0 _, .q0 _, .q0 _, .q0 _, .q0 _, .q0 _, .q0 _, .q0 _, .q0 _, .c0 _, .q0 _, .q0 _, .q0 _, .al ((fun p => .pointer (some ⟨p, 0, none⟩)), _) 14, .s0 13 (.cells _ _), .q0 _]) (by kernel_rfl) rfl (by kernel_rfl) rfl rfl
  intro th hge hne
  iterate 4 refine Seg.sq ?_
  refine Seg.sq ?_ (ht := Or.inl ⟨by rfl, fun U hU => vp_quiet (by (have h0 := held_cell (held_after hU.1 h) 0 _ rfl; have h1 := held_cell (held_after hU.1 h) 1 _ rfl; have h2 := held_cell (held_after hU.1 h) 2 _ rfl; have h3 := held_cell (held_after hU.1 h) 3 _ rfl; go_simp <;> exact rfl))⟩)
  iterate 3 refine Seg.sq ?_
  refine Seg.sq ?_ (ht := Or.inl ⟨by rfl, fun U hU => vp_quiet (by (have h0 := held_cell (held_after hU.1 h) 12 _ rfl; have h1 := held_cell (held_after hU.1 h) 13 _ rfl; have h2 := held_cell (held_after hU.1 h) 14 _ rfl; go_simp <;> exact rfl))⟩)
  refine Seg.step _ rfl (Or.inl ⟨by rfl, fun U hU => ?_⟩) ?_
  · go_simp
    refine vp_call (kE.out _)
  refine Seg.sa ?_
  iterate 3 refine Seg.sq ?_
  refine Seg.step _ rfl ⟨by rfl, fun U hU => ?_⟩ ?_
  · go_simp; exact vp_alloc rfl rfl rfl
  refine Seg.sa ?_
  refine Seg.step _ rfl ⟨by rfl, fun U z k hz hU hc => ?_⟩ ?_
  · have hz2 := Option.some.inj hz
    cases hz2; clear hz
    exact vp_store_agg _ _ _ rfl hc rfl rfl (by kernel_rfl) rfl (by rfl)
  refine Seg.sa ?_
  refine Seg.sq ?_
  refine Seg.stop (fun U1 hU hk => ?_)
  have nb13 := hge 13 _ _ rfl
  have rb13 := (hk 13 _ 14 rfl trivial).1.1 trivial _ (Nat.zero_le _) rfl
  clear hk hge hne
  generalize th (0 + 13) = p0_13 at *
  simp only [Ent.obj] at rb13
  have df_p_p0_13 : p ≠ p0_13 := by have := held_lt h; omega
  replace h := held_after hU h
  have r_p0_13 := rb13
  clear rb13
  have n_p0_13 := nb13
  clear nb13
  have sz1 := hU.size
  have hB : Below w.heap.size w U1 := hU
  clear hU
  have hE0 := hid (eff_a42 (g := p) hB)
  clear hB
  have dp := hid df_p_p0_13
  clear df_p_p0_13
  have re := hid r_p0_13
  clear r_p0_13
  replace h := hid h
  have x0 := held_cell re.out 0 _ rfl
  have x1 := held_cell re.out 1 _ rfl
  have x2 := held_cell re.out 2 _ rfl
  go_wp2_with fail
  refine (k1.out _).mono ?_
  rintro r U2 ⟨rfl, hA⟩
  have h2 := held_after hA h.out
  have hE1 := hid (eff_t42 hE0.out (eff_a42 hA))
  replace re := hid (held_after hA re.out)
  clear x0 x1 x2 h hE0 hA
  go_wp2_with fail
  refine (n0.out _ h2).mono ?_
  rintro r U3 ⟨rfl, hF, h3⟩
  have hE2 := hid (eff_t42 hE1.out hF)
  replace re := hid (eff_b42 hF re.out (Ne.symm dp.out))
  clear h2 hE1 hF
  have h3 : U3.heap[p]? = some (.cells (#[.int .i32 q0, .int .i32 q1, .int .i32 q2, .int .i32 q3, .int .i32 b0, .int .i32 b1, .int .i32 b2, .int .i64 st, .int .i64 (cu + k2), .int .i32 g0, .int .i32 g1, .int .i32 g2, .int .i32 a0, .int .i32 a1, .int .i32 a2, .int .i32 d, .int .i32 r0, .int .i32 r1, .int .i32 r2]) 60 (0, 0)) := h3
  have nw := alloc_new U3 (.cells #[.int .i32 f0, .int .i32 f1, .int .i32 f2] 25)
  go_upto_region 3 with (fail)
  obtain ⟨U4, hU4⟩ : ∃ X, U3.alloc (.cells #[.int .i32 f0, .int .i32 f1, .int .i32 f2] 25) = X := ⟨_, rfl⟩
  rw [hU4] at nw ⊢
  obtain ⟨pf, hpf⟩ : ∃ X, U3.heap.size = X := ⟨_, rfl⟩
  rw [hpf] at nw ⊢
  replace hU4 := hid hU4
  have dpf : p ≠ pf := by have := held_lt h3; rw [← hpf]; omega
  replace hpf := hid hpf
  have rf := nw.2.2
  have h4 := held_after nw.2.1 h3
  have hE3 := hid (eff_t42 hE2.out (eff_a42 nw.2.1))
  replace re := hid (held_after nw.2.1 re.out)
  clear nw h3 hE2
  have hlt4 := held_lt h4
  have c16 := held_cell h4 16 _ rfl
  have c17 := held_cell h4 17 _ rfl
  have c18 := held_cell h4 18 _ rfl
  have x0 := held_cell rf 0 _ rfl
  have x1 := held_cell rf 1 _ rfl
  have x2 := held_cell rf 2 _ rfl
  replace h4 := hid h4
  replace rf := hid rf
  replace dpf := hid dpf
  refine wp_region_G (WkR p) 13 (by kernel_rfl) ?_
  refine wpAnyG_takeP (wkR_o p) 0 rfl (by kernel_rfl) (by kernel_rfl) (by kernel_rfl) (fun _ _ _ _ h => h) ⟨_, Or.inl ⟨by rfl, fun w2 _ => by (go_simp; try with_reducible rfl)⟩, _, by (go_simp; try rfl), ?_⟩
  refine wpAnyG_takeP (wkR_o p) 1 rfl (by kernel_rfl) (by kernel_rfl) (by kernel_rfl) (fun _ _ _ _ h => h) ⟨_, Or.inl ⟨by rfl, fun w2 _ => by (go_simp; try with_reducible rfl)⟩, _, by (go_simp; try rfl), ?_⟩
  refine wpAnyG_takeP (wkR_o p) 2 rfl (by kernel_rfl) (by kernel_rfl) (by kernel_rfl) (fun _ _ _ _ h => h) ⟨_, Or.inl ⟨by rfl, fun w2 _ => by (go_simp; try with_reducible rfl)⟩, _, by (go_simp; try rfl), ?_⟩
  refine wpAnyG_takeP (wkR_o p) 3 rfl (by kernel_rfl) (by kernel_rfl) (by kernel_rfl) (fun _ _ _ _ h => h) ⟨_, Or.inl ⟨by rfl, fun w2 _ => by (go_simp; try with_reducible rfl)⟩, _, by (go_simp; try rfl), ?_⟩
  refine wpAnyG_takeP (wkR_o p) 4 rfl (by kernel_rfl) (by kernel_rfl) (by kernel_rfl) (fun _ _ _ _ h => h) ⟨_, Or.inl ⟨by rfl, fun w2 _ => by (go_simp; try with_reducible rfl)⟩, _, by (go_simp; try rfl), ?_⟩
  refine wpAnyG_take (wkR_o p) 5 rfl (by kernel_rfl) (by kernel_rfl) (by kernel_rfl) (by kernel_rfl) (fun _ _ _ _ h => h) ⟨_, Or.inl ⟨by rfl, fun w2 hb2 => by (have h16 := (hb2.cell 16 (by decide)).trans c16; have h17 := (hb2.cell 17 (by decide)).trans c17; have h18 := (hb2.cell 18 (by decide)).trans c18; go_simp; try with_reducible rfl)⟩, _, by (go_simp; try rfl), ?_⟩
  refine wpAnyG_take (wkR_o p) 6 rfl (by kernel_rfl) (by kernel_rfl) (by kernel_rfl) (by kernel_rfl) (fun _ _ _ _ h => h) ⟨_, Or.inl ⟨by rfl, fun w2 hb2 => by (have q0 := held_cell (hb2.held (show U4.drew.heap[pf]? = _ from rf.out) (Ne.symm dpf.out)) 0 _ rfl; have q1 := held_cell (hb2.held (show U4.drew.heap[pf]? = _ from rf.out) (Ne.symm dpf.out)) 1 _ rfl; have q2 := held_cell (hb2.held (show U4.drew.heap[pf]? = _ from rf.out) (Ne.symm dpf.out)) 2 _ rfl; go_simp; try with_reducible rfl)⟩, _, by (go_simp; try rfl), ?_⟩
  refine wpAnyG_only 7 rfl (by kernel_rfl) (by rfl) (fun K hK => ?_)
  go_simp
  refine (k2c.out _).mono ?_
  rintro r U5 ⟨rfl, hA⟩
  have hp1 := held_after hA (show U4.drew.heap[p]? = _ from h4.out)
  have hE1 := hid (eff_t42 hE3.out (eff_d42 (eff_a42 (g := p) hA)))
  refine hK _ _ ⟨fun _ => wkR_after hA (by exact hlt4), ?_⟩
  clear hK
  replace re := hid (held_after hA (show U4.drew.heap[_]? = _ from re.out))
  clear hA
  refine wpAnyG_takeP (wkR_o p) 8 rfl (by kernel_rfl) (by kernel_rfl) (by kernel_rfl) (fun _ _ _ _ h => h) ⟨_, Or.inl ⟨by rfl, fun w2 _ => by (go_simp; try with_reducible rfl)⟩, _, by (go_simp; try rfl), ?_⟩
  refine wpAnyG_takeP (wkR_o p) 9 rfl (by kernel_rfl) (by kernel_rfl) (by kernel_rfl) (fun _ _ _ _ h => h) ⟨_, Or.inl ⟨by rfl, fun w2 _ => by (go_simp; try with_reducible rfl)⟩, _, by (go_simp; try rfl), ?_⟩
  refine wpAnyG_only 10 rfl (by kernel_rfl) (by rfl) (fun K hK => ?_)
  go_simp
  refine (n1.out _ hp1).mono ?_
  rintro r U6 ⟨rfl, hF, hp2⟩
  refine hK _ _ ⟨fun _ => wkR_note hF hp1 hp2, ?_⟩
  clear hK
  have hE2 := hid (eff_t42 hE1.out hF)
  replace re := hid (eff_b42 hF re.out (Ne.symm dp.out))
  have hx := hp2
  clear hF hE1 hp1
  have x16 := held_cell hx 16 _ rfl
  have x17 := held_cell hx 17 _ rfl
  have x18 := held_cell hx 18 _ rfl
  have f16 := held_free hx 16
  have f17 := held_free hx 17
  have f18 := held_free hx 18
  obtain ⟨W9, hW9, y9, o9⟩ := set3_42 hx 16 17 18 (.int .i32 R0) (.int .i32 R1) (.int .i32 R2)
  have hE3 := hid (eff_t42 hE2.out (eff_o42 o9))
  replace re := hid ((o9.block _ (Ne.symm dp.out)).trans re.out)
  replace y9 := hid y9
  clear hp2 hx o9 hE2
  refine wpAnyG_takeP (wkR_o p) 11 rfl (by kernel_rfl) (by kernel_rfl) (by kernel_rfl) (fun _ _ _ _ h => h) ⟨_, Or.inl ⟨by rfl, fun w2 _ => by (go_simp; try with_reducible rfl)⟩, _, by (go_simp; try rfl), ?_⟩
  refine wpAnyG_takeP (wkR_o p) 12 rfl (by kernel_rfl) (by kernel_rfl) (by kernel_rfl) (fun _ _ _ _ h => h) ⟨_, Or.inl ⟨by rfl, fun w2 _ => by (go_simp; try with_reducible rfl)⟩, _, by (go_simp; try rfl), ?_⟩
  refine wpAnyG_only 13 rfl (by kernel_rfl) (by rfl) (fun K hK => ?_)
  go_simp
  refine hK _ _ ⟨fun h => (h rfl).elim, ?_⟩
  clear hK
  refine wpAnyG_done (by kernel_rfl) ?_ _
  clear c16 c17 c18 rf dpf h4
  have hE4 := hE3
  clear hE3
  have y8 := hid (show W9.heap[p]? = some (.cells (#[.int .i32 q0, .int .i32 q1, .int .i32 q2, .int .i32 q3, .int .i32 b0, .int .i32 b1, .int .i32 b2, .int .i64 st, .int .i64 (cu + k2 + k3), .int .i32 g0, .int .i32 g1, .int .i32 g2, .int .i32 a0, .int .i32 a1, .int .i32 a2, .int .i32 d, .int .i32 R0, .int .i32 R1, .int .i32 R2]) 60 (0, 0)) from y9.out)
  clear y9 hW9
  have w0 := held_cell re.out 0 _ rfl
  have w1 := held_cell re.out 1 _ rfl
  have w2 := held_cell re.out 2 _ rfl
  go_wp2_with fail
  refine (k3c.out _).mono ?_
  rintro r U7 ⟨rfl, hA⟩
  have h7 := held_after hA y8.out
  have hE5 := hid (eff_t42 hE4.out (eff_a42 hA))
  replace re := hid (held_after hA re.out)
  clear w0 w1 w2 y8 hE4 hA
  go_wp2_with fail
  refine (n2.out _ h7).mono ?_
  rintro r U8 ⟨rfl, hF, h8⟩
  have hE6 := hid (eff_t42 hE5.out hF)
  clear h7 hE5 hF re
  have h8 : U8.heap[p]? = some (.cells (#[.int .i32 q0, .int .i32 q1, .int .i32 q2, .int .i32 q3, .int .i32 b0, .int .i32 b1, .int .i32 b2, .int .i64 st, .int .i64 (cu + k2 + k3 + k4), .int .i32 g0, .int .i32 g1, .int .i32 g2, .int .i32 a0, .int .i32 a1, .int .i32 a2, .int .i32 d, .int .i32 R0, .int .i32 R1, .int .i32 R2]) 60 (0, 0)) := h8
  have nw := alloc_new U8 (.cells #[.int .i32 l0, .int .i32 l1, .int .i32 l2] 25)
  go_upto_region 5 with (fail)
  obtain ⟨U9, hU9⟩ : ∃ X, U8.alloc (.cells #[.int .i32 l0, .int .i32 l1, .int .i32 l2] 25) = X := ⟨_, rfl⟩
  rw [hU9] at nw ⊢
  obtain ⟨pl, hpl⟩ : ∃ X, U8.heap.size = X := ⟨_, rfl⟩
  rw [hpl] at nw ⊢
  replace hU9 := hid hU9
  have dpl : p ≠ pl := by have := held_lt h8; rw [← hpl]; omega
  replace hpl := hid hpl
  have rl := nw.2.2
  have h9 := held_after nw.2.1 h8
  have hE7 := hid (eff_t42 hE6.out (eff_a42 nw.2.1))
  clear nw h8 hE6
  have hlt9 := held_lt h9
  have c4 := held_cell h9 4 _ rfl
  have c5 := held_cell h9 5 _ rfl
  have c6 := held_cell h9 6 _ rfl
  have c15 := held_cell h9 15 _ rfl
  replace h9 := hid h9
  replace rl := hid rl
  replace dpl := hid dpl
  refine wp_region_G (WkR p) 24 (by kernel_rfl) ?_
  refine wpAnyG_takeP (wkR_o p) 0 rfl (by kernel_rfl) (by kernel_rfl) (by kernel_rfl) (fun _ _ _ _ h => h) ⟨_, Or.inl ⟨by rfl, fun w2 _ => by (go_simp; try with_reducible rfl)⟩, _, by (go_simp; try rfl), ?_⟩
  refine wpAnyG_takeP (wkR_o p) 1 rfl (by kernel_rfl) (by kernel_rfl) (by kernel_rfl) (fun _ _ _ _ h => h) ⟨_, Or.inl ⟨by rfl, fun w2 _ => by (go_simp; try with_reducible rfl)⟩, _, by (go_simp; try rfl), ?_⟩
  refine wpAnyG_takeP (wkR_o p) 2 rfl (by kernel_rfl) (by kernel_rfl) (by kernel_rfl) (fun _ _ _ _ h => h) ⟨_, Or.inl ⟨by rfl, fun w2 _ => by (go_simp; try with_reducible rfl)⟩, _, by (go_simp; try rfl), ?_⟩
  refine wpAnyG_takeP (wkR_o p) 3 rfl (by kernel_rfl) (by kernel_rfl) (by kernel_rfl) (fun _ _ _ _ h => h) ⟨_, Or.inl ⟨by rfl, fun w2 _ => by (go_simp; try with_reducible rfl)⟩, _, by (go_simp; try rfl), ?_⟩
  refine wpAnyG_takeP (wkR_o p) 4 rfl (by kernel_rfl) (by kernel_rfl) (by kernel_rfl) (fun _ _ _ _ h => h) ⟨_, Or.inl ⟨by rfl, fun w2 _ => by (go_simp; try with_reducible rfl)⟩, _, by (go_simp; try rfl), ?_⟩
  refine wpAnyG_takeP (wkR_o p) 5 rfl (by kernel_rfl) (by kernel_rfl) (by kernel_rfl) (fun _ _ _ _ h => h) ⟨_, Or.inl ⟨by rfl, fun w2 _ => by (go_simp; try with_reducible rfl)⟩, _, by (go_simp; try rfl), ?_⟩
  refine wpAnyG_take (wkR_o p) 6 rfl (by kernel_rfl) (by kernel_rfl) (by kernel_rfl) (by kernel_rfl) (fun _ _ _ _ h => h) ⟨_, Or.inl ⟨by rfl, fun w2 hb2 => by (have h4 := (hb2.cell 4 (by decide)).trans c4; have h5 := (hb2.cell 5 (by decide)).trans c5; have h6 := (hb2.cell 6 (by decide)).trans c6; go_simp; try with_reducible rfl)⟩, _, by (go_simp; try rfl), ?_⟩
  refine wpAnyG_takeP (wkR_o p) 7 rfl (by kernel_rfl) (by kernel_rfl) (by kernel_rfl) (fun _ _ _ _ h => h) ⟨_, Or.inl ⟨by rfl, fun w2 _ => by (go_simp; try with_reducible rfl)⟩, _, by (go_simp; try rfl), ?_⟩
  refine wpAnyG_take (wkR_o p) 8 rfl (by kernel_rfl) (by kernel_rfl) (by kernel_rfl) (by kernel_rfl) (fun _ _ _ _ h => h) ⟨_, Or.inl ⟨by rfl, fun w2 hb2 => by (have q0 := held_cell (hb2.held (show U9.drew.heap[pl]? = _ from rl.out) (Ne.symm dpl.out)) 0 _ rfl; have q1 := held_cell (hb2.held (show U9.drew.heap[pl]? = _ from rl.out) (Ne.symm dpl.out)) 1 _ rfl; have q2 := held_cell (hb2.held (show U9.drew.heap[pl]? = _ from rl.out) (Ne.symm dpl.out)) 2 _ rfl; go_simp; try with_reducible rfl)⟩, _, by (go_simp; try rfl), ?_⟩
  refine wpAnyG_takeP (wkR_o p) 9 rfl (by kernel_rfl) (by kernel_rfl) (by kernel_rfl) (fun _ _ _ _ h => h) ⟨_, Or.inl ⟨by rfl, fun w2 _ => by (go_simp; try with_reducible rfl)⟩, _, by (go_simp; try rfl), ?_⟩
  refine wpAnyG_takeP (wkR_o p) 10 rfl (by kernel_rfl) (by kernel_rfl) (by kernel_rfl) (fun _ _ _ _ h => h) ⟨_, Or.inl ⟨by rfl, fun w2 _ => by (go_simp; try with_reducible rfl)⟩, _, by (go_simp; try rfl), ?_⟩
  refine wpAnyG_takeP (wkR_o p) 11 rfl (by kernel_rfl) (by kernel_rfl) (by kernel_rfl) (fun _ _ _ _ h => h) ⟨_, Or.inl ⟨by rfl, fun w2 _ => by (go_simp; try with_reducible rfl)⟩, _, by (go_simp; try rfl), ?_⟩
  refine wpAnyG_take (wkR_o p) 12 rfl (by kernel_rfl) (by kernel_rfl) (by kernel_rfl) (by kernel_rfl) (fun _ _ _ _ h => h) ⟨_, Or.inl ⟨by rfl, fun w2 hb2 => by (have h15 := (hb2.cell 15 (by decide)).trans c15; go_simp; try with_reducible rfl)⟩, _, by (go_simp; try rfl), ?_⟩
  refine wpAnyG_only 13 rfl (by kernel_rfl) (by rfl) (fun K hK => ?_)
  go_simp
  refine (k4c.out _).mono ?_
  rintro r V1 ⟨rfl, hA⟩
  have hp1 := held_after hA (show U9.drew.heap[p]? = _ from h9.out)
  have hE1 := hid (eff_t42 hE7.out (eff_d42 (eff_a42 (g := p) hA)))
  refine hK _ _ ⟨fun _ => wkR_after hA (by exact hlt9), ?_⟩
  clear hK
  clear hA
  refine wpAnyG_takeP (wkR_o p) 14 rfl (by kernel_rfl) (by kernel_rfl) (by kernel_rfl) (fun _ _ _ _ h => h) ⟨_, Or.inl ⟨by rfl, fun w2 _ => by (go_simp; try with_reducible rfl)⟩, _, by (go_simp; try rfl), ?_⟩
  refine wpAnyG_takeP (wkR_o p) 15 rfl (by kernel_rfl) (by kernel_rfl) (by kernel_rfl) (fun _ _ _ _ h => h) ⟨_, Or.inl ⟨by rfl, fun w2 _ => by (go_simp; try with_reducible rfl)⟩, _, by (go_simp; try rfl), ?_⟩
  refine wpAnyG_only 16 rfl (by kernel_rfl) (by rfl) (fun K hK => ?_)
  go_simp
  refine (n3.out _ hp1).mono ?_
  rintro r V2 ⟨rfl, hF, hp2⟩
  refine hK _ _ ⟨fun _ => wkR_note hF hp1 hp2, ?_⟩
  clear hK
  have hE2 := hid (eff_t42 hE1.out hF)
  clear hF hE1 hp1
  have hp2 : V2.heap[p]? = some (.cells (#[.int .i32 q0, .int .i32 q1, .int .i32 q2, .int .i32 q3, .int .i32 b0, .int .i32 b1, .int .i32 b2, .int .i64 st, .int .i64 (cu + k2 + k3 + k4 + k5), .int .i32 g0, .int .i32 g1, .int .i32 g2, .int .i32 a0, .int .i32 a1, .int .i32 a2, .int .i32 d, .int .i32 R0, .int .i32 R1, .int .i32 R2]) 60 (0, 0)) := hp2
  refine wpAnyG_only 17 rfl (by kernel_rfl) (by rfl) (fun K hK => ?_)
  go_simp
  refine (k5c.out _).mono ?_
  rintro r V3 ⟨rfl, hA⟩
  have hp3 := held_after hA hp2
  have hE3 := hid (eff_t42 hE2.out (eff_a42 (g := p) hA))
  refine hK _ _ ⟨fun _ => wkR_after hA (held_lt hp2), ?_⟩
  clear hK
  clear hA hp2 hE2
  refine wpAnyG_takeP (wkR_o p) 18 rfl (by kernel_rfl) (by kernel_rfl) (by kernel_rfl) (fun _ _ _ _ h => h) ⟨_, Or.inl ⟨by rfl, fun w2 _ => by (go_simp; try with_reducible rfl)⟩, _, by (go_simp; try rfl), ?_⟩
  refine wpAnyG_takeP (wkR_o p) 19 rfl (by kernel_rfl) (by kernel_rfl) (by kernel_rfl) (fun _ _ _ _ h => h) ⟨_, Or.inl ⟨by rfl, fun w2 _ => by (go_simp; try with_reducible rfl)⟩, _, by (go_simp; try rfl), ?_⟩
  refine wpAnyG_only 20 rfl (by kernel_rfl) (by rfl) (fun K hK => ?_)
  go_simp
  refine (n4.out _ hp3).mono ?_
  rintro r V4 ⟨rfl, hF, hp4⟩
  refine hK _ _ ⟨fun _ => wkR_note hF hp3 hp4, ?_⟩
  clear hK
  have hE4 := hid (eff_t42 hE3.out hF)
  have hx := hp4
  clear hF hE3 hp3
  have x4 := held_cell hx 4 _ rfl
  have x5 := held_cell hx 5 _ rfl
  have x6 := held_cell hx 6 _ rfl
  have f4 := held_free hx 4
  have f5 := held_free hx 5
  have f6 := held_free hx 6
  obtain ⟨W8, hW8, y8, o8⟩ := set3_42 hx 4 5 6 (.int .i32 C0) (.int .i32 C1) (.int .i32 C2)
  have hE5 := hid (eff_t42 hE4.out (eff_o42 o8))
  replace y8 := hid y8
  clear hp4 hx o8 hE4
  refine wpAnyG_takeP (wkR_o p) 21 rfl (by kernel_rfl) (by kernel_rfl) (by kernel_rfl) (fun _ _ _ _ h => h) ⟨_, Or.inl ⟨by rfl, fun w2 _ => by (go_simp; try with_reducible rfl)⟩, _, by (go_simp; try rfl), ?_⟩
  refine wpAnyG_takeP (wkR_o p) 22 rfl (by kernel_rfl) (by kernel_rfl) (by kernel_rfl) (fun _ _ _ _ h => h) ⟨_, Or.inl ⟨by rfl, fun w2 _ => by (go_simp; try with_reducible rfl)⟩, _, by (go_simp; try rfl), ?_⟩
  refine wpAnyG_takeP (wkR_o p) 23 rfl (by kernel_rfl) (by kernel_rfl) (by kernel_rfl) (fun _ _ _ _ h => h) ⟨_, Or.inl ⟨by rfl, fun w2 _ => by (go_simp; try with_reducible rfl)⟩, _, by (go_simp; try rfl), ?_⟩
  refine wpAnyG_only 24 rfl (by kernel_rfl) (by rfl) (fun K hK => ?_)
  go_simp
  refine hK _ _ ⟨fun h => (h rfl).elim, ?_⟩
  clear hK
  refine wpAnyG_done (by kernel_rfl) ?_ _
  go_wp2_with fail
  go_end0
  exact ⟨rfl, hE5.out, y8.out⟩
end Go.Proofs.YtpdpcdifnlellaaGreat

/- Package fuse: hold, turn. -/
namespace Go.Proofs.YtpdpcdifnlellaaGreat
open Go.ChangeShapes Go.WideShapes Go.ChangeAt Go.RowKit
set_option maxRecDepth 100000
set_option linter.unusedVariables false
set_option linter.unusedSimpArgs false

/-- A part of a bias, brought back to its limit, and whether it was. -/
def limS (n : Int) : Int := if n > 16384 then 16384 else if n < -16384 then -16384 else n
def limK (n : Int) : Int := if n > 16384 then 1 else if n < -16384 then 1 else 0
theorem lim_cases (n : Int) (h : B32 n) : (limS n = n ∧ limK n = 0 ∧ -16384 ≤ n ∧ n ≤ 16384 ∧ max (-16384) (min n 16384) = n) ∨ (limS n = 16384 ∧ limK n = 1 ∧ 16384 < n ∧ max (-16384) (min n 16384) = 16384) ∨ (limS n = -16384 ∧ limK n = 1 ∧ n < -16384 ∧ max (-16384) (min n 16384) = -16384) := by
  unfold limS limK
  by_cases c1 : n > 16384
  · rw [if_pos c1, if_pos c1]; exact .inr (.inl ⟨rfl, rfl, by omega, by omega⟩)
  · rw [if_neg c1, if_neg c1]
    by_cases c2 : n < -16384
    · rw [if_pos c2, if_pos c2]; exact .inr (.inr ⟨rfl, rfl, c2, by omega⟩)
    · rw [if_neg c2, if_neg c2]; exact .inl ⟨rfl, rfl, by omega, by omega, by omega⟩
theorem lim_bd (n : Int) : -16384 ≤ limS n ∧ limS n ≤ 16384 ∧ 0 ≤ limK n ∧ limK n ≤ 1 := by
  unfold limS limK
  split
  · omega
  · split <;> omega
set_option maxHeartbeats 16000000 in
theorem hold_any (p : Nat) (q0 q1 q2 q3 b0 b1 b2 st cu g0 g1 g2 a0 a1 a2 d r0 r1 r2 : Int) (w : World) (h : w.heap[p]? = some (.cells (wk q0 q1 q2 q3 b0 b1 b2 st cu g0 g1 g2 a0 a1 a2 d r0 r1 r2) 60 (0, 0))) (p0 : B32 b0) (p1 : B32 b1) (p2 : B32 b2) (hc1 : 0 ≤ cu) (hc2 : cu ≤ 2305843009213693952) : Calls Tryz.prog 31 #[.pointer (some ⟨p, 0, none⟩)] w fun r w' => r = .returned (.tuple #[]) ∧ Eff p w w' ∧ w'.heap[p]? = some (.cells (wk q0 q1 q2 q3 (limS b0) (limS b1) (limS b2) st (cu + limK b0 + limK b1 + limK b2) g0 g1 g2 a0 a1 a2 d r0 r1 r2) 60 (0, 0)) := by
  have h : w.heap[p]? = some (.cells #[.int .i32 q0, .int .i32 q1, .int .i32 q2, .int .i32 q3, .int .i32 b0, .int .i32 b1, .int .i32 b2, .int .i64 st, .int .i64 cu, .int .i32 g0, .int .i32 g1, .int .i32 g2, .int .i32 a0, .int .i32 a1, .int .i32 a2, .int .i32 d, .int .i32 r0, .int .i32 r1, .int .i32 r2] 60 (0, 0)) := h
  have hlt := held_lt h
  have lb0 := lim_bd b0
  have lb1 := lim_bd b1
  have lb2 := lim_bd b2
  go_enter Tryz.func31, Tryz.ntmps31
  go_upto_region 0 with (fail)
  apply wp_region_seg (w := w) (S := [.q [], .q [], .q [], .q [], .q [], .q [], .q [], .q [], .q [], .q [], .q [], .q [], .q [], .q [], .q [], .al 1000, .q [], .q []]) (E := [.q0 _, .q0 _, .q0 _, .q0 _, .q0 _, .q0 _, .q0 _, .q0 _, .q0 _, .q0 _, .q0 _, .q0 _, .q0 _, .q0 _, .q0 _, .al ((fun p => .slice (some ⟨p, 0, none⟩) 3 3), _) 1000, .q0 _, .q0 _]) (by kernel_rfl) rfl (by kernel_rfl) rfl rfl
  intro th hge hne
  iterate 15 refine Seg.sq ?_
  refine Seg.step _ rfl ⟨by rfl, fun U hU => ?_⟩ ?_
  · go_simp; exact vp_alloc rfl rfl rfl
  refine Seg.sa ?_
  refine Seg.sq ?_
  refine Seg.sq ?_
  refine Seg.stop (fun U1 hU hk => ?_)
  have nb15 := hge 15 _ _ rfl
  have rb15 := (hk 15 _ _ rfl trivial).1.2 (by simp)
  clear hk hge hne
  generalize th (0 + 15) = p0_15 at *
  dsimp only at rb15
  have df_p_p0_15 : p ≠ p0_15 := by have := held_lt h; omega
  replace h := held_after hU h
  have r_p0_15 := rb15
  clear rb15
  have n_p0_15 := nb15
  clear nb15
  have sz1 := hU.size
  have hB : Below w.heap.size w U1 := hU
  clear hU
  have dp := hid df_p_p0_15
  clear df_p_p0_15
  have hE0 := hid (eff_a42 (g := p) hB)
  clear hB sz1 hlt
  have y0 := hid (lim_cases b0 p0)
  have y1 := hid (lim_cases b1 p1)
  have y2 := hid (lim_cases b2 p2)
  clear p0 p1 p2
  go_wp2_with fail
  go_loopw [22] (fun ix wr => (ix = .int .i64 0 ∧ wr.heap[p]? = some (.cells (#[.int .i32 q0, .int .i32 q1, .int .i32 q2, .int .i32 q3, .int .i32 b0, .int .i32 b1, .int .i32 b2, .int .i64 st, .int .i64 cu, .int .i32 g0, .int .i32 g1, .int .i32 g2, .int .i32 a0, .int .i32 a1, .int .i32 a2, .int .i32 d, .int .i32 r0, .int .i32 r1, .int .i32 r2]) 60 (0, 0)) ∧ wr.heap[p0_15]? = some (.cells #[.pointer (some ⟨p, 4, none⟩), .pointer (some ⟨p, 5, none⟩), .pointer (some ⟨p, 6, none⟩)] 88 (0, 0)) ∧ Eff p w wr) ∨ (ix = .int .i64 1 ∧ wr.heap[p]? = some (.cells (#[.int .i32 q0, .int .i32 q1, .int .i32 q2, .int .i32 q3, .int .i32 (limS b0), .int .i32 b1, .int .i32 b2, .int .i64 st, .int .i64 (cu + limK b0), .int .i32 g0, .int .i32 g1, .int .i32 g2, .int .i32 a0, .int .i32 a1, .int .i32 a2, .int .i32 d, .int .i32 r0, .int .i32 r1, .int .i32 r2]) 60 (0, 0)) ∧ wr.heap[p0_15]? = some (.cells #[.pointer (some ⟨p, 4, none⟩), .pointer (some ⟨p, 5, none⟩), .pointer (some ⟨p, 6, none⟩)] 88 (0, 0)) ∧ Eff p w wr) ∨ (ix = .int .i64 2 ∧ wr.heap[p]? = some (.cells (#[.int .i32 q0, .int .i32 q1, .int .i32 q2, .int .i32 q3, .int .i32 (limS b0), .int .i32 (limS b1), .int .i32 b2, .int .i64 st, .int .i64 (cu + limK b0 + limK b1), .int .i32 g0, .int .i32 g1, .int .i32 g2, .int .i32 a0, .int .i32 a1, .int .i32 a2, .int .i32 d, .int .i32 r0, .int .i32 r1, .int .i32 r2]) 60 (0, 0)) ∧ wr.heap[p0_15]? = some (.cells #[.pointer (some ⟨p, 4, none⟩), .pointer (some ⟨p, 5, none⟩), .pointer (some ⟨p, 6, none⟩)] 88 (0, 0)) ∧ Eff p w wr) ∨ (ix = .int .i64 3 ∧ wr.heap[p]? = some (.cells (#[.int .i32 q0, .int .i32 q1, .int .i32 q2, .int .i32 q3, .int .i32 (limS b0), .int .i32 (limS b1), .int .i32 (limS b2), .int .i64 st, .int .i64 (cu + limK b0 + limK b1 + limK b2), .int .i32 g0, .int .i32 g1, .int .i32 g2, .int .i32 a0, .int .i32 a1, .int .i32 a2, .int .i32 d, .int .i32 r0, .int .i32 r1, .int .i32 r2]) 60 (0, 0)) ∧ wr.heap[p0_15]? = some (.cells #[.pointer (some ⟨p, 4, none⟩), .pointer (some ⟨p, 5, none⟩), .pointer (some ⟨p, 6, none⟩)] 88 (0, 0)) ∧ Eff p w wr)) (fun ix _ => 3 - (intOf ix).toNat)
  case atStart => exact .inl ⟨rfl, h, r_p0_15, hE0.out⟩
  case round =>
    clear h r_p0_15 hE0
    rcases hrel with ⟨rfl, h, rp, hE⟩ | ⟨rfl, h, rp, hE⟩ | ⟨rfl, h, rp, hE⟩ | ⟨rfl, h, rp, hE⟩
    · have a0 := held_cell rp 0 _ rfl
      have e4 := held_cell h 4 _ rfl
      have e8 := held_cell h 8 _ rfl
      have f4 := held_free h 4
      have f8 := held_free h 8
      have wc : IntKind.i64.wrap (cu + 1) = cu + 1 := by rw [IntKind.wrap_i64]; omega
      replace h := hid h
      replace rp := hid rp
      replace hE := hid hE
      replace lb0 := hid lb0
      replace lb1 := hid lb1
      replace lb2 := hid lb2
      clear hc1 hc2
      rcases y0.out with ⟨q1, q2, q3, q4, q5⟩ | ⟨q1, q2, q3, q5⟩ | ⟨q1, q2, q3, q5⟩
      · have d1 : (b0 != b0) = false := by simp
        clear q3 q4
        go_wp2_with fail
        go_roundw
        case rel => exact .inr (.inl ⟨by simp, by rw [q1, q2, Int.add_zero]; exact h.out, rp.out, hE.out⟩)
        case measure => simp [intOf]
      · have d1 : ((16384 : Int) != b0) = true := by simp; omega
        have x1 : ¬ b0 ≤ 16384 := by omega
        have x2 : ¬ b0 < 16384 := by omega
        obtain ⟨W8, hW8, y8, o8⟩ := st1 h.out 4 (.int .i32 16384)
        have i8 := held_cell y8 8 _ rfl
        have j8 := held_free y8 8
        obtain ⟨W9, hW9, y9, o9⟩ := st1 y8 8 (.int .i64 (cu + 1))
        have hE2 := hid (eff_t42 hE.out (eff_t42 (eff_o42 o8) (eff_o42 o9)))
        have rp2 := hid ((o9.block _ (Ne.symm dp.out)).trans ((o8.block _ (Ne.symm dp.out)).trans rp.out))
        replace y9 := hid y9
        clear o8 o9 y8
        go_wp2_with fail
        go_roundw
        case rel => exact .inr (.inl ⟨by simp, by rw [q1, q2]; exact y9.out, rp2.out, hE2.out⟩)
        case measure => simp [intOf]
      · have d1 : (((-16384) : Int) != b0) = true := by simp; omega
        have x1 : ¬ 16384 < b0 := by omega
        have x2 : b0 ≤ 16384 := by omega
        have x3 : b0 ≤ -16384 := by omega
        have x4 : ¬ -16384 < b0 := by omega
        have x5 : ¬ -16384 ≤ b0 := by omega
        obtain ⟨W8, hW8, y8, o8⟩ := st1 h.out 4 (.int .i32 (-16384))
        have i8 := held_cell y8 8 _ rfl
        have j8 := held_free y8 8
        obtain ⟨W9, hW9, y9, o9⟩ := st1 y8 8 (.int .i64 (cu + 1))
        have hE2 := hid (eff_t42 hE.out (eff_t42 (eff_o42 o8) (eff_o42 o9)))
        have rp2 := hid ((o9.block _ (Ne.symm dp.out)).trans ((o8.block _ (Ne.symm dp.out)).trans rp.out))
        replace y9 := hid y9
        clear o8 o9 y8
        go_wp2_with fail
        go_roundw
        case rel => exact .inr (.inl ⟨by simp, by rw [q1, q2]; exact y9.out, rp2.out, hE2.out⟩)
        case measure => simp [intOf]
    · have a0 := held_cell rp 1 _ rfl
      have e5 := held_cell h 5 _ rfl
      have e8 := held_cell h 8 _ rfl
      have f5 := held_free h 5
      have f8 := held_free h 8
      have wc : IntKind.i64.wrap (cu + limK b0 + 1) = cu + limK b0 + 1 := by rw [IntKind.wrap_i64]; omega
      replace h := hid h
      replace rp := hid rp
      replace hE := hid hE
      replace lb0 := hid lb0
      replace lb1 := hid lb1
      replace lb2 := hid lb2
      clear hc1 hc2
      rcases y1.out with ⟨q1, q2, q3, q4, q5⟩ | ⟨q1, q2, q3, q5⟩ | ⟨q1, q2, q3, q5⟩
      · have d1 : (b1 != b1) = false := by simp
        clear q3 q4
        go_wp2_with fail
        go_roundw
        case rel => exact .inr (.inr (.inl ⟨by simp, by rw [q1, q2, Int.add_zero]; exact h.out, rp.out, hE.out⟩))
        case measure => simp [intOf]
      · have d1 : ((16384 : Int) != b1) = true := by simp; omega
        have x1 : ¬ b1 ≤ 16384 := by omega
        have x2 : ¬ b1 < 16384 := by omega
        obtain ⟨W8, hW8, y8, o8⟩ := st1 h.out 5 (.int .i32 16384)
        have i8 := held_cell y8 8 _ rfl
        have j8 := held_free y8 8
        obtain ⟨W9, hW9, y9, o9⟩ := st1 y8 8 (.int .i64 (cu + limK b0 + 1))
        have hE2 := hid (eff_t42 hE.out (eff_t42 (eff_o42 o8) (eff_o42 o9)))
        have rp2 := hid ((o9.block _ (Ne.symm dp.out)).trans ((o8.block _ (Ne.symm dp.out)).trans rp.out))
        replace y9 := hid y9
        clear o8 o9 y8
        go_wp2_with fail
        go_roundw
        case rel => exact .inr (.inr (.inl ⟨by simp, by rw [q1, q2]; exact y9.out, rp2.out, hE2.out⟩))
        case measure => simp [intOf]
      · have d1 : (((-16384) : Int) != b1) = true := by simp; omega
        have x1 : ¬ 16384 < b1 := by omega
        have x2 : b1 ≤ 16384 := by omega
        have x3 : b1 ≤ -16384 := by omega
        have x4 : ¬ -16384 < b1 := by omega
        have x5 : ¬ -16384 ≤ b1 := by omega
        obtain ⟨W8, hW8, y8, o8⟩ := st1 h.out 5 (.int .i32 (-16384))
        have i8 := held_cell y8 8 _ rfl
        have j8 := held_free y8 8
        obtain ⟨W9, hW9, y9, o9⟩ := st1 y8 8 (.int .i64 (cu + limK b0 + 1))
        have hE2 := hid (eff_t42 hE.out (eff_t42 (eff_o42 o8) (eff_o42 o9)))
        have rp2 := hid ((o9.block _ (Ne.symm dp.out)).trans ((o8.block _ (Ne.symm dp.out)).trans rp.out))
        replace y9 := hid y9
        clear o8 o9 y8
        go_wp2_with fail
        go_roundw
        case rel => exact .inr (.inr (.inl ⟨by simp, by rw [q1, q2]; exact y9.out, rp2.out, hE2.out⟩))
        case measure => simp [intOf]
    · have a0 := held_cell rp 2 _ rfl
      have e6 := held_cell h 6 _ rfl
      have e8 := held_cell h 8 _ rfl
      have f6 := held_free h 6
      have f8 := held_free h 8
      have wc : IntKind.i64.wrap (cu + limK b0 + limK b1 + 1) = cu + limK b0 + limK b1 + 1 := by rw [IntKind.wrap_i64]; omega
      replace h := hid h
      replace rp := hid rp
      replace hE := hid hE
      replace lb0 := hid lb0
      replace lb1 := hid lb1
      replace lb2 := hid lb2
      clear hc1 hc2
      rcases y2.out with ⟨q1, q2, q3, q4, q5⟩ | ⟨q1, q2, q3, q5⟩ | ⟨q1, q2, q3, q5⟩
      · have d1 : (b2 != b2) = false := by simp
        clear q3 q4
        go_wp2_with fail
        go_roundw
        case rel => exact .inr (.inr (.inr (⟨by simp, by rw [q1, q2, Int.add_zero]; exact h.out, rp.out, hE.out⟩)))
        case measure => simp [intOf]
      · have d1 : ((16384 : Int) != b2) = true := by simp; omega
        have x1 : ¬ b2 ≤ 16384 := by omega
        have x2 : ¬ b2 < 16384 := by omega
        obtain ⟨W8, hW8, y8, o8⟩ := st1 h.out 6 (.int .i32 16384)
        have i8 := held_cell y8 8 _ rfl
        have j8 := held_free y8 8
        obtain ⟨W9, hW9, y9, o9⟩ := st1 y8 8 (.int .i64 (cu + limK b0 + limK b1 + 1))
        have hE2 := hid (eff_t42 hE.out (eff_t42 (eff_o42 o8) (eff_o42 o9)))
        have rp2 := hid ((o9.block _ (Ne.symm dp.out)).trans ((o8.block _ (Ne.symm dp.out)).trans rp.out))
        replace y9 := hid y9
        clear o8 o9 y8
        go_wp2_with fail
        go_roundw
        case rel => exact .inr (.inr (.inr (⟨by simp, by rw [q1, q2]; exact y9.out, rp2.out, hE2.out⟩)))
        case measure => simp [intOf]
      · have d1 : (((-16384) : Int) != b2) = true := by simp; omega
        have x1 : ¬ 16384 < b2 := by omega
        have x2 : b2 ≤ 16384 := by omega
        have x3 : b2 ≤ -16384 := by omega
        have x4 : ¬ -16384 < b2 := by omega
        have x5 : ¬ -16384 ≤ b2 := by omega
        obtain ⟨W8, hW8, y8, o8⟩ := st1 h.out 6 (.int .i32 (-16384))
        have i8 := held_cell y8 8 _ rfl
        have j8 := held_free y8 8
        obtain ⟨W9, hW9, y9, o9⟩ := st1 y8 8 (.int .i64 (cu + limK b0 + limK b1 + 1))
        have hE2 := hid (eff_t42 hE.out (eff_t42 (eff_o42 o8) (eff_o42 o9)))
        have rp2 := hid ((o9.block _ (Ne.symm dp.out)).trans ((o8.block _ (Ne.symm dp.out)).trans rp.out))
        replace y9 := hid y9
        clear o8 o9 y8
        go_wp2_with fail
        go_roundw
        case rel => exact .inr (.inr (.inr (⟨by simp, by rw [q1, q2]; exact y9.out, rp2.out, hE2.out⟩)))
        case measure => simp [intOf]
    · go_wp2_with fail
      go_end0
      exact ⟨rfl, hE, h⟩
set_option maxHeartbeats 8000000 in
theorem turn_any42 (p : Nat) (q0 q1 q2 q3 b0 b1 b2 st cu g0 g1 g2 a0 a1 a2 d r0 r1 r2 : Int) (w : World) (h : w.heap[p]? = some (.cells (wk q0 q1 q2 q3 b0 b1 b2 st cu g0 g1 g2 a0 a1 a2 d r0 r1 r2) 60 (0, 0))) (n0 n1 n2 n3 k : Int) (hT : ∀ U, Calls Tryz.prog 62 #[.agg #[.int .i32 q0, .int .i32 q1, .int .i32 q2, .int .i32 q3], .agg #[.int .i32 r0, .int .i32 r1, .int .i32 r2], .int .i32 d] U fun e U' => e = .returned (.tuple #[.agg #[.int .i32 n0, .int .i32 n1, .int .i32 n2, .int .i32 n3], .int .i64 k]) ∧ Below U.heap.size U U') (hs1 : 0 ≤ st) (hs2 : st ≤ 2305843009213693952) (hc1 : 0 ≤ cu) (hc2 : cu ≤ 2305843009213693952) (hk1 : 0 ≤ k) (hk2 : k ≤ 100) : Calls Tryz.prog 32 #[.pointer (some ⟨p, 0, none⟩)] w fun r w' => r = .returned (.tuple #[]) ∧ Eff p w w' ∧ w'.heap[p]? = some (.cells (wk n0 n1 n2 n3 b0 b1 b2 (st + 1) (cu + k) g0 g1 g2 a0 a1 a2 d r0 r1 r2) 60 (0, 0)) := by
  have h : w.heap[p]? = some (.cells #[.int .i32 q0, .int .i32 q1, .int .i32 q2, .int .i32 q3, .int .i32 b0, .int .i32 b1, .int .i32 b2, .int .i64 st, .int .i64 cu, .int .i32 g0, .int .i32 g1, .int .i32 g2, .int .i32 a0, .int .i32 a1, .int .i32 a2, .int .i32 d, .int .i32 r0, .int .i32 r1, .int .i32 r2] 60 (0, 0)) := h
  have hlt := held_lt h
  replace hT := hid hT
  go_enter Tryz.func32, Tryz.ntmps32
  go_upto_region 0 with (fail)
  apply wp_region_seg (w := w) (S := [.q [], .q [], .q [], .q [], .q [], .q [], .q [], .q [], .q [], .q [], .q [], .q [], .q [], .q [], .q [], .q [], .q [], .al 18, .st 17 [], .q []]) (E := [.q0 _, .q0 _, .q0 _, .q0 _, .q0 _, .q0 _, .q0 _, .q0 _, .q0 _, .q0 _, .q0 _, .q0 _, .q0 _, .c0 _, .q0 _, .q0 _, .q0 _, .al ((fun p => .pointer (some ⟨p, 0, none⟩)), _) 18, .s0 17 (.cells _ _), .q0 _]) (by kernel_rfl) rfl (by kernel_rfl) rfl rfl
  intro th hge hne
  iterate 4 refine Seg.sq ?_
  refine Seg.sq ?_ (ht := Or.inl ⟨by rfl, fun U hU => vp_quiet (by (have h0 := held_cell (held_after hU.1 h) 0 _ rfl; have h1 := held_cell (held_after hU.1 h) 1 _ rfl; have h2 := held_cell (held_after hU.1 h) 2 _ rfl; have h3 := held_cell (held_after hU.1 h) 3 _ rfl; go_simp <;> exact rfl))⟩)
  iterate 3 refine Seg.sq ?_
  refine Seg.sq ?_ (ht := Or.inl ⟨by rfl, fun U hU => vp_quiet (by (have h0 := held_cell (held_after hU.1 h) 16 _ rfl; have h1 := held_cell (held_after hU.1 h) 17 _ rfl; have h2 := held_cell (held_after hU.1 h) 18 _ rfl; go_simp <;> exact rfl))⟩)
  iterate 3 refine Seg.sq ?_
  refine Seg.sq ?_ (ht := Or.inl ⟨by rfl, fun U hU => vp_quiet (by (have h0 := held_cell (held_after hU.1 h) 15 _ rfl; go_simp <;> exact rfl))⟩)
  refine Seg.step _ rfl (Or.inl ⟨by rfl, fun U hU => ?_⟩) ?_
  · go_simp
    refine vp_call (hT.out _)
  refine Seg.sa ?_
  iterate 3 refine Seg.sq ?_
  refine Seg.step _ rfl ⟨by rfl, fun U hU => ?_⟩ ?_
  · go_simp; exact vp_alloc rfl rfl rfl
  refine Seg.sa ?_
  refine Seg.step _ rfl ⟨by rfl, fun U z k hz hU hc => ?_⟩ ?_
  · have hz2 := Option.some.inj hz
    cases hz2; clear hz
    exact vp_store_agg _ _ _ rfl hc rfl rfl (by kernel_rfl) rfl (by rfl)
  refine Seg.sa ?_
  refine Seg.sq ?_
  refine Seg.stop (fun U1 hU hk => ?_)
  have nb17 := hge 17 _ _ rfl
  have rb17 := (hk 17 _ 18 rfl trivial).1.1 trivial _ (Nat.zero_le _) rfl
  clear hk hge hne
  generalize th (0 + 17) = p0_17 at *
  simp only [Ent.obj] at rb17
  have df_p_p0_17 : p ≠ p0_17 := by have := held_lt h; omega
  replace h := held_after hU h
  have r_p0_17 := rb17
  clear rb17
  have n_p0_17 := nb17
  clear nb17
  have sz1 := hU.size
  have hB : Below w.heap.size w U1 := hU
  clear hU
  have hE0 := hid (eff_a42 (g := p) hB)
  have dp := hid df_p_p0_17
  clear hB sz1 hlt df_p_p0_17 hT
  have wc : IntKind.i64.wrap (cu + k) = cu + k := (by rw [IntKind.wrap_i64]; omega)
  have ws : IntKind.i64.wrap (st + 1) = st + 1 := (by rw [IntKind.wrap_i64]; omega)
  clear hs1 hs2 hc1 hc2 hk1 hk2
  have x0 := held_cell r_p0_17 0 _ rfl
  have x1 := held_cell r_p0_17 1 _ rfl
  have x2 := held_cell r_p0_17 2 _ rfl
  have x3 := held_cell r_p0_17 3 _ rfl
  have e0 := held_cell h 0 _ rfl
  have e1 := held_cell h 1 _ rfl
  have e2 := held_cell h 2 _ rfl
  have e3 := held_cell h 3 _ rfl
  have f0 := held_free h 0
  have f1 := held_free h 1
  have f2 := held_free h 2
  have f3 := held_free h 3
  obtain ⟨W7, hW7, y7, o7⟩ := set4_42 h 0 1 2 3 (.int .i32 n0) (.int .i32 n1) (.int .i32 n2) (.int .i32 n3)
  have e8 := held_cell y7 8 _ rfl
  have f8 := held_free y7 8
  obtain ⟨W8, hW8, y8, o8⟩ := st1 y7 8 (.int .i64 (cu + k))
  have i7 := held_cell y8 7 _ rfl
  have j7 := held_free y8 7
  obtain ⟨W9, hW9, y9, o9⟩ := st1 y8 7 (.int .i64 (st + 1))
  have hE := hid (eff_t42 hE0.out (eff_t42 (eff_o42 o7) (eff_t42 (eff_o42 o8) (eff_o42 o9))))
  replace y9 := hid y9
  clear o7 o8 o9 y7 y8 h r_p0_17 hE0
  go_wp2_with fail
  go_end0
  exact ⟨rfl, hE.out, y9.out⟩
end Go.Proofs.YtpdpcdifnlellaaGreat

/- Package fuse: Step, Word, Start. -/
namespace Go.Proofs.YtpdpcdifnlellaaGreat
open Go.ChangeShapes Go.WideShapes Go.ChangeAt Go.RowKit
set_option maxRecDepth 100000
set_option linter.unusedVariables false
set_option linter.unusedSimpArgs false

/-- One turned by a rate for a time, in letters. -/
def TurnL (q0 q1 q2 q3 R0 R1 R2 d Q0 Q1 Q2 Q3 kt : Int) : Prop :=
  ∃ (m0 m1 m2 m3 n u0 u1 u2 u3 : Int) (ok : Bool), mulV q0 q1 q2 q3 1073741824 (clampS (roundS (R0 * d) 3)) (clampS (roundS (R1 * d) 3)) (clampS (roundS (R2 * d) 3)) = .tuple #[.agg #[.int .i32 m0, .int .i32 m1, .int .i32 m2, .int .i32 m3], .int .i64 n] ∧ B32 m0 ∧ B32 m1 ∧ B32 m2 ∧ B32 m3 ∧ (0 ≤ n ∧ n ≤ 4) ∧
    unitT4 m0 m1 m2 m3 = .tuple #[.agg #[.int .i32 u0, .int .i32 u1, .int .i32 u2, .int .i32 u3], .bool ok] ∧
    stepR ok u0 u1 u2 u3 (n + (oneIf (clampB (roundS (R0 * d) 3)) + oneIf (clampB (roundS (R1 * d) 3)) + oneIf (clampB (roundS (R2 * d) 3)))) = .tuple #[.agg #[.int .i32 Q0, .int .i32 Q1, .int .i32 Q2, .int .i32 Q3], .int .i64 kt]
theorem step_k {ok : Bool} {u0 u1 u2 u3 k v0 v1 v2 v3 n : Int} (h : stepR ok u0 u1 u2 u3 k = .tuple #[.agg #[.int .i32 v0, .int .i32 v1, .int .i32 v2, .int .i32 v3], .int .i64 n]) (h1 : 0 ≤ k) (h2 : k ≤ 7) : 0 ≤ n ∧ n ≤ 8 := by
  cases ok
  · have e : stepR false u0 u1 u2 u3 k = .tuple #[.agg #[.int .i32 1073741824, .int .i32 0, .int .i32 0, .int .i32 0], .int .i64 (k + 1)] := rfl
    rw [e] at h
    injection h with h
    simp at h
    omega
  · have e : stepR true u0 u1 u2 u3 k = .tuple #[.agg #[.int .i32 u0, .int .i32 u1, .int .i32 u2, .int .i32 u3], .int .i64 k] := rfl
    rw [e] at h
    injection h with h
    simp at h
    omega
theorem turn_form (q0 q1 q2 q3 R0 R1 R2 d : Int) : ∃ Q0 Q1 Q2 Q3 kt, TurnL q0 q1 q2 q3 R0 R1 R2 d Q0 Q1 Q2 Q3 kt ∧ (B32 Q0 ∧ B32 Q1 ∧ B32 Q2 ∧ B32 Q3) ∧ (offS (sqs [Q0, Q1, Q2, Q3] 0) ≤ 8589934592 ∧ 0 ≤ offS (sqs [Q0, Q1, Q2, Q3] 0)) ∧ 0 ≤ kt ∧ kt ≤ 8 := by
  obtain ⟨m0, m1, m2, m3, n, hM, b0, b1, b2, b3, hn⟩ := mul_form q0 q1 q2 q3 1073741824 (clampS (roundS (R0 * d) 3)) (clampS (roundS (R1 * d) 3)) (clampS (roundS (R2 * d) 3))
  obtain ⟨u0, u1, u2, u3, ok, hU, hO⟩ := unit4_off m0 m1 m2 m3 b0 b1 b2 b3
  have e0 := oneIf_b (clampB (roundS (R0 * d) 3))
  have e1 := oneIf_b (clampB (roundS (R1 * d) 3))
  have e2 := oneIf_b (clampB (roundS (R2 * d) 3))
  obtain ⟨v0, v1, v2, v3, k, hF, c0, c1, c2, c3, hO1, hO2⟩ := step_off (n + (oneIf (clampB (roundS (R0 * d) 3)) + oneIf (clampB (roundS (R1 * d) 3)) + oneIf (clampB (roundS (R2 * d) 3)))) hO
  exact ⟨v0, v1, v2, v3, k, ⟨m0, m1, m2, m3, n, u0, u1, u2, u3, ok, hM, b0, b1, b2, b3, hn, hU, hF⟩, ⟨c0, c1, c2, c3⟩, ⟨hO1, hO2⟩, step_k hF (by omega) (by omega)⟩
theorem turn_code {q0 q1 q2 q3 R0 R1 R2 d Q0 Q1 Q2 Q3 kt : Int} (h : TurnL q0 q1 q2 q3 R0 R1 R2 d Q0 Q1 Q2 Q3 kt) (p0 : B32 q0) (p1 : B32 q1) (p2 : B32 q2) (p3 : B32 q3) (s0 : B32 R0) (s1 : B32 R1) (s2 : B32 R2) (pd : B32 d) (U : World) : Calls Tryz.prog 62 #[.agg #[.int .i32 q0, .int .i32 q1, .int .i32 q2, .int .i32 q3], .agg #[.int .i32 R0, .int .i32 R1, .int .i32 R2], .int .i32 d] U fun e U' => e = .returned (.tuple #[.agg #[.int .i32 Q0, .int .i32 Q1, .int .i32 Q2, .int .i32 Q3], .int .i64 kt]) ∧ Below U.heap.size U U' := by
  obtain ⟨m0, m1, m2, m3, n, u0, u1, u2, u3, ok, hM, b0, b1, b2, b3, hn, hU, hR⟩ := h
  rw [← hR]
  exact step_any q0 q1 q2 q3 R0 R1 R2 d U p0 p1 p2 p3 s0 s1 s2 pd m0 m1 m2 m3 n hM b0 b1 b2 b3 hn u0 u1 u2 u3 ok hU
theorem turn_ref {q0 q1 q2 q3 R0 R1 R2 d Q0 Q1 Q2 Q3 kt : Int} (h : TurnL q0 q1 q2 q3 R0 R1 R2 d Q0 Q1 Q2 Q3 kt) (p0 : B32 q0) (p1 : B32 q1) (p2 : B32 q2) (p3 : B32 q3) (s0 : B32 R0) (s1 : B32 R1) (s2 : B32 R2) (pd : B32 d) (U : World) : Calls Tryz.prog 37 #[.agg #[.int .i32 q0, .int .i32 q1, .int .i32 q2, .int .i32 q3], .agg #[.int .i32 R0, .int .i32 R1, .int .i32 R2], .int .i32 d] U fun e U' => e = .returned (.tuple #[.agg #[.int .i32 Q0, .int .i32 Q1, .int .i32 Q2, .int .i32 Q3], .int .i64 kt]) ∧ Below U.heap.size U U' := by
  obtain ⟨m0, m1, m2, m3, n, u0, u1, u2, u3, ok, hM, b0, b1, b2, b3, hn, hU, hR⟩ := h
  rw [← hR]
  exact rstep_any q0 q1 q2 q3 R0 R1 R2 d U p0 p1 p2 p3 s0 s1 s2 pd m0 m1 m2 m3 n hM b0 b1 b2 b3 hn u0 u1 u2 u3 ok hU
/-- A step of the filter, in letters. -/
def StepL (q0 q1 q2 q3 b0 b1 b2 g0 g1 g2 a0 a1 a2 d Q0 Q1 Q2 Q3 B0 B1 B2 N : Int) : Prop :=
  ∃ (r0 r1 r2 k1 C0 C1 C2 R0 R1 R2 K kt : Int), cut3 (fun i => sel i g0 g1 g2 - sel i b0 b1 b2) = .tuple #[.agg #[.int .i32 r0, .int .i32 r1, .int .i32 r2], .int .i64 k1] ∧ (B32 r0 ∧ B32 r1 ∧ B32 r2) ∧ (0 ≤ k1 ∧ k1 ≤ 3) ∧ LeanL q0 q1 q2 q3 b0 b1 b2 a0 a1 a2 d r0 r1 r2 C0 C1 C2 R0 R1 R2 K ∧ (B32 C0 ∧ B32 C1 ∧ B32 C2) ∧ (B32 R0 ∧ B32 R1 ∧ B32 R2) ∧ (0 ≤ K ∧ K ≤ 15) ∧
    TurnL q0 q1 q2 q3 R0 R1 R2 d Q0 Q1 Q2 Q3 kt ∧ (0 ≤ kt ∧ kt ≤ 8) ∧ B0 = limS C0 ∧ B1 = limS C1 ∧ B2 = limS C2 ∧ N = k1 + K + limK C0 + limK C1 + limK C2 + kt
theorem step_form (q0 q1 q2 q3 b0 b1 b2 g0 g1 g2 a0 a1 a2 d : Int) (hb : B32 b0 ∧ B32 b1 ∧ B32 b2) : ∃ Q0 Q1 Q2 Q3 B0 B1 B2 N, StepL q0 q1 q2 q3 b0 b1 b2 g0 g1 g2 a0 a1 a2 d Q0 Q1 Q2 Q3 B0 B1 B2 N ∧ (B32 Q0 ∧ B32 Q1 ∧ B32 Q2 ∧ B32 Q3) ∧ (offS (sqs [Q0, Q1, Q2, Q3] 0) ≤ 8589934592 ∧ 0 ≤ offS (sqs [Q0, Q1, Q2, Q3] 0)) ∧ (-16384 ≤ B0 ∧ B0 ≤ 16384 ∧ -16384 ≤ B1 ∧ B1 ≤ 16384 ∧ -16384 ≤ B2 ∧ B2 ≤ 16384) ∧ 0 ≤ N ∧ N ≤ 29 := by
  obtain ⟨r0, r1, r2, k1, hr, i0, i1, i2, i3, i4⟩ := cut3_form (fun i => sel i g0 g1 g2 - sel i b0 b1 b2)
  obtain ⟨C0, C1, C2, R0, R1, R2, K, hL, hC, hR, hK⟩ := lean_form q0 q1 q2 q3 b0 b1 b2 a0 a1 a2 d r0 r1 r2 hb ⟨i0, i1, i2⟩
  obtain ⟨Q0, Q1, Q2, Q3, kt, hT, hQ, hO, hk⟩ := turn_form q0 q1 q2 q3 R0 R1 R2 d
  have l0 := lim_bd C0
  have l1 := lim_bd C1
  have l2 := lim_bd C2
  exact ⟨Q0, Q1, Q2, Q3, _, _, _, _, ⟨r0, r1, r2, k1, C0, C1, C2, R0, R1, R2, K, kt, hr, ⟨i0, i1, i2⟩, ⟨i3, i4⟩, hL, hC, hR, hK, hT, hk, rfl, rfl, rfl, rfl⟩, hQ, hO, by omega, by omega, by omega⟩
theorem eff_bel42 {B g : Nat} {w A V : World} (hb : Below B w A) (he : Eff g A V) (hg : B ≤ g) (hA : B ≤ A.heap.size) : Below B w V :=
  hb.trans ⟨he.os, he.tape, he.output, he.size, fun k hk => he.block k (by omega) (by omega)⟩
set_option maxHeartbeats 32000000 in
theorem fstep_any (q0 q1 q2 q3 b0 b1 b2 g0 g1 g2 a0 a1 a2 d st cu : Int) (w : World) (t0 : B32 q0) (t1 : B32 q1) (t2 : B32 q2) (t3 : B32 q3) (p0 : B32 b0) (p1 : B32 b1) (p2 : B32 b2) (v0 : B32 g0) (v1 : B32 g1) (v2 : B32 g2) (s0 : B32 a0) (s1 : B32 a1) (s2 : B32 a2) (pd : B32 d) (hs1 : 0 ≤ st) (hs2 : st ≤ 1152921504606846976) (hc1 : 0 ≤ cu) (hc2 : cu ≤ 1152921504606846976) (Q0 Q1 Q2 Q3 B0 B1 B2 N : Int) (hS : StepL q0 q1 q2 q3 b0 b1 b2 g0 g1 g2 a0 a1 a2 d Q0 Q1 Q2 Q3 B0 B1 B2 N) : Calls Tryz.prog 10 #[.agg #[.int .i32 q0, .int .i32 q1, .int .i32 q2, .int .i32 q3, .int .i32 b0, .int .i32 b1, .int .i32 b2, .int .i64 st, .int .i64 cu], .agg #[.int .i32 g0, .int .i32 g1, .int .i32 g2], .agg #[.int .i32 a0, .int .i32 a1, .int .i32 a2], .int .i32 d] w fun e w' => e = .returned (.agg #[.int .i32 Q0, .int .i32 Q1, .int .i32 Q2, .int .i32 Q3, .int .i32 B0, .int .i32 B1, .int .i32 B2, .int .i64 (st + 1), .int .i64 (cu + N)]) ∧ Below w.heap.size w w' := by
  obtain ⟨r0, r1, r2, k1, C0, C1, C2, R0, R1, R2, K, kt, hr, ⟨br0, br1, br2⟩, ⟨k1a, k1b⟩, hL, ⟨bC0, bC1, bC2⟩, ⟨bR0, bR1, bR2⟩, ⟨hK1, hK2⟩, hT, ⟨kt1, kt2⟩, rfl, rfl, rfl, rfl⟩ := hS
  have l0 := lim_bd C0
  have l1 := lim_bd C1
  have l2 := lim_bd C2
  have c0 := hid (fun (p : Nat) U hh => straight_any p q0 q1 q2 q3 b0 b1 b2 st cu g0 g1 g2 a0 a1 a2 d 0 0 0 U hh p0 p1 p2 v0 v1 v2 hc1 (by omega) r0 r1 r2 k1 hr k1a k1b)
  have c1 := hid (fun (p : Nat) U hh => lean_any p q0 q1 q2 q3 b0 b1 b2 st (cu + k1) g0 g1 g2 a0 a1 a2 d r0 r1 r2 U hh t0 t1 t2 t3 p0 p1 p2 s0 s1 s2 br0 br1 br2 pd (by omega) (by omega) C0 C1 C2 R0 R1 R2 K hL)
  have c2 := hid (fun (p : Nat) U hh => hold_any p q0 q1 q2 q3 C0 C1 C2 st (cu + k1 + K) g0 g1 g2 a0 a1 a2 d R0 R1 R2 U hh bC0 bC1 bC2 (by omega) (by omega))
  have c3 := hid (fun (p : Nat) U hh => turn_any42 p q0 q1 q2 q3 (limS C0) (limS C1) (limS C2) st (cu + k1 + K + limK C0 + limK C1 + limK C2) g0 g1 g2 a0 a1 a2 d R0 R1 R2 U hh Q0 Q1 Q2 Q3 kt (fun U => turn_code hT t0 t1 t2 t3 bR0 bR1 bR2 pd U) hs1 (by omega) (by omega) (by omega) kt1 (by omega))
  have hfin : cu + (k1 + K + limK C0 + limK C1 + limK C2 + kt) = cu + k1 + K + limK C0 + limK C1 + limK C2 + kt := by omega
  rw [hfin]
  clear hfin hr br0 br1 br2 k1a k1b hL bC0 bC1 bC2 bR0 bR1 bR2 hK1 hK2 hT kt1 kt2 l0 l1 l2 hs1 hs2 hc1 hc2 t0 t1 t2 t3 p0 p1 p2 v0 v1 v2 s0 s1 s2 pd
  go_enter Tryz.func10, Tryz.ntmps10
  go_upto_region 0 with (fail)
  apply wp_region_seg0 (w := w) (S := [.al 1000, .al 1000, .al 1000, .al 1000]) (E := [.al ((fun p => .pointer (some ⟨p, 0, none⟩)), _) 1000, .al ((fun p => .pointer (some ⟨p, 0, none⟩)), _) 1000, .al ((fun p => .pointer (some ⟨p, 0, none⟩)), _) 1000, .al ((fun p => .pointer (some ⟨p, 0, none⟩)), _) 1000]) rfl (by kernel_rfl) rfl rfl
  intro th hge hne
  refine Seg.step _ rfl ⟨by rfl, fun U hU => ?_⟩ ?_
  · go_simp; exact vp_alloc rfl rfl rfl
  refine Seg.sa ?_
  refine Seg.step _ rfl ⟨by rfl, fun U hU => ?_⟩ ?_
  · go_simp; exact vp_alloc rfl rfl rfl
  refine Seg.sa ?_
  refine Seg.step _ rfl ⟨by rfl, fun U hU => ?_⟩ ?_
  · go_simp; exact vp_alloc rfl rfl rfl
  refine Seg.sa ?_
  refine Seg.step _ rfl ⟨by rfl, fun U hU => ?_⟩ ?_
  · go_simp; exact vp_alloc rfl rfl rfl
  refine Seg.sa ?_
  refine Seg.stop (fun U1 hU hk => ?_)
  have nb0 := hge 0 _ _ rfl
  have rb0 := (hk 0 _ _ rfl trivial).1.2 (by simp)
  have nb1 := hge 1 _ _ rfl
  have rb1 := (hk 1 _ _ rfl trivial).1.2 (by simp)
  have nb2 := hge 2 _ _ rfl
  have rb2 := (hk 2 _ _ rfl trivial).1.2 (by simp)
  have nb3 := hge 3 _ _ rfl
  have rb3 := (hk 3 _ _ rfl trivial).1.2 (by simp)
  have ne0_1 := hne 0 1 _ _ _ _ rfl rfl (by omega)
  have ne0_2 := hne 0 2 _ _ _ _ rfl rfl (by omega)
  have ne1_2 := hne 1 2 _ _ _ _ rfl rfl (by omega)
  have ne0_3 := hne 0 3 _ _ _ _ rfl rfl (by omega)
  have ne1_3 := hne 1 3 _ _ _ _ rfl rfl (by omega)
  have ne2_3 := hne 2 3 _ _ _ _ rfl rfl (by omega)
  clear hk hge hne
  generalize th (0 + 0) = p0_0 at *
  dsimp only at rb0
  generalize th (0 + 1) = p0_1 at *
  dsimp only at rb1
  generalize th (0 + 2) = p0_2 at *
  dsimp only at rb2
  generalize th (0 + 3) = p0_3 at *
  dsimp only at rb3
  have r_p0_0 := rb0
  clear rb0
  have n_p0_0 := nb0
  clear nb0
  have d_p0_0_p0_1 := ne0_1
  clear ne0_1
  have d_p0_0_p0_2 := ne0_2
  clear ne0_2
  have d_p0_0_p0_3 := ne0_3
  clear ne0_3
  have r_p0_1 := rb1
  clear rb1
  have n_p0_1 := nb1
  clear nb1
  have d_p0_1_p0_2 := ne1_2
  clear ne1_2
  have d_p0_1_p0_3 := ne1_3
  clear ne1_3
  have r_p0_2 := rb2
  clear rb2
  have n_p0_2 := nb2
  clear nb2
  have d_p0_2_p0_3 := ne2_3
  clear ne2_3
  have r_p0_3 := rb3
  clear rb3
  have n_p0_3 := nb3
  clear nb3
  have sz1 := hU.size
  have hB : Below w.heap.size w U1 := hU
  clear hU
  go_upto_region 1 with (fail)
  apply wp_region_seg0 (w := U1) (S := [.q [], .q [], .q [], .q [], .q [], .al 1000, .q [5]]) (E := [.q0 _, .q0 _, .q0 _, .q0 _, .q0 _, .al ((fun p => .pointer (some ⟨p, 0, none⟩)), _) 1000, .q1 5 (fun p => .pointer (some ⟨p, 0, none⟩))]) rfl (by kernel_rfl) rfl rfl
  intro th hge hne
  refine Seg.sq ?_ (ht := Or.inl ⟨by rfl, fun U hU => vp_quiet (by (have h0 := held_cell (held_after hU.1 r_p0_0) 0 _ rfl; have h1 := held_cell (held_after hU.1 r_p0_0) 1 _ rfl; have h2 := held_cell (held_after hU.1 r_p0_0) 2 _ rfl; have h3 := held_cell (held_after hU.1 r_p0_0) 3 _ rfl; have h4 := held_cell (held_after hU.1 r_p0_0) 4 _ rfl; have h5 := held_cell (held_after hU.1 r_p0_0) 5 _ rfl; have h6 := held_cell (held_after hU.1 r_p0_0) 6 _ rfl; have h7 := held_cell (held_after hU.1 r_p0_0) 7 _ rfl; have h8 := held_cell (held_after hU.1 r_p0_0) 8 _ rfl; go_simp <;> exact rfl))⟩)
  refine Seg.sq ?_ (ht := Or.inl ⟨by rfl, fun U hU => vp_quiet (by (have h0 := held_cell (held_after hU.1 r_p0_1) 0 _ rfl; have h1 := held_cell (held_after hU.1 r_p0_1) 1 _ rfl; have h2 := held_cell (held_after hU.1 r_p0_1) 2 _ rfl; go_simp <;> exact rfl))⟩)
  refine Seg.sq ?_ (ht := Or.inl ⟨by rfl, fun U hU => vp_quiet (by (have h0 := held_cell (held_after hU.1 r_p0_2) 0 _ rfl; have h1 := held_cell (held_after hU.1 r_p0_2) 1 _ rfl; have h2 := held_cell (held_after hU.1 r_p0_2) 2 _ rfl; go_simp <;> exact rfl))⟩)
  refine Seg.sq ?_
  refine Seg.sq ?_
  refine Seg.step _ rfl ⟨by rfl, fun U hU => ?_⟩ ?_
  · go_simp; exact vp_alloc rfl rfl rfl
  refine Seg.sa ?_
  refine Seg.sq ?_
  refine Seg.stop (fun U2 hU hk => ?_)
  have nb5 := hge 5 _ _ rfl
  have rb5 := (hk 5 _ _ rfl trivial).1.2 (by simp)
  clear hk hge hne
  generalize th (0 + 5) = p1_5 at *
  dsimp only at rb5
  have df_p0_0_p1_5 : p0_0 ≠ p1_5 := by have := held_lt r_p0_0; omega
  have df_p0_1_p1_5 : p0_1 ≠ p1_5 := by have := held_lt r_p0_1; omega
  have df_p0_2_p1_5 : p0_2 ≠ p1_5 := by have := held_lt r_p0_2; omega
  have df_p0_3_p1_5 : p0_3 ≠ p1_5 := by have := held_lt r_p0_3; omega
  replace r_p0_0 := held_after hU r_p0_0
  replace r_p0_1 := held_after hU r_p0_1
  replace r_p0_2 := held_after hU r_p0_2
  replace r_p0_3 := held_after hU r_p0_3
  have r_p1_5 := rb5
  clear rb5
  have n_p1_5 := nb5
  clear nb5
  have sz2 := hU.size
  replace hB := bthen hB hU
  clear hU
  go_upto_region 2 with (fail)
  apply wp_region_seg0 (w := U2) (S := [.al 1000, .q [0]]) (E := [.al ((fun p => .slice (some ⟨p, 0, none⟩) 4 4), _) 1000, .q1 0 (fun p => .slice (some ⟨p, 0, none⟩) 4 4)]) rfl (by kernel_rfl) rfl rfl
  intro th hge hne
  refine Seg.step _ rfl ⟨by rfl, fun U hU => ?_⟩ ?_
  · go_simp; exact vp_alloc rfl rfl rfl
  refine Seg.sa ?_
  refine Seg.sq ?_
  refine Seg.stop (fun U3 hU hk => ?_)
  have nb0 := hge 0 _ _ rfl
  have rb0 := (hk 0 _ _ rfl trivial).1.2 (by simp)
  clear hk hge hne
  generalize th (0 + 0) = p2_0 at *
  dsimp only at rb0
  have df_p0_0_p2_0 : p0_0 ≠ p2_0 := by have := held_lt r_p0_0; omega
  have df_p0_1_p2_0 : p0_1 ≠ p2_0 := by have := held_lt r_p0_1; omega
  have df_p0_2_p2_0 : p0_2 ≠ p2_0 := by have := held_lt r_p0_2; omega
  have df_p0_3_p2_0 : p0_3 ≠ p2_0 := by have := held_lt r_p0_3; omega
  have df_p1_5_p2_0 : p1_5 ≠ p2_0 := by have := held_lt r_p1_5; omega
  replace r_p0_0 := held_after hU r_p0_0
  replace r_p0_1 := held_after hU r_p0_1
  replace r_p0_2 := held_after hU r_p0_2
  replace r_p0_3 := held_after hU r_p0_3
  replace r_p1_5 := held_after hU r_p1_5
  have r_p2_0 := rb0
  clear rb0
  have n_p2_0 := nb0
  clear nb0
  have sz3 := hU.size
  replace hB := bthen hB hU
  clear hU
  have hw : U3.heap[p1_5]? = some (.cells (#[.int .i32 q0, .int .i32 q1, .int .i32 q2, .int .i32 q3, .int .i32 b0, .int .i32 b1, .int .i32 b2, .int .i64 st, .int .i64 cu, .int .i32 g0, .int .i32 g1, .int .i32 g2, .int .i32 a0, .int .i32 a1, .int .i32 a2, .int .i32 d, .int .i32 0, .int .i32 0, .int .i32 0]) 60 (0, 0)) := r_p1_5
  have sp := hid (show w.heap.size ≤ p1_5 by omega)
  have d8 := hid df_p0_3_p1_5
  have d2 := hid (Ne.symm df_p1_5_p2_0)
  have s8 := hid (show w.heap.size ≤ p0_3 by omega)
  have rg8 := hid r_p0_3
  have rg2 := r_p2_0
  clear r_p1_5 r_p0_3 r_p2_0 r_p0_0 r_p0_1 r_p0_2 n_p0_0 n_p0_1 n_p0_2 n_p0_3 n_p1_5 n_p2_0
  go_wp2_with fail
  go_loopw [22] (fun ix wr => (ix = .int .i64 0 ∧ wr.heap[p1_5]? = some (.cells (#[.int .i32 q0, .int .i32 q1, .int .i32 q2, .int .i32 q3, .int .i32 b0, .int .i32 b1, .int .i32 b2, .int .i64 st, .int .i64 cu, .int .i32 g0, .int .i32 g1, .int .i32 g2, .int .i32 a0, .int .i32 a1, .int .i32 a2, .int .i32 d, .int .i32 0, .int .i32 0, .int .i32 0]) 60 (0, 0)) ∧ wr.heap[p2_0]? = some (.cells #[.func (.func 29) #[] #[], .func (.func 30) #[] #[], .func (.func 31) #[] #[], .func (.func 32) #[] #[]] 61 (0, 0)) ∧ wr.heap[p0_3]? = some (.cells #[.int .i32 0, .int .i32 0, .int .i32 0, .int .i32 0, .int .i32 0, .int .i32 0, .int .i32 0, .int .i64 0, .int .i64 0] 34 (0, 0)) ∧ Below w.heap.size w wr) ∨ (ix = .int .i64 1 ∧ wr.heap[p1_5]? = some (.cells (#[.int .i32 q0, .int .i32 q1, .int .i32 q2, .int .i32 q3, .int .i32 b0, .int .i32 b1, .int .i32 b2, .int .i64 st, .int .i64 (cu + k1), .int .i32 g0, .int .i32 g1, .int .i32 g2, .int .i32 a0, .int .i32 a1, .int .i32 a2, .int .i32 d, .int .i32 r0, .int .i32 r1, .int .i32 r2]) 60 (0, 0)) ∧ wr.heap[p2_0]? = some (.cells #[.func (.func 29) #[] #[], .func (.func 30) #[] #[], .func (.func 31) #[] #[], .func (.func 32) #[] #[]] 61 (0, 0)) ∧ wr.heap[p0_3]? = some (.cells #[.int .i32 0, .int .i32 0, .int .i32 0, .int .i32 0, .int .i32 0, .int .i32 0, .int .i32 0, .int .i64 0, .int .i64 0] 34 (0, 0)) ∧ Below w.heap.size w wr) ∨ (ix = .int .i64 2 ∧ wr.heap[p1_5]? = some (.cells (#[.int .i32 q0, .int .i32 q1, .int .i32 q2, .int .i32 q3, .int .i32 C0, .int .i32 C1, .int .i32 C2, .int .i64 st, .int .i64 (cu + k1 + K), .int .i32 g0, .int .i32 g1, .int .i32 g2, .int .i32 a0, .int .i32 a1, .int .i32 a2, .int .i32 d, .int .i32 R0, .int .i32 R1, .int .i32 R2]) 60 (0, 0)) ∧ wr.heap[p2_0]? = some (.cells #[.func (.func 29) #[] #[], .func (.func 30) #[] #[], .func (.func 31) #[] #[], .func (.func 32) #[] #[]] 61 (0, 0)) ∧ wr.heap[p0_3]? = some (.cells #[.int .i32 0, .int .i32 0, .int .i32 0, .int .i32 0, .int .i32 0, .int .i32 0, .int .i32 0, .int .i64 0, .int .i64 0] 34 (0, 0)) ∧ Below w.heap.size w wr) ∨ (ix = .int .i64 3 ∧ wr.heap[p1_5]? = some (.cells (#[.int .i32 q0, .int .i32 q1, .int .i32 q2, .int .i32 q3, .int .i32 (limS C0), .int .i32 (limS C1), .int .i32 (limS C2), .int .i64 st, .int .i64 (cu + k1 + K + limK C0 + limK C1 + limK C2), .int .i32 g0, .int .i32 g1, .int .i32 g2, .int .i32 a0, .int .i32 a1, .int .i32 a2, .int .i32 d, .int .i32 R0, .int .i32 R1, .int .i32 R2]) 60 (0, 0)) ∧ wr.heap[p2_0]? = some (.cells #[.func (.func 29) #[] #[], .func (.func 30) #[] #[], .func (.func 31) #[] #[], .func (.func 32) #[] #[]] 61 (0, 0)) ∧ wr.heap[p0_3]? = some (.cells #[.int .i32 0, .int .i32 0, .int .i32 0, .int .i32 0, .int .i32 0, .int .i32 0, .int .i32 0, .int .i64 0, .int .i64 0] 34 (0, 0)) ∧ Below w.heap.size w wr) ∨ (ix = .int .i64 4 ∧ wr.heap[p1_5]? = some (.cells (#[.int .i32 Q0, .int .i32 Q1, .int .i32 Q2, .int .i32 Q3, .int .i32 (limS C0), .int .i32 (limS C1), .int .i32 (limS C2), .int .i64 (st + 1), .int .i64 (cu + k1 + K + limK C0 + limK C1 + limK C2 + kt), .int .i32 g0, .int .i32 g1, .int .i32 g2, .int .i32 a0, .int .i32 a1, .int .i32 a2, .int .i32 d, .int .i32 R0, .int .i32 R1, .int .i32 R2]) 60 (0, 0)) ∧ wr.heap[p2_0]? = some (.cells #[.func (.func 29) #[] #[], .func (.func 30) #[] #[], .func (.func 31) #[] #[], .func (.func 32) #[] #[]] 61 (0, 0)) ∧ wr.heap[p0_3]? = some (.cells #[.int .i32 0, .int .i32 0, .int .i32 0, .int .i32 0, .int .i32 0, .int .i32 0, .int .i32 0, .int .i64 0, .int .i64 0] 34 (0, 0)) ∧ Below w.heap.size w wr)) (fun ix _ => 4 - (intOf ix).toNat)
  case atStart => exact .inl ⟨rfl, hw, rg2, rg8.out, hB⟩
  case round =>
    clear hw rg2 rg8 hB
    rcases hrel with ⟨rfl, hw, rg2, rg8, hB⟩ | ⟨rfl, hw, rg2, rg8, hB⟩ | ⟨rfl, hw, rg2, rg8, hB⟩ | ⟨rfl, hw, rg2, rg8, hB⟩ | ⟨rfl, hw, rg2, rg8, hB⟩
    · have x0 := held_cell rg2 0 _ rfl
      replace hw := hid hw
      replace rg2 := hid rg2
      replace rg8 := hid rg8
      replace hB := hid hB
      go_wp2_with fail
      refine (c0.out p1_5 _ hw.out).mono ?_
      rintro r V ⟨rfl, hE, hw2⟩
      have r2b := eff_b42 hE rg2.out d2.out
      have r8b := eff_b42 hE rg8.out d8.out
      have hB2 := eff_bel42 hB.out hE sp.out hB.out.size
      clear hE hw rg2 rg8 hB x0
      go_wp2_with fail
      go_roundw
      case rel => exact .inr (.inl ⟨by simp, hw2, r2b, r8b, hB2⟩)
      case measure => simp [intOf]
    · have x0 := held_cell rg2 1 _ rfl
      replace hw := hid hw
      replace rg2 := hid rg2
      replace rg8 := hid rg8
      replace hB := hid hB
      go_wp2_with fail
      refine (c1.out p1_5 _ hw.out).mono ?_
      rintro r V ⟨rfl, hE, hw2⟩
      have r2b := eff_b42 hE rg2.out d2.out
      have r8b := eff_b42 hE rg8.out d8.out
      have hB2 := eff_bel42 hB.out hE sp.out hB.out.size
      clear hE hw rg2 rg8 hB x0
      go_wp2_with fail
      go_roundw
      case rel => exact .inr (.inr (.inl ⟨by simp, hw2, r2b, r8b, hB2⟩))
      case measure => simp [intOf]
    · have x0 := held_cell rg2 2 _ rfl
      replace hw := hid hw
      replace rg2 := hid rg2
      replace rg8 := hid rg8
      replace hB := hid hB
      go_wp2_with fail
      refine (c2.out p1_5 _ hw.out).mono ?_
      rintro r V ⟨rfl, hE, hw2⟩
      have r2b := eff_b42 hE rg2.out d2.out
      have r8b := eff_b42 hE rg8.out d8.out
      have hB2 := eff_bel42 hB.out hE sp.out hB.out.size
      clear hE hw rg2 rg8 hB x0
      go_wp2_with fail
      go_roundw
      case rel => exact .inr (.inr (.inr (.inl ⟨by simp, hw2, r2b, r8b, hB2⟩)))
      case measure => simp [intOf]
    · have x0 := held_cell rg2 3 _ rfl
      replace hw := hid hw
      replace rg2 := hid rg2
      replace rg8 := hid rg8
      replace hB := hid hB
      go_wp2_with fail
      refine (c3.out p1_5 _ hw.out).mono ?_
      rintro r V ⟨rfl, hE, hw2⟩
      have r2b := eff_b42 hE rg2.out d2.out
      have r8b := eff_b42 hE rg8.out d8.out
      have hB2 := eff_bel42 hB.out hE sp.out hB.out.size
      clear hE hw rg2 rg8 hB x0
      go_wp2_with fail
      go_roundw
      case rel => exact .inr (.inr (.inr (.inr (⟨by simp, hw2, r2b, r8b, hB2⟩))))
      case measure => simp [intOf]
    · have e0 := held_cell hw 0 _ rfl
      have e1 := held_cell hw 1 _ rfl
      have e2 := held_cell hw 2 _ rfl
      have e3 := held_cell hw 3 _ rfl
      have e4 := held_cell hw 4 _ rfl
      have e5 := held_cell hw 5 _ rfl
      have e6 := held_cell hw 6 _ rfl
      have e7 := held_cell hw 7 _ rfl
      have e8 := held_cell hw 8 _ rfl
      have z0 := held_cell rg8 0 _ rfl
      have z1 := held_cell rg8 1 _ rfl
      have z2 := held_cell rg8 2 _ rfl
      have z3 := held_cell rg8 3 _ rfl
      have z4 := held_cell rg8 4 _ rfl
      have z5 := held_cell rg8 5 _ rfl
      have z6 := held_cell rg8 6 _ rfl
      have z7 := held_cell rg8 7 _ rfl
      have z8 := held_cell rg8 8 _ rfl
      have f0 := held_free rg8 0
      have f1 := held_free rg8 1
      have f2 := held_free rg8 2
      have f3 := held_free rg8 3
      have f4 := held_free rg8 4
      have f5 := held_free rg8 5
      have f6 := held_free rg8 6
      have f7 := held_free rg8 7
      have f8 := held_free rg8 8
      obtain ⟨W9, hW9, y9, o9⟩ := st9 rg8 (.int .i32 Q0) (.int .i32 Q1) (.int .i32 Q2) (.int .i32 Q3) (.int .i32 (limS C0)) (.int .i32 (limS C1)) (.int .i32 (limS C2)) (.int .i64 (st + 1)) (.int .i64 (cu + k1 + K + limK C0 + limK C1 + limK C2 + kt))
      have hB9 := hid (belowS hB o9 s8.out)
      have ez0 := held_cell y9 0 _ rfl
      have ez1 := held_cell y9 1 _ rfl
      have ez2 := held_cell y9 2 _ rfl
      have ez3 := held_cell y9 3 _ rfl
      have ez4 := held_cell y9 4 _ rfl
      have ez5 := held_cell y9 5 _ rfl
      have ez6 := held_cell y9 6 _ rfl
      have ez7 := held_cell y9 7 _ rfl
      have ez8 := held_cell y9 8 _ rfl
      clear o9 y9 hw rg8 rg2 hB
      go_wp2_with fail
      refine bodyPost_ret (v := .agg #[.int .i32 Q0, .int .i32 Q1, .int .i32 Q2, .int .i32 Q3, .int .i32 (limS C0), .int .i32 (limS C1), .int .i32 (limS C2), .int .i64 (st + 1), .int .i64 (cu + k1 + K + limK C0 + limK C1 + limK C2 + kt)]) (by simp [results, Tryz.results10, go_sem, ez0, ez1, ez2, ez3, ez4, ez5, ez6, ez7, ez8]) rfl ⟨rfl, hB9.out⟩
set_option maxHeartbeats 4000000 in
theorem fword_any (q0 q1 q2 q3 b0 b1 b2 st cu x : Int) (ok : Bool) (hP : packT q0 q1 q2 q3 = .tuple #[.int .u32 x, .bool ok]) (w : World) (p0 : B32 q0) (p1 : B32 q1) (p2 : B32 q2) (p3 : B32 q3) : Calls Tryz.prog 12 #[.agg #[.int .i32 q0, .int .i32 q1, .int .i32 q2, .int .i32 q3, .int .i32 b0, .int .i32 b1, .int .i32 b2, .int .i64 st, .int .i64 cu]] w fun e w' => e = .returned (.int .u32 x) ∧ Below w.heap.size w w' := by
  have k1 := hid (fun U => hP ▸ pack_any q0 q1 q2 q3 U p0 p1 p2 p3)
  clear hP p0 p1 p2 p3
  go_enter Tryz.func12, Tryz.ntmps12
  go_upto_region 0 with (fail)
  apply wp_region_seg0 (w := w) (S := [.al 1000, .q []]) (E := [.al ((fun p => .pointer (some ⟨p, 0, none⟩)), _) 1000, .q0 _]) rfl (by kernel_rfl) rfl rfl
  intro th hge hne
  refine Seg.step _ rfl ⟨by rfl, fun U hU => ?_⟩ ?_
  · go_simp; exact vp_alloc rfl rfl rfl
  refine Seg.sa ?_
  refine Seg.sq ?_
  refine Seg.stop (fun U1 hU hk => ?_)
  have nb0 := hge 0 _ _ rfl
  have rb0 := (hk 0 _ _ rfl trivial).1.2 (by simp)
  clear hk hge hne
  generalize th (0 + 0) = p0_0 at *
  dsimp only at rb0
  have r_p0_0 := rb0
  clear rb0
  have n_p0_0 := nb0
  clear nb0
  have sz1 := hU.size
  have hB : Below w.heap.size w U1 := hU
  clear hU
  go_upto_region 1 with (fail)
  apply wp_region_seg0 (w := U1) (S := [.q [], .q [], .q [], .q [], .q [], .q [], .q [], .q []]) (E := [.q0 _, .q0 _, .c0 _, .q0 _, .q0 _, .q0 _, .q0 _, .q0 _]) rfl (by kernel_rfl) rfl rfl
  intro th hge hne
  refine Seg.sq ?_
  refine Seg.sq ?_ (ht := Or.inl ⟨by rfl, fun U hU => vp_quiet (by (have h0 := held_cell (held_after hU.1 r_p0_0) 0 _ rfl; have h1 := held_cell (held_after hU.1 r_p0_0) 1 _ rfl; have h2 := held_cell (held_after hU.1 r_p0_0) 2 _ rfl; have h3 := held_cell (held_after hU.1 r_p0_0) 3 _ rfl; go_simp <;> exact rfl))⟩)
  refine Seg.step _ rfl (Or.inl ⟨by rfl, fun U hU => ?_⟩) ?_
  · go_simp
    refine vp_call (k1.out _)
  refine Seg.sa ?_
  iterate 5 refine Seg.sq ?_
  refine Seg.stop (fun U2 hU hk => ?_)
  clear hk hge hne
  replace r_p0_0 := held_after hU r_p0_0
  have sz2 := hU.size
  replace hB := bthen hB hU
  clear hU
  go_wp2_with fail
  go_ret
  exact ⟨rfl, hB⟩
set_option maxHeartbeats 4000000 in
theorem fstart_any (w : World) : Calls Tryz.prog 14 #[] w fun e w' => e = .returned (.agg #[.int .i32 1073741824, .int .i32 0, .int .i32 0, .int .i32 0, .int .i32 0, .int .i32 0, .int .i32 0, .int .i64 0, .int .i64 0]) ∧ Below w.heap.size w w' := by
  go_enter Tryz.func14, Tryz.ntmps14
  go_upto_region 0 with (fail)
  apply wp_region_seg0 (w := w) (S := [.al 1000]) (E := [.al ((fun p => .pointer (some ⟨p, 0, none⟩)), _) 1000]) rfl (by kernel_rfl) rfl rfl
  intro th hge hne
  refine Seg.step _ rfl ⟨by rfl, fun U hU => ?_⟩ ?_
  · go_simp; exact vp_alloc rfl rfl rfl
  refine Seg.sa ?_
  refine Seg.stop (fun U1 hU hk => ?_)
  have nb0 := hge 0 _ _ rfl
  have rb0 := (hk 0 _ _ rfl trivial).1.2 (by simp)
  clear hk hge hne
  generalize th (0 + 0) = p0_0 at *
  dsimp only at rb0
  have r_p0_0 := rb0
  clear rb0
  have n_p0_0 := nb0
  clear nb0
  have sz1 := hU.size
  have hB : Below w.heap.size w U1 := hU
  clear hU
  go_wp2_with fail
  refine (qone_any _).mono ?_
  rintro r U2 ⟨rfl, hA⟩
  have r8 := held_after hA r_p0_0
  have hB2 := hid (bthen hB hA)
  have z0 := held_cell r8 0 _ rfl
  have z1 := held_cell r8 1 _ rfl
  have z2 := held_cell r8 2 _ rfl
  have z3 := held_cell r8 3 _ rfl
  have z4 := held_cell r8 4 _ rfl
  have z5 := held_cell r8 5 _ rfl
  have z6 := held_cell r8 6 _ rfl
  have z7 := held_cell r8 7 _ rfl
  have z8 := held_cell r8 8 _ rfl
  have f0 := held_free r8 0
  have f1 := held_free r8 1
  have f2 := held_free r8 2
  have f3 := held_free r8 3
  have f4 := held_free r8 4
  have f5 := held_free r8 5
  have f6 := held_free r8 6
  have f7 := held_free r8 7
  have f8 := held_free r8 8
  obtain ⟨W9, hW9, y9, o9⟩ := st9 r8 (.int .i32 1073741824) (.int .i32 0) (.int .i32 0) (.int .i32 0) (.int .i32 0) (.int .i32 0) (.int .i32 0) (.int .i64 0) (.int .i64 0)
  have hB9 := hid (belowS hB2.out o9 (by omega))
  have ez0 := held_cell y9 0 _ rfl
  have ez1 := held_cell y9 1 _ rfl
  have ez2 := held_cell y9 2 _ rfl
  have ez3 := held_cell y9 3 _ rfl
  have ez4 := held_cell y9 4 _ rfl
  have ez5 := held_cell y9 5 _ rfl
  have ez6 := held_cell y9 6 _ rfl
  have ez7 := held_cell y9 7 _ rfl
  have ez8 := held_cell y9 8 _ rfl
  clear o9 y9 r8 hB hA hB2 r_p0_0
  go_wp2_with fail
  refine bodyPost_ret (v := .agg #[.int .i32 1073741824, .int .i32 0, .int .i32 0, .int .i32 0, .int .i32 0, .int .i32 0, .int .i32 0, .int .i64 0, .int .i64 0]) (by simp [results, Tryz.results14, go_sem, ez0, ez1, ez2, ez3, ez4, ez5, ez6, ez7, ez8]) rfl ⟨rfl, hB9.out⟩
end Go.Proofs.YtpdpcdifnlellaaGreat
