/- Package pvt: Put, Take. -/
import Derived.Test.YtfihdgichmocmaaPvt9
import Derived.Test.YtfihdgichmocmaaPvt8
import Derived.Deep.DeepCutAuto
namespace Go.Proofs.Ytfihdgichmocmaa
open Go.ChangeShapes Go.WideShapes Go.ChangeAt Go.RowKit
set_option linter.unusedVariables false
set_option linter.unusedSimpArgs false

theorem exec_load_row {P : Program} {o : Oper} {a : Act} {w : World} (ty : TypeId) (x : Operand) (ho : o.op = .load ty x)
    (g : Nat) (hx : a.eval x = .pointer (some ⟨g, 0, none⟩)) (t : TypeId) (cs : Array Value) (fr : Nat × Nat) (d : TypeDesc) (hg : w.heap[g]? = some (.cells cs t fr))
    (hu : P.underlying ty = some d) (hd : (match d with | .struct _ | .array _ _ => true | _ => false) = true) (hi : (P.info? ty).map (·.size) = some cs.size) : (execOp a.eval o).run P w = .ok (.value (.agg cs)) w := by
  unfold execOp
  simp only [ho, hx, Instr.loadAt, Instr.sureAddr, Sem.run_bind, Sem.run_pure, Result.andThen_ok, run_loadVar_row w g t ty cs fr d hg hu hd hi]
theorem list32 {xs : List Int} (h : xs.length = 32) : ∃ x0 x1 x2 x3 x4 x5 x6 x7 x8 x9 x10 x11 x12 x13 x14 x15 x16 x17 x18 x19 x20 x21 x22 x23 x24 x25 x26 x27 x28 x29 x30 x31 : Int, xs = [x0, x1, x2, x3, x4, x5, x6, x7, x8, x9, x10, x11, x12, x13, x14, x15, x16, x17, x18, x19, x20, x21, x22, x23, x24, x25, x26, x27, x28, x29, x30, x31] := by
  match xs, h with
  | [x0, x1, x2, x3, x4, x5, x6, x7, x8, x9, x10, x11, x12, x13, x14, x15, x16, x17, x18, x19, x20, x21, x22, x23, x24, x25, x26, x27, x28, x29, x30, x31], _ => exact ⟨x0, x1, x2, x3, x4, x5, x6, x7, x8, x9, x10, x11, x12, x13, x14, x15, x16, x17, x18, x19, x20, x21, x22, x23, x24, x25, x26, x27, x28, x29, x30, x31, rfl⟩
theorem outV_len (xs : List Int) : (outV xs).length = 33 := rfl
theorem outV_bd {xs : List Int} (hl : xs.length = 32) (h : ∀ x ∈ xs, -9223372036854775808 ≤ x ∧ x ≤ 9223372036854775807) : ∀ x ∈ outV xs, -9223372036854775808 ≤ x ∧ x ≤ 9223372036854775807 := by
  obtain ⟨x0, x1, x2, x3, x4, x5, x6, x7, x8, x9, x10, x11, x12, x13, x14, x15, x16, x17, x18, x19, x20, x21, x22, x23, x24, x25, x26, x27, x28, x29, x30, x31, rfl⟩ := list32 hl
  rw [outV_lit]
  intro x hx
  by_cases h0 : x = 0
  · subst h0; decide
  · refine h x ?_
    simp only [List.mem_cons, List.not_mem_nil, or_false] at hx ⊢
    grind
set_option maxHeartbeats 2000000 in
theorem in_out16 {xs : List Int} (hl : xs.length = 32) : inP (outV xs) z32 = xs ∧ (outV xs).getD 29 0 = 0 := by
  obtain ⟨x0, x1, x2, x3, x4, x5, x6, x7, x8, x9, x10, x11, x12, x13, x14, x15, x16, x17, x18, x19, x20, x21, x22, x23, x24, x25, x26, x27, x28, x29, x30, x31, rfl⟩ := list32 hl
  refine ⟨?_, ?_⟩
  · kernel_rfl
  · kernel_rfl
theorem list33l {xs : List Int} (h : xs.length = 33) : ∃ v0 v1 v2 v3 v4 v5 v6 v7 v8 v9 v10 v11 v12 v13 v14 v15 v16 v17 v18 v19 v20 v21 v22 v23 v24 v25 v26 v27 v28 v29 v30 v31 v32 : Int, xs = (v0 :: v1 :: v2 :: v3 :: v4 :: v5 :: v6 :: v7 :: v8 :: v9 :: v10 :: v11 :: v12 :: v13 :: v14 :: v15 :: v16 :: v17 :: v18 :: v19 :: v20 :: v21 :: v22 :: v23 :: v24 :: v25 :: v26 :: v27 :: v28 :: v29 :: v30 :: v31 :: v32 :: []) := by
  match xs, h with
  | (v0 :: v1 :: v2 :: v3 :: v4 :: v5 :: v6 :: v7 :: v8 :: v9 :: v10 :: v11 :: v12 :: v13 :: v14 :: v15 :: v16 :: v17 :: v18 :: v19 :: v20 :: v21 :: v22 :: v23 :: v24 :: v25 :: v26 :: v27 :: v28 :: v29 :: v30 :: v31 :: v32 :: []), _ => exact ⟨v0, v1, v2, v3, v4, v5, v6, v7, v8, v9, v10, v11, v12, v13, v14, v15, v16, v17, v18, v19, v20, v21, v22, v23, v24, v25, v26, v27, v28, v29, v30, v31, v32, rfl⟩
set_option maxHeartbeats 2000000 in
theorem out_in16 {vs : List Int} (hl : vs.length = 33) (h0 : vs.getD 29 0 = 0) : outV (inP vs z32) = vs := by
  obtain ⟨v0, v1, v2, v3, v4, v5, v6, v7, v8, v9, v10, v11, v12, v13, v14, v15, v16, v17, v18, v19, v20, v21, v22, v23, v24, v25, v26, v27, v28, v29, v30, v31, v32, rfl⟩ := list33l hl
  obtain rfl : v29 = 0 := h0
  kernel_rfl
theorem rvaluesL_any (xs : List Int) (hl : xs.length = 32) (w : World) : Calls Try.prog 15 #[.agg (xs.map (Value.int .i64)).toArray] w fun e w' => ∃ V : Nat, e = .returned (.slice (some ⟨V, 0, none⟩) 33 33) ∧ Row .i64 2 w' V (outV xs) ∧ w.heap.size ≤ V ∧ After w w' := by
  obtain ⟨x0, x1, x2, x3, x4, x5, x6, x7, x8, x9, x10, x11, x12, x13, x14, x15, x16, x17, x18, x19, x20, x21, x22, x23, x24, x25, x26, x27, x28, x29, x30, x31, rfl⟩ := list32 hl
  exact rvalues_any x0 x1 x2 x3 x4 x5 x6 x7 x8 x9 x10 x11 x12 x13 x14 x15 x16 x17 x18 x19 x20 x21 x22 x23 x24 x25 x26 x27 x28 x29 x30 x31 w
/-- The message of any bytes. -/
def takM (bs : List Int) : List Int × Int := if (takL PD16 bs).2 = 0 then (inP (takL PD16 bs).1 z32, 0) else (z32, (takL PD16 bs).2)
theorem takM_ok {bs P : List Int} (h : takL PD16 bs = (P, 0)) : takM bs = (inP P z32, 0) := by unfold takM; rw [h]; rfl
theorem takM_no {bs P : List Int} {e : Int} (h : takL PD16 bs = (P, e)) (he : e ≠ 0) : takM bs = (z32, e) := by unfold takM; rw [h]; exact if_neg he
theorem range_at (n k : Nat) (f : Nat → Int) (hk : k < n) : ((List.range n).map f).getD k 0 = f k := by simp [hk]
theorem tak29 {bs P : List Int} (h : takL PD16 bs = (P, 0)) : P.length = 33 ∧ P.getD 29 0 = 0 := by
  obtain ⟨_, _, hi, hPe⟩ := tak_spec h
  have hn : PD16.length = 33 := by kernel_rfl
  rw [hn] at hi hPe
  have a : fL PD16 29 = 0 := by kernel_rfl
  have b : fH PD16 29 = 0 := by kernel_rfl
  have i0 := inV_at hi (k := 29) (by omega)
  rw [a, b] at i0
  have g0 := range_at 33 29 (numAt (fN PD16) (fS PD16) bs) (by omega)
  rw [← hPe] at g0
  rw [g0]
  refine ⟨by rw [hPe, List.length_map, List.length_range], ?_⟩
  generalize numAt (fN PD16) (fS PD16) bs 29 = z at i0 ⊢
  omega
theorem takM_len (bs : List Int) : (takM bs).1.length = 32 := by
  unfold takM
  split
  · rw [inP_len]; rfl
  · rfl
set_option maxRecDepth 100000 in
set_option maxHeartbeats 4000000 in
theorem put16_any (xs : List Int) (hl : xs.length = 32) (hb : ∀ x ∈ xs, -9223372036854775808 ≤ x ∧ x ≤ 9223372036854775807) (w : World) : Calls Try.prog 7 #[.agg (xs.map (Value.int .i64)).toArray] w (BsOk w (putL PD16 (outV xs))) := by
  obtain ⟨r, hr⟩ : ∃ r, putL PD16 (outV xs) = r := ⟨_, rfl⟩
  rw [hr]
  replace hr := hid hr
  have hbo := hid (outV_bd hl hb)
  have kv := hid (fun W => values_any xs hl W)
  have hCs : (xs.map (Value.int .i64)).toArray.size = 32 := by rw [List.size_toArray, List.length_map]; exact hl
  obtain ⟨C, hC⟩ : ∃ C, (xs.map (Value.int .i64)).toArray = C := ⟨_, rfl⟩
  rw [hC] at kv hCs ⊢
  replace hCs := hid hCs
  clear hC hb hl
  have nP := alloc_new w (.cells C 23)
  have hA := nP.2.1
  have hP := nP.2.2
  clear nP
  go_enter Try.func7, Try.ntmps7
  go_upto_region 1 with (fail)
  obtain ⟨W1, hW1⟩ : ∃ X, w.alloc (.cells C 23) = X := ⟨_, rfl⟩
  rw [hW1] at hA hP ⊢
  obtain ⟨P, hPe⟩ : ∃ X, w.heap.size = X := ⟨_, rfl⟩
  rw [hPe] at hP ⊢
  have hB0 := hid (bthen hA (Below.refl _ W1).drew)
  replace hW1 := hid hW1
  replace hPe := hid hPe
  replace hP := hid hP
  clear hA
  refine wp_region_T none 7 (by kernel_rfl) ?_
  refine wpAnyT_take 1 rfl (by kernel_rfl) (by kernel_rfl) (by kernel_rfl) (by kernel_rfl) (fun _ _ _ _ h => h) ⟨_, Or.inl ⟨by rfl, fun w2 hb2 => by (exact exec_load_row 23 _ rfl P (by go_simp) 23 C (0, 0) _ (hb2.held (show W1.drew.heap[P]? = _ from hP.out) (by simp)) Try.underlying23 rfl (by rw [hCs.out]; kernel_rfl))⟩, _, by (go_simp; try rfl), ?_⟩
  refine wpAnyT_only 0 rfl (by kernel_rfl) (by rfl) (fun K hK => ?_)
  go_simp
  refine (fields16 _).mono ?_
  rintro e V1 ⟨fa, fc, rfl, hF, hA1⟩
  have hB1 := hid (bthen hB0.out hA1)
  replace hF := hid hF
  go_simp
  refine hK _ _ ⟨fun _ => rx_after hA1, ?_⟩
  clear hK
  clear hA1
  refine wpAnyT_only 2 rfl (by kernel_rfl) (by rfl) (fun K hK => ?_)
  go_simp
  refine (kv.out _).mono ?_
  rintro e V2 ⟨V, rfl, hR, hV0, hA1⟩
  replace hB1 := hid (bthen hB1.out hA1)
  have hS := hid (hR.sl (by rw [outV_len]; unfold maxLen; omega))
  replace hF := hid (hF.out.below hA1)
  clear hR hV0
  go_simp
  refine hK _ _ ⟨fun _ => rx_after hA1, ?_⟩
  clear hK
  clear hA1
  refine wpAnyT_only 3 rfl (by kernel_rfl) (by rfl) (fun K hK => ?_)
  go_simp
  refine (sput_any fa 33 fc (fN PD16) (fS PD16) (fL PD16) (fH PD16) (some ⟨V, 0, none⟩) 33 33 (outV xs) _ hF.out hS.out hbo.out (by omega)).mono ?_
  rintro e V3 ⟨ra, rc, rfl, hO, hA2⟩
  have hB9 := hid (bthen hB1.out hA2)
  change Own _ _ _ _ (.slice ra (putL PD16 (outV xs)).1.length rc) (putL PD16 (outV xs)).1 at hO
  rw [hr.out] at hO
  have hO9 := hid (hO.base hB1.out.size)
  go_simp
  refine hK _ _ ⟨fun _ => rx_after hA2, ?_⟩
  clear hK
  clear hA2 hO
  refine wpAnyT_take 4 rfl (by kernel_rfl) (by kernel_rfl) (by kernel_rfl) (by kernel_rfl) (fun _ _ _ _ h => h) ⟨_, Or.inl ⟨by rfl, fun w2 hb2 => by (go_simp; try with_reducible rfl)⟩, _, by (go_simp; try rfl), ?_⟩
  refine wpAnyT_take 5 rfl (by kernel_rfl) (by kernel_rfl) (by kernel_rfl) (by kernel_rfl) (fun _ _ _ _ h => h) ⟨_, Or.inl ⟨by rfl, fun w2 hb2 => by (go_simp; try with_reducible rfl)⟩, _, by (go_simp; try rfl), ?_⟩
  refine wpAnyT_take 6 rfl (by kernel_rfl) (by kernel_rfl) (by kernel_rfl) (by kernel_rfl) (fun _ _ _ _ h => h) ⟨_, Or.inl ⟨by rfl, fun w2 hb2 => by (go_simp; try with_reducible rfl)⟩, _, by (go_simp; try rfl), ?_⟩
  refine wpAnyT_only 7 rfl (by kernel_rfl) (by rfl) (fun K hK => ?_)
  go_simp
  refine hK _ _ ⟨fun h => (h rfl).elim, ?_⟩
  clear hK
  refine wpAnyT_done (by kernel_rfl) ?_ _
  go_wp2_with fail
  go_ret2
  exact ⟨ra, rc, by rw [← hr.out]; rfl, hO9.out, hB9.out⟩
set_option maxRecDepth 100000 in
set_option maxHeartbeats 4000000 in
theorem rput16_any (xs : List Int) (hl : xs.length = 32) (hb : ∀ x ∈ xs, -9223372036854775808 ≤ x ∧ x ≤ 9223372036854775807) (w : World) : Calls Try.prog 8 #[.agg (xs.map (Value.int .i64)).toArray] w (BsOk w (putL PD16 (outV xs))) := by
  obtain ⟨r, hr⟩ : ∃ r, putL PD16 (outV xs) = r := ⟨_, rfl⟩
  rw [hr]
  replace hr := hid hr
  have hbo := hid (outV_bd hl hb)
  have kv := hid (fun W => rvaluesL_any xs hl W)
  have hCs : (xs.map (Value.int .i64)).toArray.size = 32 := by rw [List.size_toArray, List.length_map]; exact hl
  obtain ⟨C, hC⟩ : ∃ C, (xs.map (Value.int .i64)).toArray = C := ⟨_, rfl⟩
  rw [hC] at kv hCs ⊢
  replace hCs := hid hCs
  clear hC hb hl
  have nP := alloc_new w (.cells C 23)
  have hA := nP.2.1
  have hP := nP.2.2
  clear nP
  go_enter Try.func8, Try.ntmps8
  go_upto_region 1 with (fail)
  obtain ⟨W1, hW1⟩ : ∃ X, w.alloc (.cells C 23) = X := ⟨_, rfl⟩
  rw [hW1] at hA hP ⊢
  obtain ⟨P, hPe⟩ : ∃ X, w.heap.size = X := ⟨_, rfl⟩
  rw [hPe] at hP ⊢
  have hB0 := hid (bthen hA (Below.refl _ W1).drew)
  replace hW1 := hid hW1
  replace hPe := hid hPe
  replace hP := hid hP
  clear hA
  refine wp_region_T none 8 (by kernel_rfl) ?_
  refine wpAnyT_take 1 rfl (by kernel_rfl) (by kernel_rfl) (by kernel_rfl) (by kernel_rfl) (fun _ _ _ _ h => h) ⟨_, Or.inl ⟨by rfl, fun w2 hb2 => by (exact exec_load_row 23 _ rfl P (by go_simp) 23 C (0, 0) _ (hb2.held (show W1.drew.heap[P]? = _ from hP.out) (by simp)) Try.underlying23 rfl (by rw [hCs.out]; kernel_rfl))⟩, _, by (go_simp; try rfl), ?_⟩
  refine wpAnyT_only 0 rfl (by kernel_rfl) (by rfl) (fun K hK => ?_)
  go_simp
  refine (rfields16 _).mono ?_
  rintro e V1 ⟨fa, fc, rfl, hF, hA1⟩
  have hB1 := hid (bthen hB0.out hA1)
  replace hF := hid hF
  go_simp
  refine hK _ _ ⟨fun _ => rx_after hA1, ?_⟩
  clear hK
  clear hA1
  refine wpAnyT_only 2 rfl (by kernel_rfl) (by rfl) (fun K hK => ?_)
  go_simp
  refine (kv.out _).mono ?_
  rintro e V2 ⟨V, rfl, hR, hV0, hA1⟩
  replace hB1 := hid (bthen hB1.out hA1)
  have hS := hid (hR.sl (by rw [outV_len]; unfold maxLen; omega))
  replace hF := hid (hF.out.below hA1)
  clear hR hV0
  go_simp
  refine hK _ _ ⟨fun _ => rx_after hA1, ?_⟩
  clear hK
  clear hA1
  refine wpAnyT_only 3 rfl (by kernel_rfl) (by rfl) (fun K hK => ?_)
  go_simp
  refine (rsput_any fa 33 fc (fN PD16) (fS PD16) (fL PD16) (fH PD16) (some ⟨V, 0, none⟩) 33 33 (outV xs) _ hF.out hS.out hbo.out (by omega)).mono ?_
  rintro e V3 ⟨ra, rc, rfl, hO, hA2⟩
  have hB9 := hid (bthen hB1.out hA2)
  change Own _ _ _ _ (.slice ra (putL PD16 (outV xs)).1.length rc) (putL PD16 (outV xs)).1 at hO
  rw [hr.out] at hO
  have hO9 := hid (hO.base hB1.out.size)
  go_simp
  refine hK _ _ ⟨fun _ => rx_after hA2, ?_⟩
  clear hK
  clear hA2 hO
  refine wpAnyT_take 4 rfl (by kernel_rfl) (by kernel_rfl) (by kernel_rfl) (by kernel_rfl) (fun _ _ _ _ h => h) ⟨_, Or.inl ⟨by rfl, fun w2 hb2 => by (go_simp; try with_reducible rfl)⟩, _, by (go_simp; try rfl), ?_⟩
  refine wpAnyT_take 5 rfl (by kernel_rfl) (by kernel_rfl) (by kernel_rfl) (by kernel_rfl) (fun _ _ _ _ h => h) ⟨_, Or.inl ⟨by rfl, fun w2 hb2 => by (go_simp; try with_reducible rfl)⟩, _, by (go_simp; try rfl), ?_⟩
  refine wpAnyT_take 6 rfl (by kernel_rfl) (by kernel_rfl) (by kernel_rfl) (by kernel_rfl) (fun _ _ _ _ h => h) ⟨_, Or.inl ⟨by rfl, fun w2 hb2 => by (go_simp; try with_reducible rfl)⟩, _, by (go_simp; try rfl), ?_⟩
  refine wpAnyT_take 7 rfl (by kernel_rfl) (by kernel_rfl) (by kernel_rfl) (by kernel_rfl) (fun _ _ _ _ h => h) ⟨_, Or.inl ⟨by rfl, fun w2 hb2 => by (go_simp; try with_reducible rfl)⟩, _, by (go_simp; try rfl), ?_⟩
  refine wpAnyT_only 8 rfl (by kernel_rfl) (by rfl) (fun K hK => ?_)
  go_simp
  refine hK _ _ ⟨fun h => (h rfl).elim, ?_⟩
  clear hK
  refine wpAnyT_done (by kernel_rfl) ?_ _
  go_wp2_with fail
  go_ret2
  exact ⟨ra, rc, by rw [← hr.out]; rfl, hO9.out, hB9.out⟩

end Go.Proofs.Ytfihdgichmocmaa
