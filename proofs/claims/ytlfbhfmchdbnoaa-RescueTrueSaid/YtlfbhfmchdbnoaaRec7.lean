/- Package rec: TakeDelta. -/
import Derived.Test.YtlfbhfmchdbnoaaKJ
import Derived.Deep.DeepCutAuto
namespace Go.Proofs.Ytlfbhfmchdbnoaa
open Go.ChangeShapes Go.WideShapes Go.ChangeAt Go.RowKit
set_option linter.unusedVariables false
set_option linter.unusedSimpArgs false

theorem and1_u64 (n : Int) : bits .and .u64 n 1 = n % 2 := by
  have h1 : (BitVec.ofInt 64 1).toNat = 2 ^ 1 - 1 := by decide
  have key : (BitVec.ofInt 64 n &&& BitVec.ofInt 64 1).toNat = (n % ((2 ^ 64 : Nat) : Int)).toNat % 2 ^ 1 := by
    rw [BitVec.toNat_and, BitVec.toNat_ofInt, h1, Nat.and_two_pow_sub_one_eq_mod]
  show IntKind.u64.wrap ((BitVec.ofInt 64 n &&& BitVec.ofInt 64 1).toNat : Nat) = n % 2
  rw [key, IntKind.wrap_u64]
  omega
/-- The numbers behind the first k places; how far it was read; the error. -/
def tdL (bs a : List Int) (mask n0 : Nat) (e0 : Int) : Nat → List Int × Nat × Int
  | 0 => (a, n0, e0)
  | k + 1 => if mask / 2 ^ k % 2 = 1 then ((tdL bs a mask n0 e0 k).1.set k (grS bs (tdL bs a mask n0 e0 k).2.1 (tdL bs a mask n0 e0 k).2.2 (a.getD k 0)).1, (grS bs (tdL bs a mask n0 e0 k).2.1 (tdL bs a mask n0 e0 k).2.2 (a.getD k 0)).2.1, (grS bs (tdL bs a mask n0 e0 k).2.1 (tdL bs a mask n0 e0 k).2.2 (a.getD k 0)).2.2) else tdL bs a mask n0 e0 k
theorem tdL_on {bs a : List Int} {mask n0 : Nat} {e0 : Int} {k : Nat} {v : List Int} {n : Nat} {e : Int} (h : tdL bs a mask n0 e0 k = (v, n, e)) (hb : mask / 2 ^ k % 2 = 1) : tdL bs a mask n0 e0 (k + 1) = (v.set k (grS bs n e (a.getD k 0)).1, (grS bs n e (a.getD k 0)).2.1, (grS bs n e (a.getD k 0)).2.2) := by
  show (if _ then _ else _) = _
  rw [if_pos hb, h]
theorem tdL_off {bs a : List Int} {mask n0 : Nat} {e0 : Int} {k : Nat} {v : List Int} {n : Nat} {e : Int} (h : tdL bs a mask n0 e0 k = (v, n, e)) (hb : ¬ mask / 2 ^ k % 2 = 1) : tdL bs a mask n0 e0 (k + 1) = (v, n, e) := by
  show (if _ then _ else _) = _
  rw [if_neg hb, h]
def takD (t : Int) (a bs : List Int) : (Int × List Int) × Int × Int :=
  if (tdL bs a (nxS bs (nxS bs 0 0 4294967295).2.1 (nxS bs 0 0 4294967295).2.2 4095).1 (nxS bs (nxS bs 0 0 4294967295).2.1 (nxS bs 0 0 4294967295).2.2 4095).2.1 (nxS bs (nxS bs 0 0 4294967295).2.1 (nxS bs 0 0 4294967295).2.2 4095).2.2 12).2.2 ≠ 0 then ((0, zer12), 0, (tdL bs a (nxS bs (nxS bs 0 0 4294967295).2.1 (nxS bs 0 0 4294967295).2.2 4095).1 (nxS bs (nxS bs 0 0 4294967295).2.1 (nxS bs 0 0 4294967295).2.2 4095).2.1 (nxS bs (nxS bs 0 0 4294967295).2.1 (nxS bs 0 0 4294967295).2.2 4095).2.2 12).2.2)
  else (((t + ((nxS bs 0 0 4294967295).1 : Nat)) % 4294967296, (tdL bs a (nxS bs (nxS bs 0 0 4294967295).2.1 (nxS bs 0 0 4294967295).2.2 4095).1 (nxS bs (nxS bs 0 0 4294967295).2.1 (nxS bs 0 0 4294967295).2.2 4095).2.1 (nxS bs (nxS bs 0 0 4294967295).2.1 (nxS bs 0 0 4294967295).2.2 4095).2.2 12).1), ((tdL bs a (nxS bs (nxS bs 0 0 4294967295).2.1 (nxS bs 0 0 4294967295).2.2 4095).1 (nxS bs (nxS bs 0 0 4294967295).2.1 (nxS bs 0 0 4294967295).2.2 4095).2.1 (nxS bs (nxS bs 0 0 4294967295).2.1 (nxS bs 0 0 4294967295).2.2 4095).2.2 12).2.1 : Nat), 0)
theorem takD_at {t : Int} {a bs : List Int} {u1 n1 m2 n2 n : Nat} {e1 e2 e : Int} {v : List Int} (h1 : nxS bs 0 0 4294967295 = (u1, n1, e1)) (h2 : nxS bs n1 e1 4095 = (m2, n2, e2)) (h3 : tdL bs a m2 n2 e2 12 = (v, n, e)) : takD t a bs = if e ≠ 0 then ((0, zer12), 0, e) else (((t + (u1 : Nat)) % 4294967296, v), (n : Int), 0) := by
  unfold takD
  rw [h1]
  dsimp only
  rw [h2]
  dsimp only
  rw [h3]
theorem rx_only {p : Nat} {U W : World} (h : Only p U W) : RX (some p) U W := ⟨Nat.le_of_eq h.size.symm, fun k _ hk => h.block k (fun e => hk (by rw [e]))⟩
theorem grS_bd {bs : List Int} (hz : ∀ x ∈ bs, (Lit.int .u8 x).wf = true) {at_ : Nat} {e v : Int} (hat : at_ ≤ bs.length) (he : 0 ≤ e ∧ e ≤ 9) : (grS bs at_ e v).2.1 ≤ bs.length ∧ (0 ≤ (grS bs at_ e v).2.2 ∧ (grS bs at_ e v).2.2 ≤ 9) ∧ at_ ≤ (grS bs at_ e v).2.1 := by
  have h := nxS_bd (hi := 18446744073709551615) hz hat (Nat.le_refl _) he
  unfold grS
  generalize nxS bs at_ e 18446744073709551615 = q at *
  split
  · exact ⟨h.2.1, h.2.2.1, h.2.2.2⟩
  · split
    · exact ⟨h.2.1, by simp, h.2.2.2⟩
    · exact ⟨h.2.1, by simp, h.2.2.2⟩
set_option maxRecDepth 100000 in
set_option maxHeartbeats 8000000 in
theorem takeDelta_any (t a0 a1 a2 a3 a4 a5 a6 a7 a8 a9 a10 a11 : Int) (ba : Option Addr) (bl bc : Nat) (bs : List Int) (w : World) (hS : Sl .u8 w ba bl bc bs) (hz : ∀ x ∈ bs, (Lit.int .u8 x).wf = true) (hbl : bl ≤ 100000) (ht : 0 ≤ t ∧ t ≤ 4294967295) (ha : ∀ x ∈ [a0, a1, a2, a3, a4, a5, a6, a7, a8, a9, a10, a11], -2147483648 ≤ x ∧ x ≤ 2147483647) : Calls Try.prog 58 #[.agg #[.int .u32 t, .int .i32 a0, .int .i32 a1, .int .i32 a2, .int .i32 a3, .int .i32 a4, .int .i32 a5, .int .i32 a6, .int .i32 a7, .int .i32 a8, .int .i32 a9, .int .i32 a10, .int .i32 a11], .slice ba bl bc] w fun e w' => e = .returned (.tuple #[recA (takD t [a0, a1, a2, a3, a4, a5, a6, a7, a8, a9, a10, a11] bs).1.1 (takD t [a0, a1, a2, a3, a4, a5, a6, a7, a8, a9, a10, a11] bs).1.2, .int .i64 (takD t [a0, a1, a2, a3, a4, a5, a6, a7, a8, a9, a10, a11] bs).2.1, .int .i64 (takD t [a0, a1, a2, a3, a4, a5, a6, a7, a8, a9, a10, a11] bs).2.2]) ∧ After w w' := by
  have hl0 := hS.1
  have b1 := nxS_bd (bs := bs) (at_ := 0) (e := 0) (hi := 4294967295) hz (Nat.zero_le _) (by omega) (by omega)
  obtain ⟨⟨u1, n1, e1⟩, h1⟩ : ∃ n, nxS bs 0 0 4294967295 = n := ⟨_, rfl⟩
  rw [h1] at b1
  dsimp only at b1
  have b2 := nxS_bd (bs := bs) (at_ := n1) (e := e1) (hi := 4095) hz b1.2.1 (by omega) b1.2.2.1
  obtain ⟨⟨m2, n2, e2⟩, h2⟩ : ∃ n, nxS bs n1 e1 4095 = n := ⟨_, rfl⟩
  rw [h2] at b2
  dsimp only at b2
  obtain ⟨r, hr⟩ : ∃ r, takD t [a0, a1, a2, a3, a4, a5, a6, a7, a8, a9, a10, a11] bs = r := ⟨_, rfl⟩
  rw [hr]
  have hfin := hid (fun (v : List Int) (n : Nat) (e : Int) h3 => hr.symm.trans (takD_at (t := t) (a := [a0, a1, a2, a3, a4, a5, a6, a7, a8, a9, a10, a11]) h1 h2 (v := v) (n := n) (e := e) h3))
  rw [hl0] at b1 b2
  replace h1 := hid h1
  replace h2 := hid h2
  replace hr := hid hr
  replace ha := hid ha
  replace hz := hid hz
  replace hS := hid hS
  replace hl0 := hid hl0
  go_enter Try.func58, Try.ntmps58
  go_upto_region 0 with (fail)
  apply wp_region_seg0 (w := w) (S := [.al 1000, .al 1000, .q [], .q []]) (E := [.al ((fun p => .pointer (some ⟨p, 0, none⟩)), _) 1000, .al ((fun p => .pointer (some ⟨p, 0, none⟩)), _) 1000, .q0 _, .q0 _]) rfl (by kernel_rfl) rfl rfl
  intro th hge hne
  refine Seg.step _ rfl ⟨by rfl, fun U hU => ?_⟩ ?_
  · go_simp; exact vp_alloc rfl rfl rfl
  refine ⟨_, by (simp only [Ent.val]; go_simp <;> exact rfl), ?_⟩
  refine Seg.step _ rfl ⟨by rfl, fun U hU => ?_⟩ ?_
  · go_simp; exact vp_alloc rfl rfl rfl
  refine ⟨_, by (simp only [Ent.val]; go_simp <;> exact rfl), ?_⟩
  refine Seg.step _ rfl (Or.inl ⟨by rfl, fun U hU => vp_quiet (by (go_simp <;> exact rfl))⟩) ⟨_, by (simp only [Ent.val]; go_simp <;> exact rfl), ?_⟩
  refine Seg.step _ rfl (Or.inl ⟨by rfl, fun U hU => vp_quiet (by (go_simp <;> exact rfl))⟩) ⟨_, by (simp only [Ent.val]; go_simp <;> exact rfl), ?_⟩
  refine Seg.stop (fun U1 hU hk => ?_)
  have nb0 := hge 0 _ _ rfl
  have rb0 := (hk 0 _ _ rfl trivial).1.2 (by simp)
  have nb1 := hge 1 _ _ rfl
  have rb1 := (hk 1 _ _ rfl trivial).1.2 (by simp)
  have ne0_1 := hne 0 1 _ _ _ _ rfl rfl (by omega)
  clear hk hge hne
  generalize th (0 + 0) = p0_0 at *
  dsimp only at rb0
  generalize th (0 + 1) = p0_1 at *
  dsimp only at rb1
  have r_p0_0 := rb0
  clear rb0
  have n_p0_0 := nb0
  clear nb0
  have d_p0_0_p0_1 := ne0_1
  clear ne0_1
  have r_p0_1 := rb1
  clear rb1
  have n_p0_1 := nb1
  clear nb1
  have sz1 := hU.size
  have hB : Below w.heap.size w U1 := hU
  clear hU
  have n0 := n_p0_0
  have n1w := n_p0_1
  have d01 := d_p0_0_p0_1
  have sU := hB.size
  have l00 := held_lt r_p0_0
  have l01 := held_lt r_p0_1
  have nA1 := alloc_new U1 (.cells #[.slice ba bl bc, .int .i64 0, .int .i64 0] 120)
  have hA1 := nA1.2.1
  have rR := nA1.2.2
  obtain ⟨Q, hQ⟩ : ∃ q, U1.heap.size = q := ⟨_, rfl⟩
  rw [hQ] at rR
  have k0 := held_after hA1 r_p0_0
  have k1 := held_after hA1 r_p0_1
  have hB1 := bthen hB hA1
  have nQ : w.heap.size ≤ Q := by omega
  have dQ0 : p0_0 ≠ Q := by omega
  have dQ1 : p0_1 ≠ Q := by omega
  clear nA1 hA1 r_p0_0 r_p0_1 hB
  go_upto_region 2 with (fail)
  try rw [hQ]
  obtain ⟨W1, hW1⟩ : ∃ W, U1.alloc (.cells #[.slice ba bl bc, .int .i64 0, .int .i64 0] 120) = W := ⟨_, rfl⟩
  rw [hW1] at rR k0 k1 hB1 ⊢
  clear hW1 hQ
  have sW1 := hB1.size
  have lQ := held_lt rR
  have l01b := held_lt k1
  have l00b := held_lt k0
  have nA2 := alloc_new W1 (.cells #[.int .u32 t, .int .i32 a0, .int .i32 a1, .int .i32 a2, .int .i32 a3, .int .i32 a4, .int .i32 a5, .int .i32 a6, .int .i32 a7, .int .i32 a8, .int .i32 a9, .int .i32 a10, .int .i32 a11] 65)
  have hA2 := nA2.2.1
  have r8 := nA2.2.2
  obtain ⟨t8, ht8⟩ : ∃ q, W1.heap.size = q := ⟨_, rfl⟩
  rw [ht8] at r8
  have z0 := held_cell k0 0 _ rfl
  have z1 := held_cell k0 1 _ rfl
  have z2 := held_cell k0 2 _ rfl
  have z3 := held_cell k0 3 _ rfl
  have z4 := held_cell k0 4 _ rfl
  have z5 := held_cell k0 5 _ rfl
  have z6 := held_cell k0 6 _ rfl
  have z7 := held_cell k0 7 _ rfl
  have z8 := held_cell k0 8 _ rfl
  have z9 := held_cell k0 9 _ rfl
  have z10 := held_cell k0 10 _ rfl
  have z11 := held_cell k0 11 _ rfl
  have z12 := held_cell k0 12 _ rfl
  have q0 := held_after hA2 k0
  have q1 := held_after hA2 k1
  have qR := held_after hA2 rR
  have hB2 := bthen hB1 hA2
  have n8 : w.heap.size ≤ t8 := by omega
  have d8Q : t8 ≠ Q := by omega
  have d81 : p0_1 ≠ t8 := by omega
  have d80 : p0_0 ≠ t8 := by omega
  clear nA2 hA2 rR k0 k1 hB1
  go_upto_region 3 with (fail)
  try rw [ht8]
  obtain ⟨W2, hW2⟩ : ∃ W, W1.alloc (.cells #[.int .u32 t, .int .i32 a0, .int .i32 a1, .int .i32 a2, .int .i32 a3, .int .i32 a4, .int .i32 a5, .int .i32 a6, .int .i32 a7, .int .i32 a8, .int .i32 a9, .int .i32 a10, .int .i32 a11] 65) = W := ⟨_, rfl⟩
  rw [hW2] at r8 q0 q1 qR hB2 ⊢
  clear hW2 ht8 z0 z1 z2 z3 z4 z5 z6 z7 z8 z9 z10 z11 z12
  have hS2 := hid (hS.out.below hB2)
  have sW2 := hB2.size
  have r82 := (show W2.drew.heap[t8]? = _ from r8)
  have q02 := (show W2.drew.heap[p0_0]? = _ from q0)
  have q12 := (show W2.drew.heap[p0_1]? = _ from q1)
  have qR2 := (show W2.drew.heap[Q]? = _ from qR)
  have hB3 := hid hB2.drew
  clear r8 q0 q1 qR hB2
  have wu1 : IntKind.u32.wrap (u1 : Int) = (u1 : Int) := by rw [IntKind.wrap_u32]; omega
  obtain ⟨T, hTd⟩ : ∃ T, (t + (u1 : Int)) % 4294967296 = T := ⟨_, rfl⟩
  have wT : IntKind.u32.wrap (t + (u1 : Int)) = T := by rw [IntKind.wrap_u32]; omega
  have hTb : 0 ≤ T ∧ T ≤ 4294967295 := by omega
  replace hTd := hid hTd
  refine wp_region_T (some Q) 7 (by kernel_rfl) ?_
  refine wpAnyT_take 0 rfl (by kernel_rfl) (by kernel_rfl) (by kernel_rfl) (by kernel_rfl) (fun _ _ _ _ h => h) ⟨_, Or.inl ⟨by rfl, fun w2 hb2 => by (go_simp; try with_reducible rfl)⟩, _, by (go_simp; try rfl), ?_⟩
  refine wpAnyT_take 1 rfl (by kernel_rfl) (by kernel_rfl) (by kernel_rfl) (by kernel_rfl) (fun _ _ _ _ h => h) ⟨_, Or.inl ⟨by rfl, fun w2 hb2 => by (have hx := held_cell (hb2.held r82 (fun e => d8Q (Option.some.inj e))) 0 _ rfl; go_simp; try with_reducible rfl)⟩, _, by (go_simp; try rfl), ?_⟩
  refine wpAnyT_take 2 rfl (by kernel_rfl) (by kernel_rfl) (by kernel_rfl) (by kernel_rfl) (fun _ _ _ _ h => h) ⟨_, Or.inl ⟨by rfl, fun w2 hb2 => by (go_simp; try with_reducible rfl)⟩, _, by (go_simp; try rfl), ?_⟩
  refine wpAnyT_only 3 rfl (by kernel_rfl) (by rfl) (fun K hK => ?_)
  go_simp
  refine (next_any Q bl bc 0 ba bs 0 4294967295 _ qR2 (hS2.out.below (Below.refl _ W2).drew) hz.out (by omega) (by omega) hbl (by omega)).mono ?_
  rw [h1.out]
  dsimp only
  rintro ev V3 ⟨rfl, qR3, hO3⟩
  go_simp
  refine hK _ _ ⟨fun _ => rx_only hO3, ?_⟩
  clear hK
  have r83 := (hO3.block t8 d8Q).trans r82
  have q13 := (hO3.block p0_1 dQ1).trans q12
  have q03 := (hO3.block p0_0 dQ0).trans q02
  have hB4 := hid (belowS hB3.out hO3 nQ)
  have hS3 := hid (hO3.sl (hS2.out.below (Below.refl _ W2).drew) qR2)
  clear hO3 qR2 r82 q12 q02 hB3 hS2
  refine wpAnyT_take 4 rfl (by kernel_rfl) (by kernel_rfl) (by kernel_rfl) (by kernel_rfl) (fun _ _ _ _ h => h) ⟨_, Or.inl ⟨by rfl, fun w2 hb2 => by (go_simp; try with_reducible rfl)⟩, _, by (go_simp; try rfl), ?_⟩
  refine wpAnyT_take 5 rfl (by kernel_rfl) (by kernel_rfl) (by kernel_rfl) (by kernel_rfl) (fun _ _ _ _ h => h) ⟨_, Or.inl ⟨by rfl, fun w2 hb2 => by (go_simp; try with_reducible rfl)⟩, _, by (go_simp; try rfl), ?_⟩
  refine wpAnyT_take 6 rfl (by kernel_rfl) (by kernel_rfl) (by kernel_rfl) (by kernel_rfl) (fun _ _ _ _ h => h) ⟨_, Or.inl ⟨by rfl, fun w2 hb2 => by (go_simp; try with_reducible rfl)⟩, _, by (go_simp; try rfl), ?_⟩
  refine wpAnyT_only 7 rfl (by kernel_rfl) (by rfl) (fun K hK => ?_)
  have cz := held_cell r83 0 _ rfl
  have fz := held_free r83 0
  obtain ⟨W4, hW4, y8, yO⟩ := st1 r83 0 (.int .u32 T)
  have x8 : W4.heap[t8]? = some (.cells (recC T [a0, a1, a2, a3, a4, a5, a6, a7, a8, a9, a10, a11]) 65 (0, 0)) := y8
  go_simp
  refine hK _ _ ⟨fun h => (h rfl).elim, ?_⟩
  clear hK
  have q14 := (yO.block p0_1 d81).trans q13
  have q04 := (yO.block p0_0 d80).trans q03
  have qR4 := (yO.block Q (Ne.symm d8Q)).trans qR3
  have hB5 := hid (belowS hB4.out yO n8)
  have hS4 := hid (hS3.out.other r83 (by intro i x hh; rcases i with _ | _ | _ | _ | _ | _ | _ | _ | _ | _ | _ | _ | _ | i <;> simp at hh) (fun b hb => yO.block b hb))
  clear cz fz y8 yO r83 q13 q03 qR3 hB4 hS3
  refine wpAnyT_done (by kernel_rfl) ?_ _
  go_wp2_with fail
  refine (next_any Q bl bc n1 ba bs e1 4095 _ qR4 hS4.out hz.out b1.2.1 b1.2.2.1 hbl (by omega)).mono ?_
  rw [h2.out]
  dsimp only
  rintro ev V5 ⟨rfl, qR5, hO5⟩
  have x85 := (hO5.block t8 d8Q).trans x8
  have q15 := (hO5.block p0_1 dQ1).trans q14
  have q05 := (hO5.block p0_0 dQ0).trans q04
  have hB6 := belowS hB5.out hO5 nQ
  have hS5 := hO5.sl hS4.out qR4
  clear hO5 qR4 x8 q14 q04 hB5 hS4
  have z1 := held_cell q05 1 _ rfl
  have z2 := held_cell q05 2 _ rfl
  have z3 := held_cell q05 3 _ rfl
  have z4 := held_cell q05 4 _ rfl
  have z5 := held_cell q05 5 _ rfl
  have z6 := held_cell q05 6 _ rfl
  have z7 := held_cell q05 7 _ rfl
  have z8 := held_cell q05 8 _ rfl
  have z9 := held_cell q05 9 _ rfl
  have z10 := held_cell q05 10 _ rfl
  have z11 := held_cell q05 11 _ rfl
  have z12 := held_cell q05 12 _ rfl
  go_wp2_with fail
  go_loopw [27] (fun ix wr => ∃ (k n : Nat) (v : List Int) (e : Int), k ≤ 12 ∧ ix = .int .i64 k ∧ Hid (tdL bs [a0, a1, a2, a3, a4, a5, a6, a7, a8, a9, a10, a11] m2 n2 e2 k = (v, n, e)) ∧ v.length = 12 ∧ n ≤ bl ∧ (0 ≤ e ∧ e ≤ 9) ∧ wr.heap[Q]? = some (.cells #[.slice ba bl bc, .int .i64 n, .int .i64 e] 120 (0, 0)) ∧ wr.heap[t8]? = some (.cells (recC T v) 65 (0, 0)) ∧ wr.heap[p0_1]? = some (.cells #[.int .u32 0, .int .i32 0, .int .i32 0, .int .i32 0, .int .i32 0, .int .i32 0, .int .i32 0, .int .i32 0, .int .i32 0, .int .i32 0, .int .i32 0, .int .i32 0, .int .i32 0] 65 (0, 0)) ∧ Sl .u8 wr ba bl bc bs ∧ Below w.heap.size w wr) (fun ix _ => 12 - (intOf ix).toNat)
  case atStart => exact ⟨0, n2, [a0, a1, a2, a3, a4, a5, a6, a7, a8, a9, a10, a11], e2, by omega, rfl, hid rfl, rfl, b2.2.1, b2.2.2.1, qR5, x85, q15, hS5, hB6⟩
  case round =>
    clear qR5 x85 q15 hS5 hB6 q05 z1 z2 z3 z4 z5 z6 z7 z8 z9 z10 z11 z12
    obtain ⟨k, n, v, e, hk, rfl, htd, hvl, hnl, heb, rQ, r8, r1, hSw, hB⟩ := hrel
    have sB := hB.size
    by_cases hlt : (k : Int) < 12
    case neg =>
      obtain rfl : k = 12 := by omega
      have hf := hfin.out v n e htd.out
      clear htd hfin
      have cQ1 := held_cell rQ 1 _ rfl
      have cQ2 := held_cell rQ 2 _ rfl
      by_cases he0 : e = 0
      case neg =>
        have er := hid (hf.trans (if_pos he0))
        have hq : (e != 0) = true := by simp [he0]
        clear hf he0
        go_upto_region 12 with (fail)
        have rQD := (show wr.drew.heap[Q]? = _ from rQ)
        have r1D := (show wr.drew.heap[p0_1]? = _ from r1)
        have hBD := hB.drew
        obtain ⟨QQ, hQQ⟩ : ∃ X, wr.drew = X := ⟨_, rfl⟩
        rw [hQQ] at rQD r1D hBD
        clear rQ r1 hB cQ1 cQ2
        refine wp_region_T (some p0_1) 7 (by kernel_rfl) ?_
        refine wpAnyT_take 0 rfl (by kernel_rfl) (by kernel_rfl) (by kernel_rfl) (by kernel_rfl) (fun _ _ _ _ h => h) ⟨_, Or.inl ⟨by rfl, fun w2 hb2 => by (go_simp; try with_reducible rfl)⟩, _, by (go_simp; try rfl), ?_⟩
        refine wpAnyT_take 1 rfl (by kernel_rfl) (by kernel_rfl) (by kernel_rfl) (by kernel_rfl) (fun _ _ _ _ h => h) ⟨_, Or.inl ⟨by rfl, fun w2 hb2 => by (go_simp; try with_reducible rfl)⟩, _, by (go_simp; try rfl), ?_⟩
        refine wpAnyT_take 2 rfl (by kernel_rfl) (by kernel_rfl) (by kernel_rfl) (by kernel_rfl) (fun _ _ _ _ h => h) ⟨_, Or.inl ⟨by rfl, fun w2 hb2 => by (go_simp; try with_reducible rfl)⟩, _, by (go_simp; try rfl), ?_⟩
        refine wpAnyT_take 3 rfl (by kernel_rfl) (by kernel_rfl) (by kernel_rfl) (by kernel_rfl) (fun _ _ _ _ h => h) ⟨_, Or.inl ⟨by rfl, fun w2 hb2 => by (go_simp; try with_reducible rfl)⟩, _, by (go_simp; try rfl), ?_⟩
        refine wpAnyT_take 4 rfl (by kernel_rfl) (by kernel_rfl) (by kernel_rfl) (by kernel_rfl) (fun _ _ _ _ h => h) ⟨_, Or.inl ⟨by rfl, fun w2 hb2 => by (have hx := held_cell (hb2.held (show wr.drew.heap[Q]? = _ from (by rw [hQQ]; exact rQD)) (fun e => dQ1 (Option.some.inj e).symm)) 2 _ rfl; go_simp; try with_reducible rfl)⟩, _, by (go_simp; try rfl), ?_⟩
        refine wpAnyT_only 5 rfl (by kernel_rfl) (by rfl) (fun K hK => ?_)
        have y0 := held_cell r1D 0 _ rfl
        have y1 := held_cell r1D 1 _ rfl
        have y2 := held_cell r1D 2 _ rfl
        have y3 := held_cell r1D 3 _ rfl
        have y4 := held_cell r1D 4 _ rfl
        have y5 := held_cell r1D 5 _ rfl
        have y6 := held_cell r1D 6 _ rfl
        have y7 := held_cell r1D 7 _ rfl
        have y8 := held_cell r1D 8 _ rfl
        have y9 := held_cell r1D 9 _ rfl
        have y10 := held_cell r1D 10 _ rfl
        have y11 := held_cell r1D 11 _ rfl
        have y12 := held_cell r1D 12 _ rfl
        have f0 := held_free r1D 0
        have f1 := held_free r1D 1
        have f2 := held_free r1D 2
        have f3 := held_free r1D 3
        have f4 := held_free r1D 4
        have f5 := held_free r1D 5
        have f6 := held_free r1D 6
        have f7 := held_free r1D 7
        have f8 := held_free r1D 8
        have f9 := held_free r1D 9
        have f10 := held_free r1D 10
        have f11 := held_free r1D 11
        have f12 := held_free r1D 12
        obtain ⟨W9, hW9, ya, yO⟩ := st13 r1D (.int .u32 0) (.int .i32 0) (.int .i32 0) (.int .i32 0) (.int .i32 0) (.int .i32 0) (.int .i32 0) (.int .i32 0) (.int .i32 0) (.int .i32 0) (.int .i32 0) (.int .i32 0) (.int .i32 0)
        have ez0 := held_cell ya 0 _ rfl
        have ez1 := held_cell ya 1 _ rfl
        have ez2 := held_cell ya 2 _ rfl
        have ez3 := held_cell ya 3 _ rfl
        have ez4 := held_cell ya 4 _ rfl
        have ez5 := held_cell ya 5 _ rfl
        have ez6 := held_cell ya 6 _ rfl
        have ez7 := held_cell ya 7 _ rfl
        have ez8 := held_cell ya 8 _ rfl
        have ez9 := held_cell ya 9 _ rfl
        have ez10 := held_cell ya 10 _ rfl
        have ez11 := held_cell ya 11 _ rfl
        have ez12 := held_cell ya 12 _ rfl
        have hB9 := hid (belowS hBD yO n1w)
        go_simp
        refine hK _ _ ⟨fun _ => (by rw [hQQ]; exact rx_only yO), ?_⟩
        clear hK
        clear ya yO y0 y1 y2 y3 y4 y5 y6 y7 y8 y9 y10 y11 y12 f0 f1 f2 f3 f4 f5 f6 f7 f8 f9 f10 f11 f12
        refine wpAnyT_take 6 rfl (by kernel_rfl) (by kernel_rfl) (by kernel_rfl) (by kernel_rfl) (fun _ _ _ _ h => h) ⟨_, Or.inl ⟨by rfl, fun w2 hb2 => by (go_simp; try with_reducible rfl)⟩, _, by (go_simp; try rfl), ?_⟩
        refine wpAnyT_only 7 rfl (by kernel_rfl) (by rfl) (fun K hK => ?_)
        go_simp
        refine hK _ _ ⟨fun h => (h rfl).elim, ?_⟩
        clear hK
        refine wpAnyT_done (by kernel_rfl) ?_ _
        go_wp2_with fail
        try rw [Exit.noGoto_ret]
        refine bodyPost_ret (v := .tuple #[.agg #[.int .u32 0, .int .i32 0, .int .i32 0, .int .i32 0, .int .i32 0, .int .i32 0, .int .i32 0, .int .i32 0, .int .i32 0, .int .i32 0, .int .i32 0, .int .i32 0, .int .i32 0], .int .i64 0, .int .i64 e]) (by simp [results, Try.results58, go_sem, ez0, ez1, ez2, ez3, ez4, ez5, ez6, ez7, ez8, ez9, ez10, ez11, ez12]) rfl ?_
        rw [er.out]
        exact ⟨rfl, hB9.out⟩
      subst he0
      have er := hid (hf.trans (if_neg (by simp)))
      clear hf
      obtain ⟨x0, x1, x2, x3, x4, x5, x6, x7, x8, x9, x10, x11, rfl⟩ := list12 hvl
      go_upto_region 13 with (fail)
      have rQD := (show wr.drew.heap[Q]? = _ from rQ)
      have r1D := (show wr.drew.heap[p0_1]? = _ from r1)
      have r8D : wr.drew.heap[t8]? = some (.cells #[.int .u32 T, .int .i32 x0, .int .i32 x1, .int .i32 x2, .int .i32 x3, .int .i32 x4, .int .i32 x5, .int .i32 x6, .int .i32 x7, .int .i32 x8, .int .i32 x9, .int .i32 x10, .int .i32 x11] 65 (0, 0)) := r8
      have hBD := hB.drew
      obtain ⟨QQ, hQQ⟩ : ∃ X, wr.drew = X := ⟨_, rfl⟩
      rw [hQQ] at rQD r1D r8D hBD
      clear rQ r1 r8 hB cQ1 cQ2 hvl
      refine wp_region_T (some p0_1) 7 (by kernel_rfl) ?_
      refine wpAnyT_take 0 rfl (by kernel_rfl) (by kernel_rfl) (by kernel_rfl) (by kernel_rfl) (fun _ _ _ _ h => h) ⟨_, Or.inl ⟨by rfl, fun w2 hb2 => by (have h8 := hb2.held (show wr.drew.heap[t8]? = _ from (by rw [hQQ]; exact r8D)) (fun e => d81 (Option.some.inj e).symm); have g0 := held_cell h8 0 _ rfl; have g1 := held_cell h8 1 _ rfl; have g2 := held_cell h8 2 _ rfl; have g3 := held_cell h8 3 _ rfl; have g4 := held_cell h8 4 _ rfl; have g5 := held_cell h8 5 _ rfl; have g6 := held_cell h8 6 _ rfl; have g7 := held_cell h8 7 _ rfl; have g8 := held_cell h8 8 _ rfl; have g9 := held_cell h8 9 _ rfl; have g10 := held_cell h8 10 _ rfl; have g11 := held_cell h8 11 _ rfl; have g12 := held_cell h8 12 _ rfl; go_simp; try with_reducible rfl)⟩, _, by (go_simp; try rfl), ?_⟩
      refine wpAnyT_take 1 rfl (by kernel_rfl) (by kernel_rfl) (by kernel_rfl) (by kernel_rfl) (fun _ _ _ _ h => h) ⟨_, Or.inl ⟨by rfl, fun w2 hb2 => by (go_simp; try with_reducible rfl)⟩, _, by (go_simp; try rfl), ?_⟩
      refine wpAnyT_take 2 rfl (by kernel_rfl) (by kernel_rfl) (by kernel_rfl) (by kernel_rfl) (fun _ _ _ _ h => h) ⟨_, Or.inl ⟨by rfl, fun w2 hb2 => by (go_simp; try with_reducible rfl)⟩, _, by (go_simp; try rfl), ?_⟩
      refine wpAnyT_take 3 rfl (by kernel_rfl) (by kernel_rfl) (by kernel_rfl) (by kernel_rfl) (fun _ _ _ _ h => h) ⟨_, Or.inl ⟨by rfl, fun w2 hb2 => by (go_simp; try with_reducible rfl)⟩, _, by (go_simp; try rfl), ?_⟩
      refine wpAnyT_take 4 rfl (by kernel_rfl) (by kernel_rfl) (by kernel_rfl) (by kernel_rfl) (fun _ _ _ _ h => h) ⟨_, Or.inl ⟨by rfl, fun w2 hb2 => by (have hx := held_cell (hb2.held (show wr.drew.heap[Q]? = _ from (by rw [hQQ]; exact rQD)) (fun e => dQ1 (Option.some.inj e).symm)) 1 _ rfl; go_simp; try with_reducible rfl)⟩, _, by (go_simp; try rfl), ?_⟩
      refine wpAnyT_only 5 rfl (by kernel_rfl) (by rfl) (fun K hK => ?_)
      have y0 := held_cell r1D 0 _ rfl
      have y1 := held_cell r1D 1 _ rfl
      have y2 := held_cell r1D 2 _ rfl
      have y3 := held_cell r1D 3 _ rfl
      have y4 := held_cell r1D 4 _ rfl
      have y5 := held_cell r1D 5 _ rfl
      have y6 := held_cell r1D 6 _ rfl
      have y7 := held_cell r1D 7 _ rfl
      have y8 := held_cell r1D 8 _ rfl
      have y9 := held_cell r1D 9 _ rfl
      have y10 := held_cell r1D 10 _ rfl
      have y11 := held_cell r1D 11 _ rfl
      have y12 := held_cell r1D 12 _ rfl
      have f0 := held_free r1D 0
      have f1 := held_free r1D 1
      have f2 := held_free r1D 2
      have f3 := held_free r1D 3
      have f4 := held_free r1D 4
      have f5 := held_free r1D 5
      have f6 := held_free r1D 6
      have f7 := held_free r1D 7
      have f8 := held_free r1D 8
      have f9 := held_free r1D 9
      have f10 := held_free r1D 10
      have f11 := held_free r1D 11
      have f12 := held_free r1D 12
      obtain ⟨W9, hW9, ya, yO⟩ := st13 r1D (.int .u32 T) (.int .i32 x0) (.int .i32 x1) (.int .i32 x2) (.int .i32 x3) (.int .i32 x4) (.int .i32 x5) (.int .i32 x6) (.int .i32 x7) (.int .i32 x8) (.int .i32 x9) (.int .i32 x10) (.int .i32 x11)
      have ez0 := held_cell ya 0 _ rfl
      have ez1 := held_cell ya 1 _ rfl
      have ez2 := held_cell ya 2 _ rfl
      have ez3 := held_cell ya 3 _ rfl
      have ez4 := held_cell ya 4 _ rfl
      have ez5 := held_cell ya 5 _ rfl
      have ez6 := held_cell ya 6 _ rfl
      have ez7 := held_cell ya 7 _ rfl
      have ez8 := held_cell ya 8 _ rfl
      have ez9 := held_cell ya 9 _ rfl
      have ez10 := held_cell ya 10 _ rfl
      have ez11 := held_cell ya 11 _ rfl
      have ez12 := held_cell ya 12 _ rfl
      have hB9 := hid (belowS hBD yO n1w)
      go_simp
      refine hK _ _ ⟨fun _ => (by rw [hQQ]; exact rx_only yO), ?_⟩
      clear hK
      clear ya yO y0 y1 y2 y3 y4 y5 y6 y7 y8 y9 y10 y11 y12 f0 f1 f2 f3 f4 f5 f6 f7 f8 f9 f10 f11 f12
      refine wpAnyT_take 6 rfl (by kernel_rfl) (by kernel_rfl) (by kernel_rfl) (by kernel_rfl) (fun _ _ _ _ h => h) ⟨_, Or.inl ⟨by rfl, fun w2 hb2 => by (go_simp; try with_reducible rfl)⟩, _, by (go_simp; try rfl), ?_⟩
      refine wpAnyT_only 7 rfl (by kernel_rfl) (by rfl) (fun K hK => ?_)
      go_simp
      refine hK _ _ ⟨fun h => (h rfl).elim, ?_⟩
      clear hK
      refine wpAnyT_done (by kernel_rfl) ?_ _
      go_wp2_with fail
      try rw [Exit.noGoto_ret]
      refine bodyPost_ret (v := .tuple #[.agg #[.int .u32 T, .int .i32 x0, .int .i32 x1, .int .i32 x2, .int .i32 x3, .int .i32 x4, .int .i32 x5, .int .i32 x6, .int .i32 x7, .int .i32 x8, .int .i32 x9, .int .i32 x10, .int .i32 x11], .int .i64 n, .int .i64 0]) (by simp [results, Try.results58, go_sem, ez0, ez1, ez2, ez3, ez4, ez5, ez6, ez7, ez8, ez9, ez10, ez11, ez12]) rfl ?_
      rw [er.out, hTd.out]
      exact ⟨rfl, hB9.out⟩
    have hk2 : k < 12 := by omega
    have hon := fun h => tdL_on htd.out (k := k) h
    have hoff := fun h => tdL_off htd.out (k := k) h
    have ix := fun W => index12_any a0 a1 a2 a3 a4 a5 a6 a7 a8 a9 a10 a11 k W hk2
    have hx := get_bd ha.out k
    have hgb := fun z => grS_bd (bs := bs) (at_ := n) (e := e) (v := z) hz.out (by rw [hl0.out]; exact hnl) heb
    rw [hl0.out] at hgb
    obtain ⟨x, hxe⟩ : ∃ x, [a0, a1, a2, a3, a4, a5, a6, a7, a8, a9, a10, a11].getD k 0 = x := ⟨_, rfl⟩
    rw [hxe] at hx hon
    simp only [hxe] at ix
    clear hxe htd
    have kg := hid (grown_any Q bl bc n ba bs e x wr rQ hSw hz.out hnl heb hbl hx)
    have hgb2 := hgb x
    obtain ⟨⟨g, n9, e9⟩, hg⟩ : ∃ g, grS bs n e x = g := ⟨_, rfl⟩
    rw [hg] at hon kg hgb2
    dsimp only at hon kg hgb2
    clear hg hgb
    have kz : (0 : Int) ≤ k := by omega
    have wk : IntKind.i64.wrap ((k : Int) + 1) = (k : Int) + 1 := by rw [IntKind.wrap_i64]; omega
    have hk1 := hid (show k + 1 ≤ 12 by omega)
    have hbit : (m2 : Int) / 2 ^ k % 2 = ((m2 / 2 ^ k % 2 : Nat) : Int) := by simp
    by_cases hb1 : m2 / 2 ^ k % 2 = 1
    · have h9 := hid (hon hb1)
      rw [hb1] at hbit
      have hq : (bits .and .u64 ((m2 : Int) / 2 ^ k) 1 == 1) = true := by rw [and1_u64, hbit]; rfl
      clear hon hoff hb1 hbit hk
      go_wp2_with fail
      refine kg.out.mono ?_
      rintro ev V9 ⟨rfl, rQ9, hO9⟩
      have r89 := (hO9.block t8 d8Q).trans r8
      have r19 := (hO9.block p0_1 dQ1).trans r1
      have hB9 := belowS hB hO9 nQ
      have hS9 := hO9.sl hSw rQ
      clear kg hO9 rQ r8 r1 hB hSw
      have cx : V9.cell? ⟨t8, 1 + k, none⟩ = some (.int .i32 (v.getD k 0)) := by rw [cell_of_row V9 t8 (1 + k) _ 65 (0, 0) r89]; exact recC_at T v k (by omega)
      have fx := held_free r89 (1 + k)
      obtain ⟨S1, hS1, s1, o1⟩ := st1 r89 (1 + k) (.int .i32 g)
      rw [recC_set] at s1
      have z1 := hid ((o1.block p0_1 d81).trans r19)
      have zQ := hid ((o1.block Q (Ne.symm d8Q)).trans rQ9)
      have hBf := hid (belowS hB9 o1 n8)
      have hSf := hid (hS9.other r89 (by intro i x hh; unfold recC at hh; rcases i with _ | i <;> simp at hh) (fun b hb => o1.block b hb))
      have hvs := hid (show (v.set k g).length = 12 by rw [List.length_set]; exact hvl)
      replace s1 := hid s1
      clear o1 r19 rQ9 hB9 hS9 r89
      go_wp2_with fail
      go_roundw
      case rel => exact ⟨k + 1, n9, v.set k g, e9, hk1.out, by simp, h9, hvs.out, hgb2.1, hgb2.2.1, zQ.out, s1.out, z1.out, hSf.out, hBf.out⟩
      case measure => simp [intOf]; omega
    · have h9 := hid (hoff hb1)
      have hb0 : m2 / 2 ^ k % 2 = 0 := by omega
      rw [hb0] at hbit
      have hq : (bits .and .u64 ((m2 : Int) / 2 ^ k) 1 == 1) = false := by rw [and1_u64, hbit]; rfl
      clear hon hoff hb1 hb0 hbit hk kg
      replace rQ := hid rQ
      replace r8 := hid r8
      replace r1 := hid r1
      replace hSw := hid hSw
      replace hB := hid hB
      go_wp2_with fail
      go_roundw
      case rel => exact ⟨k + 1, n, v, e, hk1.out, by simp, h9, hvl, hnl, heb, rQ.out, r8.out, r1.out, hSw.out, hB.out⟩
      case measure => simp [intOf]; omega

end Go.Proofs.Ytlfbhfmchdbnoaa
