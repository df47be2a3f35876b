/- Package rec: the papers' TakeDelta. -/
import Derived.Test.YtlfbhfmchdbnoaaRec7
import Derived.Deep.DeepCutAuto
namespace Go.Proofs.Ytlfbhfmchdbnoaa
open Go.ChangeShapes Go.WideShapes Go.ChangeAt Go.RowKit
set_option linter.unusedVariables false
set_option linter.unusedSimpArgs false

theorem nx_err {bs : List Int} {n hi : Nat} {e : Int} (h : e ≠ 0) : nxS bs n e hi = (0, n, e) := by unfold nxS; rw [if_pos h]
theorem gr_err {bs : List Int} {n : Nat} {e v : Int} (h : e ≠ 0) : grS bs n e v = (0, n, e) := by unfold grS; rw [nx_err h]; dsimp only; rw [if_pos h]
theorem tdL_err {bs a : List Int} {mask n0 : Nat} {e0 : Int} {k : Nat} {v : List Int} {n : Nat} {e : Int} (h : tdL bs a mask n0 e0 k = (v, n, e)) (he : e ≠ 0) : ∀ m, ∃ v', tdL bs a mask n0 e0 (k + m) = (v', n, e)
  | 0 => ⟨v, h⟩
  | m + 1 => by
    obtain ⟨v', h'⟩ := tdL_err h he m
    by_cases hb : mask / 2 ^ (k + m) % 2 = 1
    · exact ⟨_, by have := tdL_on h' hb; rw [gr_err he] at this; exact this⟩
    · exact ⟨_, tdL_off h' hb⟩
theorem nx_e {bs : List Int} {n hi qu qn qe : Nat} (hq : takeS (bs.drop n) 0 0 = (qu, qn, qe)) (h : qe ≠ 0) : nxS bs n 0 hi = (0, n, (qe : Int)) := by
  unfold nxS; rw [if_neg (by simp), hq]; exact if_pos h
theorem nx_r {bs : List Int} {n hi qu qn : Nat} (hq : takeS (bs.drop n) 0 0 = (qu, qn, 0)) (h : hi < qu) : nxS bs n 0 hi = (0, n, 5) := by
  unfold nxS; rw [if_neg (by simp), hq]; dsimp only; rw [if_neg (by simp), if_pos h]
theorem nx_ok {bs : List Int} {n hi qu qn : Nat} (hq : takeS (bs.drop n) 0 0 = (qu, qn, 0)) (h : ¬ hi < qu) : nxS bs n 0 hi = (qu, n + qn, 0) := by
  unfold nxS; rw [if_neg (by simp), hq]; dsimp only; rw [if_neg (by simp), if_neg h]
theorem gr_e {bs : List Int} {n qu qn qe : Nat} {x : Int} (hq : takeS (bs.drop n) 0 0 = (qu, qn, qe)) (h : qe ≠ 0) : grS bs n 0 x = (0, n, (qe : Int)) := by
  unfold grS; rw [nx_e hq h]; dsimp only; rw [if_pos (by omega)]
theorem gr_r {bs : List Int} {n qu qn : Nat} {x : Int} (hq : takeS (bs.drop n) 0 0 = (qu, qn, 0)) (hu : qu ≤ 18446744073709551615) (h : zagS (qu : Int) = 0 ∨ 2147483647 - x < zagS (qu : Int) ∨ zagS (qu : Int) < -2147483648 - x) : grS bs n 0 x = (0, n + qn, 5) := by
  unfold grS; rw [nx_ok hq (by omega)]; dsimp only; rw [if_neg (by simp), if_pos h]
theorem gr_ok {bs : List Int} {n qu qn : Nat} {x : Int} (hq : takeS (bs.drop n) 0 0 = (qu, qn, 0)) (hu : qu ≤ 18446744073709551615) (h : ¬ (zagS (qu : Int) = 0 ∨ 2147483647 - x < zagS (qu : Int) ∨ zagS (qu : Int) < -2147483648 - x)) : grS bs n 0 x = (x + zagS (qu : Int), n + qn, 0) := by
  unfold grS; rw [nx_ok hq (by omega)]; dsimp only; rw [if_neg (by simp), if_neg h]
theorem takD_e1 {t : Int} {a bs : List Int} {u1 n1 : Nat} {e1 : Int} (h1 : nxS bs 0 0 4294967295 = (u1, n1, e1)) (he : e1 ≠ 0) : takD t a bs = ((0, zer12), 0, e1) := by
  obtain ⟨v', h'⟩ := tdL_err (bs := bs) (a := a) (mask := 0) (n0 := n1) (e0 := e1) (k := 0) rfl he 12
  rw [takD_at h1 (nx_err he) h', if_pos he]
theorem takD_e2 {t : Int} {a bs : List Int} {u1 n1 m2 n2 : Nat} {e2 : Int} (h1 : nxS bs 0 0 4294967295 = (u1, n1, 0)) (h2 : nxS bs n1 0 4095 = (m2, n2, e2)) (he : e2 ≠ 0) : takD t a bs = ((0, zer12), 0, e2) := by
  obtain ⟨v', h'⟩ := tdL_err (bs := bs) (a := a) (mask := m2) (n0 := n2) (e0 := e2) (k := 0) rfl he 12
  rw [takD_at h1 h2 h', if_pos he]
theorem takD_ek {t : Int} {a bs : List Int} {u1 n1 m2 n2 k n n9 : Nat} {v : List Int} {g e9 : Int} (h1 : nxS bs 0 0 4294967295 = (u1, n1, 0)) (h2 : nxS bs n1 0 4095 = (m2, n2, 0)) (htd : tdL bs a m2 n2 0 k = (v, n, 0)) (hb : m2 / 2 ^ k % 2 = 1) (hg : grS bs n 0 (a.getD k 0) = (g, n9, e9)) (he : e9 ≠ 0) (hk : k < 12) : takD t a bs = ((0, zer12), 0, e9) := by
  have h := tdL_on htd hb
  rw [hg] at h
  dsimp only at h
  obtain ⟨v', h'⟩ := tdL_err h he (11 - k)
  rw [show k + 1 + (11 - k) = 12 from by omega] at h'
  rw [takD_at h1 h2 h', if_pos he]
theorem takD_ok {t : Int} {a bs : List Int} {u1 n1 m2 n2 n : Nat} {v : List Int} (h1 : nxS bs 0 0 4294967295 = (u1, n1, 0)) (h2 : nxS bs n1 0 4095 = (m2, n2, 0)) (htd : tdL bs a m2 n2 0 12 = (v, n, 0)) : takD t a bs = (((t + (u1 : Nat)) % 4294967296, v), (n : Int), 0) := by
  rw [takD_at h1 h2 htd, if_neg (by simp)]
theorem take_end {bs : List Int} {n : Nat} (h : bs.length ≤ n) : takeS (bs.drop n) 0 0 = (0, 0, 2) := by
  rw [List.drop_of_length_le h]; rfl
set_option maxRecDepth 100000 in
set_option maxHeartbeats 8000000 in
theorem rtakeDelta_any (t a0 a1 a2 a3 a4 a5 a6 a7 a8 a9 a10 a11 : Int) (ba : Option Addr) (bl bc : Nat) (bs : List Int) (w : World) (hS : Sl .u8 w ba bl bc bs) (hz : ∀ x ∈ bs, (Lit.int .u8 x).wf = true) (hbl : bl ≤ 100000) (ht : 0 ≤ t ∧ t ≤ 4294967295) (ha : ∀ x ∈ [a0, a1, a2, a3, a4, a5, a6, a7, a8, a9, a10, a11], -2147483648 ≤ x ∧ x ≤ 2147483647) : Calls Try.prog 33 #[.agg #[.int .u32 t, .int .i32 a0, .int .i32 a1, .int .i32 a2, .int .i32 a3, .int .i32 a4, .int .i32 a5, .int .i32 a6, .int .i32 a7, .int .i32 a8, .int .i32 a9, .int .i32 a10, .int .i32 a11], .slice ba bl bc] w fun e w' => e = .returned (.tuple #[recA (takD t [a0, a1, a2, a3, a4, a5, a6, a7, a8, a9, a10, a11] bs).1.1 (takD t [a0, a1, a2, a3, a4, a5, a6, a7, a8, a9, a10, a11] bs).1.2, .int .i64 (takD t [a0, a1, a2, a3, a4, a5, a6, a7, a8, a9, a10, a11] bs).2.1, .int .i64 (takD t [a0, a1, a2, a3, a4, a5, a6, a7, a8, a9, a10, a11] bs).2.2]) ∧ After w w' := by
  have hl0 := hS.1
  have hcc := hS.2.1
  have hcm : bc ≤ 9223372036854775807 := Nat.le_trans hS.2.2.1 (by decide)
  obtain ⟨r, hr⟩ : ∃ r, takD t [a0, a1, a2, a3, a4, a5, a6, a7, a8, a9, a10, a11] bs = r := ⟨_, rfl⟩
  rw [hr]
  replace hr := hid hr
  have hok := hid (fun n => takeS_ok (bs.drop n) (bytes_bd (fun x hx => hz x (List.mem_of_mem_drop hx))))
  have her := hid (fun n => takeS_err (bs.drop n) 0 0)
  have kt := hid (fun (ad : Option Addr) (n c m : Nat) (W : World) (h : Sl .u8 W ad n c (bs.drop m)) (hn : n ≤ 1000000) => rvtake_any ad n c (bs.drop m) W hn h (fun x hx => hz x (List.mem_of_mem_drop hx)))
  replace ha := hid ha
  clear hz
  replace hl0 := hid hl0
  go_enter Try.func33, Try.ntmps33
  go_upto_region 0 with (fail)
  apply wp_region_seg0 (w := w) (S := [.al 1000, .al 1000, .q [], .q []]) (E := [.al ((fun p => .pointer (some ⟨p, 0, none⟩)), _) 1000, .al ((fun p => .pointer (some ⟨p, 0, none⟩)), _) 1000, .q0 _, .q0 _]) rfl (by kernel_rfl) rfl rfl
  intro th hge hne
  refine Seg.step _ rfl ⟨by rfl, fun U hU => ?_⟩ ?_
  · go_simp; exact vp_alloc rfl rfl rfl
  refine ⟨_, by (simp only [Ent.val]; go_simp <;> exact rfl), ?_⟩
  refine Seg.step _ rfl ⟨by rfl, fun U hU => ?_⟩ ?_
  · go_simp; exact vp_alloc rfl rfl rfl
  refine ⟨_, by (simp only [Ent.val]; go_simp <;> exact rfl), ?_⟩
  refine Seg.step _ rfl (Or.inl ⟨by rfl, fun U hU => vp_quiet (by (go_simp <;> exact rfl))⟩) ⟨_, by (simp only [Ent.val]; go_simp <;> exact rfl), ?_⟩
  refine Seg.step _ rfl (Or.inl ⟨by rfl, fun U hU => vp_quiet (by (go_simp <;> exact rfl))⟩) ⟨_, by (simp only [Ent.val]; go_simp <;> exact rfl), ?_⟩
  refine Seg.stop (fun U1 hU hk => ?_)
  have nb0 := hge 0 _ _ rfl
  have rb0 := (hk 0 _ _ rfl trivial).1.2 (by simp)
  have nb1 := hge 1 _ _ rfl
  have rb1 := (hk 1 _ _ rfl trivial).1.2 (by simp)
  have ne0_1 := hne 0 1 _ _ _ _ rfl rfl (by omega)
  clear hk hge hne
  generalize th (0 + 0) = p0_0 at *
  dsimp only at rb0
  generalize th (0 + 1) = p0_1 at *
  dsimp only at rb1
  have r_p0_0 := rb0
  clear rb0
  have n_p0_0 := nb0
  clear nb0
  have d_p0_0_p0_1 := ne0_1
  clear ne0_1
  have r_p0_1 := rb1
  clear rb1
  have n_p0_1 := nb1
  clear nb1
  have sz1 := hU.size
  have hB : Below w.heap.size w U1 := hU
  clear hU
  have n0w := n_p0_0
  have n1w := n_p0_1
  have d01 := d_p0_0_p0_1
  have sU := hB.size
  have hS1 := hS.below hB
  have r0 := r_p0_0
  have r1 := r_p0_1
  replace r_p0_0 := hid r_p0_0
  replace r_p0_1 := hid r_p0_1
  obtain ⟨⟨qu, qn, qe⟩, qq⟩ : ∃ q, takeS (bs.drop 0) 0 0 = q := ⟨_, rfl⟩
  have qo := hok.out 0
  have qr := her.out 0
  have qk := fun ad m c W h => kt.out ad m c 0 W h
  rw [qq] at qo qr qk
  dsimp only at qo qr
  have q9 : vtakeV (qu, qn, qe) = .tuple #[.int .u64 qu, .int .i64 qn, .int .i64 qe] := rfl
  rw [q9] at qk
  clear q9
  rw [List.length_drop, hl0.out] at qo
  replace qo := hid qo
  replace qr := hid qr
  replace qk := hid qk
  replace qq := hid qq
  have hS0 := hid (show Sl .u8 U1 ba bl bc (bs.drop 0) by rw [List.drop_zero]; exact hS1)
  go_wp2_with fail
  refine (qk.out ba bl bc U1 hS0.out (by omega)).mono ?_
  rintro ev V ⟨rfl, hv⟩
  obtain rfl : U1 = V := hv.symm
  clear hv qk hS0
  by_cases hqe : qe = 0
  case neg =>
    have er := hid (hr.out.symm.trans (takD_e1 (nx_e qq.out hqe) (by omega)))
    have hq : ((qe : Int) != 0) = true := by simp [hqe]
    clear hqe
    have y0 := held_cell r1 0 _ rfl
    have y1 := held_cell r1 1 _ rfl
    have y2 := held_cell r1 2 _ rfl
    have y3 := held_cell r1 3 _ rfl
    have y4 := held_cell r1 4 _ rfl
    have y5 := held_cell r1 5 _ rfl
    have y6 := held_cell r1 6 _ rfl
    have y7 := held_cell r1 7 _ rfl
    have y8 := held_cell r1 8 _ rfl
    have y9 := held_cell r1 9 _ rfl
    have y10 := held_cell r1 10 _ rfl
    have y11 := held_cell r1 11 _ rfl
    have y12 := held_cell r1 12 _ rfl
    have f0 := held_free r1 0
    have f1 := held_free r1 1
    have f2 := held_free r1 2
    have f3 := held_free r1 3
    have f4 := held_free r1 4
    have f5 := held_free r1 5
    have f6 := held_free r1 6
    have f7 := held_free r1 7
    have f8 := held_free r1 8
    have f9 := held_free r1 9
    have f10 := held_free r1 10
    have f11 := held_free r1 11
    have f12 := held_free r1 12
    obtain ⟨W4, hW4, ya, yO⟩ := st13 r1 (.int .u32 0) (.int .i32 0) (.int .i32 0) (.int .i32 0) (.int .i32 0) (.int .i32 0) (.int .i32 0) (.int .i32 0) (.int .i32 0) (.int .i32 0) (.int .i32 0) (.int .i32 0) (.int .i32 0)
    have ez0 := held_cell ya 0 _ rfl
    have ez1 := held_cell ya 1 _ rfl
    have ez2 := held_cell ya 2 _ rfl
    have ez3 := held_cell ya 3 _ rfl
    have ez4 := held_cell ya 4 _ rfl
    have ez5 := held_cell ya 5 _ rfl
    have ez6 := held_cell ya 6 _ rfl
    have ez7 := held_cell ya 7 _ rfl
    have ez8 := held_cell ya 8 _ rfl
    have ez9 := held_cell ya 9 _ rfl
    have ez10 := held_cell ya 10 _ rfl
    have ez11 := held_cell ya 11 _ rfl
    have ez12 := held_cell ya 12 _ rfl
    have hB4 := hid (belowS hB yO n1w)
    clear ya yO
    go_wp2_with fail
    try rw [Exit.noGoto_ret]
    refine bodyPost_ret (v := .tuple #[.agg #[.int .u32 0, .int .i32 0, .int .i32 0, .int .i32 0, .int .i32 0, .int .i32 0, .int .i32 0, .int .i32 0, .int .i32 0, .int .i32 0, .int .i32 0, .int .i32 0, .int .i32 0], .int .i64 0, .int .i64 (qe : Int)]) (by simp [results, Try.results33, go_sem, ez0, ez1, ez2, ez3, ez4, ez5, ez6, ez7, ez8, ez9, ez10, ez11, ez12]) rfl ?_
    rw [er.out]
    exact ⟨rfl, hB4.out⟩
  subst hqe
  obtain ⟨qo1, qo2, qo3, -⟩ := qo.out rfl
  clear qo qr
  by_cases h32 : (4294967295 : Int) < (qu : Int)
  case pos =>
    have er := hid (hr.out.symm.trans (takD_e1 (nx_r qq.out (by omega)) (by omega)))
    have y0 := held_cell r1 0 _ rfl
    have y1 := held_cell r1 1 _ rfl
    have y2 := held_cell r1 2 _ rfl
    have y3 := held_cell r1 3 _ rfl
    have y4 := held_cell r1 4 _ rfl
    have y5 := held_cell r1 5 _ rfl
    have y6 := held_cell r1 6 _ rfl
    have y7 := held_cell r1 7 _ rfl
    have y8 := held_cell r1 8 _ rfl
    have y9 := held_cell r1 9 _ rfl
    have y10 := held_cell r1 10 _ rfl
    have y11 := held_cell r1 11 _ rfl
    have y12 := held_cell r1 12 _ rfl
    have f0 := held_free r1 0
    have f1 := held_free r1 1
    have f2 := held_free r1 2
    have f3 := held_free r1 3
    have f4 := held_free r1 4
    have f5 := held_free r1 5
    have f6 := held_free r1 6
    have f7 := held_free r1 7
    have f8 := held_free r1 8
    have f9 := held_free r1 9
    have f10 := held_free r1 10
    have f11 := held_free r1 11
    have f12 := held_free r1 12
    obtain ⟨W4, hW4, ya, yO⟩ := st13 r1 (.int .u32 0) (.int .i32 0) (.int .i32 0) (.int .i32 0) (.int .i32 0) (.int .i32 0) (.int .i32 0) (.int .i32 0) (.int .i32 0) (.int .i32 0) (.int .i32 0) (.int .i32 0) (.int .i32 0)
    have ez0 := held_cell ya 0 _ rfl
    have ez1 := held_cell ya 1 _ rfl
    have ez2 := held_cell ya 2 _ rfl
    have ez3 := held_cell ya 3 _ rfl
    have ez4 := held_cell ya 4 _ rfl
    have ez5 := held_cell ya 5 _ rfl
    have ez6 := held_cell ya 6 _ rfl
    have ez7 := held_cell ya 7 _ rfl
    have ez8 := held_cell ya 8 _ rfl
    have ez9 := held_cell ya 9 _ rfl
    have ez10 := held_cell ya 10 _ rfl
    have ez11 := held_cell ya 11 _ rfl
    have ez12 := held_cell ya 12 _ rfl
    have hB4 := hid (belowS hB yO n1w)
    clear ya yO
    go_wp2_with fail
    try rw [Exit.noGoto_ret]
    refine bodyPost_ret (v := .tuple #[.agg #[.int .u32 0, .int .i32 0, .int .i32 0, .int .i32 0, .int .i32 0, .int .i32 0, .int .i32 0, .int .i32 0, .int .i32 0, .int .i32 0, .int .i32 0, .int .i32 0, .int .i32 0], .int .i64 0, .int .i64 5]) (by simp [results, Try.results33, go_sem, ez0, ez1, ez2, ez3, ez4, ez5, ez6, ez7, ez8, ez9, ez10, ez11, ez12]) rfl ?_
    rw [er.out]
    exact ⟨rfl, hB4.out⟩
  have h1 := hid (nx_ok (hi := 4294967295) qq.out (by omega))
  rw [Nat.zero_add] at h1
  clear qq
  have l1b := held_lt r1
  have l0b := held_lt r0
  have nA2 := alloc_new U1 (.cells #[.int .u32 t, .int .i32 a0, .int .i32 a1, .int .i32 a2, .int .i32 a3, .int .i32 a4, .int .i32 a5, .int .i32 a6, .int .i32 a7, .int .i32 a8, .int .i32 a9, .int .i32 a10, .int .i32 a11] 65)
  have hA2 := nA2.2.1
  have r8 := nA2.2.2
  obtain ⟨t8, ht8⟩ : ∃ q, U1.heap.size = q := ⟨_, rfl⟩
  rw [ht8] at r8
  have z0 := held_cell r0 0 _ rfl
  have z1 := held_cell r0 1 _ rfl
  have z2 := held_cell r0 2 _ rfl
  have z3 := held_cell r0 3 _ rfl
  have z4 := held_cell r0 4 _ rfl
  have z5 := held_cell r0 5 _ rfl
  have z6 := held_cell r0 6 _ rfl
  have z7 := held_cell r0 7 _ rfl
  have z8 := held_cell r0 8 _ rfl
  have z9 := held_cell r0 9 _ rfl
  have z10 := held_cell r0 10 _ rfl
  have z11 := held_cell r0 11 _ rfl
  have z12 := held_cell r0 12 _ rfl
  have s0 := held_after hA2 r0
  have s1 := held_after hA2 r1
  have hB2 := bthen hB hA2
  have n8 : w.heap.size ≤ t8 := by omega
  have d81 : p0_1 ≠ t8 := by omega
  have d80 : p0_0 ≠ t8 := by omega
  clear nA2 hA2 r0 r1 hB
  go_upto_region 7 with (fail)
  try rw [ht8]
  obtain ⟨W2, hW2⟩ : ∃ W, U1.alloc (.cells #[.int .u32 t, .int .i32 a0, .int .i32 a1, .int .i32 a2, .int .i32 a3, .int .i32 a4, .int .i32 a5, .int .i32 a6, .int .i32 a7, .int .i32 a8, .int .i32 a9, .int .i32 a10, .int .i32 a11] 65) = W := ⟨_, rfl⟩
  rw [hW2] at r8 s0 s1 hB2 ⊢
  clear hW2 ht8 r_p0_0 r_p0_1 hS1 z0 z1 z2 z3 z4 z5 z6 z7 z8 z9 z10 z11 z12
  obtain ⟨T, hTd⟩ : ∃ T, (t + (qu : Int)) % 4294967296 = T := ⟨_, rfl⟩
  have hTb : 0 ≤ T ∧ T ≤ 4294967295 := by omega
  have wt : IntKind.u64.wrap t = t := by rw [IntKind.wrap_u64]; omega
  have wtq : IntKind.u64.wrap (t + (qu : Int)) = t + (qu : Int) := by rw [IntKind.wrap_u64]; omega
  have wm : (t + (qu : Int)).tmod 4294967296 = T := by rw [Int.tmod_eq_emod_of_nonneg (by omega)]; exact hTd
  have wT : IntKind.u32.wrap T = T := by rw [IntKind.wrap_u32]; omega
  have z0 := held_cell s0 0 _ rfl
  have cz := held_cell r8 0 _ rfl
  have fz := held_free r8 0
  obtain ⟨W4, hW4, y8, yO⟩ := st1 r8 0 (.int .u32 T)
  have x8 : W4.heap[t8]? = some (.cells (recC T [a0, a1, a2, a3, a4, a5, a6, a7, a8, a9, a10, a11]) 65 (0, 0)) := y8
  have q1 := (yO.block p0_1 d81).trans s1
  have q0 := (yO.block p0_0 d80).trans s0
  have hB4 := belowS hB2 yO n8
  clear s0 s1 hB2 y8 yO
  have hS4 := hS.below hB4
  have hTd2 := hid hTd
  have hTd := hTd
  obtain ⟨⟨pu, pn, pe⟩, pq⟩ : ∃ q, takeS (bs.drop qn) 0 0 = q := ⟨_, rfl⟩
  have po := hok.out qn
  have pr := her.out qn
  have pk := fun ad m c W h => kt.out ad m c qn W h
  rw [pq] at po pr pk
  dsimp only at po pr
  have p9 : vtakeV (pu, pn, pe) = .tuple #[.int .u64 pu, .int .i64 pn, .int .i64 pe] := rfl
  rw [p9] at pk
  clear p9
  rw [List.length_drop, hl0.out] at po
  replace po := hid po
  replace pr := hid pr
  replace pk := hid pk
  replace pq := hid pq
  by_cases hce : bc = qn
  case pos =>
    have hSd := hS4.end qn (by omega) hce
    rw [show bl - qn = 0 from by omega] at hSd
    have hend := take_end (bs := bs) (n := qn) (by rw [hl0.out]; omega)
    rw [pq.out] at hend
    obtain rfl : pe = 2 := congrArg (fun z => z.2.2) hend
    have er := hid (hr.out.symm.trans (takD_e2 h1.out (nx_e pq.out (by omega)) (by omega)))
    have hk9 := hid (pk.out _ _ _ _ hSd (by omega))
    clear hend hSd pk po pr
    subst hce
    have rr1 := hid q1
    go_wp2_with fail
    refine hk9.out.mono ?_
    rintro ev V ⟨rfl, hv⟩
    obtain rfl : W4 = V := hv.symm
    clear hv hk9 cz fz z0
    have y0 := held_cell q1 0 _ rfl
    have y1 := held_cell q1 1 _ rfl
    have y2 := held_cell q1 2 _ rfl
    have y3 := held_cell q1 3 _ rfl
    have y4 := held_cell q1 4 _ rfl
    have y5 := held_cell q1 5 _ rfl
    have y6 := held_cell q1 6 _ rfl
    have y7 := held_cell q1 7 _ rfl
    have y8 := held_cell q1 8 _ rfl
    have y9 := held_cell q1 9 _ rfl
    have y10 := held_cell q1 10 _ rfl
    have y11 := held_cell q1 11 _ rfl
    have y12 := held_cell q1 12 _ rfl
    have f0 := held_free q1 0
    have f1 := held_free q1 1
    have f2 := held_free q1 2
    have f3 := held_free q1 3
    have f4 := held_free q1 4
    have f5 := held_free q1 5
    have f6 := held_free q1 6
    have f7 := held_free q1 7
    have f8 := held_free q1 8
    have f9 := held_free q1 9
    have f10 := held_free q1 10
    have f11 := held_free q1 11
    have f12 := held_free q1 12
    obtain ⟨W5, hW5, ya, yO⟩ := st13 q1 (.int .u32 0) (.int .i32 0) (.int .i32 0) (.int .i32 0) (.int .i32 0) (.int .i32 0) (.int .i32 0) (.int .i32 0) (.int .i32 0) (.int .i32 0) (.int .i32 0) (.int .i32 0) (.int .i32 0)
    have ez0 := held_cell ya 0 _ rfl
    have ez1 := held_cell ya 1 _ rfl
    have ez2 := held_cell ya 2 _ rfl
    have ez3 := held_cell ya 3 _ rfl
    have ez4 := held_cell ya 4 _ rfl
    have ez5 := held_cell ya 5 _ rfl
    have ez6 := held_cell ya 6 _ rfl
    have ez7 := held_cell ya 7 _ rfl
    have ez8 := held_cell ya 8 _ rfl
    have ez9 := held_cell ya 9 _ rfl
    have ez10 := held_cell ya 10 _ rfl
    have ez11 := held_cell ya 11 _ rfl
    have ez12 := held_cell ya 12 _ rfl
    have hB5 := hid (belowS hB4 yO n1w)
    clear ya yO
    go_wp2_with fail
    try rw [Exit.noGoto_ret]
    refine bodyPost_ret (v := .tuple #[.agg #[.int .u32 0, .int .i32 0, .int .i32 0, .int .i32 0, .int .i32 0, .int .i32 0, .int .i32 0, .int .i32 0, .int .i32 0, .int .i32 0, .int .i32 0, .int .i32 0, .int .i32 0], .int .i64 0, .int .i64 2]) (by simp [results, Try.results33, go_sem, ez0, ez1, ez2, ez3, ez4, ez5, ez6, ez7, ez8, ez9, ez10, ez11, ez12]) rfl ?_
    rw [er.out]
    exact ⟨rfl, hB5.out⟩
  have hSd := hS4.drop qn (by omega)
  have kq : (qn : Int) ≤ bl := by omega
  have hk9 := hid (pk.out _ _ _ _ hSd (by omega))
  clear hSd pk
  go_wp2_with fail
  refine hk9.out.mono ?_
  rintro ev V ⟨rfl, hv⟩
  obtain rfl : W4 = V := hv.symm
  clear hv hk9 cz fz z0
  by_cases hpe : pe = 0
  case neg =>
    have er := hid (hr.out.symm.trans (takD_e2 h1.out (nx_e pq.out hpe) (by omega)))
    have hq : ((pe : Int) != 0) = true := by simp [hpe]
    clear hpe
    have y0 := held_cell q1 0 _ rfl
    have y1 := held_cell q1 1 _ rfl
    have y2 := held_cell q1 2 _ rfl
    have y3 := held_cell q1 3 _ rfl
    have y4 := held_cell q1 4 _ rfl
    have y5 := held_cell q1 5 _ rfl
    have y6 := held_cell q1 6 _ rfl
    have y7 := held_cell q1 7 _ rfl
    have y8 := held_cell q1 8 _ rfl
    have y9 := held_cell q1 9 _ rfl
    have y10 := held_cell q1 10 _ rfl
    have y11 := held_cell q1 11 _ rfl
    have y12 := held_cell q1 12 _ rfl
    have f0 := held_free q1 0
    have f1 := held_free q1 1
    have f2 := held_free q1 2
    have f3 := held_free q1 3
    have f4 := held_free q1 4
    have f5 := held_free q1 5
    have f6 := held_free q1 6
    have f7 := held_free q1 7
    have f8 := held_free q1 8
    have f9 := held_free q1 9
    have f10 := held_free q1 10
    have f11 := held_free q1 11
    have f12 := held_free q1 12
    obtain ⟨W5, hW5, ya, yO⟩ := st13 q1 (.int .u32 0) (.int .i32 0) (.int .i32 0) (.int .i32 0) (.int .i32 0) (.int .i32 0) (.int .i32 0) (.int .i32 0) (.int .i32 0) (.int .i32 0) (.int .i32 0) (.int .i32 0) (.int .i32 0)
    have ez0 := held_cell ya 0 _ rfl
    have ez1 := held_cell ya 1 _ rfl
    have ez2 := held_cell ya 2 _ rfl
    have ez3 := held_cell ya 3 _ rfl
    have ez4 := held_cell ya 4 _ rfl
    have ez5 := held_cell ya 5 _ rfl
    have ez6 := held_cell ya 6 _ rfl
    have ez7 := held_cell ya 7 _ rfl
    have ez8 := held_cell ya 8 _ rfl
    have ez9 := held_cell ya 9 _ rfl
    have ez10 := held_cell ya 10 _ rfl
    have ez11 := held_cell ya 11 _ rfl
    have ez12 := held_cell ya 12 _ rfl
    have hB5 := hid (belowS hB4 yO n1w)
    clear ya yO
    go_wp2_with fail
    try rw [Exit.noGoto_ret]
    refine bodyPost_ret (v := .tuple #[.agg #[.int .u32 0, .int .i32 0, .int .i32 0, .int .i32 0, .int .i32 0, .int .i32 0, .int .i32 0, .int .i32 0, .int .i32 0, .int .i32 0, .int .i32 0, .int .i32 0, .int .i32 0], .int .i64 0, .int .i64 (pe : Int)]) (by simp [results, Try.results33, go_sem, ez0, ez1, ez2, ez3, ez4, ez5, ez6, ez7, ez8, ez9, ez10, ez11, ez12]) rfl ?_
    rw [er.out]
    exact ⟨rfl, hB5.out⟩
  subst hpe
  obtain ⟨po1, po2, po3, -⟩ := po.out rfl
  clear po pr
  by_cases h12 : (4095 : Int) < (pu : Int)
  case pos =>
    have er := hid (hr.out.symm.trans (takD_e2 h1.out (nx_r pq.out (by omega)) (by omega)))
    have y0 := held_cell q1 0 _ rfl
    have y1 := held_cell q1 1 _ rfl
    have y2 := held_cell q1 2 _ rfl
    have y3 := held_cell q1 3 _ rfl
    have y4 := held_cell q1 4 _ rfl
    have y5 := held_cell q1 5 _ rfl
    have y6 := held_cell q1 6 _ rfl
    have y7 := held_cell q1 7 _ rfl
    have y8 := held_cell q1 8 _ rfl
    have y9 := held_cell q1 9 _ rfl
    have y10 := held_cell q1 10 _ rfl
    have y11 := held_cell q1 11 _ rfl
    have y12 := held_cell q1 12 _ rfl
    have f0 := held_free q1 0
    have f1 := held_free q1 1
    have f2 := held_free q1 2
    have f3 := held_free q1 3
    have f4 := held_free q1 4
    have f5 := held_free q1 5
    have f6 := held_free q1 6
    have f7 := held_free q1 7
    have f8 := held_free q1 8
    have f9 := held_free q1 9
    have f10 := held_free q1 10
    have f11 := held_free q1 11
    have f12 := held_free q1 12
    obtain ⟨W5, hW5, ya, yO⟩ := st13 q1 (.int .u32 0) (.int .i32 0) (.int .i32 0) (.int .i32 0) (.int .i32 0) (.int .i32 0) (.int .i32 0) (.int .i32 0) (.int .i32 0) (.int .i32 0) (.int .i32 0) (.int .i32 0) (.int .i32 0)
    have ez0 := held_cell ya 0 _ rfl
    have ez1 := held_cell ya 1 _ rfl
    have ez2 := held_cell ya 2 _ rfl
    have ez3 := held_cell ya 3 _ rfl
    have ez4 := held_cell ya 4 _ rfl
    have ez5 := held_cell ya 5 _ rfl
    have ez6 := held_cell ya 6 _ rfl
    have ez7 := held_cell ya 7 _ rfl
    have ez8 := held_cell ya 8 _ rfl
    have ez9 := held_cell ya 9 _ rfl
    have ez10 := held_cell ya 10 _ rfl
    have ez11 := held_cell ya 11 _ rfl
    have ez12 := held_cell ya 12 _ rfl
    have hB5 := hid (belowS hB4 yO n1w)
    clear ya yO
    go_wp2_with fail
    try rw [Exit.noGoto_ret]
    refine bodyPost_ret (v := .tuple #[.agg #[.int .u32 0, .int .i32 0, .int .i32 0, .int .i32 0, .int .i32 0, .int .i32 0, .int .i32 0, .int .i32 0, .int .i32 0, .int .i32 0, .int .i32 0, .int .i32 0, .int .i32 0], .int .i64 0, .int .i64 5]) (by simp [results, Try.results33, go_sem, ez0, ez1, ez2, ez3, ez4, ez5, ez6, ez7, ez8, ez9, ez10, ez11, ez12]) rfl ?_
    rw [er.out]
    exact ⟨rfl, hB5.out⟩
  have h2 := hid (nx_ok (hi := 4095) pq.out (by omega))
  clear pq
  obtain ⟨n2, hn2⟩ : ∃ n2, qn + pn = n2 := ⟨_, rfl⟩
  rw [hn2] at h2
  have wn : IntKind.i64.wrap ((qn : Int) + (pn : Int)) = (n2 : Int) := by rw [IntKind.wrap_i64]; omega
  have hn2l : n2 ≤ bl := by omega
  replace hn2 := hid hn2
  replace hS4 := hid hS4
  replace hB4 := hid hB4
  replace x8 := hid x8
  replace q1 := hid q1
  replace q0 := hid q0
  clear hW4
  go_wp2_with fail
  go_loopw [8, 11, 14] (fun nv mv ix wr => ∃ (k n m : Nat) (v : List Int), k ≤ 12 ∧ ix = .int .i64 k ∧ nv = .int .i64 n ∧ mv = .int .u64 m ∧ m = pu / 2 ^ k ∧ m ≤ 4095 ∧ Hid (tdL bs [a0, a1, a2, a3, a4, a5, a6, a7, a8, a9, a10, a11] pu n2 0 k = (v, n, 0)) ∧ v.length = 12 ∧ n ≤ bl ∧ wr.heap[t8]? = some (.cells (recC T v) 65 (0, 0)) ∧ wr.heap[p0_1]? = some (.cells #[.int .u32 0, .int .i32 0, .int .i32 0, .int .i32 0, .int .i32 0, .int .i32 0, .int .i32 0, .int .i32 0, .int .i32 0, .int .i32 0, .int .i32 0, .int .i32 0, .int .i32 0] 65 (0, 0)) ∧ wr.heap[p0_0]? = some (.cells #[.int .u32 t, .int .i32 a0, .int .i32 a1, .int .i32 a2, .int .i32 a3, .int .i32 a4, .int .i32 a5, .int .i32 a6, .int .i32 a7, .int .i32 a8, .int .i32 a9, .int .i32 a10, .int .i32 a11] 65 (0, 0)) ∧ Sl .u8 wr ba bl bc bs ∧ Below w.heap.size w wr) (fun _ _ ix _ => 12 - (intOf ix).toNat)
  case atStart => exact ⟨0, n2, pu, [a0, a1, a2, a3, a4, a5, a6, a7, a8, a9, a10, a11], by omega, rfl, rfl, rfl, by simp, by omega, hid rfl, rfl, hn2l, x8.out, q1.out, q0.out, hS4.out, hB4.out⟩
  case round =>
    clear x8 q1 q0 hS4 hB4
    obtain ⟨k, n, m, v, hk, rfl, rfl, rfl, hmk, hm4, htd, hvl, hnl, r8, r1, r0, hSw, hB⟩ := hrel
    have sB := hB.size
    by_cases hlt : (k : Int) < 12
    case neg =>
      obtain rfl : k = 12 := by omega
      have er := hid (hr.out.symm.trans (takD_ok h1.out h2.out htd.out))
      obtain ⟨x0, x1, x2, x3, x4, x5, x6, x7, x8, x9, x10, x11, rfl⟩ := list12 hvl
      have r8l : wr.heap[t8]? = some (.cells #[.int .u32 T, .int .i32 x0, .int .i32 x1, .int .i32 x2, .int .i32 x3, .int .i32 x4, .int .i32 x5, .int .i32 x6, .int .i32 x7, .int .i32 x8, .int .i32 x9, .int .i32 x10, .int .i32 x11] 65 (0, 0)) := r8
      have m0 := held_cell r8l 0 _ rfl
      have m1 := held_cell r8l 1 _ rfl
      have m2 := held_cell r8l 2 _ rfl
      have m3 := held_cell r8l 3 _ rfl
      have m4 := held_cell r8l 4 _ rfl
      have m5 := held_cell r8l 5 _ rfl
      have m6 := held_cell r8l 6 _ rfl
      have m7 := held_cell r8l 7 _ rfl
      have m8 := held_cell r8l 8 _ rfl
      have m9 := held_cell r8l 9 _ rfl
      have m10 := held_cell r8l 10 _ rfl
      have m11 := held_cell r8l 11 _ rfl
      have m12 := held_cell r8l 12 _ rfl
      clear r8 hvl htd hmk
      replace r8l := hid r8l
      replace r0 := hid r0
      have y0 := held_cell r1 0 _ rfl
      have y1 := held_cell r1 1 _ rfl
      have y2 := held_cell r1 2 _ rfl
      have y3 := held_cell r1 3 _ rfl
      have y4 := held_cell r1 4 _ rfl
      have y5 := held_cell r1 5 _ rfl
      have y6 := held_cell r1 6 _ rfl
      have y7 := held_cell r1 7 _ rfl
      have y8 := held_cell r1 8 _ rfl
      have y9 := held_cell r1 9 _ rfl
      have y10 := held_cell r1 10 _ rfl
      have y11 := held_cell r1 11 _ rfl
      have y12 := held_cell r1 12 _ rfl
      have f0 := held_free r1 0
      have f1 := held_free r1 1
      have f2 := held_free r1 2
      have f3 := held_free r1 3
      have f4 := held_free r1 4
      have f5 := held_free r1 5
      have f6 := held_free r1 6
      have f7 := held_free r1 7
      have f8 := held_free r1 8
      have f9 := held_free r1 9
      have f10 := held_free r1 10
      have f11 := held_free r1 11
      have f12 := held_free r1 12
      obtain ⟨W5, hW5, ya, yO⟩ := st13 r1 (.int .u32 T) (.int .i32 x0) (.int .i32 x1) (.int .i32 x2) (.int .i32 x3) (.int .i32 x4) (.int .i32 x5) (.int .i32 x6) (.int .i32 x7) (.int .i32 x8) (.int .i32 x9) (.int .i32 x10) (.int .i32 x11)
      have ez0 := held_cell ya 0 _ rfl
      have ez1 := held_cell ya 1 _ rfl
      have ez2 := held_cell ya 2 _ rfl
      have ez3 := held_cell ya 3 _ rfl
      have ez4 := held_cell ya 4 _ rfl
      have ez5 := held_cell ya 5 _ rfl
      have ez6 := held_cell ya 6 _ rfl
      have ez7 := held_cell ya 7 _ rfl
      have ez8 := held_cell ya 8 _ rfl
      have ez9 := held_cell ya 9 _ rfl
      have ez10 := held_cell ya 10 _ rfl
      have ez11 := held_cell ya 11 _ rfl
      have ez12 := held_cell ya 12 _ rfl
      have hB5 := hid (belowS hB yO n1w)
      clear ya yO r1
      go_wp2_with fail
      try rw [Exit.noGoto_ret]
      refine bodyPost_ret (v := .tuple #[.agg #[.int .u32 T, .int .i32 x0, .int .i32 x1, .int .i32 x2, .int .i32 x3, .int .i32 x4, .int .i32 x5, .int .i32 x6, .int .i32 x7, .int .i32 x8, .int .i32 x9, .int .i32 x10, .int .i32 x11], .int .i64 (n : Int), .int .i64 0]) (by simp [results, Try.results33, go_sem, ez0, ez1, ez2, ez3, ez4, ez5, ez6, ez7, ez8, ez9, ez10, ez11, ez12]) rfl ?_
      rw [er.out, hTd2.out]
      exact ⟨rfl, hB5.out⟩
    have hk2 : k < 12 := by omega
    have kz : (0 : Int) ≤ k := by omega
    have wk : IntKind.i64.wrap ((k : Int) + 1) = (k : Int) + 1 := by rw [IntKind.wrap_i64]; omega
    have hk1 := hid (show k + 1 ≤ 12 by omega)
    have hmd : (m : Int).tmod 2 = ((m % 2 : Nat) : Int) := by rw [Int.tmod_eq_emod_of_nonneg (by omega)]; omega
    have hmd2 : (m : Int) % 2 = ((m % 2 : Nat) : Int) := by omega
    have hmq : (m : Int).tdiv 2 = ((m / 2 : Nat) : Int) := by rw [Int.tdiv_eq_ediv_of_nonneg (by omega)]; omega
    have hmq2 : (m : Int) / 2 = ((m / 2 : Nat) : Int) := by omega
    have hmn := hid (show m / 2 = pu / 2 ^ (k + 1) by rw [hmk, Nat.div_div_eq_div_mul, Nat.pow_succ])
    have hm5 := hid (show m / 2 ≤ 4095 by omega)
    have hbk := hid hmk
    clear hk hmk
    by_cases hb1 : m % 2 = 1
    case neg =>
      have h9 := hid (tdL_off htd.out (k := k) (by rw [← hbk.out]; exact hb1))
      have hb0 : m % 2 = 0 := by omega
      rw [hb0] at hmd hmd2
      clear hb1 htd
      obtain ⟨m9, hm9⟩ : ∃ z, m / 2 = z := ⟨_, rfl⟩
      rw [hm9] at hmq hmq2 hmn hm5
      clear hm9
      replace r8 := hid r8
      replace r1 := hid r1
      replace r0 := hid r0
      replace hSw := hid hSw
      replace hB := hid hB
      go_wp2_with fail
      go_roundw
      case rel => exact ⟨k + 1, n, m9, v, hk1.out, by simp, rfl, rfl, hmn.out, hm5.out, h9, hvl, hnl, r8.out, r1.out, r0.out, hSw.out, hB.out⟩
      case measure => simp [intOf]; omega
    have hbit : pu / 2 ^ k % 2 = 1 := by rw [← hbk.out]; exact hb1
    rw [hb1] at hmd hmd2
    clear hb1
    have ax := cells12 (.int .u32 t) a0 a1 a2 a3 a4 a5 a6 a7 a8 a9 a10 a11 k hk2
    have cx : wr.cell? ⟨p0_0, 1 + k, none⟩ = some (.int .i32 ([a0, a1, a2, a3, a4, a5, a6, a7, a8, a9, a10, a11].getD k 0)) := by rw [cell_of_row wr p0_0 (1 + k) _ 65 (0, 0) r0]; exact ax
    have hx := get_bd ha.out k
    have hon := fun g n9 (h : grS bs n 0 ([a0, a1, a2, a3, a4, a5, a6, a7, a8, a9, a10, a11].getD k 0) = (g, n9, 0)) => (by have h8 := tdL_on htd.out hbit; rw [h] at h8; exact h8 : tdL bs [a0, a1, a2, a3, a4, a5, a6, a7, a8, a9, a10, a11] pu n2 0 (k + 1) = (v.set k g, n9, 0))
    have hek := fun g n9 e9 (h : grS bs n 0 ([a0, a1, a2, a3, a4, a5, a6, a7, a8, a9, a10, a11].getD k 0) = (g, n9, e9)) he => hr.out.symm.trans (takD_ek (t := t) h1.out h2.out htd.out hbit h he hk2)
    obtain ⟨x, hxe⟩ : ∃ x, [a0, a1, a2, a3, a4, a5, a6, a7, a8, a9, a10, a11].getD k 0 = x := ⟨_, rfl⟩
    rw [hxe] at hx cx hon hek
    clear hxe ax htd hbit hbk
    have wx : IntKind.i64.wrap x = x := by rw [IntKind.wrap_i64]; omega
    replace hon := hid hon
    replace hek := hid hek
    obtain ⟨⟨qu, qn, qe⟩, qq⟩ : ∃ q, takeS (bs.drop n) 0 0 = q := ⟨_, rfl⟩
    have qo := hok.out n
    have qr := her.out n
    have qk := fun ad m c W h => kt.out ad m c n W h
    rw [qq] at qo qr qk
    dsimp only at qo qr
    have q9 : vtakeV (qu, qn, qe) = .tuple #[.int .u64 qu, .int .i64 qn, .int .i64 qe] := rfl
    rw [q9] at qk
    clear q9
    rw [List.length_drop, hl0.out] at qo
    replace qo := hid qo
    replace qr := hid qr
    replace qk := hid qk
    replace qq := hid qq
    have kn0 : (0 : Int) ≤ n := by omega
    have knl : (n : Int) ≤ bl := by omega
    by_cases hcn : bc = n
    case pos =>
      have hSd := hSw.end n hnl hcn
      rw [show bl - n = 0 from by omega] at hSd
      have hend := take_end (bs := bs) (n := n) (by rw [hl0.out]; omega)
      rw [qq.out] at hend
      obtain rfl : qe = 2 := congrArg (fun z => z.2.2) hend
      have er := hid (hek.out _ _ _ (gr_e qq.out (by omega)) (by omega))
      have hk9 := hid (qk.out _ _ _ _ hSd (by omega))
      clear hend hSd qk qo qr
      subst hcn
      go_wp2_with fail
      refine hk9.out.mono ?_
      rintro ev V ⟨rfl, hv⟩
      obtain rfl : wr = V := hv.symm
      clear hv hk9
      have y0 := held_cell r1 0 _ rfl
      have y1 := held_cell r1 1 _ rfl
      have y2 := held_cell r1 2 _ rfl
      have y3 := held_cell r1 3 _ rfl
      have y4 := held_cell r1 4 _ rfl
      have y5 := held_cell r1 5 _ rfl
      have y6 := held_cell r1 6 _ rfl
      have y7 := held_cell r1 7 _ rfl
      have y8 := held_cell r1 8 _ rfl
      have y9 := held_cell r1 9 _ rfl
      have y10 := held_cell r1 10 _ rfl
      have y11 := held_cell r1 11 _ rfl
      have y12 := held_cell r1 12 _ rfl
      have f0 := held_free r1 0
      have f1 := held_free r1 1
      have f2 := held_free r1 2
      have f3 := held_free r1 3
      have f4 := held_free r1 4
      have f5 := held_free r1 5
      have f6 := held_free r1 6
      have f7 := held_free r1 7
      have f8 := held_free r1 8
      have f9 := held_free r1 9
      have f10 := held_free r1 10
      have f11 := held_free r1 11
      have f12 := held_free r1 12
      obtain ⟨W5, hW5, ya, yO⟩ := st13 r1 (.int .u32 0) (.int .i32 0) (.int .i32 0) (.int .i32 0) (.int .i32 0) (.int .i32 0) (.int .i32 0) (.int .i32 0) (.int .i32 0) (.int .i32 0) (.int .i32 0) (.int .i32 0) (.int .i32 0)
      have ez0 := held_cell ya 0 _ rfl
      have ez1 := held_cell ya 1 _ rfl
      have ez2 := held_cell ya 2 _ rfl
      have ez3 := held_cell ya 3 _ rfl
      have ez4 := held_cell ya 4 _ rfl
      have ez5 := held_cell ya 5 _ rfl
      have ez6 := held_cell ya 6 _ rfl
      have ez7 := held_cell ya 7 _ rfl
      have ez8 := held_cell ya 8 _ rfl
      have ez9 := held_cell ya 9 _ rfl
      have ez10 := held_cell ya 10 _ rfl
      have ez11 := held_cell ya 11 _ rfl
      have ez12 := held_cell ya 12 _ rfl
      have hB5 := hid (belowS hB yO n1w)
      clear ya yO
      go_wp2_with fail
      try rw [Exit.noGoto_ret]
      refine bodyPost_ret (v := .tuple #[.agg #[.int .u32 0, .int .i32 0, .int .i32 0, .int .i32 0, .int .i32 0, .int .i32 0, .int .i32 0, .int .i32 0, .int .i32 0, .int .i32 0, .int .i32 0, .int .i32 0, .int .i32 0], .int .i64 0, .int .i64 2]) (by simp [results, Try.results33, go_sem, ez0, ez1, ez2, ez3, ez4, ez5, ez6, ez7, ez8, ez9, ez10, ez11, ez12]) rfl ?_
      rw [er.out]
      exact ⟨rfl, hB5.out⟩
    have hSd := hSw.drop n hnl
    have hk9 := hid (qk.out _ _ _ _ hSd (by omega))
    clear hSd qk
    go_wp2_with fail
    refine hk9.out.mono ?_
    rintro ev V ⟨rfl, hv⟩
    obtain rfl : wr = V := hv.symm
    clear hv hk9
    by_cases hqe : qe = 0
    case neg =>
      have er := hid (hek.out _ _ _ (gr_e qq.out hqe) (by omega))
      have hq : ((qe : Int) != 0) = true := by simp [hqe]
      clear hqe
      have y0 := held_cell r1 0 _ rfl
      have y1 := held_cell r1 1 _ rfl
      have y2 := held_cell r1 2 _ rfl
      have y3 := held_cell r1 3 _ rfl
      have y4 := held_cell r1 4 _ rfl
      have y5 := held_cell r1 5 _ rfl
      have y6 := held_cell r1 6 _ rfl
      have y7 := held_cell r1 7 _ rfl
      have y8 := held_cell r1 8 _ rfl
      have y9 := held_cell r1 9 _ rfl
      have y10 := held_cell r1 10 _ rfl
      have y11 := held_cell r1 11 _ rfl
      have y12 := held_cell r1 12 _ rfl
      have f0 := held_free r1 0
      have f1 := held_free r1 1
      have f2 := held_free r1 2
      have f3 := held_free r1 3
      have f4 := held_free r1 4
      have f5 := held_free r1 5
      have f6 := held_free r1 6
      have f7 := held_free r1 7
      have f8 := held_free r1 8
      have f9 := held_free r1 9
      have f10 := held_free r1 10
      have f11 := held_free r1 11
      have f12 := held_free r1 12
      obtain ⟨W5, hW5, ya, yO⟩ := st13 r1 (.int .u32 0) (.int .i32 0) (.int .i32 0) (.int .i32 0) (.int .i32 0) (.int .i32 0) (.int .i32 0) (.int .i32 0) (.int .i32 0) (.int .i32 0) (.int .i32 0) (.int .i32 0) (.int .i32 0)
      have ez0 := held_cell ya 0 _ rfl
      have ez1 := held_cell ya 1 _ rfl
      have ez2 := held_cell ya 2 _ rfl
      have ez3 := held_cell ya 3 _ rfl
      have ez4 := held_cell ya 4 _ rfl
      have ez5 := held_cell ya 5 _ rfl
      have ez6 := held_cell ya 6 _ rfl
      have ez7 := held_cell ya 7 _ rfl
      have ez8 := held_cell ya 8 _ rfl
      have ez9 := held_cell ya 9 _ rfl
      have ez10 := held_cell ya 10 _ rfl
      have ez11 := held_cell ya 11 _ rfl
      have ez12 := held_cell ya 12 _ rfl
      have hB5 := hid (belowS hB yO n1w)
      clear ya yO
      go_wp2_with fail
      try rw [Exit.noGoto_ret]
      refine bodyPost_ret (v := .tuple #[.agg #[.int .u32 0, .int .i32 0, .int .i32 0, .int .i32 0, .int .i32 0, .int .i32 0, .int .i32 0, .int .i32 0, .int .i32 0, .int .i32 0, .int .i32 0, .int .i32 0, .int .i32 0], .int .i64 0, .int .i64 (qe : Int)]) (by simp [results, Try.results33, go_sem, ez0, ez1, ez2, ez3, ez4, ez5, ez6, ez7, ez8, ez9, ez10, ez11, ez12]) rfl ?_
      rw [er.out]
      exact ⟨rfl, hB5.out⟩
    subst hqe
    obtain ⟨qo1, qo2, qo3, -⟩ := qo.out rfl
    clear qo qr
    have hzb := zag_bd (qu : Int) (by omega) (by omega)
    have kz9 := hid (fun W => rzag_any (qu : Int) W (by omega) (by omega))
    have hgr := fun h => gr_r (x := x) qq.out qo3 h
    have hgo := fun h => gr_ok (x := x) qq.out qo3 h
    obtain ⟨d, hd⟩ : ∃ d, zagS (qu : Int) = d := ⟨_, rfl⟩
    rw [hd] at hzb kz9 hgr hgo
    clear hd qq
    replace hgr := hid hgr
    replace hgo := hid hgo
    go_wp2_with fail
    refine (kz9.out _).mono ?_
    rintro ev V ⟨rfl, hv⟩
    obtain rfl : wr = V := hv.symm
    clear hv kz9
    by_cases d0 : d = 0
    case pos =>
      have er := hid (hek.out _ _ _ (hgr.out (by omega)) (by omega))
      have hq : (d == 0) = true := by simp [d0]
      clear d0
      have y0 := held_cell r1 0 _ rfl
      have y1 := held_cell r1 1 _ rfl
      have y2 := held_cell r1 2 _ rfl
      have y3 := held_cell r1 3 _ rfl
      have y4 := held_cell r1 4 _ rfl
      have y5 := held_cell r1 5 _ rfl
      have y6 := held_cell r1 6 _ rfl
      have y7 := held_cell r1 7 _ rfl
      have y8 := held_cell r1 8 _ rfl
      have y9 := held_cell r1 9 _ rfl
      have y10 := held_cell r1 10 _ rfl
      have y11 := held_cell r1 11 _ rfl
      have y12 := held_cell r1 12 _ rfl
      have f0 := held_free r1 0
      have f1 := held_free r1 1
      have f2 := held_free r1 2
      have f3 := held_free r1 3
      have f4 := held_free r1 4
      have f5 := held_free r1 5
      have f6 := held_free r1 6
      have f7 := held_free r1 7
      have f8 := held_free r1 8
      have f9 := held_free r1 9
      have f10 := held_free r1 10
      have f11 := held_free r1 11
      have f12 := held_free r1 12
      obtain ⟨W5, hW5, ya, yO⟩ := st13 r1 (.int .u32 0) (.int .i32 0) (.int .i32 0) (.int .i32 0) (.int .i32 0) (.int .i32 0) (.int .i32 0) (.int .i32 0) (.int .i32 0) (.int .i32 0) (.int .i32 0) (.int .i32 0) (.int .i32 0)
      have ez0 := held_cell ya 0 _ rfl
      have ez1 := held_cell ya 1 _ rfl
      have ez2 := held_cell ya 2 _ rfl
      have ez3 := held_cell ya 3 _ rfl
      have ez4 := held_cell ya 4 _ rfl
      have ez5 := held_cell ya 5 _ rfl
      have ez6 := held_cell ya 6 _ rfl
      have ez7 := held_cell ya 7 _ rfl
      have ez8 := held_cell ya 8 _ rfl
      have ez9 := held_cell ya 9 _ rfl
      have ez10 := held_cell ya 10 _ rfl
      have ez11 := held_cell ya 11 _ rfl
      have ez12 := held_cell ya 12 _ rfl
      have hB5 := hid (belowS hB yO n1w)
      clear ya yO
      go_wp2_with fail
      try rw [Exit.noGoto_ret]
      refine bodyPost_ret (v := .tuple #[.agg #[.int .u32 0, .int .i32 0, .int .i32 0, .int .i32 0, .int .i32 0, .int .i32 0, .int .i32 0, .int .i32 0, .int .i32 0, .int .i32 0, .int .i32 0, .int .i32 0, .int .i32 0], .int .i64 0, .int .i64 5]) (by simp [results, Try.results33, go_sem, ez0, ez1, ez2, ez3, ez4, ez5, ez6, ez7, ez8, ez9, ez10, ez11, ez12]) rfl ?_
      rw [er.out]
      exact ⟨rfl, hB5.out⟩
    have hq : (d == 0) = false := by simp [d0]
    replace d0 := hid d0
    by_cases d1 : (4294967296 : Int) < d
    case pos =>
      have er := hid (hek.out _ _ _ (hgr.out (by omega)) (by omega))
      have y0 := held_cell r1 0 _ rfl
      have y1 := held_cell r1 1 _ rfl
      have y2 := held_cell r1 2 _ rfl
      have y3 := held_cell r1 3 _ rfl
      have y4 := held_cell r1 4 _ rfl
      have y5 := held_cell r1 5 _ rfl
      have y6 := held_cell r1 6 _ rfl
      have y7 := held_cell r1 7 _ rfl
      have y8 := held_cell r1 8 _ rfl
      have y9 := held_cell r1 9 _ rfl
      have y10 := held_cell r1 10 _ rfl
      have y11 := held_cell r1 11 _ rfl
      have y12 := held_cell r1 12 _ rfl
      have f0 := held_free r1 0
      have f1 := held_free r1 1
      have f2 := held_free r1 2
      have f3 := held_free r1 3
      have f4 := held_free r1 4
      have f5 := held_free r1 5
      have f6 := held_free r1 6
      have f7 := held_free r1 7
      have f8 := held_free r1 8
      have f9 := held_free r1 9
      have f10 := held_free r1 10
      have f11 := held_free r1 11
      have f12 := held_free r1 12
      obtain ⟨W5, hW5, ya, yO⟩ := st13 r1 (.int .u32 0) (.int .i32 0) (.int .i32 0) (.int .i32 0) (.int .i32 0) (.int .i32 0) (.int .i32 0) (.int .i32 0) (.int .i32 0) (.int .i32 0) (.int .i32 0) (.int .i32 0) (.int .i32 0)
      have ez0 := held_cell ya 0 _ rfl
      have ez1 := held_cell ya 1 _ rfl
      have ez2 := held_cell ya 2 _ rfl
      have ez3 := held_cell ya 3 _ rfl
      have ez4 := held_cell ya 4 _ rfl
      have ez5 := held_cell ya 5 _ rfl
      have ez6 := held_cell ya 6 _ rfl
      have ez7 := held_cell ya 7 _ rfl
      have ez8 := held_cell ya 8 _ rfl
      have ez9 := held_cell ya 9 _ rfl
      have ez10 := held_cell ya 10 _ rfl
      have ez11 := held_cell ya 11 _ rfl
      have ez12 := held_cell ya 12 _ rfl
      have hB5 := hid (belowS hB yO n1w)
      clear ya yO
      go_wp2_with fail
      try rw [Exit.noGoto_ret]
      refine bodyPost_ret (v := .tuple #[.agg #[.int .u32 0, .int .i32 0, .int .i32 0, .int .i32 0, .int .i32 0, .int .i32 0, .int .i32 0, .int .i32 0, .int .i32 0, .int .i32 0, .int .i32 0, .int .i32 0, .int .i32 0], .int .i64 0, .int .i64 5]) (by simp [results, Try.results33, go_sem, ez0, ez1, ez2, ez3, ez4, ez5, ez6, ez7, ez8, ez9, ez10, ez11, ez12]) rfl ?_
      rw [er.out]
      exact ⟨rfl, hB5.out⟩
    by_cases d2 : d < -4294967296
    case pos =>
      have er := hid (hek.out _ _ _ (hgr.out (by omega)) (by omega))
      have y0 := held_cell r1 0 _ rfl
      have y1 := held_cell r1 1 _ rfl
      have y2 := held_cell r1 2 _ rfl
      have y3 := held_cell r1 3 _ rfl
      have y4 := held_cell r1 4 _ rfl
      have y5 := held_cell r1 5 _ rfl
      have y6 := held_cell r1 6 _ rfl
      have y7 := held_cell r1 7 _ rfl
      have y8 := held_cell r1 8 _ rfl
      have y9 := held_cell r1 9 _ rfl
      have y10 := held_cell r1 10 _ rfl
      have y11 := held_cell r1 11 _ rfl
      have y12 := held_cell r1 12 _ rfl
      have f0 := held_free r1 0
      have f1 := held_free r1 1
      have f2 := held_free r1 2
      have f3 := held_free r1 3
      have f4 := held_free r1 4
      have f5 := held_free r1 5
      have f6 := held_free r1 6
      have f7 := held_free r1 7
      have f8 := held_free r1 8
      have f9 := held_free r1 9
      have f10 := held_free r1 10
      have f11 := held_free r1 11
      have f12 := held_free r1 12
      obtain ⟨W5, hW5, ya, yO⟩ := st13 r1 (.int .u32 0) (.int .i32 0) (.int .i32 0) (.int .i32 0) (.int .i32 0) (.int .i32 0) (.int .i32 0) (.int .i32 0) (.int .i32 0) (.int .i32 0) (.int .i32 0) (.int .i32 0) (.int .i32 0)
      have ez0 := held_cell ya 0 _ rfl
      have ez1 := held_cell ya 1 _ rfl
      have ez2 := held_cell ya 2 _ rfl
      have ez3 := held_cell ya 3 _ rfl
      have ez4 := held_cell ya 4 _ rfl
      have ez5 := held_cell ya 5 _ rfl
      have ez6 := held_cell ya 6 _ rfl
      have ez7 := held_cell ya 7 _ rfl
      have ez8 := held_cell ya 8 _ rfl
      have ez9 := held_cell ya 9 _ rfl
      have ez10 := held_cell ya 10 _ rfl
      have ez11 := held_cell ya 11 _ rfl
      have ez12 := held_cell ya 12 _ rfl
      have hB5 := hid (belowS hB yO n1w)
      clear ya yO
      go_wp2_with fail
      try rw [Exit.noGoto_ret]
      refine bodyPost_ret (v := .tuple #[.agg #[.int .u32 0, .int .i32 0, .int .i32 0, .int .i32 0, .int .i32 0, .int .i32 0, .int .i32 0, .int .i32 0, .int .i32 0, .int .i32 0, .int .i32 0, .int .i32 0, .int .i32 0], .int .i64 0, .int .i64 5]) (by simp [results, Try.results33, go_sem, ez0, ez1, ez2, ez3, ez4, ez5, ez6, ez7, ez8, ez9, ez10, ez11, ez12]) rfl ?_
      rw [er.out]
      exact ⟨rfl, hB5.out⟩
    have wxd : IntKind.i64.wrap (x + d) = x + d := by rw [IntKind.wrap_i64]; omega
    by_cases d3 : 2147483647 < x + d
    case pos =>
      have er := hid (hek.out _ _ _ (hgr.out (by omega)) (by omega))
      have y0 := held_cell r1 0 _ rfl
      have y1 := held_cell r1 1 _ rfl
      have y2 := held_cell r1 2 _ rfl
      have y3 := held_cell r1 3 _ rfl
      have y4 := held_cell r1 4 _ rfl
      have y5 := held_cell r1 5 _ rfl
      have y6 := held_cell r1 6 _ rfl
      have y7 := held_cell r1 7 _ rfl
      have y8 := held_cell r1 8 _ rfl
      have y9 := held_cell r1 9 _ rfl
      have y10 := held_cell r1 10 _ rfl
      have y11 := held_cell r1 11 _ rfl
      have y12 := held_cell r1 12 _ rfl
      have f0 := held_free r1 0
      have f1 := held_free r1 1
      have f2 := held_free r1 2
      have f3 := held_free r1 3
      have f4 := held_free r1 4
      have f5 := held_free r1 5
      have f6 := held_free r1 6
      have f7 := held_free r1 7
      have f8 := held_free r1 8
      have f9 := held_free r1 9
      have f10 := held_free r1 10
      have f11 := held_free r1 11
      have f12 := held_free r1 12
      obtain ⟨W5, hW5, ya, yO⟩ := st13 r1 (.int .u32 0) (.int .i32 0) (.int .i32 0) (.int .i32 0) (.int .i32 0) (.int .i32 0) (.int .i32 0) (.int .i32 0) (.int .i32 0) (.int .i32 0) (.int .i32 0) (.int .i32 0) (.int .i32 0)
      have ez0 := held_cell ya 0 _ rfl
      have ez1 := held_cell ya 1 _ rfl
      have ez2 := held_cell ya 2 _ rfl
      have ez3 := held_cell ya 3 _ rfl
      have ez4 := held_cell ya 4 _ rfl
      have ez5 := held_cell ya 5 _ rfl
      have ez6 := held_cell ya 6 _ rfl
      have ez7 := held_cell ya 7 _ rfl
      have ez8 := held_cell ya 8 _ rfl
      have ez9 := held_cell ya 9 _ rfl
      have ez10 := held_cell ya 10 _ rfl
      have ez11 := held_cell ya 11 _ rfl
      have ez12 := held_cell ya 12 _ rfl
      have hB5 := hid (belowS hB yO n1w)
      clear ya yO
      go_wp2_with fail
      try rw [Exit.noGoto_ret]
      refine bodyPost_ret (v := .tuple #[.agg #[.int .u32 0, .int .i32 0, .int .i32 0, .int .i32 0, .int .i32 0, .int .i32 0, .int .i32 0, .int .i32 0, .int .i32 0, .int .i32 0, .int .i32 0, .int .i32 0, .int .i32 0], .int .i64 0, .int .i64 5]) (by simp [results, Try.results33, go_sem, ez0, ez1, ez2, ez3, ez4, ez5, ez6, ez7, ez8, ez9, ez10, ez11, ez12]) rfl ?_
      rw [er.out]
      exact ⟨rfl, hB5.out⟩
    by_cases d4 : x + d < -2147483648
    case pos =>
      have er := hid (hek.out _ _ _ (hgr.out (by omega)) (by omega))
      have y0 := held_cell r1 0 _ rfl
      have y1 := held_cell r1 1 _ rfl
      have y2 := held_cell r1 2 _ rfl
      have y3 := held_cell r1 3 _ rfl
      have y4 := held_cell r1 4 _ rfl
      have y5 := held_cell r1 5 _ rfl
      have y6 := held_cell r1 6 _ rfl
      have y7 := held_cell r1 7 _ rfl
      have y8 := held_cell r1 8 _ rfl
      have y9 := held_cell r1 9 _ rfl
      have y10 := held_cell r1 10 _ rfl
      have y11 := held_cell r1 11 _ rfl
      have y12 := held_cell r1 12 _ rfl
      have f0 := held_free r1 0
      have f1 := held_free r1 1
      have f2 := held_free r1 2
      have f3 := held_free r1 3
      have f4 := held_free r1 4
      have f5 := held_free r1 5
      have f6 := held_free r1 6
      have f7 := held_free r1 7
      have f8 := held_free r1 8
      have f9 := held_free r1 9
      have f10 := held_free r1 10
      have f11 := held_free r1 11
      have f12 := held_free r1 12
      obtain ⟨W5, hW5, ya, yO⟩ := st13 r1 (.int .u32 0) (.int .i32 0) (.int .i32 0) (.int .i32 0) (.int .i32 0) (.int .i32 0) (.int .i32 0) (.int .i32 0) (.int .i32 0) (.int .i32 0) (.int .i32 0) (.int .i32 0) (.int .i32 0)
      have ez0 := held_cell ya 0 _ rfl
      have ez1 := held_cell ya 1 _ rfl
      have ez2 := held_cell ya 2 _ rfl
      have ez3 := held_cell ya 3 _ rfl
      have ez4 := held_cell ya 4 _ rfl
      have ez5 := held_cell ya 5 _ rfl
      have ez6 := held_cell ya 6 _ rfl
      have ez7 := held_cell ya 7 _ rfl
      have ez8 := held_cell ya 8 _ rfl
      have ez9 := held_cell ya 9 _ rfl
      have ez10 := held_cell ya 10 _ rfl
      have ez11 := held_cell ya 11 _ rfl
      have ez12 := held_cell ya 12 _ rfl
      have hB5 := hid (belowS hB yO n1w)
      clear ya yO
      go_wp2_with fail
      try rw [Exit.noGoto_ret]
      refine bodyPost_ret (v := .tuple #[.agg #[.int .u32 0, .int .i32 0, .int .i32 0, .int .i32 0, .int .i32 0, .int .i32 0, .int .i32 0, .int .i32 0, .int .i32 0, .int .i32 0, .int .i32 0, .int .i32 0, .int .i32 0], .int .i64 0, .int .i64 5]) (by simp [results, Try.results33, go_sem, ez0, ez1, ez2, ez3, ez4, ez5, ez6, ez7, ez8, ez9, ez10, ez11, ez12]) rfl ?_
      rw [er.out]
      exact ⟨rfl, hB5.out⟩
    have h9 := hid (hon.out _ _ (hgo.out (by have := d0.out; omega)))
    have wi : IntKind.i32.wrap (x + d) = x + d := by rw [IntKind.wrap_i32]; omega
    obtain ⟨n9, hn9⟩ : ∃ z, n + qn = z := ⟨_, rfl⟩
    rw [hn9] at h9
    have wn9 : IntKind.i64.wrap ((n : Int) + (qn : Int)) = (n9 : Int) := by rw [IntKind.wrap_i64]; omega
    have hn9l := hid (show n9 ≤ bl by omega)
    obtain ⟨m9, hm9⟩ : ∃ z, m / 2 = z := ⟨_, rfl⟩
    rw [hm9] at hmq hmq2 hmn hm5
    clear hm9 hn9 hon hek hgr hgo
    have c8 : wr.cell? ⟨t8, 1 + k, none⟩ = some (.int .i32 (v.getD k 0)) := by rw [cell_of_row wr t8 (1 + k) _ 65 (0, 0) r8]; exact recC_at T v k (by omega)
    have f8 := held_free r8 (1 + k)
    obtain ⟨S1, hS1, s1, o1⟩ := st1 r8 (1 + k) (.int .i32 (x + d))
    rw [recC_set] at s1
    have z1 := hid ((o1.block p0_1 d81).trans r1)
    have z0 := hid ((o1.block p0_0 d80).trans r0)
    have hBf := hid (belowS hB o1 n8)
    have hSf := hid (hSw.other r8 (by intro i x hh; unfold recC at hh; rcases i with _ | i <;> simp at hh) (fun b hb => o1.block b hb))
    have hvs := hid (show (v.set k (x + d)).length = 12 by rw [List.length_set]; exact hvl)
    replace s1 := hid s1
    clear o1 r1 hB hSw r8 r0 qo1 qo2 qo3 hzb
    go_wp2_with fail
    go_roundw
    case rel => exact ⟨k + 1, n9, m9, v.set k (x + d), hk1.out, by simp, rfl, rfl, hmn.out, hm5.out, h9, hvs.out, hn9l.out, s1.out, z1.out, z0.out, hSf.out, hBf.out⟩
    case measure => simp [intOf]; omega

end Go.Proofs.Ytlfbhfmchdbnoaa
