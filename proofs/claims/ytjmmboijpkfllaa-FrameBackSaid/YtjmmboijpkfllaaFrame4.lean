/- The papers' Take of a frame. -/
import Derived.Test.YtjmmboijpkfllaaFrame3
import Derived.Test.YtjmmboijpkfllaaKA
import Derived.Test.YtjmmboijpkfllaaKB
import Derived.Deep.DeepCutAuto
namespace Go.Proofs.Ytjmmboijpkfllaa
open Go.ChangeShapes Go.WideShapes Go.ChangeAt Go.RowKit
set_option linter.unusedVariables false

theorem kp_grown {N : Nat} {X : List Nat} {w w' : World} {row : Option Nat} (h : w.grownBy w' row) (hN : N ≤ w.heap.size) (hr : ∀ k, row = some k → N ≤ k) : Kp N X w w' :=
  ⟨h.os, h.tape, h.output, h.size, fun k hk _ => h.block k (by omega) (fun e => by have := hr k e.symm; omega)⟩
theorem sealS_bd {zs : List Int} (h : ∀ n ∈ zs, 0 ≤ n ∧ n ≤ 255) : ∀ n ∈ sealS zs, 0 ≤ n ∧ n ≤ 255 := by
  intro n hn
  have hb := flS_bd zs 0 0 (by omega) (by omega)
  simp only [sealS, List.mem_append, List.mem_cons, List.not_mem_nil, or_false] at hn
  rcases hn with hn | rfl | rfl
  · exact h n hn
  · exact hb.1
  · exact hb.2
theorem getD_sm {zs : List Int} {i : Nat} (h : i < zs.length) (a b : Int) : zs.getD i a = zs.getD i b := by simp [h]
theorem inFr_of (zs : List Int) (N : Nat) (h6 : 6 ≤ zs.length) (hN : zs.getD 4 0 + 256 * zs.getD 5 0 = (N : Int)) (hl : N + 8 ≤ zs.length) (b4 : 0 ≤ zs.getD 4 0 ∧ zs.getD 4 0 ≤ 255) (b5 : 0 ≤ zs.getD 5 0) : inFr (zs.getD 2 0) (zs.getD 3 0) ((zs.drop 6).take N) = (zs.drop 2).take (N + 4) := by
  match zs, h6 with
  | a0 :: a1 :: a2 :: a3 :: a4 :: a5 :: r, _ =>
    simp only [List.getD_cons_zero, List.getD_cons_succ] at *
    have hr : N ≤ r.length := by simp at hl; omega
    have hq : (r.take N).length = N := by rw [List.length_take]; omega
    show [a2, a3, ((r.take N).length : Int) % 256, ((r.take N).length : Int) / 256] ++ r.take N = (a2 :: a3 :: a4 :: a5 :: r).take (N + 4)
    rw [hq]
    simp
    omega
theorem frame_eq (zs : List Int) (N : Nat) (h6 : 6 ≤ zs.length) (hl : N + 8 ≤ zs.length) (h0 : zs.getD 0 0 = 181) (h1 : zs.getD 1 0 = 98) (X : List Int) : (181 :: 98 :: X = zs.take (N + 8)) ↔ X = (zs.drop 2).take (N + 6) := by
  match zs, h6 with
  | a0 :: a1 :: r, _ =>
    simp only [List.getD_cons_zero, List.getD_cons_succ] at *
    subst h0 h1
    simp
set_option maxRecDepth 100000 in
set_option maxHeartbeats 8000000 in
theorem rftake_any (ba : Option Addr) (bl bc : Nat) (zs : List Int) (w : World) (hsl : Sl .u8 w ba bl bc zs) (hw : ∀ n ∈ zs, (Lit.int .u8 n).wf = true) (hl : bl ≤ 100000) : Calls Try.prog 13 #[.slice ba bl bc] w (FtOk w (takFr zs)) := by
  have ezl := hsl.1
  have hcm := hsl.2.2.1
  unfold maxLen at hcm
  have hlc := hsl.2.1
  have hbd : ∀ i, 0 ≤ zs.getD i 0 ∧ zs.getD i 0 ≤ 255 := fun i => getD_bd (bytes_bd hw) i
  obtain ⟨r, hr⟩ : ∃ r, takFr zs = r := ⟨_, rfl⟩
  rw [hr]
  unfold takFr at hr
  replace hsl := hid hsl
  replace hw := hid hw
  replace ezl := hid ezl
  go_enter Try.func13, Try.ntmps13
  go_upto_region 0 with (fail)
  apply wp_region_seg0 (w := w) (S := [.al 1000, .q [], .q []]) (E := [.al ((fun p => .pointer (some ⟨p, 0, none⟩)), _) 1000, .q0 _, .q0 _]) rfl (by kernel_rfl) rfl rfl
  intro th hge hne
  refine Seg.step _ rfl ⟨by rfl, fun U hU => ?_⟩ ?_
  · go_simp; exact vp_alloc rfl rfl rfl
  refine ⟨_, by (simp only [Ent.val]; go_simp <;> exact rfl), ?_⟩
  refine Seg.step _ rfl (Or.inl ⟨by rfl, fun U hU => vp_quiet (by (go_simp <;> exact rfl))⟩) ⟨_, by (simp only [Ent.val]; go_simp <;> exact rfl), ?_⟩
  refine Seg.step _ rfl (Or.inl ⟨by rfl, fun U hU => vp_quiet (by (go_simp <;> exact rfl))⟩) ⟨_, by (simp only [Ent.val]; go_simp <;> exact rfl), ?_⟩
  refine Seg.stop (fun U1 hU hk => ?_)
  have nb0 := hge 0 _ _ rfl
  have rb0 := (hk 0 _ _ rfl trivial).1.2 (by simp)
  clear hk hge hne
  generalize th (0 + 0) = p0_0 at *
  dsimp only at rb0
  have r_p0_0 := rb0
  clear rb0
  have n_p0_0 := nb0
  clear nb0
  have sz1 := hU.size
  have hB : Below w.heap.size w U1 := hU
  clear hU
  have nP : w.heap.size ≤ p0_0 := n_p0_0
  have hBs := hB.size
  have rP := r_p0_0
  clear r_p0_0
  by_cases k0 : bl = 0
  case pos =>
    obtain rfl : zs = [] := List.eq_nil_of_length_eq_zero (by rw [ezl.out]; exact k0)
    rw [if_neg (by simp), if_pos (by simp)] at hr
    have i0 : (bl : Int) = 0 := by omega
    replace k0 := hid k0
    replace ezl := hid ezl
    replace hr := hid hr.symm
    have z0 := held_cell rP 0 _ rfl
    have z1 := held_cell rP 1 _ rfl
    have z2 := held_cell rP 2 _ rfl
    have g0 := held_free rP 0
    have g1 := held_free rP 1
    have g2 := held_free rP 2
    obtain ⟨W9, hW9, ya, yO⟩ := st3 rP (.int .i64 0) (.int .i64 0) (.slice none 0 0)
    have hB9 := hid (belowS hB yO nP)
    have ez0 := held_cell ya 0 _ rfl
    have ez1 := held_cell ya 1 _ rfl
    have ez2 := held_cell ya 2 _ rfl
    clear yO ya hB
    go_wp2_with fail
    refine bodyPost_ret (v := .tuple #[.agg #[.int .i64 0, .int .i64 0, .slice none 0 0], .int .i64 0, .int .i64 2]) (by simp [results, Try.results13, go_sem, ez0, ez1, ez2]) rfl ?_
    rw [hr.out]
    exact FtOk.no hB9.out
  have hSu := hsl.out.below hB
  obtain ⟨gb, go, rfl, v0⟩ := hSu.2.2.2.2 0 (by rw [ezl.out]; omega)
  rw [Nat.add_zero] at v0
  have d0 := getD_sm (zs := zs) (i := 0) (by rw [ezl.out]; omega) 181 0
  rw [d0] at hr
  have h0b := hbd 0
  obtain ⟨y0, hy0⟩ : ∃ y, zs.getD 0 0 = y := ⟨_, rfl⟩
  rw [hy0] at hr v0 h0b
  replace hy0 := hid hy0
  clear d0
  have i0 : (0 : Int) < bl := by omega
  by_cases k1 : y0 ≠ 181
  case pos =>
    rw [if_pos (Or.inl k1)] at hr
    have n0 : (y0 != 181) = true := by simp [k1]
    clear hSu
    replace hr := hid hr.symm
    have z0 := held_cell rP 0 _ rfl
    have z1 := held_cell rP 1 _ rfl
    have z2 := held_cell rP 2 _ rfl
    have g0 := held_free rP 0
    have g1 := held_free rP 1
    have g2 := held_free rP 2
    obtain ⟨W9, hW9, ya, yO⟩ := st3 rP (.int .i64 0) (.int .i64 0) (.slice none 0 0)
    have hB9 := hid (belowS hB yO nP)
    have ez0 := held_cell ya 0 _ rfl
    have ez1 := held_cell ya 1 _ rfl
    have ez2 := held_cell ya 2 _ rfl
    clear yO ya hB
    go_wp2_with fail
    refine bodyPost_ret (v := .tuple #[.agg #[.int .i64 0, .int .i64 0, .slice none 0 0], .int .i64 0, .int .i64 3]) (by simp [results, Try.results13, go_sem, ez0, ez1, ez2]) rfl ?_
    rw [hr.out]
    exact FtOk.no hB9.out
  obtain rfl : y0 = 181 := by omega
  skip
  by_cases k2 : bl = 1
  case pos =>
    have e1 : zs.getD 1 98 = 98 := by simp [ezl.out, k2]
    rw [if_neg (by rw [e1]; simp), if_pos (by rw [ezl.out]; omega)] at hr
    have i1 : (bl : Int) = 1 := by omega
    replace k2 := hid k2
    clear hSu e1
    replace hr := hid hr.symm
    have z0 := held_cell rP 0 _ rfl
    have z1 := held_cell rP 1 _ rfl
    have z2 := held_cell rP 2 _ rfl
    have g0 := held_free rP 0
    have g1 := held_free rP 1
    have g2 := held_free rP 2
    obtain ⟨W9, hW9, ya, yO⟩ := st3 rP (.int .i64 0) (.int .i64 0) (.slice none 0 0)
    have hB9 := hid (belowS hB yO nP)
    have ez0 := held_cell ya 0 _ rfl
    have ez1 := held_cell ya 1 _ rfl
    have ez2 := held_cell ya 2 _ rfl
    clear yO ya hB
    go_wp2_with fail
    refine bodyPost_ret (v := .tuple #[.agg #[.int .i64 0, .int .i64 0, .slice none 0 0], .int .i64 0, .int .i64 2]) (by simp [results, Try.results13, go_sem, ez0, ez1, ez2]) rfl ?_
    rw [hr.out]
    exact FtOk.no hB9.out
  have i1 : (1 : Int) < bl := by omega
  have v1 : U1.cell? ⟨gb, go + 1, none⟩ = some (.int .u8 (zs.getD 1 0)) := by obtain ⟨b9, o9, e9, v9⟩ := hSu.2.2.2.2 1 (by rw [ezl.out]; omega); cases e9; exact v9
  have d1 := getD_sm (zs := zs) (i := 1) (by rw [ezl.out]; omega) 98 0
  rw [d1] at hr
  have h1b := hbd 1
  obtain ⟨y1, hy1⟩ : ∃ y, zs.getD 1 0 = y := ⟨_, rfl⟩
  rw [hy1] at hr v1 h1b
  replace hy1 := hid hy1
  clear d1
  by_cases k3 : y1 ≠ 98
  case pos =>
    rw [if_pos (Or.inr k3)] at hr
    have n1 : (y1 != 98) = true := by simp [k3]
    clear hSu
    replace hr := hid hr.symm
    have z0 := held_cell rP 0 _ rfl
    have z1 := held_cell rP 1 _ rfl
    have z2 := held_cell rP 2 _ rfl
    have g0 := held_free rP 0
    have g1 := held_free rP 1
    have g2 := held_free rP 2
    obtain ⟨W9, hW9, ya, yO⟩ := st3 rP (.int .i64 0) (.int .i64 0) (.slice none 0 0)
    have hB9 := hid (belowS hB yO nP)
    have ez0 := held_cell ya 0 _ rfl
    have ez1 := held_cell ya 1 _ rfl
    have ez2 := held_cell ya 2 _ rfl
    clear yO ya hB
    go_wp2_with fail
    refine bodyPost_ret (v := .tuple #[.agg #[.int .i64 0, .int .i64 0, .slice none 0 0], .int .i64 0, .int .i64 3]) (by simp [results, Try.results13, go_sem, ez0, ez1, ez2]) rfl ?_
    rw [hr.out]
    exact FtOk.no hB9.out
  obtain rfl : y1 = 98 := by omega
  rw [if_neg (by simp)] at hr
  by_cases k4 : (bl : Int) < 6
  case pos =>
    rw [if_pos (by rw [ezl.out]; omega)] at hr
    clear hSu
    replace hr := hid hr.symm
    have z0 := held_cell rP 0 _ rfl
    have z1 := held_cell rP 1 _ rfl
    have z2 := held_cell rP 2 _ rfl
    have g0 := held_free rP 0
    have g1 := held_free rP 1
    have g2 := held_free rP 2
    obtain ⟨W9, hW9, ya, yO⟩ := st3 rP (.int .i64 0) (.int .i64 0) (.slice none 0 0)
    have hB9 := hid (belowS hB yO nP)
    have ez0 := held_cell ya 0 _ rfl
    have ez1 := held_cell ya 1 _ rfl
    have ez2 := held_cell ya 2 _ rfl
    clear yO ya hB
    go_wp2_with fail
    refine bodyPost_ret (v := .tuple #[.agg #[.int .i64 0, .int .i64 0, .slice none 0 0], .int .i64 0, .int .i64 2]) (by simp [results, Try.results13, go_sem, ez0, ez1, ez2]) rfl ?_
    rw [hr.out]
    exact FtOk.no hB9.out
  rw [if_neg (by rw [ezl.out]; omega)] at hr
  have v2 : U1.cell? ⟨gb, go + 2, none⟩ = some (.int .u8 (zs.getD 2 0)) := by obtain ⟨b9, o9, e9, v9⟩ := hSu.2.2.2.2 2 (by rw [ezl.out]; omega); cases e9; exact v9
  have h2b := hbd 2
  obtain ⟨y2, hy2⟩ : ∃ y, zs.getD 2 0 = y := ⟨_, rfl⟩
  rw [hy2] at hr v2 h2b
  replace hy2 := hid hy2
  have v3 : U1.cell? ⟨gb, go + 3, none⟩ = some (.int .u8 (zs.getD 3 0)) := by obtain ⟨b9, o9, e9, v9⟩ := hSu.2.2.2.2 3 (by rw [ezl.out]; omega); cases e9; exact v9
  have h3b := hbd 3
  obtain ⟨y3, hy3⟩ : ∃ y, zs.getD 3 0 = y := ⟨_, rfl⟩
  rw [hy3] at hr v3 h3b
  replace hy3 := hid hy3
  have v4 : U1.cell? ⟨gb, go + 4, none⟩ = some (.int .u8 (zs.getD 4 0)) := by obtain ⟨b9, o9, e9, v9⟩ := hSu.2.2.2.2 4 (by rw [ezl.out]; omega); cases e9; exact v9
  have h4b := hbd 4
  obtain ⟨y4, hy4⟩ : ∃ y, zs.getD 4 0 = y := ⟨_, rfl⟩
  rw [hy4] at hr v4 h4b
  replace hy4 := hid hy4
  have v5 : U1.cell? ⟨gb, go + 5, none⟩ = some (.int .u8 (zs.getD 5 0)) := by obtain ⟨b9, o9, e9, v9⟩ := hSu.2.2.2.2 5 (by rw [ezl.out]; omega); cases e9; exact v9
  have h5b := hbd 5
  obtain ⟨y5, hy5⟩ : ∃ y, zs.getD 5 0 = y := ⟨_, rfl⟩
  rw [hy5] at hr v5 h5b
  replace hy5 := hid hy5
  obtain ⟨N, hN⟩ := Int.eq_ofNat_of_zero_le (show 0 ≤ y4 + 256 * y5 by omega)
  rw [hN] at hr
  have hNb : (N : Int) ≤ 65535 := by omega
  have w1 : IntKind.i64.wrap (256 * y5) = 256 * y5 := by rw [IntKind.wrap_i64]; omega
  have w2 : IntKind.i64.wrap (y4 + 256 * y5) = (N : Int) := by rw [IntKind.wrap_i64, hN]; omega
  have hN2 := hid hN
  clear hN
  replace hr := hid hr
  replace hB := hid hB
  replace rP := hid rP
  have i6 : (6 : Int) ≤ bl := by omega
  go_wp2_with fail
  go_quiet (fail)
  go_upto_region 6 with (fail)
  have hBq := below_drewN hB.out nq
  have rPq := (show (U1.drewN nq).heap[p0_0]? = _ from rP.out)
  have u2 := (show (U1.drewN nq).cell? _ = _ from v2)
  have u3 := (show (U1.drewN nq).cell? _ = _ from v3)
  clear hB rP v0 v1 v2 v3 v4 v5 w1 w2 hSu
  generalize U1.drewN nq = V at *
  have hB := hBq
  have rP := rPq
  clear hBq rPq
  replace hr := hr.out
  rw [ezl.out, Int.toNat_natCast] at hr
  by_cases kc3 : (1016 : Int) < N
  case pos =>
    rw [if_pos kc3] at hr
    replace hr := hid hr.symm
    have z0 := held_cell rP 0 _ rfl
    have z1 := held_cell rP 1 _ rfl
    have z2 := held_cell rP 2 _ rfl
    have g0 := held_free rP 0
    have g1 := held_free rP 1
    have g2 := held_free rP 2
    obtain ⟨W9, hW9, ya, yO⟩ := st3 rP (.int .i64 0) (.int .i64 0) (.slice none 0 0)
    have hB9 := hid (belowS hB yO nP)
    have ez0 := held_cell ya 0 _ rfl
    have ez1 := held_cell ya 1 _ rfl
    have ez2 := held_cell ya 2 _ rfl
    clear yO ya hB
    go_wp2_with fail
    refine bodyPost_ret (v := .tuple #[.agg #[.int .i64 0, .int .i64 0, .slice none 0 0], .int .i64 0, .int .i64 7]) (by simp [results, Try.results13, go_sem, ez0, ez1, ez2]) rfl ?_
    rw [hr.out]
    exact FtOk.no hB9.out
  rw [if_neg kc3] at hr
  have w8 : IntKind.i64.wrap ((N : Int) + 8) = (N : Int) + 8 := by rw [IntKind.wrap_i64]; omega
  by_cases kc4 : (bl : Int) < (N : Int) + 8
  case pos =>
    rw [if_pos kc4] at hr
    replace hr := hid hr.symm
    have z0 := held_cell rP 0 _ rfl
    have z1 := held_cell rP 1 _ rfl
    have z2 := held_cell rP 2 _ rfl
    have g0 := held_free rP 0
    have g1 := held_free rP 1
    have g2 := held_free rP 2
    obtain ⟨W9, hW9, ya, yO⟩ := st3 rP (.int .i64 0) (.int .i64 0) (.slice none 0 0)
    have hB9 := hid (belowS hB yO nP)
    have ez0 := held_cell ya 0 _ rfl
    have ez1 := held_cell ya 1 _ rfl
    have ez2 := held_cell ya 2 _ rfl
    clear yO ya hB
    go_wp2_with fail
    refine bodyPost_ret (v := .tuple #[.agg #[.int .i64 0, .int .i64 0, .slice none 0 0], .int .i64 0, .int .i64 2]) (by simp [results, Try.results13, go_sem, ez0, ez1, ez2]) rfl ?_
    rw [hr.out]
    exact FtOk.no hB9.out
  rw [if_neg kc4] at hr
  have hSv := ((hsl.out.below hB).drop 6 (by omega)).take N (by omega)
  have w6 : IntKind.i64.wrap ((N : Int) + 6) = (N : Int) + 6 := by rw [IntKind.wrap_i64]; omega
  have s1 : (6 : Int) ≤ (N : Int) + 6 := by omega
  have s2 : (N : Int) + 6 ≤ bl := by omega
  have s3 : (N : Int) + 6 ≤ bc := by omega
  have s4 : ¬ bc = 6 := by omega
  have s5 : ((N : Int) + 6).toNat = N + 6 := by omega
  have s6 : N + 6 - 6 = N := by omega
  have s7 : (6 : Int) < bc := by omega
  have j2 : (2 : Int) < bl := by omega
  have cw2 : IntKind.i64.wrap y2 = y2 := by rw [IntKind.wrap_i64]; omega
  have cw3 : IntKind.i64.wrap y3 = y3 := by rw [IntKind.wrap_i64]; omega
  have j3 : (3 : Int) < bl := by omega
  replace hr := hid hr
  have hBs5 := hB.size
  have ltP := held_lt rP
  have ltb := World.block_lt_of_cell? V _ u2
  obtain ⟨QQ, hQQ⟩ : ∃ Q, V.drew = Q := ⟨_, rfl⟩
  have rQ := (show V.drew.heap[p0_0]? = _ from rP)
  rw [hQQ] at rQ
  have hBQ := hB.drew
  rw [hQQ] at hBQ
  have hSQ : Sl .u8 V.drew (some ⟨gb, go + 6, none⟩) N (bc - 6) ((zs.drop 6).take N) := hSv
  rw [hQQ] at hSQ
  have szQ : V.heap.size = QQ.heap.size := by rw [← hQQ]; rfl
  have q2 := (show V.drew.cell? _ = _ from u2)
  rw [hQQ] at q2
  have q3 := (show V.drew.cell? _ = _ from u3)
  rw [hQQ] at q3
  have hNz : QQ.heap.size ≤ QQ.heap.size := Nat.le_refl _
  have hwq : w.heap.size ≤ QQ.heap.size := hBQ.size
  clear hSv hB rP u2 u3
  obtain ⟨ps, hps⟩ : ∃ ps, (zs.drop 6).take N = ps := ⟨_, rfl⟩
  rw [hps] at hSQ
  replace hps := hid hps
  go_upto_region 10 with (fail)
  refine wp_region_K (N := QQ.heap.size) (X := []) (by kernel_rfl) ?_
  rw [hQQ]
  refine wpAnyK_take 0 rfl (by kernel_rfl) (by kernel_rfl) (by kernel_rfl) (fun _ _ _ _ h => h) ⟨_, Or.inl ⟨by rfl, fun w2 hb => by (go_simp; try with_reducible rfl)⟩, _, by (go_simp; try rfl), ?_⟩
  refine wpAnyK_take 1 rfl (by kernel_rfl) (by kernel_rfl) (by kernel_rfl) (fun _ _ _ _ h => h) ⟨_, Or.inl ⟨by rfl, fun w2 hb => by (go_simp; try with_reducible rfl)⟩, _, by (go_simp; try rfl), ?_⟩
  refine wpAnyK_take 2 rfl (by kernel_rfl) (by kernel_rfl) (by kernel_rfl) (fun _ _ _ _ h => h) ⟨_, Or.inl ⟨by rfl, fun w2 hb => by (have hx := hb.cellB (p := ⟨gb, go + 2, none⟩) (by show gb < _; rw [← szQ]; exact ltb) (by simp) q2; go_simp; try with_reducible rfl)⟩, _, by (go_simp; try rfl), ?_⟩
  refine wpAnyK_take 3 rfl (by kernel_rfl) (by kernel_rfl) (by kernel_rfl) (fun _ _ _ _ h => h) ⟨_, Or.inl ⟨by rfl, fun w2 hb => by (go_simp; try with_reducible rfl)⟩, _, by (go_simp; try rfl), ?_⟩
  refine wpAnyK_take 4 rfl (by kernel_rfl) (by kernel_rfl) (by kernel_rfl) (fun _ _ _ _ h => h) ⟨_, Or.inl ⟨by rfl, fun w2 hb => by (go_simp; try with_reducible rfl)⟩, _, by (go_simp; try rfl), ?_⟩
  refine wpAnyK_take 5 rfl (by kernel_rfl) (by kernel_rfl) (by kernel_rfl) (fun _ _ _ _ h => h) ⟨_, Or.inl ⟨by rfl, fun w2 hb => by (go_simp; try with_reducible rfl)⟩, _, by (go_simp; try rfl), ?_⟩
  refine wpAnyK_take 6 rfl (by kernel_rfl) (by kernel_rfl) (by kernel_rfl) (fun _ _ _ _ h => h) ⟨_, Or.inl ⟨by rfl, fun w2 hb => by (have hx := hb.cellB (p := ⟨gb, go + 3, none⟩) (by show gb < _; rw [← szQ]; exact ltb) (by simp) q3; go_simp; try with_reducible rfl)⟩, _, by (go_simp; try rfl), ?_⟩
  refine wpAnyK_take 7 rfl (by kernel_rfl) (by kernel_rfl) (by kernel_rfl) (fun _ _ _ _ h => h) ⟨_, Or.inl ⟨by rfl, fun w2 hb => by (go_simp; try with_reducible rfl)⟩, _, by (go_simp; try rfl), ?_⟩
  refine wpAnyK_take 9 rfl (by kernel_rfl) (by kernel_rfl) (by kernel_rfl) (fun _ _ _ _ h => h) ⟨_, Or.inl ⟨by rfl, fun w2 hb => by (go_simp; try with_reducible rfl)⟩, _, by (go_simp; try rfl), ?_⟩
  refine wpAnyK_take 10 rfl (by kernel_rfl) (by kernel_rfl) (by kernel_rfl) (fun _ _ _ _ h => h) ⟨_, Or.inl ⟨by rfl, fun w2 hb => by (go_simp; try with_reducible rfl)⟩, _, by (go_simp; try rfl), ?_⟩
  refine wpAnyK_take 11 rfl (by kernel_rfl) (by kernel_rfl) (by kernel_rfl) (fun _ _ _ _ h => h) ⟨_, Or.inl ⟨by rfl, fun w2 hb => by (go_simp; try with_reducible rfl)⟩, _, by (go_simp; try rfl), ?_⟩
  refine wpAnyK_take 12 rfl (by kernel_rfl) (by kernel_rfl) (by kernel_rfl) (fun _ _ _ _ h => h) ⟨_, Or.inl ⟨by rfl, fun w2 hb => by (go_simp; try with_reducible rfl)⟩, _, by (go_simp; try rfl), ?_⟩
  refine wpAnyK_two 8 15 rfl rfl (by kernel_rfl) (by rfl) (by rfl) (fun K hK => ?_) (fun K hK => ?_)
  · go_simp
    have nw := alloc_new QQ (.cells #[] 5)
    have hst := nw.2.1
    have kp := Kp.of (X := []) hst hNz
    have own9 := Own.lit .u8 5 QQ [] w.heap.size hBQ.size (by simp) #[] rfl
    replace hNz := Nat.le_trans hNz hst.size
    replace hBQ := hBQ.trans (hst.mono hBQ.size)
    replace rQ := held_after hst rQ
    replace hSQ := hSQ.below hst
    have own8 := own9
    clear hst nw own9
    refine hK _ _ ⟨kp, ?_⟩
    clear hK
    clear kp
    refine wpAnyK_two 13 15 rfl rfl (by kernel_rfl) (by rfl) (by rfl) (fun K hK => ?_) (fun K hK => ?_)
    · refine wp_appK (.tmp 61) (.tmp 65) 22 rfl w.heap.size 5 .u8 1 bytesOf _ [] rfl own8 (some ⟨gb, go + 6, none⟩) N (bc - 6) ps rfl hSQ (by simp; omega) (by decide) hBQ.size ?_
      intro a3 c3 W13 hO13 hG13 hq13
      have kp := kp_grown (X := []) hG13 hNz (fun k e => by cases e; first | exact Nat.le_refl _ | simp)
      replace hNz := Nat.le_trans hNz hG13.size
      replace hBQ := own8.grew hG13 hBQ (Nat.le_refl _) hBQ.size
      replace rQ := held_grown rQ hG13 (own_ne own8 rQ (by decide))
      clear hSQ hq13 hG13
      have ownA : Own .u8 5 W13 w.heap.size (.slice a3 N c3) ps := by have := hO13; rwa [List.nil_append, show ([] : List Int).length + N = N from Nat.zero_add N] at this
      clear own8 hO13
      rw [show ([] : List Int).length + N = N from Nat.zero_add N]
      refine hK _ _ ⟨kp, ?_⟩
      clear hK
      clear kp
      refine wpAnyK_take 14 rfl (by kernel_rfl) (by kernel_rfl) (by kernel_rfl) (fun _ _ _ _ h => h) ⟨_, Or.inl ⟨by rfl, fun w2 hb => by (go_simp; try with_reducible rfl)⟩, _, by (go_simp; try rfl), ?_⟩
      refine wpAnyK_only 15 rfl (by kernel_rfl) (by rfl) (fun K hK => ?_)
      go_simp
      have nw := alloc_new W13 (.cells #[.int .i64 0, .int .i64 0, .slice none 0 0] 24)
      have hst := nw.2.1
      have kp := Kp.of (X := []) hst hNz
      have hFq := hNz
      replace hNz := Nat.le_trans hNz hst.size
      replace hBQ := hBQ.trans (hst.mono hBQ.size)
      replace rQ := held_after hst rQ
      replace ownA := ownA.below hst
      have rF := nw.2.2
      clear hst nw
      refine hK _ _ ⟨kp, ?_⟩
      clear hK
      clear kp
      generalize (W13.alloc (.cells #[.int .i64 0, .int .i64 0, .slice none 0 0] 24)) = W15 at *
      refine wpAnyK_only 16 rfl (by kernel_rfl) (by rfl) (fun K hK => ?_)
      obtain ⟨F, hFe⟩ : ∃ F, W13.heap.size = F := ⟨_, rfl⟩
      rw [hFe] at rF hFq
      have dPF : p0_0 ≠ F := by have := ltP; omega
      have z0 := held_cell rF 0 _ rfl
      have z1 := held_cell rF 1 _ rfl
      have z2 := held_cell rF 2 _ rfl
      have g0 := held_free rF 0
      have g1 := held_free rF 1
      have g2 := held_free rF 2
      obtain ⟨W16, hW16, fa, fO⟩ := st3 rF (.int .i64 y2) (.int .i64 y3) (.slice a3 N c3)
      have kp : Kp QQ.heap.size [] W15 W16 := ⟨fO.os, fO.tape, fO.output, by rw [fO.size]; exact Nat.le_refl _, fun k hk _ => fO.block k (by omega)⟩
      have ownB : Own .u8 5 W16 w.heap.size (.slice a3 N c3) ps := World.ownsRow.kept (w' := W16) (row := some F) ownA ⟨fO.os, fO.tape, fO.output, by rw [fO.size]; exact Nat.le_refl _, fun k hk hne => fO.block k (fun e => hne (by rw [e]))⟩ (.inr (fun e => own_ne ownA rF (by decide) e.symm))
      replace rQ := heldS fO dPF rQ
      replace hBQ := belowS hBQ fO (by omega)
      clear ownA rF fO
      go_simp
      refine hK _ _ ⟨kp, ?_⟩
      clear hK
      clear kp hW16 z0 z1 z2 g0 g1 g2 hFe
      refine wpAnyK_done (by kernel_rfl) ?_ _
      replace ownB := hid ownB
      replace hBQ := hid hBQ
      replace rQ := hid rQ
      have z0 := held_cell fa 0 _ rfl
      have z1 := held_cell fa 1 _ rfl
      have z2 := held_cell fa 2 _ rfl
      have hpl : ps.length ≤ 1016 := by rw [← hps.out, List.length_take]; omega
      have hpw := hid (fun x (hx : x ∈ ps) => hw.out x (List.mem_of_mem_drop (List.mem_of_mem_take (hps.out ▸ hx))))
      have hIn : inFr y2 y3 ps = (zs.drop 2).take (N + 4) := by
        have := inFr_of zs N (by rw [ezl.out]; omega) (by rw [hy4.out, hy5.out]; exact hN2.out) (by rw [ezl.out]; omega) (by rw [hy4.out]; exact h4b) (by rw [hy5.out]; exact h5b.1)
        rw [hy2.out, hy3.out, hps.out] at this
        exact this
      have hPF : putFr y2 y3 ps = (181 :: 98 :: sealS ((zs.drop 2).take (N + 4)), 0) := by
        unfold putFr isB
        rw [if_pos (by simp; omega), if_neg (by omega), hIn]
        rfl
      replace hPF := hid hPF
      clear hIn
      replace fa := hid fa
      go_wp2_with fail
      refine (rfput_any y2 y3 a3 N c3 ps _ (by omega) ownB.out.slf hpw.out).mono ?_
      rintro e W17 ⟨sa, sc, rfl, hO, hA17⟩
      rw [hPF.out] at hO ⊢
      clear z0 z1 z2 hpw hPF
      have rP := held_after hA17 rQ.out
      have rF := held_after hA17 fa.out
      have ownC := ownB.out.below hA17
      have hB := bthen hBQ.out hA17
      clear ownB rQ fa hBQ hA17
      try dsimp only at hO
      obtain ⟨SL, hSL⟩ : ∃ SL, 181 :: 98 :: sealS ((zs.drop 2).take (N + 4)) = SL := ⟨_, rfl⟩
      rw [hSL] at hO ⊢
      have t1 := hO.textR 22 9 5 Try.underlying22 Try.underlying5 Try.underlying9
      have hSb := (hsl.out.below hB).take (N + 8) (by omega)
      have t2 : ∀ U, After W17 U → (convert 22 9 (.slice (some ⟨gb, go, none⟩) (N + 8) bc)).run Try.prog U = .ok (.string (textOf (zs.take (N + 8)))) U := fun U h => (hSb.below h).text 22 9 5 Try.underlying22 Try.underlying5 Try.underlying9
      have hfe := frame_eq zs N (by rw [ezl.out]; omega) (by rw [ezl.out]; omega) hy0.out hy1.out (sealS ((zs.drop 2).take (N + 4)))
      rw [hSL] at hfe
      have q1 : ((N : Int) + 8).toNat = N + 8 := by omega
      have q3 : (N : Int) + 8 ≤ bl := by omega
      have q4 : (N : Int) + 8 ≤ bc := by omega
      have q5 : (0 : Int) ≤ (N : Int) + 8 := by omega
      have bdS : ∀ n ∈ SL, 0 ≤ n ∧ n ≤ 255 := by
        rw [← hSL]
        intro n hn
        simp only [List.mem_cons] at hn
        rcases hn with rfl | rfl | hn
        · omega
        · omega
        · exact sealS_bd (fun x hx => bytes_bd hw.out x (List.mem_of_mem_drop (List.mem_of_mem_take hx))) n hn
      have bdT : ∀ n ∈ zs.take (N + 8), 0 ≤ n ∧ n ≤ 255 := fun x hx => bytes_bd hw.out x (List.mem_of_mem_take hx)
      have hr2 := hr.out
      clear hr hO hSb
      obtain ⟨TE, hTE⟩ : ∃ b, ((textOf SL).toList == (textOf (zs.take (N + 8))).toList) = b := ⟨_, rfl⟩
      have hTE2 : TE = decide (SL = zs.take (N + 8)) := by
        rw [← hTE]
        by_cases c : SL = zs.take (N + 8)
        · rw [text_eq _ _ c, decide_eq_true c]
        · rw [text_ne _ _ bdS bdT c, decide_eq_false c]
      replace hTE2 := hid hTE2
      clear bdS bdT
      generalize textOf SL = TX at *
      generalize textOf (zs.take (N + 8)) = TY at *
      replace hr2 := hid hr2
      replace hfe := hid hfe
      replace hSL := hid hSL
      go_upto_region 12 with (fail)
      apply wp_region_seg (w := W17) (S := [.q [], .q [], .q [], .q [], .q [], .q [], .q [], .q []]) (E := [.q0 _, .q0 _, .q0 _, .q0 _, .q0 _, .q0 _, .q0 _, .q0 _]) (by kernel_rfl) rfl (by kernel_rfl) rfl rfl
      intro th hge hne
      refine Seg.step _ rfl (Or.inl ⟨by rfl, fun U hU => vp_quiet (by (go_simp <;> exact rfl))⟩) ⟨_, by (simp only [Ent.val]; go_simp <;> exact rfl), ?_⟩
      refine Seg.step _ rfl (Or.inl ⟨by rfl, fun U hU => vp_quiet (by (have hx := t1 U hU.1; go_simp <;> exact rfl))⟩) ⟨_, by (simp only [Ent.val]; go_simp <;> exact rfl), ?_⟩
      refine Seg.step _ rfl (Or.inl ⟨by rfl, fun U hU => vp_quiet (by (go_simp <;> exact rfl))⟩) ⟨_, by (simp only [Ent.val]; go_simp <;> exact rfl), ?_⟩
      refine Seg.step _ rfl (Or.inl ⟨by rfl, fun U hU => vp_quiet (by (go_simp <;> exact rfl))⟩) ⟨_, by (simp only [Ent.val]; go_simp <;> exact rfl), ?_⟩
      refine Seg.step _ rfl (Or.inl ⟨by rfl, fun U hU => vp_quiet (by (go_simp <;> exact rfl))⟩) ⟨_, by (simp only [Ent.val]; go_simp <;> exact rfl), ?_⟩
      refine Seg.step _ rfl (Or.inl ⟨by rfl, fun U hU => vp_quiet (by (go_simp <;> exact rfl))⟩) ⟨_, by (simp only [Ent.val]; go_simp <;> exact rfl), ?_⟩
      refine Seg.step _ rfl (Or.inl ⟨by rfl, fun U hU => vp_quiet (by (have hx := t2 U hU.1; go_simp <;> exact rfl))⟩) ⟨_, by (simp only [Ent.val]; go_simp <;> exact rfl), ?_⟩
      refine Seg.step _ rfl (Or.inl ⟨by rfl, fun U hU => vp_quiet (by (go_simp <;> exact rfl))⟩) ⟨_, by (simp only [Ent.val]; go_simp <;> exact rfl), ?_⟩
      refine Seg.stop (fun U31 hU hk => ?_)
      clear hk hge hne
      replace rP := held_after hU rP
      replace rF := held_after hU rF
      have sz31 := hU.size
      replace hB := bthen hB hU
      have ownD := hid (ownC.below hU)
      clear hU ownC t1 t2
      by_cases kc5 : sealS ((zs.drop 2).take (N + 4)) = (zs.drop 2).take (N + 6)
      case neg =>
        have hr := hr2.out
        rw [if_neg kc5] at hr
        replace hr := hid hr.symm
        obtain rfl : TE = false := by rw [hTE2.out]; exact decide_eq_false (fun h => kc5 (hfe.out.1 h))
        clear hr2
        have z0 := held_cell rP 0 _ rfl
        have z1 := held_cell rP 1 _ rfl
        have z2 := held_cell rP 2 _ rfl
        have g0 := held_free rP 0
        have g1 := held_free rP 1
        have g2 := held_free rP 2
        obtain ⟨W9, hW9, ya, yO⟩ := st3 rP (.int .i64 0) (.int .i64 0) (.slice none 0 0)
        have hB9 := hid (belowS hB yO nP)
        have ez0 := held_cell ya 0 _ rfl
        have ez1 := held_cell ya 1 _ rfl
        have ez2 := held_cell ya 2 _ rfl
        clear yO ya hB
        go_wp2_with fail
        refine bodyPost_ret (v := .tuple #[.agg #[.int .i64 0, .int .i64 0, .slice none 0 0], .int .i64 0, .int .i64 4]) (by simp [results, Try.results13, go_sem, ez0, ez1, ez2]) rfl ?_
        rw [hr.out]
        exact FtOk.no hB9.out
      have hr := hr2.out
      rw [if_pos kc5] at hr
      replace hr := hid hr.symm
      obtain rfl : TE = true := by rw [hTE2.out]; exact decide_eq_true (hfe.out.2 kc5)
      clear hr2
      have ew := hid w8
      have a0 := held_cell rF 0 _ rfl
      have a1 := held_cell rF 1 _ rfl
      have a2 := held_cell rF 2 _ rfl
      have z0 := held_cell rP 0 _ rfl
      have z1 := held_cell rP 1 _ rfl
      have z2 := held_cell rP 2 _ rfl
      have g0 := held_free rP 0
      have g1 := held_free rP 1
      have g2 := held_free rP 2
      obtain ⟨W9, hW9, ya, yO⟩ := st3 rP (.int .i64 y2) (.int .i64 y3) (.slice a3 N c3)
      have hB9 := hid (belowS hB yO nP)
      have hS9 := hid (ownD.out.slf.other rP (no_u8 (fun x h => by cases h)) yO.block)
      have ez0 := held_cell ya 0 _ rfl
      have ez1 := held_cell ya 1 _ rfl
      have ez2 := held_cell ya 2 _ rfl
      have hPl := hid (show ps.length = N from by rw [← hps.out, List.length_take, List.length_drop, ezl.out]; omega)
      clear yO ya rP rF hB ownD
      go_wp2_with fail
      refine bodyPost_ret (v := .tuple #[.agg #[.int .i64 y2, .int .i64 y3, .slice a3 N c3], .int .i64 ((N : Int) + 8), .int .i64 0]) (by simp [results, Try.results13, go_sem, ez0, ez1, ez2]) rfl ?_
      rw [hr.out, hps.out]
      exact ⟨a3, c3, by rw [hPl.out], by rw [hPl.out]; exact hS9.out, hB9.out⟩
    · go_simp
      have nw := alloc_new (QQ.alloc (.cells #[] 5)) (.cells #[.int .i64 0, .int .i64 0, .slice none 0 0] 24)
      have hst := nw.2.1
      have kp := Kp.of (X := []) hst hNz
      have hFq := hNz
      replace hNz := Nat.le_trans hNz hst.size
      replace hBQ := hBQ.trans (hst.mono hBQ.size)
      replace rQ := held_after hst rQ
      replace hSQ := hSQ.below hst
      replace own8 := own8.below hst
      have rF := nw.2.2
      clear hst nw
      rw [World.size_alloc] at rF hFq
      refine hK _ _ ⟨kp, ?_⟩
      clear hK
      clear kp
      refine wpAnyK_only 13 rfl (by kernel_rfl) (by rfl) (fun K hK => ?_)
      refine wp_appK (.tmp 61) (.tmp 65) 22 rfl w.heap.size 5 .u8 1 bytesOf _ [] rfl own8 (some ⟨gb, go + 6, none⟩) N (bc - 6) ps rfl hSQ (by simp; omega) (by decide) hBQ.size ?_
      intro a3 c3 W13 hO13 hG13 hq13
      have kp := kp_grown (X := []) hG13 hNz (fun k e => by cases e; first | exact Nat.le_refl _ | simp)
      replace hNz := Nat.le_trans hNz hG13.size
      replace hBQ := own8.grew hG13 hBQ (Nat.le_refl _) hBQ.size
      replace rQ := held_grown rQ hG13 (own_ne own8 rQ (by decide))
      replace rF := held_grown rF hG13 (own_ne own8 rF (by decide))
      clear hSQ hq13 hG13
      have ownA : Own .u8 5 W13 w.heap.size (.slice a3 N c3) ps := by have := hO13; rwa [List.nil_append, show ([] : List Int).length + N = N from Nat.zero_add N] at this
      clear own8 hO13
      rw [show ([] : List Int).length + N = N from Nat.zero_add N]
      refine hK _ _ ⟨kp, ?_⟩
      clear hK
      clear kp
      refine wpAnyK_take 14 rfl (by kernel_rfl) (by kernel_rfl) (by kernel_rfl) (fun _ _ _ _ h => h) ⟨_, Or.inl ⟨by rfl, fun w2 hb => by (go_simp; try with_reducible rfl)⟩, _, by (go_simp; try rfl), ?_⟩
      refine wpAnyK_only 16 rfl (by kernel_rfl) (by rfl) (fun K hK => ?_)
      obtain ⟨F, hFe⟩ : ∃ F, QQ.heap.size + 1 = F := ⟨_, rfl⟩
      rw [hFe] at rF hFq
      have dPF : p0_0 ≠ F := by have := ltP; omega
      have z0 := held_cell rF 0 _ rfl
      have z1 := held_cell rF 1 _ rfl
      have z2 := held_cell rF 2 _ rfl
      have g0 := held_free rF 0
      have g1 := held_free rF 1
      have g2 := held_free rF 2
      obtain ⟨W16, hW16, fa, fO⟩ := st3 rF (.int .i64 y2) (.int .i64 y3) (.slice a3 N c3)
      have kp : Kp QQ.heap.size [] W13 W16 := ⟨fO.os, fO.tape, fO.output, by rw [fO.size]; exact Nat.le_refl _, fun k hk _ => fO.block k (by omega)⟩
      have ownB : Own .u8 5 W16 w.heap.size (.slice a3 N c3) ps := World.ownsRow.kept (w' := W16) (row := some F) ownA ⟨fO.os, fO.tape, fO.output, by rw [fO.size]; exact Nat.le_refl _, fun k hk hne => fO.block k (fun e => hne (by rw [e]))⟩ (.inr (fun e => own_ne ownA rF (by decide) e.symm))
      replace rQ := heldS fO dPF rQ
      replace hBQ := belowS hBQ fO (by omega)
      clear ownA rF fO
      go_simp
      refine hK _ _ ⟨kp, ?_⟩
      clear hK
      clear kp hW16 z0 z1 z2 g0 g1 g2 hFe
      refine wpAnyK_done (by kernel_rfl) ?_ _
      replace ownB := hid ownB
      replace hBQ := hid hBQ
      replace rQ := hid rQ
      have z0 := held_cell fa 0 _ rfl
      have z1 := held_cell fa 1 _ rfl
      have z2 := held_cell fa 2 _ rfl
      have hpl : ps.length ≤ 1016 := by rw [← hps.out, List.length_take]; omega
      have hpw := hid (fun x (hx : x ∈ ps) => hw.out x (List.mem_of_mem_drop (List.mem_of_mem_take (hps.out ▸ hx))))
      have hIn : inFr y2 y3 ps = (zs.drop 2).take (N + 4) := by
        have := inFr_of zs N (by rw [ezl.out]; omega) (by rw [hy4.out, hy5.out]; exact hN2.out) (by rw [ezl.out]; omega) (by rw [hy4.out]; exact h4b) (by rw [hy5.out]; exact h5b.1)
        rw [hy2.out, hy3.out, hps.out] at this
        exact this
      have hPF : putFr y2 y3 ps = (181 :: 98 :: sealS ((zs.drop 2).take (N + 4)), 0) := by
        unfold putFr isB
        rw [if_pos (by simp; omega), if_neg (by omega), hIn]
        rfl
      replace hPF := hid hPF
      clear hIn
      replace fa := hid fa
      go_wp2_with fail
      refine (rfput_any y2 y3 a3 N c3 ps _ (by omega) ownB.out.slf hpw.out).mono ?_
      rintro e W17 ⟨sa, sc, rfl, hO, hA17⟩
      rw [hPF.out] at hO ⊢
      clear z0 z1 z2 hpw hPF
      have rP := held_after hA17 rQ.out
      have rF := held_after hA17 fa.out
      have ownC := ownB.out.below hA17
      have hB := bthen hBQ.out hA17
      clear ownB rQ fa hBQ hA17
      try dsimp only at hO
      obtain ⟨SL, hSL⟩ : ∃ SL, 181 :: 98 :: sealS ((zs.drop 2).take (N + 4)) = SL := ⟨_, rfl⟩
      rw [hSL] at hO ⊢
      have t1 := hO.textR 22 9 5 Try.underlying22 Try.underlying5 Try.underlying9
      have hSb := (hsl.out.below hB).take (N + 8) (by omega)
      have t2 : ∀ U, After W17 U → (convert 22 9 (.slice (some ⟨gb, go, none⟩) (N + 8) bc)).run Try.prog U = .ok (.string (textOf (zs.take (N + 8)))) U := fun U h => (hSb.below h).text 22 9 5 Try.underlying22 Try.underlying5 Try.underlying9
      have hfe := frame_eq zs N (by rw [ezl.out]; omega) (by rw [ezl.out]; omega) hy0.out hy1.out (sealS ((zs.drop 2).take (N + 4)))
      rw [hSL] at hfe
      have q1 : ((N : Int) + 8).toNat = N + 8 := by omega
      have q3 : (N : Int) + 8 ≤ bl := by omega
      have q4 : (N : Int) + 8 ≤ bc := by omega
      have q5 : (0 : Int) ≤ (N : Int) + 8 := by omega
      have bdS : ∀ n ∈ SL, 0 ≤ n ∧ n ≤ 255 := by
        rw [← hSL]
        intro n hn
        simp only [List.mem_cons] at hn
        rcases hn with rfl | rfl | hn
        · omega
        · omega
        · exact sealS_bd (fun x hx => bytes_bd hw.out x (List.mem_of_mem_drop (List.mem_of_mem_take hx))) n hn
      have bdT : ∀ n ∈ zs.take (N + 8), 0 ≤ n ∧ n ≤ 255 := fun x hx => bytes_bd hw.out x (List.mem_of_mem_take hx)
      have hr2 := hr.out
      clear hr hO hSb
      obtain ⟨TE, hTE⟩ : ∃ b, ((textOf SL).toList == (textOf (zs.take (N + 8))).toList) = b := ⟨_, rfl⟩
      have hTE2 : TE = decide (SL = zs.take (N + 8)) := by
        rw [← hTE]
        by_cases c : SL = zs.take (N + 8)
        · rw [text_eq _ _ c, decide_eq_true c]
        · rw [text_ne _ _ bdS bdT c, decide_eq_false c]
      replace hTE2 := hid hTE2
      clear bdS bdT
      generalize textOf SL = TX at *
      generalize textOf (zs.take (N + 8)) = TY at *
      replace hr2 := hid hr2
      replace hfe := hid hfe
      replace hSL := hid hSL
      go_upto_region 12 with (fail)
      apply wp_region_seg (w := W17) (S := [.q [], .q [], .q [], .q [], .q [], .q [], .q [], .q []]) (E := [.q0 _, .q0 _, .q0 _, .q0 _, .q0 _, .q0 _, .q0 _, .q0 _]) (by kernel_rfl) rfl (by kernel_rfl) rfl rfl
      intro th hge hne
      refine Seg.step _ rfl (Or.inl ⟨by rfl, fun U hU => vp_quiet (by (go_simp <;> exact rfl))⟩) ⟨_, by (simp only [Ent.val]; go_simp <;> exact rfl), ?_⟩
      refine Seg.step _ rfl (Or.inl ⟨by rfl, fun U hU => vp_quiet (by (have hx := t1 U hU.1; go_simp <;> exact rfl))⟩) ⟨_, by (simp only [Ent.val]; go_simp <;> exact rfl), ?_⟩
      refine Seg.step _ rfl (Or.inl ⟨by rfl, fun U hU => vp_quiet (by (go_simp <;> exact rfl))⟩) ⟨_, by (simp only [Ent.val]; go_simp <;> exact rfl), ?_⟩
      refine Seg.step _ rfl (Or.inl ⟨by rfl, fun U hU => vp_quiet (by (go_simp <;> exact rfl))⟩) ⟨_, by (simp only [Ent.val]; go_simp <;> exact rfl), ?_⟩
      refine Seg.step _ rfl (Or.inl ⟨by rfl, fun U hU => vp_quiet (by (go_simp <;> exact rfl))⟩) ⟨_, by (simp only [Ent.val]; go_simp <;> exact rfl), ?_⟩
      refine Seg.step _ rfl (Or.inl ⟨by rfl, fun U hU => vp_quiet (by (go_simp <;> exact rfl))⟩) ⟨_, by (simp only [Ent.val]; go_simp <;> exact rfl), ?_⟩
      refine Seg.step _ rfl (Or.inl ⟨by rfl, fun U hU => vp_quiet (by (have hx := t2 U hU.1; go_simp <;> exact rfl))⟩) ⟨_, by (simp only [Ent.val]; go_simp <;> exact rfl), ?_⟩
      refine Seg.step _ rfl (Or.inl ⟨by rfl, fun U hU => vp_quiet (by (go_simp <;> exact rfl))⟩) ⟨_, by (simp only [Ent.val]; go_simp <;> exact rfl), ?_⟩
      refine Seg.stop (fun U31 hU hk => ?_)
      clear hk hge hne
      replace rP := held_after hU rP
      replace rF := held_after hU rF
      have sz31 := hU.size
      replace hB := bthen hB hU
      have ownD := hid (ownC.below hU)
      clear hU ownC t1 t2
      by_cases kc5 : sealS ((zs.drop 2).take (N + 4)) = (zs.drop 2).take (N + 6)
      case neg =>
        have hr := hr2.out
        rw [if_neg kc5] at hr
        replace hr := hid hr.symm
        obtain rfl : TE = false := by rw [hTE2.out]; exact decide_eq_false (fun h => kc5 (hfe.out.1 h))
        clear hr2
        have z0 := held_cell rP 0 _ rfl
        have z1 := held_cell rP 1 _ rfl
        have z2 := held_cell rP 2 _ rfl
        have g0 := held_free rP 0
        have g1 := held_free rP 1
        have g2 := held_free rP 2
        obtain ⟨W9, hW9, ya, yO⟩ := st3 rP (.int .i64 0) (.int .i64 0) (.slice none 0 0)
        have hB9 := hid (belowS hB yO nP)
        have ez0 := held_cell ya 0 _ rfl
        have ez1 := held_cell ya 1 _ rfl
        have ez2 := held_cell ya 2 _ rfl
        clear yO ya hB
        go_wp2_with fail
        refine bodyPost_ret (v := .tuple #[.agg #[.int .i64 0, .int .i64 0, .slice none 0 0], .int .i64 0, .int .i64 4]) (by simp [results, Try.results13, go_sem, ez0, ez1, ez2]) rfl ?_
        rw [hr.out]
        exact FtOk.no hB9.out
      have hr := hr2.out
      rw [if_pos kc5] at hr
      replace hr := hid hr.symm
      obtain rfl : TE = true := by rw [hTE2.out]; exact decide_eq_true (hfe.out.2 kc5)
      clear hr2
      have ew := hid w8
      have a0 := held_cell rF 0 _ rfl
      have a1 := held_cell rF 1 _ rfl
      have a2 := held_cell rF 2 _ rfl
      have z0 := held_cell rP 0 _ rfl
      have z1 := held_cell rP 1 _ rfl
      have z2 := held_cell rP 2 _ rfl
      have g0 := held_free rP 0
      have g1 := held_free rP 1
      have g2 := held_free rP 2
      obtain ⟨W9, hW9, ya, yO⟩ := st3 rP (.int .i64 y2) (.int .i64 y3) (.slice a3 N c3)
      have hB9 := hid (belowS hB yO nP)
      have hS9 := hid (ownD.out.slf.other rP (no_u8 (fun x h => by cases h)) yO.block)
      have ez0 := held_cell ya 0 _ rfl
      have ez1 := held_cell ya 1 _ rfl
      have ez2 := held_cell ya 2 _ rfl
      have hPl := hid (show ps.length = N from by rw [← hps.out, List.length_take, List.length_drop, ezl.out]; omega)
      clear yO ya rP rF hB ownD
      go_wp2_with fail
      refine bodyPost_ret (v := .tuple #[.agg #[.int .i64 y2, .int .i64 y3, .slice a3 N c3], .int .i64 ((N : Int) + 8), .int .i64 0]) (by simp [results, Try.results13, go_sem, ez0, ez1, ez2]) rfl ?_
      rw [hr.out, hps.out]
      exact ⟨a3, c3, by rw [hPl.out], by rw [hPl.out]; exact hS9.out, hB9.out⟩
  · go_simp
    have nw := alloc_new QQ (.cells #[.int .i64 0, .int .i64 0, .slice none 0 0] 24)
    have hst := nw.2.1
    have kp := Kp.of (X := []) hst hNz
    have hFq := hNz
    replace hNz := Nat.le_trans hNz hst.size
    replace hBQ := hBQ.trans (hst.mono hBQ.size)
    replace rQ := held_after hst rQ
    replace hSQ := hSQ.below hst
    have rF := nw.2.2
    clear hst nw
    refine hK _ _ ⟨kp, ?_⟩
    clear hK
    clear kp
    refine wpAnyK_only 8 rfl (by kernel_rfl) (by rfl) (fun K hK => ?_)
    go_simp
    have nw := alloc_new (QQ.alloc (.cells #[.int .i64 0, .int .i64 0, .slice none 0 0] 24)) (.cells #[] 5)
    have hst := nw.2.1
    have kp := Kp.of (X := []) hst hNz
    have own9 := Own.lit .u8 5 (QQ.alloc (.cells #[.int .i64 0, .int .i64 0, .slice none 0 0] 24)) [] w.heap.size hBQ.size (by simp) #[] rfl
    rw [World.size_alloc] at own9
    replace hNz := Nat.le_trans hNz hst.size
    replace hBQ := hBQ.trans (hst.mono hBQ.size)
    replace rQ := held_after hst rQ
    replace hSQ := hSQ.below hst
    replace rF := held_after hst rF
    have own8 := own9
    clear hst nw own9
    refine hK _ _ ⟨kp, ?_⟩
    clear hK
    clear kp
    refine wpAnyK_only 13 rfl (by kernel_rfl) (by rfl) (fun K hK => ?_)
    refine wp_appK (.tmp 61) (.tmp 65) 22 rfl w.heap.size 5 .u8 1 bytesOf _ [] rfl own8 (some ⟨gb, go + 6, none⟩) N (bc - 6) ps rfl hSQ (by simp; omega) (by decide) hBQ.size ?_
    intro a3 c3 W13 hO13 hG13 hq13
    have kp := kp_grown (X := []) hG13 hNz (fun k e => by cases e; first | exact Nat.le_refl _ | simp)
    replace hNz := Nat.le_trans hNz hG13.size
    replace hBQ := own8.grew hG13 hBQ (Nat.le_refl _) hBQ.size
    replace rQ := held_grown rQ hG13 (own_ne own8 rQ (by decide))
    replace rF := held_grown rF hG13 (own_ne own8 rF (by decide))
    clear hSQ hq13 hG13
    have ownA : Own .u8 5 W13 w.heap.size (.slice a3 N c3) ps := by have := hO13; rwa [List.nil_append, show ([] : List Int).length + N = N from Nat.zero_add N] at this
    clear own8 hO13
    rw [show ([] : List Int).length + N = N from Nat.zero_add N]
    refine hK _ _ ⟨kp, ?_⟩
    clear hK
    clear kp
    refine wpAnyK_take 14 rfl (by kernel_rfl) (by kernel_rfl) (by kernel_rfl) (fun _ _ _ _ h => h) ⟨_, Or.inl ⟨by rfl, fun w2 hb => by (go_simp; try with_reducible rfl)⟩, _, by (go_simp; try rfl), ?_⟩
    refine wpAnyK_only 16 rfl (by kernel_rfl) (by rfl) (fun K hK => ?_)
    obtain ⟨F, hFe⟩ : ∃ F, QQ.heap.size = F := ⟨_, rfl⟩
    rw [hFe] at rF hFq
    have dPF : p0_0 ≠ F := by have := ltP; omega
    have z0 := held_cell rF 0 _ rfl
    have z1 := held_cell rF 1 _ rfl
    have z2 := held_cell rF 2 _ rfl
    have g0 := held_free rF 0
    have g1 := held_free rF 1
    have g2 := held_free rF 2
    obtain ⟨W16, hW16, fa, fO⟩ := st3 rF (.int .i64 y2) (.int .i64 y3) (.slice a3 N c3)
    have kp : Kp QQ.heap.size [] W13 W16 := ⟨fO.os, fO.tape, fO.output, by rw [fO.size]; exact Nat.le_refl _, fun k hk _ => fO.block k (by omega)⟩
    have ownB : Own .u8 5 W16 w.heap.size (.slice a3 N c3) ps := World.ownsRow.kept (w' := W16) (row := some F) ownA ⟨fO.os, fO.tape, fO.output, by rw [fO.size]; exact Nat.le_refl _, fun k hk hne => fO.block k (fun e => hne (by rw [e]))⟩ (.inr (fun e => own_ne ownA rF (by decide) e.symm))
    replace rQ := heldS fO dPF rQ
    replace hBQ := belowS hBQ fO (by omega)
    clear ownA rF fO
    go_simp
    refine hK _ _ ⟨kp, ?_⟩
    clear hK
    clear kp hW16 z0 z1 z2 g0 g1 g2 hFe
    refine wpAnyK_done (by kernel_rfl) ?_ _
    replace ownB := hid ownB
    replace hBQ := hid hBQ
    replace rQ := hid rQ
    have z0 := held_cell fa 0 _ rfl
    have z1 := held_cell fa 1 _ rfl
    have z2 := held_cell fa 2 _ rfl
    have hpl : ps.length ≤ 1016 := by rw [← hps.out, List.length_take]; omega
    have hpw := hid (fun x (hx : x ∈ ps) => hw.out x (List.mem_of_mem_drop (List.mem_of_mem_take (hps.out ▸ hx))))
    have hIn : inFr y2 y3 ps = (zs.drop 2).take (N + 4) := by
      have := inFr_of zs N (by rw [ezl.out]; omega) (by rw [hy4.out, hy5.out]; exact hN2.out) (by rw [ezl.out]; omega) (by rw [hy4.out]; exact h4b) (by rw [hy5.out]; exact h5b.1)
      rw [hy2.out, hy3.out, hps.out] at this
      exact this
    have hPF : putFr y2 y3 ps = (181 :: 98 :: sealS ((zs.drop 2).take (N + 4)), 0) := by
      unfold putFr isB
      rw [if_pos (by simp; omega), if_neg (by omega), hIn]
      rfl
    replace hPF := hid hPF
    clear hIn
    replace fa := hid fa
    go_wp2_with fail
    refine (rfput_any y2 y3 a3 N c3 ps _ (by omega) ownB.out.slf hpw.out).mono ?_
    rintro e W17 ⟨sa, sc, rfl, hO, hA17⟩
    rw [hPF.out] at hO ⊢
    clear z0 z1 z2 hpw hPF
    have rP := held_after hA17 rQ.out
    have rF := held_after hA17 fa.out
    have ownC := ownB.out.below hA17
    have hB := bthen hBQ.out hA17
    clear ownB rQ fa hBQ hA17
    try dsimp only at hO
    obtain ⟨SL, hSL⟩ : ∃ SL, 181 :: 98 :: sealS ((zs.drop 2).take (N + 4)) = SL := ⟨_, rfl⟩
    rw [hSL] at hO ⊢
    have t1 := hO.textR 22 9 5 Try.underlying22 Try.underlying5 Try.underlying9
    have hSb := (hsl.out.below hB).take (N + 8) (by omega)
    have t2 : ∀ U, After W17 U → (convert 22 9 (.slice (some ⟨gb, go, none⟩) (N + 8) bc)).run Try.prog U = .ok (.string (textOf (zs.take (N + 8)))) U := fun U h => (hSb.below h).text 22 9 5 Try.underlying22 Try.underlying5 Try.underlying9
    have hfe := frame_eq zs N (by rw [ezl.out]; omega) (by rw [ezl.out]; omega) hy0.out hy1.out (sealS ((zs.drop 2).take (N + 4)))
    rw [hSL] at hfe
    have q1 : ((N : Int) + 8).toNat = N + 8 := by omega
    have q3 : (N : Int) + 8 ≤ bl := by omega
    have q4 : (N : Int) + 8 ≤ bc := by omega
    have q5 : (0 : Int) ≤ (N : Int) + 8 := by omega
    have bdS : ∀ n ∈ SL, 0 ≤ n ∧ n ≤ 255 := by
      rw [← hSL]
      intro n hn
      simp only [List.mem_cons] at hn
      rcases hn with rfl | rfl | hn
      · omega
      · omega
      · exact sealS_bd (fun x hx => bytes_bd hw.out x (List.mem_of_mem_drop (List.mem_of_mem_take hx))) n hn
    have bdT : ∀ n ∈ zs.take (N + 8), 0 ≤ n ∧ n ≤ 255 := fun x hx => bytes_bd hw.out x (List.mem_of_mem_take hx)
    have hr2 := hr.out
    clear hr hO hSb
    obtain ⟨TE, hTE⟩ : ∃ b, ((textOf SL).toList == (textOf (zs.take (N + 8))).toList) = b := ⟨_, rfl⟩
    have hTE2 : TE = decide (SL = zs.take (N + 8)) := by
      rw [← hTE]
      by_cases c : SL = zs.take (N + 8)
      · rw [text_eq _ _ c, decide_eq_true c]
      · rw [text_ne _ _ bdS bdT c, decide_eq_false c]
    replace hTE2 := hid hTE2
    clear bdS bdT
    generalize textOf SL = TX at *
    generalize textOf (zs.take (N + 8)) = TY at *
    replace hr2 := hid hr2
    replace hfe := hid hfe
    replace hSL := hid hSL
    go_upto_region 12 with (fail)
    apply wp_region_seg (w := W17) (S := [.q [], .q [], .q [], .q [], .q [], .q [], .q [], .q []]) (E := [.q0 _, .q0 _, .q0 _, .q0 _, .q0 _, .q0 _, .q0 _, .q0 _]) (by kernel_rfl) rfl (by kernel_rfl) rfl rfl
    intro th hge hne
    refine Seg.step _ rfl (Or.inl ⟨by rfl, fun U hU => vp_quiet (by (go_simp <;> exact rfl))⟩) ⟨_, by (simp only [Ent.val]; go_simp <;> exact rfl), ?_⟩
    refine Seg.step _ rfl (Or.inl ⟨by rfl, fun U hU => vp_quiet (by (have hx := t1 U hU.1; go_simp <;> exact rfl))⟩) ⟨_, by (simp only [Ent.val]; go_simp <;> exact rfl), ?_⟩
    refine Seg.step _ rfl (Or.inl ⟨by rfl, fun U hU => vp_quiet (by (go_simp <;> exact rfl))⟩) ⟨_, by (simp only [Ent.val]; go_simp <;> exact rfl), ?_⟩
    refine Seg.step _ rfl (Or.inl ⟨by rfl, fun U hU => vp_quiet (by (go_simp <;> exact rfl))⟩) ⟨_, by (simp only [Ent.val]; go_simp <;> exact rfl), ?_⟩
    refine Seg.step _ rfl (Or.inl ⟨by rfl, fun U hU => vp_quiet (by (go_simp <;> exact rfl))⟩) ⟨_, by (simp only [Ent.val]; go_simp <;> exact rfl), ?_⟩
    refine Seg.step _ rfl (Or.inl ⟨by rfl, fun U hU => vp_quiet (by (go_simp <;> exact rfl))⟩) ⟨_, by (simp only [Ent.val]; go_simp <;> exact rfl), ?_⟩
    refine Seg.step _ rfl (Or.inl ⟨by rfl, fun U hU => vp_quiet (by (have hx := t2 U hU.1; go_simp <;> exact rfl))⟩) ⟨_, by (simp only [Ent.val]; go_simp <;> exact rfl), ?_⟩
    refine Seg.step _ rfl (Or.inl ⟨by rfl, fun U hU => vp_quiet (by (go_simp <;> exact rfl))⟩) ⟨_, by (simp only [Ent.val]; go_simp <;> exact rfl), ?_⟩
    refine Seg.stop (fun U31 hU hk => ?_)
    clear hk hge hne
    replace rP := held_after hU rP
    replace rF := held_after hU rF
    have sz31 := hU.size
    replace hB := bthen hB hU
    have ownD := hid (ownC.below hU)
    clear hU ownC t1 t2
    by_cases kc5 : sealS ((zs.drop 2).take (N + 4)) = (zs.drop 2).take (N + 6)
    case neg =>
      have hr := hr2.out
      rw [if_neg kc5] at hr
      replace hr := hid hr.symm
      obtain rfl : TE = false := by rw [hTE2.out]; exact decide_eq_false (fun h => kc5 (hfe.out.1 h))
      clear hr2
      have z0 := held_cell rP 0 _ rfl
      have z1 := held_cell rP 1 _ rfl
      have z2 := held_cell rP 2 _ rfl
      have g0 := held_free rP 0
      have g1 := held_free rP 1
      have g2 := held_free rP 2
      obtain ⟨W9, hW9, ya, yO⟩ := st3 rP (.int .i64 0) (.int .i64 0) (.slice none 0 0)
      have hB9 := hid (belowS hB yO nP)
      have ez0 := held_cell ya 0 _ rfl
      have ez1 := held_cell ya 1 _ rfl
      have ez2 := held_cell ya 2 _ rfl
      clear yO ya hB
      go_wp2_with fail
      refine bodyPost_ret (v := .tuple #[.agg #[.int .i64 0, .int .i64 0, .slice none 0 0], .int .i64 0, .int .i64 4]) (by simp [results, Try.results13, go_sem, ez0, ez1, ez2]) rfl ?_
      rw [hr.out]
      exact FtOk.no hB9.out
    have hr := hr2.out
    rw [if_pos kc5] at hr
    replace hr := hid hr.symm
    obtain rfl : TE = true := by rw [hTE2.out]; exact decide_eq_true (hfe.out.2 kc5)
    clear hr2
    have ew := hid w8
    have a0 := held_cell rF 0 _ rfl
    have a1 := held_cell rF 1 _ rfl
    have a2 := held_cell rF 2 _ rfl
    have z0 := held_cell rP 0 _ rfl
    have z1 := held_cell rP 1 _ rfl
    have z2 := held_cell rP 2 _ rfl
    have g0 := held_free rP 0
    have g1 := held_free rP 1
    have g2 := held_free rP 2
    obtain ⟨W9, hW9, ya, yO⟩ := st3 rP (.int .i64 y2) (.int .i64 y3) (.slice a3 N c3)
    have hB9 := hid (belowS hB yO nP)
    have hS9 := hid (ownD.out.slf.other rP (no_u8 (fun x h => by cases h)) yO.block)
    have ez0 := held_cell ya 0 _ rfl
    have ez1 := held_cell ya 1 _ rfl
    have ez2 := held_cell ya 2 _ rfl
    have hPl := hid (show ps.length = N from by rw [← hps.out, List.length_take, List.length_drop, ezl.out]; omega)
    clear yO ya rP rF hB ownD
    go_wp2_with fail
    refine bodyPost_ret (v := .tuple #[.agg #[.int .i64 y2, .int .i64 y3, .slice a3 N c3], .int .i64 ((N : Int) + 8), .int .i64 0]) (by simp [results, Try.results13, go_sem, ez0, ez1, ez2]) rfl ?_
    rw [hr.out, hps.out]
    exact ⟨a3, c3, by rw [hPl.out], by rw [hPl.out]; exact hS9.out, hB9.out⟩

end Go.Proofs.Ytjmmboijpkfllaa
