/- Package valset: what keys' values are like. -/
import Derived.Test.YtdgmmndklmomkaaBitsG
import Derived.Test.YtdgmmndklmomkaaKB
import Derived.Deep.DeepCutAuto
namespace Go.Proofs.Ytdgmmndklmomkaa
open Go.ChangeShapes Go.WideShapes Go.ChangeAt Go.RowKit
set_option linter.unusedVariables false
set_option linter.unusedSimpArgs false

def szT (d : Nat) : Int := match d with | 1 => 1 | 2 => 1 | 3 => 2 | 4 => 4 | 5 => 8 | _ => 0
def moT (d : Nat) : Int := match d with | 1 => 1 | 2 => 255 | 3 => 65535 | 4 => 4294967295 | 5 => 9223372036854775807 | _ => 0
def kindS (key : Int) : Nat := if 0 ≤ key ∧ key ≤ 2147483647 ∧ key / 268435456 ≤ 5 then (key / 268435456).toNat else 0
theorem kindS_lo {key : Int} (h : key < 0) : kindS key = 0 := by unfold kindS; rw [if_neg (by omega)]
theorem kindS_hi {key : Int} (h : 2147483647 < key) : kindS key = 0 := by unfold kindS; rw [if_neg (by omega)]
theorem kindS_at {K d : Nat} (h : K ≤ 2147483647) (hd : K / 268435456 = d) : kindS (K : Int) = if d ≤ 5 then d else 0 := by
  unfold kindS
  have e : ((K : Int) / 268435456) = (d : Int) := by rw [← hd]; rfl
  rw [e]
  by_cases h5 : d ≤ 5
  · rw [if_pos (by omega), if_pos h5]; simp
  · rw [if_neg (by omega), if_neg h5]
theorem kindS_le (key : Int) : kindS key ≤ 5 := by
  unfold kindS; split
  · omega
  · omega
def ofV (d : Nat) : Value := .tuple #[.agg #[.int .i64 (szT d), .int .i64 (moT d)], .bool (decide (d ≠ 0))]
set_option maxRecDepth 100000 in
set_option maxHeartbeats 4000000 in
theorem of_any (key : Int) (w : World) (h1 : -9223372036854775808 ≤ key) (h2 : key ≤ 9223372036854775807) : Calls Try.prog 23 #[.int .i64 key] w fun e w' => e = .returned (ofV (kindS key)) ∧ After w w' := by
  go_enter Try.func23, Try.ntmps23
  go_upto_region 0 with (fail)
  apply wp_region_seg0 (w := w) (S := [.al 1000, .q []]) (E := [.al ((fun p => .pointer (some ⟨p, 0, none⟩)), _) 1000, .q0 _]) rfl (by kernel_rfl) rfl rfl
  intro th hge hne
  refine Seg.step _ rfl ⟨by rfl, fun U hU => ?_⟩ ?_
  · go_simp; exact vp_alloc rfl rfl rfl
  refine ⟨_, by (simp only [Ent.val]; go_simp <;> exact rfl), ?_⟩
  refine Seg.step _ rfl (Or.inl ⟨by rfl, fun U hU => vp_quiet (by (go_simp <;> exact rfl))⟩) ⟨_, by (simp only [Ent.val]; go_simp <;> exact rfl), ?_⟩
  refine Seg.stop (fun U1 hU hk => ?_)
  have nb0 := hge 0 _ _ rfl
  have rb0 := (hk 0 _ _ rfl trivial).1.2 (by simp)
  clear hk hge hne
  generalize th (0 + 0) = p0_0 at *
  dsimp only at rb0
  have r_p0_0 := rb0
  clear rb0
  have n_p0_0 := nb0
  clear nb0
  have sz1 := hU.size
  have hB : Below w.heap.size w U1 := hU
  clear hU
  have np0 := n_p0_0
  by_cases co : key < 0
  case pos =>
    have hk := hid (kindS_lo co)
    have y0 := held_cell r_p0_0 0 _ rfl
    have y1 := held_cell r_p0_0 1 _ rfl
    have f0 := held_free r_p0_0 0
    have f1 := held_free r_p0_0 1
    obtain ⟨W4, hW4, ya, yO⟩ := st2 r_p0_0 (.int .i64 0) (.int .i64 0)
    have hB4 := hid (belowS hB yO np0)
    have ez0 := held_cell ya 0 _ rfl
    have ez1 := held_cell ya 1 _ rfl
    clear yO ya
    clear r_p0_0 hB
    go_wp2_with fail
    skip
    refine bodyPost_ret (v := .tuple #[.agg #[.int .i64 0, .int .i64 0], .bool false]) (by simp [results, Try.results23, go_sem, ez0, ez1]) rfl ⟨by rw [hk.out]; rfl, hB4.out⟩
  by_cases ci : 2147483647 < key
  case pos =>
    have hk := hid (kindS_hi ci)
    have y0 := held_cell r_p0_0 0 _ rfl
    have y1 := held_cell r_p0_0 1 _ rfl
    have f0 := held_free r_p0_0 0
    have f1 := held_free r_p0_0 1
    obtain ⟨W4, hW4, ya, yO⟩ := st2 r_p0_0 (.int .i64 0) (.int .i64 0)
    have hB4 := hid (belowS hB yO np0)
    have ez0 := held_cell ya 0 _ rfl
    have ez1 := held_cell ya 1 _ rfl
    clear yO ya
    clear r_p0_0 hB
    go_wp2_with fail
    skip
    refine bodyPost_ret (v := .tuple #[.agg #[.int .i64 0, .int .i64 0], .bool false]) (by simp [results, Try.results23, go_sem, ez0, ez1]) rfl ⟨by rw [hk.out]; rfl, hB4.out⟩
  obtain ⟨K, rfl⟩ := Int.eq_ofNat_of_zero_le (show 0 ≤ key by omega)
  have hK : K ≤ 2147483647 := by omega
  obtain ⟨d, hd⟩ : ∃ d, K / 268435456 = d := ⟨_, rfl⟩
  have hk := kindS_at hK hd
  have kg := hid (fun W : World => bg_get_any K 28 3 W (by omega) (by omega) (by omega) (by omega) (by omega))
  have eg : getS K 28 3 = d := by unfold getS; rw [if_pos (by decide)]; show K / 2 ^ 28 % 2 ^ 3 = d; omega
  rw [eg] at kg
  have wc : IntKind.u32.wrap (K : Int) = K := by rw [IntKind.wrap_u32]; omega
  have hd7 : d ≤ 7 := by omega
  clear eg h1 h2
  have hA := (alloc_new U1 (.cells #[.int .i64 0, .int .i64 0, .int .i64 1, .int .i64 1, .int .i64 1, .int .i64 255, .int .i64 2, .int .i64 65535, .int .i64 4, .int .i64 4294967295, .int .i64 8, .int .i64 9223372036854775807] 88)).2.1
  have hT := (alloc_new U1 (.cells #[.int .i64 0, .int .i64 0, .int .i64 1, .int .i64 1, .int .i64 1, .int .i64 255, .int .i64 2, .int .i64 65535, .int .i64 4, .int .i64 4294967295, .int .i64 8, .int .i64 9223372036854775807] 88)).2.2
  have r1 := held_after hA r_p0_0
  have hB1 := hid (bthen hB hA)
  clear hB r_p0_0 hd
  have h8 : d = 0 ∨ d = 1 ∨ d = 2 ∨ d = 3 ∨ d = 4 ∨ d = 5 ∨ d = 6 ∨ d = 7 := by omega
  clear hd7
  rcases h8 with rfl | rfl | rfl | rfl | rfl | rfl | rfl | rfl
  · replace hk := hid hk
    go_wp2_with fail
    refine (kg.out _).mono ?_
    rintro e V ⟨rfl, m, hV⟩
    have hh : V.heap = (U1.alloc (.cells #[.int .i64 0, .int .i64 0, .int .i64 1, .int .i64 1, .int .i64 1, .int .i64 255, .int .i64 2, .int .i64 65535, .int .i64 4, .int .i64 4294967295, .int .i64 8, .int .i64 9223372036854775807] 88)).heap := by rw [hV]; rfl
    rw [← hh] at r1 hT
    have r2 := r1
    have hT2 := hT
    have hB2 := hid (show Below w.heap.size w V from by rw [hV]; exact below_drewN hB1.out m)
    obtain ⟨q, hq⟩ : ∃ q, U1.heap.size = q := ⟨_, rfl⟩
    rw [hq] at hT2 ⊢
    clear hV hh hB1 r1 hT kg hq
    have y0 := held_cell r2 0 _ rfl
    have y1 := held_cell r2 1 _ rfl
    have f0 := held_free r2 0
    have f1 := held_free r2 1
    obtain ⟨W4, hW4, ya, yO⟩ := st2 r2 (.int .i64 0) (.int .i64 0)
    have hB4 := hid (belowS hB2.out yO np0)
    have ez0 := held_cell ya 0 _ rfl
    have ez1 := held_cell ya 1 _ rfl
    clear yO ya
    clear r2 hB2 hT2
    go_wp2_with fail
    skip
    refine bodyPost_ret (v := .tuple #[.agg #[.int .i64 0, .int .i64 0], .bool false]) (by simp [results, Try.results23, go_sem, ez0, ez1]) rfl ⟨by rw [hk.out]; rfl, hB4.out⟩
  · replace hk := hid hk
    go_wp2_with fail
    refine (kg.out _).mono ?_
    rintro e V ⟨rfl, m, hV⟩
    have hh : V.heap = (U1.alloc (.cells #[.int .i64 0, .int .i64 0, .int .i64 1, .int .i64 1, .int .i64 1, .int .i64 255, .int .i64 2, .int .i64 65535, .int .i64 4, .int .i64 4294967295, .int .i64 8, .int .i64 9223372036854775807] 88)).heap := by rw [hV]; rfl
    rw [← hh] at r1 hT
    have r2 := r1
    have hT2 := hT
    have hB2 := hid (show Below w.heap.size w V from by rw [hV]; exact below_drewN hB1.out m)
    obtain ⟨q, hq⟩ : ∃ q, U1.heap.size = q := ⟨_, rfl⟩
    rw [hq] at hT2 ⊢
    clear hV hh hB1 r1 hT kg hq
    have y0 := held_cell r2 0 _ rfl
    have y1 := held_cell r2 1 _ rfl
    have f0 := held_free r2 0
    have f1 := held_free r2 1
    obtain ⟨W4, hW4, ya, yO⟩ := st2 r2 (.int .i64 1) (.int .i64 1)
    have hB4 := hid (belowS hB2.out yO np0)
    have ez0 := held_cell ya 0 _ rfl
    have ez1 := held_cell ya 1 _ rfl
    clear yO ya
    have z0 := held_cell hT2 2 _ rfl
    have z1 := held_cell hT2 3 _ rfl
    clear r2 hB2 hT2
    go_wp2_with fail
    skip
    refine bodyPost_ret (v := .tuple #[.agg #[.int .i64 1, .int .i64 1], .bool true]) (by simp [results, Try.results23, go_sem, ez0, ez1]) rfl ⟨by rw [hk.out]; rfl, hB4.out⟩
  · replace hk := hid hk
    go_wp2_with fail
    refine (kg.out _).mono ?_
    rintro e V ⟨rfl, m, hV⟩
    have hh : V.heap = (U1.alloc (.cells #[.int .i64 0, .int .i64 0, .int .i64 1, .int .i64 1, .int .i64 1, .int .i64 255, .int .i64 2, .int .i64 65535, .int .i64 4, .int .i64 4294967295, .int .i64 8, .int .i64 9223372036854775807] 88)).heap := by rw [hV]; rfl
    rw [← hh] at r1 hT
    have r2 := r1
    have hT2 := hT
    have hB2 := hid (show Below w.heap.size w V from by rw [hV]; exact below_drewN hB1.out m)
    obtain ⟨q, hq⟩ : ∃ q, U1.heap.size = q := ⟨_, rfl⟩
    rw [hq] at hT2 ⊢
    clear hV hh hB1 r1 hT kg hq
    have y0 := held_cell r2 0 _ rfl
    have y1 := held_cell r2 1 _ rfl
    have f0 := held_free r2 0
    have f1 := held_free r2 1
    obtain ⟨W4, hW4, ya, yO⟩ := st2 r2 (.int .i64 1) (.int .i64 255)
    have hB4 := hid (belowS hB2.out yO np0)
    have ez0 := held_cell ya 0 _ rfl
    have ez1 := held_cell ya 1 _ rfl
    clear yO ya
    have z0 := held_cell hT2 4 _ rfl
    have z1 := held_cell hT2 5 _ rfl
    clear r2 hB2 hT2
    go_wp2_with fail
    skip
    refine bodyPost_ret (v := .tuple #[.agg #[.int .i64 1, .int .i64 255], .bool true]) (by simp [results, Try.results23, go_sem, ez0, ez1]) rfl ⟨by rw [hk.out]; rfl, hB4.out⟩
  · replace hk := hid hk
    go_wp2_with fail
    refine (kg.out _).mono ?_
    rintro e V ⟨rfl, m, hV⟩
    have hh : V.heap = (U1.alloc (.cells #[.int .i64 0, .int .i64 0, .int .i64 1, .int .i64 1, .int .i64 1, .int .i64 255, .int .i64 2, .int .i64 65535, .int .i64 4, .int .i64 4294967295, .int .i64 8, .int .i64 9223372036854775807] 88)).heap := by rw [hV]; rfl
    rw [← hh] at r1 hT
    have r2 := r1
    have hT2 := hT
    have hB2 := hid (show Below w.heap.size w V from by rw [hV]; exact below_drewN hB1.out m)
    obtain ⟨q, hq⟩ : ∃ q, U1.heap.size = q := ⟨_, rfl⟩
    rw [hq] at hT2 ⊢
    clear hV hh hB1 r1 hT kg hq
    have y0 := held_cell r2 0 _ rfl
    have y1 := held_cell r2 1 _ rfl
    have f0 := held_free r2 0
    have f1 := held_free r2 1
    obtain ⟨W4, hW4, ya, yO⟩ := st2 r2 (.int .i64 2) (.int .i64 65535)
    have hB4 := hid (belowS hB2.out yO np0)
    have ez0 := held_cell ya 0 _ rfl
    have ez1 := held_cell ya 1 _ rfl
    clear yO ya
    have z0 := held_cell hT2 6 _ rfl
    have z1 := held_cell hT2 7 _ rfl
    clear r2 hB2 hT2
    go_wp2_with fail
    skip
    refine bodyPost_ret (v := .tuple #[.agg #[.int .i64 2, .int .i64 65535], .bool true]) (by simp [results, Try.results23, go_sem, ez0, ez1]) rfl ⟨by rw [hk.out]; rfl, hB4.out⟩
  · replace hk := hid hk
    go_wp2_with fail
    refine (kg.out _).mono ?_
    rintro e V ⟨rfl, m, hV⟩
    have hh : V.heap = (U1.alloc (.cells #[.int .i64 0, .int .i64 0, .int .i64 1, .int .i64 1, .int .i64 1, .int .i64 255, .int .i64 2, .int .i64 65535, .int .i64 4, .int .i64 4294967295, .int .i64 8, .int .i64 9223372036854775807] 88)).heap := by rw [hV]; rfl
    rw [← hh] at r1 hT
    have r2 := r1
    have hT2 := hT
    have hB2 := hid (show Below w.heap.size w V from by rw [hV]; exact below_drewN hB1.out m)
    obtain ⟨q, hq⟩ : ∃ q, U1.heap.size = q := ⟨_, rfl⟩
    rw [hq] at hT2 ⊢
    clear hV hh hB1 r1 hT kg hq
    have y0 := held_cell r2 0 _ rfl
    have y1 := held_cell r2 1 _ rfl
    have f0 := held_free r2 0
    have f1 := held_free r2 1
    obtain ⟨W4, hW4, ya, yO⟩ := st2 r2 (.int .i64 4) (.int .i64 4294967295)
    have hB4 := hid (belowS hB2.out yO np0)
    have ez0 := held_cell ya 0 _ rfl
    have ez1 := held_cell ya 1 _ rfl
    clear yO ya
    have z0 := held_cell hT2 8 _ rfl
    have z1 := held_cell hT2 9 _ rfl
    clear r2 hB2 hT2
    go_wp2_with fail
    skip
    refine bodyPost_ret (v := .tuple #[.agg #[.int .i64 4, .int .i64 4294967295], .bool true]) (by simp [results, Try.results23, go_sem, ez0, ez1]) rfl ⟨by rw [hk.out]; rfl, hB4.out⟩
  · replace hk := hid hk
    go_wp2_with fail
    refine (kg.out _).mono ?_
    rintro e V ⟨rfl, m, hV⟩
    have hh : V.heap = (U1.alloc (.cells #[.int .i64 0, .int .i64 0, .int .i64 1, .int .i64 1, .int .i64 1, .int .i64 255, .int .i64 2, .int .i64 65535, .int .i64 4, .int .i64 4294967295, .int .i64 8, .int .i64 9223372036854775807] 88)).heap := by rw [hV]; rfl
    rw [← hh] at r1 hT
    have r2 := r1
    have hT2 := hT
    have hB2 := hid (show Below w.heap.size w V from by rw [hV]; exact below_drewN hB1.out m)
    obtain ⟨q, hq⟩ : ∃ q, U1.heap.size = q := ⟨_, rfl⟩
    rw [hq] at hT2 ⊢
    clear hV hh hB1 r1 hT kg hq
    have y0 := held_cell r2 0 _ rfl
    have y1 := held_cell r2 1 _ rfl
    have f0 := held_free r2 0
    have f1 := held_free r2 1
    obtain ⟨W4, hW4, ya, yO⟩ := st2 r2 (.int .i64 8) (.int .i64 9223372036854775807)
    have hB4 := hid (belowS hB2.out yO np0)
    have ez0 := held_cell ya 0 _ rfl
    have ez1 := held_cell ya 1 _ rfl
    clear yO ya
    have z0 := held_cell hT2 10 _ rfl
    have z1 := held_cell hT2 11 _ rfl
    clear r2 hB2 hT2
    go_wp2_with fail
    skip
    refine bodyPost_ret (v := .tuple #[.agg #[.int .i64 8, .int .i64 9223372036854775807], .bool true]) (by simp [results, Try.results23, go_sem, ez0, ez1]) rfl ⟨by rw [hk.out]; rfl, hB4.out⟩
  · replace hk := hid hk
    go_wp2_with fail
    refine (kg.out _).mono ?_
    rintro e V ⟨rfl, m, hV⟩
    have hh : V.heap = (U1.alloc (.cells #[.int .i64 0, .int .i64 0, .int .i64 1, .int .i64 1, .int .i64 1, .int .i64 255, .int .i64 2, .int .i64 65535, .int .i64 4, .int .i64 4294967295, .int .i64 8, .int .i64 9223372036854775807] 88)).heap := by rw [hV]; rfl
    rw [← hh] at r1 hT
    have r2 := r1
    have hT2 := hT
    have hB2 := hid (show Below w.heap.size w V from by rw [hV]; exact below_drewN hB1.out m)
    obtain ⟨q, hq⟩ : ∃ q, U1.heap.size = q := ⟨_, rfl⟩
    rw [hq] at hT2 ⊢
    clear hV hh hB1 r1 hT kg hq
    have y0 := held_cell r2 0 _ rfl
    have y1 := held_cell r2 1 _ rfl
    have f0 := held_free r2 0
    have f1 := held_free r2 1
    obtain ⟨W4, hW4, ya, yO⟩ := st2 r2 (.int .i64 0) (.int .i64 0)
    have hB4 := hid (belowS hB2.out yO np0)
    have ez0 := held_cell ya 0 _ rfl
    have ez1 := held_cell ya 1 _ rfl
    clear yO ya
    clear r2 hB2 hT2
    go_wp2_with fail
    skip
    refine bodyPost_ret (v := .tuple #[.agg #[.int .i64 0, .int .i64 0], .bool false]) (by simp [results, Try.results23, go_sem, ez0, ez1]) rfl ⟨by rw [hk.out]; rfl, hB4.out⟩
  · replace hk := hid hk
    go_wp2_with fail
    refine (kg.out _).mono ?_
    rintro e V ⟨rfl, m, hV⟩
    have hh : V.heap = (U1.alloc (.cells #[.int .i64 0, .int .i64 0, .int .i64 1, .int .i64 1, .int .i64 1, .int .i64 255, .int .i64 2, .int .i64 65535, .int .i64 4, .int .i64 4294967295, .int .i64 8, .int .i64 9223372036854775807] 88)).heap := by rw [hV]; rfl
    rw [← hh] at r1 hT
    have r2 := r1
    have hT2 := hT
    have hB2 := hid (show Below w.heap.size w V from by rw [hV]; exact below_drewN hB1.out m)
    obtain ⟨q, hq⟩ : ∃ q, U1.heap.size = q := ⟨_, rfl⟩
    rw [hq] at hT2 ⊢
    clear hV hh hB1 r1 hT kg hq
    have y0 := held_cell r2 0 _ rfl
    have y1 := held_cell r2 1 _ rfl
    have f0 := held_free r2 0
    have f1 := held_free r2 1
    obtain ⟨W4, hW4, ya, yO⟩ := st2 r2 (.int .i64 0) (.int .i64 0)
    have hB4 := hid (belowS hB2.out yO np0)
    have ez0 := held_cell ya 0 _ rfl
    have ez1 := held_cell ya 1 _ rfl
    clear yO ya
    clear r2 hB2 hT2
    go_wp2_with fail
    skip
    refine bodyPost_ret (v := .tuple #[.agg #[.int .i64 0, .int .i64 0], .bool false]) (by simp [results, Try.results23, go_sem, ez0, ez1]) rfl ⟨by rw [hk.out]; rfl, hB4.out⟩

end Go.Proofs.Ytdgmmndklmomkaa
