/- Package window: Peek. -/
import Derived.Test.YtaladglmomhndaaWin2
import Derived.Deep.DeepCutAuto
namespace Go.Proofs.Ytaladglmomhndaa
open Go.ChangeShapes Go.WideShapes Go.ChangeAt Go.RowKit
set_option linter.unusedVariables false
set_option linter.unusedSimpArgs false

set_option maxRecDepth 100000 in
theorem cutLq (q m n : Nat) (hn : n ≤ m) : ∃ off : Nat, (∀ W : World, (Instr.slice 27 (.slice (some ⟨q, 0, none⟩) m m) (some (.int .i64 (n : Int))) none none).run Try.prog W = .ok (.slice (some ⟨q, off, none⟩) (m - n) (m - n)) W) ∧ off + (m - n) ≤ m ∧ (m - n = 0 ∨ off = n) := by
  have e : ∀ W : World, (Instr.slice 27 (.slice (some ⟨q, 0, none⟩) m m) (some (.int .i64 (n : Int))) none none).run Try.prog W = .ok (.slice (if m = n then some ⟨q, 0, none⟩ else (some ⟨q, 0, none⟩ : Option Addr).map (·.add n)) (m - n) (m - n)) W := by
    intro W
    rw [run_slice_l W 27 (some ⟨q, 0, none⟩) m m (by rfl) .i64 (n : Int) (by omega) (by omega)]
    go_simp <;> simp [sliced]
  by_cases c : m = n
  · exact ⟨0, fun W => by rw [e W, if_pos c], by omega, .inl (by omega)⟩
  · refine ⟨n, fun W => ?_, by omega, .inr rfl⟩
    rw [e W, if_neg c]
    by_cases d : n = 0
    · subst d; simp [Addr.add]
    · simp [Addr.add, d]
theorem laid_off {zs ys : List Int} {off n k : Nat} (hz : zs.length = n + k) (h : k = 0 ∨ off = n) : laid zs off (ys.take k) = laid zs n (ys.take k) := by
  rcases h with h | h
  · subst h; simp [laid]
  · rw [h]
set_option maxRecDepth 100000 in
theorem built_new : Try.prog.built 41 [(0, .bool true)] = some (wdC (List.replicate 1024 0) 0 0) := by kernel_rfl
set_option maxRecDepth 100000 in
theorem built_zero : Try.prog.built 41 [] = some ((wdC (List.replicate 1024 0) 0 0).setIfInBounds 0 (.bool false)) := by kernel_rfl
theorem after_eff {q : Nat} {a b c : World} (h : After a b) (k : Eff q b c) (hq : a.heap.size = q) : After a c := by
  have hs := h.size
  exact eff_below h k (by omega) hs
set_option maxRecDepth 100000 in
set_option maxHeartbeats 8000000 in
theorem wpeek_any (B : Nat) (w : World) (L : List Int) (hW : WdSt B w L) : Calls Try.prog 16 #[.pointer (some ⟨B, 0, none⟩)] w fun e w' => e = .returned (.slice (some ⟨w.heap.size, 0, none⟩) L.length L.length) ∧ Row .u8 5 w' w.heap.size L ∧ After w w' := by
  have kr := hid (wlen_any B w L hW)
  obtain ⟨R, fr, hH, hI⟩ := hW
  have hR := hI.1
  have hfr := hI.2.1
  have hct := hI.2.2.1
  have z0 := held_cell hH 0 _ (wdC_0 R fr L.length)
  have z1 := held_cell hH 1025 _ (wdC_from hR fr L.length)
  have z2 := held_cell hH 1026 _ (wdC_cnt hR fr L.length)
  obtain ⟨m, hm⟩ : ∃ m, L.length = m := ⟨_, rfl⟩
  have hpk := wdI_peek hI
  rw [hm] at kr hct hH hpk ⊢
  obtain ⟨Z, hZ⟩ : ∃ z, List.replicate m (0 : Int) = z := ⟨_, rfl⟩
  have hZl : Z.length = m := by rw [← hZ]; exact List.length_replicate
  rw [hZ] at hpk
  obtain ⟨Z1, hZ1⟩ : ∃ z, laid Z 0 ((R.drop fr).take m) = z := ⟨_, rfl⟩
  have lk : ((R.drop fr).take m).length = min (1024 - fr) m := by rw [List.length_take, List.length_drop, hR, Nat.min_comm]
  have hZ1l : Z1.length = m := by rw [← hZ1, laid_len (by rw [lk, hZl]; omega)]; exact hZl
  rw [hZ1] at hpk
  obtain ⟨n, hn⟩ : ∃ n, min (1024 - fr) m = n := ⟨_, rfl⟩
  rw [hn] at hpk lk
  have hnm : n ≤ m := by omega
  have hlt := held_lt hH
  replace hpk := hid hpk
  replace lk := hid lk
  replace hH := hid hH
  replace hZ := hid hZ
  replace hZl := hid hZl
  replace hZ1 := hid hZ1
  replace hZ1l := hid hZ1l
  replace hR := hid hR
  replace hn := hid hn
  have cR := ring_l B fr hfr
  have cA := ring_a B
  clear z0 z2 hI
  go_enter Try.func16, Try.ntmps16
  go_wp2_with fail
  refine kr.out.mono ?_
  rintro e v ⟨rfl, hv⟩
  obtain rfl : w = v := hv.symm
  clear hv
  go_wp2_with (first | (at_make; refine wpList_make w w rfl (.tmp 6) (.tmp 6) 27 rfl w.heap.size 5 .u8 1 bytesOf m rfl rfl (by omega) (by unfold maxLen; omega) (Below.refl _ _) (Nat.le_refl _) ?_))
  intro V1 hRow hA1
  rw [hZ.out] at hRow
  obtain ⟨q, hq⟩ : ∃ q, w.heap.size = q := ⟨_, rfl⟩
  have hqB : B ≠ q := by omega
  have hH1 := hid (held_after (show After w V1 from hA1) hH.out)
  have hRw := hid hRow
  replace hA1 := hid (show After w V1 from hA1)
  clear hRow
  rw [hq] at hRw ⊢
  have z1 := held_cell hH1.out 1025 _ (wdC_from hR.out fr m)
  have z1d := (show V1.drew.cell? _ = _ from z1)
  by_cases m0 : (0 : Int) < m
  case neg =>
    have hm0 : m = 0 := by omega
    subst hm0
    have hL : L = [] := List.length_eq_zero_iff.1 hm
    have hZ0 : Z = [] := List.length_eq_zero_iff.1 hZl.out
    rw [hZ0, ← hL] at hRw
    replace hL := hid hL
    replace hZ0 := hid hZ0
    replace hm := hid hm
    replace hq := hid hq
    go_wp2_with fail
    go_ret
    exact ⟨by rw [hq.out]; rfl, by rw [hq.out]; exact hRw.out, hA1.out⟩
  replace hm := hid hm
  replace hq := hid hq
  obtain ⟨off, cQ, ho, hoff⟩ := cutLq q m n hnm
  replace hoff := hid hoff
  go_upto_region 3 with (fail)
  refine (wpIn_wide (n := 9)).1 ?_
  refine wpIn_region_preR 9 2 (by simp only [List.extract_toArray, List.extract_eq_take_drop, Nat.sub_zero, List.drop_zero, List.take_succ_cons, List.take_zero]; rfl) (by kernel_rfl) rfl (by kernel_rfl) ?_
  refine wpAnyR_take 0 rfl (by kernel_rfl) (by kernel_rfl) (by kernel_rfl) (fun _ _ _ _ h => by cases h.1) ⟨_, Or.inl ⟨by rfl, fun w2 hb2 => by (go_simp; try with_reducible rfl)⟩, _, by (go_simp; try rfl), ?_⟩
  refine wpAnyR_take 1 rfl (by kernel_rfl) (by kernel_rfl) (by kernel_rfl) (fun _ _ _ _ h => by cases h.1) ⟨_, Or.inl ⟨by rfl, fun w2 hb2 => by (go_simp; try with_reducible rfl)⟩, _, by (go_simp; try rfl), ?_⟩
  refine wpAnyR_take 2 rfl (by kernel_rfl) (by kernel_rfl) (by kernel_rfl) (fun _ _ _ _ h => by cases h.1) ⟨_, Or.inl ⟨by rfl, fun w2 hb2 => by (go_simp; try with_reducible rfl)⟩, _, by (go_simp; try rfl), ?_⟩
  refine wpAnyR_take 3 rfl (by kernel_rfl) (by kernel_rfl) (by kernel_rfl) (fun _ _ _ _ h => by cases h.1) ⟨_, Or.inl ⟨by rfl, fun w2 hb2 => by (go_simp; try with_reducible rfl)⟩, _, by (go_simp; try rfl), ?_⟩
  refine wpAnyR_take 4 rfl (by kernel_rfl) (by kernel_rfl) (by kernel_rfl) (fun _ _ _ _ h => by cases h.1) ⟨_, Or.inl ⟨by rfl, fun w2 hb2 => by (go_simp; try with_reducible rfl)⟩, _, by (go_simp; try rfl), ?_⟩
  refine wpAnyR_take 5 rfl (by kernel_rfl) (by kernel_rfl) (by kernel_rfl) (fun _ _ _ _ h => by cases h.1) ⟨_, Or.inl ⟨by rfl, fun w2 hb2 => by (go_simp; try with_reducible rfl)⟩, _, by (go_simp; try rfl), ?_⟩
  refine wpAnyR_take 6 rfl (by kernel_rfl) (by kernel_rfl) (by kernel_rfl) (fun _ _ _ _ h => by cases h.1) ⟨_, Or.inl ⟨by rfl, fun w2 hb2 => by (go_simp; try with_reducible rfl)⟩, _, by (go_simp; try rfl), ?_⟩
  refine wpAnyR_take 7 rfl (by kernel_rfl) (by kernel_rfl) (by kernel_rfl) (fun _ _ _ _ h => by cases h.1) ⟨_, Or.inl ⟨by rfl, fun w2 hb2 => by (have hx := (Below.cell hb2 (World.block_lt_of_cell? V1 _ z1)).trans z1; go_simp; try with_reducible rfl)⟩, _, by (go_simp; try rfl), ?_⟩
  refine wpAnyR_take 8 rfl (by kernel_rfl) (by kernel_rfl) (by kernel_rfl) (fun _ _ _ _ h => by cases h.1) ⟨_, Or.inl ⟨by rfl, fun w2 hb2 => by (go_simp; try with_reducible rfl)⟩, _, by (go_simp; try rfl), ?_⟩
  refine wpAnyR_done (by kernel_rfl) ?_ _
  refine ⟨rfl, ?_⟩
  refine Seg.onlyIn (m := 9) (k := 1) rfl (by kernel_rfl) (by rfl) (fun K hK => ?_)
  refine wpIn_of_false (Q1 := fun _ _ _ => False) (fun _ _ _ _ h => h) ?_
  refine wp_copyI (.tmp 11) (.tmp 19) 27 rfl 5 5 .u8 1 bytesOf q 0 m m Z (show Row .u8 5 V1.drew q Z from hRw.out) rfl (by rw [hZl.out]; omega) (some ⟨B, 1 + fr, none⟩) (1024 - fr) (1024 - fr) (R.drop fr) rfl (ring_sl (show V1.drew.heap[B]? = _ from hH1.out) hR.out fr (by omega)) ?_
  intro V2 hRow hO2
  rw [hZ1.out] at hRow
  rw [lk.out]
  refine hK _ _ ?_
  clear hK
  refine Seg.onlyIn (m := 10) (k := 0) rfl (by kernel_rfl) (by rfl) (fun K hK => ?_)
  refine wpIn_of_false (Q1 := fun _ _ _ => False) (fun _ _ _ _ h => h) ?_
  go_simp
  refine hK _ _ ?_
  clear hK
  refine Seg.finishIn ?_ _
  have hH2 := hid ((hO2.block B hqB).trans (show V1.drew.heap[B]? = _ from hH1.out))
  have hE2 := hid (eff_trans (eff_after (Below.refl _ V1).drew) (eff_only hO2))
  have hRw2 := hid hRow
  clear hRow hO2
  go_upto_region 4 with (fail)
  refine (wpIn_wide (n := 9)).1 ?_
  refine wpIn_region_preR 7 1 (by simp only [List.extract_toArray, List.extract_eq_take_drop, Nat.sub_zero, List.drop_zero, List.take_succ_cons, List.take_zero]; rfl) (by kernel_rfl) rfl (by kernel_rfl) ?_
  refine wpAnyR_take 0 rfl (by kernel_rfl) (by kernel_rfl) (by kernel_rfl) (fun _ _ _ _ h => by cases h.1) ⟨_, Or.inl ⟨by rfl, fun w2 hb2 => by (go_simp; try with_reducible rfl)⟩, _, by (go_simp; try rfl), ?_⟩
  refine wpAnyR_take 1 rfl (by kernel_rfl) (by kernel_rfl) (by kernel_rfl) (fun _ _ _ _ h => by cases h.1) ⟨_, Or.inl ⟨by rfl, fun w2 hb2 => by (go_simp; try with_reducible rfl)⟩, _, by (go_simp; try rfl), ?_⟩
  refine wpAnyR_take 2 rfl (by kernel_rfl) (by kernel_rfl) (by kernel_rfl) (fun _ _ _ _ h => by cases h.1) ⟨_, Or.inl ⟨by rfl, fun w2 hb2 => by (go_simp; try with_reducible rfl)⟩, _, by (go_simp; try rfl), ?_⟩
  refine wpAnyR_take 3 rfl (by kernel_rfl) (by kernel_rfl) (by kernel_rfl) (fun _ _ _ _ h => by cases h.1) ⟨_, Or.inl ⟨by rfl, fun w2 hb2 => by (go_simp; try with_reducible rfl)⟩, _, by (go_simp; try rfl), ?_⟩
  refine wpAnyR_take 4 rfl (by kernel_rfl) (by kernel_rfl) (by kernel_rfl) (fun _ _ _ _ h => by cases h.1) ⟨_, Or.inl ⟨by rfl, fun w2 hb2 => by (go_simp; try with_reducible rfl)⟩, _, by (go_simp; try rfl), ?_⟩
  refine wpAnyR_take 5 rfl (by kernel_rfl) (by kernel_rfl) (by kernel_rfl) (fun _ _ _ _ h => by cases h.1) ⟨_, Or.inl ⟨by rfl, fun w2 hb2 => by (go_simp; try with_reducible rfl)⟩, _, by (go_simp; try rfl), ?_⟩
  refine wpAnyR_take 6 rfl (by kernel_rfl) (by kernel_rfl) (by kernel_rfl) (fun _ _ _ _ h => by cases h.1) ⟨_, Or.inl ⟨by rfl, fun w2 hb2 => by (go_simp; try with_reducible rfl)⟩, _, by (go_simp; try rfl), ?_⟩
  refine wpAnyR_done (by kernel_rfl) ?_ _
  refine ⟨rfl, ?_⟩
  refine Seg.onlyIn (m := 7) (k := 0) rfl (by kernel_rfl) (by rfl) (fun K hK => ?_)
  refine wpIn_of_false (Q1 := fun _ _ _ => False) (fun _ _ _ _ h => h) ?_
  refine wp_copyI (.tmp 23) (.tmp 27) 27 rfl 5 5 .u8 1 bytesOf q off (m - n) (m - n) Z1 (show Row .u8 5 V2.drew q Z1 from hRw2.out) rfl (by rw [hZ1l.out]; exact ho) (some ⟨B, 1, none⟩) 1024 1024 R rfl (show Sl .u8 V2.drew (some ⟨B, 1 + 0, none⟩) (1024 - 0) (1024 - 0) (R.drop 0) from ring_sl (show V2.drew.heap[B]? = _ from hH2.out) hR.out 0 (by omega)) ?_
  intro V3 hRow hO3
  rw [laid_off (n := n) (by rw [hZ1l.out]; omega) hoff.out, hpk.out] at hRow
  refine hK _ _ ?_
  clear hK
  refine Seg.finishIn ?_ _
  have hE3 := eff_trans hE2.out (eff_trans (eff_after (Below.refl _ V2).drew) (eff_only hO3))
  have hA3 := hid (after_eff hA1.out hE3 hq.out)
  have hRw3 := hid hRow
  clear hRow hO3 hE3
  go_wp2_with fail
  go_ret
  exact ⟨by rw [hq.out]; rfl, by rw [hq.out]; exact hRw3.out, hA3.out⟩

end Go.Proofs.Ytaladglmomhndaa
