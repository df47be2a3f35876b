/- Package window: Put. -/
import Derived.Test.YtaladglmomhndaaWin
import Derived.Test.YtaladglmomhndaaPre
import Derived.Deep.DeepCutAuto
namespace Go.Proofs.Ytaladglmomhndaa
open Go.ChangeShapes Go.WideShapes Go.ChangeAt Go.RowKit
set_option linter.unusedVariables false
set_option linter.unusedSimpArgs false

theorem take_min {ys : List Int} {n b k : Nat} (h : ys.length = n) (hk : k = min n b) : ys.drop k = ys.drop b ∧ ys.take k = ys.take b := by
  subst hk
  by_cases c : n ≤ b
  · rw [Nat.min_eq_left c, List.drop_eq_nil_of_le (by omega), List.drop_eq_nil_of_le (by omega), List.take_of_length_le (by omega), List.take_of_length_le (by omega)]; exact ⟨rfl, rfl⟩
  · rw [Nat.min_eq_right (by omega)]; exact ⟨rfl, rfl⟩
set_option maxRecDepth 100000 in
set_option maxHeartbeats 8000000 in
theorem wput_any (B : Nat) (a : Option Addr) (len cap : Nat) (ys : List Int) (w : World) (L : List Int) (hW : WdSt B w L) (hs : Sl .u8 w a len cap ys) (hne : 0 < len → ∀ p, a = some p → p.block ≠ B) (hw : ∀ x ∈ ys, (Lit.int .u8 x).wf = true) : Calls Try.prog 11 #[.pointer (some ⟨B, 0, none⟩), .slice a len cap] w fun e w' => e = .returned (.int .i64 ((min len (1024 - L.length) : Nat) : Int)) ∧ WdSt B w' (L ++ ys.take (min len (1024 - L.length))) ∧ Eff B w w' := by
  have kr := hid (wright_any B w L hW)
  have km := hid (wroom_any B w L hW)
  obtain ⟨R, fr, hH, hI⟩ := hW
  have hR := hI.1
  have hfr := hI.2.1
  have hct := hI.2.2.1
  have z0 := held_cell hH 0 _ (wdC_0 R fr L.length)
  have z1 := held_cell hH 1025 _ (wdC_from hR fr L.length)
  have z2 := held_cell hH 1026 _ (wdC_cnt hR fr L.length)
  obtain ⟨m, hm⟩ : ∃ m, L.length = m := ⟨_, rfl⟩
  obtain ⟨rm, hrm⟩ : ∃ z, 1024 - L.length = z := ⟨_, rfl⟩
  rw [hrm] at km ⊢
  obtain ⟨n, hn⟩ : ∃ n, min len rm = n := ⟨_, rfl⟩
  rw [hn]
  have hnl : n ≤ len := by omega
  have hnr : n + m ≤ 1024 := by omega
  have hlc := hs.2.1
  have hnc : n ≤ cap := by omega
  obtain ⟨y2, hy2⟩ : ∃ y, ys.take n = y := ⟨_, rfl⟩
  rw [hy2]
  have hs1 := hs.take n hnl
  rw [hy2] at hs1
  have hy2l : y2.length = n := hs1.1
  have hw2 : ∀ x ∈ y2, (Lit.int .u8 x).wf = true := fun x hx => hw x (List.mem_of_mem_take (by rw [hy2]; exact hx))
  obtain ⟨tq, htq⟩ : ∃ z, (fr + L.length) % 1024 = z := ⟨_, rfl⟩
  have tq0 : tq < 1024 := by omega
  have hI2 := hid (wdI_put (ys := y2) hI (by omega) hw2)
  rw [htq] at hI2
  obtain ⟨n1, hn1⟩ : ∃ z, (y2.take (1024 - tq)).length = z := ⟨_, rfl⟩
  have hn1m : n1 = min n (1024 - tq) := by rw [← hn1, List.length_take, hy2l, Nat.min_comm]
  have hn1n : n1 ≤ n := by omega
  obtain ⟨td1, -⟩ := take_min hy2l hn1m
  obtain ⟨a2, cL, sL, bL⟩ := cutLw a n cap n1 hnc hn1n
  replace sL := hid sL
  replace bL := hid bL
  have cH := cutHw a len cap n hnc
  have cR := ring_l B tq tq0
  have cA := ring_a B
  obtain ⟨R1, hR1⟩ : ∃ r, laid R tq (y2.take (1024 - tq)) = r := ⟨_, rfl⟩
  have hR1l : R1.length = 1024 := by rw [← hR1, laid_len (by rw [hn1, hR]; omega)]; exact hR
  obtain ⟨R2, hR2⟩ : ∃ r, laid R1 0 (y2.drop (1024 - tq)) = r := ⟨_, rfl⟩
  rw [hR1, hR2] at hI2
  have tk1024 : (y2.drop n1).take 1024 = y2.drop (1024 - tq) := by rw [td1, List.take_of_length_le (by rw [List.length_drop]; omega)]
  have hR2' : laid R1 0 ((y2.drop n1).take 1024) = R2 := by rw [tk1024]; exact hR2
  have hR2l : R2.length = 1024 := hI2.out.1
  obtain ⟨ms, hms⟩ : ∃ z, m + n = z := ⟨_, rfl⟩
  have hlen2 : (L ++ y2).length = ms := by rw [List.length_append, hy2l, hm]; exact hms
  have htI : ((fr : Int) + (m : Int)) % 1024 = (tq : Int) := by omega
  have w1 : IntKind.i64.wrap ((fr : Int) + (m : Int)) = (fr : Int) + (m : Int) := by rw [IntKind.wrap_i64]; omega
  have w2 : Int.tmod ((fr : Int) + (m : Int)) 1024 = (tq : Int) := by rw [Int.tmod_eq_emod_of_nonneg (by omega)]; exact htI
  have w3 : IntKind.i64.wrap (Int.tmod ((fr : Int) + (m : Int)) 1024) = (tq : Int) := by rw [w2, IntKind.wrap_i64]; omega
  have w4 : IntKind.i64.wrap (tq : Int) = (tq : Int) := by rw [IntKind.wrap_i64]; omega
  have w5 : IntKind.i64.wrap ((m : Int) + (n : Int)) = (ms : Int) := by rw [IntKind.wrap_i64]; omega
  rw [hm] at z2 hH
  have hE := hid hlen2
  have hs1h := hid hs1
  have hHh := hid hH
  have hneh := hid hne
  have z1d := (show w.drew.cell? _ = _ from z1)
  have z2d := (show w.drew.cell? _ = _ from z2)
  clear hs hs1 hH hI hw hw2 hne hct hlc hnl hnc hnr hrm hlen2 htI tk1024 td1 hR2 hn1m z0
  replace hm := hid hm
  replace hms := hid hms
  replace htq := hid htq
  replace hy2 := hid hy2
  replace hy2l := hid hy2l
  replace hn1 := hid hn1
  replace hn1n := hid hn1n
  replace hR := hid hR
  replace hR1 := hid hR1
  replace hR1l := hid hR1l
  replace hR2' := hid hR2'
  replace hR2l := hid hR2l
  by_cases c : (len : Int) ≤ rm
  · have e : n = len := by omega
    subst e
    have c2 : ¬ (rm : Int) < (n : Int) := by omega
    clear hn
    go_enter Try.func11, Try.ntmps11
    go_wp2_with fail
    refine kr.out.mono ?_
    rintro e v1 ⟨rfl, hv⟩
    obtain rfl : w = v1 := hv.symm
    clear hv
    go_wp2_with fail
    refine km.out.mono ?_
    rintro e v1 ⟨rfl, hv⟩
    obtain rfl : w = v1 := hv.symm
    clear hv
    go_upto_region 4 with (fail)
    refine wp_region_R (by kernel_rfl) ?_
    refine wpAnyR_take 0 rfl (by kernel_rfl) (by kernel_rfl) (by kernel_rfl) (fun _ _ _ _ h => h) ⟨_, Or.inl ⟨by rfl, fun w2 hb2 => by (go_simp; try with_reducible rfl)⟩, _, by (go_simp; try rfl), ?_⟩
    refine wpAnyR_take 1 rfl (by kernel_rfl) (by kernel_rfl) (by kernel_rfl) (fun _ _ _ _ h => h) ⟨_, Or.inl ⟨by rfl, fun w2 hb2 => by (go_simp; try with_reducible rfl)⟩, _, by (go_simp; try rfl), ?_⟩
    refine wpAnyR_take 2 rfl (by kernel_rfl) (by kernel_rfl) (by kernel_rfl) (fun _ _ _ _ h => h) ⟨_, Or.inl ⟨by rfl, fun w2 hb2 => by (go_simp; try with_reducible rfl)⟩, _, by (go_simp; try rfl), ?_⟩
    refine wpAnyR_take 3 rfl (by kernel_rfl) (by kernel_rfl) (by kernel_rfl) (fun _ _ _ _ h => h) ⟨_, Or.inl ⟨by rfl, fun w2 hb2 => by (have hx := (Below.cell hb2 (World.block_lt_of_cell? w _ z1)).trans z1; go_simp; try with_reducible rfl)⟩, _, by (go_simp; try rfl), ?_⟩
    refine wpAnyR_take 4 rfl (by kernel_rfl) (by kernel_rfl) (by kernel_rfl) (fun _ _ _ _ h => h) ⟨_, Or.inl ⟨by rfl, fun w2 hb2 => by (go_simp; try with_reducible rfl)⟩, _, by (go_simp; try rfl), ?_⟩
    refine wpAnyR_take 5 rfl (by kernel_rfl) (by kernel_rfl) (by kernel_rfl) (fun _ _ _ _ h => h) ⟨_, Or.inl ⟨by rfl, fun w2 hb2 => by (go_simp; try with_reducible rfl)⟩, _, by (go_simp; try rfl), ?_⟩
    refine wpAnyR_take 6 rfl (by kernel_rfl) (by kernel_rfl) (by kernel_rfl) (fun _ _ _ _ h => h) ⟨_, Or.inl ⟨by rfl, fun w2 hb2 => by (go_simp; try with_reducible rfl)⟩, _, by (go_simp; try rfl), ?_⟩
    refine wpAnyR_take 7 rfl (by kernel_rfl) (by kernel_rfl) (by kernel_rfl) (fun _ _ _ _ h => h) ⟨_, Or.inl ⟨by rfl, fun w2 hb2 => by (have hx := (Below.cell hb2 (World.block_lt_of_cell? w _ z2)).trans z2; go_simp; try with_reducible rfl)⟩, _, by (go_simp; try rfl), ?_⟩
    refine wpAnyR_take 8 rfl (by kernel_rfl) (by kernel_rfl) (by kernel_rfl) (fun _ _ _ _ h => h) ⟨_, Or.inl ⟨by rfl, fun w2 hb2 => by (go_simp; try with_reducible rfl)⟩, _, by (go_simp; try rfl), ?_⟩
    refine wpAnyR_take 9 rfl (by kernel_rfl) (by kernel_rfl) (by kernel_rfl) (fun _ _ _ _ h => h) ⟨_, Or.inl ⟨by rfl, fun w2 hb2 => by (go_simp; try with_reducible rfl)⟩, _, by (go_simp; try rfl), ?_⟩
    refine wpAnyR_take 10 rfl (by kernel_rfl) (by kernel_rfl) (by kernel_rfl) (fun _ _ _ _ h => h) ⟨_, Or.inl ⟨by rfl, fun w2 hb2 => by (go_simp; try with_reducible rfl)⟩, _, by (go_simp; try rfl), ?_⟩
    refine wpAnyR_done (by kernel_rfl) ?_ _
    go_wp2_with (first | (refine wpList_plain rfl fun K hK => ?_; refine wp_copyR (.tmp 31) (.tmp 32) 27 rfl 41 5 1 bytesOf B tq (1024 - tq) (1024 - tq) R hR.out fr m hHh.out rfl (by omega) a n cap y2 rfl hs1h.out n1 hn1.out R1 hR1.out ?_))
    intro v1 hH1 hO1
    replace hO1 := hid (eff_trans (eff_after (Below.refl _ w).drew) (eff_only hO1))
    replace hH1 := hid hH1
    refine hK _ _ ?_
    clear hK
    have hs2 := hid (sL.out _ _ (sl_eff hs1h.out hO1.out (fun hp => hneh.out (by omega))))
    go_upto_region 6 with (fail)
    refine (wpIn_wide (n := 9)).1 ?_
    refine wpIn_region_preR 7 1 (by simp only [List.extract_toArray, List.extract_eq_take_drop, Nat.sub_zero, List.drop_zero, List.take_succ_cons, List.take_zero]; rfl) (by kernel_rfl) rfl (by kernel_rfl) ?_
    refine wpAnyR_take 0 rfl (by kernel_rfl) (by kernel_rfl) (by kernel_rfl) (fun _ _ _ _ h => by cases h.1) ⟨_, Or.inl ⟨by rfl, fun w2 hb2 => by (go_simp; try with_reducible rfl)⟩, _, by (go_simp; try rfl), ?_⟩
    refine wpAnyR_take 1 rfl (by kernel_rfl) (by kernel_rfl) (by kernel_rfl) (fun _ _ _ _ h => by cases h.1) ⟨_, Or.inl ⟨by rfl, fun w2 hb2 => by (go_simp; try with_reducible rfl)⟩, _, by (go_simp; try rfl), ?_⟩
    refine wpAnyR_take 2 rfl (by kernel_rfl) (by kernel_rfl) (by kernel_rfl) (fun _ _ _ _ h => by cases h.1) ⟨_, Or.inl ⟨by rfl, fun w2 hb2 => by (go_simp; try with_reducible rfl)⟩, _, by (go_simp; try rfl), ?_⟩
    refine wpAnyR_take 3 rfl (by kernel_rfl) (by kernel_rfl) (by kernel_rfl) (fun _ _ _ _ h => by cases h.1) ⟨_, Or.inl ⟨by rfl, fun w2 hb2 => by (go_simp; try with_reducible rfl)⟩, _, by (go_simp; try rfl), ?_⟩
    refine wpAnyR_take 4 rfl (by kernel_rfl) (by kernel_rfl) (by kernel_rfl) (fun _ _ _ _ h => by cases h.1) ⟨_, Or.inl ⟨by rfl, fun w2 hb2 => by (go_simp; try with_reducible rfl)⟩, _, by (go_simp; try rfl), ?_⟩
    refine wpAnyR_take 5 rfl (by kernel_rfl) (by kernel_rfl) (by kernel_rfl) (fun _ _ _ _ h => by cases h.1) ⟨_, Or.inl ⟨by rfl, fun w2 hb2 => by (go_simp; try with_reducible rfl)⟩, _, by (go_simp; try rfl), ?_⟩
    refine wpAnyR_take 6 rfl (by kernel_rfl) (by kernel_rfl) (by kernel_rfl) (fun _ _ _ _ h => by cases h.1) ⟨_, Or.inl ⟨by rfl, fun w2 hb2 => by (go_simp; try with_reducible rfl)⟩, _, by (go_simp; try rfl), ?_⟩
    refine wpAnyR_done (by kernel_rfl) ?_ _
    refine ⟨rfl, ?_⟩
    refine Seg.onlyIn (m := 7) (k := 0) rfl (by kernel_rfl) (by rfl) (fun K hK => ?_)
    refine wpIn_of_false (Q1 := fun _ _ _ => False) (fun _ _ _ _ h => h) ?_
    refine wp_copyR (.tmp 37) (.tmp 40) 27 rfl 41 5 1 bytesOf B 0 1024 1024 R1 hR1l.out fr m (show v1.drew.heap[B]? = _ from hH1.out) rfl (by omega) a2 (n - n1) (cap - n1) (y2.drop n1) rfl (hs2.out.drewN 1) _ rfl R2 hR2'.out ?_
    intro v2 hH2 hO2
    replace hO2 := hid (eff_trans hO1.out (eff_trans (eff_after (Below.refl _ v1).drew) (eff_only hO2)))
    refine hK _ _ ?_
    clear hK
    refine Seg.finishIn ?_ _
    have y2c := held_cell hH2 1026 _ (wdC_cnt hR2l.out fr m)
    have y0c := held_cell hH2 0 _ (wdC_0 R2 fr m)
    have g2 := held_free hH2 1026
    have s2 := held_set hH2 1026 (.int .i64 (ms : Int))
    rw [wdC_setC hR2l.out] at s2
    have hS := hid (show WdSt B (v2.setCell ⟨B, 1026, none⟩ (.int .i64 (ms : Int))) (L ++ y2) from ⟨R2, fr, by rw [hE.out]; exact s2, hI2.out⟩)
    have e2 := hid (eff_trans hO2.out (eff_set (g := B) (j := 1026) v2 (.int .i64 (ms : Int))))
    clear hH2 s2
    go_wp2_with fail
    go_ret
    exact ⟨rfl, hS.out, e2.out⟩
  · have e : n = rm := by omega
    subst e
    have c2 : (n : Int) < (len : Int) := by omega
    clear hn
    go_enter Try.func11, Try.ntmps11
    go_wp2_with fail
    refine kr.out.mono ?_
    rintro e v1 ⟨rfl, hv⟩
    obtain rfl : w = v1 := hv.symm
    clear hv
    go_wp2_with fail
    refine km.out.mono ?_
    rintro e v1 ⟨rfl, hv⟩
    obtain rfl : w = v1 := hv.symm
    clear hv
    go_upto_region 4 with (fail)
    refine wp_region_R (by kernel_rfl) ?_
    refine wpAnyR_take 0 rfl (by kernel_rfl) (by kernel_rfl) (by kernel_rfl) (fun _ _ _ _ h => h) ⟨_, Or.inl ⟨by rfl, fun w2 hb2 => by (go_simp; try with_reducible rfl)⟩, _, by (go_simp; try rfl), ?_⟩
    refine wpAnyR_take 1 rfl (by kernel_rfl) (by kernel_rfl) (by kernel_rfl) (fun _ _ _ _ h => h) ⟨_, Or.inl ⟨by rfl, fun w2 hb2 => by (go_simp; try with_reducible rfl)⟩, _, by (go_simp; try rfl), ?_⟩
    refine wpAnyR_take 2 rfl (by kernel_rfl) (by kernel_rfl) (by kernel_rfl) (fun _ _ _ _ h => h) ⟨_, Or.inl ⟨by rfl, fun w2 hb2 => by (go_simp; try with_reducible rfl)⟩, _, by (go_simp; try rfl), ?_⟩
    refine wpAnyR_take 3 rfl (by kernel_rfl) (by kernel_rfl) (by kernel_rfl) (fun _ _ _ _ h => h) ⟨_, Or.inl ⟨by rfl, fun w2 hb2 => by (have hx := (Below.cell hb2 (World.block_lt_of_cell? w _ z1)).trans z1; go_simp; try with_reducible rfl)⟩, _, by (go_simp; try rfl), ?_⟩
    refine wpAnyR_take 4 rfl (by kernel_rfl) (by kernel_rfl) (by kernel_rfl) (fun _ _ _ _ h => h) ⟨_, Or.inl ⟨by rfl, fun w2 hb2 => by (go_simp; try with_reducible rfl)⟩, _, by (go_simp; try rfl), ?_⟩
    refine wpAnyR_take 5 rfl (by kernel_rfl) (by kernel_rfl) (by kernel_rfl) (fun _ _ _ _ h => h) ⟨_, Or.inl ⟨by rfl, fun w2 hb2 => by (go_simp; try with_reducible rfl)⟩, _, by (go_simp; try rfl), ?_⟩
    refine wpAnyR_take 6 rfl (by kernel_rfl) (by kernel_rfl) (by kernel_rfl) (fun _ _ _ _ h => h) ⟨_, Or.inl ⟨by rfl, fun w2 hb2 => by (go_simp; try with_reducible rfl)⟩, _, by (go_simp; try rfl), ?_⟩
    refine wpAnyR_take 7 rfl (by kernel_rfl) (by kernel_rfl) (by kernel_rfl) (fun _ _ _ _ h => h) ⟨_, Or.inl ⟨by rfl, fun w2 hb2 => by (have hx := (Below.cell hb2 (World.block_lt_of_cell? w _ z2)).trans z2; go_simp; try with_reducible rfl)⟩, _, by (go_simp; try rfl), ?_⟩
    refine wpAnyR_take 8 rfl (by kernel_rfl) (by kernel_rfl) (by kernel_rfl) (fun _ _ _ _ h => h) ⟨_, Or.inl ⟨by rfl, fun w2 hb2 => by (go_simp; try with_reducible rfl)⟩, _, by (go_simp; try rfl), ?_⟩
    refine wpAnyR_take 9 rfl (by kernel_rfl) (by kernel_rfl) (by kernel_rfl) (fun _ _ _ _ h => h) ⟨_, Or.inl ⟨by rfl, fun w2 hb2 => by (go_simp; try with_reducible rfl)⟩, _, by (go_simp; try rfl), ?_⟩
    refine wpAnyR_take 10 rfl (by kernel_rfl) (by kernel_rfl) (by kernel_rfl) (fun _ _ _ _ h => h) ⟨_, Or.inl ⟨by rfl, fun w2 hb2 => by (go_simp; try with_reducible rfl)⟩, _, by (go_simp; try rfl), ?_⟩
    refine wpAnyR_done (by kernel_rfl) ?_ _
    go_wp2_with (first | (refine wpList_plain rfl fun K hK => ?_; refine wp_copyR (.tmp 31) (.tmp 32) 27 rfl 41 5 1 bytesOf B tq (1024 - tq) (1024 - tq) R hR.out fr m hHh.out rfl (by omega) a n cap y2 rfl hs1h.out n1 hn1.out R1 hR1.out ?_))
    intro v1 hH1 hO1
    replace hO1 := hid (eff_trans (eff_after (Below.refl _ w).drew) (eff_only hO1))
    replace hH1 := hid hH1
    refine hK _ _ ?_
    clear hK
    have hs2 := hid (sL.out _ _ (sl_eff hs1h.out hO1.out (fun hp => hneh.out (by omega))))
    go_upto_region 6 with (fail)
    refine (wpIn_wide (n := 9)).1 ?_
    refine wpIn_region_preR 7 1 (by simp only [List.extract_toArray, List.extract_eq_take_drop, Nat.sub_zero, List.drop_zero, List.take_succ_cons, List.take_zero]; rfl) (by kernel_rfl) rfl (by kernel_rfl) ?_
    refine wpAnyR_take 0 rfl (by kernel_rfl) (by kernel_rfl) (by kernel_rfl) (fun _ _ _ _ h => by cases h.1) ⟨_, Or.inl ⟨by rfl, fun w2 hb2 => by (go_simp; try with_reducible rfl)⟩, _, by (go_simp; try rfl), ?_⟩
    refine wpAnyR_take 1 rfl (by kernel_rfl) (by kernel_rfl) (by kernel_rfl) (fun _ _ _ _ h => by cases h.1) ⟨_, Or.inl ⟨by rfl, fun w2 hb2 => by (go_simp; try with_reducible rfl)⟩, _, by (go_simp; try rfl), ?_⟩
    refine wpAnyR_take 2 rfl (by kernel_rfl) (by kernel_rfl) (by kernel_rfl) (fun _ _ _ _ h => by cases h.1) ⟨_, Or.inl ⟨by rfl, fun w2 hb2 => by (go_simp; try with_reducible rfl)⟩, _, by (go_simp; try rfl), ?_⟩
    refine wpAnyR_take 3 rfl (by kernel_rfl) (by kernel_rfl) (by kernel_rfl) (fun _ _ _ _ h => by cases h.1) ⟨_, Or.inl ⟨by rfl, fun w2 hb2 => by (go_simp; try with_reducible rfl)⟩, _, by (go_simp; try rfl), ?_⟩
    refine wpAnyR_take 4 rfl (by kernel_rfl) (by kernel_rfl) (by kernel_rfl) (fun _ _ _ _ h => by cases h.1) ⟨_, Or.inl ⟨by rfl, fun w2 hb2 => by (go_simp; try with_reducible rfl)⟩, _, by (go_simp; try rfl), ?_⟩
    refine wpAnyR_take 5 rfl (by kernel_rfl) (by kernel_rfl) (by kernel_rfl) (fun _ _ _ _ h => by cases h.1) ⟨_, Or.inl ⟨by rfl, fun w2 hb2 => by (go_simp; try with_reducible rfl)⟩, _, by (go_simp; try rfl), ?_⟩
    refine wpAnyR_take 6 rfl (by kernel_rfl) (by kernel_rfl) (by kernel_rfl) (fun _ _ _ _ h => by cases h.1) ⟨_, Or.inl ⟨by rfl, fun w2 hb2 => by (go_simp; try with_reducible rfl)⟩, _, by (go_simp; try rfl), ?_⟩
    refine wpAnyR_done (by kernel_rfl) ?_ _
    refine ⟨rfl, ?_⟩
    refine Seg.onlyIn (m := 7) (k := 0) rfl (by kernel_rfl) (by rfl) (fun K hK => ?_)
    refine wpIn_of_false (Q1 := fun _ _ _ => False) (fun _ _ _ _ h => h) ?_
    refine wp_copyR (.tmp 37) (.tmp 40) 27 rfl 41 5 1 bytesOf B 0 1024 1024 R1 hR1l.out fr m (show v1.drew.heap[B]? = _ from hH1.out) rfl (by omega) a2 (n - n1) (cap - n1) (y2.drop n1) rfl (hs2.out.drewN 1) _ rfl R2 hR2'.out ?_
    intro v2 hH2 hO2
    replace hO2 := hid (eff_trans hO1.out (eff_trans (eff_after (Below.refl _ v1).drew) (eff_only hO2)))
    refine hK _ _ ?_
    clear hK
    refine Seg.finishIn ?_ _
    have y2c := held_cell hH2 1026 _ (wdC_cnt hR2l.out fr m)
    have y0c := held_cell hH2 0 _ (wdC_0 R2 fr m)
    have g2 := held_free hH2 1026
    have s2 := held_set hH2 1026 (.int .i64 (ms : Int))
    rw [wdC_setC hR2l.out] at s2
    have hS := hid (show WdSt B (v2.setCell ⟨B, 1026, none⟩ (.int .i64 (ms : Int))) (L ++ y2) from ⟨R2, fr, by rw [hE.out]; exact s2, hI2.out⟩)
    have e2 := hid (eff_trans hO2.out (eff_set (g := B) (j := 1026) v2 (.int .i64 (ms : Int))))
    clear hH2 s2
    go_wp2_with fail
    go_ret
    exact ⟨rfl, hS.out, e2.out⟩

end Go.Proofs.Ytaladglmomhndaa
