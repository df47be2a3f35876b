/- The laws of layer 6, walked: each returns true. -/
import Derived.Test.YtjbamblmkbbpfaaFletch
namespace Go.Proofs.Ytjbamblmkbbpfaa
open Go.ChangeShapes Go.WideShapes Go.ChangeAt Go.RowKit
set_option linter.unusedVariables false

theorem knows06_any (w : World) :
    Calls Try.prog 6 #[] w fun e w' => e = .returned (.bool true) ∧ Below w.heap.size w w' := by
  go_enter Try.func6, Try.ntmps6
  go_wp2_with fail
  refine (of_any _ _ _ [1, 2] _ (by decide) (sl_two _ _ _ _) (by decide)).mono ?_
  rintro e w1 ⟨rfl, haf⟩
  rw [show flS 0 0 [1, 2] = (3, 4) from by decide +kernel]
  go_wp2_with fail
  go_ret
  exact ⟨rfl, After.trans ((Below.refl _ _).alloc (Nat.le_refl _) _) haf⟩

set_option maxRecDepth 100000 in
set_option maxHeartbeats 4000000 in
theorem law_FletchTells (a0 : Int) (a1 : Int) (a2 : Option Addr) (len2 cap2 : Nat) (z2 : List Int) (w : World) (w0 : (Lit.int .u8 a0).wf = true) (w1 : (Lit.int .u8 a1).wf = true) (w2 : IsRow .u8 w a2 len2 cap2 z2) :
    Calls Try.prog 3 #[.int .u8 a0, .int .u8 a1, .slice a2 len2 cap2] w fun e w' => e = .returned (.bool true) ∧ Below w.heap.size w w' := by
  have b1 := bounds_u8 w0
  have b2 := bounds_u8 w1
  obtain ⟨hsl, hz⟩ := w2.sl
  clear w2
  generalize z2.take len2 = zs at *
  have hm0 := hsl.2.1
  have hn0 := hsl.2.2.1
  unfold maxLen at hn0
  by_cases c : (2000 : Int) < len2
  · go_enter Try.func3, Try.ntmps3
    go_wp2_with fail
    refine (knows06_any _).mono ?_
    rintro e w1 ⟨rfl, hb⟩
    go_wp2_with fail
    go_ret
    exact ⟨rfl, hb⟩
  · have hf1 := flS_bd zs a0 a1 b1 b2
    have hf2 := flS_bd zs 0 0 (by omega) (by omega)
    go_enter Try.func3, Try.ntmps3
    go_wp2_with fail
    refine (knows06_any _).mono ?_
    rintro e w1 ⟨rfl, hb1⟩
    have hs1 := hsl.below hb1
    go_wp2_with fail
    refine (more_any a0 a1 _ _ _ zs _ b1 b2 (by omega) hs1 hz).mono ?_
    rintro e w2 ⟨rfl, be2⟩
    have hs2 := hs1.below be2
    have hb2 := bthen hb1 be2
    go_wp2_with fail
    refine (rmore_any a0 a1 _ _ _ zs _ b1 b2 (by omega) hs2 hz).mono ?_
    rintro e w3 ⟨rfl, rfl⟩
    go_wp2_with fail
    refine (of_any _ _ _ zs _ (by omega) hs2 hz).mono ?_
    rintro e w4 ⟨rfl, be4⟩
    have hs4 := hs2.below be4
    have hb4 := bthen hb2 be4
    go_wp2_with fail
    refine (rof_any _ _ _ zs _ (by omega) hs4 hz).mono ?_
    rintro e w5 ⟨rfl, rfl⟩
    generalize flS a0 a1 zs = r1 at *
    generalize flS 0 0 zs = r2 at *
    go_wp2_with fail
    refine (open_any _ _ _ zs _ (by omega) hs4 hz).mono ?_
    rintro e w5 ⟨p1, q1, rfl, ow1, be5⟩
    have hs5 := hs4.below be5
    have hb5 := bthen hb4 be5
    go_wp2_with fail
    refine (ropen_any _ _ _ zs _ (by omega) hs5 hz).mono ?_
    rintro e w6 ⟨p2, q2, rfl, ow2, be6⟩
    have hs6 := hs5.below be6
    have hb6 := bthen hb5 be6
    have TO1 : ∀ {w'}, After w6.drew w' → _ := fun {w'} h => Own.text ow1 w' (After.trans be6 (After.trans (Below.refl _ _).drew h))
    have TO2 : ∀ {w'}, After w6.drew w' → _ := fun {w'} h => Own.text ow2 w' (After.trans (Below.refl _ _).drew h)
    generalize openS zs = os at *
    clear ow1 ow2 hs1 hs2 hs4 hs5 hb1 hb2 hb4 hb5 be2 be4 be5 be6
    go_wp2_with fail
    refine wp_region_R (by kernel_rfl) ?_
    refine wpAnyR_take 0 rfl (by kernel_rfl) (by kernel_rfl) (by kernel_rfl) (fun _ _ _ _ h => h) ?_
    apply Exists.intro
    refine ⟨Or.inl ⟨by rfl, fun w' hb => ?_⟩, ?_⟩
    · (go_simp; try with_reducible rfl)
    apply Exists.intro
    refine ⟨?_, ?_⟩
    · (go_simp; try rfl)
    refine wpAnyR_take 1 rfl (by kernel_rfl) (by kernel_rfl) (by kernel_rfl) (fun _ _ _ _ h => h) ?_
    apply Exists.intro
    refine ⟨Or.inl ⟨by rfl, fun w' hb => ?_⟩, ?_⟩
    · (go_simp; try with_reducible rfl)
    apply Exists.intro
    refine ⟨?_, ?_⟩
    · (go_simp; try rfl)
    refine wpAnyR_take 2 rfl (by kernel_rfl) (by kernel_rfl) (by kernel_rfl) (fun _ _ _ _ h => h) ?_
    apply Exists.intro
    refine ⟨Or.inl ⟨by rfl, fun w' hb => ?_⟩, ?_⟩
    · (go_simp; try with_reducible rfl)
    apply Exists.intro
    refine ⟨?_, ?_⟩
    · (go_simp; try rfl)
    refine wpAnyR_take 3 rfl (by kernel_rfl) (by kernel_rfl) (by kernel_rfl) (fun _ _ _ _ h => h) ?_
    apply Exists.intro
    refine ⟨Or.inl ⟨by rfl, fun w' hb => ?_⟩, ?_⟩
    · (go_simp; try with_reducible rfl)
    apply Exists.intro
    refine ⟨?_, ?_⟩
    · (go_simp; try rfl)
    refine wpAnyR_take 4 rfl (by kernel_rfl) (by kernel_rfl) (by kernel_rfl) (fun _ _ _ _ h => h) ?_
    apply Exists.intro
    refine ⟨Or.inl ⟨by rfl, fun w' hb => ?_⟩, ?_⟩
    · (go_simp; try with_reducible rfl)
    apply Exists.intro
    refine ⟨?_, ?_⟩
    · (go_simp; try rfl)
    refine wpAnyR_take 5 rfl (by kernel_rfl) (by kernel_rfl) (by kernel_rfl) (fun _ _ _ _ h => h) ?_
    apply Exists.intro
    refine ⟨Or.inl ⟨by rfl, fun w' hb => ?_⟩, ?_⟩
    · (go_simp; try with_reducible rfl)
    apply Exists.intro
    refine ⟨?_, ?_⟩
    · (go_simp; try rfl)
    refine wpAnyR_take 6 rfl (by kernel_rfl) (by kernel_rfl) (by kernel_rfl) (fun _ _ _ _ h => h) ?_
    apply Exists.intro
    refine ⟨Or.inl ⟨by rfl, fun w' hb => ?_⟩, ?_⟩
    · (go_simp; try with_reducible rfl)
    apply Exists.intro
    refine ⟨?_, ?_⟩
    · (go_simp; try rfl)
    refine wpAnyR_take 7 rfl (by kernel_rfl) (by kernel_rfl) (by kernel_rfl) (fun _ _ _ _ h => h) ?_
    apply Exists.intro
    refine ⟨Or.inl ⟨by rfl, fun w' hb => ?_⟩, ?_⟩
    · (go_simp; try with_reducible rfl)
    apply Exists.intro
    refine ⟨?_, ?_⟩
    · (go_simp; try rfl)
    refine wpAnyR_take 8 rfl (by kernel_rfl) (by kernel_rfl) (by kernel_rfl) (fun _ _ _ _ h => h) ?_
    apply Exists.intro
    refine ⟨Or.inl ⟨by rfl, fun w' hb => ?_⟩, ?_⟩
    · (go_simp; try with_reducible rfl)
    apply Exists.intro
    refine ⟨?_, ?_⟩
    · (go_simp; try rfl)
    refine wpAnyR_take 9 rfl (by kernel_rfl) (by kernel_rfl) (by kernel_rfl) (fun _ _ _ _ h => h) ?_
    apply Exists.intro
    refine ⟨Or.inl ⟨by rfl, fun w' hb => ?_⟩, ?_⟩
    · (go_simp; try with_reducible rfl)
    apply Exists.intro
    refine ⟨?_, ?_⟩
    · (go_simp; try rfl)
    refine wpAnyR_take 10 rfl (by kernel_rfl) (by kernel_rfl) (by kernel_rfl) (fun _ _ _ _ h => h) ?_
    apply Exists.intro
    refine ⟨Or.inl ⟨by rfl, fun w' hb => ?_⟩, ?_⟩
    · (go_simp; try with_reducible rfl)
    apply Exists.intro
    refine ⟨?_, ?_⟩
    · (go_simp; try rfl)
    refine wpAnyR_take 11 rfl (by kernel_rfl) (by kernel_rfl) (by kernel_rfl) (fun _ _ _ _ h => h) ?_
    apply Exists.intro
    refine ⟨Or.inl ⟨by rfl, fun w' hb => ?_⟩, ?_⟩
    · (go_simp; try with_reducible rfl)
    apply Exists.intro
    refine ⟨?_, ?_⟩
    · (go_simp; try rfl)
    refine wpAnyR_take 12 rfl (by kernel_rfl) (by kernel_rfl) (by kernel_rfl) (fun _ _ _ _ h => h) ?_
    apply Exists.intro
    refine ⟨Or.inl ⟨by rfl, fun w' hb => ?_⟩, ?_⟩
    · (go_simp; try with_reducible rfl)
    apply Exists.intro
    refine ⟨?_, ?_⟩
    · (go_simp; try rfl)
    refine wpAnyR_take 13 rfl (by kernel_rfl) (by kernel_rfl) (by kernel_rfl) (fun _ _ _ _ h => h) ?_
    apply Exists.intro
    refine ⟨Or.inl ⟨by rfl, fun w' hb => ?_⟩, ?_⟩
    · (go_simp; try with_reducible rfl)
    apply Exists.intro
    refine ⟨?_, ?_⟩
    · (go_simp; try rfl)
    refine wpAnyR_take 14 rfl (by kernel_rfl) (by kernel_rfl) (by kernel_rfl) (fun _ _ _ _ h => h) ?_
    apply Exists.intro
    refine ⟨Or.inl ⟨by rfl, fun w' hb => ?_⟩, ?_⟩
    · (go_simp; try with_reducible rfl)
    apply Exists.intro
    refine ⟨?_, ?_⟩
    · (go_simp; try rfl)
    refine wpAnyR_take 15 rfl (by kernel_rfl) (by kernel_rfl) (by kernel_rfl) (fun _ _ _ _ h => h) ?_
    apply Exists.intro
    refine ⟨Or.inl ⟨by rfl, fun w' hb => ?_⟩, ?_⟩
    · (go_simp; try with_reducible rfl)
    apply Exists.intro
    refine ⟨?_, ?_⟩
    · (go_simp; try rfl)
    refine wpAnyR_take 16 rfl (by kernel_rfl) (by kernel_rfl) (by kernel_rfl) (fun _ _ _ _ h => h) ?_
    apply Exists.intro
    refine ⟨Or.inl ⟨by rfl, fun w' hb => ?_⟩, ?_⟩
    · (go_simp; try with_reducible rfl)
    apply Exists.intro
    refine ⟨?_, ?_⟩
    · (go_simp; try rfl)
    refine wpAnyR_take 17 rfl (by kernel_rfl) (by kernel_rfl) (by kernel_rfl) (fun _ _ _ _ h => h) ?_
    apply Exists.intro
    refine ⟨Or.inl ⟨by rfl, fun w' hb => ?_⟩, ?_⟩
    · (go_simp; try with_reducible rfl)
    apply Exists.intro
    refine ⟨?_, ?_⟩
    · (go_simp; try rfl)
    refine wpAnyR_take 18 rfl (by kernel_rfl) (by kernel_rfl) (by kernel_rfl) (fun _ _ _ _ h => h) ?_
    apply Exists.intro
    refine ⟨Or.inl ⟨by rfl, fun w' hb => ?_⟩, ?_⟩
    · (go_simp; try with_reducible rfl)
    apply Exists.intro
    refine ⟨?_, ?_⟩
    · (go_simp; try rfl)
    refine wpAnyR_take 19 rfl (by kernel_rfl) (by kernel_rfl) (by kernel_rfl) (fun _ _ _ _ h => h) ?_
    apply Exists.intro
    refine ⟨Or.inl ⟨by rfl, fun w' hb => ?_⟩, ?_⟩
    · (go_simp; try with_reducible rfl)
    apply Exists.intro
    refine ⟨?_, ?_⟩
    · (go_simp; try rfl)
    refine wpAnyR_take 22 rfl (by kernel_rfl) (by kernel_rfl) (by kernel_rfl) (fun _ _ _ _ h => h) ?_
    apply Exists.intro
    refine ⟨Or.inl ⟨by rfl, fun w' hb => ?_⟩, ?_⟩
    · (go_simp; try with_reducible rfl)
    apply Exists.intro
    refine ⟨?_, ?_⟩
    · (go_simp; try rfl)
    refine wpAnyR_only 20 rfl (by kernel_rfl) (by rfl) (fun K hK => ?_)
    go_simp
    refine (seal_any _ _ _ zs _ (by omega) (hs6.below (Below.refl _ _).drew) hz).mono ?_
    rintro e v1 ⟨ad1, cp1, rfl, ow1, be1⟩
    have TS1 := hid (Own.text ow1)
    clear ow1
    go_wp2_with fail
    refine ⟨be1, ?_⟩
    refine wpAnyR_take 21 rfl (by kernel_rfl) (by kernel_rfl) (by kernel_rfl) (fun _ _ _ _ h => h) ?_
    apply Exists.intro
    refine ⟨Or.inl ⟨by rfl, fun w' hb => ?_⟩, ?_⟩
    · have ht := TS1.out w' hb
      go_simp
      try with_reducible rfl
    apply Exists.intro
    refine ⟨?_, ?_⟩
    · (go_simp; try rfl)
    refine wpAnyR_only 23 rfl (by kernel_rfl) (by rfl) (fun K hK => ?_)
    go_simp
    refine (rseal_any _ _ _ zs _ (by omega) ((hs6.below (Below.refl _ _).drew).below be1) hz).mono ?_
    rintro e v2 ⟨ad2, cp2, rfl, ow2, be2⟩
    have TS2 := hid (Own.text ow2)
    clear ow2
    go_wp2_with fail
    refine ⟨be2, ?_⟩
    refine wpAnyR_take 24 rfl (by kernel_rfl) (by kernel_rfl) (by kernel_rfl) (fun _ _ _ _ h => h) ?_
    apply Exists.intro
    refine ⟨Or.inl ⟨by rfl, fun w' hb => ?_⟩, ?_⟩
    · have ht := TS2.out w' hb
      go_simp
      try with_reducible rfl
    apply Exists.intro
    refine ⟨?_, ?_⟩
    · (go_simp; try rfl)
    refine wpAnyR_take 25 rfl (by kernel_rfl) (by kernel_rfl) (by kernel_rfl) (fun _ _ _ _ h => h) ?_
    apply Exists.intro
    refine ⟨Or.inl ⟨by rfl, fun w' hb => ?_⟩, ?_⟩
    · (go_simp; try with_reducible rfl)
    apply Exists.intro
    refine ⟨?_, ?_⟩
    · (go_simp; try rfl)
    refine wpAnyR_take 26 rfl (by kernel_rfl) (by kernel_rfl) (by kernel_rfl) (fun _ _ _ _ h => h) ?_
    apply Exists.intro
    refine ⟨Or.inl ⟨by rfl, fun w' hb => ?_⟩, ?_⟩
    · (go_simp; try with_reducible rfl)
    apply Exists.intro
    refine ⟨?_, ?_⟩
    · (go_simp; try rfl)
    refine wpAnyR_take 27 rfl (by kernel_rfl) (by kernel_rfl) (by kernel_rfl) (fun _ _ _ _ h => h) ?_
    apply Exists.intro
    refine ⟨Or.inl ⟨by rfl, fun w' hb => ?_⟩, ?_⟩
    · (go_simp; try with_reducible rfl)
    apply Exists.intro
    refine ⟨?_, ?_⟩
    · (go_simp; try rfl)
    refine wpAnyR_take 28 rfl (by kernel_rfl) (by kernel_rfl) (by kernel_rfl) (fun _ _ _ _ h => h) ?_
    apply Exists.intro
    refine ⟨Or.inl ⟨by rfl, fun w' hb => ?_⟩, ?_⟩
    · (go_simp; try with_reducible rfl)
    apply Exists.intro
    refine ⟨?_, ?_⟩
    · (go_simp; try rfl)
    refine wpAnyR_take 29 rfl (by kernel_rfl) (by kernel_rfl) (by kernel_rfl) (fun _ _ _ _ h => h) ?_
    apply Exists.intro
    refine ⟨Or.inl ⟨by rfl, fun w' hb => ?_⟩, ?_⟩
    · have ht := TO1 (After.trans be1 (After.trans be2 hb))
      go_simp
      try with_reducible rfl
    apply Exists.intro
    refine ⟨?_, ?_⟩
    · (go_simp; try rfl)
    refine wpAnyR_take 30 rfl (by kernel_rfl) (by kernel_rfl) (by kernel_rfl) (fun _ _ _ _ h => h) ?_
    apply Exists.intro
    refine ⟨Or.inl ⟨by rfl, fun w' hb => ?_⟩, ?_⟩
    · (go_simp; try with_reducible rfl)
    apply Exists.intro
    refine ⟨?_, ?_⟩
    · (go_simp; try rfl)
    refine wpAnyR_take 31 rfl (by kernel_rfl) (by kernel_rfl) (by kernel_rfl) (fun _ _ _ _ h => h) ?_
    apply Exists.intro
    refine ⟨Or.inl ⟨by rfl, fun w' hb => ?_⟩, ?_⟩
    · have ht := TO2 (After.trans be1 (After.trans be2 hb))
      go_simp
      try with_reducible rfl
    apply Exists.intro
    refine ⟨?_, ?_⟩
    · (go_simp; try rfl)
    refine wpAnyR_take 32 rfl (by kernel_rfl) (by kernel_rfl) (by kernel_rfl) (fun _ _ _ _ h => h) ?_
    apply Exists.intro
    refine ⟨Or.inl ⟨by rfl, fun w' hb => ?_⟩, ?_⟩
    · (go_simp; try with_reducible rfl)
    apply Exists.intro
    refine ⟨?_, ?_⟩
    · (go_simp; try rfl)
    refine wpAnyR_take 33 rfl (by kernel_rfl) (by kernel_rfl) (by kernel_rfl) (fun _ _ _ _ h => h) ?_
    apply Exists.intro
    refine ⟨Or.inl ⟨by rfl, fun w' hb => ?_⟩, ?_⟩
    · (go_simp; try with_reducible rfl)
    apply Exists.intro
    refine ⟨?_, ?_⟩
    · (go_simp; try rfl)
    refine wpAnyR_take 34 rfl (by kernel_rfl) (by kernel_rfl) (by kernel_rfl) (fun _ _ _ _ h => h) ?_
    apply Exists.intro
    refine ⟨Or.inl ⟨by rfl, fun w' hb => ?_⟩, ?_⟩
    · (go_simp; try with_reducible rfl)
    apply Exists.intro
    refine ⟨?_, ?_⟩
    · (go_simp; try rfl)
    refine wpAnyR_take 35 rfl (by kernel_rfl) (by kernel_rfl) (by kernel_rfl) (fun _ _ _ _ h => h) ?_
    apply Exists.intro
    refine ⟨Or.inl ⟨by rfl, fun w' hb => ?_⟩, ?_⟩
    · (go_simp; try with_reducible rfl)
    apply Exists.intro
    refine ⟨?_, ?_⟩
    · (go_simp; try rfl)
    refine wpAnyR_take 36 rfl (by kernel_rfl) (by kernel_rfl) (by kernel_rfl) (fun _ _ _ _ h => h) ?_
    apply Exists.intro
    refine ⟨Or.inl ⟨by rfl, fun w' hb => ?_⟩, ?_⟩
    · (go_simp; try with_reducible rfl)
    apply Exists.intro
    refine ⟨?_, ?_⟩
    · (go_simp; try rfl)
    refine wpAnyR_take 37 rfl (by kernel_rfl) (by kernel_rfl) (by kernel_rfl) (fun _ _ _ _ h => h) ?_
    apply Exists.intro
    refine ⟨Or.inl ⟨by rfl, fun w' hb => ?_⟩, ?_⟩
    · (go_simp; try with_reducible rfl)
    apply Exists.intro
    refine ⟨?_, ?_⟩
    · (go_simp; try rfl)
    refine wpAnyR_take 38 rfl (by kernel_rfl) (by kernel_rfl) (by kernel_rfl) (fun _ _ _ _ h => h) ?_
    apply Exists.intro
    refine ⟨Or.inl ⟨by rfl, fun w' hb => ?_⟩, ?_⟩
    · (go_simp; try with_reducible rfl)
    apply Exists.intro
    refine ⟨?_, ?_⟩
    · (go_simp; try rfl)
    refine wpAnyR_take 39 rfl (by kernel_rfl) (by kernel_rfl) (by kernel_rfl) (fun _ _ _ _ h => h) ?_
    apply Exists.intro
    refine ⟨Or.inl ⟨by rfl, fun w' hb => ?_⟩, ?_⟩
    · (go_simp; try with_reducible rfl)
    apply Exists.intro
    refine ⟨?_, ?_⟩
    · (go_simp; try rfl)
    refine wpAnyR_done (by kernel_rfl) ?_ _
    go_wp2_with fail
    go_ret
    exact ⟨rfl, bthen hb6 (After.trans (Below.refl _ _).drew (After.trans be1 be2))⟩

end Go.Proofs.Ytjbamblmkbbpfaa
