/- The laws of layer 3, walked: each returns true. -/
import Derived.Test.YtdhebbflpdnfiaaVary2
import Derived.Test.YtdhebbflpdnfiaaRegion
namespace Go.Proofs.Ytdhebbflpdnfiaa
open Go.ChangeShapes Go.WideShapes Go.ChangeAt Go.RowKit
set_option linter.unusedVariables false

theorem num_any (n : Int) (w : World) (h1 : -9223372036854775808 ≤ n) (h2 : n ≤ 9223372036854775807) :
    Calls Try.prog 18 #[.int .i64 n] w fun e w' => e = .returned (.int .i64 n) ∧ w' = w := by
  go_enter Try.func18, Try.ntmps18
  go_wp2_with fail
  go_ret
  exact ⟨rfl, rfl⟩

theorem Own.text {w : World} {base : Nat} {E : TypeId} {a : Option Addr} {cap : Nat} {zs : List Int} (h : Own .u8 E w base (.slice a zs.length cap) zs) :
    ∀ w', After w w' → (convert 25 9 (.slice a zs.length cap)).run Try.prog w' = .ok (.string (textOf zs)) w' :=
  h.textR 25 9 5 Try.underlying25 Try.underlying5 Try.underlying9

theorem sl_two (w : World) (x y : Int) (E : TypeId) : Sl .u8 (w.alloc (.cells #[.int .u8 x, .int .u8 y] E)) (some ⟨w.heap.size, 0, none⟩) 2 2 [x, y] := by
  refine ⟨rfl, Nat.le_refl _, by unfold maxLen; omega, (by intro h; cases h), fun i hi => ?_⟩
  have hi2 : i = 0 ∨ i = 1 := by simp at hi; omega
  rcases hi2 with rfl | rfl
  · exact ⟨_, _, rfl, (cell_new2 _ _ rfl _ _ _).1⟩
  · exact ⟨_, _, rfl, (cell_new2 _ _ rfl _ _ _).2⟩

set_option maxHeartbeats 1000000 in
theorem knows03_any (w : World) :
    Calls Try.prog 13 #[] w fun e w' => e = .returned (.bool true) ∧ Below w.heap.size w w' := by
  have e1 : Go.RowKit.Hid (putS 300 = [172, 2]) := hid (by decide +kernel)
  have e2 : Go.RowKit.Hid (takeS [128, 0] 0 0 = (0, 0, 3)) := hid (by decide +kernel)
  have e3 : Go.RowKit.Hid (zigS (-1) = 1) := hid (by decide +kernel)
  go_enter Try.func13, Try.ntmps13
  go_wp2_with fail
  refine (put_any 300 _ (by decide)).mono ?_
  rintro e w1 ⟨ad1, cp1, rfl, own1, bel1⟩
  rw [e1.out] at own1
  rw [e1.out]
  obtain ⟨_, _, hv, hsl1⟩ := own1.sl
  cases hv
  clear own1
  go_wp2_with fail
  refine (take_any _ _ _ [128, 0] _ (by decide) (sl_two _ _ _ _) (by decide)).mono ?_
  rintro e w2 ⟨rfl, rfl⟩
  rw [e2.out]
  unfold takeV
  have hsl2 := hsl1.below ((Below.refl _ _).alloc (Nat.le_refl _) (.cells #[.int .u8 128, .int .u8 0] 5))
  have hb2 : Below w.heap.size w (w1.alloc (.cells #[.int .u8 128, .int .u8 0] 5)) := bel1.alloc bel1.size _
  have hsz := hb2.size
  generalize w1.alloc (.cells #[.int .u8 128, .int .u8 0] 5) = w3 at *
  have hsl3 := sl_two w3 172 2 5
  go_wp2_with (first
    | (refine wpList_text _ rfl (.tmp 12) 25 9 5 rfl Try.underlying25 Try.underlying5 Try.underlying9 ad1 _ _ [172, 2] rfl hsl2 ?_)
    | (refine wpList_text _ rfl (.tmp 14) 25 9 5 rfl Try.underlying25 Try.underlying5 Try.underlying9 _ _ _ [172, 2] rfl hsl3 ?_)
    | (go_at_call 6; refine (zig_any _ _ (by decide) (by decide)).mono ?_; rintro e w4 ⟨rfl, rfl⟩; rw [e3.out])
    | (go_at_call 18; refine (num_any _ _ (by decide) (by decide)).mono ?_; rintro e w4 ⟨rfl, rfl⟩))
  go_ret
  exact ⟨rfl, hb2.alloc hsz _⟩

set_option maxRecDepth 100000 in
set_option maxHeartbeats 2000000 in
set_option maxRecDepth 100000 in
set_option maxHeartbeats 2000000 in
set_option maxRecDepth 100000 in
set_option maxHeartbeats 2000000 in
set_option maxRecDepth 100000 in
set_option maxHeartbeats 2000000 in
theorem law_VaryPuts (a0 a1 : Int) (w0 : (Lit.int .i64 a0).wf = true) (w1 : (Lit.int .u64 a1).wf = true) (w : World) :
    Calls Try.prog 3 #[.int .i64 a0, .int .u64 a1] w fun e w' => e = .returned (.bool true) ∧ Below w.heap.size w w' := by
  obtain ⟨b1, b2⟩ := bounds_i64 w0
  obtain ⟨b3, b4⟩ := bounds_u64 w1
  obtain ⟨u, rfl⟩ := Int.eq_ofNat_of_zero_le b3
  go_enter Try.func3, Try.ntmps3
  go_wp2_with fail
  refine wp_region_R (by kernel_rfl) ?_
  refine wpAnyR_take 0 rfl (by kernel_rfl) (by kernel_rfl) (by kernel_rfl) (fun _ _ _ _ h => h) ?_
  apply Exists.intro
  refine ⟨Or.inl ⟨by rfl, fun w' hb => ?_⟩, ?_⟩
  · (go_simp; try with_reducible rfl)
  apply Exists.intro
  refine ⟨?_, ?_⟩
  · (go_simp; try rfl)
  refine wpAnyR_take 2 rfl (by kernel_rfl) (by kernel_rfl) (by kernel_rfl) (fun _ _ _ _ h => h) ?_
  apply Exists.intro
  refine ⟨Or.inl ⟨by rfl, fun w' hb => ?_⟩, ?_⟩
  · (go_simp; try with_reducible rfl)
  apply Exists.intro
  refine ⟨?_, ?_⟩
  · (go_simp; try rfl)
  refine wpAnyR_only 1 rfl (by kernel_rfl) (by rfl) (fun K hK => ?_)
  go_simp
  refine (zig_any _ _ b1 b2).mono ?_
  rintro e v ⟨rfl, rfl⟩
  go_wp2_with fail
  refine ⟨After.refl _, ?_⟩
  refine wpAnyR_only 3 rfl (by kernel_rfl) (by rfl) (fun K hK => ?_)
  go_simp
  refine (rzig_any _ _ b1 b2).mono ?_
  rintro e v ⟨rfl, rfl⟩
  go_wp2_with fail
  refine ⟨After.refl _, ?_⟩
  refine wpAnyR_take 4 rfl (by kernel_rfl) (by kernel_rfl) (by kernel_rfl) (fun _ _ _ _ h => h) ?_
  apply Exists.intro
  refine ⟨Or.inl ⟨by rfl, fun w' hb => ?_⟩, ?_⟩
  · (go_simp; try with_reducible rfl)
  apply Exists.intro
  refine ⟨?_, ?_⟩
  · (go_simp; try rfl)
  refine wpAnyR_take 5 rfl (by kernel_rfl) (by kernel_rfl) (by kernel_rfl) (fun _ _ _ _ h => h) ?_
  apply Exists.intro
  refine ⟨Or.inl ⟨by rfl, fun w' hb => ?_⟩, ?_⟩
  · (go_simp; try with_reducible rfl)
  apply Exists.intro
  refine ⟨?_, ?_⟩
  · (go_simp; try rfl)
  refine wpAnyR_take 6 rfl (by kernel_rfl) (by kernel_rfl) (by kernel_rfl) (fun _ _ _ _ h => h) ?_
  apply Exists.intro
  refine ⟨Or.inl ⟨by rfl, fun w' hb => ?_⟩, ?_⟩
  · (go_simp; try with_reducible rfl)
  apply Exists.intro
  refine ⟨?_, ?_⟩
  · (go_simp; try rfl)
  refine wpAnyR_take 8 rfl (by kernel_rfl) (by kernel_rfl) (by kernel_rfl) (fun _ _ _ _ h => h) ?_
  apply Exists.intro
  refine ⟨Or.inl ⟨by rfl, fun w' hb => ?_⟩, ?_⟩
  · (go_simp; try with_reducible rfl)
  apply Exists.intro
  refine ⟨?_, ?_⟩
  · (go_simp; try rfl)
  refine wpAnyR_only 7 rfl (by kernel_rfl) (by rfl) (fun K hK => ?_)
  go_simp
  refine (zag_any _ _ b3 b4).mono ?_
  rintro e v ⟨rfl, rfl⟩
  go_wp2_with fail
  refine ⟨After.refl _, ?_⟩
  refine wpAnyR_only 9 rfl (by kernel_rfl) (by rfl) (fun K hK => ?_)
  go_simp
  refine (rzag_any _ _ b3 b4).mono ?_
  rintro e v ⟨rfl, rfl⟩
  go_wp2_with fail
  refine ⟨After.refl _, ?_⟩
  refine wpAnyR_take 10 rfl (by kernel_rfl) (by kernel_rfl) (by kernel_rfl) (fun _ _ _ _ h => h) ?_
  apply Exists.intro
  refine ⟨Or.inl ⟨by rfl, fun w' hb => ?_⟩, ?_⟩
  · (go_simp; try with_reducible rfl)
  apply Exists.intro
  refine ⟨?_, ?_⟩
  · (go_simp; try rfl)
  refine wpAnyR_take 11 rfl (by kernel_rfl) (by kernel_rfl) (by kernel_rfl) (fun _ _ _ _ h => h) ?_
  apply Exists.intro
  refine ⟨Or.inl ⟨by rfl, fun w' hb => ?_⟩, ?_⟩
  · (go_simp; try with_reducible rfl)
  apply Exists.intro
  refine ⟨?_, ?_⟩
  · (go_simp; try rfl)
  refine wpAnyR_take 12 rfl (by kernel_rfl) (by kernel_rfl) (by kernel_rfl) (fun _ _ _ _ h => h) ?_
  apply Exists.intro
  refine ⟨Or.inl ⟨by rfl, fun w' hb => ?_⟩, ?_⟩
  · (go_simp; try with_reducible rfl)
  apply Exists.intro
  refine ⟨?_, ?_⟩
  · (go_simp; try rfl)
  refine wpAnyR_take 13 rfl (by kernel_rfl) (by kernel_rfl) (by kernel_rfl) (fun _ _ _ _ h => h) ?_
  apply Exists.intro
  refine ⟨Or.inl ⟨by rfl, fun w' hb => ?_⟩, ?_⟩
  · (go_simp; try with_reducible rfl)
  apply Exists.intro
  refine ⟨?_, ?_⟩
  · (go_simp; try rfl)
  refine wpAnyR_take 16 rfl (by kernel_rfl) (by kernel_rfl) (by kernel_rfl) (fun _ _ _ _ h => h) ?_
  apply Exists.intro
  refine ⟨Or.inl ⟨by rfl, fun w' hb => ?_⟩, ?_⟩
  · (go_simp; try with_reducible rfl)
  apply Exists.intro
  refine ⟨?_, ?_⟩
  · (go_simp; try rfl)
  refine wpAnyR_only 14 rfl (by kernel_rfl) (by rfl) (fun K hK => ?_)
  go_simp
  refine (put_any u _ (by omega)).mono ?_
  rintro e v1 ⟨ad1, cp1, rfl, own1, bel1⟩
  have T1 := hid (Own.text own1)
  clear own1
  go_wp2_with fail
  refine ⟨bel1, ?_⟩
  refine wpAnyR_take 15 rfl (by kernel_rfl) (by kernel_rfl) (by kernel_rfl) (fun _ _ _ _ h => h) ?_
  apply Exists.intro
  refine ⟨Or.inl ⟨by rfl, fun w' hb => ?_⟩, ?_⟩
  · have ht := T1.out w' hb
    go_simp
    try with_reducible rfl
  apply Exists.intro
  refine ⟨?_, ?_⟩
  · (go_simp; try rfl)
  refine wpAnyR_only 17 rfl (by kernel_rfl) (by rfl) (fun K hK => ?_)
  go_simp
  refine (rput_any u _ (by omega)).mono ?_
  rintro e v2 ⟨ad2, cp2, rfl, own2, bel2⟩
  have T2 := hid (Own.text own2)
  clear own2
  go_wp2_with fail
  refine ⟨bel2, ?_⟩
  refine wpAnyR_take 18 rfl (by kernel_rfl) (by kernel_rfl) (by kernel_rfl) (fun _ _ _ _ h => h) ?_
  apply Exists.intro
  refine ⟨Or.inl ⟨by rfl, fun w' hb => ?_⟩, ?_⟩
  · have ht := T2.out w' hb
    go_simp
    try with_reducible rfl
  apply Exists.intro
  refine ⟨?_, ?_⟩
  · (go_simp; try rfl)
  refine wpAnyR_take 19 rfl (by kernel_rfl) (by kernel_rfl) (by kernel_rfl) (fun _ _ _ _ h => h) ?_
  apply Exists.intro
  refine ⟨Or.inl ⟨by rfl, fun w' hb => ?_⟩, ?_⟩
  · (go_simp; try with_reducible rfl)
  apply Exists.intro
  refine ⟨?_, ?_⟩
  · (go_simp; try rfl)
  refine wpAnyR_take 20 rfl (by kernel_rfl) (by kernel_rfl) (by kernel_rfl) (fun _ _ _ _ h => h) ?_
  apply Exists.intro
  refine ⟨Or.inl ⟨by rfl, fun w' hb => ?_⟩, ?_⟩
  · (go_simp; try with_reducible rfl)
  apply Exists.intro
  refine ⟨?_, ?_⟩
  · (go_simp; try rfl)
  refine wpAnyR_take 21 rfl (by kernel_rfl) (by kernel_rfl) (by kernel_rfl) (fun _ _ _ _ h => h) ?_
  apply Exists.intro
  refine ⟨Or.inl ⟨by rfl, fun w' hb => ?_⟩, ?_⟩
  · (go_simp; try with_reducible rfl)
  apply Exists.intro
  refine ⟨?_, ?_⟩
  · (go_simp; try rfl)
  refine wpAnyR_take 22 rfl (by kernel_rfl) (by kernel_rfl) (by kernel_rfl) (fun _ _ _ _ h => h) ?_
  apply Exists.intro
  refine ⟨Or.inl ⟨by rfl, fun w' hb => ?_⟩, ?_⟩
  · (go_simp; try with_reducible rfl)
  apply Exists.intro
  refine ⟨?_, ?_⟩
  · (go_simp; try rfl)
  refine wpAnyR_take 24 rfl (by kernel_rfl) (by kernel_rfl) (by kernel_rfl) (fun _ _ _ _ h => h) ?_
  apply Exists.intro
  refine ⟨Or.inl ⟨by rfl, fun w' hb => ?_⟩, ?_⟩
  · (go_simp; try with_reducible rfl)
  apply Exists.intro
  refine ⟨?_, ?_⟩
  · (go_simp; try rfl)
  refine wpAnyR_only 23 rfl (by kernel_rfl) (by rfl) (fun K hK => ?_)
  go_simp
  refine (size_any u _ (by omega)).mono ?_
  rintro e v ⟨rfl, rfl⟩
  go_wp2_with fail
  refine ⟨After.refl _, ?_⟩
  refine wpAnyR_only 25 rfl (by kernel_rfl) (by rfl) (fun K hK => ?_)
  go_simp
  refine (rput_any u _ (by omega)).mono ?_
  rintro e v3 ⟨ad3, cp3, rfl, own3, bel3⟩
  clear own3
  go_wp2_with fail
  refine ⟨bel3, ?_⟩
  refine wpAnyR_take 26 rfl (by kernel_rfl) (by kernel_rfl) (by kernel_rfl) (fun _ _ _ _ h => h) ?_
  apply Exists.intro
  refine ⟨Or.inl ⟨by rfl, fun w' hb => ?_⟩, ?_⟩
  · (go_simp; try with_reducible rfl)
  apply Exists.intro
  refine ⟨?_, ?_⟩
  · (go_simp; try rfl)
  refine wpAnyR_take 27 rfl (by kernel_rfl) (by kernel_rfl) (by kernel_rfl) (fun _ _ _ _ h => h) ?_
  apply Exists.intro
  refine ⟨Or.inl ⟨by rfl, fun w' hb => ?_⟩, ?_⟩
  · (go_simp; try with_reducible rfl)
  apply Exists.intro
  refine ⟨?_, ?_⟩
  · (go_simp; try rfl)
  refine wpAnyR_take 28 rfl (by kernel_rfl) (by kernel_rfl) (by kernel_rfl) (fun _ _ _ _ h => h) ?_
  apply Exists.intro
  refine ⟨Or.inl ⟨by rfl, fun w' hb => ?_⟩, ?_⟩
  · (go_simp; try with_reducible rfl)
  apply Exists.intro
  refine ⟨?_, ?_⟩
  · (go_simp; try rfl)
  refine wpAnyR_take 29 rfl (by kernel_rfl) (by kernel_rfl) (by kernel_rfl) (fun _ _ _ _ h => h) ?_
  apply Exists.intro
  refine ⟨Or.inl ⟨by rfl, fun w' hb => ?_⟩, ?_⟩
  · (go_simp; try with_reducible rfl)
  apply Exists.intro
  refine ⟨?_, ?_⟩
  · (go_simp; try rfl)
  refine wpAnyR_only 30 rfl (by kernel_rfl) (by rfl) (fun K hK => ?_)
  go_simp
  refine (knows03_any _).mono ?_
  rintro e v4 ⟨rfl, bel4⟩
  go_wp2_with fail
  refine ⟨bel4, ?_⟩
  refine wpAnyR_take 31 rfl (by kernel_rfl) (by kernel_rfl) (by kernel_rfl) (fun _ _ _ _ h => h) ?_
  apply Exists.intro
  refine ⟨Or.inl ⟨by rfl, fun w' hb => ?_⟩, ?_⟩
  · (go_simp; try with_reducible rfl)
  apply Exists.intro
  refine ⟨?_, ?_⟩
  · (go_simp; try rfl)
  refine wpAnyR_take 32 rfl (by kernel_rfl) (by kernel_rfl) (by kernel_rfl) (fun _ _ _ _ h => h) ?_
  apply Exists.intro
  refine ⟨Or.inl ⟨by rfl, fun w' hb => ?_⟩, ?_⟩
  · (go_simp; try with_reducible rfl)
  apply Exists.intro
  refine ⟨?_, ?_⟩
  · (go_simp; try rfl)
  refine wpAnyR_done (by kernel_rfl) ?_ _
  go_wp2_with fail
  go_ret
  exact ⟨rfl, bthen (Below.refl _ _).drew (bthen bel1 (bthen bel2 (bthen bel3 bel4)))⟩

end Go.Proofs.Ytdhebbflpdnfiaa
