/- The law VaryTakes, walked: it returns true. -/
import Derived.Test.YtdhebbflpdnfiaaLaw03
namespace Go.Proofs.Ytdhebbflpdnfiaa
open Go.ChangeShapes Go.WideShapes Go.ChangeAt Go.RowKit
set_option linter.unusedVariables false

set_option maxRecDepth 100000 in
set_option maxHeartbeats 2000000 in
theorem law_VaryTakes (a0 : Option Addr) (len0 cap0 : Nat) (z0 : List Int) (a1 : Int) (w : World) (w0 : IsRow .u8 w a0 len0 cap0 z0) (w1 : (Lit.int .i64 a1).wf = true) :
    Calls Try.prog 4 #[.slice a0 len0 cap0, .int .i64 a1] w fun e w' => e = .returned (.bool true) ∧ Below w.heap.size w w' := by
  obtain ⟨b1, b2⟩ := bounds_i64 w1
  obtain ⟨hsl, hz⟩ := w0.sl
  clear w0
  generalize z0.take len0 = zs at *
  have hmax := hsl.2.1
  have hmax2 := hsl.2.2.1
  unfold maxLen at hmax2
  by_cases c : (1000 : Int) < len0
  · go_enter Try.func4, Try.ntmps4
    go_wp2_with fail
    refine (knows03_any _).mono ?_
    rintro e w1 ⟨rfl, hb⟩
    go_wp2_with fail
    go_ret
    exact ⟨rfl, hb⟩
  · have hl1 : (parseS zs a1).1.length ≤ 1000000 := parse_len zs a1 (by have := hsl.1; omega) (fun c hc => bounds_u8 (hz c hc))
    have hee : ∀ r : Nat × Nat × Nat, takeS zs 0 0 = r → r.2.2 ≤ 3 := fun r hr => by
      subst hr; by_cases h : (takeS zs 0 0).2.2 = 0
      · omega
      · have := (takeS_err zs 0 0 h).2.2; omega
    have hpe := parse_err zs a1
    go_enter Try.func4, Try.ntmps4
    go_wp2_with fail
    refine (knows03_any _).mono ?_
    rintro e w1 ⟨rfl, hb⟩
    have hsl1 := hsl.below hb
    have HT := hid (take_any _ _ _ zs w1 (by omega) hsl1 hz)
    have HT2 := hid (rtake_any _ _ _ zs w1 (by omega) hsl1 hz)
    generalize HR : takeS zs 0 0 = r at *
    have hr3 := hee r rfl
    clear HR hee
    obtain ⟨tu, tk, te⟩ := r
    have hr3 : te ≤ 3 := hr3
    go_wp2_with fail
    refine Calls.mono HT.out ?_
    rintro e w2 ⟨rfl, rfl⟩
    unfold takeV
    go_wp2_with fail
    refine Calls.mono HT2.out ?_
    rintro e w3 ⟨rfl, rfl⟩
    unfold takeV
    go_wp2_with fail
    refine (parse_any _ _ _ zs a1 _ b1 b2 (by omega) hsl1 hz).mono ?_
    rintro e w4 ⟨p1, q1, rfl, own1, bel1⟩
    go_wp2_with fail
    refine (rparse_any _ _ _ zs a1 _ b1 b2 (by omega) (hsl1.below bel1) hz).mono ?_
    rintro e w5 ⟨p2, q2, rfl, own2, bel2⟩
    generalize parseS zs a1 = pr at *
    obtain ⟨pl, pk, pe⟩ := pr
    have hpe : pe ≤ 3 := hpe
    have own1 : Own .i64 2 w4 _ (.slice p1 pl.length q1) pl := own1
    have own2 : Own .i64 2 w5 _ (.slice p2 pl.length q2) pl := own2
    obtain ⟨_, _, hv1, hs1⟩ := own1.sl
    cases hv1
    obtain ⟨_, _, hv2, hs2⟩ := own2.sl
    cases hv2
    have hl1 : pl.length ≤ 1000000 := hl1
    have hs1 := hs1.below bel2
    clear own1 own2
    have HS := hid (fun W (h : After w5 W) => same_any p1 p2 _ _ _ _ pl pl W (hs1.below h) (hs2.below h) hl1 hl1)
    go_wp2_with fail
    refine (num_any _ _ (by omega) (by omega)).mono ?_
    rintro e w6 ⟨rfl, rfl⟩
    go_wp2_with fail
    refine (num_any _ _ (by omega) (by omega)).mono ?_
    rintro e w6 ⟨rfl, rfl⟩
    go_wp2_with fail
    refine (HS.out _ (After.refl _)).mono ?_
    rintro e w7 ⟨rfl, kk, rfl⟩
    simp only [decide_true]
    go_wp2_with fail
    refine (num_any _ _ (by omega) (by omega)).mono ?_
    rintro e w8 ⟨rfl, rfl⟩
    go_wp2_with fail
    refine (num_any _ _ (by omega) (by omega)).mono ?_
    rintro e w8 ⟨rfl, rfl⟩
    go_wp2_with fail
    go_ret
    exact ⟨rfl, bthen hb (bthen bel1 (bthen bel2 (bdrewN (Below.refl _ _) _)))⟩

end Go.Proofs.Ytdhebbflpdnfiaa
