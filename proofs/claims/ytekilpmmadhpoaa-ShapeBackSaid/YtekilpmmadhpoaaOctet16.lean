/- Package octet: a reader and a writer, whatever they have. -/
import Derived.Test.YtekilpmmadhpoaaOctet15
namespace Go.Proofs.Ytekilpmmadhpoaa
open Go.ChangeShapes Go.WideShapes Go.ChangeAt Go.RowKit Go.Shelf
set_option linter.unusedVariables false

def okR (zs : List Int) (bad : Bool) (n : Int) : Bool := !bad && decide (0 ≤ n ∧ n ≤ zs.length)
def okU (zs : List Int) (bad : Bool) (n : Int) : Bool := !bad && decide (1 ≤ n ∧ n ≤ 8 ∧ n ≤ zs.length)
def gotR (ok : Bool) (zs : List Int) (n : Int) : List Int := if ok then zs.drop n.toNat else []
theorem rdr_set {B B0 : Nat} {zs : List Int} {w : World} {a : Option Addr} {cap : Nat} (n : Nat) (h1 : B0 ≤ B) (hH : w.heap[B]? = some (.cells #[.bool true, .slice a zs.length cap, .bool false] 73 (0, 0))) {a' : Option Addr} {cap' : Nat} (hs : Sl .u8 w a' (zs.length - n) cap' (zs.drop n)) :
    Rdr B (w.setCell ⟨B, 1, none⟩ (.slice a' (zs.length - n) cap')) (zs.drop n) ∧ Br B B0 w (w.setCell ⟨B, 1, none⟩ (.slice a' (zs.length - n) cap')) := by
  have hd3 : (zs.drop n).length = zs.length - n := List.length_drop
  refine ⟨⟨a', cap', ?_, ?_⟩, ⟨(Below.refl B0 w).setCell (p := ⟨B, 1, none⟩) h1 _, rx_set _⟩⟩
  · rw [hd3]; exact held_set hH 1 _
  · rw [hd3]; exact sl_set hs (fun x h => by cases h) hH 1 _

theorem ru_st (B B0 : Nat) (zs : List Int) (bad : Bool) (n : Int) (w : World) (hR : RSt B w zs bad) (hz : ∀ x ∈ zs, (Lit.int .u8 x).wf = true) (hl : zs.length ≤ 1000000) (h1 : B0 ≤ B) :
    Calls Try.prog 46 #[.pointer (some ⟨B, 0, none⟩), .int .i64 n] w fun e w' => e = .returned (.int .u64 ((if okU zs bad n then numB (zs.take n.toNat) n.toNat else 0 : Nat) : Int)) ∧ RSt B w' (gotR (okU zs bad n) zs n) (!okU zs bad n) ∧ Br B B0 w w' := by
  cases bad
  case true =>
    exact (ru_failed B n w hR.1).mono fun e w' h => ⟨by rw [h.1]; rfl, by rw [h.2]; exact ⟨hR.1, rfl⟩, by rw [h.2]; exact Br.refl _ _ _⟩
  obtain ⟨a, cap, hH, hsl⟩ := hR
  by_cases c : 1 ≤ n ∧ n ≤ 8 ∧ n ≤ (zs.length : Int)
  · have e1 : okU zs false n = true := by simp [okU, c]
    obtain ⟨m, rfl⟩ : ∃ m : Nat, n = m := ⟨n.toNat, by omega⟩
    refine (ru_yes B zs m w a cap hH hsl hz (by omega) (by omega) (by omega) hl).mono ?_
    rintro e w' ⟨rfl, a', cap', rfl, hs⟩
    rw [e1]
    exact ⟨rfl, rdr_set m h1 hH hs⟩
  · have e1 : okU zs false n = false := by simp only [okU, Bool.not_false, Bool.true_and]; exact decide_eq_false c
    refine (ru_no B B0 a zs.length cap n (by omega) w h1 hH).mono ?_
    rintro e w' ⟨rfl, hF, hB⟩
    rw [e1]
    exact ⟨rfl, ⟨hF, rfl⟩, hB⟩
theorem ri_st (B B0 : Nat) (zs : List Int) (bad : Bool) (n : Int) (w : World) (hR : RSt B w zs bad) (hz : ∀ x ∈ zs, (Lit.int .u8 x).wf = true) (hl : zs.length ≤ 1000000) (h1 : B0 ≤ B) :
    Calls Try.prog 44 #[.pointer (some ⟨B, 0, none⟩), .int .i64 n] w fun e w' => e = .returned (.int .i64 (if okU zs bad n then sgn n.toNat (numB (zs.take n.toNat) n.toNat) else 0)) ∧ RSt B w' (gotR (okU zs bad n) zs n) (!okU zs bad n) ∧ Br B B0 w w' := by
  cases bad
  case true =>
    exact (ri_failed B n w hR.1).mono fun e w' h => ⟨by rw [h.1]; rfl, by rw [h.2]; exact ⟨hR.1, rfl⟩, by rw [h.2]; exact Br.refl _ _ _⟩
  obtain ⟨a, cap, hH, hsl⟩ := hR
  by_cases c : 1 ≤ n ∧ n ≤ 8 ∧ n ≤ (zs.length : Int)
  · have e1 : okU zs false n = true := by simp [okU, c]
    obtain ⟨m, rfl⟩ : ∃ m : Nat, n = m := ⟨n.toNat, by omega⟩
    refine (ri_yes B zs m w a cap hH hsl hz (by omega) (by omega) (by omega) hl).mono ?_
    rintro e w' ⟨rfl, a', cap', rfl, hs⟩
    rw [e1]
    exact ⟨rfl, rdr_set m h1 hH hs⟩
  · have e1 : okU zs false n = false := by simp only [okU, Bool.not_false, Bool.true_and]; exact decide_eq_false c
    refine (ri_no B B0 a zs.length cap n (by omega) w h1 hH).mono ?_
    rintro e w' ⟨rfl, hF, hB⟩
    rw [e1]
    exact ⟨rfl, ⟨hF, rfl⟩, hB⟩
theorem rfail_st (B : Nat) (zs : List Int) (bad : Bool) (w : World) (hR : RSt B w zs bad) : Calls Try.prog 52 #[.pointer (some ⟨B, 0, none⟩)] w fun e w' => e = .returned (.bool bad) ∧ w' = w := by
  cases bad
  · obtain ⟨a, cap, hH, hsl⟩ := hR
    exact rfail_good B _ w hH
  · exact rfail_failed B w hR.1

/-- What a writer has: these bytes, or it has failed. -/
def WSt (B base : Nat) (w : World) (zs : List Int) (bad : Bool) : Prop := B < w.heap.size ∧ base ≤ w.heap.size ∧ if bad then Failed 69 B w ∧ zs = [] else Wr B base w zs
theorem WSt.later {B base : Nat} {w w' : World} {zs : List Int} {bad : Bool} (h : WSt B base w zs bad) (hA : After w w') : WSt B base w' zs bad := by
  obtain ⟨hs, hb, h⟩ := h
  refine ⟨Nat.lt_of_lt_of_le hs hA.size, Nat.le_trans hb hA.size, ?_⟩
  cases bad
  · obtain ⟨a, cap, h1, h2⟩ := h
    exact ⟨a, cap, held_after hA h1, h2.below hA⟩
  · exact ⟨Failed.later h.1 hA, h.2⟩
def gotW (ok : Bool) (zs ys : List Int) : List Int := if ok then zs ++ ys else []
theorem wst_of {B base B0 : Nat} {w w' : World} {zs ys : List Int} {ok : Bool} (hs : B < w.heap.size) (hb : base ≤ w.heap.size) (h : WAft B base w' (zs ++ ys) ok) (hB : Bw B B0 w w') : WSt B base w' (gotW ok zs ys) (!ok) := by
  refine ⟨Nat.lt_of_lt_of_le hs hB.1.size, Nat.le_trans hb hB.1.size, ?_⟩
  cases ok
  · exact ⟨h, rfl⟩
  · exact h
theorem wu_st (B base B0 : Nat) (zs : List Int) (bad : Bool) (n u : Int) (hu0 : 0 ≤ u) (hu1 : u ≤ 18446744073709551615) (w : World) (hW : WSt B base w zs bad) (hl : zs.length ≤ 1000000) (h1 : B0 ≤ B) (h2 : B0 ≤ base) :
    Calls Try.prog 45 #[.pointer (some ⟨B, 0, none⟩), .int .i64 n, .int .u64 u] w fun e w' => e = .returned (.tuple #[]) ∧ WSt B base w' (gotW (!bad && fitU n u) zs (bytesL u n.toNat)) (!(!bad && fitU n u)) ∧ Bw B B0 w w' := by
  have hs := hW.1
  have hb := hW.2.1
  cases bad
  · exact (wu_any B base B0 zs n u hu0 hu1 w hW.2.2 hl h1 h2 hb).mono fun e w' h => ⟨h.1, wst_of hs hb h.2.1 h.2.2, h.2.2⟩
  · refine (wu_failed B n u w hu0 hu1 hW.2.2.1).mono fun e w' h => ⟨h.1, ?_, h.2.mono (by omega), Owp.after hs h.2⟩
    exact WSt.later (zs := []) (bad := true) ⟨hs, hb, hW.2.2.1, rfl⟩ h.2
theorem wi_st (B base B0 : Nat) (zs : List Int) (bad : Bool) (n i : Int) (hi0 : -9223372036854775808 ≤ i) (hi1 : i ≤ 9223372036854775807) (w : World) (hW : WSt B base w zs bad) (hl : zs.length ≤ 1000000) (h1 : B0 ≤ B) (h2 : B0 ≤ base) :
    Calls Try.prog 43 #[.pointer (some ⟨B, 0, none⟩), .int .i64 n, .int .i64 i] w fun e w' => e = .returned (.tuple #[]) ∧ WSt B base w' (gotW (!bad && fitI n i) zs (bytesL (wrapU i) n.toNat)) (!(!bad && fitI n i)) ∧ Bw B B0 w w' := by
  have hs := hW.1
  have hb := hW.2.1
  cases bad
  · exact (wi_any B base B0 zs n i hi0 hi1 w hW.2.2 hl h1 h2 hb).mono fun e w' h => ⟨h.1, wst_of hs hb h.2.1 h.2.2, h.2.2⟩
  · refine (wi_failed B n i w hi0 hi1 hW.2.2.1).mono fun e w' h => ⟨h.1, ?_, h.2.mono (by omega), Owp.after hs h.2⟩
    exact WSt.later (zs := []) (bad := true) ⟨hs, hb, hW.2.2.1, rfl⟩ h.2
theorem wbytes_st (B base : Nat) (zs : List Int) (bad : Bool) (w : World) (hl : zs.length ≤ 1000000) (hW : WSt B base w zs bad) : Calls Try.prog 31 #[.pointer (some ⟨B, 0, none⟩)] w (BytesOk w zs) := by
  cases bad
  · exact wbytes_good B base zs w hl hW.2.2
  · obtain ⟨_, _, hF, rfl⟩ := hW
    refine (wbytes_failed B w hF).mono fun e w' h => ⟨none, 0, h.1, ?_, by rw [h.2]; exact Below.refl _ _⟩
    exact Own.nil _ _ _ _
theorem wfail_st (B base : Nat) (zs : List Int) (bad : Bool) (w : World) (hW : WSt B base w zs bad) : Calls Try.prog 39 #[.pointer (some ⟨B, 0, none⟩)] w fun e w' => e = .returned (.bool bad) ∧ w' = w := by
  cases bad
  · obtain ⟨_, _, a, cap, hH, hO⟩ := hW
    exact wfail_good B _ w hH
  · exact wfail_failed B w hW.2.2.1

end Go.Proofs.Ytekilpmmadhpoaa
