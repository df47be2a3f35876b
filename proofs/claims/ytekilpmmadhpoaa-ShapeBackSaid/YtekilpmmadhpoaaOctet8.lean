/- Package octet: a writer's U, in whatever state. -/
import Derived.Test.YtekilpmmadhpoaaOctet7
import Derived.Laws.BitsAllLaws
import Derived.Laws.ShiftsVarLaws
namespace Go.Proofs.Ytekilpmmadhpoaa
open Go.ChangeShapes Go.WideShapes Go.ChangeAt Go.RowKit Go.Shelf
set_option linter.unusedVariables false

/-- Does a number fit n bytes? -/
def fitU (n u : Int) : Bool := decide (1 ≤ n ∧ n ≤ 8 ∧ u < 256 ^ n.toNat)
/-- What a writer has behind a call: more, or it has failed. -/
def WAft (B base : Nat) (w : World) (zs : List Int) (ok : Bool) : Prop := if ok then Wr B base w zs else Failed 69 B w
theorem put_any (B base B0 : Nat) (zs : List Int) (n : Nat) (hn : n ≤ 8) (u : Int) (hu0 : 0 ≤ u) (hu1 : u ≤ 18446744073709551615) (b : Bool) (w : World) (hW : Wr B base w zs) (hl : zs.length ≤ 1000000) (h1 : B0 ≤ B) (h2 : B0 ≤ base) (h3 : base ≤ w.heap.size) :
    Calls Try.prog 49 #[.pointer (some ⟨B, 0, none⟩), .int .i64 (n : Int), .int .u64 u, .bool b] w fun e w' => e = .returned (.tuple #[]) ∧ WAft B base w' (zs ++ bytesL u n) b ∧ Bw B B0 w w' := by
  cases b
  · obtain ⟨a, cap, hH, hO⟩ := hW
    exact put_no B B0 _ n u w h1 hH
  · exact (put_good B base B0 zs n hn u hu0 hu1 w hW hl h1 h2 h3).mono fun e w' h => ⟨h.1, h.2.1, h.2.2.1⟩

set_option maxHeartbeats 2000000 in
theorem wu_any (B base B0 : Nat) (zs : List Int) (n u : Int) (hu0 : 0 ≤ u) (hu1 : u ≤ 18446744073709551615) (w : World) (hW : Wr B base w zs) (hl : zs.length ≤ 1000000) (h1 : B0 ≤ B) (h2 : B0 ≤ base) (h3 : base ≤ w.heap.size) :
    Calls Try.prog 45 #[.pointer (some ⟨B, 0, none⟩), .int .i64 n, .int .u64 u] w fun e w' => e = .returned (.tuple #[]) ∧ WAft B base w' (zs ++ bytesL u n.toNat) (fitU n u) ∧ Bw B B0 w w' := by
  have k1 := sized4_any n w
  by_cases c : sizedS n = true
  · rw [c] at k1
    obtain ⟨c1, c2⟩ := of_decide_eq_true c
    clear c
    obtain rfl | rfl | rfl | rfl | rfl | rfl | rfl | rfl : n = 1 ∨ n = 2 ∨ n = 3 ∨ n = 4 ∨ n = 5 ∨ n = 6 ∨ n = 7 ∨ n = 8 := by omega
    · have e256 : (256 : Int) ^ (1 : Int).toNat = 256 := by decide
      have k2 := fun b => put_any B base B0 zs 1 (by omega) u hu0 hu1 b w hW hl h1 h2 h3
      clear hW
      by_cases hf : u < 256
      · have eF := hid (show fitU 1 u = true from decide_eq_true ⟨by omega, by omega, by rw [e256]; exact hf⟩)
        have hq : u / 256 = 0 := by omega
        have hq2 : (u / 256 == 0) = true := by simpa using hq
        clear hq e256
        have k3 := k2 true
        clear k2
        go_enter Try.func45, Try.ntmps45
        go_wp2_with fail
        refine k1.mono ?_
        rintro e w2 ⟨rfl, rfl⟩
        go_wp2_with fail
        refine k3.mono ?_
        rintro e w3 ⟨rfl, hs, hB⟩
        replace hs := hid hs
        go_wp2_with fail
        go_end0
        refine ⟨rfl, ?_, hB⟩
        rw [eF.out]
        exact hs.out
      · have eF := hid (show fitU 1 u = false from decide_eq_false fun h => hf (by have := h.2.2; rw [e256] at this; exact this))
        have hq2 : (u / 256 == 0) = false := by simp; omega
        clear e256
        have k3 := k2 false
        clear k2
        go_enter Try.func45, Try.ntmps45
        go_wp2_with fail
        refine k1.mono ?_
        rintro e w2 ⟨rfl, rfl⟩
        go_wp2_with fail
        refine k3.mono ?_
        rintro e w3 ⟨rfl, hs, hB⟩
        replace hs := hid hs
        go_wp2_with fail
        go_end0
        refine ⟨rfl, ?_, hB⟩
        rw [eF.out]
        exact hs.out
    · have e256 : (256 : Int) ^ (2 : Int).toNat = 65536 := by decide
      have k2 := fun b => put_any B base B0 zs 2 (by omega) u hu0 hu1 b w hW hl h1 h2 h3
      clear hW
      by_cases hf : u < 65536
      · have eF := hid (show fitU 2 u = true from decide_eq_true ⟨by omega, by omega, by rw [e256]; exact hf⟩)
        have hq : u / 65536 = 0 := by omega
        have hq2 : (u / 65536 == 0) = true := by simpa using hq
        clear hq e256
        have k3 := k2 true
        clear k2
        go_enter Try.func45, Try.ntmps45
        go_wp2_with fail
        refine k1.mono ?_
        rintro e w2 ⟨rfl, rfl⟩
        go_wp2_with fail
        refine k3.mono ?_
        rintro e w3 ⟨rfl, hs, hB⟩
        replace hs := hid hs
        go_wp2_with fail
        go_end0
        refine ⟨rfl, ?_, hB⟩
        rw [eF.out]
        exact hs.out
      · have eF := hid (show fitU 2 u = false from decide_eq_false fun h => hf (by have := h.2.2; rw [e256] at this; exact this))
        have hq2 : (u / 65536 == 0) = false := by simp; omega
        clear e256
        have k3 := k2 false
        clear k2
        go_enter Try.func45, Try.ntmps45
        go_wp2_with fail
        refine k1.mono ?_
        rintro e w2 ⟨rfl, rfl⟩
        go_wp2_with fail
        refine k3.mono ?_
        rintro e w3 ⟨rfl, hs, hB⟩
        replace hs := hid hs
        go_wp2_with fail
        go_end0
        refine ⟨rfl, ?_, hB⟩
        rw [eF.out]
        exact hs.out
    · have e256 : (256 : Int) ^ (3 : Int).toNat = 16777216 := by decide
      have k2 := fun b => put_any B base B0 zs 3 (by omega) u hu0 hu1 b w hW hl h1 h2 h3
      clear hW
      by_cases hf : u < 16777216
      · have eF := hid (show fitU 3 u = true from decide_eq_true ⟨by omega, by omega, by rw [e256]; exact hf⟩)
        have hq : u / 16777216 = 0 := by omega
        have hq2 : (u / 16777216 == 0) = true := by simpa using hq
        clear hq e256
        have k3 := k2 true
        clear k2
        go_enter Try.func45, Try.ntmps45
        go_wp2_with fail
        refine k1.mono ?_
        rintro e w2 ⟨rfl, rfl⟩
        go_wp2_with fail
        refine k3.mono ?_
        rintro e w3 ⟨rfl, hs, hB⟩
        replace hs := hid hs
        go_wp2_with fail
        go_end0
        refine ⟨rfl, ?_, hB⟩
        rw [eF.out]
        exact hs.out
      · have eF := hid (show fitU 3 u = false from decide_eq_false fun h => hf (by have := h.2.2; rw [e256] at this; exact this))
        have hq2 : (u / 16777216 == 0) = false := by simp; omega
        clear e256
        have k3 := k2 false
        clear k2
        go_enter Try.func45, Try.ntmps45
        go_wp2_with fail
        refine k1.mono ?_
        rintro e w2 ⟨rfl, rfl⟩
        go_wp2_with fail
        refine k3.mono ?_
        rintro e w3 ⟨rfl, hs, hB⟩
        replace hs := hid hs
        go_wp2_with fail
        go_end0
        refine ⟨rfl, ?_, hB⟩
        rw [eF.out]
        exact hs.out
    · have e256 : (256 : Int) ^ (4 : Int).toNat = 4294967296 := by decide
      have k2 := fun b => put_any B base B0 zs 4 (by omega) u hu0 hu1 b w hW hl h1 h2 h3
      clear hW
      by_cases hf : u < 4294967296
      · have eF := hid (show fitU 4 u = true from decide_eq_true ⟨by omega, by omega, by rw [e256]; exact hf⟩)
        have hq : u / 4294967296 = 0 := by omega
        have hq2 : (u / 4294967296 == 0) = true := by simpa using hq
        clear hq e256
        have k3 := k2 true
        clear k2
        go_enter Try.func45, Try.ntmps45
        go_wp2_with fail
        refine k1.mono ?_
        rintro e w2 ⟨rfl, rfl⟩
        go_wp2_with fail
        refine k3.mono ?_
        rintro e w3 ⟨rfl, hs, hB⟩
        replace hs := hid hs
        go_wp2_with fail
        go_end0
        refine ⟨rfl, ?_, hB⟩
        rw [eF.out]
        exact hs.out
      · have eF := hid (show fitU 4 u = false from decide_eq_false fun h => hf (by have := h.2.2; rw [e256] at this; exact this))
        have hq2 : (u / 4294967296 == 0) = false := by simp; omega
        clear e256
        have k3 := k2 false
        clear k2
        go_enter Try.func45, Try.ntmps45
        go_wp2_with fail
        refine k1.mono ?_
        rintro e w2 ⟨rfl, rfl⟩
        go_wp2_with fail
        refine k3.mono ?_
        rintro e w3 ⟨rfl, hs, hB⟩
        replace hs := hid hs
        go_wp2_with fail
        go_end0
        refine ⟨rfl, ?_, hB⟩
        rw [eF.out]
        exact hs.out
    · have e256 : (256 : Int) ^ (5 : Int).toNat = 1099511627776 := by decide
      have k2 := fun b => put_any B base B0 zs 5 (by omega) u hu0 hu1 b w hW hl h1 h2 h3
      clear hW
      by_cases hf : u < 1099511627776
      · have eF := hid (show fitU 5 u = true from decide_eq_true ⟨by omega, by omega, by rw [e256]; exact hf⟩)
        have hq : u / 1099511627776 = 0 := by omega
        have hq2 : (u / 1099511627776 == 0) = true := by simpa using hq
        clear hq e256
        have k3 := k2 true
        clear k2
        go_enter Try.func45, Try.ntmps45
        go_wp2_with fail
        refine k1.mono ?_
        rintro e w2 ⟨rfl, rfl⟩
        go_wp2_with fail
        refine k3.mono ?_
        rintro e w3 ⟨rfl, hs, hB⟩
        replace hs := hid hs
        go_wp2_with fail
        go_end0
        refine ⟨rfl, ?_, hB⟩
        rw [eF.out]
        exact hs.out
      · have eF := hid (show fitU 5 u = false from decide_eq_false fun h => hf (by have := h.2.2; rw [e256] at this; exact this))
        have hq2 : (u / 1099511627776 == 0) = false := by simp; omega
        clear e256
        have k3 := k2 false
        clear k2
        go_enter Try.func45, Try.ntmps45
        go_wp2_with fail
        refine k1.mono ?_
        rintro e w2 ⟨rfl, rfl⟩
        go_wp2_with fail
        refine k3.mono ?_
        rintro e w3 ⟨rfl, hs, hB⟩
        replace hs := hid hs
        go_wp2_with fail
        go_end0
        refine ⟨rfl, ?_, hB⟩
        rw [eF.out]
        exact hs.out
    · have e256 : (256 : Int) ^ (6 : Int).toNat = 281474976710656 := by decide
      have k2 := fun b => put_any B base B0 zs 6 (by omega) u hu0 hu1 b w hW hl h1 h2 h3
      clear hW
      by_cases hf : u < 281474976710656
      · have eF := hid (show fitU 6 u = true from decide_eq_true ⟨by omega, by omega, by rw [e256]; exact hf⟩)
        have hq : u / 281474976710656 = 0 := by omega
        have hq2 : (u / 281474976710656 == 0) = true := by simpa using hq
        clear hq e256
        have k3 := k2 true
        clear k2
        go_enter Try.func45, Try.ntmps45
        go_wp2_with fail
        refine k1.mono ?_
        rintro e w2 ⟨rfl, rfl⟩
        go_wp2_with fail
        refine k3.mono ?_
        rintro e w3 ⟨rfl, hs, hB⟩
        replace hs := hid hs
        go_wp2_with fail
        go_end0
        refine ⟨rfl, ?_, hB⟩
        rw [eF.out]
        exact hs.out
      · have eF := hid (show fitU 6 u = false from decide_eq_false fun h => hf (by have := h.2.2; rw [e256] at this; exact this))
        have hq2 : (u / 281474976710656 == 0) = false := by simp; omega
        clear e256
        have k3 := k2 false
        clear k2
        go_enter Try.func45, Try.ntmps45
        go_wp2_with fail
        refine k1.mono ?_
        rintro e w2 ⟨rfl, rfl⟩
        go_wp2_with fail
        refine k3.mono ?_
        rintro e w3 ⟨rfl, hs, hB⟩
        replace hs := hid hs
        go_wp2_with fail
        go_end0
        refine ⟨rfl, ?_, hB⟩
        rw [eF.out]
        exact hs.out
    · have e256 : (256 : Int) ^ (7 : Int).toNat = 72057594037927936 := by decide
      have k2 := fun b => put_any B base B0 zs 7 (by omega) u hu0 hu1 b w hW hl h1 h2 h3
      clear hW
      by_cases hf : u < 72057594037927936
      · have eF := hid (show fitU 7 u = true from decide_eq_true ⟨by omega, by omega, by rw [e256]; exact hf⟩)
        have hq : u / 72057594037927936 = 0 := by omega
        have hq2 : (u / 72057594037927936 == 0) = true := by simpa using hq
        clear hq e256
        have k3 := k2 true
        clear k2
        go_enter Try.func45, Try.ntmps45
        go_wp2_with fail
        refine k1.mono ?_
        rintro e w2 ⟨rfl, rfl⟩
        go_wp2_with fail
        refine k3.mono ?_
        rintro e w3 ⟨rfl, hs, hB⟩
        replace hs := hid hs
        go_wp2_with fail
        go_end0
        refine ⟨rfl, ?_, hB⟩
        rw [eF.out]
        exact hs.out
      · have eF := hid (show fitU 7 u = false from decide_eq_false fun h => hf (by have := h.2.2; rw [e256] at this; exact this))
        have hq2 : (u / 72057594037927936 == 0) = false := by simp; omega
        clear e256
        have k3 := k2 false
        clear k2
        go_enter Try.func45, Try.ntmps45
        go_wp2_with fail
        refine k1.mono ?_
        rintro e w2 ⟨rfl, rfl⟩
        go_wp2_with fail
        refine k3.mono ?_
        rintro e w3 ⟨rfl, hs, hB⟩
        replace hs := hid hs
        go_wp2_with fail
        go_end0
        refine ⟨rfl, ?_, hB⟩
        rw [eF.out]
        exact hs.out
    · have e256 : (256 : Int) ^ (8 : Int).toNat = 18446744073709551616 := by decide
      have k2 := fun b => put_any B base B0 zs 8 (by omega) u hu0 hu1 b w hW hl h1 h2 h3
      clear hW
      by_cases hf : u < 18446744073709551616
      · have eF := hid (show fitU 8 u = true from decide_eq_true ⟨by omega, by omega, by rw [e256]; exact hf⟩)
        have hq : u / 18446744073709551616 = 0 := by omega
        have hq2 : (u / 18446744073709551616 == 0) = true := by simpa using hq
        clear hq e256
        have k3 := k2 true
        clear k2
        go_enter Try.func45, Try.ntmps45
        go_wp2_with fail
        refine k1.mono ?_
        rintro e w2 ⟨rfl, rfl⟩
        go_wp2_with fail
        refine k3.mono ?_
        rintro e w3 ⟨rfl, hs, hB⟩
        replace hs := hid hs
        go_wp2_with fail
        go_end0
        refine ⟨rfl, ?_, hB⟩
        rw [eF.out]
        exact hs.out
      · omega
  · have c2 := Bool.not_eq_true _ ▸ c
    rw [c2] at k1
    have eF := hid (show fitU n u = false from decide_eq_false fun h => c (decide_eq_true ⟨h.1, h.2.1⟩))
    obtain ⟨a, cap, hH, hO⟩ := hW
    have k3 := put_no B B0 _ n u w h1 hH
    clear c c2 hH hO
    go_enter Try.func45, Try.ntmps45
    go_wp2_with fail
    refine k1.mono ?_
    rintro e w2 ⟨rfl, rfl⟩
    go_wp2_with fail
    refine k3.mono ?_
    rintro e w3 ⟨rfl, hs, hB⟩
    replace hs := hid hs
    go_wp2_with fail
    go_end0
    refine ⟨rfl, ?_, hB⟩
    rw [eF.out]
    exact hs.out

end Go.Proofs.Ytekilpmmadhpoaa
