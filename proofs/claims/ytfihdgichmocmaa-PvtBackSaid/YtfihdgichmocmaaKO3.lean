/- Several texts in one: Octet9, Octet10, Octet11, Octet12. -/
import Derived.Test.YtfihdgichmocmaaKO2
import Derived.Test.YtfihdgichmocmaaKA

/- Package octet: a writer's I. -/
namespace Go.Proofs.Ytfihdgichmocmaa
open Go.ChangeShapes Go.WideShapes Go.ChangeAt Go.RowKit Go.Shelf
set_option linter.unusedVariables false

/-- Does a number with a sign fit n bytes? -/
def fitI (n i : Int) : Bool := decide (1 ≤ n ∧ n ≤ 8 ∧ -(128 * 256 ^ (n.toNat - 1)) ≤ i ∧ i < 128 * 256 ^ (n.toNat - 1))
def wrapU (i : Int) : Int := i % 18446744073709551616
theorem wrapU_is (i : Int) : IntKind.u64.wrap i = wrapU i := by simp [IntKind.wrap, IntKind.bits, IntKind.signed, wrapU]
theorem wrapU_b (i : Int) : 0 ≤ wrapU i ∧ wrapU i ≤ 18446744073709551615 := by unfold wrapU; omega

set_option maxHeartbeats 4000000 in
theorem wi_any (B base B0 : Nat) (zs : List Int) (n i : Int) (hi0 : -9223372036854775808 ≤ i) (hi1 : i ≤ 9223372036854775807) (w : World) (hW : Wr B base w zs) (hl : zs.length ≤ 1000000) (h1 : B0 ≤ B) (h2 : B0 ≤ base) (h3 : base ≤ w.heap.size) :
    Calls Try.prog 66 #[.pointer (some ⟨B, 0, none⟩), .int .i64 n, .int .i64 i] w fun e w' => e = .returned (.tuple #[]) ∧ WAft B base w' (zs ++ bytesL (wrapU i) n.toNat) (fitI n i) ∧ Bw B B0 w w' := by
  have k1 := sized4_any n w
  have hc := wrapU_is i
  have hcb := wrapU_b i
  generalize hcc : wrapU i = c at *
  clear hcc
  by_cases cz : sizedS n = true
  · rw [cz] at k1
    obtain ⟨c1, c2⟩ := of_decide_eq_true cz
    clear cz
    obtain rfl | rfl | rfl | rfl | rfl | rfl | rfl | rfl : n = 1 ∨ n = 2 ∨ n = 3 ∨ n = 4 ∨ n = 5 ∨ n = 6 ∨ n = 7 ∨ n = 8 := by omega
    · have e256 : (128 : Int) * 256 ^ ((1 : Int).toNat - 1) = 128 := by decide
      have k2 := fun b => put_any B base B0 zs 1 (by omega) c hcb.1 hcb.2 b w hW hl h1 h2 h3
      clear hW hcb
      by_cases hf : 0 ≤ i ∧ i < 128
      · have eF := hid (show fitI 1 i = true from decide_eq_true ⟨by omega, by omega, by rw [e256]; omega, by rw [e256]; exact hf.2⟩)
        have hq2 : (i / 128 == 0) = true := by simp; omega
        clear e256
        have k3 := k2 true
        clear k2
        go_enter Try.func66, Try.ntmps66
        go_wp2_with fail
        refine k1.mono ?_
        rintro e w2 ⟨rfl, rfl⟩
        go_wp2_with fail
        refine k3.mono ?_
        rintro e w3 ⟨rfl, hs, hB⟩
        replace hs := hid hs
        go_wp2_with fail
        go_end0
        refine ⟨rfl, ?_, hB⟩
        rw [eF.out]
        exact hs.out
      by_cases hg : -128 ≤ i ∧ i < 0
      · have eF := hid (show fitI 1 i = true from decide_eq_true ⟨by omega, by omega, by rw [e256]; exact hg.1, by rw [e256]; omega⟩)
        have hq2 : (i / 128 == 0) = false := by simp; omega
        have hq3 : (i / 128 == -1) = true := by simp; omega
        clear e256
        have k3 := k2 true
        clear k2
        go_enter Try.func66, Try.ntmps66
        go_wp2_with fail
        refine k1.mono ?_
        rintro e w2 ⟨rfl, rfl⟩
        go_wp2_with fail
        refine k3.mono ?_
        rintro e w3 ⟨rfl, hs, hB⟩
        replace hs := hid hs
        go_wp2_with fail
        go_end0
        refine ⟨rfl, ?_, hB⟩
        rw [eF.out]
        exact hs.out
      · have eF := hid (show fitI 1 i = false from decide_eq_false fun h => by have h3 := h.2.2; rw [e256] at h3; omega)
        have hq2 : (i / 128 == 0) = false := by simp; omega
        have hq3 : (i / 128 == -1) = false := by simp; omega
        clear e256
        have k3 := k2 false
        clear k2
        go_enter Try.func66, Try.ntmps66
        go_wp2_with fail
        refine k1.mono ?_
        rintro e w2 ⟨rfl, rfl⟩
        go_wp2_with fail
        refine k3.mono ?_
        rintro e w3 ⟨rfl, hs, hB⟩
        replace hs := hid hs
        go_wp2_with fail
        go_end0
        refine ⟨rfl, ?_, hB⟩
        rw [eF.out]
        exact hs.out
    · have e256 : (128 : Int) * 256 ^ ((2 : Int).toNat - 1) = 32768 := by decide
      have k2 := fun b => put_any B base B0 zs 2 (by omega) c hcb.1 hcb.2 b w hW hl h1 h2 h3
      clear hW hcb
      by_cases hf : 0 ≤ i ∧ i < 32768
      · have eF := hid (show fitI 2 i = true from decide_eq_true ⟨by omega, by omega, by rw [e256]; omega, by rw [e256]; exact hf.2⟩)
        have hq2 : (i / 32768 == 0) = true := by simp; omega
        clear e256
        have k3 := k2 true
        clear k2
        go_enter Try.func66, Try.ntmps66
        go_wp2_with fail
        refine k1.mono ?_
        rintro e w2 ⟨rfl, rfl⟩
        go_wp2_with fail
        refine k3.mono ?_
        rintro e w3 ⟨rfl, hs, hB⟩
        replace hs := hid hs
        go_wp2_with fail
        go_end0
        refine ⟨rfl, ?_, hB⟩
        rw [eF.out]
        exact hs.out
      by_cases hg : -32768 ≤ i ∧ i < 0
      · have eF := hid (show fitI 2 i = true from decide_eq_true ⟨by omega, by omega, by rw [e256]; exact hg.1, by rw [e256]; omega⟩)
        have hq2 : (i / 32768 == 0) = false := by simp; omega
        have hq3 : (i / 32768 == -1) = true := by simp; omega
        clear e256
        have k3 := k2 true
        clear k2
        go_enter Try.func66, Try.ntmps66
        go_wp2_with fail
        refine k1.mono ?_
        rintro e w2 ⟨rfl, rfl⟩
        go_wp2_with fail
        refine k3.mono ?_
        rintro e w3 ⟨rfl, hs, hB⟩
        replace hs := hid hs
        go_wp2_with fail
        go_end0
        refine ⟨rfl, ?_, hB⟩
        rw [eF.out]
        exact hs.out
      · have eF := hid (show fitI 2 i = false from decide_eq_false fun h => by have h3 := h.2.2; rw [e256] at h3; omega)
        have hq2 : (i / 32768 == 0) = false := by simp; omega
        have hq3 : (i / 32768 == -1) = false := by simp; omega
        clear e256
        have k3 := k2 false
        clear k2
        go_enter Try.func66, Try.ntmps66
        go_wp2_with fail
        refine k1.mono ?_
        rintro e w2 ⟨rfl, rfl⟩
        go_wp2_with fail
        refine k3.mono ?_
        rintro e w3 ⟨rfl, hs, hB⟩
        replace hs := hid hs
        go_wp2_with fail
        go_end0
        refine ⟨rfl, ?_, hB⟩
        rw [eF.out]
        exact hs.out
    · have e256 : (128 : Int) * 256 ^ ((3 : Int).toNat - 1) = 8388608 := by decide
      have k2 := fun b => put_any B base B0 zs 3 (by omega) c hcb.1 hcb.2 b w hW hl h1 h2 h3
      clear hW hcb
      by_cases hf : 0 ≤ i ∧ i < 8388608
      · have eF := hid (show fitI 3 i = true from decide_eq_true ⟨by omega, by omega, by rw [e256]; omega, by rw [e256]; exact hf.2⟩)
        have hq2 : (i / 8388608 == 0) = true := by simp; omega
        clear e256
        have k3 := k2 true
        clear k2
        go_enter Try.func66, Try.ntmps66
        go_wp2_with fail
        refine k1.mono ?_
        rintro e w2 ⟨rfl, rfl⟩
        go_wp2_with fail
        refine k3.mono ?_
        rintro e w3 ⟨rfl, hs, hB⟩
        replace hs := hid hs
        go_wp2_with fail
        go_end0
        refine ⟨rfl, ?_, hB⟩
        rw [eF.out]
        exact hs.out
      by_cases hg : -8388608 ≤ i ∧ i < 0
      · have eF := hid (show fitI 3 i = true from decide_eq_true ⟨by omega, by omega, by rw [e256]; exact hg.1, by rw [e256]; omega⟩)
        have hq2 : (i / 8388608 == 0) = false := by simp; omega
        have hq3 : (i / 8388608 == -1) = true := by simp; omega
        clear e256
        have k3 := k2 true
        clear k2
        go_enter Try.func66, Try.ntmps66
        go_wp2_with fail
        refine k1.mono ?_
        rintro e w2 ⟨rfl, rfl⟩
        go_wp2_with fail
        refine k3.mono ?_
        rintro e w3 ⟨rfl, hs, hB⟩
        replace hs := hid hs
        go_wp2_with fail
        go_end0
        refine ⟨rfl, ?_, hB⟩
        rw [eF.out]
        exact hs.out
      · have eF := hid (show fitI 3 i = false from decide_eq_false fun h => by have h3 := h.2.2; rw [e256] at h3; omega)
        have hq2 : (i / 8388608 == 0) = false := by simp; omega
        have hq3 : (i / 8388608 == -1) = false := by simp; omega
        clear e256
        have k3 := k2 false
        clear k2
        go_enter Try.func66, Try.ntmps66
        go_wp2_with fail
        refine k1.mono ?_
        rintro e w2 ⟨rfl, rfl⟩
        go_wp2_with fail
        refine k3.mono ?_
        rintro e w3 ⟨rfl, hs, hB⟩
        replace hs := hid hs
        go_wp2_with fail
        go_end0
        refine ⟨rfl, ?_, hB⟩
        rw [eF.out]
        exact hs.out
    · have e256 : (128 : Int) * 256 ^ ((4 : Int).toNat - 1) = 2147483648 := by decide
      have k2 := fun b => put_any B base B0 zs 4 (by omega) c hcb.1 hcb.2 b w hW hl h1 h2 h3
      clear hW hcb
      by_cases hf : 0 ≤ i ∧ i < 2147483648
      · have eF := hid (show fitI 4 i = true from decide_eq_true ⟨by omega, by omega, by rw [e256]; omega, by rw [e256]; exact hf.2⟩)
        have hq2 : (i / 2147483648 == 0) = true := by simp; omega
        clear e256
        have k3 := k2 true
        clear k2
        go_enter Try.func66, Try.ntmps66
        go_wp2_with fail
        refine k1.mono ?_
        rintro e w2 ⟨rfl, rfl⟩
        go_wp2_with fail
        refine k3.mono ?_
        rintro e w3 ⟨rfl, hs, hB⟩
        replace hs := hid hs
        go_wp2_with fail
        go_end0
        refine ⟨rfl, ?_, hB⟩
        rw [eF.out]
        exact hs.out
      by_cases hg : -2147483648 ≤ i ∧ i < 0
      · have eF := hid (show fitI 4 i = true from decide_eq_true ⟨by omega, by omega, by rw [e256]; exact hg.1, by rw [e256]; omega⟩)
        have hq2 : (i / 2147483648 == 0) = false := by simp; omega
        have hq3 : (i / 2147483648 == -1) = true := by simp; omega
        clear e256
        have k3 := k2 true
        clear k2
        go_enter Try.func66, Try.ntmps66
        go_wp2_with fail
        refine k1.mono ?_
        rintro e w2 ⟨rfl, rfl⟩
        go_wp2_with fail
        refine k3.mono ?_
        rintro e w3 ⟨rfl, hs, hB⟩
        replace hs := hid hs
        go_wp2_with fail
        go_end0
        refine ⟨rfl, ?_, hB⟩
        rw [eF.out]
        exact hs.out
      · have eF := hid (show fitI 4 i = false from decide_eq_false fun h => by have h3 := h.2.2; rw [e256] at h3; omega)
        have hq2 : (i / 2147483648 == 0) = false := by simp; omega
        have hq3 : (i / 2147483648 == -1) = false := by simp; omega
        clear e256
        have k3 := k2 false
        clear k2
        go_enter Try.func66, Try.ntmps66
        go_wp2_with fail
        refine k1.mono ?_
        rintro e w2 ⟨rfl, rfl⟩
        go_wp2_with fail
        refine k3.mono ?_
        rintro e w3 ⟨rfl, hs, hB⟩
        replace hs := hid hs
        go_wp2_with fail
        go_end0
        refine ⟨rfl, ?_, hB⟩
        rw [eF.out]
        exact hs.out
    · have e256 : (128 : Int) * 256 ^ ((5 : Int).toNat - 1) = 549755813888 := by decide
      have k2 := fun b => put_any B base B0 zs 5 (by omega) c hcb.1 hcb.2 b w hW hl h1 h2 h3
      clear hW hcb
      by_cases hf : 0 ≤ i ∧ i < 549755813888
      · have eF := hid (show fitI 5 i = true from decide_eq_true ⟨by omega, by omega, by rw [e256]; omega, by rw [e256]; exact hf.2⟩)
        have hq2 : (i / 549755813888 == 0) = true := by simp; omega
        clear e256
        have k3 := k2 true
        clear k2
        go_enter Try.func66, Try.ntmps66
        go_wp2_with fail
        refine k1.mono ?_
        rintro e w2 ⟨rfl, rfl⟩
        go_wp2_with fail
        refine k3.mono ?_
        rintro e w3 ⟨rfl, hs, hB⟩
        replace hs := hid hs
        go_wp2_with fail
        go_end0
        refine ⟨rfl, ?_, hB⟩
        rw [eF.out]
        exact hs.out
      by_cases hg : -549755813888 ≤ i ∧ i < 0
      · have eF := hid (show fitI 5 i = true from decide_eq_true ⟨by omega, by omega, by rw [e256]; exact hg.1, by rw [e256]; omega⟩)
        have hq2 : (i / 549755813888 == 0) = false := by simp; omega
        have hq3 : (i / 549755813888 == -1) = true := by simp; omega
        clear e256
        have k3 := k2 true
        clear k2
        go_enter Try.func66, Try.ntmps66
        go_wp2_with fail
        refine k1.mono ?_
        rintro e w2 ⟨rfl, rfl⟩
        go_wp2_with fail
        refine k3.mono ?_
        rintro e w3 ⟨rfl, hs, hB⟩
        replace hs := hid hs
        go_wp2_with fail
        go_end0
        refine ⟨rfl, ?_, hB⟩
        rw [eF.out]
        exact hs.out
      · have eF := hid (show fitI 5 i = false from decide_eq_false fun h => by have h3 := h.2.2; rw [e256] at h3; omega)
        have hq2 : (i / 549755813888 == 0) = false := by simp; omega
        have hq3 : (i / 549755813888 == -1) = false := by simp; omega
        clear e256
        have k3 := k2 false
        clear k2
        go_enter Try.func66, Try.ntmps66
        go_wp2_with fail
        refine k1.mono ?_
        rintro e w2 ⟨rfl, rfl⟩
        go_wp2_with fail
        refine k3.mono ?_
        rintro e w3 ⟨rfl, hs, hB⟩
        replace hs := hid hs
        go_wp2_with fail
        go_end0
        refine ⟨rfl, ?_, hB⟩
        rw [eF.out]
        exact hs.out
    · have e256 : (128 : Int) * 256 ^ ((6 : Int).toNat - 1) = 140737488355328 := by decide
      have k2 := fun b => put_any B base B0 zs 6 (by omega) c hcb.1 hcb.2 b w hW hl h1 h2 h3
      clear hW hcb
      by_cases hf : 0 ≤ i ∧ i < 140737488355328
      · have eF := hid (show fitI 6 i = true from decide_eq_true ⟨by omega, by omega, by rw [e256]; omega, by rw [e256]; exact hf.2⟩)
        have hq2 : (i / 140737488355328 == 0) = true := by simp; omega
        clear e256
        have k3 := k2 true
        clear k2
        go_enter Try.func66, Try.ntmps66
        go_wp2_with fail
        refine k1.mono ?_
        rintro e w2 ⟨rfl, rfl⟩
        go_wp2_with fail
        refine k3.mono ?_
        rintro e w3 ⟨rfl, hs, hB⟩
        replace hs := hid hs
        go_wp2_with fail
        go_end0
        refine ⟨rfl, ?_, hB⟩
        rw [eF.out]
        exact hs.out
      by_cases hg : -140737488355328 ≤ i ∧ i < 0
      · have eF := hid (show fitI 6 i = true from decide_eq_true ⟨by omega, by omega, by rw [e256]; exact hg.1, by rw [e256]; omega⟩)
        have hq2 : (i / 140737488355328 == 0) = false := by simp; omega
        have hq3 : (i / 140737488355328 == -1) = true := by simp; omega
        clear e256
        have k3 := k2 true
        clear k2
        go_enter Try.func66, Try.ntmps66
        go_wp2_with fail
        refine k1.mono ?_
        rintro e w2 ⟨rfl, rfl⟩
        go_wp2_with fail
        refine k3.mono ?_
        rintro e w3 ⟨rfl, hs, hB⟩
        replace hs := hid hs
        go_wp2_with fail
        go_end0
        refine ⟨rfl, ?_, hB⟩
        rw [eF.out]
        exact hs.out
      · have eF := hid (show fitI 6 i = false from decide_eq_false fun h => by have h3 := h.2.2; rw [e256] at h3; omega)
        have hq2 : (i / 140737488355328 == 0) = false := by simp; omega
        have hq3 : (i / 140737488355328 == -1) = false := by simp; omega
        clear e256
        have k3 := k2 false
        clear k2
        go_enter Try.func66, Try.ntmps66
        go_wp2_with fail
        refine k1.mono ?_
        rintro e w2 ⟨rfl, rfl⟩
        go_wp2_with fail
        refine k3.mono ?_
        rintro e w3 ⟨rfl, hs, hB⟩
        replace hs := hid hs
        go_wp2_with fail
        go_end0
        refine ⟨rfl, ?_, hB⟩
        rw [eF.out]
        exact hs.out
    · have e256 : (128 : Int) * 256 ^ ((7 : Int).toNat - 1) = 36028797018963968 := by decide
      have k2 := fun b => put_any B base B0 zs 7 (by omega) c hcb.1 hcb.2 b w hW hl h1 h2 h3
      clear hW hcb
      by_cases hf : 0 ≤ i ∧ i < 36028797018963968
      · have eF := hid (show fitI 7 i = true from decide_eq_true ⟨by omega, by omega, by rw [e256]; omega, by rw [e256]; exact hf.2⟩)
        have hq2 : (i / 36028797018963968 == 0) = true := by simp; omega
        clear e256
        have k3 := k2 true
        clear k2
        go_enter Try.func66, Try.ntmps66
        go_wp2_with fail
        refine k1.mono ?_
        rintro e w2 ⟨rfl, rfl⟩
        go_wp2_with fail
        refine k3.mono ?_
        rintro e w3 ⟨rfl, hs, hB⟩
        replace hs := hid hs
        go_wp2_with fail
        go_end0
        refine ⟨rfl, ?_, hB⟩
        rw [eF.out]
        exact hs.out
      by_cases hg : -36028797018963968 ≤ i ∧ i < 0
      · have eF := hid (show fitI 7 i = true from decide_eq_true ⟨by omega, by omega, by rw [e256]; exact hg.1, by rw [e256]; omega⟩)
        have hq2 : (i / 36028797018963968 == 0) = false := by simp; omega
        have hq3 : (i / 36028797018963968 == -1) = true := by simp; omega
        clear e256
        have k3 := k2 true
        clear k2
        go_enter Try.func66, Try.ntmps66
        go_wp2_with fail
        refine k1.mono ?_
        rintro e w2 ⟨rfl, rfl⟩
        go_wp2_with fail
        refine k3.mono ?_
        rintro e w3 ⟨rfl, hs, hB⟩
        replace hs := hid hs
        go_wp2_with fail
        go_end0
        refine ⟨rfl, ?_, hB⟩
        rw [eF.out]
        exact hs.out
      · have eF := hid (show fitI 7 i = false from decide_eq_false fun h => by have h3 := h.2.2; rw [e256] at h3; omega)
        have hq2 : (i / 36028797018963968 == 0) = false := by simp; omega
        have hq3 : (i / 36028797018963968 == -1) = false := by simp; omega
        clear e256
        have k3 := k2 false
        clear k2
        go_enter Try.func66, Try.ntmps66
        go_wp2_with fail
        refine k1.mono ?_
        rintro e w2 ⟨rfl, rfl⟩
        go_wp2_with fail
        refine k3.mono ?_
        rintro e w3 ⟨rfl, hs, hB⟩
        replace hs := hid hs
        go_wp2_with fail
        go_end0
        refine ⟨rfl, ?_, hB⟩
        rw [eF.out]
        exact hs.out
    · have e256 : (128 : Int) * 256 ^ ((8 : Int).toNat - 1) = 9223372036854775808 := by decide
      have k2 := fun b => put_any B base B0 zs 8 (by omega) c hcb.1 hcb.2 b w hW hl h1 h2 h3
      clear hW hcb
      by_cases hf : 0 ≤ i ∧ i < 9223372036854775808
      · have eF := hid (show fitI 8 i = true from decide_eq_true ⟨by omega, by omega, by rw [e256]; omega, by rw [e256]; exact hf.2⟩)
        have hq2 : (i / 9223372036854775808 == 0) = true := by simp; omega
        clear e256
        have k3 := k2 true
        clear k2
        go_enter Try.func66, Try.ntmps66
        go_wp2_with fail
        refine k1.mono ?_
        rintro e w2 ⟨rfl, rfl⟩
        go_wp2_with fail
        refine k3.mono ?_
        rintro e w3 ⟨rfl, hs, hB⟩
        replace hs := hid hs
        go_wp2_with fail
        go_end0
        refine ⟨rfl, ?_, hB⟩
        rw [eF.out]
        exact hs.out
      by_cases hg : -9223372036854775808 ≤ i ∧ i < 0
      · have eF := hid (show fitI 8 i = true from decide_eq_true ⟨by omega, by omega, by rw [e256]; exact hg.1, by rw [e256]; omega⟩)
        have hq2 : (i / 9223372036854775808 == 0) = false := by simp; omega
        have hq3 : (i / 9223372036854775808 == -1) = true := by simp; omega
        clear e256
        have k3 := k2 true
        clear k2
        go_enter Try.func66, Try.ntmps66
        go_wp2_with fail
        refine k1.mono ?_
        rintro e w2 ⟨rfl, rfl⟩
        go_wp2_with fail
        refine k3.mono ?_
        rintro e w3 ⟨rfl, hs, hB⟩
        replace hs := hid hs
        go_wp2_with fail
        go_end0
        refine ⟨rfl, ?_, hB⟩
        rw [eF.out]
        exact hs.out
      · omega
  · have c2 := Bool.not_eq_true _ ▸ cz
    rw [c2] at k1
    have eF := hid (show fitI n i = false from decide_eq_false fun h => cz (decide_eq_true ⟨h.1, h.2.1⟩))
    obtain ⟨a, cap, hH, hO⟩ := hW
    have k3 := put_no B B0 _ n c w h1 hH
    clear cz c2 hH hO
    go_enter Try.func66, Try.ntmps66
    go_wp2_with fail
    refine k1.mono ?_
    rintro e w2 ⟨rfl, rfl⟩
    go_wp2_with fail
    refine k3.mono ?_
    rintro e w3 ⟨rfl, hs, hB⟩
    replace hs := hid hs
    go_wp2_with fail
    go_end0
    refine ⟨rfl, ?_, hB⟩
    rw [eF.out]
    exact hs.out

end Go.Proofs.Ytfihdgichmocmaa

/- Package octet: a writer's Raw. -/
namespace Go.Proofs.Ytfihdgichmocmaa
open Go.ChangeShapes Go.WideShapes Go.ChangeAt Go.RowKit Go.Shelf
set_option linter.unusedVariables false

end Go.Proofs.Ytfihdgichmocmaa

/- Package octet: a reader that has too few bytes; and that has enough. -/
namespace Go.Proofs.Ytfihdgichmocmaa
open Go.ChangeShapes Go.WideShapes Go.ChangeAt Go.RowKit Go.Shelf
set_option linter.unusedVariables false

/-- Only this reader's block, and those from B0 on, are changed. -/
def Br (B B0 : Nat) (w w' : World) : Prop := Below B0 w w' ∧ RX (some B) w w'
theorem rx_later {X : Option Nat} {w w' : World} (h : After w w') : RX X w w' := ⟨h.size, fun k hk _ => h.block k hk⟩
theorem rx_set {B j : Nat} {w : World} (v : Value) : RX (some B) w (w.setCell ⟨B, j, none⟩ v) := ⟨by simp [World.setCell], fun k _ hne => Below.heap_setCell _ _ _ _ (fun e => hne (by rw [e]))⟩
theorem Br.refl (B B0 : Nat) (w : World) : Br B B0 w w := ⟨Below.refl _ _, RX.refl _ _⟩
theorem Br.later {B B0 : Nat} {w w1 w2 : World} (h : Br B B0 w w1) (hA : After w1 w2) (h0 : B0 ≤ w1.heap.size) : Br B B0 w w2 := ⟨h.1.trans (Below.mono hA h0), h.2.trans (rx_later hA)⟩
theorem next_no (B B0 : Nat) (a : Option Addr) (len cap : Nat) (n : Int) (b : Bool) (hb : b = false ∨ (len : Int) < n) (w : World) (h1 : B0 ≤ B) (hH : w.heap[B]? = some (.cells #[.bool true, .slice a len cap, .bool false] 101 (0, 0))) :
    Calls Try.prog 74 #[.pointer (some ⟨B, 0, none⟩), .int .i64 n, .bool b] w fun e w' => e = .returned (.tuple #[.slice none 0 0, .bool false]) ∧ Failed 101 B w' ∧ Br B B0 w w' := by
  have k := rfail_good B _ w hH
  have c1 := held_cell hH 1 _ rfl
  have c2 := held_cell hH 2 _ rfl
  have f1 := held_free hH 1
  have f2 := held_free hH 2
  have hF := hid (held_set (held_set hH 2 (.bool true)) 1 (.slice none 0 0))
  have hX := hid (show Br B B0 w _ from ⟨((Below.refl B0 w).setCell (p := ⟨B, 2, none⟩) h1 (.bool true)).setCell (p := ⟨B, 1, none⟩) h1 (.slice none 0 0), (rx_set _).trans (rx_set _)⟩)
  clear hH
  cases b
  · clear hb
    go_enter Try.func74, Try.ntmps74
    go_wp2_with fail
    refine k.mono ?_
    rintro e w2 ⟨rfl, rfl⟩
    go_wp2_with fail
    go_ret2
    exact ⟨rfl, hF.out, hX.out⟩
  · have hlt : (len : Int) < n := by rcases hb with h | h; (cases h); exact h
    clear hb
    go_enter Try.func74, Try.ntmps74
    go_wp2_with fail
    refine k.mono ?_
    rintro e w2 ⟨rfl, rfl⟩
    go_wp2_with fail
    go_ret2
    exact ⟨rfl, hF.out, hX.out⟩

/-- The next n bytes. -/
theorem next_yes (B : Nat) (zs : List Int) (n : Nat) (a : Option Addr) (len cap : Nat) (w : World) (hH : w.heap[B]? = some (.cells #[.bool true, .slice a len cap, .bool false] 101 (0, 0))) (hsl : Sl .u8 w a len cap zs) (hn : n ≤ len) (hl : len ≤ 1000000) :
    Calls Try.prog 74 #[.pointer (some ⟨B, 0, none⟩), .int .i64 (n : Int), .bool true] w fun e w' => e = .returned (.tuple #[.slice a n cap, .bool true]) ∧ ∃ a' cap', w' = w.setCell ⟨B, 1, none⟩ (.slice a' (len - n) cap') ∧ Sl .u8 w a' (len - n) cap' (zs.drop n) := by
  have k := rfail_good B _ w hH
  have c1 := held_cell hH 1 _ rfl
  have f1 := held_free hH 1
  have hd := hid (hsl.drop n hn)
  have hend := hid (fun h => hsl.end n hn h)
  obtain ⟨_, hlc, hcm, hnone, _⟩ := hsl
  clear hH
  have g1 : ¬ ((len : Int) < (n : Int)) := by omega
  have g2 : (n : Int) ≤ len := by omega
  have g3 : (n : Int) ≤ cap := by omega
  have g4 : (len : Int) ≤ cap := by omega
  by_cases hc : cap = n
  · have hs := hid (hend.out hc)
    obtain rfl : len = n := by omega
    subst hc
    clear hd hend
    go_enter Try.func74, Try.ntmps74
    go_wp2_with fail
    refine k.mono ?_
    rintro e w2 ⟨rfl, rfl⟩
    go_wp2_with omega
    go_ret2
    refine ⟨rfl, a, 0, ?_, hs.out⟩
    first | rfl | simp | (simp; rfl)
  · have hc2 : (n : Int) < cap := by omega
    have hc3 : n < cap := by omega
    clear hend
    go_enter Try.func74, Try.ntmps74
    go_wp2_with fail
    refine k.mono ?_
    rintro e w2 ⟨rfl, rfl⟩
    go_wp2_with omega
    go_ret2
    refine ⟨rfl, Option.map (fun x => x.add n) a, cap - n, ?_, hd.out⟩
    first | rfl | simp | (simp; rfl)

end Go.Proofs.Ytfihdgichmocmaa

/- Package octet: a reader's Raw. -/
namespace Go.Proofs.Ytfihdgichmocmaa
open Go.ChangeShapes Go.WideShapes Go.ChangeAt Go.RowKit Go.Shelf
set_option linter.unusedVariables false

end Go.Proofs.Ytfihdgichmocmaa
