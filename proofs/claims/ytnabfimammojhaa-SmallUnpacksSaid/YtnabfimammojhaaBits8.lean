/- Package bits and its reference: Join of the reference; the chapter's examples. -/
import Derived.Test.YtnabfimammojhaaBits7
namespace Go.Proofs.Ytnabfimammojhaa
open Go.ChangeShapes Go.WideShapes Go.ChangeAt Go.RowKit
set_option linter.unusedVariables false

theorem joinR_b {zs ys : List Int} (hr : rightP zs) (k : Nat) (h1 : k ≤ zs.length) (h2 : fitsJ zs ys k) : joinR zs ys k < 4294967296 := by
  have h := joinR_lt hr k h1 h2
  have h32 : (2 : Nat) ^ 32 = 4294967296 := by decide
  rw [h32] at h
  have := Nat.le_mul_of_pos_right (joinR zs ys k) (Nat.two_pow_pos (leftAt zs k).toNat)
  omega

set_option maxHeartbeats 2000000 in
theorem rjoin_any (ad bd : Option Addr) (len cap lb cb : Nat) (zs ys : List Int) (w : World) (hsl : Sl .i64 w ad len cap zs) (hwf : ∀ n ∈ zs, (Lit.int .i64 n).wf = true) (hlen : len ≤ 100000) (hys : Sl .u32 w bd lb cb ys) (hyf : ∀ n ∈ ys, (Lit.int .u32 n).wf = true) (hlb : lb ≤ 100000) :
    Calls Try.prog 22 #[.slice ad len cap, .slice bd lb cb] w fun e w' => e = .returned (.tuple #[.int .u32 (joinV zs ys), .bool (joinOk zs ys)]) ∧ Below w.heap.size w w' := by
  have hR := rright_any ad len cap zs w hsl hwf hlen
  obtain ⟨hl0, hlc, hcm, hn, hrd0⟩ := hsl
  obtain ⟨hl1, hlc1, hcm1, hn1, hrd1⟩ := hys
  by_cases c : rightB zs = true
  case neg =>
    have c := Bool.not_eq_true _ ▸ c
    have e := hid (join_no (zs := zs) (ys := ys) (fun h => by rw [show rightB zs = true from decide_eq_true h.1] at c; cases c))
    have hc := hid c
    clear c
    subst hl0 hl1
    go_enter Try.func22, Try.ntmps22
    go_wp2_with fail
    refine hR.mono ?_
    rintro e w2 ⟨rfl, rfl⟩
    rw [hc.out]
    go_wp2_with fail
    go_ret2
    rw [e.out.1, e.out.2]
    exact ⟨rfl, Below.refl _ _⟩
  by_cases cl : ys.length = zs.length
  case neg =>
    have e := hid (join_no (zs := zs) (ys := ys) (fun h => cl h.2.1))
    have cl2 : ¬ ((ys.length : Int) = zs.length) := by omega
    have hc := hid c
    clear c
    subst hl0 hl1
    go_enter Try.func22, Try.ntmps22
    go_wp2_with fail
    refine hR.mono ?_
    rintro e w2 ⟨rfl, rfl⟩
    rw [hc.out]
    go_wp2_with fail
    go_ret2
    rw [e.out.1, e.out.2]
    exact ⟨rfl, Below.refl _ _⟩
  have hP : rightP zs := of_decide_eq_true c
  have hl32 := right_len hP
  replace hP := hid hP
  have hrd := hid hrd0
  have hrdy := hid hrd1
  have hyn := hid hyf
  clear hrd0 hrd1 hyf
  subst hl0 hl1
  have hlq : (ys.length : Int) = zs.length := by omega
  go_enter Try.func22, Try.ntmps22
  go_wp2_with fail
  refine hR.mono ?_
  rintro e w2 ⟨rfl, rfl⟩
  rw [c]
  have hc := hid c
  clear c
  go_wp2_with fail
  clear hlq
  have hlq := hid cl
  clear cl
  go_loopw [6, 7] (fun x i wr => ∃ (k : Nat), k ≤ zs.length ∧ i = .int .i64 k ∧ Below w2.heap.size w2 wr ∧ x = .int .u64 ((joinR zs ys k : Nat) : Int) ∧ fitsJ zs ys k) (fun _ i _ => zs.length - (intOf i).toNat)
  case atStart => exact ⟨0, by omega, rfl, Below.refl _ _, by simp [joinR], fun i hi => by omega⟩
  case round =>
    obtain ⟨k, hk, rfl, hbr, rfl, hfit⟩ := hrel
    have hrdr := hrd.out.below hbr
    have hrdyr := hrdy.out.below hbr
    have hX := joinR_b (ys := ys) hP.out k hk hfit
    by_cases hlt : (k : Int) < ys.length
    · have hlt2 : k < ys.length := by omega
      have hltz : (k : Int) < zs.length := by have := hlq.out; omega
      have hltz2 : k < zs.length := by omega
      obtain ⟨b, off, rfl, hcz⟩ := hrdr k hltz2
      obtain ⟨b2, off2, rfl, hc⟩ := hrdyr k hlt2
      have hbd := left_bd zs hP.out k hltz2
      have hyb := bounds_u32 (hyn.out (ys.getD k 0) (by simp [hlt2]))
      obtain ⟨yn, hy0⟩ := Int.eq_ofNat_of_zero_le hyb.1
      obtain ⟨z, hz0⟩ := Int.eq_ofNat_of_zero_le (show 0 ≤ zs.getD k 0 by omega)
      have hJ : joinR zs ys (k + 1) = joinR zs ys k * 2 ^ z + yn := by simp only [joinR]; rw [hy0, hz0]; rfl
      have hFn : (∀ i, i < k + 1 → (ys.getD i 0).toNat < 2 ^ (zs.getD i 0).toNat) ↔ yn < 2 ^ z := by
        constructor
        · intro h; have := h k (by omega); rw [hy0, hz0] at this; exact this
        · intro h i hi
          by_cases e : i = k
          · subst e; rw [hy0, hz0]; exact h
          · exact hfit i (by omega)
      rw [hz0] at hcz hbd
      rw [hy0] at hc hyb
      clear hz0 hy0
      replace hfit := hid hfit
      obtain ⟨p, hp⟩ : ∃ p, Go.RowKit.Hid (p = 2 ^ z) := ⟨_, hid (Eq.refl (2 ^ z))⟩
      have hpw := hid (fun (v : World) => bpower_any z p hp v (show z ≤ 32 by omega))
      have f1 : IntKind.u64.wrap (yn : Int) = yn := by simp [IntKind.wrap, IntKind.bits, IntKind.signed]; omega
      by_cases cf : yn < p
      · have cf2 : yn < 2 ^ z := by rw [← hp.out]; exact cf
        have hfn := hFn.2 cf2
        have hX1 := joinR_b (ys := ys) hP.out (k + 1) (by omega) hfn
        rw [hJ, ← hp.out] at hX1
        rw [← hp.out] at hJ
        generalize joinR zs ys k = R at *
        obtain ⟨Q, hQ⟩ : ∃ Q : Nat, Q = R * p := ⟨_, rfl⟩
        rw [← hQ] at hX1 hJ
        have fQ : (R : Int) * (p : Int) = (Q : Int) := by rw [hQ]; simp
        have f2 : IntKind.u64.wrap (Q : Int) = Q := by simp [IntKind.wrap, IntKind.bits, IntKind.signed]; omega
        have f3 : IntKind.u64.wrap ((Q : Int) + (yn : Int)) = (Q : Int) + (yn : Int) := by simp [IntKind.wrap, IntKind.bits, IntKind.signed]; omega
        have hfh := hid hfn
        replace hJ := hid hJ
        have cf3 : ((p : Int) ≤ (yn : Int)) = False := by simp; omega
        clear hFn hQ hfn cf2
        go_wp2_with fail
        go_quiet (exact Calls.quiet_of_same (hpw.out _))
        have hcz2 : (wr.drewN nq).cell? ⟨b, off + k, none⟩ = some (.int .i64 z) := hcz
        have hc2 : (wr.drewN nq).cell? ⟨b2, off2 + k, none⟩ = some (.int .u32 yn) := hc
        replace hbr := bdrewN hbr nq
        clear hcz hc hrdr hrdyr
        generalize wr.drewN nq = v at *
        go_wp2_with fail
        go_quiet (exact Calls.quiet_of_same (hpw.out _))
        go_wp2_with fail
        go_roundw
        case rel => exact ⟨k + 1, by omega, by simp, bdrewN hbr _, by rw [hJ.out]; simp, hfh.out⟩
        case measure => simp [intOf]; omega
      · have hfn := hid (join_no (zs := zs) (ys := ys) (fun h => cf (by rw [hp.out]; exact hFn.1 (fun i hi => h.2.2 i (by omega)))))
        have cf3 : (p : Int) ≤ (yn : Int) := by omega
        clear hFn hJ
        go_wp2_with fail
        go_quiet (exact Calls.quiet_of_same (hpw.out _))
        go_wp2_with fail
        go_ret2
        rw [hfn.out.1, hfn.out.2]
        exact ⟨rfl, bdrewN hbr _⟩
    · obtain rfl : k = zs.length := by have := hlq.out; omega
      have f2 : IntKind.u32.wrap ((joinR zs ys zs.length : Nat) : Int) = ((joinR zs ys zs.length : Nat) : Int) := by rw [IntKind.wrap_u32]; omega
      have hJ := hid (join_yes (zs := zs) (ys := ys) ⟨hP.out, hlq.out, hfit⟩)
      go_wp2_with fail
      go_ret2
      rw [hJ.out.1, hJ.out.2]
      exact ⟨rfl, hbr⟩

end Go.Proofs.Ytnabfimammojhaa
