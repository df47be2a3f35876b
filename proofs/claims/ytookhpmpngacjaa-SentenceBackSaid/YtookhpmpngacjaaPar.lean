/- Package parity and its reference: contracts. -/
import Derived.Test.YtookhpmpngacjaaParMath
namespace Go.Proofs.Ytookhpmpngacjaa
open Go.ChangeShapes Go.WideShapes Go.ChangeAt Go.RowKit
set_option linter.unusedVariables false

set_option maxRecDepth 100000 in
theorem refbit_any (b i : Nat) (w : World) (hb : b ≤ 255) (hi : i ≤ 8) :
    Calls Try.prog 41 #[.int .u8 b, .int .i64 i] w fun e w' => e = .returned (.bool (bitB b i)) ∧ w' = w := by
  go_enter Try.func41, Try.ntmps41
  go_wp2_with fail
  go_loopw [0, 5] (fun v x wr => ∃ (k c : Nat), wr = w ∧ k ≤ i ∧ x = .int .i64 k ∧ v = .int .u8 c ∧ c ≤ 255 ∧ c / 2 ^ (i - k) = b / 2 ^ i) (fun _ x _ => i - (intOf x).toNat)
  case atStart => exact ⟨0, b, rfl, by omega, rfl, rfl, hb, rfl⟩
  case round =>
    obtain ⟨k, c, rfl, hk, rfl, rfl, hc, HD0⟩ := hrel
    have HD := hid HD0
    clear HD0
    by_cases hlt : k < i
    · go_wp2_with fail
      go_roundw
      case rel =>
        refine ⟨k + 1, c / 2, trivial, by omega, by simp, by simp, by omega, ?_⟩
        rw [← HD.out, show i - k = (i - (k + 1)) + 1 from by omega, Nat.pow_succ, Nat.mul_comm, Nat.div_div_eq_div_mul]
      case measure => simp [intOf]; omega
    · go_wp2_with fail
      go_ret
      refine ⟨ret_bool ?_, rfl⟩
      have h := HD.out
      rw [show i - k = 0 from by omega, Nat.pow_zero, Nat.div_one] at h
      unfold bitB
      rw [← h]
      rw [Bool.eq_iff_iff]; simp; omega

set_option maxRecDepth 100000 in
theorem parOf_any (s : ByteArray) (w : World) (hb : s.size ≤ 100000) :
    Calls Try.prog 35 #[.string s] w fun e w' => e = .returned (.int .u8 (xorF 0 (sb s))) ∧ w' = w := by
  go_enter Try.func35, Try.ntmps35
  go_wp2_with fail
  go_loopw [3, 7] (fun v x wr => ∃ (k c : Nat), wr = w ∧ k ≤ s.size ∧ x = .int .i64 k ∧ v = .int .u8 c ∧ c ≤ 255 ∧ xorF c ((sb s).drop k) = xorF 0 (sb s)) (fun _ x _ => s.size - (intOf x).toNat)
  case atStart => exact ⟨0, 0, rfl, by omega, rfl, rfl, by omega, rfl⟩
  case round =>
    obtain ⟨k, c, rfl, hk, rfl, rfl, hc, HD0⟩ := hrel
    have HD := hid HD0
    clear HD0
    by_cases hlt : k < s.size
    · have hx := (s[k]'hlt).toNat_lt
      have HX := hid (u8_xor_nat c (s[k]'hlt).toNat (by omega) hx)
      go_wp2_with fail
      go_roundw
      case rel =>
        refine ⟨k + 1, c ^^^ (s[k]'hlt).toNat, trivial, by omega, by simp, by rw [HX.out], ?_, ?_⟩
        · have := xor_lt (a := c) (b := (s[k]'hlt).toNat) (by omega) hx
          omega
        · rw [← HD.out, sb_drop s k hlt]; rfl
      case measure => simp [intOf]; omega
    · go_wp2_with fail
      go_ret
      have h := HD.out
      rw [sb_end s k hlt] at h
      exact ⟨ret_int (congrArg Int.ofNat h), rfl⟩

set_option maxRecDepth 100000 in
theorem refOf_any (s : ByteArray) (w : World) (hb : s.size ≤ 100000) :
    Calls Try.prog 30 #[.string s] w fun e w' => e = .returned (.int .u8 (xorF 0 (sb s))) ∧ w' = w := by
  have HL := xorF_lt (sb s) 0 (by omega) (sb_lt s)
  have HO := hid (fun i => oddF_zero i (sb s))
  generalize hX : xorF 0 (sb s) = X at *
  clear hX
  go_enter Try.func30, Try.ntmps30
  go_wp2_with fail
  go_loopw [3, 4, 5] (fun o y x wr => ∃ (i p : Nat), wr = w ∧ i ≤ 8 ∧ x = .int .i64 i ∧ o = .int .u8 (X % 2 ^ i : Nat) ∧ y = .int .u8 p ∧ p = 2 ^ i % 256) (fun _ _ x _ => 8 - (intOf x).toNat)
  case atStart => exact ⟨0, 1, rfl, by omega, rfl, by simp [Nat.mod_one], rfl, by decide⟩
  case round =>
    obtain ⟨i, p, rfl, hi, rfl, rfl, rfl, HP0⟩ := hrel
    have HP := hid HP0
    clear HP0
    generalize hM0 : X % 2 ^ i = m at *
    have hM := hid hM0
    clear hM0
    have hp : p < 256 := by rw [HP.out]; omega
    by_cases hlt : (i : Int) < 8
    · obtain ⟨wo, rfl⟩ : ∃ wo : World, wo = wr := ⟨_, rfl⟩
      go_wp2_with fail
      go_loopw [6, 7] (fun o x w2 => ∃ (k : Nat) (b : Bool), w2 = wo ∧ k ≤ s.size ∧ x = .int .i64 k ∧ o = .bool b ∧ oddF i b ((sb s).drop k) = oddF i false (sb s)) (fun _ x _ => s.size - (intOf x).toNat)
      case atStart => exact ⟨0, false, rfl, by omega, rfl, rfl, rfl⟩
      case round =>
        obtain ⟨k, b, rfl, hk, rfl, rfl, HD0⟩ := hrel
        have HD := hid HD0
        clear HD0
        by_cases hls : k < s.size
        · have hx := (s[k]'hls).toNat_lt
          go_wp2_with fail
          refine (refbit_any (s[k]'hls).toNat i _ (by omega) (by omega)).mono ?_
          rintro e w2 ⟨rfl, rfl⟩
          go_wp2_with fail
          go_roundw
          case rel =>
            refine ⟨k + 1, b != bitB (s[k]'hls).toNat i, trivial, by omega, by simp, by cases b <;> simp, ?_⟩
            rw [← HD.out, sb_drop s k hls]; rfl
          case measure => simp [intOf]; omega
        · have hb : b = bitB X i := by
            have h := HD.out
            rw [sb_end s k hls, HO.out] at h
            exact h
          have hST0 := bitB_step X i
          rw [hM.out, ← hb] at hST0
          have hST := hid hST0
          clear hST0
          have hPw : p = 2 ^ i := by
            rw [HP.out]; exact Nat.mod_eq_of_lt (by have : i ≤ 7 := by omega
                                                    exact Nat.lt_of_le_of_lt (Nat.pow_le_pow_right (by omega) this) (by decide))
          have hQ := hid hPw
          have hml : X % 2 ^ (i + 1) < 256 := Nat.lt_of_le_of_lt (Nat.mod_le _ _) HL
          clear hb hPw
          have hp2 : (2 * p) % 256 = 2 ^ (i + 1) % 256 := by rw [hQ.out, Nat.pow_succ, Nat.mul_comm]
          have hp2 := hid hp2
          cases b
          · go_wp2_with fail
            go_roundw
            case rel =>
              refine ⟨i + 1, 2 * p % 256, trivial, by omega, by simp, ?_, by simp, hp2.out⟩
              rw [hST.out]; simp
            case measure => simp [intOf]; omega
          · go_wp2_with fail
            go_roundw
            case rel =>
              refine ⟨i + 1, 2 * p % 256, trivial, by omega, by simp, ?_, by simp, hp2.out⟩
              have h := hST.out
              rw [if_pos rfl, ← hQ.out] at h
              rw [h] at hml ⊢
              rw [Int.emod_eq_of_lt (by omega) (by omega)]
              rfl
            case measure => simp [intOf]; omega
    · go_wp2_with fail
      go_ret
      have h : i = 8 := by omega
      have h2 := hM.out
      rw [h] at h2
      exact ⟨ret_int (by omega), rfl⟩

set_option maxRecDepth 100000 in
theorem digit_any (c : Nat) (w : World) (hc : c ≤ 2147483647) :
    Calls Try.prog 42 #[.int .i32 c] w fun e w' => e = .returned (.tuple #[.int .u8 (dgV c), .bool (dgOk c)]) ∧ Below w.heap.size w w' := by
  go_enter Try.func42, Try.ntmps42
  have HU : ∃ u, upc c = u := ⟨_, rfl⟩
  obtain ⟨u, HU⟩ := HU
  have hu : u ≤ 2147483647 := by rw [← HU]; unfold upc; split <;> omega
  have hU : (97 ≤ c ∧ c ≤ 102 ∧ (u : Int) = c - 32) ∨ (¬ (97 ≤ c ∧ c ≤ 102) ∧ u = c) := by
    rw [← HU]; unfold upc; split
    · left; omega
    · right; omega
  have HUh := hid HU
  clear HU
  have HU := HUh
  clear HUh
  by_cases h1 : (97 : Int) ≤ c
  · by_cases h2 : (c : Int) ≤ 102
    · have hUU : (c : Int) + -32 = u := by omega
      have hUU := hid hUU
      go_wp2_with fail
      go_loopw [4, 5] (fun _ _ wr => ∃ k : Nat, k ≤ 16 ∧ Below w.heap.size w wr ∧ Iter wr w.heap.size ⟨#[48, 49, 50, 51, 52, 53, 54, 55, 56, 57, 65, 66, 67, 68, 69, 70]⟩ k ∧ Hid (∀ j, j < k → u ≠ dj j)) (fun _ _ wr => 16 - wr.iterPos w.heap.size)
      case atStart => exact ⟨0, by omega, biter (Below.refl _ _) (Nat.le_refl _) _ _, Iter.made w _, fun j hj => absurd hj (by omega)⟩
      case round =>
        obtain ⟨k, hk, hbl, hit, hno⟩ := hrel
        have hpos := hid hit.pos
        by_cases hlt : k < 16
        · have hnx := fun ty => hit.nextA (P := Try.prog) (by exact hlt) (dj k) (digs_at k hlt) (dj_lt k hlt) ty
          have hit2 := hit.seen (k + 1)
          have hbl2 := bseen hbl (Nat.le_refl _) ⟨#[48, 49, 50, 51, 52, 53, 54, 55, 56, 57, 65, 66, 67, 68, 69, 70]⟩ (k + 1)
          have hpos2 := hid hit2.pos
          generalize HJ : dj k = d at *
          have hJ := hid HJ
          clear HJ
          by_cases hq : ((c : Int) + -32 : Int) = (d : Int)
          · have hv : dgN c = k := dg_hit c k hlt (by rw [HU.out, hJ.out]; have := hUU.out; omega)
            have hv2 : dgV c = k := by unfold dgV; rw [hv, if_neg (by omega)]
            have hv3 : dgOk c = true := by unfold dgOk; rw [hv]; simp; omega
            have hv2 := hid hv2
            have hv3 := hid hv3
            clear hv
            go_wp2_with fail
            go_ret2
            rw [hv2.out, hv3.out]
            exact ⟨rfl, hbl2⟩
          · go_wp2_with fail
            go_roundw
            case rel =>
              refine ⟨k + 1, by omega, hbl2, hit2, fun j hj => ?_⟩
              by_cases hjk : j = k
              · subst hjk; rw [hJ.out]; intro e; have := hUU.out; omega
              · exact hno.out j (by omega)
            case measure => rw [hpos.out, hpos2.out]; omega
        · have hnx := fun ty => hit.stop (P := Try.prog) (by exact hlt) ty
          have hv : dgN c = 16 := dg_miss c (fun i hi => by rw [HU.out]; exact hno.out i (by omega))
          have hv2 : dgV c = 0 := by unfold dgV; rw [hv, if_pos rfl]
          have hv3 : dgOk c = false := by unfold dgOk; rw [hv]; rfl
          have hv2 := hid hv2
          have hv3 := hid hv3
          clear hv
          go_wp2_with fail
          go_ret2
          rw [hv2.out, hv3.out]
          exact ⟨rfl, hbl⟩
    · have hUU := hid (show u = c by omega)
      go_wp2_with fail
      go_loopw [4, 5] (fun _ _ wr => ∃ k : Nat, k ≤ 16 ∧ Below w.heap.size w wr ∧ Iter wr w.heap.size ⟨#[48, 49, 50, 51, 52, 53, 54, 55, 56, 57, 65, 66, 67, 68, 69, 70]⟩ k ∧ Hid (∀ j, j < k → u ≠ dj j)) (fun _ _ wr => 16 - wr.iterPos w.heap.size)
      case atStart => exact ⟨0, by omega, biter (Below.refl _ _) (Nat.le_refl _) _ _, Iter.made w _, fun j hj => absurd hj (by omega)⟩
      case round =>
        obtain ⟨k, hk, hbl, hit, hno⟩ := hrel
        have hpos := hid hit.pos
        by_cases hlt : k < 16
        · have hnx := fun ty => hit.nextA (P := Try.prog) (by exact hlt) (dj k) (digs_at k hlt) (dj_lt k hlt) ty
          have hit2 := hit.seen (k + 1)
          have hbl2 := bseen hbl (Nat.le_refl _) ⟨#[48, 49, 50, 51, 52, 53, 54, 55, 56, 57, 65, 66, 67, 68, 69, 70]⟩ (k + 1)
          have hpos2 := hid hit2.pos
          generalize HJ : dj k = d at *
          have hJ := hid HJ
          clear HJ
          by_cases hq : ((c : Int) : Int) = (d : Int)
          · have hv : dgN c = k := dg_hit c k hlt (by rw [HU.out, hJ.out]; have := hUU.out; omega)
            have hv2 : dgV c = k := by unfold dgV; rw [hv, if_neg (by omega)]
            have hv3 : dgOk c = true := by unfold dgOk; rw [hv]; simp; omega
            have hv2 := hid hv2
            have hv3 := hid hv3
            clear hv
            go_wp2_with fail
            go_ret2
            rw [hv2.out, hv3.out]
            exact ⟨rfl, hbl2⟩
          · go_wp2_with fail
            go_roundw
            case rel =>
              refine ⟨k + 1, by omega, hbl2, hit2, fun j hj => ?_⟩
              by_cases hjk : j = k
              · subst hjk; rw [hJ.out]; intro e; have := hUU.out; omega
              · exact hno.out j (by omega)
            case measure => rw [hpos.out, hpos2.out]; omega
        · have hnx := fun ty => hit.stop (P := Try.prog) (by exact hlt) ty
          have hv : dgN c = 16 := dg_miss c (fun i hi => by rw [HU.out]; exact hno.out i (by omega))
          have hv2 : dgV c = 0 := by unfold dgV; rw [hv, if_pos rfl]
          have hv3 : dgOk c = false := by unfold dgOk; rw [hv]; rfl
          have hv2 := hid hv2
          have hv3 := hid hv3
          clear hv
          go_wp2_with fail
          go_ret2
          rw [hv2.out, hv3.out]
          exact ⟨rfl, hbl⟩
  · have hUU := hid (show u = c by omega)
    go_wp2_with fail
    go_loopw [4, 5] (fun _ _ wr => ∃ k : Nat, k ≤ 16 ∧ Below w.heap.size w wr ∧ Iter wr w.heap.size ⟨#[48, 49, 50, 51, 52, 53, 54, 55, 56, 57, 65, 66, 67, 68, 69, 70]⟩ k ∧ Hid (∀ j, j < k → u ≠ dj j)) (fun _ _ wr => 16 - wr.iterPos w.heap.size)
    case atStart => exact ⟨0, by omega, biter (Below.refl _ _) (Nat.le_refl _) _ _, Iter.made w _, fun j hj => absurd hj (by omega)⟩
    case round =>
      obtain ⟨k, hk, hbl, hit, hno⟩ := hrel
      have hpos := hid hit.pos
      by_cases hlt : k < 16
      · have hnx := fun ty => hit.nextA (P := Try.prog) (by exact hlt) (dj k) (digs_at k hlt) (dj_lt k hlt) ty
        have hit2 := hit.seen (k + 1)
        have hbl2 := bseen hbl (Nat.le_refl _) ⟨#[48, 49, 50, 51, 52, 53, 54, 55, 56, 57, 65, 66, 67, 68, 69, 70]⟩ (k + 1)
        have hpos2 := hid hit2.pos
        generalize HJ : dj k = d at *
        have hJ := hid HJ
        clear HJ
        by_cases hq : ((c : Int) : Int) = (d : Int)
        · have hv : dgN c = k := dg_hit c k hlt (by rw [HU.out, hJ.out]; have := hUU.out; omega)
          have hv2 : dgV c = k := by unfold dgV; rw [hv, if_neg (by omega)]
          have hv3 : dgOk c = true := by unfold dgOk; rw [hv]; simp; omega
          have hv2 := hid hv2
          have hv3 := hid hv3
          clear hv
          go_wp2_with fail
          go_ret2
          rw [hv2.out, hv3.out]
          exact ⟨rfl, hbl2⟩
        · go_wp2_with fail
          go_roundw
          case rel =>
            refine ⟨k + 1, by omega, hbl2, hit2, fun j hj => ?_⟩
            by_cases hjk : j = k
            · subst hjk; rw [hJ.out]; intro e; have := hUU.out; omega
            · exact hno.out j (by omega)
          case measure => rw [hpos.out, hpos2.out]; omega
      · have hnx := fun ty => hit.stop (P := Try.prog) (by exact hlt) ty
        have hv : dgN c = 16 := dg_miss c (fun i hi => by rw [HU.out]; exact hno.out i (by omega))
        have hv2 : dgV c = 0 := by unfold dgV; rw [hv, if_pos rfl]
        have hv3 : dgOk c = false := by unfold dgOk; rw [hv]; rfl
        have hv2 := hid hv2
        have hv3 := hid hv3
        clear hv
        go_wp2_with fail
        go_ret2
        rw [hv2.out, hv3.out]
        exact ⟨rfl, hbl⟩

end Go.Proofs.Ytookhpmpngacjaa
