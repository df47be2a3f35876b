/- Package bits and its reference: Fits, widths, where the next part begins. -/
import Derived.Test.YtnabfimammojhaaBits3
import Derived.Test.YtnabfimammojhaaRegionB
namespace Go.Proofs.Ytnabfimammojhaa
open Go.ChangeShapes Go.WideShapes Go.ChangeAt Go.RowKit
set_option linter.unusedVariables false

theorem sgn_nat (u n : Nat) (h1 : 1 ≤ n) (h2 : n ≤ 32) (hu : u < 4294967296) : -((2 ^ (n - 1) : Nat) : Int) ≤ sgnN u n ∧ sgnN u n < ((2 ^ (n - 1) : Nat) : Int) := by
  unfold sgnN
  obtain rfl | rfl | rfl | rfl | rfl | rfl | rfl | rfl | rfl | rfl | rfl | rfl | rfl | rfl | rfl | rfl | rfl | rfl | rfl | rfl | rfl | rfl | rfl | rfl | rfl | rfl | rfl | rfl | rfl | rfl | rfl | rfl : n = 1 ∨ n = 2 ∨ n = 3 ∨ n = 4 ∨ n = 5 ∨ n = 6 ∨ n = 7 ∨ n = 8 ∨ n = 9 ∨ n = 10 ∨ n = 11 ∨ n = 12 ∨ n = 13 ∨ n = 14 ∨ n = 15 ∨ n = 16 ∨ n = 17 ∨ n = 18 ∨ n = 19 ∨ n = 20 ∨ n = 21 ∨ n = 22 ∨ n = 23 ∨ n = 24 ∨ n = 25 ∨ n = 26 ∨ n = 27 ∨ n = 28 ∨ n = 29 ∨ n = 30 ∨ n = 31 ∨ n = 32 := by omega
  all_goals (simp only [Nat.reduceSub, Nat.reducePow]; split <;> omega)
/-- A number in n bits comes back; what comes back is in n bits. -/
theorem sgn_back (i : Int) (n : Nat) (h1 : 1 ≤ n) (h2 : n ≤ 32) (hi : -2147483648 ≤ i) (hi2 : i < 2147483648) : (sgnN (i % 4294967296).toNat n = i ↔ -((2 ^ (n - 1) : Nat) : Int) ≤ i ∧ i < ((2 ^ (n - 1) : Nat) : Int)) := by
  unfold sgnN
  obtain rfl | rfl | rfl | rfl | rfl | rfl | rfl | rfl | rfl | rfl | rfl | rfl | rfl | rfl | rfl | rfl | rfl | rfl | rfl | rfl | rfl | rfl | rfl | rfl | rfl | rfl | rfl | rfl | rfl | rfl | rfl | rfl : n = 1 ∨ n = 2 ∨ n = 3 ∨ n = 4 ∨ n = 5 ∨ n = 6 ∨ n = 7 ∨ n = 8 ∨ n = 9 ∨ n = 10 ∨ n = 11 ∨ n = 12 ∨ n = 13 ∨ n = 14 ∨ n = 15 ∨ n = 16 ∨ n = 17 ∨ n = 18 ∨ n = 19 ∨ n = 20 ∨ n = 21 ∨ n = 22 ∨ n = 23 ∨ n = 24 ∨ n = 25 ∨ n = 26 ∨ n = 27 ∨ n = 28 ∨ n = 29 ∨ n = 30 ∨ n = 31 ∨ n = 32 := by omega
  all_goals (simp only [Nat.reduceSub, Nat.reducePow]; split <;> omega)

def fitP (i n : Int) : Prop := 1 ≤ n ∧ n ≤ 32 ∧ -((2 ^ (n.toNat - 1) : Nat) : Int) ≤ i ∧ i < ((2 ^ (n.toNat - 1) : Nat) : Int)
instance (i n : Int) : Decidable (fitP i n) := by unfold fitP; infer_instance
def fitB (i n : Int) : Bool := decide (fitP i n)

/-- Widths that fill a word. -/
def rightP (zs : List Int) : Prop := (∀ i, i < zs.length → 1 ≤ zs.getD i 0 ∧ zs.getD i 0 ≤ 32) ∧ zs.sum = 32
instance (zs : List Int) : Decidable (rightP zs) := by unfold rightP; infer_instance
def rightB (zs : List Int) : Bool := decide (rightP zs)
theorem take_succ_sum (zs : List Int) (k : Nat) (h : k < zs.length) : (zs.take (k + 1)).sum = (zs.take k).sum + zs.getD k 0 := by
  rw [List.take_succ_eq_append_getElem h, List.sum_append]; simp [h]
theorem sum_le (zs : List Int) : ∀ k, k ≤ zs.length → (∀ i, i < k → 1 ≤ zs.getD i 0 ∧ zs.getD i 0 ≤ 32) → (k : Int) ≤ (zs.take k).sum ∧ (zs.take k).sum ≤ 32 * k
  | 0, _, _ => by simp
  | k + 1, hk, h => by
    have ih := sum_le zs k (by omega) (fun i hi => h i (by omega))
    have hz := h k (by omega)
    rw [take_succ_sum zs k (by omega)]
    omega
theorem sum_mono (zs : List Int) (h : ∀ i, i < zs.length → 1 ≤ zs.getD i 0 ∧ zs.getD i 0 ≤ 32) (k : Nat) : ∀ m, k + m ≤ zs.length → (zs.take k).sum + m ≤ (zs.take (k + m)).sum
  | 0, _ => by simp
  | m + 1, hm => by
    have ih := sum_mono zs h k m (by omega)
    have hz := h (k + m) (by omega)
    rw [show k + (m + 1) = k + m + 1 from by omega, take_succ_sum zs (k + m) (by omega)]
    omega
theorem right_no {zs : List Int} {i : Nat} (hi : i < zs.length) (h : ¬ (1 ≤ zs.getD i 0 ∧ zs.getD i 0 ≤ 32)) : rightB zs = false := decide_eq_false fun r => h (r.1 i hi)
theorem right_over {zs : List Int} {i : Nat} (hi : i ≤ zs.length) (h : 32 < (zs.take i).sum) : rightB zs = false := decide_eq_false fun r => by
  have := sum_mono zs r.1 i (zs.length - i) (by omega)
  rw [show i + (zs.length - i) = zs.length from by omega, List.take_length, r.2] at this
  omega
theorem right_all {zs : List Int} (h : ∀ i, i < zs.length → 1 ≤ zs.getD i 0 ∧ zs.getD i 0 ≤ 32) : rightB zs = (zs.sum == 32) := by
  unfold rightB
  by_cases hh : zs.sum = 32
  · rw [decide_eq_true (show rightP zs from ⟨h, hh⟩)]; simp [hh]
  · rw [decide_eq_false (fun r => hh r.2)]; simp [hh]

theorem right_any (ad : Option Addr) (len cap : Nat) (zs : List Int) (w : World) (hsl : Sl .i64 w ad len cap zs) (hwf : ∀ n ∈ zs, (Lit.int .i64 n).wf = true) (hlen : len ≤ 100000) :
    Calls Try.prog 33 #[.slice ad len cap] w fun e w' => e = .returned (.bool (rightB zs)) ∧ w' = w := by
  obtain ⟨rfl, hlc, hcm, hn, hrd⟩ := hsl
  unfold maxLen at hcm
  go_enter Try.func33, Try.ntmps33
  go_wp2_with fail
  go_loopw [3, 8] (fun s i wr => ∃ (k : Nat), wr = w ∧ k ≤ zs.length ∧ i = .int .i64 k ∧ s = .int .i64 (zs.take k).sum ∧ ∀ j, j < k → 1 ≤ zs.getD j 0 ∧ zs.getD j 0 ≤ 32) (fun _ i _ => zs.length - (intOf i).toNat)
  case atStart => exact ⟨0, rfl, by omega, rfl, by simp, fun j hj => by omega⟩
  case round =>
    obtain ⟨k, rfl, hk, rfl, rfl, hall⟩ := hrel
    have hsum := sum_le zs k hk hall
    by_cases hlt : (k : Int) < zs.length
    · have hlt2 : k < zs.length := by omega
      obtain ⟨b, off, rfl, hc⟩ := hrd k hlt2
      have hz := bounds_i64 (hwf (zs.getD k 0) (by simp [hlt2]))
      have hss := hid (take_succ_sum zs k hlt2)
      have hno := hid (fun h => right_no (zs := zs) (i := k) hlt2 h)
      have hallH := hid hall
      clear hall
      obtain ⟨z, hz0⟩ : ∃ z, zs.getD k 0 = z := ⟨_, rfl⟩
      rw [hz0] at hc hz hss hno
      have hzz := hid hz0
      clear hz0
      generalize (zs.take k).sum = S at *
      by_cases cz : 1 ≤ z ∧ z ≤ 32
      · have e : szP z = true := by unfold szP; simp; omega
        go_wp2_with fail
        refine (sized_any z _ hz.1 hz.2).mono ?_
        rintro e w2 ⟨rfl, rfl⟩
        rw [e]
        clear e
        go_wp2_with fail
        go_roundw
        case rel => exact ⟨k + 1, trivial, by omega, by simp, by rw [hss.out], fun j hj => by
          by_cases e : j = k
          · subst e; exact hzz.out ▸ cz
          · exact hallH.out j (by omega)⟩
        case measure => simp [intOf]; omega
      · have e : szP z = false := by unfold szP; simp; omega
        go_wp2_with fail
        refine (sized_any z _ hz.1 hz.2).mono ?_
        rintro e w2 ⟨rfl, rfl⟩
        rw [e]
        clear e
        go_wp2_with fail
        go_ret
        exact ⟨ret_bool (by rw [hno.out cz]), rfl⟩
    · go_wp2_with fail
      go_ret
      obtain rfl : k = zs.length := by omega
      exact ⟨ret_bool (by rw [right_all hall, List.take_length]), rfl⟩

theorem down1_any (n z : Int) (B : Nat) (w : World) (hc : w.cell? ⟨B, 0, none⟩ = some (.int .i64 z)) (hf : w.frozen? ⟨B, 0, none⟩ = false) (h1 : 0 ≤ z - n) (h2 : 1 ≤ n) (h3 : z ≤ 32) :
    Calls Try.prog 44 #[.int .i64 n, .pointer (some ⟨B, 0, none⟩)] w fun e w' => e = .returned (.int .i64 (z - n)) ∧ w' = w.setCell ⟨B, 0, none⟩ (.int .i64 (z - n)) := by
  go_enter Try.func44, Try.ntmps44
  go_wp2_with fail
  go_ret
  exact ⟨rfl, rfl⟩

theorem down_any (w : World) :
    Calls Try.prog 34 #[] w fun e w' => e = .returned (.func (.func 44) #[] #[.pointer (some ⟨w.heap.size, 0, none⟩)]) ∧ w' = w.alloc (.cells #[.int .i64 32] 3) := by
  have hmf : ∀ (fn : Fn) (first cap : Array Value) (w : World), (Instr.makeFunc fn first cap).run Try.prog w = .ok (.func fn first cap) w := fun _ _ _ _ => rfl
  go_enter Try.func34, Try.ntmps34
  go_wp2_with fail
  go_ret
  exact ⟨rfl, rfl⟩

end Go.Proofs.Ytnabfimammojhaa
