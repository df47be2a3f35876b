/- The law FletchSums, walked: it returns true. -/
import Derived.Test.YtjbamblmkbbpfaaLaw06
namespace Go.Proofs.Ytjbamblmkbbpfaa
open Go.ChangeShapes Go.WideShapes Go.ChangeAt Go.RowKit
set_option linter.unusedVariables false

def sum1 : List Int → Int
  | [] => 0
  | c :: r => c + sum1 r
def sum2 : Int → List Int → Int
  | _, [] => 0
  | n, c :: r => n * c + sum2 (n - 1) r
theorem sum1_snoc (l : List Int) (c : Int) : sum1 (l ++ [c]) = sum1 l + c := by
  induction l with
  | nil => simp [sum1]
  | cons x r ih => show x + sum1 (r ++ [c]) = x + sum1 r + c; rw [ih]; omega
theorem sum2_snoc (l : List Int) (c : Int) : ∀ n, sum2 n (l ++ [c]) = sum2 n l + (n - l.length) * c := by
  induction l with
  | nil => intro n; simp [sum2]
  | cons x r ih => intro n; show n * x + sum2 (n - 1) (r ++ [c]) = n * x + sum2 (n - 1) r + (n - (r.length + 1 : Nat)) * c; rw [ih]; rw [show n - 1 - (r.length : Int) = n - ((r.length + 1 : Nat) : Int) from by omega]; omega
theorem mod_mul (n x b r : Int) : (b % 256 + n * (x % 256) + r) % 256 = (b + n * x + r) % 256 := by
  have h : (n * (x % 256)) % 256 = (n * x) % 256 := by rw [Int.mul_emod, Int.emod_emod_of_dvd x (by decide : (256 : Int) ∣ 256), ← Int.mul_emod]
  omega
theorem flS_sums (l : List Int) : ∀ a b, 0 ≤ a ∧ a ≤ 255 → 0 ≤ b ∧ b ≤ 255 → flS a b l = ((a + sum1 l) % 256, (b + l.length * a + sum2 l.length l) % 256) := by
  induction l with
  | nil => intro a b h1 h2; simp [flS, sum1, sum2]; omega
  | cons c r ih =>
    intro a b h1 h2
    rw [flS_cons, ih _ _ (by omega) (by omega)]
    have e1 : (((r.length + 1 : Nat) : Int)) * a = (r.length : Int) * a + a := by rw [Int.natCast_add, Int.add_mul]; simp
    have e2 : (((r.length + 1 : Nat) : Int)) * c = (r.length : Int) * c + c := by rw [Int.natCast_add, Int.add_mul]; simp
    have e3 : (((r.length + 1 : Nat) : Int)) - 1 = (r.length : Int) := by omega
    have h := mod_mul (r.length : Int) (a + c) (b + (a + c)) (sum2 r.length r)
    rw [Int.mul_add] at h
    refine Prod.ext ?_ ?_
    · show ((a + c) % 256 + sum1 r) % 256 = (a + (c + sum1 r)) % 256; omega
    · show ((b + (a + c)) % 256 + (r.length : Int) * ((a + c) % 256) + sum2 r.length r) % 256 = (b + ((r.length + 1 : Nat) : Int) * a + (((r.length + 1 : Nat) : Int) * c + sum2 (((r.length + 1 : Nat) : Int) - 1) r)) % 256
      rw [h, e1, e2, e3]
      congr 1; omega

set_option maxRecDepth 100000 in
set_option maxHeartbeats 4000000 in
theorem law_FletchSums (a0 : Option Addr) (len0 cap0 : Nat) (z0 : List Int) (a1 : Option Addr) (len1 cap1 : Nat) (z1 : List Int) (w : World) (w0 : IsRow .u8 w a0 len0 cap0 z0) (w1 : IsRow .u8 w a1 len1 cap1 z1) :
    Calls Try.prog 4 #[.slice a0 len0 cap0, .slice a1 len1 cap1] w fun e w' => e = .returned (.bool true) ∧ Below w.heap.size w w' := by
  obtain ⟨hsl0, hz0⟩ := w0.sl
  obtain ⟨hsl1, hz1⟩ := w1.sl
  clear w0 w1
  generalize z0.take len0 = s at *
  generalize z1.take len1 = t at *
  have hm0 := hsl0.2.1
  have hm1 := hsl1.2.1
  have hn0 := hsl0.2.2.1
  have hn1 := hsl1.2.2.1
  unfold maxLen at hn0 hn1
  by_cases c0 : (500 : Int) < len0
  · go_enter Try.func4, Try.ntmps4
    go_wp2_with fail
    refine (knows06_any _).mono ?_
    rintro e w1 ⟨rfl, hb⟩
    go_wp2_with fail
    go_ret
    exact ⟨rfl, hb⟩
  by_cases c1 : (500 : Int) < len1
  · go_enter Try.func4, Try.ntmps4
    go_wp2_with fail
    refine (knows06_any _).mono ?_
    rintro e w1 ⟨rfl, hb⟩
    go_wp2_with fail
    go_ret
    exact ⟨rfl, hb⟩
  have hl0 := hid hsl0.1
  have hl1 := hid hsl1.1
  have hzc : Go.RowKit.Hid (∀ n ∈ s ++ t, (Lit.int .u8 n).wf = true) := hid (by
    intro n hn
    rcases List.mem_append.1 hn with h | h
    · exact hz0 n h
    · exact hz1 n h)
  have hal : Go.RowKit.Hid ((s ++ t).length = len0 + len1) := hid (by rw [List.length_append, hl0.out, hl1.out])
  go_enter Try.func4, Try.ntmps4
  go_wp2_with fail
  refine (knows06_any _).mono ?_
  rintro e w2 ⟨rfl, hb2⟩
  have hs0 := hsl0.below hb2
  have hs1 := hsl1.below hb2
  have be3 : Below w2.heap.size w2 (w2.alloc (.cells #[] 5)) := (Below.refl _ _).alloc (Nat.le_refl _) _
  have ho := Own.lit .u8 5 w2 [] w2.heap.size (Nat.le_refl _) (by simp) #[] rfl
  have hs2a := hs0.below be3
  have sz3 := be3.size
  go_wp2_with (first
    | (at_builtin; refine wpList_appS _ w2 rfl (.tmp 26) (.tmp 27) 22 rfl w2.heap.size w2.heap.size 5 .u8 1 bytesOf (.slice (some ⟨w2.heap.size, 0, none⟩) 0 0) [] rfl ho a0 _ cap0 s rfl hs2a (by simp; omega) (by decide) be3 (Nat.le_refl _) sz3 ?_))
  intro a3 c3 w3 own3 bel3
  have sz4 := bel3.size
  have hs1b := hs1.below bel3
  have own3 : Own .u8 5 w3 w2.heap.size (.slice a3 len0 c3) s := own3
  have e3 := hl0.out
  clear be3 ho hs2a sz3
  go_wp2_with (first
    | (at_builtin; refine wpList_appS _ w2 rfl (.tmp 28) (.tmp 29) 22 rfl w2.heap.size w2.heap.size 5 .u8 1 bytesOf (.slice a3 len0 c3) s rfl own3 a1 _ cap1 t rfl hs1b (by simp; omega) (by decide) bel3 (Nat.le_refl _) sz4 ?_))
  intro a4 c4 w4 own4 bel4
  have hsA : Sl .u8 w4 a4 (len0 + len1) c4 (s ++ t) := by
    have h2 : Own .u8 5 w4 w2.heap.size (.slice a4 (s ++ t).length c4) (s ++ t) := by rw [hal.out]; exact own4
    obtain ⟨_, _, hv, h3⟩ := h2.sl
    cases hv
    rw [hal.out] at h3; exact h3
  have hs0 := hs0.below bel4
  have hs1 := hs1.below bel4
  have hb4 := bthen hb2 bel4
  have HF0 := hid (flS_sums (s ++ t) 0 0 (by omega) (by omega))
  have HFA := hid (flS_append s t 0 0)
  have hbd0 := flS_bd s 0 0 (by omega) (by omega)
  generalize s ++ t = al at *
  have hzal : ∀ n ∈ al, 0 ≤ n ∧ n ≤ 255 := fun n hn => bounds_u8 (hzc.out n hn)
  clear own3 own4 bel3 bel4 hs1b sz4 e3 hb2 hsl0 hsl1
  have hAr := hsA.2.2.2.2
  go_wp2_with fail
  go_loop [6, 7, 8] (fun o1 o2 i => ∃ (k : Nat) (x y : Int), k ≤ len0 + len1 ∧ i = .int .i64 k ∧ o1 = .int .i64 x ∧ o2 = .int .i64 y ∧ 0 ≤ x ∧ x ≤ 255 * k ∧ 0 ≤ y ∧ y ≤ 255000 * k ∧ x = sum1 (al.take k) ∧ y = sum2 al.length (al.take k)) (fun _ _ i => len0 + len1 - (intOf i).toNat)
  case atStart => exact ⟨0, 0, 0, Nat.zero_le _, rfl, rfl, rfl, by omega, by omega, by omega, by omega, rfl, rfl⟩
  case round =>
    obtain ⟨k, x, y, hk, rfl, rfl, rfl, hx0, hx1, hy0, hy1, hsx, hsy⟩ := hrel
    have HX := hid hsx
    have HY := hid hsy
    clear hsx hsy
    by_cases hlt : k < len0 + len1
    · have hka : k < al.length := by rw [hal.out]; exact hlt
      obtain ⟨b, off, rfl, hc⟩ := hAr k hka
      have hcb := hzal _ (List.getElem_mem hka)
      have he : al.getD k 0 = al[k] := by simp [hka]
      have htk := hid (List.take_succ_eq_append_getElem hka)
      have HE := hid he
      rw [← he] at hcb
      generalize al.getD k 0 = c at *
      have hP : 0 ≤ ((len0 : Int) + (len1 : Int) - (k : Int)) * c ∧ ((len0 : Int) + (len1 : Int) - (k : Int)) * c ≤ 1000 * 255 := ⟨Int.mul_nonneg (by omega) hcb.1, Int.mul_le_mul (by omega) hcb.2 hcb.1 (by omega)⟩
      have hks : (k : Int) < (len0 : Int) + (len1 : Int) := by omega
      clear he hAr hzal
      go_wp2_with fail
      go_round
      case rel => exact ⟨k + 1, x + c, y + ((len0 : Int) + (len1 : Int) - (k : Int)) * c, by omega, by go_num, rfl, rfl, by omega, by omega, by omega, by omega, by rw [htk.out, sum1_snoc, ← HE.out, ← HX.out], by
        rw [htk.out, sum2_snoc, ← HE.out, ← HY.out, List.length_take, hal.out, Nat.min_eq_left (by omega)]; simp⟩
      case measure => simp [intOf]; omega
    · obtain rfl : k = len0 + len1 := by omega
      have HT := hid (List.take_of_length_le (l := al) (i := len0 + len1) (by rw [hal.out]; exact Nat.le_refl _))
      go_wp2_with fail
      refine (of_any _ _ _ al _ (by omega) hsA hzc.out).mono ?_
      rintro e w5 ⟨rfl, be5⟩
      have hs0 := hs0.below be5
      have hs1 := hs1.below be5
      go_wp2_with fail
      refine (of_any _ _ _ s _ (by omega) hs0 hz0).mono ?_
      rintro e w6 ⟨rfl, be6⟩
      have hs1 := hs1.below be6
      go_wp2_with fail
      refine (more_any _ _ _ _ _ t _ hbd0.1 hbd0.2 (by omega) hs1 hz1).mono ?_
      rintro e w7 ⟨rfl, be7⟩
      rw [← HFA.out, HF0.out]
      have q1 : (0 + sum1 al) % 256 = x % 256 := by rw [HX.out, HT.out]; simp
      have q2 : (0 + (al.length : Int) * 0 + sum2 al.length al) % 256 = y % 256 := by rw [HY.out, HT.out]; simp
      rw [q1, q2]
      have hx2 : 0 ≤ x % 256 ∧ x % 256 ≤ 255 := by omega
      have hy2 : 0 ≤ y % 256 ∧ y % 256 ≤ 255 := by omega
      go_wp2_with fail
      go_ret
      exact ⟨by simp, bthen hb4 (After.trans be5 (After.trans be6 be7))⟩

end Go.Proofs.Ytjbamblmkbbpfaa
