/- Package crc and its reference: contracts. -/
import Derived.Test.YtlfbhfmchdbnoaaCrcMath
import Derived.Test.YtlfbhfmchdbnoaaKA
import Derived.Laws.BitsAllLaws
namespace Go.Proofs.Ytlfbhfmchdbnoaa
open Go.ChangeShapes Go.WideShapes Go.ChangeAt Go.RowKit
set_option linter.unusedVariables false

theorem and15 (x : Nat) : x &&& 15 = x % 16 := Nat.and_two_pow_sub_one_eq_mod x 4
theorem tab_cell (w : World) (T : TypeId) (i : Nat) (h : i < 16) : (w.alloc (.cells #[.int .u16 0, .int .u16 4225, .int .u16 8450, .int .u16 12675, .int .u16 16900, .int .u16 21125, .int .u16 25350, .int .u16 29575, .int .u16 33800, .int .u16 38025, .int .u16 42250, .int .u16 46475, .int .u16 50700, .int .u16 54925, .int .u16 59150, .int .u16 63375] T)).cell? ⟨w.heap.size, i, none⟩ = some (.int .u16 (tab i : Nat)) := by
  obtain rfl | rfl | rfl | rfl | rfl | rfl | rfl | rfl | rfl | rfl | rfl | rfl | rfl | rfl | rfl | rfl : i = 0 ∨ i = 1 ∨ i = 2 ∨ i = 3 ∨ i = 4 ∨ i = 5 ∨ i = 6 ∨ i = 7 ∨ i = 8 ∨ i = 9 ∨ i = 10 ∨ i = 11 ∨ i = 12 ∨ i = 13 ∨ i = 14 ∨ i = 15 := by omega
  all_goals (simp [tab]; decide)

set_option maxRecDepth 100000 in
theorem step_any (c x : Nat) (w : World) (hc : c < 65536) (hx : x < 256) :
    Calls Try.prog 69 #[.int .u16 c, .int .u8 x] w fun e w' => e = .returned (.int .u16 (stepN c x)) ∧ After w w' := by
  have f0 : IntKind.u16.wrap (x : Int) = x := by rw [IntKind.wrap_u16]; omega
  have f1 := u16_xor_nat c x hc (by omega)
  obtain ⟨d, hd⟩ : ∃ d, c ^^^ x = d := ⟨_, rfl⟩
  have hd2 : d < 65536 := by rw [← hd]; exact Nat.xor_lt_two_pow (n := 16) hc (by omega)
  have hS : stepN c x = shs 8 d := by unfold stepN; rw [hd]
  rw [hd] at f1
  have f2 : bits .and .u16 (d : Int) 15 = ((d &&& 15 : Nat) : Int) := u16_and_nat d 15 hd2 (by omega)
  rw [and15] at f2
  obtain ⟨e, he⟩ : ∃ e, shs 4 d = e := ⟨_, rfl⟩
  have he2 : e < 65536 := by rw [← he]; exact shs_lt 4 d hd2
  have f3 := u16_xor_nat (d / 16) (tab (d % 16)) (by omega) (shs_lt 4 _ (by omega))
  rw [half, he] at f3
  have f4 : bits .and .u16 (e : Int) 15 = ((e &&& 15 : Nat) : Int) := u16_and_nat e 15 he2 (by omega)
  rw [and15] at f4
  have f5 := u16_xor_nat (e / 16) (tab (e % 16)) (by omega) (shs_lt 4 _ (by omega))
  rw [← he, step_tab, he] at f5
  have c1 := tab_cell w 129 (d % 16) (by omega)
  have c2 := tab_cell w 129 (e % 16) (by omega)
  have q1 : ((d : Int) % 16) = ((d % 16 : Nat) : Int) := by simp
  have q3 : ((d : Int) / 16) = ((d / 16 : Nat) : Int) := by simp
  have q4 : ((e : Int) / 16) = ((e / 16 : Nat) : Int) := by simp
  have l1 : ((d % 16 : Nat) : Int) < 16 := by omega
  have l2 : ((e % 16 : Nat) : Int) < 16 := by omega
  replace hS := hid hS
  clear hd he
  generalize d / 16 = d1 at *
  generalize d % 16 = d2 at *
  generalize e / 16 = e1 at *
  generalize e % 16 = e2 at *
  go_enter Try.func69, Try.ntmps69
  go_wp2_with fail
  go_ret
  exact ⟨ret_int (by rw [hS.out]), (Below.refl _ _).alloc (Nat.le_refl _) _⟩

theorem rstep_any (c x : Nat) (w : World) (hc : c < 65536) (hx : x < 256) :
    Calls Try.prog 68 #[.int .u16 c, .int .u8 x] w fun e w' => e = .returned (.int .u16 (stepN c x)) ∧ w' = w := by
  have f0 : IntKind.u16.wrap (x : Int) = x := by rw [IntKind.wrap_u16]; omega
  have f1 := u16_xor_nat c x hc (by omega)
  have hS : stepN c x = shs 8 (c ^^^ x) := rfl
  have hd2 : c ^^^ x < 65536 := Nat.xor_lt_two_pow (n := 16) hc (by omega)
  generalize c ^^^ x = d at *
  replace hS := hid hS
  go_enter Try.func68, Try.ntmps68
  go_wp2_with fail
  go_loopw [0, 5] (fun v i wr => ∃ (k y : Nat), wr = w ∧ k ≤ 8 ∧ i = .int .i64 k ∧ v = .int .u16 y ∧ y < 65536 ∧ Hid (shs (8 - k) y = shs 8 d)) (fun _ i _ => 8 - (intOf i).toNat)
  case atStart => exact ⟨0, d, rfl, by omega, rfl, rfl, hd2, rfl⟩
  case round =>
    obtain ⟨k, y, rfl, hk, rfl, rfl, hy, hs⟩ := hrel
    by_cases hlt : (k : Int) < 8
    · have hq : shs (8 - k) y = shs (8 - (k + 1)) (sh y) := by rw [show 8 - k = 8 - (k + 1) + 1 from by omega]; rfl
      have hsy : sh y = if y % 2 = 1 then y / 2 ^^^ 33800 else y / 2 := rfl
      have hsl := sh_lt y hy
      have hxr : bits .xor .u16 ((y / 2 : Nat) : Int) 33800 = ((y / 2 ^^^ 33800 : Nat) : Int) := u16_xor_nat (y / 2) 33800 (by omega) (by omega)
      have q1 : (y : Int) % 2 = ((y % 2 : Nat) : Int) := by simp
      have q2 : (y : Int) / 2 = ((y / 2 : Nat) : Int) := by simp
      have hHs := hid (hq ▸ hs.out)
      clear hq hs
      by_cases hodd : y % 2 = 1
      · rw [if_pos hodd] at hsy
        rw [← hsy] at hxr
        have b1 : ((y : Int) % 2 == 1) = true := by rw [q1, hodd]; rfl
        replace hsy := hid hsy
        clear q1
        generalize y / 2 = y2 at *
        generalize sh y = z at *
        go_wp2_with fail
        go_roundw
        case rel => exact ⟨k + 1, z, trivial, by omega, by simp, rfl, hsl, hHs.out⟩
        case measure => simp [intOf]; omega
      · rw [if_neg hodd] at hsy
        rw [hsy] at hsl hHs
        have b1 : ((y : Int) % 2 == 1) = false := by rw [q1]; simp; omega
        clear q1 hsy
        generalize y / 2 = y2 at *
        go_wp2_with fail
        go_roundw
        case rel => exact ⟨k + 1, y2, trivial, by omega, by simp, by simp, hsl, hHs.out⟩
        case measure => simp [intOf]; omega
    · go_wp2_with fail
      go_ret
      obtain rfl : k = 8 := by omega
      exact ⟨ret_int (by rw [hS.out, ← hs.out]; rfl), rfl⟩

end Go.Proofs.Ytlfbhfmchdbnoaa
