/- Package decim: the papers' count, value, parse. -/
import Derived.Test.YtobgibmpodggkaaDoorDec5
import Derived.Deep.DeepCutAuto
namespace Go.Proofs.YtobgibmpodggkaaDoor
open Go.ChangeShapes Go.WideShapes Go.ChangeAt Go.RowKit
set_option linter.unusedVariables false
set_option linter.unusedSimpArgs false

def parR (o : Option Nat) : Value := match o with
  | some n => .tuple #[.int .i64 (n : Int), .bool true]
  | none => .tuple #[.int .i64 0, .bool false]
theorem cntM_lo {l : List Nat} {m : Nat} (h : cnt l ≤ m) : cntM l m = cnt l := Nat.min_eq_left h
theorem cntM_hi {l : List Nat} {m : Nat} (h : m < cnt l) : cntM l m = m := Nat.min_eq_right (Nat.le_of_lt h)
theorem isD_46 : isD 46 = false := by decide
theorem par_few {zs : List Nat} {least most frac a : Nat} (ha : cnt zs = a) (h : a < least ∨ most < a) : fixP zs 0 least most frac = none := by
  have hle := cnt_le zs
  by_cases hm : most < a
  · have e : cntM (zs.drop 0) most = most := by rw [List.drop_zero]; exact cntM_hi (by omega)
    have hd := cnt_all (l := zs) most (by omega)
    rw [fixP_no (a := most) (n1 := valN 0 ((zs.drop 0).take most)) e (by rintro ⟨_, _, h3⟩; rw [Nat.zero_add] at h3; rw [h3, isD_46] at hd; cases hd) rfl, if_neg (by omega)]
  · have e : cntM (zs.drop 0) most = a := by rw [List.drop_zero, cntM_lo (by omega), ha]
    by_cases hd : 0 < frac ∧ 0 + a < zs.length ∧ zs.getD (0 + a) 0 = 46
    · rw [fixP_dot e hd rfl rfl rfl, if_neg (by omega)]
    · rw [fixP_no e hd rfl, if_neg (by omega)]
theorem par_all {zs : List Nat} {least most frac a n1 : Nat} (ha : cnt zs = a) (h1 : least ≤ a) (h2 : a ≤ most) (h3 : a = zs.length) (hn : valN 0 (zs.take a) = n1) : fixP zs 0 least most frac = some (n1 * 10 ^ frac) := by
  have e : cntM (zs.drop 0) most = a := by rw [List.drop_zero, cntM_lo (by omega), ha]
  rw [fixP_no (n1 := n1) e (by omega) (by rw [List.drop_zero]; exact hn), if_pos (by omega)]
theorem par_no {zs : List Nat} {least most frac a b : Nat} (ha : cnt zs = a) (h2 : a ≤ most) (h3 : a < zs.length) (hb : cnt (zs.drop (a + 1)) = b) (h : zs.getD a 0 ≠ 46 ∨ b < 1 ∨ frac < b ∨ a + 1 + b ≠ zs.length) : fixP zs 0 least most frac = none := by
  have e : cntM (zs.drop 0) most = a := by rw [List.drop_zero, cntM_lo (by omega), ha]
  have hbl := cnt_le (zs.drop (a + 1))
  rw [hb, List.length_drop] at hbl
  by_cases hd : 0 < frac ∧ 0 + a < zs.length ∧ zs.getD (0 + a) 0 = 46
  · by_cases hf : frac < b
    · have e2 : cntM (zs.drop (0 + a + 1)) frac = frac := by rw [Nat.zero_add]; exact cntM_hi (by omega)
      rw [fixP_dot e hd e2 rfl rfl, if_neg (by omega)]
    · have e2 : cntM (zs.drop (0 + a + 1)) frac = b := by rw [Nat.zero_add, cntM_lo (by omega), hb]
      have h46 := hd.2.2
      rw [Nat.zero_add] at h46
      rw [fixP_dot e hd e2 rfl rfl, if_neg (by omega)]
  · rw [fixP_no e hd rfl, if_neg (by omega)]
theorem par_dot {zs : List Nat} {least most frac a b n1 n2 : Nat} (ha : cnt zs = a) (h1 : least ≤ a) (h2 : a ≤ most) (h3 : a < zs.length) (h46 : zs.getD a 0 = 46) (hb : cnt (zs.drop (a + 1)) = b) (hb1 : 1 ≤ b) (hbf : b ≤ frac) (hl : a + 1 + b = zs.length) (hn1 : valN 0 (zs.take a) = n1) (hn2 : valN 0 (zs.drop (a + 1)) = n2) : fixP zs 0 least most frac = some (n1 * 10 ^ frac + n2 * 10 ^ (frac - b)) := by
  have e : cntM (zs.drop 0) most = a := by rw [List.drop_zero, cntM_lo (by omega), ha]
  have hd : 0 < frac ∧ 0 + a < zs.length ∧ zs.getD (0 + a) 0 = 46 := by rw [Nat.zero_add]; exact ⟨by omega, h3, h46⟩
  have e2 : cntM (zs.drop (0 + a + 1)) frac = b := by rw [Nat.zero_add, cntM_lo (by omega), hb]
  have e3 : (zs.drop (0 + a + 1)).take b = zs.drop (a + 1) := by rw [Nat.zero_add]; exact List.take_of_length_le (by rw [List.length_drop]; omega)
  rw [fixP_dot (n1 := n1) (n2 := n2) e hd e2 (by rw [List.drop_zero]; exact hn1) (by rw [e3]; exact hn2), if_pos (by omega)]
theorem fixP_one {zs : List Nat} {least most frac : Nat} (h : 1 ≤ zs.length) : fixP zs 1 least most frac = fixP (zs.drop 1) 0 least most frac := by
  have hl : (zs.drop 1).length = zs.length - 1 := List.length_drop
  have hle := cntM_le (zs.drop 1) most
  rw [hl] at hle
  have g : ∀ k, (zs.drop 1).getD k 0 = zs.getD (1 + k) 0 := fun k => getD_dropN _ _ _
  have d : ∀ k, (zs.drop 1).drop k = zs.drop (1 + k) := fun k => List.drop_drop
  obtain ⟨a, ha⟩ : ∃ a, cntM (zs.drop 1) most = a := ⟨_, rfl⟩
  have ha2 : cntM ((zs.drop 1).drop 0) most = a := by rw [List.drop_zero]; exact ha
  rw [ha] at hle
  by_cases hd : 0 < frac ∧ 1 + a < zs.length ∧ zs.getD (1 + a) 0 = 46
  · have hd2 : 0 < frac ∧ 0 + a < (zs.drop 1).length ∧ (zs.drop 1).getD (0 + a) 0 = 46 := by rw [Nat.zero_add, hl, g]; exact ⟨hd.1, by omega, hd.2.2⟩
    have e : (zs.drop 1).drop (0 + a + 1) = zs.drop (1 + a + 1) := by rw [d]; congr 1; omega
    rw [fixP_dot ha hd rfl rfl rfl, fixP_dot ha2 hd2 (by rw [e]) (by rw [List.drop_zero]) (by rw [e]), hl]
    congr 1
    simp only [eq_iff_iff]
    omega
  · have hd2 : ¬ (0 < frac ∧ 0 + a < (zs.drop 1).length ∧ (zs.drop 1).getD (0 + a) 0 = 46) := by rw [Nat.zero_add, hl, g]; intro h2; exact hd ⟨h2.1, by omega, h2.2.2⟩
    rw [fixP_no ha hd rfl, fixP_no ha2 hd2 (by rw [List.drop_zero]), hl]
    congr 1
    simp only [eq_iff_iff]
    omega
end Go.Proofs.YtobgibmpodggkaaDoor
