/- Package decim: the papers' parse. -/
import Derived.Test.YtobgibmpodggkaaGreatDoorDec6
import Derived.Deep.DeepCutAuto
namespace Go.Proofs.YtobgibmpodggkaaGreatDoor
open Go.ChangeShapes Go.WideShapes Go.ChangeAt Go.RowKit
set_option linter.unusedVariables false
set_option linter.unusedSimpArgs false

set_option maxRecDepth 100000 in
set_option maxHeartbeats 4000000 in
theorem parse_any (s : ByteArray) (least most frac : Nat) (w : World) (hs : s.size ≤ 1000) (hl : least ≤ 15) (hm : most ≤ 12) (hf : frac ≤ 6) : Calls Tryz.prog 49 #[.string s, .int .i64 least, .int .i64 most, .int .i64 frac] w fun e w' => e = .returned (parR (fixP (sb s) 0 least most frac)) ∧ w' = w := by
  have hz := sb_len s
  obtain ⟨zs, hzs⟩ : ∃ l, sb s = l := ⟨_, rfl⟩
  have kC := hid (fun U => count_any s 0 U (Nat.zero_le _) hs)
  rw [List.drop_zero] at kC
  obtain ⟨a, ha⟩ : ∃ a, cnt (sb s) = a := ⟨_, rfl⟩
  have hal := cnt_le (sb s)
  rw [ha] at hal kC
  rw [hz] at hal
  obtain ⟨o, ho⟩ : ∃ o, fixP (sb s) 0 least most frac = o := ⟨_, rfl⟩
  rw [ho]
  replace kC := hid kC.out
  by_cases c1 : a < least ∨ most < a
  case pos =>
    rw [par_few ha c1] at ho
    subst ho
    have c2 : (a : Int) < least ∨ (¬ (a : Int) < least ∧ (most : Int) < a) := by omega
    clear hz hzs ha hal
    rcases c2 with c2 | ⟨c2, c3⟩
    · go_enter Tryz.func49, Tryz.ntmps49
      go_wp2_with fail
      refine (kC.out _).mono ?_
      rintro e U ⟨rfl, rfl⟩
      go_wp2_with fail
      go_ret2
      exact ⟨rfl, rfl⟩
    · go_enter Tryz.func49, Tryz.ntmps49
      go_wp2_with fail
      refine (kC.out _).mono ?_
      rintro e U ⟨rfl, rfl⟩
      go_wp2_with fail
      go_ret2
      exact ⟨rfl, rfl⟩
  have d1 : ¬ ((a : Int) < least) := by omega
  have d2 : ¬ ((most : Int) < a) := by omega
  have htd := take_dig (l := sb s) (k := a) (by omega)
  have e1 : sb (s.extract 0 a) = (sb s).take a := by rw [tsb_extract, List.drop_zero]
  have z1 : (s.extract 0 a).size = a := by rw [← sb_len, e1, List.length_take, hz]; omega
  have kt := fun U => tto (P := Tryz.prog) 9 Tryz.underlying9 s a hal .i64 a rfl U
  have kV := hid (fun U => value_any (s.extract 0 a) frac U hf (by omega) (by rw [e1]; exact htd))
  rw [e1] at kV
  obtain ⟨n1, hn1⟩ : ∃ n, valN 0 ((sb s).take a) = n := ⟨_, rfl⟩
  rw [hn1] at kV
  have hn1l : n1 < 1000000000000 := by rw [← hn1]; exact Nat.lt_of_lt_of_le (val_take_lt (by omega)) (tpow (b := 12) (by omega))
  generalize s.extract 0 a = S1 at *
  clear htd e1 z1
  obtain ⟨P, hP⟩ : ∃ P, 10 ^ frac = P := ⟨_, rfl⟩
  have hP6 : P ≤ 1000000 := by rw [← hP]; exact tpow (b := 6) hf
  obtain ⟨N1, hN1⟩ : ∃ N, n1 * P = N := ⟨_, rfl⟩
  have hN1l : N1 ≤ 1000000000000000000 := by
    rw [← hN1]
    exact Nat.mul_le_mul (show n1 ≤ 1000000000000 by omega) hP6
  rw [hP, hN1] at kV
  by_cases c3 : a = s.size
  case pos =>
    have h := par_all (least := least) (most := most) (frac := frac) ha (by omega) (by omega) (c3.trans hz.symm) hn1
    rw [ho, hP, hN1] at h
    subst h
    have c4 : (a : Int) = s.size := by omega
    have c5 : s.size = a := by omega
    replace c4 := hid c4
    clear c3 hz hzs ha hal ho c1 hn1 hP hN1
    go_enter Tryz.func49, Tryz.ntmps49
    go_wp2_with fail
    refine (kC.out _).mono ?_
    rintro e U ⟨rfl, rfl⟩
    go_wp2_with fail
    refine (kV.out _).mono ?_
    rintro e U ⟨rfl, rfl⟩
    go_wp2_with fail
    go_ret2
    exact ⟨rfl, rfl⟩
  have c4 : ¬ ((a : Int) = s.size) := by omega
  have c4b : ¬ (a = s.size) := c3
  obtain ⟨c, hc⟩ : ∃ c, (sb s).getD a 0 = c := ⟨_, rfl⟩
  have ki := fun U => tidx (P := Tryz.prog) 9 Tryz.underlying9 s a c (by omega) hc .i64 a rfl U
  have kC2 := hid (fun U => count_any s (a + 1) U (by omega) hs)
  obtain ⟨b, hb⟩ : ∃ b, cnt ((sb s).drop (a + 1)) = b := ⟨_, rfl⟩
  have hbl := cnt_le ((sb s).drop (a + 1))
  rw [hb, List.length_drop, hz] at hbl
  rw [hb] at kC2
  have ea : ((a + 1 : Nat) : Int) = (a : Int) + 1 := by omega
  rw [ea] at kC2
  have w1 : IntKind.i64.wrap ((a : Int) + 1) = (a : Int) + 1 := by rw [IntKind.wrap_i64] <;> omega
  have w2 : IntKind.i64.wrap ((a : Int) + 1 + b) = (a : Int) + 1 + b := by rw [IntKind.wrap_i64] <;> omega
  by_cases c5 : c ≠ 46 ∨ b < 1 ∨ frac < b ∨ a + 1 + b ≠ s.size
  case pos =>
    have h := par_no (least := least) (most := most) (frac := frac) ha (by omega) (by omega) hb (by rw [hc, hz]; exact c5)
    rw [ho] at h
    subst h
    have c6 : ¬ ((c : Int) = 46) ∨ ((c : Int) = 46 ∧ (b : Int) < 1) ∨ ((c : Int) = 46 ∧ ¬ ((b : Int) < 1) ∧ (frac : Int) < b) ∨ ((c : Int) = 46 ∧ ¬ ((b : Int) < 1) ∧ ¬ ((frac : Int) < b) ∧ ¬ ((a : Int) + 1 + b = s.size)) := by omega
    clear c5 hz hzs ha hal ho c1 hn1 hP hN1 hc hb c3 ea
    rcases c6 with c6 | ⟨c6, c7⟩ | ⟨c6, c7, c8⟩ | ⟨c6, c7, c8, c9⟩
    · go_enter Tryz.func49, Tryz.ntmps49
      go_wp2_with fail
      refine (kC.out _).mono ?_
      rintro e U ⟨rfl, rfl⟩
      go_wp2_with fail
      refine (kV.out _).mono ?_
      rintro e U ⟨rfl, rfl⟩
      go_wp2_with fail
      refine (kC2.out _).mono ?_
      rintro e U ⟨rfl, rfl⟩
      go_wp2_with fail
      go_ret2
      exact ⟨rfl, rfl⟩
    · go_enter Tryz.func49, Tryz.ntmps49
      go_wp2_with fail
      refine (kC.out _).mono ?_
      rintro e U ⟨rfl, rfl⟩
      go_wp2_with fail
      refine (kV.out _).mono ?_
      rintro e U ⟨rfl, rfl⟩
      go_wp2_with fail
      refine (kC2.out _).mono ?_
      rintro e U ⟨rfl, rfl⟩
      go_wp2_with fail
      go_ret2
      exact ⟨rfl, rfl⟩
    · have c7b : decide ((b : Int) < 1) = false := decide_eq_false (by omega)
      go_enter Tryz.func49, Tryz.ntmps49
      go_wp2_with fail
      refine (kC.out _).mono ?_
      rintro e U ⟨rfl, rfl⟩
      go_wp2_with fail
      refine (kV.out _).mono ?_
      rintro e U ⟨rfl, rfl⟩
      go_wp2_with fail
      refine (kC2.out _).mono ?_
      rintro e U ⟨rfl, rfl⟩
      go_wp2_with fail
      go_ret2
      exact ⟨rfl, rfl⟩
    · have c9b : ¬ (a + 1 + b = s.size) := by omega
      have c7b : decide ((b : Int) < 1) = false := decide_eq_false (by omega)
      have c8b : b ≤ frac := by omega
      have c9c : (a : Int) + 1 + b ≠ s.size := by omega
      have c9d : ((a : Int) + 1 + b != s.size) = true := by simp; omega
      go_enter Tryz.func49, Tryz.ntmps49
      go_wp2_with fail
      refine (kC.out _).mono ?_
      rintro e U ⟨rfl, rfl⟩
      go_wp2_with fail
      refine (kV.out _).mono ?_
      rintro e U ⟨rfl, rfl⟩
      go_wp2_with fail
      refine (kC2.out _).mono ?_
      rintro e U ⟨rfl, rfl⟩
      go_wp2_with fail
      go_ret2
      exact ⟨rfl, rfl⟩
  have g1 : c = 46 := by omega
  have hde : sb (s.extract (a + 1) s.size) = (sb s).drop (a + 1) := by rw [tsb_extract, List.take_of_length_le (by omega)]
  have z2 : (s.extract (a + 1) s.size).size = b := by rw [← sb_len, hde, List.length_drop, hz]; omega
  have hdd : ∀ x ∈ (sb s).drop (a + 1), 48 ≤ x ∧ x ≤ 57 := by
    have h := take_dig (l := (sb s).drop (a + 1)) (k := b) (by omega)
    rw [List.take_of_length_le (by rw [List.length_drop, hz]; omega)] at h
    exact h
  obtain ⟨k, hk⟩ : ∃ k, frac - b = k := ⟨_, rfl⟩
  have kV2 := hid (fun U => value_any (s.extract (a + 1) s.size) k U (by omega) (by omega) (by rw [hde]; exact hdd))
  rw [hde] at kV2
  obtain ⟨n2, hn2⟩ : ∃ n, valN 0 ((sb s).drop (a + 1)) = n := ⟨_, rfl⟩
  have hn2l : n2 < 10 ^ b := by
    rw [← hn2]
    have h := val_take_lt (l := (sb s).drop (a + 1)) (k := b) (by omega)
    rw [List.take_of_length_le (by rw [List.length_drop, hz]; omega)] at h
    exact h
  rw [hn2] at kV2
  have kf := fun U => tfrom (P := Tryz.prog) 9 Tryz.underlying9 s (a + 1) (by omega) .i64 ((a : Int) + 1) (by omega) U
  obtain ⟨X, hX⟩ : ∃ X, n2 * 10 ^ k = X := ⟨_, rfl⟩
  have hXl : X ≤ P := by
    rw [← hX, ← hP, show frac = b + k by omega, Nat.pow_add]
    exact Nat.mul_le_mul (by omega) (Nat.le_refl _)
  rw [hX] at kV2
  have h := par_dot (least := least) (most := most) (frac := frac) ha (by omega) (by omega) (by omega) (hc.trans g1) hb (by omega) (by omega) (by rw [hz]; omega) hn1 hn2
  rw [ho, hP, hN1, hk, hX] at h
  subst h
  have w3 : IntKind.i64.wrap ((frac : Int) - b) = k := by rw [IntKind.wrap_i64] <;> omega
  have w4 : IntKind.i64.wrap ((N1 : Int) + X) = ((N1 + X : Nat) : Int) := by rw [IntKind.wrap_i64] <;> omega
  have t1 : (c : Int) = 46 := by omega
  have t2 : decide ((b : Int) < 1) = false := decide_eq_false (by omega)
  have t3 : b ≤ frac := by omega
  have t4 : (a : Int) + 1 + b = s.size := by omega
  generalize s.extract (a + 1) s.size = S2 at *
  clear c5 hz hzs ha hal ho c1 hn1 hP hN1 hc hb c3 ea hn2 hn2l hX hk z2 hde hdd g1
  go_enter Tryz.func49, Tryz.ntmps49
  go_wp2_with fail
  refine (kC.out _).mono ?_
  rintro e U ⟨rfl, rfl⟩
  go_wp2_with fail
  refine (kV.out _).mono ?_
  rintro e U ⟨rfl, rfl⟩
  go_wp2_with fail
  refine (kC2.out _).mono ?_
  rintro e U ⟨rfl, rfl⟩
  go_wp2_with fail
  refine (kV2.out _).mono ?_
  rintro e U ⟨rfl, rfl⟩
  go_wp2_with fail
  go_ret2
  exact ⟨rfl, rfl⟩

end Go.Proofs.YtobgibmpodggkaaGreatDoor
