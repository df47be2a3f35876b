/- Package decim: the papers' count, value, parse. -/
import Derived.Test.YtobgibmpodggkaaGreatDoorDec5
import Derived.Deep.DeepCutAuto
namespace Go.Proofs.YtobgibmpodggkaaGreatDoor
open Go.ChangeShapes Go.WideShapes Go.ChangeAt Go.RowKit
set_option linter.unusedVariables false
set_option linter.unusedSimpArgs false

def parR (o : Option Nat) : Value := match o with
  | some n => .tuple #[.int .i64 (n : Int), .bool true]
  | none => .tuple #[.int .i64 0, .bool false]
theorem cntM_lo {l : List Nat} {m : Nat} (h : cnt l ≤ m) : cntM l m = cnt l := Nat.min_eq_left h
theorem cntM_hi {l : List Nat} {m : Nat} (h : m < cnt l) : cntM l m = m := Nat.min_eq_right (Nat.le_of_lt h)
theorem isD_46 : isD 46 = false := by decide
theorem par_few {zs : List Nat} {least most frac a : Nat} (ha : cnt zs = a) (h : a < least ∨ most < a) : fixP zs 0 least most frac = none := by
  have hle := cnt_le zs
  by_cases hm : most < a
  · have e : cntM (zs.drop 0) most = most := by rw [List.drop_zero]; exact cntM_hi (by omega)
    have hd := cnt_all (l := zs) most (by omega)
    rw [fixP_no (a := most) (n1 := valN 0 ((zs.drop 0).take most)) e (by rintro ⟨_, _, h3⟩; rw [Nat.zero_add] at h3; rw [h3, isD_46] at hd; cases hd) rfl, if_neg (by omega)]
  · have e : cntM (zs.drop 0) most = a := by rw [List.drop_zero, cntM_lo (by omega), ha]
    by_cases hd : 0 < frac ∧ 0 + a < zs.length ∧ zs.getD (0 + a) 0 = 46
    · rw [fixP_dot e hd rfl rfl rfl, if_neg (by omega)]
    · rw [fixP_no e hd rfl, if_neg (by omega)]
theorem par_all {zs : List Nat} {least most frac a n1 : Nat} (ha : cnt zs = a) (h1 : least ≤ a) (h2 : a ≤ most) (h3 : a = zs.length) (hn : valN 0 (zs.take a) = n1) : fixP zs 0 least most frac = some (n1 * 10 ^ frac) := by
  have e : cntM (zs.drop 0) most = a := by rw [List.drop_zero, cntM_lo (by omega), ha]
  rw [fixP_no (n1 := n1) e (by omega) (by rw [List.drop_zero]; exact hn), if_pos (by omega)]
theorem par_no {zs : List Nat} {least most frac a b : Nat} (ha : cnt zs = a) (h2 : a ≤ most) (h3 : a < zs.length) (hb : cnt (zs.drop (a + 1)) = b) (h : zs.getD a 0 ≠ 46 ∨ b < 1 ∨ frac < b ∨ a + 1 + b ≠ zs.length) : fixP zs 0 least most frac = none := by
  have e : cntM (zs.drop 0) most = a := by rw [List.drop_zero, cntM_lo (by omega), ha]
  have hbl := cnt_le (zs.drop (a + 1))
  rw [hb, List.length_drop] at hbl
  by_cases hd : 0 < frac ∧ 0 + a < zs.length ∧ zs.getD (0 + a) 0 = 46
  · by_cases hf : frac < b
    · have e2 : cntM (zs.drop (0 + a + 1)) frac = frac := by rw [Nat.zero_add]; exact cntM_hi (by omega)
      rw [fixP_dot e hd e2 rfl rfl, if_neg (by omega)]
    · have e2 : cntM (zs.drop (0 + a + 1)) frac = b := by rw [Nat.zero_add, cntM_lo (by omega), hb]
      have h46 := hd.2.2
      rw [Nat.zero_add] at h46
      rw [fixP_dot e hd e2 rfl rfl, if_neg (by omega)]
  · rw [fixP_no e hd rfl, if_neg (by omega)]
theorem par_dot {zs : List Nat} {least most frac a b n1 n2 : Nat} (ha : cnt zs = a) (h1 : least ≤ a) (h2 : a ≤ most) (h3 : a < zs.length) (h46 : zs.getD a 0 = 46) (hb : cnt (zs.drop (a + 1)) = b) (hb1 : 1 ≤ b) (hbf : b ≤ frac) (hl : a + 1 + b = zs.length) (hn1 : valN 0 (zs.take a) = n1) (hn2 : valN 0 (zs.drop (a + 1)) = n2) : fixP zs 0 least most frac = some (n1 * 10 ^ frac + n2 * 10 ^ (frac - b)) := by
  have e : cntM (zs.drop 0) most = a := by rw [List.drop_zero, cntM_lo (by omega), ha]
  have hd : 0 < frac ∧ 0 + a < zs.length ∧ zs.getD (0 + a) 0 = 46 := by rw [Nat.zero_add]; exact ⟨by omega, h3, h46⟩
  have e2 : cntM (zs.drop (0 + a + 1)) frac = b := by rw [Nat.zero_add, cntM_lo (by omega), hb]
  have e3 : (zs.drop (0 + a + 1)).take b = zs.drop (a + 1) := by rw [Nat.zero_add]; exact List.take_of_length_le (by rw [List.length_drop]; omega)
  rw [fixP_dot (n1 := n1) (n2 := n2) e hd e2 (by rw [List.drop_zero]; exact hn1) (by rw [e3]; exact hn2), if_pos (by omega)]
theorem fixP_one {zs : List Nat} {least most frac : Nat} (h : 1 ≤ zs.length) : fixP zs 1 least most frac = fixP (zs.drop 1) 0 least most frac := by
  have hl : (zs.drop 1).length = zs.length - 1 := List.length_drop
  have hle := cntM_le (zs.drop 1) most
  rw [hl] at hle
  have g : ∀ k, (zs.drop 1).getD k 0 = zs.getD (1 + k) 0 := fun k => getD_dropN _ _ _
  have d : ∀ k, (zs.drop 1).drop k = zs.drop (1 + k) := fun k => List.drop_drop
  obtain ⟨a, ha⟩ : ∃ a, cntM (zs.drop 1) most = a := ⟨_, rfl⟩
  have ha2 : cntM ((zs.drop 1).drop 0) most = a := by rw [List.drop_zero]; exact ha
  rw [ha] at hle
  by_cases hd : 0 < frac ∧ 1 + a < zs.length ∧ zs.getD (1 + a) 0 = 46
  · have hd2 : 0 < frac ∧ 0 + a < (zs.drop 1).length ∧ (zs.drop 1).getD (0 + a) 0 = 46 := by rw [Nat.zero_add, hl, g]; exact ⟨hd.1, by omega, hd.2.2⟩
    have e : (zs.drop 1).drop (0 + a + 1) = zs.drop (1 + a + 1) := by rw [d]; congr 1; omega
    rw [fixP_dot ha hd rfl rfl rfl, fixP_dot ha2 hd2 (by rw [e]) (by rw [List.drop_zero]) (by rw [e]), hl]
    congr 1
    simp only [eq_iff_iff]
    omega
  · have hd2 : ¬ (0 < frac ∧ 0 + a < (zs.drop 1).length ∧ (zs.drop 1).getD (0 + a) 0 = 46) := by rw [Nat.zero_add, hl, g]; intro h2; exact hd ⟨h2.1, by omega, h2.2.2⟩
    rw [fixP_no ha hd rfl, fixP_no ha2 hd2 (by rw [List.drop_zero]), hl]
    congr 1
    simp only [eq_iff_iff]
    omega
set_option maxRecDepth 100000 in
set_option maxHeartbeats 2000000 in
theorem count_any (s : ByteArray) (p : Nat) (w : World) (hp : p ≤ s.size) (hs : s.size ≤ 1000) : Calls Tryz.prog 56 #[.string s, .int .i64 p] w fun e w' => e = .returned (.int .i64 (cnt ((sb s).drop p) : Nat)) ∧ w' = w := by
  have hz := sb_len s
  obtain ⟨l, hl2⟩ : ∃ l, (sb s).drop p = l := ⟨_, rfl⟩
  have hll : l.length = s.size - p := by rw [← hl2, List.length_drop, hz]
  have hget : ∀ k, l.getD k 0 = (sb s).getD (p + k) 0 := fun k => by rw [← hl2, getD_dropN]
  rw [hl2]
  obtain ⟨J, hJ⟩ : ∃ J, cnt l = J := ⟨_, rfl⟩
  rw [hJ]
  have hcl := cnt_le l
  have kend := cnt_end (l := l)
  have kall := cnt_all (l := l)
  rw [hJ] at hcl kend
  have kall2 : ∀ i, i < J → isD (l.getD i 0) = true := fun i h => kall i (by omega)
  clear hz hl2 hJ kall
  replace kend := hid kend
  replace kall2 := hid kall2
  replace hget := hid hget
  go_enter Tryz.func56, Tryz.ntmps56
  go_wp2_with fail
  go_loop [5] (fun i => ∃ k : Nat, k ≤ J ∧ i = .int .i64 (k : Int)) (fun i => J - (intOf i).toNat)
  case atStart => exact ⟨0, Nat.zero_le _, rfl⟩
  case round =>
    obtain ⟨k, hk, rfl⟩ := hrel
    obtain ⟨r, hr⟩ : ∃ r, p + k = r := ⟨_, rfl⟩
    have wr1 : IntKind.i64.wrap ((p : Int) + k) = r := by rw [IntKind.wrap_i64] <;> omega
    obtain ⟨c, hc⟩ : ∃ c, (sb s).getD r 0 = c := ⟨_, rfl⟩
    have hgr := hget.out k
    rw [hr, hc] at hgr
    by_cases hlt : k < J
    case pos =>
      have hcd := isD_bd (kall2.out k hlt)
      rw [hgr] at hcd
      have ki := fun U => tidx (P := Tryz.prog) 9 Tryz.underlying9 s r c (by omega) hc .i64 r rfl U
      have lt1 : (r : Int) < s.size := by omega
      have g1 : (48 : Int) ≤ c := by omega
      have g2 : (c : Int) ≤ 57 := by omega
      have w5 : IntKind.i64.wrap ((k : Int) + 1) = (k : Int) + 1 := by rw [IntKind.wrap_i64] <;> omega
      have hk1 := hid (show k + 1 ≤ J by omega)
      clear hcd hc hgr hr
      go_wp2_with fail
      go_round
      case rel => exact ⟨k + 1, hk1.out, by simp⟩
      case measure => simp [intOf]; omega
    obtain rfl : k = J := by omega
    by_cases e1 : r < s.size
    · have hcd := kend.out (by omega)
      rw [hgr] at hcd
      have hcn := isD_no hcd
      have ki := fun U => tidx (P := Tryz.prog) 9 Tryz.underlying9 s r c e1 hc .i64 r rfl U
      have lt1 : (r : Int) < s.size := by omega
      clear hcd hc hgr hr
      rcases hcn with h | h
      · have g1 : ¬ ((48 : Int) ≤ c) := by omega
        go_wp2_with fail
        go_ret
        exact ⟨rfl, rfl⟩
      · have g1 : (48 : Int) ≤ c := by omega
        have g2 : ¬ ((c : Int) ≤ 57) := by omega
        go_wp2_with fail
        go_ret
        exact ⟨rfl, rfl⟩
    · have lt1 : ¬ ((r : Int) < s.size) := by omega
      clear hc hgr hr
      go_wp2_with fail
      go_ret
      exact ⟨rfl, rfl⟩
set_option maxRecDepth 100000 in
set_option maxHeartbeats 2000000 in
theorem value_any (s : ByteArray) (k : Nat) (w : World) (hk : k ≤ 6) (hs : s.size ≤ 12) (hd : ∀ c ∈ sb s, 48 ≤ c ∧ c ≤ 57) : Calls Tryz.prog 57 #[.string s, .int .i64 k] w fun e w' => e = .returned (.int .i64 (valN 0 (sb s) * 10 ^ k : Nat)) ∧ w' = w := by
  have hz := sb_len s
  obtain ⟨l, hl2⟩ : ∃ l, sb s = l := ⟨_, rfl⟩
  rw [hl2] at hd hz ⊢
  have hval : ∀ j, j ≤ l.length → valN 0 (l.take j) < 1000000000000 := fun j hj => by
    have h1 := valN_lt (l.take j) 0 (fun c hc => hd c (List.mem_of_mem_take hc))
    rw [List.length_take, Nat.min_eq_left hj, Nat.zero_add, Nat.one_mul] at h1
    exact Nat.lt_of_lt_of_le h1 (tpow (b := 12) (by omega))
  have hvl := hval l.length (Nat.le_refl _)
  rw [List.take_length] at hvl
  have hdi : ∀ j, j < l.length → 48 ≤ l.getD j 0 ∧ l.getD j 0 ≤ 57 := fun j hj => by
    rw [List.getD_eq_getElem?_getD, List.getElem?_eq_getElem hj]
    exact hd _ (List.getElem_mem hj)
  obtain ⟨P, hP⟩ : ∃ P, 10 ^ k = P := ⟨_, rfl⟩
  have hP6 : P ≤ 1000000 := by rw [← hP]; exact tpow (b := 6) hk
  have hPi : p10 k = (P : Int) := by unfold p10; rw [hP]
  have kW := hid (fun U => hPi ▸ rten_any k (by omega) U)
  obtain ⟨V, hV⟩ : ∃ V, valN 0 l = V := ⟨_, rfl⟩
  rw [hP, hV]
  rw [hV] at hvl
  obtain ⟨X, hX⟩ : ∃ X, V * P = X := ⟨_, rfl⟩
  have hXl : X ≤ 1000000000000000000 := by
    rw [← hX]
    exact Nat.mul_le_mul (show V ≤ 1000000000000 by omega) hP6
  have hXi : (V : Int) * P = X := by rw [← hX]; simp
  rw [hX]
  replace hval := hid hval
  replace hdi := hid hdi
  replace hV := hid hV
  clear hd hP hPi hX
  go_enter Tryz.func57, Tryz.ntmps57
  go_wp2_with fail
  go_loop [5, 6] (fun n i => ∃ j : Nat, j ≤ s.size ∧ i = .int .i64 (j : Int) ∧ n = .int .i64 ((valN 0 (l.take j) : Nat) : Int)) (fun _ i => s.size - (intOf i).toNat)
  case atStart => exact ⟨0, Nat.zero_le _, rfl, rfl⟩
  case round =>
    obtain ⟨j, hj, rfl, rfl⟩ := hrel
    by_cases hlt : j < s.size
    case pos =>
      obtain ⟨c, hc⟩ : ∃ c, l.getD j 0 = c := ⟨_, rfl⟩
      have hcd := hdi.out j (by omega)
      have hts := take_step (l := l) (k := j) (by omega) 0
      have hv := hval.out j (by omega)
      rw [hc] at hcd hts
      have ki := fun U => tidx (P := Tryz.prog) 9 Tryz.underlying9 s j c hlt (by rw [hl2]; exact hc) .i64 j rfl U
      obtain ⟨n, hn⟩ : ∃ n, valN 0 (l.take j) = n := ⟨_, rfl⟩
      rw [hn] at hts hv ⊢
      have lt1 : (j : Int) < s.size := by omega
      have w1 : IntKind.i64.wrap (10 * (n : Int)) = 10 * (n : Int) := by rw [IntKind.wrap_i64] <;> omega
      have w2 : IntKind.u8.wrap ((c : Int) - 48) = (c : Int) - 48 := by rw [IntKind.wrap_u8] <;> omega
      have w3 : IntKind.i64.wrap ((c : Int) - 48) = (c : Int) - 48 := by rw [IntKind.wrap_i64] <;> omega
      have w4 : IntKind.i64.wrap (10 * (n : Int) + ((c : Int) - 48)) = 10 * (n : Int) + ((c : Int) - 48) := by rw [IntKind.wrap_i64] <;> omega
      have w5 : IntKind.i64.wrap ((j : Int) + 1) = (j : Int) + 1 := by rw [IntKind.wrap_i64] <;> omega
      have hout := hid (show 10 * (n : Int) + ((c : Int) - 48) = ((valN 0 (l.take (j + 1)) : Nat) : Int) by omega)
      have hj1 := hid (show j + 1 ≤ s.size by omega)
      clear hts hcd hn hc hv hl2 hz hXi
      go_wp2_with fail
      go_round
      case rel => exact ⟨j + 1, hj1.out, by simp, by rw [← hout.out]⟩
      case measure => simp [intOf]; omega
    have ej : j = l.length := by omega
    have eV : valN 0 (l.take j) = V := by rw [ej, List.take_length]; exact hV.out
    rw [eV]
    have lt1 : ¬ ((j : Int) < s.size) := by omega
    have wX : IntKind.i64.wrap (X : Int) = X := by rw [IntKind.wrap_i64] <;> omega
    clear eV hl2 hz ej
    go_wp2_with fail
    refine (kW.out _).mono ?_
    rintro e U ⟨rfl, rfl⟩
    go_wp2_with fail
    go_ret
    exact ⟨rfl, rfl⟩

end Go.Proofs.YtobgibmpodggkaaGreatDoor
