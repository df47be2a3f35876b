/- Package decim: fixed. -/
import Derived.Test.YtobgibmpodggkaaGreatDoorDec4
import Derived.Deep.DeepCutAuto
namespace Go.Proofs.YtobgibmpodggkaaGreatDoor
open Go.ChangeShapes Go.WideShapes Go.ChangeAt Go.RowKit
set_option linter.unusedVariables false
set_option linter.unusedSimpArgs false

theorem eff_base23 {g : Nat} {a b c : World} (h : After a b) (k : Eff g b c) (hg : a.heap.size ≤ g) : After a c := ⟨k.os.trans h.os, k.tape.trans h.tape, k.output.trans h.output, Nat.le_trans h.size k.size, fun j hj => (k.block j (Nat.lt_of_lt_of_le hj h.size) (by omega)).trans (h.block j hj)⟩
theorem tpow {a b : Nat} (h : a ≤ b) : 10 ^ a ≤ 10 ^ b := Nat.pow_le_pow_right (by decide) h
/-- The number that a text is from a place on: digits, a point and digits. -/
def fixP (zs : List Nat) (q least most frac : Nat) : Option Nat :=
  if 0 < frac ∧ q + cntM (zs.drop q) most < zs.length ∧ zs.getD (q + cntM (zs.drop q) most) 0 = 46 then
    (if least ≤ cntM (zs.drop q) most ∧ 1 ≤ cntM (zs.drop (q + cntM (zs.drop q) most + 1)) frac ∧ q + cntM (zs.drop q) most + 1 + cntM (zs.drop (q + cntM (zs.drop q) most + 1)) frac = zs.length then
      some (valN 0 ((zs.drop q).take (cntM (zs.drop q) most)) * 10 ^ frac + valN 0 ((zs.drop (q + cntM (zs.drop q) most + 1)).take (cntM (zs.drop (q + cntM (zs.drop q) most + 1)) frac)) * 10 ^ (frac - cntM (zs.drop (q + cntM (zs.drop q) most + 1)) frac)) else none)
  else if least ≤ cntM (zs.drop q) most ∧ q + cntM (zs.drop q) most = zs.length then some (valN 0 ((zs.drop q).take (cntM (zs.drop q) most)) * 10 ^ frac) else none
def fixQ (signed : Bool) (s : ByteArray) : Nat := if signed = true ∧ hitB s 0 45 = true then 1 else 0
def sgnI (q : Nat) : Int := if q = 1 then -1 else 1
def fixR (o : Option Nat) (q : Nat) : Value := match o with
  | some n => .tuple #[.int .i64 (sgnI q * (n : Int)), .bool true]
  | none => .tuple #[.int .i64 0, .bool false]
theorem fixP_dot {zs : List Nat} {q least most frac a b n1 n2 : Nat} (ha : cntM (zs.drop q) most = a) (hd : 0 < frac ∧ q + a < zs.length ∧ zs.getD (q + a) 0 = 46) (hb : cntM (zs.drop (q + a + 1)) frac = b) (h1 : valN 0 ((zs.drop q).take a) = n1) (h2 : valN 0 ((zs.drop (q + a + 1)).take b) = n2) :
    fixP zs q least most frac = if least ≤ a ∧ 1 ≤ b ∧ q + a + 1 + b = zs.length then some (n1 * 10 ^ frac + n2 * 10 ^ (frac - b)) else none := by
  unfold fixP
  rw [ha, if_pos hd, hb, h1, h2]
theorem fixP_no {zs : List Nat} {q least most frac a n1 : Nat} (ha : cntM (zs.drop q) most = a) (hd : ¬ (0 < frac ∧ q + a < zs.length ∧ zs.getD (q + a) 0 = 46)) (h1 : valN 0 ((zs.drop q).take a) = n1) :
    fixP zs q least most frac = if least ≤ a ∧ q + a = zs.length then some (n1 * 10 ^ frac) else none := by
  unfold fixP
  rw [ha, if_neg hd, h1]
theorem cntM_le (l : List Nat) (m : Nat) : cntM l m ≤ m ∧ cntM l m ≤ l.length := ⟨Nat.min_le_right _ _, Nat.le_trans (Nat.min_le_left _ _) (cnt_le l)⟩
theorem cntM_val (l : List Nat) (m : Nat) : valN 0 (l.take (cntM l m)) < 10 ^ cntM l m := val_take_lt (Nat.min_le_left _ _)
set_option maxRecDepth 100000 in
set_option maxHeartbeats 8000000 in
theorem fixed_any (s : ByteArray) (signed : Bool) (least most frac : Nat) (w : World) (hs : s.size ≤ 1000) (hl : least ≤ 15) (hm : most ≤ 12) (hf : frac ≤ 6) : Calls Tryz.prog 47 #[.string s, .bool signed, .int .i64 least, .int .i64 most, .int .i64 frac] w fun e w' => e = .returned (fixR (fixP (sb s) (fixQ signed s) least most frac) (fixQ signed s)) ∧ After w w' := by
  have hz := sb_len s
  obtain ⟨q, hq⟩ : ∃ q, fixQ signed s = q := ⟨_, rfl⟩
  have hq01 : q = 0 ∨ q = 1 := by rw [← hq]; unfold fixQ; split <;> simp
  have hqs : q ≤ s.size := by
    rw [← hq]; unfold fixQ; split
    · rename_i h; have := (hitB_is.1 h.2).1; omega
    · omega
  obtain ⟨a, ha⟩ : ∃ a, cntM ((sb s).drop q) most = a := ⟨_, rfl⟩
  have ham := cntM_le ((sb s).drop q) most
  rw [ha, List.length_drop, hz] at ham
  obtain ⟨n1, hn1⟩ : ∃ n, valN 0 (((sb s).drop q).take a) = n := ⟨_, rfl⟩
  have hn1l := cntM_val ((sb s).drop q) most
  rw [ha, hn1] at hn1l
  have hn12 : n1 < 1000000000000 := Nat.lt_of_lt_of_le hn1l (tpow (b := 12) (by omega))
  obtain ⟨P, hP⟩ : ∃ P, 10 ^ frac = P := ⟨_, rfl⟩
  have hP6 : P ≤ 1000000 := by rw [← hP]; exact tpow (b := 6) hf
  have hP1 : 1 ≤ P := by rw [← hP]; exact Nat.pow_pos (by decide)
  have hPi : p10 frac = (P : Int) := by unfold p10; rw [hP]
  have kW := hid (fun U => hPi ▸ power10_any frac (by omega) U)
  obtain ⟨N1, hN1⟩ : ∃ N, n1 * P = N := ⟨_, rfl⟩
  have hN1l : N1 ≤ 1000000000000000000 := by
    rw [← hN1]
    exact Nat.mul_le_mul (show n1 ≤ 1000000000000 by omega) hP6
  have hN1i : (n1 : Int) * P = N1 := by rw [← hN1]; simp
  rw [hq]
  replace hq := hid hq
  have hqa := hid hq
  clear hPi hn1l
  obtain ⟨A, hA⟩ : ∃ A, w.heap.size + 1 = A := ⟨_, rfl⟩
  obtain ⟨Q, hQ⟩ : ∃ Q, w.heap.size = Q := ⟨_, rfl⟩
  have dAQ : Q ≠ A := by omega
  have hwA : w.heap.size ≤ A := by omega
  have kS := hid (scanner_any s w)
  have kS := scanner_any s w
  rw [hA, hQ] at kS
  replace kS := hid kS
  replace hA := hid hA
  replace hQ := hid hQ
  go_enter Tryz.func47, Tryz.ntmps47
  go_wp2_with fail
  refine kS.out.mono ?_
  rintro e W1 ⟨rfl, rA, rQ, hB⟩
  replace rA := hid rA
  replace rQ := hid rQ
  replace hB := hid hB
  have hsig : (q = 1 ∧ signed = true ∧ hitB s 0 45 = true) ∨ (q = 0 ∧ (signed = false ∨ (signed = true ∧ hitB s 0 45 = false))) := by
    have h := hq.out
    unfold fixQ at h
    rw [← h]
    cases signed
    · simp
    · cases hitB s 0 45 <;> simp
  replace hsig := hid hsig
  go_upto_region 3 with (fail)
  go_cut [32] (fun x32 wx => x32 = .bool (decide (q = 1)) ∧ Hid (wx.heap[A]? = some (.cells #[.int .i64 (q : Int)] 3 (0, 0)) ∧ wx.heap[Q]? = some (.cells #[.string s] 9 (0, 0)) ∧ After w wx))
  case first =>
    clear hN1i kW
    rcases hsig.out with ⟨rfl, rfl, h1⟩ | ⟨rfl, rfl | ⟨rfl, h1⟩⟩
    · replace h1 := hid h1
      go_wp2_with fail
      refine (char_any A Q 0 45 s _ rA.out rQ.out dAQ (by omega) hs (by decide)).mono ?_
      rintro e W2 ⟨rfl, rA2, hE⟩
      rw [h1.out] at rA2 ⊢
      clear rA
      have rA := hid rA2
      clear rA2
      have rQn := hid (held_eff23 rQ.out hE dAQ)
      clear rQ
      have rQ := rQn
      clear rQn
      have hBn := hid (eff_base23 hB.out hE hwA)
      clear hB
      have hB := hBn
      clear hBn hE
      go_wp2_with fail
      go_meet
      exact ⟨rfl, hid ⟨rA.out, rQ.out, hB.out⟩⟩
    · go_wp2_with fail
      go_meet
      exact ⟨rfl, hid ⟨rA.out, rQ.out, hB.out⟩⟩
    · replace h1 := hid h1
      go_wp2_with fail
      refine (char_any A Q 0 45 s _ rA.out rQ.out dAQ (by omega) hs (by decide)).mono ?_
      rintro e W2 ⟨rfl, rA2, hE⟩
      rw [h1.out] at rA2 ⊢
      clear rA
      have rA := hid rA2
      clear rA2
      have rQn := hid (held_eff23 rQ.out hE dAQ)
      clear rQ
      have rQ := rQn
      clear rQn
      have hBn := hid (eff_base23 hB.out hE hwA)
      clear hB
      have hB := hBn
      clear hBn hE
      go_wp2_with fail
      go_meet
      exact ⟨rfl, hid ⟨rA.out, rQ.out, hB.out⟩⟩
  case rest =>
    obtain ⟨rfl, hcut⟩ := hcut
    clear rA rQ hB
    have hqb := hid hcut
    clear hcut hsig
    go_upto_if 32 with (fail)
    go_cut [15] (fun x15 wx => x15 = .int .i64 (sgnI q) ∧ Hid (wx.heap[A]? = some (.cells #[.int .i64 (q : Int)] 3 (0, 0)) ∧ wx.heap[Q]? = some (.cells #[.string s] 9 (0, 0)) ∧ After w wx))
    case first =>
      rcases hq01 with rfl | rfl
      · go_wp2_with fail
        go_meet
        exact ⟨rfl, hqb⟩
      · go_wp2_with fail
        go_meet
        exact ⟨rfl, hqb⟩
    case rest =>
      obtain ⟨rfl, hcut⟩ := hcut
      obtain ⟨rA, rQ, hB⟩ := hcut.out
      clear hcut kS hqb
      replace rA := hid rA
      replace rQ := hid rQ
      replace hB := hid hB
      have hqs2 := hqs
      go_wp2_with fail
      refine (digits_any A Q q least most s _ rA.out rQ.out dAQ hqs hs (by omega) hl).mono ?_
      rintro e W3 ⟨rfl, rA2, hE⟩
      rw [ha] at rA2 ⊢
      rw [hn1]
      clear rA
      have rA := hid rA2
      clear rA2
      have rQn := hid (held_eff23 rQ.out hE dAQ)
      clear rQ
      have rQ := rQn
      clear rQn
      have hBn := hid (eff_base23 hB.out hE hwA)
      clear hB
      have hB := hBn
      clear hBn hE
      obtain ⟨p1, hp1⟩ : ∃ p, q + a = p := ⟨_, rfl⟩
      have hp1s : p1 ≤ s.size := by omega
      have rA2 := rA.out
      rw [hp1] at rA2
      clear rA
      have rA := hid rA2
      clear rA2
      have wN1 : IntKind.i64.wrap (N1 : Int) = N1 := by rw [IntKind.wrap_i64] <;> omega
      have hsg : sgnI q = 1 ∨ sgnI q = -1 := by unfold sgnI; split <;> simp
      obtain ⟨sg, hsgn⟩ : ∃ x, sgnI q = x := ⟨_, rfl⟩
      rw [hsgn] at hsg ⊢
      replace hsgn := hid hsgn
      have hzl := hid hz
      replace hp1 := hid hp1
      by_cases hfr : 0 < frac
      case neg =>
        by_cases c1 : least ≤ a
        case pos =>
          rw [decide_eq_true c1]
          have hf0 : ¬ ((0 : Int) < frac) := by omega
          go_wp2_with fail
          refine (kW.out _).mono ?_
          rintro e V ⟨rfl, hv⟩
          obtain rfl : W3 = V := hv.symm
          clear hv
          by_cases ez : p1 = s.size
          · have eN := hid (show fixP (sb s) q least most frac = Option.some N1 from by rw [fixP_no ha (fun h => hfr h.1) hn1, if_pos (by have := hp1.out; have := hzl.out; omega), ← hN1, ← hP])
            have wS : IntKind.i64.wrap (sg * (N1 : Int)) = sg * (N1 : Int) := by rcases hsg with rfl | rfl <;> (rw [IntKind.wrap_i64] <;> omega)
            have ezd := hid (decide_eq_true ez)
            clear ez hsg
            go_wp2_with fail
            refine (done_any A Q p1 s _ rA.out rQ.out dAQ (by omega) hs).mono ?_
            rintro e V ⟨rfl, hv⟩
            obtain rfl : W3 = V := hv.symm
            clear hv
            rw [ezd.out]
            go_wp2_with fail
            go_ret2
            exact ⟨by rw [eN.out, show fixR (Option.some N1) q = .tuple #[.int .i64 (sgnI q * (N1 : Int)), .bool true] from rfl, hsgn.out]; first | rfl | done, hB.out⟩
          · have eN := hid (show fixP (sb s) q least most frac = none from by rw [fixP_no ha (fun h => hfr h.1) hn1, if_neg (by intro h; have := hp1.out; have := hzl.out; omega)])
            have ezd := hid (decide_eq_false ez)
            clear ez hsg
            go_wp2_with fail
            refine (done_any A Q p1 s _ rA.out rQ.out dAQ (by omega) hs).mono ?_
            rintro e V ⟨rfl, hv⟩
            obtain rfl : W3 = V := hv.symm
            clear hv
            rw [ezd.out]
            go_wp2_with fail
            go_ret2
            exact ⟨by rw [eN.out]; rfl, hB.out⟩
        rw [decide_eq_false c1]
        have hf0 : ¬ ((0 : Int) < frac) := by omega
        go_wp2_with fail
        refine (kW.out _).mono ?_
        rintro e V ⟨rfl, hv⟩
        obtain rfl : W3 = V := hv.symm
        clear hv
        have eN := hid (show fixP (sb s) q least most frac = none from by rw [fixP_no ha (fun h => hfr h.1) hn1, if_neg (by intro h; omega)])
        go_wp2_with fail
        go_ret2
        exact ⟨by rw [eN.out]; rfl, hB.out⟩
      have hf0 : (0 : Int) < frac := by omega
      obtain ⟨hb, hhb⟩ : ∃ b, hitB s p1 46 = b := ⟨_, rfl⟩
      have hhi := hitB_is (s := s) (p := p1) (c := 46)
      rw [hhb] at hhi
      replace hhb := hid hhb
      cases hb
      · skip
        by_cases c1 : least ≤ a
        case pos =>
          rw [decide_eq_true c1]
          go_wp2_with fail
          refine (kW.out _).mono ?_
          rintro e V ⟨rfl, hv⟩
          obtain rfl : W3 = V := hv.symm
          clear hv
          replace hhi := hid hhi
          go_wp2_with fail
          refine (char_any A Q p1 46 s _ rA.out rQ.out dAQ (by omega) hs (by decide)).mono ?_
          rintro e W4 ⟨rfl, rA2, hE⟩
          rw [hhb.out] at rA2 ⊢
          clear rA
          have rA := hid rA2
          clear rA2
          have rQn := hid (held_eff23 rQ.out hE dAQ)
          clear rQ
          have rQ := rQn
          clear rQn
          have hBn := hid (eff_base23 hB.out hE hwA)
          clear hB
          have hB := hBn
          clear hBn hE
          by_cases ez : p1 = s.size
          · have eN := hid (show fixP (sb s) q least most frac = Option.some N1 from by rw [fixP_no ha (fun h => by have := hhi.2 ⟨by have := hp1.out; have := hzl.out; omega, by have := hp1.out; rw [← this]; exact h.2.2⟩; cases this) hn1, if_pos (by have := hp1.out; have := hzl.out; omega), ← hN1, ← hP])
            have wS : IntKind.i64.wrap (sg * (N1 : Int)) = sg * (N1 : Int) := by rcases hsg with rfl | rfl <;> (rw [IntKind.wrap_i64] <;> omega)
            have ezd := hid (decide_eq_true ez)
            clear ez hsg
            go_wp2_with fail
            refine (done_any A Q p1 s _ rA.out rQ.out dAQ (by omega) hs).mono ?_
            rintro e V ⟨rfl, hv⟩
            obtain rfl : W4 = V := hv.symm
            clear hv
            rw [ezd.out]
            go_wp2_with fail
            go_ret2
            exact ⟨by rw [eN.out, show fixR (Option.some N1) q = .tuple #[.int .i64 (sgnI q * (N1 : Int)), .bool true] from rfl, hsgn.out]; first | rfl | done, hB.out⟩
          · have eN := hid (show fixP (sb s) q least most frac = none from by rw [fixP_no ha (fun h => by have := hhi.2 ⟨by have := hp1.out; have := hzl.out; omega, by have := hp1.out; rw [← this]; exact h.2.2⟩; cases this) hn1, if_neg (by intro h; have := hp1.out; have := hzl.out; omega)])
            have ezd := hid (decide_eq_false ez)
            clear ez hsg
            go_wp2_with fail
            refine (done_any A Q p1 s _ rA.out rQ.out dAQ (by omega) hs).mono ?_
            rintro e V ⟨rfl, hv⟩
            obtain rfl : W4 = V := hv.symm
            clear hv
            rw [ezd.out]
            go_wp2_with fail
            go_ret2
            exact ⟨by rw [eN.out]; rfl, hB.out⟩
        rw [decide_eq_false c1]
        go_wp2_with fail
        refine (kW.out _).mono ?_
        rintro e V ⟨rfl, hv⟩
        obtain rfl : W3 = V := hv.symm
        clear hv
        replace hhi := hid hhi
        go_wp2_with fail
        refine (char_any A Q p1 46 s _ rA.out rQ.out dAQ (by omega) hs (by decide)).mono ?_
        rintro e W4 ⟨rfl, rA2, hE⟩
        rw [hhb.out] at rA2 ⊢
        clear rA
        have rA := hid rA2
        clear rA2
        have rQn := hid (held_eff23 rQ.out hE dAQ)
        clear rQ
        have rQ := rQn
        clear rQn
        have hBn := hid (eff_base23 hB.out hE hwA)
        clear hB
        have hB := hBn
        clear hBn hE
        have eN := hid (show fixP (sb s) q least most frac = none from by rw [fixP_no ha (fun h => by have := hhi.2 ⟨by have := hp1.out; have := hzl.out; omega, by have := hp1.out; rw [← this]; exact h.2.2⟩; cases this) hn1, if_neg (by intro h; omega)])
        go_wp2_with fail
        go_ret2
        exact ⟨by rw [eN.out]; rfl, hB.out⟩
      · skip
        obtain ⟨q1, q2⟩ := hhi.1 rfl
        have hd3 : 0 < frac ∧ q + a < (sb s).length ∧ (sb s).getD (q + a) 0 = 46 := by have h1 := hp1.out; have h2 := hzl.out; rw [h1, h2]; exact ⟨hfr, q1, q2⟩
        obtain ⟨b, hbb⟩ : ∃ b, cntM ((sb s).drop (p1 + 1)) frac = b := ⟨_, rfl⟩
        have hbm := cntM_le ((sb s).drop (p1 + 1)) frac
        rw [hbb, List.length_drop, hz] at hbm
        obtain ⟨n2, hn2⟩ : ∃ n, valN 0 (((sb s).drop (p1 + 1)).take b) = n := ⟨_, rfl⟩
        have hn2l := cntM_val ((sb s).drop (p1 + 1)) frac
        rw [hbb, hn2] at hn2l
        obtain ⟨k, hk⟩ : ∃ k, frac - b = k := ⟨_, rfl⟩
        obtain ⟨Rr, hR⟩ : ∃ R, 10 ^ k = R := ⟨_, rfl⟩
        have hRi : p10 k = (Rr : Int) := by unfold p10; rw [hR]
        have kW2 := hid (fun U => hRi ▸ power10_any k (by omega) U)
        obtain ⟨X2, hX2⟩ : ∃ X, n2 * Rr = X := ⟨_, rfl⟩
        have hX2l : X2 ≤ P := by
          rw [← hX2, ← hR, ← hP, show frac = b + k by omega, Nat.pow_add]
          exact Nat.mul_le_mul (by omega) (Nat.le_refl _)
        have hX2i : (n2 : Int) * Rr = X2 := by rw [← hX2]; simp
        have eD := fixP_dot (least := least) (b := b) (n1 := n1) (n2 := n2) ha hd3 (by rw [hp1.out]; exact hbb) hn1 (by rw [hp1.out]; exact hn2)
        rw [hP, hN1, hk, hR, hX2, hp1.out] at eD
        replace eD := hid eD
        clear hRi hR hn2l hX2 hd3 q2 hhi
        obtain ⟨N2, hN2⟩ : ∃ N, N1 + X2 = N := ⟨_, rfl⟩
        rw [hN2] at eD
        have hN2i : (N1 : Int) + X2 = N2 := by omega
        have wX : IntKind.i64.wrap (X2 : Int) = X2 := by rw [IntKind.wrap_i64] <;> omega
        have wN2 : IntKind.i64.wrap (N2 : Int) = N2 := by rw [IntKind.wrap_i64] <;> omega
        have wk : IntKind.i64.wrap ((frac : Int) - b) = k := by rw [IntKind.wrap_i64] <;> omega
        obtain ⟨p2, hp2⟩ : ∃ p, p1 + 1 + b = p := ⟨_, rfl⟩
        have hp2s : p2 ≤ s.size := by omega
        replace hN2 := hid hN2
        replace hk := hid hk
        by_cases c1 : least ≤ a
        case pos =>
          rw [decide_eq_true c1]
          by_cases c2 : 1 ≤ b
          case pos =>
            go_wp2_with fail
            refine (kW.out _).mono ?_
            rintro e V ⟨rfl, hv⟩
            obtain rfl : W3 = V := hv.symm
            clear hv
            go_wp2_with fail
            refine (char_any A Q p1 46 s _ rA.out rQ.out dAQ (by omega) hs (by decide)).mono ?_
            rintro e W4 ⟨rfl, rA2, hE⟩
            rw [hhb.out] at rA2 ⊢
            clear rA
            have rA := hid rA2
            clear rA2
            have rQn := hid (held_eff23 rQ.out hE dAQ)
            clear rQ
            have rQ := rQn
            clear rQn
            have hBn := hid (eff_base23 hB.out hE hwA)
            clear hB
            have hB := hBn
            clear hBn hE
            skip
            go_wp2_with fail
            refine (digits_any A Q (p1 + 1) 1 frac s _ rA.out rQ.out dAQ (by omega) hs (by omega) (by omega)).mono ?_
            rintro e W5 ⟨rfl, rA2, hE⟩
            rw [hbb] at rA2 ⊢
            rw [hn2]
            rw [hp2] at rA2
            clear rA
            have rA := hid rA2
            clear rA2
            have rQn := hid (held_eff23 rQ.out hE dAQ)
            clear rQ
            have rQ := rQn
            clear rQn
            have hBn := hid (eff_base23 hB.out hE hwA)
            clear hB
            have hB := hBn
            clear hBn hE
            rw [decide_eq_true c2]
            go_wp2_with fail
            refine (kW2.out _).mono ?_
            rintro e V ⟨rfl, hv⟩
            obtain rfl : W5 = V := hv.symm
            clear hv
            replace hp2 := hid hp2
            by_cases ez : p2 = s.size
            · have eN := hid (show fixP (sb s) q least most frac = Option.some N2 from by rw [eD.out, if_pos (by have := hp2.out; have := hzl.out; omega)])
              have wS : IntKind.i64.wrap (sg * (N2 : Int)) = sg * (N2 : Int) := by rcases hsg with rfl | rfl <;> (rw [IntKind.wrap_i64] <;> omega)
              have ezd := hid (decide_eq_true ez)
              clear ez hsg
              go_wp2_with fail
              refine (done_any A Q p2 s _ rA.out rQ.out dAQ (by omega) hs).mono ?_
              rintro e V ⟨rfl, hv⟩
              obtain rfl : W5 = V := hv.symm
              clear hv
              rw [ezd.out]
              go_wp2_with fail
              go_ret2
              exact ⟨by rw [eN.out, show fixR (Option.some N2) q = .tuple #[.int .i64 (sgnI q * (N2 : Int)), .bool true] from rfl, hsgn.out]; first | rfl | done, hB.out⟩
            · have eN := hid (show fixP (sb s) q least most frac = none from by rw [eD.out, if_neg (by intro h; have := hp2.out; have := hzl.out; omega)])
              have ezd := hid (decide_eq_false ez)
              clear ez hsg
              go_wp2_with fail
              refine (done_any A Q p2 s _ rA.out rQ.out dAQ (by omega) hs).mono ?_
              rintro e V ⟨rfl, hv⟩
              obtain rfl : W5 = V := hv.symm
              clear hv
              rw [ezd.out]
              go_wp2_with fail
              go_ret2
              exact ⟨by rw [eN.out]; rfl, hB.out⟩
          go_wp2_with fail
          refine (kW.out _).mono ?_
          rintro e V ⟨rfl, hv⟩
          obtain rfl : W3 = V := hv.symm
          clear hv
          go_wp2_with fail
          refine (char_any A Q p1 46 s _ rA.out rQ.out dAQ (by omega) hs (by decide)).mono ?_
          rintro e W4 ⟨rfl, rA2, hE⟩
          rw [hhb.out] at rA2 ⊢
          clear rA
          have rA := hid rA2
          clear rA2
          have rQn := hid (held_eff23 rQ.out hE dAQ)
          clear rQ
          have rQ := rQn
          clear rQn
          have hBn := hid (eff_base23 hB.out hE hwA)
          clear hB
          have hB := hBn
          clear hBn hE
          skip
          go_wp2_with fail
          refine (digits_any A Q (p1 + 1) 1 frac s _ rA.out rQ.out dAQ (by omega) hs (by omega) (by omega)).mono ?_
          rintro e W5 ⟨rfl, rA2, hE⟩
          rw [hbb] at rA2 ⊢
          rw [hn2]
          rw [hp2] at rA2
          clear rA
          have rA := hid rA2
          clear rA2
          have rQn := hid (held_eff23 rQ.out hE dAQ)
          clear rQ
          have rQ := rQn
          clear rQn
          have hBn := hid (eff_base23 hB.out hE hwA)
          clear hB
          have hB := hBn
          clear hBn hE
          rw [decide_eq_false c2]
          go_wp2_with fail
          refine (kW2.out _).mono ?_
          rintro e V ⟨rfl, hv⟩
          obtain rfl : W5 = V := hv.symm
          clear hv
          have eN := hid (show fixP (sb s) q least most frac = none from by rw [eD.out, if_neg (by intro h; omega)])
          go_wp2_with fail
          go_ret2
          exact ⟨by rw [eN.out]; rfl, hB.out⟩
        rw [decide_eq_false c1]
        by_cases c2 : 1 ≤ b
        case pos =>
          go_wp2_with fail
          refine (kW.out _).mono ?_
          rintro e V ⟨rfl, hv⟩
          obtain rfl : W3 = V := hv.symm
          clear hv
          go_wp2_with fail
          refine (char_any A Q p1 46 s _ rA.out rQ.out dAQ (by omega) hs (by decide)).mono ?_
          rintro e W4 ⟨rfl, rA2, hE⟩
          rw [hhb.out] at rA2 ⊢
          clear rA
          have rA := hid rA2
          clear rA2
          have rQn := hid (held_eff23 rQ.out hE dAQ)
          clear rQ
          have rQ := rQn
          clear rQn
          have hBn := hid (eff_base23 hB.out hE hwA)
          clear hB
          have hB := hBn
          clear hBn hE
          skip
          go_wp2_with fail
          refine (digits_any A Q (p1 + 1) 1 frac s _ rA.out rQ.out dAQ (by omega) hs (by omega) (by omega)).mono ?_
          rintro e W5 ⟨rfl, rA2, hE⟩
          rw [hbb] at rA2 ⊢
          rw [hn2]
          rw [hp2] at rA2
          clear rA
          have rA := hid rA2
          clear rA2
          have rQn := hid (held_eff23 rQ.out hE dAQ)
          clear rQ
          have rQ := rQn
          clear rQn
          have hBn := hid (eff_base23 hB.out hE hwA)
          clear hB
          have hB := hBn
          clear hBn hE
          rw [decide_eq_true c2]
          go_wp2_with fail
          refine (kW2.out _).mono ?_
          rintro e V ⟨rfl, hv⟩
          obtain rfl : W5 = V := hv.symm
          clear hv
          have eN := hid (show fixP (sb s) q least most frac = none from by rw [eD.out, if_neg (by intro h; omega)])
          go_wp2_with fail
          go_ret2
          exact ⟨by rw [eN.out]; rfl, hB.out⟩
        go_wp2_with fail
        refine (kW.out _).mono ?_
        rintro e V ⟨rfl, hv⟩
        obtain rfl : W3 = V := hv.symm
        clear hv
        go_wp2_with fail
        refine (char_any A Q p1 46 s _ rA.out rQ.out dAQ (by omega) hs (by decide)).mono ?_
        rintro e W4 ⟨rfl, rA2, hE⟩
        rw [hhb.out] at rA2 ⊢
        clear rA
        have rA := hid rA2
        clear rA2
        have rQn := hid (held_eff23 rQ.out hE dAQ)
        clear rQ
        have rQ := rQn
        clear rQn
        have hBn := hid (eff_base23 hB.out hE hwA)
        clear hB
        have hB := hBn
        clear hBn hE
        skip
        go_wp2_with fail
        refine (digits_any A Q (p1 + 1) 1 frac s _ rA.out rQ.out dAQ (by omega) hs (by omega) (by omega)).mono ?_
        rintro e W5 ⟨rfl, rA2, hE⟩
        rw [hbb] at rA2 ⊢
        rw [hn2]
        rw [hp2] at rA2
        clear rA
        have rA := hid rA2
        clear rA2
        have rQn := hid (held_eff23 rQ.out hE dAQ)
        clear rQ
        have rQ := rQn
        clear rQn
        have hBn := hid (eff_base23 hB.out hE hwA)
        clear hB
        have hB := hBn
        clear hBn hE
        rw [decide_eq_false c2]
        go_wp2_with fail
        refine (kW2.out _).mono ?_
        rintro e V ⟨rfl, hv⟩
        obtain rfl : W5 = V := hv.symm
        clear hv
        have eN := hid (show fixP (sb s) q least most frac = none from by rw [eD.out, if_neg (by intro h; omega)])
        go_wp2_with fail
        go_ret2
        exact ⟨by rw [eN.out]; rfl, hB.out⟩

end Go.Proofs.YtobgibmpodggkaaGreatDoor
