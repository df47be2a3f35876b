/- Package sentence: the papers' end, stars, fields. -/
import Derived.Test.YtookhpmpngacjaaSen6
import Derived.Deep.DeepCutAuto
namespace Go.Proofs.Ytookhpmpngacjaa
open Go.ChangeShapes Go.WideShapes Go.ChangeAt Go.RowKit
set_option linter.unusedVariables false
set_option linter.unusedSimpArgs false

theorem count_more {l : List Nat} {k c : Nat} (hk : k < l.length) (hc : l.getD k 0 = c) : (l.take (k + 1)).count 42 = (l.take k).count 42 + (if c = 42 then 1 else 0) := by
  rw [List.take_add_one, List.getElem?_eq_getElem hk, Option.toList_some, List.count_append]
  rw [List.getD_eq_getElem?_getD, List.getElem?_eq_getElem hk] at hc
  have hc2 : l[k] = c := hc
  rw [hc2, List.count_singleton]
  by_cases h : c = 42 <;> simp [h]
set_option maxRecDepth 100000 in
set_option maxHeartbeats 8000000 in
theorem rend_any (s : ByteArray) (w : World) (hb : s.size ≤ 100000) : Calls Try.prog 27 #[.string s] w fun e w' => e = .returned (.tuple #[.int .i64 ((lnF (sb s) 80 1).1 : Int), .int .i64 (lnF (sb s) 80 1).2]) ∧ w' = w := by
  obtain ⟨N, hN⟩ : ∃ N, s.size = N := ⟨_, rfl⟩
  have hNs : (s.size : Int) = (N : Int) := by omega
  have hl2 := hid (show (sb s).length = N by rw [sb_len]; exact hN)
  replace hN := hid hN
  replace hb := hid hb
  go_enter Try.func27, Try.ntmps27
  go_wp2_with fail
  go_loopw [4] (fun ix wr => ∃ i f : Nat, ix = .int .i64 i ∧ i + f = 81 ∧ 1 ≤ i ∧ Hid (lnF (sb s) 80 1 = lnF (sb s) f i) ∧ wr = w) (fun ix _ => 82 - (intOf ix).toNat)
  case atStart => exact ⟨1, 80, rfl, by omega, by omega, hid rfl, rfl⟩
  case round =>
    obtain ⟨i, f, rfl, hif, hi1, hln, rfl⟩ := hrel
    by_cases h81 : (i : Int) < 81
    case neg =>
      obtain rfl : f = 0 := by omega
      have hE := hid (show lnF (sb s) 80 1 = (0, 7) by rw [hln.out]; rfl)
      go_wp2_with fail
      go_ret2
      exact ⟨by rw [hE.out]; rfl, rfl⟩
    obtain ⟨f2, rfl⟩ : ∃ f2, f = f2 + 1 := ⟨f - 1, by omega⟩
    by_cases hend : N ≤ i
    case pos =>
      have hE := hid (show lnF (sb s) 80 1 = (0, 2) by rw [hln.out, lnF_short (by rw [hl2.out]; exact hend)])
      have q : (N : Int) ≤ i := by omega
      have q2 : (i : Int) ≥ N := by omega
      replace hif := hid hif
      replace hi1 := hid hi1
      go_wp2_with fail
      go_ret2
      exact ⟨by rw [hE.out]; rfl, rfl⟩
    have qN : ¬ (N : Int) ≤ i := by omega
    have qN2 : ¬ N ≤ i := hend
    have hiN2 : i < s.size := by rw [hN.out]; omega
    have hiN3 := hid (show i < N by omega)
    obtain ⟨c, hc⟩ : ∃ c, (sb s).getD i 0 = c := ⟨_, rfl⟩
    have hix := fun W => sidx 9 Try.underlying9 s i c hiN2 hc .i64 i rfl W
    have hc256 : c < 256 := by rw [← hc, sb_get s i hiN2]; exact UInt8.toNat_lt _
    have h13 := hid (fun h => lnF_13 (zs := sb s) (f := f2) (i := i) (by rw [hl2.out]; exact hiN3.out) hc h)
    have hmo := hid (fun h h2 => lnF_more (zs := sb s) (f := f2) (i := i) (by rw [hl2.out]; exact hiN3.out) hc h h2)
    have hfo := hid (fun h h2 h3 => lnF_form (zs := sb s) (f := f2) (i := i) (by rw [hl2.out]; exact hiN3.out) hc h h2 h3)
    clear hc
    have hir := hid (show i + 1 + f2 = 81 by omega)
    have wi : IntKind.i64.wrap ((i : Int) + 1) = (i : Int) + 1 := by rw [IntKind.wrap_i64]; omega
    have iz : (0 : Int) ≤ i := by omega
    replace hif := hid hif
    by_cases hcr : c = 13
    case pos =>
      have hE := hid (show lnF (sb s) 80 1 = (i, 0) by rw [hln.out, h13.out hcr])
      have qc : ((c : Int) == 13) = true := by simp; omega
      clear h13 hmo hfo
      replace hcr := hid hcr
      go_wp2_with fail
      go_ret2
      exact ⟨by rw [hE.out]; rfl, rfl⟩
    have qc : ((c : Int) == 13) = false := by simp; omega
    by_cases hlt : letN c = true
    case pos =>
      have hln2 := hid (show lnF (sb s) 80 1 = lnF (sb s) f2 (i + 1) by rw [hln.out]; exact hmo.out hcr (.inr hlt))
      clear h13 hmo hfo
      replace hcr := hid hcr
      go_wp2_with fail
      refine (rletter_any c _ (by omega)).mono ?_
      rintro e w2 ⟨rfl, rfl⟩
      rw [hlt]
      clear hlt
      go_wp2_with fail
      go_roundw
      case rel => first | exact ⟨i + 1, f2, by simp, hir.out, by omega, hln2, rfl⟩ | exact ⟨i + 1, f2, by simp, hir.out, by omega, hln2, trivial⟩
      case measure => simp [intOf]; have := hir.out; omega
    have hlf : letN c = false := by simpa using hlt
    by_cases h42 : c = 42
    case pos =>
      have qd : ((c : Int) != 42) = false := by simp; omega
      have hln2 := hid (show lnF (sb s) 80 1 = lnF (sb s) f2 (i + 1) by rw [hln.out]; exact hmo.out hcr (.inl h42))
      clear h13 hmo hfo
      replace hcr := hid hcr
      replace h42 := hid h42
      go_wp2_with fail
      refine (rletter_any c _ (by omega)).mono ?_
      rintro e w2 ⟨rfl, rfl⟩
      rw [hlf]
      clear hlt hlf
      go_wp2_with fail
      go_roundw
      case rel => first | exact ⟨i + 1, f2, by simp, hir.out, by omega, hln2, rfl⟩ | exact ⟨i + 1, f2, by simp, hir.out, by omega, hln2, trivial⟩
      case measure => simp [intOf]; have := hir.out; omega
    have qd : ((c : Int) != 42) = true := by simp; omega
    have hE := hid (show lnF (sb s) 80 1 = (0, 3) by rw [hln.out, hfo.out hcr h42 hlf])
    clear h13 hmo hfo
    replace hcr := hid hcr
    replace h42 := hid h42
    go_wp2_with fail
    refine (rletter_any c _ (by omega)).mono ?_
    rintro e w2 ⟨rfl, rfl⟩
    rw [hlf]
    clear hlt hlf
    go_wp2_with fail
    go_ret2
    exact ⟨by rw [hE.out]; rfl, rfl⟩
set_option maxRecDepth 100000 in
set_option maxHeartbeats 8000000 in
theorem stars_any (s : ByteArray) (w : World) (hb : s.size ≤ 100000) : Calls Try.prog 28 #[.string s] w fun e w' => e = .returned (.int .i64 (((sb s).count 42 : Nat) : Int)) ∧ w' = w := by
  have hsl := hid (sb_len s)
  obtain ⟨N, hN⟩ : ∃ N, s.size = N := ⟨_, rfl⟩
  have hNs : (s.size : Int) = (N : Int) := by omega
  rw [hN] at hb
  replace hN := hid hN
  go_enter Try.func28, Try.ntmps28
  go_wp2_with fail
  go_loopw [3, 4] (fun mv ix wr => ∃ k m : Nat, ix = .int .i64 k ∧ mv = .int .i64 m ∧ k ≤ N ∧ m ≤ k ∧ Hid (m = ((sb s).take k).count 42) ∧ wr = w) (fun _ ix _ => N - (intOf ix).toNat)
  case atStart => exact ⟨0, 0, rfl, rfl, by omega, by omega, hid (by simp), rfl⟩
  case round =>
    obtain ⟨k, m, rfl, rfl, hk, hmk, hm, rfl⟩ := hrel
    by_cases hlt : (k : Int) < N
    case neg =>
      have hE := hid (show (sb s).count 42 = m by rw [hm.out, List.take_of_length_le (by rw [hsl.out, hN.out]; omega)])
      go_wp2_with fail
      go_ret
      exact ⟨by rw [hE.out]; rfl, rfl⟩
    have hks : k < s.size := by rw [hN.out]; omega
    obtain ⟨c, hc⟩ : ∃ c, (sb s).getD k 0 = c := ⟨_, rfl⟩
    have hcm := count_more (by rw [hsl.out]; exact hks) hc
    have hix := fun W => sidx 9 Try.underlying9 s k c hks hc .i64 k rfl W
    have kz : (0 : Int) ≤ k := by omega
    have wk : IntKind.i64.wrap ((k : Int) + 1) = (k : Int) + 1 := by rw [IntKind.wrap_i64]; omega
    have wm : IntKind.i64.wrap ((m : Int) + 1) = ((m + 1 : Nat) : Int) := by rw [IntKind.wrap_i64]; omega
    have hk1 := hid (show k + 1 ≤ N by omega)
    have hms := hid (show N - (k + 1) < N - k by omega)
    rw [← hm.out] at hcm
    clear hc hks hk
    by_cases h42 : c = 42
    case pos =>
      have q : ((c : Int) == 42) = true := by simp; omega
      have hm2 := hid (show m + 1 = ((sb s).take (k + 1)).count 42 by rw [hcm, if_pos h42])
      clear hcm
      replace h42 := hid h42
      go_wp2_with fail
      go_roundw
      case rel => exact ⟨k + 1, m + 1, by simp, rfl, hk1.out, by omega, hm2, by first | rfl | trivial⟩
      case measure => simp [intOf]; exact hms.out
    have q : ((c : Int) == 42) = false := by simp; omega
    have hm2 := hid (show m = ((sb s).take (k + 1)).count 42 by rw [hcm, if_neg h42]; rfl)
    clear hcm
    replace h42 := hid h42
    go_wp2_with fail
    go_roundw
    case rel => exact ⟨k + 1, m, by simp, rfl, hk1.out, by omega, hm2, by first | rfl | trivial⟩
    case measure => simp [intOf]; exact hms.out
set_option maxRecDepth 100000 in
set_option maxHeartbeats 8000000 in
theorem rsfields_any (s : ByteArray) (w : World) (hb : s.size ≤ 1000) : Calls Try.prog 31 #[.string s] w (FsOk w (fieldsR s)) := by
  obtain ⟨N, hN⟩ : ∃ N, s.size = N := ⟨_, rfl⟩
  have hNs : (s.size : Int) = (N : Int) := by omega
  have hfd := hid (show fieldsR s = (if 0 < (cutR s N).1 then (cutR s N).2 ++ [s.extract (cutR s N).1 N] else (cutR s N).2) by unfold fieldsR; rw [hN])
  rw [hN] at hb
  replace hN := hid hN
  go_enter Try.func31, Try.ntmps31
  go_wp2_with fail
  go_loopw [3, 4, 5] (fun lv fv ix wr => ∃ (k m : Nat) (oa : Option Addr) (oc fr : Nat) (l : List ByteArray), ix = .int .i64 k ∧ k ≤ N + 1 ∧ lv = .slice oa m oc ∧ fv = .int .i64 fr ∧ Hid (k ≤ N → cutR s k = (fr, l)) ∧ Hid (k = N + 1 → fieldsR s = l) ∧ Hid (l.length = m) ∧ fr ≤ k ∧ m ≤ k ∧ OwnE 9 wr w.heap.size 1 (.slice oa m oc) m (strV l).flatten ∧ After w wr) (fun _ _ ix _ => N + 1 - (intOf ix).toNat)
  case atStart => exact ⟨0, 0, none, 0, 0, [], rfl, by omega, rfl, rfl, hid (fun _ => rfl), hid (fun h => by omega), hid rfl, by omega, by omega, OwnE.nil _ _ _ _, Below.refl _ _⟩
  case round =>
    obtain ⟨k, m, oa, oc, fr, l, rfl, hk, rfl, rfl, hcs, hce, hlm, hfr, hmk, hO, hA⟩ := hrel
    by_cases hle : (k : Int) ≤ N
    case neg =>
      have hE := hid (hce.out (by omega))
      replace hO := hid hO
      replace hA := hid hA
      have q : ¬ k ≤ N := by omega
      go_wp2_with fail
      go_ret
      rw [hE.out]
      exact ⟨oa, oc, by rw [hlm.out]; rfl, by rw [hlm.out]; exact hO.out, hA.out⟩
    have hkN : k ≤ N := by omega
    have hcs2 := hcs.out hkN
    have kz : (0 : Int) ≤ k := by omega
    have wk : IntKind.i64.wrap ((k : Int) + 1) = ((k + 1 : Nat) : Int) := by rw [IntKind.wrap_i64]; omega
    have hms := hid (show N + 1 - (k + 1) < N + 1 - k by omega)
    have hss := fun W => strslice (P := Try.prog) 9 Try.underlying9 s fr k hfr (by rw [hN.out]; exact hkN) .i64 .i64 fr k rfl rfl W
    obtain ⟨P, hP⟩ : ∃ P, s.extract fr k = P := ⟨_, rfl⟩
    rw [hP] at hss
    have hk2 := hid (show k + 1 ≤ N + 1 by omega)
    by_cases hend : k = N
    case pos =>
      have hfe := hfd.out
      rw [← hend, hcs2] at hfe
      dsimp only at hfe
      rw [hP] at hfe
      have q : ((k : Int) == (N : Int)) = true := by simp; omega
      clear hcs hce hcs2 hP
      by_cases hf0 : 0 < fr
      case pos =>
        have q0 : (fr : Int) > 0 := by omega
        have q1 : (0 : Int) < fr := by omega
        have hE := hid (show fieldsR s = l ++ [P] by rw [hfe, if_pos hf0])
        clear hfe
        replace hend := hid hend
        have nC := alloc_new wr (.cells #[.string P] 9)
        have hEf : Els (wr.alloc (.cells #[.string P] 9)) 1 (some ⟨wr.heap.size, 0, none⟩) 1 1 [strC P] := els_blkS (m := 1) nC.2.2 rfl
        have hO2 := hid (hO.below nC.2.1)
        have hB4 := bthen hA nC.2.1
        obtain ⟨W4, hW4⟩ : ∃ X, wr.alloc (.cells #[.string P] 9) = X := ⟨_, rfl⟩
        rw [hW4] at hEf hO2 hB4
        obtain ⟨pc, hpc⟩ : ∃ X, wr.heap.size = X := ⟨_, rfl⟩
        rw [hpc] at hEf
        replace hEf := hid hEf
        have s4 := hB4.size
        clear nC hO hA
        go_wp2_with (first | (at_builtin; refine wpList_appE rfl (.tmp 24) (.tmp 29) 22 rfl w.heap.size 9 1 16 strO (by decide) (.slice oa m oc) m (strV l).flatten rfl hO2.out (some ⟨pc, 0, none⟩) 1 1 [strC P] rfl hEf.out (strC_one _) (by unfold maxLen; omega) (by omega) s4 ?_))
        intro a9 c9 W9 hO9 hG hN
        first | rw [← strV_snoc] at hO9 | rw [← strV_snoc2] at hO9
        replace hO9 := hid hO9
        have hB9 := hid (hB4.grown hG s4 (fun g e => (hO2.out.lt g e).1))
        have hl9 := hid (show (l ++ [P]).length = m + 1 by rw [List.length_append, hlm.out]; rfl)
        clear hG hN hO2 hEf hB4
        go_wp2_with fail
        go_roundw
        case rel => exact ⟨k + 1, m + 1, a9, c9, k + 1, l ++ [P], by simp, hk2.out, rfl, rfl, hid (fun h => by have := hend.out; omega), hid (fun _ => hE.out), hl9, by omega, by omega, hO9.out, hB9.out⟩
        case measure => simp [intOf]; have := hms.out; omega
      have q0 : ¬ (fr : Int) > 0 := by omega
      have q1 : ¬ (0 : Int) < fr := by omega
      have hE := hid (show fieldsR s = l by rw [hfe, if_neg hf0])
      obtain rfl : fr = 0 := by omega
      clear hfe hf0
      replace hend := hid hend
      replace hO := hid hO
      replace hA := hid hA
      go_wp2_with fail
      go_roundw
      case rel => exact ⟨k + 1, m, oa, oc, k + 1, l, by simp, hk2.out, rfl, rfl, hid (fun h => by have := hend.out; omega), hid (fun _ => hE.out), hlm, by omega, by omega, hO.out, hA.out⟩
      case measure => simp [intOf]; have := hms.out; omega
    have q : ((k : Int) == (N : Int)) = false := by simp; omega
    have hks : k < s.size := by rw [hN.out]; omega
    obtain ⟨c, hc⟩ : ∃ c, (sb s).getD k 0 = c := ⟨_, rfl⟩
    have hcy := hid (fun h => cutR_yes (s := s) hc h)
    have hcn := hid (fun h => cutR_no (s := s) hc h)
    have hix := fun W => sidx 9 Try.underlying9 s k c hks hc .i64 k rfl W
    have hk1 := hid (show k + 1 ≤ N by omega)
    have hnE := hid (show ¬ k + 1 = N + 1 by omega)
    replace hcs2 := hid hcs2
    clear hc hks hcs hce hend
    by_cases h44 : c = 44
    case neg =>
      have q4 : ((c : Int) == 44) = false := by simp; omega
      have hc9 := hid (fun (_ : k + 1 ≤ N) => show cutR s (k + 1) = (fr, l) by rw [hcn.out h44]; exact hcs2.out)
      clear hcy hcn hP
      replace h44 := hid h44
      replace hO := hid hO
      replace hA := hid hA
      go_wp2_with fail
      go_roundw
      case rel => exact ⟨k + 1, m, oa, oc, fr, l, by simp, hk2.out, rfl, rfl, hc9, hid (fun h => (hnE.out h).elim), hlm, by omega, by omega, hO.out, hA.out⟩
      case measure => simp [intOf]; have := hms.out; omega
    have q4 : ((c : Int) == 44) = true := by simp; omega
    have hc8 := hcy.out h44
    rw [hcs2.out] at hc8
    dsimp only at hc8
    rw [hP] at hc8
    clear hcy hcn hP
    replace h44 := hid h44
    by_cases hf0 : 0 < fr
    case pos =>
      have q0 : (fr : Int) > 0 := by omega
      have q1 : (0 : Int) < fr := by omega
      have hc9 := hid (fun (_ : k + 1 ≤ N) => show cutR s (k + 1) = (k + 1, l ++ [P]) by rw [hc8, if_pos hf0])
      clear hc8
      have nC := alloc_new wr (.cells #[.string P] 9)
      have hEf : Els (wr.alloc (.cells #[.string P] 9)) 1 (some ⟨wr.heap.size, 0, none⟩) 1 1 [strC P] := els_blkS (m := 1) nC.2.2 rfl
      have hO2 := hid (hO.below nC.2.1)
      have hB4 := bthen hA nC.2.1
      obtain ⟨W4, hW4⟩ : ∃ X, wr.alloc (.cells #[.string P] 9) = X := ⟨_, rfl⟩
      rw [hW4] at hEf hO2 hB4
      obtain ⟨pc, hpc⟩ : ∃ X, wr.heap.size = X := ⟨_, rfl⟩
      rw [hpc] at hEf
      replace hEf := hid hEf
      have s4 := hB4.size
      clear nC hO hA
      go_wp2_with (first | (at_builtin; refine wpList_appE rfl (.tmp 24) (.tmp 29) 22 rfl w.heap.size 9 1 16 strO (by decide) (.slice oa m oc) m (strV l).flatten rfl hO2.out (some ⟨pc, 0, none⟩) 1 1 [strC P] rfl hEf.out (strC_one _) (by unfold maxLen; omega) (by omega) s4 ?_))
      intro a9 c9 W9 hO9 hG hN
      first | rw [← strV_snoc] at hO9 | rw [← strV_snoc2] at hO9
      replace hO9 := hid hO9
      have hB9 := hid (hB4.grown hG s4 (fun g e => (hO2.out.lt g e).1))
      have hl9 := hid (show (l ++ [P]).length = m + 1 by rw [List.length_append, hlm.out]; rfl)
      clear hG hN hO2 hEf hB4
      go_wp2_with fail
      go_roundw
      case rel => exact ⟨k + 1, m + 1, a9, c9, k + 1, l ++ [P], by simp, hk2.out, rfl, rfl, hc9, hid (fun h => (hnE.out h).elim), hl9, by omega, by omega, hO9.out, hB9.out⟩
      case measure => simp [intOf]; have := hms.out; omega
    have q0 : ¬ (fr : Int) > 0 := by omega
    have q1 : ¬ (0 : Int) < fr := by omega
    have hc9 := hid (fun (_ : k + 1 ≤ N) => show cutR s (k + 1) = (k + 1, l) by rw [hc8, if_neg hf0])
    obtain rfl : fr = 0 := by omega
    clear hc8 hf0
    replace hO := hid hO
    replace hA := hid hA
    go_wp2_with fail
    go_roundw
    case rel => exact ⟨k + 1, m, oa, oc, k + 1, l, by simp, hk2.out, rfl, rfl, hc9, hid (fun h => (hnE.out h).elim), hlm, by omega, by omega, hO.out, hA.out⟩
    case measure => simp [intOf]; have := hms.out; omega

end Go.Proofs.Ytookhpmpngacjaa
