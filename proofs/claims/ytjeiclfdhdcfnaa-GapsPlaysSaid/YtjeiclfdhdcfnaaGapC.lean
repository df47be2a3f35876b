/- Stage 33: the papers' Hear. -/
import Derived.Test.YtjeiclfdhdcfnaaGapB
import Derived.Laws.Tables
import Derived.Deep.DeepCutAuto
namespace Go.Proofs.Ytjeiclfdhdcfnaa
open Go.ChangeShapes Go.WideShapes Go.ChangeAt Go.RowKit
set_option linter.unusedVariables false
set_option linter.unusedSimpArgs false

set_option maxRecDepth 100000 in
set_option maxHeartbeats 16000000 in
theorem rhear_any (a : Option Addr) (n cap : Nat) (T : List Ln) (q y c : Int) (w : World) (hE : Els w 5 a n cap (T.map enL)) (h16 : n ≤ 16) (hT : LnOk T) (hs : Srt T) : Calls Try.prog 9 #[.slice a n cap, .int .i64 q, .int .i64 y, .int .i64 c] w fun r w' => ∃ (a2 : Option Addr) (n2 c2 : Nat), r = .returned (.tuple #[.slice a2 n2 c2, .int .i64 (refH T q y c).2.1, .bool (refH T q y c).2.2]) ∧ Els w' 5 a2 n2 c2 ((refH T q y c).1.map enL) ∧ After w w' := by
  obtain ⟨R, hR⟩ : ∃ R, refH T q y c = R := ⟨_, rfl⟩
  rw [hR]
  replace hR := hid hR
  have hl := hid (show T.length = n from by have := hE.1; rw [List.length_map] at this; exact this)
  replace hE := hid hE
  replace hT := hid hT
  replace hs := hid hs
  have h16h := hid h16
  have k1 := hid (fun U => roct33_any q U)
  have k2 := hid (fun U => roct33_any y U)
  have k3 := hid (fun U => roct33_any c U)
  obtain ⟨iq, hq⟩ : ∃ b, isB q = b := ⟨_, rfl⟩
  obtain ⟨iy, hy⟩ : ∃ b, isB y = b := ⟨_, rfl⟩
  obtain ⟨ic, hc⟩ : ∃ b, isB c = b := ⟨_, rfl⟩
  rw [hq] at k1
  rw [hy] at k2
  rw [hc] at k3
  replace hq := hid hq
  replace hy := hid hy
  replace hc := hid hc
  clear h16
  go_enter Try.func9, Try.ntmps9
  go_wp2_with fail
  refine (k1.out _).mono ?_
  rintro r V ⟨rfl, hv⟩
  obtain rfl : w = V := hv.symm
  clear hv
  cases iq
  case false =>
    have e : R = (T, 0, false) := hR.out.symm.trans (ref_no (fun h => by have := h.1; rw [hq.out] at this; cases this))
    go_wp2_with fail
    subst e
    refine bodyPost_ret (v := .tuple #[.slice a n cap, .int .i64 0, .bool false]) (by simp [results, Try.results9, go_sem]) rfl ?_
    exact ⟨_, _, _, rfl, hE.out, Below.refl _ _⟩
  go_wp2_with fail
  refine (k2.out _).mono ?_
  rintro r V ⟨rfl, hv⟩
  obtain rfl : w = V := hv.symm
  clear hv
  cases iy
  case false =>
    have e : R = (T, 0, false) := hR.out.symm.trans (ref_no (fun h => by have := h.2.1; rw [hy.out] at this; cases this))
    go_wp2_with fail
    subst e
    refine bodyPost_ret (v := .tuple #[.slice a n cap, .int .i64 0, .bool false]) (by simp [results, Try.results9, go_sem]) rfl ?_
    exact ⟨_, _, _, rfl, hE.out, Below.refl _ _⟩
  go_wp2_with fail
  refine (k3.out _).mono ?_
  rintro r V ⟨rfl, hv⟩
  obtain rfl : w = V := hv.symm
  clear hv
  cases ic
  case false =>
    have e : R = (T, 0, false) := hR.out.symm.trans (ref_no (fun h => by have := h.2.2; rw [hc.out] at this; cases this))
    go_wp2_with fail
    subst e
    refine bodyPost_ret (v := .tuple #[.slice a n cap, .int .i64 0, .bool false]) (by simp [results, Try.results9, go_sem]) rfl ?_
    exact ⟨_, _, _, rfl, hE.out, Below.refl _ _⟩
  clear k1 k2 k3
  have hbyte := hid (show isB q = true ∧ isB y = true ∧ isB c = true from ⟨hq.out, hy.out, hc.out⟩)
  have hqb : 0 ≤ q ∧ q ≤ 255 := of_decide_eq_true hq.out
  replace hqb := hid hqb
  have hA1 := hid (alloc_new w (.cells #[] 38)).2.1
  have hO1 := hid (OwnE.lit (E := 38) w #[] 0 w.heap.size 5 (Nat.le_refl _) (by unfold maxLen; omega) rfl)
  have hE1 := hid (hE.out.below hA1.out)
  have bs1 : w.heap.size ≤ (w.alloc (.cells #[] 38)).heap.size := hA1.out.size
  have hn16 : n ≤ 16 := h16h.out
  go_wp2_with (first | (at_builtin; refine wpList_appE rfl (.tmp 29) (.tmp 30) 26 rfl (w.heap.size) 38 5 40 rlO (by decide) (.slice (some ⟨_, 0, none⟩) 0 0) (0) ([]) rfl hO1.out _ (n) (cap) (T.map enL) rfl hE1.out (enL_one T) (by unfold maxLen; omega) (by omega) bs1 ?_))
  try simp only [Nat.zero_add, List.nil_append]
  intro a9 c9 W9 hO9 hG9 hN9
  try simp only [Nat.zero_add, List.nil_append] at hO9 hN9
  have hA9 := hid (show After w W9 from hA1.out.grown hG9 bs1 (fun k2 e => (hO1.out.lt k2 e).1))
  have hnc : n ≤ c9 := (ownE_cut33 hO9 0 (by omega)).2
  have hE9 := hid (hO9.els (by rw [List.length_map]; exact hl.out) (enL_m T))
  replace hO9 := hid hO9
  clear hG9 hN9 hA1 hO1 hE1 bs1
  obtain ⟨P, hP⟩ : ∃ P, posL y c T = P := ⟨_, rfl⟩
  have hPn : P ≤ n := by have := posL_le y c T; have := hl.out; omega
  replace hP := hid hP
  go_wp2_with fail
  go_loopw [12] (fun ix wr => ∃ k : Nat, ix = .int .i64 k ∧ k ≤ P ∧ wr = W9) (fun ix _ => n - (intOf ix).toNat)
  case atStart => exact ⟨0, rfl, by omega, rfl⟩
  case round =>
    obtain ⟨k, rfl, hk, rfl⟩ := hrel
    have kz : (0 : Int) ≤ k := by omega
    have wk : IntKind.i64.wrap ((k : Int) + 1) = (k : Int) + 1 := by rw [IntKind.wrap_i64]; omega
    by_cases hlt : (k : Int) < n
    case neg =>
      obtain rfl : k = P := by omega
      have hfd := hid (show fd y c T = none from by
        cases h : fd y c T with
        | none => rfl
        | some z =>
          obtain ⟨m1, m2, m3⟩ := fd_mem h
          have h2 := posL_hit hs.out m1 (show ky z = (y, c) from by unfold ky; rw [m2, m3])
          rw [hP.out] at h2
          have h3 := (List.getElem?_eq_some_iff.1 h2).1
          have := hl.out
          omega)
      by_cases c16 : (16 : Int) ≤ n
      case pos =>
        have e : R = (T, 0, false) := hR.out.symm.trans (by rw [ref_new hbyte.out hfd.out, if_pos (by have := hl.out; omega)])
        have hEw := hid (hE.out.below hA9.out)
        go_wp2_with fail
        subst e
        refine bodyPost_ret (v := .tuple #[.slice a n cap, .int .i64 0, .bool false]) (by simp [results, Try.results9, go_sem]) rfl ?_
        exact ⟨_, _, _, rfl, hEw.out, hA9.out⟩
      have e : R = (T.take k ++ ⟨y, c, q, 1, 0⟩ :: T.drop k, 0, true) := hR.out.symm.trans (by rw [ref_new hbyte.out hfd.out, if_neg (by have := hl.out; omega), hP.out])
      replace e := hid e
      obtain ⟨a2, hcut, hdr⟩ := cutT33 a9 n c9 k hnc (by omega)
      replace hdr := hid hdr
      have hcF := fun W => cutF33 a9 n c9 k (by omega) W
      have hA1 := hid (alloc_new wr (.cells #[] 38)).2.1
      have hO1 := hid (OwnE.lit (E := 38) wr #[] 0 wr.heap.size 5 (Nat.le_refl _) (by unfold maxLen; omega) rfl)
      have hE1 := hid (hdr.out _ _ (hE9.out.below hA1.out))
      have hO2 := hid (hO9.out.below hA1.out)
      have hlt9 := hid (fun g e => (hO9.out.lt g e).2.1)
      have bs1 : wr.heap.size ≤ (wr.alloc (.cells #[] 38)).heap.size := hA1.out.size
      have hAa := hid (bthen hA9.out hA1.out)
      go_wp2_with (first | (at_builtin; refine wpList_appE rfl (.tmp 126) (.tmp 129) 26 rfl (wr.heap.size) 38 5 40 rlO (by decide) (.slice (some ⟨_, 0, none⟩) 0 0) (0) ([]) rfl hO1.out _ (n - k) (c9 - k) ((T.map enL).drop k) rfl hE1.out (fun y hy => enL_one T y (List.mem_of_mem_drop hy)) (by unfold maxLen; omega) (by omega) bs1 ?_))
      try simp only [Nat.zero_add, List.nil_append]
      intro a5 c5 W5 hO5 hG5 hN5
      try simp only [Nat.zero_add, List.nil_append] at hO5 hN5
      have hA5 := hid (show After wr W5 from hA1.out.grown hG5 bs1 (fun k2 e => (hO1.out.lt k2 e).1))
      have hAb := hid (show After w W5 from bthen hA9.out hA5.out)
      have hO6 := hid (ownE_cut33 (hO9.out.below hA5.out) k (by omega)).1
      replace hO5 := hid hO5
      clear hG5 hN5 hA1 hO1 hE1 bs1 hAa hO2
      have hEx : Els (W5.alloc (.cells #[.int .i64 y, .int .i64 c, .int .i64 q, .int .i64 1, .int .i64 0] 38)) 5 (some ⟨W5.heap.size, 0, none⟩) 1 1 [enL ⟨y, c, q, 1, 0⟩] := els_one W5 _ 38 5 rfl
      have hA6 := hid (alloc_new W5 (.cells #[.int .i64 y, .int .i64 c, .int .i64 q, .int .i64 1, .int .i64 0] 38)).2.1
      have hO7 := hid (hO6.out.below hA6.out)
      have hO8 := hid (hO5.out.below hA6.out)
      have hAc := hid (show After w _ from bthen hAb.out hA6.out)
      have bs2 : w.heap.size ≤ (W5.alloc (.cells #[.int .i64 y, .int .i64 c, .int .i64 q, .int .i64 1, .int .i64 0] 38)).heap.size := hAc.out.size
      replace hEx := hid hEx
      clear hO6
      go_wp2_with (first | (at_builtin; refine wpList_appE rfl (.tmp 134) (.tmp 139) 26 rfl (w.heap.size) 38 5 40 rlO (by decide) (.slice a9 k k) (k) (((T.map enL).flatten).take (k * 5)) rfl hO7.out _ (1) (1) ([enL ⟨y, c, q, 1, 0⟩]) rfl hEx.out (enL_one [⟨y, c, q, 1, 0⟩]) (by unfold maxLen; omega) (by omega) bs2 ?_))
      intro a7 c7 W7 hO10 hG7 hN7
      have hne : ∀ bq oq, a5 = some ⟨bq, oq, none⟩ → some bq ≠ (Value.slice a9 k k).ownBlock := by
        intro bq oq e1 e2
        have h1 := (hO5.out.lt bq (by subst e1; obtain ⟨a8, c8, e3, -, -, -, h9⟩ := hO5.out.sl; injection e3 with e4; have := (h9 ⟨bq, oq, none⟩ e4.symm).1; dsimp only at this; subst this; rfl)).1
        have h2 := hlt9.out bq (by rw [show (Value.slice a9 n c9).ownBlock = (Value.slice a9 k k).ownBlock from by cases a9 <;> rfl]; exact e2.symm)
        omega
      have hEr0 := hO8.out.els (by rw [List.length_drop, List.length_map]; have := hl.out; omega) (fun x hx => enL_m T x (List.mem_of_mem_drop hx))
      have hEr := hid (els_grown hEr0 hG7 hne)
      have hA7 := hid (show After w W7 from hAc.out.grown hG7 bs2 (fun k2 e => (hO7.out.lt k2 e).1))
      have bs3 : w.heap.size ≤ W7.heap.size := hA7.out.size
      replace hO10 := hid hO10
      clear hG7 hN7 hEr0 hne bs2 hO7 hO8 hEx hA6 hAc
      go_wp2_with (first | (at_builtin; refine wpList_appE rfl (.tmp 141) (.tmp 142) 26 rfl (w.heap.size) 38 5 40 rlO (by decide) (.slice a7 (k + 1) c7) (k + 1) (((T.map enL).flatten).take (k * 5) ++ [enL ⟨y, c, q, 1, 0⟩].flatten) rfl hO10.out _ (n - k) (c5) ((T.map enL).drop k) rfl hEr.out (fun y hy => enL_one T y (List.mem_of_mem_drop hy)) (by unfold maxLen; omega) (by omega) bs3 ?_))
      intro a8 c8 W8 hO11 hG8 hN8
      have hA8 := hid (show After w W8 from hA7.out.grown hG8 bs3 (fun k2 e => (hO10.out.lt k2 e).1))
      have ex : ((T.map enL).flatten).take (k * 5) ++ (enL ⟨y, c, q, 1, 0⟩ ++ ((T.map enL).drop k).flatten) = ((T.take k ++ ⟨y, c, q, 1, 0⟩ :: T.drop k).map enL).flatten := by rw [flat_take5, List.map_append, List.flatten_append, List.map_cons, List.flatten_cons, List.map_drop]
      rw [ex] at hO11
      have hEf := hid (hO11.els (by rw [List.length_map, List.length_append, List.length_cons, List.length_take, List.length_drop]; have := hl.out; omega) (enL_m _))
      clear hO11 hG8 hN8 ex hO10 hEr
      replace e := e.out
      go_wp2_with fail
      subst e
      refine bodyPost_ret (v := .tuple #[.slice a8 (k + 1 + (n - k)) c8, .int .i64 0, .bool true]) (by simp [results, Try.results9, go_sem]) rfl ?_
      exact ⟨_, _, _, rfl, hEf.out, hA8.out⟩
    obtain ⟨x, hx⟩ : ∃ x, T[k]? = some x := ⟨_, List.getElem?_eq_getElem (by have := hl.out; omega)⟩
    have hxk : (T.map enL)[k]? = some (enL x) := by rw [List.getElem?_map, hx]; rfl
    obtain ⟨b, o, rfl, g0, g1, g2, g3, g4⟩ := els5_at2 hE9.out hxk
    have hxh := hid hx
    obtain ⟨⟨u1, u2⟩, ⟨u3, u4⟩, u5, u6⟩ := hT.out x (List.mem_of_getElem? hx)
    obtain ⟨xy, xc, xq, xh, xl⟩ := x
    dsimp only at u1 u2 u3 u4 u5 u6
    clear hx hxk
    by_cases hkP : k < P
    case pos =>
      have hk1 := hid (show k + 1 ≤ P by omega)
      have hms := hid (show n - (k + 1) < n - k by omega)
      have hlx : lt33 (xy, xc) (y, c) := posL_lt (T := T) (x := ⟨xy, xc, xq, xh, xl⟩) (by rw [hP.out]; exact hkP) hxh.out
      unfold lt33 at hlx
      dsimp only at hlx
      clear g2 g3 g4 u1 u2 u3 u4 u5 u6 hkP hk
      by_cases l1 : xy < y
      case pos =>
        have l1b : decide (xy < y) = true := decide_eq_true l1
        clear hlx l1
        go_wp2_with fail
        go_roundw
        case rel => exact ⟨k + 1, by simp, hk1.out, trivial⟩
        case measure => simp [intOf]; have := hms.out; omega
      have l2 : xy = y := by omega
      have l3 : xc < c := by omega
      subst l2
      have l1b : decide (xy < xy) = false := decide_eq_false l1
      have l3b : decide (xc < c) = true := decide_eq_true l3
      clear hlx l1 l3
      go_wp2_with fail
      go_roundw
      case rel => exact ⟨k + 1, by simp, hk1.out, trivial⟩
      case measure => simp [intOf]; have := hms.out; omega
    obtain rfl : k = P := by omega
    have hnl : ¬ lt33 (xy, xc) (y, c) := posL_at (T := T) (x := ⟨xy, xc, xq, xh, xl⟩) (by rw [hP.out]; exact hxh.out)
    unfold lt33 at hnl
    dsimp only at hnl
    clear hkP hk
    have l1b : decide (xy < y) = false := decide_eq_false (by omega)
    by_cases l2 : xy = y
    case neg =>
      have l2b : (xy == y) = false := by simpa using l2
      have l2h := hid l2
      clear g2 g3 g4 u1 u2 u3 u4 u5 u6 hnl l2
      have hfd := hid (show fd y c T = none from by
        cases h : fd y c T with
        | none => rfl
        | some z =>
          obtain ⟨m1, m2, m3⟩ := fd_mem h
          have h2 := posL_hit hs.out m1 (show ky z = (y, c) from by unfold ky; rw [m2, m3])
          rw [hP.out, hxh.out] at h2
          cases h2
          exact absurd m2 l2h.out)
      by_cases c16 : (16 : Int) ≤ n
      case pos =>
        have e : R = (T, 0, false) := hR.out.symm.trans (by rw [ref_new hbyte.out hfd.out, if_pos (by have := hl.out; omega)])
        have hEw := hid (hE.out.below hA9.out)
        go_wp2_with fail
        subst e
        refine bodyPost_ret (v := .tuple #[.slice a n cap, .int .i64 0, .bool false]) (by simp [results, Try.results9, go_sem]) rfl ?_
        exact ⟨_, _, _, rfl, hEw.out, hA9.out⟩
      have e : R = (T.take k ++ ⟨y, c, q, 1, 0⟩ :: T.drop k, 0, true) := hR.out.symm.trans (by rw [ref_new hbyte.out hfd.out, if_neg (by have := hl.out; omega), hP.out])
      replace e := hid e
      obtain ⟨a2, hcut, hdr⟩ := cutT33 (some ⟨b, o, none⟩) n c9 k hnc (by omega)
      replace hdr := hid hdr
      have hcF := fun W => cutF33 (some ⟨b, o, none⟩) n c9 k (by omega) W
      have hA1 := hid (alloc_new wr (.cells #[] 38)).2.1
      have hO1 := hid (OwnE.lit (E := 38) wr #[] 0 wr.heap.size 5 (Nat.le_refl _) (by unfold maxLen; omega) rfl)
      have hE1 := hid (hdr.out _ _ (hE9.out.below hA1.out))
      have hO2 := hid (hO9.out.below hA1.out)
      have hlt9 := hid (fun g e => (hO9.out.lt g e).2.1)
      have bs1 : wr.heap.size ≤ (wr.alloc (.cells #[] 38)).heap.size := hA1.out.size
      have hAa := hid (bthen hA9.out hA1.out)
      go_wp2_with (first | (at_builtin; refine wpList_appE rfl (.tmp 126) (.tmp 129) 26 rfl (wr.heap.size) 38 5 40 rlO (by decide) (.slice (some ⟨_, 0, none⟩) 0 0) (0) ([]) rfl hO1.out _ (n - k) (c9 - k) ((T.map enL).drop k) rfl hE1.out (fun y hy => enL_one T y (List.mem_of_mem_drop hy)) (by unfold maxLen; omega) (by omega) bs1 ?_))
      try simp only [Nat.zero_add, List.nil_append]
      intro a5 c5 W5 hO5 hG5 hN5
      try simp only [Nat.zero_add, List.nil_append] at hO5 hN5
      have hA5 := hid (show After wr W5 from hA1.out.grown hG5 bs1 (fun k2 e => (hO1.out.lt k2 e).1))
      have hAb := hid (show After w W5 from bthen hA9.out hA5.out)
      have hO6 := hid (ownE_cut33 (hO9.out.below hA5.out) k (by omega)).1
      replace hO5 := hid hO5
      clear hG5 hN5 hA1 hO1 hE1 bs1 hAa hO2
      have hEx : Els (W5.alloc (.cells #[.int .i64 y, .int .i64 c, .int .i64 q, .int .i64 1, .int .i64 0] 38)) 5 (some ⟨W5.heap.size, 0, none⟩) 1 1 [enL ⟨y, c, q, 1, 0⟩] := els_one W5 _ 38 5 rfl
      have hA6 := hid (alloc_new W5 (.cells #[.int .i64 y, .int .i64 c, .int .i64 q, .int .i64 1, .int .i64 0] 38)).2.1
      have hO7 := hid (hO6.out.below hA6.out)
      have hO8 := hid (hO5.out.below hA6.out)
      have hAc := hid (show After w _ from bthen hAb.out hA6.out)
      have bs2 : w.heap.size ≤ (W5.alloc (.cells #[.int .i64 y, .int .i64 c, .int .i64 q, .int .i64 1, .int .i64 0] 38)).heap.size := hAc.out.size
      replace hEx := hid hEx
      clear hO6
      go_wp2_with (first | (at_builtin; refine wpList_appE rfl (.tmp 134) (.tmp 139) 26 rfl (w.heap.size) 38 5 40 rlO (by decide) (.slice (some ⟨b, o, none⟩) k k) (k) (((T.map enL).flatten).take (k * 5)) rfl hO7.out _ (1) (1) ([enL ⟨y, c, q, 1, 0⟩]) rfl hEx.out (enL_one [⟨y, c, q, 1, 0⟩]) (by unfold maxLen; omega) (by omega) bs2 ?_))
      intro a7 c7 W7 hO10 hG7 hN7
      have hne : ∀ bq oq, a5 = some ⟨bq, oq, none⟩ → some bq ≠ (Value.slice (some ⟨b, o, none⟩) k k).ownBlock := by
        intro bq oq e1 e2
        have h1 := (hO5.out.lt bq (by subst e1; obtain ⟨a8, c8, e3, -, -, -, h9⟩ := hO5.out.sl; injection e3 with e4; have := (h9 ⟨bq, oq, none⟩ e4.symm).1; dsimp only at this; subst this; rfl)).1
        have h2 := hlt9.out bq (by rw [show (Value.slice (some ⟨b, o, none⟩) n c9).ownBlock = (Value.slice (some ⟨b, o, none⟩) k k).ownBlock from by rfl]; exact e2.symm)
        omega
      have hEr0 := hO8.out.els (by rw [List.length_drop, List.length_map]; have := hl.out; omega) (fun x hx => enL_m T x (List.mem_of_mem_drop hx))
      have hEr := hid (els_grown hEr0 hG7 hne)
      have hA7 := hid (show After w W7 from hAc.out.grown hG7 bs2 (fun k2 e => (hO7.out.lt k2 e).1))
      have bs3 : w.heap.size ≤ W7.heap.size := hA7.out.size
      replace hO10 := hid hO10
      clear hG7 hN7 hEr0 hne bs2 hO7 hO8 hEx hA6 hAc
      go_wp2_with (first | (at_builtin; refine wpList_appE rfl (.tmp 141) (.tmp 142) 26 rfl (w.heap.size) 38 5 40 rlO (by decide) (.slice a7 (k + 1) c7) (k + 1) (((T.map enL).flatten).take (k * 5) ++ [enL ⟨y, c, q, 1, 0⟩].flatten) rfl hO10.out _ (n - k) (c5) ((T.map enL).drop k) rfl hEr.out (fun y hy => enL_one T y (List.mem_of_mem_drop hy)) (by unfold maxLen; omega) (by omega) bs3 ?_))
      intro a8 c8 W8 hO11 hG8 hN8
      have hA8 := hid (show After w W8 from hA7.out.grown hG8 bs3 (fun k2 e => (hO10.out.lt k2 e).1))
      have ex : ((T.map enL).flatten).take (k * 5) ++ (enL ⟨y, c, q, 1, 0⟩ ++ ((T.map enL).drop k).flatten) = ((T.take k ++ ⟨y, c, q, 1, 0⟩ :: T.drop k).map enL).flatten := by rw [flat_take5, List.map_append, List.flatten_append, List.map_cons, List.flatten_cons, List.map_drop]
      rw [ex] at hO11
      have hEf := hid (hO11.els (by rw [List.length_map, List.length_append, List.length_cons, List.length_take, List.length_drop]; have := hl.out; omega) (enL_m _))
      clear hO11 hG8 hN8 ex hO10 hEr
      replace e := e.out
      go_wp2_with fail
      subst e
      refine bodyPost_ret (v := .tuple #[.slice a8 (k + 1 + (n - k)) c8, .int .i64 0, .bool true]) (by simp [results, Try.results9, go_sem]) rfl ?_
      exact ⟨_, _, _, rfl, hEf.out, hA8.out⟩
    subst l2
    have l2b : (xy == xy) = true := by simp
    have l3b : decide (xc < c) = false := decide_eq_false (by omega)
    clear hnl
    by_cases l4 : xc = c
    case neg =>
      have l4b : (xc == c) = false := by simpa using l4
      have l4h := hid l4
      clear g2 g3 g4 u1 u2 u3 u4 u5 u6 l4
      have hfd := hid (show fd xy c T = none from by
        cases h : fd xy c T with
        | none => rfl
        | some z =>
          obtain ⟨m1, m2, m3⟩ := fd_mem h
          have h2 := posL_hit hs.out m1 (show ky z = (xy, c) from by unfold ky; rw [m2, m3])
          rw [hP.out, hxh.out] at h2
          cases h2
          exact absurd m3 l4h.out)
      by_cases c16 : (16 : Int) ≤ n
      case pos =>
        have e : R = (T, 0, false) := hR.out.symm.trans (by rw [ref_new hbyte.out hfd.out, if_pos (by have := hl.out; omega)])
        have hEw := hid (hE.out.below hA9.out)
        go_wp2_with fail
        subst e
        refine bodyPost_ret (v := .tuple #[.slice a n cap, .int .i64 0, .bool false]) (by simp [results, Try.results9, go_sem]) rfl ?_
        exact ⟨_, _, _, rfl, hEw.out, hA9.out⟩
      have e : R = (T.take k ++ ⟨xy, c, q, 1, 0⟩ :: T.drop k, 0, true) := hR.out.symm.trans (by rw [ref_new hbyte.out hfd.out, if_neg (by have := hl.out; omega), hP.out])
      replace e := hid e
      obtain ⟨a2, hcut, hdr⟩ := cutT33 (some ⟨b, o, none⟩) n c9 k hnc (by omega)
      replace hdr := hid hdr
      have hcF := fun W => cutF33 (some ⟨b, o, none⟩) n c9 k (by omega) W
      have hA1 := hid (alloc_new wr (.cells #[] 38)).2.1
      have hO1 := hid (OwnE.lit (E := 38) wr #[] 0 wr.heap.size 5 (Nat.le_refl _) (by unfold maxLen; omega) rfl)
      have hE1 := hid (hdr.out _ _ (hE9.out.below hA1.out))
      have hO2 := hid (hO9.out.below hA1.out)
      have hlt9 := hid (fun g e => (hO9.out.lt g e).2.1)
      have bs1 : wr.heap.size ≤ (wr.alloc (.cells #[] 38)).heap.size := hA1.out.size
      have hAa := hid (bthen hA9.out hA1.out)
      go_wp2_with (first | (at_builtin; refine wpList_appE rfl (.tmp 126) (.tmp 129) 26 rfl (wr.heap.size) 38 5 40 rlO (by decide) (.slice (some ⟨_, 0, none⟩) 0 0) (0) ([]) rfl hO1.out _ (n - k) (c9 - k) ((T.map enL).drop k) rfl hE1.out (fun y hy => enL_one T y (List.mem_of_mem_drop hy)) (by unfold maxLen; omega) (by omega) bs1 ?_))
      try simp only [Nat.zero_add, List.nil_append]
      intro a5 c5 W5 hO5 hG5 hN5
      try simp only [Nat.zero_add, List.nil_append] at hO5 hN5
      have hA5 := hid (show After wr W5 from hA1.out.grown hG5 bs1 (fun k2 e => (hO1.out.lt k2 e).1))
      have hAb := hid (show After w W5 from bthen hA9.out hA5.out)
      have hO6 := hid (ownE_cut33 (hO9.out.below hA5.out) k (by omega)).1
      replace hO5 := hid hO5
      clear hG5 hN5 hA1 hO1 hE1 bs1 hAa hO2
      have hEx : Els (W5.alloc (.cells #[.int .i64 xy, .int .i64 c, .int .i64 q, .int .i64 1, .int .i64 0] 38)) 5 (some ⟨W5.heap.size, 0, none⟩) 1 1 [enL ⟨xy, c, q, 1, 0⟩] := els_one W5 _ 38 5 rfl
      have hA6 := hid (alloc_new W5 (.cells #[.int .i64 xy, .int .i64 c, .int .i64 q, .int .i64 1, .int .i64 0] 38)).2.1
      have hO7 := hid (hO6.out.below hA6.out)
      have hO8 := hid (hO5.out.below hA6.out)
      have hAc := hid (show After w _ from bthen hAb.out hA6.out)
      have bs2 : w.heap.size ≤ (W5.alloc (.cells #[.int .i64 xy, .int .i64 c, .int .i64 q, .int .i64 1, .int .i64 0] 38)).heap.size := hAc.out.size
      replace hEx := hid hEx
      clear hO6
      go_wp2_with (first | (at_builtin; refine wpList_appE rfl (.tmp 134) (.tmp 139) 26 rfl (w.heap.size) 38 5 40 rlO (by decide) (.slice (some ⟨b, o, none⟩) k k) (k) (((T.map enL).flatten).take (k * 5)) rfl hO7.out _ (1) (1) ([enL ⟨xy, c, q, 1, 0⟩]) rfl hEx.out (enL_one [⟨xy, c, q, 1, 0⟩]) (by unfold maxLen; omega) (by omega) bs2 ?_))
      intro a7 c7 W7 hO10 hG7 hN7
      have hne : ∀ bq oq, a5 = some ⟨bq, oq, none⟩ → some bq ≠ (Value.slice (some ⟨b, o, none⟩) k k).ownBlock := by
        intro bq oq e1 e2
        have h1 := (hO5.out.lt bq (by subst e1; obtain ⟨a8, c8, e3, -, -, -, h9⟩ := hO5.out.sl; injection e3 with e4; have := (h9 ⟨bq, oq, none⟩ e4.symm).1; dsimp only at this; subst this; rfl)).1
        have h2 := hlt9.out bq (by rw [show (Value.slice (some ⟨b, o, none⟩) n c9).ownBlock = (Value.slice (some ⟨b, o, none⟩) k k).ownBlock from by rfl]; exact e2.symm)
        omega
      have hEr0 := hO8.out.els (by rw [List.length_drop, List.length_map]; have := hl.out; omega) (fun x hx => enL_m T x (List.mem_of_mem_drop hx))
      have hEr := hid (els_grown hEr0 hG7 hne)
      have hA7 := hid (show After w W7 from hAc.out.grown hG7 bs2 (fun k2 e => (hO7.out.lt k2 e).1))
      have bs3 : w.heap.size ≤ W7.heap.size := hA7.out.size
      replace hO10 := hid hO10
      clear hG7 hN7 hEr0 hne bs2 hO7 hO8 hEx hA6 hAc
      go_wp2_with (first | (at_builtin; refine wpList_appE rfl (.tmp 141) (.tmp 142) 26 rfl (w.heap.size) 38 5 40 rlO (by decide) (.slice a7 (k + 1) c7) (k + 1) (((T.map enL).flatten).take (k * 5) ++ [enL ⟨xy, c, q, 1, 0⟩].flatten) rfl hO10.out _ (n - k) (c5) ((T.map enL).drop k) rfl hEr.out (fun y hy => enL_one T y (List.mem_of_mem_drop hy)) (by unfold maxLen; omega) (by omega) bs3 ?_))
      intro a8 c8 W8 hO11 hG8 hN8
      have hA8 := hid (show After w W8 from hA7.out.grown hG8 bs3 (fun k2 e => (hO10.out.lt k2 e).1))
      have ex : ((T.map enL).flatten).take (k * 5) ++ (enL ⟨xy, c, q, 1, 0⟩ ++ ((T.map enL).drop k).flatten) = ((T.take k ++ ⟨xy, c, q, 1, 0⟩ :: T.drop k).map enL).flatten := by rw [flat_take5, List.map_append, List.flatten_append, List.map_cons, List.flatten_cons, List.map_drop]
      rw [ex] at hO11
      have hEf := hid (hO11.els (by rw [List.length_map, List.length_append, List.length_cons, List.length_take, List.length_drop]; have := hl.out; omega) (enL_m _))
      clear hO11 hG8 hN8 ex hO10 hEr
      replace e := e.out
      go_wp2_with fail
      subst e
      refine bodyPost_ret (v := .tuple #[.slice a8 (k + 1 + (n - k)) c8, .int .i64 0, .bool true]) (by simp [results, Try.results9, go_sem]) rfl ?_
      exact ⟨_, _, _, rfl, hEf.out, hA8.out⟩
    subst l4
    have l4b : (xc == xc) = true := by simp
    have hfd : fd xy xc T = some ⟨xy, xc, xq, xh, xl⟩ := by
      cases h : fd xy xc T with
      | none => exact absurd ⟨rfl, rfl⟩ (fd_none h _ (List.mem_of_getElem? hxh.out))
      | some z =>
        obtain ⟨m1, m2, m3⟩ := fd_mem h
        have h2 := posL_hit hs.out m1 (show ky z = (xy, xc) from by unfold ky; rw [m2, m3])
        rw [hP.out, hxh.out] at h2
        exact h2.symm
    obtain ⟨lost, hlost⟩ : ∃ z, (q - xq + 511) % 256 = z := ⟨_, rfl⟩
    have hqb2 := hqb.out
    have lb : 0 ≤ lost ∧ lost ≤ 255 := by omega
    have e : R = (T.set k ⟨xy, xc, q, xh + 1, xl + lost⟩, lost, true) := hR.out.symm.trans (by rw [ref_old hbyte.out hfd, hP.out, hlost])
    replace e := hid e
    have e1 : IntKind.i64.wrap (q - xq) = q - xq := by rw [IntKind.wrap_i64]; omega
    have e3 : IntKind.i64.wrap (q - xq + 511) = q - xq + 511 := by rw [IntKind.wrap_i64]; omega
    have e4 : (q - xq + 511).tmod 256 = lost := by rw [Int.tmod_eq_emod_of_nonneg (by omega)]; exact hlost
    have e5 : IntKind.i64.wrap (xh + 1) = xh + 1 := by rw [IntKind.wrap_i64]; omega
    have e6 : IntKind.i64.wrap (xl + lost) = xl + lost := by rw [IntKind.wrap_i64]; omega
    replace hlost := hid hlost
    obtain ⟨g, cur, eg, hgw, hgh, ⟨z0, z1, z2, z3, z4⟩, hfin⟩ := own_set33 hO9.out hxh.out q (xh + 1) (xl + lost)
    obtain ⟨rfl, rfl⟩ : b = g ∧ o = 0 := by cases eg; exact ⟨rfl, rfl⟩
    clear g0 g1 g2 g3 g4 eg
    have d0 := held_cell hgh _ _ z0
    have d1 := held_cell hgh _ _ z1
    have d2 := held_cell hgh _ _ z2
    skip
    have f0 := fun j => held_free hgh j
    obtain ⟨S1, hS1, s1, q1⟩ := st1 hgh (k * 5 + 2) (.int .i64 q)
    have z3b : (cur.setIfInBounds (k * 5 + 2) (.int .i64 q))[k * 5 + 3]? = some (.int .i64 xh) := by rw [Array.getElem?_setIfInBounds, if_neg (by omega)]; exact z3
    have d3 := held_cell s1 _ _ z3b
    have f1 := fun j => held_free s1 j
    obtain ⟨S2, hS2, s2, q2⟩ := st1 s1 (k * 5 + 3) (.int .i64 (xh + 1))
    have z4b : ((cur.setIfInBounds (k * 5 + 2) (.int .i64 q)).setIfInBounds (k * 5 + 3) (.int .i64 (xh + 1)))[k * 5 + 4]? = some (.int .i64 xl) := by rw [Array.getElem?_setIfInBounds, if_neg (by omega), Array.getElem?_setIfInBounds, if_neg (by omega)]; exact z4
    have d4 := held_cell s2 _ _ z4b
    have f2 := fun j => held_free s2 j
    obtain ⟨S3, hS3, s3, q3⟩ := st1 s2 (k * 5 + 4) (.int .i64 (xl + lost))
    have hA3 := hid (show After w S3 from belowS (belowS (belowS hA9.out q1 hgw) q2 hgw) q3 hgw)
    have hEf := hid (hfin _ s3)
    replace s1 := hid s1
    replace s2 := hid s2
    replace s3 := hid s3
    replace hgh := hid hgh
    clear q1 q2 q3 hfin z0 z1 z2 z3 z4 z3b z4b hfd
    go_wp2_with fail
    replace e := e.out
    subst e
    refine bodyPost_ret (v := .tuple #[.slice (some ⟨b, 0, none⟩) n c9, .int .i64 lost, .bool true]) (by simp [results, Try.results9, go_sem]) rfl ?_
    exact ⟨_, _, _, rfl, hEf.out, hA3.out⟩

end Go.Proofs.Ytjeiclfdhdcfnaa
