/- Package sentence: letters and signs; where a line ends. -/
import Derived.Test.YtookhpmpngacjaaSen
import Derived.Deep.DeepCutAuto
namespace Go.Proofs.Ytookhpmpngacjaa
open Go.ChangeShapes Go.WideShapes Go.ChangeAt Go.RowKit
set_option linter.unusedVariables false
set_option linter.unusedSimpArgs false

theorem sidx {P : Program} (t : TypeId) (ht : P.underlying t = some .string) (s : ByteArray) (i c : Nat) (hi : i < s.size) (hc : (sb s).getD i 0 = c) (k : IntKind) (I : Int) (eI : I = i) (w : World) : (Instr.index t (.string s) (.int k I)).run P w = .ok (.int .u8 (c : Int)) w := by
  subst eI
  rw [run_index_string w t s k i ht]
  have h : (0 : Int) ≤ (i : Int) ∧ (i : Int) < s.size := by omega
  rw [dif_pos h, ← hc, sb_get s i hi]
  rfl
theorem strto {P : Program} (t : TypeId) (ht : P.underlying t = some .string) (s : ByteArray) (h : Nat) (hh : h ≤ s.size) (k : IntKind) (H : Int) (eH : H = h) (w : World) : (Instr.slice t (.string s) none (some (.int k H)) none).run P w = .ok (.string (s.extract 0 h)) w := by
  subst eH
  rw [run_slice_string_to_if w t s k h ht, if_pos (by omega)]
  rfl
theorem strfrom {P : Program} (t : TypeId) (ht : P.underlying t = some .string) (s : ByteArray) (l : Nat) (hl : l ≤ s.size) (k : IntKind) (L : Int) (eL : L = l) (w : World) : (Instr.slice t (.string s) (some (.int k L)) none none).run P w = .ok (.string (s.extract l s.size)) w := by
  subst eL
  rw [run_slice_string_from_if w t s k l ht, if_pos (by omega)]
  rfl
theorem sb_lit2 (a b : UInt8) : sb ⟨#[a, b]⟩ = [a.toNat, b.toNat] := rfl
theorem str_eq {a b : ByteArray} : (a.toList == b.toList) = decide (sb a = sb b) := by
  rw [ByteArray.toList_eq, ByteArray.toList_eq]
  by_cases h : a.data.toList = b.data.toList
  · have e : sb a = sb b := by unfold sb; rw [h]
    rw [h, e]; simp
  · have e : sb a ≠ sb b := fun e => h (by rw [sb_inj e])
    rw [decide_eq_false e]
    simpa using h
theorem toL (a : ByteArray) : a.toList = a.data.toList := ByteArray.toList_eq a
theorem size_of_sb {s : ByteArray} {l : List Nat} (h : sb s = l) : s.size = l.length := by rw [← h, sb_len]
set_option maxRecDepth 100000 in
set_option maxHeartbeats 4000000 in
theorem letter_any (c : Nat) (w : World) (hc : c ≤ 2147483647) : Calls Try.prog 33 #[.int .i32 (c : Int)] w fun e w' => e = .returned (.bool (letN c)) ∧ w' = w := by
  by_cases h33 : c = 33
  case pos =>
    subst h33
    go_enter Try.func33, Try.ntmps33
    go_wp2_with fail
    go_ret
    exact ⟨rfl, rfl⟩
  have q33 : ((c : Int) == 33) = false := by simp; omega
  by_cases h36 : c = 36
  case pos =>
    subst h36
    go_enter Try.func33, Try.ntmps33
    go_wp2_with fail
    go_ret
    exact ⟨rfl, rfl⟩
  have q36 : ((c : Int) == 36) = false := by simp; omega
  by_cases h42 : c = 42
  case pos =>
    subst h42
    go_enter Try.func33, Try.ntmps33
    go_wp2_with fail
    go_ret
    exact ⟨rfl, rfl⟩
  have q42 : ((c : Int) == 42) = false := by simp; omega
  by_cases h92 : c = 92
  case pos =>
    subst h92
    go_enter Try.func33, Try.ntmps33
    go_wp2_with fail
    go_ret
    exact ⟨rfl, rfl⟩
  have q92 : ((c : Int) == 92) = false := by simp; omega
  by_cases h94 : c = 94
  case pos =>
    subst h94
    go_enter Try.func33, Try.ntmps33
    go_wp2_with fail
    go_ret
    exact ⟨rfl, rfl⟩
  have q94 : ((c : Int) == 94) = false := by simp; omega
  by_cases h126 : c = 126
  case pos =>
    subst h126
    go_enter Try.func33, Try.ntmps33
    go_wp2_with fail
    go_ret
    exact ⟨rfl, rfl⟩
  have q126 : ((c : Int) == 126) = false := by simp; omega
  have hL : letN c = decide (32 ≤ c ∧ c ≤ 126) := by unfold letN; simp [h33, h36, h42, h92, h94, h126]
  replace hL := hid hL
  by_cases a : 32 ≤ c
  case neg =>
    have a2 : ¬ (32 : Int) ≤ c := by omega
    have hf := hid (show letN c = false by rw [hL.out]; simp; omega)
    clear h33 h36 h42 h92 h94 h126
    go_enter Try.func33, Try.ntmps33
    go_wp2_with fail
    go_ret
    exact ⟨by rw [hf.out]; rfl, rfl⟩
  have a2 : (32 : Int) ≤ c := by omega
  by_cases b : c ≤ 126
  case neg =>
    have b2 : ¬ (c : Int) ≤ 126 := by omega
    have hf := hid (show letN c = false by rw [hL.out]; simp; omega)
    clear h33 h36 h42 h92 h94 h126
    go_enter Try.func33, Try.ntmps33
    go_wp2_with fail
    go_ret
    exact ⟨by rw [hf.out]; rfl, rfl⟩
  have b2 : (c : Int) ≤ 126 := by omega
  have hf := hid (show letN c = true by rw [hL.out]; simp; omega)
  clear h33 h36 h42 h92 h94 h126
  go_enter Try.func33, Try.ntmps33
  go_wp2_with fail
  go_ret
  exact ⟨by rw [hf.out]; rfl, rfl⟩
set_option maxRecDepth 100000 in
set_option maxHeartbeats 4000000 in
theorem sign_any (c : Nat) (w : World) (hc : c ≤ 2147483647) : Calls Try.prog 16 #[.int .i32 (c : Int)] w fun e w' => e = .returned (.bool (signN c)) ∧ w' = w := by
  by_cases a : (65 : Int) ≤ c
  case pos =>
    by_cases b : (c : Int) ≤ 90
    case pos =>
      have hf := hid (show signN c = true by unfold signN; simp; omega)
      go_enter Try.func16, Try.ntmps16
      go_wp2_with fail
      go_ret
      exact ⟨by rw [hf.out]; rfl, rfl⟩
    have d : ¬ (c : Int) ≤ 57 := by omega
    have e : (48 : Int) ≤ c := by omega
    have hf := hid (show signN c = false by unfold signN; simp; omega)
    go_enter Try.func16, Try.ntmps16
    go_wp2_with fail
    go_ret
    exact ⟨by rw [hf.out]; rfl, rfl⟩
  by_cases b : (48 : Int) ≤ c
  case neg =>
    have hf := hid (show signN c = false by unfold signN; simp; omega)
    go_enter Try.func16, Try.ntmps16
    go_wp2_with fail
    go_ret
    exact ⟨by rw [hf.out]; rfl, rfl⟩
  by_cases d : (c : Int) ≤ 57
  case neg =>
    have hf := hid (show signN c = false by unfold signN; simp; omega)
    go_enter Try.func16, Try.ntmps16
    go_wp2_with fail
    go_ret
    exact ⟨by rw [hf.out]; rfl, rfl⟩
  have hf := hid (show signN c = true by unfold signN; simp; omega)
  go_enter Try.func16, Try.ntmps16
  go_wp2_with fail
  go_ret
  exact ⟨by rw [hf.out]; rfl, rfl⟩
set_option maxRecDepth 100000 in
set_option maxHeartbeats 4000000 in
theorem inField_any (c : Nat) (w : World) (hc : c ≤ 2147483647) : Calls Try.prog 18 #[.int .i32 (c : Int)] w fun e w' => e = .returned (.bool (fldN c)) ∧ w' = w := by
  have hf := hid (show fldN c = (letN c && decide (c ≠ 44)) from rfl)
  go_enter Try.func18, Try.ntmps18
  go_wp2_with fail
  refine (letter_any c _ hc).mono ?_
  rintro e w2 ⟨rfl, rfl⟩
  by_cases h : letN c = true
  case neg =>
    have h2 : letN c = false := by simpa using h
    rw [h2] at hf ⊢
    clear h h2
    go_wp2_with fail
    go_ret
    exact ⟨by rw [hf.out]; rfl, rfl⟩
  rw [h] at hf ⊢
  clear h
  by_cases h44 : c = 44
  case pos =>
    subst h44
    go_wp2_with fail
    go_ret
    exact ⟨by rw [hf.out]; rfl, rfl⟩
  have q : ((c : Int) != 44) = true := by simp; omega
  have hf2 := hid (show fldN c = true by rw [hf.out]; simp [h44])
  clear h44
  go_wp2_with fail
  go_ret
  exact ⟨by rw [hf2.out]; rfl, rfl⟩
set_option maxRecDepth 100000 in
set_option maxHeartbeats 4000000 in
theorem all_sign (s : ByteArray) (w : World) (hb : s.size ≤ 100000) : Calls Try.prog 17 #[.string s, .func (.func 16) #[] #[]] w fun e w' => e = .returned (.bool ((sb s).all signN)) ∧ After w w' := by
  have hsl := hid (sb_len s)
  go_enter Try.func17, Try.ntmps17
  go_wp2_with fail
  go_loopw [6] (fun _ wr => ∃ k : Nat, k ≤ s.size ∧ After w wr ∧ Iter wr w.heap.size s k ∧ Hid (((sb s).take k).all signN = true)) (fun _ wr => s.size - wr.iterPos w.heap.size)
  case atStart => exact ⟨0, by omega, biter (Below.refl _ _) (Nat.le_refl _) _ _, Iter.made w _, hid (by simp)⟩
  case round =>
    obtain ⟨k, hk, hbl, hit, hal⟩ := hrel
    have hpos := hid hit.pos
    by_cases hlt : k < s.size
    case neg =>
      have hE := hid (show (sb s).all signN = true by have h := hal.out; rwa [List.take_of_length_le (by rw [hsl.out]; omega)] at h)
      have hnx := fun ty => hit.stop (P := Try.prog) (by omega) ty
      go_wp2_with fail
      go_ret
      exact ⟨by rw [hE.out]; rfl, hbl⟩
    obtain ⟨c, hc⟩ : ∃ c, (sb s).getD k 0 = c := ⟨_, rfl⟩
    have hno := hid (fun h : signN c = false => all_no (by rw [hsl.out]; exact hlt) hc h)
    have hst := hid (fun h : signN c = true => all_step (by rw [hsl.out]; exact hlt) hc hal.out h)
    by_cases ha : c < 128
    case pos =>
      have hnx := fun ty => hit.nextA (P := Try.prog) hlt _ hc ha ty
      have hit2 := hit.seen (k + 1)
      have hbl2 := bseen hbl (Nat.le_refl _) s (k + 1)
      have hpos2 := hid hit2.pos
      clear hit hbl hc
      go_wp2_with fail
      refine (sign_any c _ (by omega)).mono ?_
      rintro e w3 ⟨rfl, rfl⟩
      by_cases hs : signN c = true
      case pos =>
        have hr := hid (hst.out hs)
        rw [hs]
        clear hno hst hs
        go_wp2_with fail
        go_roundw
        case rel => exact ⟨k + 1, by omega, hbl2, hit2, hr⟩
        case measure => rw [hpos.out, hpos2.out]; omega
      have hs2 : signN c = false := by simpa using hs
      have hr := hid (hno.out hs2)
      rw [hs2]
      clear hno hst hs hs2
      go_wp2_with fail
      go_ret
      exact ⟨by rw [hr.out]; rfl, hbl2⟩
    have hh := decode_high s k hlt (by rw [← sb_get s k hlt, hc]; omega)
    have hle := decode_le s k
    have hnx := fun ty => hit.next (P := Try.prog) hlt ty
    have hr := hid (hno.out (sign_high (by omega)))
    obtain ⟨p2, hp2⟩ : ∃ p2, k + (Utf8.decode s k).2 = p2 := ⟨_, rfl⟩
    have h128 := hh.1
    have hit2 := hit.seen p2
    have hbl2 := bseen hbl (Nat.le_refl _) s p2
    obtain ⟨r, hr2⟩ : ∃ r, (Utf8.decode s k).1 = r := ⟨_, rfl⟩
    rw [hr2] at h128 hle
    rw [hp2, hr2] at hnx
    have hf := sign_high (c := r) (by omega)
    clear hh hp2 hr2 hit hbl hno hst hc
    go_wp2_with fail
    refine (sign_any r _ (by omega)).mono ?_
    rintro e w3 ⟨rfl, rfl⟩
    rw [hf]
    clear hf
    go_wp2_with fail
    go_ret
    exact ⟨by rw [hr.out]; rfl, hbl2⟩
set_option maxRecDepth 100000 in
set_option maxHeartbeats 4000000 in
theorem all_letter (s : ByteArray) (w : World) (hb : s.size ≤ 100000) : Calls Try.prog 17 #[.string s, .func (.func 33) #[] #[]] w fun e w' => e = .returned (.bool ((sb s).all letN)) ∧ After w w' := by
  have hsl := hid (sb_len s)
  go_enter Try.func17, Try.ntmps17
  go_wp2_with fail
  go_loopw [6] (fun _ wr => ∃ k : Nat, k ≤ s.size ∧ After w wr ∧ Iter wr w.heap.size s k ∧ Hid (((sb s).take k).all letN = true)) (fun _ wr => s.size - wr.iterPos w.heap.size)
  case atStart => exact ⟨0, by omega, biter (Below.refl _ _) (Nat.le_refl _) _ _, Iter.made w _, hid (by simp)⟩
  case round =>
    obtain ⟨k, hk, hbl, hit, hal⟩ := hrel
    have hpos := hid hit.pos
    by_cases hlt : k < s.size
    case neg =>
      have hE := hid (show (sb s).all letN = true by have h := hal.out; rwa [List.take_of_length_le (by rw [hsl.out]; omega)] at h)
      have hnx := fun ty => hit.stop (P := Try.prog) (by omega) ty
      go_wp2_with fail
      go_ret
      exact ⟨by rw [hE.out]; rfl, hbl⟩
    obtain ⟨c, hc⟩ : ∃ c, (sb s).getD k 0 = c := ⟨_, rfl⟩
    have hno := hid (fun h : letN c = false => all_no (by rw [hsl.out]; exact hlt) hc h)
    have hst := hid (fun h : letN c = true => all_step (by rw [hsl.out]; exact hlt) hc hal.out h)
    by_cases ha : c < 128
    case pos =>
      have hnx := fun ty => hit.nextA (P := Try.prog) hlt _ hc ha ty
      have hit2 := hit.seen (k + 1)
      have hbl2 := bseen hbl (Nat.le_refl _) s (k + 1)
      have hpos2 := hid hit2.pos
      clear hit hbl hc
      go_wp2_with fail
      refine (letter_any c _ (by omega)).mono ?_
      rintro e w3 ⟨rfl, rfl⟩
      by_cases hs : letN c = true
      case pos =>
        have hr := hid (hst.out hs)
        rw [hs]
        clear hno hst hs
        go_wp2_with fail
        go_roundw
        case rel => exact ⟨k + 1, by omega, hbl2, hit2, hr⟩
        case measure => rw [hpos.out, hpos2.out]; omega
      have hs2 : letN c = false := by simpa using hs
      have hr := hid (hno.out hs2)
      rw [hs2]
      clear hno hst hs hs2
      go_wp2_with fail
      go_ret
      exact ⟨by rw [hr.out]; rfl, hbl2⟩
    have hh := decode_high s k hlt (by rw [← sb_get s k hlt, hc]; omega)
    have hle := decode_le s k
    have hnx := fun ty => hit.next (P := Try.prog) hlt ty
    have hr := hid (hno.out (let_high (by omega)))
    obtain ⟨p2, hp2⟩ : ∃ p2, k + (Utf8.decode s k).2 = p2 := ⟨_, rfl⟩
    have h128 := hh.1
    have hit2 := hit.seen p2
    have hbl2 := bseen hbl (Nat.le_refl _) s p2
    obtain ⟨r, hr2⟩ : ∃ r, (Utf8.decode s k).1 = r := ⟨_, rfl⟩
    rw [hr2] at h128 hle
    rw [hp2, hr2] at hnx
    have hf := let_high (c := r) (by omega)
    clear hh hp2 hr2 hit hbl hno hst hc
    go_wp2_with fail
    refine (letter_any r _ (by omega)).mono ?_
    rintro e w3 ⟨rfl, rfl⟩
    rw [hf]
    clear hf
    go_wp2_with fail
    go_ret
    exact ⟨by rw [hr.out]; rfl, hbl2⟩
set_option maxRecDepth 100000 in
set_option maxHeartbeats 4000000 in
theorem all_inField (s : ByteArray) (w : World) (hb : s.size ≤ 100000) : Calls Try.prog 17 #[.string s, .func (.func 18) #[] #[]] w fun e w' => e = .returned (.bool ((sb s).all fldN)) ∧ After w w' := by
  have hsl := hid (sb_len s)
  go_enter Try.func17, Try.ntmps17
  go_wp2_with fail
  go_loopw [6] (fun _ wr => ∃ k : Nat, k ≤ s.size ∧ After w wr ∧ Iter wr w.heap.size s k ∧ Hid (((sb s).take k).all fldN = true)) (fun _ wr => s.size - wr.iterPos w.heap.size)
  case atStart => exact ⟨0, by omega, biter (Below.refl _ _) (Nat.le_refl _) _ _, Iter.made w _, hid (by simp)⟩
  case round =>
    obtain ⟨k, hk, hbl, hit, hal⟩ := hrel
    have hpos := hid hit.pos
    by_cases hlt : k < s.size
    case neg =>
      have hE := hid (show (sb s).all fldN = true by have h := hal.out; rwa [List.take_of_length_le (by rw [hsl.out]; omega)] at h)
      have hnx := fun ty => hit.stop (P := Try.prog) (by omega) ty
      go_wp2_with fail
      go_ret
      exact ⟨by rw [hE.out]; rfl, hbl⟩
    obtain ⟨c, hc⟩ : ∃ c, (sb s).getD k 0 = c := ⟨_, rfl⟩
    have hno := hid (fun h : fldN c = false => all_no (by rw [hsl.out]; exact hlt) hc h)
    have hst := hid (fun h : fldN c = true => all_step (by rw [hsl.out]; exact hlt) hc hal.out h)
    by_cases ha : c < 128
    case pos =>
      have hnx := fun ty => hit.nextA (P := Try.prog) hlt _ hc ha ty
      have hit2 := hit.seen (k + 1)
      have hbl2 := bseen hbl (Nat.le_refl _) s (k + 1)
      have hpos2 := hid hit2.pos
      clear hit hbl hc
      go_wp2_with fail
      refine (inField_any c _ (by omega)).mono ?_
      rintro e w3 ⟨rfl, rfl⟩
      by_cases hs : fldN c = true
      case pos =>
        have hr := hid (hst.out hs)
        rw [hs]
        clear hno hst hs
        go_wp2_with fail
        go_roundw
        case rel => exact ⟨k + 1, by omega, hbl2, hit2, hr⟩
        case measure => rw [hpos.out, hpos2.out]; omega
      have hs2 : fldN c = false := by simpa using hs
      have hr := hid (hno.out hs2)
      rw [hs2]
      clear hno hst hs hs2
      go_wp2_with fail
      go_ret
      exact ⟨by rw [hr.out]; rfl, hbl2⟩
    have hh := decode_high s k hlt (by rw [← sb_get s k hlt, hc]; omega)
    have hle := decode_le s k
    have hnx := fun ty => hit.next (P := Try.prog) hlt ty
    have hr := hid (hno.out (fld_high (by omega)))
    obtain ⟨p2, hp2⟩ : ∃ p2, k + (Utf8.decode s k).2 = p2 := ⟨_, rfl⟩
    have h128 := hh.1
    have hit2 := hit.seen p2
    have hbl2 := bseen hbl (Nat.le_refl _) s p2
    obtain ⟨r, hr2⟩ : ∃ r, (Utf8.decode s k).1 = r := ⟨_, rfl⟩
    rw [hr2] at h128 hle
    rw [hp2, hr2] at hnx
    have hf := fld_high (c := r) (by omega)
    clear hh hp2 hr2 hit hbl hno hst hc
    go_wp2_with fail
    refine (inField_any r _ (by omega)).mono ?_
    rintro e w3 ⟨rfl, rfl⟩
    rw [hf]
    clear hf
    go_wp2_with fail
    go_ret
    exact ⟨by rw [hr.out]; rfl, hbl2⟩
set_option maxRecDepth 100000 in
set_option maxHeartbeats 4000000 in
theorem are_sign (s : ByteArray) (n : Nat) (w : World) (hb : s.size ≤ 100000) (hn : n ≤ 100000) : Calls Try.prog 15 #[.string s, .int .i64 (n : Int), .func (.func 16) #[] #[]] w fun e w' => e = .returned (.bool (signsS s n)) ∧ After w w' := by
  have hf := hid (show signsS s n = (decide (s.size = n) && (sb s).all signN) from rfl)
  obtain ⟨m, hm⟩ : ∃ m, s.size = m := ⟨_, rfl⟩
  have hm2 := hid hm
  have hms : (s.size : Int) = (m : Int) := by omega
  rw [hm] at hf
  by_cases h : m = n
  case neg =>
    have q : ((m : Int) == (n : Int)) = false := by simp; omega
    have hf2 := hid (show signsS s n = false by rw [hf.out]; simp [h])
    clear hf h hm
    go_enter Try.func15, Try.ntmps15
    go_wp2_with fail
    go_ret
    exact ⟨by rw [hf2.out]; rfl, Below.refl _ _⟩
  subst h
  have hf2 := hid (show signsS s m = (sb s).all signN by rw [hf.out]; simp)
  clear hf
  rw [hm] at hb
  go_enter Try.func15, Try.ntmps15
  go_wp2_with fail
  refine (all_sign s _ (by omega)).mono ?_
  rintro e w2 ⟨rfl, hA⟩
  go_wp2_with fail
  go_ret
  exact ⟨by rw [hf2.out]; rfl, hA⟩
set_option maxRecDepth 100000 in
set_option maxHeartbeats 4000000 in
theorem ended_any (s : ByteArray) (w : World) (hb : s.size ≤ 100000) : Calls Try.prog 38 #[.string s] w fun e w' => e = .returned (.int .i64 (endE (sb s))) ∧ w' = w := by
  by_cases h2 : s.size < 2
  case pos =>
    have hE := hid (show endE (sb s) = 2 by unfold endE; rw [if_pos (by rw [sb_len]; exact h2)])
    have q : (s.size : Int) < 2 := by omega
    clear h2
    go_enter Try.func38, Try.ntmps38
    go_wp2_with fail
    go_ret
    exact ⟨by rw [hE.out]; rfl, rfl⟩
  have q : ¬ (s.size : Int) < 2 := by omega
  have hsl := fun W => strto 9 Try.underlying9 s 2 (by omega) .i64 2 rfl W
  have hx : sb (s.extract 0 2) = (sb s).take 2 := by rw [sb_extract]; rfl
  have hE2 := hid (show endE (sb s) = if (sb s).take 2 = [13, 10] then 0 else 3 by unfold endE; rw [if_neg (by rw [sb_len]; exact h2)])
  have hs := str_eq (a := s.extract 0 2) (b := ⟨#[13, 10]⟩)
  rw [hx, sb_lit2] at hs
  generalize s.extract 0 2 = X at *
  clear hx h2
  by_cases h : (sb s).take 2 = [13, 10]
  case pos =>
    have hE := hid (show endE (sb s) = 0 by rw [hE2.out, if_pos h])
    rw [toL ⟨#[13, 10]⟩] at hs
    have hs2 : (X.toList == [13, 10]) = true := by rw [show ([13, 10] : List UInt8) = (⟨#[13, 10]⟩ : ByteArray).data.toList from rfl, hs, h]; rfl
    clear hs h hE2
    go_enter Try.func38, Try.ntmps38
    go_wp2_with fail
    go_ret
    exact ⟨by rw [hE.out]; rfl, rfl⟩
  have hE := hid (show endE (sb s) = 3 by rw [hE2.out, if_neg h])
  rw [toL ⟨#[13, 10]⟩] at hs
  have hs2 : (X.toList == [13, 10]) = false := by rw [show ([13, 10] : List UInt8) = (⟨#[13, 10]⟩ : ByteArray).data.toList from rfl, hs]; exact decide_eq_false h
  clear hs h hE2
  go_enter Try.func38, Try.ntmps38
  go_wp2_with fail
  go_ret
  exact ⟨by rw [hE.out]; rfl, rfl⟩
set_option maxRecDepth 100000 in
set_option maxHeartbeats 8000000 in
theorem line_any (s : ByteArray) (w : World) (hb : s.size ≤ 100000) : Calls Try.prog 23 #[.string s] w fun e w' => e = .returned (.tuple #[.int .i64 ((lineN (sb s)).1 : Int), .int .i64 (lineN (sb s)).2]) ∧ After w w' := by
  have hl := sb_len s
  by_cases h0 : s.size = 0
  case pos =>
    have hE := hid (show lineN (sb s) = (0, 2) by unfold lineN; rw [if_pos (by omega)])
    obtain rfl : s = ⟨#[]⟩ := sb_inj (List.length_eq_zero_iff.1 (by omega))
    clear h0 hl
    go_enter Try.func23, Try.ntmps23
    go_wp2_with fail
    go_ret2
    exact ⟨by rw [hE.out]; rfl, Below.refl _ _⟩
  have hne := str_eq (a := s) (b := ⟨#[]⟩)
  rw [toL ⟨#[]⟩] at hne
  have hne2 : (s.toList == []) = false := by rw [show ([] : List UInt8) = (⟨#[]⟩ : ByteArray).data.toList from rfl, hne]; exact decide_eq_false (fun e => h0 (by rw [size_of_sb e]; rfl))
  clear hne
  have hs1 := fun W => strto 9 Try.underlying9 s 1 (by omega) .i64 1 rfl W
  obtain ⟨c0, hc0⟩ : ∃ c, (sb s).getD 0 0 = c := ⟨_, rfl⟩
  have hx : sb (s.extract 0 1) = [c0] := by
    rw [sb_extract, List.drop_zero, List.take_one, List.head?_eq_getElem?, List.getElem?_eq_getElem (by omega)]
    rw [List.getD_eq_getElem?_getD, List.getElem?_eq_getElem (by omega)] at hc0
    have hc1 : (sb s)[0] = c0 := hc0
    rw [hc1]; rfl
  have hq := str_eq (a := s.extract 0 1) (b := ⟨#[36]⟩)
  rw [hx] at hq
  generalize s.extract 0 1 = X at *
  clear hx
  by_cases h36 : c0 = 36
  case neg =>
    have hE := hid (show lineN (sb s) = (0, 3) by unfold lineN; rw [if_neg (by omega), if_neg (by omega)])
    rw [toL ⟨#[36]⟩] at hq
    have hq2 : (X.toList == [36]) = false := by rw [show ([36] : List UInt8) = (⟨#[36]⟩ : ByteArray).data.toList from rfl, hq]; exact decide_eq_false (fun e => h36 (by simpa [sb] using e))
    clear hq h0 hl h36 hc0
    go_enter Try.func23, Try.ntmps23
    go_wp2_with fail
    go_ret2
    exact ⟨by rw [hE.out]; rfl, Below.refl _ _⟩
  rw [toL ⟨#[36]⟩] at hq
  have hq2 : (X.toList == [36]) = true := by rw [show ([36] : List UInt8) = (⟨#[36]⟩ : ByteArray).data.toList from rfl, hq, h36]; rfl
  have hL := hid (show lineN (sb s) = if (lnF (sb s) 80 1).2 = 0 then ((lnF (sb s) 80 1).1, endE ((sb s).drop (lnF (sb s) 80 1).1)) else (0, (lnF (sb s) 80 1).2) by unfold lineN; rw [if_neg (by omega), if_pos (by omega)])
  obtain ⟨N, hN⟩ : ∃ N, s.size = N := ⟨_, rfl⟩
  have hNs : (s.size : Int) = (N : Int) := by omega
  have hl2 := hid (show (sb s).length = N by omega)
  have hN1 := hid (show 1 ≤ N by omega)
  have hN2 := hid hN
  have hb2 := hid hb
  clear hq h36 hc0 hl h0 hN hb
  go_enter Try.func23, Try.ntmps23
  go_wp2_with fail
  go_loopw [4] (fun ix wr => ∃ i f : Nat, ix = .int .i64 i ∧ i + f = 81 ∧ 1 ≤ i ∧ i ≤ N ∧ Hid (lnF (sb s) 80 1 = lnF (sb s) f i) ∧ After w wr) (fun ix _ => 82 - (intOf ix).toNat)
  case atStart => exact ⟨1, 80, rfl, by omega, by omega, hN1.out, hid rfl, Below.refl _ _⟩
  case round =>
    obtain ⟨i, f, rfl, hif, hi1, hiN, hln, hA⟩ := hrel
    have hAd := hid hA.drew
    by_cases h81 : i = 81
    case pos =>
      subst h81
      obtain rfl : f = 0 := by omega
      have hE := hid (show lineN (sb s) = (0, 7) by rw [hL.out, hln.out]; rfl)
      go_wp2_with fail
      go_ret2
      exact ⟨by rw [hE.out]; rfl, hA⟩
    obtain ⟨f2, rfl⟩ : ∃ f2, f = f2 + 1 := ⟨f - 1, by omega⟩
    have q81 : ((i : Int) == 81) = false := by simp; omega
    by_cases hend : i = N
    case pos =>
      subst hend
      have hE := hid (show lineN (sb s) = (0, 2) by rw [hL.out, hln.out, lnF_short (by rw [hl2.out]; omega)]; rfl)
      replace hif := hid hif
      go_wp2_with fail
      go_ret2
      exact ⟨by rw [hE.out]; rfl, hA⟩
    have qN : ((i : Int) == (N : Int)) = false := by simp; omega
    have hiN2 : i < s.size := by rw [hN2.out]; omega
    have hiN3 := hid (show i < N by omega)
    obtain ⟨c, hc⟩ : ∃ c, (sb s).getD i 0 = c := ⟨_, rfl⟩
    have hix := fun W => sidx 9 Try.underlying9 s i c hiN2 hc .i64 i rfl W
    have hc256 : c < 256 := by rw [← hc, sb_get s i hiN2]; exact UInt8.toNat_lt _
    have h13 := hid (fun h => lnF_13 (zs := sb s) (f := f2) (i := i) (by rw [hl2.out]; exact hiN3.out) hc h)
    have hmo := hid (fun h h2 => lnF_more (zs := sb s) (f := f2) (i := i) (by rw [hl2.out]; exact hiN3.out) hc h h2)
    have hfo := hid (fun h h2 h3 => lnF_form (zs := sb s) (f := f2) (i := i) (by rw [hl2.out]; exact hiN3.out) hc h h2 h3)
    have hsf := fun W => strfrom 9 Try.underlying9 s i (by omega) .i64 i rfl W
    have hsx := sb_extract s i s.size
    rw [List.take_of_length_le (by rw [List.length_drop, hl2.out, hN2.out]; exact Nat.le_refl _)] at hsx
    have hsz : (s.extract i s.size).size ≤ 100000 := by rw [size_of_sb hsx, List.length_drop, hl2.out]; have := hb2.out; have := hN2.out; omega
    have q13 : ((⟨#[13, 10]⟩ : ByteArray)[0]'(by decide)).toNat = 13 := rfl
    have hx13 := fun W => sidx 9 Try.underlying9 ⟨#[13, 10]⟩ 0 13 (by decide) rfl .i64 0 rfl W
    generalize s.extract i s.size = Y at *
    clear hc
    have hir := hid (show i + 1 + f2 = 81 by omega)
    have hi2 := hid (show i + 1 ≤ N by have := hiN3.out; omega)
    have wi : IntKind.i64.wrap ((i : Int) + 1) = (i : Int) + 1 := by rw [IntKind.wrap_i64]; omega
    have iz : (0 : Int) ≤ i := by omega
    have iN : (i : Int) < N := by have := hiN3.out; omega
    replace hsx := hid hsx
    replace hif := hid hif
    by_cases hcr : c = 13
    case pos =>
      have hE := hid (show lineN (sb s) = (i, endE ((sb s).drop i)) by rw [hL.out, hln.out, h13.out hcr]; rfl)
      have qc : ((c : Int) == 13) = true := by simp; omega
      clear h13 hmo hfo
      replace hcr := hid hcr
      go_upto_region 11 with (fail)
      refine wp_region_R (by kernel_rfl) ?_
      refine wpAnyR_take 0 rfl (by kernel_rfl) (by kernel_rfl) (by kernel_rfl) (fun _ _ _ _ h => h) ⟨_, Or.inl ⟨by rfl, fun w2 hb2 => by (go_simp; try with_reducible rfl)⟩, _, by (go_simp; try rfl), ?_⟩
      refine wpAnyR_take 1 rfl (by kernel_rfl) (by kernel_rfl) (by kernel_rfl) (fun _ _ _ _ h => h) ⟨_, Or.inl ⟨by rfl, fun w2 hb2 => by (go_simp; try with_reducible rfl)⟩, _, by (go_simp; try rfl), ?_⟩
      refine wpAnyR_take 2 rfl (by kernel_rfl) (by kernel_rfl) (by kernel_rfl) (fun _ _ _ _ h => h) ⟨_, Or.inl ⟨by rfl, fun w2 hb2 => by (go_simp; try with_reducible rfl)⟩, _, by (go_simp; try rfl), ?_⟩
      refine wpAnyR_take 3 rfl (by kernel_rfl) (by kernel_rfl) (by kernel_rfl) (fun _ _ _ _ h => h) ⟨_, Or.inl ⟨by rfl, fun w2 hb2 => by (go_simp; try with_reducible rfl)⟩, _, by (go_simp; try rfl), ?_⟩
      refine wpAnyR_take 4 rfl (by kernel_rfl) (by kernel_rfl) (by kernel_rfl) (fun _ _ _ _ h => h) ⟨_, Or.inl ⟨by rfl, fun w2 hb2 => by (go_simp; try with_reducible rfl)⟩, _, by (go_simp; try rfl), ?_⟩
      refine wpAnyR_take 5 rfl (by kernel_rfl) (by kernel_rfl) (by kernel_rfl) (fun _ _ _ _ h => h) ⟨_, Or.inl ⟨by rfl, fun w2 hb2 => by (go_simp; try with_reducible rfl)⟩, _, by (go_simp; try rfl), ?_⟩
      refine wpAnyR_done (by kernel_rfl) ?_ _
      go_wp2_with fail
      refine (ended_any Y _ hsz).mono ?_
      rintro e w2 ⟨rfl, rfl⟩
      rw [hsx.out]
      go_wp2_with fail
      go_ret2
      exact ⟨by rw [hE.out]; rfl, hAd.out⟩
    have qc : ((c : Int) == 13) = false := by simp; omega
    by_cases h42 : c = 42
    case pos =>
      have qd : ((c : Int) != 42) = false := by simp; omega
      have hln2 := hid (show lnF (sb s) 80 1 = lnF (sb s) f2 (i + 1) by rw [hln.out]; exact hmo.out hcr (.inl h42))
      clear h13 hmo hfo
      replace hcr := hid hcr
      replace h42 := hid h42
      go_upto_region 11 with (fail)
      refine wp_region_R (by kernel_rfl) ?_
      refine wpAnyR_take 0 rfl (by kernel_rfl) (by kernel_rfl) (by kernel_rfl) (fun _ _ _ _ h => h) ⟨_, Or.inl ⟨by rfl, fun w2 hb2 => by (go_simp; try with_reducible rfl)⟩, _, by (go_simp; try rfl), ?_⟩
      refine wpAnyR_take 1 rfl (by kernel_rfl) (by kernel_rfl) (by kernel_rfl) (fun _ _ _ _ h => h) ⟨_, Or.inl ⟨by rfl, fun w2 hb2 => by (go_simp; try with_reducible rfl)⟩, _, by (go_simp; try rfl), ?_⟩
      refine wpAnyR_take 2 rfl (by kernel_rfl) (by kernel_rfl) (by kernel_rfl) (fun _ _ _ _ h => h) ⟨_, Or.inl ⟨by rfl, fun w2 hb2 => by (go_simp; try with_reducible rfl)⟩, _, by (go_simp; try rfl), ?_⟩
      refine wpAnyR_take 3 rfl (by kernel_rfl) (by kernel_rfl) (by kernel_rfl) (fun _ _ _ _ h => h) ⟨_, Or.inl ⟨by rfl, fun w2 hb2 => by (go_simp; try with_reducible rfl)⟩, _, by (go_simp; try rfl), ?_⟩
      refine wpAnyR_take 4 rfl (by kernel_rfl) (by kernel_rfl) (by kernel_rfl) (fun _ _ _ _ h => h) ⟨_, Or.inl ⟨by rfl, fun w2 hb2 => by (go_simp; try with_reducible rfl)⟩, _, by (go_simp; try rfl), ?_⟩
      refine wpAnyR_take 5 rfl (by kernel_rfl) (by kernel_rfl) (by kernel_rfl) (fun _ _ _ _ h => h) ⟨_, Or.inl ⟨by rfl, fun w2 hb2 => by (go_simp; try with_reducible rfl)⟩, _, by (go_simp; try rfl), ?_⟩
      refine wpAnyR_done (by kernel_rfl) ?_ _
      go_wp2_with fail
      go_roundw
      case rel => exact ⟨i + 1, f2, by simp, hir.out, by omega, hi2.out, hln2, hAd.out⟩
      case measure => simp [intOf]; have := hir.out; omega
    have qd : ((c : Int) != 42) = true := by simp; omega
    have wc : IntKind.i32.wrap (c : Int) = (c : Int) := by rw [IntKind.wrap_i32]; omega
    by_cases hlt : letN c = true
    case pos =>
      have hln2 := hid (show lnF (sb s) 80 1 = lnF (sb s) f2 (i + 1) by rw [hln.out]; exact hmo.out hcr (.inr hlt))
      clear h13 hmo hfo
      replace hcr := hid hcr
      replace h42 := hid h42
      go_upto_region 11 with (fail)
      refine wp_region_R (by kernel_rfl) ?_
      refine wpAnyR_take 0 rfl (by kernel_rfl) (by kernel_rfl) (by kernel_rfl) (fun _ _ _ _ h => h) ⟨_, Or.inl ⟨by rfl, fun w2 hb2 => by (go_simp; try with_reducible rfl)⟩, _, by (go_simp; try rfl), ?_⟩
      refine wpAnyR_take 1 rfl (by kernel_rfl) (by kernel_rfl) (by kernel_rfl) (fun _ _ _ _ h => h) ⟨_, Or.inl ⟨by rfl, fun w2 hb2 => by (go_simp; try with_reducible rfl)⟩, _, by (go_simp; try rfl), ?_⟩
      refine wpAnyR_take 2 rfl (by kernel_rfl) (by kernel_rfl) (by kernel_rfl) (fun _ _ _ _ h => h) ⟨_, Or.inl ⟨by rfl, fun w2 hb2 => by (go_simp; try with_reducible rfl)⟩, _, by (go_simp; try rfl), ?_⟩
      refine wpAnyR_take 3 rfl (by kernel_rfl) (by kernel_rfl) (by kernel_rfl) (fun _ _ _ _ h => h) ⟨_, Or.inl ⟨by rfl, fun w2 hb2 => by (go_simp; try with_reducible rfl)⟩, _, by (go_simp; try rfl), ?_⟩
      refine wpAnyR_take 4 rfl (by kernel_rfl) (by kernel_rfl) (by kernel_rfl) (fun _ _ _ _ h => h) ⟨_, Or.inl ⟨by rfl, fun w2 hb2 => by (go_simp; try with_reducible rfl)⟩, _, by (go_simp; try rfl), ?_⟩
      refine wpAnyR_take 5 rfl (by kernel_rfl) (by kernel_rfl) (by kernel_rfl) (fun _ _ _ _ h => h) ⟨_, Or.inl ⟨by rfl, fun w2 hb2 => by (go_simp; try with_reducible rfl)⟩, _, by (go_simp; try rfl), ?_⟩
      refine wpAnyR_done (by kernel_rfl) ?_ _
      go_wp2_with fail
      refine (letter_any c _ (by omega)).mono ?_
      rintro e w2 ⟨rfl, rfl⟩
      rw [hlt]
      clear hlt
      go_wp2_with fail
      go_roundw
      case rel => exact ⟨i + 1, f2, by simp, hir.out, by omega, hi2.out, hln2, hAd.out⟩
      case measure => simp [intOf]; have := hir.out; omega
    have hlf : letN c = false := by simpa using hlt
    have hE := hid (show lineN (sb s) = (0, 3) by rw [hL.out, hln.out, hfo.out hcr h42 hlf]; rfl)
    clear h13 hmo hfo
    replace hcr := hid hcr
    replace h42 := hid h42
    go_upto_region 11 with (fail)
    refine wp_region_R (by kernel_rfl) ?_
    refine wpAnyR_take 0 rfl (by kernel_rfl) (by kernel_rfl) (by kernel_rfl) (fun _ _ _ _ h => h) ⟨_, Or.inl ⟨by rfl, fun w2 hb2 => by (go_simp; try with_reducible rfl)⟩, _, by (go_simp; try rfl), ?_⟩
    refine wpAnyR_take 1 rfl (by kernel_rfl) (by kernel_rfl) (by kernel_rfl) (fun _ _ _ _ h => h) ⟨_, Or.inl ⟨by rfl, fun w2 hb2 => by (go_simp; try with_reducible rfl)⟩, _, by (go_simp; try rfl), ?_⟩
    refine wpAnyR_take 2 rfl (by kernel_rfl) (by kernel_rfl) (by kernel_rfl) (fun _ _ _ _ h => h) ⟨_, Or.inl ⟨by rfl, fun w2 hb2 => by (go_simp; try with_reducible rfl)⟩, _, by (go_simp; try rfl), ?_⟩
    refine wpAnyR_take 3 rfl (by kernel_rfl) (by kernel_rfl) (by kernel_rfl) (fun _ _ _ _ h => h) ⟨_, Or.inl ⟨by rfl, fun w2 hb2 => by (go_simp; try with_reducible rfl)⟩, _, by (go_simp; try rfl), ?_⟩
    refine wpAnyR_take 4 rfl (by kernel_rfl) (by kernel_rfl) (by kernel_rfl) (fun _ _ _ _ h => h) ⟨_, Or.inl ⟨by rfl, fun w2 hb2 => by (go_simp; try with_reducible rfl)⟩, _, by (go_simp; try rfl), ?_⟩
    refine wpAnyR_take 5 rfl (by kernel_rfl) (by kernel_rfl) (by kernel_rfl) (fun _ _ _ _ h => h) ⟨_, Or.inl ⟨by rfl, fun w2 hb2 => by (go_simp; try with_reducible rfl)⟩, _, by (go_simp; try rfl), ?_⟩
    refine wpAnyR_done (by kernel_rfl) ?_ _
    go_wp2_with fail
    refine (letter_any c _ (by omega)).mono ?_
    rintro e w2 ⟨rfl, rfl⟩
    rw [hlf]
    clear hlt hlf
    go_wp2_with fail
    go_ret2
    exact ⟨by rw [hE.out]; rfl, hAd.out⟩

end Go.Proofs.Ytookhpmpngacjaa
