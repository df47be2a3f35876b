/- Package parity and its reference: texts. -/
import Derived.Test.YtookhpmpngacjaaPar
namespace Go.Proofs.Ytookhpmpngacjaa
open Go.ChangeShapes Go.WideShapes Go.ChangeAt Go.RowKit
set_option linter.unusedVariables false

set_option maxRecDepth 100000 in
theorem refDigit_any (c : Nat) (w : World) (hc : c ≤ 255) :
    Calls Try.prog 40 #[.int .u8 c] w fun e w' => e = .returned (.int .i64 (dgI c)) ∧ w' = w := by
  go_enter Try.func40, Try.ntmps40
  by_cases h1 : (97 : Int) ≤ c
  · by_cases h2 : (c : Int) ≤ 102
    · go_wp2_with fail
      go_ret
      refine ⟨ret_int ?_, rfl⟩
      have hv : dgN c = c - 87 := by unfold dgN; rw [if_neg (by omega), if_neg (by omega), if_pos (by omega)]
      unfold dgI; rw [hv, if_neg (by omega)]
      omega
    · have HU := hid (show upc c = c by unfold upc; rw [if_neg (by omega)])
      go_wp2_with fail
      go_loopw [3] (fun x wr => ∃ k : Nat, k ≤ 16 ∧ wr = w ∧ x = .int .i64 k ∧ Hid (∀ j, j < k → c ≠ dj j)) (fun x _ => 16 - (intOf x).toNat)
      case atStart => exact ⟨0, by omega, rfl, rfl, fun j hj => absurd hj (by omega)⟩
      case round =>
        obtain ⟨k, hk, rfl, rfl, hno⟩ := hrel
        by_cases hlt : (k : Int) < 16
        · have hlt2 : k < 16 := by omega
          have hd : (sb ⟨#[48, 49, 50, 51, 52, 53, 54, 55, 56, 57, 65, 66, 67, 68, 69, 70]⟩).getD k 0 = ((⟨#[48, 49, 50, 51, 52, 53, 54, 55, 56, 57, 65, 66, 67, 68, 69, 70]⟩ : ByteArray)[k]'hlt2).toNat := sb_get (⟨#[48, 49, 50, 51, 52, 53, 54, 55, 56, 57, 65, 66, 67, 68, 69, 70]⟩ : ByteArray) k (show k < (⟨#[48, 49, 50, 51, 52, 53, 54, 55, 56, 57, 65, 66, 67, 68, 69, 70]⟩ : ByteArray).size from hlt2)
          rw [digs_at k hlt2] at hd
          have hD := hid hd
          clear hd
          by_cases hq : (((⟨#[48, 49, 50, 51, 52, 53, 54, 55, 56, 57, 65, 66, 67, 68, 69, 70]⟩ : ByteArray)[k]'hlt2).toNat : Int) = c
          · have hv : dgI c = k := by
              have h := dg_hit c k hlt2 (by rw [HU.out, hD.out]; omega)
              unfold dgI; rw [h, if_neg (by omega)]
            have hv := hid hv
            go_wp2_with fail
            go_ret
            first | exact ⟨ret_int hv.out.symm, rfl⟩ | exact ⟨rfl, rfl⟩
          · go_wp2_with fail
            go_roundw
            case rel =>
              refine ⟨k + 1, by omega, trivial, by simp, fun j hj => ?_⟩
              by_cases hjk : j = k
              · subst hjk; rw [hD.out]; intro e; omega
              · exact hno.out j (by omega)
            case measure => simp [intOf]; omega
        · have hv : dgI c = -1 := by
            have h := dg_miss c (fun i hi => by rw [HU.out]; exact hno.out i (by omega))
            unfold dgI; rw [h, if_pos rfl]
          have hv := hid hv
          go_wp2_with fail
          go_ret
          first | exact ⟨ret_int hv.out.symm, rfl⟩ | exact ⟨rfl, rfl⟩
  · have HU := hid (show upc c = c by unfold upc; rw [if_neg (by omega)])
    go_wp2_with fail
    go_loopw [3] (fun x wr => ∃ k : Nat, k ≤ 16 ∧ wr = w ∧ x = .int .i64 k ∧ Hid (∀ j, j < k → c ≠ dj j)) (fun x _ => 16 - (intOf x).toNat)
    case atStart => exact ⟨0, by omega, rfl, rfl, fun j hj => absurd hj (by omega)⟩
    case round =>
      obtain ⟨k, hk, rfl, rfl, hno⟩ := hrel
      by_cases hlt : (k : Int) < 16
      · have hlt2 : k < 16 := by omega
        have hd : (sb ⟨#[48, 49, 50, 51, 52, 53, 54, 55, 56, 57, 65, 66, 67, 68, 69, 70]⟩).getD k 0 = ((⟨#[48, 49, 50, 51, 52, 53, 54, 55, 56, 57, 65, 66, 67, 68, 69, 70]⟩ : ByteArray)[k]'hlt2).toNat := sb_get (⟨#[48, 49, 50, 51, 52, 53, 54, 55, 56, 57, 65, 66, 67, 68, 69, 70]⟩ : ByteArray) k (show k < (⟨#[48, 49, 50, 51, 52, 53, 54, 55, 56, 57, 65, 66, 67, 68, 69, 70]⟩ : ByteArray).size from hlt2)
        rw [digs_at k hlt2] at hd
        have hD := hid hd
        clear hd
        by_cases hq : (((⟨#[48, 49, 50, 51, 52, 53, 54, 55, 56, 57, 65, 66, 67, 68, 69, 70]⟩ : ByteArray)[k]'hlt2).toNat : Int) = c
        · have hv : dgI c = k := by
            have h := dg_hit c k hlt2 (by rw [HU.out, hD.out]; omega)
            unfold dgI; rw [h, if_neg (by omega)]
          have hv := hid hv
          go_wp2_with fail
          go_ret
          first | exact ⟨ret_int hv.out.symm, rfl⟩ | exact ⟨rfl, rfl⟩
        · go_wp2_with fail
          go_roundw
          case rel =>
            refine ⟨k + 1, by omega, trivial, by simp, fun j hj => ?_⟩
            by_cases hjk : j = k
            · subst hjk; rw [hD.out]; intro e; omega
            · exact hno.out j (by omega)
          case measure => simp [intOf]; omega
      · have hv : dgI c = -1 := by
          have h := dg_miss c (fun i hi => by rw [HU.out]; exact hno.out i (by omega))
          unfold dgI; rw [h, if_pos rfl]
        have hv := hid hv
        go_wp2_with fail
        go_ret
        first | exact ⟨ret_int hv.out.symm, rfl⟩ | exact ⟨rfl, rfl⟩

set_option maxRecDepth 100000 in
theorem parHex_any (b : Nat) (w : World) (hb : b ≤ 255) :
    Calls Try.prog 34 #[.int .u8 b] w fun e w' => e = .returned (.string (hexS b)) ∧ ∃ m, w' = w.drewN m := by
  have HE : hexS b = hx1 (b / 16) ++ hx1 (b % 16) := rfl
  generalize hexS b = R at *
  go_enter Try.func34, Try.ntmps34
  obtain ⟨hi, lo, hb2, hhi, hlo⟩ : ∃ hi lo : Nat, b = 16 * hi + lo ∧ hi < 16 ∧ lo < 16 := ⟨b / 16, b % 16, by omega, by omega, by omega⟩
  rw [show b / 16 = hi by omega, show b % 16 = lo by omega] at HE
  have HR := hid HE
  clear HE
  have HA := u8_and15 (x := (b : Int)) (by omega) (by omega)
  rw [show (b : Int) % 16 = lo by omega] at HA
  have hw1 : IntKind.u8.wrap ((hi : Int) + 1) = hi + 1 := by rw [IntKind.wrap_u8]; omega
  have hw2 : IntKind.u8.wrap ((lo : Int) + 1) = lo + 1 := by rw [IntKind.wrap_u8]; omega
  have HH : (b : Int) / 16 = hi := by omega
  have w1 : ((hi : Int) + 1) % 256 = hi + 1 := by omega
  have w2 : ((lo : Int) + 1) % 256 = lo + 1 := by omega
  have s1 := fun w => strslice (P := Try.prog) 9 Try.underlying9 ⟨#[48, 49, 50, 51, 52, 53, 54, 55, 56, 57, 65, 66, 67, 68, 69, 70]⟩ hi (hi + 1) (by omega) (by show hi + 1 ≤ 16; omega) .u8 .u8 hi (hi + 1) rfl (by omega) w
  have s2 := fun w => strslice (P := Try.prog) 9 Try.underlying9 ⟨#[48, 49, 50, 51, 52, 53, 54, 55, 56, 57, 65, 66, 67, 68, 69, 70]⟩ lo (lo + 1) (by omega) (by show lo + 1 ≤ 16; omega) .u8 .u8 lo (lo + 1) rfl (by omega) w
  rw [hx1_at hi hhi] at s1
  rw [hx1_at lo hlo] at s2
  have hsz : ¬ (9223372036854775807 < (hx1 hi).size + (hx1 lo).size) := by show ¬ (_ < 1 + 1); omega
  clear hb2
  go_wp2_with fail
  go_quiet (fail)
  go_wp2_with fail
  go_ret
  exact ⟨by rw [HR.out]; rfl, _, rfl⟩

set_option maxRecDepth 100000 in
theorem refHex_any (b : Nat) (w : World) (hb : b ≤ 255) :
    Calls Try.prog 37 #[.int .u8 b] w fun e w' => e = .returned (.string (hexS b)) ∧ ∃ m, w' = w.drewN m := by
  have HE : hexS b = hx1 (b / 16) ++ hx1 (b % 16) := rfl
  generalize hexS b = R at *
  go_enter Try.func37, Try.ntmps37
  obtain ⟨hi, lo, hb2, hhi, hlo⟩ : ∃ hi lo : Nat, b = 16 * hi + lo ∧ hi < 16 ∧ lo < 16 := ⟨b / 16, b % 16, by omega, by omega, by omega⟩
  rw [show b / 16 = hi by omega, show b % 16 = lo by omega] at HE
  have HR := hid HE
  clear HE
  have HA : (b : Int) % 16 = lo := by omega
  have hw1 : IntKind.u8.wrap ((hi : Int) + 1) = hi + 1 := by rw [IntKind.wrap_u8]; omega
  have hw2 : IntKind.u8.wrap ((lo : Int) + 1) = lo + 1 := by rw [IntKind.wrap_u8]; omega
  have HH : (b : Int) / 16 = hi := by omega
  have w1 : ((hi : Int) + 1) % 256 = hi + 1 := by omega
  have w2 : ((lo : Int) + 1) % 256 = lo + 1 := by omega
  have s1 := fun w => strslice (P := Try.prog) 9 Try.underlying9 ⟨#[48, 49, 50, 51, 52, 53, 54, 55, 56, 57, 65, 66, 67, 68, 69, 70]⟩ hi (hi + 1) (by omega) (by show hi + 1 ≤ 16; omega) .u8 .u8 hi (hi + 1) rfl (by omega) w
  have s2 := fun w => strslice (P := Try.prog) 9 Try.underlying9 ⟨#[48, 49, 50, 51, 52, 53, 54, 55, 56, 57, 65, 66, 67, 68, 69, 70]⟩ lo (lo + 1) (by omega) (by show lo + 1 ≤ 16; omega) .u8 .u8 lo (lo + 1) rfl (by omega) w
  rw [hx1_at hi hhi] at s1
  rw [hx1_at lo hlo] at s2
  have hsz : ¬ (9223372036854775807 < (hx1 hi).size + (hx1 lo).size) := by show ¬ (_ < 1 + 1); omega
  clear hb2
  go_wp2_with fail
  go_quiet (fail)
  go_wp2_with fail
  go_ret
  exact ⟨by rw [HR.out]; rfl, _, rfl⟩

set_option maxRecDepth 100000 in
theorem parSeal_any (s : ByteArray) (w : World) (hb : s.size ≤ 100000) :
    Calls Try.prog 19 #[.string s] w fun e w' => e = .returned (.string (sealT s)) ∧ Below w.heap.size w w' := by
  have hx := xorF_lt (sb s) 0 (by omega) (sb_lt s)
  have hsz : ¬ (9223372036854775807 < s.size + 1 + (hexS (xorF 0 (sb s))).size) := by
    show ¬ (_ < s.size + 1 + ((hx1 _) ++ (hx1 _)).size)
    rw [ByteArray.size_append]; show ¬ (_ < s.size + 1 + (1 + 1)); omega
  have HS := hid (show s ++ ⟨#[42]⟩ ++ hexS (xorF 0 (sb s)) = sealT s from rfl)
  go_enter Try.func19, Try.ntmps19
  go_wp2_with fail
  refine (parOf_any s _ (by omega)).mono ?_
  rintro e w2 ⟨rfl, rfl⟩
  go_wp2_with fail
  refine (parHex_any (xorF 0 (sb s)) _ (by omega)).mono ?_
  rintro e w3 ⟨rfl, m, rfl⟩
  go_wp2_with fail
  go_ret
  exact ⟨by rw [← HS.out]; rfl, bdrewN (Below.refl _ _) _⟩

set_option maxRecDepth 100000 in
theorem refSeal_any (s : ByteArray) (w : World) (hb : s.size ≤ 100000) :
    Calls Try.prog 22 #[.string s] w fun e w' => e = .returned (.string (sealT s)) ∧ Below w.heap.size w w' := by
  have hx := xorF_lt (sb s) 0 (by omega) (sb_lt s)
  have hsz : ¬ (9223372036854775807 < s.size + 1 + (hexS (xorF 0 (sb s))).size) := by
    show ¬ (_ < s.size + 1 + ((hx1 _) ++ (hx1 _)).size)
    rw [ByteArray.size_append]; show ¬ (_ < s.size + 1 + (1 + 1)); omega
  have HS := hid (show s ++ ⟨#[42]⟩ ++ hexS (xorF 0 (sb s)) = sealT s from rfl)
  go_enter Try.func22, Try.ntmps22
  go_wp2_with fail
  refine (refOf_any s _ (by omega)).mono ?_
  rintro e w2 ⟨rfl, rfl⟩
  go_wp2_with fail
  refine (refHex_any (xorF 0 (sb s)) _ (by omega)).mono ?_
  rintro e w3 ⟨rfl, m, rfl⟩
  go_wp2_with fail
  go_ret
  exact ⟨by rw [← HS.out]; rfl, bdrewN (Below.refl _ _) _⟩

set_option maxRecDepth 100000 in
theorem parUnhex_any (s : ByteArray) (w : World) (hb : s.size ≤ 100000) :
    Calls Try.prog 39 #[.string s] w fun e w' => e = .returned (.tuple #[.int .u8 (unhV s), .bool (unhOk s)]) ∧ Below w.heap.size w w' := by
  by_cases h2 : s.size = 2
  case neg =>
    have hN := hid (unhV_no (s := s) (fun h => h2 h.1))
    have h3 : ¬ ((s.size : Int) = 2) := by omega
    go_enter Try.func39, Try.ntmps39
    go_wp2_with fail
    go_ret2
    rw [hN.out.1, hN.out.2]
    exact ⟨rfl, Below.refl _ _⟩
  have hS := hid h2
  have hsl := sb_lt s
  have hge : 2 ≤ s.size := by omega
  have hle : s.size ≤ 2 := by omega
  clear hb
  go_enter Try.func39, Try.ntmps39
  go_wp2_with fail
  clear h2
  go_loopw [4] (fun v wr => ∃ k m : Nat, k ≤ 2 ∧ Below w.heap.size w wr ∧ Iter wr w.heap.size s k ∧ v = .int .u8 m ∧ stP s k m) (fun _ wr => 2 - wr.iterPos w.heap.size)
  case atStart => exact ⟨0, 0, by omega, biter (Below.refl _ _) (Nat.le_refl _) _ _, Iter.made w _, rfl, .inl ⟨rfl, rfl⟩⟩
  case round =>
    obtain ⟨k, m, hk, hbl, hit, rfl, hst⟩ := hrel
    have hpos := hid hit.pos
    by_cases hlt : k < 2
    · have hm := st_le hst hlt
      have hstep := hid (fun h => st_step hst hlt hS.out h)
      have hno := hid (fun h => unhV_no (s := s) (st_no (k := k) (m := m) hlt h))
      have hc256 : (sb s).getD k 0 < 256 := by
        rw [sb_get s k (by omega)]; exact UInt8.toNat_lt _
      obtain ⟨r, p2, hr, hnx, hdr⟩ : ∃ r p2 : Nat, r ≤ 2147483647 ∧ (∀ ty, (Instr.next (.pointer (some ⟨w.heap.size, 0, none⟩)) true ty).run Try.prog wr = .ok (.tuple #[.bool true, .int .i64 k, .int .i32 r]) (itAt wr w.heap.size s p2)) ∧ dgN r = dgN ((sb s).getD k 0) ∧ (dgN r < 16 → p2 = k + 1) := by
        by_cases ha : (sb s).getD k 0 < 128
        · exact ⟨(sb s).getD k 0, k + 1, by omega, fun ty => hit.nextA (by omega) _ rfl ha ty, rfl, fun _ => rfl⟩
        · have hh := decode_high s k (by omega) (by rw [← sb_get s k (by omega)]; omega)
          refine ⟨(Utf8.decode s k).1, _, decode_le s k, fun ty => hit.next (by omega) ty, ?_, ?_⟩
          · rw [dg_high _ hh.1, dg_high _ (by omega)]
          · rw [dg_high _ hh.1]; intro h; omega
      have hit2 := hit.seen p2
      have hbl2 := bseen hbl (Nat.le_refl _) s p2
      generalize HC : (sb s).getD k 0 = c at *
      clear HC
      obtain ⟨hdr1, hdr2⟩ := hdr
      have hd1 := hid hdr1
      have hd2 := hid hdr2
      clear hdr1 hdr2
      have hrng := dgN_le r
      have hV := hid (rfl : dgV r = dgV r)
      have hVe : dgN r < 16 → dgV r = dgN r ∧ dgOk r = true := fun h => ⟨by unfold dgV; rw [if_neg (by omega)], by unfold dgOk; simp; omega⟩
      have hVn : dgN r = 16 → dgV r = 0 ∧ dgOk r = false := fun h => ⟨by unfold dgV; rw [if_pos h], by unfold dgOk; rw [h]; rfl⟩
      have hVe := hid hVe
      have hVn := hid hVn
      clear hst hit hbl
      go_wp2_with fail
      refine (digit_any r _ hr).mono ?_
      rintro e w3 ⟨rfl, hb3⟩
      have hit3 := hit2.below hb3
      have hbl3 : Below w.heap.size w w3 := hbl2.trans (hb3.mono hbl2.size)
      clear hnx hit2 hbl2 hb3
      have hpos3 := hid hit3.pos
      by_cases hok : dgN r < 16
      · rw [(hVe.out hok).1, (hVe.out hok).2]
        obtain rfl : p2 = k + 1 := hd2.out hok
        have h9 := hstep.out (by rw [← hd1.out]; exact hok)
        rw [← hd1.out] at h9
        have hstep2 := hid h9
        clear h9
        generalize hdd : dgN r = d at *
        have hJ := dg_join m d hm hok
        have hm16 : ((m : Int) * 16) % 256 = m * 16 := by omega
        clear hdd
        go_wp2_with fail
        go_roundw
        case rel => exact ⟨k + 1, 16 * m + d, by omega, hbl3, hit3, by simp, hstep2.out⟩
        case measure => rw [hpos.out, hpos3.out]; omega
      · rw [(hVn.out (by omega)).1, (hVn.out (by omega)).2]
        have hno2 := hid (hno.out (by rw [← hd1.out]; omega))
        go_wp2_with fail
        go_ret2
        rw [hno2.out.1, hno2.out.2]
        exact ⟨rfl, hbl3⟩
    · have hk2 : k = 2 := by omega
      have hst2 : stP s 2 m := hk2 ▸ hst
      have hE := hid (st_end hst2)
      have hnx := fun ty => hit.stop (P := Try.prog) (by omega) ty
      clear hk2 hst hst2
      go_wp2_with fail
      go_ret2
      rw [hE.out.1, hE.out.2]
      exact ⟨rfl, hbl⟩

set_option maxRecDepth 100000 in
theorem refUnhex_any (s : ByteArray) (w : World) (hb : s.size ≤ 100000) :
    Calls Try.prog 29 #[.string s] w fun e w' => e = .returned (.tuple #[.int .u8 (unhV s), .bool (unhOk s)]) ∧ w' = w := by
  by_cases h2 : s.size = 2
  case neg =>
    have hN := hid (unhV_no (s := s) (fun h => h2 h.1))
    have h3 : ¬ ((s.size : Int) = 2) := by omega
    go_enter Try.func29, Try.ntmps29
    go_wp2_with fail
    go_ret2
    rw [hN.out.1, hN.out.2]
    exact ⟨rfl, rfl⟩
  have hS := hid h2
  have hge : 2 ≤ s.size := by omega
  have hle : s.size ≤ 2 := by omega
  have hg0 := hid (sb_get s 0 (by omega))
  have hg1 := hid (sb_get s 1 (by omega))
  have hl0 := (s[0]'(by omega)).toNat_lt
  have hl1 := (s[1]'(by omega)).toNat_lt
  have hYes := hid (fun h => unhV_yes (s := s) h)
  have hNo := hid (fun h => unhV_no (s := s) h)
  clear hb
  go_enter Try.func29, Try.ntmps29
  go_wp2_with fail
  refine (refDigit_any (s[0]'(by omega)).toNat _ (by omega)).mono ?_
  rintro e w2 ⟨rfl, rfl⟩
  go_wp2_with fail
  refine (refDigit_any (s[1]'(by omega)).toNat _ (by omega)).mono ?_
  rintro e w3 ⟨rfl, rfl⟩
  have hd0 := dgN_le (s[0]'(by omega)).toNat
  have hd1 := dgN_le (s[1]'(by omega)).toNat
  by_cases q0 : dgN (s[0]'(by omega)).toNat = 16
  · have e0 : dgI (s[0]'(by omega)).toNat = -1 := by unfold dgI; rw [if_pos q0]
    have hN := hid (hNo.out (fun h => by have := h.2.1; rw [hg0.out] at this; omega))
    rw [e0]
    generalize dgI (s[1]'(by omega)).toNat = y
    clear e0 hd0 hd1 q0
    go_wp2_with fail
    go_ret2
    rw [hN.out.1, hN.out.2]
    exact ⟨rfl, rfl⟩
  by_cases q1 : dgN (s[1]'(by omega)).toNat = 16
  · have e0 : dgI (s[0]'(by omega)).toNat = (dgN (s[0]'(by omega)).toNat : Nat) := by unfold dgI; rw [if_neg q0]
    have e1 : dgI (s[1]'(by omega)).toNat = -1 := by unfold dgI; rw [if_pos q1]
    have hN := hid (hNo.out (fun h => by have := h.2.2; rw [hg1.out] at this; omega))
    rw [e0, e1]
    generalize dgN (s[0]'(by omega)).toNat = x at *
    clear e0 e1 q1
    go_wp2_with fail
    go_ret2
    rw [hN.out.1, hN.out.2]
    exact ⟨rfl, rfl⟩
  have e0 : dgI (s[0]'(by omega)).toNat = (dgN (s[0]'(by omega)).toNat : Nat) := by unfold dgI; rw [if_neg q0]
  have e1 : dgI (s[1]'(by omega)).toNat = (dgN (s[1]'(by omega)).toNat : Nat) := by unfold dgI; rw [if_neg q1]
  have hN := hYes.out ⟨hS.out, by rw [hg0.out]; omega, by rw [hg1.out]; omega⟩
  rw [hg0.out, hg1.out] at hN
  have hN := hid hN
  rw [e0, e1]
  generalize dgN (s[0]'(by omega)).toNat = x at *
  generalize dgN (s[1]'(by omega)).toNat = y at *
  clear e0 e1 hYes hNo hg0 hg1
  go_wp2_with fail
  go_ret2
  rw [hN.out.1, hN.out.2]
  exact ⟨rfl, rfl⟩

set_option maxRecDepth 100000 in
theorem parOpen_any (s : ByteArray) (w : World) (hb : s.size ≤ 100000) :
    Calls Try.prog 25 #[.string s] w fun e w' => e = .returned (.tuple #[.string (opnV s), .bool (opnOk s)]) ∧ Below w.heap.size w w' := by
  by_cases h3 : s.size < 3
  · have hN := hid (opn_no (s := s) (fun h => by have := h.1; omega))
    go_enter Try.func25, Try.ntmps25
    go_wp2_with fail
    go_ret2
    exact ⟨ret_tup (by rw [hN.out.1]; rfl) (by rw [hN.out.2]; rfl), Below.refl _ _⟩
  obtain ⟨n, hn⟩ : ∃ n, s.size = n + 3 := ⟨s.size - 3, by omega⟩
  have hI := hid (opn_is s n hn)
  have hY := hid (fun h => opn_yes n hn h)
  have hG := hid (sb_get s n (by omega))
  by_cases q1 : ((s[n]'(by omega)).toNat : Int) = 42
  case neg =>
    have hN := hid (opn_no (fun h => by have := (hI.out.1 h).1; rw [hG.out] at this; omega))
    have q1b : (((s[n]'(by omega)).toNat : Int) != 42) = true := by simp [q1]
    go_enter Try.func25, Try.ntmps25
    go_wp2_with fail
    all_goals (first | omega | skip)
    all_goals go_ret2
    all_goals exact ⟨ret_tup (by rw [hN.out.1]; rfl) (by rw [hN.out.2]; rfl), Below.refl _ _⟩
  have he1 : (s.extract (n + 1) (n + 3)).size ≤ 100000 := by rw [ByteArray.size_extract]; omega
  have he2 : (s.extract 0 n).size ≤ 100000 := by rw [ByteArray.size_extract]; omega
  go_enter Try.func25, Try.ntmps25
  go_wp2_with fail
  all_goals (first | omega | skip)
  refine (parUnhex_any (s.extract (n + 1) (n + 3)) _ he1).mono ?_
  rintro e w2 ⟨rfl, hb2⟩
  have hq1 := hid q1
  clear q1
  by_cases q2 : unhOk (s.extract (n + 1) (n + 3)) = true
  case neg =>
    have q2 := Bool.not_eq_true _ ▸ q2
    have hN := hid (opn_no (fun h => by have := (hI.out.1 h).2.1; rw [q2] at this; cases this))
    rw [q2]
    clear q2
    generalize unhV (s.extract (n + 1) (n + 3)) = V at *
    go_wp2_with fail
    go_ret2
    exact ⟨ret_tup (by rw [hN.out.1]; rfl) (by rw [hN.out.2]; rfl), hb2⟩
  rw [q2] at hI ⊢
  clear q2
  generalize unhV (s.extract (n + 1) (n + 3)) = V at *
  go_wp2_with fail
  refine (parOf_any (s.extract 0 n) _ he2).mono ?_
  rintro e w3 ⟨rfl, rfl⟩
  generalize xorF 0 (sb (s.extract 0 n)) = X at *
  by_cases q3 : (V : Int) = (X : Int)
  · have hN := hid (hY.out (hI.out.2 ⟨by rw [hG.out]; have := hq1.out; omega, trivial, by omega⟩))
    go_wp2_with fail
    go_ret2
    exact ⟨ret_tup (by rw [hN.out.1]; rfl) (by rw [hN.out.2]; rfl), hb2⟩
  · have hN := hid (opn_no (fun h => by have := (hI.out.1 h).2.2; omega))
    have q3b : ((V : Int) != (X : Int)) = true := by simp; omega
    go_wp2_with fail
    go_ret2
    exact ⟨ret_tup (by rw [hN.out.1]; rfl) (by rw [hN.out.2]; rfl), hb2⟩

end Go.Proofs.Ytookhpmpngacjaa
