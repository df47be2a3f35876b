/- The laws CrcParts, CrcBurst, walked: they return true. -/
import Derived.Test.YtkonhgcgjaocdaaLaw05
namespace Go.Proofs.Ytkonhgcgjaocdaa
open Go.ChangeShapes Go.WideShapes Go.ChangeAt Go.RowKit
set_option linter.unusedVariables false

set_option maxRecDepth 100000 in
set_option maxHeartbeats 2000000 in
theorem law_CrcBurst (a0 : Option Addr) (len0 cap0 : Nat) (z0 : List Int) (a1 : Int) (a2 : Int) (w : World) (w0 : IsRow .u8 w a0 len0 cap0 z0) (w1 : (Lit.int .i64 a1).wf = true) (w2 : (Lit.int .u16 a2).wf = true) :
    Calls Try.prog 6 #[.slice a0 len0 cap0, .int .i64 a1, .int .u16 a2] w fun e w' => e = .returned (.bool true) ∧ Below w.heap.size w w' := by
  obtain ⟨hsl, hz⟩ := w0.sl
  obtain ⟨b1, b2⟩ := bounds_i64 w1
  obtain ⟨b3, b4⟩ := bounds_u16 w2
  obtain ⟨m, rfl⟩ := Int.eq_ofNat_of_zero_le b3
  clear w0 w1 w2
  generalize z0.take len0 = zs at *
  by_cases c1 : (2000 : Int) < len0
  · go_enter Try.func6, Try.ntmps6
    go_wp2_with fail
    refine (knows05_any _).mono ?_
    rintro e w3 ⟨rfl, hb3⟩
    go_wp2_with fail
    go_ret
    exact ⟨rfl, hb3⟩
  have hSb := crcSeal_bytes zs (bytes_bd hz)
  have hzS := hid (bytes_wf hSb)
  replace hSb := hid hSb
  have hll : (crcSeal zs).length ≤ 3000 := by have := crcSeal_len zs; have := hsl.1; omega
  have hl2 := hid (crcSeal_len zs)
  have hzero := hid (crc_seal_zero zs (bytes_bd hz))
  replace hz := hid hz
  go_enter Try.func6, Try.ntmps6
  go_wp2_with fail
  refine (knows05_any _).mono ?_
  rintro e w1 ⟨rfl, hb1⟩
  have s1 := hsl.below hb1
  clear hsl
  go_wp2_with fail
  refine (seal_any _ _ _ zs _ (by omega) s1 hz.out).mono ?_
  rintro e w2 ⟨a2, c2, rfl, own2, hb2⟩
  have hb2' := bthen hb1 hb2
  have sl2 := own2.slf
  clear s1 own2
  generalize crcSeal zs = S at *
  go_wp2_with fail
  refine (turned_any _ _ _ S a1 m _ (by omega) sl2 hzS.out b1 b2 (by omega)).mono ?_
  rintro e w3 ⟨a3, c3, ys, any, rfl, own3, hb3, hT⟩
  have hb3' := bthen hb2' hb3
  have sl3 := own3.slf
  have hyl := sl3.1
  have hS2 : S.length = zs.length + 2 := hl2.out
  have hSl : crcF 65535 S = 0 := hzero.out
  have hyb : ∀ c ∈ ys, 0 ≤ c ∧ c ≤ 255 := by
    rcases hT with ⟨_, rfl⟩ | ⟨k, n, _, _, _, hh, _⟩
    · exact hSb.out
    · exact hh.2.1
  have hopen : (crcOpen ys).isSome = !any := by
    rw [crcOpen_is ys zs.length (by omega) hyb]
    rcases hT with ⟨rfl, rfl⟩ | ⟨k, n, rfl, hk, hn, hh, rfl⟩
    · rw [if_pos hSl]; rfl
    · have hp : m % 2 ^ n < 65536 := by have := Nat.mod_le m (2 ^ n); omega
      have h := crc_burst S ys k (m % 2 ^ n) hSb.out hyb hh.1 hSl hh.2.2 hp (by omega)
      by_cases h0 : m % 2 ^ n = 0
      · rw [if_pos (h.2 h0)]; simp [h0]
      · rw [if_neg (fun x => h0 (h.1 x))]; simp [h0]
  replace hopen := hid hopen
  have hyw := hid (bytes_wf hyb)
  clear hT own3 hS2 hSl hyb sl2 hyl
  go_wp2_with fail
  refine (open_any _ _ _ ys _ (by omega) sl3 hyw.out).mono ?_
  rintro e w5 ⟨a5, c5, rfl, own5, hb5⟩
  rw [hopen.out]
  have hb5' := bthen hb3' hb5
  clear own5 sl3 hopen
  generalize crcOpen ys = co at *
  cases any
  all_goals
    go_wp2_with fail
    go_ret
    exact ⟨rfl, hb5'⟩

set_option maxRecDepth 100000 in
set_option maxHeartbeats 2000000 in
theorem law_CrcParts (a0 : Int) (a1 : Option Addr) (len1 cap1 : Nat) (z1 : List Int) (a2 : Option Addr) (len2 cap2 : Nat) (z2 : List Int) (w : World) (w0 : (Lit.int .u16 a0).wf = true) (w1 : IsRow .u8 w a1 len1 cap1 z1) (w2 : IsRow .u8 w a2 len2 cap2 z2) :
    Calls Try.prog 5 #[.int .u16 a0, .slice a1 len1 cap1, .slice a2 len2 cap2] w fun e w' => e = .returned (.bool true) ∧ Below w.heap.size w w' := by
  obtain ⟨b1, b2⟩ := bounds_u16 w0
  obtain ⟨c, rfl⟩ := Int.eq_ofNat_of_zero_le b1
  obtain ⟨hsl1, hz1⟩ := w1.sl
  obtain ⟨hsl2, hz2⟩ := w2.sl
  clear w0 w1 w2
  generalize z1.take len1 = xs at *
  generalize z2.take len2 = ys at *
  by_cases c1 : (1000 : Int) < len1
  · go_enter Try.func5, Try.ntmps5
    go_wp2_with fail
    refine (knows05_any _).mono ?_
    rintro e w3 ⟨rfl, hb3⟩
    go_wp2_with fail
    go_ret
    exact ⟨rfl, hb3⟩
  by_cases c2 : (1000 : Int) < len2
  · go_enter Try.func5, Try.ntmps5
    go_wp2_with fail
    refine (knows05_any _).mono ?_
    rintro e w3 ⟨rfl, hb3⟩
    go_wp2_with fail
    go_ret
    exact ⟨rfl, hb3⟩
  have hzw := hid (show ∀ n ∈ xs ++ ys, (Lit.int .u8 n).wf = true from fun n hn => by
    rcases List.mem_append.1 hn with h | h
    · exact hz1 n h
    · exact hz2 n h)
  replace hz1 := hid hz1
  replace hz2 := hid hz2
  obtain rfl := hsl1.1
  obtain rfl := hsl2.1
  go_enter Try.func5, Try.ntmps5
  go_wp2_with fail
  refine (knows05_any _).mono ?_
  rintro e w1 ⟨rfl, hb1⟩
  replace hsl1 := hsl1.below hb1
  replace hsl2 := hsl2.below hb1
  go_wp2_with fail
  have hrd := hid hsl1.2.2.2.2
  go_loopw [7, 8] (fun v i wr => ∃ (k y : Nat), k ≤ xs.length ∧ Below w1.heap.size w1 wr ∧ i = .int .i64 k ∧ v = .int .u16 y ∧ y < 65536 ∧ Hid (crcF y (xs.drop k) = crcF c xs)) (fun _ i _ => xs.length - (intOf i).toNat)
  case atStart => exact ⟨0, c, by omega, Below.refl _ _, rfl, rfl, by omega, rfl⟩
  case round =>
    obtain ⟨k, y, hk, hbr, rfl, rfl, hy, hs⟩ := hrel
    by_cases hlt : (k : Int) < xs.length
    · have hlt2 : k < xs.length := by omega
      obtain ⟨b, off, rfl, hc⟩ := hrd.out.below hbr k hlt2
      have hst := crc_step xs k hlt2 y
      have hzb := bounds_u8 (hz1.out (xs.getD k 0) (by simp [hlt2]))
      obtain ⟨x, hx⟩ := Int.eq_ofNat_of_zero_le hzb.1
      rw [hx] at hst hc hzb
      rw [Int.toNat_natCast] at hst
      have hy2 := stepN_lt y x hy (by omega)
      have hH := hid (hst ▸ hs.out)
      clear hst hs hx
      go_wp2_with fail
      refine (step_any y x _ hy (by omega)).mono ?_
      rintro e w2 ⟨rfl, hb2⟩
      replace hb2 := bthen hbr hb2
      generalize stepN y x = y2 at *
      go_wp2_with fail
      go_roundw
      case rel => exact ⟨k + 1, y2, by omega, hb2, by simp, rfl, hy2, hH.out⟩
      case measure => simp [intOf]; omega
    · obtain rfl : k = xs.length := by omega
      have hyc := hs.out
      rw [List.drop_length] at hyc
      have hyc : y = crcF c xs := hyc
      subst hyc
      have t1 := hsl1.below hbr
      have t2 := hsl2.below hbr
      have hbw := bthen hb1 hbr
      clear hsl1 hsl2 hrd hs
      have be3 : Below wr.heap.size wr (wr.alloc (.cells #[] 5)) := (Below.refl _ _).alloc (Nat.le_refl _) _
      have ho := Own.lit .u8 5 wr [] wr.heap.size (Nat.le_refl _) (by simp) #[] rfl
      have sl2 := t1.below be3
      have sz3 := be3.size
      go_wp2_with (first
        | (at_builtin; refine wpList_appS _ wr rfl (.tmp 36) (.tmp 37) 23 rfl wr.heap.size wr.heap.size 5 .u8 1 bytesOf (.slice (some ⟨wr.heap.size, 0, none⟩) 0 0) [] rfl ho a1 xs.length cap1 xs rfl sl2 (by simp; omega) (by decide) be3 (Nat.le_refl _) sz3 ?_))
      intro a3 c3 w3 own3 bel3
      have u2 := t2.below bel3
      have sz4 := bel3.size
      have own3 : Own .u8 5 w3 wr.heap.size (.slice a3 xs.length c3) xs := by simpa using own3
      have u1 := t1.below bel3
      clear ho be3 sl2 sz3
      go_wp2_with (first
        | (at_builtin; refine wpList_appS _ wr rfl (.tmp 38) (.tmp 39) 23 rfl wr.heap.size wr.heap.size 5 .u8 1 bytesOf (.slice a3 xs.length c3) xs rfl own3 a2 ys.length cap2 ys rfl u2 (by simp; omega) (by decide) bel3 (Nat.le_refl _) sz4 ?_))
      intro a4 c4 w4 own4 bel4
      have sal := own4.slf
      have v1 := t1.below bel4
      have v2 := t2.below bel4
      have hb4 := bthen hbw bel4
      clear own3 own4 bel3 bel4 u1 u2 t1 t2
      have hx16 := crcF_lt xs c (by omega) (bytes_bd hz1.out)
      have ho16 := crcF_lt xs 65535 (by omega) (bytes_bd hz1.out)
      obtain ⟨S1, hS1⟩ : ∃ n, crcF c xs = n := ⟨_, rfl⟩
      obtain ⟨S2, hS2⟩ : ∃ n, crcF c (xs ++ ys) = n := ⟨_, rfl⟩
      obtain ⟨O1, hO1⟩ : ∃ n, crcF 65535 xs = n := ⟨_, rfl⟩
      obtain ⟨O2, hO2⟩ : ∃ n, crcF 65535 (xs ++ ys) = n := ⟨_, rfl⟩
      have e0 := hid (show crcF S1 ys = S2 by rw [← hS1, ← crcF_append]; exact hS2)
      have e1 := hid (show crcF 65535 [xs, ys].flatten = O2 by rw [← hO2]; simp)
      have e2 := hid (show crcF 65535 [xs ++ ys].flatten = O2 by rw [← hO2]; simp)
      have e3 := hid (show crcF 65535 [xs, [], ys].flatten = O2 by rw [← hO2]; simp)
      have e4 := hid (show crcF 65535 [xs].flatten = O1 by rw [← hO1]; simp)
      have e5 := hid (show crcF O1 ys = O2 by rw [← hO1, ← crcF_append]; exact hO2)
      rw [hS1] at hx16 ⊢
      rw [hO1] at ho16
      replace hS1 := hid hS1
      replace hS2 := hid hS2
      clear hO1 hO2
      go_wp2_with fail
      refine (more_any c _ _ _ xs _ (by omega) (by omega) v1 hz1.out).mono ?_
      rintro e w5 ⟨rfl, b5⟩
      rw [hS1.out]
      replace v1 := v1.below b5
      replace v2 := v2.below b5
      replace sal := sal.below b5
      replace hb4 := bthen hb4 b5
      clear b5
      go_wp2_with fail
      refine (more_any S1 _ _ _ ys _ (by omega) (by omega) v2 hz2.out).mono ?_
      rintro e w6 ⟨rfl, b6⟩
      rw [e0.out]
      replace v1 := v1.below b6
      replace v2 := v2.below b6
      replace sal := sal.below b6
      replace hb4 := bthen hb4 b6
      clear b6
      go_wp2_with fail
      refine (more_any c _ _ _ (xs ++ ys) _ (by omega) (by omega) sal hzw.out).mono ?_
      rintro e w7 ⟨rfl, b7⟩
      rw [hS2.out]
      replace v1 := v1.below b7
      replace v2 := v2.below b7
      replace sal := sal.below b7
      replace hb4 := bthen hb4 b7
      clear b7
      have r2 := rows_two w7 23 _ _ _ _ _ _ xs ys v1 (by omega) hz1.out v2 (by omega) hz2.out
      have b8 : Below w7.heap.size w7 (w7.alloc (.cells #[.slice a1 xs.length cap1, .slice a2 ys.length cap2] 23)) := (Below.refl _ _).alloc (Nat.le_refl _) _
      go_wp2_with fail
      refine (of_any _ _ 2 [xs, ys] _ rfl (by omega) r2).mono ?_
      rintro e w8 ⟨rfl, b8'⟩
      rw [e1.out]
      replace b8 := bthen b8 b8'
      clear b8' r2
      replace v1 := v1.below b8
      replace v2 := v2.below b8
      replace sal := sal.below b8
      replace hb4 := bthen hb4 b8
      clear b8
      have r1 := rows_one w8 23 _ _ _ (xs ++ ys) sal (by omega) hzw.out
      have b9 : Below w8.heap.size w8 (w8.alloc (.cells #[.slice a4 (xs.length + ys.length) c4] 23)) := (Below.refl _ _).alloc (Nat.le_refl _) _
      go_wp2_with fail
      refine (of_any _ _ 1 [xs ++ ys] _ rfl (by omega) r1).mono ?_
      rintro e w9 ⟨rfl, b9'⟩
      rw [e2.out]
      replace b9 := bthen b9 b9'
      clear b9' r1
      replace v1 := v1.below b9
      replace v2 := v2.below b9
      replace hb4 := bthen hb4 b9
      clear b9 sal
      have r3 := rows_three w9 23 _ _ _ _ _ _ xs ys v1 (by omega) hz1.out v2 (by omega) hz2.out
      have b10 : Below w9.heap.size w9 (w9.alloc (.cells #[.slice a1 xs.length cap1, .slice none 0 0, .slice a2 ys.length cap2] 23)) := (Below.refl _ _).alloc (Nat.le_refl _) _
      go_wp2_with fail
      refine (of_any _ _ 3 [xs, [], ys] _ rfl (by omega) r3).mono ?_
      rintro e w10 ⟨rfl, b10'⟩
      rw [e3.out]
      replace b10 := bthen b10 b10'
      clear b10' r3
      replace v1 := v1.below b10
      replace v2 := v2.below b10
      replace hb4 := bthen hb4 b10
      clear b10
      have r4 := rows_one w10 23 _ _ _ xs v1 (by omega) hz1.out
      have b11 : Below w10.heap.size w10 (w10.alloc (.cells #[.slice a1 xs.length cap1] 23)) := (Below.refl _ _).alloc (Nat.le_refl _) _
      go_wp2_with fail
      refine (of_any _ _ 1 [xs] _ rfl (by omega) r4).mono ?_
      rintro e w11 ⟨rfl, b11'⟩
      rw [e4.out]
      replace b11 := bthen b11 b11'
      clear b11' r4
      replace v2 := v2.below b11
      replace hb4 := bthen hb4 b11
      clear b11 v1
      go_wp2_with fail
      refine (more_any O1 _ _ _ ys _ (by omega) (by omega) v2 hz2.out).mono ?_
      rintro e w12 ⟨rfl, b12⟩
      rw [e5.out]
      replace hb4 := bthen hb4 b12
      go_wp2_with fail
      go_ret
      exact ⟨rfl, hb4⟩

end Go.Proofs.Ytkonhgcgjaocdaa
