/- The laws ParityHex, ParityOne, walked: they return true. -/
import Derived.Test.YtbbimpclomgblaaParOne
namespace Go.Proofs.Ytbbimpclomgblaa
open Go.ChangeShapes Go.WideShapes Go.ChangeAt Go.RowKit
set_option linter.unusedVariables false

theorem bytesOf1 : Try.prog.underlying 31 = some (.slice 5) := Try.underlying31
def tx (c : Nat) : ByteArray := ⟨#[UInt8.ofNat c]⟩
theorem tx_is (c : Nat) : textOf [(c : Int)] = tx c := by
  unfold textOf tx
  rfl
theorem sl_one (w : World) (k : IntKind) (c : Int) (T : TypeId) : Sl k (w.alloc (.cells #[.int k c] T)) (some ⟨w.heap.size, 0, none⟩) 1 1 [c] := by
  refine ⟨rfl, by omega, by decide, (fun h => by cases h), fun i hi => ?_⟩
  obtain rfl : i = 0 := by simpa using hi
  exact ⟨_, 0, rfl, by simp⟩
theorem anew {w : World} (o : Obj) : After w (w.alloc o).drew := (balloc (Below.refl _ w) (Nat.le_refl _) o).drew
theorem adrew {w v : World} (h : After w v) : After w.drew v.drew := ⟨h.os, h.tape, h.output, h.size, h.block⟩
theorem lws_size (b k : Nat) (hb : b < 256) : (lws b k).size ≤ 2 := by
  show (((sb (hexS b)).take k).map fun c => UInt8.ofNat (lowc c)).toArray.size ≤ 2
  rw [sb_hexS b hb]
  simp
  omega

set_option maxRecDepth 100000 in
set_option maxHeartbeats 1000000 in
theorem law_ParityHex (a0 : Int) (w0 : (Lit.int .u8 a0).wf = true) (w : World) :
    Calls Try.prog 4 #[.int .u8 a0] w fun e w' => e = .returned (.bool true) ∧ Below w.heap.size w w' := by
  obtain ⟨b1, b2⟩ := bounds_u8 w0
  obtain ⟨b, rfl⟩ := Int.eq_ofNat_of_zero_le b1
  clear w0
  have hU := hid (unh_hexS b (by omega))
  have hU2 := hid (unh_lws b (by omega))
  have hL2 := hid (fun k h => lws_step b k h)
  have hsz : (hexS b).size = 2 := by rw [← sb_len, sb_hexS b (by omega)]; rfl
  go_enter Try.func4, Try.ntmps4
  go_wp2_with fail
  refine (parHex_any b _ (by omega)).mono ?_
  rintro e w2 ⟨rfl, m2, rfl⟩
  go_wp2_with fail
  refine (parUnhex_any (hexS b) _ (by omega)).mono ?_
  rintro e w3 ⟨rfl, hb3⟩
  rw [hU.out.1, hU.out.2]
  have hb3 := bthen (bdrewN (Below.refl _ w) m2) hb3
  have hlen := hid (sb_len (hexS b))
  have hget := hid (fun k h => sb_get (hexS b) k h)
  have he : lws b 0 = ⟨#[]⟩ := rfl
  go_wp2_with fail
  go_loopw [6, 7, 8] (fun x i _ wr => ∃ k : Nat, k ≤ 2 ∧ Below w.heap.size w wr ∧ i = .int .i64 k ∧ x = .string (lws b k)) (fun _ i _ _ => 2 - (intOf i).toNat)
  case atStart => exact ⟨0, by omega, hb3, rfl, rfl⟩
  case round =>
    obtain ⟨k, hk, hbl, rfl, rfl⟩ := hrel
    have hls := lws_size b k (by omega)
    by_cases hlt : (k : Int) < 2
    · have hlt2 : k < 2 := by omega
      have hb8 := ((hexS b)[k]'(by omega)).toNat_lt
      have hst0 := hL2.out k (by rw [hlen.out]; omega)
      rw [hget.out k (by omega)] at hst0
      by_cases q1 : (65 : Int) ≤ ((hexS b)[k]'(by omega)).toNat
      · by_cases q2 : (((hexS b)[k]'(by omega)).toNat : Int) ≤ 70
        · have hlo : lowc ((hexS b)[k]'(by omega)).toNat = ((hexS b)[k]'(by omega)).toNat + 32 := by unfold lowc; rw [if_pos (by omega)]
          have ht := (sl_one wr .u8 ((((hexS b)[k]'(by omega)).toNat : Int) + 32) 5).text (P := Try.prog) 31 9 5 Try.underlying31 Try.underlying5 Try.underlying9
          rw [show textOf [((((hexS b)[k]'(by omega)).toNat : Int) + 32)] = tx (lowc ((hexS b)[k]'(by omega)).toNat) from by rw [← tx_is]; congr 2; omega] at ht
          have hcc : ¬ (9223372036854775807 < (lws b k).size + (tx (lowc ((hexS b)[k]'(by omega)).toNat)).size) := by show ¬ (_ < (lws b k).size + 1); omega
          have hst := hid hst0
          have hb9 := balloc hbl (Nat.le_refl _) (.cells #[.int .u8 ((((hexS b)[k]'(by omega)).toNat : Int) + 32)] 5)
          clear hst0 hlo
          go_wp2_with fail
          go_roundw
          case rel => exact ⟨k + 1, by omega, hb9, by simp, congrArg Value.string hst.out⟩
          case measure => simp [intOf]; omega
        · have hlo : lowc ((hexS b)[k]'(by omega)).toNat = ((hexS b)[k]'(by omega)).toNat := by unfold lowc; rw [if_neg (by omega)]
          have ht := (sl_one wr .u8 ((((hexS b)[k]'(by omega)).toNat : Int)) 5).text (P := Try.prog) 31 9 5 Try.underlying31 Try.underlying5 Try.underlying9
          rw [show textOf [((((hexS b)[k]'(by omega)).toNat : Int))] = tx (lowc ((hexS b)[k]'(by omega)).toNat) from by rw [← tx_is]; congr 2; omega] at ht
          have hcc : ¬ (9223372036854775807 < (lws b k).size + (tx (lowc ((hexS b)[k]'(by omega)).toNat)).size) := by show ¬ (_ < (lws b k).size + 1); omega
          have hst := hid hst0
          have hb9 := balloc hbl (Nat.le_refl _) (.cells #[.int .u8 ((((hexS b)[k]'(by omega)).toNat : Int))] 5)
          clear hst0 hlo
          go_wp2_with fail
          go_roundw
          case rel => exact ⟨k + 1, by omega, hb9, by simp, congrArg Value.string hst.out⟩
          case measure => simp [intOf]; omega
      · have hlo : lowc ((hexS b)[k]'(by omega)).toNat = ((hexS b)[k]'(by omega)).toNat := by unfold lowc; rw [if_neg (by omega)]
        have ht := (sl_one wr .u8 ((((hexS b)[k]'(by omega)).toNat : Int)) 5).text (P := Try.prog) 31 9 5 Try.underlying31 Try.underlying5 Try.underlying9
        rw [show textOf [((((hexS b)[k]'(by omega)).toNat : Int))] = tx (lowc ((hexS b)[k]'(by omega)).toNat) from by rw [← tx_is]; congr 2; omega] at ht
        have hcc : ¬ (9223372036854775807 < (lws b k).size + (tx (lowc ((hexS b)[k]'(by omega)).toNat)).size) := by show ¬ (_ < (lws b k).size + 1); omega
        have hst := hid hst0
        have hb9 := balloc hbl (Nat.le_refl _) (.cells #[.int .u8 ((((hexS b)[k]'(by omega)).toNat : Int))] 5)
        clear hst0 hlo
        go_wp2_with fail
        go_roundw
        case rel => exact ⟨k + 1, by omega, hb9, by simp, congrArg Value.string hst.out⟩
        case measure => simp [intOf]; omega
    · obtain rfl : k = 2 := by omega
      go_wp2_with fail
      refine (parUnhex_any (lws b 2) _ (by omega)).mono ?_
      rintro e w5 ⟨rfl, hb5⟩
      rw [hU2.out.1, hU2.out.2]
      have hb5 := bthen hbl hb5
      go_wp2_with fail
      refine (knows07_any _).mono ?_
      rintro e w6 ⟨rfl, hb6⟩
      have hb6 := bthen hb5 hb6
      go_wp2_with fail
      go_ret
      exact ⟨rfl, hb6⟩

set_option maxRecDepth 100000 in
set_option maxHeartbeats 2000000 in
theorem law_ParityOne (a0 : ByteArray) (a1 : Int) (a2 : Int) (w0 : a0.size ≤ maxLen) (w1 : (Lit.int .i64 a1).wf = true) (w2 : (Lit.int .u8 a2).wf = true) (w : World) :
    Calls Try.prog 5 #[.string a0, .int .i64 a1, .int .u8 a2] w fun e w' => e = .returned (.bool true) ∧ Below w.heap.size w w' := by
  obtain ⟨b1, b2⟩ := bounds_i64 w1
  obtain ⟨b3, b4⟩ := bounds_u8 w2
  unfold maxLen at w0
  clear w1 w2
  by_cases c0 : (500 : Int) < a0.size
  · go_enter Try.func5, Try.ntmps5
    go_wp2_with fail
    refine (knows07_any _).mono ?_
    rintro e w1 ⟨rfl, hb⟩
    go_wp2_with fail
    go_ret
    exact ⟨rfl, hb⟩
  have hO := hid (open_sealT a0)
  have hT := hid (fun T i x h1 h2 => open_oneT a0 T i x h1 h2)
  have hF := hid (sb_sealT a0)
  go_enter Try.func5, Try.ntmps5
  go_wp2_with fail
  refine (knows07_any _).mono ?_
  rintro e w1 ⟨rfl, hb1⟩
  go_wp2_with fail
  refine (parSeal_any a0 _ (by omega)).mono ?_
  rintro e w2 ⟨rfl, hb2⟩
  have hb2 := bthen hb1 hb2
  clear hb1
  have hsz : (sealT a0).size = a0.size + 3 := hO.out.1
  go_wp2_with fail
  refine (parOpen_any (sealT a0) _ (by omega)).mono ?_
  rintro e w3 ⟨rfl, hb3⟩
  rw [hO.out.2.1, hO.out.2.2]
  have hb3 := bthen hb2 hb3
  clear hb2
  generalize HA : sealT a0 = al at *
  have hAl := hid HA
  clear HA
  by_cases c1 : 0 ≤ a1 ∧ a1 < (a0.size : Int)
  case neg =>
    go_wp2_with fail
    all_goals (first | omega | skip)
    all_goals go_ret
    all_goals exact ⟨rfl, hb3⟩
  obtain ⟨i, rfl⟩ := Int.eq_ofNat_of_zero_le c1.1
  have hi : i < a0.size := by omega
  obtain ⟨y, rfl⟩ := Int.eq_ofNat_of_zero_le b3
  have hge := hid (sb_get al i (by omega))
  have hFF := hF.out
  have hFl := hid hFF
  clear hFF
  have hgy : (sb al).getD i 0 = (sb a0).getD i 0 := by
    rw [hFl.out, List.getD_eq_getElem?_getD, List.getElem?_append_left (by rw [sb_len]; exact hi), ← List.getD_eq_getElem?_getD]
  have hgy := hid hgy
  have hl9 := (al[i]'(by omega)).toNat_lt
  obtain ⟨x, hx⟩ : ∃ x : Nat, (((al[i]'(by omega)).toNat : Int) + (y : Int)) % 256 = (x : Int) := ⟨((al[i]'(by omega)).toNat + y) % 256, by omega⟩
  have hx256 : x < 256 := by omega
  have hok : opnOk (al.extract 0 i ++ tx x ++ al.extract (i + 1) (a0.size + 3)) = (y == 0) := by
    rw [hT.out (al.extract 0 i ++ tx x ++ al.extract (i + 1) (a0.size + 3)) i x hi ?_]
    · rw [← hgy.out, hge.out, Bool.eq_iff_iff]
      simp
      omega
    · rw [sb_append, sb_append, sb_extract, sb_extract, ← cut_set _ _ _ (by rw [sb_len]; omega)]
      congr 1
      · congr 1
        simp [sb, tx, Nat.mod_eq_of_lt hx256]
      · rw [List.take_of_length_le]
        rw [List.length_drop, sb_len]; omega
  have hok := hid hok
  have hTs : (al.extract 0 i ++ tx x ++ al.extract (i + 1) (a0.size + 3)).size ≤ 100000 := by
    rw [ByteArray.size_append, ByteArray.size_append, ByteArray.size_extract, ByteArray.size_extract]
    show _ + 1 + _ ≤ _
    omega
  have hz1 : ¬ (9223372036854775807 < (al.extract 0 i).size + (tx x).size) := by
    rw [ByteArray.size_extract]; show ¬ (_ < _ + 1); omega
  have hz2 : ¬ (9223372036854775807 < (al.extract 0 i ++ tx x).size + (al.extract (i + 1) (a0.size + 3)).size) := by
    rw [ByteArray.size_append, ByteArray.size_extract, ByteArray.size_extract]; show ¬ (_ < _ + 1 + _); omega
  have hcv : ∀ w', After (w3.alloc (.cells #[.int .u8 (x : Int)] 5)).drew w' → (convert 31 9 (.slice (some ⟨w3.heap.size, 0, none⟩) 1 1)).run Try.prog w' = .ok (.string (tx x)) w' := by
    intro w' h
    have ht := ((show Sl .u8 (w3.alloc (.cells #[.int .u8 (x : Int)] 5)).drew (some ⟨w3.heap.size, 0, none⟩) 1 1 [(x : Int)] from (sl_one w3 .u8 (x : Int) 5).drewN 1).below h).text (P := Try.prog) 31 9 5 Try.underlying31 Try.underlying5 Try.underlying9
    rw [tx_is] at ht
    exact ht
  have hcv := hid hcv
  have hz3 : ¬ (9223372036854775807 < min i (a0.size + 3) + (tx x).size) := by show ¬ (_ < _ + 1); omega
  have hz4 : ¬ (9223372036854775807 < min i (a0.size + 3) + (tx x).size + (a0.size + 2 - i)) := by show ¬ (_ < _ + 1 + _); omega
  have hyy : (((y : Nat) : Int) == 0) = (y == 0) := by rw [Bool.eq_iff_iff]; simp; try omega
  have fl1 : (i : Int) ≤ (a0.size : Int) + 3 := by omega
  have fl2 : (i : Int) < (a0.size : Int) + 3 := by omega
  have fl3 : (i : Int) + 1 ≤ (a0.size : Int) + 3 := by omega
  have fl4 : 0 ≤ (i : Int) + 1 := by omega
  have fw : IntKind.i64.wrap ((i : Int) + 1) = i + 1 := by rw [IntKind.wrap_i64]; omega
  have fn : ((i : Int) + 1).toNat = i + 1 := by omega
  have fx : IntKind.u8.wrap ((((al[i]'(by omega)).toNat : Int) + (y : Int))) = (x : Int) := by rw [IntKind.wrap_u8]; exact hx
  go_wp2_with fail
  all_goals (first | omega | skip)
  refine wp_region_R (by kernel_rfl) ?_
  refine wpAnyR_take 0 rfl (by kernel_rfl) (by kernel_rfl) (by kernel_rfl) (fun _ _ _ _ h => h) ?_
  apply Exists.intro
  refine ⟨Or.inl ⟨by rfl, fun w' hb => ?_⟩, ?_⟩
  · (go_simp; try with_reducible rfl)
  apply Exists.intro
  refine ⟨?_, ?_⟩
  · (go_simp; try rfl)
  refine wpAnyR_take 1 rfl (by kernel_rfl) (by kernel_rfl) (by kernel_rfl) (fun _ _ _ _ h => h) ?_
  apply Exists.intro
  refine ⟨Or.inl ⟨by rfl, fun w' hb => ?_⟩, ?_⟩
  · (go_simp; try with_reducible rfl)
  apply Exists.intro
  refine ⟨?_, ?_⟩
  · (go_simp; try rfl)
  refine wpAnyR_take 2 rfl (by kernel_rfl) (by kernel_rfl) (by kernel_rfl) (fun _ _ _ _ h => h) ?_
  apply Exists.intro
  refine ⟨Or.inl ⟨by rfl, fun w' hb => ?_⟩, ?_⟩
  · (go_simp; try with_reducible rfl)
  apply Exists.intro
  refine ⟨?_, ?_⟩
  · (go_simp; try rfl)
  refine wpAnyR_take 3 rfl (by kernel_rfl) (by kernel_rfl) (by kernel_rfl) (fun _ _ _ _ h => h) ?_
  apply Exists.intro
  refine ⟨Or.inl ⟨by rfl, fun w' hb => ?_⟩, ?_⟩
  · (go_simp; try with_reducible rfl)
  apply Exists.intro
  refine ⟨?_, ?_⟩
  · (go_simp; try rfl)
  refine wpAnyR_take 4 rfl (by kernel_rfl) (by kernel_rfl) (by kernel_rfl) (fun _ _ _ _ h => h) ?_
  apply Exists.intro
  refine ⟨Or.inl ⟨by rfl, fun w' hb => ?_⟩, ?_⟩
  · (go_simp; try with_reducible rfl)
  apply Exists.intro
  refine ⟨?_, ?_⟩
  · (go_simp; try rfl)
  refine wpAnyR_take 5 rfl (by kernel_rfl) (by kernel_rfl) (by kernel_rfl) (fun _ _ _ _ h => h) ?_
  apply Exists.intro
  refine ⟨Or.inl ⟨by rfl, fun w' hb => ?_⟩, ?_⟩
  · (go_simp; try with_reducible rfl)
  apply Exists.intro
  refine ⟨?_, ?_⟩
  · (go_simp; try rfl)
  refine wpAnyR_take 6 rfl (by kernel_rfl) (by kernel_rfl) (by kernel_rfl) (fun _ _ _ _ h => h) ?_
  apply Exists.intro
  refine ⟨Or.inl ⟨by rfl, fun w' hb => ?_⟩, ?_⟩
  · (go_simp; try with_reducible rfl)
  apply Exists.intro
  refine ⟨?_, ?_⟩
  · (go_simp; try rfl)
  refine wpAnyR_take 7 rfl (by kernel_rfl) (by kernel_rfl) (by kernel_rfl) (fun _ _ _ _ h => h) ?_
  apply Exists.intro
  refine ⟨Or.inl ⟨by rfl, fun w' hb => ?_⟩, ?_⟩
  · (go_simp; try with_reducible rfl)
  apply Exists.intro
  refine ⟨?_, ?_⟩
  · (go_simp; try rfl)
  refine wpAnyR_take 11 rfl (by kernel_rfl) (by kernel_rfl) (by kernel_rfl) (fun _ _ _ _ h => h) ?_
  apply Exists.intro
  refine ⟨Or.inl ⟨by rfl, fun w' hb => ?_⟩, ?_⟩
  · (go_simp; try with_reducible rfl)
  apply Exists.intro
  refine ⟨?_, ?_⟩
  · (go_simp; try rfl)
  refine wpAnyR_take 12 rfl (by kernel_rfl) (by kernel_rfl) (by kernel_rfl) (fun _ _ _ _ h => h) ?_
  apply Exists.intro
  refine ⟨Or.inl ⟨by rfl, fun w' hb => ?_⟩, ?_⟩
  · (go_simp; try with_reducible rfl)
  apply Exists.intro
  refine ⟨?_, ?_⟩
  · (go_simp; try rfl)
  refine wpAnyR_take 13 rfl (by kernel_rfl) (by kernel_rfl) (by kernel_rfl) (fun _ _ _ _ h => h) ?_
  apply Exists.intro
  refine ⟨Or.inl ⟨by rfl, fun w' hb => ?_⟩, ?_⟩
  · (go_simp; try with_reducible rfl)
  apply Exists.intro
  refine ⟨?_, ?_⟩
  · (go_simp; try rfl)
  refine wpAnyR_take 14 rfl (by kernel_rfl) (by kernel_rfl) (by kernel_rfl) (fun _ _ _ _ h => h) ?_
  apply Exists.intro
  refine ⟨Or.inl ⟨by rfl, fun w' hb => ?_⟩, ?_⟩
  · (go_simp; try with_reducible rfl)
  apply Exists.intro
  refine ⟨?_, ?_⟩
  · (go_simp; try rfl)
  refine wpAnyR_only 8 rfl (by kernel_rfl) (by rfl) (fun K hK => ?_)
  go_simp
  refine hK _ _ ?_
  refine ⟨adrew ((Below.refl _ _).alloc (Nat.le_refl _) _), ?_⟩
  refine wpAnyR_take 9 rfl (by kernel_rfl) (by kernel_rfl) (by kernel_rfl) (fun _ _ _ _ h => h) ?_
  apply Exists.intro
  refine ⟨Or.inl ⟨by rfl, fun w' hb => ?_⟩, ?_⟩
  · have ht := hcv.out w' hb
    go_simp
    try with_reducible rfl
  apply Exists.intro
  refine ⟨?_, ?_⟩
  · (go_simp; try rfl)
  refine wpAnyR_take 10 rfl (by kernel_rfl) (by kernel_rfl) (by kernel_rfl) (fun _ _ _ _ h => h) ?_
  apply Exists.intro
  refine ⟨Or.inl ⟨by rfl, fun w' hb => ?_⟩, ?_⟩
  · (go_simp; try with_reducible rfl)
  apply Exists.intro
  refine ⟨?_, ?_⟩
  · (go_simp; try rfl)
  refine wpAnyR_take 15 rfl (by kernel_rfl) (by kernel_rfl) (by kernel_rfl) (fun _ _ _ _ h => h) ?_
  apply Exists.intro
  refine ⟨Or.inl ⟨by rfl, fun w' hb => ?_⟩, ?_⟩
  · (go_simp; try with_reducible rfl)
  apply Exists.intro
  refine ⟨?_, ?_⟩
  · (go_simp; try rfl)
  refine wpAnyR_only 16 rfl (by kernel_rfl) (by rfl) (fun K hK => ?_)
  go_simp
  refine (parOpen_any (al.extract 0 i ++ tx x ++ al.extract (i + 1) (a0.size + 3)) _ hTs).mono ?_
  rintro e v1 ⟨rfl, be1⟩
  rw [hok.out]
  generalize opnV (al.extract 0 i ++ tx x ++ al.extract (i + 1) (a0.size + 3)) = V at *
  go_wp2_with fail
  refine ⟨be1, ?_⟩
  refine wpAnyR_take 17 rfl (by kernel_rfl) (by kernel_rfl) (by kernel_rfl) (fun _ _ _ _ h => h) ?_
  apply Exists.intro
  refine ⟨Or.inl ⟨by rfl, fun w' hb => ?_⟩, ?_⟩
  · (go_simp; try with_reducible rfl)
  apply Exists.intro
  refine ⟨?_, ?_⟩
  · (go_simp; try rfl)
  refine wpAnyR_take 18 rfl (by kernel_rfl) (by kernel_rfl) (by kernel_rfl) (fun _ _ _ _ h => h) ?_
  apply Exists.intro
  refine ⟨Or.inl ⟨by rfl, fun w' hb => ?_⟩, ?_⟩
  · (go_simp; try with_reducible rfl)
  apply Exists.intro
  refine ⟨?_, ?_⟩
  · (go_simp; try rfl)
  refine wpAnyR_take 19 rfl (by kernel_rfl) (by kernel_rfl) (by kernel_rfl) (fun _ _ _ _ h => h) ?_
  apply Exists.intro
  refine ⟨Or.inl ⟨by rfl, fun w' hb => ?_⟩, ?_⟩
  · (go_simp; try with_reducible rfl)
  apply Exists.intro
  refine ⟨?_, ?_⟩
  · (go_simp; try rfl)
  refine wpAnyR_take 20 rfl (by kernel_rfl) (by kernel_rfl) (by kernel_rfl) (fun _ _ _ _ h => h) ?_
  apply Exists.intro
  refine ⟨Or.inl ⟨by rfl, fun w' hb => ?_⟩, ?_⟩
  · (go_simp; try with_reducible rfl)
  apply Exists.intro
  refine ⟨?_, ?_⟩
  · (go_simp; try rfl)
  refine wpAnyR_take 21 rfl (by kernel_rfl) (by kernel_rfl) (by kernel_rfl) (fun _ _ _ _ h => h) ?_
  apply Exists.intro
  refine ⟨Or.inl ⟨by rfl, fun w' hb => ?_⟩, ?_⟩
  · (go_simp; try with_reducible rfl)
  apply Exists.intro
  refine ⟨?_, ?_⟩
  · (go_simp; try rfl)
  refine wpAnyR_done (by kernel_rfl) ?_ _
  have hb9 := bthen hb3 (After.trans (anew (.cells #[.int .u8 (x : Int)] 5)) be1)
  go_wp2_with fail
  go_ret
  exact ⟨rfl, hb9⟩

end Go.Proofs.Ytbbimpclomgblaa
