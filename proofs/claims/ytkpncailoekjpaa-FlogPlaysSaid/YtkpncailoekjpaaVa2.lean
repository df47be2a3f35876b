/- What Ints, Parse and the document's answers for layer 3 come to: contracts, by walking their text. -/
import Derived.Test.YtkpncailoekjpaaVa
namespace Go.Proofs.Ytkpncailoekjpaa
open Go.ChangeShapes Go.WideShapes Go.ChangeAt Go.RowKit
set_option linter.unusedVariables false

def ParseOk (w : World) (r : List Int × Nat × Nat) (e : Ending) (w' : World) : Prop := ∃ a cap, e = .returned (.tuple #[.slice a r.1.length cap, .int .i64 r.2.1, .int .i64 r.2.2]) ∧ Own .i64 2 w' w.heap.size (.slice a r.1.length cap) r.1 ∧ Below w.heap.size w w'

theorem parse_none (w w' : World) (r : List Int × Nat × Nat) (e : Nat) (hr : r = ([], 0, e)) (hb : Below w.heap.size w w') : ParseOk w r (.returned (.tuple #[.slice none 0 0, .int .i64 0, .int .i64 e])) w' := by
  subst hr; exact ⟨none, 0, rfl, Own.nil _ _ _ _, hb⟩

set_option maxHeartbeats 1000000 in
theorem vints_any (a : Option Addr) (len cap : Nat) (l : List Int) (w : World) (hl : len ≤ 1000) (hsl : Sl .i64 w a len cap l) (hz : ∀ n ∈ l, (Lit.int .i64 n).wf = true) :
    Calls Try.prog 52 #[.slice a len cap] w fun e w' => ∃ a cap, e = .returned (.slice a (intsS l).length cap) ∧ Own .u8 5 w' w.heap.size (.slice a (intsS l).length cap) (intsS l) ∧ Below w.heap.size w w' := by
  obtain ⟨rfl, -, -, -, hr⟩ := hsl
  have hra : RowAt (w.alloc (.cells #[.slice none 0 0] 109)) w.heap.size [] := ⟨none, 0, cell_new _ _ rfl _ _, by simp, ⟨rfl, .inl ⟨rfl, rfl⟩⟩, by simp⟩
  have hbe0 : Below w.heap.size w (w.alloc (.cells #[.slice none 0 0] 109)) := (Below.refl _ _).alloc (Nat.le_refl _) _
  go_enter Try.func52, Try.ntmps52
  go_wp2_with fail
  go_loopw [11] (fun i wr => ∃ (k : Nat), k ≤ l.length ∧ i = .int .i64 k ∧ RowAt wr w.heap.size (intsS (l.take k)) ∧ Below w.heap.size w wr) (fun i _ => l.length - (intOf i).toNat)
  case atStart => exact ⟨0, Nat.zero_le _, rfl, hra, hbe0⟩
  case round =>
    obtain ⟨k, hk, rfl, hrow, hbel⟩ := hrel
    clear hra hbe0
    by_cases hlt : k < l.length
    · obtain ⟨b, off, rfl, hc0⟩ := hr k hlt
      have hc : wr.cell? ⟨b, off + k, none⟩ = some (.int .i64 (l.getD k 0)) := (hbel.cell (World.block_lt_of_cell? w _ hc0)).trans hc0
      have hb := bounds_i64 (hz _ (List.getElem_mem hlt))
      have he : l.getD k 0 = l[k] := by simp [hlt]
      rw [← he] at hb
      have htk : Go.RowKit.Hid (intsS (l.take (k + 1)) = intsS (l.take k) ++ vpS (zigS (l.getD k 0)).toNat) := hid (by
        unfold intsS; rw [List.take_succ_eq_append_getElem hlt, List.flatMap_append, he]; simp only [List.flatMap_cons, List.flatMap_nil, List.append_nil])
      have hlk : (intsS (l.take k)).length ≤ 10 * (l.take k).length := ints_len _
      have hlk2 : (l.take k).length ≤ k := List.length_take_le _ _
      generalize l.getD k 0 = x at *
      have hzb := zig_bd x hb.1 hb.2
      clear he hc0 hr
      go_wp2_with fail
      refine (zig_any x _ hb.1 hb.2).mono ?_
      rintro e w1 ⟨rfl, rfl⟩
      obtain ⟨u, hu⟩ := Int.eq_ofNat_of_zero_le hzb.1
      have hu2 : u ≤ 18446744073709551615 := by omega
      have HU := hid hu
      rw [HU.out]
      clear hu hzb
      go_wp2_with fail
      refine (rowput_any u _ _ _ hu2 hrow (by omega)).mono ?_
      rintro e w2 ⟨rfl, hrow2, hbel2⟩
      clear hrow
      go_wp2_with fail
      go_roundw
      case rel => exact ⟨k + 1, by omega, by go_num, by rw [htk.out, HU.out]; exact hrow2, hbel.trans hbel2⟩
      case measure => simp [intOf]; omega
    · have hk2 : Go.RowKit.Hid (l.take k = l) := hid (by rw [show k = l.length from by omega, List.take_length])
      rw [hk2.out] at hrow
      obtain ⟨a1, cap1, hc1, hf1, hown1, hg1⟩ := hrow
      go_wp2_with fail
      go_ret
      exact ⟨a1, cap1, rfl, hown1.base (Nat.le_succ _), hbel⟩

theorem vdrew2 (w : World) (a b : Nat) : ∃ k, (w.drewN a).drewN b = w.drewN k := ⟨a + b, World.drewN_drewN w a b⟩

theorem vtake_ret (s : Int) (k n : Nat) (h : s = (n : Int)) : Ending.returned (.tuple #[.int .u64 s, .int .i64 ((k : Int) + 1), .int .i64 0]) = .returned (vtakeV (n, k + 1, 0)) := by
  subst h; rfl

set_option maxRecDepth 100000 in
set_option maxHeartbeats 2000000 in
theorem rvtake_any (a : Option Addr) (len cap : Nat) (zs : List Int) (w : World) (hl : len ≤ 1000000) (hsl : Sl .u8 w a len cap zs) (hz : ∀ n ∈ zs, (Lit.int .u8 n).wf = true) :
    Calls Try.prog 39 #[.slice a len cap] w fun e w' => e = .returned (vtakeV (takeS zs 0 0)) ∧ w' = w := by
  obtain ⟨rfl, -, -, -, hr⟩ := hsl
  go_enter Try.func39, Try.ntmps39
  go_wp2_with fail
  go_loop [5, 6, 7] (fun u p i => ∃ (k m q : Nat), k ≤ zs.length ∧ k ≤ 9 ∧ i = .int .i64 k ∧ u = .int .u64 m ∧ p = .int .u64 q ∧ q = 128 ^ k ∧ m < 128 ^ k ∧ takeS (zs.drop k) k m = takeS zs 0 0) (fun _ _ i => zs.length - (intOf i).toNat)
  case atStart => exact ⟨0, 0, 1, Nat.zero_le _, Nat.zero_le _, rfl, rfl, rfl, by decide, by decide, rfl⟩
  case round =>
    obtain ⟨k, m, q, hk, hk9, rfl, rfl, rfl, hq, hm, hs⟩ := hrel
    have HS := hid hs
    have HM := hid hm
    have HQ := hid hq
    have hq9 : q ≤ 9223372036854775808 := by rw [hq]; exact pow128_le k hk9
    clear hs hm hq
    by_cases hlt : k < zs.length
    · obtain ⟨b, off, rfl, hc⟩ := hr k hlt
      have HD := hid (drop_step zs k hlt)
      have hb := bounds_u8 (hz _ (List.getElem_mem hlt))
      have he : zs.getD k 0 = zs[k] := by simp [hlt]
      rw [← he] at hb
      generalize zs.getD k 0 = x at *
      clear he hr hz
      obtain ⟨c, rfl⟩ := Int.eq_ofNat_of_zero_le hb.1
      by_cases h91 : k = 9 ∧ 1 < c
      · obtain ⟨rfl, h1⟩ := h91
        go_wp2
        go_ret3
        exact ⟨by rw [← HS.out, HD.out, takeS_tenth _ _ _ (by omega)]; rfl, rfl⟩
      · obtain ⟨_, hlt1, hlt2⟩ := take_or m c k (by omega) HM.out
        have hcm : Go.RowKit.Hid (((c : Int) % 128).toNat = c % 128) := hid (by omega)
        have hmul : (q : Int) * ((c : Int) % 128) = ((128 ^ k * (c % 128) : Nat) : Int) := by rw [HQ.out]; simp
        generalize HX : 128 ^ k * (c % 128) = X at *
        have HX2 := hid HX
        have hlt1h := hid hlt1
        clear HX hlt1
        have h9b : ((k : Int) == 9 && decide (1 < (c : Int))) = false := by
          by_cases h9 : k = 9
          · have : ¬ 1 < c := fun h => h91 ⟨h9, h⟩
            rw [decide_eq_false (by omega), Bool.and_false]
          · rw [show ((k : Int) == 9) = false from by simp; omega, Bool.false_and]
        by_cases h1 : 127 < c
        · have hk8 : k ≤ 8 := by omega
          have hq8 : q ≤ 72057594037927936 := by
            rw [HQ.out]; have := Nat.pow_le_pow_right (show 0 < 128 by decide) hk8; have e : (128 : Nat) ^ 8 = 72057594037927936 := by decide +kernel
            omega
          have hk9f : ((k : Int) == 9) = false := by simp; omega
          go_wp2
          go_round
          case rel => exact ⟨k + 1, m + X, q * 128, by omega, by omega, by go_num, by go_num, by go_num, by rw [HQ.out, Nat.pow_succ], hlt1h.out, by rw [← HS.out, HD.out, takeS_more _ _ _ _ (by omega) (by omega), hcm.out, HX2.out]⟩
          case measure => simp [intOf]; omega
        · by_cases h0 : c = 0 ∧ 0 < k
          · obtain ⟨hc0, hk0⟩ := h0
            have hcz : ((c : Int) == 0) = true := by simp [hc0]
            have HC := hid hc0
            clear hc0 h91
            have hc1 : c ≤ 1 := by have := HC.out; omega
            by_cases hk9e : k = 9
            · have hk9f : ((k : Int) == 9) = true := by simp [hk9e]
              have HK := hid hk9e
              clear hk9e
              go_wp2
              go_ret3
              exact ⟨by rw [← HS.out, HD.out, takeS_zero _ _ _ _ (by have := HC.out; omega) (by omega)]; rfl, rfl⟩
            · have hk9f : ((k : Int) == 9) = false := by simp; omega
              clear hk9e
              go_wp2
              go_ret3
              exact ⟨by rw [← HS.out, HD.out, takeS_zero _ _ _ _ (by have := HC.out; omega) (by omega)]; rfl, rfl⟩
          · have HV : Go.RowKit.Hid (takeS zs 0 0 = (m + X, k + 1, 0)) := hid (by rw [← HS.out, HD.out, takeS_last _ _ _ _ (by omega) (by omega) (by omega), hcm.out, HX2.out])
            by_cases hk9e : k = 9
            · have hk9f : ((k : Int) == 9) = true := by simp [hk9e]
              have hc1 : c ≤ 1 := by omega
              have hc2 : 1 ≤ c := by omega
              have hcz : ((c : Int) == 0) = false := by simp; omega
              have hk1 : 1 ≤ k := by omega
              clear hk9e h91 h0
              go_wp2
              go_ret3
              exact ⟨by rw [HV.out]; exact vtake_ret _ _ _ (by omega), rfl⟩
            · have hk9f : ((k : Int) == 9) = false := by simp; omega
              clear hk9e h91
              by_cases hc0 : c = 0
              · have hcz : ((c : Int) == 0) = true := by simp [hc0]
                have hk0 : k ≤ 0 := by omega
                clear hc0 h0
                go_wp2
                go_ret3
                exact ⟨by rw [HV.out]; exact vtake_ret _ _ _ (by omega), rfl⟩
              · have hcz : ((c : Int) == 0) = false := by simp; omega
                clear hc0 h0
                go_wp2
                go_ret3
                exact ⟨by rw [HV.out]; exact vtake_ret _ _ _ (by omega), rfl⟩
    · go_wp2
      go_ret3
      exact ⟨by rw [← HS.out, show k = zs.length from by omega, List.drop_length, takeS_nil]; rfl, rfl⟩

end Go.Proofs.Ytkpncailoekjpaa
