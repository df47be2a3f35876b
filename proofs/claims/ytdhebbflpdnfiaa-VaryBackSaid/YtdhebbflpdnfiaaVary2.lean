/- What Ints, Parse and the document's answers for layer 3 come to: contracts, by walking their text. -/
import Derived.Test.YtdhebbflpdnfiaaVary
namespace Go.Proofs.Ytdhebbflpdnfiaa
open Go.ChangeShapes Go.WideShapes Go.ChangeAt Go.RowKit
set_option linter.unusedVariables false

def ParseOk (w : World) (r : List Int × Nat × Nat) (e : Ending) (w' : World) : Prop := ∃ a cap, e = .returned (.tuple #[.slice a r.1.length cap, .int .i64 r.2.1, .int .i64 r.2.2]) ∧ Own .i64 2 w' w.heap.size (.slice a r.1.length cap) r.1 ∧ Below w.heap.size w w'

theorem parse_none (w w' : World) (r : List Int × Nat × Nat) (e : Nat) (hr : r = ([], 0, e)) (hb : Below w.heap.size w w') : ParseOk w r (.returned (.tuple #[.slice none 0 0, .int .i64 0, .int .i64 e])) w' := by
  subst hr; exact ⟨none, 0, rfl, Own.nil _ _ _ _, hb⟩

set_option maxHeartbeats 2000000 in
theorem parse_any (a : Option Addr) (len cap : Nat) (zs : List Int) (n : Int) (w : World) (hn1 : -9223372036854775808 ≤ n) (hn2 : n ≤ 9223372036854775807) (hl : len ≤ 1000000) (hsl : Sl .u8 w a len cap zs) (hz : ∀ n ∈ zs, (Lit.int .u8 n).wf = true) :
    Calls Try.prog 16 #[.slice a len cap, .int .i64 n] w (ParseOk w (parseS zs n)) := by
  by_cases hneg : n < 0
  · have HV : Go.RowKit.Hid (parseS zs n = ([], 0, 1)) := hid (if_pos hneg)
    go_enter Try.func16, Try.ntmps16
    go_wp2_with fail
    go_ret3
    exact parse_none _ _ _ 1 HV.out (Below.refl _ _)
  have HV : Go.RowKit.Hid (parseS zs n = parseF n.toNat zs [] 0) := hid (if_neg hneg)
  have hz255 : ∀ c ∈ zs, 0 ≤ c ∧ c ≤ 255 := fun c hc => bounds_u8 (hz c hc)
  have hlen := hsl.1
  go_enter Try.func16, Try.ntmps16
  go_wp2_with fail
  go_loopw [7, 8, 15] (fun l at1 i wr => ∃ (k m : Nat) (acc : List Int) (la : Option Addr) (lc : Nat), (k : Int) ≤ n ∧ i = .int .i64 k ∧ at1 = .int .i64 m ∧ m ≤ len ∧ l = .slice la acc.length lc ∧ acc.length ≤ m ∧
      Own .i64 2 wr w.heap.size (.slice la acc.length lc) acc ∧ Below w.heap.size w wr ∧ parseF (n.toNat - k) (zs.drop m) acc m = parseF n.toNat zs [] 0) (fun _ _ i _ => n.toNat - (intOf i).toNat)
  case atStart => exact ⟨0, 0, [], none, 0, by omega, rfl, rfl, by omega, rfl, by simp, Own.nil _ _ _ _, Below.refl _ _, rfl⟩
  case round =>
    obtain ⟨k, m, acc, la, lc, hk, rfl, rfl, hm, rfl, hacc, hown, hbel, he⟩ := hrel
    have HE := hid he
    have hsz := hbel.size
    clear he
    by_cases hlt : (k : Int) < n
    · have hsl1 := hsl.below hbel
      have hend := fun h => hsl1.end m hm h
      have hdrop := hsl1.drop m hm
      have hzd : ∀ c ∈ zs.drop m, (Lit.int .u8 c).wf = true := fun c hc => hz c (List.mem_of_mem_drop hc)
      have hzd2 : ∀ c ∈ zs.drop m, 0 ≤ c ∧ c ≤ 255 := fun c hc => hz255 c (List.mem_of_mem_drop hc)
      have hdl : (zs.drop m).length = len - m := by rw [List.length_drop, hlen]
      have HOK := hid (takeS_ok (zs.drop m) hzd2)
      have HER := hid (takeS_err (zs.drop m) 0 0)
      have HN : Go.RowKit.Hid (n.toNat - k = (n.toNat - (k + 1)) + 1) := hid (by omega)
      generalize HDS0 : zs.drop m = ds at *
      have HDS := hid HDS0
      clear HDS0
      generalize HR : takeS ds 0 0 = r at *
      have HRR := hid HR
      clear HR
      obtain ⟨x, kk, ee⟩ := r
      have hT : Calls Try.prog 14 #[.slice a (len - m) 0] wr (fun e w' => e = .returned (takeV (x, kk, ee)) ∧ w' = wr) ∨ cap ≠ m := by
        by_cases hcap : cap = m
        · left
          have := take_any a (len - m) 0 ds wr (by omega) (hend hcap) hzd
          rw [HRR.out] at this; exact this
        · exact .inr hcap
      have hT2 : Calls Try.prog 14 #[.slice (Option.map (fun x => x.add m) a) (len - m) (cap - m)] wr (fun e w' => e = .returned (takeV (x, kk, ee)) ∧ w' = wr) := by
        have := take_any _ (len - m) (cap - m) ds wr (by omega) hdrop hzd
        rw [HRR.out] at this; exact this
      have HT := hid hT
      have HT2 := hid hT2
      clear hT hT2 hend hdrop hsl1
      by_cases hcap : cap = m
      · subst hcap
        go_wp2_with fail
        refine Calls.mono (HT.out.resolve_right (by simp)) ?_
        rintro e w1 ⟨rfl, rfl⟩
        unfold takeV
        by_cases hee : ee = 0
        · subst hee
          obtain ⟨t1, t2, t3, t4⟩ := HOK.out rfl
          have t1 : 1 ≤ kk := t1
          have t2 : kk ≤ ds.length := t2
          have t3 : x ≤ 18446744073709551615 := t3
          clear t4 HOK HER
          go_wp2_with fail
          refine (zag_any (x : Int) _ (by omega) (by omega)).mono ?_
          rintro e w2 ⟨rfl, rfl⟩
          go_wp2_with (first
            | (at_builtin; refine wpList_app1 w2 w rfl (.tmp 28) (.tmp 31) 33 rfl w.heap.size w.heap.size 2 .i64 8 i64sOf (.slice la acc.length lc) acc rfl hown (zagS x) rfl (by omega) (by decide) hbel (Nat.le_refl _) hsz ?_))
          intro a1 cap1 W1 own1 bel1
          clear hown hbel hsz
          have HH := hid own1
          have HB := hid bel1
          clear own1 bel1
          go_wp2_with fail
          go_roundw
          case rel => exact ⟨k + 1, cap + kk, acc ++ [zagS x], a1, cap1, by omega, by go_num, by go_num, by omega, by simp, by simp; omega, by simpa using HH.out, HB.out, by rw [← HE.out, HN.out, parseF_yes _ _ _ _ (by rw [HRR.out]), HRR.out, ← HDS.out, List.drop_drop]⟩
          case measure => simp [intOf]; omega
        · have h0 := HER.out hee
          obtain ⟨rfl, rfl, _⟩ := (h0 : x = 0 ∧ kk = 0 ∧ _)
          have hez : (((ee : Nat) : Int) != 0) = true := by simp; omega
          have HV2 : Go.RowKit.Hid (parseS zs n = ([], 0, ee)) := hid (by rw [HV.out, ← HE.out, HN.out, parseF_no _ _ _ _ (by rw [HRR.out]; exact hee), HRR.out])
          go_wp2_with fail
          go_ret3
          exact parse_none _ _ _ ee HV2.out hbel
      · go_wp2_with fail
        refine Calls.mono HT2.out ?_
        rintro e w1 ⟨rfl, rfl⟩
        unfold takeV
        by_cases hee : ee = 0
        · subst hee
          obtain ⟨t1, t2, t3, t4⟩ := HOK.out rfl
          have t1 : 1 ≤ kk := t1
          have t2 : kk ≤ ds.length := t2
          have t3 : x ≤ 18446744073709551615 := t3
          clear t4 HOK HER
          go_wp2_with fail
          refine (zag_any (x : Int) _ (by omega) (by omega)).mono ?_
          rintro e w2 ⟨rfl, rfl⟩
          go_wp2_with (first
            | (at_builtin; refine wpList_app1 w2 w rfl (.tmp 28) (.tmp 31) 33 rfl w.heap.size w.heap.size 2 .i64 8 i64sOf (.slice la acc.length lc) acc rfl hown (zagS x) rfl (by omega) (by decide) hbel (Nat.le_refl _) hsz ?_))
          intro a1 cap1 W1 own1 bel1
          clear hown hbel hsz
          have HH := hid own1
          have HB := hid bel1
          clear own1 bel1
          go_wp2_with fail
          go_roundw
          case rel => exact ⟨k + 1, m + kk, acc ++ [zagS x], a1, cap1, by omega, by go_num, by go_num, by omega, by simp, by simp; omega, by simpa using HH.out, HB.out, by rw [← HE.out, HN.out, parseF_yes _ _ _ _ (by rw [HRR.out]), HRR.out, ← HDS.out, List.drop_drop]⟩
          case measure => simp [intOf]; omega
        · have h0 := HER.out hee
          obtain ⟨rfl, rfl, _⟩ := (h0 : x = 0 ∧ kk = 0 ∧ _)
          have hez : (((ee : Nat) : Int) != 0) = true := by simp; omega
          have HV2 : Go.RowKit.Hid (parseS zs n = ([], 0, ee)) := hid (by rw [HV.out, ← HE.out, HN.out, parseF_no _ _ _ _ (by rw [HRR.out]; exact hee), HRR.out])
          go_wp2_with fail
          go_ret3
          exact parse_none _ _ _ ee HV2.out hbel
    · have HV2 : Go.RowKit.Hid (parseS zs n = (acc, m, 0)) := hid (by rw [HV.out, ← HE.out, show n.toNat - k = 0 from by omega]; rfl)
      go_wp2_with fail
      go_ret3
      unfold ParseOk
      rw [HV2.out]
      exact ⟨la, lc, rfl, hown, hbel⟩

set_option maxHeartbeats 1000000 in
theorem ints_any (a : Option Addr) (len cap : Nat) (l : List Int) (w : World) (hl : len ≤ 1000) (hsl : Sl .i64 w a len cap l) (hz : ∀ n ∈ l, (Lit.int .i64 n).wf = true) :
    Calls Try.prog 20 #[.slice a len cap] w fun e w' => ∃ a cap, e = .returned (.slice a (intsS l).length cap) ∧ Own .u8 5 w' w.heap.size (.slice a (intsS l).length cap) (intsS l) ∧ Below w.heap.size w w' := by
  obtain ⟨rfl, -, -, -, hr⟩ := hsl
  have hra : RowAt (w.alloc (.cells #[.slice none 0 0] 43)) w.heap.size [] := ⟨none, 0, cell_new _ _ rfl _ _, by simp, ⟨rfl, .inl ⟨rfl, rfl⟩⟩, by simp⟩
  have hbe0 : Below w.heap.size w (w.alloc (.cells #[.slice none 0 0] 43)) := (Below.refl _ _).alloc (Nat.le_refl _) _
  go_enter Try.func20, Try.ntmps20
  go_wp2_with fail
  go_loopw [11] (fun i wr => ∃ (k : Nat), k ≤ l.length ∧ i = .int .i64 k ∧ RowAt wr w.heap.size (intsS (l.take k)) ∧ Below w.heap.size w wr) (fun i _ => l.length - (intOf i).toNat)
  case atStart => exact ⟨0, Nat.zero_le _, rfl, hra, hbe0⟩
  case round =>
    obtain ⟨k, hk, rfl, hrow, hbel⟩ := hrel
    clear hra hbe0
    by_cases hlt : k < l.length
    · obtain ⟨b, off, rfl, hc0⟩ := hr k hlt
      have hc : wr.cell? ⟨b, off + k, none⟩ = some (.int .i64 (l.getD k 0)) := (hbel.cell (World.block_lt_of_cell? w _ hc0)).trans hc0
      have hb := bounds_i64 (hz _ (List.getElem_mem hlt))
      have he : l.getD k 0 = l[k] := by simp [hlt]
      rw [← he] at hb
      have htk : Go.RowKit.Hid (intsS (l.take (k + 1)) = intsS (l.take k) ++ putS (zigS (l.getD k 0)).toNat) := hid (by
        unfold intsS; rw [List.take_succ_eq_append_getElem hlt, List.flatMap_append, he]; simp only [List.flatMap_cons, List.flatMap_nil, List.append_nil])
      have hlk : (intsS (l.take k)).length ≤ 10 * (l.take k).length := ints_len _
      have hlk2 : (l.take k).length ≤ k := List.length_take_le _ _
      generalize l.getD k 0 = x at *
      have hzb := zig_bd x hb.1 hb.2
      clear he hc0 hr
      go_wp2_with fail
      refine (zig_any x _ hb.1 hb.2).mono ?_
      rintro e w1 ⟨rfl, rfl⟩
      obtain ⟨u, hu⟩ := Int.eq_ofNat_of_zero_le hzb.1
      have hu2 : u ≤ 18446744073709551615 := by omega
      have HU := hid hu
      rw [HU.out]
      clear hu hzb
      go_wp2_with fail
      refine (rowput_any u _ _ _ hu2 hrow (by omega)).mono ?_
      rintro e w2 ⟨rfl, hrow2, hbel2⟩
      clear hrow
      go_wp2_with fail
      go_roundw
      case rel => exact ⟨k + 1, by omega, by go_num, by rw [htk.out, HU.out]; exact hrow2, hbel.trans hbel2⟩
      case measure => simp [intOf]; omega
    · have hk2 : Go.RowKit.Hid (l.take k = l) := hid (by rw [show k = l.length from by omega, List.take_length])
      rw [hk2.out] at hrow
      obtain ⟨a1, cap1, hc1, hf1, hown1, hg1⟩ := hrow
      go_wp2_with fail
      go_ret
      exact ⟨a1, cap1, rfl, hown1.base (Nat.le_succ _), hbel⟩

theorem drew2 (w : World) (a b : Nat) : ∃ k, (w.drewN a).drewN b = w.drewN k := ⟨a + b, World.drewN_drewN w a b⟩

set_option maxHeartbeats 1000000 in
theorem same_any (a b : Option Addr) (la ca lb cb : Nat) (xs ys : List Int) (w : World) (h1 : Sl .i64 w a la ca xs) (h2 : Sl .i64 w b lb cb ys) (hb1 : la ≤ 1000000) (hb2 : lb ≤ 1000000) :
    Calls Try.prog 19 #[.slice a la ca, .slice b lb cb] w fun e w' => e = .returned (.bool (decide (xs = ys))) ∧ ∃ k, w' = w.drewN k := by
  obtain ⟨rfl, -, -, -, hr1⟩ := h1
  obtain ⟨rfl, -, -, -, hr2⟩ := h2
  by_cases hl : xs.length = ys.length
  · have hlz : ((xs.length : Int) != ys.length) = false := by simp [hl]
    go_enter Try.func19, Try.ntmps19
    go_wp2_with fail
    go_loopw [5] (fun i wr => ∃ (k nq : Nat), k ≤ xs.length ∧ i = .int .i64 k ∧ wr = w.drewN nq ∧ xs.take k = ys.take k) (fun i _ => xs.length - (intOf i).toNat)
    case atStart => exact ⟨0, 0, Nat.zero_le _, rfl, rfl, by simp⟩
    case round =>
      obtain ⟨k, nq, hk, rfl, rfl, he⟩ := hrel
      have HE := hid he
      clear he
      have HL := hid hl
      have hl1 : xs.length ≤ ys.length := by omega
      have hl2 : ys.length ≤ xs.length := by omega
      clear hl
      by_cases hlt : k < xs.length
      · obtain ⟨b1, o1, rfl, hc1⟩ := hr1 k hlt
        obtain ⟨b2, o2, rfl, hc2⟩ := hr2 k (by omega)
        have e1 : xs.getD k 0 = xs[k] := by simp [hlt]
        have e2 : ys.getD k 0 = ys[k] := by simp [show k < ys.length from by omega]
        have hlt2 : k < ys.length := by omega
        have t1 := hid (List.take_succ_eq_append_getElem hlt)
        have t2 := hid (List.take_succ_eq_append_getElem hlt2)
        have E1 := hid e1
        have E2 := hid e2
        generalize xs.getD k 0 = x at *
        generalize ys.getD k 0 = y at *
        clear hr1 hr2 e1 e2
        by_cases hxy : x = y
        · have hxz : (x != y) = false := by simp [hxy]
          have HX := hid hxy
          clear hxy
          go_wp2_with fail
          go_quiet (fail)
          go_wp2_with fail
          go_roundw
          case rel => exact ⟨k + 1, _, by omega, by go_num, rfl, by rw [t1.out, t2.out, HE.out, ← E1.out, ← E2.out, HX.out]⟩
          case measure => simp [intOf]; omega
        · have hxz : (x != y) = true := by simp [hxy]
          have hd : Go.RowKit.Hid (decide (xs = ys) = false) := hid (decide_eq_false (fun h => hxy (by rw [E1.out, E2.out]; simp [h])))
          clear hxy
          go_wp2_with fail
          go_quiet (fail)
          go_wp2_with fail
          go_ret
          exact ⟨ret_bool hd.out.symm, drew2 _ _ _⟩
      · have hd : Go.RowKit.Hid (decide (xs = ys) = true) := hid (decide_eq_true (by
          have h := HE.out
          rw [List.take_of_length_le (by omega), List.take_of_length_le (by omega)] at h
          exact h))
        go_wp2_with fail
        go_ret
        exact ⟨ret_bool hd.out.symm, _, rfl⟩
  · have hlz : ((xs.length : Int) != ys.length) = true := by simp; omega
    have hd : Go.RowKit.Hid (decide (xs = ys) = false) := hid (decide_eq_false (fun h => hl (by rw [h])))
    go_enter Try.func19, Try.ntmps19
    go_wp2_with fail
    go_ret
    exact ⟨ret_bool hd.out.symm, 0, rfl⟩

theorem take_ret (s : Int) (k n : Nat) (h : s = (n : Int)) : Ending.returned (.tuple #[.int .u64 s, .int .i64 ((k : Int) + 1), .int .i64 0]) = .returned (takeV (n, k + 1, 0)) := by
  subst h; rfl

set_option maxRecDepth 100000 in
set_option maxHeartbeats 2000000 in
theorem rtake_any (a : Option Addr) (len cap : Nat) (zs : List Int) (w : World) (hl : len ≤ 1000000) (hsl : Sl .u8 w a len cap zs) (hz : ∀ n ∈ zs, (Lit.int .u8 n).wf = true) :
    Calls Try.prog 15 #[.slice a len cap] w fun e w' => e = .returned (takeV (takeS zs 0 0)) ∧ w' = w := by
  obtain ⟨rfl, -, -, -, hr⟩ := hsl
  go_enter Try.func15, Try.ntmps15
  go_wp2_with fail
  go_loop [5, 6, 7] (fun u p i => ∃ (k m q : Nat), k ≤ zs.length ∧ k ≤ 9 ∧ i = .int .i64 k ∧ u = .int .u64 m ∧ p = .int .u64 q ∧ q = 128 ^ k ∧ m < 128 ^ k ∧ takeS (zs.drop k) k m = takeS zs 0 0) (fun _ _ i => zs.length - (intOf i).toNat)
  case atStart => exact ⟨0, 0, 1, Nat.zero_le _, Nat.zero_le _, rfl, rfl, rfl, by decide, by decide, rfl⟩
  case round =>
    obtain ⟨k, m, q, hk, hk9, rfl, rfl, rfl, hq, hm, hs⟩ := hrel
    have HS := hid hs
    have HM := hid hm
    have HQ := hid hq
    have hq9 : q ≤ 9223372036854775808 := by rw [hq]; exact pow128_le k hk9
    clear hs hm hq
    by_cases hlt : k < zs.length
    · obtain ⟨b, off, rfl, hc⟩ := hr k hlt
      have HD := hid (drop_step zs k hlt)
      have hb := bounds_u8 (hz _ (List.getElem_mem hlt))
      have he : zs.getD k 0 = zs[k] := by simp [hlt]
      rw [← he] at hb
      generalize zs.getD k 0 = x at *
      clear he hr hz
      obtain ⟨c, rfl⟩ := Int.eq_ofNat_of_zero_le hb.1
      by_cases h91 : k = 9 ∧ 1 < c
      · obtain ⟨rfl, h1⟩ := h91
        go_wp2
        go_ret3
        exact ⟨by rw [← HS.out, HD.out, takeS_tenth _ _ _ (by omega)]; rfl, rfl⟩
      · obtain ⟨_, hlt1, hlt2⟩ := take_or m c k (by omega) HM.out
        have hcm : Go.RowKit.Hid (((c : Int) % 128).toNat = c % 128) := hid (by omega)
        have hmul : (q : Int) * ((c : Int) % 128) = ((128 ^ k * (c % 128) : Nat) : Int) := by rw [HQ.out]; simp
        generalize HX : 128 ^ k * (c % 128) = X at *
        have HX2 := hid HX
        have hlt1h := hid hlt1
        clear HX hlt1
        have h9b : ((k : Int) == 9 && decide (1 < (c : Int))) = false := by
          by_cases h9 : k = 9
          · have : ¬ 1 < c := fun h => h91 ⟨h9, h⟩
            rw [decide_eq_false (by omega), Bool.and_false]
          · rw [show ((k : Int) == 9) = false from by simp; omega, Bool.false_and]
        by_cases h1 : 127 < c
        · have hk8 : k ≤ 8 := by omega
          have hq8 : q ≤ 72057594037927936 := by
            rw [HQ.out]; have := Nat.pow_le_pow_right (show 0 < 128 by decide) hk8; have e : (128 : Nat) ^ 8 = 72057594037927936 := by decide +kernel
            omega
          have hk9f : ((k : Int) == 9) = false := by simp; omega
          go_wp2
          go_round
          case rel => exact ⟨k + 1, m + X, q * 128, by omega, by omega, by go_num, by go_num, by go_num, by rw [HQ.out, Nat.pow_succ], hlt1h.out, by rw [← HS.out, HD.out, takeS_more _ _ _ _ (by omega) (by omega), hcm.out, HX2.out]⟩
          case measure => simp [intOf]; omega
        · by_cases h0 : c = 0 ∧ 0 < k
          · obtain ⟨hc0, hk0⟩ := h0
            have hcz : ((c : Int) == 0) = true := by simp [hc0]
            have HC := hid hc0
            clear hc0 h91
            have hc1 : c ≤ 1 := by have := HC.out; omega
            by_cases hk9e : k = 9
            · have hk9f : ((k : Int) == 9) = true := by simp [hk9e]
              have HK := hid hk9e
              clear hk9e
              go_wp2
              go_ret3
              exact ⟨by rw [← HS.out, HD.out, takeS_zero _ _ _ _ (by have := HC.out; omega) (by omega)]; rfl, rfl⟩
            · have hk9f : ((k : Int) == 9) = false := by simp; omega
              clear hk9e
              go_wp2
              go_ret3
              exact ⟨by rw [← HS.out, HD.out, takeS_zero _ _ _ _ (by have := HC.out; omega) (by omega)]; rfl, rfl⟩
          · have HV : Go.RowKit.Hid (takeS zs 0 0 = (m + X, k + 1, 0)) := hid (by rw [← HS.out, HD.out, takeS_last _ _ _ _ (by omega) (by omega) (by omega), hcm.out, HX2.out])
            by_cases hk9e : k = 9
            · have hk9f : ((k : Int) == 9) = true := by simp [hk9e]
              have hc1 : c ≤ 1 := by omega
              have hc2 : 1 ≤ c := by omega
              have hcz : ((c : Int) == 0) = false := by simp; omega
              have hk1 : 1 ≤ k := by omega
              clear hk9e h91 h0
              go_wp2
              go_ret3
              exact ⟨by rw [HV.out]; exact take_ret _ _ _ (by omega), rfl⟩
            · have hk9f : ((k : Int) == 9) = false := by simp; omega
              clear hk9e h91
              by_cases hc0 : c = 0
              · have hcz : ((c : Int) == 0) = true := by simp [hc0]
                have hk0 : k ≤ 0 := by omega
                clear hc0 h0
                go_wp2
                go_ret3
                exact ⟨by rw [HV.out]; exact take_ret _ _ _ (by omega), rfl⟩
              · have hcz : ((c : Int) == 0) = false := by simp; omega
                clear hc0 h0
                go_wp2
                go_ret3
                exact ⟨by rw [HV.out]; exact take_ret _ _ _ (by omega), rfl⟩
    · go_wp2
      go_ret3
      exact ⟨by rw [← HS.out, show k = zs.length from by omega, List.drop_length, takeS_nil]; rfl, rfl⟩

set_option maxHeartbeats 2000000 in
theorem rparse_any (a : Option Addr) (len cap : Nat) (zs : List Int) (n : Int) (w : World) (hn1 : -9223372036854775808 ≤ n) (hn2 : n ≤ 9223372036854775807) (hl : len ≤ 1000000) (hsl : Sl .u8 w a len cap zs) (hz : ∀ n ∈ zs, (Lit.int .u8 n).wf = true) :
    Calls Try.prog 17 #[.slice a len cap, .int .i64 n] w (ParseOk w (parseS zs n)) := by
  by_cases hneg : n < 0
  · have HV : Go.RowKit.Hid (parseS zs n = ([], 0, 1)) := hid (if_pos hneg)
    go_enter Try.func17, Try.ntmps17
    go_wp2_with fail
    go_ret3
    exact parse_none _ _ _ 1 HV.out (Below.refl _ _)
  have HV : Go.RowKit.Hid (parseS zs n = parseF n.toNat zs [] 0) := hid (if_neg hneg)
  have hz255 : ∀ c ∈ zs, 0 ≤ c ∧ c ≤ 255 := fun c hc => bounds_u8 (hz c hc)
  have hlen := hsl.1
  go_enter Try.func17, Try.ntmps17
  go_wp2_with fail
  go_loopw [7, 8, 9] (fun l at1 i wr => ∃ (k m : Nat) (acc : List Int) (la : Option Addr) (lc : Nat), (k : Int) ≤ n ∧ i = .int .i64 k ∧ at1 = .int .i64 m ∧ m ≤ len ∧ l = .slice la acc.length lc ∧ acc.length ≤ m ∧
      Own .i64 2 wr w.heap.size (.slice la acc.length lc) acc ∧ Below w.heap.size w wr ∧ parseF (n.toNat - k) (zs.drop m) acc m = parseF n.toNat zs [] 0) (fun _ _ i _ => n.toNat - (intOf i).toNat)
  case atStart => exact ⟨0, 0, [], none, 0, by omega, rfl, rfl, by omega, rfl, by simp, Own.nil _ _ _ _, Below.refl _ _, rfl⟩
  case round =>
    obtain ⟨k, m, acc, la, lc, hk, rfl, rfl, hm, rfl, hacc, hown, hbel, he⟩ := hrel
    have HE := hid he
    have hsz := hbel.size
    clear he
    by_cases hlt : (k : Int) < n
    · have hsl1 := hsl.below hbel
      have hend := fun h => hsl1.end m hm h
      have hdrop := hsl1.drop m hm
      have hzd : ∀ c ∈ zs.drop m, (Lit.int .u8 c).wf = true := fun c hc => hz c (List.mem_of_mem_drop hc)
      have hzd2 : ∀ c ∈ zs.drop m, 0 ≤ c ∧ c ≤ 255 := fun c hc => hz255 c (List.mem_of_mem_drop hc)
      have hdl : (zs.drop m).length = len - m := by rw [List.length_drop, hlen]
      have HOK := hid (takeS_ok (zs.drop m) hzd2)
      have HER := hid (takeS_err (zs.drop m) 0 0)
      have HN : Go.RowKit.Hid (n.toNat - k = (n.toNat - (k + 1)) + 1) := hid (by omega)
      generalize HDS0 : zs.drop m = ds at *
      have HDS := hid HDS0
      clear HDS0
      generalize HR : takeS ds 0 0 = r at *
      have HRR := hid HR
      clear HR
      obtain ⟨x, kk, ee⟩ := r
      have hT : Calls Try.prog 15 #[.slice a (len - m) 0] wr (fun e w' => e = .returned (takeV (x, kk, ee)) ∧ w' = wr) ∨ cap ≠ m := by
        by_cases hcap : cap = m
        · left
          have := rtake_any a (len - m) 0 ds wr (by omega) (hend hcap) hzd
          rw [HRR.out] at this; exact this
        · exact .inr hcap
      have hT2 : Calls Try.prog 15 #[.slice (Option.map (fun x => x.add m) a) (len - m) (cap - m)] wr (fun e w' => e = .returned (takeV (x, kk, ee)) ∧ w' = wr) := by
        have := rtake_any _ (len - m) (cap - m) ds wr (by omega) hdrop hzd
        rw [HRR.out] at this; exact this
      have HT := hid hT
      have HT2 := hid hT2
      clear hT hT2 hend hdrop hsl1
      by_cases hcap : cap = m
      · subst hcap
        go_wp2_with fail
        refine Calls.mono (HT.out.resolve_right (by simp)) ?_
        rintro e w1 ⟨rfl, rfl⟩
        unfold takeV
        by_cases hee : ee = 0
        · subst hee
          obtain ⟨t1, t2, t3, t4⟩ := HOK.out rfl
          have t1 : 1 ≤ kk := t1
          have t2 : kk ≤ ds.length := t2
          have t3 : x ≤ 18446744073709551615 := t3
          clear t4 HOK HER
          go_wp2_with fail
          refine (rzag_any (x : Int) _ (by omega) (by omega)).mono ?_
          rintro e w2 ⟨rfl, rfl⟩
          go_wp2_with (first
            | (at_builtin; refine wpList_app1 w2 w rfl (.tmp 31) (.tmp 34) 33 rfl w.heap.size w.heap.size 2 .i64 8 i64sOf (.slice la acc.length lc) acc rfl hown (zagS x) rfl (by omega) (by decide) hbel (Nat.le_refl _) hsz ?_))
          intro a1 cap1 W1 own1 bel1
          clear hown hbel hsz
          have HH := hid own1
          have HB := hid bel1
          clear own1 bel1
          go_wp2_with fail
          go_roundw
          case rel => exact ⟨k + 1, cap + kk, acc ++ [zagS x], a1, cap1, by omega, by go_num, by go_num, by omega, by simp, by simp; omega, by simpa using HH.out, HB.out, by rw [← HE.out, HN.out, parseF_yes _ _ _ _ (by rw [HRR.out]), HRR.out, ← HDS.out, List.drop_drop]⟩
          case measure => simp [intOf]; omega
        · have h0 := HER.out hee
          obtain ⟨rfl, rfl, _⟩ := (h0 : x = 0 ∧ kk = 0 ∧ _)
          have hez : (((ee : Nat) : Int) != 0) = true := by simp; omega
          have HV2 : Go.RowKit.Hid (parseS zs n = ([], 0, ee)) := hid (by rw [HV.out, ← HE.out, HN.out, parseF_no _ _ _ _ (by rw [HRR.out]; exact hee), HRR.out])
          go_wp2_with fail
          go_ret3
          exact parse_none _ _ _ ee HV2.out hbel
      · go_wp2_with fail
        refine Calls.mono HT2.out ?_
        rintro e w1 ⟨rfl, rfl⟩
        unfold takeV
        by_cases hee : ee = 0
        · subst hee
          obtain ⟨t1, t2, t3, t4⟩ := HOK.out rfl
          have t1 : 1 ≤ kk := t1
          have t2 : kk ≤ ds.length := t2
          have t3 : x ≤ 18446744073709551615 := t3
          clear t4 HOK HER
          go_wp2_with fail
          refine (rzag_any (x : Int) _ (by omega) (by omega)).mono ?_
          rintro e w2 ⟨rfl, rfl⟩
          go_wp2_with (first
            | (at_builtin; refine wpList_app1 w2 w rfl (.tmp 31) (.tmp 34) 33 rfl w.heap.size w.heap.size 2 .i64 8 i64sOf (.slice la acc.length lc) acc rfl hown (zagS x) rfl (by omega) (by decide) hbel (Nat.le_refl _) hsz ?_))
          intro a1 cap1 W1 own1 bel1
          clear hown hbel hsz
          have HH := hid own1
          have HB := hid bel1
          clear own1 bel1
          go_wp2_with fail
          go_roundw
          case rel => exact ⟨k + 1, m + kk, acc ++ [zagS x], a1, cap1, by omega, by go_num, by go_num, by omega, by simp, by simp; omega, by simpa using HH.out, HB.out, by rw [← HE.out, HN.out, parseF_yes _ _ _ _ (by rw [HRR.out]), HRR.out, ← HDS.out, List.drop_drop]⟩
          case measure => simp [intOf]; omega
        · have h0 := HER.out hee
          obtain ⟨rfl, rfl, _⟩ := (h0 : x = 0 ∧ kk = 0 ∧ _)
          have hez : (((ee : Nat) : Int) != 0) = true := by simp; omega
          have HV2 : Go.RowKit.Hid (parseS zs n = ([], 0, ee)) := hid (by rw [HV.out, ← HE.out, HN.out, parseF_no _ _ _ _ (by rw [HRR.out]; exact hee), HRR.out])
          go_wp2_with fail
          go_ret3
          exact parse_none _ _ _ ee HV2.out hbel
    · have HV2 : Go.RowKit.Hid (parseS zs n = (acc, m, 0)) := hid (by rw [HV.out, ← HE.out, show n.toNat - k = 0 from by omega]; rfl)
      go_wp2_with fail
      go_ret3
      unfold ParseOk
      rw [HV2.out]
      exact ⟨la, lc, rfl, hown, hbel⟩

end Go.Proofs.Ytdhebbflpdnfiaa
