/- The law VaryBack, walked: it returns true. -/
import Derived.Test.YtdhebbflpdnfiaaLaw03
namespace Go.Proofs.Ytdhebbflpdnfiaa
open Go.ChangeShapes Go.WideShapes Go.ChangeAt Go.RowKit
set_option linter.unusedVariables false

set_option maxRecDepth 100000 in
set_option maxHeartbeats 4000000 in
theorem law_VaryBack (a0 : Option Addr) (len0 cap0 : Nat) (z0 : List Int) (a1 : Option Addr) (len1 cap1 : Nat) (z1 : List Int) (w : World) (w0 : IsRow .i64 w a0 len0 cap0 z0) (w1 : IsRow .u8 w a1 len1 cap1 z1) :
    Calls Try.prog 5 #[.slice a0 len0 cap0, .slice a1 len1 cap1] w fun e w' => e = .returned (.bool true) ∧ Below w.heap.size w w' := by
  obtain ⟨hsl0, hz0⟩ := w0.sl
  obtain ⟨hsl1, hz1⟩ := w1.sl
  clear w0 w1
  generalize z0.take len0 = l at *
  generalize z1.take len1 = bs at *
  have hm0 := hsl0.2.1
  have hm1 := hsl1.2.1
  have hn0 := hsl0.2.2.1
  have hn1 := hsl1.2.2.1
  unfold maxLen at hn0 hn1
  by_cases c0 : (100 : Int) < len0
  · go_enter Try.func5, Try.ntmps5
    go_wp2_with fail
    refine (knows03_any _).mono ?_
    rintro e w1 ⟨rfl, hb⟩
    go_wp2_with fail
    go_ret
    exact ⟨rfl, hb⟩
  by_cases c1 : (1000 : Int) < len1
  · go_enter Try.func5, Try.ntmps5
    go_wp2_with fail
    refine (knows03_any _).mono ?_
    rintro e w1 ⟨rfl, hb⟩
    go_wp2_with fail
    go_ret
    exact ⟨rfl, hb⟩
  have hzb0 : ∀ n ∈ l, -9223372036854775808 ≤ n ∧ n ≤ 9223372036854775807 := fun n hn => bounds_i64 (hz0 n hn)
  have hpi := hid (parse_ints l hzb0 bs [] 0)
  have hil := ints_len l
  have hl0 := hsl0.1
  have hl1 := hsl1.1
  have hzc : Go.RowKit.Hid (∀ n ∈ intsS l ++ bs, (Lit.int .u8 n).wf = true) := hid (by
    intro n hn
    rcases List.mem_append.1 hn with h | h
    · exact ints_wf l hzb0 n h
    · exact hz1 n h)
  go_enter Try.func5, Try.ntmps5
  go_wp2_with fail
  refine (knows03_any _).mono ?_
  rintro e w1 ⟨rfl, hb1⟩
  have hs0 := hsl0.below hb1
  have hs1 := hsl1.below hb1
  go_wp2_with fail
  refine (ints_any _ _ _ l _ (by omega) hs0 hz0).mono ?_
  rintro e w2 ⟨ad2, cp2, rfl, own2, bel2⟩
  obtain ⟨_, _, hv, hs2⟩ := own2.sl
  cases hv
  clear own2
  have hs0 := hs0.below bel2
  have hs1 := hs1.below bel2
  have hb2 := bthen hb1 bel2
  clear hb1 bel2 hsl0 hsl1
  have be3 : Below w2.heap.size w2 (w2.alloc (.cells #[] 5)) := (Below.refl _ _).alloc (Nat.le_refl _) _
  have ho := Own.lit .u8 5 w2 [] w2.heap.size (Nat.le_refl _) (by simp) #[] rfl
  have hs2a := hs2.below be3
  have sz3 := be3.size
  go_wp2_with (first
    | (at_builtin; refine wpList_appS _ w2 rfl (.tmp 29) (.tmp 30) 25 rfl w2.heap.size w2.heap.size 5 .u8 1 bytesOf (.slice (some ⟨w2.heap.size, 0, none⟩) 0 0) [] rfl ho ad2 _ cp2 (intsS l) rfl hs2a (by simp; omega) (by decide) be3 (Nat.le_refl _) sz3 ?_))
  intro a3 c3 w3 own3 bel3
  have sz4 := bel3.size
  have hs1b := hs1.below bel3
  clear be3 ho hs2a sz3
  go_wp2_with (first
    | (at_builtin; refine wpList_appS _ w2 rfl (.tmp 31) (.tmp 32) 25 rfl w2.heap.size w2.heap.size 5 .u8 1 bytesOf (.slice a3 (intsS l).length c3) (intsS l) rfl own3 a1 _ cap1 bs rfl hs1b (by simp; omega) (by decide) bel3 (Nat.le_refl _) sz4 ?_))
  intro a4 c4 w4 own4 bel4
  obtain ⟨_, _, hv, hs4⟩ := own4.sl
  rw [List.length_append, hl1] at hv hs4
  cases hv
  clear own3 own4 bel3 hs1b sz4
  have hs0 := hs0.below bel4
  have hs1 := hs1.below bel4
  have hs2 := hs2.below bel4
  have hb4 := bthen hb2 bel4
  clear hb2 bel4
  go_wp2_with fail
  refine (parse_any _ _ _ (intsS l ++ bs) _ _ (by omega) (by omega) (by omega) hs4 hzc.out).mono ?_
  rintro e w5 ⟨p5, q5, rfl, own5, bel5⟩
  have hP : parseS (intsS l ++ bs) (len0 : Int) = (l, (intsS l).length, 0) := by
    unfold parseS
    rw [if_neg (by omega), Int.toNat_natCast, ← hl0, hpi.out, List.nil_append, Nat.zero_add]
  rw [hP] at own5 ⊢
  clear hP hpi hzc hs4
  obtain ⟨_, _, hv, hs5⟩ := Own.sl (zs := l) own5
  cases hv
  rw [hl0] at hs5
  clear own5
  have hs0 := hs0.below bel5
  have hs1 := hs1.below bel5
  have hb5 := bthen hb4 bel5
  clear hb4 bel5
  have HS := hid (same_any a0 p5 _ _ _ _ l l w5 hs0 hs5 (by omega) (by omega))
  go_wp2_with fail
  refine Calls.mono HS.out ?_
  rintro e w6 ⟨rfl, kk, rfl⟩
  simp only [decide_true]
  have hs0 := hs0.drewN kk
  have hs1 := hs1.drewN kk
  have hb6 := bdrewN hb5 kk
  clear hb5 HS hs5 hs2
  generalize w5.drewN kk = w6 at *
  go_wp2_with fail
  refine (num_any _ _ (by omega) (by omega)).mono ?_
  rintro e w7 ⟨rfl, rfl⟩
  go_wp2_with fail
  go_loopw [9] (fun i wr => ∃ (k : Nat), k ≤ len0 ∧ i = .int .i64 k ∧ After w7 wr) (fun i _ => len0 - (intOf i).toNat)
  case atStart => exact ⟨0, Nat.zero_le _, rfl, After.refl _⟩
  case round =>
    obtain ⟨k, hk, rfl, haf⟩ := hrel
    have hs0 := hs0.below haf
    have hs1 := hs1.below haf
    have hb7 := bthen hb6 haf
    by_cases hlt : k < len0
    · obtain ⟨b, off, rfl, hc⟩ := hs0.2.2.2.2 k (by omega)
      have hlk : k < l.length := by omega
      have hxb := hzb0 _ (List.getElem_mem hlk)
      have hex : l.getD k 0 = l[k] := by simp [hlk]
      rw [← hex] at hxb
      generalize l.getD k 0 = x at *
      have hzb := zig_bd x hxb.1 hxb.2
      obtain ⟨u, hu⟩ := Int.eq_ofNat_of_zero_le hzb.1
      have hu2 : u ≤ 18446744073709551615 := by omega
      have HU := hid hu
      clear hu hex hs0 hs1 hzb0 hz0 hz1 hb7
      have hi0 : (0 : Int) ≤ (k : Int) := by omega
      have hi1 : (k : Int) < (len0 : Int) := by omega
      go_wp2_with fail
      refine wp_region_R (by kernel_rfl) ?_
      refine wpAnyR_take 0 rfl (by kernel_rfl) (by kernel_rfl) (by kernel_rfl) (fun _ _ _ _ h => h) ?_
      apply Exists.intro
      refine ⟨Or.inl ⟨by rfl, fun w' hb => ?_⟩, ?_⟩
      · (go_simp; try with_reducible rfl)
      apply Exists.intro
      refine ⟨?_, ?_⟩
      · (go_simp; try rfl)
      refine wpAnyR_take 1 rfl (by kernel_rfl) (by kernel_rfl) (by kernel_rfl) (fun _ _ _ _ h => h) ?_
      apply Exists.intro
      refine ⟨Or.inl ⟨by rfl, fun w' hb => ?_⟩, ?_⟩
      · (go_simp; try with_reducible rfl)
      apply Exists.intro
      refine ⟨?_, ?_⟩
      · (go_simp; try rfl)
      refine wpAnyR_take 2 rfl (by kernel_rfl) (by kernel_rfl) (by kernel_rfl) (fun _ _ _ _ h => h) ?_
      apply Exists.intro
      refine ⟨Or.inl ⟨by rfl, fun w' hb => ?_⟩, ?_⟩
      · (go_simp; try with_reducible rfl)
      apply Exists.intro
      refine ⟨?_, ?_⟩
      · (go_simp; try rfl)
      refine wpAnyR_take 3 rfl (by kernel_rfl) (by kernel_rfl) (by kernel_rfl) (fun _ _ _ _ h => h) ?_
      apply Exists.intro
      refine ⟨Or.inl ⟨by rfl, fun w' hb => ?_⟩, ?_⟩
      · have hc1 := hb.cellB hc
        go_simp
        try with_reducible rfl
      apply Exists.intro
      refine ⟨?_, ?_⟩
      · (go_simp; try rfl)
      refine wpAnyR_take 6 rfl (by kernel_rfl) (by kernel_rfl) (by kernel_rfl) (fun _ _ _ _ h => h) ?_
      apply Exists.intro
      refine ⟨Or.inl ⟨by rfl, fun w' hb => ?_⟩, ?_⟩
      · (go_simp; try with_reducible rfl)
      apply Exists.intro
      refine ⟨?_, ?_⟩
      · (go_simp; try rfl)
      refine wpAnyR_take 7 rfl (by kernel_rfl) (by kernel_rfl) (by kernel_rfl) (fun _ _ _ _ h => h) ?_
      apply Exists.intro
      refine ⟨Or.inl ⟨by rfl, fun w' hb => ?_⟩, ?_⟩
      · (go_simp; try with_reducible rfl)
      apply Exists.intro
      refine ⟨?_, ?_⟩
      · (go_simp; try rfl)
      refine wpAnyR_take 8 rfl (by kernel_rfl) (by kernel_rfl) (by kernel_rfl) (fun _ _ _ _ h => h) ?_
      apply Exists.intro
      refine ⟨Or.inl ⟨by rfl, fun w' hb => ?_⟩, ?_⟩
      · (go_simp; try with_reducible rfl)
      apply Exists.intro
      refine ⟨?_, ?_⟩
      · (go_simp; try rfl)
      refine wpAnyR_take 9 rfl (by kernel_rfl) (by kernel_rfl) (by kernel_rfl) (fun _ _ _ _ h => h) ?_
      apply Exists.intro
      refine ⟨Or.inl ⟨by rfl, fun w' hb => ?_⟩, ?_⟩
      · have hc1 := hb.cellB hc
        go_simp
        try with_reducible rfl
      apply Exists.intro
      refine ⟨?_, ?_⟩
      · (go_simp; try rfl)
      refine wpAnyR_only 4 rfl (by kernel_rfl) (by rfl) (fun K hK => ?_)
      go_simp
      refine (zig_any x _ hxb.1 hxb.2).mono ?_
      rintro e v ⟨rfl, rfl⟩
      go_wp2_with fail
      refine ⟨After.refl _, ?_⟩
      refine wpAnyR_only 5 rfl (by kernel_rfl) (by rfl) (fun K hK => ?_)
      go_simp
      refine (zag_any (zigS x) _ hzb.1 hzb.2).mono ?_
      rintro e v ⟨rfl, rfl⟩
      rw [zag_zig]
      go_wp2_with fail
      refine ⟨After.refl _, ?_⟩
      refine wpAnyR_take 10 rfl (by kernel_rfl) (by kernel_rfl) (by kernel_rfl) (fun _ _ _ _ h => h) ?_
      apply Exists.intro
      refine ⟨Or.inl ⟨by rfl, fun w' hb => ?_⟩, ?_⟩
      · (go_simp; try with_reducible rfl)
      apply Exists.intro
      refine ⟨?_, ?_⟩
      · (go_simp; try rfl)
      refine wpAnyR_take 11 rfl (by kernel_rfl) (by kernel_rfl) (by kernel_rfl) (fun _ _ _ _ h => h) ?_
      apply Exists.intro
      refine ⟨Or.inl ⟨by rfl, fun w' hb => ?_⟩, ?_⟩
      · (go_simp; try with_reducible rfl)
      apply Exists.intro
      refine ⟨?_, ?_⟩
      · (go_simp; try rfl)
      refine wpAnyR_take 12 rfl (by kernel_rfl) (by kernel_rfl) (by kernel_rfl) (fun _ _ _ _ h => h) ?_
      apply Exists.intro
      refine ⟨Or.inl ⟨by rfl, fun w' hb => ?_⟩, ?_⟩
      · (go_simp; try with_reducible rfl)
      apply Exists.intro
      refine ⟨?_, ?_⟩
      · (go_simp; try rfl)
      refine wpAnyR_take 13 rfl (by kernel_rfl) (by kernel_rfl) (by kernel_rfl) (fun _ _ _ _ h => h) ?_
      apply Exists.intro
      refine ⟨Or.inl ⟨by rfl, fun w' hb => ?_⟩, ?_⟩
      · (go_simp; try with_reducible rfl)
      apply Exists.intro
      refine ⟨?_, ?_⟩
      · (go_simp; try rfl)
      refine wpAnyR_take 14 rfl (by kernel_rfl) (by kernel_rfl) (by kernel_rfl) (fun _ _ _ _ h => h) ?_
      apply Exists.intro
      refine ⟨Or.inl ⟨by rfl, fun w' hb => ?_⟩, ?_⟩
      · (go_simp; try with_reducible rfl)
      apply Exists.intro
      refine ⟨?_, ?_⟩
      · (go_simp; try rfl)
      refine wpAnyR_take 15 rfl (by kernel_rfl) (by kernel_rfl) (by kernel_rfl) (fun _ _ _ _ h => h) ?_
      apply Exists.intro
      refine ⟨Or.inl ⟨by rfl, fun w' hb => ?_⟩, ?_⟩
      · have hc1 := hb.cellB hc
        go_simp
        try with_reducible rfl
      apply Exists.intro
      refine ⟨?_, ?_⟩
      · (go_simp; try rfl)
      refine wpAnyR_take 18 rfl (by kernel_rfl) (by kernel_rfl) (by kernel_rfl) (fun _ _ _ _ h => h) ?_
      apply Exists.intro
      refine ⟨Or.inl ⟨by rfl, fun w' hb => ?_⟩, ?_⟩
      · (go_simp; try with_reducible rfl)
      apply Exists.intro
      refine ⟨?_, ?_⟩
      · (go_simp; try rfl)
      refine wpAnyR_take 19 rfl (by kernel_rfl) (by kernel_rfl) (by kernel_rfl) (fun _ _ _ _ h => h) ?_
      apply Exists.intro
      refine ⟨Or.inl ⟨by rfl, fun w' hb => ?_⟩, ?_⟩
      · (go_simp; try with_reducible rfl)
      apply Exists.intro
      refine ⟨?_, ?_⟩
      · (go_simp; try rfl)
      refine wpAnyR_take 20 rfl (by kernel_rfl) (by kernel_rfl) (by kernel_rfl) (fun _ _ _ _ h => h) ?_
      apply Exists.intro
      refine ⟨Or.inl ⟨by rfl, fun w' hb => ?_⟩, ?_⟩
      · (go_simp; try with_reducible rfl)
      apply Exists.intro
      refine ⟨?_, ?_⟩
      · (go_simp; try rfl)
      refine wpAnyR_take 21 rfl (by kernel_rfl) (by kernel_rfl) (by kernel_rfl) (fun _ _ _ _ h => h) ?_
      apply Exists.intro
      refine ⟨Or.inl ⟨by rfl, fun w' hb => ?_⟩, ?_⟩
      · have hc1 := hb.cellB hc
        go_simp
        try with_reducible rfl
      apply Exists.intro
      refine ⟨?_, ?_⟩
      · (go_simp; try rfl)
      refine wpAnyR_only 16 rfl (by kernel_rfl) (by rfl) (fun K hK => ?_)
      go_simp
      refine (zig_any x _ hxb.1 hxb.2).mono ?_
      rintro e v ⟨rfl, rfl⟩
      go_wp2_with fail
      refine ⟨After.refl _, ?_⟩
      refine wpAnyR_only 17 rfl (by kernel_rfl) (by rfl) (fun K hK => ?_)
      go_simp
      rw [HU.out]
      refine (size_any u _ hu2).mono ?_
      rintro e v ⟨rfl, rfl⟩
      go_wp2_with fail
      refine ⟨After.refl _, ?_⟩
      refine wpAnyR_only 22 rfl (by kernel_rfl) (by rfl) (fun K hK => ?_)
      go_simp
      refine (zig_any x _ hxb.1 hxb.2).mono ?_
      rintro e v ⟨rfl, rfl⟩
      go_wp2_with fail
      refine ⟨After.refl _, ?_⟩
      refine wpAnyR_only 23 rfl (by kernel_rfl) (by rfl) (fun K hK => ?_)
      go_simp
      rw [HU.out]
      refine (put_any u _ hu2).mono ?_
      rintro e v5 ⟨ad5, cp5, rfl, own5, bel5⟩
      clear own5
      go_wp2_with fail
      refine ⟨bel5, ?_⟩
      refine wpAnyR_take 24 rfl (by kernel_rfl) (by kernel_rfl) (by kernel_rfl) (fun _ _ _ _ h => h) ?_
      apply Exists.intro
      refine ⟨Or.inl ⟨by rfl, fun w' hb => ?_⟩, ?_⟩
      · (go_simp; try with_reducible rfl)
      apply Exists.intro
      refine ⟨?_, ?_⟩
      · (go_simp; try rfl)
      refine wpAnyR_take 25 rfl (by kernel_rfl) (by kernel_rfl) (by kernel_rfl) (fun _ _ _ _ h => h) ?_
      apply Exists.intro
      refine ⟨Or.inl ⟨by rfl, fun w' hb => ?_⟩, ?_⟩
      · (go_simp; try with_reducible rfl)
      apply Exists.intro
      refine ⟨?_, ?_⟩
      · (go_simp; try rfl)
      refine wpAnyR_take 26 rfl (by kernel_rfl) (by kernel_rfl) (by kernel_rfl) (fun _ _ _ _ h => h) ?_
      apply Exists.intro
      refine ⟨Or.inl ⟨by rfl, fun w' hb => ?_⟩, ?_⟩
      · (go_simp; try with_reducible rfl)
      apply Exists.intro
      refine ⟨?_, ?_⟩
      · (go_simp; try rfl)
      refine wpAnyR_done (by kernel_rfl) ?_ _
      go_wp2_with fail
      go_roundw
      case rel => exact ⟨k + 1, by omega, by go_num, haf.trans (After.trans (Below.refl _ _).drew bel5)⟩
      case measure => simp [intOf]; omega
    · have hz255 : ∀ c ∈ bs, 0 ≤ c ∧ c ≤ 255 := fun c hc => bounds_u8 (hz1 c hc)
      have HT := hid (take_any _ _ _ bs wr (by omega) hs1 hz1)
      have HOK := hid (takeS_ok bs hz255)
      have HER := hid (takeS_err bs 0 0)
      generalize HR : takeS bs 0 0 = r at *
      obtain ⟨tu, tk, te⟩ := r
      have hte : te = 0 ∨ te = 2 ∨ te = 3 := by
        by_cases h : te = 0
        · exact .inl h
        · exact .inr (HER.out h).2.2
      clear HR
      go_wp2_with fail
      refine Calls.mono HT.out ?_
      rintro e w8 ⟨rfl, rfl⟩
      unfold takeV
      go_wp2_with fail
      refine (num_any _ _ (by show _ ≤ (te : Int); omega) (by show (te : Int) ≤ _; omega)).mono ?_
      rintro e w9 ⟨rfl, rfl⟩
      by_cases hee : te = 0
      · subst hee
        obtain ⟨t1, t2, ht3, t4⟩ := HOK.out rfl
        have t1 : 1 ≤ tk := t1
        have t2 : tk ≤ len1 := by rw [← hl1]; exact t2
        have ht3 : tu ≤ 18446744073709551615 := ht3
        have TB : ∀ w', After w9.drew w' → (convert 25 9 (.slice a1 tk cap1)).run Try.prog w' = .ok (.string (textOf (putS tu))) w' := by
          intro w' hw
          have e : putS tu = bs.take tk := t4
          rw [e]
          exact ((hs1.take tk t2).below (After.trans (Below.refl _ _).drew hw)).text 25 9 5 Try.underlying25 Try.underlying5 Try.underlying9
        have ti1 : (1 : Int) ≤ (tk : Int) := by omega
        have ti3 : tk ≤ cap1 := by omega
        have ti2 : (tk : Int) ≤ (len1 : Int) := by omega
        clear t4 HOK HER HT hz255 hs0 hs1 hzb0 hz0 hz1
        go_wp2_with fail
        refine wp_region_R (by kernel_rfl) ?_
        refine wpAnyR_take 0 rfl (by kernel_rfl) (by kernel_rfl) (by kernel_rfl) (fun _ _ _ _ h => h) ?_
        apply Exists.intro
        refine ⟨Or.inl ⟨by rfl, fun w' hb => ?_⟩, ?_⟩
        · (go_simp; try with_reducible rfl)
        apply Exists.intro
        refine ⟨?_, ?_⟩
        · (go_simp; try rfl)
        refine wpAnyR_take 1 rfl (by kernel_rfl) (by kernel_rfl) (by kernel_rfl) (fun _ _ _ _ h => h) ?_
        apply Exists.intro
        refine ⟨Or.inl ⟨by rfl, fun w' hb => ?_⟩, ?_⟩
        · (go_simp; try with_reducible rfl)
        apply Exists.intro
        refine ⟨?_, ?_⟩
        · (go_simp; try rfl)
        refine wpAnyR_take 2 rfl (by kernel_rfl) (by kernel_rfl) (by kernel_rfl) (fun _ _ _ _ h => h) ?_
        apply Exists.intro
        refine ⟨Or.inl ⟨by rfl, fun w' hb => ?_⟩, ?_⟩
        · (go_simp; try with_reducible rfl)
        apply Exists.intro
        refine ⟨?_, ?_⟩
        · (go_simp; try rfl)
        refine wpAnyR_take 3 rfl (by kernel_rfl) (by kernel_rfl) (by kernel_rfl) (fun _ _ _ _ h => h) ?_
        apply Exists.intro
        refine ⟨Or.inl ⟨by rfl, fun w' hb => ?_⟩, ?_⟩
        · (go_simp; try with_reducible rfl)
        apply Exists.intro
        refine ⟨?_, ?_⟩
        · (go_simp; try rfl)
        refine wpAnyR_take 4 rfl (by kernel_rfl) (by kernel_rfl) (by kernel_rfl) (fun _ _ _ _ h => h) ?_
        apply Exists.intro
        refine ⟨Or.inl ⟨by rfl, fun w' hb => ?_⟩, ?_⟩
        · (go_simp; try with_reducible rfl)
        apply Exists.intro
        refine ⟨?_, ?_⟩
        · (go_simp; try rfl)
        refine wpAnyR_take 5 rfl (by kernel_rfl) (by kernel_rfl) (by kernel_rfl) (fun _ _ _ _ h => h) ?_
        apply Exists.intro
        refine ⟨Or.inl ⟨by rfl, fun w' hb => ?_⟩, ?_⟩
        · (go_simp; try with_reducible rfl)
        apply Exists.intro
        refine ⟨?_, ?_⟩
        · (go_simp; try rfl)
        refine wpAnyR_take 6 rfl (by kernel_rfl) (by kernel_rfl) (by kernel_rfl) (fun _ _ _ _ h => h) ?_
        apply Exists.intro
        refine ⟨Or.inl ⟨by rfl, fun w' hb => ?_⟩, ?_⟩
        · (go_simp; try with_reducible rfl)
        apply Exists.intro
        refine ⟨?_, ?_⟩
        · (go_simp; try rfl)
        refine wpAnyR_take 7 rfl (by kernel_rfl) (by kernel_rfl) (by kernel_rfl) (fun _ _ _ _ h => h) ?_
        apply Exists.intro
        refine ⟨Or.inl ⟨by rfl, fun w' hb => ?_⟩, ?_⟩
        · (go_simp; try with_reducible rfl)
        apply Exists.intro
        refine ⟨?_, ?_⟩
        · (go_simp; try rfl)
        refine wpAnyR_take 8 rfl (by kernel_rfl) (by kernel_rfl) (by kernel_rfl) (fun _ _ _ _ h => h) ?_
        apply Exists.intro
        refine ⟨Or.inl ⟨by rfl, fun w' hb => ?_⟩, ?_⟩
        · (go_simp; try with_reducible rfl)
        apply Exists.intro
        refine ⟨?_, ?_⟩
        · (go_simp; try rfl)
        refine wpAnyR_take 9 rfl (by kernel_rfl) (by kernel_rfl) (by kernel_rfl) (fun _ _ _ _ h => h) ?_
        apply Exists.intro
        refine ⟨Or.inl ⟨by rfl, fun w' hb => ?_⟩, ?_⟩
        · (go_simp; try with_reducible rfl)
        apply Exists.intro
        refine ⟨?_, ?_⟩
        · (go_simp; try rfl)
        refine wpAnyR_take 12 rfl (by kernel_rfl) (by kernel_rfl) (by kernel_rfl) (fun _ _ _ _ h => h) ?_
        apply Exists.intro
        refine ⟨Or.inl ⟨by rfl, fun w' hb => ?_⟩, ?_⟩
        · (go_simp; try with_reducible rfl)
        apply Exists.intro
        refine ⟨?_, ?_⟩
        · (go_simp; try rfl)
        refine wpAnyR_take 13 rfl (by kernel_rfl) (by kernel_rfl) (by kernel_rfl) (fun _ _ _ _ h => h) ?_
        apply Exists.intro
        refine ⟨Or.inl ⟨by rfl, fun w' hb => ?_⟩, ?_⟩
        · (go_simp; try with_reducible rfl)
        apply Exists.intro
        refine ⟨?_, ?_⟩
        · (go_simp; try rfl)
        refine wpAnyR_take 14 rfl (by kernel_rfl) (by kernel_rfl) (by kernel_rfl) (fun _ _ _ _ h => h) ?_
        apply Exists.intro
        refine ⟨Or.inl ⟨by rfl, fun w' hb => ?_⟩, ?_⟩
        · (go_simp; try with_reducible rfl)
        apply Exists.intro
        refine ⟨?_, ?_⟩
        · (go_simp; try rfl)
        refine wpAnyR_take 15 rfl (by kernel_rfl) (by kernel_rfl) (by kernel_rfl) (fun _ _ _ _ h => h) ?_
        apply Exists.intro
        refine ⟨Or.inl ⟨by rfl, fun w' hb => ?_⟩, ?_⟩
        · have ht := TB w' hb
          go_simp
          try with_reducible rfl
        apply Exists.intro
        refine ⟨?_, ?_⟩
        · (go_simp; try rfl)
        refine wpAnyR_only 10 rfl (by kernel_rfl) (by rfl) (fun K hK => ?_)
        go_simp
        refine (put_any tu _ ht3).mono ?_
        rintro e v6 ⟨ad6, cp6, rfl, own6, bel6⟩
        have T6 := hid (Own.text own6)
        clear own6
        go_wp2_with fail
        refine ⟨bel6, ?_⟩
        refine wpAnyR_take 11 rfl (by kernel_rfl) (by kernel_rfl) (by kernel_rfl) (fun _ _ _ _ h => h) ?_
        apply Exists.intro
        refine ⟨Or.inl ⟨by rfl, fun w' hb => ?_⟩, ?_⟩
        · have ht := T6.out w' hb
          go_simp
          try with_reducible rfl
        apply Exists.intro
        refine ⟨?_, ?_⟩
        · (go_simp; try rfl)
        refine wpAnyR_take 16 rfl (by kernel_rfl) (by kernel_rfl) (by kernel_rfl) (fun _ _ _ _ h => h) ?_
        apply Exists.intro
        refine ⟨Or.inl ⟨by rfl, fun w' hb => ?_⟩, ?_⟩
        · (go_simp; try with_reducible rfl)
        apply Exists.intro
        refine ⟨?_, ?_⟩
        · (go_simp; try rfl)
        refine wpAnyR_take 17 rfl (by kernel_rfl) (by kernel_rfl) (by kernel_rfl) (fun _ _ _ _ h => h) ?_
        apply Exists.intro
        refine ⟨Or.inl ⟨by rfl, fun w' hb => ?_⟩, ?_⟩
        · (go_simp; try with_reducible rfl)
        apply Exists.intro
        refine ⟨?_, ?_⟩
        · (go_simp; try rfl)
        refine wpAnyR_take 18 rfl (by kernel_rfl) (by kernel_rfl) (by kernel_rfl) (fun _ _ _ _ h => h) ?_
        apply Exists.intro
        refine ⟨Or.inl ⟨by rfl, fun w' hb => ?_⟩, ?_⟩
        · (go_simp; try with_reducible rfl)
        apply Exists.intro
        refine ⟨?_, ?_⟩
        · (go_simp; try rfl)
        refine wpAnyR_done (by kernel_rfl) ?_ _
        go_wp2_with fail
        go_ret
        exact ⟨by simp, bthen hb7 (After.trans (Below.refl _ _).drew bel6)⟩
      · have h0 := HER.out hee
        obtain ⟨rfl, rfl, _⟩ := (h0 : tu = 0 ∧ tk = 0 ∧ _)
        have hez : (((te : Nat) : Int) != 0) = true := by simp; omega
        go_wp2_with fail
        go_ret
        exact ⟨rfl, hb7⟩

end Go.Proofs.Ytdhebbflpdnfiaa
