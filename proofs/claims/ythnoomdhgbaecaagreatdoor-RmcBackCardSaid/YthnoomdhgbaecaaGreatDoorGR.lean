/- Several texts in one: Gga7, Gga8, GgaB. -/
import Derived.Test.YthnoomdhgbaecaaGreatDoorGga5
import Derived.Laws.Tables
import Derived.Laws.Rows
import Derived.Laws.StructEq
import Derived.Deep.DeepCutAuto
import Derived.Test.YthnoomdhgbaecaaGreatDoorGS
import Derived.Test.YthnoomdhgbaecaaGreatDoorDecB
import Derived.Test.YthnoomdhgbaecaaGreatDoorClockB

/- Package gga: Texts, Few, fields of another number. -/
namespace Go.Proofs.YthnoomdhgbaecaaGreatDoor

open Go.ChangeShapes Go.WideShapes Go.ChangeAt Go.RowKit

set_option linter.unusedVariables false

set_option linter.unusedSimpArgs false

theorem els_row23 (F : List ByteArray) (U : World) (p n : Nat) (cs : Array Value) (hn : F.length = n) (hl : n ≤ 1000) (hcs : cs.toList = F.map Value.string) (h : U.heap[p]? = some (.cells cs 9 (0, 0))) : Els U 1 (some ⟨p, 0, none⟩) n n (strV23 F) := by
  have hsz : cs.size = n := by rw [← Array.length_toList, hcs, List.length_map, hn]
  have hfl : (strV23 F).flatten = F.map Value.string := by
    unfold strV23 strC23
    clear h hcs hn
    induction F with
    | nil => rfl
    | cons a l ih => simpa using ih
  have hO : OwnE 9 U 0 1 (.slice (some ⟨p, 0, none⟩) n n) n (strV23 F).flatten := by
    refine ⟨by rw [hfl, List.length_map, hn, Nat.mul_one], .inr ⟨p, n, cs, rfl, Nat.zero_le _, h, Nat.le_refl _, by unfold maxLen; omega, by omega, ?_⟩⟩
    rw [hfl, ← hcs, List.take_of_length_le (by rw [Array.length_toList]; omega)]
  exact hO.els (by rw [strV23_len, hn]) (strV23_m F)
theorem strV23_at {F : List ByteArray} {k : Nat} {f : ByteArray} (h : F[k]? = some f) : (strV23 F)[k]? = some [.string f] := by
  unfold strV23; rw [List.getElem?_map, h]; rfl
theorem strV23_of (l : List (List Value)) : (∀ x ∈ l, ∃ c : ByteArray, x = [.string c]) → ∃ F, l = strV23 F := by
  induction l with
  | nil => exact fun _ => ⟨[], rfl⟩
  | cons x l ih =>
    intro h
    obtain ⟨F, rfl⟩ := ih (fun y hy => h y (List.mem_cons_of_mem _ hy))
    obtain ⟨c, rfl⟩ := h x (by simp)
    exact ⟨c :: F, rfl⟩
def FewOk25 (n : Nat) (F : List ByteArray) (w : World) (r : Ending) (w' : World) : Prop := ∃ b : Bool, r = .returned (.bool b) ∧ (b = true → n ≤ 40 ∧ ∀ f ∈ F, f.size ≤ 100) ∧ After w w'
set_option maxRecDepth 100000 in
set_option maxHeartbeats 8000000 in
theorem texts23_same (a1 a2 : Option Addr) (c1 c2 m : Nat) (F : List ByteArray) (w : World) (hm : F.length = m) (h1 : Els w 1 a1 m c1 (strV23 F)) (h2 : Els w 1 a2 m c2 (strV23 F)) (h1000 : m ≤ 100000) : Calls Tryz.prog 10 #[.slice a1 m c1, .slice a2 m c2] w fun e w' => e = .returned (.bool true) ∧ After w w' := by
  replace h1 := hid h1
  replace h2 := hid h2
  replace hm := hid hm
  go_enter Tryz.func10, Tryz.ntmps10
  go_upto_region 0 with (fail)
  go_wp2_with fail
  go_loopw [5] (fun ix wr => ∃ k : Nat, ix = .int .i64 k ∧ k ≤ m ∧ After w wr) (fun ix _ => m - (intOf ix).toNat)
  case atStart => exact ⟨0, rfl, by omega, Below.refl _ _⟩
  case round =>
    obtain ⟨k, rfl, hk, hA⟩ := hrel
    by_cases hlt : (k : Int) < m
    case neg =>
      replace hA := hid hA
      go_wp2_with fail
      go_ret
      exact ⟨rfl, hA.out⟩
    obtain ⟨f, hf⟩ : ∃ x, F[k]? = some x := ⟨_, List.getElem?_eq_getElem (show k < F.length by have := hm.out; omega)⟩
    obtain ⟨p1, o1, rfl, g0⟩ := (h1.out.below hA).at1 (strV23_at hf)
    obtain ⟨p2, o2, rfl, d0⟩ := (h2.out.below hA).at1 (strV23_at hf)
    have kz : (0 : Int) ≤ k := by omega
    have wk : IntKind.i64.wrap ((k : Int) + 1) = (k : Int) + 1 := by rw [IntKind.wrap_i64]; omega
    have hk1 := hid (show k + 1 ≤ m by omega)
    have hms := hid (show m - (k + 1) < m - k by omega)
    have hAd := hid hA.drew
    clear hf hk hA
    go_upto_region 6 with (fail)
    refine wp_region_R (by kernel_rfl) ?_
    refine wpAnyR_take 0 rfl (by kernel_rfl) (by kernel_rfl) (by kernel_rfl) (fun _ _ _ _ h => h) ⟨_, Or.inl ⟨by rfl, fun w2 hb2 => by (go_simp; try with_reducible rfl)⟩, _, by (go_simp; try rfl), ?_⟩
    refine wpAnyR_take 1 rfl (by kernel_rfl) (by kernel_rfl) (by kernel_rfl) (fun _ _ _ _ h => h) ⟨_, Or.inl ⟨by rfl, fun w2 hb2 => by (go_simp; try with_reducible rfl)⟩, _, by (go_simp; try rfl), ?_⟩
    refine wpAnyR_take 2 rfl (by kernel_rfl) (by kernel_rfl) (by kernel_rfl) (fun _ _ _ _ h => h) ⟨_, Or.inl ⟨by rfl, fun w2 hb2 => by (go_simp; try with_reducible rfl)⟩, _, by (go_simp; try rfl), ?_⟩
    refine wpAnyR_take 3 rfl (by kernel_rfl) (by kernel_rfl) (by kernel_rfl) (fun _ _ _ _ h => h) ⟨_, Or.inl ⟨by rfl, fun w2 hb2 => by (have hx := (Below.cell hb2 (World.block_lt_of_cell? wr _ g0)).trans g0; go_simp; try with_reducible rfl)⟩, _, by (go_simp; try rfl), ?_⟩
    refine wpAnyR_take 4 rfl (by kernel_rfl) (by kernel_rfl) (by kernel_rfl) (fun _ _ _ _ h => h) ⟨_, Or.inl ⟨by rfl, fun w2 hb2 => by (go_simp; try with_reducible rfl)⟩, _, by (go_simp; try rfl), ?_⟩
    refine wpAnyR_take 5 rfl (by kernel_rfl) (by kernel_rfl) (by kernel_rfl) (fun _ _ _ _ h => h) ⟨_, Or.inl ⟨by rfl, fun w2 hb2 => by (go_simp; try with_reducible rfl)⟩, _, by (go_simp; try rfl), ?_⟩
    refine wpAnyR_take 6 rfl (by kernel_rfl) (by kernel_rfl) (by kernel_rfl) (fun _ _ _ _ h => h) ⟨_, Or.inl ⟨by rfl, fun w2 hb2 => by (go_simp; try with_reducible rfl)⟩, _, by (go_simp; try rfl), ?_⟩
    refine wpAnyR_take 7 rfl (by kernel_rfl) (by kernel_rfl) (by kernel_rfl) (fun _ _ _ _ h => h) ⟨_, Or.inl ⟨by rfl, fun w2 hb2 => by (have hx := (Below.cell hb2 (World.block_lt_of_cell? wr _ d0)).trans d0; go_simp; try with_reducible rfl)⟩, _, by (go_simp; try rfl), ?_⟩
    refine wpAnyR_take 8 rfl (by kernel_rfl) (by kernel_rfl) (by kernel_rfl) (fun _ _ _ _ h => h) ⟨_, Or.inl ⟨by rfl, fun w2 hb2 => by (go_simp; try with_reducible rfl)⟩, _, by (go_simp; try rfl), ?_⟩
    refine wpAnyR_done (by kernel_rfl) ?_ _
    go_wp2_with fail
    go_roundw
    case rel => exact ⟨k + 1, by simp, hk1.out, hAd.out⟩
    case measure => simp [intOf]; exact hms.out
set_option maxRecDepth 100000 in
set_option maxHeartbeats 4000000 in
theorem few25_any (a : Option Addr) (n cap : Nat) (F : List ByteArray) (w : World) (hn : F.length = n) (hE : Els w 1 a n cap (strV23 F)) : Calls Tryz.prog 13 #[.slice a n cap] w fun r w' => FewOk25 n F w r w' := by
  have hnm := hE.2.1
  have hcm := hE.2.2.1
  have hmm : maxLen ≤ 9223372036854775807 := by decide
  have hall := hid (show F.take n = F by rw [← hn, List.take_length])
  replace hE := hid hE
  replace hn := hid hn
  by_cases q1 : (40 : Int) < n
  case pos =>
    go_enter Tryz.func13, Tryz.ntmps13
    go_wp2_with fail
    go_ret
    exact ⟨false, rfl, fun h => (by cases h), After.refl _⟩
  go_enter Tryz.func13, Tryz.ntmps13
  go_wp2_with fail
  go_loopw [3] (fun ix wr => ∃ k : Nat, ix = .int .i64 k ∧ k ≤ n ∧ Hid (∀ f ∈ F.take k, f.size ≤ 100) ∧ wr = w) (fun ix _ => n - (intOf ix).toNat)
  case atStart => exact ⟨0, rfl, by omega, hid (fun f hf => by simp at hf), rfl⟩
  case round =>
    obtain ⟨k, rfl, hk, hm, rfl⟩ := hrel
    by_cases hlt : (k : Int) < n
    case neg =>
      obtain rfl : k = n := by omega
      have hm2 := hm.out
      rw [hall.out] at hm2
      replace hm2 := hid hm2
      have q2 := hid (show k ≤ 40 by omega)
      clear hm
      go_wp2_with fail
      go_ret
      exact ⟨true, rfl, fun _ => ⟨q2.out, hm2.out⟩, After.refl _⟩
    obtain ⟨f, hf⟩ : ∃ x, F[k]? = some x := ⟨_, List.getElem?_eq_getElem (show k < F.length by have := hn.out; omega)⟩
    obtain ⟨p1, o1, rfl, g0⟩ := hE.out.at1 (strV23_at hf)
    have kz : (0 : Int) ≤ k := by omega
    have wk : IntKind.i64.wrap ((k : Int) + 1) = (k : Int) + 1 := by rw [IntKind.wrap_i64]; omega
    have hk1 := hid (show k + 1 ≤ n by omega)
    have hms := hid (show n - (k + 1) < n - k by omega)
    obtain ⟨sz, hsz⟩ : ∃ z, f.size = z := ⟨_, rfl⟩
    have isz : (f.size : Int) = (sz : Int) := by omega
    by_cases q2 : (100 : Int) < sz
    case pos =>
      clear hf hk hsz
      go_wp2_with fail
      go_ret
      exact ⟨false, rfl, fun h => (by cases h), After.refl _⟩
    have hm3 := hid (show ∀ x ∈ F.take (k + 1), x.size ≤ 100 by
      intro x hx
      rw [List.take_add_one, hf] at hx
      rcases List.mem_append.1 hx with hx | hx
      · exact hm.out x hx
      · simp at hx; subst hx; omega)
    clear hf hk hsz hm
    go_wp2_with fail
    go_roundw
    case rel => exact ⟨k + 1, by simp, hk1.out, hm3, trivial⟩
    case measure => simp [intOf]; exact hms.out
end Go.Proofs.YthnoomdhgbaecaaGreatDoor

/- Package gga: knows. -/
namespace Go.Proofs.YthnoomdhgbaecaaGreatDoor

open Go.ChangeShapes Go.WideShapes Go.ChangeAt Go.RowKit

set_option linter.unusedVariables false

set_option linter.unusedSimpArgs false

end Go.Proofs.YthnoomdhgbaecaaGreatDoor

/- Package gga: what is put is taken, what is taken is put. -/
namespace Go.Proofs.YthnoomdhgbaecaaGreatDoor

open Go.ChangeShapes Go.WideShapes Go.ChangeAt Go.RowKit

set_option linter.unusedVariables false

set_option linter.unusedSimpArgs false

theorem fE_zero2 {l : List (List ByteArray × Int)} : ∀ {e : Int}, l.foldl (fun e x => kp e x.2) e = 0 → e = 0 ∧ ∀ x ∈ l, x.2 = 0 := by
  induction l with
  | nil => intro e h; exact ⟨h, fun x hx => by cases hx⟩
  | cons y l ih =>
    intro e h
    obtain ⟨h1, h2⟩ := ih h
    obtain ⟨h3, h4⟩ := kp_ok h1
    refine ⟨h3, fun x hx => ?_⟩
    rcases List.mem_cons.1 hx with rfl | hx
    · exact h4
    · exact h2 x hx
theorem ang_all2 {is : Bool} {n : Int} {lat : Bool} (h : (angD is n lat).2.2 = 0) : tkaD (nb (angD is n lat).1) (nb (angD is n lat).2.1) lat = (is, n, 0) ∧ (nb (angD is n lat).1).size ≤ 1000 := ang_all (A := (angD is n lat).1) (B := (angD is n lat).2.1) (e := (angD is n lat).2.2) rfl h
theorem put_all2 {is : Bool} {n W M F lo hi : Int} (h : (putD is n W M F lo hi).2 = 0) : takD (nb (putD is n W M F lo hi).1) W M F lo hi = (is, n, 0) ∧ (nb (putD is n W M F lo hi).1).size ≤ 1000 := put_all (L := (putD is n W M F lo hi).1) (e := (putD is n W M F lo hi).2) rfl h
theorem ang_side {is : Bool} {n : Int} {lat : Bool} : (nb (angD is n lat).2.1).size ≤ 1000 := by
  rw [nb_size]; unfold angD; split
  · simp
  · split <;> simp
theorem putT_size (h m s c : Int) : (putT h m s c).size = if c = 0 then 6 else if c % 10 = 0 then 8 else 9 := by
  have z1 := d2_size h
  have z2 := d2_size m
  have z3 := d2_size s
  have z4 := d2_size c
  have z5 := d1_size (c / 10)
  have zd : ({ data := #[46] } : ByteArray).size = 1 := rfl
  unfold putT
  split
  · simp only [ByteArray.size_append]; omega
  · split
    · simp only [ByteArray.size_append]; omega
    · simp only [ByteArray.size_append]; omega
theorem hun_size {r : List Nat} (h : (hunS r).2 = true) (a b d : Int) : (putT a b d (hunS r).1).size ≤ 6 + r.length := by
  rw [putT_size]
  unfold hunS at h ⊢
  by_cases h0 : r = []
  · rw [if_pos h0]; subst h0; simp
  · rw [if_neg h0] at h ⊢
    by_cases h1 : r.getD 0 0 = 46 ∧ 2 ≤ r.length ∧ r.length ≤ 3
    · rw [if_pos h1] at h ⊢
      by_cases h2l : r.length = 2
      · rw [if_pos h2l] at h ⊢
        unfold h2 at h ⊢
        split at h
        · rename_i hd
          rw [if_pos hd]
          dsimp only
          have : pairN (r.getD 1 0) 48 % 10 = 0 := by unfold pairN; omega
          rw [if_pos this]
          split <;> omega
        · simp at h
      · rw [if_neg h2l]
        generalize (h2 (r.getD 1 0) (r.getD 2 0)).1 = e
        have h3 : 3 ≤ r.length := by omega
        by_cases q1 : e = 0
        · rw [if_pos q1]; omega
        · rw [if_neg q1]
          by_cases q2 : e % 10 = 0
          · rw [if_pos q2]; omega
          · rw [if_neg q2]; omega
    · rw [if_neg h1] at h; simp at h
theorem clk_back {l : List Nat} {b : Bool} {h m s c : Int} (hV : takeV l = .tuple #[.agg #[.bool b, .int .i64 h, .int .i64 m, .int .i64 s, .int .i64 c], .int .i64 0]) : ∃ T : ByteArray, putV b h m s c = .tuple #[.string T, .int .i64 0] ∧ T.size ≤ l.length ∧ T.size ≤ 1000 ∧ takeV (sb T) = .tuple #[.agg #[.bool b, .int .i64 h, .int .i64 m, .int .i64 s, .int .i64 c], .int .i64 0] := by
  have hV0 := hV
  unfold takeV at hV
  split at hV
  · unfold clkNo at hV
    simp at hV
    obtain ⟨rfl, rfl, rfl, rfl, rfl⟩ := hV
    exact ⟨⟨#[]⟩, rfl, Nat.zero_le _, Nat.zero_le _, rfl⟩
  · split at hV
    · unfold clkNo at hV; simp at hV
    · rename_i h0 h6
      split at hV
      · rename_i hB
        split at hV
        · rename_i hm
          unfold takeB at hB
          have hh : (hunS (l.drop 6)).2 = true := by simp at hB; exact hB.2
          have hz := hun_size hh
          simp at hV
          obtain ⟨rfl, rfl, rfl, rfl, rfl⟩ := hV
          obtain ⟨S, hS, -, -, hT⟩ := take_put hm
          have hS2 := hS
          unfold putV at hS2
          rw [if_pos hm, if_pos rfl] at hS2
          simp at hS2
          have hz2 := hz (gN (prS (l.take 6)) 0) (gN (prS (l.take 6)) 1) (gN (prS (l.take 6)) 2)
          rw [hS2, List.length_drop] at hz2
          have h9 : S.size ≤ 9 := by rw [← hS2, putT_size]; split <;> (try split) <;> omega
          exact ⟨S, hS, by omega, by omega, hT⟩
        · unfold clkNo at hV; simp at hV
      · unfold clkNo at hV; simp at hV
theorem clk_put {b : Bool} {h m s c : Int} {T : ByteArray} (hV : putV b h m s c = .tuple #[.string T, .int .i64 0]) : takeV (sb T) = .tuple #[.agg #[.bool b, .int .i64 h, .int .i64 m, .int .i64 s, .int .i64 c], .int .i64 0] ∧ T.size ≤ 1000 := by
  cases hm : mayTB b h m s c with
  | false => rw [putV_no hm] at hV; simp at hV
  | true =>
    obtain ⟨S, hS, h9, -, hT⟩ := take_put hm
    rw [hS] at hV
    simp at hV
    subst hV
    exact ⟨hT, by omega⟩
end Go.Proofs.YthnoomdhgbaecaaGreatDoor
