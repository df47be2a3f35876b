/- Several texts in one: Gga7. -/
import Derived.Test.YtobgibmpodggkaaGreatDoorGga5
import Derived.Laws.Tables
import Derived.Laws.Rows
import Derived.Laws.StructEq
import Derived.Deep.DeepCutAuto

/- Package gga: Texts, Few, fields of another number. -/
namespace Go.Proofs.YtobgibmpodggkaaGreatDoor
open Go.ChangeShapes Go.WideShapes Go.ChangeAt Go.RowKit
set_option linter.unusedVariables false
set_option linter.unusedSimpArgs false

set_option maxRecDepth 100000 in
set_option maxHeartbeats 4000000 in
theorem eqN2 (i : Bool) (n : Int) (w : World) : (Op.equalIn 9999 46 (.agg #[.bool i, .int .i64 n]) (.agg #[.bool i, .int .i64 n])).run Tryz.prog w = .ok true w := by
  rw [show (9999 : Nat) = 9998 + 1 from rfl, run_equalIn_agg w 9998 _ _ _ (by kernel_rfl) (by kernel_rfl)]
  go_simp
theorem els_row23 (F : List ByteArray) (U : World) (p n : Nat) (cs : Array Value) (hn : F.length = n) (hl : n ≤ 1000) (hcs : cs.toList = F.map Value.string) (h : U.heap[p]? = some (.cells cs 9 (0, 0))) : Els U 1 (some ⟨p, 0, none⟩) n n (strV23 F) := by
  have hsz : cs.size = n := by rw [← Array.length_toList, hcs, List.length_map, hn]
  have hfl : (strV23 F).flatten = F.map Value.string := by
    unfold strV23 strC23
    clear h hcs hn
    induction F with
    | nil => rfl
    | cons a l ih => simpa using ih
  have hO : OwnE 9 U 0 1 (.slice (some ⟨p, 0, none⟩) n n) n (strV23 F).flatten := by
    refine ⟨by rw [hfl, List.length_map, hn, Nat.mul_one], .inr ⟨p, n, cs, rfl, Nat.zero_le _, h, Nat.le_refl _, by unfold maxLen; omega, by omega, ?_⟩⟩
    rw [hfl, ← hcs, List.take_of_length_le (by rw [Array.length_toList]; omega)]
  exact hO.els (by rw [strV23_len, hn]) (strV23_m F)
theorem strV23_at {F : List ByteArray} {k : Nat} {f : ByteArray} (h : F[k]? = some f) : (strV23 F)[k]? = some [.string f] := by
  unfold strV23; rw [List.getElem?_map, h]; rfl
theorem strV23_of (l : List (List Value)) : (∀ x ∈ l, ∃ c : ByteArray, x = [.string c]) → ∃ F, l = strV23 F := by
  induction l with
  | nil => exact fun _ => ⟨[], rfl⟩
  | cons x l ih =>
    intro h
    obtain ⟨F, rfl⟩ := ih (fun y hy => h y (List.mem_cons_of_mem _ hy))
    obtain ⟨c, rfl⟩ := h x (by simp)
    exact ⟨c :: F, rfl⟩
def FewOk25 (n : Nat) (F : List ByteArray) (w : World) (r : Ending) (w' : World) : Prop := ∃ b : Bool, r = .returned (.bool b) ∧ (b = true → n ≤ 40 ∧ ∀ f ∈ F, f.size ≤ 100) ∧ After w w'
theorem list14 {F : List ByteArray} (h : F.length = 14) : ∃ s0 s1 s2 s3 s4 s5 s6 s7 s8 s9 s10 s11 s12 s13, F = [s0, s1, s2, s3, s4, s5, s6, s7, s8, s9, s10, s11, s12, s13] := by
  match F, h with
  | [s0, s1, s2, s3, s4, s5, s6, s7, s8, s9, s10, s11, s12, s13], _ => exact ⟨s0, s1, s2, s3, s4, s5, s6, s7, s8, s9, s10, s11, s12, s13, rfl⟩
set_option maxRecDepth 100000 in
set_option maxHeartbeats 4000000 in
theorem few25_any (a : Option Addr) (n cap : Nat) (F : List ByteArray) (w : World) (hn : F.length = n) (hE : Els w 1 a n cap (strV23 F)) : Calls Tryz.prog 4 #[.slice a n cap] w fun r w' => FewOk25 n F w r w' := by
  have hnm := hE.2.1
  have hcm := hE.2.2.1
  have hmm : maxLen ≤ 9223372036854775807 := by decide
  have hall := hid (show F.take n = F by rw [← hn, List.take_length])
  replace hE := hid hE
  replace hn := hid hn
  by_cases q1 : (40 : Int) < n
  case pos =>
    go_enter Tryz.func4, Tryz.ntmps4
    go_wp2_with fail
    go_ret
    exact ⟨false, rfl, fun h => (by cases h), After.refl _⟩
  go_enter Tryz.func4, Tryz.ntmps4
  go_wp2_with fail
  go_loopw [3] (fun ix wr => ∃ k : Nat, ix = .int .i64 k ∧ k ≤ n ∧ Hid (∀ f ∈ F.take k, f.size ≤ 100) ∧ wr = w) (fun ix _ => n - (intOf ix).toNat)
  case atStart => exact ⟨0, rfl, by omega, hid (fun f hf => by simp at hf), rfl⟩
  case round =>
    obtain ⟨k, rfl, hk, hm, rfl⟩ := hrel
    by_cases hlt : (k : Int) < n
    case neg =>
      obtain rfl : k = n := by omega
      have hm2 := hm.out
      rw [hall.out] at hm2
      replace hm2 := hid hm2
      have q2 := hid (show k ≤ 40 by omega)
      clear hm
      go_wp2_with fail
      go_ret
      exact ⟨true, rfl, fun _ => ⟨q2.out, hm2.out⟩, After.refl _⟩
    obtain ⟨f, hf⟩ : ∃ x, F[k]? = some x := ⟨_, List.getElem?_eq_getElem (show k < F.length by have := hn.out; omega)⟩
    obtain ⟨p1, o1, rfl, g0⟩ := hE.out.at1 (strV23_at hf)
    have kz : (0 : Int) ≤ k := by omega
    have wk : IntKind.i64.wrap ((k : Int) + 1) = (k : Int) + 1 := by rw [IntKind.wrap_i64]; omega
    have hk1 := hid (show k + 1 ≤ n by omega)
    have hms := hid (show n - (k + 1) < n - k by omega)
    obtain ⟨sz, hsz⟩ : ∃ z, f.size = z := ⟨_, rfl⟩
    have isz : (f.size : Int) = (sz : Int) := by omega
    by_cases q2 : (100 : Int) < sz
    case pos =>
      clear hf hk hsz
      go_wp2_with fail
      go_ret
      exact ⟨false, rfl, fun h => (by cases h), After.refl _⟩
    have hm3 := hid (show ∀ x ∈ F.take (k + 1), x.size ≤ 100 by
      intro x hx
      rw [List.take_add_one, hf] at hx
      rcases List.mem_append.1 hx with hx | hx
      · exact hm.out x hx
      · simp at hx; subst hx; omega)
    clear hf hk hsz hm
    go_wp2_with fail
    go_roundw
    case rel => exact ⟨k + 1, by simp, hk1.out, hm3, trivial⟩
    case measure => simp [intOf]; exact hms.out
end Go.Proofs.YtobgibmpodggkaaGreatDoor
