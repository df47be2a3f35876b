/- Package block: the papers' Size; empty. -/
import Derived.Test.YtmfhniekcbadlaaBlk3
import Derived.Deep.DeepCutAuto
namespace Go.Proofs.Ytmfhniekcbadlaa
open Go.ChangeShapes Go.WideShapes Go.ChangeAt Go.RowKit
set_option linter.unusedVariables false
set_option linter.unusedSimpArgs false

theorem rsize_any (a : Option Addr) (cap : Nat) (l : List En) (w : World) (hE : Els w 14 a l.length cap (entsV l)) (h100 : l.length ≤ 1000) (hl : ∀ x ∈ l, EnOk x) : Calls Try.prog 14 #[.slice a l.length cap] w fun e w' => e = .returned (.int .i64 (((entS (0, zer12) l).length : Nat) : Int)) ∧ After w w' := by
  go_enter Try.func14, Try.ntmps14
  go_wp2_with fail
  refine (rentries_any a cap l _ hE h100 hl).mono ?_
  rintro e V ⟨qa, qc, rfl, hO, hA⟩
  go_wp2_with fail
  go_ret
  exact ⟨rfl, hA⟩
theorem all0 {zs : List Int} {k : Nat} (h : ∀ x ∈ zs.take k, x = 0) (hk : k < zs.length) (hx : zs.getD k 0 = 0) : ∀ x ∈ zs.take (k + 1), x = 0 := by
  intro x hm
  rw [List.take_add_one, List.mem_append] at hm
  rcases hm with hm | hm
  · exact h x hm
  · rw [List.getElem?_eq_getElem hk] at hm
    have e : zs.getD k 0 = zs[k] := by simp [hk]
    rw [Option.toList_some, List.mem_singleton] at hm
    rw [hm, ← e, hx]
def emptyV (zs : List Int) : Bool := zs.all (fun x => x == 0)
theorem emptyV_true {zs : List Int} (h : ∀ x ∈ zs, x = 0) : emptyV zs = true := by
  rw [emptyV, List.all_eq_true]; intro x hx; rw [h x hx]; rfl
theorem emptyV_false {zs : List Int} {k : Nat} (hk : k < zs.length) (hx : zs.getD k 0 ≠ 0) : emptyV zs = false := by
  rw [emptyV, List.all_eq_false]
  refine ⟨zs[k], List.getElem_mem hk, ?_⟩
  have e : zs.getD k 0 = zs[k] := by simp [hk]
  rw [← e]; simpa using hx
set_option maxHeartbeats 1000000 in
theorem empty_any (a : Option Addr) (len cap : Nat) (zs : List Int) (w : World) (hl : len ≤ 1000000) (hsl : Sl .u8 w a len cap zs) (hz : ∀ n ∈ zs, (Lit.int .u8 n).wf = true) :
    Calls Try.prog 35 #[.slice a len cap] w fun e w' => e = .returned (.bool (emptyV zs)) ∧ w' = w := by
  obtain ⟨rfl, -, -, -, hr⟩ := hsl
  replace hr := hid hr
  replace hz := hid hz
  go_enter Try.func35, Try.ntmps35
  go_wp2_with fail
  go_loopw [7] (fun i wr => ∃ (k : Nat), k ≤ zs.length ∧ wr = w ∧ i = .int .i64 k ∧ Hid (∀ x ∈ zs.take k, x = 0)) (fun i _ => zs.length - (intOf i).toNat)
  case atStart => exact ⟨0, by omega, rfl, rfl, hid (by simp)⟩
  case round =>
    obtain ⟨k, hk, rfl, rfl, hs⟩ := hrel
    by_cases hlt : (k : Int) < zs.length
    · have hlt2 : k < zs.length := by omega
      obtain ⟨b, off, rfl, hc⟩ := hr.out k hlt2
      have h0 := hid (all0 hs.out hlt2)
      have h1 := hid (emptyV_false (zs := zs) hlt2)
      clear hs
      generalize zs.getD k 0 = x at *
      by_cases hx : x = 0
      · have h9 := hid (h0.out hx)
        have hq : (x != 0) = false := by simp [hx]
        clear h0 h1 hx
        go_wp2_with fail
        go_roundw
        case rel => exact ⟨k + 1, by omega, trivial, by simp, h9⟩
        case measure => simp [intOf]; omega
      · have h9 := hid (h1.out hx)
        have hq : (x != 0) = true := by simp [hx]
        clear h0 h1 hx
        go_wp2_with fail
        go_ret
        exact ⟨by rw [h9.out]; rfl, rfl⟩
    · go_wp2_with fail
      go_ret
      obtain rfl : k = zs.length := by omega
      have h9 := hs.out
      rw [List.take_length] at h9
      exact ⟨by rw [emptyV_true h9]; rfl, rfl⟩

end Go.Proofs.Ytmfhniekcbadlaa
