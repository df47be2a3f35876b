/- Package block: the papers' Size; empty. -/
import Derived.Test.YtkpncailoekjpaaBlk3
import Derived.Deep.DeepCutAuto
namespace Go.Proofs.Ytkpncailoekjpaa
open Go.ChangeShapes Go.WideShapes Go.ChangeAt Go.RowKit
set_option linter.unusedVariables false
set_option linter.unusedSimpArgs false

theorem rsize_any (a : Option Addr) (cap : Nat) (l : List En) (w : World) (hE : Els w 14 a l.length cap (entsV l)) (h100 : l.length ≤ 1000) (hl : ∀ x ∈ l, EnOk x) : Calls Try.prog 26 #[.slice a l.length cap] w fun e w' => e = .returned (.int .i64 (((entS (0, zer12) l).length : Nat) : Int)) ∧ After w w' := by
  go_enter Try.func26, Try.ntmps26
  go_wp2_with fail
  refine (rentries_any a cap l _ hE h100 hl).mono ?_
  rintro e V ⟨qa, qc, rfl, hO, hA⟩
  go_wp2_with fail
  go_ret
  exact ⟨rfl, hA⟩
theorem all0 {zs : List Int} {k : Nat} (h : ∀ x ∈ zs.take k, x = 0) (hk : k < zs.length) (hx : zs.getD k 0 = 0) : ∀ x ∈ zs.take (k + 1), x = 0 := by
  intro x hm
  rw [List.take_add_one, List.mem_append] at hm
  rcases hm with hm | hm
  · exact h x hm
  · rw [List.getElem?_eq_getElem hk] at hm
    have e : zs.getD k 0 = zs[k] := by simp [hk]
    rw [Option.toList_some, List.mem_singleton] at hm
    rw [hm, ← e, hx]
def emptyV (zs : List Int) : Bool := zs.all (fun x => x == 0)
theorem emptyV_true {zs : List Int} (h : ∀ x ∈ zs, x = 0) : emptyV zs = true := by
  rw [emptyV, List.all_eq_true]; intro x hx; rw [h x hx]; rfl
theorem emptyV_false {zs : List Int} {k : Nat} (hk : k < zs.length) (hx : zs.getD k 0 ≠ 0) : emptyV zs = false := by
  rw [emptyV, List.all_eq_false]
  refine ⟨zs[k], List.getElem_mem hk, ?_⟩
  have e : zs.getD k 0 = zs[k] := by simp [hk]
  rw [← e]; simpa using hx
end Go.Proofs.Ytkpncailoekjpaa
