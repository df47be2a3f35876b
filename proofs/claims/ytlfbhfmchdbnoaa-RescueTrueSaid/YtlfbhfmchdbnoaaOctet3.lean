/- Package octet: the lowest bytes of a number, one behind the other. -/
import Derived.Test.YtlfbhfmchdbnoaaKO1
import Derived.Test.YtlfbhfmchdbnoaaKA
namespace Go.Proofs.Ytlfbhfmchdbnoaa
open Go.ChangeShapes Go.WideShapes Go.ChangeAt Go.RowKit Go.Shelf
set_option linter.unusedVariables false

def Byte : Type := { c : Int // 0 ≤ c ∧ c ≤ 255 }
def byteAt (u : Int) (k : Nat) : Int := u / 2 ^ (8 * k) % 256
def byteOf (u : Int) (k : Nat) : Byte := ⟨byteAt u k, by unfold byteAt; omega⟩
def lowL (u : Int) (n : Nat) : List Byte := (List.range n).map (byteOf u)
theorem lowL_len (u : Int) (n : Nat) : (lowL u n).length = n := by simp [lowL]
theorem lowL_next (u : Int) (k : Nat) : lowL u (k + 1) = lowL u k ++ [byteOf u k] := by simp [lowL, List.range_succ]
theorem lowL_pre (u : Int) (k n : Nat) (h : k ≤ n) : lowL u k <+: lowL u n := by
  obtain ⟨d, rfl⟩ : ∃ d, n = k + d := ⟨n - k, by omega⟩
  exact ⟨((List.range d).map fun x => k + x).map (byteOf u), by simp [lowL, List.range_add]⟩

end Go.Proofs.Ytlfbhfmchdbnoaa
