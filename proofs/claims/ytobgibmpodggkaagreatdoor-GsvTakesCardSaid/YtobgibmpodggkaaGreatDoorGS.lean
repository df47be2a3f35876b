/- Several texts in one: Gga3, Gga4. -/
import Derived.Test.YtobgibmpodggkaaGreatDoorGga
import Derived.Deep.DeepCutAuto
import Derived.Test.YtobgibmpodggkaaGreatDoorClock10
import Derived.Laws.Tables

/- Package gga: what is put. -/
namespace Go.Proofs.YtobgibmpodggkaaGreatDoor
open Go.ChangeShapes Go.WideShapes Go.ChangeAt Go.RowKit
set_option linter.unusedVariables false
set_option linter.unusedSimpArgs false

theorem PenIn.below {w w2 : World} {base B : Nat} {e : Int} {L : List ByteArray} (h : PenIn w base B e L) (hA : After w w2) : PenIn w2 base B e L := h.aft hA
theorem RowW.below {w w2 : World} {base B : Nat} {e : Int} {L : List ByteArray} (h : RowW w base B e L) (hA : After w w2) : RowW w2 base B e L := h.aft hA
/-- The first error of what is written, and the fields. -/
def fE (l : List (List ByteArray × Int)) : Int := l.foldl (fun e x => kp e x.2) 0
def fL (l : List (List ByteArray × Int)) : List ByteArray := l.flatMap (·.1)
/-- What a fix's fields are. -/
def ggI (T : ByteArray) (k : Int) (ai : Bool) (an : Int) (oi : Bool) (on q : Int) (n1i : Bool) (n1n : Int) (n2i : Bool) (n2n : Int) (n3i : Bool) (n3n : Int) (n4i : Bool) (n4n : Int) (n5i : Bool) (n5n : Int) (n6i : Bool) (n6n : Int) : List (List ByteArray × Int) := [([T], k), ([nb (angD ai an true).1, nb (angD ai an true).2.1], (angD ai an true).2.2), ([nb (angD oi on false).1, nb (angD oi on false).2.1], (angD oi on false).2.2), ([nb (dgP q 0 8).1], (dgP q 0 8).2), ([nb (putD n1i n1n 1 2 0 0 99).1], (putD n1i n1n 1 2 0 0 99).2), ([nb (putD n2i n2n 1 3 2 0 99999).1], (putD n2i n2n 1 3 2 0 99999).2), ([nb (putD n3i n3n 1 6 1 (-9999999) 9999999).1, (if n3i = true then (⟨#[77]⟩ : ByteArray) else ⟨#[]⟩)], (putD n3i n3n 1 6 1 (-9999999) 9999999).2), ([nb (putD n4i n4n 1 4 1 (-99999) 99999).1, (if n4i = true then (⟨#[77]⟩ : ByteArray) else ⟨#[]⟩)], (putD n4i n4n 1 4 1 (-99999) 99999).2), ([nb (putD n5i n5n 1 4 1 0 99999).1], (putD n5i n5n 1 4 1 0 99999).2), ([nb (putD n6i n6n 1 4 0 0 1023).1], (putD n6i n6n 1 4 0 0 1023).2)]
end Go.Proofs.YtobgibmpodggkaaGreatDoor

/- Package gga: what is put, the papers'. -/
namespace Go.Proofs.YtobgibmpodggkaaGreatDoor
open Go.ChangeShapes Go.WideShapes Go.ChangeAt Go.RowKit
set_option linter.unusedVariables false
set_option linter.unusedSimpArgs false

theorem fE_zero {l : List (List ByteArray × Int)} : ∀ {e : Int}, l.foldl (fun e x => kp e x.2) e = 0 → e = 0 ∧ ∀ x ∈ l, x.2 = 0 := by
  induction l with
  | nil => intro e h; exact ⟨h, fun x hx => by cases hx⟩
  | cons y l ih =>
    intro e h
    obtain ⟨h1, h2⟩ := ih h
    obtain ⟨h3, h4⟩ := kp_ok h1
    refine ⟨h3, fun x hx => ?_⟩
    rcases List.mem_cons.1 hx with rfl | hx
    · exact h4
    · exact h2 x hx
theorem DnOk.congr {w w' : World} {e : Int} {L L' : List ByteArray} {r : Ending} (h : e = 0 → L = L') (k : DnOk w e L r w') : DnOk w e L' r w' := by
  by_cases c : e = 0
  · rw [← h c]; exact k
  · obtain ⟨a, cap, h1, h2, h3, h4⟩ := k
    rw [if_neg c] at h1 h2
    exact ⟨a, cap, by rw [if_neg c]; exact h1, by rw [if_neg c]; exact h2, h3, h4⟩
end Go.Proofs.YtobgibmpodggkaaGreatDoor
