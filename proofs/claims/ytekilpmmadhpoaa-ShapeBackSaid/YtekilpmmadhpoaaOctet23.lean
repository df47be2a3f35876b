/- The reference of package octet: Raw, U, I. -/
import Derived.Test.YtekilpmmadhpoaaOctet22
namespace Go.Proofs.Ytekilpmmadhpoaa
open Go.ChangeShapes Go.WideShapes Go.ChangeAt Go.RowKit Go.Shelf
set_option linter.unusedVariables false

def valU (zs : List Int) (bad : Bool) (n : Int) : Nat := if okU zs bad n then numB (zs.take n.toNat) n.toNat else 0
def valI (zs : List Int) (bad : Bool) (n : Int) : Int := if okU zs bad n then sgn n.toNat (numB (zs.take n.toNat) n.toNat) else 0
def bytesR (ok : Bool) (zs : List Int) (n : Int) : List Int := if ok then zs.take n.toNat else []
/-- What the reference's reader tells: what is left, and whether it failed. -/
def RestIs (a0 : Option Addr) (len0 cap0 : Nat) (zs : List Int) (n : Int) (ok : Bool) (a' : Option Addr) (l' c' : Nat) : Prop := ∀ U, Sl .u8 U a0 len0 cap0 zs → Sl .u8 U a' l' c' (gotR ok zs n)
def RawOk (w : World) (a0 : Option Addr) (len0 cap0 : Nat) (zs : List Int) (n : Int) (ok : Bool) (e : Ending) (w' : World) : Prop := ∃ a' l' c' a2 l2 c2, e = .returned (.tuple #[.agg #[.slice a' l' c', .bool (!ok)], .slice a2 l2 c2]) ∧ RestIs a0 len0 cap0 zs n ok a' l' c' ∧ Sl .u8 w' a2 l2 c2 (bytesR ok zs n) ∧ After w w'
def NumOk (w : World) (a0 : Option Addr) (len0 cap0 : Nat) (zs : List Int) (n : Int) (ok : Bool) (v : Value) (e : Ending) (w' : World) : Prop := ∃ a' l' c', e = .returned (.tuple #[.agg #[.slice a' l' c', .bool (!ok)], v]) ∧ RestIs a0 len0 cap0 zs n ok a' l' c' ∧ After w w'
theorem restis_no (a0 : Option Addr) (len0 cap0 : Nat) (zs : List Int) (n : Int) : RestIs a0 len0 cap0 zs n false none 0 0 := fun U _ => sl_nil _ _
theorem Kp.of_grown {N : Nat} {X : List Nat} {w w' : World} {row : Option Nat} (h : w.grownBy w' row) (hN : N ≤ w.heap.size) (hr : ∀ k, row = some k → N ≤ k) : Kp N X w w' :=
  ⟨h.os, h.tape, h.output, h.size, fun k hk _ => h.block k (by omega) (fun e => by have := hr k e.symm; omega)⟩

end Go.Proofs.Ytekilpmmadhpoaa
