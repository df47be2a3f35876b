/- Package gga: the small functions that read. -/
import Derived.Test.YtobgibmpodggkaaDoorGga
import Derived.Test.YtobgibmpodggkaaDoorClock7
import Derived.Test.YtobgibmpodggkaaDoorClock11
import Derived.Deep.DeepCutAuto
namespace Go.Proofs.YtobgibmpodggkaaDoor
open Go.ChangeShapes Go.WideShapes Go.ChangeAt Go.RowKit
set_option linter.unusedVariables false
set_option linter.unusedSimpArgs false

theorem els_offG {w w' : World} {p : Nat} {a : Option Addr} {len cap : Nat} {F : List ByteArray} {c : Array Value} {T : TypeId} (h : Els w 1 a len cap (strV23 F)) (hp : w.heap[p]? = some (.cells c T (0, 0))) (hns : ∀ (j : Nat) (s : ByteArray), c[j]? ≠ some (.string s)) (k : Only p w w') : Els w' 1 a len cap (strV23 F) := by
  refine ⟨h.1, h.2.1, h.2.2.1, h.2.2.2.1, fun i x hx => ?_⟩
  obtain ⟨h1, b, off, e, hc⟩ := h.2.2.2.2 i x hx
  refine ⟨h1, b, off, e, fun j u hj => ?_⟩
  have hb : b ≠ p := by
    intro e2
    subst e2
    have hc2 := hc j u hj
    rw [cell_of_row w b (off + i * 1 + j) _ T (0, 0) hp] at hc2
    obtain ⟨f, -, rfl⟩ : ∃ f, f ∈ F ∧ strC23 f = x := by
      have := List.mem_of_getElem? hx
      exact List.mem_map.1 this
    have hu : u = .string f := by
      match j, hj with
      | 0, hj => simpa [strC23] using hj.symm
      | j + 1, hj => simp [strC23] at hj
    subst hu
    exact hns _ _ hc2
  exact (World.cell?_of_block (w := w) (a := ⟨b, off + i * 1 + j, none⟩) (k.block b hb)).trans (hc j u hj)
theorem EyeIn.off {w w' : World} {B p : Nat} {e : Int} {L : List ByteArray} {c : Array Value} {T : TypeId} (h : EyeIn w B e L) (k : Only p w w') (hne : p ≠ B) (hp : w.heap[p]? = some (.cells c T (0, 0))) (hns : ∀ (j : Nat) (s : ByteArray), c[j]? ≠ some (.string s)) : EyeIn w' B e L := by
  obtain ⟨a, cap, h1, h2, h3⟩ := h
  exact ⟨a, cap, (k.block B hne.symm).trans h1, els_offG h2 hp hns k, h3⟩
theorem RowR.offG {w w' : World} {B p : Nat} {e : Int} {L : List ByteArray} {c : Array Value} {T : TypeId} (h : RowR w B e L) (k : Only p w w') (hne : p ≠ B) (hp : w.heap[p]? = some (.cells c T (0, 0))) (hns : ∀ (j : Nat) (s : ByteArray), c[j]? ≠ some (.string s)) : RowR w' B e L := by
  obtain ⟨F, a, cap, i, h1, h2, h3, h4, h5, h6⟩ := h
  exact ⟨F, a, cap, i, h1, h2, h3, (k.block B hne.symm).trans h4, els_offG h5 hp hns k, h6⟩
theorem seqC (u : ByteArray) (l : List UInt8) : (u.toList == l) = decide (u = ⟨l.toArray⟩) := by
  rw [ByteArray.toList_eq]
  by_cases h : u = ⟨l.toArray⟩
  · subst h; simp
  · rw [decide_eq_false h]
    refine beq_false_of_ne fun e => h ?_
    subst e
    rfl
theorem enumC (B : Nat) (e : Int) (s : ByteArray) (R : List ByteArray) (W M F lo hi : Int) {i : Bool} {n x : Int} (htd : takD s W M F lo hi = (i, n, x)) (w : World) (hP : EyeIn w B e (s :: R)) (hl : (s :: R).length ≤ 1000) (hs : ∀ t ∈ s :: R, t.size ≤ 1000) (hlb : (-9223372036854775808 ≤ lo ∧ lo ≤ 9223372036854775807) ∧ (-9223372036854775808 ≤ hi ∧ hi ≤ 9223372036854775807)) : Calls Tryd.prog 39 #[.pointer (some ⟨B, 0, none⟩), .agg #[.int .i64 W, .int .i64 M, .int .i64 F, .int .i64 lo, .int .i64 hi]] w fun r w' => r = .returned (.agg #[.bool i, .int .i64 n]) ∧ EyeIn w' B (kp e x) R ∧ Eff B w w' := by
  have h : nmS e (s :: R) W M F lo hi = ((i, n), kp e x, R) := by unfold nmS; dsimp only [txS]; rw [htd]
  have k := enum_any B e (s :: R) W M F lo hi w hP hl hs hlb
  rw [h] at k
  exact k
end Go.Proofs.YtobgibmpodggkaaDoor
