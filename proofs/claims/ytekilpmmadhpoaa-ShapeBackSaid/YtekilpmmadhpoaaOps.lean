/- Single operations of a statement whose order is open: a copy between slices of integers. -/
import Derived.Test.YtekilpmmadhpoaaSlices
import Derived.Test.YtekilpmmadhpoaaSeg
namespace Go.Proofs.Ytekilpmmadhpoaa
open Go.ChangeShapes Go.WideShapes Go.ChangeAt Go.RowKit
set_option linter.unusedVariables false

theorem setRow_only {U : World} {p : Nat} {c : Array Value} {T : TypeId} (c' : Array Value) (h : U.heap[p]? = some (.cells c T (0, 0))) : Only p U (U.setRow p c') := (only_setRow h).1

/-- A copy of a slice's integers into a row. -/
theorem wp_copyI {P : Program} {w : World} {o : Oper} {a : Act} {K : Act → World → Prop} {Q : Exit → Act → World → Prop} (d s : Operand) (t : TypeId)
    (ho : o.op = .call { callee := .builtin .copy, args := #[d, s], argTypes := #[t, t] }) (T E : TypeId) (k : IntKind) (b : Nat) (hT : IntsOf P t E k b)
    (g off dLen dCap : Nat) (zs : List Int) (hrow : Row k T w g zs) (hd : a.eval d = .slice (some ⟨g, off, none⟩) dLen dCap) (hfit : off + dLen ≤ zs.length)
    (ad : Option Addr) (len cap : Nat) (ys : List Int) (hs : a.eval s = .slice ad len cap) (hsl : Sl k w ad len cap ys)
    (h : ∀ w', Row k T w' g (laid zs off (ys.take dLen)) → Only g w w' → K (a.put o.dst (goInt (ys.take dLen).length)) w') : o.wp P a w K Q := by
  obtain ⟨ht, hi⟩ := hT
  obtain ⟨i, hi1, hz, hsz, hby⟩ := info_parts hi
  obtain ⟨rfl, h2, h3, h4, h5⟩ := hsl
  have hlen : ((ys.take dLen).map (Value.int k)).length = Nat.min ys.length dLen := by rw [List.length_map, List.length_take, Nat.min_comm]
  have hmin : Nat.min ys.length dLen ≤ dLen := Nat.min_le_right _ _
  have hs1 : (P.info? E).map (·.size) = some 1 := by rw [hi1]; simp [hsz]
  by_cases h0 : (ys.take dLen).length = 0
  · have hnil : ys.take dLen = [] := List.eq_nil_of_length_eq_zero h0
    have hrun := run_copy_none (P := P) w t t o.type E (some ⟨g, off, none⟩) ad dLen dCap ys.length cap ht hs1 (by rw [← hlen, List.length_map]; exact h0)
    unfold Oper.wp
    simp [execOp, ho, resolve, invoke, builtin, hd, hs, hrun, Result.andThen]
    have := h w (by rw [hnil]; simpa [laid] using hrow) ⟨rfl, rfl, rfl, rfl, fun _ _ => rfl⟩
    rw [h0] at this
    exact this
  · have hp : 0 < ys.length := by rw [List.length_take] at h0; omega
    obtain ⟨b0, o0, ha0, _⟩ := h5 0 hp
    have hrun := run_copy_row (P := P) w t t o.type E g off dLen dCap ⟨b0, o0, none⟩ ys.length cap (zs.map (Value.int k)).toArray T ((ys.take dLen).map (Value.int k)) ht hs1 hrow hlen ?_ (by simp; omega) (by intro v hv; obtain ⟨x, _, rfl⟩ := List.mem_map.1 hv; rfl)
    · unfold Oper.wp
      rw [ha0] at hs
      simp [execOp, ho, resolve, invoke, builtin, hd, hs, hrun, Result.andThen]
      have := h (w.setRow g (((zs.map (Value.int k)).toArray).toList.take off ++ (ys.take dLen).map (Value.int k) ++ ((zs.map (Value.int k)).toArray).toList.drop (off + ((ys.take dLen).map (Value.int k)).length)).toArray) ?_ (setRow_only _ hrow)
      · show K _ _
        simpa using this
      · unfold Row
        rw [setRow_heap w g _ _ T _ hrow]
        congr 2
        simp [laid, List.map_take, List.map_drop]
    · intro j v hj
      have hjl : j < (ys.take dLen).length := by
        rcases Nat.lt_or_ge j (ys.take dLen).length with hl | hl
        · exact hl
        · rw [List.getElem?_eq_none (by simpa using hl)] at hj; cases hj
      have hjy : j < ys.length := by rw [List.length_take] at hjl; omega
      have hjd : j < dLen := by rw [List.length_take] at hjl; omega
      obtain ⟨b1, o1, ha1, hc⟩ := h5 j hjy
      rw [ha0] at ha1; cases ha1
      have hv : v = .int k (ys.getD j 0) := by
        simp [hjd, hjy] at hj; simp [hjy, hj]
      rw [hv]
      by_cases hj0 : j = 0
      · subst hj0; simpa [Addr.add] using hc
      · simpa [Addr.add, hj0] using hc
theorem Row.only {k : IntKind} {E : TypeId} {w w' : World} {g p : Nat} {zs : List Int} (h : Row k E w g zs) (hO : Only p w w') (hg : g ≠ p) : Row k E w' g zs := by unfold Row at *; rw [hO.block g hg]; exact h
theorem bonly {B : Nat} {w0 w w' : World} {p : Nat} (h : Below B w0 w) (hO : Only p w w') (hp : B ≤ p) : Below B w0 w' := h.trans ⟨hO.os, hO.tape, hO.output, by rw [hO.size]; exact Nat.le_refl _, fun k hk => hO.block k (by omega)⟩
theorem held_only {w w' : World} {p q : Nat} {o : Obj} (hO : Only p w w') (hne : q ≠ p) (h : w.heap[q]? = some o) : w'.heap[q]? = some o := by rw [hO.block q hne]; exact h

end Go.Proofs.Ytekilpmmadhpoaa
