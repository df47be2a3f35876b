/- Several texts in one: Blk5, Blk6. -/
import Derived.Test.YtlfbhfmchdbnoaaKL
import Derived.Test.YtlfbhfmchdbnoaaKB
import Derived.Test.YtlfbhfmchdbnoaaCrc3
import Derived.Deep.DeepCutAuto
import Derived.Lib.SliceRun

/- Package block: what sealed and clear need. -/
namespace Go.Proofs.Ytlfbhfmchdbnoaa
open Go.ChangeShapes Go.WideShapes Go.ChangeAt Go.RowKit
set_option linter.unusedVariables false
set_option linter.unusedSimpArgs false

theorem Row.zeros {k : IntKind} {E : TypeId} {g : Nat} {zs : List Int} : ∀ (n o : Nat) (w : World), Row k E w g zs → (∀ j, o ≤ j → j < o + n → zs[j]? = some 0) → Row k E (w.setCells g o (List.replicate n (.int k 0))) g zs ∧ Only g w (w.setCells g o (List.replicate n (.int k 0)))
  | 0, o, w, h, _ => ⟨h, ⟨rfl, rfl, rfl, rfl, fun _ _ => rfl⟩⟩
  | n + 1, o, w, h, hz => by
    have h0 := hz o (Nat.le_refl _) (by omega)
    have hs := h.set o 0
    have e : zs.set o 0 = zs := by
      apply List.ext_getElem? ; intro i
      rw [List.getElem?_set]
      by_cases hi : o = i
      · subst hi
        have hl : o < zs.length := by
          rcases Nat.lt_or_ge o zs.length with hl | hl
          · exact hl
          · rw [List.getElem?_eq_none hl] at h0; cases h0
        rw [List.getElem?_eq_getElem hl] at h0
        simp [hl]
        exact (Option.some.inj h0).symm
      · simp [hi]
    rw [e] at hs
    have r := Row.zeros n (o + 1) _ hs (fun j h1 h2 => hz j (by omega) (by omega))
    rw [List.replicate_succ]
    exact ⟨r.1, (Only.set g o (.int k 0) w).then r.2⟩
/-- What stood 0 in a row is cleared: the row is as it was. -/
theorem wp_clear0 {P : Program} {w : World} {o : Oper} {a : Act} {K : Act → World → Prop} {Q : Exit → Act → World → Prop} (d : Operand) (t : TypeId)
    (ho : o.op = .call { callee := .builtin .clear, args := #[d], argTypes := #[t] }) (T E : TypeId) (k : IntKind) (hT : P.underlying t = some (.slice E)) (hv : ∀ w, (zeroValue E).run P w = .ok (.int k 0) w)
    (g off n c : Nat) (zs : List Int) (hrow : Row k T w g zs) (hd : a.eval d = .slice (some ⟨g, off, none⟩) n c) (hz : ∀ j, off ≤ j → j < off + n → zs[j]? = some 0)
    (h : ∀ w', Row k T w' g zs → Only g w w' → K (a.put o.dst (.tuple #[])) w') : o.wp P a w K Q := by
  rcases Nat.eq_zero_or_pos n with rfl | hn
  · unfold Oper.wp
    simp [execOp, ho, resolve, invoke, builtin, hd, Builtin.clear_, run_underlying hT, Result.andThen]
    exact h w hrow ⟨rfl, rfl, rfl, rfl, fun _ _ => rfl⟩
  · have hrun := Lib.run_clear_slice (P := P) w t E o.type (.int k 0) hT hv rfl rfl g off n c hn (fun j hj => by
      have h0 := hz (off + j) (by omega) (by omega)
      have hl : off + j < zs.length := by
        rcases Nat.lt_or_ge (off + j) zs.length with hl | hl
        · exact hl
        · rw [List.getElem?_eq_none hl] at h0; cases h0
      rw [hrow.cellAt (off + j) hl]; rfl) (fun j hj => hrow.free (off + j))
    have hr := hrow.zeros n off w hz
    unfold Oper.wp
    simp [execOp, ho, resolve, invoke, builtin, hd, hrun, Result.andThen]
    exact h _ hr.1 hr.2
theorem wpList_copyT {P : Program} (w : World) {ops : Array Oper} {rest : List Oper} {o : Oper} {a : Act} {Q : Exit → Act → World → Prop} (hgd : o.guard = none) (d s : Operand) (t : TypeId)
    (ho : o.op = .call { callee := .builtin .copy, args := #[d, s], argTypes := #[t, t] }) (T E : TypeId) (k : IntKind) (b : Nat) (hT : IntsOf P t E k b)
    (g off dLen dCap : Nat) (zs : List Int) (hrow : Row k T w g zs) (hd : a.eval d = .slice (some ⟨g, off, none⟩) dLen dCap) (hfit : off + dLen ≤ zs.length)
    (ad : Option Addr) (len cap : Nat) (ys : List Int) (hs : a.eval s = .slice ad len cap) (hsl : Sl k w ad len cap ys)
    (h : ∀ w', Row k T w' g (laid zs off (ys.take dLen)) → Only g w w' → wpList P ops Q rest (a.put o.dst (goInt (ys.take dLen).length)) w') : wpList P ops Q (o :: rest) a w :=
  wpList_plain hgd fun _ hK => wp_copyI d s t ho T E k b hT g off dLen dCap zs hrow hd hfit ad len cap ys hs hsl fun w' h1 h2 => hK _ _ (h w' h1 h2)
theorem wpList_clear0 {P : Program} (w : World) {ops : Array Oper} {rest : List Oper} {o : Oper} {a : Act} {Q : Exit → Act → World → Prop} (hgd : o.guard = none) (d : Operand) (t : TypeId)
    (ho : o.op = .call { callee := .builtin .clear, args := #[d], argTypes := #[t] }) (T E : TypeId) (k : IntKind) (hT : P.underlying t = some (.slice E)) (hv : ∀ w, (zeroValue E).run P w = .ok (.int k 0) w)
    (g off n c : Nat) (zs : List Int) (hrow : Row k T w g zs) (hd : a.eval d = .slice (some ⟨g, off, none⟩) n c) (hz : ∀ j, off ≤ j → j < off + n → zs[j]? = some 0)
    (h : ∀ w', Row k T w' g zs → Only g w w' → wpList P ops Q rest (a.put o.dst (.tuple #[])) w') : wpList P ops Q (o :: rest) a w :=
  wpList_plain hgd fun _ hK => wp_clear0 d t ho T E k hT hv g off n c zs hrow hd hz fun w' h1 h2 => hK _ _ (h w' h1 h2)
def fill (zs : List Int) : List Int := zs ++ List.replicate (254 - zs.length) 0
theorem fill_len {zs : List Int} (h : zs.length ≤ 254) : (fill zs).length = 254 := by rw [fill, List.length_append, List.length_replicate]; omega
theorem fill_laid {zs : List Int} (h : zs.length ≤ 254) : laid (List.replicate 254 0) 0 (zs.take 254) = fill zs := by
  rw [laid, fill, List.take_of_length_le h, List.take_zero, List.nil_append, Nat.zero_add, List.drop_replicate]
theorem fill_wf {zs : List Int} (h : ∀ n ∈ zs, (Lit.int .u8 n).wf = true) : ∀ n ∈ fill zs, (Lit.int .u8 n).wf = true := by
  intro n hn
  rw [fill, List.mem_append] at hn
  rcases hn with hn | hn
  · exact h n hn
  · rw [List.eq_of_mem_replicate hn]; rfl
theorem fill_0 {zs : List Int} (h : zs.length ≤ 254) : ∀ j, zs.length ≤ j → j < zs.length + (254 - zs.length) → (fill zs)[j]? = some 0 := by
  intro j h1 h2
  rw [fill, List.getElem?_append_right h1, List.getElem?_replicate]
  rw [if_pos (by omega)]

end Go.Proofs.Ytlfbhfmchdbnoaa

/- Package block: sealed. -/
namespace Go.Proofs.Ytlfbhfmchdbnoaa
open Go.ChangeShapes Go.WideShapes Go.ChangeAt Go.RowKit
set_option linter.unusedVariables false
set_option linter.unusedSimpArgs false

end Go.Proofs.Ytlfbhfmchdbnoaa
