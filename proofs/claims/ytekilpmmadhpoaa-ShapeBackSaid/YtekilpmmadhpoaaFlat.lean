/- Arguments that are slices of structs: opened at every index. -/
import Derived.Test.YtekilpmmadhpoaaBase
import Derived.Deep.Slices
import Derived.ChangeSame
namespace Go.Proofs.Ytekilpmmadhpoaa
open Go.ChangeShapes Go.WideShapes Go.RowKit
set_option linter.unusedVariables false

section
variable {H : Type} {enc : TypeId × Value → H} {P : Program} {w : World} {base : Nat} {spare : Nat → Bool} {held : Bool}
/-- The fields of e are of one cell each, in order. -/
def flatB (P : Program) (e : TypeId) (fs : Array Field) : Prop := P.underlying e = some (.struct fs) ∧ P.cellsOf e = fs.size ∧ ∀ (j : Nat) (f : Field), fs[j]? = some f → f.offset = j ∧ P.cellsOf f.type = 1

/-- A struct of one-cell fields, from its cells. -/
theorem open_flat {e : TypeId} {fs : Array Field} {fuel : Nat} {cs : List Value} {x : DataW H × List MemPlace} (hf : flatB P e fs) (h : DataW.trod enc P w base spare held fuel e cs = some x) :
    cs.length = fs.size ∧ ∃ n, ∀ (j : Nat) (f : Field), fs[j]? = some f → ∃ v y, cs[j]? = some v ∧ DataW.trod enc P w base spare held n f.type [v] = some y := by
  obtain ⟨he, hc, ho⟩ := hf
  obtain ⟨xs, n, _, _, hl, hx, hg⟩ := DataW.trod_struct he h
  refine ⟨hl.trans hc, n, fun j f hj => ?_⟩
  have hjs : j < fs.size := (Array.getElem?_eq_some_iff.1 hj).1
  obtain ⟨o, c⟩ := ho j f hj
  have h1 := hg j f hj
  rw [o, c] at h1
  have hjc : j < cs.length := by omega
  have hjx : j < xs.length := by omega
  refine ⟨cs[j], xs[j], List.getElem?_eq_getElem hjc, ?_⟩
  rw [List.getElem?_eq_getElem hjx] at h1
  rw [← h1]
  congr 1
  rw [List.drop_eq_getElem_cons hjc]
  rfl

/-- A slice of structs of one-cell fields, opened: each field's cell, and what it reads as. -/
theorem open_flats {t e : TypeId} {fs : Array Field} {fuel : Nat} {cs : List Value} {x : DataW H × List MemPlace} (ht : P.underlying t = some (.slice e)) (hf : flatB P e fs) (h : DataW.trod enc P w base spare held fuel t cs = some x) :
    cs = [.slice none 0 0] ∨ ∃ (a : Addr) (len cap n : Nat), cs = [.slice (some a) len cap] ∧ len ≤ cap ∧ cap ≤ maxLen ∧
      ∀ i, i < len → ∀ (j : Nat) (f : Field), fs[j]? = some f → ∃ v y, w.cell? (a.add (i * fs.size + j)) = some v ∧ DataW.trod enc P w base spare held n f.type [v] = some y := by
  rcases Go.Deep.open_slice ht h with ⟨h0, _⟩ | ⟨a, len, cap, m, n, D, Pl, rfl, hb, hl, hm, hmm, rfl, hx⟩
  · exact .inl h0
  right
  have hlm : len ≤ m := by rw [hmm]; split <;> omega
  have key : ∀ i, i < len → ∃ k, ∀ (j : Nat) (f : Field), fs[j]? = some f → ∃ v y, w.cell? (a.add (i * fs.size + j)) = some v ∧ DataW.trod enc P w base spare held k f.type [v] = some y := fun i hi => by
    obtain ⟨cs', h1, h2⟩ := hx i (by omega)
    rw [hf.2.1] at h1
    obtain ⟨_, hlen, hcell⟩ := World.cells?_some h1
    obtain ⟨_, k, hk⟩ := open_flat hf h2
    refine ⟨k, fun j f hj => ?_⟩
    obtain ⟨v, y, hv, hy⟩ := hk j f hj
    refine ⟨v, y, ?_, hy⟩
    have := hcell j (Array.getElem?_eq_some_iff.1 hj).1
    rw [Go.Deep.add_add] at this
    rw [this]; exact hv
  obtain ⟨k, hk⟩ := Go.Deep.fuel_lt (q := fun i k => ∀ (j : Nat) (f : Field), fs[j]? = some f → ∃ v y, w.cell? (a.add (i * fs.size + j)) = some v ∧ DataW.trod enc P w base spare held k f.type [v] = some y)
    (fun i b c hbc hq j f hj => by obtain ⟨v, y, h1, h2⟩ := hq j f hj; exact ⟨v, y, h1, DataW.trod_le hbc h2⟩) key
  exact ⟨a, len, cap, k, rfl, hl, hm, hk⟩
end
/-- A slice of structs of m cells each: element i's cell j holds V i j. -/
def Flat (w : World) (a : Option Addr) (len cap m : Nat) (V : Nat → Nat → Value) : Prop :=
  len ≤ cap ∧ cap ≤ maxLen ∧ (a = none → cap = 0) ∧ ∀ i, i < len → ∀ j, j < m → ∃ b off, a = some ⟨b, off, none⟩ ∧ w.cell? ⟨b, off + (i * m + j), none⟩ = some (V i j)
theorem Flat.below {w w' : World} {a : Option Addr} {len cap m : Nat} {V : Nat → Nat → Value} (h : Flat w a len cap m V) (hb : Below w.heap.size w w') : Flat w' a len cap m V :=
  ⟨h.1, h.2.1, h.2.2.1, fun i hi j hj => by
    obtain ⟨b, off, e, hc⟩ := h.2.2.2 i hi j hj
    exact ⟨b, off, e, (Below.cell hb (World.block_lt_of_cell? w _ hc)).trans hc⟩⟩

section
variable {H : Type} {enc : TypeId × Value → H} {P : Program} {w : World} {base : Nat} {spare : Nat → Bool} {held : Bool}
theorem cell_plain0 {w : World} {x : Addr} {v : Value} (h : w.cell? x = some v) : ∃ b off, x = ⟨b, off, none⟩ := by
  obtain ⟨b, off, s⟩ := x
  cases s with
  | none => exact ⟨b, off, rfl⟩
  | some s =>
    exfalso
    simp [World.cell?] at h
    split at h <;> simp at h
theorem add_at (b off k : Nat) : (⟨b, off, none⟩ : Addr).add k = ⟨b, off + k, none⟩ := by
  unfold Addr.add; split
  · rename_i h; subst h; rfl
  · rfl
open Classical in
theorem flat_open {t e : TypeId} {fs : Array Field} {fuel : Nat} {a : Option Addr} {len cap : Nat} {x : DataW H × List MemPlace} (ht : P.underlying t = some (.slice e)) (hf : flatB P e fs) (h : DataW.trod enc P w base spare held fuel t [.slice a len cap] = some x) :
    ∃ V : Nat → Nat → Value, Flat w a len cap fs.size V ∧ ∀ i, i < len → ∀ (j : Nat) (f : Field), fs[j]? = some f → ∃ n y, DataW.trod enc P w base spare held n f.type [V i j] = some y := by
  rcases open_flats ht hf h with h0 | ⟨x, l, c, n, hcs, hl, hm, hk⟩
  · simp at h0
    obtain ⟨rfl, rfl, rfl⟩ := h0
    exact ⟨fun _ _ => undef, ⟨Nat.le_refl _, by unfold maxLen; omega, fun _ => rfl, fun i hi => by omega⟩, fun i hi => by omega⟩
  · simp at hcs
    obtain ⟨rfl, rfl, rfl⟩ := hcs
    refine ⟨fun i j => (w.cell? (x.add (i * fs.size + j))).getD undef, ⟨hl, hm, fun h => (by cases h), fun i hi j hj => ?_⟩, fun i hi j f hj => ?_⟩
    · obtain ⟨v, y, hv, _⟩ := hk i hi j fs[j] (Array.getElem?_eq_getElem hj)
      obtain ⟨v0, y0, hv0, _⟩ := hk 0 (by omega) 0 fs[0] (Array.getElem?_eq_getElem (by omega))
      rw [Nat.zero_mul] at hv0
      obtain ⟨b, off, rfl⟩ := cell_plain0 (x := x) hv0
      rw [add_at] at hv
      exact ⟨b, off, rfl, by dsimp only; rw [add_at, hv]; rfl⟩
    · obtain ⟨v, y, hv, hy⟩ := hk i hi j f hj
      exact ⟨n, y, by dsimp only; rw [hv]; exact hy⟩
theorem typ_int {t : TypeId} {k : IntKind} {n : Nat} {v : Value} {y : DataW H × List MemPlace} (hu : P.underlying t = some (.int k)) (h : DataW.trod enc P w base spare held n t [v] = some y) : ∃ m, v = .int k m ∧ (Lit.int k m).wf = true := by
  obtain ⟨m, e, _, hw⟩ := DataW.trod_int hu h
  simp at e
  exact ⟨m, e, hw⟩
theorem typ_bool {t : TypeId} {n : Nat} {v : Value} {y : DataW H × List MemPlace} (hu : P.underlying t = some .bool) (h : DataW.trod enc P w base spare held n t [v] = some y) : ∃ b, v = .bool b := by
  obtain ⟨b, e, _⟩ := DataW.trod_bool hu h
  simp at e
  exact ⟨b, e⟩
theorem typ_ints {t e : TypeId} {k : IntKind} {n : Nat} {v : Value} {y : DataW H × List MemPlace} (ht : P.underlying t = some (.slice e)) (he : P.underlying e = some (.int k)) (hc : P.cellsOf e = 1) (h : DataW.trod enc P w base (fun _ => true) held n t [v] = some y) :
    ∃ (a : Option Addr) (l c : Nat) (zs : List Int), v = .slice a l c ∧ IsRow k w a l c zs := by
  rcases open_ints ht he hc h with ⟨hcs, _⟩ | ⟨x, l, c, zs, hcs, _, hl, hm, hz, _, hcell, hwz⟩
  · simp at hcs; exact ⟨none, 0, 0, [], hcs, .inl ⟨rfl, rfl, rfl, rfl⟩⟩
  · simp at hcs; exact ⟨some x, l, c, zs, hcs, .inr ⟨x, rfl, hl, hm, by simpa using hz, hcell, hwz⟩⟩
/-- A struct of one-cell fields, as an argument. -/
theorem agg_open {r : Reach} {b0 : Nat} {t : TypeId} {fs : Array Field} {v : Value} {d : DataW H} {p : List MemPlace} (hf : flatB P t fs) (hv : Value.okWide P w r b0 t v) (h : DataW.Trod enc P w base spare held t v d p) :
    ∃ l : List Value, v = .agg l.toArray ∧ l.length = fs.size ∧ ∀ (j : Nat) (f : Field), fs[j]? = some f → ∃ c n y, l[j]? = some c ∧ DataW.trod enc P w base spare held n f.type [c] = some y := by
  obtain ⟨cs, rfl, hsz⟩ := okWide_struct hf.1 hv
  obtain ⟨fuel, hg⟩ := h
  obtain ⟨hl, n, hk⟩ := open_flat hf hg
  refine ⟨cs.toList, by simp, hl, fun j f hj => ?_⟩
  obtain ⟨c, y, hc, hy⟩ := hk j f hj
  exact ⟨c, n, y, hc, hy⟩
theorem typ_string {t : TypeId} {n : Nat} {v : Value} {y : DataW H × List MemPlace} (hu : P.underlying t = some .string) (h : DataW.trod enc P w base spare held n t [v] = some y) : ∃ s, v = .string s ∧ s.size ≤ maxLen := by
  obtain ⟨s, e, _, hw⟩ := DataW.trod_string hu h
  simp at e
  exact ⟨s, e, hw⟩
end

theorem list_of1 {l : List Value} (h : l.length = 1) : ∃ x0, l = [x0] := by
  match l, h with
  | [x0], _ => exact ⟨_, rfl⟩
theorem list_of2 {l : List Value} (h : l.length = 2) : ∃ x0 x1, l = [x0, x1] := by
  match l, h with
  | [x0, x1], _ => exact ⟨_, _, rfl⟩
theorem list_of3 {l : List Value} (h : l.length = 3) : ∃ x0 x1 x2, l = [x0, x1, x2] := by
  match l, h with
  | [x0, x1, x2], _ => exact ⟨_, _, _, rfl⟩
theorem list_of4 {l : List Value} (h : l.length = 4) : ∃ x0 x1 x2 x3, l = [x0, x1, x2, x3] := by
  match l, h with
  | [x0, x1, x2, x3], _ => exact ⟨_, _, _, _, rfl⟩
theorem list_of5 {l : List Value} (h : l.length = 5) : ∃ x0 x1 x2 x3 x4, l = [x0, x1, x2, x3, x4] := by
  match l, h with
  | [x0, x1, x2, x3, x4], _ => exact ⟨_, _, _, _, _, rfl⟩
theorem list_of6 {l : List Value} (h : l.length = 6) : ∃ x0 x1 x2 x3 x4 x5, l = [x0, x1, x2, x3, x4, x5] := by
  match l, h with
  | [x0, x1, x2, x3, x4, x5], _ => exact ⟨_, _, _, _, _, _, rfl⟩
theorem list_of7 {l : List Value} (h : l.length = 7) : ∃ x0 x1 x2 x3 x4 x5 x6, l = [x0, x1, x2, x3, x4, x5, x6] := by
  match l, h with
  | [x0, x1, x2, x3, x4, x5, x6], _ => exact ⟨_, _, _, _, _, _, _, rfl⟩
theorem list_of8 {l : List Value} (h : l.length = 8) : ∃ x0 x1 x2 x3 x4 x5 x6 x7, l = [x0, x1, x2, x3, x4, x5, x6, x7] := by
  match l, h with
  | [x0, x1, x2, x3, x4, x5, x6, x7], _ => exact ⟨_, _, _, _, _, _, _, _, rfl⟩

end Go.Proofs.Ytekilpmmadhpoaa
