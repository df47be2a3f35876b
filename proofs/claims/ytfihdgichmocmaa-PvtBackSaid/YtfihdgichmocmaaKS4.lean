/- Several texts in one: ShapeBack, Fields. -/
import Derived.Test.YtfihdgichmocmaaShape10
import Derived.Test.YtfihdgichmocmaaKA
import Derived.Test.YtfihdgichmocmaaKB

/- Package shape: what is put is taken; what is taken, put, is those bytes. -/
namespace Go.Proofs.Ytfihdgichmocmaa
open Go.ChangeShapes Go.WideShapes Go.ChangeAt Go.RowKit
set_option linter.unusedVariables false
set_option linter.unusedSimpArgs false

theorem putF_e (f0 : Nat → Int) (f1 : Nat → Bool) (f2 f3 : Nat → Int) (len : Nat) (zs : List Int) : 0 ≤ (putF f0 f1 f2 f3 len zs).2 ∧ (putF f0 f1 f2 f3 len zs).2 ≤ 9 := by
  unfold putF; split
  · split <;> simp
  · simp
theorem takF_e (f0 : Nat → Int) (f1 : Nat → Bool) (f2 f3 : Nat → Int) (len : Nat) (zs : List Int) : 0 ≤ (takF f0 f1 f2 f3 len zs).2 ∧ (takF f0 f1 f2 f3 len zs).2 ≤ 9 := by
  unfold takF; split
  · split
    · simp
    · split
      · simp
      · split <;> simp
  · simp
theorem put_spec {f0 : Nat → Int} {f1 : Nat → Bool} {f2 f3 : Nat → Int} {len : Nat} {zs L : List Int} (h : putF f0 f1 f2 f3 len zs = (L, 0)) : allR f0 f1 f2 f3 len = true ∧ zs.length = len ∧ inV f2 f3 (fun k => zs.getD k 0) len = true ∧ L = putB f0 (fun k => zs.getD k 0) len := by
  unfold putF at h
  split at h
  · rename_i c
    split at h
    · rename_i d
      have := congrArg Prod.fst h
      exact ⟨c.1, c.2, d, this.symm⟩
    · have := congrArg Prod.snd h; simp at this
  · have := congrArg Prod.snd h; simp at this
theorem sput_bad {f0 : Nat → Int} {f1 : Nat → Bool} {f2 f3 : Nat → Int} {len : Nat} {zs L : List Int} {e : Int} (h : putF f0 f1 f2 f3 len zs = (L, e)) (he : e ≠ 0) : L = [] := by
  unfold putF at h
  split at h
  · split at h
    · have := congrArg Prod.snd h; simp at this; omega
    · have := congrArg Prod.fst h; exact this.symm
  · have := congrArg Prod.fst h; exact this.symm
theorem stak_bad {f0 : Nat → Int} {f1 : Nat → Bool} {f2 f3 : Nat → Int} {len : Nat} {zs L : List Int} {e : Int} (h : takF f0 f1 f2 f3 len zs = (L, e)) (he : e ≠ 0) : L = [] := by
  unfold takF at h
  split at h
  · split at h
    · exact (congrArg Prod.fst h).symm
    · split at h
      · exact (congrArg Prod.fst h).symm
      · split at h
        · have := congrArg Prod.snd h; simp at this; omega
        · exact (congrArg Prod.fst h).symm
  · exact (congrArg Prod.fst h).symm
theorem tak_spec {f0 : Nat → Int} {f1 : Nat → Bool} {f2 f3 : Nat → Int} {len : Nat} {bs P : List Int} (h : takF f0 f1 f2 f3 len bs = (P, 0)) : allR f0 f1 f2 f3 len = true ∧ (bs.length : Int) = sumW f0 len ∧ inV f2 f3 (numAt f0 f1 bs) len = true ∧ P = (List.range len).map (numAt f0 f1 bs) := by
  unfold takF at h
  split at h
  · rename_i c
    split at h
    · have := congrArg Prod.snd h; simp at this
    · split at h
      · have := congrArg Prod.snd h; simp at this
      · split at h
        · rename_i d
          exact ⟨c, by omega, d, (congrArg Prod.fst h).symm⟩
        · have := congrArg Prod.snd h; simp at this
  · have := congrArg Prod.snd h; simp at this
theorem range_all (zs : List Int) : (List.range zs.length).map (fun k => zs.getD k 0) = zs := by
  refine List.ext_getElem (by simp) fun i h1 h2 => ?_
  simp [h2]
theorem put_take {f0 : Nat → Int} {f1 : Nat → Bool} {f2 f3 : Nat → Int} {len : Nat} {zs L : List Int} (h : putF f0 f1 f2 f3 len zs = (L, 0)) : takF f0 f1 f2 f3 len L = (zs, 0) ∧ widthS f0 f1 f2 f3 len = (L.length : Int) := by
  obtain ⟨ha, hz, hi, rfl⟩ := put_spec h
  have hl := putB_len (f0 := f0) (g := fun k => zs.getD k 0) len (fun i hi => by have := right_sz (allR_at ha hi); omega)
  have hn := num_back ha hi
  refine ⟨?_, ?_⟩
  · unfold takF
    rw [if_pos ha, if_neg (by omega), if_neg (by omega)]
    rw [inV_congr (f2 := f2) (f3 := f3) len hn, if_pos hi]
    refine congrArg (fun x => (x, (0 : Int))) ?_
    have e : (List.range len).map (numAt f0 f1 (putB f0 (fun k => zs.getD k 0) len)) = (List.range len).map (fun k => zs.getD k 0) := List.map_congr_left fun k hk => hn k (List.mem_range.1 hk)
    rw [e, ← hz]
    exact range_all zs
  · unfold widthS
    rw [if_pos ha, hl]
theorem take_put {f0 : Nat → Int} {f1 : Nat → Bool} {f2 f3 : Nat → Int} {len : Nat} {bs P : List Int} (h : takF f0 f1 f2 f3 len bs = (P, 0)) (hb : ∀ x ∈ bs, 0 ≤ x ∧ x ≤ 255) : putF f0 f1 f2 f3 len P = (bs, 0) ∧ P.length = len := by
  obtain ⟨ha, hl, hi, rfl⟩ := tak_spec h
  have e : ∀ k, k < len → ((List.range len).map (numAt f0 f1 bs)).getD k 0 = numAt f0 f1 bs k := fun k hk => by simp [hk]
  have e2 := inV_congr (f2 := f2) (f3 := f3) (g := fun k => ((List.range len).map (numAt f0 f1 bs)).getD k 0) len e
  have e3 := putB_congr (f0 := f0) (g := fun k => ((List.range len).map (numAt f0 f1 bs)).getD k 0) len e
  refine ⟨?_, by simp⟩
  unfold putF
  rw [if_pos ⟨ha, by simp⟩, e2, if_pos hi, e3]
  refine congrArg (fun x => (x, (0 : Int))) ?_
  rw [put_back ha hb (by omega) len (Nat.le_refl _), ← hl]
  simp
theorem tak_bd {f0 : Nat → Int} {f1 : Nat → Bool} {f2 f3 : Nat → Int} {len : Nat} {bs P : List Int} {e : Int} (h : takF f0 f1 f2 f3 len bs = (P, e)) : ∀ x ∈ P, -9223372036854775808 ≤ x ∧ x ≤ 9223372036854775807 := by
  by_cases he : e = 0
  · subst he
    obtain ⟨ha, hl, hi, rfl⟩ := tak_spec h
    intro x hx
    obtain ⟨k, hk, rfl⟩ := List.mem_map.1 hx
    have hk := List.mem_range.1 hk
    have h1 := inV_at hi hk
    have h2 := right_sz (allR_at ha hk)
    have h3 := hiS_bd (n := f0 k) (f1 k) h2.1 h2.2.1
    have h4 : -9223372036854775808 ≤ loS (f0 k) (f1 k) := by unfold loS; split <;> omega
    omega
  · rw [stak_bad h he]; simp
theorem put_len {f0 : Nat → Int} {f1 : Nat → Bool} {f2 f3 : Nat → Int} {len : Nat} {zs L : List Int} {e : Int} (h : putF f0 f1 f2 f3 len zs = (L, e)) (hl : len ≤ 1000) : L.length ≤ 8000 ∧ ∀ x ∈ L, 0 ≤ x ∧ x ≤ 255 := by
  by_cases he : e = 0
  · subst he
    obtain ⟨ha, _, _, rfl⟩ := put_spec h
    exact ⟨putB_le ha hl len (Nat.le_refl _), putB_bd _ _ _⟩
  · rw [sput_bad h he]; simp
theorem tak_len {f0 : Nat → Int} {f1 : Nat → Bool} {f2 f3 : Nat → Int} {len : Nat} {bs P : List Int} {e : Int} (h : takF f0 f1 f2 f3 len bs = (P, e)) : P.length ≤ len := by
  by_cases he : e = 0
  · subst he
    obtain ⟨_, _, _, rfl⟩ := tak_spec h
    simp
  · rw [stak_bad h he]; simp
/-- A slice of fields that a law is given. -/
theorem flds_of {W : World} {a : Option Addr} {len cap : Nat} {V : Nat → Nat → Value} (hF : Flat W a len cap 4 V) (t : ∀ i, i < len → (∃ n, V i 0 = .int .i64 n ∧ (Lit.int .i64 n).wf = true) ∧ (∃ b, V i 1 = .bool b) ∧ (∃ n, V i 2 = .int .i64 n ∧ (Lit.int .i64 n).wf = true) ∧ (∃ n, V i 3 = .int .i64 n ∧ (Lit.int .i64 n).wf = true)) :
    ∃ (f0 : Nat → Int) (f1 : Nat → Bool) (f2 f3 : Nat → Int), Flds W a len cap f0 f1 f2 f3 := by
  refine ⟨fun i => intOf (V i 0), fun i => match V i 1 with | .bool b => b | _ => false, fun i => intOf (V i 2), fun i => intOf (V i 3), hF.1, hF.2.1, hF.2.2.1, fun i hi => ?_⟩
  obtain ⟨⟨n0, e0, _⟩, ⟨b1, e1⟩, ⟨n2, e2, _⟩, ⟨n3, e3, _⟩⟩ := t i hi
  obtain ⟨b, off, ea, c0⟩ := hF.2.2.2 i hi 0 (by omega)
  obtain ⟨b', off', ea', c1⟩ := hF.2.2.2 i hi 1 (by omega)
  obtain ⟨b'', off'', ea'', c2⟩ := hF.2.2.2 i hi 2 (by omega)
  obtain ⟨b3, off3, ea3, c3⟩ := hF.2.2.2 i hi 3 (by omega)
  subst ea
  cases ea'; cases ea''; cases ea3
  refine ⟨b, off, rfl, ?_, ?_, ?_, ?_⟩
  · rw [e0] at c0; simpa [intOf, e0] using c0
  · rw [e1] at c1; simpa [Nat.add_assoc, e1] using c1
  · rw [e2] at c2; simpa [intOf, e2, Nat.add_assoc] using c2
  · rw [e3] at c3; simpa [intOf, e3, Nat.add_assoc] using c3

end Go.Proofs.Ytfihdgichmocmaa

/- Lists of fields in memory. -/
namespace Go.Proofs.Ytfihdgichmocmaa
open Go.ChangeShapes Go.WideShapes Go.ChangeAt Go.RowKit
set_option linter.unusedVariables false

structure Fd where
  n : Int
  sg : Bool
  lo : Int
  hi : Int
def Fd.vals (f : Fd) : List Value := [.int .i64 f.n, .bool f.sg, .int .i64 f.lo, .int .i64 f.hi]
def fcells (l : List Fd) : List Value := l.flatMap Fd.vals
def fdAt (l : List Fd) (i : Nat) : Fd := l.getD i ⟨0, false, 0, 0⟩
def fN (l : List Fd) (i : Nat) : Int := (fdAt l i).n
def fS (l : List Fd) (i : Nat) : Bool := (fdAt l i).sg
def fL (l : List Fd) (i : Nat) : Int := (fdAt l i).lo
def fH (l : List Fd) (i : Nat) : Int := (fdAt l i).hi
/-- A slice of just these fields. -/
def FdsL (w : World) (a : Option Addr) (cap : Nat) (l : List Fd) : Prop := Flds w a l.length cap (fN l) (fS l) (fL l) (fH l)
/-- What puts and takes by a list of fields tell. -/
def putL (l : List Fd) (zs : List Int) : List Int × Int := putF (fN l) (fS l) (fL l) (fH l) l.length zs
def takL (l : List Fd) (bs : List Int) : List Int × Int := takF (fN l) (fS l) (fL l) (fH l) l.length bs
theorem fcells_len (l : List Fd) : (fcells l).length = l.length * 4 := by
  induction l with
  | nil => rfl
  | cons f l ih => simp [fcells, Fd.vals] at *; omega
theorem fcells_at : ∀ (l : List Fd) (i : Nat), i < l.length → (fcells l)[i * 4]? = some (.int .i64 (fN l i)) ∧ (fcells l)[i * 4 + 1]? = some (.bool (fS l i)) ∧ (fcells l)[i * 4 + 2]? = some (.int .i64 (fL l i)) ∧ (fcells l)[i * 4 + 3]? = some (.int .i64 (fH l i))
  | [], i, h => by simp at h
  | f :: l, 0, _ => ⟨rfl, rfl, rfl, rfl⟩
  | f :: l, i + 1, h => by
    have ih := fcells_at l i (by simpa using h)
    have e : ∀ j, (fcells (f :: l))[(i + 1) * 4 + j]? = (fcells l)[i * 4 + j]? := fun j => by
      show (f.vals ++ fcells l)[(i + 1) * 4 + j]? = _
      rw [List.getElem?_append_right (by simp [Fd.vals]; omega)]
      congr 1
      simp [Fd.vals]; omega
    have e0 := e 0
    simp only [Nat.add_zero] at e0
    rw [e0, e 1, e 2, e 3]
    exact ih
theorem flds_cells {w : World} {g cap : Nat} {l : List Fd} (hc : l.length ≤ cap) (hm : cap ≤ maxLen) (h : ∀ j u, (fcells l)[j]? = some u → w.cell? ⟨g, j, none⟩ = some u) : FdsL w (some ⟨g, 0, none⟩) cap l := by
  refine ⟨hc, hm, (fun e => by cases e), fun i hi => ?_⟩
  obtain ⟨h0, h1, h2, h3⟩ := fcells_at l i hi
  refine ⟨g, 0, rfl, ?_, ?_, ?_, ?_⟩
  · rw [Nat.zero_add]; exact h _ _ h0
  · rw [Nat.zero_add]; exact h _ _ h1
  · rw [Nat.zero_add]; exact h _ _ h2
  · rw [Nat.zero_add]; exact h _ _ h3
theorem flds_block {w : World} {g : Nat} {l : List Fd} {c : Array Value} {T : TypeId} (h : w.heap[g]? = some (.cells c T (0, 0))) (hc : c = (fcells l).toArray) (hm : l.length ≤ maxLen) : FdsL w (some ⟨g, 0, none⟩) l.length l :=
  flds_cells (Nat.le_refl _) hm fun j u hj => held_cell h j u (by rw [hc]; simpa using hj)
theorem flds_rows {w : World} {base : Nat} {E : TypeId} {a : Option Addr} {cap : Nat} {l : List Fd} (h : w.ownsRow base E 4 (.slice a l.length cap) l.length (fcells l)) (h0 : 0 < l.length) : FdsL w a cap l := by
  obtain ⟨g, rfl, -, hc⟩ := rows_cell h h0
  obtain ⟨h1, h2, _⟩ := rows_cap h
  exact flds_cells h1 h2 hc
theorem FdsL.below {w w' : World} {a : Option Addr} {cap : Nat} {l : List Fd} (h : FdsL w a cap l) (hb : Below w.heap.size w w') : FdsL w' a cap l := Flds.below h hb
/-- A function that makes a list of fields. -/
def FdOk (w : World) (l : List Fd) (e : Ending) (w' : World) : Prop := ∃ a cap, e = .returned (.slice a l.length cap) ∧ FdsL w' a cap l ∧ After w w'
theorem fields4 : CellsOf Try.prog 32 35 4 32 := ⟨Try.underlying32, by kernel_rfl⟩

end Go.Proofs.Ytfihdgichmocmaa
