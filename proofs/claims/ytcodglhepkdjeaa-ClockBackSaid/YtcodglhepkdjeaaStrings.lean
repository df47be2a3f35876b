/- Strings: their bytes as a list, ranges over them in any world. -/
import Derived.Test.YtcodglhepkdjeaaSlices
import Derived.Laws.RangeAny
import Derived.Laws.BitsAllLaws
namespace Go.Proofs.Ytcodglhepkdjeaa
open Go.ChangeShapes Go.WideShapes Go.ChangeAt Go.RowKit
set_option linter.unusedVariables false

/-- The bytes of a string. -/
def sb (s : ByteArray) : List Nat := s.data.toList.map UInt8.toNat
theorem sb_len (s : ByteArray) : (sb s).length = s.size := by simp [sb]
theorem sb_get (s : ByteArray) (i : Nat) (h : i < s.size) : (sb s).getD i 0 = (s[i]'h).toNat := by
  have h2 : i < (sb s).length := by rw [sb_len]; exact h
  rw [List.getD_eq_getElem?_getD, List.getElem?_eq_getElem h2]
  simp [sb]
  rfl
theorem sb_drop (s : ByteArray) (i : Nat) (h : i < s.size) : (sb s).drop i = (s[i]'h).toNat :: (sb s).drop (i + 1) := by
  have h2 : i < (sb s).length := by rw [sb_len]; exact h
  rw [List.drop_eq_getElem_cons h2]
  congr 1
  have := sb_get s i h
  rw [List.getD_eq_getElem?_getD, List.getElem?_eq_getElem h2] at this
  exact this
theorem sb_end (s : ByteArray) (i : Nat) (h : ¬ i < s.size) : (sb s).drop i = [] := List.drop_eq_nil_of_le (by rw [sb_len]; omega)
theorem sb_lt (s : ByteArray) : ∀ x ∈ sb s, x < 256 := by
  intro x hx
  simp only [sb, List.mem_map] at hx
  obtain ⟨u, -, rfl⟩ := hx
  exact u.toNat_lt
theorem sb_inj {s t : ByteArray} (h : sb s = sb t) : s = t := by
  have h2 : s.data.toList = t.data.toList := by
    unfold sb at h
    exact List.map_inj_right (fun a b e => UInt8.toNat_inj.1 e) |>.1 h
  cases s; cases t
  simp at h2 ⊢
  exact h2

def itAt (w : World) (b : Nat) (s : ByteArray) (pos : Nat) : World := { w with heap := w.heap.setIfInBounds b (.stringIter s pos) }
/-- Block b stands at pos in s. -/
def Iter (w : World) (b : Nat) (s : ByteArray) (pos : Nat) : Prop := w.heap[b]? = some (.stringIter s pos)
theorem Iter.lt {w : World} {b : Nat} {s : ByteArray} {pos : Nat} (h : Iter w b s pos) : b < w.heap.size := by
  unfold Iter at h
  rcases Nat.lt_or_ge b w.heap.size with h2 | h2
  · exact h2
  · rw [Array.getElem?_eq_none h2] at h; cases h
theorem Iter.made (w : World) (s : ByteArray) : Iter (w.iter s 0) w.heap.size s 0 := World.iter_heap w s 0
theorem Iter.below {w w' : World} {b : Nat} {s : ByteArray} {pos : Nat} (h : Iter w b s pos) (hb : Below w.heap.size w w') : Iter w' b s pos := (hb.block b h.lt).trans h
theorem Iter.seen {w : World} {b : Nat} {s : ByteArray} {pos : Nat} (h : Iter w b s pos) (p : Nat) : Iter (itAt w b s p) b s p := by
  have := h.lt
  unfold Iter itAt
  simp [this]
theorem Iter.pos {w : World} {b : Nat} {s : ByteArray} {pos : Nat} (h : Iter w b s pos) : w.iterPos b = pos := by
  unfold Iter at h; unfold World.iterPos; rw [h]
theorem Iter.next {P : Program} {w : World} {b : Nat} {s : ByteArray} {pos : Nat} (h : Iter w b s pos) (hp : pos < s.size) (ty : TypeId) :
    (Instr.next (.pointer (some ⟨b, 0, none⟩)) true ty).run P w = .ok (.tuple #[.bool true, .int .i64 pos, .int .i32 (Utf8.decode s pos).1]) (itAt w b s (pos + (Utf8.decode s pos).2)) := by
  unfold Iter at h
  simp only [Instr.next, getObj, setObj, Sem.run_bind, Sem.run, h, Result.andThen, hp, if_true]
  simp [goInt, itAt]
theorem Iter.stop {P : Program} {w : World} {b : Nat} {s : ByteArray} {pos : Nat} (h : Iter w b s pos) (hp : ¬ pos < s.size) (ty : TypeId) :
    (Instr.next (.pointer (some ⟨b, 0, none⟩)) true ty).run P w = .ok (.tuple #[.bool false]) w := by
  unfold Iter at h
  simp [Instr.next, getObj, Sem.run, h, hp]
theorem bseen {B : Nat} {a w : World} (h : Below B a w) {b : Nat} (hb : B ≤ b) (s : ByteArray) (p : Nat) : Below B a (itAt w b s p) :=
  h.trans ⟨rfl, rfl, rfl, by simp [itAt], fun k hk => by
    unfold itAt
    simp only [Array.getElem?_setIfInBounds]
    rw [if_neg (by omega)]⟩
theorem biter {B : Nat} {a w : World} (h : Below B a w) (hB : B ≤ a.heap.size) (s : ByteArray) (p : Nat) : Below B a (w.iter s p) := balloc h hB _

end Go.Proofs.Ytcodglhepkdjeaa
