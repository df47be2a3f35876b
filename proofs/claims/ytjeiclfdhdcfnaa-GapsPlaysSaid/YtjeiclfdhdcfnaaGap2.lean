/- Package gaps: right, isByte, New, Hear. -/
import Derived.Test.YtjeiclfdhdcfnaaGap
import Derived.Carry
import Derived.Laws.Tables
import Derived.Laws.Cover3
import Derived.WideLaws
namespace Go.Proofs.Ytjeiclfdhdcfnaa
open Go.ChangeShapes Go.WideShapes Go.ChangeAt Go.RowKit
set_option linter.unusedVariables false
set_option linter.unusedSimpArgs false

theorem alloc_at33 (w : World) (o : Obj) : (w.alloc o).heap[w.heap.size]? = some o := by
  unfold World.alloc
  simp
theorem setB_at (w : World) (m : Nat) (o : Obj) (h : m < w.heap.size) : (Go.ChangeMaps.setBlock w m o).heap[m]? = some o := by
  simp [Go.ChangeMaps.setBlock, h]
theorem setB_only (w : World) (m : Nat) (o : Obj) : Only m w (Go.ChangeMaps.setBlock w m o) :=
  ⟨rfl, rfl, rfl, by simp [Go.ChangeMaps.setBlock], fun k hk => by simp [Go.ChangeMaps.setBlock, Array.getElem?_setIfInBounds, Ne.symm hk]⟩
theorem MapAt.lt {w : World} {b : Nat} {L : List Ln} (h : MapAt w b L) : b < w.heap.size := (Array.getElem?_eq_some_iff.1 h).1
theorem MapAt.aft {w w2 : World} {b : Nat} {L : List Ln} (h : MapAt w b L) (hA : After w w2) : MapAt w2 b L := held_after hA h
theorem MapAt.eff {w w2 : World} {b g : Nat} {L : List Ln} (h : MapAt w b L) (hE : Eff g w w2) (hne : b ≠ g) : MapAt w2 b L := (hE.block b h.lt hne).trans h
def isB (n : Int) : Bool := decide (0 ≤ n ∧ n ≤ 255)
/-- What a book holds, and what it tells, when a packet is heard. -/
def hearS (L : List Ln) (q y c : Int) : List Ln × Int × Bool :=
  if isB q = true ∧ isB y = true ∧ isB c = true then
    match posG y c L 0 with
    | none => if L.length = 16 then (L, 0, false) else (putG ⟨y, c, q, 1, 0⟩ L, 0, true)
    | some r => (putG ⟨y, c, q, r.2.h + 1, r.2.l + (q - r.2.q - 1 + 512) % 256⟩ L, (q - r.2.q - 1 + 512) % 256, true)
  else (L, 0, false)
theorem hear_no {L : List Ln} {q y c : Int} (h : ¬ (isB q = true ∧ isB y = true ∧ isB c = true)) : hearS L q y c = (L, 0, false) := if_neg h
theorem hear_new {L : List Ln} {q y c : Int} (h : isB q = true ∧ isB y = true ∧ isB c = true) (hp : posG y c L 0 = none) : hearS L q y c = if L.length = 16 then (L, 0, false) else (putG ⟨y, c, q, 1, 0⟩ L, 0, true) := by
  unfold hearS; rw [if_pos h, hp]
theorem hear_old {L : List Ln} {q y c : Int} {r : Nat × Ln} (h : isB q = true ∧ isB y = true ∧ isB c = true) (hp : posG y c L 0 = some r) : hearS L q y c = (putG ⟨y, c, q, r.2.h + 1, r.2.l + (q - r.2.q - 1 + 512) % 256⟩ L, (q - r.2.q - 1 + 512) % 256, true) := by
  unfold hearS; rw [if_pos h, hp]
/-- Lines with small numbers. -/
def LnOk (L : List Ln) : Prop := ∀ x ∈ L, (0 ≤ x.q ∧ x.q ≤ 255) ∧ (0 ≤ x.h ∧ x.h ≤ 1000000) ∧ (0 ≤ x.l ∧ x.l ≤ 1000000000)
set_option maxRecDepth 100000 in
set_option maxHeartbeats 2000000 in
theorem gright_nil (w : World) : Calls Try.prog 14 #[.pointer none] w fun r w' => r = .returned (.bool false) ∧ w' = w := by
  go_enter Try.func14, Try.ntmps14
  go_wp2_with fail
  go_ret
  exact ⟨rfl, rfl⟩
set_option maxRecDepth 100000 in
set_option maxHeartbeats 2000000 in
theorem gright_un (B : Nat) (w : World) (hb : w.heap[B]? = some (.cells #[.map none] 47 (0, 0))) : Calls Try.prog 14 #[.pointer (some ⟨B, 0, none⟩)] w fun r w' => r = .returned (.bool false) ∧ w' = w := by
  have hne := fun x W => run_neq_map_nil (P := Try.prog) (w := W) 45 _ _ x Try.underlying45
  have z0 := held_cell hb 0 _ rfl
  replace hb := hid hb
  go_enter Try.func14, Try.ntmps14
  go_wp2_with fail
  go_ret
  exact ⟨rfl, rfl⟩
set_option maxRecDepth 100000 in
set_option maxHeartbeats 2000000 in
theorem gright_any (B m : Nat) (w : World) (hb : w.heap[B]? = some (.cells #[.map (some m)] 47 (0, 0))) : Calls Try.prog 14 #[.pointer (some ⟨B, 0, none⟩)] w fun r w' => r = .returned (.bool true) ∧ w' = w := by
  have hne := fun x W => run_neq_map_nil (P := Try.prog) (w := W) 45 _ _ x Try.underlying45
  have z0 := held_cell hb 0 _ rfl
  replace hb := hid hb
  go_enter Try.func14, Try.ntmps14
  go_wp2_with fail
  go_ret
  exact ⟨rfl, rfl⟩
set_option maxRecDepth 100000 in
set_option maxHeartbeats 2000000 in
theorem isbyte_any (n : Int) (w : World) : Calls Try.prog 15 #[.int .i64 n] w fun r w' => r = .returned (.bool (isB n)) ∧ w' = w := by
  by_cases c1 : 0 ≤ n
  · have b1 : decide (0 ≤ n) = true := by simpa using c1
    have e : isB n = decide (n ≤ 255) := by unfold isB; simp [c1]
    rw [e]
    clear e
    go_enter Try.func15, Try.ntmps15
    go_wp2_with fail
    go_ret
    exact ⟨rfl, rfl⟩
  · have b1 : decide (0 ≤ n) = false := by simpa using c1
    have e : isB n = false := by unfold isB; simp [c1]
    rw [e]
    clear e
    go_enter Try.func15, Try.ntmps15
    go_wp2_with fail
    go_ret
    exact ⟨rfl, rfl⟩
set_option maxRecDepth 100000 in
set_option maxHeartbeats 2000000 in
theorem gnew_any (w : World) : Calls Try.prog 7 #[] w fun r w' => ∃ B m, r = .returned (.pointer (some ⟨B, 0, none⟩)) ∧ w'.heap[B]? = some (.cells #[.map (some m)] 47 (0, 0)) ∧ MapAt w' m [] ∧ After w w' ∧ w.heap.size ≤ B ∧ w.heap.size ≤ m := by
  have hmm := @run_makeMap Try.prog
  have n1 := alloc_new w (.map #[] 0)
  obtain ⟨W1, hW1⟩ : ∃ X, w.alloc (.map #[] 0) = X := ⟨_, rfl⟩
  have n2 := alloc_new W1 (.cells #[.map (some w.heap.size)] 47)
  obtain ⟨W2, hW2⟩ : ∃ X, W1.alloc (.cells #[.map (some w.heap.size)] 47) = X := ⟨_, rfl⟩
  rw [hW1] at n1
  rw [hW2] at n2
  have hsz : w.heap.size ≤ W1.heap.size := n1.2.1.size
  have hf := hid (show W2.heap[W1.heap.size]? = some (.cells #[.map (some w.heap.size)] 47 (0, 0)) ∧ MapAt W2 w.heap.size [] ∧ After w W2 from ⟨n2.2.2, held_after n2.2.1 (show W1.heap[w.heap.size]? = some (.map #[] 0) from by rw [← hW1]; exact alloc_at33 w _), bthen n1.2.1 n2.2.1⟩)
  clear n1 n2
  go_enter Try.func7, Try.ntmps7
  go_wp2_with fail
  go_ret
  exact ⟨_, _, rfl, hf.out.1, hf.out.2.1, hf.out.2.2, hsz, Nat.le_refl _⟩

end Go.Proofs.Ytjeiclfdhdcfnaa
