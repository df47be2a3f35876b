/- Rows of fields: the papers', written. -/
import Derived.Test.YtobgibmpodggkaaGreatDoorRow
import Derived.Test.YtobgibmpodggkaaGreatDoorRow2
import Derived.Test.YtobgibmpodggkaaGreatDoorDec2
import Derived.Test.YtobgibmpodggkaaGreatDoorDec13
import Derived.Lib.LazyBuf
import Derived.Deep.DeepCutAuto
namespace Go.Proofs.YtobgibmpodggkaaGreatDoor
open Go.ChangeShapes Go.WideShapes Go.ChangeAt Go.RowKit
set_option linter.unusedVariables false
set_option linter.unusedSimpArgs false

/-- A row of the papers' that is written. -/
def RowW (w : World) (base B : Nat) (e : Int) (L : List ByteArray) : Prop := ∃ a cap, w.heap[B]? = some (.cells #[.slice a L.length cap, .int .i64 0, .int .i64 e] 58 (0, 0)) ∧ OwnE 9 w base 1 (.slice a L.length cap) L.length (strV23 L).flatten
theorem RowW.aft {w w2 : World} {base B : Nat} {e : Int} {L : List ByteArray} (h : RowW w base B e L) (hA : After w w2) : RowW w2 base B e L := by
  obtain ⟨a, cap, h1, h2⟩ := h
  exact ⟨a, cap, held_after hA h1, h2.below hA⟩
theorem RowW.lt {w : World} {base B : Nat} {e : Int} {L : List ByteArray} (h : RowW w base B e L) : B < w.heap.size := by
  obtain ⟨_, _, h1, _⟩ := h
  exact held_lt h1
theorem RowW.besides {w w2 : World} {base B D : Nat} {e : Int} {L : List ByteArray} {c : Array Value} {T : TypeId} (h : RowW w base B e L) (hK : PEff base B 0 w w2) (hD : w.heap[D]? = some (.cells c T (0, 0))) (hne : D ≠ B) (hT : T ≠ 9) : w2.heap[D]? = some (.cells c T (0, 0)) := by
  obtain ⟨a, cap, h1, h2⟩ := h
  rw [hK.owp.block D (held_lt hD) hne (by rw [wown_at h1 (j := 0) rfl]; exact fun e => h2.ne hD hT e.symm)]
  exact hD
/-- A row of the papers' that is read: what is left. -/
def RowR (w : World) (B : Nat) (e : Int) (L : List ByteArray) : Prop := ∃ F a cap i, L = F.drop i ∧ i ≤ F.length ∧ F.length ≤ 1000 ∧ w.heap[B]? = some (.cells #[.slice a F.length cap, .int .i64 ((i : Nat) : Int), .int .i64 e] 58 (0, 0)) ∧ Els w 1 a F.length cap (strV23 F) ∧ ∀ x, a = some x → x.block ≠ B
theorem RowR.aft {w w2 : World} {B : Nat} {e : Int} {L : List ByteArray} (h : RowR w B e L) (hA : After w w2) : RowR w2 B e L := by
  obtain ⟨F, a, cap, i, h1, h2, h3, h4, h5, h6⟩ := h
  exact ⟨F, a, cap, i, h1, h2, h3, held_after hA h4, h5.below hA, h6⟩
theorem RowR.lt {w : World} {B : Nat} {e : Int} {L : List ByteArray} (h : RowR w B e L) : B < w.heap.size := by
  obtain ⟨_, _, _, _, _, _, _, h1, _⟩ := h
  exact held_lt h1
theorem els_two (w : World) (x y : Value) (E : TypeId) : Els (w.alloc (.cells #[x, y] E)) 1 (some ⟨w.heap.size, 0, none⟩) 2 2 [[x], [y]] := by
  refine ⟨rfl, Nat.le_refl _, by unfold maxLen; omega, (fun e => by cases e), fun i z hz => ?_⟩
  have hA := (alloc_new w (.cells #[x, y] E)).2.2
  match i, hz with
  | 0, hz => 
    simp at hz; subst hz
    refine ⟨rfl, _, 0, rfl, fun j v hj => ?_⟩
    match j, hj with
    | 0, hj => exact held_cell hA 0 v (by simpa using hj)
    | j + 1, hj => simp at hj
  | 1, hz =>
    simp at hz; subst hz
    refine ⟨rfl, _, 0, rfl, fun j v hj => ?_⟩
    match j, hj with
    | 0, hj => exact held_cell hA 1 v (by simpa using hj)
    | j + 1, hj => simp at hj
  | i + 2, hz => simp at hz
theorem rfirst_raw (base B : Nat) (T : TypeId) (v0 v1 : Value) (e x : Int) (w : World) (h : w.heap[B]? = some (.cells #[v0, v1, .int .i64 e] T (0, 0))) (hb : base ≤ B) : Calls Tryz.prog 27 #[.pointer (some ⟨B, 0, none⟩), .int .i64 x] w fun r w' => r = .returned (.tuple #[]) ∧ w'.heap[B]? = some (.cells #[v0, v1, .int .i64 (kp e x)] T (0, 0)) ∧ PEff base B 0 w w' ∧ Only B w w' := by
  have z1 := held_cell h 2 _ rfl
  have z2 := held_free h 2
  by_cases c : e = 0
  case neg =>
    have q : (e == 0) = false := by simpa using c
    have hk := hid (kp_no x c)
    replace h := hid h
    clear c
    go_enter Tryz.func27, Tryz.ntmps27
    go_wp2_with fail
    go_end0
    exact ⟨rfl, by rw [hk.out]; exact h.out, PEff.refl _ _ _ _, ⟨rfl, rfl, rfl, rfl, fun _ _ => rfl⟩⟩
  subst c
  obtain ⟨S1, hS1, s1, o1⟩ := st1 h 2 (.int .i64 x)
  have hp := hid (PEff.cell (base := base) (j := 0) hb h (by decide) (by simp) hS1 o1)
  have hs := hid s1
  have ho := hid o1
  clear h s1 o1
  go_enter Tryz.func27, Tryz.ntmps27
  go_wp2_with fail
  go_end0
  exact ⟨rfl, hs.out, hp.out, ho.out⟩
theorem rfirstR_any (B : Nat) (e x : Int) (L : List ByteArray) (w : World) (hP : RowR w B e L) : Calls Tryz.prog 27 #[.pointer (some ⟨B, 0, none⟩), .int .i64 x] w fun r w' => r = .returned (.tuple #[]) ∧ RowR w' B (kp e x) L ∧ Eff B w w' := by
  obtain ⟨F, a, cap, i, h1, h2, h3, h4, h5, h6⟩ := hP
  refine (rfirst_raw 0 B 58 (.slice a F.length cap) (.int .i64 ((i : Nat) : Int)) e x w h4 (Nat.zero_le _)).mono ?_
  rintro r V ⟨rfl, hq, hK, hN⟩
  exact ⟨rfl, ⟨F, a, cap, i, h1, h2, h3, hq, els_eff24 h5 (eff_only24 hN) h6, h6⟩, eff_only24 hN⟩
theorem rfirstW_any (base B : Nat) (e x : Int) (L : List ByteArray) (w : World) (hP : RowW w base B e L) (hb : base ≤ B) : Calls Tryz.prog 27 #[.pointer (some ⟨B, 0, none⟩), .int .i64 x] w fun r w' => r = .returned (.tuple #[]) ∧ RowW w' base B (kp e x) L ∧ PEff base B 0 w w' := by
  obtain ⟨a, cap, hp, hO⟩ := hP
  refine (rfirst_raw base B 58 (.slice a L.length cap) (.int .i64 0) e x w hp hb).mono ?_
  rintro r V ⟨rfl, hq, hK, hN⟩
  exact ⟨rfl, ⟨a, cap, hq, hO.kept (fun g hg => hN.block g (fun e => by subst e; exact (hO.ne hp (by decide)) hg))⟩, hK⟩
end Go.Proofs.YtobgibmpodggkaaGreatDoor
