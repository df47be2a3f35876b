/- Package pvt: Values. -/
import Derived.Test.YtfihdgichmocmaaPvt4
import Derived.Test.YtfihdgichmocmaaShape9
import Derived.Deep.DeepCutAuto
namespace Go.Proofs.Ytfihdgichmocmaa
open Go.ChangeShapes Go.WideShapes Go.ChangeAt Go.RowKit
set_option linter.unusedVariables false
set_option linter.unusedSimpArgs false

theorem after_eff16 {g : Nat} {a b c : World} (h : After a b) (k : Eff g b c) (hg : a.heap.size ≤ g) : After a c := ⟨k.os.trans h.os, k.tape.trans h.tape, k.output.trans h.output, Nat.le_trans h.size k.size, fun j hj => (k.block j (Nat.lt_of_lt_of_le hj h.size) (by omega)).trans (h.block j hj)⟩
set_option maxRecDepth 100000 in
set_option maxHeartbeats 4000000 in
theorem values_any (xs : List Int) (hl : xs.length = 32) (w : World) : Calls Try.prog 10 #[.agg (xs.map (Value.int .i64)).toArray] w fun e w' => ∃ V : Nat, e = .returned (.slice (some ⟨V, 0, none⟩) 33 33) ∧ Row .i64 2 w' V (outV xs) ∧ w.heap.size ≤ V ∧ After w w' := by
  have hmf : ∀ (fn : Fn) (first cap : Array Value) (w : World), (Instr.makeFunc fn first cap).run Try.prog w = .ok (.func fn first cap) w := fun _ _ _ _ => rfl
  obtain ⟨C, hC⟩ : ∃ C, (xs.map (Value.int .i64)).toArray = C := ⟨_, rfl⟩
  rw [hC]
  have nP := alloc_new w (.cells C 23)
  have hA := nP.2.1
  have hP := nP.2.2
  clear nP
  go_enter Try.func10, Try.ntmps10
  go_upto_region 1 with (fail)
  obtain ⟨W1, hW1⟩ : ∃ X, w.alloc (.cells C 23) = X := ⟨_, rfl⟩
  rw [hW1] at hA hP ⊢
  obtain ⟨P, hPe⟩ : ∃ X, w.heap.size = X := ⟨_, rfl⟩
  rw [hPe] at hP ⊢
  have hPr : Row .i64 23 W1 P xs := by unfold Row; rw [hC]; exact hP
  have lP := hPr.lt
  replace hW1 := hid hW1
  replace hPe := hid hPe
  replace hPr := hid hPr
  replace hA := hid hA
  clear hP
  go_wp2_with (first | (at_make; refine wpList_make W1 W1 rfl (.const (.int .i64 33)) (.const (.int .i64 33)) 30 rfl W1.heap.size 2 .i64 8 i64s 33 rfl rfl (by omega) (by unfold maxLen; omega) (Below.refl _ _) (Nat.le_refl _) ?_))
  intro W2 hRow hA2
  replace hRow : Row .i64 2 W2 W1.heap.size (List.replicate 33 (0 : Int)) := hRow
  obtain ⟨V, hV⟩ : ∃ X, W1.heap.size = X := ⟨_, rfl⟩
  rw [hV] at hRow ⊢
  have lV := hRow.lt
  have nT := alloc_new W2 (.cells #[.slice (some ⟨V, 0, none⟩) 33 33] 30)
  have hA3 := bthen hA2 nT.2.1
  have hT := nT.2.2
  replace hPr := hid (hPr.out.below hA3)
  have hRw := hid (hRow.below nT.2.1)
  have hAw := hid (bthen hA.out hA3)
  clear hA3 hRow hA hA2 nT
  go_upto_region 2 with (fail)
  obtain ⟨W3, hW3⟩ : ∃ X, W2.alloc (.cells #[.slice (some ⟨V, 0, none⟩) 33 33] 30) = X := ⟨_, rfl⟩
  rw [hW3] at hPr hRw hAw hT ⊢
  obtain ⟨T, hTe⟩ : ∃ X, W2.heap.size = X := ⟨_, rfl⟩
  rw [hTe] at hT ⊢
  have cT := held_cell hT 0 _ rfl
  have dT : T ≠ V := by omega
  have dP : P ≠ V := by omega
  have hwV : w.heap.size ≤ V := by have := hPe.out; omega
  replace hW3 := hid hW3
  replace hTe := hid hTe
  replace hV := hid hV
  replace cT := hid cT
  clear hT
  go_wp2_with fail
  refine (eachV_any P T V xs _ _ hPr.out hl cT.out hRw.out rfl dP dT).mono ?_
  rintro e W4 ⟨rfl, hR4, hE4⟩
  have c4 := cell_eff cT.out hE4 dT
  have hA4 := hid (after_eff16 hAw.out hE4 hwV)
  replace hR4 := hid hR4
  clear hE4
  go_wp2_with fail
  go_ret
  exact ⟨V, rfl, hR4.out, by have := hPe.out; omega, hA4.out⟩

end Go.Proofs.Ytfihdgichmocmaa
