/- Package window: New. -/
import Derived.Test.YtaladglmomhndaaWin3
import Derived.Deep.DeepCutAuto
namespace Go.Proofs.Ytaladglmomhndaa
open Go.ChangeShapes Go.WideShapes Go.ChangeAt Go.RowKit
set_option linter.unusedVariables false
set_option linter.unusedSimpArgs false

theorem wpList_built {P : Program} {ops : Array Oper} {rest : List Oper} {o : Oper} {a : Act} {w : World} {Q : Exit → Act → World → Prop} (hg : o.guard = none) (t : TypeId) (parts : Array (Nat × Operand)) (ho : o.op = .build t parts)
    (C : Array Value) (hC : P.built t (parts.map fun (i, x) => (i, a.eval x)).toList = some C) (h : wpList P ops Q rest (a.put o.dst (.agg C)) w) : wpList P ops Q (o :: rest) a w :=
  wpList_plain hg fun _ hK => by
    refine wp_build t parts ho (by rw [hC]; rfl) ?_
    rw [hC]
    exact hK _ _ h
set_option maxRecDepth 100000 in
set_option maxHeartbeats 8000000 in
theorem wnew_any (w : World) : Calls Try.prog 8 #[] w fun e w' => e = .returned (.pointer (some ⟨w.heap.size, 0, none⟩)) ∧ WdSt w.heap.size w' [] ∧ After w w' := by
  have nE := alloc_new w (.cells (wdC (List.replicate 1024 0) 0 0) 41)
  have hE := hid (show WdSt w.heap.size (w.alloc (.cells (wdC (List.replicate 1024 0) 0 0) 41)) [] from ⟨_, 0, nE.2.2, wdI_new⟩)
  have hA := hid nE.2.1
  have hbd := hid built_new
  clear nE
  obtain ⟨C, hC⟩ : ∃ C, wdC (List.replicate 1024 0) 0 0 = C := ⟨_, rfl⟩
  rw [hC] at hE hA hbd
  clear hC
  go_enter Try.func8, Try.ntmps8
  go_upto_region 1 with (fail)
  refine wp_region_lit ?_
  refine wpList_built rfl 41 #[(0, .const (.bool true))] rfl C (by simp [Act.eval]; exact hbd.out) ?_
  go_wp2_with fail
  go_ret
  exact ⟨rfl, hE.out, hA.out⟩

end Go.Proofs.Ytaladglmomhndaa
