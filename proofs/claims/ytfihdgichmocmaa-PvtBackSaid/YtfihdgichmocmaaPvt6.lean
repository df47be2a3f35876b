/- Package pvt: Of. -/
import Derived.Test.YtfihdgichmocmaaPvt5
import Derived.Deep.DeepCutAuto
namespace Go.Proofs.Ytfihdgichmocmaa
open Go.ChangeShapes Go.WideShapes Go.ChangeAt Go.RowKit
set_option linter.unusedVariables false
set_option linter.unusedSimpArgs false

theorem wpList_built16 {P : Program} {ops : Array Oper} {rest : List Oper} {o : Oper} {a : Act} {w : World} {Q : Exit → Act → World → Prop} (hg : o.guard = none) (t : TypeId) (parts : Array (Nat × Operand)) (ho : o.op = .build t parts)
    (C : Array Value) (hC : P.built t (parts.map fun (i, x) => (i, a.eval x)).toList = some C) (h : wpList P ops Q rest (a.put o.dst (.agg C)) w) : wpList P ops Q (o :: rest) a w :=
  wpList_plain hg fun _ hK => by
    refine wp_build t parts ho (by rw [hC]; rfl) ?_
    rw [hC]
    exact hK _ _ h
theorem results_cr {P : Program} {fn : Func} {p q : Tmp} {ty : TypeId} (h : fn.results = #[.cell p ty, .tmp q]) (tmps : Array Value) (w : World) (g : Nat) (t : TypeId) (cs : Array Value) (fr : Nat × Nat) (d : TypeDesc)
    (hp : tmps.getD p undef = .pointer (some ⟨g, 0, none⟩)) (hg : w.heap[g]? = some (.cells cs t fr))
    (hu : P.underlying ty = some d) (hd : (match d with | .struct _ | .array _ _ => true | _ => false) = true) (hi : (P.info? ty).map (·.size) = some cs.size) :
    (results fn tmps).run P w = .ok (.tuple #[.agg cs, tmps.getD q undef]) w := by
  have hp' : tmps[p]?.getD undef = .pointer (some ⟨g, 0, none⟩) := by simpa using hp
  simp [results, h, hp', asAddr, run_loadVar_row w g t ty cs fr d hg hu hd hi]
def z32 : List Int := List.replicate 32 0
def zC : Array Value := (z32.map (Value.int .i64)).toArray
set_option maxRecDepth 100000 in
theorem built_pvt : Try.prog.built 23 [] = some zC := by kernel_rfl
/-- The message of numbers, and whether there is one. -/
def ofV (n : Nat) (vs : List Int) : List Int × Bool := if n = 33 ∧ vs.getD 29 0 = 0 then (inP vs z32, true) else (z32, false)
theorem inP_len (vs ys : List Int) : (inP vs ys).length = ys.length := by unfold inP; simp only [stP_len]
theorem inC_size (vs : List Int) : ((inP vs z32).map (Value.int .i64)).toArray.size = 32 := by rw [List.size_toArray, List.length_map, inP_len]; rfl
theorem allOne16 (zs : List Int) : ((zs.map (Value.int .i64)).toArray).all (·.oneCell') = true := by
  rw [List.all_toArray, List.all_eq_true]
  intro v hv
  obtain ⟨x, _, rfl⟩ := List.mem_map.1 hv
  rfl
theorem setRow_after {w U : World} {g : Nat} {c cs : Array Value} {t : TypeId} {fr : Nat × Nat} (h : After w U) (hg : w.heap.size ≤ g) (hh : U.heap[g]? = some (.cells c t fr)) : After w (U.setRow g cs) :=
  ⟨h.os, h.tape, h.output, by rw [setRow_size]; exact h.size, fun j hj => (setRow_other U g j cs (by omega)).trans (h.block j hj)⟩
set_option maxRecDepth 100000 in
set_option maxHeartbeats 8000000 in
theorem of_any (a : Option Addr) (n c : Nat) (vs : List Int) (w : World) (hV : Sl .i64 w a n c vs) (hn : n ≤ 1000) : Calls Try.prog 9 #[.slice a n c] w fun e w' => e = .returned (.tuple #[.agg ((ofV n vs).1.map (Value.int .i64)).toArray, .bool (ofV n vs).2]) ∧ After w w' := by
  by_cases h33 : n = 33
  case neg =>
    have q33 : ((n : Int) == 33) = false := beq_eq_false_iff_ne.2 (by omega)
    have q34 : ((n : Int) != 33) = true := by simp; omega
    have hofv := hid (show ofV n vs = (z32, false) from if_neg (by intro h; exact h33 h.1))
    rw [hofv.out]
    replace hofv := hid hofv
    have hmf : ∀ (fn : Fn) (first cap : Array Value) (w : World), (Instr.makeFunc fn first cap).run Try.prog w = .ok (.func fn first cap) w := fun _ _ _ _ => rfl
    have n1 := alloc_new w (.cells #[.slice a n c] 30)
    have n2 := alloc_new (w.alloc (.cells #[.slice a n c] 30)) (.cells #[.int .i64 0, .int .i64 0, .int .i64 0, .int .i64 0, .int .i64 0, .int .i64 0, .int .i64 0, .int .i64 0, .int .i64 0, .int .i64 0, .int .i64 0, .int .i64 0, .int .i64 0, .int .i64 0, .int .i64 0, .int .i64 0, .int .i64 0, .int .i64 0, .int .i64 0, .int .i64 0, .int .i64 0, .int .i64 0, .int .i64 0, .int .i64 0, .int .i64 0, .int .i64 0, .int .i64 0, .int .i64 0, .int .i64 0, .int .i64 0, .int .i64 0, .int .i64 0] 23)
    have hT := held_after n2.2.1 n1.2.2
    have hR := n2.2.2
    have hA := bthen n1.2.1 n2.2.1
    have hs1 : (w.alloc (.cells #[.slice a n c] 30)).heap.size = w.heap.size + 1 := Array.size_push _
    have hs2 : ((w.alloc (.cells #[.slice a n c] 30)).alloc (.cells #[.int .i64 0, .int .i64 0, .int .i64 0, .int .i64 0, .int .i64 0, .int .i64 0, .int .i64 0, .int .i64 0, .int .i64 0, .int .i64 0, .int .i64 0, .int .i64 0, .int .i64 0, .int .i64 0, .int .i64 0, .int .i64 0, .int .i64 0, .int .i64 0, .int .i64 0, .int .i64 0, .int .i64 0, .int .i64 0, .int .i64 0, .int .i64 0, .int .i64 0, .int .i64 0, .int .i64 0, .int .i64 0, .int .i64 0, .int .i64 0, .int .i64 0, .int .i64 0] 23)).heap.size = (w.alloc (.cells #[.slice a n c] 30)).heap.size + 1 := Array.size_push _
    clear n1 n2
    go_enter Try.func9, Try.ntmps9
    go_upto_region 1 with (fail)
    obtain ⟨W2, hW2⟩ : ∃ X, (w.alloc (.cells #[.slice a n c] 30)).alloc (.cells #[.int .i64 0, .int .i64 0, .int .i64 0, .int .i64 0, .int .i64 0, .int .i64 0, .int .i64 0, .int .i64 0, .int .i64 0, .int .i64 0, .int .i64 0, .int .i64 0, .int .i64 0, .int .i64 0, .int .i64 0, .int .i64 0, .int .i64 0, .int .i64 0, .int .i64 0, .int .i64 0, .int .i64 0, .int .i64 0, .int .i64 0, .int .i64 0, .int .i64 0, .int .i64 0, .int .i64 0, .int .i64 0, .int .i64 0, .int .i64 0, .int .i64 0, .int .i64 0] 23) = X := ⟨_, rfl⟩
    rw [hs1] at hR hs2
    rw [hW2] at hT hR hA hs2 ⊢
    obtain ⟨T, hTe⟩ : ∃ X, w.heap.size = X := ⟨_, rfl⟩
    rw [hTe] at hT hR hs2
    try rw [hTe]
    have hRc : W2.heap[T + 1]? = some (.cells zC 23 (0, 0)) := hR
    have cT := held_cell hT 0 _ rfl
    have hV2 := hid (hV.below hA)
    have lV := hid (fun (h : 0 < n) => sl_lt16 hV h)
    replace hW2 := hid hW2
    replace hTe := hid hTe
    replace hA := hid hA
    replace hRc := hid hRc
    replace hs2 := hid hs2
    clear hT hR hs1 hV
    go_upto_region 2 with (fail)
    refine wp_region_lit ?_
    refine wpList_built16 rfl 23 #[] rfl zC (by simp [Act.eval]; exact built_pvt) ?_
    refine wpList_store_row rfl 23 (.tmp 2) (.tmp 14) rfl (T + 1) zC rfl rfl 23 zC hRc.out (by kernel_rfl) rfl (allOne16 _) ?_
    have hR9 := hid (setRow_heap W2 (T + 1) zC zC 23 (0, 0) hRc.out)
    have hA9 := hid (setRow_after hA.out (cs := zC) (by have := hTe.out; omega) hRc.out)
    obtain ⟨W9, hW9⟩ : ∃ X, W2.setRow (T + 1) zC = X := ⟨_, rfl⟩
    rw [hW9] at hR9 hA9 ⊢
    clear hW9
    go_wp2_with fail
    exact bodyPost_ret (results_cr Try.results9 _ _ (T + 1) 23 zC (0, 0) _ rfl hR9.out Try.underlying23 rfl (by kernel_rfl)) rfl ⟨rfl, hA9.out⟩
  subst h33
  obtain ⟨x29, h29⟩ : ∃ z, vs.getD 29 0 = z := ⟨_, rfl⟩
  obtain ⟨b29, o29, rfl, hc29⟩ := hV.2.2.2.2 29 (by have := hV.1; omega)
  rw [h29] at hc29
  by_cases hx0 : x29 = 0
  case neg =>
    have q29 : (x29 != 0) = true := by simp [hx0]
    have q30 : (x29 == 0) = false := by simp [hx0]
    have hofv := hid (show ofV 33 vs = (z32, false) from if_neg (by intro h; exact hx0 (h29 ▸ h.2)))
    rw [hofv.out]
    clear hofv h29
    have hmf : ∀ (fn : Fn) (first cap : Array Value) (w : World), (Instr.makeFunc fn first cap).run Try.prog w = .ok (.func fn first cap) w := fun _ _ _ _ => rfl
    have n1 := alloc_new w (.cells #[.slice (some ⟨b29, o29, none⟩) 33 c] 30)
    have n2 := alloc_new (w.alloc (.cells #[.slice (some ⟨b29, o29, none⟩) 33 c] 30)) (.cells #[.int .i64 0, .int .i64 0, .int .i64 0, .int .i64 0, .int .i64 0, .int .i64 0, .int .i64 0, .int .i64 0, .int .i64 0, .int .i64 0, .int .i64 0, .int .i64 0, .int .i64 0, .int .i64 0, .int .i64 0, .int .i64 0, .int .i64 0, .int .i64 0, .int .i64 0, .int .i64 0, .int .i64 0, .int .i64 0, .int .i64 0, .int .i64 0, .int .i64 0, .int .i64 0, .int .i64 0, .int .i64 0, .int .i64 0, .int .i64 0, .int .i64 0, .int .i64 0] 23)
    have hT := held_after n2.2.1 n1.2.2
    have hR := n2.2.2
    have hA := bthen n1.2.1 n2.2.1
    have hs1 : (w.alloc (.cells #[.slice (some ⟨b29, o29, none⟩) 33 c] 30)).heap.size = w.heap.size + 1 := Array.size_push _
    have hs2 : ((w.alloc (.cells #[.slice (some ⟨b29, o29, none⟩) 33 c] 30)).alloc (.cells #[.int .i64 0, .int .i64 0, .int .i64 0, .int .i64 0, .int .i64 0, .int .i64 0, .int .i64 0, .int .i64 0, .int .i64 0, .int .i64 0, .int .i64 0, .int .i64 0, .int .i64 0, .int .i64 0, .int .i64 0, .int .i64 0, .int .i64 0, .int .i64 0, .int .i64 0, .int .i64 0, .int .i64 0, .int .i64 0, .int .i64 0, .int .i64 0, .int .i64 0, .int .i64 0, .int .i64 0, .int .i64 0, .int .i64 0, .int .i64 0, .int .i64 0, .int .i64 0] 23)).heap.size = (w.alloc (.cells #[.slice (some ⟨b29, o29, none⟩) 33 c] 30)).heap.size + 1 := Array.size_push _
    clear n1 n2
    go_enter Try.func9, Try.ntmps9
    go_upto_region 1 with (fail)
    obtain ⟨W2, hW2⟩ : ∃ X, (w.alloc (.cells #[.slice (some ⟨b29, o29, none⟩) 33 c] 30)).alloc (.cells #[.int .i64 0, .int .i64 0, .int .i64 0, .int .i64 0, .int .i64 0, .int .i64 0, .int .i64 0, .int .i64 0, .int .i64 0, .int .i64 0, .int .i64 0, .int .i64 0, .int .i64 0, .int .i64 0, .int .i64 0, .int .i64 0, .int .i64 0, .int .i64 0, .int .i64 0, .int .i64 0, .int .i64 0, .int .i64 0, .int .i64 0, .int .i64 0, .int .i64 0, .int .i64 0, .int .i64 0, .int .i64 0, .int .i64 0, .int .i64 0, .int .i64 0, .int .i64 0] 23) = X := ⟨_, rfl⟩
    rw [hs1] at hR hs2
    rw [hW2] at hT hR hA hs2 ⊢
    obtain ⟨T, hTe⟩ : ∃ X, w.heap.size = X := ⟨_, rfl⟩
    rw [hTe] at hT hR hs2
    try rw [hTe]
    have hRc : W2.heap[T + 1]? = some (.cells zC 23 (0, 0)) := hR
    have cT := held_cell hT 0 _ rfl
    have hV2 := hid (hV.below hA)
    have lV := hid (fun (h : 0 < 33) => sl_lt16 hV h)
    have c29 := (Below.cell hA (World.block_lt_of_cell? _ _ hc29)).trans hc29
    replace hW2 := hid hW2
    replace hTe := hid hTe
    replace hA := hid hA
    replace hRc := hid hRc
    replace hs2 := hid hs2
    clear hT hR hs1 hV
    go_upto_region 2 with (fail)
    refine wp_region_lit ?_
    refine wpList_built16 rfl 23 #[] rfl zC (by simp [Act.eval]; exact built_pvt) ?_
    refine wpList_store_row rfl 23 (.tmp 2) (.tmp 14) rfl (T + 1) zC rfl rfl 23 zC hRc.out (by kernel_rfl) rfl (allOne16 _) ?_
    have hR9 := hid (setRow_heap W2 (T + 1) zC zC 23 (0, 0) hRc.out)
    have hA9 := hid (setRow_after hA.out (cs := zC) (by have := hTe.out; omega) hRc.out)
    obtain ⟨W9, hW9⟩ : ∃ X, W2.setRow (T + 1) zC = X := ⟨_, rfl⟩
    rw [hW9] at hR9 hA9 ⊢
    clear hW9
    go_wp2_with fail
    exact bodyPost_ret (results_cr Try.results9 _ _ (T + 1) 23 zC (0, 0) _ rfl hR9.out Try.underlying23 rfl (by kernel_rfl)) rfl ⟨rfl, hA9.out⟩
  subst hx0
  have hofv := hid (show ofV 33 vs = (inP vs z32, true) from if_pos ⟨rfl, h29⟩)
  rw [hofv.out]
  replace h29 := hid h29
  have hmf : ∀ (fn : Fn) (first cap : Array Value) (w : World), (Instr.makeFunc fn first cap).run Try.prog w = .ok (.func fn first cap) w := fun _ _ _ _ => rfl
  have n1 := alloc_new w (.cells #[.slice (some ⟨b29, o29, none⟩) 33 c] 30)
  have n2 := alloc_new (w.alloc (.cells #[.slice (some ⟨b29, o29, none⟩) 33 c] 30)) (.cells #[.int .i64 0, .int .i64 0, .int .i64 0, .int .i64 0, .int .i64 0, .int .i64 0, .int .i64 0, .int .i64 0, .int .i64 0, .int .i64 0, .int .i64 0, .int .i64 0, .int .i64 0, .int .i64 0, .int .i64 0, .int .i64 0, .int .i64 0, .int .i64 0, .int .i64 0, .int .i64 0, .int .i64 0, .int .i64 0, .int .i64 0, .int .i64 0, .int .i64 0, .int .i64 0, .int .i64 0, .int .i64 0, .int .i64 0, .int .i64 0, .int .i64 0, .int .i64 0] 23)
  have hT := held_after n2.2.1 n1.2.2
  have hR := n2.2.2
  have hA := bthen n1.2.1 n2.2.1
  have hs1 : (w.alloc (.cells #[.slice (some ⟨b29, o29, none⟩) 33 c] 30)).heap.size = w.heap.size + 1 := Array.size_push _
  have hs2 : ((w.alloc (.cells #[.slice (some ⟨b29, o29, none⟩) 33 c] 30)).alloc (.cells #[.int .i64 0, .int .i64 0, .int .i64 0, .int .i64 0, .int .i64 0, .int .i64 0, .int .i64 0, .int .i64 0, .int .i64 0, .int .i64 0, .int .i64 0, .int .i64 0, .int .i64 0, .int .i64 0, .int .i64 0, .int .i64 0, .int .i64 0, .int .i64 0, .int .i64 0, .int .i64 0, .int .i64 0, .int .i64 0, .int .i64 0, .int .i64 0, .int .i64 0, .int .i64 0, .int .i64 0, .int .i64 0, .int .i64 0, .int .i64 0, .int .i64 0, .int .i64 0] 23)).heap.size = (w.alloc (.cells #[.slice (some ⟨b29, o29, none⟩) 33 c] 30)).heap.size + 1 := Array.size_push _
  clear n1 n2
  go_enter Try.func9, Try.ntmps9
  go_upto_region 1 with (fail)
  obtain ⟨W2, hW2⟩ : ∃ X, (w.alloc (.cells #[.slice (some ⟨b29, o29, none⟩) 33 c] 30)).alloc (.cells #[.int .i64 0, .int .i64 0, .int .i64 0, .int .i64 0, .int .i64 0, .int .i64 0, .int .i64 0, .int .i64 0, .int .i64 0, .int .i64 0, .int .i64 0, .int .i64 0, .int .i64 0, .int .i64 0, .int .i64 0, .int .i64 0, .int .i64 0, .int .i64 0, .int .i64 0, .int .i64 0, .int .i64 0, .int .i64 0, .int .i64 0, .int .i64 0, .int .i64 0, .int .i64 0, .int .i64 0, .int .i64 0, .int .i64 0, .int .i64 0, .int .i64 0, .int .i64 0] 23) = X := ⟨_, rfl⟩
  rw [hs1] at hR hs2
  rw [hW2] at hT hR hA hs2 ⊢
  obtain ⟨T, hTe⟩ : ∃ X, w.heap.size = X := ⟨_, rfl⟩
  rw [hTe] at hT hR hs2
  try rw [hTe]
  have hRc : W2.heap[T + 1]? = some (.cells zC 23 (0, 0)) := hR
  have cT := held_cell hT 0 _ rfl
  have hV2 := hid (hV.below hA)
  have lV := hid (fun (h : 0 < 33) => sl_lt16 hV h)
  have c29 := (Below.cell hA (World.block_lt_of_cell? _ _ hc29)).trans hc29
  replace hW2 := hid hW2
  replace hTe := hid hTe
  replace hA := hid hA
  replace hRc := hid hRc
  replace hs2 := hid hs2
  clear hT hR hs1 hV
  go_upto_region 3 with (fail)
  have nP := alloc_new W2 (.cells #[.int .i64 0, .int .i64 0, .int .i64 0, .int .i64 0, .int .i64 0, .int .i64 0, .int .i64 0, .int .i64 0, .int .i64 0, .int .i64 0, .int .i64 0, .int .i64 0, .int .i64 0, .int .i64 0, .int .i64 0, .int .i64 0, .int .i64 0, .int .i64 0, .int .i64 0, .int .i64 0, .int .i64 0, .int .i64 0, .int .i64 0, .int .i64 0, .int .i64 0, .int .i64 0, .int .i64 0, .int .i64 0, .int .i64 0, .int .i64 0, .int .i64 0, .int .i64 0] 23)
  have hA3 := nP.2.1
  have hP := nP.2.2
  clear nP
  go_upto_region 4 with (fail)
  obtain ⟨W3, hW3⟩ : ∃ X, W2.alloc (.cells #[.int .i64 0, .int .i64 0, .int .i64 0, .int .i64 0, .int .i64 0, .int .i64 0, .int .i64 0, .int .i64 0, .int .i64 0, .int .i64 0, .int .i64 0, .int .i64 0, .int .i64 0, .int .i64 0, .int .i64 0, .int .i64 0, .int .i64 0, .int .i64 0, .int .i64 0, .int .i64 0, .int .i64 0, .int .i64 0, .int .i64 0, .int .i64 0, .int .i64 0, .int .i64 0, .int .i64 0, .int .i64 0, .int .i64 0, .int .i64 0, .int .i64 0, .int .i64 0] 23) = X := ⟨_, rfl⟩
  rw [hW3] at hA3 hP ⊢
  obtain ⟨P, hPe⟩ : ∃ X, W2.heap.size = X := ⟨_, rfl⟩
  rw [hPe] at hP ⊢
  have hPr := hid (show Row .i64 23 W3 P z32 from hP)
  have cT3 := hid ((Below.cell hA3 (World.block_lt_of_cell? _ _ cT)).trans cT)
  have hV3 := hid (hV2.out.below hA3)
  have hR3 := hid (held_after hA3 hRc.out)
  have hAw := hid (bthen hA.out hA3)
  have lT := World.block_lt_of_cell? _ _ cT
  have dT : T ≠ P := by rw [← hPe]; exact Nat.ne_of_lt lT
  have dR : T + 1 ≠ P := by have := hs2.out; omega
  have hwP : w.heap.size ≤ P := by have := hs2.out; have := hTe.out; omega
  have dV := hid (fun (p : Addr) (e : some (⟨b29, o29, none⟩ : Addr) = some p) => show p.block ≠ P by have := lV.out (by omega) p e; omega)
  replace hW3 := hid hW3
  replace hPe := hid hPe
  clear hP hA3 cT
  go_wp2_with fail
  refine (eachO_any P T (some ⟨b29, o29, none⟩) c vs z32 _ hPr.out rfl cT3.out hV3.out dT dV.out).mono ?_
  rintro e W4 ⟨rfl, hP4, hE4⟩
  have hR4 := hid (held_effP hR3.out hE4 dR)
  have hA4 := hid (after_eff16 hAw.out hE4 hwP)
  replace hP4 := hid hP4
  clear hE4
  go_upto_region 5 with (fail)
  refine wp_region_lit ?_
  refine wpList_load_row rfl 23 (.tmp 4) rfl P rfl 23 ((inP vs z32).map (Value.int .i64)).toArray (0, 0) _ hP4.out Try.underlying23 rfl (by rw [inC_size]; kernel_rfl) ?_
  refine wpList_store_row rfl 23 (.tmp 2) (.tmp 17) rfl (T + 1) ((inP vs z32).map (Value.int .i64)).toArray rfl rfl 23 zC hR4.out (by rw [inC_size]; kernel_rfl) (by rw [inC_size]; rfl) (allOne16 _) ?_
  have hR9 := hid (setRow_heap W4 (T + 1) zC ((inP vs z32).map (Value.int .i64)).toArray 23 (0, 0) hR4.out)
  have hA9 := hid (setRow_after hA4.out (cs := ((inP vs z32).map (Value.int .i64)).toArray) (by have := hTe.out; omega) hR4.out)
  obtain ⟨W9, hW9⟩ : ∃ X, W4.setRow (T + 1) ((inP vs z32).map (Value.int .i64)).toArray = X := ⟨_, rfl⟩
  rw [hW9] at hR9 hA9 ⊢
  clear hW9
  go_wp2_with fail
  exact bodyPost_ret (results_cr Try.results9 _ _ (T + 1) 23 _ (0, 0) _ rfl hR9.out Try.underlying23 rfl (by rw [inC_size]; kernel_rfl)) rfl ⟨rfl, hA9.out⟩

end Go.Proofs.Ytfihdgichmocmaa
