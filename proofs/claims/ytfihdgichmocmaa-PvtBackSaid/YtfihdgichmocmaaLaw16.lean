/- The laws of layer 16: PvtTakes. -/
import Derived.Test.YtfihdgichmocmaaPvt12
import Derived.Test.YtfihdgichmocmaaEls
import Derived.Deep.DeepCutAuto
namespace Go.Proofs.Ytfihdgichmocmaa
open Go.ChangeShapes Go.WideShapes Go.ChangeAt Go.RowKit
set_option linter.unusedVariables false
set_option linter.unusedSimpArgs false

theorem wpList_load_rowG {P : Program} {ops : Array Oper} {rest : List Oper} {o : Oper} {a : Act} {w : World} {Q : Exit → Act → World → Prop} (hgd : Region.wanted o (yielded ops a.tmps) = true) (ty : TypeId) (x : Operand) (ho : o.op = .load ty x)
    (g : Nat) (hx : a.eval x = .pointer (some ⟨g, 0, none⟩)) (t : TypeId) (cs : Array Value) (fr : Nat × Nat) (d : TypeDesc) (hg : w.heap[g]? = some (.cells cs t fr))
    (hu : P.underlying ty = some d) (hd : (match d with | .struct _ | .array _ _ => true | _ => false) = true) (hi : (P.info? ty).map (·.size) = some cs.size)
    (h : wpList P ops Q rest (a.put o.dst (.agg cs)) w) : wpList P ops Q (o :: rest) a w :=
  BigFrame.wpList_want hgd fun _ hK => wp_load_row ty x ho g hx t cs fr d hg hu hd hi (hK _ _ h)
theorem ofV_len (n : Nat) (vs : List Int) : (ofV n vs).1.length = 32 := by
  unfold ofV
  split
  · rw [inP_len]; rfl
  · rfl
set_option maxRecDepth 100000 in
set_option maxHeartbeats 8000000 in
theorem law_PvtTakes (a0 : Option Addr) (len0 cap0 : Nat) (z0 : List Int) (a1 : Option Addr) (len1 cap1 : Nat) (z1 : List Int) (W : World) (w0 : IsRow .u8 W a0 len0 cap0 z0) (w1 : IsRow .i64 W a1 len1 cap1 z1) :
    Calls Try.prog 4 #[.slice a0 len0 cap0, .slice a1 len1 cap1] W fun e w' => e = .returned (.bool true) ∧ Below W.heap.size W w' := by
  obtain ⟨hs0, hw0⟩ := w0.sl
  obtain ⟨hs1, hw1⟩ := w1.sl
  generalize z0.take len0 = bs at hs0 hw0
  generalize z1.take len1 = vs at hs1 hw1
  clear w0 w1 hw1
  replace hs0 := hid hs0
  replace hs1 := hid hs1
  replace hw0 := hid hw0
  by_cases c0 : (200 : Int) < len0
  case pos =>
    go_enter Try.func4, Try.ntmps4
    go_wp2_with fail
    refine (knows16_any _).mono ?_
    rintro e V ⟨rfl, hst⟩
    replace hst := hid hst
    go_wp2_with fail
    go_ret
    exact ⟨rfl, hst.out⟩
  by_cases c1 : (200 : Int) < len1
  case pos =>
    go_enter Try.func4, Try.ntmps4
    go_wp2_with fail
    refine (knows16_any _).mono ?_
    rintro e V ⟨rfl, hst⟩
    replace hst := hid hst
    go_wp2_with fail
    go_ret
    exact ⟨rfl, hst.out⟩
  have te := takF_e (fN PD16) (fS PD16) (fL PD16) (fH PD16) PD16.length bs
  have ee : 0 ≤ (takM bs).2 ∧ (takM bs).2 ≤ 9 := by
    change 0 ≤ (takL PD16 bs).2 ∧ (takL PD16 bs).2 ≤ 9 at te
    unfold takM; split
    · simp
    · exact te
  clear te
  have ml := takM_len bs
  obtain ⟨C1, hC1⟩ : ∃ C, (((takM bs).1).map (Value.int .i64)).toArray = C := ⟨_, rfl⟩
  have sC1 := hid (show C1.size = 32 by rw [← hC1, List.size_toArray, List.length_map]; exact takM_len bs)
  have oC1 := hid (show C1.all (·.oneCell') = true from hC1 ▸ allOne16 _)
  have qC1 := hid (fun U => hC1 ▸ eqP16 _ (takM_len bs) U)
  obtain ⟨C2, hC2⟩ : ∃ C, (((ofV len1 vs).1).map (Value.int .i64)).toArray = C := ⟨_, rfl⟩
  have sC2 := hid (show C2.size = 32 by rw [← hC2, List.size_toArray, List.length_map]; exact ofV_len len1 vs)
  have oC2 := hid (show C2.all (·.oneCell') = true from hC2 ▸ allOne16 _)
  have qC2 := hid (fun U => hC2 ▸ eqP16 _ (ofV_len len1 vs) U)
  have kT := hid (fun U h => hC1 ▸ take16_any a0 len0 cap0 bs U h hw0.out (by omega))
  have kR := hid (fun U h => hC1 ▸ rtake16_any a0 len0 cap0 bs U h hw0.out (by omega))
  have kO := hid (fun U h => hC2 ▸ of_any a1 len1 cap1 vs U h (by omega))
  have kQ := hid (fun U h => hC2 ▸ rof_any a1 len1 cap1 vs U h (by omega))
  generalize (takM bs).2 = ev at *
  generalize (ofV len1 vs).2 = ob at *
  clear hC1 hC2 ml
  go_enter Try.func4, Try.ntmps4
  go_wp2_with fail
  refine (knows16_any _).mono ?_
  rintro e V0 ⟨rfl, hB⟩
  replace hB := hid hB
  go_wp2_with fail
  refine (kT.out _ (hs0.out.below hB.out)).mono ?_
  rintro e V1 ⟨rfl, hA⟩
  replace hB := hid (bthen hB.out hA)
  clear hA
  have n3 := alloc_new V1 (.cells #[.int .i64 0, .int .i64 0, .int .i64 0, .int .i64 0, .int .i64 0, .int .i64 0, .int .i64 0, .int .i64 0, .int .i64 0, .int .i64 0, .int .i64 0, .int .i64 0, .int .i64 0, .int .i64 0, .int .i64 0, .int .i64 0, .int .i64 0, .int .i64 0, .int .i64 0, .int .i64 0, .int .i64 0, .int .i64 0, .int .i64 0, .int .i64 0, .int .i64 0, .int .i64 0, .int .i64 0, .int .i64 0, .int .i64 0, .int .i64 0, .int .i64 0, .int .i64 0] 23)
  have hX4 := (show (V1.alloc (.cells #[.int .i64 0, .int .i64 0, .int .i64 0, .int .i64 0, .int .i64 0, .int .i64 0, .int .i64 0, .int .i64 0, .int .i64 0, .int .i64 0, .int .i64 0, .int .i64 0, .int .i64 0, .int .i64 0, .int .i64 0, .int .i64 0, .int .i64 0, .int .i64 0, .int .i64 0, .int .i64 0, .int .i64 0, .int .i64 0, .int .i64 0, .int .i64 0, .int .i64 0, .int .i64 0, .int .i64 0, .int .i64 0, .int .i64 0, .int .i64 0, .int .i64 0, .int .i64 0] 23)).heap[V1.heap.size]? = some (.cells zC 23 (0, 0)) from n3.2.2)
  have ra := hid (setRow_heap (V1.alloc (.cells #[.int .i64 0, .int .i64 0, .int .i64 0, .int .i64 0, .int .i64 0, .int .i64 0, .int .i64 0, .int .i64 0, .int .i64 0, .int .i64 0, .int .i64 0, .int .i64 0, .int .i64 0, .int .i64 0, .int .i64 0, .int .i64 0, .int .i64 0, .int .i64 0, .int .i64 0, .int .i64 0, .int .i64 0, .int .i64 0, .int .i64 0, .int .i64 0, .int .i64 0, .int .i64 0, .int .i64 0, .int .i64 0, .int .i64 0, .int .i64 0, .int .i64 0, .int .i64 0] 23)) V1.heap.size zC C1 23 (0, 0) hX4)
  have hA := hid (setRow_after n3.2.1 (cs := C1) (Nat.le_refl _) hX4)
  replace hX4 := hid hX4
  clear n3
  go_wp2_with (refine wpList_store_row rfl 23 (.tmp 5) (.tmp 29) rfl V1.heap.size C1 rfl rfl 23 zC hX4.out (by rw [sC1.out]; kernel_rfl) (by rw [sC1.out]; rfl) oC1.out ?_)
  clear hX4
  obtain ⟨V2, hV2⟩ : ∃ X, (V1.alloc (.cells #[.int .i64 0, .int .i64 0, .int .i64 0, .int .i64 0, .int .i64 0, .int .i64 0, .int .i64 0, .int .i64 0, .int .i64 0, .int .i64 0, .int .i64 0, .int .i64 0, .int .i64 0, .int .i64 0, .int .i64 0, .int .i64 0, .int .i64 0, .int .i64 0, .int .i64 0, .int .i64 0, .int .i64 0, .int .i64 0, .int .i64 0, .int .i64 0, .int .i64 0, .int .i64 0, .int .i64 0, .int .i64 0, .int .i64 0, .int .i64 0, .int .i64 0, .int .i64 0] 23)).setRow V1.heap.size C1 = X := ⟨_, rfl⟩
  have hA2 := hA.out
  clear hA
  have hA := hA2
  clear hA2
  rw [hV2] at hA ra ⊢
  obtain ⟨qa, hqa⟩ : ∃ X, V1.heap.size = X := ⟨_, rfl⟩
  rw [hqa] at ra ⊢
  replace hV2 := hid hV2
  replace hqa := hid hqa
  replace hB := hid (bthen hB.out hA)
  clear hA
  replace ra := hid ra.out
  refine (kR.out _ (hs0.out.below hB.out)).mono ?_
  rintro e V3 ⟨rfl, hA⟩
  replace ra := hid (held_after hA ra.out)
  replace hB := hid (bthen hB.out hA)
  clear hA
  have n3 := alloc_new V3 (.cells #[.int .i64 0, .int .i64 0, .int .i64 0, .int .i64 0, .int .i64 0, .int .i64 0, .int .i64 0, .int .i64 0, .int .i64 0, .int .i64 0, .int .i64 0, .int .i64 0, .int .i64 0, .int .i64 0, .int .i64 0, .int .i64 0, .int .i64 0, .int .i64 0, .int .i64 0, .int .i64 0, .int .i64 0, .int .i64 0, .int .i64 0, .int .i64 0, .int .i64 0, .int .i64 0, .int .i64 0, .int .i64 0, .int .i64 0, .int .i64 0, .int .i64 0, .int .i64 0] 23)
  have hX4 := (show (V3.alloc (.cells #[.int .i64 0, .int .i64 0, .int .i64 0, .int .i64 0, .int .i64 0, .int .i64 0, .int .i64 0, .int .i64 0, .int .i64 0, .int .i64 0, .int .i64 0, .int .i64 0, .int .i64 0, .int .i64 0, .int .i64 0, .int .i64 0, .int .i64 0, .int .i64 0, .int .i64 0, .int .i64 0, .int .i64 0, .int .i64 0, .int .i64 0, .int .i64 0, .int .i64 0, .int .i64 0, .int .i64 0, .int .i64 0, .int .i64 0, .int .i64 0, .int .i64 0, .int .i64 0] 23)).heap[V3.heap.size]? = some (.cells zC 23 (0, 0)) from n3.2.2)
  have rb := hid (setRow_heap (V3.alloc (.cells #[.int .i64 0, .int .i64 0, .int .i64 0, .int .i64 0, .int .i64 0, .int .i64 0, .int .i64 0, .int .i64 0, .int .i64 0, .int .i64 0, .int .i64 0, .int .i64 0, .int .i64 0, .int .i64 0, .int .i64 0, .int .i64 0, .int .i64 0, .int .i64 0, .int .i64 0, .int .i64 0, .int .i64 0, .int .i64 0, .int .i64 0, .int .i64 0, .int .i64 0, .int .i64 0, .int .i64 0, .int .i64 0, .int .i64 0, .int .i64 0, .int .i64 0, .int .i64 0] 23)) V3.heap.size zC C1 23 (0, 0) hX4)
  have hA := hid (setRow_after n3.2.1 (cs := C1) (Nat.le_refl _) hX4)
  replace hX4 := hid hX4
  clear n3
  go_wp2_with (refine wpList_store_row rfl 23 (.tmp 7) (.tmp 34) rfl V3.heap.size C1 rfl rfl 23 zC hX4.out (by rw [sC1.out]; kernel_rfl) (by rw [sC1.out]; rfl) oC1.out ?_)
  clear hX4
  obtain ⟨V4, hV4⟩ : ∃ X, (V3.alloc (.cells #[.int .i64 0, .int .i64 0, .int .i64 0, .int .i64 0, .int .i64 0, .int .i64 0, .int .i64 0, .int .i64 0, .int .i64 0, .int .i64 0, .int .i64 0, .int .i64 0, .int .i64 0, .int .i64 0, .int .i64 0, .int .i64 0, .int .i64 0, .int .i64 0, .int .i64 0, .int .i64 0, .int .i64 0, .int .i64 0, .int .i64 0, .int .i64 0, .int .i64 0, .int .i64 0, .int .i64 0, .int .i64 0, .int .i64 0, .int .i64 0, .int .i64 0, .int .i64 0] 23)).setRow V3.heap.size C1 = X := ⟨_, rfl⟩
  have hA2 := hA.out
  clear hA
  have hA := hA2
  clear hA2
  rw [hV4] at hA rb ⊢
  obtain ⟨qb, hqb⟩ : ∃ X, V3.heap.size = X := ⟨_, rfl⟩
  rw [hqb] at rb ⊢
  replace hV4 := hid hV4
  replace hqb := hid hqb
  replace ra := hid (held_after hA ra.out)
  replace hB := hid (bthen hB.out hA)
  clear hA
  replace rb := hid rb.out
  refine (kO.out _ (hs1.out.below hB.out)).mono ?_
  rintro e V5 ⟨rfl, hA⟩
  replace ra := hid (held_after hA ra.out)
  replace rb := hid (held_after hA rb.out)
  replace hB := hid (bthen hB.out hA)
  clear hA
  have n3 := alloc_new V5 (.cells #[.int .i64 0, .int .i64 0, .int .i64 0, .int .i64 0, .int .i64 0, .int .i64 0, .int .i64 0, .int .i64 0, .int .i64 0, .int .i64 0, .int .i64 0, .int .i64 0, .int .i64 0, .int .i64 0, .int .i64 0, .int .i64 0, .int .i64 0, .int .i64 0, .int .i64 0, .int .i64 0, .int .i64 0, .int .i64 0, .int .i64 0, .int .i64 0, .int .i64 0, .int .i64 0, .int .i64 0, .int .i64 0, .int .i64 0, .int .i64 0, .int .i64 0, .int .i64 0] 23)
  have hX4 := (show (V5.alloc (.cells #[.int .i64 0, .int .i64 0, .int .i64 0, .int .i64 0, .int .i64 0, .int .i64 0, .int .i64 0, .int .i64 0, .int .i64 0, .int .i64 0, .int .i64 0, .int .i64 0, .int .i64 0, .int .i64 0, .int .i64 0, .int .i64 0, .int .i64 0, .int .i64 0, .int .i64 0, .int .i64 0, .int .i64 0, .int .i64 0, .int .i64 0, .int .i64 0, .int .i64 0, .int .i64 0, .int .i64 0, .int .i64 0, .int .i64 0, .int .i64 0, .int .i64 0, .int .i64 0] 23)).heap[V5.heap.size]? = some (.cells zC 23 (0, 0)) from n3.2.2)
  have rc := hid (setRow_heap (V5.alloc (.cells #[.int .i64 0, .int .i64 0, .int .i64 0, .int .i64 0, .int .i64 0, .int .i64 0, .int .i64 0, .int .i64 0, .int .i64 0, .int .i64 0, .int .i64 0, .int .i64 0, .int .i64 0, .int .i64 0, .int .i64 0, .int .i64 0, .int .i64 0, .int .i64 0, .int .i64 0, .int .i64 0, .int .i64 0, .int .i64 0, .int .i64 0, .int .i64 0, .int .i64 0, .int .i64 0, .int .i64 0, .int .i64 0, .int .i64 0, .int .i64 0, .int .i64 0, .int .i64 0] 23)) V5.heap.size zC C2 23 (0, 0) hX4)
  have hA := hid (setRow_after n3.2.1 (cs := C2) (Nat.le_refl _) hX4)
  replace hX4 := hid hX4
  clear n3
  go_wp2_with (refine wpList_store_row rfl 23 (.tmp 9) (.tmp 39) rfl V5.heap.size C2 rfl rfl 23 zC hX4.out (by rw [sC2.out]; kernel_rfl) (by rw [sC2.out]; rfl) oC2.out ?_)
  clear hX4
  obtain ⟨V6, hV6⟩ : ∃ X, (V5.alloc (.cells #[.int .i64 0, .int .i64 0, .int .i64 0, .int .i64 0, .int .i64 0, .int .i64 0, .int .i64 0, .int .i64 0, .int .i64 0, .int .i64 0, .int .i64 0, .int .i64 0, .int .i64 0, .int .i64 0, .int .i64 0, .int .i64 0, .int .i64 0, .int .i64 0, .int .i64 0, .int .i64 0, .int .i64 0, .int .i64 0, .int .i64 0, .int .i64 0, .int .i64 0, .int .i64 0, .int .i64 0, .int .i64 0, .int .i64 0, .int .i64 0, .int .i64 0, .int .i64 0] 23)).setRow V5.heap.size C2 = X := ⟨_, rfl⟩
  have hA2 := hA.out
  clear hA
  have hA := hA2
  clear hA2
  rw [hV6] at hA rc ⊢
  obtain ⟨qc, hqc⟩ : ∃ X, V5.heap.size = X := ⟨_, rfl⟩
  rw [hqc] at rc ⊢
  replace hV6 := hid hV6
  replace hqc := hid hqc
  replace ra := hid (held_after hA ra.out)
  replace rb := hid (held_after hA rb.out)
  replace hB := hid (bthen hB.out hA)
  clear hA
  replace rc := hid rc.out
  refine (kQ.out _ (hs1.out.below hB.out)).mono ?_
  rintro e V7 ⟨rfl, hA⟩
  replace ra := hid (held_after hA ra.out)
  replace rb := hid (held_after hA rb.out)
  replace rc := hid (held_after hA rc.out)
  replace hB := hid (bthen hB.out hA)
  clear hA
  have n3 := alloc_new V7 (.cells #[.int .i64 0, .int .i64 0, .int .i64 0, .int .i64 0, .int .i64 0, .int .i64 0, .int .i64 0, .int .i64 0, .int .i64 0, .int .i64 0, .int .i64 0, .int .i64 0, .int .i64 0, .int .i64 0, .int .i64 0, .int .i64 0, .int .i64 0, .int .i64 0, .int .i64 0, .int .i64 0, .int .i64 0, .int .i64 0, .int .i64 0, .int .i64 0, .int .i64 0, .int .i64 0, .int .i64 0, .int .i64 0, .int .i64 0, .int .i64 0, .int .i64 0, .int .i64 0] 23)
  have hX4 := (show (V7.alloc (.cells #[.int .i64 0, .int .i64 0, .int .i64 0, .int .i64 0, .int .i64 0, .int .i64 0, .int .i64 0, .int .i64 0, .int .i64 0, .int .i64 0, .int .i64 0, .int .i64 0, .int .i64 0, .int .i64 0, .int .i64 0, .int .i64 0, .int .i64 0, .int .i64 0, .int .i64 0, .int .i64 0, .int .i64 0, .int .i64 0, .int .i64 0, .int .i64 0, .int .i64 0, .int .i64 0, .int .i64 0, .int .i64 0, .int .i64 0, .int .i64 0, .int .i64 0, .int .i64 0] 23)).heap[V7.heap.size]? = some (.cells zC 23 (0, 0)) from n3.2.2)
  have rd := hid (setRow_heap (V7.alloc (.cells #[.int .i64 0, .int .i64 0, .int .i64 0, .int .i64 0, .int .i64 0, .int .i64 0, .int .i64 0, .int .i64 0, .int .i64 0, .int .i64 0, .int .i64 0, .int .i64 0, .int .i64 0, .int .i64 0, .int .i64 0, .int .i64 0, .int .i64 0, .int .i64 0, .int .i64 0, .int .i64 0, .int .i64 0, .int .i64 0, .int .i64 0, .int .i64 0, .int .i64 0, .int .i64 0, .int .i64 0, .int .i64 0, .int .i64 0, .int .i64 0, .int .i64 0, .int .i64 0] 23)) V7.heap.size zC C2 23 (0, 0) hX4)
  have hA := hid (setRow_after n3.2.1 (cs := C2) (Nat.le_refl _) hX4)
  replace hX4 := hid hX4
  clear n3
  go_upto_region 7 with (refine wpList_store_row rfl 23 (.tmp 11) (.tmp 44) rfl V7.heap.size C2 rfl rfl 23 zC hX4.out (by rw [sC2.out]; kernel_rfl) (by rw [sC2.out]; rfl) oC2.out ?_)
  clear hX4
  obtain ⟨V8, hV8⟩ : ∃ X, (V7.alloc (.cells #[.int .i64 0, .int .i64 0, .int .i64 0, .int .i64 0, .int .i64 0, .int .i64 0, .int .i64 0, .int .i64 0, .int .i64 0, .int .i64 0, .int .i64 0, .int .i64 0, .int .i64 0, .int .i64 0, .int .i64 0, .int .i64 0, .int .i64 0, .int .i64 0, .int .i64 0, .int .i64 0, .int .i64 0, .int .i64 0, .int .i64 0, .int .i64 0, .int .i64 0, .int .i64 0, .int .i64 0, .int .i64 0, .int .i64 0, .int .i64 0, .int .i64 0, .int .i64 0] 23)).setRow V7.heap.size C2 = X := ⟨_, rfl⟩
  have hA2 := hA.out
  clear hA
  have hA := hA2
  clear hA2
  rw [hV8] at hA rd ⊢
  obtain ⟨qd, hqd⟩ : ∃ X, V7.heap.size = X := ⟨_, rfl⟩
  rw [hqd] at rd ⊢
  replace hV8 := hid hV8
  replace hqd := hid hqd
  replace ra := hid (held_after hA ra.out)
  replace rb := hid (held_after hA rb.out)
  replace rc := hid (held_after hA rc.out)
  replace hB := hid (bthen hB.out hA)
  clear hA
  replace rd := hid rd.out
  have pC1 := qC1.out
  have pC2 := qC2.out
  go_wp2_with (first | refine wpList_load_rowG (by rfl) 23 (.tmp 5) rfl qa rfl 23 C1 (0, 0) _ ra.out Try.underlying23 rfl (by rw [sC1.out]; kernel_rfl) ?_ | refine wpList_load_rowG (by rfl) 23 (.tmp 7) rfl qb rfl 23 C1 (0, 0) _ rb.out Try.underlying23 rfl (by rw [sC1.out]; kernel_rfl) ?_ | refine wpList_load_rowG (by rfl) 23 (.tmp 9) rfl qc rfl 23 C2 (0, 0) _ rc.out Try.underlying23 rfl (by rw [sC2.out]; kernel_rfl) ?_ | refine wpList_load_rowG (by rfl) 23 (.tmp 11) rfl qd rfl 23 C2 (0, 0) _ rd.out Try.underlying23 rfl (by rw [sC2.out]; kernel_rfl) ?_)
  refine (num16_any ev _ (by omega) (by omega)).mono ?_
  rintro e V ⟨rfl, rfl⟩
  go_wp2_with fail
  refine (num16_any ev _ (by omega) (by omega)).mono ?_
  rintro e V ⟨rfl, rfl⟩
  go_wp2_with (first | refine wpList_load_rowG (by rfl) 23 (.tmp 9) rfl qc rfl 23 C2 (0, 0) _ rc.out Try.underlying23 rfl (by rw [sC2.out]; kernel_rfl) ?_ | refine wpList_load_rowG (by rfl) 23 (.tmp 11) rfl qd rfl 23 C2 (0, 0) _ rd.out Try.underlying23 rfl (by rw [sC2.out]; kernel_rfl) ?_)
  go_ret
  exact ⟨ret_bool (by simp), hB.out⟩


end Go.Proofs.Ytfihdgichmocmaa
