/- Package pvt: Put, Take. -/
import Derived.Test.YtfihdgichmocmaaPvt10
import Derived.Deep.DeepCutAuto
namespace Go.Proofs.Ytfihdgichmocmaa
open Go.ChangeShapes Go.WideShapes Go.ChangeAt Go.RowKit
set_option linter.unusedVariables false
set_option linter.unusedSimpArgs false

set_option maxRecDepth 100000 in
set_option maxHeartbeats 8000000 in
theorem take16_any (ba : Option Addr) (bl bc : Nat) (zs : List Int) (w : World) (hS : Sl .u8 w ba bl bc zs) (hz : ∀ x ∈ zs, (Lit.int .u8 x).wf = true) (hbl : bl ≤ 100000) : Calls Try.prog 17 #[.slice ba bl bc] w fun e w' => e = .returned (.tuple #[.agg ((takM zs).1.map (Value.int .i64)).toArray, .int .i64 (takM zs).2]) ∧ After w w' := by
  obtain ⟨⟨P, er⟩, hr⟩ : ∃ r, takL PD16 zs = r := ⟨_, rfl⟩
  have hno := hid (fun h : er ≠ 0 => takM_no hr h)
  have hok := hid (fun h : er = 0 => takM_ok (h ▸ hr))
  have h29 := hid (fun h : er = 0 => tak29 (h ▸ hr))
  obtain ⟨M, hM⟩ : ∃ M, takM zs = M := ⟨_, rfl⟩
  rw [hM] at hno hok ⊢
  clear hM
  replace hr := hid hr
  replace hz := hid hz
  replace hS := hid hS
  have nP := alloc_new w (.cells #[.int .i64 0, .int .i64 0, .int .i64 0, .int .i64 0, .int .i64 0, .int .i64 0, .int .i64 0, .int .i64 0, .int .i64 0, .int .i64 0, .int .i64 0, .int .i64 0, .int .i64 0, .int .i64 0, .int .i64 0, .int .i64 0, .int .i64 0, .int .i64 0, .int .i64 0, .int .i64 0, .int .i64 0, .int .i64 0, .int .i64 0, .int .i64 0, .int .i64 0, .int .i64 0, .int .i64 0, .int .i64 0, .int .i64 0, .int .i64 0, .int .i64 0, .int .i64 0] 23)
  have hA := hid nP.2.1
  have hR := hid (show (w.alloc (.cells #[.int .i64 0, .int .i64 0, .int .i64 0, .int .i64 0, .int .i64 0, .int .i64 0, .int .i64 0, .int .i64 0, .int .i64 0, .int .i64 0, .int .i64 0, .int .i64 0, .int .i64 0, .int .i64 0, .int .i64 0, .int .i64 0, .int .i64 0, .int .i64 0, .int .i64 0, .int .i64 0, .int .i64 0, .int .i64 0, .int .i64 0, .int .i64 0, .int .i64 0, .int .i64 0, .int .i64 0, .int .i64 0, .int .i64 0, .int .i64 0, .int .i64 0, .int .i64 0] 23)).heap[w.heap.size]? = some (.cells zC 23 (0, 0)) from nP.2.2)
  clear nP
  go_enter Try.func17, Try.ntmps17
  go_upto_region 1 with (fail)
  obtain ⟨W1, hW1⟩ : ∃ X, w.alloc (.cells #[.int .i64 0, .int .i64 0, .int .i64 0, .int .i64 0, .int .i64 0, .int .i64 0, .int .i64 0, .int .i64 0, .int .i64 0, .int .i64 0, .int .i64 0, .int .i64 0, .int .i64 0, .int .i64 0, .int .i64 0, .int .i64 0, .int .i64 0, .int .i64 0, .int .i64 0, .int .i64 0, .int .i64 0, .int .i64 0, .int .i64 0, .int .i64 0, .int .i64 0, .int .i64 0, .int .i64 0, .int .i64 0, .int .i64 0, .int .i64 0, .int .i64 0, .int .i64 0] 23) = X := ⟨_, rfl⟩
  rw [hW1] at hA hR ⊢
  obtain ⟨T, hTe⟩ : ∃ X, w.heap.size = X := ⟨_, rfl⟩
  rw [hTe] at hR ⊢
  replace hW1 := hid hW1
  replace hTe := hid hTe
  go_wp2_with fail
  refine (fields16 _).mono ?_
  rintro e V1 ⟨fa, fc, rfl, hF, hA1⟩
  have hB1 := hid (bthen hA.out hA1)
  replace hR := hid (held_after hA1 hR.out)
  clear hA1
  replace hF := hid hF
  go_wp2_with fail
  refine (stake_any fa 33 fc (fN PD16) (fS PD16) (fL PD16) (fH PD16) ba bl bc zs _ hF.out (hS.out.below hB1.out) hz.out (by omega) hbl).mono ?_
  rintro e V2 ⟨ra, rc, rfl, hO, hA2⟩
  have hB := hid (bthen hB1.out hA2)
  replace hR := hid (held_after hA2 hR.out)
  change Own _ _ _ _ (.slice ra (takL PD16 zs).1.length rc) (takL PD16 zs).1 at hO
  have e1 : (takF (fN PD16) (fS PD16) (fL PD16) (fH PD16) 33 zs) = (P, er) := hr.out
  rw [hr.out] at hO
  rw [e1]
  dsimp only at hO
  clear e1 hA2 hB1 hF hA
  replace hO := hid hO
  by_cases he : er = 0
  case neg =>
    obtain rfl : M = (z32, er) := hno.out he
    clear hno hok h29
    go_upto_region 3 with (fail)
    refine wp_region_lit ?_
    refine wpList_built16 rfl 23 #[] rfl zC (by simp [Act.eval]; exact built_pvt) ?_
    go_wp2_with (refine wpList_store_row rfl 23 (.tmp 2) (.tmp 16) rfl T zC rfl rfl 23 zC hR.out (by kernel_rfl) rfl (allOne16 _) ?_)
    have hR9 := hid (setRow_heap V2 T zC zC 23 (0, 0) hR.out)
    have hA9 := hid (setRow_after hB.out (cs := zC) (by have := hTe.out; omega) hR.out)
    exact bodyPost_ret (results_cr Try.results17 _ _ T 23 zC (0, 0) _ rfl hR9.out Try.underlying23 rfl (by kernel_rfl)) rfl ⟨rfl, hA9.out⟩
  subst he
  obtain rfl : M = (inP P z32, 0) := hok.out rfl
  obtain ⟨hPl, h0⟩ := h29.out rfl
  have hofv : ofV 33 P = (inP P z32, true) := if_pos ⟨rfl, h0⟩
  replace hofv := hid hofv
  clear hno hok h29 h0
  have hOs := hO.out.slf
  rw [hPl] at hOs
  replace hOs := hid hOs
  rw [hPl]
  replace hPl := hid hPl
  clear hO
  go_wp2_with fail
  refine (of_any ra 33 rc P _ hOs.out (by omega)).mono ?_
  rintro e V3 ⟨rfl, hA3⟩
  rw [hofv.out]
  replace hB := hid (bthen hB.out hA3)
  replace hR := hid (held_after hA3 hR.out)
  clear hA3 hOs
  have hCs := hid (inC_size P)
  obtain ⟨C, hC⟩ : ∃ C, ((inP P z32).map (Value.int .i64)).toArray = C := ⟨_, rfl⟩
  have hC1 := hid (show C.all (·.oneCell') = true from hC ▸ allOne16 _)
  rw [hC] at hCs ⊢
  replace hC := hid hC
  dsimp only
  have n3 := alloc_new V3 (.cells #[.int .i64 0, .int .i64 0, .int .i64 0, .int .i64 0, .int .i64 0, .int .i64 0, .int .i64 0, .int .i64 0, .int .i64 0, .int .i64 0, .int .i64 0, .int .i64 0, .int .i64 0, .int .i64 0, .int .i64 0, .int .i64 0, .int .i64 0, .int .i64 0, .int .i64 0, .int .i64 0, .int .i64 0, .int .i64 0, .int .i64 0, .int .i64 0, .int .i64 0, .int .i64 0, .int .i64 0, .int .i64 0, .int .i64 0, .int .i64 0, .int .i64 0, .int .i64 0] 23)
  have hB4 := hid (bthen hB.out n3.2.1)
  have hR4 := hid (held_after n3.2.1 hR.out)
  have hX4 := hid (show (V3.alloc (.cells #[.int .i64 0, .int .i64 0, .int .i64 0, .int .i64 0, .int .i64 0, .int .i64 0, .int .i64 0, .int .i64 0, .int .i64 0, .int .i64 0, .int .i64 0, .int .i64 0, .int .i64 0, .int .i64 0, .int .i64 0, .int .i64 0, .int .i64 0, .int .i64 0, .int .i64 0, .int .i64 0, .int .i64 0, .int .i64 0, .int .i64 0, .int .i64 0, .int .i64 0, .int .i64 0, .int .i64 0, .int .i64 0, .int .i64 0, .int .i64 0, .int .i64 0, .int .i64 0] 23)).heap[V3.heap.size]? = some (.cells zC 23 (0, 0)) from n3.2.2)
  have dX : T ≠ V3.heap.size := by have := held_lt hR.out; omega
  clear n3
  have hX5 := hid (setRow_heap (V3.alloc (.cells #[.int .i64 0, .int .i64 0, .int .i64 0, .int .i64 0, .int .i64 0, .int .i64 0, .int .i64 0, .int .i64 0, .int .i64 0, .int .i64 0, .int .i64 0, .int .i64 0, .int .i64 0, .int .i64 0, .int .i64 0, .int .i64 0, .int .i64 0, .int .i64 0, .int .i64 0, .int .i64 0, .int .i64 0, .int .i64 0, .int .i64 0, .int .i64 0, .int .i64 0, .int .i64 0, .int .i64 0, .int .i64 0, .int .i64 0, .int .i64 0, .int .i64 0, .int .i64 0] 23)) V3.heap.size zC C 23 (0, 0) hX4.out)
  have hR5 := hid ((setRow_other (V3.alloc (.cells #[.int .i64 0, .int .i64 0, .int .i64 0, .int .i64 0, .int .i64 0, .int .i64 0, .int .i64 0, .int .i64 0, .int .i64 0, .int .i64 0, .int .i64 0, .int .i64 0, .int .i64 0, .int .i64 0, .int .i64 0, .int .i64 0, .int .i64 0, .int .i64 0, .int .i64 0, .int .i64 0, .int .i64 0, .int .i64 0, .int .i64 0, .int .i64 0, .int .i64 0, .int .i64 0, .int .i64 0, .int .i64 0, .int .i64 0, .int .i64 0, .int .i64 0, .int .i64 0] 23)) V3.heap.size T C dX).trans hR4.out)
  have hB5 := hid (setRow_after hB4.out (cs := C) (by have := hB.out.size; omega) hX4.out)
  have hR9 := hid (setRow_heap _ T zC C 23 (0, 0) hR5.out)
  have hA9 := hid (setRow_after hB5.out (cs := C) (by have := hTe.out; omega) hR5.out)
  go_wp2_with (first | refine wpList_store_row rfl 23 (.tmp 6) (.tmp 21) rfl V3.heap.size C rfl rfl 23 zC hX4.out (by rw [hCs.out]; kernel_rfl) (by rw [hCs.out]; rfl) hC1.out ?_ | refine wpList_load_row rfl 23 (.tmp 6) rfl V3.heap.size rfl 23 C (0, 0) _ hX5.out Try.underlying23 rfl (by rw [hCs.out]; kernel_rfl) ?_ | refine wpList_store_row rfl 23 (.tmp 2) (.tmp 26) rfl T C rfl rfl 23 zC hR5.out (by rw [hCs.out]; kernel_rfl) (by rw [hCs.out]; rfl) hC1.out ?_)
  refine bodyPost_ret (v := .tuple #[.agg C, .int .i64 0]) (results_cr Try.results17 _ _ T 23 C (0, 0) _ rfl hR9.out Try.underlying23 rfl (by rw [hCs.out]; kernel_rfl)) rfl ⟨?_, hA9.out⟩
  rw [← hC.out]

set_option maxRecDepth 100000 in
set_option maxHeartbeats 8000000 in
theorem rtake16_any (ba : Option Addr) (bl bc : Nat) (zs : List Int) (w : World) (hS : Sl .u8 w ba bl bc zs) (hz : ∀ x ∈ zs, (Lit.int .u8 x).wf = true) (hbl : bl ≤ 100000) : Calls Try.prog 18 #[.slice ba bl bc] w fun e w' => e = .returned (.tuple #[.agg ((takM zs).1.map (Value.int .i64)).toArray, .int .i64 (takM zs).2]) ∧ After w w' := by
  obtain ⟨⟨P, er⟩, hr⟩ : ∃ r, takL PD16 zs = r := ⟨_, rfl⟩
  have hno := hid (fun h : er ≠ 0 => takM_no hr h)
  have hok := hid (fun h : er = 0 => takM_ok (h ▸ hr))
  have h29 := hid (fun h : er = 0 => tak29 (h ▸ hr))
  obtain ⟨M, hM⟩ : ∃ M, takM zs = M := ⟨_, rfl⟩
  rw [hM] at hno hok ⊢
  clear hM
  replace hr := hid hr
  replace hz := hid hz
  replace hS := hid hS
  have nP := alloc_new w (.cells #[.int .i64 0, .int .i64 0, .int .i64 0, .int .i64 0, .int .i64 0, .int .i64 0, .int .i64 0, .int .i64 0, .int .i64 0, .int .i64 0, .int .i64 0, .int .i64 0, .int .i64 0, .int .i64 0, .int .i64 0, .int .i64 0, .int .i64 0, .int .i64 0, .int .i64 0, .int .i64 0, .int .i64 0, .int .i64 0, .int .i64 0, .int .i64 0, .int .i64 0, .int .i64 0, .int .i64 0, .int .i64 0, .int .i64 0, .int .i64 0, .int .i64 0, .int .i64 0] 23)
  have hA := hid nP.2.1
  have hR := hid (show (w.alloc (.cells #[.int .i64 0, .int .i64 0, .int .i64 0, .int .i64 0, .int .i64 0, .int .i64 0, .int .i64 0, .int .i64 0, .int .i64 0, .int .i64 0, .int .i64 0, .int .i64 0, .int .i64 0, .int .i64 0, .int .i64 0, .int .i64 0, .int .i64 0, .int .i64 0, .int .i64 0, .int .i64 0, .int .i64 0, .int .i64 0, .int .i64 0, .int .i64 0, .int .i64 0, .int .i64 0, .int .i64 0, .int .i64 0, .int .i64 0, .int .i64 0, .int .i64 0, .int .i64 0] 23)).heap[w.heap.size]? = some (.cells zC 23 (0, 0)) from nP.2.2)
  clear nP
  go_enter Try.func18, Try.ntmps18
  go_upto_region 1 with (fail)
  obtain ⟨W1, hW1⟩ : ∃ X, w.alloc (.cells #[.int .i64 0, .int .i64 0, .int .i64 0, .int .i64 0, .int .i64 0, .int .i64 0, .int .i64 0, .int .i64 0, .int .i64 0, .int .i64 0, .int .i64 0, .int .i64 0, .int .i64 0, .int .i64 0, .int .i64 0, .int .i64 0, .int .i64 0, .int .i64 0, .int .i64 0, .int .i64 0, .int .i64 0, .int .i64 0, .int .i64 0, .int .i64 0, .int .i64 0, .int .i64 0, .int .i64 0, .int .i64 0, .int .i64 0, .int .i64 0, .int .i64 0, .int .i64 0] 23) = X := ⟨_, rfl⟩
  rw [hW1] at hA hR ⊢
  obtain ⟨T, hTe⟩ : ∃ X, w.heap.size = X := ⟨_, rfl⟩
  rw [hTe] at hR ⊢
  replace hW1 := hid hW1
  replace hTe := hid hTe
  go_wp2_with fail
  refine (rfields16 _).mono ?_
  rintro e V1 ⟨fa, fc, rfl, hF, hA1⟩
  have hB1 := hid (bthen hA.out hA1)
  replace hR := hid (held_after hA1 hR.out)
  clear hA1
  replace hF := hid hF
  go_wp2_with fail
  refine (rstake_any fa 33 fc (fN PD16) (fS PD16) (fL PD16) (fH PD16) ba bl bc zs _ hF.out (hS.out.below hB1.out) hz.out (by omega) hbl).mono ?_
  rintro e V2 ⟨ra, rc, rfl, hO, hA2⟩
  have hB := hid (bthen hB1.out hA2)
  replace hR := hid (held_after hA2 hR.out)
  change Own _ _ _ _ (.slice ra (takL PD16 zs).1.length rc) (takL PD16 zs).1 at hO
  have e1 : (takF (fN PD16) (fS PD16) (fL PD16) (fH PD16) 33 zs) = (P, er) := hr.out
  rw [hr.out] at hO
  rw [e1]
  dsimp only at hO
  clear e1 hA2 hB1 hF hA
  replace hO := hid hO
  by_cases he : er = 0
  case neg =>
    obtain rfl : M = (z32, er) := hno.out he
    clear hno hok h29
    go_upto_region 3 with (fail)
    refine wp_region_lit ?_
    refine wpList_built16 rfl 23 #[] rfl zC (by simp [Act.eval]; exact built_pvt) ?_
    go_wp2_with (refine wpList_store_row rfl 23 (.tmp 2) (.tmp 16) rfl T zC rfl rfl 23 zC hR.out (by kernel_rfl) rfl (allOne16 _) ?_)
    have hR9 := hid (setRow_heap V2 T zC zC 23 (0, 0) hR.out)
    have hA9 := hid (setRow_after hB.out (cs := zC) (by have := hTe.out; omega) hR.out)
    exact bodyPost_ret (results_cr Try.results18 _ _ T 23 zC (0, 0) _ rfl hR9.out Try.underlying23 rfl (by kernel_rfl)) rfl ⟨rfl, hA9.out⟩
  subst he
  obtain rfl : M = (inP P z32, 0) := hok.out rfl
  obtain ⟨hPl, h0⟩ := h29.out rfl
  have hofv : ofV 33 P = (inP P z32, true) := if_pos ⟨rfl, h0⟩
  replace hofv := hid hofv
  clear hno hok h29 h0
  have hOs := hO.out.slf
  rw [hPl] at hOs
  replace hOs := hid hOs
  rw [hPl]
  replace hPl := hid hPl
  clear hO
  go_wp2_with fail
  refine (rof_any ra 33 rc P _ hOs.out (by omega)).mono ?_
  rintro e V3 ⟨rfl, hA3⟩
  rw [hofv.out]
  replace hB := hid (bthen hB.out hA3)
  replace hR := hid (held_after hA3 hR.out)
  clear hA3 hOs
  have hCs := hid (inC_size P)
  obtain ⟨C, hC⟩ : ∃ C, ((inP P z32).map (Value.int .i64)).toArray = C := ⟨_, rfl⟩
  have hC1 := hid (show C.all (·.oneCell') = true from hC ▸ allOne16 _)
  rw [hC] at hCs ⊢
  replace hC := hid hC
  dsimp only
  have n3 := alloc_new V3 (.cells #[.int .i64 0, .int .i64 0, .int .i64 0, .int .i64 0, .int .i64 0, .int .i64 0, .int .i64 0, .int .i64 0, .int .i64 0, .int .i64 0, .int .i64 0, .int .i64 0, .int .i64 0, .int .i64 0, .int .i64 0, .int .i64 0, .int .i64 0, .int .i64 0, .int .i64 0, .int .i64 0, .int .i64 0, .int .i64 0, .int .i64 0, .int .i64 0, .int .i64 0, .int .i64 0, .int .i64 0, .int .i64 0, .int .i64 0, .int .i64 0, .int .i64 0, .int .i64 0] 23)
  have hB4 := hid (bthen hB.out n3.2.1)
  have hR4 := hid (held_after n3.2.1 hR.out)
  have hX4 := hid (show (V3.alloc (.cells #[.int .i64 0, .int .i64 0, .int .i64 0, .int .i64 0, .int .i64 0, .int .i64 0, .int .i64 0, .int .i64 0, .int .i64 0, .int .i64 0, .int .i64 0, .int .i64 0, .int .i64 0, .int .i64 0, .int .i64 0, .int .i64 0, .int .i64 0, .int .i64 0, .int .i64 0, .int .i64 0, .int .i64 0, .int .i64 0, .int .i64 0, .int .i64 0, .int .i64 0, .int .i64 0, .int .i64 0, .int .i64 0, .int .i64 0, .int .i64 0, .int .i64 0, .int .i64 0] 23)).heap[V3.heap.size]? = some (.cells zC 23 (0, 0)) from n3.2.2)
  have dX : T ≠ V3.heap.size := by have := held_lt hR.out; omega
  clear n3
  have hX5 := hid (setRow_heap (V3.alloc (.cells #[.int .i64 0, .int .i64 0, .int .i64 0, .int .i64 0, .int .i64 0, .int .i64 0, .int .i64 0, .int .i64 0, .int .i64 0, .int .i64 0, .int .i64 0, .int .i64 0, .int .i64 0, .int .i64 0, .int .i64 0, .int .i64 0, .int .i64 0, .int .i64 0, .int .i64 0, .int .i64 0, .int .i64 0, .int .i64 0, .int .i64 0, .int .i64 0, .int .i64 0, .int .i64 0, .int .i64 0, .int .i64 0, .int .i64 0, .int .i64 0, .int .i64 0, .int .i64 0] 23)) V3.heap.size zC C 23 (0, 0) hX4.out)
  have hR5 := hid ((setRow_other (V3.alloc (.cells #[.int .i64 0, .int .i64 0, .int .i64 0, .int .i64 0, .int .i64 0, .int .i64 0, .int .i64 0, .int .i64 0, .int .i64 0, .int .i64 0, .int .i64 0, .int .i64 0, .int .i64 0, .int .i64 0, .int .i64 0, .int .i64 0, .int .i64 0, .int .i64 0, .int .i64 0, .int .i64 0, .int .i64 0, .int .i64 0, .int .i64 0, .int .i64 0, .int .i64 0, .int .i64 0, .int .i64 0, .int .i64 0, .int .i64 0, .int .i64 0, .int .i64 0, .int .i64 0] 23)) V3.heap.size T C dX).trans hR4.out)
  have hB5 := hid (setRow_after hB4.out (cs := C) (by have := hB.out.size; omega) hX4.out)
  have hR9 := hid (setRow_heap _ T zC C 23 (0, 0) hR5.out)
  have hA9 := hid (setRow_after hB5.out (cs := C) (by have := hTe.out; omega) hR5.out)
  go_wp2_with (first | refine wpList_store_row rfl 23 (.tmp 6) (.tmp 21) rfl V3.heap.size C rfl rfl 23 zC hX4.out (by rw [hCs.out]; kernel_rfl) (by rw [hCs.out]; rfl) hC1.out ?_ | refine wpList_load_row rfl 23 (.tmp 6) rfl V3.heap.size rfl 23 C (0, 0) _ hX5.out Try.underlying23 rfl (by rw [hCs.out]; kernel_rfl) ?_ | refine wpList_store_row rfl 23 (.tmp 2) (.tmp 23) rfl T C rfl rfl 23 zC hR5.out (by rw [hCs.out]; kernel_rfl) (by rw [hCs.out]; rfl) hC1.out ?_)
  refine bodyPost_ret (v := .tuple #[.agg C, .int .i64 0]) (results_cr Try.results18 _ _ T 23 C (0, 0) _ rfl hR9.out Try.underlying23 rfl (by rw [hCs.out]; kernel_rfl)) rfl ⟨?_, hA9.out⟩
  rw [← hC.out]


end Go.Proofs.Ytfihdgichmocmaa
