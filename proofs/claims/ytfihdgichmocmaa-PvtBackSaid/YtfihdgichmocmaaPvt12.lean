/- Package pvt: == of messages, Speed of 1500, knows. -/
import Derived.Test.YtfihdgichmocmaaPvt11
import Derived.Test.YtfihdgichmocmaaFix
import Derived.Test.YtfihdgichmocmaaRegionK3
import Derived.Test.YtfihdgichmocmaaKB
import Derived.Laws.StructEq
import Derived.ChangeKeysEq
import Derived.Deep.DeepCutAuto
namespace Go.Proofs.Ytfihdgichmocmaa
open Go.ChangeShapes Go.WideShapes Go.ChangeAt Go.RowKit
set_option linter.unusedVariables false
set_option linter.unusedSimpArgs false

theorem txt16 {w : World} {a : Option Addr} {len cap : Nat} {zs : List Int} (h : Sl .u8 w a len cap zs) : (convert 24 9 (.slice a len cap)).run Try.prog w = .ok (.string (textOf zs)) w :=
  h.text 24 9 5 Try.underlying24 Try.underlying5 Try.underlying9
theorem num16_any (n : Int) (w : World) (h1 : -9223372036854775808 ≤ n) (h2 : n ≤ 9223372036854775807) :
    Calls Try.prog 13 #[.int .i64 n] w fun e w' => e = .returned (.int .i64 n) ∧ w' = w := by
  go_enter Try.func13, Try.ntmps13
  go_wp2_with fail
  go_ret
  exact ⟨rfl, rfl⟩
theorem eqFs16 (xs : List Int) (w : World) : ∀ fs : List Field, (∀ f ∈ fs, f.type = 2 ∧ f.offset < xs.length) → (Op.eqFields 9999 (xs.map (Value.int .i64)).toArray (xs.map (Value.int .i64)).toArray fs).run Try.prog w = .ok true w
  | [], _ => by simp [Op.eqFields]
  | f :: fs, h => by
    obtain ⟨h1, h2⟩ := h f (by simp)
    have ih := eqFs16 xs w fs (fun g hg => h g (List.mem_cons_of_mem _ hg))
    have hx : ((xs.map (Value.int .i64)).toArray)[f.offset]? = some (.int .i64 xs[f.offset]) := by simp [h2]
    have hp := run_part_plain (P := Try.prog) (w := w) (e := f.type) (by rw [h1]; kernel_rfl) hx
    have he := run_equalIn_int (P := Try.prog) w 9998 2 .i64 .i64 xs[f.offset] xs[f.offset] Try.underlying2
    unfold Op.eqFields
    split
    · rw [Sem.run_bind, hp, Result.andThen_ok, Sem.run_bind, hp, Result.andThen_ok, Sem.run_bind, h1, he, Result.andThen_ok]
      simp [ih]
    · exact ih
theorem eqP16 (xs : List Int) (hl : xs.length = 32) (w : World) : (Op.equalIn 10000 23 (.agg (xs.map (Value.int .i64)).toArray) (.agg (xs.map (Value.int .i64)).toArray)).run Try.prog w = .ok true w := by
  rw [show (10000 : Nat) = 9999 + 1 from rfl, run_equalIn_agg w 9999 23 _ _ (by kernel_rfl) (by kernel_rfl)]
  have hf : (Try.prog.fieldsOf 23).toList.all (fun f => decide (f.type = 2 ∧ f.offset < 32)) = true := by kernel_rfl
  refine eqFs16 xs w _ fun f hf1 => ?_
  have := List.all_eq_true.1 hf f hf1
  rw [hl]
  exact of_decide_eq_true this
set_option maxRecDepth 100000 in
set_option maxHeartbeats 2000000 in
theorem part1500_any (p : Addr) (w : World) : Calls Try.prog 32 #[.int .i64 1500, .pointer (some p)] w fun e w' => e = .returned (.int .i32 98304) ∧ After w w' := by
  have e1 : overS 98304000 1000 = 98304 := by decide +kernel
  have e2 : clampV 98304 = .tuple #[.int .i32 98304, .bool false] := by rfl
  have k1 := hid (fun W => e1 ▸ over_any 98304000 1000 W (by decide) (by decide) (by decide) (by decide))
  have k2 := hid (fun W => e2 ▸ clamp_any 98304 W (by decide) (by decide))
  clear e1 e2
  go_enter Try.func32, Try.ntmps32
  go_wp2_with fail
  refine (k1.out _).mono ?_
  rintro e V1 ⟨rfl, kk, rfl⟩
  go_wp2_with fail
  refine (k2.out _).mono ?_
  rintro e V2 ⟨rfl, hA⟩
  have hB := hid (bthen (below_drewN (Below.refl _ w) kk) hA)
  clear hA
  go_wp2_with fail
  go_ret
  exact ⟨rfl, hB.out⟩
set_option maxRecDepth 100000 in
set_option maxHeartbeats 2000000 in
theorem part0_any (p : Addr) (w : World) : Calls Try.prog 32 #[.int .i64 0, .pointer (some p)] w fun e w' => e = .returned (.int .i32 0) ∧ After w w' := by
  have e1 : overS 0 1000 = 0 := by decide +kernel
  have e2 : clampV 0 = .tuple #[.int .i32 0, .bool false] := by rfl
  have k1 := hid (fun W => e1 ▸ over_any 0 1000 W (by decide) (by decide) (by decide) (by decide))
  have k2 := hid (fun W => e2 ▸ clamp_any 0 W (by decide) (by decide))
  clear e1 e2
  go_enter Try.func32, Try.ntmps32
  go_wp2_with fail
  refine (k1.out _).mono ?_
  rintro e V1 ⟨rfl, kk, rfl⟩
  go_wp2_with fail
  refine (k2.out _).mono ?_
  rintro e V2 ⟨rfl, hA⟩
  have hB := hid (bthen (below_drewN (Below.refl _ w) kk) hA)
  clear hA
  go_wp2_with fail
  go_ret
  exact ⟨rfl, hB.out⟩
set_option maxRecDepth 100000 in
set_option maxHeartbeats 4000000 in
theorem speed16_any (w : World) : Calls Try.prog 20 #[.agg #[.int .i64 0, .int .i64 0, .int .i64 0, .int .i64 0, .int .i64 0, .int .i64 0, .int .i64 0, .int .i64 0, .int .i64 0, .int .i64 0, .int .i64 0, .int .i64 0, .int .i64 0, .int .i64 0, .int .i64 0, .int .i64 0, .int .i64 0, .int .i64 0, .int .i64 0, .int .i64 0, .int .i64 1500, .int .i64 0, .int .i64 0, .int .i64 0, .int .i64 0, .int .i64 0, .int .i64 0, .int .i64 0, .int .i64 0, .int .i64 0, .int .i64 0, .int .i64 0]] w fun e w' => e = .returned (.tuple #[.agg #[.int .i32 98304, .int .i32 0, .int .i32 0], .int .i64 0]) ∧ After w w' := by
  have hmf : ∀ (fn : Fn) (first cap : Array Value) (w : World), (Instr.makeFunc fn first cap).run Try.prog w = .ok (.func fn first cap) w := fun _ _ _ _ => rfl
  have n1 := alloc_new w (.cells #[.int .i64 0, .int .i64 0, .int .i64 0, .int .i64 0, .int .i64 0, .int .i64 0, .int .i64 0, .int .i64 0, .int .i64 0, .int .i64 0, .int .i64 0, .int .i64 0, .int .i64 0, .int .i64 0, .int .i64 0, .int .i64 0, .int .i64 0, .int .i64 0, .int .i64 0, .int .i64 0, .int .i64 1500, .int .i64 0, .int .i64 0, .int .i64 0, .int .i64 0, .int .i64 0, .int .i64 0, .int .i64 0, .int .i64 0, .int .i64 0, .int .i64 0, .int .i64 0] 23)
  obtain ⟨W1, h1⟩ : ∃ X, w.alloc (.cells #[.int .i64 0, .int .i64 0, .int .i64 0, .int .i64 0, .int .i64 0, .int .i64 0, .int .i64 0, .int .i64 0, .int .i64 0, .int .i64 0, .int .i64 0, .int .i64 0, .int .i64 0, .int .i64 0, .int .i64 0, .int .i64 0, .int .i64 0, .int .i64 0, .int .i64 0, .int .i64 0, .int .i64 1500, .int .i64 0, .int .i64 0, .int .i64 0, .int .i64 0, .int .i64 0, .int .i64 0, .int .i64 0, .int .i64 0, .int .i64 0, .int .i64 0, .int .i64 0] 23) = X := ⟨_, rfl⟩
  rw [h1] at n1
  have n2 := alloc_new W1 (.cells #[.int .i32 0, .int .i32 0, .int .i32 0] 44)
  obtain ⟨W2, h2⟩ : ∃ X, W1.alloc (.cells #[.int .i32 0, .int .i32 0, .int .i32 0] 44) = X := ⟨_, rfl⟩
  rw [h2] at n2
  have n3 := alloc_new W2 (.cells #[.int .i64 0] 3)
  have rP := held_after n3.2.1 (held_after n2.2.1 n1.2.2)
  have rX := held_after n3.2.1 n2.2.2
  have rC := n3.2.2
  have hB := bthen n1.2.1 (bthen n2.2.1 n3.2.1)
  have lX : w.heap.size ≤ W1.heap.size := n1.2.1.size
  clear n1 n2 n3
  go_enter Try.func20, Try.ntmps20
  go_upto_region 3 with (fail)
  obtain ⟨W3, h3⟩ : ∃ X, W2.alloc (.cells #[.int .i64 0] 3) = X := ⟨_, rfl⟩
  rw [h3] at rP rX rC hB ⊢
  clear h1 h2 h3
  obtain ⟨QQ, hQQ⟩ : ∃ X, W3.drew = X := ⟨_, rfl⟩
  have rP := (show W3.drew.heap[w.heap.size]? = _ from rP)
  have rX := (show W3.drew.heap[W1.heap.size]? = _ from rX)
  have rC := (show W3.drew.heap[W2.heap.size]? = _ from rC)
  have hB := hB.drew
  rw [hQQ] at rP rX rC hB
  have lP := held_lt rP
  have lC := held_lt rC
  have nP : w.heap.size ≠ W1.heap.size := fun e => by rw [e, rX] at rP; cases rP
  have nC : W2.heap.size ≠ W1.heap.size := fun e => by rw [e, rX] at rC; cases rC
  have hQ0 := hid (After.refl QQ)
  refine wp_region_K (N := QQ.heap.size) (X := [W1.heap.size]) (by kernel_rfl) ?_
  rw [hQQ]
  refine wpAnyK_take 0 rfl (by kernel_rfl) (by kernel_rfl) (by kernel_rfl) (fun _ _ _ _ h => h) ⟨_, Or.inl ⟨by rfl, fun w2 hb => by (go_simp; try with_reducible rfl)⟩, _, by (go_simp; try rfl), ?_⟩
  refine wpAnyK_take 1 rfl (by kernel_rfl) (by kernel_rfl) (by kernel_rfl) (fun _ _ _ _ h => h) ⟨_, Or.inl ⟨by rfl, fun w2 hb => by (go_simp; try with_reducible rfl)⟩, _, by (go_simp; try rfl), ?_⟩
  refine wpAnyK_take 2 rfl (by kernel_rfl) (by kernel_rfl) (by kernel_rfl) (fun _ _ _ _ h => h) ⟨_, Or.inl ⟨by rfl, fun w2 hb => by (have hx := hb.cellB (p := ⟨w.heap.size, 20, none⟩) (by show w.heap.size < _; exact lP) (by simp; exact nP) (held_cell rP 20 _ rfl); go_simp; try with_reducible rfl)⟩, _, by (go_simp; try rfl), ?_⟩
  refine wpAnyK_take 4 rfl (by kernel_rfl) (by kernel_rfl) (by kernel_rfl) (fun _ _ _ _ h => h) ⟨_, Or.inl ⟨by rfl, fun w2 hb => by (go_simp; try with_reducible rfl)⟩, _, by (go_simp; try rfl), ?_⟩
  refine wpAnyK_take 5 rfl (by kernel_rfl) (by kernel_rfl) (by kernel_rfl) (fun _ _ _ _ h => h) ⟨_, Or.inl ⟨by rfl, fun w2 hb => by (go_simp; try with_reducible rfl)⟩, _, by (go_simp; try rfl), ?_⟩
  refine wpAnyK_take 6 rfl (by kernel_rfl) (by kernel_rfl) (by kernel_rfl) (fun _ _ _ _ h => h) ⟨_, Or.inl ⟨by rfl, fun w2 hb => by (have hx := hb.cellB (p := ⟨w.heap.size, 21, none⟩) (by show w.heap.size < _; exact lP) (by simp; exact nP) (held_cell rP 21 _ rfl); go_simp; try with_reducible rfl)⟩, _, by (go_simp; try rfl), ?_⟩
  refine wpAnyK_take 8 rfl (by kernel_rfl) (by kernel_rfl) (by kernel_rfl) (fun _ _ _ _ h => h) ⟨_, Or.inl ⟨by rfl, fun w2 hb => by (go_simp; try with_reducible rfl)⟩, _, by (go_simp; try rfl), ?_⟩
  refine wpAnyK_take 9 rfl (by kernel_rfl) (by kernel_rfl) (by kernel_rfl) (fun _ _ _ _ h => h) ⟨_, Or.inl ⟨by rfl, fun w2 hb => by (go_simp; try with_reducible rfl)⟩, _, by (go_simp; try rfl), ?_⟩
  refine wpAnyK_take 10 rfl (by kernel_rfl) (by kernel_rfl) (by kernel_rfl) (fun _ _ _ _ h => h) ⟨_, Or.inl ⟨by rfl, fun w2 hb => by (have hx := hb.cellB (p := ⟨w.heap.size, 22, none⟩) (by show w.heap.size < _; exact lP) (by simp; exact nP) (held_cell rP 22 _ rfl); go_simp; try with_reducible rfl)⟩, _, by (go_simp; try rfl), ?_⟩
  refine wpAnyK_take 13 rfl (by kernel_rfl) (by kernel_rfl) (by kernel_rfl) (fun _ _ _ _ h => h) ⟨_, Or.inl ⟨by rfl, fun w2 hb => by (have hx := hb.cellB (p := ⟨W2.heap.size, 0, none⟩) (by show W2.heap.size < _; exact lC) (by simp; exact nC) (held_cell rC 0 _ rfl); go_simp; try with_reducible rfl)⟩, _, by (go_simp; try rfl), ?_⟩
  refine wpAnyK_only 3 rfl (by kernel_rfl) (by rfl) (fun K hK => ?_)
  go_simp
  refine (part1500_any _ _).mono ?_
  rintro e Y1 ⟨rfl, hA⟩
  have kp := Kp.of (N := QQ.heap.size) (X := [W1.heap.size]) hA hQ0.out.size
  have hQ1 := hid (bthen hQ0.out hA)
  clear hA
  go_simp
  refine hK _ _ ⟨kp, ?_⟩
  clear hK
  clear kp
  refine wpAnyK_only 7 rfl (by kernel_rfl) (by rfl) (fun K hK => ?_)
  go_simp
  refine (part0_any _ _).mono ?_
  rintro e Y2 ⟨rfl, hA⟩
  have kp := Kp.of (N := QQ.heap.size) (X := [W1.heap.size]) hA hQ1.out.size
  have hQ2 := hid (bthen hQ1.out hA)
  clear hA
  go_simp
  refine hK _ _ ⟨kp, ?_⟩
  clear hK
  clear kp
  refine wpAnyK_only 11 rfl (by kernel_rfl) (by rfl) (fun K hK => ?_)
  go_simp
  refine (part0_any _ _).mono ?_
  rintro e Y3 ⟨rfl, hA⟩
  have kp := Kp.of (N := QQ.heap.size) (X := [W1.heap.size]) hA hQ2.out.size
  have hQ3 := hid (bthen hQ2.out hA)
  clear hA
  go_simp
  refine hK _ _ ⟨kp, ?_⟩
  clear hK
  clear kp
  refine wpAnyK_take 12 rfl (by kernel_rfl) (by kernel_rfl) (by kernel_rfl) (fun _ _ _ _ h => h) ⟨_, Or.inl ⟨by rfl, fun w2 hb => by (go_simp; try with_reducible rfl)⟩, _, by (go_simp; try rfl), ?_⟩
  refine wpAnyK_only 14 rfl (by kernel_rfl) (by rfl) (fun K hK => ?_)
  have rX9 := held_after hQ3.out rX
  have z0 := held_cell rX9 0 _ rfl
  have z1 := held_cell rX9 1 _ rfl
  have z2 := held_cell rX9 2 _ rfl
  have g0 := held_free rX9 0
  have g1 := held_free rX9 1
  have g2 := held_free rX9 2
  obtain ⟨W9, hW9, ya, yO⟩ := st3 rX9 (.int .i32 98304) (.int .i32 0) (.int .i32 0)
  have hB9 := hid (belowS (bthen hB hQ3.out) yO lX)
  have kp : Kp QQ.heap.size [W1.heap.size] Y3 W9 := ⟨yO.os, yO.tape, yO.output, Nat.le_of_eq yO.size.symm, fun k _ hk => yO.block k (fun e => hk (by rw [e]; simp))⟩
  clear yO
  go_simp
  refine hK _ _ ⟨kp, ?_⟩
  clear hK
  clear kp
  refine wpAnyK_take 15 rfl (by kernel_rfl) (by kernel_rfl) (by kernel_rfl) (fun _ _ _ _ h => h) ⟨_, Or.inl ⟨by rfl, fun w2 hb => by (go_simp; try with_reducible rfl)⟩, _, by (go_simp; try rfl), ?_⟩
  refine wpAnyK_done (by kernel_rfl) ?_ _
  have rC9 := hB9
  have e0 := held_cell ya 0 _ rfl
  have e1 := held_cell ya 1 _ rfl
  have e2 := held_cell ya 2 _ rfl
  go_wp2_with fail
  refine bodyPost_ret (v := .tuple #[.agg #[.int .i32 98304, .int .i32 0, .int .i32 0], .int .i64 0]) (by simp [results, Try.results20, go_sem, e0, e1, e2]) rfl ⟨rfl, hB9.out⟩
set_option maxRecDepth 100000 in
theorem built_1500 : Try.prog.built 23 [(20, .int .i64 1500)] = some #[.int .i64 0, .int .i64 0, .int .i64 0, .int .i64 0, .int .i64 0, .int .i64 0, .int .i64 0, .int .i64 0, .int .i64 0, .int .i64 0, .int .i64 0, .int .i64 0, .int .i64 0, .int .i64 0, .int .i64 0, .int .i64 0, .int .i64 0, .int .i64 0, .int .i64 0, .int .i64 0, .int .i64 1500, .int .i64 0, .int .i64 0, .int .i64 0, .int .i64 0, .int .i64 0, .int .i64 0, .int .i64 0, .int .i64 0, .int .i64 0, .int .i64 0, .int .i64 0] := by kernel_rfl
set_option maxRecDepth 100000 in
set_option maxHeartbeats 2000000 in
theorem knows16_any (w : World) : Calls Try.prog 16 #[] w fun e w' => e = .returned (.bool true) ∧ Below w.heap.size w w' := by
  go_enter Try.func16, Try.ntmps16
  go_upto_region 1 with (fail)
  refine wp_region_lit ?_
  refine wpList_built16 rfl 23 _ rfl #[.int .i64 0, .int .i64 0, .int .i64 0, .int .i64 0, .int .i64 0, .int .i64 0, .int .i64 0, .int .i64 0, .int .i64 0, .int .i64 0, .int .i64 0, .int .i64 0, .int .i64 0, .int .i64 0, .int .i64 0, .int .i64 0, .int .i64 0, .int .i64 0, .int .i64 0, .int .i64 0, .int .i64 1500, .int .i64 0, .int .i64 0, .int .i64 0, .int .i64 0, .int .i64 0, .int .i64 0, .int .i64 0, .int .i64 0, .int .i64 0, .int .i64 0, .int .i64 0] (by simp [Act.eval]; exact built_1500) ?_
  go_wp2_with fail
  refine (speed16_any _).mono ?_
  rintro e V1 ⟨rfl, hA⟩
  replace hA := hid hA
  go_wp2_with fail
  go_ret
  exact ⟨rfl, bthen hA.out (alloc_new _ _).2.1⟩

end Go.Proofs.Ytfihdgichmocmaa
