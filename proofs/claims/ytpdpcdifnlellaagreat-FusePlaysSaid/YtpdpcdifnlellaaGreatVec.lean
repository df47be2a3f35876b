/- Package vec and its reference: contracts. -/
import Derived.Test.YtpdpcdifnlellaaGreatFixRef
import Derived.Test.YtpdpcdifnlellaaGreatRoot
import Derived.Test.YtpdpcdifnlellaaGreatKA
namespace Go.Proofs.YtpdpcdifnlellaaGreat
open Go.ChangeShapes Go.WideShapes Go.ChangeAt Go.RowKit
set_option linter.unusedVariables false

/-- A number of 32 bits. -/
def B32 (n : Int) : Prop := -2147483648 ≤ n ∧ n ≤ 2147483647
/-- Three numbers as a value. -/
def v3 (x y z : Int) : Value := .agg #[.int .i32 x, .int .i32 y, .int .i32 z]

theorem parts_any (x y z : Int) (w : World) :
    Calls Tryz.prog 42 #[.agg #[.int .i32 x, .int .i32 y, .int .i32 z]] w fun e w' => e = .returned (.agg #[.int .i32 x, .int .i32 y, .int .i32 z]) ∧ Below w.heap.size w w' := by
  go_enter Tryz.func42, Tryz.ntmps42
  go_wp2_with fail
  refine bodyPost_ret (v := .agg #[.int .i32 x, .int .i32 y, .int .i32 z]) (by simp [results, Tryz.results42, go_sem]) rfl ⟨rfl, ?_⟩
  exact ((Below.refl _ _).alloc (Nat.le_refl _) _).alloc (by simp) _

theorem vector_any (x y z : Int) (w : World) :
    Calls Tryz.prog 45 #[.agg #[.int .i32 x, .int .i32 y, .int .i32 z]] w fun e w' => e = .returned (.agg #[.int .i32 x, .int .i32 y, .int .i32 z]) ∧ Below w.heap.size w w' := by
  go_enter Tryz.func45, Tryz.ntmps45
  go_wp2_with fail
  refine bodyPost_ret (v := .agg #[.int .i32 x, .int .i32 y, .int .i32 z]) (by simp [results, Tryz.results45, go_sem]) rfl ⟨rfl, ?_⟩
  exact ((Below.refl _ _).alloc (Nat.le_refl _) _).alloc (by simp) _

def sel (i : Nat) (x y z : Int) : Int := if i = 0 then x else if i = 1 then y else z
theorem box6 (w : World) (T : TypeId) (x y z a b c : Value) : (w.alloc (.cells #[x, y, z, a, b, c] T)).cell? ⟨w.heap.size, 0, none⟩ = some x ∧ (w.alloc (.cells #[x, y, z, a, b, c] T)).cell? ⟨w.heap.size, 1, none⟩ = some y ∧ (w.alloc (.cells #[x, y, z, a, b, c] T)).cell? ⟨w.heap.size, 2, none⟩ = some z ∧ (w.alloc (.cells #[x, y, z, a, b, c] T)).cell? ⟨w.heap.size, 3, none⟩ = some a ∧ (w.alloc (.cells #[x, y, z, a, b, c] T)).cell? ⟨w.heap.size, 4, none⟩ = some b ∧ (w.alloc (.cells #[x, y, z, a, b, c] T)).cell? ⟨w.heap.size, 5, none⟩ = some c := by simp

set_option maxHeartbeats 1000000 in
theorem sum_any (x y z a b c : Int) (i : Nat) (hi : i < 3) (w : World) (p0 : B32 x) (p1 : B32 y) (p2 : B32 z) (q0 : B32 a) (q1 : B32 b) (q2 : B32 c) :
    Calls Tryz.prog 83 #[.agg #[.int .i32 x, .int .i32 y, .int .i32 z, .int .i32 a, .int .i32 b, .int .i32 c], .int .i64 i] w fun e w' => e = .returned (clampV (sel i x y z + sel i a b c)) ∧ Below w.heap.size w w' := by
  obtain ⟨c0, c1, c2, c3, c4, c5⟩ := box6 w 113 (.int .i32 x) (.int .i32 y) (.int .i32 z) (.int .i32 a) (.int .i32 b) (.int .i32 c)
  have hbel := (Below.refl w.heap.size w).alloc (Nat.le_refl _) (.cells #[.int .i32 x, .int .i32 y, .int .i32 z, .int .i32 a, .int .i32 b, .int .i32 c] 113)
  obtain rfl | rfl | rfl : i = 0 ∨ i = 1 ∨ i = 2 := by omega
  · go_enter Tryz.func83, Tryz.ntmps83
    go_wp2_with fail
    generalize w.alloc (.cells #[.int .i32 x, .int .i32 y, .int .i32 z, .int .i32 a, .int .i32 b, .int .i32 c] 113) = W at *
    refine wp_region_R (by kernel_rfl) ?_
    refine wpAnyR_take 0 rfl (by kernel_rfl) (by kernel_rfl) (by kernel_rfl) (fun _ _ _ _ h => h) ⟨_, Or.inl ⟨by rfl, fun w' hb => by (go_simp; try with_reducible rfl)⟩, _, by (go_simp; try rfl), ?_⟩
    refine wpAnyR_take 1 rfl (by kernel_rfl) (by kernel_rfl) (by kernel_rfl) (fun _ _ _ _ h => h) ⟨_, Or.inl ⟨by rfl, fun w' hb => by (go_simp; try with_reducible rfl)⟩, _, by (go_simp; try rfl), ?_⟩
    refine wpAnyR_take 2 rfl (by kernel_rfl) (by kernel_rfl) (by kernel_rfl) (fun _ _ _ _ h => h) ⟨_, Or.inl ⟨by rfl, fun w' hb => by (go_simp; try with_reducible rfl)⟩, _, by (go_simp; try rfl), ?_⟩
    refine wpAnyR_take 3 rfl (by kernel_rfl) (by kernel_rfl) (by kernel_rfl) (fun _ _ _ _ h => h) ⟨_, Or.inl ⟨by rfl, fun w' hb => by (have hcx := hb.cellB (show W.drew.cell? _ = _ from c0); go_simp; try with_reducible rfl)⟩, _, by (go_simp; try rfl), ?_⟩
    refine wpAnyR_take 4 rfl (by kernel_rfl) (by kernel_rfl) (by kernel_rfl) (fun _ _ _ _ h => h) ⟨_, Or.inl ⟨by rfl, fun w' hb => by (go_simp; try with_reducible rfl)⟩, _, by (go_simp; try rfl), ?_⟩
    refine wpAnyR_take 5 rfl (by kernel_rfl) (by kernel_rfl) (by kernel_rfl) (fun _ _ _ _ h => h) ⟨_, Or.inl ⟨by rfl, fun w' hb => by (go_simp; try with_reducible rfl)⟩, _, by (go_simp; try rfl), ?_⟩
    refine wpAnyR_take 6 rfl (by kernel_rfl) (by kernel_rfl) (by kernel_rfl) (fun _ _ _ _ h => h) ⟨_, Or.inl ⟨by rfl, fun w' hb => by (go_simp; try with_reducible rfl)⟩, _, by (go_simp; try rfl), ?_⟩
    refine wpAnyR_take 7 rfl (by kernel_rfl) (by kernel_rfl) (by kernel_rfl) (fun _ _ _ _ h => h) ⟨_, Or.inl ⟨by rfl, fun w' hb => by (have hcx := hb.cellB (show W.drew.cell? _ = _ from c3); go_simp; try with_reducible rfl)⟩, _, by (go_simp; try rfl), ?_⟩
    refine wpAnyR_only 8 rfl (by kernel_rfl) (by rfl) (fun K hK => ?_)
    go_simp
    refine (add_any _ _ _ p0.1 p0.2 q0.1 q0.2).mono ?_
    rintro e v1 ⟨rfl, b1⟩
    rw [clampV_def]
    go_wp2_with fail
    refine ⟨b1, ?_⟩
    refine wpAnyR_take 9 rfl (by kernel_rfl) (by kernel_rfl) (by kernel_rfl) (fun _ _ _ _ h => h) ⟨_, Or.inl ⟨by rfl, fun w' hb => by (go_simp; try with_reducible rfl)⟩, _, by (go_simp; try rfl), ?_⟩
    refine wpAnyR_take 10 rfl (by kernel_rfl) (by kernel_rfl) (by kernel_rfl) (fun _ _ _ _ h => h) ⟨_, Or.inl ⟨by rfl, fun w' hb => by (go_simp; try with_reducible rfl)⟩, _, by (go_simp; try rfl), ?_⟩
    refine wpAnyR_take 11 rfl (by kernel_rfl) (by kernel_rfl) (by kernel_rfl) (fun _ _ _ _ h => h) ⟨_, Or.inl ⟨by rfl, fun w' hb => by (go_simp; try with_reducible rfl)⟩, _, by (go_simp; try rfl), ?_⟩
    refine wpAnyR_take 12 rfl (by kernel_rfl) (by kernel_rfl) (by kernel_rfl) (fun _ _ _ _ h => h) ⟨_, Or.inl ⟨by rfl, fun w' hb => by (go_simp; try with_reducible rfl)⟩, _, by (go_simp; try rfl), ?_⟩
    refine wpAnyR_done (by kernel_rfl) ?_ _
    have hb9 := bthen hbel (After.trans (Below.refl _ _).drew b1)
    go_wp2_with fail
    go_ret2
    exact ⟨rfl, hb9⟩
  · go_enter Tryz.func83, Tryz.ntmps83
    go_wp2_with fail
    generalize w.alloc (.cells #[.int .i32 x, .int .i32 y, .int .i32 z, .int .i32 a, .int .i32 b, .int .i32 c] 113) = W at *
    refine wp_region_R (by kernel_rfl) ?_
    refine wpAnyR_take 0 rfl (by kernel_rfl) (by kernel_rfl) (by kernel_rfl) (fun _ _ _ _ h => h) ⟨_, Or.inl ⟨by rfl, fun w' hb => by (go_simp; try with_reducible rfl)⟩, _, by (go_simp; try rfl), ?_⟩
    refine wpAnyR_take 1 rfl (by kernel_rfl) (by kernel_rfl) (by kernel_rfl) (fun _ _ _ _ h => h) ⟨_, Or.inl ⟨by rfl, fun w' hb => by (go_simp; try with_reducible rfl)⟩, _, by (go_simp; try rfl), ?_⟩
    refine wpAnyR_take 2 rfl (by kernel_rfl) (by kernel_rfl) (by kernel_rfl) (fun _ _ _ _ h => h) ⟨_, Or.inl ⟨by rfl, fun w' hb => by (go_simp; try with_reducible rfl)⟩, _, by (go_simp; try rfl), ?_⟩
    refine wpAnyR_take 3 rfl (by kernel_rfl) (by kernel_rfl) (by kernel_rfl) (fun _ _ _ _ h => h) ⟨_, Or.inl ⟨by rfl, fun w' hb => by (have hcx := hb.cellB (show W.drew.cell? _ = _ from c1); go_simp; try with_reducible rfl)⟩, _, by (go_simp; try rfl), ?_⟩
    refine wpAnyR_take 4 rfl (by kernel_rfl) (by kernel_rfl) (by kernel_rfl) (fun _ _ _ _ h => h) ⟨_, Or.inl ⟨by rfl, fun w' hb => by (go_simp; try with_reducible rfl)⟩, _, by (go_simp; try rfl), ?_⟩
    refine wpAnyR_take 5 rfl (by kernel_rfl) (by kernel_rfl) (by kernel_rfl) (fun _ _ _ _ h => h) ⟨_, Or.inl ⟨by rfl, fun w' hb => by (go_simp; try with_reducible rfl)⟩, _, by (go_simp; try rfl), ?_⟩
    refine wpAnyR_take 6 rfl (by kernel_rfl) (by kernel_rfl) (by kernel_rfl) (fun _ _ _ _ h => h) ⟨_, Or.inl ⟨by rfl, fun w' hb => by (go_simp; try with_reducible rfl)⟩, _, by (go_simp; try rfl), ?_⟩
    refine wpAnyR_take 7 rfl (by kernel_rfl) (by kernel_rfl) (by kernel_rfl) (fun _ _ _ _ h => h) ⟨_, Or.inl ⟨by rfl, fun w' hb => by (have hcx := hb.cellB (show W.drew.cell? _ = _ from c4); go_simp; try with_reducible rfl)⟩, _, by (go_simp; try rfl), ?_⟩
    refine wpAnyR_only 8 rfl (by kernel_rfl) (by rfl) (fun K hK => ?_)
    go_simp
    refine (add_any _ _ _ p1.1 p1.2 q1.1 q1.2).mono ?_
    rintro e v1 ⟨rfl, b1⟩
    rw [clampV_def]
    go_wp2_with fail
    refine ⟨b1, ?_⟩
    refine wpAnyR_take 9 rfl (by kernel_rfl) (by kernel_rfl) (by kernel_rfl) (fun _ _ _ _ h => h) ⟨_, Or.inl ⟨by rfl, fun w' hb => by (go_simp; try with_reducible rfl)⟩, _, by (go_simp; try rfl), ?_⟩
    refine wpAnyR_take 10 rfl (by kernel_rfl) (by kernel_rfl) (by kernel_rfl) (fun _ _ _ _ h => h) ⟨_, Or.inl ⟨by rfl, fun w' hb => by (go_simp; try with_reducible rfl)⟩, _, by (go_simp; try rfl), ?_⟩
    refine wpAnyR_take 11 rfl (by kernel_rfl) (by kernel_rfl) (by kernel_rfl) (fun _ _ _ _ h => h) ⟨_, Or.inl ⟨by rfl, fun w' hb => by (go_simp; try with_reducible rfl)⟩, _, by (go_simp; try rfl), ?_⟩
    refine wpAnyR_take 12 rfl (by kernel_rfl) (by kernel_rfl) (by kernel_rfl) (fun _ _ _ _ h => h) ⟨_, Or.inl ⟨by rfl, fun w' hb => by (go_simp; try with_reducible rfl)⟩, _, by (go_simp; try rfl), ?_⟩
    refine wpAnyR_done (by kernel_rfl) ?_ _
    have hb9 := bthen hbel (After.trans (Below.refl _ _).drew b1)
    go_wp2_with fail
    go_ret2
    exact ⟨rfl, hb9⟩
  · go_enter Tryz.func83, Tryz.ntmps83
    go_wp2_with fail
    generalize w.alloc (.cells #[.int .i32 x, .int .i32 y, .int .i32 z, .int .i32 a, .int .i32 b, .int .i32 c] 113) = W at *
    refine wp_region_R (by kernel_rfl) ?_
    refine wpAnyR_take 0 rfl (by kernel_rfl) (by kernel_rfl) (by kernel_rfl) (fun _ _ _ _ h => h) ⟨_, Or.inl ⟨by rfl, fun w' hb => by (go_simp; try with_reducible rfl)⟩, _, by (go_simp; try rfl), ?_⟩
    refine wpAnyR_take 1 rfl (by kernel_rfl) (by kernel_rfl) (by kernel_rfl) (fun _ _ _ _ h => h) ⟨_, Or.inl ⟨by rfl, fun w' hb => by (go_simp; try with_reducible rfl)⟩, _, by (go_simp; try rfl), ?_⟩
    refine wpAnyR_take 2 rfl (by kernel_rfl) (by kernel_rfl) (by kernel_rfl) (fun _ _ _ _ h => h) ⟨_, Or.inl ⟨by rfl, fun w' hb => by (go_simp; try with_reducible rfl)⟩, _, by (go_simp; try rfl), ?_⟩
    refine wpAnyR_take 3 rfl (by kernel_rfl) (by kernel_rfl) (by kernel_rfl) (fun _ _ _ _ h => h) ⟨_, Or.inl ⟨by rfl, fun w' hb => by (have hcx := hb.cellB (show W.drew.cell? _ = _ from c2); go_simp; try with_reducible rfl)⟩, _, by (go_simp; try rfl), ?_⟩
    refine wpAnyR_take 4 rfl (by kernel_rfl) (by kernel_rfl) (by kernel_rfl) (fun _ _ _ _ h => h) ⟨_, Or.inl ⟨by rfl, fun w' hb => by (go_simp; try with_reducible rfl)⟩, _, by (go_simp; try rfl), ?_⟩
    refine wpAnyR_take 5 rfl (by kernel_rfl) (by kernel_rfl) (by kernel_rfl) (fun _ _ _ _ h => h) ⟨_, Or.inl ⟨by rfl, fun w' hb => by (go_simp; try with_reducible rfl)⟩, _, by (go_simp; try rfl), ?_⟩
    refine wpAnyR_take 6 rfl (by kernel_rfl) (by kernel_rfl) (by kernel_rfl) (fun _ _ _ _ h => h) ⟨_, Or.inl ⟨by rfl, fun w' hb => by (go_simp; try with_reducible rfl)⟩, _, by (go_simp; try rfl), ?_⟩
    refine wpAnyR_take 7 rfl (by kernel_rfl) (by kernel_rfl) (by kernel_rfl) (fun _ _ _ _ h => h) ⟨_, Or.inl ⟨by rfl, fun w' hb => by (have hcx := hb.cellB (show W.drew.cell? _ = _ from c5); go_simp; try with_reducible rfl)⟩, _, by (go_simp; try rfl), ?_⟩
    refine wpAnyR_only 8 rfl (by kernel_rfl) (by rfl) (fun K hK => ?_)
    go_simp
    refine (add_any _ _ _ p2.1 p2.2 q2.1 q2.2).mono ?_
    rintro e v1 ⟨rfl, b1⟩
    rw [clampV_def]
    go_wp2_with fail
    refine ⟨b1, ?_⟩
    refine wpAnyR_take 9 rfl (by kernel_rfl) (by kernel_rfl) (by kernel_rfl) (fun _ _ _ _ h => h) ⟨_, Or.inl ⟨by rfl, fun w' hb => by (go_simp; try with_reducible rfl)⟩, _, by (go_simp; try rfl), ?_⟩
    refine wpAnyR_take 10 rfl (by kernel_rfl) (by kernel_rfl) (by kernel_rfl) (fun _ _ _ _ h => h) ⟨_, Or.inl ⟨by rfl, fun w' hb => by (go_simp; try with_reducible rfl)⟩, _, by (go_simp; try rfl), ?_⟩
    refine wpAnyR_take 11 rfl (by kernel_rfl) (by kernel_rfl) (by kernel_rfl) (fun _ _ _ _ h => h) ⟨_, Or.inl ⟨by rfl, fun w' hb => by (go_simp; try with_reducible rfl)⟩, _, by (go_simp; try rfl), ?_⟩
    refine wpAnyR_take 12 rfl (by kernel_rfl) (by kernel_rfl) (by kernel_rfl) (fun _ _ _ _ h => h) ⟨_, Or.inl ⟨by rfl, fun w' hb => by (go_simp; try with_reducible rfl)⟩, _, by (go_simp; try rfl), ?_⟩
    refine wpAnyR_done (by kernel_rfl) ?_ _
    have hb9 := bthen hbel (After.trans (Below.refl _ _).drew b1)
    go_wp2_with fail
    go_ret2
    exact ⟨rfl, hb9⟩

set_option maxHeartbeats 1000000 in
theorem less_any (x y z a b c : Int) (i : Nat) (hi : i < 3) (w : World) (p0 : B32 x) (p1 : B32 y) (p2 : B32 z) (q0 : B32 a) (q1 : B32 b) (q2 : B32 c) :
    Calls Tryz.prog 80 #[.agg #[.int .i32 x, .int .i32 y, .int .i32 z, .int .i32 a, .int .i32 b, .int .i32 c], .int .i64 i] w fun e w' => e = .returned (clampV (sel i x y z - sel i a b c)) ∧ Below w.heap.size w w' := by
  obtain ⟨c0, c1, c2, c3, c4, c5⟩ := box6 w 113 (.int .i32 x) (.int .i32 y) (.int .i32 z) (.int .i32 a) (.int .i32 b) (.int .i32 c)
  have hbel := (Below.refl w.heap.size w).alloc (Nat.le_refl _) (.cells #[.int .i32 x, .int .i32 y, .int .i32 z, .int .i32 a, .int .i32 b, .int .i32 c] 113)
  obtain rfl | rfl | rfl : i = 0 ∨ i = 1 ∨ i = 2 := by omega
  · go_enter Tryz.func80, Tryz.ntmps80
    go_wp2_with fail
    generalize w.alloc (.cells #[.int .i32 x, .int .i32 y, .int .i32 z, .int .i32 a, .int .i32 b, .int .i32 c] 113) = W at *
    refine wp_region_R (by kernel_rfl) ?_
    refine wpAnyR_take 0 rfl (by kernel_rfl) (by kernel_rfl) (by kernel_rfl) (fun _ _ _ _ h => h) ⟨_, Or.inl ⟨by rfl, fun w' hb => by (go_simp; try with_reducible rfl)⟩, _, by (go_simp; try rfl), ?_⟩
    refine wpAnyR_take 1 rfl (by kernel_rfl) (by kernel_rfl) (by kernel_rfl) (fun _ _ _ _ h => h) ⟨_, Or.inl ⟨by rfl, fun w' hb => by (go_simp; try with_reducible rfl)⟩, _, by (go_simp; try rfl), ?_⟩
    refine wpAnyR_take 2 rfl (by kernel_rfl) (by kernel_rfl) (by kernel_rfl) (fun _ _ _ _ h => h) ⟨_, Or.inl ⟨by rfl, fun w' hb => by (go_simp; try with_reducible rfl)⟩, _, by (go_simp; try rfl), ?_⟩
    refine wpAnyR_take 3 rfl (by kernel_rfl) (by kernel_rfl) (by kernel_rfl) (fun _ _ _ _ h => h) ⟨_, Or.inl ⟨by rfl, fun w' hb => by (have hcx := hb.cellB (show W.drew.cell? _ = _ from c0); go_simp; try with_reducible rfl)⟩, _, by (go_simp; try rfl), ?_⟩
    refine wpAnyR_take 4 rfl (by kernel_rfl) (by kernel_rfl) (by kernel_rfl) (fun _ _ _ _ h => h) ⟨_, Or.inl ⟨by rfl, fun w' hb => by (go_simp; try with_reducible rfl)⟩, _, by (go_simp; try rfl), ?_⟩
    refine wpAnyR_take 5 rfl (by kernel_rfl) (by kernel_rfl) (by kernel_rfl) (fun _ _ _ _ h => h) ⟨_, Or.inl ⟨by rfl, fun w' hb => by (go_simp; try with_reducible rfl)⟩, _, by (go_simp; try rfl), ?_⟩
    refine wpAnyR_take 6 rfl (by kernel_rfl) (by kernel_rfl) (by kernel_rfl) (fun _ _ _ _ h => h) ⟨_, Or.inl ⟨by rfl, fun w' hb => by (go_simp; try with_reducible rfl)⟩, _, by (go_simp; try rfl), ?_⟩
    refine wpAnyR_take 7 rfl (by kernel_rfl) (by kernel_rfl) (by kernel_rfl) (fun _ _ _ _ h => h) ⟨_, Or.inl ⟨by rfl, fun w' hb => by (have hcx := hb.cellB (show W.drew.cell? _ = _ from c3); go_simp; try with_reducible rfl)⟩, _, by (go_simp; try rfl), ?_⟩
    refine wpAnyR_only 8 rfl (by kernel_rfl) (by rfl) (fun K hK => ?_)
    go_simp
    refine (sub_any _ _ _ p0.1 p0.2 q0.1 q0.2).mono ?_
    rintro e v1 ⟨rfl, b1⟩
    rw [clampV_def]
    go_wp2_with fail
    refine ⟨b1, ?_⟩
    refine wpAnyR_take 9 rfl (by kernel_rfl) (by kernel_rfl) (by kernel_rfl) (fun _ _ _ _ h => h) ⟨_, Or.inl ⟨by rfl, fun w' hb => by (go_simp; try with_reducible rfl)⟩, _, by (go_simp; try rfl), ?_⟩
    refine wpAnyR_take 10 rfl (by kernel_rfl) (by kernel_rfl) (by kernel_rfl) (fun _ _ _ _ h => h) ⟨_, Or.inl ⟨by rfl, fun w' hb => by (go_simp; try with_reducible rfl)⟩, _, by (go_simp; try rfl), ?_⟩
    refine wpAnyR_take 11 rfl (by kernel_rfl) (by kernel_rfl) (by kernel_rfl) (fun _ _ _ _ h => h) ⟨_, Or.inl ⟨by rfl, fun w' hb => by (go_simp; try with_reducible rfl)⟩, _, by (go_simp; try rfl), ?_⟩
    refine wpAnyR_take 12 rfl (by kernel_rfl) (by kernel_rfl) (by kernel_rfl) (fun _ _ _ _ h => h) ⟨_, Or.inl ⟨by rfl, fun w' hb => by (go_simp; try with_reducible rfl)⟩, _, by (go_simp; try rfl), ?_⟩
    refine wpAnyR_done (by kernel_rfl) ?_ _
    have hb9 := bthen hbel (After.trans (Below.refl _ _).drew b1)
    go_wp2_with fail
    go_ret2
    exact ⟨rfl, hb9⟩
  · go_enter Tryz.func80, Tryz.ntmps80
    go_wp2_with fail
    generalize w.alloc (.cells #[.int .i32 x, .int .i32 y, .int .i32 z, .int .i32 a, .int .i32 b, .int .i32 c] 113) = W at *
    refine wp_region_R (by kernel_rfl) ?_
    refine wpAnyR_take 0 rfl (by kernel_rfl) (by kernel_rfl) (by kernel_rfl) (fun _ _ _ _ h => h) ⟨_, Or.inl ⟨by rfl, fun w' hb => by (go_simp; try with_reducible rfl)⟩, _, by (go_simp; try rfl), ?_⟩
    refine wpAnyR_take 1 rfl (by kernel_rfl) (by kernel_rfl) (by kernel_rfl) (fun _ _ _ _ h => h) ⟨_, Or.inl ⟨by rfl, fun w' hb => by (go_simp; try with_reducible rfl)⟩, _, by (go_simp; try rfl), ?_⟩
    refine wpAnyR_take 2 rfl (by kernel_rfl) (by kernel_rfl) (by kernel_rfl) (fun _ _ _ _ h => h) ⟨_, Or.inl ⟨by rfl, fun w' hb => by (go_simp; try with_reducible rfl)⟩, _, by (go_simp; try rfl), ?_⟩
    refine wpAnyR_take 3 rfl (by kernel_rfl) (by kernel_rfl) (by kernel_rfl) (fun _ _ _ _ h => h) ⟨_, Or.inl ⟨by rfl, fun w' hb => by (have hcx := hb.cellB (show W.drew.cell? _ = _ from c1); go_simp; try with_reducible rfl)⟩, _, by (go_simp; try rfl), ?_⟩
    refine wpAnyR_take 4 rfl (by kernel_rfl) (by kernel_rfl) (by kernel_rfl) (fun _ _ _ _ h => h) ⟨_, Or.inl ⟨by rfl, fun w' hb => by (go_simp; try with_reducible rfl)⟩, _, by (go_simp; try rfl), ?_⟩
    refine wpAnyR_take 5 rfl (by kernel_rfl) (by kernel_rfl) (by kernel_rfl) (fun _ _ _ _ h => h) ⟨_, Or.inl ⟨by rfl, fun w' hb => by (go_simp; try with_reducible rfl)⟩, _, by (go_simp; try rfl), ?_⟩
    refine wpAnyR_take 6 rfl (by kernel_rfl) (by kernel_rfl) (by kernel_rfl) (fun _ _ _ _ h => h) ⟨_, Or.inl ⟨by rfl, fun w' hb => by (go_simp; try with_reducible rfl)⟩, _, by (go_simp; try rfl), ?_⟩
    refine wpAnyR_take 7 rfl (by kernel_rfl) (by kernel_rfl) (by kernel_rfl) (fun _ _ _ _ h => h) ⟨_, Or.inl ⟨by rfl, fun w' hb => by (have hcx := hb.cellB (show W.drew.cell? _ = _ from c4); go_simp; try with_reducible rfl)⟩, _, by (go_simp; try rfl), ?_⟩
    refine wpAnyR_only 8 rfl (by kernel_rfl) (by rfl) (fun K hK => ?_)
    go_simp
    refine (sub_any _ _ _ p1.1 p1.2 q1.1 q1.2).mono ?_
    rintro e v1 ⟨rfl, b1⟩
    rw [clampV_def]
    go_wp2_with fail
    refine ⟨b1, ?_⟩
    refine wpAnyR_take 9 rfl (by kernel_rfl) (by kernel_rfl) (by kernel_rfl) (fun _ _ _ _ h => h) ⟨_, Or.inl ⟨by rfl, fun w' hb => by (go_simp; try with_reducible rfl)⟩, _, by (go_simp; try rfl), ?_⟩
    refine wpAnyR_take 10 rfl (by kernel_rfl) (by kernel_rfl) (by kernel_rfl) (fun _ _ _ _ h => h) ⟨_, Or.inl ⟨by rfl, fun w' hb => by (go_simp; try with_reducible rfl)⟩, _, by (go_simp; try rfl), ?_⟩
    refine wpAnyR_take 11 rfl (by kernel_rfl) (by kernel_rfl) (by kernel_rfl) (fun _ _ _ _ h => h) ⟨_, Or.inl ⟨by rfl, fun w' hb => by (go_simp; try with_reducible rfl)⟩, _, by (go_simp; try rfl), ?_⟩
    refine wpAnyR_take 12 rfl (by kernel_rfl) (by kernel_rfl) (by kernel_rfl) (fun _ _ _ _ h => h) ⟨_, Or.inl ⟨by rfl, fun w' hb => by (go_simp; try with_reducible rfl)⟩, _, by (go_simp; try rfl), ?_⟩
    refine wpAnyR_done (by kernel_rfl) ?_ _
    have hb9 := bthen hbel (After.trans (Below.refl _ _).drew b1)
    go_wp2_with fail
    go_ret2
    exact ⟨rfl, hb9⟩
  · go_enter Tryz.func80, Tryz.ntmps80
    go_wp2_with fail
    generalize w.alloc (.cells #[.int .i32 x, .int .i32 y, .int .i32 z, .int .i32 a, .int .i32 b, .int .i32 c] 113) = W at *
    refine wp_region_R (by kernel_rfl) ?_
    refine wpAnyR_take 0 rfl (by kernel_rfl) (by kernel_rfl) (by kernel_rfl) (fun _ _ _ _ h => h) ⟨_, Or.inl ⟨by rfl, fun w' hb => by (go_simp; try with_reducible rfl)⟩, _, by (go_simp; try rfl), ?_⟩
    refine wpAnyR_take 1 rfl (by kernel_rfl) (by kernel_rfl) (by kernel_rfl) (fun _ _ _ _ h => h) ⟨_, Or.inl ⟨by rfl, fun w' hb => by (go_simp; try with_reducible rfl)⟩, _, by (go_simp; try rfl), ?_⟩
    refine wpAnyR_take 2 rfl (by kernel_rfl) (by kernel_rfl) (by kernel_rfl) (fun _ _ _ _ h => h) ⟨_, Or.inl ⟨by rfl, fun w' hb => by (go_simp; try with_reducible rfl)⟩, _, by (go_simp; try rfl), ?_⟩
    refine wpAnyR_take 3 rfl (by kernel_rfl) (by kernel_rfl) (by kernel_rfl) (fun _ _ _ _ h => h) ⟨_, Or.inl ⟨by rfl, fun w' hb => by (have hcx := hb.cellB (show W.drew.cell? _ = _ from c2); go_simp; try with_reducible rfl)⟩, _, by (go_simp; try rfl), ?_⟩
    refine wpAnyR_take 4 rfl (by kernel_rfl) (by kernel_rfl) (by kernel_rfl) (fun _ _ _ _ h => h) ⟨_, Or.inl ⟨by rfl, fun w' hb => by (go_simp; try with_reducible rfl)⟩, _, by (go_simp; try rfl), ?_⟩
    refine wpAnyR_take 5 rfl (by kernel_rfl) (by kernel_rfl) (by kernel_rfl) (fun _ _ _ _ h => h) ⟨_, Or.inl ⟨by rfl, fun w' hb => by (go_simp; try with_reducible rfl)⟩, _, by (go_simp; try rfl), ?_⟩
    refine wpAnyR_take 6 rfl (by kernel_rfl) (by kernel_rfl) (by kernel_rfl) (fun _ _ _ _ h => h) ⟨_, Or.inl ⟨by rfl, fun w' hb => by (go_simp; try with_reducible rfl)⟩, _, by (go_simp; try rfl), ?_⟩
    refine wpAnyR_take 7 rfl (by kernel_rfl) (by kernel_rfl) (by kernel_rfl) (fun _ _ _ _ h => h) ⟨_, Or.inl ⟨by rfl, fun w' hb => by (have hcx := hb.cellB (show W.drew.cell? _ = _ from c5); go_simp; try with_reducible rfl)⟩, _, by (go_simp; try rfl), ?_⟩
    refine wpAnyR_only 8 rfl (by kernel_rfl) (by rfl) (fun K hK => ?_)
    go_simp
    refine (sub_any _ _ _ p2.1 p2.2 q2.1 q2.2).mono ?_
    rintro e v1 ⟨rfl, b1⟩
    rw [clampV_def]
    go_wp2_with fail
    refine ⟨b1, ?_⟩
    refine wpAnyR_take 9 rfl (by kernel_rfl) (by kernel_rfl) (by kernel_rfl) (fun _ _ _ _ h => h) ⟨_, Or.inl ⟨by rfl, fun w' hb => by (go_simp; try with_reducible rfl)⟩, _, by (go_simp; try rfl), ?_⟩
    refine wpAnyR_take 10 rfl (by kernel_rfl) (by kernel_rfl) (by kernel_rfl) (fun _ _ _ _ h => h) ⟨_, Or.inl ⟨by rfl, fun w' hb => by (go_simp; try with_reducible rfl)⟩, _, by (go_simp; try rfl), ?_⟩
    refine wpAnyR_take 11 rfl (by kernel_rfl) (by kernel_rfl) (by kernel_rfl) (fun _ _ _ _ h => h) ⟨_, Or.inl ⟨by rfl, fun w' hb => by (go_simp; try with_reducible rfl)⟩, _, by (go_simp; try rfl), ?_⟩
    refine wpAnyR_take 12 rfl (by kernel_rfl) (by kernel_rfl) (by kernel_rfl) (fun _ _ _ _ h => h) ⟨_, Or.inl ⟨by rfl, fun w' hb => by (go_simp; try with_reducible rfl)⟩, _, by (go_simp; try rfl), ?_⟩
    refine wpAnyR_done (by kernel_rfl) ?_ _
    have hb9 := bthen hbel (After.trans (Below.refl _ _).drew b1)
    go_wp2_with fail
    go_ret2
    exact ⟨rfl, hb9⟩


theorem sel_b (i : Nat) (x y z : Int) (p0 : B32 x) (p1 : B32 y) (p2 : B32 z) : B32 (sel i x y z) := by
  unfold sel; split
  · exact p0
  · split
    · exact p1
    · exact p2
theorem box6_sel (w : World) (T : TypeId) (x y z a b c : Int) (i j : Nat) (hi : i < 3) (hj : j < 3) : (w.alloc (.cells #[.int .i32 x, .int .i32 y, .int .i32 z, .int .i32 a, .int .i32 b, .int .i32 c] T)).cell? ⟨w.heap.size, i, none⟩ = some (.int .i32 (sel i x y z)) ∧ (w.alloc (.cells #[.int .i32 x, .int .i32 y, .int .i32 z, .int .i32 a, .int .i32 b, .int .i32 c] T)).cell? ⟨w.heap.size, 3 + j, none⟩ = some (.int .i32 (sel j a b c)) := by
  obtain ⟨c0, c1, c2, c3, c4, c5⟩ := box6 w T (.int .i32 x) (.int .i32 y) (.int .i32 z) (.int .i32 a) (.int .i32 b) (.int .i32 c)
  constructor
  · obtain rfl | rfl | rfl : i = 0 ∨ i = 1 ∨ i = 2 := by omega
    · exact c0
    · exact c1
    · exact c2
  · obtain rfl | rfl | rfl : j = 0 ∨ j = 1 ∨ j = 2 := by omega
    · exact c3
    · exact c4
    · exact c5
theorem round_bd (n f : Int) (h1 : -9223372036854775808 ≤ n) (h2 : n ≤ 9223372036854775807) : -9223372036854775808 ≤ roundS n f ∧ roundS n f ≤ 9223372036854775807 := over_bd n _ h1 h2

theorem box4_sel (w : World) (T : TypeId) (x y z k : Int) (i : Nat) (hi : i < 3) : (w.alloc (.cells #[.int .i32 x, .int .i32 y, .int .i32 z, .int .i32 k] T)).cell? ⟨w.heap.size, i, none⟩ = some (.int .i32 (sel i x y z)) ∧ (w.alloc (.cells #[.int .i32 x, .int .i32 y, .int .i32 z, .int .i32 k] T)).cell? ⟨w.heap.size, 3, none⟩ = some (.int .i32 k) := by
  constructor
  · obtain rfl | rfl | rfl : i = 0 ∨ i = 1 ∨ i = 2 := by omega
    all_goals simp [sel]
  · simp

set_option maxHeartbeats 1000000 in
theorem part_any (x y z k : Int) (i : Nat) (hi : i < 3) (w : World) (p0 : B32 x) (p1 : B32 y) (p2 : B32 z) (q0 : B32 k) :
    Calls Tryz.prog 82 #[.agg #[.int .i32 x, .int .i32 y, .int .i32 z, .int .i32 k], .int .i64 i] w fun e w' => e = .returned (clampV (roundS (sel i x y z * k) 16)) ∧ Below w.heap.size w w' := by
  obtain ⟨c0, c1⟩ := box4_sel w 118 x y z k i hi
  have hbel := (Below.refl w.heap.size w).alloc (Nat.le_refl _) (.cells #[.int .i32 x, .int .i32 y, .int .i32 z, .int .i32 k] 118)
  have hX := sel_b i x y z p0 p1 p2
  generalize sel i x y z = X at *
  have fi : (i : Int) < 3 := by omega
  have hb16 : ((bnd 16 30 : Nat) : Int) = 16 := by decide
  go_enter Tryz.func82, Tryz.ntmps82
  go_wp2_with fail
  generalize w.alloc (.cells #[.int .i32 x, .int .i32 y, .int .i32 z, .int .i32 k] 118) = W at *
  refine wp_region_R (by kernel_rfl) ?_
  refine wpAnyR_take 0 rfl (by kernel_rfl) (by kernel_rfl) (by kernel_rfl) (fun _ _ _ _ h => h) ⟨_, Or.inl ⟨by rfl, fun w' hb => by (go_simp; try with_reducible rfl)⟩, _, by (go_simp; try rfl), ?_⟩
  refine wpAnyR_take 1 rfl (by kernel_rfl) (by kernel_rfl) (by kernel_rfl) (fun _ _ _ _ h => h) ⟨_, Or.inl ⟨by rfl, fun w' hb => by (go_simp; try with_reducible rfl)⟩, _, by (go_simp; try rfl), ?_⟩
  refine wpAnyR_take 2 rfl (by kernel_rfl) (by kernel_rfl) (by kernel_rfl) (fun _ _ _ _ h => h) ⟨_, Or.inl ⟨by rfl, fun w' hb => by (go_simp; try with_reducible rfl)⟩, _, by (go_simp; try rfl), ?_⟩
  refine wpAnyR_take 3 rfl (by kernel_rfl) (by kernel_rfl) (by kernel_rfl) (fun _ _ _ _ h => h) ⟨_, Or.inl ⟨by rfl, fun w' hb => by (have hcx := hb.cellB (show W.drew.cell? _ = _ from c0); go_simp; try with_reducible rfl)⟩, _, by (go_simp; try rfl), ?_⟩
  refine wpAnyR_take 4 rfl (by kernel_rfl) (by kernel_rfl) (by kernel_rfl) (fun _ _ _ _ h => h) ⟨_, Or.inl ⟨by rfl, fun w' hb => by (go_simp; try with_reducible rfl)⟩, _, by (go_simp; try rfl), ?_⟩
  refine wpAnyR_take 5 rfl (by kernel_rfl) (by kernel_rfl) (by kernel_rfl) (fun _ _ _ _ h => h) ⟨_, Or.inl ⟨by rfl, fun w' hb => by (have hcx := hb.cellB (show W.drew.cell? _ = _ from c1); go_simp; try with_reducible rfl)⟩, _, by (go_simp; try rfl), ?_⟩
  refine wpAnyR_only 6 rfl (by kernel_rfl) (by rfl) (fun K hK => ?_)
  go_simp
  refine (mul_any X k 16 _ hX.1 hX.2 q0.1 q0.2).mono ?_
  rw [hb16]
  rintro e v1 ⟨rfl, b1⟩
  rw [clampV_def]
  go_wp2_with fail
  refine ⟨b1, ?_⟩
  refine wpAnyR_take 7 rfl (by kernel_rfl) (by kernel_rfl) (by kernel_rfl) (fun _ _ _ _ h => h) ⟨_, Or.inl ⟨by rfl, fun w' hb => by (go_simp; try with_reducible rfl)⟩, _, by (go_simp; try rfl), ?_⟩
  refine wpAnyR_take 8 rfl (by kernel_rfl) (by kernel_rfl) (by kernel_rfl) (fun _ _ _ _ h => h) ⟨_, Or.inl ⟨by rfl, fun w' hb => by (go_simp; try with_reducible rfl)⟩, _, by (go_simp; try rfl), ?_⟩
  refine wpAnyR_take 9 rfl (by kernel_rfl) (by kernel_rfl) (by kernel_rfl) (fun _ _ _ _ h => h) ⟨_, Or.inl ⟨by rfl, fun w' hb => by (go_simp; try with_reducible rfl)⟩, _, by (go_simp; try rfl), ?_⟩
  refine wpAnyR_take 10 rfl (by kernel_rfl) (by kernel_rfl) (by kernel_rfl) (fun _ _ _ _ h => h) ⟨_, Or.inl ⟨by rfl, fun w' hb => by (go_simp; try with_reducible rfl)⟩, _, by (go_simp; try rfl), ?_⟩
  refine wpAnyR_done (by kernel_rfl) ?_ _
  have hb9 := bthen hbel (After.trans (Below.refl _ _).drew b1)
  go_wp2_with fail
  go_ret2
  exact ⟨rfl, hb9⟩

/-- A part of the vector that stands upright on both. -/
def crossN (x y z a b c : Int) (i : Nat) : Int := roundS (sel ((i + 1) % 3) x y z * sel ((i + 2) % 3) a b c) 16 - roundS (sel ((i + 2) % 3) x y z * sel ((i + 1) % 3) a b c) 16
theorem round16_bd (X Y : Int) (hX : B32 X) (hY : B32 Y) : -70368744177665 ≤ roundS (X * Y) 16 ∧ roundS (X * Y) 16 ≤ 70368744177665 := by
  obtain ⟨m1, m2⟩ := mul_bd X Y hX.1 hX.2 hY.1 hY.2
  have hp : pow2 (bnd 16 62) = 65536 := by decide +kernel
  unfold roundS overS
  rw [hp, if_neg (by omega)]
  have hq : qn (X * Y).natAbs (65536 : Int).natAbs ≤ 70368744177665 := by
    unfold qn
    have : (65536 : Int).natAbs = 65536 := rfl
    rw [this]
    split <;> omega
  split
  · omega
  · split <;> omega
theorem cross_bd (x y z a b c : Int) (i : Nat) (p0 : B32 x) (p1 : B32 y) (p2 : B32 z) (q0 : B32 a) (q1 : B32 b) (q2 : B32 c) : -9223372036854775808 ≤ crossN x y z a b c i ∧ crossN x y z a b c i ≤ 9223372036854775807 := by
  have h1 := round16_bd _ _ (sel_b ((i + 1) % 3) x y z p0 p1 p2) (sel_b ((i + 2) % 3) a b c q0 q1 q2)
  have h2 := round16_bd _ _ (sel_b ((i + 2) % 3) x y z p0 p1 p2) (sel_b ((i + 1) % 3) a b c q0 q1 q2)
  unfold crossN
  omega

end Go.Proofs.YtpdpcdifnlellaaGreat
