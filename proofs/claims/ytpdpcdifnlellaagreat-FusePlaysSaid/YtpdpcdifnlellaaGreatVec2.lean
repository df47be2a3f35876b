/- Package vec: what is done for each part; sums, differences, multiples. -/
import Derived.Test.YtpdpcdifnlellaaGreatVec
import Derived.Test.YtpdpcdifnlellaaGreatKA
namespace Go.Proofs.YtpdpcdifnlellaaGreat
open Go.ChangeShapes Go.WideShapes Go.ChangeAt Go.RowKit
set_option linter.unusedVariables false

def vals (n : Nat → Int) (k : Nat) : List Int := [if 0 < k then clampS (n 0) else 0, if 1 < k then clampS (n 1) else 0, if 2 < k then clampS (n 2) else 0]
theorem vals_set (n : Nat → Int) (k : Nat) (h : k < 3) : (vals n k).set k (clampS (n k)) = vals n (k + 1) := by
  obtain rfl | rfl | rfl : k = 0 ∨ k = 1 ∨ k = 2 := by omega
  all_goals simp [vals]
def cuts (n : Nat → Int) : Nat → Nat
  | 0 => 0
  | k + 1 => cuts n k + (if clampB (n k) then 1 else 0)
theorem cuts_le (n : Nat → Int) : ∀ k, cuts n k ≤ k
  | 0 => Nat.le_refl _
  | k + 1 => by have := cuts_le n k; simp only [cuts]; split <;> omega
/-- Three numbers, cut, and how many were. -/
def cut3 (n : Nat → Int) : Value := .tuple #[.agg #[.int .i32 (clampS (n 0)), .int .i32 (clampS (n 1)), .int .i32 (clampS (n 2))], .int .i64 (cuts n 3)]
theorem three {k : Nat} (h : k < 3) : k = 0 ∨ k = 1 ∨ k = 2 := by omega

theorem heap_new (w : World) (o : Obj) (b : Nat) (hb : b = w.heap.size) : (w.alloc o).heap[b]? = some o := by
  subst hb; show (w.heap.push o)[w.heap.size]? = some o; simp
theorem done_start (w : World) (v : Value) (T1 T2 T3 : TypeId) :
    Below w.heap.size w (((w.alloc (.cells #[v] T1)).alloc (.cells #[.int .i32 0, .int .i32 0, .int .i32 0] T2)).alloc (.cells #[.int .i32 0, .int .i32 0, .int .i32 0] T3)) ∧
    Row .i32 T3 (((w.alloc (.cells #[v] T1)).alloc (.cells #[.int .i32 0, .int .i32 0, .int .i32 0] T2)).alloc (.cells #[.int .i32 0, .int .i32 0, .int .i32 0] T3)) (w.heap.size + 1 + 1) [0, 0, 0] ∧
    (((w.alloc (.cells #[v] T1)).alloc (.cells #[.int .i32 0, .int .i32 0, .int .i32 0] T2)).alloc (.cells #[.int .i32 0, .int .i32 0, .int .i32 0] T3)).cell? ⟨w.heap.size, 0, none⟩ = some v ∧
    (((w.alloc (.cells #[v] T1)).alloc (.cells #[.int .i32 0, .int .i32 0, .int .i32 0] T2)).alloc (.cells #[.int .i32 0, .int .i32 0, .int .i32 0] T3)).cell? ⟨w.heap.size + 1, 0, none⟩ = some (.int .i32 0) ∧
    (((w.alloc (.cells #[v] T1)).alloc (.cells #[.int .i32 0, .int .i32 0, .int .i32 0] T2)).alloc (.cells #[.int .i32 0, .int .i32 0, .int .i32 0] T3)).cell? ⟨w.heap.size + 1, 1, none⟩ = some (.int .i32 0) ∧
    (((w.alloc (.cells #[v] T1)).alloc (.cells #[.int .i32 0, .int .i32 0, .int .i32 0] T2)).alloc (.cells #[.int .i32 0, .int .i32 0, .int .i32 0] T3)).cell? ⟨w.heap.size + 1, 2, none⟩ = some (.int .i32 0) ∧
    (((w.alloc (.cells #[v] T1)).alloc (.cells #[.int .i32 0, .int .i32 0, .int .i32 0] T2)).alloc (.cells #[.int .i32 0, .int .i32 0, .int .i32 0] T3)).frozen? ⟨w.heap.size + 1, 0, none⟩ = false ∧
    (((w.alloc (.cells #[v] T1)).alloc (.cells #[.int .i32 0, .int .i32 0, .int .i32 0] T2)).alloc (.cells #[.int .i32 0, .int .i32 0, .int .i32 0] T3)).frozen? ⟨w.heap.size + 1, 1, none⟩ = false ∧
    (((w.alloc (.cells #[v] T1)).alloc (.cells #[.int .i32 0, .int .i32 0, .int .i32 0] T2)).alloc (.cells #[.int .i32 0, .int .i32 0, .int .i32 0] T3)).frozen? ⟨w.heap.size + 1, 2, none⟩ = false := by
  generalize ho1 : Obj.cells #[v] T1 = o1
  generalize ho2 : Obj.cells #[Value.int .i32 0, .int .i32 0, .int .i32 0] T2 = o2
  generalize ho3 : Obj.cells #[Value.int .i32 0, .int .i32 0, .int .i32 0] T3 = o3
  have e1 : (w.alloc o1).heap.size = w.heap.size + 1 := by simp
  have e2 : ((w.alloc o1).alloc o2).heap.size = w.heap.size + 1 + 1 := by simp
  have h1 : (((w.alloc o1).alloc o2).alloc o3).heap[w.heap.size]? = some o1 := by
    rw [Below.heap_alloc _ _ _ (by omega), Below.heap_alloc _ _ _ (by omega)]; exact heap_new _ _ _ rfl
  have h2 : (((w.alloc o1).alloc o2).alloc o3).heap[w.heap.size + 1]? = some o2 := by
    rw [Below.heap_alloc _ _ _ (by omega)]; exact heap_new _ _ _ e1.symm
  have h3 : (((w.alloc o1).alloc o2).alloc o3).heap[w.heap.size + 1 + 1]? = some o3 := heap_new _ _ _ e2.symm
  have hb : Below w.heap.size w (((w.alloc o1).alloc o2).alloc o3) := (((Below.refl _ _).alloc (Nat.le_refl _) _).alloc (by simp) _).alloc (by simp; omega) _
  generalize ((w.alloc o1).alloc o2).alloc o3 = W at *
  subst ho1 ho2 ho3
  exact ⟨hb, h3, by rw [cell_of_row W _ _ _ _ _ h1]; rfl, by rw [cell_of_row W _ _ _ _ _ h2]; rfl, by rw [cell_of_row W _ _ _ _ _ h2]; rfl, by rw [cell_of_row W _ _ _ _ _ h2]; rfl, frozen_of_row W _ _ _ _ h2, frozen_of_row W _ _ _ _ h2, frozen_of_row W _ _ _ _ h2⟩

set_option maxRecDepth 100000 in
set_option maxHeartbeats 2000000 in
theorem done_sum (x y z a b c : Int) ( w : World) (p0 : B32 x) (p1 : B32 y) (p2 : B32 z) (q0 : B32 a) (q1 : B32 b) (q2 : B32 c) :
    Calls Tryz.prog 81 #[.agg #[.func (.func 83) #[.agg #[.int .i32 x, .int .i32 y, .int .i32 z, .int .i32 a, .int .i32 b, .int .i32 c]] #[]]] w fun e w' => e = .returned (cut3 (fun i => sel i x y z + sel i a b c)) ∧ Below w.heap.size w w' := by
  obtain ⟨n, hn⟩ : ∃ n : Nat → Int, n = fun i => sel i x y z + sel i a b c := ⟨_, rfl⟩
  obtain ⟨V, hV⟩ : ∃ V : Value, .agg #[.int .i32 x, .int .i32 y, .int .i32 z, .int .i32 a, .int .i32 b, .int .i32 c] = V := ⟨_, rfl⟩
  have hP : ∀ (k : Nat) (v : World), k < 3 → Calls Tryz.prog 83 #[V, .int .i64 k] v fun e v' => e = .returned (clampV (n k)) ∧ Below v.heap.size v v' := by
    intro k v hk; subst hn; subst hV; exact sum_any x y z a b c k hk v p0 p1 p2 q0 q1 q2
  rw [hV, ← hn]
  replace hP := hid hP
  clear hn hV p0 p1 p2 q0 q1 q2
  obtain ⟨W, hW⟩ : ∃ W, ((w.alloc (.cells #[.func (.func 83) #[V] #[]] 115)).alloc (.cells #[.int .i32 0, .int .i32 0, .int .i32 0] 25)).alloc (.cells #[.int .i32 0, .int .i32 0, .int .i32 0] 72) = W := ⟨_, rfl⟩
  obtain ⟨hB0, hrow0, c0, x0, x1, x2, y0, y1, y2⟩ := done_start w (.func (.func 83) #[V] #[]) 115 25 72
  rw [hW] at hB0 hrow0 c0 x0 x1 x2 y0 y1 y2
  have hsz : w.heap.size + 3 ≤ W.heap.size := by rw [← hW]; simp
  replace hB0 := hid hB0
  replace c0 := hid c0
  replace x0 := hid (And.intro x0 y0)
  replace x1 := hid (And.intro x1 y1)
  replace x2 := hid (And.intro x2 y2)
  clear y0 y1 y2
  replace hrow0 := hid hrow0
  go_enter Tryz.func81, Tryz.ntmps81
  go_wp2_with fail
  replace hW := hid hW
  go_loopw [5, 9] (fun cu i wr => ∃ (k : Nat), k ≤ 3 ∧ i = .int .i64 k ∧ cu = .int .i64 (cuts n k) ∧ Aft (w.heap.size + 2) W wr ∧ Row .i32 72 wr (w.heap.size + 1 + 1) (vals n k)) (fun _ i _ => 3 - (intOf i).toNat)
  case atStart => exact ⟨0, by omega, rfl, rfl, Below.refl _ _, hrow0.out⟩
  case round =>
    obtain ⟨k, hk, rfl, rfl, hA, hrow⟩ := hrel
    have hcl := cuts_le n k
    have hsr := Below.size hA
    have cr := hA.cellB (by simp) c0.out
    by_cases hlt : (k : Int) < 3
    · have hlt2 : k < 3 := by omega
      have hvs := hid (vals_set n k hlt2)
      have hcs : Go.RowKit.Hid (cuts n (k + 1) = cuts n k + (if clampB (n k) then 1 else 0)) := hid rfl
      have hlen : (vals n k).length = 3 := rfl
      have hPk := hid (hP.out k wr hlt2)
      go_wp2_with fail
      refine hPk.out.mono ?_
      rintro e v ⟨rfl, hb⟩
      rw [clampV_def]
      have hrow2 := hrow.below hb
      have cc := hrow2.cellAt k (by omega)
      have cf := hrow2.free k
      have hA2 : Aft (w.heap.size + 2) W (v.setCell ⟨w.heap.size + 1 + 1, k, none⟩ (.int .i32 (clampS (n k)))) := Below.setCell (p := ⟨w.heap.size + 1 + 1, k, none⟩) (Below.trans hA (Below.mono hb (by omega))) (by show _ ≤ w.heap.size + 1 + 1; omega) _
      have hrow3 := hrow2.set k (clampS (n k))
      rw [hvs.out] at hrow3
      replace hrow3 := hid hrow3
      clear hrow hrow2 hA hb hlen
      generalize clampS (n k) = cs at *
      generalize (vals n k).getD k 0 = old at *
      generalize clampB (n k) = cb at *
      cases cb
      all_goals
        go_wp2_with fail
        go_roundw
        case rel => exact ⟨k + 1, by omega, by simp, by rw [hcs.out]; simp, hA2, hrow3.out⟩
        case measure => simp [intOf]; omega
    · obtain rfl : k = 3 := by omega
      have a0 : wr.cell? ⟨w.heap.size + 1 + 1, 0, none⟩ = some (.int .i32 (clampS (n 0))) := hrow.cellAt 0 (show 0 < 3 by omega)
      have a1 : wr.cell? ⟨w.heap.size + 1 + 1, 1, none⟩ = some (.int .i32 (clampS (n 1))) := hrow.cellAt 1 (show 1 < 3 by omega)
      have a2 : wr.cell? ⟨w.heap.size + 1 + 1, 2, none⟩ = some (.int .i32 (clampS (n 2))) := hrow.cellAt 2 (show 2 < 3 by omega)
      have hV : cut3 n = .tuple #[.agg #[.int .i32 (clampS (n 0)), .int .i32 (clampS (n 1)), .int .i32 (clampS (n 2))], .int .i64 (cuts n 3)] := rfl
      replace hV := hid hV
      generalize clampS (n 0) = s0 at *
      generalize clampS (n 1) = s1 at *
      generalize clampS (n 2) = s2 at *
      generalize cuts n 3 = cn at *
      go_wp2_with fail
      refine (vector_any s0 s1 s2 _).mono ?_
      rintro e v ⟨rfl, hb⟩
      have z0 := After.cellB hb (hA.cellB (by simp) x0.out.1)
      have z1 := After.cellB hb (hA.cellB (by simp) x1.out.1)
      have z2 := After.cellB hb (hA.cellB (by simp) x2.out.1)
      have w0 := (Below.frozen hb (by show w.heap.size + 1 < _; omega)).trans ((Below.frozen hA (by show w.heap.size + 1 < _; omega)).trans x0.out.2)
      have w1 := (Below.frozen hb (by show w.heap.size + 1 < _; omega)).trans ((Below.frozen hA (by show w.heap.size + 1 < _; omega)).trans x1.out.2)
      have w2 := (Below.frozen hb (by show w.heap.size + 1 < _; omega)).trans ((Below.frozen hA (by show w.heap.size + 1 < _; omega)).trans x2.out.2)
      have hfin := ((Below.mono hA (show w.heap.size ≤ w.heap.size + 2 by omega)).trans (Below.mono hb (by omega)))
      have hfin2 := hB0.out.trans hfin
      clear hA hb a0 a1 a2 hrow cr hfin
      go_wp2_with fail
      refine bodyPost_ret (v := .tuple #[.agg #[.int .i32 s0, .int .i32 s1, .int .i32 s2], .int .i64 cn]) (by simp [results, Tryz.results81, go_sem, z0, z1, z2]) rfl ⟨by rw [hV.out], ?_⟩
      exact ((hfin2.setCell (by show _ ≤ w.heap.size + 1; omega) _).setCell (by show _ ≤ w.heap.size + 1; omega) _).setCell (by show _ ≤ w.heap.size + 1; omega) _

set_option maxRecDepth 100000 in
set_option maxHeartbeats 2000000 in
theorem done_less (x y z a b c : Int) ( w : World) (p0 : B32 x) (p1 : B32 y) (p2 : B32 z) (q0 : B32 a) (q1 : B32 b) (q2 : B32 c) :
    Calls Tryz.prog 81 #[.agg #[.func (.func 80) #[.agg #[.int .i32 x, .int .i32 y, .int .i32 z, .int .i32 a, .int .i32 b, .int .i32 c]] #[]]] w fun e w' => e = .returned (cut3 (fun i => sel i x y z - sel i a b c)) ∧ Below w.heap.size w w' := by
  obtain ⟨n, hn⟩ : ∃ n : Nat → Int, n = fun i => sel i x y z - sel i a b c := ⟨_, rfl⟩
  obtain ⟨V, hV⟩ : ∃ V : Value, .agg #[.int .i32 x, .int .i32 y, .int .i32 z, .int .i32 a, .int .i32 b, .int .i32 c] = V := ⟨_, rfl⟩
  have hP : ∀ (k : Nat) (v : World), k < 3 → Calls Tryz.prog 80 #[V, .int .i64 k] v fun e v' => e = .returned (clampV (n k)) ∧ Below v.heap.size v v' := by
    intro k v hk; subst hn; subst hV; exact less_any x y z a b c k hk v p0 p1 p2 q0 q1 q2
  rw [hV, ← hn]
  replace hP := hid hP
  clear hn hV p0 p1 p2 q0 q1 q2
  obtain ⟨W, hW⟩ : ∃ W, ((w.alloc (.cells #[.func (.func 80) #[V] #[]] 115)).alloc (.cells #[.int .i32 0, .int .i32 0, .int .i32 0] 25)).alloc (.cells #[.int .i32 0, .int .i32 0, .int .i32 0] 72) = W := ⟨_, rfl⟩
  obtain ⟨hB0, hrow0, c0, x0, x1, x2, y0, y1, y2⟩ := done_start w (.func (.func 80) #[V] #[]) 115 25 72
  rw [hW] at hB0 hrow0 c0 x0 x1 x2 y0 y1 y2
  have hsz : w.heap.size + 3 ≤ W.heap.size := by rw [← hW]; simp
  replace hB0 := hid hB0
  replace c0 := hid c0
  replace x0 := hid (And.intro x0 y0)
  replace x1 := hid (And.intro x1 y1)
  replace x2 := hid (And.intro x2 y2)
  clear y0 y1 y2
  replace hrow0 := hid hrow0
  go_enter Tryz.func81, Tryz.ntmps81
  go_wp2_with fail
  replace hW := hid hW
  go_loopw [5, 9] (fun cu i wr => ∃ (k : Nat), k ≤ 3 ∧ i = .int .i64 k ∧ cu = .int .i64 (cuts n k) ∧ Aft (w.heap.size + 2) W wr ∧ Row .i32 72 wr (w.heap.size + 1 + 1) (vals n k)) (fun _ i _ => 3 - (intOf i).toNat)
  case atStart => exact ⟨0, by omega, rfl, rfl, Below.refl _ _, hrow0.out⟩
  case round =>
    obtain ⟨k, hk, rfl, rfl, hA, hrow⟩ := hrel
    have hcl := cuts_le n k
    have hsr := Below.size hA
    have cr := hA.cellB (by simp) c0.out
    by_cases hlt : (k : Int) < 3
    · have hlt2 : k < 3 := by omega
      have hvs := hid (vals_set n k hlt2)
      have hcs : Go.RowKit.Hid (cuts n (k + 1) = cuts n k + (if clampB (n k) then 1 else 0)) := hid rfl
      have hlen : (vals n k).length = 3 := rfl
      have hPk := hid (hP.out k wr hlt2)
      go_wp2_with fail
      refine hPk.out.mono ?_
      rintro e v ⟨rfl, hb⟩
      rw [clampV_def]
      have hrow2 := hrow.below hb
      have cc := hrow2.cellAt k (by omega)
      have cf := hrow2.free k
      have hA2 : Aft (w.heap.size + 2) W (v.setCell ⟨w.heap.size + 1 + 1, k, none⟩ (.int .i32 (clampS (n k)))) := Below.setCell (p := ⟨w.heap.size + 1 + 1, k, none⟩) (Below.trans hA (Below.mono hb (by omega))) (by show _ ≤ w.heap.size + 1 + 1; omega) _
      have hrow3 := hrow2.set k (clampS (n k))
      rw [hvs.out] at hrow3
      replace hrow3 := hid hrow3
      clear hrow hrow2 hA hb hlen
      generalize clampS (n k) = cs at *
      generalize (vals n k).getD k 0 = old at *
      generalize clampB (n k) = cb at *
      cases cb
      all_goals
        go_wp2_with fail
        go_roundw
        case rel => exact ⟨k + 1, by omega, by simp, by rw [hcs.out]; simp, hA2, hrow3.out⟩
        case measure => simp [intOf]; omega
    · obtain rfl : k = 3 := by omega
      have a0 : wr.cell? ⟨w.heap.size + 1 + 1, 0, none⟩ = some (.int .i32 (clampS (n 0))) := hrow.cellAt 0 (show 0 < 3 by omega)
      have a1 : wr.cell? ⟨w.heap.size + 1 + 1, 1, none⟩ = some (.int .i32 (clampS (n 1))) := hrow.cellAt 1 (show 1 < 3 by omega)
      have a2 : wr.cell? ⟨w.heap.size + 1 + 1, 2, none⟩ = some (.int .i32 (clampS (n 2))) := hrow.cellAt 2 (show 2 < 3 by omega)
      have hV : cut3 n = .tuple #[.agg #[.int .i32 (clampS (n 0)), .int .i32 (clampS (n 1)), .int .i32 (clampS (n 2))], .int .i64 (cuts n 3)] := rfl
      replace hV := hid hV
      generalize clampS (n 0) = s0 at *
      generalize clampS (n 1) = s1 at *
      generalize clampS (n 2) = s2 at *
      generalize cuts n 3 = cn at *
      go_wp2_with fail
      refine (vector_any s0 s1 s2 _).mono ?_
      rintro e v ⟨rfl, hb⟩
      have z0 := After.cellB hb (hA.cellB (by simp) x0.out.1)
      have z1 := After.cellB hb (hA.cellB (by simp) x1.out.1)
      have z2 := After.cellB hb (hA.cellB (by simp) x2.out.1)
      have w0 := (Below.frozen hb (by show w.heap.size + 1 < _; omega)).trans ((Below.frozen hA (by show w.heap.size + 1 < _; omega)).trans x0.out.2)
      have w1 := (Below.frozen hb (by show w.heap.size + 1 < _; omega)).trans ((Below.frozen hA (by show w.heap.size + 1 < _; omega)).trans x1.out.2)
      have w2 := (Below.frozen hb (by show w.heap.size + 1 < _; omega)).trans ((Below.frozen hA (by show w.heap.size + 1 < _; omega)).trans x2.out.2)
      have hfin := ((Below.mono hA (show w.heap.size ≤ w.heap.size + 2 by omega)).trans (Below.mono hb (by omega)))
      have hfin2 := hB0.out.trans hfin
      clear hA hb a0 a1 a2 hrow cr hfin
      go_wp2_with fail
      refine bodyPost_ret (v := .tuple #[.agg #[.int .i32 s0, .int .i32 s1, .int .i32 s2], .int .i64 cn]) (by simp [results, Tryz.results81, go_sem, z0, z1, z2]) rfl ⟨by rw [hV.out], ?_⟩
      exact ((hfin2.setCell (by show _ ≤ w.heap.size + 1; omega) _).setCell (by show _ ≤ w.heap.size + 1; omega) _).setCell (by show _ ≤ w.heap.size + 1; omega) _

set_option maxRecDepth 100000 in
set_option maxHeartbeats 2000000 in
theorem done_part (x y z f : Int) ( w : World) (p0 : B32 x) (p1 : B32 y) (p2 : B32 z) (q0 : B32 f) :
    Calls Tryz.prog 81 #[.agg #[.func (.func 82) #[.agg #[.int .i32 x, .int .i32 y, .int .i32 z, .int .i32 f]] #[]]] w fun e w' => e = .returned (cut3 (fun i => roundS (sel i x y z * f) 16)) ∧ Below w.heap.size w w' := by
  obtain ⟨n, hn⟩ : ∃ n : Nat → Int, n = fun i => roundS (sel i x y z * f) 16 := ⟨_, rfl⟩
  obtain ⟨V, hV⟩ : ∃ V : Value, .agg #[.int .i32 x, .int .i32 y, .int .i32 z, .int .i32 f] = V := ⟨_, rfl⟩
  have hP : ∀ (k : Nat) (v : World), k < 3 → Calls Tryz.prog 82 #[V, .int .i64 k] v fun e v' => e = .returned (clampV (n k)) ∧ Below v.heap.size v v' := by
    intro k v hk; subst hn; subst hV; exact part_any x y z f k hk v p0 p1 p2 q0
  rw [hV, ← hn]
  replace hP := hid hP
  clear hn hV p0 p1 p2 q0
  obtain ⟨W, hW⟩ : ∃ W, ((w.alloc (.cells #[.func (.func 82) #[V] #[]] 115)).alloc (.cells #[.int .i32 0, .int .i32 0, .int .i32 0] 25)).alloc (.cells #[.int .i32 0, .int .i32 0, .int .i32 0] 72) = W := ⟨_, rfl⟩
  obtain ⟨hB0, hrow0, c0, x0, x1, x2, y0, y1, y2⟩ := done_start w (.func (.func 82) #[V] #[]) 115 25 72
  rw [hW] at hB0 hrow0 c0 x0 x1 x2 y0 y1 y2
  have hsz : w.heap.size + 3 ≤ W.heap.size := by rw [← hW]; simp
  replace hB0 := hid hB0
  replace c0 := hid c0
  replace x0 := hid (And.intro x0 y0)
  replace x1 := hid (And.intro x1 y1)
  replace x2 := hid (And.intro x2 y2)
  clear y0 y1 y2
  replace hrow0 := hid hrow0
  go_enter Tryz.func81, Tryz.ntmps81
  go_wp2_with fail
  replace hW := hid hW
  go_loopw [5, 9] (fun cu i wr => ∃ (k : Nat), k ≤ 3 ∧ i = .int .i64 k ∧ cu = .int .i64 (cuts n k) ∧ Aft (w.heap.size + 2) W wr ∧ Row .i32 72 wr (w.heap.size + 1 + 1) (vals n k)) (fun _ i _ => 3 - (intOf i).toNat)
  case atStart => exact ⟨0, by omega, rfl, rfl, Below.refl _ _, hrow0.out⟩
  case round =>
    obtain ⟨k, hk, rfl, rfl, hA, hrow⟩ := hrel
    have hcl := cuts_le n k
    have hsr := Below.size hA
    have cr := hA.cellB (by simp) c0.out
    by_cases hlt : (k : Int) < 3
    · have hlt2 : k < 3 := by omega
      have hvs := hid (vals_set n k hlt2)
      have hcs : Go.RowKit.Hid (cuts n (k + 1) = cuts n k + (if clampB (n k) then 1 else 0)) := hid rfl
      have hlen : (vals n k).length = 3 := rfl
      have hPk := hid (hP.out k wr hlt2)
      go_wp2_with fail
      refine hPk.out.mono ?_
      rintro e v ⟨rfl, hb⟩
      rw [clampV_def]
      have hrow2 := hrow.below hb
      have cc := hrow2.cellAt k (by omega)
      have cf := hrow2.free k
      have hA2 : Aft (w.heap.size + 2) W (v.setCell ⟨w.heap.size + 1 + 1, k, none⟩ (.int .i32 (clampS (n k)))) := Below.setCell (p := ⟨w.heap.size + 1 + 1, k, none⟩) (Below.trans hA (Below.mono hb (by omega))) (by show _ ≤ w.heap.size + 1 + 1; omega) _
      have hrow3 := hrow2.set k (clampS (n k))
      rw [hvs.out] at hrow3
      replace hrow3 := hid hrow3
      clear hrow hrow2 hA hb hlen
      generalize clampS (n k) = cs at *
      generalize (vals n k).getD k 0 = old at *
      generalize clampB (n k) = cb at *
      cases cb
      all_goals
        go_wp2_with fail
        go_roundw
        case rel => exact ⟨k + 1, by omega, by simp, by rw [hcs.out]; simp, hA2, hrow3.out⟩
        case measure => simp [intOf]; omega
    · obtain rfl : k = 3 := by omega
      have a0 : wr.cell? ⟨w.heap.size + 1 + 1, 0, none⟩ = some (.int .i32 (clampS (n 0))) := hrow.cellAt 0 (show 0 < 3 by omega)
      have a1 : wr.cell? ⟨w.heap.size + 1 + 1, 1, none⟩ = some (.int .i32 (clampS (n 1))) := hrow.cellAt 1 (show 1 < 3 by omega)
      have a2 : wr.cell? ⟨w.heap.size + 1 + 1, 2, none⟩ = some (.int .i32 (clampS (n 2))) := hrow.cellAt 2 (show 2 < 3 by omega)
      have hV : cut3 n = .tuple #[.agg #[.int .i32 (clampS (n 0)), .int .i32 (clampS (n 1)), .int .i32 (clampS (n 2))], .int .i64 (cuts n 3)] := rfl
      replace hV := hid hV
      generalize clampS (n 0) = s0 at *
      generalize clampS (n 1) = s1 at *
      generalize clampS (n 2) = s2 at *
      generalize cuts n 3 = cn at *
      go_wp2_with fail
      refine (vector_any s0 s1 s2 _).mono ?_
      rintro e v ⟨rfl, hb⟩
      have z0 := After.cellB hb (hA.cellB (by simp) x0.out.1)
      have z1 := After.cellB hb (hA.cellB (by simp) x1.out.1)
      have z2 := After.cellB hb (hA.cellB (by simp) x2.out.1)
      have w0 := (Below.frozen hb (by show w.heap.size + 1 < _; omega)).trans ((Below.frozen hA (by show w.heap.size + 1 < _; omega)).trans x0.out.2)
      have w1 := (Below.frozen hb (by show w.heap.size + 1 < _; omega)).trans ((Below.frozen hA (by show w.heap.size + 1 < _; omega)).trans x1.out.2)
      have w2 := (Below.frozen hb (by show w.heap.size + 1 < _; omega)).trans ((Below.frozen hA (by show w.heap.size + 1 < _; omega)).trans x2.out.2)
      have hfin := ((Below.mono hA (show w.heap.size ≤ w.heap.size + 2 by omega)).trans (Below.mono hb (by omega)))
      have hfin2 := hB0.out.trans hfin
      clear hA hb a0 a1 a2 hrow cr hfin
      go_wp2_with fail
      refine bodyPost_ret (v := .tuple #[.agg #[.int .i32 s0, .int .i32 s1, .int .i32 s2], .int .i64 cn]) (by simp [results, Tryz.results81, go_sem, z0, z1, z2]) rfl ⟨by rw [hV.out], ?_⟩
      exact ((hfin2.setCell (by show _ ≤ w.heap.size + 1; omega) _).setCell (by show _ ≤ w.heap.size + 1; omega) _).setCell (by show _ ≤ w.heap.size + 1; omega) _


end Go.Proofs.YtpdpcdifnlellaaGreat
