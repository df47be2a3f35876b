/- Package quat and its reference: parts, products, four numbers cut. -/
import Derived.Test.YtpdpcdifnlellaaGreatVec5
import Derived.Test.YtpdpcdifnlellaaGreatVec9
namespace Go.Proofs.YtpdpcdifnlellaaGreat
open Go.ChangeShapes Go.WideShapes Go.ChangeAt Go.RowKit
set_option linter.unusedVariables false

theorem Row.four {k : IntKind} {E : TypeId} {w : World} {g : Nat} {x y z t : Int} (h : Row k E w g [x, y, z, t]) : w.cell? ⟨g, 0, none⟩ = some (.int k x) ∧ w.cell? ⟨g, 1, none⟩ = some (.int k y) ∧ w.cell? ⟨g, 2, none⟩ = some (.int k z) ∧ w.cell? ⟨g, 3, none⟩ = some (.int k t) ∧ w.frozen? ⟨g, 0, none⟩ = false ∧ w.frozen? ⟨g, 1, none⟩ = false ∧ w.frozen? ⟨g, 2, none⟩ = false ∧ w.frozen? ⟨g, 3, none⟩ = false :=
  ⟨h.cellAt 0 (show 0 < 4 by omega), h.cellAt 1 (show 1 < 4 by omega), h.cellAt 2 (show 2 < 4 by omega), h.cellAt 3 (show 3 < 4 by omega), h.free 0, h.free 1, h.free 2, h.free 3⟩
theorem Row.set4 {k : IntKind} {E : TypeId} {w : World} {g : Nat} {x y z t : Int} (h : Row k E w g [x, y, z, t]) (a b c d : Int) : Row k E ((((w.setCell ⟨g, 0, none⟩ (.int k a)).setCell ⟨g, 1, none⟩ (.int k b)).setCell ⟨g, 2, none⟩ (.int k c)).setCell ⟨g, 3, none⟩ (.int k d)) g [a, b, c, d] := (((h.set 0 a).set 1 b).set 2 c).set 3 d
theorem Row.oth4 {k : IntKind} {E : TypeId} {w : World} {g g' : Nat} {zs : List Int} (h : Row k E w g zs) (hg : g ≠ g') (a b c d : Value) : Row k E ((((w.setCell ⟨g', 0, none⟩ a).setCell ⟨g', 1, none⟩ b).setCell ⟨g', 2, none⟩ c).setCell ⟨g', 3, none⟩ d) g zs :=
  (((h.oth1 hg a).oth1 hg b).oth1 hg c).oth1 hg d
theorem below4 {B : Nat} {w U : World} (hb : Below B w U) (b : Nat) (x y z t : Value) (h : B ≤ b) : Below B w ((((U.setCell ⟨b, 0, none⟩ x).setCell ⟨b, 1, none⟩ y).setCell ⟨b, 2, none⟩ z).setCell ⟨b, 3, none⟩ t) :=
  (((hb.setCell (p := ⟨b, 0, none⟩) h x).setCell (p := ⟨b, 1, none⟩) h y).setCell (p := ⟨b, 2, none⟩) h z).setCell (p := ⟨b, 3, none⟩) h t
theorem kp4 (N : Nat) (X : List Nat) (U : World) (b : Nat) (x y z t : Value) (h : b ∈ X ∨ N ≤ b) : Kp N X U ((((U.setCell ⟨b, 0, none⟩ x).setCell ⟨b, 1, none⟩ y).setCell ⟨b, 2, none⟩ z).setCell ⟨b, 3, none⟩ t) :=
  (Kp.setCell U ⟨b, 0, none⟩ x h).trans ((Kp.setCell _ ⟨b, 1, none⟩ y h).trans ((Kp.setCell _ ⟨b, 2, none⟩ z h).trans (Kp.setCell _ ⟨b, 3, none⟩ t h)))
def sel4 (i : Nat) (x y z t : Int) : Int := if i = 0 then x else if i = 1 then y else if i = 2 then z else t
theorem sel4_b (i : Nat) {x y z t : Int} (p0 : B32 x) (p1 : B32 y) (p2 : B32 z) (p3 : B32 t) : B32 (sel4 i x y z t) := by
  unfold sel4; split
  · exact p0
  · split
    · exact p1
    · split
      · exact p2
      · exact p3
theorem getD4 (i : Nat) (x y z t : Int) (h : i < 4) : [x, y, z, t].getD i 0 = sel4 i x y z t := by
  obtain rfl | rfl | rfl | rfl : i = 0 ∨ i = 1 ∨ i = 2 ∨ i = 3 := by omega
  all_goals rfl

theorem qparts_any (x y z t : Int) (w : World) :
    Calls Tryz.prog 101 #[.agg #[.int .i32 x, .int .i32 y, .int .i32 z, .int .i32 t]] w fun e w' => e = .returned (.agg #[.int .i32 x, .int .i32 y, .int .i32 z, .int .i32 t]) ∧ Below w.heap.size w w' := by
  go_enter Tryz.func101, Tryz.ntmps101
  go_wp2_with fail
  refine bodyPost_ret (v := .agg #[.int .i32 x, .int .i32 y, .int .i32 z, .int .i32 t]) (by simp [results, Tryz.results101, go_sem]) rfl ⟨rfl, ?_⟩
  exact ((Below.refl _ _).alloc (Nat.le_refl _) _).alloc (by simp) _

theorem qmake_any (x y z t : Int) (w : World) :
    Calls Tryz.prog 111 #[.agg #[.int .i32 x, .int .i32 y, .int .i32 z, .int .i32 t]] w fun e w' => e = .returned (.agg #[.int .i32 x, .int .i32 y, .int .i32 z, .int .i32 t]) ∧ Below w.heap.size w w' := by
  go_enter Tryz.func111, Tryz.ntmps111
  go_wp2_with fail
  refine bodyPost_ret (v := .agg #[.int .i32 x, .int .i32 y, .int .i32 z, .int .i32 t]) (by simp [results, Tryz.results111, go_sem]) rfl ⟨rfl, ?_⟩
  exact ((Below.refl _ _).alloc (Nat.le_refl _) _).alloc (by simp) _

theorem qprod_any (a b : Int) (w : World) (h1 : B32 a) (h2 : B32 b) :
    Calls Tryz.prog 102 #[.int .i32 a, .int .i32 b] w fun e w' => e = .returned (.int .i64 (roundS (a * b) 30)) ∧ ∃ k, w' = w.drewN k := by
  obtain ⟨m1, m2⟩ := mul_bd a b h1.1 h1.2 h2.1 h2.2
  have fm : IntKind.i64.wrap (a * b) = a * b := by rw [IntKind.wrap_i64]; omega
  have g1 := h1.1
  have g2 := h1.2
  have g3 := h2.1
  have g4 := h2.2
  obtain ⟨P, hP⟩ : ∃ P, a * b = P := ⟨_, rfl⟩
  rw [hP] at fm m1 m2 ⊢
  go_enter Tryz.func102, Tryz.ntmps102
  go_wp2_with fail
  refine (round_any P 30 _ (by omega) (by omega)).mono ?_
  rintro e w1 ⟨rfl, k, rfl⟩
  go_wp2_with fail
  go_ret
  exact ⟨rfl, k, rfl⟩

theorem qtimes_any (a b : Int) (w : World) (h1 : B32 a) (h2 : B32 b) :
    Calls Tryz.prog 87 #[.int .i32 a, .int .i32 b] w fun e w' => e = .returned (.int .i64 (roundS (a * b) 30)) ∧ w' = w := by
  go_enter Tryz.func87, Tryz.ntmps87
  go_wp2_with fail
  refine (times_any a b 30 _ h1 h2).mono ?_
  rintro e w1 ⟨rfl, rfl⟩
  go_wp2_with fail
  go_ret
  exact ⟨rfl, rfl⟩

def upto4 (a b c d x y z t : Int) (k : Nat) : List Int := [if 0 < k then a else x, if 1 < k then b else y, if 2 < k then c else z, if 3 < k then d else t]
theorem upto4_get (a b c d x y z t : Int) (k : Nat) (h : k < 4) : (upto4 a b c d x y z t k).getD k 0 = sel4 k x y z t := by
  obtain rfl | rfl | rfl | rfl : k = 0 ∨ k = 1 ∨ k = 2 ∨ k = 3 := by omega
  all_goals simp [upto4, sel4]
theorem upto4_set (a b c d x y z t : Int) (k : Nat) (h : k < 4) : (upto4 a b c d x y z t k).set k (sel4 k a b c d) = upto4 a b c d x y z t (k + 1) := by
  obtain rfl | rfl | rfl | rfl : k = 0 ∨ k = 1 ∨ k = 2 ∨ k = 3 := by omega
  all_goals simp [upto4, sel4]
theorem sel4_map (f : Int → Int) (k : Nat) (x y z t : Int) : sel4 k (f x) (f y) (f z) (f t) = f (sel4 k x y z t) := by
  unfold sel4; split
  · rfl
  · split
    · rfl
    · split <;> rfl
/-- Four numbers, cut, and how many were. -/
def cut4 (x y z t : Int) : Value := .tuple #[.agg #[.int .i32 (clampS x), .int .i32 (clampS y), .int .i32 (clampS z), .int .i32 (clampS t)], .int .i64 (cuts (fun i => sel4 i x y z t) 4)]
def B64 (n : Int) : Prop := -9223372036854775808 ≤ n ∧ n ≤ 9223372036854775807
theorem sel4_b64 (i : Nat) {x y z t : Int} (p0 : B64 x) (p1 : B64 y) (p2 : B64 z) (p3 : B64 t) : B64 (sel4 i x y z t) := by
  unfold sel4; split
  · exact p0
  · split
    · exact p1
    · split
      · exact p2
      · exact p3
theorem rows3q (w : World) (T1 T2 T3 : TypeId) (x y z t : Int) :
    ∃ W, ((w.alloc (.cells #[.int .i64 x, .int .i64 y, .int .i64 z, .int .i64 t] T1)).alloc (.cells #[.int .i32 0, .int .i32 0, .int .i32 0, .int .i32 0] T2)).alloc (.cells #[.int .i32 0, .int .i32 0, .int .i32 0, .int .i32 0] T3) = W ∧ Below w.heap.size w W ∧ w.heap.size + 3 ≤ W.heap.size ∧
    Row .i64 T1 W w.heap.size [x, y, z, t] ∧ Row .i32 T2 W (w.heap.size + 1) [0, 0, 0, 0] ∧ Row .i32 T3 W (w.heap.size + 1 + 1) [0, 0, 0, 0] := by
  refine ⟨_, rfl, (((Below.refl _ _).alloc (Nat.le_refl _) _).alloc (by simp) _).alloc (by simp; omega) _, by simp, ?_, ?_, ?_⟩
  · unfold Row; rw [Below.heap_alloc _ _ _ (by simp; omega), Below.heap_alloc _ _ _ (by simp)]; exact heap_new _ _ _ rfl
  · unfold Row; rw [Below.heap_alloc _ _ _ (by simp)]; exact heap_new _ _ _ (by simp)
  · exact heap_new _ _ _ (by simp)

set_option maxRecDepth 100000 in
set_option maxHeartbeats 2000000 in
theorem qcut_any (x y z t : Int) (w : World) (p0 : B64 x) (p1 : B64 y) (p2 : B64 z) (p3 : B64 t) :
    Calls Tryz.prog 103 #[.agg #[.int .i64 x, .int .i64 y, .int .i64 z, .int .i64 t]] w fun e w' => e = .returned (cut4 x y z t) ∧ Below w.heap.size w w' := by
  obtain ⟨W, hW, hB, hN, ra, rb, rc⟩ := rows3q w 136 23 94 x y z t
  replace ra := hid ra
  replace rb := hid rb
  replace rc := hid rc
  replace hB := hid hB
  go_enter Tryz.func103, Tryz.ntmps103
  go_wp2_with fail
  replace hW := hid hW
  go_loopw [5, 9] (fun cu i wr => ∃ (k : Nat), k ≤ 4 ∧ i = .int .i64 k ∧ cu = .int .i64 (cuts (fun i => sel4 i x y z t) k) ∧ Below w.heap.size w wr ∧ Row .i64 136 wr w.heap.size [x, y, z, t] ∧ Row .i32 23 wr (w.heap.size + 1) [0, 0, 0, 0] ∧ Row .i32 94 wr (w.heap.size + 1 + 1) (upto4 (clampS x) (clampS y) (clampS z) (clampS t) 0 0 0 0 k)) (fun _ i _ => 4 - (intOf i).toNat)
  case atStart => exact ⟨0, by omega, rfl, rfl, hB.out, ra.out, rb.out, rc.out⟩
  case round =>
    obtain ⟨k, hk, rfl, rfl, hbl, ra, rb, rc⟩ := hrel
    have hcl := cuts_le (fun i => sel4 i x y z t) k
    by_cases hlt : (k : Int) < 4
    · have hlt2 : k < 4 := by omega
      have ca := ra.cellAt k (show k < 4 by omega)
      rw [getD4 _ _ _ _ _ hlt2] at ca
      have hvs := upto4_set (clampS x) (clampS y) (clampS z) (clampS t) 0 0 0 0 k hlt2
      rw [sel4_map clampS] at hvs
      have hcs : Go.RowKit.Hid (cuts (fun i => sel4 i x y z t) (k + 1) = cuts (fun i => sel4 i x y z t) k + (if clampB (sel4 k x y z t) then 1 else 0)) := hid rfl
      have hb := sel4_b64 k p0 p1 p2 p3
      have hPk := hid (clamp_any (sel4 k x y z t) wr hb.1 hb.2)
      replace ra := hid ra
      replace rb := hid rb
      go_wp2_with fail
      refine hPk.out.mono ?_
      rintro e v ⟨rfl, hst⟩
      rw [clampV_def]
      have ra2 := hid ((ra.out.below hst).oth1 (g' := w.heap.size + 1 + 1) (j := k) (by omega) (.int .i32 (clampS (sel4 k x y z t))))
      have rb2 := hid ((rb.out.below hst).oth1 (g' := w.heap.size + 1 + 1) (j := k) (by omega) (.int .i32 (clampS (sel4 k x y z t))))
      have rc1 := rc.below hst
      have cc := rc1.cellAt k (show k < 4 by omega)
      have cf := rc1.free k
      have rc2 := rc1.set k (clampS (sel4 k x y z t))
      rw [hvs] at rc2
      replace rc2 := hid rc2
      have hbl2 := hid ((bthen hbl hst).setCell (p := ⟨w.heap.size + 1 + 1, k, none⟩) (by show w.heap.size ≤ w.heap.size + 1 + 1; omega) (.int .i32 (clampS (sel4 k x y z t))))
      clear ra rb rc rc1 hst hvs ca hb
      generalize clampS (sel4 k x y z t) = cs at *
      generalize (upto4 (clampS x) (clampS y) (clampS z) (clampS t) 0 0 0 0 k).getD k 0 = old at *
      generalize clampB (sel4 k x y z t) = cb at *
      cases cb
      all_goals
        go_wp2_with fail
        go_roundw
        case rel => exact ⟨k + 1, by omega, by simp, by rw [hcs.out]; simp, hbl2.out, ra2.out, rb2.out, rc2.out⟩
        case measure => simp [intOf]; omega
    · obtain rfl : k = 4 := by omega
      have rc3 : Row .i32 94 wr (w.heap.size + 1 + 1) [clampS x, clampS y, clampS z, clampS t] := rc
      obtain ⟨a0, a1, a2, a3, -, -, -, -⟩ := rc3.four
      have hV : cut4 x y z t = .tuple #[.agg #[.int .i32 (clampS x), .int .i32 (clampS y), .int .i32 (clampS z), .int .i32 (clampS t)], .int .i64 (cuts (fun i => sel4 i x y z t) 4)] := rfl
      replace hV := hid hV
      replace rb := hid rb
      clear ra rc rc3
      generalize clampS x = s0 at *
      generalize clampS y = s1 at *
      generalize clampS z = s2 at *
      generalize clampS t = s3 at *
      generalize cuts (fun i => sel4 i x y z t) 4 = cn at *
      go_wp2_with fail
      refine (qmake_any s0 s1 s2 s3 _).mono ?_
      rintro e v ⟨rfl, hst⟩
      obtain ⟨x0, x1, x2, x3, y0, y1, y2, y3⟩ := (rb.out.below hst).four
      have hB9 := bthen hbl hst
      clear hst hbl a0 a1 a2 a3
      go_wp2_with fail
      refine bodyPost_ret (v := .tuple #[.agg #[.int .i32 s0, .int .i32 s1, .int .i32 s2, .int .i32 s3], .int .i64 cn]) (by simp [results, Tryz.results103, go_sem, x0, x1, x2, x3]) rfl ⟨by rw [hV.out], ?_⟩
      exact below4 hB9 _ _ _ _ _ (by omega)

end Go.Proofs.YtpdpcdifnlellaaGreat
