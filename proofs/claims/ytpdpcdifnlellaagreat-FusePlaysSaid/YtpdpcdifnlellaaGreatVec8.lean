/- Package vec and its reference: Unit. -/
import Derived.Test.YtpdpcdifnlellaaGreatVec7
namespace Go.Proofs.YtpdpcdifnlellaaGreat
open Go.ChangeShapes Go.WideShapes Go.ChangeAt Go.RowKit
set_option linter.unusedVariables false

/-- An integer in memory. -/
def cellInt (w : World) (b j : Nat) : Int := match w.cell? ⟨b, j, none⟩ with | some (.int _ n) => n | _ => 0
theorem cellInt_of {w : World} {b j : Nat} {k : IntKind} {n : Int} (h : w.cell? ⟨b, j, none⟩ = some (.int k n)) : cellInt w b j = n := by unfold cellInt; rw [h]
def room (w : World) (b : Nat) : Nat := (12884901888 - ((cellInt w b 0).natAbs + (cellInt w b 1).natAbs + (cellInt w b 2).natAbs : Nat) : Int).toNat
theorem room_of {T : TypeId} {w : World} {b : Nat} {x y z : Int} (h : Row .i32 T w b [x, y, z]) : room w b = (12884901888 - (x.natAbs + y.natAbs + z.natAbs : Nat) : Int).toNat := by
  unfold room
  rw [cellInt_of (h.cellAt 0 (show 0 < 3 by omega)), cellInt_of (h.cellAt 1 (show 1 < 3 by omega)), cellInt_of (h.cellAt 2 (show 2 < 3 by omega))]
  rfl
theorem near3 {x y z : Int} (h : far3 x y z = false) : -1073741824 < x ∧ x < 1073741824 ∧ -1073741824 < y ∧ y < 1073741824 ∧ -1073741824 < z ∧ z < 1073741824 := by
  unfold far3 farP at h
  simp at h
  omega
/-- What a direction's search has come to. -/
def Reach (x y z X Y Z : Int) : Prop := ∃ j : Nat, j ≤ 33 ∧ dbl (33 - j) X Y Z = dbl 33 x y z ∧ 2 ^ j ≤ X.natAbs + Y.natAbs + Z.natAbs ∧ B32 X ∧ B32 Y ∧ B32 Z
theorem reach_start {x y z : Int} (h : ¬ (x = 0 ∧ y = 0 ∧ z = 0)) (p0 : B32 x) (p1 : B32 y) (p2 : B32 z) : Reach x y z x y z := ⟨0, by omega, rfl, by rw [Nat.pow_zero]; omega, p0, p1, p2⟩
theorem reach_more {x y z X Y Z : Int} (h : Reach x y z X Y Z) (hf : far3 X Y Z = false) : Reach x y z (2 * X) (2 * Y) (2 * Z) := by
  obtain ⟨j, h1, h2, h3, h4, h5, h6⟩ := h
  have hn := near3 hf
  have hj : j < 33 := by
    rcases Nat.lt_or_ge j 33 with h | h
    · exact h
    · have : 2 ^ 33 ≤ 2 ^ j := Nat.pow_le_pow_right (by omega) h
      have h33 : (2 : Nat) ^ 33 = 8589934592 := by decide
      omega
  refine ⟨j + 1, by omega, ?_, by rw [Nat.pow_succ]; omega, by unfold B32; omega, by unfold B32; omega, by unfold B32; omega⟩
  rw [← h2, show 33 - j = 33 - (j + 1) + 1 from by omega, dbl_near _ _ _ _ (by rw [hf]; decide)]
theorem reach_done {x y z X Y Z : Int} (h : Reach x y z X Y Z) (hf : far3 X Y Z = true) : dbl 33 x y z = (X, Y, Z) := by
  obtain ⟨j, h1, h2, _⟩ := h
  rw [← h2, dbl_far _ _ _ _ hf]
theorem reach_sum {x y z X Y Z : Int} (h : Reach x y z X Y Z) : 1 ≤ X.natAbs + Y.natAbs + Z.natAbs := by
  obtain ⟨j, h1, h2, h3, _⟩ := h
  have := Nat.two_pow_pos j
  omega
theorem reach_b {x y z X Y Z : Int} (h : Reach x y z X Y Z) : B32 X ∧ B32 Y ∧ B32 Z := by
  obtain ⟨j, h1, h2, h3, h4⟩ := h
  exact h4
theorem unit_no {x y z : Int} (h : x = 0 ∧ y = 0 ∧ z = 0) : unitT x y z = .tuple #[.agg #[.int .i32 0, .int .i32 0, .int .i32 0], .bool false] := if_pos h
theorem unit_yes {x y z X Y Z : Int} (h : ¬ (x = 0 ∧ y = 0 ∧ z = 0)) (hd : dbl 33 x y z = (X, Y, Z)) : unitT x y z = .tuple #[.agg #[.int .i32 (unitN (lengthS [X, Y, Z] : Nat) X), .int .i32 (unitN (lengthS [X, Y, Z] : Nat) Y), .int .i32 (unitN (lengthS [X, Y, Z] : Nat) Z)], .bool true] := by
  unfold unitT
  rw [if_neg h]
  unfold unitV unitL
  rw [hd]
theorem lengthS_lt (x y z : Int) : lengthS [x, y, z] < 4294967296 := by
  unfold lengthS
  exact sqrtS_lt _ (by have := sqs_le [x, y, z] 0 (by omega); omega)
theorem up_bd {X : Int} (h : B32 X) : -2305843009213693952 ≤ 1073741824 * X ∧ 1073741824 * X ≤ 2305843009213693952 := by unfold B32 at h; omega

theorem rows2 (w : World) (T1 T2 : TypeId) (x y z a b c : Int) :
    ∃ W, (w.alloc (.cells #[.int .i32 x, .int .i32 y, .int .i32 z] T1)).alloc (.cells #[.int .i32 a, .int .i32 b, .int .i32 c] T2) = W ∧ Below w.heap.size w W ∧ w.heap.size + 2 ≤ W.heap.size ∧
    Row .i32 T1 W w.heap.size [x, y, z] ∧ Row .i32 T2 W (w.heap.size + 1) [a, b, c] := by
  refine ⟨_, rfl, ((Below.refl _ _).alloc (Nat.le_refl _) _).alloc (by simp) _, by simp, ?_, ?_⟩
  · unfold Row; rw [Below.heap_alloc _ _ _ (by simp)]; exact heap_new _ _ _ rfl
  · exact heap_new _ _ _ (by simp)
theorem Row.three {k : IntKind} {E : TypeId} {w : World} {g : Nat} {x y z : Int} (h : Row k E w g [x, y, z]) : w.cell? ⟨g, 0, none⟩ = some (.int k x) ∧ w.cell? ⟨g, 1, none⟩ = some (.int k y) ∧ w.cell? ⟨g, 2, none⟩ = some (.int k z) ∧ w.frozen? ⟨g, 0, none⟩ = false ∧ w.frozen? ⟨g, 1, none⟩ = false ∧ w.frozen? ⟨g, 2, none⟩ = false :=
  ⟨h.cellAt 0 (show 0 < 3 by omega), h.cellAt 1 (show 1 < 3 by omega), h.cellAt 2 (show 2 < 3 by omega), h.free 0, h.free 1, h.free 2⟩
theorem Row.set3 {k : IntKind} {E : TypeId} {w : World} {g : Nat} {x y z : Int} (h : Row k E w g [x, y, z]) (a b c : Int) : Row k E (((w.setCell ⟨g, 0, none⟩ (.int k a)).setCell ⟨g, 1, none⟩ (.int k b)).setCell ⟨g, 2, none⟩ (.int k c)) g [a, b, c] := ((h.set 0 a).set 1 b).set 2 c
theorem Row.oth3 {k : IntKind} {E : TypeId} {w : World} {g g' : Nat} {zs : List Int} (h : Row k E w g zs) (hg : g ≠ g') (a b c : Value) : Row k E (((w.setCell ⟨g', 0, none⟩ a).setCell ⟨g', 1, none⟩ b).setCell ⟨g', 2, none⟩ c) g zs := by
  unfold Row at *; rw [Below.heap_setCell _ ⟨g', 2, none⟩ _ _ hg, Below.heap_setCell _ ⟨g', 1, none⟩ _ _ hg, Below.heap_setCell _ ⟨g', 0, none⟩ _ _ hg]; exact h

set_option maxRecDepth 100000 in
set_option maxHeartbeats 8000000 in
theorem runit_any (x y z : Int) (w : World) (p0 : B32 x) (p1 : B32 y) (p2 : B32 z) :
    Calls Tryz.prog 25 #[.agg #[.int .i32 x, .int .i32 y, .int .i32 z]] w fun e w' => e = .returned (unitT x y z) ∧ Below w.heap.size w w' := by
  obtain ⟨W, hW, hB, hN, hra, hrb⟩ := rows2 w 25 25 x y z 0 0 0
  obtain ⟨c0, c1, c2, z0, z1, z2⟩ := hra.three
  obtain ⟨x0, x1, x2, y0, y1, y2⟩ := hrb.three
  by_cases hz : x = 0 ∧ y = 0 ∧ z = 0
  · have hV := hid (unit_no hz)
    clear hra hrb
    obtain ⟨rfl, rfl, rfl⟩ := hz
    go_enter Tryz.func25, Tryz.ntmps25
    go_wp2_with fail
    refine bodyPost_ret (v := .tuple #[.agg #[.int .i32 0, .int .i32 0, .int .i32 0], .bool false]) (by simp [results, Tryz.results25, go_sem, x0, x1, x2]) rfl ⟨by rw [hV.out], ?_⟩
    exact below3 hB _ _ _ _ (by omega)
  have hr0 := hid (reach_start hz p0 p1 p2)
  have hU := hid (fun X Y Z h => unit_yes (x := x) (y := y) (z := z) (X := X) (Y := Y) (Z := Z) hz h)
  have hc : (¬ x = 0) ∨ (x = 0 ∧ ¬ y = 0) ∨ (x = 0 ∧ y = 0 ∧ ¬ z = 0) := by omega
  replace hra := hid hra
  replace hrb := hid hrb
  clear hz p0 p1 p2
  rcases hc with h | ⟨rfl, h⟩ | ⟨rfl, rfl, h⟩
  all_goals
    go_enter Tryz.func25, Tryz.ntmps25
    go_wp2_with fail
    clear c0 c1 c2 z0 z1 z2 x0 x1 x2 y0 y1 y2 h
    go_loopw [37] (fun _ wr => ∃ X Y Z : Int, Row .i32 25 wr w.heap.size [X, Y, Z] ∧ Row .i32 25 wr (w.heap.size + 1) [0, 0, 0] ∧ Reach _ _ _ X Y Z ∧ Below w.heap.size w wr) (fun _ wr => room wr w.heap.size)
    case atStart => exact ⟨_, _, _, hra.out, hrb.out, hr0.out, hB⟩
    case round =>
      obtain ⟨X, Y, Z, ha, hb, hre, hbl⟩ := hrel
      obtain ⟨c0, c1, c2, z0, z1, z2⟩ := ha.three
      obtain ⟨x0, x1, x2, y0, y1, y2⟩ := hb.three
      have hrb := reach_b hre
      have hrs := reach_sum hre
      have hroom := hid (room_of ha)
      by_cases hf : far3 X Y Z = true
      · have hV := hid (hU.out X Y Z (reach_done hre hf))
        have hw3 : (farP X = true) ∨ (farP X = false ∧ farP Y = true) ∨ (farP X = false ∧ farP Y = false ∧ farP Z = true) := by
          unfold far3 at hf
          cases h1 : farP X <;> cases h2 : farP Y <;> cases h3 : farP Z <;> simp_all
        have hLl := lengthS_lt X Y Z
        obtain ⟨L, hL⟩ : ∃ L, lengthS [X, Y, Z] = L := ⟨_, rfl⟩
        have hLen := hid (fun (v : World) => rvlength_any X Y Z v hrb.1 hrb.2.1 hrb.2.2)
        rw [hL] at hLen hV hLl
        have u1 := up_bd hrb.1
        have u2 := up_bd hrb.2.1
        have u3 := up_bd hrb.2.2
        have o1 := hid (fun (v : World) => rover_any (1073741824 * X) L v (by omega) (by omega) (by omega) (by omega))
        have o2 := hid (fun (v : World) => rover_any (1073741824 * Y) L v (by omega) (by omega) (by omega) (by omega))
        have o3 := hid (fun (v : World) => rover_any (1073741824 * Z) L v (by omega) (by omega) (by omega) (by omega))
        unfold unitN at hV
        obtain ⟨v1, v2⟩ := hrb.1
        obtain ⟨v3, v4⟩ := hrb.2.1
        obtain ⟨v5, v6⟩ := hrb.2.2
        clear hre hf ha hb hL hrb hU
        generalize overS (1073741824 * X) L = q1 at *
        generalize overS (1073741824 * Y) L = q2 at *
        generalize overS (1073741824 * Z) L = q3 at *
        rcases hw3 with e1 | ⟨e1, e2⟩ | ⟨e1, e2, e3⟩
        case' inl =>
          go_wp2_with fail
          refine (rfar_one X _).mono ?_
          rintro e v ⟨rfl, rfl⟩
          rw [e1]
          clear e1
          go_wp2_with fail
        case' inr.inl =>
          go_wp2_with fail
          refine (rfar_one X _).mono ?_
          rintro e v ⟨rfl, rfl⟩
          rw [e1]
          go_wp2_with fail
          refine (rfar_one Y _).mono ?_
          rintro e v ⟨rfl, rfl⟩
          rw [e2]
          clear e1 e2
          go_wp2_with fail
        case' inr.inr =>
          go_wp2_with fail
          refine (rfar_one X _).mono ?_
          rintro e v ⟨rfl, rfl⟩
          rw [e1]
          go_wp2_with fail
          refine (rfar_one Y _).mono ?_
          rintro e v ⟨rfl, rfl⟩
          rw [e2]
          go_wp2_with fail
          refine (rfar_one Z _).mono ?_
          rintro e v ⟨rfl, rfl⟩
          rw [e3]
          clear e1 e2 e3
          go_wp2_with fail
        all_goals
          refine (hLen.out _).mono ?_
          rintro e v1 ⟨rfl, hst⟩
          replace y0 := After.frozenB hst x0 y0
          replace y1 := After.frozenB hst x1 y1
          replace y2 := After.frozenB hst x2 y2
          replace x0 := After.cellB hst x0
          replace x1 := After.cellB hst x1
          replace x2 := After.cellB hst x2
          replace c0 := After.cellB hst c0
          replace c1 := After.cellB hst c1
          replace c2 := After.cellB hst c2
          have hB9 := bthen hbl hst
          clear hst hbl z0 z1 z2 hroom
          go_wp2_with fail
          refine (o1.out _).mono ?_
          rintro e v2 ⟨rfl, rfl⟩
          go_wp2_with fail
          refine (o2.out _).mono ?_
          rintro e v2 ⟨rfl, rfl⟩
          go_wp2_with fail
          refine (o3.out _).mono ?_
          rintro e v2 ⟨rfl, rfl⟩
          go_wp2_with fail
          refine bodyPost_ret (v := .tuple #[.agg #[.int .i32 (wrap32 q1), .int .i32 (wrap32 q2), .int .i32 (wrap32 q3)], .bool true]) (by simp [results, Tryz.results25, go_sem, x0, x1, x2]) rfl ⟨by rw [hV.out], ?_⟩
          exact below3 hB9 _ _ _ _ (by omega)
      · have hf0 : far3 X Y Z = false := by simpa using hf
        have hn := near3 hf0
        have hmore := hid (reach_more hre hf0)
        have e1 := farP_no (n := X) (by omega) (by omega)
        have e2 := farP_no (n := Y) (by omega) (by omega)
        have e3 := farP_no (n := Z) (by omega) (by omega)
        have ha2 := hid (ha.set3 (2 * X) (2 * Y) (2 * Z))
        have hb2 := hid (hb.oth3 (g' := w.heap.size) (by omega) (.int .i32 (2 * X)) (.int .i32 (2 * Y)) (.int .i32 (2 * Z)))
        have hbl2 := hid (below3 hbl w.heap.size (.int .i32 (2 * X)) (.int .i32 (2 * Y)) (.int .i32 (2 * Z)) (Nat.le_refl _))
        clear hre hf hf0 ha hb
        obtain ⟨n1, n2, n3, n4, n5, n6⟩ := hn
        go_wp2_with fail
        refine (rfar_one X _).mono ?_
        rintro e v ⟨rfl, rfl⟩
        rw [e1]
        go_wp2_with fail
        refine (rfar_one Y _).mono ?_
        rintro e v ⟨rfl, rfl⟩
        rw [e2]
        go_wp2_with fail
        refine (rfar_one Z _).mono ?_
        rintro e v ⟨rfl, rfl⟩
        rw [e3]
        go_wp2_with fail
        go_roundw
        case rel => exact ⟨2 * X, 2 * Y, 2 * Z, ha2.out, hb2.out, hmore.out, hbl2.out⟩
        case measure => rw [hroom.out, room_of ha2.out]; omega

end Go.Proofs.YtpdpcdifnlellaaGreat
