/- Package vec: Unit. -/
import Derived.Test.YtpdpcdifnlellaaGreatVec8
namespace Go.Proofs.YtpdpcdifnlellaaGreat
open Go.ChangeShapes Go.WideShapes Go.ChangeAt Go.RowKit
set_option linter.unusedVariables false

def upto (a b c x y z : Int) (k : Nat) : List Int := [if 0 < k then a else x, if 1 < k then b else y, if 2 < k then c else z]
theorem upto_get (a b c x y z : Int) (k : Nat) (h : k < 3) : (upto a b c x y z k).getD k 0 = sel k x y z := by
  obtain rfl | rfl | rfl : k = 0 ∨ k = 1 ∨ k = 2 := by omega
  all_goals simp [upto, sel]
theorem upto_set (a b c x y z : Int) (k : Nat) (h : k < 3) : (upto a b c x y z k).set k (sel k a b c) = upto a b c x y z (k + 1) := by
  obtain rfl | rfl | rfl : k = 0 ∨ k = 1 ∨ k = 2 := by omega
  all_goals simp [upto, sel]
theorem sel_map (f : Int → Int) (k : Nat) (x y z : Int) : sel k (f x) (f y) (f z) = f (sel k x y z) := by
  unfold sel; split
  · rfl
  · split <;> rfl
theorem Row.oth1 {k : IntKind} {E : TypeId} {w : World} {g g' j : Nat} {zs : List Int} (h : Row k E w g zs) (hg : g ≠ g') (a : Value) : Row k E (w.setCell ⟨g', j, none⟩ a) g zs := by
  unfold Row at *; rw [Below.heap_setCell _ ⟨g', j, none⟩ _ _ hg]; exact h

set_option maxRecDepth 100000 in
set_option maxHeartbeats 8000000 in
theorem vunit_any (x y z : Int) (w : World) (p0 : B32 x) (p1 : B32 y) (p2 : B32 z) :
    Calls Tryz.prog 18 #[.agg #[.int .i32 x, .int .i32 y, .int .i32 z]] w fun e w' => e = .returned (unitT x y z) ∧ Below w.heap.size w w' := by
  obtain ⟨W, hW, hB, hN, hra, hrb⟩ := rows2 w 25 25 x y z 0 0 0
  obtain ⟨c0, c1, c2, z0, z1, z2⟩ := hra.three
  obtain ⟨x0, x1, x2, y0, y1, y2⟩ := hrb.three
  by_cases hz : x = 0 ∧ y = 0 ∧ z = 0
  · have hV := hid (unit_no hz)
    clear hra hrb
    obtain ⟨rfl, rfl, rfl⟩ := hz
    go_enter Tryz.func18, Tryz.ntmps18
    go_wp2_with fail
    refine bodyPost_ret (v := .tuple #[.agg #[.int .i32 0, .int .i32 0, .int .i32 0], .bool false]) (by simp [results, Tryz.results18, go_sem, x0, x1, x2]) rfl ⟨by rw [hV.out], ?_⟩
    exact below3 hB _ _ _ _ (by omega)
  have hr0 := hid (reach_start hz p0 p1 p2)
  have hU := hid (fun X Y Z h => unit_yes (x := x) (y := y) (z := z) (X := X) (Y := Y) (Z := Z) hz h)
  have hc : (¬ x = 0) ∨ (x = 0 ∧ ¬ y = 0) ∨ (x = 0 ∧ y = 0 ∧ ¬ z = 0) := by omega
  replace hrb := hid hrb
  clear hz p0 p1 p2 hra z0 z1 z2 y0 y1 y2 x0 x1 x2
  rcases hc with h | ⟨rfl, h⟩ | ⟨rfl, rfl, h⟩
  all_goals
    go_enter Tryz.func18, Tryz.ntmps18
    go_wp2_with fail
    refine (parts_any _ _ _ _).mono ?_
    rintro e v1 ⟨rfl, hst⟩
    have hrb2 := hid (hrb.out.below hst)
    have hB2 := bthen hB hst
    have hsz := Nat.le_trans hN (Below.size hst)
    clear hst c0 c1 c2 h hrb hB hN
    go_wp2_with fail
    go_loopw [17] (fun _ wr => ∃ X Y Z : Int, Row .i32 72 wr v1.heap.size [X, Y, Z] ∧ Row .i32 25 wr (w.heap.size + 1) [0, 0, 0] ∧ Reach _ _ _ X Y Z ∧ Below w.heap.size w wr) (fun _ wr => room wr v1.heap.size)
    case atStart => exact ⟨_, _, _, heap_new _ _ _ rfl, hrb2.out.below (aalloc _ _), hr0.out, hB2.alloc hB2.size _⟩
    case round =>
      obtain ⟨X, Y, Z, ha, hb, hre, hbl⟩ := hrel
      obtain ⟨c0, c1, c2, z0, z1, z2⟩ := ha.three
      have hbb := reach_b hre
      have hrs := reach_sum hre
      have hroom := hid (room_of ha)
      obtain ⟨F, hF⟩ : ∃ F, far3 X Y Z = F := ⟨_, rfl⟩
      cases F
      case false =>
        have hn := near3 hF
        have hmore := hid (reach_more hre hF)
        obtain ⟨n1, n2, n3, n4, n5, n6⟩ := hn
        have hgr := hid (great_any X Y Z wr)
        have haH := hid ha
        have hbH := hid hb
        replace hF := hid hF
        clear hre ha hb hbb
        go_wp2_with fail
        refine hgr.out.mono ?_
        rintro e v2 ⟨rfl, hst⟩
        rw [hF.out]
        have ha2 := hid (haH.out.below hst)
        have hb2 := hid (hbH.out.below hst)
        have hbl2 := bthen hbl hst
        clear hst c0 c1 c2 z0 z1 z2 haH hbH hgr
        go_wp2_with fail
        go_loopw [17] (fun i wi => ∃ k : Nat, k ≤ 3 ∧ i = .int .i64 k ∧ Row .i32 72 wi v1.heap.size (upto (X * 2) (Y * 2) (Z * 2) X Y Z k) ∧ Row .i32 25 wi (w.heap.size + 1) [0, 0, 0] ∧ Below w.heap.size w wi) (fun i _ => 3 - (intOf i).toNat)
        case atStart => exact ⟨0, by omega, rfl, ha2.out, hb2.out, hbl2⟩
        case round =>
          obtain ⟨k, hk, rfl, ha3, hb3, hbl3⟩ := hrel
          by_cases hlt : (k : Int) < 3
          · have hlt2 : k < 3 := by omega
            have hcell := ha3.cellAt k (show k < 3 by omega)
            have hfree := ha3.free k
            rw [upto_get _ _ _ _ _ _ _ hlt2] at hcell
            have hset := upto_set (X * 2) (Y * 2) (Z * 2) X Y Z k hlt2
            rw [sel_map (fun n => n * 2) k X Y Z] at hset
            have hsb : -1073741824 < sel k X Y Z ∧ sel k X Y Z < 1073741824 := by unfold sel; split <;> (try split) <;> omega
            obtain ⟨m1, m2⟩ := hsb
            generalize sel k X Y Z = N at *
            have ha4 := ha3.set k (N * 2)
            rw [hset] at ha4
            replace ha4 := hid ha4
            have hb4 := hid (hb3.oth1 (g' := v1.heap.size) (j := k) (by omega) (.int .i32 (N * 2)))
            have hbl4 := hid (hbl3.setCell (p := ⟨v1.heap.size, k, none⟩) (by show w.heap.size ≤ v1.heap.size; omega) (.int .i32 (N * 2)))
            clear ha3 hb3 hset
            go_wp2_with fail
            go_roundw
            case rel => exact ⟨k + 1, by omega, by simp, ha4.out, hb4.out, hbl4.out⟩
            case measure => simp [intOf]; omega
          · obtain rfl : k = 3 := by omega
            have hfin : Row .i32 72 wr v1.heap.size [2 * X, 2 * Y, 2 * Z] := by
              have := ha3
              rw [show upto (X * 2) (Y * 2) (Z * 2) X Y Z 3 = [2 * X, 2 * Y, 2 * Z] from by simp [upto, Int.mul_comm]] at this
              exact this
            replace hfin := hid hfin
            replace hb3 := hid hb3
            clear ha3
            go_wp2_with fail
            go_roundw
            case rel => exact ⟨2 * X, 2 * Y, 2 * Z, hfin.out, hb3.out, hmore.out, hbl3⟩
            case measure => rw [hroom.out, room_of hfin.out]; omega
      case true =>
        have hV := hid (hU.out X Y Z (reach_done hre hF))
        have hLl := lengthS_lt X Y Z
        obtain ⟨L, hL⟩ : ∃ L, lengthS [X, Y, Z] = L := ⟨_, rfl⟩
        have hgr := hid (great_any X Y Z wr)
        have haH := hid ha
        have hbH := hid hb
        replace hF := hid hF
        clear hre ha hb
        go_wp2_with fail
        refine hgr.out.mono ?_
        rintro e v2 ⟨rfl, hst⟩
        rw [hF.out]
        have ha2 := hid (haH.out.below hst)
        have hb2 := hid (hbH.out.below hst)
        have hbl2 := bthen hbl hst
        clear hst c0 c1 c2 z0 z1 z2 haH hbH hgr hbl
        have hwf := hid (wf3 hbb.1 hbb.2.1 hbb.2.2)
        have hsl := hid (ha2.out.sl (show 3 ≤ maxLen by unfold maxLen; omega))
        have u1 := up_bd hbb.1
        have u2 := up_bd hbb.2.1
        have u3 := up_bd hbb.2.2
        have hLen := hid (fun (v : World) (cp : Nat) (hr : Rd .i32 v (some ⟨v1.heap.size, 0, none⟩) [X, Y, Z]) => length_any (some ⟨v1.heap.size, 0, none⟩) cp [X, Y, Z] v (by show 3 ≤ 1000; omega) hr hwf.out)
        rw [hL] at hLen hV hLl
        clear hL
        go_wp2_with fail
        refine (hLen.out _ _ hsl.out.2.2.2.2).mono ?_
        rintro e v3 ⟨rfl, rfl⟩
        go_wp2_with fail
        go_loopw [29] (fun i wi => ∃ k : Nat, k ≤ 3 ∧ i = .int .i64 k ∧ Row .i32 72 wi v1.heap.size (upto (unitN L X) (unitN L Y) (unitN L Z) X Y Z k) ∧ Row .i32 25 wi (w.heap.size + 1) [0, 0, 0] ∧ Below w.heap.size w wi) (fun i _ => 3 - (intOf i).toNat)
        case atStart => exact ⟨0, by omega, rfl, ha2.out, hb2.out, hbl2⟩
        case round =>
          obtain ⟨k, hk, rfl, ha3, hb3, hbl3⟩ := hrel
          by_cases hlt : (k : Int) < 3
          · have hlt2 : k < 3 := by omega
            have hcell := ha3.cellAt k (show k < 3 by omega)
            have hfree := ha3.free k
            rw [upto_get _ _ _ _ _ _ _ hlt2] at hcell
            have hset := upto_set (unitN L X) (unitN L Y) (unitN L Z) X Y Z k hlt2
            rw [sel_map (unitN L) k X Y Z] at hset
            have hNb : B32 (sel k X Y Z) := sel_b k X Y Z hbb.1 hbb.2.1 hbb.2.2
            obtain ⟨m3, m4⟩ := up_bd hNb
            obtain ⟨m1, m2⟩ := hNb
            generalize sel k X Y Z = N at *
            have hov := hid (over_any (1073741824 * N) L wr (by omega) (by omega) (by omega) (by omega))
            have hq : unitN L N = wrap32 (overS (1073741824 * N) L) := rfl
            have ha4 := ha3.set k (unitN L N)
            rw [hset, hq] at ha4
            have hb4 := hb3.oth1 (g' := v1.heap.size) (j := k) (by omega) (.int .i32 (unitN L N))
            have hbl4 := hbl3.setCell (p := ⟨v1.heap.size, k, none⟩) (by show w.heap.size ≤ v1.heap.size; omega) (.int .i32 (unitN L N))
            rw [hq] at hb4 hbl4
            generalize overS (1073741824 * N) L = Q at *
            replace ha4 := hid ha4
            replace hb4 := hid hb4
            replace hbl4 := hid hbl4
            clear ha3 hb3 hset hq
            go_wp2_with fail
            refine hov.out.mono ?_
            rintro e v4 ⟨rfl, m, rfl⟩
            go_wp2_with fail
            go_roundw
            case rel => exact ⟨k + 1, by omega, by simp, ha4.out.drewN m, hb4.out.drewN m, bdrewN hbl4.out m⟩
            case measure => simp [intOf]; omega
          · obtain rfl : k = 3 := by omega
            have ha4 : Row .i32 72 wr v1.heap.size [unitN L X, unitN L Y, unitN L Z] := ha3
            obtain ⟨c0, c1, c2, -, -, -⟩ := ha4.three
            replace hb3 := hid hb3
            clear ha3 ha4
            generalize unitN L X = q1 at *
            generalize unitN L Y = q2 at *
            generalize unitN L Z = q3 at *
            go_wp2_with fail
            refine (vector_any q1 q2 q3 _).mono ?_
            rintro e v4 ⟨rfl, hst⟩
            obtain ⟨x0, x1, x2, y0, y1, y2⟩ := (hb3.out.below hst).three
            have hB9 := bthen hbl3 hst
            clear hst hbl3 c0 c1 c2
            go_wp2_with fail
            refine bodyPost_ret (v := .tuple #[.agg #[.int .i32 q1, .int .i32 q2, .int .i32 q3], .bool true]) (by simp [results, Tryz.results18, go_sem, x0, x1, x2]) rfl ⟨by rw [hV.out], ?_⟩
            exact below3 hB9 _ _ _ _ (by omega)

end Go.Proofs.YtpdpcdifnlellaaGreat
