/- Package flog: finish, Flush, Open, Counts, New. -/
import Derived.Test.YtkpncailoekjpaaFlog
import Derived.Test.YtkpncailoekjpaaBlk7
import Derived.Deep.DeepCutAuto
namespace Go.Proofs.Ytkpncailoekjpaa
open Go.ChangeShapes Go.WideShapes Go.ChangeAt Go.RowKit
set_option linter.unusedVariables false
set_option linter.unusedSimpArgs false

theorem grow0 (w : World) (r : Option Nat) : w.grownBy w r := ⟨rfl, rfl, rfl, Nat.le_refl _, fun _ _ _ => rfl⟩
theorem own_kpE {k1 : IntKind} {E1 E2 : TypeId} {W w' : World} {b1 b2 m n : Nat} {v1 v2 : Value} {z1 : List Int} {xs : List Value} (h : Own k1 E1 W b1 v1 z1) (hO : OwnE E2 W b2 m v2 n xs) (hG : W.grownBy w' v2.ownBlock) (hT : E1 ≠ E2) : Own k1 E1 w' b1 v1 z1 := by
  refine World.ownsRow.kept h hG ?_
  rcases h.2 with ⟨rfl, _⟩ | ⟨g, cap, cur, rfl, _, hgb, _⟩
  · exact .inl rfl
  · exact .inr fun e' => hO.ne hgb hT (by simpa [Value.ownBlock] using e'.symm)
def FnOk (B base B0 ev : Nat) (w : World) (r : List Int × FSt) (e : Ending) (w' : World) : Prop := ∃ ta tc, e = .returned (.slice ta r.1.length tc) ∧ Own .u8 5 w' w.heap.size (.slice ta r.1.length tc) r.1 ∧ LgSt B base w' ev r.2 ∧ Lw B B0 w w'
set_option maxRecDepth 100000 in
set_option maxHeartbeats 8000000 in
theorem finish_any (B base B0 ev : Nat) (s : FSt) (w : World) (hL : LgSt B base w ev s) (hF : FOk s) (hn : s.1 ≠ []) (hb : s.2.2 ≤ 1000000) (h1 : B0 ≤ B) (h2 : B0 ≤ base) (h3 : B0 ≤ w.heap.size) : Calls Try.prog 20 #[.pointer (some ⟨B, 0, none⟩)] w (FnOk B base B0 ev w (flushS s)) := by
  obtain ⟨e1, e2⟩ := flush_some hF hn
  obtain ⟨a, cap, hH, hOE⟩ := hL
  have hfew := fok_few hF
  have hlo := hid hF.2.2
  obtain ⟨l, rc, bk⟩ := s
  dsimp only at e1 hH hOE hb hfew hn hlo
  have hE := hOE.els (entsV_len l) (entsV_m hlo.out)
  have kP := hid (fun U (h : Els U 14 a l.length cap (entsV l)) => bput_any (bk : Int) a l.length cap l U (by omega) rfl h (by omega) hlo.out)
  rw [e1] at kP
  have e3 : (flushS (l, rc, bk)).2 = ([], rc, bk + 1) := by rw [e2]
  obtain ⟨r, hr⟩ : ∃ r, flushS (l, rc, bk) = r := ⟨_, rfl⟩
  rw [hr] at kP e3 ⊢
  obtain ⟨T, s2⟩ := r
  dsimp only at kP e3
  subst e3
  clear hr e1 e2 hn hF
  obtain ⟨n, hn⟩ : ∃ n, l.length = n := ⟨_, rfl⟩
  rw [hn] at hH hOE hE kP hfew
  replace hn := hid hn
  obtain ⟨sz, hsz⟩ : ∃ z, (entS (0, zer12) l).length = z := ⟨_, rfl⟩
  rw [hsz] at hH
  clear hsz
  have hB0 := held_lt hH
  have hw1 := hid (wown_at hH (j := 1) rfl)
  have wb : IntKind.u32.wrap (bk : Int) = (bk : Int) := by rw [IntKind.wrap_u32]; omega
  obtain ⟨bk2, hbk2⟩ : ∃ z, bk + 1 = z := ⟨_, rfl⟩
  rw [hbk2]
  have wk : IntKind.i64.wrap ((bk : Int) + 1) = (bk2 : Int) := by rw [IntKind.wrap_i64]; omega
  replace hbk2 := hid hbk2
  go_enter Try.func20, Try.ntmps20
  go_upto_region 0 with (fail)
  go_upto_region 1 with (fail)
  have bQ := hid (show w.drew.heap[B]? = _ from hH)
  have eQ := hid (show Els w.drew 14 a n cap (entsV l) from hE)
  refine wp_region_R (by kernel_rfl) ?_
  refine wpAnyR_take 0 rfl (by kernel_rfl) (by kernel_rfl) (by kernel_rfl) (fun _ _ _ _ h => h) ⟨_, Or.inl ⟨by rfl, fun w2 hb2 => by (go_simp; try with_reducible rfl)⟩, _, by (go_simp; try rfl), ?_⟩
  refine wpAnyR_take 1 rfl (by kernel_rfl) (by kernel_rfl) (by kernel_rfl) (fun _ _ _ _ h => h) ⟨_, Or.inl ⟨by rfl, fun w2 hb2 => by (go_simp; try with_reducible rfl)⟩, _, by (go_simp; try rfl), ?_⟩
  refine wpAnyR_take 2 rfl (by kernel_rfl) (by kernel_rfl) (by kernel_rfl) (fun _ _ _ _ h => h) ⟨_, Or.inl ⟨by rfl, fun w2 hb2 => by (go_simp; try with_reducible rfl)⟩, _, by (go_simp; try rfl), ?_⟩
  refine wpAnyR_take 3 rfl (by kernel_rfl) (by kernel_rfl) (by kernel_rfl) (fun _ _ _ _ h => h) ⟨_, Or.inl ⟨by rfl, fun w2 hb2 => by (have hr := held_after hb2 bQ.out; have y1 := held_cell hr 4 _ rfl; go_simp; try with_reducible rfl)⟩, _, by (go_simp; try rfl), ?_⟩
  refine wpAnyR_take 4 rfl (by kernel_rfl) (by kernel_rfl) (by kernel_rfl) (fun _ _ _ _ h => h) ⟨_, Or.inl ⟨by rfl, fun w2 hb2 => by (go_simp; try with_reducible rfl)⟩, _, by (go_simp; try rfl), ?_⟩
  refine wpAnyR_take 5 rfl (by kernel_rfl) (by kernel_rfl) (by kernel_rfl) (fun _ _ _ _ h => h) ⟨_, Or.inl ⟨by rfl, fun w2 hb2 => by (go_simp; try with_reducible rfl)⟩, _, by (go_simp; try rfl), ?_⟩
  refine wpAnyR_take 6 rfl (by kernel_rfl) (by kernel_rfl) (by kernel_rfl) (fun _ _ _ _ h => h) ⟨_, Or.inl ⟨by rfl, fun w2 hb2 => by (go_simp; try with_reducible rfl)⟩, _, by (go_simp; try rfl), ?_⟩
  refine wpAnyR_take 7 rfl (by kernel_rfl) (by kernel_rfl) (by kernel_rfl) (fun _ _ _ _ h => h) ⟨_, Or.inl ⟨by rfl, fun w2 hb2 => by (go_simp; try with_reducible rfl)⟩, _, by (go_simp; try rfl), ?_⟩
  refine wpAnyR_take 8 rfl (by kernel_rfl) (by kernel_rfl) (by kernel_rfl) (fun _ _ _ _ h => h) ⟨_, Or.inl ⟨by rfl, fun w2 hb2 => by (have hr := held_after hb2 bQ.out; have y1 := held_cell hr 1 _ rfl; go_simp; try with_reducible rfl)⟩, _, by (go_simp; try rfl), ?_⟩
  refine wpAnyR_take 9 rfl (by kernel_rfl) (by kernel_rfl) (by kernel_rfl) (fun _ _ _ _ h => h) ⟨_, Or.inl ⟨by rfl, fun w2 hb2 => by (go_simp; try with_reducible rfl)⟩, _, by (go_simp; try rfl), ?_⟩
  refine wpAnyR_only 10 rfl (by kernel_rfl) (by rfl) (fun K hK => ?_)
  go_simp
  refine (kP.out _ eQ.out).mono ?_
  rintro e V1 ⟨ta, tc, rfl, hO, hA⟩
  dsimp only at hO ⊢
  go_simp
  refine hK _ _ ⟨hA, ?_⟩
  clear hK
  have hA1 := bthen (Below.refl _ w).drew hA
  have hO1 := hid (show Own .u8 5 V1 w.heap.size (.slice ta T.length tc) T from hO)
  clear hO hA kP eQ bQ
  refine wpAnyR_take 11 rfl (by kernel_rfl) (by kernel_rfl) (by kernel_rfl) (fun _ _ _ _ h => h) ⟨_, Or.inl ⟨by rfl, fun w2 hb2 => by (go_simp; try with_reducible rfl)⟩, _, by (go_simp; try rfl), ?_⟩
  refine wpAnyR_take 12 rfl (by kernel_rfl) (by kernel_rfl) (by kernel_rfl) (fun _ _ _ _ h => h) ⟨_, Or.inl ⟨by rfl, fun w2 hb2 => by (go_simp; try with_reducible rfl)⟩, _, by (go_simp; try rfl), ?_⟩
  refine wpAnyR_take 13 rfl (by kernel_rfl) (by kernel_rfl) (by kernel_rfl) (fun _ _ _ _ h => h) ⟨_, Or.inl ⟨by rfl, fun w2 hb2 => by (go_simp; try with_reducible rfl)⟩, _, by (go_simp; try rfl), ?_⟩
  refine wpAnyR_take 14 rfl (by kernel_rfl) (by kernel_rfl) (by kernel_rfl) (fun _ _ _ _ h => h) ⟨_, Or.inl ⟨by rfl, fun w2 hb2 => by (go_simp; try with_reducible rfl)⟩, _, by (go_simp; try rfl), ?_⟩
  refine wpAnyR_take 15 rfl (by kernel_rfl) (by kernel_rfl) (by kernel_rfl) (fun _ _ _ _ h => h) ⟨_, Or.inl ⟨by rfl, fun w2 hb2 => by (go_simp; try with_reducible rfl)⟩, _, by (go_simp; try rfl), ?_⟩
  refine wpAnyR_done (by kernel_rfl) ?_ _
  have h4 := held_after hA1 hH
  have s1 := hA1.size
  have hB1 := (Below.refl B0 w).trans (hA1.mono h3)
  have hK1 := Owp.after (j := 1) hB0 hA1
  have hw2 := hw1.out
  clear hA1 hH
  have z1 := held_cell h4 1 _ rfl
  have f1 := held_free h4 1
  obtain ⟨S1, hS1, q1, o1⟩ := st1 h4 1 (.slice none 0 0)
  have hK2 := hK1.trans (Owp.set (v := .slice none 0 0) h4 (by simp) (grow0 V1 (wown B 1 V1)) (fun k e => e) (fun k e => by cases e))
  rw [hS1] at hK2
  have z2 := held_cell q1 2 _ rfl
  have f2 := held_free q1 2
  obtain ⟨S2, hS2, q2, o2⟩ := st1 q1 2 (.int .i64 0)
  have hK3 := hK2.trans (Owp.cell (i := 2) (v := .int .i64 0) q1 (by decide) (by simp))
  rw [hS2] at hK3
  have z4 := held_cell q2 4 _ rfl
  have f4 := held_free q2 4
  obtain ⟨S3, hS3, q3, o3⟩ := st1 q2 4 (.int .i64 (bk2 : Int))
  have hK4 := hid (hK3.trans (Owp.cell (i := 4) (v := .int .i64 (bk2 : Int)) q2 (by decide) (by simp)))
  rw [hS3] at hK4
  have hB4 := hid (belowS (belowS (belowS hB1 o1 h1) o2 h1) o3 h1)
  have hO4 := hid (((hO1.out.kept2 h4 (by decide) o1).kept2 q1 (by decide) o2).kept2 q2 (by decide) o3)
  have hL4 := hid (show LgSt B base S3 ev ([], rc, bk2) from ⟨none, 0, q3, OwnE.nil _ _ _ _⟩)
  clear hO1 hK1 hK2 hK3 o1 o2 o3 q3 hB1
  go_wp2_with fail
  go_ret
  exact ⟨ta, tc, rfl, hO4.out, hL4.out, hB4.out, hK4.out⟩
set_option maxRecDepth 100000 in
set_option maxHeartbeats 8000000 in
theorem lflush_any (B base B0 ev : Nat) (s : FSt) (w : World) (hL : LgSt B base w ev s) (hF : FOk s) (he : 0 < ev) (hb : s.2.2 ≤ 1000000) (h1 : B0 ≤ B) (h2 : B0 ≤ base) (h3 : B0 ≤ w.heap.size) : Calls Try.prog 9 #[.pointer (some ⟨B, 0, none⟩)] w (FnOk B base B0 ev w (flushS s)) := by
  have hL2 := hid hL
  obtain ⟨a, cap, hH, hOE⟩ := hL
  have kR := right_good B ev _ _ _ _ w hH (by omega)
  have z1 := held_cell hH 1 _ rfl
  have hlt := hid (held_lt hH)
  clear hH hOE
  by_cases hn : s.1 = []
  case pos =>
    have e2 := flush_none hn
    have q0 : ((s.1.length : Int) == 0) = true := by rw [hn]; rfl
    rw [e2]
    replace e2 := hid e2
    replace hn := hid hn
    go_enter Try.func9, Try.ntmps9
    go_wp2_with fail
    refine kR.mono ?_
    rintro e V ⟨rfl, hv⟩
    obtain rfl : w = V := hv.symm
    clear hv
    go_wp2_with fail
    go_ret
    exact ⟨none, 0, rfl, Own.nil _ _ _ _, hL2.out, Below.refl _ _, Owp.refl _ _ _⟩
  have q0 : ((s.1.length : Int) == 0) = false := by simp; exact hn
  have kF := hid (finish_any B base B0 ev s w hL2.out hF hn hb h1 h2 h3)
  replace hn := hid hn
  go_enter Try.func9, Try.ntmps9
  go_wp2_with fail
  refine kR.mono ?_
  rintro e V ⟨rfl, hv⟩
  obtain rfl : w = V := hv.symm
  clear hv
  go_wp2_with fail
  refine kF.out.mono ?_
  rintro e V2 ⟨ta, tc, rfl, hO, hLs, hW⟩
  replace hO := hid hO
  replace hLs := hid hLs
  replace hW := hid hW
  go_wp2_with fail
  go_ret
  exact ⟨ta, tc, rfl, hO.out, hLs.out, hW.out⟩
set_option maxRecDepth 100000 in
set_option maxHeartbeats 4000000 in
theorem lopen_any (B base ev : Nat) (s : FSt) (w : World) (hL : LgSt B base w ev s) (he : 0 < ev) : Calls Try.prog 14 #[.pointer (some ⟨B, 0, none⟩)] w fun e w' => e = .returned (.int .i64 (s.1.length : Nat)) ∧ w' = w := by
  obtain ⟨a, cap, hH, hOE⟩ := hL
  have kR := right_good B ev _ _ _ _ w hH (by omega)
  have z1 := held_cell hH 1 _ rfl
  clear hH hOE
  go_enter Try.func14, Try.ntmps14
  go_wp2_with fail
  refine kR.mono ?_
  rintro e V ⟨rfl, hv⟩
  obtain rfl : w = V := hv.symm
  clear hv
  go_wp2_with fail
  go_ret
  exact ⟨rfl, rfl⟩
set_option maxRecDepth 100000 in
set_option maxHeartbeats 4000000 in
theorem lcounts_any (B base ev : Nat) (s : FSt) (w : World) (hL : LgSt B base w ev s) (he : 0 < ev) : Calls Try.prog 13 #[.pointer (some ⟨B, 0, none⟩)] w fun e w' => e = .returned (.tuple #[.int .i64 (s.2.1 : Nat), .int .i64 (s.2.2 : Nat)]) ∧ After w w' := by
  obtain ⟨a, cap, hH, hOE⟩ := hL
  have kR := right_good B ev _ _ _ _ w hH (by omega)
  clear hOE
  go_enter Try.func13, Try.ntmps13
  go_wp2_with fail
  refine kR.mono ?_
  rintro e V ⟨rfl, hv⟩
  obtain rfl : w = V := hv.symm
  clear hv
  go_upto_region 3 with (fail)
  have bQ := hid (show w.drew.heap[B]? = _ from hH)
  have hA := hid (show After w w.drew from (Below.refl _ w).drew)
  clear hH
  refine wp_region_R (by kernel_rfl) ?_
  refine wpAnyR_take 0 rfl (by kernel_rfl) (by kernel_rfl) (by kernel_rfl) (fun _ _ _ _ h => h) ⟨_, Or.inl ⟨by rfl, fun w2 hb2 => by (go_simp; try with_reducible rfl)⟩, _, by (go_simp; try rfl), ?_⟩
  refine wpAnyR_take 1 rfl (by kernel_rfl) (by kernel_rfl) (by kernel_rfl) (fun _ _ _ _ h => h) ⟨_, Or.inl ⟨by rfl, fun w2 hb2 => by (go_simp; try with_reducible rfl)⟩, _, by (go_simp; try rfl), ?_⟩
  refine wpAnyR_take 2 rfl (by kernel_rfl) (by kernel_rfl) (by kernel_rfl) (fun _ _ _ _ h => h) ⟨_, Or.inl ⟨by rfl, fun w2 hb2 => by (go_simp; try with_reducible rfl)⟩, _, by (go_simp; try rfl), ?_⟩
  refine wpAnyR_take 3 rfl (by kernel_rfl) (by kernel_rfl) (by kernel_rfl) (fun _ _ _ _ h => h) ⟨_, Or.inl ⟨by rfl, fun w2 hb2 => by (have hr := held_after hb2 bQ.out; have y1 := held_cell hr 3 _ rfl; go_simp; try with_reducible rfl)⟩, _, by (go_simp; try rfl), ?_⟩
  refine wpAnyR_take 4 rfl (by kernel_rfl) (by kernel_rfl) (by kernel_rfl) (fun _ _ _ _ h => h) ⟨_, Or.inl ⟨by rfl, fun w2 hb2 => by (go_simp; try with_reducible rfl)⟩, _, by (go_simp; try rfl), ?_⟩
  refine wpAnyR_take 5 rfl (by kernel_rfl) (by kernel_rfl) (by kernel_rfl) (fun _ _ _ _ h => h) ⟨_, Or.inl ⟨by rfl, fun w2 hb2 => by (go_simp; try with_reducible rfl)⟩, _, by (go_simp; try rfl), ?_⟩
  refine wpAnyR_take 6 rfl (by kernel_rfl) (by kernel_rfl) (by kernel_rfl) (fun _ _ _ _ h => h) ⟨_, Or.inl ⟨by rfl, fun w2 hb2 => by (go_simp; try with_reducible rfl)⟩, _, by (go_simp; try rfl), ?_⟩
  refine wpAnyR_take 7 rfl (by kernel_rfl) (by kernel_rfl) (by kernel_rfl) (fun _ _ _ _ h => h) ⟨_, Or.inl ⟨by rfl, fun w2 hb2 => by (have hr := held_after hb2 bQ.out; have y1 := held_cell hr 4 _ rfl; go_simp; try with_reducible rfl)⟩, _, by (go_simp; try rfl), ?_⟩
  refine wpAnyR_take 8 rfl (by kernel_rfl) (by kernel_rfl) (by kernel_rfl) (fun _ _ _ _ h => h) ⟨_, Or.inl ⟨by rfl, fun w2 hb2 => by (go_simp; try with_reducible rfl)⟩, _, by (go_simp; try rfl), ?_⟩
  refine wpAnyR_take 9 rfl (by kernel_rfl) (by kernel_rfl) (by kernel_rfl) (fun _ _ _ _ h => h) ⟨_, Or.inl ⟨by rfl, fun w2 hb2 => by (go_simp; try with_reducible rfl)⟩, _, by (go_simp; try rfl), ?_⟩
  refine wpAnyR_done (by kernel_rfl) ?_ _
  go_wp2_with fail
  go_ret2
  exact ⟨rfl, hA.out⟩
set_option maxRecDepth 100000 in
set_option maxHeartbeats 4000000 in
theorem lnew_bad (ev : Int) (w : World) (h : ev < 1 ∨ 255 < ev) : Calls Try.prog 8 #[.int .i64 ev] w fun e w' => e = .returned (.pointer none) ∧ w' = w := by
  by_cases h1 : ev < 1
  · go_enter Try.func8, Try.ntmps8
    go_wp2_with fail
    go_ret
    exact ⟨rfl, rfl⟩
  have h2 : 255 < ev := by omega
  go_enter Try.func8, Try.ntmps8
  go_wp2_with fail
  go_ret
  exact ⟨rfl, rfl⟩
set_option maxRecDepth 100000 in
set_option maxHeartbeats 4000000 in
theorem lnew_any (ev : Nat) (w : World) (h1 : 1 ≤ ev) (h2 : ev ≤ 255) : Calls Try.prog 8 #[.int .i64 ev] w fun e w' => ∃ B, e = .returned (.pointer (some ⟨B, 0, none⟩)) ∧ w.heap.size ≤ B ∧ LgSt B w.heap.size w' ev ([], 0, 0) ∧ After w w' := by
  have nw := alloc_new w (.cells #[.int .i64 ev, .slice none 0 0, .int .i64 0, .int .i64 0, .int .i64 0] 59)
  have hA := hid nw.2.1
  have rB := hid nw.2.2
  clear nw
  go_enter Try.func8, Try.ntmps8
  go_wp2_with fail
  go_ret
  exact ⟨w.heap.size, rfl, Nat.le_refl _, ⟨none, 0, rB.out, OwnE.nil _ _ _ _⟩, hA.out⟩

end Go.Proofs.Ytkpncailoekjpaa
