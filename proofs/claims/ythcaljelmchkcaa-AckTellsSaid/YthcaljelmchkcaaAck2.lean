/- Package ack: fields, Put, Take. -/
import Derived.Test.YthcaljelmchkcaaKS4
import Derived.Test.YthcaljelmchkcaaKA
import Derived.Test.YthcaljelmchkcaaKB
import Derived.Laws.OwnMore
import Derived.Deep.DeepCutAuto
namespace Go.Proofs.Ythcaljelmchkcaa
open Go.ChangeShapes Go.WideShapes Go.ChangeAt Go.RowKit
set_option linter.unusedVariables false
set_option linter.unusedSimpArgs false

def AL : List Fd := [⟨1, false, 0, 255⟩, ⟨1, false, 0, 255⟩]
theorem row_lit (k : IntKind) (E : TypeId) (w : World) (zs : List Int) (c : Array Value) (n p : Nat) (hc : c = (zs.map (Value.int k)).toArray) (hn : zs.length = n) (hm : n ≤ maxLen) (hp : p = w.heap.size) : Sl k (w.alloc (.cells c E)) (some ⟨p, 0, none⟩) n n zs := by
  subst hc hn hp
  exact Row.sl (show Row k E (w.alloc (.cells (zs.map (Value.int k)).toArray E)) w.heap.size zs from (alloc_new w _).2.2) hm
theorem list2 {P : List Int} (h : P.length = 2) : ∃ x0 x1, P = [x0, x1] := by
  match P, h with
  | [a, b], _ => exact ⟨a, b, rfl⟩
def ackV (y : Bool) (P : List Int) : Value := .agg #[.bool (!P.isEmpty && y), .int .i64 (P.getD 0 0), .int .i64 (P.getD 1 0)]
set_option maxRecDepth 100000 in
set_option maxHeartbeats 2000000 in
theorem fieldsA_any (w : World) : Calls Try.prog 23 #[] w (FdOk w AL) := by
  have e1 : uV 1 255 = .agg #[.int .i64 1, .bool false, .int .i64 0, .int .i64 255] := rfl
  replace e1 := hid e1
  go_enter Try.func23, Try.ntmps23
  go_wp2_with fail
  refine (u_any 1 255 _).mono ?_
  rintro e w1 ⟨rfl, hA1⟩
  replace hA1 := hid hA1
  rw [e1.out]
  go_wp2_with fail
  refine (u_any 1 255 _).mono ?_
  rintro e w2 ⟨rfl, hA2⟩
  have hB := hid (bthen hA1.out hA2)
  clear hA1 hA2
  rw [e1.out]
  have hF := hid (flds_block (l := AL) (alloc_new w2 (.cells #[.int .i64 1, .bool false, .int .i64 0, .int .i64 255, .int .i64 1, .bool false, .int .i64 0, .int .i64 255] 70)).2.2 rfl (by decide))
  have hB9 := hid (balloc hB.out (Nat.le_refl _) (.cells #[.int .i64 1, .bool false, .int .i64 0, .int .i64 255, .int .i64 1, .bool false, .int .i64 0, .int .i64 255] 70))
  clear hB
  go_wp2_with fail
  go_ret
  exact ⟨_, 2, rfl, hF.out, hB9.out⟩
set_option maxRecDepth 100000 in
set_option maxHeartbeats 2000000 in
theorem rfieldsA_any (w : World) : Calls Try.prog 25 #[] w (FdOk w AL) := by
  have e1 : uV 1 255 = .agg #[.int .i64 1, .bool false, .int .i64 0, .int .i64 255] := rfl
  replace e1 := hid e1
  go_enter Try.func25, Try.ntmps25
  go_wp2_with fail
  have hB := hid (After.refl w)
  have hF := hid (flds_block (l := AL) (alloc_new w (.cells #[.int .i64 1, .bool false, .int .i64 0, .int .i64 255, .int .i64 1, .bool false, .int .i64 0, .int .i64 255] 70)).2.2 rfl (by decide))
  have hB9 := hid (balloc hB.out (Nat.le_refl _) (.cells #[.int .i64 1, .bool false, .int .i64 0, .int .i64 255, .int .i64 1, .bool false, .int .i64 0, .int .i64 255] 70))
  clear hB
  go_wp2_with fail
  go_ret
  exact ⟨_, 2, rfl, hF.out, hB9.out⟩
set_option maxRecDepth 100000 in
set_option maxHeartbeats 4000000 in
theorem putA_any (b : Bool) (c i : Int) (hb : ∀ x ∈ [c, i], -9223372036854775808 ≤ x ∧ x ≤ 9223372036854775807) (w : World) : Calls Try.prog 8 #[.agg #[.bool b, .int .i64 c, .int .i64 i]] w (BsOk w (putL AL [c, i])) := by
  obtain ⟨r, hr⟩ : ∃ r, putL AL [c, i] = r := ⟨_, rfl⟩
  rw [hr]
  replace hr := hid hr
  replace hb := hid hb
  go_enter Try.func8, Try.ntmps8
  go_upto_region 0 with (fail)
  apply wp_region_seg0 (w := w) (S := [.al 1000, .q [], .q []]) (E := [.al ((fun p => .pointer (some ⟨p, 0, none⟩)), _) 1000, .q0 _, .q0 _]) rfl (by kernel_rfl) rfl rfl
  intro th hge hne
  refine Seg.step _ rfl ⟨by rfl, fun U hU => ?_⟩ ?_
  · go_simp; exact vp_alloc rfl rfl rfl
  refine ⟨_, by (simp only [Ent.val]; go_simp <;> exact rfl), ?_⟩
  refine Seg.step _ rfl (Or.inl ⟨by rfl, fun U hU => vp_quiet (by (go_simp <;> exact rfl))⟩) ⟨_, by (simp only [Ent.val]; go_simp <;> exact rfl), ?_⟩
  refine Seg.step _ rfl (Or.inl ⟨by rfl, fun U hU => vp_quiet (by (go_simp <;> exact rfl))⟩) ⟨_, by (simp only [Ent.val]; go_simp <;> exact rfl), ?_⟩
  refine Seg.stop (fun U1 hU hk => ?_)
  have nb0 := hge 0 _ _ rfl
  have rb0 := (hk 0 _ _ rfl trivial).1.2 (by simp)
  clear hk hge hne
  generalize th (0 + 0) = p0_0 at *
  dsimp only at rb0
  have r_p0_0 := rb0
  clear rb0
  have n_p0_0 := nb0
  clear nb0
  have sz1 := hU.size
  have hB : Below w.heap.size w U1 := hU
  clear hU
  go_upto_region 1 with (fail)
  have hB0 := hid hB.drew
  have hBs := hB.size
  clear hB
  refine wp_region_T none 10 (by kernel_rfl) ?_
  refine wpAnyT_take 1 rfl (by kernel_rfl) (by kernel_rfl) (by kernel_rfl) (by kernel_rfl) (fun _ _ _ _ h => h) ⟨_, Or.inl ⟨by rfl, fun w2 hb2 => by (go_simp; try with_reducible rfl)⟩, _, by (go_simp; try rfl), ?_⟩
  refine wpAnyT_take 2 rfl (by kernel_rfl) (by kernel_rfl) (by kernel_rfl) (by kernel_rfl) (fun _ _ _ _ h => h) ⟨_, Or.inl ⟨by rfl, fun w2 hb2 => by (have hx := held_cell (hb2.held (show U1.drew.heap[_]? = _ from r_p0_0) (by simp)) 1 _ rfl; go_simp; try with_reducible rfl)⟩, _, by (go_simp; try rfl), ?_⟩
  refine wpAnyT_take 3 rfl (by kernel_rfl) (by kernel_rfl) (by kernel_rfl) (by kernel_rfl) (fun _ _ _ _ h => h) ⟨_, Or.inl ⟨by rfl, fun w2 hb2 => by (go_simp; try with_reducible rfl)⟩, _, by (go_simp; try rfl), ?_⟩
  refine wpAnyT_take 4 rfl (by kernel_rfl) (by kernel_rfl) (by kernel_rfl) (by kernel_rfl) (fun _ _ _ _ h => h) ⟨_, Or.inl ⟨by rfl, fun w2 hb2 => by (have hx := held_cell (hb2.held (show U1.drew.heap[_]? = _ from r_p0_0) (by simp)) 2 _ rfl; go_simp; try with_reducible rfl)⟩, _, by (go_simp; try rfl), ?_⟩
  refine wpAnyT_pair 0 5 rfl rfl (by kernel_rfl) (by rfl) (by rfl) (fun K hK => ?_) (fun K hK => ?_)
  · go_simp
    refine (fieldsA_any _).mono ?_
    rintro e V1 ⟨fa, fc, rfl, hF, hA1⟩
    have hB1 := hid (hB0.out.trans (hA1.mono (show w.heap.size ≤ U1.drew.heap.size from hBs)))
    have hs1 := hB1.out.size
    replace hF := hid hF
    go_simp
    refine hK _ _ ⟨fun _ => rx_after hA1, ?_⟩
    clear hK
    refine wpAnyT_only 5 rfl (by kernel_rfl) (by rfl) (fun K hK => ?_)
    go_simp
    have hS := hid (row_lit .i64 2 V1 [c, i] _ 2 V1.heap.size rfl rfl (by unfold maxLen; omega) rfl)
    have hA2 := (alloc_new V1 (.cells #[.int .i64 c, .int .i64 i] 2)).2.1
    replace hB1 := hid (hB1.out.trans (hA2.mono hs1))
    replace hF := hid (hF.out.below hA2)
    refine hK _ _ ⟨fun _ => RX.alloc _ _ _, ?_⟩
    clear hK
    refine wpAnyT_only 6 rfl (by kernel_rfl) (by rfl) (fun K hK => ?_)
    go_simp
    refine (sput_any fa 2 fc (fN AL) (fS AL) (fL AL) (fH AL) (some ⟨_, 0, none⟩) 2 2 [c, i] _ hF.out hS.out hb.out (by omega)).mono ?_
    rintro e V2 ⟨ra, rc, rfl, hO, hA2⟩
    have hs9 := hB1.out.size
    have hB9 := hid (hB1.out.trans (hA2.mono hs9))
    change Own _ _ _ _ (.slice ra (putL AL [c, i]).1.length rc) (putL AL [c, i]).1 at hO
    rw [hr.out] at hO
    have hO9 := hid (hO.base hs9)
    go_simp
    refine hK _ _ ⟨fun _ => rx_after hA2, ?_⟩
    clear hK
    refine wpAnyT_take 7 rfl (by kernel_rfl) (by kernel_rfl) (by kernel_rfl) (by kernel_rfl) (fun _ _ _ _ h => h) ⟨_, Or.inl ⟨by rfl, fun w2 hb2 => by (go_simp; try with_reducible rfl)⟩, _, by (go_simp; try rfl), ?_⟩
    refine wpAnyT_take 8 rfl (by kernel_rfl) (by kernel_rfl) (by kernel_rfl) (by kernel_rfl) (fun _ _ _ _ h => h) ⟨_, Or.inl ⟨by rfl, fun w2 hb2 => by (go_simp; try with_reducible rfl)⟩, _, by (go_simp; try rfl), ?_⟩
    refine wpAnyT_take 9 rfl (by kernel_rfl) (by kernel_rfl) (by kernel_rfl) (by kernel_rfl) (fun _ _ _ _ h => h) ⟨_, Or.inl ⟨by rfl, fun w2 hb2 => by (go_simp; try with_reducible rfl)⟩, _, by (go_simp; try rfl), ?_⟩
    refine wpAnyT_only 10 rfl (by kernel_rfl) (by rfl) (fun K hK => ?_)
    go_simp
    refine hK _ _ ⟨fun h => (h rfl).elim, ?_⟩
    clear hK
    refine wpAnyT_done (by kernel_rfl) ?_ _
    go_wp2_with fail
    go_ret2
    exact ⟨ra, rc, by rw [← hr.out]; rfl, hO9.out, hB9.out⟩
  · go_simp
    have hS := hid (row_lit .i64 2 U1.drew [c, i] _ 2 U1.heap.size rfl rfl (by unfold maxLen; omega) rfl)
    have hB1 := hid (hB0.out.alloc (show w.heap.size ≤ U1.drew.heap.size from hBs) (.cells #[.int .i64 c, .int .i64 i] 2))
    refine hK _ _ ⟨fun _ => RX.alloc _ _ _, ?_⟩
    clear hK
    refine wpAnyT_only 0 rfl (by kernel_rfl) (by rfl) (fun K hK => ?_)
    go_simp
    refine (fieldsA_any _).mono ?_
    rintro e V1 ⟨fa, fc, rfl, hF, hA1⟩
    have hs1 := hB1.out.size
    replace hB1 := hid (hB1.out.trans (hA1.mono hs1))
    replace hS := hid (hS.out.below hA1)
    replace hF := hid hF
    go_simp
    refine hK _ _ ⟨fun _ => rx_after hA1, ?_⟩
    clear hK
    refine wpAnyT_only 6 rfl (by kernel_rfl) (by rfl) (fun K hK => ?_)
    go_simp
    refine (sput_any fa 2 fc (fN AL) (fS AL) (fL AL) (fH AL) (some ⟨_, 0, none⟩) 2 2 [c, i] _ hF.out hS.out hb.out (by omega)).mono ?_
    rintro e V2 ⟨ra, rc, rfl, hO, hA2⟩
    have hs9 := hB1.out.size
    have hB9 := hid (hB1.out.trans (hA2.mono hs9))
    change Own _ _ _ _ (.slice ra (putL AL [c, i]).1.length rc) (putL AL [c, i]).1 at hO
    rw [hr.out] at hO
    have hO9 := hid (hO.base hs9)
    go_simp
    refine hK _ _ ⟨fun _ => rx_after hA2, ?_⟩
    clear hK
    refine wpAnyT_take 7 rfl (by kernel_rfl) (by kernel_rfl) (by kernel_rfl) (by kernel_rfl) (fun _ _ _ _ h => h) ⟨_, Or.inl ⟨by rfl, fun w2 hb2 => by (go_simp; try with_reducible rfl)⟩, _, by (go_simp; try rfl), ?_⟩
    refine wpAnyT_take 8 rfl (by kernel_rfl) (by kernel_rfl) (by kernel_rfl) (by kernel_rfl) (fun _ _ _ _ h => h) ⟨_, Or.inl ⟨by rfl, fun w2 hb2 => by (go_simp; try with_reducible rfl)⟩, _, by (go_simp; try rfl), ?_⟩
    refine wpAnyT_take 9 rfl (by kernel_rfl) (by kernel_rfl) (by kernel_rfl) (by kernel_rfl) (fun _ _ _ _ h => h) ⟨_, Or.inl ⟨by rfl, fun w2 hb2 => by (go_simp; try with_reducible rfl)⟩, _, by (go_simp; try rfl), ?_⟩
    refine wpAnyT_only 10 rfl (by kernel_rfl) (by rfl) (fun K hK => ?_)
    go_simp
    refine hK _ _ ⟨fun h => (h rfl).elim, ?_⟩
    clear hK
    refine wpAnyT_done (by kernel_rfl) ?_ _
    go_wp2_with fail
    go_ret2
    exact ⟨ra, rc, by rw [← hr.out]; rfl, hO9.out, hB9.out⟩
set_option maxRecDepth 100000 in
set_option maxHeartbeats 4000000 in
theorem rputA_any (b : Bool) (c i : Int) (hb : ∀ x ∈ [c, i], -9223372036854775808 ≤ x ∧ x ≤ 9223372036854775807) (w : World) : Calls Try.prog 9 #[.agg #[.bool b, .int .i64 c, .int .i64 i]] w (BsOk w (putL AL [c, i])) := by
  obtain ⟨r, hr⟩ : ∃ r, putL AL [c, i] = r := ⟨_, rfl⟩
  rw [hr]
  replace hr := hid hr
  replace hb := hid hb
  go_enter Try.func9, Try.ntmps9
  go_upto_region 0 with (fail)
  apply wp_region_seg0 (w := w) (S := [.al 1000, .q [], .q []]) (E := [.al ((fun p => .pointer (some ⟨p, 0, none⟩)), _) 1000, .q0 _, .q0 _]) rfl (by kernel_rfl) rfl rfl
  intro th hge hne
  refine Seg.step _ rfl ⟨by rfl, fun U hU => ?_⟩ ?_
  · go_simp; exact vp_alloc rfl rfl rfl
  refine ⟨_, by (simp only [Ent.val]; go_simp <;> exact rfl), ?_⟩
  refine Seg.step _ rfl (Or.inl ⟨by rfl, fun U hU => vp_quiet (by (go_simp <;> exact rfl))⟩) ⟨_, by (simp only [Ent.val]; go_simp <;> exact rfl), ?_⟩
  refine Seg.step _ rfl (Or.inl ⟨by rfl, fun U hU => vp_quiet (by (go_simp <;> exact rfl))⟩) ⟨_, by (simp only [Ent.val]; go_simp <;> exact rfl), ?_⟩
  refine Seg.stop (fun U1 hU hk => ?_)
  have nb0 := hge 0 _ _ rfl
  have rb0 := (hk 0 _ _ rfl trivial).1.2 (by simp)
  clear hk hge hne
  generalize th (0 + 0) = p0_0 at *
  dsimp only at rb0
  have r_p0_0 := rb0
  clear rb0
  have n_p0_0 := nb0
  clear nb0
  have sz1 := hU.size
  have hB : Below w.heap.size w U1 := hU
  clear hU
  go_upto_region 1 with (fail)
  have hB0 := hid hB.drew
  have hBs := hB.size
  clear hB
  refine wp_region_T none 11 (by kernel_rfl) ?_
  refine wpAnyT_take 1 rfl (by kernel_rfl) (by kernel_rfl) (by kernel_rfl) (by kernel_rfl) (fun _ _ _ _ h => h) ⟨_, Or.inl ⟨by rfl, fun w2 hb2 => by (go_simp; try with_reducible rfl)⟩, _, by (go_simp; try rfl), ?_⟩
  refine wpAnyT_take 2 rfl (by kernel_rfl) (by kernel_rfl) (by kernel_rfl) (by kernel_rfl) (fun _ _ _ _ h => h) ⟨_, Or.inl ⟨by rfl, fun w2 hb2 => by (have hx := held_cell (hb2.held (show U1.drew.heap[_]? = _ from r_p0_0) (by simp)) 1 _ rfl; go_simp; try with_reducible rfl)⟩, _, by (go_simp; try rfl), ?_⟩
  refine wpAnyT_take 3 rfl (by kernel_rfl) (by kernel_rfl) (by kernel_rfl) (by kernel_rfl) (fun _ _ _ _ h => h) ⟨_, Or.inl ⟨by rfl, fun w2 hb2 => by (go_simp; try with_reducible rfl)⟩, _, by (go_simp; try rfl), ?_⟩
  refine wpAnyT_take 4 rfl (by kernel_rfl) (by kernel_rfl) (by kernel_rfl) (by kernel_rfl) (fun _ _ _ _ h => h) ⟨_, Or.inl ⟨by rfl, fun w2 hb2 => by (have hx := held_cell (hb2.held (show U1.drew.heap[_]? = _ from r_p0_0) (by simp)) 2 _ rfl; go_simp; try with_reducible rfl)⟩, _, by (go_simp; try rfl), ?_⟩
  refine wpAnyT_pair 0 5 rfl rfl (by kernel_rfl) (by rfl) (by rfl) (fun K hK => ?_) (fun K hK => ?_)
  · go_simp
    refine (rfieldsA_any _).mono ?_
    rintro e V1 ⟨fa, fc, rfl, hF, hA1⟩
    have hB1 := hid (hB0.out.trans (hA1.mono (show w.heap.size ≤ U1.drew.heap.size from hBs)))
    have hs1 := hB1.out.size
    replace hF := hid hF
    go_simp
    refine hK _ _ ⟨fun _ => rx_after hA1, ?_⟩
    clear hK
    refine wpAnyT_only 5 rfl (by kernel_rfl) (by rfl) (fun K hK => ?_)
    go_simp
    have hS := hid (row_lit .i64 2 V1 [c, i] _ 2 V1.heap.size rfl rfl (by unfold maxLen; omega) rfl)
    have hA2 := (alloc_new V1 (.cells #[.int .i64 c, .int .i64 i] 2)).2.1
    replace hB1 := hid (hB1.out.trans (hA2.mono hs1))
    replace hF := hid (hF.out.below hA2)
    refine hK _ _ ⟨fun _ => RX.alloc _ _ _, ?_⟩
    clear hK
    refine wpAnyT_only 6 rfl (by kernel_rfl) (by rfl) (fun K hK => ?_)
    go_simp
    refine (rsput_any fa 2 fc (fN AL) (fS AL) (fL AL) (fH AL) (some ⟨_, 0, none⟩) 2 2 [c, i] _ hF.out hS.out hb.out (by omega)).mono ?_
    rintro e V2 ⟨ra, rc, rfl, hO, hA2⟩
    have hs9 := hB1.out.size
    have hB9 := hid (hB1.out.trans (hA2.mono hs9))
    change Own _ _ _ _ (.slice ra (putL AL [c, i]).1.length rc) (putL AL [c, i]).1 at hO
    rw [hr.out] at hO
    have hO9 := hid (hO.base hs9)
    go_simp
    refine hK _ _ ⟨fun _ => rx_after hA2, ?_⟩
    clear hK
    refine wpAnyT_take 7 rfl (by kernel_rfl) (by kernel_rfl) (by kernel_rfl) (by kernel_rfl) (fun _ _ _ _ h => h) ⟨_, Or.inl ⟨by rfl, fun w2 hb2 => by (go_simp; try with_reducible rfl)⟩, _, by (go_simp; try rfl), ?_⟩
    refine wpAnyT_take 8 rfl (by kernel_rfl) (by kernel_rfl) (by kernel_rfl) (by kernel_rfl) (fun _ _ _ _ h => h) ⟨_, Or.inl ⟨by rfl, fun w2 hb2 => by (go_simp; try with_reducible rfl)⟩, _, by (go_simp; try rfl), ?_⟩
    refine wpAnyT_take 9 rfl (by kernel_rfl) (by kernel_rfl) (by kernel_rfl) (by kernel_rfl) (fun _ _ _ _ h => h) ⟨_, Or.inl ⟨by rfl, fun w2 hb2 => by (go_simp; try with_reducible rfl)⟩, _, by (go_simp; try rfl), ?_⟩
    refine wpAnyT_take 10 rfl (by kernel_rfl) (by kernel_rfl) (by kernel_rfl) (by kernel_rfl) (fun _ _ _ _ h => h) ⟨_, Or.inl ⟨by rfl, fun w2 hb2 => by (go_simp; try with_reducible rfl)⟩, _, by (go_simp; try rfl), ?_⟩
    refine wpAnyT_only 11 rfl (by kernel_rfl) (by rfl) (fun K hK => ?_)
    go_simp
    refine hK _ _ ⟨fun h => (h rfl).elim, ?_⟩
    clear hK
    refine wpAnyT_done (by kernel_rfl) ?_ _
    go_wp2_with fail
    go_ret2
    exact ⟨ra, rc, by rw [← hr.out]; rfl, hO9.out, hB9.out⟩
  · go_simp
    have hS := hid (row_lit .i64 2 U1.drew [c, i] _ 2 U1.heap.size rfl rfl (by unfold maxLen; omega) rfl)
    have hB1 := hid (hB0.out.alloc (show w.heap.size ≤ U1.drew.heap.size from hBs) (.cells #[.int .i64 c, .int .i64 i] 2))
    refine hK _ _ ⟨fun _ => RX.alloc _ _ _, ?_⟩
    clear hK
    refine wpAnyT_only 0 rfl (by kernel_rfl) (by rfl) (fun K hK => ?_)
    go_simp
    refine (rfieldsA_any _).mono ?_
    rintro e V1 ⟨fa, fc, rfl, hF, hA1⟩
    have hs1 := hB1.out.size
    replace hB1 := hid (hB1.out.trans (hA1.mono hs1))
    replace hS := hid (hS.out.below hA1)
    replace hF := hid hF
    go_simp
    refine hK _ _ ⟨fun _ => rx_after hA1, ?_⟩
    clear hK
    refine wpAnyT_only 6 rfl (by kernel_rfl) (by rfl) (fun K hK => ?_)
    go_simp
    refine (rsput_any fa 2 fc (fN AL) (fS AL) (fL AL) (fH AL) (some ⟨_, 0, none⟩) 2 2 [c, i] _ hF.out hS.out hb.out (by omega)).mono ?_
    rintro e V2 ⟨ra, rc, rfl, hO, hA2⟩
    have hs9 := hB1.out.size
    have hB9 := hid (hB1.out.trans (hA2.mono hs9))
    change Own _ _ _ _ (.slice ra (putL AL [c, i]).1.length rc) (putL AL [c, i]).1 at hO
    rw [hr.out] at hO
    have hO9 := hid (hO.base hs9)
    go_simp
    refine hK _ _ ⟨fun _ => rx_after hA2, ?_⟩
    clear hK
    refine wpAnyT_take 7 rfl (by kernel_rfl) (by kernel_rfl) (by kernel_rfl) (by kernel_rfl) (fun _ _ _ _ h => h) ⟨_, Or.inl ⟨by rfl, fun w2 hb2 => by (go_simp; try with_reducible rfl)⟩, _, by (go_simp; try rfl), ?_⟩
    refine wpAnyT_take 8 rfl (by kernel_rfl) (by kernel_rfl) (by kernel_rfl) (by kernel_rfl) (fun _ _ _ _ h => h) ⟨_, Or.inl ⟨by rfl, fun w2 hb2 => by (go_simp; try with_reducible rfl)⟩, _, by (go_simp; try rfl), ?_⟩
    refine wpAnyT_take 9 rfl (by kernel_rfl) (by kernel_rfl) (by kernel_rfl) (by kernel_rfl) (fun _ _ _ _ h => h) ⟨_, Or.inl ⟨by rfl, fun w2 hb2 => by (go_simp; try with_reducible rfl)⟩, _, by (go_simp; try rfl), ?_⟩
    refine wpAnyT_take 10 rfl (by kernel_rfl) (by kernel_rfl) (by kernel_rfl) (by kernel_rfl) (fun _ _ _ _ h => h) ⟨_, Or.inl ⟨by rfl, fun w2 hb2 => by (go_simp; try with_reducible rfl)⟩, _, by (go_simp; try rfl), ?_⟩
    refine wpAnyT_only 11 rfl (by kernel_rfl) (by rfl) (fun K hK => ?_)
    go_simp
    refine hK _ _ ⟨fun h => (h rfl).elim, ?_⟩
    clear hK
    refine wpAnyT_done (by kernel_rfl) ?_ _
    go_wp2_with fail
    go_ret2
    exact ⟨ra, rc, by rw [← hr.out]; rfl, hO9.out, hB9.out⟩
set_option maxRecDepth 100000 in
set_option maxHeartbeats 4000000 in
theorem takeA_any (ba : Option Addr) (bl bc : Nat) (y : Bool) (zs : List Int) (w : World) (hS : Sl .u8 w ba bl bc zs) (hz : ∀ x ∈ zs, (Lit.int .u8 x).wf = true) (hbl : bl ≤ 100000) : Calls Try.prog 10 #[.slice ba bl bc, .bool y] w fun e w' => e = .returned (.tuple #[ackV y (takL AL zs).1, .int .i64 (takL AL zs).2]) ∧ After w w' := by
  obtain ⟨⟨P, er⟩, hr⟩ : ∃ r, takL AL zs = r := ⟨_, rfl⟩
  rw [hr]
  have hP0 := hid (fun h => stak_bad hr h)
  have hP8 := hid (fun h : er = 0 => (tak_spec (h ▸ hr)).2.2.2)
  replace hr := hid hr
  replace hz := hid hz
  replace hS := hid hS
  go_enter Try.func10, Try.ntmps10
  go_upto_region 0 with (fail)
  apply wp_region_seg0 (w := w) (S := [.al 1000, .q []]) (E := [.al ((fun p => .pointer (some ⟨p, 0, none⟩)), _) 1000, .q0 _]) rfl (by kernel_rfl) rfl rfl
  intro th hge hne
  refine Seg.step _ rfl ⟨by rfl, fun U hU => ?_⟩ ?_
  · go_simp; exact vp_alloc rfl rfl rfl
  refine ⟨_, by (simp only [Ent.val]; go_simp <;> exact rfl), ?_⟩
  refine Seg.step _ rfl (Or.inl ⟨by rfl, fun U hU => vp_quiet (by (go_simp <;> exact rfl))⟩) ⟨_, by (simp only [Ent.val]; go_simp <;> exact rfl), ?_⟩
  refine Seg.stop (fun U1 hU hk => ?_)
  have nb0 := hge 0 _ _ rfl
  have rb0 := (hk 0 _ _ rfl trivial).1.2 (by simp)
  clear hk hge hne
  generalize th (0 + 0) = p0_0 at *
  dsimp only at rb0
  have r_p0_0 := rb0
  clear rb0
  have n_p0_0 := nb0
  clear nb0
  have sz1 := hU.size
  have hB : Below w.heap.size w U1 := hU
  clear hU
  have nP : w.heap.size ≤ p0_0 := n_p0_0
  have hBs := hB.size
  go_wp2_with fail
  refine (fieldsA_any _).mono ?_
  rintro e V1 ⟨fa, fc, rfl, hF, hA1⟩
  have hB1 := bthen hB hA1
  have rP := held_after hA1 r_p0_0
  clear hB hA1 r_p0_0
  replace hF := hid hF
  replace hB1 := hid hB1
  replace rP := hid rP
  go_wp2_with fail
  refine (stake_any fa 2 fc (fN AL) (fS AL) (fL AL) (fH AL) ba bl bc zs _ hF.out (hS.out.below hB1.out) hz.out (by omega) hbl).mono ?_
  rintro e V2 ⟨ra, rc, rfl, hO, hA2⟩
  have hB := bthen hB1.out hA2
  have rP2 := held_after hA2 rP.out
  change Own _ _ _ _ (.slice ra (takL AL zs).1.length rc) (takL AL zs).1 at hO
  have e1 : (takF (fN AL) (fS AL) (fL AL) (fH AL) 2 zs) = (P, er) := hr.out
  rw [hr.out] at hO
  rw [e1]
  dsimp only at hO
  clear e1 hA2 hB1 rP hF
  replace hO := hid hO
  by_cases he : er = 0
  case neg =>
    obtain rfl : P = [] := hP0.out he
    clear hP0 hP8
    go_upto_region 3 with (fail)
    have z0 := held_cell rP2 0 _ rfl
    have z1 := held_cell rP2 1 _ rfl
    have z2 := held_cell rP2 2 _ rfl
    have g0 := held_free rP2 0
    have g1 := held_free rP2 1
    have g2 := held_free rP2 2
    obtain ⟨W9, hW9, ya, yO⟩ := st3 rP2 (.bool false) (.int .i64 0) (.int .i64 0)
    replace hB := belowS hB yO nP
    have ez0 := held_cell ya 0 _ rfl
    have ez1 := held_cell ya 1 _ rfl
    have ez2 := held_cell ya 2 _ rfl
    clear yO ya
    replace hB := hid hB
    go_wp2_with fail
    refine bodyPost_ret (v := .tuple #[.agg #[.bool false, .int .i64 0, .int .i64 0], .int .i64 er]) (by simp [results, Try.results10, go_sem, ez0, ez1, ez2]) rfl ⟨rfl, hB.out⟩
  subst he
  have hPl : P.length = 2 := by rw [hP8.out rfl]; simp [AL]
  obtain ⟨x0, x1, rfl⟩ := list2 hPl
  have hR := hid hO.out.slf.2.2.2.2
  obtain ⟨qb, qo, rfl, v0⟩ := hR.out 0 (by simp)
  have v1 : V2.cell? ⟨qb, qo + 1, none⟩ = some (.int .i64 x1) := by obtain ⟨b9, o9, e9, v9⟩ := hR.out 1 (by simp); cases e9; exact v9
  replace v0 : V2.cell? ⟨qb, qo + 0, none⟩ = some (.int .i64 x0) := v0
  rw [Nat.add_zero] at v0
  clear hP0 hP8 hPl hR
  replace hB := hid hB
  go_upto_region 4 with (fail)
  obtain ⟨QQ, hQQ⟩ : ∃ QQ, V2.drew = QQ := ⟨_, rfl⟩
  have rq := (show V2.drew.heap[p0_0]? = _ from rP2)
  rw [hQQ] at rq
  have hBq := hB.out.drew
  rw [hQQ] at hBq
  clear hB
  have vq0 := (show V2.drew.cell? _ = _ from v0)
  rw [hQQ] at vq0
  have vq1 := (show V2.drew.cell? _ = _ from v1)
  rw [hQQ] at vq1
  have hne : some qb ≠ some p0_0 := fun e => by have e2 := Option.some.inj e; subst e2; rcases hO.out.2 with ⟨h1, h2⟩ | ⟨g9, c9, cur, h1, h2, h3, _⟩ <;> cases h1; rw [rP2] at h3; cases h3
  refine wp_region_T (some p0_0) 9 (by kernel_rfl) ?_
  refine wpAnyT_take 0 rfl (by kernel_rfl) (by kernel_rfl) (by kernel_rfl) (by kernel_rfl) (fun _ _ _ _ h => h) ⟨_, Or.inl ⟨by rfl, fun w2 hb2 => by (go_simp; try with_reducible rfl)⟩, _, by (go_simp; try rfl), ?_⟩
  refine wpAnyT_take 1 rfl (by kernel_rfl) (by kernel_rfl) (by kernel_rfl) (by kernel_rfl) (fun _ _ _ _ h => h) ⟨_, Or.inl ⟨by rfl, fun w2 hb2 => by (go_simp; try with_reducible rfl)⟩, _, by (go_simp; try rfl), ?_⟩
  refine wpAnyT_take 2 rfl (by kernel_rfl) (by kernel_rfl) (by kernel_rfl) (by kernel_rfl) (fun _ _ _ _ h => h) ⟨_, Or.inl ⟨by rfl, fun w2 hb2 => by (go_simp; try with_reducible rfl)⟩, _, by (go_simp; try rfl), ?_⟩
  refine wpAnyT_take 3 rfl (by kernel_rfl) (by kernel_rfl) (by kernel_rfl) (by kernel_rfl) (fun _ _ _ _ h => h) ⟨_, Or.inl ⟨by rfl, fun w2 hb2 => by (have hx := hb2.cell (show V2.drew.cell? _ = _ from (by rw [hQQ]; exact vq0)) hne; go_simp; try with_reducible rfl)⟩, _, by (go_simp; try rfl), ?_⟩
  refine wpAnyT_take 4 rfl (by kernel_rfl) (by kernel_rfl) (by kernel_rfl) (by kernel_rfl) (fun _ _ _ _ h => h) ⟨_, Or.inl ⟨by rfl, fun w2 hb2 => by (go_simp; try with_reducible rfl)⟩, _, by (go_simp; try rfl), ?_⟩
  refine wpAnyT_take 5 rfl (by kernel_rfl) (by kernel_rfl) (by kernel_rfl) (by kernel_rfl) (fun _ _ _ _ h => h) ⟨_, Or.inl ⟨by rfl, fun w2 hb2 => by (go_simp; try with_reducible rfl)⟩, _, by (go_simp; try rfl), ?_⟩
  refine wpAnyT_take 6 rfl (by kernel_rfl) (by kernel_rfl) (by kernel_rfl) (by kernel_rfl) (fun _ _ _ _ h => h) ⟨_, Or.inl ⟨by rfl, fun w2 hb2 => by (have hx := hb2.cell (show V2.drew.cell? _ = _ from (by rw [hQQ]; exact vq1)) hne; go_simp; try with_reducible rfl)⟩, _, by (go_simp; try rfl), ?_⟩
  refine wpAnyT_take 7 rfl (by kernel_rfl) (by kernel_rfl) (by kernel_rfl) (by kernel_rfl) (fun _ _ _ _ h => h) ⟨_, Or.inl ⟨by rfl, fun w2 hb2 => by (go_simp; try with_reducible rfl)⟩, _, by (go_simp; try rfl), ?_⟩
  refine wpAnyT_only 8 rfl (by kernel_rfl) (by rfl) (fun K hK => ?_)
  have z0 := held_cell rq 0 _ rfl
  have z1 := held_cell rq 1 _ rfl
  have z2 := held_cell rq 2 _ rfl
  have g0 := held_free rq 0
  have g1 := held_free rq 1
  have g2 := held_free rq 2
  obtain ⟨W9, hW9, ya, yO⟩ := st3 rq (.bool y) (.int .i64 x0) (.int .i64 x1)
  have hB9 := hid (belowS hBq yO nP)
  have ez0 := held_cell ya 0 _ rfl
  have ez1 := held_cell ya 1 _ rfl
  have ez2 := held_cell ya 2 _ rfl
  go_simp
  refine hK _ _ ⟨fun _ => (by rw [hQQ]; exact ⟨Nat.le_of_eq yO.size.symm, fun k _ hk => yO.block k (fun e => hk (by rw [e]))⟩), ?_⟩
  clear hK
  refine wpAnyT_only 9 rfl (by kernel_rfl) (by rfl) (fun K hK => ?_)
  go_simp
  refine hK _ _ ⟨fun h => (h rfl).elim, ?_⟩
  clear hK
  refine wpAnyT_done (by kernel_rfl) ?_ _
  clear yO ya
  go_wp2_with fail
  refine bodyPost_ret (v := .tuple #[.agg #[.bool y, .int .i64 x0, .int .i64 x1], .int .i64 0]) (by simp [results, Try.results10, go_sem, ez0, ez1, ez2]) rfl ⟨rfl, hB9.out⟩
set_option maxRecDepth 100000 in
set_option maxHeartbeats 4000000 in
theorem rtakeA_any (ba : Option Addr) (bl bc : Nat) (y : Bool) (zs : List Int) (w : World) (hS : Sl .u8 w ba bl bc zs) (hz : ∀ x ∈ zs, (Lit.int .u8 x).wf = true) (hbl : bl ≤ 100000) : Calls Try.prog 11 #[.slice ba bl bc, .bool y] w fun e w' => e = .returned (.tuple #[ackV y (takL AL zs).1, .int .i64 (takL AL zs).2]) ∧ After w w' := by
  obtain ⟨⟨P, er⟩, hr⟩ : ∃ r, takL AL zs = r := ⟨_, rfl⟩
  rw [hr]
  have hP0 := hid (fun h => stak_bad hr h)
  have hP8 := hid (fun h : er = 0 => (tak_spec (h ▸ hr)).2.2.2)
  replace hr := hid hr
  replace hz := hid hz
  replace hS := hid hS
  go_enter Try.func11, Try.ntmps11
  go_upto_region 0 with (fail)
  apply wp_region_seg0 (w := w) (S := [.al 1000, .q []]) (E := [.al ((fun p => .pointer (some ⟨p, 0, none⟩)), _) 1000, .q0 _]) rfl (by kernel_rfl) rfl rfl
  intro th hge hne
  refine Seg.step _ rfl ⟨by rfl, fun U hU => ?_⟩ ?_
  · go_simp; exact vp_alloc rfl rfl rfl
  refine ⟨_, by (simp only [Ent.val]; go_simp <;> exact rfl), ?_⟩
  refine Seg.step _ rfl (Or.inl ⟨by rfl, fun U hU => vp_quiet (by (go_simp <;> exact rfl))⟩) ⟨_, by (simp only [Ent.val]; go_simp <;> exact rfl), ?_⟩
  refine Seg.stop (fun U1 hU hk => ?_)
  have nb0 := hge 0 _ _ rfl
  have rb0 := (hk 0 _ _ rfl trivial).1.2 (by simp)
  clear hk hge hne
  generalize th (0 + 0) = p0_0 at *
  dsimp only at rb0
  have r_p0_0 := rb0
  clear rb0
  have n_p0_0 := nb0
  clear nb0
  have sz1 := hU.size
  have hB : Below w.heap.size w U1 := hU
  clear hU
  have nP : w.heap.size ≤ p0_0 := n_p0_0
  have hBs := hB.size
  go_wp2_with fail
  refine (rfieldsA_any _).mono ?_
  rintro e V1 ⟨fa, fc, rfl, hF, hA1⟩
  have hB1 := bthen hB hA1
  have rP := held_after hA1 r_p0_0
  clear hB hA1 r_p0_0
  replace hF := hid hF
  replace hB1 := hid hB1
  replace rP := hid rP
  go_wp2_with fail
  refine (rstake_any fa 2 fc (fN AL) (fS AL) (fL AL) (fH AL) ba bl bc zs _ hF.out (hS.out.below hB1.out) hz.out (by omega) hbl).mono ?_
  rintro e V2 ⟨ra, rc, rfl, hO, hA2⟩
  have hB := bthen hB1.out hA2
  have rP2 := held_after hA2 rP.out
  change Own _ _ _ _ (.slice ra (takL AL zs).1.length rc) (takL AL zs).1 at hO
  have e1 : (takF (fN AL) (fS AL) (fL AL) (fH AL) 2 zs) = (P, er) := hr.out
  rw [hr.out] at hO
  rw [e1]
  dsimp only at hO
  clear e1 hA2 hB1 rP hF
  replace hO := hid hO
  by_cases he : er = 0
  case neg =>
    obtain rfl : P = [] := hP0.out he
    clear hP0 hP8
    go_upto_region 3 with (fail)
    have z0 := held_cell rP2 0 _ rfl
    have z1 := held_cell rP2 1 _ rfl
    have z2 := held_cell rP2 2 _ rfl
    have g0 := held_free rP2 0
    have g1 := held_free rP2 1
    have g2 := held_free rP2 2
    obtain ⟨W9, hW9, ya, yO⟩ := st3 rP2 (.bool false) (.int .i64 0) (.int .i64 0)
    replace hB := belowS hB yO nP
    have ez0 := held_cell ya 0 _ rfl
    have ez1 := held_cell ya 1 _ rfl
    have ez2 := held_cell ya 2 _ rfl
    clear yO ya
    replace hB := hid hB
    go_wp2_with fail
    refine bodyPost_ret (v := .tuple #[.agg #[.bool false, .int .i64 0, .int .i64 0], .int .i64 er]) (by simp [results, Try.results11, go_sem, ez0, ez1, ez2]) rfl ⟨rfl, hB.out⟩
  subst he
  have hPl : P.length = 2 := by rw [hP8.out rfl]; simp [AL]
  obtain ⟨x0, x1, rfl⟩ := list2 hPl
  have hR := hid hO.out.slf.2.2.2.2
  obtain ⟨qb, qo, rfl, v0⟩ := hR.out 0 (by simp)
  have v1 : V2.cell? ⟨qb, qo + 1, none⟩ = some (.int .i64 x1) := by obtain ⟨b9, o9, e9, v9⟩ := hR.out 1 (by simp); cases e9; exact v9
  replace v0 : V2.cell? ⟨qb, qo + 0, none⟩ = some (.int .i64 x0) := v0
  rw [Nat.add_zero] at v0
  clear hP0 hP8 hPl hR
  replace hB := hid hB
  go_upto_region 4 with (fail)
  obtain ⟨QQ, hQQ⟩ : ∃ QQ, V2.drew = QQ := ⟨_, rfl⟩
  have rq := (show V2.drew.heap[p0_0]? = _ from rP2)
  rw [hQQ] at rq
  have hBq := hB.out.drew
  rw [hQQ] at hBq
  clear hB
  have vq0 := (show V2.drew.cell? _ = _ from v0)
  rw [hQQ] at vq0
  have vq1 := (show V2.drew.cell? _ = _ from v1)
  rw [hQQ] at vq1
  have hne : some qb ≠ some p0_0 := fun e => by have e2 := Option.some.inj e; subst e2; rcases hO.out.2 with ⟨h1, h2⟩ | ⟨g9, c9, cur, h1, h2, h3, _⟩ <;> cases h1; rw [rP2] at h3; cases h3
  refine wp_region_T (some p0_0) 9 (by kernel_rfl) ?_
  refine wpAnyT_take 0 rfl (by kernel_rfl) (by kernel_rfl) (by kernel_rfl) (by kernel_rfl) (fun _ _ _ _ h => h) ⟨_, Or.inl ⟨by rfl, fun w2 hb2 => by (go_simp; try with_reducible rfl)⟩, _, by (go_simp; try rfl), ?_⟩
  refine wpAnyT_take 1 rfl (by kernel_rfl) (by kernel_rfl) (by kernel_rfl) (by kernel_rfl) (fun _ _ _ _ h => h) ⟨_, Or.inl ⟨by rfl, fun w2 hb2 => by (go_simp; try with_reducible rfl)⟩, _, by (go_simp; try rfl), ?_⟩
  refine wpAnyT_take 2 rfl (by kernel_rfl) (by kernel_rfl) (by kernel_rfl) (by kernel_rfl) (fun _ _ _ _ h => h) ⟨_, Or.inl ⟨by rfl, fun w2 hb2 => by (go_simp; try with_reducible rfl)⟩, _, by (go_simp; try rfl), ?_⟩
  refine wpAnyT_take 3 rfl (by kernel_rfl) (by kernel_rfl) (by kernel_rfl) (by kernel_rfl) (fun _ _ _ _ h => h) ⟨_, Or.inl ⟨by rfl, fun w2 hb2 => by (have hx := hb2.cell (show V2.drew.cell? _ = _ from (by rw [hQQ]; exact vq0)) hne; go_simp; try with_reducible rfl)⟩, _, by (go_simp; try rfl), ?_⟩
  refine wpAnyT_take 4 rfl (by kernel_rfl) (by kernel_rfl) (by kernel_rfl) (by kernel_rfl) (fun _ _ _ _ h => h) ⟨_, Or.inl ⟨by rfl, fun w2 hb2 => by (go_simp; try with_reducible rfl)⟩, _, by (go_simp; try rfl), ?_⟩
  refine wpAnyT_take 5 rfl (by kernel_rfl) (by kernel_rfl) (by kernel_rfl) (by kernel_rfl) (fun _ _ _ _ h => h) ⟨_, Or.inl ⟨by rfl, fun w2 hb2 => by (go_simp; try with_reducible rfl)⟩, _, by (go_simp; try rfl), ?_⟩
  refine wpAnyT_take 6 rfl (by kernel_rfl) (by kernel_rfl) (by kernel_rfl) (by kernel_rfl) (fun _ _ _ _ h => h) ⟨_, Or.inl ⟨by rfl, fun w2 hb2 => by (have hx := hb2.cell (show V2.drew.cell? _ = _ from (by rw [hQQ]; exact vq1)) hne; go_simp; try with_reducible rfl)⟩, _, by (go_simp; try rfl), ?_⟩
  refine wpAnyT_take 7 rfl (by kernel_rfl) (by kernel_rfl) (by kernel_rfl) (by kernel_rfl) (fun _ _ _ _ h => h) ⟨_, Or.inl ⟨by rfl, fun w2 hb2 => by (go_simp; try with_reducible rfl)⟩, _, by (go_simp; try rfl), ?_⟩
  refine wpAnyT_only 8 rfl (by kernel_rfl) (by rfl) (fun K hK => ?_)
  have z0 := held_cell rq 0 _ rfl
  have z1 := held_cell rq 1 _ rfl
  have z2 := held_cell rq 2 _ rfl
  have g0 := held_free rq 0
  have g1 := held_free rq 1
  have g2 := held_free rq 2
  obtain ⟨W9, hW9, ya, yO⟩ := st3 rq (.bool y) (.int .i64 x0) (.int .i64 x1)
  have hB9 := hid (belowS hBq yO nP)
  have ez0 := held_cell ya 0 _ rfl
  have ez1 := held_cell ya 1 _ rfl
  have ez2 := held_cell ya 2 _ rfl
  go_simp
  refine hK _ _ ⟨fun _ => (by rw [hQQ]; exact ⟨Nat.le_of_eq yO.size.symm, fun k _ hk => yO.block k (fun e => hk (by rw [e]))⟩), ?_⟩
  clear hK
  refine wpAnyT_only 9 rfl (by kernel_rfl) (by rfl) (fun K hK => ?_)
  go_simp
  refine hK _ _ ⟨fun h => (h rfl).elim, ?_⟩
  clear hK
  refine wpAnyT_done (by kernel_rfl) ?_ _
  clear yO ya
  go_wp2_with fail
  refine bodyPost_ret (v := .tuple #[.agg #[.bool y, .int .i64 x0, .int .i64 x1], .int .i64 0]) (by simp [results, Try.results11, go_sem, ez0, ez1, ez2]) rfl ⟨rfl, hB9.out⟩

end Go.Proofs.Ythcaljelmchkcaa
