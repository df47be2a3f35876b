/- Package dop: fields, Put, Take. -/
import Derived.Test.YtalmkeehocakeaaDop2
import Derived.Test.YtalmkeehocakeaaKS4
import Derived.Test.YtalmkeehocakeaaKA
import Derived.Laws.OwnMore
import Derived.Deep.DeepCutAuto
namespace Go.Proofs.Ytalmkeehocakeaa
open Go.ChangeShapes Go.WideShapes Go.ChangeAt Go.RowKit
set_option linter.unusedVariables false
set_option linter.unusedSimpArgs false

def DLk (k : Nat) : List Fd := ⟨4, false, 0, 604799999⟩ :: List.replicate k ⟨2, false, 0, 65535⟩
def DL : List Fd := DLk 7
theorem DLk_len (k : Nat) : (DLk k).length = k + 1 := by simp [DLk]
theorem DLk_next (k : Nat) : fcells (DLk (k + 1)) = fcells (DLk k) ++ [.int .i64 2, .bool false, .int .i64 0, .int .i64 65535] := by
  unfold fcells DLk
  rw [List.replicate_succ', ← List.cons_append, List.flatMap_append]
  rfl
theorem row_lit (k : IntKind) (E : TypeId) (w : World) (zs : List Int) (c : Array Value) (n p : Nat) (hc : c = (zs.map (Value.int k)).toArray) (hn : zs.length = n) (hm : n ≤ maxLen) (hp : p = w.heap.size) : Sl k (w.alloc (.cells c E)) (some ⟨p, 0, none⟩) n n zs := by
  subst hc hn hp
  exact Row.sl (show Row k E (w.alloc (.cells (zs.map (Value.int k)).toArray E)) w.heap.size zs from (alloc_new w _).2.2) hm
set_option maxRecDepth 100000 in
set_option maxHeartbeats 2000000 in
theorem fieldsD_any (w : World) : Calls Try.prog 17 #[] w (FdOk w DL) := by
  have e1 : uV 4 604799999 = .agg #[.int .i64 4, .bool false, .int .i64 0, .int .i64 604799999] := rfl
  have e2 : uV 2 65535 = .agg #[.int .i64 2, .bool false, .int .i64 0, .int .i64 65535] := rfl
  replace e2 := hid e2
  go_enter Try.func17, Try.ntmps17
  go_wp2_with fail
  refine (u_any 4 604799999 _).mono ?_
  rintro e w1 ⟨rfl, hA1⟩
  rw [e1]
  go_upto_region 2 with (fail)
  have hO := hid (World.ownsRow_lit (e := 59) (size := 4) (base := w.heap.size) w1 #[.int .i64 4, .bool false, .int .i64 0, .int .i64 604799999] 1 hA1.size (by unfold maxLen; omega) rfl)
  have hB := hid (balloc hA1 (Nat.le_refl _) (.cells #[.int .i64 4, .bool false, .int .i64 0, .int .i64 604799999] 59))
  have hnx := hid DLk_next
  clear hA1 e1
  go_wp2_with fail
  go_loopw [1, 4] (fun l i wr => ∃ (k : Nat) (a : Option Addr) (cap : Nat), k ≤ 7 ∧ i = .int .i64 k ∧ l = .slice a (k + 1) cap ∧ wr.ownsRow w.heap.size 59 4 (.slice a (k + 1) cap) (k + 1) (fcells (DLk k)) ∧ Below w.heap.size w wr) (fun _ i _ => 7 - (intOf i).toNat)
  case atStart => exact ⟨0, _, 1, by omega, rfl, rfl, hO.out, hB.out⟩
  case round =>
    clear hO hB
    obtain ⟨k, a, cap, hk, rfl, rfl, hO, hB⟩ := hrel
    replace hO := hid hO
    by_cases hlt : (k : Int) < 7
    case neg =>
      obtain rfl : k = 7 := by omega
      replace hB := hid hB
      go_wp2_with fail
      go_ret
      exact ⟨a, cap, rfl, flds_rows (l := DL) hO.out (by decide), hB.out⟩
    have hnk := hid (hnx.out k)
    go_wp2_with fail
    refine (u_any 2 65535 _).mono ?_
    rintro e w2 ⟨rfl, hA2⟩
    rw [e2.out]
    have hO2 := hid (rows_after hO.out hA2)
    have hB2 := bthen hB hA2
    have hs2 := hB2.size
    replace hB2 := hid hB2
    clear hO hB hA2
    go_wp2_with (first | (at_builtin; refine wpList_appC1 w2 w rfl (.tmp 6) (.tmp 8) 39 rfl w.heap.size w.heap.size 4 32 59 fields4 (by decide) (.slice a (k + 1) cap) (k + 1) (fcells (DLk k)) rfl hO2.out #[.int .i64 2, .bool false, .int .i64 0, .int .i64 65535] rfl (by kernel_rfl) rfl (by unfold maxLen; omega) (by omega) hB2.out (Nat.le_refl _) hs2 ?_))
    intro g c9 W9 hO9 hB9
    have hO8 := hid (hnk.out ▸ hO9)
    clear hO9
    replace hB9 := hid hB9
    go_wp2_with fail
    go_roundw
    case rel => exact ⟨k + 1, _, c9, by omega, by simp, rfl, hO8.out, hB9.out⟩
    case measure => simp [intOf]; omega
set_option maxRecDepth 100000 in
set_option maxHeartbeats 2000000 in
theorem rfieldsD_any (w : World) : Calls Try.prog 19 #[] w (FdOk w DL) := by
  have e1 : uV 4 604799999 = .agg #[.int .i64 4, .bool false, .int .i64 0, .int .i64 604799999] := rfl
  have e2 : uV 2 65535 = .agg #[.int .i64 2, .bool false, .int .i64 0, .int .i64 65535] := rfl
  replace e2 := hid e2
  go_enter Try.func19, Try.ntmps19
  go_wp2_with fail
  have hA1 : After w w := After.refl _
  go_upto_region 2 with (fail)
  have hO := hid (World.ownsRow_lit (e := 59) (size := 4) (base := w.heap.size) w #[.int .i64 4, .bool false, .int .i64 0, .int .i64 604799999] 1 hA1.size (by unfold maxLen; omega) rfl)
  have hB := hid (balloc hA1 (Nat.le_refl _) (.cells #[.int .i64 4, .bool false, .int .i64 0, .int .i64 604799999] 59))
  have hnx := hid DLk_next
  clear hA1 e1
  go_wp2_with fail
  go_loopw [1, 2] (fun l i wr => ∃ (k : Nat) (a : Option Addr) (cap : Nat), k ≤ 7 ∧ i = .int .i64 k ∧ l = .slice a (k + 1) cap ∧ wr.ownsRow w.heap.size 59 4 (.slice a (k + 1) cap) (k + 1) (fcells (DLk k)) ∧ Below w.heap.size w wr) (fun _ i _ => 7 - (intOf i).toNat)
  case atStart => exact ⟨0, _, 1, by omega, rfl, rfl, hO.out, hB.out⟩
  case round =>
    clear hO hB
    obtain ⟨k, a, cap, hk, rfl, rfl, hO, hB⟩ := hrel
    replace hO := hid hO
    by_cases hlt : (k : Int) < 7
    case neg =>
      obtain rfl : k = 7 := by omega
      replace hB := hid hB
      go_wp2_with fail
      go_ret
      exact ⟨a, cap, rfl, flds_rows (l := DL) hO.out (by decide), hB.out⟩
    have hnk := hid (hnx.out k)
    have hO2 := hO
    have hs2 := hB.size
    have hB2 := hid hB
    clear hO hB
    go_wp2_with (first | (at_builtin; refine wpList_appC1 wr w rfl (.tmp 9) (.tmp 11) 39 rfl w.heap.size w.heap.size 4 32 59 fields4 (by decide) (.slice a (k + 1) cap) (k + 1) (fcells (DLk k)) rfl hO2.out #[.int .i64 2, .bool false, .int .i64 0, .int .i64 65535] rfl (by kernel_rfl) rfl (by unfold maxLen; omega) (by omega) hB2.out (Nat.le_refl _) hs2 ?_))
    intro g c9 W9 hO9 hB9
    have hO8 := hid (hnk.out ▸ hO9)
    clear hO9
    replace hB9 := hid hB9
    go_wp2_with fail
    go_roundw
    case rel => exact ⟨k + 1, _, c9, by omega, by simp, rfl, hO8.out, hB9.out⟩
    case measure => simp [intOf]; omega
set_option maxRecDepth 100000 in
set_option maxHeartbeats 4000000 in
theorem putD_any (d0 d1 d2 d3 d4 d5 d6 d7 : Int) (hb : ∀ x ∈ [d0, d1, d2, d3, d4, d5, d6, d7], -9223372036854775808 ≤ x ∧ x ≤ 9223372036854775807) (w : World) : Calls Try.prog 7 #[.agg #[.int .i64 d0, .int .i64 d1, .int .i64 d2, .int .i64 d3, .int .i64 d4, .int .i64 d5, .int .i64 d6, .int .i64 d7]] w (BsOk w (putL DL [d0, d1, d2, d3, d4, d5, d6, d7])) := by
  obtain ⟨r, hr⟩ : ∃ r, putL DL [d0, d1, d2, d3, d4, d5, d6, d7] = r := ⟨_, rfl⟩
  rw [hr]
  replace hr := hid hr
  replace hb := hid hb
  go_enter Try.func7, Try.ntmps7
  go_upto_region 0 with (fail)
  apply wp_region_seg0 (w := w) (S := [.al 1000, .q [], .q []]) (E := [.al ((fun p => .pointer (some ⟨p, 0, none⟩)), _) 1000, .q0 _, .q0 _]) rfl (by kernel_rfl) rfl rfl
  intro th hge hne
  refine Seg.step _ rfl ⟨by rfl, fun U hU => ?_⟩ ?_
  · go_simp; exact vp_alloc rfl rfl rfl
  refine ⟨_, by (simp only [Ent.val]; go_simp <;> exact rfl), ?_⟩
  refine Seg.step _ rfl (Or.inl ⟨by rfl, fun U hU => vp_quiet (by (go_simp <;> exact rfl))⟩) ⟨_, by (simp only [Ent.val]; go_simp <;> exact rfl), ?_⟩
  refine Seg.step _ rfl (Or.inl ⟨by rfl, fun U hU => vp_quiet (by (go_simp <;> exact rfl))⟩) ⟨_, by (simp only [Ent.val]; go_simp <;> exact rfl), ?_⟩
  refine Seg.stop (fun U1 hU hk => ?_)
  have nb0 := hge 0 _ _ rfl
  have rb0 := (hk 0 _ _ rfl trivial).1.2 (by simp)
  clear hk hge hne
  generalize th (0 + 0) = p0_0 at *
  dsimp only at rb0
  have r_p0_0 := rb0
  clear rb0
  have n_p0_0 := nb0
  clear nb0
  have sz1 := hU.size
  have hB : Below w.heap.size w U1 := hU
  clear hU
  go_upto_region 1 with (fail)
  have hB0 := hid hB.drew
  have hBs := hB.size
  clear hB
  refine wp_region_T none 22 (by kernel_rfl) ?_
  refine wpAnyT_take 1 rfl (by kernel_rfl) (by kernel_rfl) (by kernel_rfl) (by kernel_rfl) (fun _ _ _ _ h => h) ⟨_, Or.inl ⟨by rfl, fun w2 hb2 => by (go_simp; try with_reducible rfl)⟩, _, by (go_simp; try rfl), ?_⟩
  refine wpAnyT_take 2 rfl (by kernel_rfl) (by kernel_rfl) (by kernel_rfl) (by kernel_rfl) (fun _ _ _ _ h => h) ⟨_, Or.inl ⟨by rfl, fun w2 hb2 => by (have hx := held_cell (hb2.held (show U1.drew.heap[_]? = _ from r_p0_0) (by simp)) 0 _ rfl; go_simp; try with_reducible rfl)⟩, _, by (go_simp; try rfl), ?_⟩
  refine wpAnyT_take 3 rfl (by kernel_rfl) (by kernel_rfl) (by kernel_rfl) (by kernel_rfl) (fun _ _ _ _ h => h) ⟨_, Or.inl ⟨by rfl, fun w2 hb2 => by (go_simp; try with_reducible rfl)⟩, _, by (go_simp; try rfl), ?_⟩
  refine wpAnyT_take 4 rfl (by kernel_rfl) (by kernel_rfl) (by kernel_rfl) (by kernel_rfl) (fun _ _ _ _ h => h) ⟨_, Or.inl ⟨by rfl, fun w2 hb2 => by (have hx := held_cell (hb2.held (show U1.drew.heap[_]? = _ from r_p0_0) (by simp)) 1 _ rfl; go_simp; try with_reducible rfl)⟩, _, by (go_simp; try rfl), ?_⟩
  refine wpAnyT_take 5 rfl (by kernel_rfl) (by kernel_rfl) (by kernel_rfl) (by kernel_rfl) (fun _ _ _ _ h => h) ⟨_, Or.inl ⟨by rfl, fun w2 hb2 => by (go_simp; try with_reducible rfl)⟩, _, by (go_simp; try rfl), ?_⟩
  refine wpAnyT_take 6 rfl (by kernel_rfl) (by kernel_rfl) (by kernel_rfl) (by kernel_rfl) (fun _ _ _ _ h => h) ⟨_, Or.inl ⟨by rfl, fun w2 hb2 => by (have hx := held_cell (hb2.held (show U1.drew.heap[_]? = _ from r_p0_0) (by simp)) 2 _ rfl; go_simp; try with_reducible rfl)⟩, _, by (go_simp; try rfl), ?_⟩
  refine wpAnyT_take 7 rfl (by kernel_rfl) (by kernel_rfl) (by kernel_rfl) (by kernel_rfl) (fun _ _ _ _ h => h) ⟨_, Or.inl ⟨by rfl, fun w2 hb2 => by (go_simp; try with_reducible rfl)⟩, _, by (go_simp; try rfl), ?_⟩
  refine wpAnyT_take 8 rfl (by kernel_rfl) (by kernel_rfl) (by kernel_rfl) (by kernel_rfl) (fun _ _ _ _ h => h) ⟨_, Or.inl ⟨by rfl, fun w2 hb2 => by (have hx := held_cell (hb2.held (show U1.drew.heap[_]? = _ from r_p0_0) (by simp)) 3 _ rfl; go_simp; try with_reducible rfl)⟩, _, by (go_simp; try rfl), ?_⟩
  refine wpAnyT_take 9 rfl (by kernel_rfl) (by kernel_rfl) (by kernel_rfl) (by kernel_rfl) (fun _ _ _ _ h => h) ⟨_, Or.inl ⟨by rfl, fun w2 hb2 => by (go_simp; try with_reducible rfl)⟩, _, by (go_simp; try rfl), ?_⟩
  refine wpAnyT_take 10 rfl (by kernel_rfl) (by kernel_rfl) (by kernel_rfl) (by kernel_rfl) (fun _ _ _ _ h => h) ⟨_, Or.inl ⟨by rfl, fun w2 hb2 => by (have hx := held_cell (hb2.held (show U1.drew.heap[_]? = _ from r_p0_0) (by simp)) 4 _ rfl; go_simp; try with_reducible rfl)⟩, _, by (go_simp; try rfl), ?_⟩
  refine wpAnyT_take 11 rfl (by kernel_rfl) (by kernel_rfl) (by kernel_rfl) (by kernel_rfl) (fun _ _ _ _ h => h) ⟨_, Or.inl ⟨by rfl, fun w2 hb2 => by (go_simp; try with_reducible rfl)⟩, _, by (go_simp; try rfl), ?_⟩
  refine wpAnyT_take 12 rfl (by kernel_rfl) (by kernel_rfl) (by kernel_rfl) (by kernel_rfl) (fun _ _ _ _ h => h) ⟨_, Or.inl ⟨by rfl, fun w2 hb2 => by (have hx := held_cell (hb2.held (show U1.drew.heap[_]? = _ from r_p0_0) (by simp)) 5 _ rfl; go_simp; try with_reducible rfl)⟩, _, by (go_simp; try rfl), ?_⟩
  refine wpAnyT_take 13 rfl (by kernel_rfl) (by kernel_rfl) (by kernel_rfl) (by kernel_rfl) (fun _ _ _ _ h => h) ⟨_, Or.inl ⟨by rfl, fun w2 hb2 => by (go_simp; try with_reducible rfl)⟩, _, by (go_simp; try rfl), ?_⟩
  refine wpAnyT_take 14 rfl (by kernel_rfl) (by kernel_rfl) (by kernel_rfl) (by kernel_rfl) (fun _ _ _ _ h => h) ⟨_, Or.inl ⟨by rfl, fun w2 hb2 => by (have hx := held_cell (hb2.held (show U1.drew.heap[_]? = _ from r_p0_0) (by simp)) 6 _ rfl; go_simp; try with_reducible rfl)⟩, _, by (go_simp; try rfl), ?_⟩
  refine wpAnyT_take 15 rfl (by kernel_rfl) (by kernel_rfl) (by kernel_rfl) (by kernel_rfl) (fun _ _ _ _ h => h) ⟨_, Or.inl ⟨by rfl, fun w2 hb2 => by (go_simp; try with_reducible rfl)⟩, _, by (go_simp; try rfl), ?_⟩
  refine wpAnyT_take 16 rfl (by kernel_rfl) (by kernel_rfl) (by kernel_rfl) (by kernel_rfl) (fun _ _ _ _ h => h) ⟨_, Or.inl ⟨by rfl, fun w2 hb2 => by (have hx := held_cell (hb2.held (show U1.drew.heap[_]? = _ from r_p0_0) (by simp)) 7 _ rfl; go_simp; try with_reducible rfl)⟩, _, by (go_simp; try rfl), ?_⟩
  refine wpAnyT_pair 0 17 rfl rfl (by kernel_rfl) (by rfl) (by rfl) (fun K hK => ?_) (fun K hK => ?_)
  · go_simp
    refine (fieldsD_any _).mono ?_
    rintro e V1 ⟨fa, fc, rfl, hF, hA1⟩
    have hB1 := hid (hB0.out.trans (hA1.mono (show w.heap.size ≤ U1.drew.heap.size from hBs)))
    have hs1 := hB1.out.size
    replace hF := hid hF
    go_simp
    refine hK _ _ ⟨fun _ => rx_after hA1, ?_⟩
    clear hK
    refine wpAnyT_only 17 rfl (by kernel_rfl) (by rfl) (fun K hK => ?_)
    go_simp
    have hS := hid (row_lit .i64 2 V1 [d0, d1, d2, d3, d4, d5, d6, d7] _ 8 V1.heap.size rfl rfl (by unfold maxLen; omega) rfl)
    have hA2 := (alloc_new V1 (.cells #[.int .i64 d0, .int .i64 d1, .int .i64 d2, .int .i64 d3, .int .i64 d4, .int .i64 d5, .int .i64 d6, .int .i64 d7] 2)).2.1
    replace hB1 := hid (hB1.out.trans (hA2.mono hs1))
    replace hF := hid (hF.out.below hA2)
    refine hK _ _ ⟨fun _ => RX.alloc _ _ _, ?_⟩
    clear hK
    refine wpAnyT_only 18 rfl (by kernel_rfl) (by rfl) (fun K hK => ?_)
    go_simp
    refine (sput_any fa 8 fc (fN DL) (fS DL) (fL DL) (fH DL) (some ⟨_, 0, none⟩) 8 8 [d0, d1, d2, d3, d4, d5, d6, d7] _ hF.out hS.out hb.out (by omega)).mono ?_
    rintro e V2 ⟨ra, rc, rfl, hO, hA2⟩
    have hs9 := hB1.out.size
    have hB9 := hid (hB1.out.trans (hA2.mono hs9))
    change Own _ _ _ _ (.slice ra (putL DL [d0, d1, d2, d3, d4, d5, d6, d7]).1.length rc) (putL DL [d0, d1, d2, d3, d4, d5, d6, d7]).1 at hO
    rw [hr.out] at hO
    have hO9 := hid (hO.base hs9)
    skip
    skip
    go_simp
    refine hK _ _ ⟨fun _ => rx_after hA2, ?_⟩
    clear hK
    refine wpAnyT_take 19 rfl (by kernel_rfl) (by kernel_rfl) (by kernel_rfl) (by kernel_rfl) (fun _ _ _ _ h => h) ⟨_, Or.inl ⟨by rfl, fun w2 hb2 => by (go_simp; try with_reducible rfl)⟩, _, by (go_simp; try rfl), ?_⟩
    refine wpAnyT_take 20 rfl (by kernel_rfl) (by kernel_rfl) (by kernel_rfl) (by kernel_rfl) (fun _ _ _ _ h => h) ⟨_, Or.inl ⟨by rfl, fun w2 hb2 => by (go_simp; try with_reducible rfl)⟩, _, by (go_simp; try rfl), ?_⟩
    refine wpAnyT_take 21 rfl (by kernel_rfl) (by kernel_rfl) (by kernel_rfl) (by kernel_rfl) (fun _ _ _ _ h => h) ⟨_, Or.inl ⟨by rfl, fun w2 hb2 => by (go_simp; try with_reducible rfl)⟩, _, by (go_simp; try rfl), ?_⟩
    refine wpAnyT_only 22 rfl (by kernel_rfl) (by rfl) (fun K hK => ?_)
    go_simp
    refine hK _ _ ⟨fun h => (h rfl).elim, ?_⟩
    clear hK
    refine wpAnyT_done (by kernel_rfl) ?_ _
    go_wp2_with fail
    go_ret2
    exact ⟨ra, rc, by rw [← hr.out]; rfl, hO9.out, hB9.out⟩
  · go_simp
    have hS := hid (row_lit .i64 2 U1.drew [d0, d1, d2, d3, d4, d5, d6, d7] _ 8 U1.heap.size rfl rfl (by unfold maxLen; omega) rfl)
    have hB1 := hid (hB0.out.alloc (show w.heap.size ≤ U1.drew.heap.size from hBs) (.cells #[.int .i64 d0, .int .i64 d1, .int .i64 d2, .int .i64 d3, .int .i64 d4, .int .i64 d5, .int .i64 d6, .int .i64 d7] 2))
    refine hK _ _ ⟨fun _ => RX.alloc _ _ _, ?_⟩
    clear hK
    refine wpAnyT_only 0 rfl (by kernel_rfl) (by rfl) (fun K hK => ?_)
    go_simp
    refine (fieldsD_any _).mono ?_
    rintro e V1 ⟨fa, fc, rfl, hF, hA1⟩
    have hs1 := hB1.out.size
    replace hB1 := hid (hB1.out.trans (hA1.mono hs1))
    replace hS := hid (hS.out.below hA1)
    replace hF := hid hF
    go_simp
    refine hK _ _ ⟨fun _ => rx_after hA1, ?_⟩
    clear hK
    refine wpAnyT_only 18 rfl (by kernel_rfl) (by rfl) (fun K hK => ?_)
    go_simp
    refine (sput_any fa 8 fc (fN DL) (fS DL) (fL DL) (fH DL) (some ⟨_, 0, none⟩) 8 8 [d0, d1, d2, d3, d4, d5, d6, d7] _ hF.out hS.out hb.out (by omega)).mono ?_
    rintro e V2 ⟨ra, rc, rfl, hO, hA2⟩
    have hs9 := hB1.out.size
    have hB9 := hid (hB1.out.trans (hA2.mono hs9))
    change Own _ _ _ _ (.slice ra (putL DL [d0, d1, d2, d3, d4, d5, d6, d7]).1.length rc) (putL DL [d0, d1, d2, d3, d4, d5, d6, d7]).1 at hO
    rw [hr.out] at hO
    have hO9 := hid (hO.base hs9)
    skip
    skip
    go_simp
    refine hK _ _ ⟨fun _ => rx_after hA2, ?_⟩
    clear hK
    refine wpAnyT_take 19 rfl (by kernel_rfl) (by kernel_rfl) (by kernel_rfl) (by kernel_rfl) (fun _ _ _ _ h => h) ⟨_, Or.inl ⟨by rfl, fun w2 hb2 => by (go_simp; try with_reducible rfl)⟩, _, by (go_simp; try rfl), ?_⟩
    refine wpAnyT_take 20 rfl (by kernel_rfl) (by kernel_rfl) (by kernel_rfl) (by kernel_rfl) (fun _ _ _ _ h => h) ⟨_, Or.inl ⟨by rfl, fun w2 hb2 => by (go_simp; try with_reducible rfl)⟩, _, by (go_simp; try rfl), ?_⟩
    refine wpAnyT_take 21 rfl (by kernel_rfl) (by kernel_rfl) (by kernel_rfl) (by kernel_rfl) (fun _ _ _ _ h => h) ⟨_, Or.inl ⟨by rfl, fun w2 hb2 => by (go_simp; try with_reducible rfl)⟩, _, by (go_simp; try rfl), ?_⟩
    refine wpAnyT_only 22 rfl (by kernel_rfl) (by rfl) (fun K hK => ?_)
    go_simp
    refine hK _ _ ⟨fun h => (h rfl).elim, ?_⟩
    clear hK
    refine wpAnyT_done (by kernel_rfl) ?_ _
    go_wp2_with fail
    go_ret2
    exact ⟨ra, rc, by rw [← hr.out]; rfl, hO9.out, hB9.out⟩
set_option maxRecDepth 100000 in
set_option maxHeartbeats 4000000 in
theorem rputD_any (d0 d1 d2 d3 d4 d5 d6 d7 : Int) (hb : ∀ x ∈ [d0, d1, d2, d3, d4, d5, d6, d7], -9223372036854775808 ≤ x ∧ x ≤ 9223372036854775807) (w : World) : Calls Try.prog 8 #[.agg #[.int .i64 d0, .int .i64 d1, .int .i64 d2, .int .i64 d3, .int .i64 d4, .int .i64 d5, .int .i64 d6, .int .i64 d7]] w (BsOk w (putL DL [d0, d1, d2, d3, d4, d5, d6, d7])) := by
  obtain ⟨r, hr⟩ : ∃ r, putL DL [d0, d1, d2, d3, d4, d5, d6, d7] = r := ⟨_, rfl⟩
  rw [hr]
  replace hr := hid hr
  replace hb := hid hb
  go_enter Try.func8, Try.ntmps8
  go_upto_region 0 with (fail)
  apply wp_region_seg0 (w := w) (S := [.al 1000, .q [], .q []]) (E := [.al ((fun p => .pointer (some ⟨p, 0, none⟩)), _) 1000, .q0 _, .q0 _]) rfl (by kernel_rfl) rfl rfl
  intro th hge hne
  refine Seg.step _ rfl ⟨by rfl, fun U hU => ?_⟩ ?_
  · go_simp; exact vp_alloc rfl rfl rfl
  refine ⟨_, by (simp only [Ent.val]; go_simp <;> exact rfl), ?_⟩
  refine Seg.step _ rfl (Or.inl ⟨by rfl, fun U hU => vp_quiet (by (go_simp <;> exact rfl))⟩) ⟨_, by (simp only [Ent.val]; go_simp <;> exact rfl), ?_⟩
  refine Seg.step _ rfl (Or.inl ⟨by rfl, fun U hU => vp_quiet (by (go_simp <;> exact rfl))⟩) ⟨_, by (simp only [Ent.val]; go_simp <;> exact rfl), ?_⟩
  refine Seg.stop (fun U1 hU hk => ?_)
  have nb0 := hge 0 _ _ rfl
  have rb0 := (hk 0 _ _ rfl trivial).1.2 (by simp)
  clear hk hge hne
  generalize th (0 + 0) = p0_0 at *
  dsimp only at rb0
  have r_p0_0 := rb0
  clear rb0
  have n_p0_0 := nb0
  clear nb0
  have sz1 := hU.size
  have hB : Below w.heap.size w U1 := hU
  clear hU
  go_upto_region 1 with (fail)
  have hB0 := hid hB.drew
  have hBs := hB.size
  clear hB
  refine wp_region_T none 23 (by kernel_rfl) ?_
  refine wpAnyT_take 1 rfl (by kernel_rfl) (by kernel_rfl) (by kernel_rfl) (by kernel_rfl) (fun _ _ _ _ h => h) ⟨_, Or.inl ⟨by rfl, fun w2 hb2 => by (go_simp; try with_reducible rfl)⟩, _, by (go_simp; try rfl), ?_⟩
  refine wpAnyT_take 2 rfl (by kernel_rfl) (by kernel_rfl) (by kernel_rfl) (by kernel_rfl) (fun _ _ _ _ h => h) ⟨_, Or.inl ⟨by rfl, fun w2 hb2 => by (have hx := held_cell (hb2.held (show U1.drew.heap[_]? = _ from r_p0_0) (by simp)) 0 _ rfl; go_simp; try with_reducible rfl)⟩, _, by (go_simp; try rfl), ?_⟩
  refine wpAnyT_take 3 rfl (by kernel_rfl) (by kernel_rfl) (by kernel_rfl) (by kernel_rfl) (fun _ _ _ _ h => h) ⟨_, Or.inl ⟨by rfl, fun w2 hb2 => by (go_simp; try with_reducible rfl)⟩, _, by (go_simp; try rfl), ?_⟩
  refine wpAnyT_take 4 rfl (by kernel_rfl) (by kernel_rfl) (by kernel_rfl) (by kernel_rfl) (fun _ _ _ _ h => h) ⟨_, Or.inl ⟨by rfl, fun w2 hb2 => by (have hx := held_cell (hb2.held (show U1.drew.heap[_]? = _ from r_p0_0) (by simp)) 1 _ rfl; go_simp; try with_reducible rfl)⟩, _, by (go_simp; try rfl), ?_⟩
  refine wpAnyT_take 5 rfl (by kernel_rfl) (by kernel_rfl) (by kernel_rfl) (by kernel_rfl) (fun _ _ _ _ h => h) ⟨_, Or.inl ⟨by rfl, fun w2 hb2 => by (go_simp; try with_reducible rfl)⟩, _, by (go_simp; try rfl), ?_⟩
  refine wpAnyT_take 6 rfl (by kernel_rfl) (by kernel_rfl) (by kernel_rfl) (by kernel_rfl) (fun _ _ _ _ h => h) ⟨_, Or.inl ⟨by rfl, fun w2 hb2 => by (have hx := held_cell (hb2.held (show U1.drew.heap[_]? = _ from r_p0_0) (by simp)) 2 _ rfl; go_simp; try with_reducible rfl)⟩, _, by (go_simp; try rfl), ?_⟩
  refine wpAnyT_take 7 rfl (by kernel_rfl) (by kernel_rfl) (by kernel_rfl) (by kernel_rfl) (fun _ _ _ _ h => h) ⟨_, Or.inl ⟨by rfl, fun w2 hb2 => by (go_simp; try with_reducible rfl)⟩, _, by (go_simp; try rfl), ?_⟩
  refine wpAnyT_take 8 rfl (by kernel_rfl) (by kernel_rfl) (by kernel_rfl) (by kernel_rfl) (fun _ _ _ _ h => h) ⟨_, Or.inl ⟨by rfl, fun w2 hb2 => by (have hx := held_cell (hb2.held (show U1.drew.heap[_]? = _ from r_p0_0) (by simp)) 3 _ rfl; go_simp; try with_reducible rfl)⟩, _, by (go_simp; try rfl), ?_⟩
  refine wpAnyT_take 9 rfl (by kernel_rfl) (by kernel_rfl) (by kernel_rfl) (by kernel_rfl) (fun _ _ _ _ h => h) ⟨_, Or.inl ⟨by rfl, fun w2 hb2 => by (go_simp; try with_reducible rfl)⟩, _, by (go_simp; try rfl), ?_⟩
  refine wpAnyT_take 10 rfl (by kernel_rfl) (by kernel_rfl) (by kernel_rfl) (by kernel_rfl) (fun _ _ _ _ h => h) ⟨_, Or.inl ⟨by rfl, fun w2 hb2 => by (have hx := held_cell (hb2.held (show U1.drew.heap[_]? = _ from r_p0_0) (by simp)) 4 _ rfl; go_simp; try with_reducible rfl)⟩, _, by (go_simp; try rfl), ?_⟩
  refine wpAnyT_take 11 rfl (by kernel_rfl) (by kernel_rfl) (by kernel_rfl) (by kernel_rfl) (fun _ _ _ _ h => h) ⟨_, Or.inl ⟨by rfl, fun w2 hb2 => by (go_simp; try with_reducible rfl)⟩, _, by (go_simp; try rfl), ?_⟩
  refine wpAnyT_take 12 rfl (by kernel_rfl) (by kernel_rfl) (by kernel_rfl) (by kernel_rfl) (fun _ _ _ _ h => h) ⟨_, Or.inl ⟨by rfl, fun w2 hb2 => by (have hx := held_cell (hb2.held (show U1.drew.heap[_]? = _ from r_p0_0) (by simp)) 5 _ rfl; go_simp; try with_reducible rfl)⟩, _, by (go_simp; try rfl), ?_⟩
  refine wpAnyT_take 13 rfl (by kernel_rfl) (by kernel_rfl) (by kernel_rfl) (by kernel_rfl) (fun _ _ _ _ h => h) ⟨_, Or.inl ⟨by rfl, fun w2 hb2 => by (go_simp; try with_reducible rfl)⟩, _, by (go_simp; try rfl), ?_⟩
  refine wpAnyT_take 14 rfl (by kernel_rfl) (by kernel_rfl) (by kernel_rfl) (by kernel_rfl) (fun _ _ _ _ h => h) ⟨_, Or.inl ⟨by rfl, fun w2 hb2 => by (have hx := held_cell (hb2.held (show U1.drew.heap[_]? = _ from r_p0_0) (by simp)) 6 _ rfl; go_simp; try with_reducible rfl)⟩, _, by (go_simp; try rfl), ?_⟩
  refine wpAnyT_take 15 rfl (by kernel_rfl) (by kernel_rfl) (by kernel_rfl) (by kernel_rfl) (fun _ _ _ _ h => h) ⟨_, Or.inl ⟨by rfl, fun w2 hb2 => by (go_simp; try with_reducible rfl)⟩, _, by (go_simp; try rfl), ?_⟩
  refine wpAnyT_take 16 rfl (by kernel_rfl) (by kernel_rfl) (by kernel_rfl) (by kernel_rfl) (fun _ _ _ _ h => h) ⟨_, Or.inl ⟨by rfl, fun w2 hb2 => by (have hx := held_cell (hb2.held (show U1.drew.heap[_]? = _ from r_p0_0) (by simp)) 7 _ rfl; go_simp; try with_reducible rfl)⟩, _, by (go_simp; try rfl), ?_⟩
  refine wpAnyT_pair 0 17 rfl rfl (by kernel_rfl) (by rfl) (by rfl) (fun K hK => ?_) (fun K hK => ?_)
  · go_simp
    refine (rfieldsD_any _).mono ?_
    rintro e V1 ⟨fa, fc, rfl, hF, hA1⟩
    have hB1 := hid (hB0.out.trans (hA1.mono (show w.heap.size ≤ U1.drew.heap.size from hBs)))
    have hs1 := hB1.out.size
    replace hF := hid hF
    go_simp
    refine hK _ _ ⟨fun _ => rx_after hA1, ?_⟩
    clear hK
    refine wpAnyT_only 17 rfl (by kernel_rfl) (by rfl) (fun K hK => ?_)
    go_simp
    have hS := hid (row_lit .i64 2 V1 [d0, d1, d2, d3, d4, d5, d6, d7] _ 8 V1.heap.size rfl rfl (by unfold maxLen; omega) rfl)
    have hA2 := (alloc_new V1 (.cells #[.int .i64 d0, .int .i64 d1, .int .i64 d2, .int .i64 d3, .int .i64 d4, .int .i64 d5, .int .i64 d6, .int .i64 d7] 2)).2.1
    replace hB1 := hid (hB1.out.trans (hA2.mono hs1))
    replace hF := hid (hF.out.below hA2)
    refine hK _ _ ⟨fun _ => RX.alloc _ _ _, ?_⟩
    clear hK
    refine wpAnyT_only 18 rfl (by kernel_rfl) (by rfl) (fun K hK => ?_)
    go_simp
    refine (rsput_any fa 8 fc (fN DL) (fS DL) (fL DL) (fH DL) (some ⟨_, 0, none⟩) 8 8 [d0, d1, d2, d3, d4, d5, d6, d7] _ hF.out hS.out hb.out (by omega)).mono ?_
    rintro e V2 ⟨ra, rc, rfl, hO, hA2⟩
    have hs9 := hB1.out.size
    have hB9 := hid (hB1.out.trans (hA2.mono hs9))
    change Own _ _ _ _ (.slice ra (putL DL [d0, d1, d2, d3, d4, d5, d6, d7]).1.length rc) (putL DL [d0, d1, d2, d3, d4, d5, d6, d7]).1 at hO
    rw [hr.out] at hO
    have hO9 := hid (hO.base hs9)
    skip
    skip
    go_simp
    refine hK _ _ ⟨fun _ => rx_after hA2, ?_⟩
    clear hK
    refine wpAnyT_take 19 rfl (by kernel_rfl) (by kernel_rfl) (by kernel_rfl) (by kernel_rfl) (fun _ _ _ _ h => h) ⟨_, Or.inl ⟨by rfl, fun w2 hb2 => by (go_simp; try with_reducible rfl)⟩, _, by (go_simp; try rfl), ?_⟩
    refine wpAnyT_take 20 rfl (by kernel_rfl) (by kernel_rfl) (by kernel_rfl) (by kernel_rfl) (fun _ _ _ _ h => h) ⟨_, Or.inl ⟨by rfl, fun w2 hb2 => by (go_simp; try with_reducible rfl)⟩, _, by (go_simp; try rfl), ?_⟩
    refine wpAnyT_take 21 rfl (by kernel_rfl) (by kernel_rfl) (by kernel_rfl) (by kernel_rfl) (fun _ _ _ _ h => h) ⟨_, Or.inl ⟨by rfl, fun w2 hb2 => by (go_simp; try with_reducible rfl)⟩, _, by (go_simp; try rfl), ?_⟩
    refine wpAnyT_take 22 rfl (by kernel_rfl) (by kernel_rfl) (by kernel_rfl) (by kernel_rfl) (fun _ _ _ _ h => h) ⟨_, Or.inl ⟨by rfl, fun w2 hb2 => by (go_simp; try with_reducible rfl)⟩, _, by (go_simp; try rfl), ?_⟩
    refine wpAnyT_only 23 rfl (by kernel_rfl) (by rfl) (fun K hK => ?_)
    go_simp
    refine hK _ _ ⟨fun h => (h rfl).elim, ?_⟩
    clear hK
    refine wpAnyT_done (by kernel_rfl) ?_ _
    go_wp2_with fail
    go_ret2
    exact ⟨ra, rc, by rw [← hr.out]; rfl, hO9.out, hB9.out⟩
  · go_simp
    have hS := hid (row_lit .i64 2 U1.drew [d0, d1, d2, d3, d4, d5, d6, d7] _ 8 U1.heap.size rfl rfl (by unfold maxLen; omega) rfl)
    have hB1 := hid (hB0.out.alloc (show w.heap.size ≤ U1.drew.heap.size from hBs) (.cells #[.int .i64 d0, .int .i64 d1, .int .i64 d2, .int .i64 d3, .int .i64 d4, .int .i64 d5, .int .i64 d6, .int .i64 d7] 2))
    refine hK _ _ ⟨fun _ => RX.alloc _ _ _, ?_⟩
    clear hK
    refine wpAnyT_only 0 rfl (by kernel_rfl) (by rfl) (fun K hK => ?_)
    go_simp
    refine (rfieldsD_any _).mono ?_
    rintro e V1 ⟨fa, fc, rfl, hF, hA1⟩
    have hs1 := hB1.out.size
    replace hB1 := hid (hB1.out.trans (hA1.mono hs1))
    replace hS := hid (hS.out.below hA1)
    replace hF := hid hF
    go_simp
    refine hK _ _ ⟨fun _ => rx_after hA1, ?_⟩
    clear hK
    refine wpAnyT_only 18 rfl (by kernel_rfl) (by rfl) (fun K hK => ?_)
    go_simp
    refine (rsput_any fa 8 fc (fN DL) (fS DL) (fL DL) (fH DL) (some ⟨_, 0, none⟩) 8 8 [d0, d1, d2, d3, d4, d5, d6, d7] _ hF.out hS.out hb.out (by omega)).mono ?_
    rintro e V2 ⟨ra, rc, rfl, hO, hA2⟩
    have hs9 := hB1.out.size
    have hB9 := hid (hB1.out.trans (hA2.mono hs9))
    change Own _ _ _ _ (.slice ra (putL DL [d0, d1, d2, d3, d4, d5, d6, d7]).1.length rc) (putL DL [d0, d1, d2, d3, d4, d5, d6, d7]).1 at hO
    rw [hr.out] at hO
    have hO9 := hid (hO.base hs9)
    skip
    skip
    go_simp
    refine hK _ _ ⟨fun _ => rx_after hA2, ?_⟩
    clear hK
    refine wpAnyT_take 19 rfl (by kernel_rfl) (by kernel_rfl) (by kernel_rfl) (by kernel_rfl) (fun _ _ _ _ h => h) ⟨_, Or.inl ⟨by rfl, fun w2 hb2 => by (go_simp; try with_reducible rfl)⟩, _, by (go_simp; try rfl), ?_⟩
    refine wpAnyT_take 20 rfl (by kernel_rfl) (by kernel_rfl) (by kernel_rfl) (by kernel_rfl) (fun _ _ _ _ h => h) ⟨_, Or.inl ⟨by rfl, fun w2 hb2 => by (go_simp; try with_reducible rfl)⟩, _, by (go_simp; try rfl), ?_⟩
    refine wpAnyT_take 21 rfl (by kernel_rfl) (by kernel_rfl) (by kernel_rfl) (by kernel_rfl) (fun _ _ _ _ h => h) ⟨_, Or.inl ⟨by rfl, fun w2 hb2 => by (go_simp; try with_reducible rfl)⟩, _, by (go_simp; try rfl), ?_⟩
    refine wpAnyT_take 22 rfl (by kernel_rfl) (by kernel_rfl) (by kernel_rfl) (by kernel_rfl) (fun _ _ _ _ h => h) ⟨_, Or.inl ⟨by rfl, fun w2 hb2 => by (go_simp; try with_reducible rfl)⟩, _, by (go_simp; try rfl), ?_⟩
    refine wpAnyT_only 23 rfl (by kernel_rfl) (by rfl) (fun K hK => ?_)
    go_simp
    refine hK _ _ ⟨fun h => (h rfl).elim, ?_⟩
    clear hK
    refine wpAnyT_done (by kernel_rfl) ?_ _
    go_wp2_with fail
    go_ret2
    exact ⟨ra, rc, by rw [← hr.out]; rfl, hO9.out, hB9.out⟩

end Go.Proofs.Ytalmkeehocakeaa
