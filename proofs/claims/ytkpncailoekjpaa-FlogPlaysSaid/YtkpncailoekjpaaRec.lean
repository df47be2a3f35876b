/- Package rec: records whole: Key. -/
import Derived.Test.YtkpncailoekjpaaKO5
import Derived.Test.YtkpncailoekjpaaEls
import Derived.Test.YtkpncailoekjpaaPre
import Derived.Test.YtkpncailoekjpaaRange3
import Derived.Test.YtkpncailoekjpaaKB
import Derived.Test.YtkpncailoekjpaaKA
import Derived.Test.YtkpncailoekjpaaVaM
import Derived.Deep.DeepCutAuto
namespace Go.Proofs.Ytkpncailoekjpaa
open Go.ChangeShapes Go.WideShapes Go.ChangeAt Go.RowKit
set_option linter.unusedVariables false
set_option linter.unusedSimpArgs false

set_option maxRecDepth 100000 in
set_option maxHeartbeats 2000000 in
theorem index12_any (v0 v1 v2 v3 v4 v5 v6 v7 v8 v9 v10 v11 : Int) (k : Nat) (w : World) (hk : k < 12) : (Instr.index 31 (.agg #[.int .i32 v0, .int .i32 v1, .int .i32 v2, .int .i32 v3, .int .i32 v4, .int .i32 v5, .int .i32 v6, .int .i32 v7, .int .i32 v8, .int .i32 v9, .int .i32 v10, .int .i32 v11]) (.int .i64 k)).run Try.prog w = .ok (.int .i32 ([v0, v1, v2, v3, v4, v5, v6, v7, v8, v9, v10, v11].getD k 0)) w := by
  obtain rfl | rfl | rfl | rfl | rfl | rfl | rfl | rfl | rfl | rfl | rfl | rfl : k = 0 ∨ k = 1 ∨ k = 2 ∨ k = 3 ∨ k = 4 ∨ k = 5 ∨ k = 6 ∨ k = 7 ∨ k = 8 ∨ k = 9 ∨ k = 10 ∨ k = 11 := by omega
  all_goals rfl
theorem getD_at {l : List Int} {k : Nat} (h : k < l.length) : l[k]? = some (l.getD k 0) := by simp [h]
theorem take_snoc {l : List Int} {k : Nat} (h : k < l.length) : l.take (k + 1) = l.take k ++ [l.getD k 0] := by
  rw [List.take_add_one, getD_at h]; rfl
theorem list12 {v : List Int} (h : v.length = 12) : ∃ v0 v1 v2 v3 v4 v5 v6 v7 v8 v9 v10 v11, v = [v0, v1, v2, v3, v4, v5, v6, v7, v8, v9, v10, v11] := by
  match v, h with
  | [v0, v1, v2, v3, v4, v5, v6, v7, v8, v9, v10, v11], _ => exact ⟨v0, v1, v2, v3, v4, v5, v6, v7, v8, v9, v10, v11, rfl⟩
/-- A record's bytes. -/
def keyF (v : List Int) : List Int := v.flatMap fun x => bytesL (wrapU x) 4
def keyV (t : Int) (v : List Int) : List Int := bytesL t 4 ++ keyF v
theorem keyF_snoc (v : List Int) (x : Int) : keyF (v ++ [x]) = keyF v ++ bytesL (wrapU x) 4 := by simp [keyF]
theorem keyF_len : ∀ v : List Int, (keyF v).length = 4 * v.length
  | [] => rfl
  | x :: v => by
    have h : keyF (x :: v) = bytesL (wrapU x) 4 ++ keyF v := rfl
    rw [h, List.length_append, bytesL_len, keyF_len v, List.length_cons]; omega
theorem fit4 {t : Int} (h0 : 0 ≤ t) (h1 : t ≤ 4294967295) : fitU 4 t = true := by
  unfold fitU
  exact decide_eq_true ⟨by omega, by omega, by show t < 256 ^ 4; omega⟩
theorem fit4i {x : Int} (h0 : -2147483648 ≤ x) (h1 : x ≤ 2147483647) : fitI 4 x = true := by
  unfold fitI
  exact decide_eq_true ⟨by omega, by omega, by show -(128 * 256 ^ 3) ≤ x; omega, by show x < 128 * 256 ^ 3; omega⟩
theorem Wr.aft {B base : Nat} {w w2 : World} {zs : List Int} (h : Wr B base w zs) (hA : After w w2) : Wr B base w2 zs := by
  obtain ⟨a, cap, h1, h2⟩ := h
  exact ⟨a, cap, held_after hA h1, h2.below hA⟩
/-- What stands beside a writer stays. -/
theorem Wr.besides {B base D : Nat} {w w2 : World} {zs : List Int} {c : Array Value} {T : TypeId} {f : Nat × Nat} (h : Wr B base w zs) (hK : Owp B 1 w w2) (hD : w.heap[D]? = some (.cells c T f)) (hne : D ≠ B) (hT : T ≠ 5) : w2.heap[D]? = some (.cells c T f) := by
  obtain ⟨a, cap, h1, h2⟩ := h
  rw [hK.block D (held_lt hD) hne (by rw [wown_at h1 (j := 1) rfl]; exact own_ne h2 hD hT)]
  exact hD
theorem cells12 (c : Value) (v0 v1 v2 v3 v4 v5 v6 v7 v8 v9 v10 v11 : Int) (k : Nat) (hk : k < 12) : (#[c, .int .i32 v0, .int .i32 v1, .int .i32 v2, .int .i32 v3, .int .i32 v4, .int .i32 v5, .int .i32 v6, .int .i32 v7, .int .i32 v8, .int .i32 v9, .int .i32 v10, .int .i32 v11] : Array Value)[1 + k]? = some (.int .i32 ([v0, v1, v2, v3, v4, v5, v6, v7, v8, v9, v10, v11].getD k 0)) := by
  obtain rfl | rfl | rfl | rfl | rfl | rfl | rfl | rfl | rfl | rfl | rfl | rfl : k = 0 ∨ k = 1 ∨ k = 2 ∨ k = 3 ∨ k = 4 ∨ k = 5 ∨ k = 6 ∨ k = 7 ∨ k = 8 ∨ k = 9 ∨ k = 10 ∨ k = 11 := by omega
  all_goals rfl
set_option maxRecDepth 100000 in
set_option maxHeartbeats 4000000 in
theorem key_any (t v0 v1 v2 v3 v4 v5 v6 v7 v8 v9 v10 v11 : Int) (w : World) (ht : 0 ≤ t ∧ t ≤ 4294967295) (hv : ∀ x ∈ [v0, v1, v2, v3, v4, v5, v6, v7, v8, v9, v10, v11], -2147483648 ≤ x ∧ x ≤ 2147483647) : Calls Try.prog 36 #[.agg #[.int .u32 t, .int .i32 v0, .int .i32 v1, .int .i32 v2, .int .i32 v3, .int .i32 v4, .int .i32 v5, .int .i32 v6, .int .i32 v7, .int .i32 v8, .int .i32 v9, .int .i32 v10, .int .i32 v11]] w (BytesOk w (keyV t [v0, v1, v2, v3, v4, v5, v6, v7, v8, v9, v10, v11])) := by
  replace hv := hid hv
  go_enter Try.func36, Try.ntmps36
  go_upto_region 0 with (fail)
  apply wp_region_seg0 (w := w) (S := [.al 1000, .q []]) (E := [.al ((fun p => .pointer (some ⟨p, 0, none⟩)), _) 1000, .q0 _]) rfl (by kernel_rfl) rfl rfl
  intro th hge hne
  refine Seg.step _ rfl ⟨by rfl, fun U hU => ?_⟩ ?_
  · go_simp; exact vp_alloc rfl rfl rfl
  refine ⟨_, by (simp only [Ent.val]; go_simp <;> exact rfl), ?_⟩
  refine Seg.step _ rfl (Or.inl ⟨by rfl, fun U hU => vp_quiet (by (go_simp <;> exact rfl))⟩) ⟨_, by (simp only [Ent.val]; go_simp <;> exact rfl), ?_⟩
  refine Seg.stop (fun U1 hU hk => ?_)
  have nb0 := hge 0 _ _ rfl
  have rb0 := (hk 0 _ _ rfl trivial).1.2 (by simp)
  clear hk hge hne
  generalize th (0 + 0) = p0_0 at *
  dsimp only at rb0
  have r_p0_0 := rb0
  clear rb0
  have n_p0_0 := nb0
  clear nb0
  have sz1 := hU.size
  have hB : Below w.heap.size w U1 := hU
  clear hU
  have wt : IntKind.u64.wrap t = t := by rw [IntKind.wrap_u64]; omega
  have hlt0 := held_lt r_p0_0
  have hBs := hB.size
  replace hB := hid hB
  replace r_p0_0 := hid r_p0_0
  go_wp2_with fail
  refine (make_any _).mono ?_
  rintro e V1 ⟨rfl, hm, hA⟩
  have r1 := held_after hA r_p0_0.out
  have hB1 := hid (bthen hB.out hA)
  have hne : p0_0 ≠ U1.heap.size := by omega
  have hBw : w.heap.size ≤ U1.heap.size := hBs
  have lt1 := held_lt hm
  have hW : Wr U1.heap.size w.heap.size V1 [] := ⟨none, 0, hm, Own.nil _ _ _ _⟩
  generalize U1.heap.size = Q at *
  have s1 := hA.size
  clear hA hm hB r_p0_0
  replace hW := hid hW
  have z0 := held_cell r1 0 _ rfl
  go_wp2_with fail
  refine (wu_any Q w.heap.size w.heap.size [] 4 t ht.1 (by omega) _ hW.out (by simp) hBw (Nat.le_refl _) (by omega)).mono ?_
  rintro e V2 ⟨rfl, hV, hK⟩
  rw [fit4 ht.1 ht.2] at hV
  have hW2 : Wr Q w.heap.size V2 (bytesL t 4) := hV
  have r2 := hW.out.besides hK.2 r1 hne (by decide)
  have hB2 := hB1.out.trans hK.1
  clear hV hK hW hB1 r1 z0
  replace hW2 := hid hW2
  replace hB2 := hid hB2
  have z1 := held_cell r2 1 _ rfl
  have z2 := held_cell r2 2 _ rfl
  have z3 := held_cell r2 3 _ rfl
  have z4 := held_cell r2 4 _ rfl
  have z5 := held_cell r2 5 _ rfl
  have z6 := held_cell r2 6 _ rfl
  have z7 := held_cell r2 7 _ rfl
  have z8 := held_cell r2 8 _ rfl
  have z9 := held_cell r2 9 _ rfl
  have z10 := held_cell r2 10 _ rfl
  have z11 := held_cell r2 11 _ rfl
  have z12 := held_cell r2 12 _ rfl
  replace r2 := hid r2
  go_wp2_with fail
  go_loopw [14] (fun ix wr => ∃ k : Nat, k ≤ 12 ∧ ix = .int .i64 k ∧ Wr Q w.heap.size wr (bytesL t 4 ++ keyF ([v0, v1, v2, v3, v4, v5, v6, v7, v8, v9, v10, v11].take k)) ∧ Below w.heap.size w wr) (fun ix _ => 12 - (intOf ix).toNat)
  case atStart => exact ⟨0, by omega, rfl, by simpa [keyF] using hW2.out, hB2.out⟩
  case round =>
    clear r2 hW2 hB2 z1 z2 z3 z4 z5 z6 z7 z8 z9 z10 z11 z12
    obtain ⟨k, hk, rfl, hW, hB⟩ := hrel
    have sB := hB.size
    have hzl : (bytesL t 4 ++ keyF ([v0, v1, v2, v3, v4, v5, v6, v7, v8, v9, v10, v11].take k)).length ≤ 1000000 := by rw [List.length_append, bytesL_len, keyF_len, List.length_take]; omega
    replace hW := hid hW
    replace hB := hid hB
    by_cases hlt : (k : Int) < 12
    case neg =>
      obtain rfl : k = 12 := by omega
      have hW9 : Wr Q w.heap.size wr (keyV t [v0, v1, v2, v3, v4, v5, v6, v7, v8, v9, v10, v11]) := hW.out
      replace hW9 := hid hW9
      have hz9 : (keyV t [v0, v1, v2, v3, v4, v5, v6, v7, v8, v9, v10, v11]).length ≤ 1000000 := hzl
      clear hW hzl
      generalize keyV t [v0, v1, v2, v3, v4, v5, v6, v7, v8, v9, v10, v11] = L at *
      go_wp2_with fail
      refine (wbytes_good Q w.heap.size L _ hz9 hW9.out).mono ?_
      rintro e V9 ⟨a9, c9, rfl, hO, hA⟩
      have hO9 := hid (hO.base sB)
      have hB9 := hid (bthen hB.out hA)
      clear hO hA
      go_wp2_with fail
      go_ret
      exact ⟨a9, c9, rfl, hO9.out, hB9.out⟩
    have hlt2 : k < 12 := by omega
    have ix := fun W => index12_any v0 v1 v2 v3 v4 v5 v6 v7 v8 v9 v10 v11 k W hlt2
    have hx := hv.out ([v0, v1, v2, v3, v4, v5, v6, v7, v8, v9, v10, v11].getD k 0) (List.mem_of_getElem? (getD_at (show k < ([v0, v1, v2, v3, v4, v5, v6, v7, v8, v9, v10, v11]).length from hlt2)))
    have htk := hid (take_snoc (show k < ([v0, v1, v2, v3, v4, v5, v6, v7, v8, v9, v10, v11]).length from hlt2))
    obtain ⟨x, hxe⟩ : ∃ x, [v0, v1, v2, v3, v4, v5, v6, v7, v8, v9, v10, v11].getD k 0 = x := ⟨_, rfl⟩
    rw [hxe] at hx htk
    simp only [hxe] at ix
    clear hxe
    have wx : IntKind.i64.wrap x = x := by rw [IntKind.wrap_i64]; omega
    have kz : (0 : Int) ≤ k := by omega
    have wk : IntKind.i64.wrap ((k : Int) + 1) = (k : Int) + 1 := by rw [IntKind.wrap_i64]; omega
    have hk1 := hid (show k + 1 ≤ 12 by omega)
    clear hk
    go_wp2_with fail
    refine (wi_any Q w.heap.size w.heap.size (bytesL t 4 ++ keyF ([v0, v1, v2, v3, v4, v5, v6, v7, v8, v9, v10, v11].take k)) 4 x (by omega) (by omega) _ hW.out hzl hBw (Nat.le_refl _) sB).mono ?_
    rintro e V5 ⟨rfl, hV, hK⟩
    rw [fit4i hx.1 hx.2] at hV
    have hW5 : Wr Q w.heap.size V5 (bytesL t 4 ++ keyF ([v0, v1, v2, v3, v4, v5, v6, v7, v8, v9, v10, v11].take (k + 1))) := by rw [htk.out, keyF_snoc, ← List.append_assoc]; exact hV
    have hB5 := hid (hB.out.trans hK.1)
    replace hW5 := hid hW5
    clear hV hK hW hB hzl
    go_wp2_with fail
    go_roundw
    case rel => exact ⟨k + 1, hk1.out, by simp, hW5.out, hB5.out⟩
    case measure => simp [intOf]; omega
set_option maxRecDepth 100000 in
set_option maxHeartbeats 4000000 in
theorem rkey_any (t v0 v1 v2 v3 v4 v5 v6 v7 v8 v9 v10 v11 : Int) (w : World) (ht : 0 ≤ t ∧ t ≤ 4294967295) (hv : ∀ x ∈ [v0, v1, v2, v3, v4, v5, v6, v7, v8, v9, v10, v11], -2147483648 ≤ x ∧ x ≤ 2147483647) : Calls Try.prog 59 #[.agg #[.int .u32 t, .int .i32 v0, .int .i32 v1, .int .i32 v2, .int .i32 v3, .int .i32 v4, .int .i32 v5, .int .i32 v6, .int .i32 v7, .int .i32 v8, .int .i32 v9, .int .i32 v10, .int .i32 v11]] w (BytesOk w (keyV t [v0, v1, v2, v3, v4, v5, v6, v7, v8, v9, v10, v11])) := by
  replace hv := hid hv
  obtain ⟨tn, rfl⟩ : ∃ n : Nat, t = n := ⟨t.toNat, by omega⟩
  go_enter Try.func59, Try.ntmps59
  go_upto_region 0 with (fail)
  apply wp_region_seg0 (w := w) (S := [.al 1000, .q []]) (E := [.al ((fun p => .pointer (some ⟨p, 0, none⟩)), _) 1000, .q0 _]) rfl (by kernel_rfl) rfl rfl
  intro th hge hne
  refine Seg.step _ rfl ⟨by rfl, fun U hU => ?_⟩ ?_
  · go_simp; exact vp_alloc rfl rfl rfl
  refine ⟨_, by (simp only [Ent.val]; go_simp <;> exact rfl), ?_⟩
  refine Seg.step _ rfl (Or.inl ⟨by rfl, fun U hU => vp_quiet (by (go_simp <;> exact rfl))⟩) ⟨_, by (simp only [Ent.val]; go_simp <;> exact rfl), ?_⟩
  refine Seg.stop (fun U1 hU hk => ?_)
  have nb0 := hge 0 _ _ rfl
  have rb0 := (hk 0 _ _ rfl trivial).1.2 (by simp)
  clear hk hge hne
  generalize th (0 + 0) = p0_0 at *
  dsimp only at rb0
  have r_p0_0 := rb0
  clear rb0
  have n_p0_0 := nb0
  clear nb0
  have sz1 := hU.size
  have hB : Below w.heap.size w U1 := hU
  clear hU
  have wt : IntKind.u64.wrap (tn : Int) = (tn : Int) := by rw [IntKind.wrap_u64]; omega
  have hBs := hB.size
  have z0 := held_cell r_p0_0 0 _ rfl
  replace hB := hid hB
  replace r_p0_0 := hid r_p0_0
  go_wp2_with fail
  refine (rbytes_any 4 (by omega) tn (by omega) _).mono ?_
  rintro e V1 ⟨a1, c1, rfl, hO, hA⟩
  have r1 := held_after hA r_p0_0.out
  have hB1 := hid (bthen hB.out hA)
  have hO1 := hid (hO.base hBs)
  have hl1 := bytesL_len (tn : Int) 4
  clear hO hA hB r_p0_0 z0
  replace r1 := hid r1
  replace hl1 := hid hl1
  go_wp2_with fail
  go_loopw [3, 4] (fun ov ix wr => ∃ (k : Nat) (ad : Option Addr) (cp : Nat), k ≤ 12 ∧ ix = .int .i64 k ∧ ov = .slice ad (bytesL (tn : Int) 4 ++ keyF ([v0, v1, v2, v3, v4, v5, v6, v7, v8, v9, v10, v11].take k)).length cp ∧ Own .u8 5 wr w.heap.size (.slice ad (bytesL (tn : Int) 4 ++ keyF ([v0, v1, v2, v3, v4, v5, v6, v7, v8, v9, v10, v11].take k)).length cp) (bytesL (tn : Int) 4 ++ keyF ([v0, v1, v2, v3, v4, v5, v6, v7, v8, v9, v10, v11].take k)) ∧ wr.heap[p0_0]? = some (.cells #[.int .u32 (tn : Int), .int .i32 v0, .int .i32 v1, .int .i32 v2, .int .i32 v3, .int .i32 v4, .int .i32 v5, .int .i32 v6, .int .i32 v7, .int .i32 v8, .int .i32 v9, .int .i32 v10, .int .i32 v11] 33 (0, 0)) ∧ Below w.heap.size w wr) (fun _ ix _ => 12 - (intOf ix).toNat)
  case atStart => exact ⟨0, a1, c1, by omega, rfl, by simp [keyF], by simpa [keyF] using hO1.out, r1.out, hB1.out⟩
  case round =>
    clear hO1 hB1 r1
    obtain ⟨k, ad, cp, hk, rfl, rfl, hO, r1, hB⟩ := hrel
    have sB := hB.size
    have hzl : (bytesL (tn : Int) 4 ++ keyF ([v0, v1, v2, v3, v4, v5, v6, v7, v8, v9, v10, v11].take k)).length ≤ 1000 := by rw [List.length_append, bytesL_len, keyF_len, List.length_take]; omega
    replace hO := hid hO
    replace hB := hid hB
    by_cases hlt : (k : Int) < 12
    case neg =>
      obtain rfl : k = 12 := by omega
      have hO9 : Hid (Own .u8 5 wr w.heap.size (.slice ad (keyV (tn : Int) [v0, v1, v2, v3, v4, v5, v6, v7, v8, v9, v10, v11]).length cp) (keyV (tn : Int) [v0, v1, v2, v3, v4, v5, v6, v7, v8, v9, v10, v11])) := hO
      clear hO hzl
      rw [show bytesL (tn : Int) 4 ++ keyF ([v0, v1, v2, v3, v4, v5, v6, v7, v8, v9, v10, v11].take 12) = keyV (tn : Int) [v0, v1, v2, v3, v4, v5, v6, v7, v8, v9, v10, v11] from rfl]
      generalize keyV (tn : Int) [v0, v1, v2, v3, v4, v5, v6, v7, v8, v9, v10, v11] = L at *
      go_wp2_with fail
      go_ret
      exact ⟨ad, cp, rfl, hO9.out, hB.out⟩
    have hlt2 : k < 12 := by omega
    have hx := hv.out ([v0, v1, v2, v3, v4, v5, v6, v7, v8, v9, v10, v11].getD k 0) (List.mem_of_getElem? (getD_at (show k < ([v0, v1, v2, v3, v4, v5, v6, v7, v8, v9, v10, v11]).length from hlt2)))
    have htk := hid (take_snoc (show k < ([v0, v1, v2, v3, v4, v5, v6, v7, v8, v9, v10, v11]).length from hlt2))
    have cx : wr.cell? ⟨p0_0, 1 + k, none⟩ = some (.int .i32 ([v0, v1, v2, v3, v4, v5, v6, v7, v8, v9, v10, v11].getD k 0)) := by rw [cell_of_row wr p0_0 (1 + k) _ 33 (0, 0) r1]; exact cells12 _ v0 v1 v2 v3 v4 v5 v6 v7 v8 v9 v10 v11 k hlt2
    obtain ⟨x, hxe⟩ : ∃ x, [v0, v1, v2, v3, v4, v5, v6, v7, v8, v9, v10, v11].getD k 0 = x := ⟨_, rfl⟩
    rw [hxe] at hx htk cx
    clear hxe
    have wx : IntKind.i64.wrap x = x := by rw [IntKind.wrap_i64]; omega
    obtain ⟨u, hu⟩ : ∃ u : Nat, wrapU x = u := ⟨(wrapU x).toNat, by have := wrapU_b x; omega⟩
    have hub := wrapU_b x
    have wu : IntKind.u64.wrap x = (u : Int) := by rw [wrapU_is, hu]
    rw [hu] at hub
    have kz : (0 : Int) ≤ k := by omega
    have wk : IntKind.i64.wrap ((k : Int) + 1) = (k : Int) + 1 := by rw [IntKind.wrap_i64]; omega
    have hk1 := hid (show k + 1 ≤ 12 by omega)
    have hks := hid (keyF_snoc ([v0, v1, v2, v3, v4, v5, v6, v7, v8, v9, v10, v11].take k) x)
    rw [← htk.out, hu] at hks
    replace hu := hid hu
    clear hk
    replace r1 := hid r1
    go_wp2_with fail
    refine (rbytes_any 4 (by omega) u (by omega) _).mono ?_
    rintro e V5 ⟨a5, c5, rfl, hO5, hA⟩
    have r5 := hid (held_after hA r1.out)
    have hB5 := hid (bthen hB.out hA)
    have hO4 := hid (hO.out.below hA)
    have hS5 := hid hO5.slf
    have sz5 := hB5.out.size
    have hla := hid (show (bytesL (tn : Int) 4 ++ keyF ([v0, v1, v2, v3, v4, v5, v6, v7, v8, v9, v10, v11].take k)).length + (bytesL (u : Int) 4).length ≤ 140737488355328 / 1 by rw [bytesL_len]; omega)
    clear hO5 hA r1 hO hB hzl cx
    have hfin : (bytesL (tn : Int) 4 ++ keyF ([v0, v1, v2, v3, v4, v5, v6, v7, v8, v9, v10, v11].take k)) ++ bytesL (u : Int) 4 = bytesL (tn : Int) 4 ++ keyF ([v0, v1, v2, v3, v4, v5, v6, v7, v8, v9, v10, v11].take (k + 1)) := by rw [List.append_assoc, hks.out]
    replace hfin := hid hfin
    obtain ⟨L, hL⟩ : ∃ L, (bytesL (tn : Int) 4 ++ keyF ([v0, v1, v2, v3, v4, v5, v6, v7, v8, v9, v10, v11].take k)) = L := ⟨_, rfl⟩
    rw [hL] at hO4 hla hfin ⊢
    replace hL := hid hL
    go_wp2_with (first | (at_builtin; refine wpList_app _ rfl (.tmp 13) (.tmp 20) 29 rfl w.heap.size 5 .u8 1 bytesOf (.slice ad L.length cp) L rfl hO4.out a5 c5 (bytesL (u : Int) 4) rfl hS5.out.2.2.2.2 hS5.out.2.2.2.1 hla.out (by omega) sz5 ?_))
    intro v9 w9 hO9 hG
    obtain ⟨a9, cap9, hv9, -⟩ := hO9.sl
    subst hv9
    have q4 := hid (held_grown r5.out hG (own_ne hO4.out r5.out (by decide)))
    have hB9 := hid (hO4.out.grew hG hB5.out (Nat.le_refl _) sz5)
    rw [hfin.out] at hO9 ⊢
    replace hO9 := hid hO9
    clear hG
    go_wp2_with fail
    go_roundw
    case rel => exact ⟨k + 1, a9, cap9, hk1.out, by simp, rfl, hO9.out, q4.out, hB9.out⟩
    case measure => simp [intOf]; omega

end Go.Proofs.Ytkpncailoekjpaa
