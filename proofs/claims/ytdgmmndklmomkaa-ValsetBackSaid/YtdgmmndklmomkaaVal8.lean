/- Package valset: Get; Same. -/
import Derived.Test.YtdgmmndklmomkaaVal2
import Derived.Laws.StructEq
import Derived.Deep.DeepCutAuto
namespace Go.Proofs.Ytdgmmndklmomkaa
open Go.ChangeShapes Go.WideShapes Go.ChangeAt Go.RowKit
set_option linter.unusedVariables false
set_option linter.unusedSimpArgs false

def vgS1 (key : Int) (acc : Int × Bool) (x : Int × Int) : Int × Bool := if x.1 = key then (x.2, true) else acc
def vgS (l : List (Int × Int)) (key : Int) : Int × Bool := l.foldl (vgS1 key) (0, false)
theorem vgS_at {l : List (Int × Int)} {k : Nat} {x : Int × Int} {key : Int} (hx : l[k]? = some x) : vgS (l.take (k + 1)) key = if x.1 = key then (x.2, true) else vgS (l.take k) key := by
  obtain ⟨h, rfl⟩ := List.getElem?_eq_some_iff.1 hx
  unfold vgS
  rw [List.take_succ_eq_append_getElem h, List.foldl_append]
  rfl
theorem vgS_all (l : List (Int × Int)) (key : Int) : vgS (l.take l.length) key = vgS l key := by rw [List.take_length]
set_option maxRecDepth 100000 in
set_option maxHeartbeats 4000000 in
theorem getV_any (layers : Int) (a : Option Addr) (cap : Nat) (l : List (Int × Int)) (key : Int) (w : World) (hE : Els w 2 a l.length cap (prsV l)) (h40 : l.length ≤ 40) : Calls Try.prog 11 #[.agg #[.int .i64 layers, .slice a l.length cap], .int .i64 key] w fun e w' => e = .returned (.tuple #[.int .i64 (vgS l key).1, .bool (vgS l key).2]) ∧ After w w' := by
  obtain ⟨⟨gv, gb⟩, hg⟩ : ∃ g, vgS l key = g := ⟨_, rfl⟩
  rw [hg]
  dsimp only
  have hga := vgS_all l key
  rw [hg] at hga
  replace hga := hid hga
  have h40i : (l.length : Int) ≤ 40 := by omega
  have hcap := hE.2.1
  have hcm := hE.2.2.1
  have hmm : maxLen ≤ 9223372036854775807 := by decide
  replace hE := hid hE
  replace hg := hid hg
  go_enter Try.func11, Try.ntmps11
  go_upto_region 0 with (fail)
  apply wp_region_seg0 (w := w) (S := [.al 1000, .q [], .q []]) (E := [.al ((fun p => .pointer (some ⟨p, 0, none⟩)), _) 1000, .q0 _, .q0 _]) rfl (by kernel_rfl) rfl rfl
  intro th hge hne
  refine Seg.step _ rfl ⟨by rfl, fun U hU => ?_⟩ ?_
  · go_simp; exact vp_alloc rfl rfl rfl
  refine ⟨_, by (simp only [Ent.val]; go_simp <;> exact rfl), ?_⟩
  refine Seg.step _ rfl (Or.inl ⟨by rfl, fun U hU => vp_quiet (by (go_simp <;> exact rfl))⟩) ⟨_, by (simp only [Ent.val]; go_simp <;> exact rfl), ?_⟩
  refine Seg.step _ rfl (Or.inl ⟨by rfl, fun U hU => vp_quiet (by (go_simp <;> exact rfl))⟩) ⟨_, by (simp only [Ent.val]; go_simp <;> exact rfl), ?_⟩
  refine Seg.stop (fun U1 hU hk => ?_)
  have nb0 := hge 0 _ _ rfl
  have rb0 := (hk 0 _ _ rfl trivial).1.2 (by simp)
  clear hk hge hne
  generalize th (0 + 0) = p0_0 at *
  dsimp only at rb0
  have r_p0_0 := rb0
  clear rb0
  have n_p0_0 := nb0
  clear nb0
  have sz1 := hU.size
  have hB : Below w.heap.size w U1 := hU
  clear hU
  replace hE := hid (hE.out.below hB)
  replace r_p0_0 := hid r_p0_0
  replace hB := hid hB
  have z1 := held_cell r_p0_0.out 1 _ rfl
  have wl : IntKind.i64.wrap ((l.length : Int) - 1) = (l.length : Int) - 1 := by rw [IntKind.wrap_i64]; omega
  go_wp2_with fail
  clear z1
  go_loopw [6] (fun ix wr => ∃ (k : Nat) (x : Int), k ≤ l.length ∧ ix = .int .i64 x ∧ x = (k : Int) - 1 ∧ Hid (vgS l key = vgS (l.take k) key) ∧ After U1 wr) (fun ix _ => (intOf ix + 1).toNat)
  case atStart => exact ⟨l.length, _, Nat.le_refl _, rfl, rfl, hid (vgS_all l key).symm, After.refl _⟩
  case round =>
    obtain ⟨k, xi, hk, rfl, hxi, hd, hA⟩ := hrel
    have r0 := held_after hA r_p0_0.out
    have z1 := held_cell r0 1 _ rfl
    have hEk := hE.out.below hA
    have hB2 := hid (bthen hB.out hA)
    clear hB
    cases k with
    | zero =>
      have hx0 : xi < 0 := by omega
      have hf := hg.out.symm.trans hd.out
      have e1 : gv = 0 := congrArg Prod.fst hf
      have e2 : gb = false := congrArg Prod.snd hf
      subst e1 e2
      clear hxi hf hd
      go_wp2_with fail
      go_ret2
      exact ⟨rfl, hB2.out⟩
    | succ k =>
      obtain rfl : xi = (k : Int) := by omega
      obtain ⟨x, hx⟩ : ∃ x, l[k]? = some x := ⟨_, List.getElem?_eq_getElem (show k < l.length by omega)⟩
      obtain ⟨bb, off, rfl, g0, g1⟩ := hEk.at2 (prsV_at hx)
      have hgn := vgS_at (key := key) hx
      obtain ⟨x1, x2⟩ := x
      dsimp only at g0 g1 hgn
      have kz : (0 : Int) ≤ k := by omega
      have klt : (k : Int) < l.length := by omega
      have wk : IntKind.i64.wrap ((k : Int) - 1) = (k : Int) - 1 := by rw [IntKind.wrap_i64]; omega
      have hk2 := hid (show k ≤ l.length by omega)
      clear hxi hx hk
      by_cases hkey : x1 = key
      · rw [if_pos hkey] at hgn
        have hf := hg.out.symm.trans (hd.out.trans hgn)
        have e1 : gv = x2 := congrArg Prod.fst hf
        have e2 : gb = true := congrArg Prod.snd hf
        subst e1 e2
        clear hf hd hgn
        have hq : (x1 == key) = true := by simp [hkey]
        clear hkey
        go_wp2_with fail
        go_ret2
        exact ⟨rfl, hB2.out⟩
      · rw [if_neg hkey] at hgn
        have hd2 := hid (hd.out.trans hgn)
        have hq : (x1 == key) = false := by simp [hkey]
        clear hkey hgn hd
        replace r0 := hid r0
        replace hA := hid hA
        go_wp2_with fail
        go_roundw
        case rel => exact ⟨k, _, hk2.out, rfl, rfl, hd2, hA.out⟩
        case measure => simp [intOf]
set_option maxRecDepth 100000 in
set_option maxHeartbeats 4000000 in
theorem rgetV_any (layers : Int) (a : Option Addr) (cap : Nat) (l : List (Int × Int)) (key : Int) (w : World) (hE : Els w 2 a l.length cap (prsV l)) (h40 : l.length ≤ 40) : Calls Try.prog 12 #[.agg #[.int .i64 layers, .slice a l.length cap], .int .i64 key] w fun e w' => e = .returned (.tuple #[.int .i64 (vgS l key).1, .bool (vgS l key).2]) ∧ After w w' := by
  obtain ⟨⟨gv, gb⟩, hg⟩ : ∃ g, vgS l key = g := ⟨_, rfl⟩
  rw [hg]
  dsimp only
  have hga := vgS_all l key
  rw [hg] at hga
  replace hga := hid hga
  have h40i : (l.length : Int) ≤ 40 := by omega
  have hcap := hE.2.1
  have hcm := hE.2.2.1
  have hmm : maxLen ≤ 9223372036854775807 := by decide
  replace hE := hid hE
  replace hg := hid hg
  go_enter Try.func12, Try.ntmps12
  go_upto_region 0 with (fail)
  apply wp_region_seg0 (w := w) (S := [.al 1000, .q [], .q []]) (E := [.al ((fun p => .pointer (some ⟨p, 0, none⟩)), _) 1000, .q0 _, .q0 _]) rfl (by kernel_rfl) rfl rfl
  intro th hge hne
  refine Seg.step _ rfl ⟨by rfl, fun U hU => ?_⟩ ?_
  · go_simp; exact vp_alloc rfl rfl rfl
  refine ⟨_, by (simp only [Ent.val]; go_simp <;> exact rfl), ?_⟩
  refine Seg.step _ rfl (Or.inl ⟨by rfl, fun U hU => vp_quiet (by (go_simp <;> exact rfl))⟩) ⟨_, by (simp only [Ent.val]; go_simp <;> exact rfl), ?_⟩
  refine Seg.step _ rfl (Or.inl ⟨by rfl, fun U hU => vp_quiet (by (go_simp <;> exact rfl))⟩) ⟨_, by (simp only [Ent.val]; go_simp <;> exact rfl), ?_⟩
  refine Seg.stop (fun U1 hU hk => ?_)
  have nb0 := hge 0 _ _ rfl
  have rb0 := (hk 0 _ _ rfl trivial).1.2 (by simp)
  clear hk hge hne
  generalize th (0 + 0) = p0_0 at *
  dsimp only at rb0
  have r_p0_0 := rb0
  clear rb0
  have n_p0_0 := nb0
  clear nb0
  have sz1 := hU.size
  have hB : Below w.heap.size w U1 := hU
  clear hU
  replace hE := hid (hE.out.below hB)
  replace r_p0_0 := hid r_p0_0
  replace hB := hid hB
  have z1 := held_cell r_p0_0.out 1 _ rfl
  go_wp2_with fail
  clear z1
  go_loopw [6, 7, 8] (fun sv sb ix wr => ∃ k : Nat, k ≤ l.length ∧ ix = .int .i64 k ∧ sv = .int .i64 (vgS (l.take k) key).1 ∧ sb = .bool (vgS (l.take k) key).2 ∧ After U1 wr) (fun _ _ ix _ => l.length - (intOf ix).toNat)
  case atStart => exact ⟨0, by omega, rfl, rfl, rfl, After.refl _⟩
  case round =>
    obtain ⟨k, hk, rfl, rfl, rfl, hA⟩ := hrel
    have r0 := held_after hA r_p0_0.out
    have z1 := held_cell r0 1 _ rfl
    have hEk := hE.out.below hA
    have hB2 := hid (bthen hB.out hA)
    clear hB
    obtain ⟨⟨cv, cb⟩, hc⟩ : ∃ g, vgS (l.take k) key = g := ⟨_, rfl⟩
    rw [hc]
    by_cases hlt : (k : Int) < l.length
    case neg =>
      obtain rfl : k = l.length := by omega
      have hf := hga.out.symm.trans hc
      have e1 : gv = cv := congrArg Prod.fst hf
      have e2 : gb = cb := congrArg Prod.snd hf
      subst e1 e2
      clear hc hf
      go_wp2_with fail
      go_ret2
      exact ⟨rfl, hB2.out⟩
    obtain ⟨x, hx⟩ : ∃ x, l[k]? = some x := ⟨_, List.getElem?_eq_getElem (show k < l.length by omega)⟩
    obtain ⟨bb, off, rfl, g0, g1⟩ := hEk.at2 (prsV_at hx)
    have hgn := vgS_at (key := key) hx
    rw [hc] at hgn
    obtain ⟨x1, x2⟩ := x
    dsimp only at g0 g1 hgn
    have kz : (0 : Int) ≤ k := by omega
    have wk : IntKind.i64.wrap ((k : Int) + 1) = (k : Int) + 1 := by rw [IntKind.wrap_i64]; omega
    have hk1 := hid (show k + 1 ≤ l.length by omega)
    clear hx hk hc
    replace r0 := hid r0
    replace hA := hid hA
    by_cases hkey : x1 = key
    · rw [if_pos hkey] at hgn
      have hq : (x1 == key) = true := by simp [hkey]
      clear hkey
      replace hgn := hid hgn
      go_wp2_with fail
      go_roundw
      case rel => exact ⟨k + 1, hk1.out, by simp, by rw [hgn.out], by rw [hgn.out], hA.out⟩
      case measure => simp [intOf]; omega
    · rw [if_neg hkey] at hgn
      have hq : (x1 == key) = false := by simp [hkey]
      clear hkey
      replace hgn := hid hgn
      go_wp2_with fail
      go_roundw
      case rel => exact ⟨k + 1, hk1.out, by simp, by rw [hgn.out], by rw [hgn.out], hA.out⟩
      case measure => simp [intOf]; omega
set_option maxRecDepth 100000 in
set_option maxHeartbeats 4000000 in
theorem same20_refl (layers : Int) (a b : Option Addr) (ca cb : Nat) (l : List (Int × Int)) (w : World) (hA : Els w 2 a l.length ca (prsV l)) (hB9 : Els w 2 b l.length cb (prsV l)) (h40 : l.length ≤ 40) : Calls Try.prog 18 #[.agg #[.int .i64 layers, .slice a l.length ca], .agg #[.int .i64 layers, .slice b l.length cb]] w fun e w' => e = .returned (.bool true) ∧ After w w' := by
  have h40i : (l.length : Int) ≤ 40 := by omega
  replace hA := hid hA
  replace hB9 := hid hB9
  go_enter Try.func18, Try.ntmps18
  go_upto_region 0 with (fail)
  apply wp_region_seg0 (w := w) (S := [.al 1000, .al 1000, .q []]) (E := [.al ((fun p => .pointer (some ⟨p, 0, none⟩)), _) 1000, .al ((fun p => .pointer (some ⟨p, 0, none⟩)), _) 1000, .q0 _]) rfl (by kernel_rfl) rfl rfl
  intro th hge hne
  refine Seg.step _ rfl ⟨by rfl, fun U hU => ?_⟩ ?_
  · go_simp; exact vp_alloc rfl rfl rfl
  refine ⟨_, by (simp only [Ent.val]; go_simp <;> exact rfl), ?_⟩
  refine Seg.step _ rfl ⟨by rfl, fun U hU => ?_⟩ ?_
  · go_simp; exact vp_alloc rfl rfl rfl
  refine ⟨_, by (simp only [Ent.val]; go_simp <;> exact rfl), ?_⟩
  refine Seg.step _ rfl (Or.inl ⟨by rfl, fun U hU => vp_quiet (by (go_simp <;> exact rfl))⟩) ⟨_, by (simp only [Ent.val]; go_simp <;> exact rfl), ?_⟩
  refine Seg.stop (fun U1 hU hk => ?_)
  have nb0 := hge 0 _ _ rfl
  have rb0 := (hk 0 _ _ rfl trivial).1.2 (by simp)
  have nb1 := hge 1 _ _ rfl
  have rb1 := (hk 1 _ _ rfl trivial).1.2 (by simp)
  have ne0_1 := hne 0 1 _ _ _ _ rfl rfl (by omega)
  clear hk hge hne
  generalize th (0 + 0) = p0_0 at *
  dsimp only at rb0
  generalize th (0 + 1) = p0_1 at *
  dsimp only at rb1
  have r_p0_0 := rb0
  clear rb0
  have n_p0_0 := nb0
  clear nb0
  have d_p0_0_p0_1 := ne0_1
  clear ne0_1
  have r_p0_1 := rb1
  clear rb1
  have n_p0_1 := nb1
  clear nb1
  have sz1 := hU.size
  have hB : Below w.heap.size w U1 := hU
  clear hU
  replace hA := hid (hA.out.below hB)
  replace hB9 := hid (hB9.out.below hB)
  replace hB := hid hB
  have z0 := held_cell r_p0_0 0 _ rfl
  have z1 := held_cell r_p0_0 1 _ rfl
  have y0 := held_cell r_p0_1 0 _ rfl
  have y1 := held_cell r_p0_1 1 _ rfl
  replace r_p0_0 := hid r_p0_0
  replace r_p0_1 := hid r_p0_1
  go_wp2_with fail
  clear z0 z1 y0 y1
  go_loopw [5] (fun ix wr => ∃ k : Nat, k ≤ l.length ∧ ix = .int .i64 k ∧ After U1 wr) (fun ix _ => l.length - (intOf ix).toNat)
  case atStart => exact ⟨0, by omega, rfl, After.refl _⟩
  case round =>
    obtain ⟨k, hk, rfl, hT⟩ := hrel
    have r0 := held_after hT r_p0_0.out
    have r1 := held_after hT r_p0_1.out
    have z1 := held_cell r0 1 _ rfl
    have y1 := held_cell r1 1 _ rfl
    by_cases hlt : (k : Int) < l.length
    case neg =>
      go_wp2_with fail
      go_ret
      exact ⟨rfl, bthen hB.out hT⟩
    obtain ⟨x, hx⟩ : ∃ x, l[k]? = some x := ⟨_, List.getElem?_eq_getElem (show k < l.length by omega)⟩
    obtain ⟨ba, oa, rfl, a0, a1⟩ := (hA.out.below hT).at2 (prsV_at hx)
    obtain ⟨bb, ob, rfl, b0, b1⟩ := (hB9.out.below hT).at2 (prsV_at hx)
    obtain ⟨x1, x2⟩ := x
    dsimp only at a0 a1 b0 b1
    have kz : (0 : Int) ≤ k := by omega
    have w1 : IntKind.i64.wrap ((k : Int) + 1) = (k : Int) + 1 := by rw [IntKind.wrap_i64]; omega
    have hk1 := hid (show k + 1 ≤ l.length by omega)
    clear hx hk
    replace hT := hid hT
    replace r0 := hid r0
    replace r1 := hid r1
    go_wp2_with fail
    go_quiet (fail)
    go_wp2_with fail
    go_roundw
    case rel => exact ⟨k + 1, hk1.out, by simp, below_drewN hT.out _⟩
    case measure => simp [intOf]; omega

end Go.Proofs.Ytdgmmndklmomkaa
