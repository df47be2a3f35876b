/- The law's helpers over the book. -/
import Derived.Test.YthcaljelmchkcaaAck5
import Derived.Laws.StructEq
import Derived.Deep.DeepCutAuto
namespace Go.Proofs.Ythcaljelmchkcaa
open Go.ChangeShapes Go.WideShapes Go.ChangeAt Go.RowKit
set_option linter.unusedVariables false
set_option linter.unusedSimpArgs false

set_option maxRecDepth 100000 in
set_option maxHeartbeats 4000000 in
theorem same19_refl (a b : Option Addr) (ca cb : Nat) (l : List (Int × Int)) (w : World) (hA : Els w 3 a l.length ca (acksV l)) (hB : Els w 3 b l.length cb (acksV l)) (hl : l.length ≤ 16) : Calls Try.prog 19 #[.slice a l.length ca, .slice b l.length cb] w fun e w' => e = .returned (.bool true) ∧ After w w' := by
  have hl2 : (l.length : Int) ≤ 16 := by omega
  replace hA := hid hA
  replace hB := hid hB
  go_enter Try.func19, Try.ntmps19
  go_wp2_with fail
  go_loopw [5] (fun ix wr => ∃ k : Nat, k ≤ l.length ∧ ix = .int .i64 k ∧ After w wr) (fun ix _ => l.length - (intOf ix).toNat)
  case atStart => exact ⟨0, by omega, rfl, After.refl _⟩
  case round =>
    obtain ⟨k, hk, rfl, hT⟩ := hrel
    by_cases hlt : (k : Int) < l.length
    case neg =>
      go_wp2_with fail
      go_ret
      exact ⟨rfl, hT⟩
    obtain ⟨x, hx⟩ : ∃ x, l[k]? = some x := ⟨_, List.getElem?_eq_getElem (show k < l.length by omega)⟩
    obtain ⟨ba, oa, rfl, a0, a1, a2⟩ := (hA.out.below hT).at3 (acksV_at hx)
    obtain ⟨bb, ob, rfl, b0, b1, b2⟩ := (hB.out.below hT).at3 (acksV_at hx)
    obtain ⟨x1, x2⟩ := x
    dsimp only at a1 a2 b1 b2
    have kz : (0 : Int) ≤ k := by omega
    have w1 : IntKind.i64.wrap ((k : Int) + 1) = (k : Int) + 1 := by rw [IntKind.wrap_i64]; omega
    have hk1 := hid (show k + 1 ≤ l.length by omega)
    clear hx hk
    replace hT := hid hT
    go_wp2_with fail
    go_quiet (fail)
    go_wp2_with fail
    go_roundw
    case rel => exact ⟨k + 1, hk1.out, by simp, below_drewN hT.out _⟩
    case measure => simp [intOf]; omega
def ofS (l : List (Int × Int)) (c i : Int) : Nat := l.countP (fun x => x.1 == c && x.2 == i)
theorem ofS_le (l : List (Int × Int)) (c i : Int) : ofS l c i ≤ l.length := List.countP_le_length
theorem ofS_next {l : List (Int × Int)} {c i : Int} {k : Nat} {x : Int × Int} (hx : l[k]? = some x) : ofS (l.take (k + 1)) c i = ofS (l.take k) c i + (if (x.1 == c && x.2 == i) = true then 1 else 0) := by
  obtain ⟨h, rfl⟩ := List.getElem?_eq_some_iff.1 hx
  unfold ofS
  rw [List.take_succ_eq_append_getElem h, List.countP_append]
  simp [List.countP_cons]
theorem ofS_ask {l : List (Int × Int)} {c i : Int} (h : (askS l c i).2 = true) : ofS (askS l c i).1 c i = ofS l c i + 1 ∧ (askS l c i).1.length = l.length + 1 ∧ l.length < 16 := by
  unfold askS at h ⊢
  split at h
  · rename_i hc
    rw [if_pos hc]
    simp at hc
    unfold ofS
    rw [List.countP_append]
    simp [List.countP_cons]; omega
  · cases h
theorem ofS_ask0 {l : List (Int × Int)} {c i : Int} (h : (askS l c i).2 = false) : (askS l c i).1 = l := by
  unfold askS at h ⊢
  split at h
  · cases h
  · rename_i hc; rw [if_neg hc]
theorem ofS_pos (l : List (Int × Int)) (c i : Int) : 0 < ofS l c i ↔ placeS l c i < l.length := by
  unfold ofS placeS
  rw [List.countP_pos_iff, List.findIdx_lt_length]
theorem ofS_erase {l : List (Int × Int)} {c i : Int} (h : placeS l c i < l.length) : ofS (l.eraseIdx (placeS l c i)) c i + 1 = ofS l c i := by
  have hx := placeS_yes (List.getElem?_eq_getElem h)
  revert h hx
  generalize placeS l c i = k
  intro h hx
  have e : l = l.take k ++ l[k] :: l.drop (k + 1) := by simp
  have e2 : ofS l c i = ofS (l.take k ++ l[k] :: l.drop (k + 1)) c i := congrArg (fun z => ofS z c i) e
  rw [e2, List.eraseIdx_eq_take_drop_succ]
  unfold ofS
  simp only [List.countP_append, List.countP_cons]
  rw [if_pos (by simp [hx.1, hx.2])]
  omega
set_option maxRecDepth 100000 in
set_option maxHeartbeats 4000000 in
theorem of_any (a : Option Addr) (cap : Nat) (l : List (Int × Int)) (b : Bool) (c i : Int) (w : World) (hE : Els w 3 a l.length cap (acksV l)) (hl : l.length ≤ 16) : Calls Try.prog 21 #[.slice a l.length cap, .agg #[.bool b, .int .i64 c, .int .i64 i]] w fun e w' => e = .returned (.int .i64 (ofS l c i)) ∧ After w w' := by
  have hl2 : (l.length : Int) ≤ 16 := by omega
  replace hE := hid hE
  go_enter Try.func21, Try.ntmps21
  go_upto_region 0 with (fail)
  apply wp_region_seg0 (w := w) (S := [.al 1000, .q []]) (E := [.al ((fun p => .pointer (some ⟨p, 0, none⟩)), _) 1000, .q0 _]) rfl (by kernel_rfl) rfl rfl
  intro th hge hne
  refine Seg.step _ rfl ⟨by rfl, fun U hU => ?_⟩ ?_
  · go_simp; exact vp_alloc rfl rfl rfl
  refine ⟨_, by (simp only [Ent.val]; go_simp <;> exact rfl), ?_⟩
  refine Seg.step _ rfl (Or.inl ⟨by rfl, fun U hU => vp_quiet (by (go_simp <;> exact rfl))⟩) ⟨_, by (simp only [Ent.val]; go_simp <;> exact rfl), ?_⟩
  refine Seg.stop (fun U1 hU hk => ?_)
  have nb0 := hge 0 _ _ rfl
  have rb0 := (hk 0 _ _ rfl trivial).1.2 (by simp)
  clear hk hge hne
  generalize th (0 + 0) = p0_0 at *
  dsimp only at rb0
  have r_p0_0 := rb0
  clear rb0
  have n_p0_0 := nb0
  clear nb0
  have sz1 := hU.size
  have hB : Below w.heap.size w U1 := hU
  clear hU
  replace hE := hid (hE.out.below hB)
  replace hB := hid hB
  replace r_p0_0 := hid r_p0_0
  go_wp2_with fail
  go_loopw [5, 6] (fun n ix wr => ∃ k : Nat, k ≤ l.length ∧ ix = .int .i64 k ∧ n = .int .i64 (ofS (l.take k) c i) ∧ After U1 wr) (fun _ ix _ => l.length - (intOf ix).toNat)
  case atStart => exact ⟨0, by omega, rfl, rfl, After.refl _⟩
  case round =>
    obtain ⟨k, hk, rfl, rfl, hT⟩ := hrel
    have hof := ofS_le (l.take k) c i
    have htk : (l.take k).length ≤ k := by simp; omega
    by_cases hlt : (k : Int) < l.length
    case neg =>
      have e : ofS (l.take k) c i = ofS l c i := by rw [List.take_of_length_le (by omega)]
      rw [e]
      clear hof htk e
      go_wp2_with fail
      go_ret
      exact ⟨rfl, bthen hB.out hT⟩
    obtain ⟨x, hx⟩ : ∃ x, l[k]? = some x := ⟨_, List.getElem?_eq_getElem (show k < l.length by omega)⟩
    obtain ⟨ba, oa, rfl, a0, a1, a2⟩ := (hE.out.below hT).at3 (acksV_at hx)
    have r0 := held_after hT r_p0_0.out
    have z0 := held_cell r0 0 _ rfl
    have z1 := held_cell r0 1 _ rfl
    have z2 := held_cell r0 2 _ rfl
    have hn := ofS_next (c := c) (i := i) hx
    obtain ⟨N, hN⟩ : ∃ N, ofS (l.take k) c i = N := ⟨_, rfl⟩
    rw [hN] at hn hof ⊢
    obtain ⟨x1, x2⟩ := x
    dsimp only at a1 a2 hn
    have kz : (0 : Int) ≤ k := by omega
    have w1 : IntKind.i64.wrap ((k : Int) + 1) = (k : Int) + 1 := by rw [IntKind.wrap_i64]; omega
    have w2 : IntKind.i64.wrap ((N : Int) + 1) = (N : Int) + 1 := by rw [IntKind.wrap_i64]; omega
    have hk1 := hid (show k + 1 ≤ l.length by omega)
    clear hx hk hN hof htk
    replace hT := hid hT
    replace r0 := hid r0
    cases q1 : (x1 == c)
    · have hn2 : ofS (l.take (k + 1)) c i = N := by rw [hn, if_neg (by rw [q1]; simp), Nat.add_zero]
      clear hn; have hn := hn2; clear hn2
      replace hn := hid hn
      go_wp2_with fail
      go_quiet (fail)
      go_wp2_with fail
      go_roundw
      case rel => exact ⟨k + 1, hk1.out, by simp, by first | (rw [hn.out]; done) | (rw [hn.out]; simp), below_drewN hT.out _⟩
      case measure => simp [intOf]; omega
    · cases q2 : (x2 == i)
      · have hn2 : ofS (l.take (k + 1)) c i = N := by rw [hn, if_neg (by rw [q1, q2]; simp), Nat.add_zero]
        clear hn; have hn := hn2; clear hn2
        replace hn := hid hn
        go_wp2_with fail
        go_quiet (fail)
        go_wp2_with fail
        go_roundw
        case rel => exact ⟨k + 1, hk1.out, by simp, by first | (rw [hn.out]; done) | (rw [hn.out]; simp), below_drewN hT.out _⟩
        case measure => simp [intOf]; omega
      · have hn2 : ofS (l.take (k + 1)) c i = N + 1 := by rw [hn, if_pos (by rw [q1, q2]; rfl)]
        clear hn; have hn := hn2; clear hn2
        replace hn := hid hn
        go_wp2_with fail
        go_quiet (fail)
        go_wp2_with fail
        go_roundw
        case rel => exact ⟨k + 1, hk1.out, by simp, by first | (rw [hn.out]; done) | (rw [hn.out]; simp), below_drewN hT.out _⟩
        case measure => simp [intOf]; omega

end Go.Proofs.Ythcaljelmchkcaa
