/- The law AckNil, walked. -/
import Derived.Test.YthcaljelmchkcaaAck
import Derived.Test.YthcaljelmchkcaaKA
import Derived.Deep.DeepCutAuto
namespace Go.Proofs.Ythcaljelmchkcaa
open Go.ChangeShapes Go.WideShapes Go.ChangeAt Go.RowKit Go.Shelf
set_option linter.unusedVariables false

set_option maxRecDepth 100000 in
set_option maxHeartbeats 4000000 in
theorem knows19_any (w : World) : Calls Try.prog 7 #[] w fun e w' => e = .returned (.bool true) ∧ Below w.heap.size w w' := by
  go_enter Try.func7, Try.ntmps7
  go_wp2_with fail
  refine (nack_any _).mono ?_
  rintro e V ⟨rfl, rfl⟩
  have h1 := World.alloc_heap_new w (.cells #[.bool true, .slice none 0 0, .int .i64 0, .int .i64 0, .int .i64 0] 53)
  have hB : Below w.heap.size w (w.alloc (.cells #[.bool true, .slice none 0 0, .int .i64 0, .int .i64 0, .int .i64 0] 53)) := (Below.refl _ w).alloc (Nat.le_refl _) _
  generalize w.alloc (.cells #[.bool true, .slice none 0 0, .int .i64 0, .int .i64 0, .int .i64 0] 53) = V1 at *
  go_wp2_with fail
  refine (ask_first _ _ h1).mono ?_
  rintro e V2 ⟨rfl, e1, g, cap, r, hgz, hc, hb, hg⟩
  replace hB := below_effq hB e1 (Nat.le_refl _) hB.size
  clear h1 e1
  go_wp2_with fail
  refine (hear_first _ g cap r _ hb hg hc).mono ?_
  rintro e V3 ⟨rfl, e2, hb3⟩
  replace hB := below_effq hB e2 (Nat.le_refl _) hB.size
  clear hb hg e2
  go_wp2_with fail
  refine (hear_second _ g _ hb3).mono ?_
  rintro e V4 ⟨rfl, e3, hb4⟩
  replace hB := below_effq hB e3 (Nat.le_refl _) hB.size
  clear hb3 e3
  go_wp2_with fail
  refine (counts_at _ _ 1 0 1 _ hb4).mono ?_
  rintro e V5 ⟨rfl, hst⟩
  replace hB := bthen hB hst
  go_wp2_with fail
  go_ret
  exact ⟨rfl, hB⟩
set_option maxRecDepth 100000 in
set_option maxHeartbeats 8000000 in
theorem law_AckNil (a0_0 : Bool) (a0_1 : Int) (a0_2 : Int) (W : World) (w0_1 : (Lit.int .i64 a0_1).wf = true) (w0_2 : (Lit.int .i64 a0_2).wf = true) :
    Calls Try.prog 6 #[.agg #[.bool a0_0, .int .i64 a0_1, .int .i64 a0_2]] W fun e w' => e = .returned (.bool true) ∧ Below W.heap.size W w' := by
  clear w0_1 w0_2
  go_enter Try.func6, Try.ntmps6
  go_upto_region 0 with (fail)
  apply wp_region_seg0 (w := W) (S := [.al 1000, .q []]) (E := [.al ((fun p => .pointer (some ⟨p, 0, none⟩)), _) 1000, .q0 _]) rfl (by kernel_rfl) rfl rfl
  intro th hge hne
  refine Seg.step _ rfl ⟨by rfl, fun U hU => ?_⟩ ?_
  · go_simp; exact vp_alloc rfl rfl rfl
  refine ⟨_, by (simp only [Ent.val]; go_simp <;> exact rfl), ?_⟩
  refine Seg.step _ rfl (Or.inl ⟨by rfl, fun U hU => vp_quiet (by (go_simp <;> exact rfl))⟩) ⟨_, by (simp only [Ent.val]; go_simp <;> exact rfl), ?_⟩
  refine Seg.stop (fun U1 hU hk => ?_)
  have nb0 := hge 0 _ _ rfl
  have rb0 := (hk 0 _ _ rfl trivial).1.2 (by simp)
  clear hk hge hne
  generalize th (0 + 0) = p0_0 at *
  dsimp only at rb0
  have r_p0_0 := rb0
  clear rb0
  have n_p0_0 := nb0
  clear nb0
  have sz1 := hU.size
  have hB : Below W.heap.size W U1 := hU
  clear hU
  go_wp2_with fail
  go_loopw [3, 4] (fun k i wr => ((k = .pointer none ∧ i = .int .i64 0) ∨ (i = .int .i64 1 ∧ ∃ p, k = .pointer (some ⟨p, 0, none⟩) ∧ wr.heap[p]? = some (.cells #[.bool false, .slice none 0 0, .int .i64 0, .int .i64 0, .int .i64 0] 53 (0, 0))) ∨ i = .int .i64 2) ∧ wr.heap[p0_0]? = some (.cells #[.bool a0_0, .int .i64 a0_1, .int .i64 a0_2] 23 (0, 0)) ∧ Below W.heap.size W wr) (fun _ i _ => 3 - (intOf i).toNat)
  case atStart => exact ⟨.inl ⟨rfl, rfl⟩, r_p0_0, hB⟩
  case round =>
    clear r_p0_0 hB
    obtain ⟨hk, ha, hB⟩ := hrel
    rcases hk with ⟨rfl, rfl⟩ | ⟨rfl, p, rfl, hp⟩ | rfl
    · go_wp2_with fail
      refine (counts_nil _).mono ?_
      rintro e V0 ⟨rfl, hst⟩
      replace ha := held_onq ha hst
      replace hB := bthen hB hst
      clear hst
      have b0 := held_cell ha 0 _ rfl
      have b1 := held_cell ha 1 _ rfl
      have b2 := held_cell ha 2 _ rfl
      go_wp2_with fail
      refine (ask_nil _ _ _).mono ?_
      rintro e V1 ⟨rfl, hst⟩
      replace ha := held_onq ha hst
      replace hB := bthen hB hst
      clear hst
      clear b0 b1 b2
      have c0 := held_cell ha 0 _ rfl
      have c1 := held_cell ha 1 _ rfl
      have c2 := held_cell ha 2 _ rfl
      go_wp2_with fail
      refine (hear_nil _ _ _ _).mono ?_
      rintro e V2 ⟨rfl, hst⟩
      replace ha := held_onq ha hst
      replace hB := bthen hB hst
      clear hst
      clear c0 c1 c2
      go_wp2_with fail
      refine (open_nil _).mono ?_
      rintro e V3 ⟨rfl, hst⟩
      replace ha := held_onq ha hst
      replace hB := bthen hB hst
      clear hst
      have hnew := World.alloc_heap_new V3 (.cells #[.bool false, .slice none 0 0, .int .i64 0, .int .i64 0, .int .i64 0] 53 (0, 0))
      have hA : After V3 (V3.alloc (.cells #[.bool false, .slice none 0 0, .int .i64 0, .int .i64 0, .int .i64 0] 53 (0, 0))) := (Below.refl _ V3).alloc (Nat.le_refl _) _
      have ha2 := held_after hA ha
      have hB2 := bthen hB hA
      clear ha hB hA
      replace ha2 := hid ha2
      replace hB2 := hid hB2
      replace hnew := hid hnew
      go_wp2_with fail
      go_roundw
      case rel => exact ⟨.inr (.inl ⟨rfl, _, rfl, hnew.out⟩), ha2.out, hB2.out⟩
      case measure => simp [intOf]
    · go_wp2_with fail
      refine (counts_off p _ 0 0 0 _ hp).mono ?_
      rintro e V0 ⟨rfl, hst⟩
      replace ha := held_onq ha hst
      replace hp := held_onq hp hst
      replace hB := bthen hB hst
      clear hst
      have b0 := held_cell ha 0 _ rfl
      have b1 := held_cell ha 1 _ rfl
      have b2 := held_cell ha 2 _ rfl
      go_wp2_with fail
      refine (ask_off _ _ p _ 0 0 0 _ hp).mono ?_
      rintro e V1 ⟨rfl, hst⟩
      replace ha := held_onq ha hst
      replace hp := held_onq hp hst
      replace hB := bthen hB hst
      clear hst
      clear b0 b1 b2
      have c0 := held_cell ha 0 _ rfl
      have c1 := held_cell ha 1 _ rfl
      have c2 := held_cell ha 2 _ rfl
      go_wp2_with fail
      refine (hear_off _ _ _ p _ 0 0 0 _ hp).mono ?_
      rintro e V2 ⟨rfl, hst⟩
      replace ha := held_onq ha hst
      replace hp := held_onq hp hst
      replace hB := bthen hB hst
      clear hst
      clear c0 c1 c2
      go_wp2_with fail
      refine (open_off p _ 0 0 0 _ hp).mono ?_
      rintro e V3 ⟨rfl, hst⟩
      replace ha := held_onq ha hst
      replace hp := held_onq hp hst
      replace hB := bthen hB hst
      clear hst
      have hnew := World.alloc_heap_new V3 (.cells #[.bool false, .slice none 0 0, .int .i64 0, .int .i64 0, .int .i64 0] 53 (0, 0))
      have hA : After V3 (V3.alloc (.cells #[.bool false, .slice none 0 0, .int .i64 0, .int .i64 0, .int .i64 0] 53 (0, 0))) := (Below.refl _ V3).alloc (Nat.le_refl _) _
      have ha2 := held_after hA ha
      have hB2 := bthen hB hA
      clear ha hB hA
      replace ha2 := hid ha2
      replace hB2 := hid hB2
      replace hnew := hid hnew
      go_wp2_with fail
      go_roundw
      case rel => exact ⟨.inr (.inr rfl), ha2.out, hB2.out⟩
      case measure => simp [intOf]
    · go_wp2_with fail
      refine (knows19_any _).mono ?_
      rintro e V ⟨rfl, hst⟩
      replace hB := bthen hB hst
      go_wp2_with fail
      go_ret
      exact ⟨rfl, hB⟩

end Go.Proofs.Ythcaljelmchkcaa
