/- The laws of layer 33: GapsNil. -/
import Derived.Test.YtjeiclfdhdcfnaaGap4
import Derived.Laws.Tables
import Derived.Deep.DeepCutAuto
namespace Go.Proofs.Ytjeiclfdhdcfnaa
open Go.ChangeShapes Go.WideShapes Go.ChangeAt Go.RowKit
set_option linter.unusedVariables false
set_option linter.unusedSimpArgs false

set_option maxRecDepth 100000 in
set_option maxHeartbeats 16000000 in
theorem law_GapsNil (a0_0 : Int) (a0_1 : Int) (a0_2 : Int) (W : World) (w0_0 : (Lit.int .i64 a0_0).wf = true) (w0_1 : (Lit.int .i64 a0_1).wf = true) (w0_2 : (Lit.int .i64 a0_2).wf = true) :
    Calls Try.prog 5 #[.agg #[.int .i64 a0_0, .int .i64 a0_1, .int .i64 a0_2]] W fun e w' => e = .returned (.bool true) ∧ Below W.heap.size W w' := by
  clear w0_0 w0_1 w0_2
  go_enter Try.func5, Try.ntmps5
  go_upto_region 0 with (fail)
  apply wp_region_seg0 (w := W) (S := [.al 1000, .q []]) (E := [.al ((fun p => .pointer (some ⟨p, 0, none⟩)), _) 1000, .q0 _]) rfl (by kernel_rfl) rfl rfl
  intro th hge hne
  refine Seg.step _ rfl ⟨by rfl, fun U hU => ?_⟩ ?_
  · go_simp; exact vp_alloc rfl rfl rfl
  refine Seg.sa ?_
  refine Seg.sq ?_
  refine Seg.stop (fun U1 hU hk => ?_)
  have nb0 := hge 0 _ _ rfl
  have rb0 := (hk 0 _ _ rfl trivial).1.2 (by simp)
  clear hk hge hne
  generalize th (0 + 0) = p0_0 at *
  dsimp only at rb0
  have r_p0_0 := rb0
  clear rb0
  have n_p0_0 := nb0
  clear nb0
  have sz1 := hU.size
  have hB : Below W.heap.size W U1 := hU
  clear hU
  have hm := r_p0_0
  have nm := n_p0_0
  clear r_p0_0 n_p0_0
  go_wp2_with fail
  go_loopw [3, 4] (fun s ix wr => ∃ i : Nat, ix = .int .i64 i ∧ i ≤ 2 ∧ ((s = .pointer none ∧ i = 0) ∨ (0 < i ∧ ∃ B, s = .pointer (some ⟨B, 0, none⟩) ∧ wr.heap[B]? = some (.cells #[.map none] 47 (0, 0)))) ∧ wr.heap[p0_0]? = some (.cells #[.int .i64 a0_0, .int .i64 a0_1, .int .i64 a0_2] 30 (0, 0)) ∧ After W wr) (fun _ ix _ => 2 - (intOf ix).toNat)
  case atStart => exact ⟨0, rfl, by omega, .inl ⟨rfl, rfl⟩, hm, hB⟩
  case round =>
    clear hm hB sz1
    obtain ⟨i, rfl, hi, hk, hm, hB⟩ := hrel
    replace hB := hid hB
    by_cases hlt : (i : Int) < 2
    case neg =>
      clear hk hm hi
      go_wp2_with fail
      refine (knows33_any _).mono ?_
      rintro e V ⟨rfl, hA⟩
      replace hB := hid (bthen hB.out hA)
      clear hA
      go_wp2_with fail
      go_ret
      exact ⟨rfl, hB.out⟩
    have m0 := held_cell hm 0 _ rfl
    have m1 := held_cell hm 1 _ rfl
    have m2 := held_cell hm 2 _ rfl
    have wi : IntKind.i64.wrap ((i : Int) + 1) = (i : Int) + 1 := by rw [IntKind.wrap_i64]; omega
    have hi1 := hid (show i + 1 ≤ 2 by omega)
    have hlt2 := hid (show i < 2 by omega)
    replace hm := hid hm
    clear hi
    rcases hk with ⟨rfl, hi0⟩ | ⟨hi0, B, rfl, hb⟩
    · replace hi0 := hid hi0
      go_wp2_with fail
      refine (hear_nil a0_0 a0_1 a0_2 _).mono ?_
      rintro r V1 ⟨rfl, hv⟩
      obtain rfl : wr = V1 := hv.symm
      clear hv m0 m1 m2
      go_wp2_with fail
      refine (gsums_nil _).mono ?_
      rintro r V2 ⟨rfl, hA⟩
      replace hB := hid (bthen hB.out hA)
      replace hm := hid (held_after hA hm.out)
      clear hA
      go_wp2_with fail
      refine (gall_nil _).mono ?_
      rintro r V3 ⟨rfl, hv⟩
      obtain rfl : V2 = V3 := hv.symm
      clear hv
      have nw := alloc_new V2 (.cells #[.map none] 47)
      obtain ⟨V4, hV4⟩ : ∃ X, V2.alloc (.cells #[.map none] 47) = X := ⟨_, rfl⟩
      rw [hV4] at nw
      replace hB := hid (bthen hB.out nw.2.1)
      replace hm := hid (held_after nw.2.1 hm.out)
      have hq := hid nw.2.2
      clear nw
      go_wp2_with fail
      go_roundw
      case rel => exact ⟨i + 1, by simp, hi1.out, .inr ⟨by omega, _, rfl, hq.out⟩, hm.out, hB.out⟩
      case measure => simp [intOf]; have := hlt2.out; omega
    · replace hi0 := hid hi0
      replace hb := hid hb
      go_wp2_with fail
      refine (hear_un B a0_0 a0_1 a0_2 _ hb.out).mono ?_
      rintro r V1 ⟨rfl, hv⟩
      obtain rfl : wr = V1 := hv.symm
      clear hv m0 m1 m2
      go_wp2_with fail
      refine (gsums_un B _ hb.out).mono ?_
      rintro r V2 ⟨rfl, hA⟩
      replace hB := hid (bthen hB.out hA)
      replace hm := hid (held_after hA hm.out)
      replace hb := hid (held_after hA hb.out)
      clear hA
      go_wp2_with fail
      refine (gall_un B _ hb.out).mono ?_
      rintro r V3 ⟨rfl, hv⟩
      obtain rfl : V2 = V3 := hv.symm
      clear hv
      have nw := alloc_new V2 (.cells #[.map none] 47)
      obtain ⟨V4, hV4⟩ : ∃ X, V2.alloc (.cells #[.map none] 47) = X := ⟨_, rfl⟩
      rw [hV4] at nw
      replace hB := hid (bthen hB.out nw.2.1)
      replace hm := hid (held_after nw.2.1 hm.out)
      have hq := hid nw.2.2
      clear nw
      go_wp2_with fail
      go_roundw
      case rel => exact ⟨i + 1, by simp, hi1.out, .inr ⟨by omega, _, rfl, hq.out⟩, hm.out, hB.out⟩
      case measure => simp [intOf]; have := hlt2.out; omega

end Go.Proofs.Ytjeiclfdhdcfnaa
