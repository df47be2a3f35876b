/- The laws of layer 15: FrameTakes, FrameBack, FrameSteady. -/
import Derived.Test.YtjmmboijpkfllaaFrame5
import Derived.Test.YtjmmboijpkfllaaFrameM
import Derived.Test.YtjmmboijpkfllaaFrame4
import Derived.Deep.DeepCutAuto
namespace Go.Proofs.Ytjmmboijpkfllaa
open Go.ChangeShapes Go.WideShapes Go.ChangeAt Go.RowKit
set_option linter.unusedVariables false

theorem ftake_of (ba : Option Addr) (bl bc : Nat) (zs : List Int) (w : World) (hsl : Sl .u8 w ba bl bc zs) (hw : ∀ n ∈ zs, (Lit.int .u8 n).wf = true) (hl : bl ≤ 100000) {c i : Int} {P : List Int} {m e : Int} (h : takFr zs = ((c, i, P), m, e)) : Calls Try.prog 12 #[.slice ba bl bc] w fun z w' => ∃ a cap, z = .returned (.tuple #[.agg #[.int .i64 c, .int .i64 i, .slice a P.length cap], .int .i64 m, .int .i64 e]) ∧ Sl .u8 w' a P.length cap P ∧ After w w' := by
  have k := ftake_any ba bl bc zs w hsl hw hl
  rw [h] at k
  exact k
theorem rftake_of (ba : Option Addr) (bl bc : Nat) (zs : List Int) (w : World) (hsl : Sl .u8 w ba bl bc zs) (hw : ∀ n ∈ zs, (Lit.int .u8 n).wf = true) (hl : bl ≤ 100000) {c i : Int} {P : List Int} {m e : Int} (h : takFr zs = ((c, i, P), m, e)) : Calls Try.prog 13 #[.slice ba bl bc] w fun z w' => ∃ a cap, z = .returned (.tuple #[.agg #[.int .i64 c, .int .i64 i, .slice a P.length cap], .int .i64 m, .int .i64 e]) ∧ Sl .u8 w' a P.length cap P ∧ After w w' := by
  have k := rftake_any ba bl bc zs w hsl hw hl
  rw [h] at k
  exact k
theorem fput_of (c i : Int) (ba : Option Addr) (bl bc : Nat) (zs : List Int) (w : World) (hl : bl ≤ 1000000) (hsl : Sl .u8 w ba bl bc zs) (hw : ∀ n ∈ zs, (Lit.int .u8 n).wf = true) {L : List Int} {e : Int} (h : putFr c i zs = (L, e)) : Calls Try.prog 8 #[.agg #[.int .i64 c, .int .i64 i, .slice ba bl bc]] w fun z w' => ∃ a cap, z = .returned (.tuple #[.slice a L.length cap, .int .i64 e]) ∧ Own .u8 5 w' w.heap.size (.slice a L.length cap) L ∧ After w w' := by
  have k := fput_any c i ba bl bc zs w hl hsl hw
  rw [h] at k
  exact k
theorem same15_self (c i : Int) (a1 a2 : Option Addr) (l k1 l2 k2 : Nat) (P : List Int) (w : World) (h1 : Sl .u8 w a1 l k1 P) (h2 : Sl .u8 w a2 l2 k2 P) (d : ∀ n ∈ P, 0 ≤ n ∧ n ≤ 255) :
    Calls Try.prog 14 #[.agg #[.int .i64 c, .int .i64 i, .slice a1 l k1], .agg #[.int .i64 c, .int .i64 i, .slice a2 l2 k2]] w fun e w' => e = .returned (.bool true) ∧ Below w.heap.size w w' := by
  have k := same15_any c i c i a1 a2 l k1 l2 k2 P P w h1 h2 d d
  rw [decide_eq_true (show c = c ∧ i = i ∧ P = P from ⟨rfl, rfl, rfl⟩)] at k
  exact k
theorem app_bd {a b : List Int} (h1 : ∀ n ∈ a, 0 ≤ n ∧ n ≤ 255) (h2 : ∀ n ∈ b, 0 ≤ n ∧ n ≤ 255) : ∀ n ∈ a ++ b, 0 ≤ n ∧ n ≤ 255 := by
  intro n hn
  rcases List.mem_append.1 hn with h | h
  · exact h1 n h
  · exact h2 n h
theorem put_bd15 {c i : Int} {zs L : List Int} (h : putFr c i zs = (L, 0)) (hb : ∀ n ∈ zs, 0 ≤ n ∧ n ≤ 255) : ∀ n ∈ L, 0 ≤ n ∧ n ≤ 255 := by
  unfold putFr isB at h
  split at h
  case isFalse => simp at h
  split at h
  case isTrue => simp at h
  rename_i hcb hn
  simp only [Bool.and_eq_true, decide_eq_true_eq] at hcb
  simp only [Prod.mk.injEq, and_true] at h
  subst h
  have hf := flS_bd (inFr c i zs) 0 0 (by omega) (by omega)
  intro n hn
  simp only [sealS, inFr, List.mem_append, List.mem_cons, List.not_mem_nil, or_false] at hn
  rcases hn with (rfl | rfl) | ((rfl | rfl | rfl | rfl) | hn) | rfl | rfl
  · omega
  · omega
  · exact hcb.1
  · exact hcb.2
  · omega
  · omega
  · exact hb n hn
  · exact hf.1
  · exact hf.2
set_option maxRecDepth 100000 in
set_option maxHeartbeats 8000000 in
theorem law_FrameTakes (a0 : Option Addr) (len0 cap0 : Nat) (z0 : List Int) (W : World) (w0 : IsRow .u8 W a0 len0 cap0 z0) :
    Calls Try.prog 4 #[.slice a0 len0 cap0] W fun e w' => e = .returned (.bool true) ∧ Below W.heap.size W w' := by
  obtain ⟨hs1, hw1⟩ := w0.sl
  generalize z0.take len0 = zs at hs1 hw1
  clear w0
  have hb1 := hid (bytes_bd hw1)
  replace hs1 := hid hs1
  replace hw1 := hid hw1
  have hB := hid (Below.refl W.heap.size W)
  by_cases cb : (2000 : Int) < len0
  case pos =>
    go_enter Try.func4, Try.ntmps4
    go_wp2_with fail
    refine (knows15_any _).mono ?_
    rintro e V ⟨rfl, hst⟩
    replace hst := hid hst
    go_wp2_with fail
    go_ret
    exact ⟨rfl, hst.out⟩
  have hl : len0 ≤ 100000 := by omega
  have pe := takFr_e zs
  have pd := takFr_bd hb1.out
  obtain ⟨⟨⟨fc, fi, fp⟩, m, ee⟩, hr⟩ : ∃ r, takFr zs = r := ⟨_, rfl⟩
  rw [hr] at pe pd
  dsimp only at pe pd
  replace hr := hid hr
  replace pd := hid pd
  go_enter Try.func4, Try.ntmps4
  go_wp2_with fail
  refine (knows15_any _).mono ?_
  rintro e V1 ⟨rfl, hA⟩
  replace hB := hid (bthen hB.out hA)
  clear hA
  go_wp2_with fail
  refine (ftake_of a0 len0 cap0 zs _ (hs1.out.below hB.out) hw1.out hl hr.out).mono ?_
  rintro e V2 ⟨r1a, r1c, rfl, hO1, hA⟩
  replace hB := hid (bthen hB.out hA)
  clear hA
  replace hO1 := hid hO1
  have nw := alloc_new V2 (.cells #[.int .i64 fc, .int .i64 fi, .slice r1a fp.length r1c] 24)
  have hA := nw.2.1
  have rm1 := nw.2.2
  clear nw
  go_upto_region 4 with (fail)
  obtain ⟨V3, hV3⟩ : ∃ X, V2.alloc (.cells #[.int .i64 fc, .int .i64 fi, .slice r1a fp.length r1c] 24) = X := ⟨_, rfl⟩
  rw [hV3] at hA rm1 ⊢
  obtain ⟨q1, hq1⟩ : ∃ X, V2.heap.size = X := ⟨_, rfl⟩
  rw [hq1] at rm1 ⊢
  replace hV3 := hid hV3
  replace hq1 := hid hq1
  replace hO1 := hid (hO1.out.below hA)
  replace hB := hid (bthen hB.out hA)
  clear hA
  replace rm1 := hid rm1
  go_wp2_with fail
  refine (rftake_of a0 len0 cap0 zs _ (hs1.out.below hB.out) hw1.out hl hr.out).mono ?_
  rintro e V4 ⟨r2a, r2c, rfl, hO2, hA⟩
  replace hO1 := hid (hO1.out.below hA)
  replace rm1 := hid (held_after hA rm1.out)
  replace hB := hid (bthen hB.out hA)
  clear hA
  replace hO2 := hid hO2
  have nw := alloc_new V4 (.cells #[.int .i64 fc, .int .i64 fi, .slice r2a fp.length r2c] 24)
  have hA := nw.2.1
  have rm2 := nw.2.2
  clear nw
  go_upto_region 5 with (fail)
  obtain ⟨V5, hV5⟩ : ∃ X, V4.alloc (.cells #[.int .i64 fc, .int .i64 fi, .slice r2a fp.length r2c] 24) = X := ⟨_, rfl⟩
  rw [hV5] at hA rm2 ⊢
  obtain ⟨q2, hq2⟩ : ∃ X, V4.heap.size = X := ⟨_, rfl⟩
  rw [hq2] at rm2 ⊢
  replace hV5 := hid hV5
  replace hq2 := hid hq2
  replace hO1 := hid (hO1.out.below hA)
  replace hO2 := hid (hO2.out.below hA)
  replace rm1 := hid (held_after hA rm1.out)
  replace hB := hid (bthen hB.out hA)
  clear hA
  replace rm2 := hid rm2
  have x0 := held_cell rm1.out 0 _ rfl
  have x1 := held_cell rm1.out 1 _ rfl
  have x2 := held_cell rm1.out 2 _ rfl
  have y0 := held_cell rm2.out 0 _ rfl
  have y1 := held_cell rm2.out 1 _ rfl
  have y2 := held_cell rm2.out 2 _ rfl
  go_wp2_with fail
  clear x0 x1 x2 y0 y1 y2
  refine (same15_self fc fi r1a r2a fp.length r1c fp.length r2c fp _ hO1.out hO2.out pd.out).mono ?_
  rintro e V6 ⟨rfl, hA⟩
  replace hO1 := hid (hO1.out.below hA)
  replace hO2 := hid (hO2.out.below hA)
  replace rm1 := hid (held_after hA rm1.out)
  replace rm2 := hid (held_after hA rm2.out)
  replace hB := hid (bthen hB.out hA)
  clear hA
  go_wp2_with fail
  refine (num15_any ee _ (by omega) (by omega)).mono ?_
  rintro e V ⟨rfl, rfl⟩
  go_wp2_with fail
  refine (num15_any ee _ (by omega) (by omega)).mono ?_
  rintro e V ⟨rfl, rfl⟩
  go_wp2_with fail
  go_ret
  exact ⟨ret_bool (by simp), hB.out⟩
set_option maxRecDepth 100000 in
set_option maxHeartbeats 8000000 in
theorem law_FrameSteady (a0 : Option Addr) (len0 cap0 : Nat) (z0 : List Int) (a1 : Option Addr) (len1 cap1 : Nat) (z1 : List Int) (W : World) (w0 : IsRow .u8 W a0 len0 cap0 z0) (w1 : IsRow .u8 W a1 len1 cap1 z1) :
    Calls Try.prog 6 #[.slice a0 len0 cap0, .slice a1 len1 cap1] W fun e w' => e = .returned (.bool true) ∧ Below W.heap.size W w' := by
  obtain ⟨hs1, hw1⟩ := w0.sl
  generalize z0.take len0 = zs at hs1 hw1
  obtain ⟨hs2, hw2⟩ := w1.sl
  generalize z1.take len1 = ms at hs2 hw2
  clear w0 w1
  have hb1 := hid (bytes_bd hw1)
  have hb2 := hid (bytes_bd hw2)
  replace hs1 := hid hs1
  replace hs2 := hid hs2
  replace hw1 := hid hw1
  replace hw2 := hid hw2
  have hB := hid (Below.refl W.heap.size W)
  by_cases cb : (2000 : Int) < len0
  case pos =>
    go_enter Try.func6, Try.ntmps6
    go_wp2_with fail
    refine (knows15_any _).mono ?_
    rintro e V ⟨rfl, hst⟩
    replace hst := hid hst
    go_wp2_with fail
    go_ret
    exact ⟨rfl, hst.out⟩
  have cb2 := cb
  by_cases cb : (2000 : Int) < len1
  case pos =>
    go_enter Try.func6, Try.ntmps6
    go_wp2_with fail
    refine (knows15_any _).mono ?_
    rintro e V ⟨rfl, hst⟩
    replace hst := hid hst
    go_wp2_with fail
    go_ret
    exact ⟨rfl, hst.out⟩
  have pe := takFr_e zs
  have pd := takFr_bd hb1.out
  obtain ⟨⟨⟨fc, fi, fp⟩, m, ee⟩, hr⟩ : ∃ r, takFr zs = r := ⟨_, rfl⟩
  have ge := takFr_e (zs ++ ms)
  obtain ⟨⟨⟨gc, gi, gp⟩, gm, gn⟩, hq⟩ : ∃ r, takFr (zs ++ ms) = r := ⟨_, rfl⟩
  rw [hr] at pe pd
  rw [hq] at ge
  dsimp only at pe pd ge
  have hs := hid (fun h => steadyF hr h hb1.out ms)
  replace hr := hid hr
  replace pd := hid pd
  replace hq := hid hq
  by_cases he : ee = 2
  · subst he
    clear hs
    go_enter Try.func6, Try.ntmps6
    go_wp2_with fail
    refine (knows15_any _).mono ?_
    rintro e V1 ⟨rfl, hA⟩
    replace hB := hid (bthen hB.out hA)
    clear hA
    go_wp2_with fail
    refine (ftake_of a0 len0 cap0 zs _ (hs1.out.below hB.out) hw1.out (by omega) hr.out).mono ?_
    rintro e V2 ⟨r1a, r1c, rfl, hO1, hA⟩
    replace hB := hid (bthen hB.out hA)
    clear hA
    replace hO1 := hid hO1
    have nw := alloc_new V2 (.cells #[.int .i64 fc, .int .i64 fi, .slice r1a fp.length r1c] 24)
    have hA := nw.2.1
    have rf := nw.2.2
    clear nw
    go_upto_region 4 with (fail)
    obtain ⟨V3, hV3⟩ : ∃ X, V2.alloc (.cells #[.int .i64 fc, .int .i64 fi, .slice r1a fp.length r1c] 24) = X := ⟨_, rfl⟩
    rw [hV3] at hA rf ⊢
    obtain ⟨qf, hqf⟩ : ∃ X, V2.heap.size = X := ⟨_, rfl⟩
    rw [hqf] at rf ⊢
    replace hV3 := hid hV3
    replace hqf := hid hqf
    replace hO1 := hid (hO1.out.below hA)
    replace hB := hid (bthen hB.out hA)
    clear hA
    replace rf := hid rf
    have nE := alloc_new V3 (.cells #[] 5)
    have ownE := Own.lit .u8 5 V3 [] V3.heap.size (Nat.le_refl _) (by simp) #[] rfl
    have hAE := nE.2.1
    have slA := (hs1.out.below hB.out).below hAE
    clear nE
    go_wp2_with (at_builtin; go_loud (refine wpList_appK rfl (.tmp 31) (.tmp 32) 22 rfl V3.heap.size 5 .u8 1 bytesOf _ [] rfl ownE a0 (len0) cap0 zs rfl slA (by simp; omega) (by decide) hAE.size ?_))
    intro a8 c8 V8 hO8 hG8 hq8
    have hA8 := ownE.grew hG8 hAE (Nat.le_refl _) hAE.size
    have ownF : Own .u8 5 V8 V3.heap.size (.slice a8 (len0) c8) zs := by first | exact hO8 | (have := hO8; rwa [List.nil_append, show ([] : List Int).length + len0 = len0 from Nat.zero_add _] at this)
    have slB := (hs2.out.below hB.out).below hA8
    clear hO8 hq8 hG8 ownE slA hAE
    try rw [show ([] : List Int).length + len0 = len0 from Nat.zero_add _]
    have hLN := hid ownF.slf.1
    go_wp2_with (at_builtin; go_loud (refine wpList_appK rfl (.tmp 33) (.tmp 34) 22 rfl V3.heap.size 5 .u8 1 bytesOf _ zs rfl ownF a1 len1 cap1 ms rfl slB (by have := hLN.out; omega) (by decide) hA8.size ?_))
    intro a9 c9 V9 hO9 hG9 hq9
    have hA := ownF.grew hG9 hA8 (Nat.le_refl _) hA8.size
    replace hO9 := hid hO9
    clear hG9 hq9 ownF slB hA8
    replace hO1 := hid (hO1.out.below hA)
    replace rf := hid (held_after hA rf.out)
    replace hB := hid (bthen hB.out hA)
    clear hA
    go_wp2_with fail
    refine (ftake_of a9 (zs.length + len1) c9 (zs ++ ms) _ hO9.out.slf (bytes_wf (app_bd hb1.out hb2.out)) (by have := hLN.out; omega) hq.out).mono ?_
    rintro e V10 ⟨r2a, r2c, rfl, hO2, hA⟩
    replace hO1 := hid (hO1.out.below hA)
    replace hO9 := hid (hO9.out.below hA)
    replace rf := hid (held_after hA rf.out)
    replace hB := hid (bthen hB.out hA)
    clear hA
    replace hO2 := hid hO2
    have nw := alloc_new V10 (.cells #[.int .i64 gc, .int .i64 gi, .slice r2a gp.length r2c] 24)
    have hA := nw.2.1
    have rg := nw.2.2
    clear nw
    go_upto_region 5 with (fail)
    obtain ⟨V11, hV11⟩ : ∃ X, V10.alloc (.cells #[.int .i64 gc, .int .i64 gi, .slice r2a gp.length r2c] 24) = X := ⟨_, rfl⟩
    rw [hV11] at hA rg ⊢
    obtain ⟨qg, hqg⟩ : ∃ X, V10.heap.size = X := ⟨_, rfl⟩
    rw [hqg] at rg ⊢
    replace hV11 := hid hV11
    replace hqg := hid hqg
    replace hO1 := hid (hO1.out.below hA)
    replace hO9 := hid (hO9.out.below hA)
    replace hO2 := hid (hO2.out.below hA)
    replace rf := hid (held_after hA rf.out)
    replace hB := hid (bthen hB.out hA)
    clear hA
    replace rg := hid rg
    have x0 := held_cell rf.out 0 _ rfl
    have x1 := held_cell rf.out 1 _ rfl
    have x2 := held_cell rf.out 2 _ rfl
    have y0 := held_cell rg.out 0 _ rfl
    have y1 := held_cell rg.out 1 _ rfl
    have y2 := held_cell rg.out 2 _ rfl
    go_wp2_with fail
    refine (num15_any 2 _ (by omega) (by omega)).mono ?_
    rintro e V ⟨rfl, rfl⟩
    go_wp2_with fail
    refine (num15_any 2 _ (by omega) (by omega)).mono ?_
    rintro e V ⟨rfl, rfl⟩
    go_wp2_with fail
    go_ret
    exact ⟨ret_bool (by simp), hB.out⟩
  · have hqq := hq.out
    rw [hs.out he] at hqq
    simp only [Prod.mk.injEq] at hqq
    obtain ⟨⟨rfl, rfl, rfl⟩, rfl, rfl⟩ := hqq
    have hee : (ee == 2) = false := by simp [he]
    replace he := hid he
    clear hs
    go_enter Try.func6, Try.ntmps6
    go_wp2_with fail
    refine (knows15_any _).mono ?_
    rintro e V1 ⟨rfl, hA⟩
    replace hB := hid (bthen hB.out hA)
    clear hA
    go_wp2_with fail
    refine (ftake_of a0 len0 cap0 zs _ (hs1.out.below hB.out) hw1.out (by omega) hr.out).mono ?_
    rintro e V2 ⟨r1a, r1c, rfl, hO1, hA⟩
    replace hB := hid (bthen hB.out hA)
    clear hA
    replace hO1 := hid hO1
    have nw := alloc_new V2 (.cells #[.int .i64 fc, .int .i64 fi, .slice r1a fp.length r1c] 24)
    have hA := nw.2.1
    have rf := nw.2.2
    clear nw
    go_upto_region 4 with (fail)
    obtain ⟨V3, hV3⟩ : ∃ X, V2.alloc (.cells #[.int .i64 fc, .int .i64 fi, .slice r1a fp.length r1c] 24) = X := ⟨_, rfl⟩
    rw [hV3] at hA rf ⊢
    obtain ⟨qf, hqf⟩ : ∃ X, V2.heap.size = X := ⟨_, rfl⟩
    rw [hqf] at rf ⊢
    replace hV3 := hid hV3
    replace hqf := hid hqf
    replace hO1 := hid (hO1.out.below hA)
    replace hB := hid (bthen hB.out hA)
    clear hA
    replace rf := hid rf
    have nE := alloc_new V3 (.cells #[] 5)
    have ownE := Own.lit .u8 5 V3 [] V3.heap.size (Nat.le_refl _) (by simp) #[] rfl
    have hAE := nE.2.1
    have slA := (hs1.out.below hB.out).below hAE
    clear nE
    go_wp2_with (at_builtin; go_loud (refine wpList_appK rfl (.tmp 31) (.tmp 32) 22 rfl V3.heap.size 5 .u8 1 bytesOf _ [] rfl ownE a0 (len0) cap0 zs rfl slA (by simp; omega) (by decide) hAE.size ?_))
    intro a8 c8 V8 hO8 hG8 hq8
    have hA8 := ownE.grew hG8 hAE (Nat.le_refl _) hAE.size
    have ownF : Own .u8 5 V8 V3.heap.size (.slice a8 (len0) c8) zs := by first | exact hO8 | (have := hO8; rwa [List.nil_append, show ([] : List Int).length + len0 = len0 from Nat.zero_add _] at this)
    have slB := (hs2.out.below hB.out).below hA8
    clear hO8 hq8 hG8 ownE slA hAE
    try rw [show ([] : List Int).length + len0 = len0 from Nat.zero_add _]
    have hLN := hid ownF.slf.1
    go_wp2_with (at_builtin; go_loud (refine wpList_appK rfl (.tmp 33) (.tmp 34) 22 rfl V3.heap.size 5 .u8 1 bytesOf _ zs rfl ownF a1 len1 cap1 ms rfl slB (by have := hLN.out; omega) (by decide) hA8.size ?_))
    intro a9 c9 V9 hO9 hG9 hq9
    have hA := ownF.grew hG9 hA8 (Nat.le_refl _) hA8.size
    replace hO9 := hid hO9
    clear hG9 hq9 ownF slB hA8
    replace hO1 := hid (hO1.out.below hA)
    replace rf := hid (held_after hA rf.out)
    replace hB := hid (bthen hB.out hA)
    clear hA
    go_wp2_with fail
    refine (ftake_of a9 (zs.length + len1) c9 (zs ++ ms) _ hO9.out.slf (bytes_wf (app_bd hb1.out hb2.out)) (by have := hLN.out; omega) hq.out).mono ?_
    rintro e V10 ⟨r2a, r2c, rfl, hO2, hA⟩
    replace hO1 := hid (hO1.out.below hA)
    replace hO9 := hid (hO9.out.below hA)
    replace rf := hid (held_after hA rf.out)
    replace hB := hid (bthen hB.out hA)
    clear hA
    replace hO2 := hid hO2
    have nw := alloc_new V10 (.cells #[.int .i64 fc, .int .i64 fi, .slice r2a fp.length r2c] 24)
    have hA := nw.2.1
    have rg := nw.2.2
    clear nw
    go_upto_region 5 with (fail)
    obtain ⟨V11, hV11⟩ : ∃ X, V10.alloc (.cells #[.int .i64 fc, .int .i64 fi, .slice r2a fp.length r2c] 24) = X := ⟨_, rfl⟩
    rw [hV11] at hA rg ⊢
    obtain ⟨qg, hqg⟩ : ∃ X, V10.heap.size = X := ⟨_, rfl⟩
    rw [hqg] at rg ⊢
    replace hV11 := hid hV11
    replace hqg := hid hqg
    replace hO1 := hid (hO1.out.below hA)
    replace hO9 := hid (hO9.out.below hA)
    replace hO2 := hid (hO2.out.below hA)
    replace rf := hid (held_after hA rf.out)
    replace hB := hid (bthen hB.out hA)
    clear hA
    replace rg := hid rg
    have x0 := held_cell rf.out 0 _ rfl
    have x1 := held_cell rf.out 1 _ rfl
    have x2 := held_cell rf.out 2 _ rfl
    have y0 := held_cell rg.out 0 _ rfl
    have y1 := held_cell rg.out 1 _ rfl
    have y2 := held_cell rg.out 2 _ rfl
    go_wp2_with fail
    refine (num15_any ee _ (by omega) (by omega)).mono ?_
    rintro e V ⟨rfl, rfl⟩
    go_wp2_with fail
    refine (num15_any 2 _ (by omega) (by omega)).mono ?_
    rintro e V ⟨rfl, rfl⟩
    go_wp2_with fail
    clear x0 x1 x2 y0 y1 y2
    refine (same15_self fc fi r1a r2a fp.length r1c fp.length r2c fp _ hO1.out hO2.out pd.out).mono ?_
    rintro e V12 ⟨rfl, hA⟩
    replace hO1 := hid (hO1.out.below hA)
    replace hO9 := hid (hO9.out.below hA)
    replace hO2 := hid (hO2.out.below hA)
    replace rf := hid (held_after hA rf.out)
    replace rg := hid (held_after hA rg.out)
    replace hB := hid (bthen hB.out hA)
    clear hA
    go_wp2_with fail
    refine (num15_any ee _ (by omega) (by omega)).mono ?_
    rintro e V ⟨rfl, rfl⟩
    go_wp2_with fail
    refine (num15_any ee _ (by omega) (by omega)).mono ?_
    rintro e V ⟨rfl, rfl⟩
    go_wp2_with fail
    go_ret
    exact ⟨ret_bool (by simp), hB.out⟩

end Go.Proofs.Ytjmmboijpkfllaa
