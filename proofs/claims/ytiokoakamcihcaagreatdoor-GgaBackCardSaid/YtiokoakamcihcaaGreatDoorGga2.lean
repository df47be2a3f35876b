/- Package gga: the small functions that read. -/
import Derived.Test.YtiokoakamcihcaaGreatDoorGga
import Derived.Test.YtiokoakamcihcaaGreatDoorClock7
import Derived.Test.YtiokoakamcihcaaGreatDoorClock11
import Derived.Deep.DeepCutAuto
namespace Go.Proofs.YtiokoakamcihcaaGreatDoor
open Go.ChangeShapes Go.WideShapes Go.ChangeAt Go.RowKit
set_option linter.unusedVariables false
set_option linter.unusedSimpArgs false

theorem els_offG {w w' : World} {p : Nat} {a : Option Addr} {len cap : Nat} {F : List ByteArray} {c : Array Value} {T : TypeId} (h : Els w 1 a len cap (strV23 F)) (hp : w.heap[p]? = some (.cells c T (0, 0))) (hns : ∀ (j : Nat) (s : ByteArray), c[j]? ≠ some (.string s)) (k : Only p w w') : Els w' 1 a len cap (strV23 F) := by
  refine ⟨h.1, h.2.1, h.2.2.1, h.2.2.2.1, fun i x hx => ?_⟩
  obtain ⟨h1, b, off, e, hc⟩ := h.2.2.2.2 i x hx
  refine ⟨h1, b, off, e, fun j u hj => ?_⟩
  have hb : b ≠ p := by
    intro e2
    subst e2
    have hc2 := hc j u hj
    rw [cell_of_row w b (off + i * 1 + j) _ T (0, 0) hp] at hc2
    obtain ⟨f, -, rfl⟩ : ∃ f, f ∈ F ∧ strC23 f = x := by
      have := List.mem_of_getElem? hx
      exact List.mem_map.1 this
    have hu : u = .string f := by
      match j, hj with
      | 0, hj => simpa [strC23] using hj.symm
      | j + 1, hj => simp [strC23] at hj
    subst hu
    exact hns _ _ hc2
  exact (World.cell?_of_block (w := w) (a := ⟨b, off + i * 1 + j, none⟩) (k.block b hb)).trans (hc j u hj)
theorem EyeIn.off {w w' : World} {B p : Nat} {e : Int} {L : List ByteArray} {c : Array Value} {T : TypeId} (h : EyeIn w B e L) (k : Only p w w') (hne : p ≠ B) (hp : w.heap[p]? = some (.cells c T (0, 0))) (hns : ∀ (j : Nat) (s : ByteArray), c[j]? ≠ some (.string s)) : EyeIn w' B e L := by
  obtain ⟨a, cap, h1, h2, h3⟩ := h
  exact ⟨a, cap, (k.block B hne.symm).trans h1, els_offG h2 hp hns k, h3⟩
theorem RowR.offG {w w' : World} {B p : Nat} {e : Int} {L : List ByteArray} {c : Array Value} {T : TypeId} (h : RowR w B e L) (k : Only p w w') (hne : p ≠ B) (hp : w.heap[p]? = some (.cells c T (0, 0))) (hns : ∀ (j : Nat) (s : ByteArray), c[j]? ≠ some (.string s)) : RowR w' B e L := by
  obtain ⟨F, a, cap, i, h1, h2, h3, h4, h5, h6⟩ := h
  exact ⟨F, a, cap, i, h1, h2, h3, (k.block B hne.symm).trans h4, els_offG h5 hp hns k, h6⟩
theorem seqC (u : ByteArray) (l : List UInt8) : (u.toList == l) = decide (u = ⟨l.toArray⟩) := by
  rw [ByteArray.toList_eq]
  by_cases h : u = ⟨l.toArray⟩
  · subst h; simp
  · rw [decide_eq_false h]
    refine beq_false_of_ne fun e => h ?_
    subst e
    rfl
theorem enumC (B : Nat) (e : Int) (s : ByteArray) (R : List ByteArray) (W M F lo hi : Int) {i : Bool} {n x : Int} (htd : takD s W M F lo hi = (i, n, x)) (w : World) (hP : EyeIn w B e (s :: R)) (hl : (s :: R).length ≤ 1000) (hs : ∀ t ∈ s :: R, t.size ≤ 1000) (hlb : (-9223372036854775808 ≤ lo ∧ lo ≤ 9223372036854775807) ∧ (-9223372036854775808 ≤ hi ∧ hi ≤ 9223372036854775807)) : Calls Tryz.prog 37 #[.pointer (some ⟨B, 0, none⟩), .agg #[.int .i64 W, .int .i64 M, .int .i64 F, .int .i64 lo, .int .i64 hi]] w fun r w' => r = .returned (.agg #[.bool i, .int .i64 n]) ∧ EyeIn w' B (kp e x) R ∧ Eff B w w' := by
  have h : nmS e (s :: R) W M F lo hi = ((i, n), kp e x, R) := by unfold nmS; dsimp only [txS]; rw [htd]
  have k := enum_any B e (s :: R) W M F lo hi w hP hl hs hlb
  rw [h] at k
  exact k
theorem rtakenumC (B : Nat) (e : Int) (s : ByteArray) (R : List ByteArray) (W M F lo hi : Int) {i : Bool} {n x : Int} (htd : takD s W M F lo hi = (i, n, x)) (w : World) (hP : RowR w B e (s :: R)) (hs : ∀ t ∈ s :: R, t.size ≤ 1000) (hlb : (-9223372036854775808 ≤ lo ∧ lo ≤ 9223372036854775807) ∧ (-9223372036854775808 ≤ hi ∧ hi ≤ 9223372036854775807)) : Calls Tryz.prog 45 #[.pointer (some ⟨B, 0, none⟩), .agg #[.int .i64 W, .int .i64 M, .int .i64 F, .int .i64 lo, .int .i64 hi]] w fun r w' => r = .returned (.agg #[.bool i, .int .i64 n]) ∧ RowR w' B (kp e x) R ∧ Eff B w w' := by
  have h : nmS e (s :: R) W M F lo hi = ((i, n), kp e x, R) := by unfold nmS; dsimp only [txS]; rw [htd]
  have k := rtakenum_any B e (s :: R) W M F lo hi w hP hs hlb
  rw [h] at k
  exact k
theorem eangC (B : Nat) (e : Int) (s t : ByteArray) (R : List ByteArray) (lat : Bool) {i : Bool} {n x : Int} (htd : tkaD s t lat = (i, n, x)) (w : World) (hP : EyeIn w B e (s :: t :: R)) (hl : (s :: t :: R).length ≤ 1000) (hs : ∀ u ∈ s :: t :: R, u.size ≤ 1000) : Calls Tryz.prog 36 #[.pointer (some ⟨B, 0, none⟩), .bool lat] w fun r w' => r = .returned (.agg #[.bool i, .int .i64 n]) ∧ EyeIn w' B (kp e x) R ∧ Eff B w w' := by
  have h : agS e (s :: t :: R) lat = ((i, n), kp e x, R) := by unfold agS; dsimp only [txS]; rw [htd]
  have k := eang_any B e (s :: t :: R) lat w hP hl hs
  rw [h] at k
  exact k
theorem rtakeangC (B : Nat) (e : Int) (s t : ByteArray) (R : List ByteArray) (lat : Bool) {i : Bool} {n x : Int} (htd : tkaD s t lat = (i, n, x)) (w : World) (hP : RowR w B e (s :: t :: R)) (hs : ∀ u ∈ s :: t :: R, u.size ≤ 1000) : Calls Tryz.prog 43 #[.pointer (some ⟨B, 0, none⟩), .bool lat] w fun r w' => r = .returned (.agg #[.bool i, .int .i64 n]) ∧ RowR w' B (kp e x) R ∧ Eff B w w' := by
  have h : agS e (s :: t :: R) lat = ((i, n), kp e x, R) := by unfold agS; dsimp only [txS]; rw [htd]
  have k := rtakeang_any B e (s :: t :: R) lat w hP hs
  rw [h] at k
  exact k
set_option maxRecDepth 100000 in
set_option maxHeartbeats 4000000 in
theorem etime_any (B : Nat) (e : Int) (s : ByteArray) (R : List ByteArray) {b : Bool} {h m c2 c k : Int} (hV : takeV (sb s) = .tuple #[.agg #[.bool b, .int .i64 h, .int .i64 m, .int .i64 c2, .int .i64 c], .int .i64 k]) (w : World) (hP : EyeIn w B e (s :: R)) (hl : (s :: R).length ≤ 1000) (hs : s.size ≤ 1000) : Calls Tryz.prog 39 #[.agg #[.pointer (some ⟨B, 0, none⟩)]] w fun r w' => r = .returned (.agg #[.bool b, .int .i64 h, .int .i64 m, .int .i64 c2, .int .i64 c]) ∧ EyeIn w' B (kp e k) R ∧ Eff B w w' := by
  have kx := hid (fun U h => etextC B e s R U h hl)
  have kT := hid (fun U => hV ▸ take_any s U (by omega))
  have kf := hid (fun U h => efail_any B e k R U h)
  clear hV hl hs
  have hlt := hP.lt
  replace hP := hid hP
  go_enter Tryz.func39, Tryz.ntmps39
  go_upto_region 0 with (fail)
  apply wp_region_seg0 (w := w) (S := [.al 1000, .al 1000]) (E := [.al ((fun p => .pointer (some ⟨p, 0, none⟩)), _) 1000, .al ((fun p => .pointer (some ⟨p, 0, none⟩)), _) 1000]) rfl (by kernel_rfl) rfl rfl
  intro th hge hne
  refine Seg.step _ rfl ⟨by rfl, fun U hU => ?_⟩ ?_
  · go_simp; exact vp_alloc rfl rfl rfl
  refine ⟨_, by (simp only [Ent.val]; go_simp <;> exact rfl), ?_⟩
  refine Seg.step _ rfl ⟨by rfl, fun U hU => ?_⟩ ?_
  · go_simp; exact vp_alloc rfl rfl rfl
  refine ⟨_, by (simp only [Ent.val]; go_simp <;> exact rfl), ?_⟩
  refine Seg.stop (fun U1 hU hk => ?_)
  have nb0 := hge 0 _ _ rfl
  have rb0 := (hk 0 _ _ rfl trivial).1.2 (by simp)
  have nb1 := hge 1 _ _ rfl
  have rb1 := (hk 1 _ _ rfl trivial).1.2 (by simp)
  have ne0_1 := hne 0 1 _ _ _ _ rfl rfl (by omega)
  clear hk hge hne
  generalize th (0 + 0) = p0_0 at *
  dsimp only at rb0
  generalize th (0 + 1) = p0_1 at *
  dsimp only at rb1
  have r_p0_0 := rb0
  clear rb0
  have n_p0_0 := nb0
  clear nb0
  have d_p0_0_p0_1 := ne0_1
  clear ne0_1
  have r_p0_1 := rb1
  clear rb1
  have n_p0_1 := nb1
  clear nb1
  have sz1 := hU.size
  have hB : Below w.heap.size w U1 := hU
  clear hU
  replace hP := hid (hP.out.aft hB)
  have hef := hid (eff_after24 (g := B) hB)
  clear hB
  have r0 := hid r_p0_0
  have hb_r0 : p0_0 ≠ B := by omega
  have r1 := hid r_p0_1
  have hb_r1 : p0_1 ≠ B := by omega
  clear r_p0_0 r_p0_1
  have x0 := held_cell r0.out 0 _ rfl
  go_wp2_with fail
  refine (kx.out _ hP.out).mono ?_
  rintro r V1 ⟨rfl, hP2, hf2⟩
  replace hP := hid hP2
  clear hP2
  replace r0 := hid (eff_block24 hf2 r0.out hb_r0)
  replace r1 := hid (eff_block24 hf2 r1.out hb_r1)
  replace hef := hid (eff_trans24 hef.out hf2)
  clear hf2
  clear x0
  have x0 := held_cell r0.out 0 _ rfl
  go_wp2_with fail
  refine (kT.out _).mono ?_
  rintro r V2 ⟨rfl, hA⟩
  replace hP := hid (hP.out.aft hA)
  replace r0 := hid (held_after hA r0.out)
  replace r1 := hid (held_after hA r1.out)
  replace hef := hid (eff_trans24 hef.out (eff_after24 hA))
  clear hA
  clear x0
  have nw := alloc_new V2 (.cells #[.bool b, .int .i64 h, .int .i64 m, .int .i64 c2, .int .i64 c] 23)
  have hA := nw.2.1
  have r2 := nw.2.2
  clear nw
  have hlB := hP.out.lt
  go_upto_region 2 with (fail)
  obtain ⟨V3, hV3⟩ : ∃ X, V2.alloc (.cells #[.bool b, .int .i64 h, .int .i64 m, .int .i64 c2, .int .i64 c] 23) = X := ⟨_, rfl⟩
  rw [hV3] at hA r2 ⊢
  obtain ⟨q2, hq2⟩ : ∃ X, V2.heap.size = X := ⟨_, rfl⟩
  have hb_r2 : q2 ≠ B := by omega
  rw [hq2] at r2 ⊢
  replace hV3 := hid hV3
  replace hq2 := hid hq2
  clear hlB
  replace hP := hid (hP.out.aft hA)
  replace r0 := hid (held_after hA r0.out)
  replace r1 := hid (held_after hA r1.out)
  replace hef := hid (eff_trans24 hef.out (eff_after24 hA))
  clear hA
  replace r2 := hid r2
  have x0 := held_cell r0.out 0 _ rfl
  go_wp2_with fail
  refine (kf.out _ hP.out).mono ?_
  rintro r V4 ⟨rfl, hP2, hf2⟩
  replace hP := hid hP2
  clear hP2
  replace r0 := hid (eff_block24 hf2 r0.out hb_r0)
  replace r1 := hid (eff_block24 hf2 r1.out hb_r1)
  replace r2 := hid (eff_block24 hf2 r2.out hb_r2)
  replace hef := hid (eff_trans24 hef.out hf2)
  clear hf2
  clear x0
  have z0 := held_cell r2.out 0 _ rfl
  have z1 := held_cell r2.out 1 _ rfl
  have z2 := held_cell r2.out 2 _ rfl
  have z3 := held_cell r2.out 3 _ rfl
  have z4 := held_cell r2.out 4 _ rfl
  have q1 := r1.out
  have k0 := held_cell q1 0 _ rfl
  have k1 := held_cell q1 1 _ rfl
  have k2 := held_cell q1 2 _ rfl
  have k3 := held_cell q1 3 _ rfl
  have k4 := held_cell q1 4 _ rfl
  have g0 := held_free q1 0
  have g1 := held_free q1 1
  have g2 := held_free q1 2
  have g3 := held_free q1 3
  have g4 := held_free q1 4
  obtain ⟨W9, hW9, ya, yO⟩ := st5 q1 (.bool b) (.int .i64 h) (.int .i64 m) (.int .i64 c2) (.int .i64 c)
  have hef4 := hid (eff_new24 hef.out yO (by omega))
  have hP9 := hid (hP.out.off yO hb_r1 q1 (by intro j s h; match j, h with | 0, h => simp at h | 1, h => simp at h | 2, h => simp at h | 3, h => simp at h | 4, h => simp at h | j + 5, h => simp at h))
  have ez0 := held_cell ya 0 _ rfl
  have ez1 := held_cell ya 1 _ rfl
  have ez2 := held_cell ya 2 _ rfl
  have ez3 := held_cell ya 3 _ rfl
  have ez4 := held_cell ya 4 _ rfl
  clear ya yO q1
  go_wp2_with fail
  refine bodyPost_ret (v := .agg #[.bool b, .int .i64 h, .int .i64 m, .int .i64 c2, .int .i64 c]) (by simp [results, Tryz.results39, go_sem, ez0, ez1, ez2, ez3, ez4]) rfl ⟨rfl, hP9.out, hef4.out⟩
set_option maxRecDepth 100000 in
set_option maxHeartbeats 4000000 in
theorem rtakeclock_any (B : Nat) (e : Int) (s : ByteArray) (R : List ByteArray) {b : Bool} {h m c2 c k : Int} (hV : takeV (sb s) = .tuple #[.agg #[.bool b, .int .i64 h, .int .i64 m, .int .i64 c2, .int .i64 c], .int .i64 k]) (w : World) (hP : RowR w B e (s :: R)) (hl : (s :: R).length ≤ 1000) (hs : s.size ≤ 1000) : Calls Tryz.prog 42 #[.pointer (some ⟨B, 0, none⟩)] w fun r w' => r = .returned (.agg #[.bool b, .int .i64 h, .int .i64 m, .int .i64 c2, .int .i64 c]) ∧ RowR w' B (kp e k) R ∧ Eff B w w' := by
  have kx := hid (fun U h => rtextC B e s R U h)
  have kT := hid (fun U => hV ▸ rtake_any s U (by omega))
  have kf := hid (fun U h => rfirstR_any B e k R U h)
  clear hV hl hs
  have hlt := hP.lt
  replace hP := hid hP
  go_enter Tryz.func42, Tryz.ntmps42
  go_upto_region 0 with (fail)
  apply wp_region_seg0 (w := w) (S := [.al 1000]) (E := [.al ((fun p => .pointer (some ⟨p, 0, none⟩)), _) 1000]) rfl (by kernel_rfl) rfl rfl
  intro th hge hne
  refine Seg.step _ rfl ⟨by rfl, fun U hU => ?_⟩ ?_
  · go_simp; exact vp_alloc rfl rfl rfl
  refine ⟨_, by (simp only [Ent.val]; go_simp <;> exact rfl), ?_⟩
  refine Seg.stop (fun U1 hU hk => ?_)
  have nb0 := hge 0 _ _ rfl
  have rb0 := (hk 0 _ _ rfl trivial).1.2 (by simp)
  clear hk hge hne
  generalize th (0 + 0) = p0_0 at *
  dsimp only at rb0
  have r_p0_0 := rb0
  clear rb0
  have n_p0_0 := nb0
  clear nb0
  have sz1 := hU.size
  have hB : Below w.heap.size w U1 := hU
  clear hU
  replace hP := hid (hP.out.aft hB)
  have hef := hid (eff_after24 (g := B) hB)
  clear hB
  have r0 := hid r_p0_0
  have hb_r0 : p0_0 ≠ B := by omega
  clear r_p0_0
  go_wp2_with fail
  refine (kx.out _ hP.out).mono ?_
  rintro r V1 ⟨rfl, hP2, hf2⟩
  replace hP := hid hP2
  clear hP2
  replace r0 := hid (eff_block24 hf2 r0.out hb_r0)
  replace hef := hid (eff_trans24 hef.out hf2)
  clear hf2
  go_wp2_with fail
  refine (kT.out _).mono ?_
  rintro r V2 ⟨rfl, hA⟩
  replace hP := hid (hP.out.aft hA)
  replace r0 := hid (held_after hA r0.out)
  replace hef := hid (eff_trans24 hef.out (eff_after24 hA))
  clear hA
  have nw := alloc_new V2 (.cells #[.bool b, .int .i64 h, .int .i64 m, .int .i64 c2, .int .i64 c] 23)
  have hA := nw.2.1
  have r2 := nw.2.2
  clear nw
  have hlB := hP.out.lt
  go_upto_region 2 with (fail)
  obtain ⟨V3, hV3⟩ : ∃ X, V2.alloc (.cells #[.bool b, .int .i64 h, .int .i64 m, .int .i64 c2, .int .i64 c] 23) = X := ⟨_, rfl⟩
  rw [hV3] at hA r2 ⊢
  obtain ⟨q2, hq2⟩ : ∃ X, V2.heap.size = X := ⟨_, rfl⟩
  have hb_r2 : q2 ≠ B := by omega
  rw [hq2] at r2 ⊢
  replace hV3 := hid hV3
  replace hq2 := hid hq2
  clear hlB
  replace hP := hid (hP.out.aft hA)
  replace r0 := hid (held_after hA r0.out)
  replace hef := hid (eff_trans24 hef.out (eff_after24 hA))
  clear hA
  replace r2 := hid r2
  go_wp2_with fail
  refine (kf.out _ hP.out).mono ?_
  rintro r V4 ⟨rfl, hP2, hf2⟩
  replace hP := hid hP2
  clear hP2
  replace r0 := hid (eff_block24 hf2 r0.out hb_r0)
  replace r2 := hid (eff_block24 hf2 r2.out hb_r2)
  replace hef := hid (eff_trans24 hef.out hf2)
  clear hf2
  have z0 := held_cell r2.out 0 _ rfl
  have z1 := held_cell r2.out 1 _ rfl
  have z2 := held_cell r2.out 2 _ rfl
  have z3 := held_cell r2.out 3 _ rfl
  have z4 := held_cell r2.out 4 _ rfl
  have q1 := r0.out
  have k0 := held_cell q1 0 _ rfl
  have k1 := held_cell q1 1 _ rfl
  have k2 := held_cell q1 2 _ rfl
  have k3 := held_cell q1 3 _ rfl
  have k4 := held_cell q1 4 _ rfl
  have g0 := held_free q1 0
  have g1 := held_free q1 1
  have g2 := held_free q1 2
  have g3 := held_free q1 3
  have g4 := held_free q1 4
  obtain ⟨W9, hW9, ya, yO⟩ := st5 q1 (.bool b) (.int .i64 h) (.int .i64 m) (.int .i64 c2) (.int .i64 c)
  have hef4 := hid (eff_new24 hef.out yO (by omega))
  have hP9 := hid (hP.out.offG yO hb_r0 q1 (by intro j s h; match j, h with | 0, h => simp at h | 1, h => simp at h | 2, h => simp at h | 3, h => simp at h | 4, h => simp at h | j + 5, h => simp at h))
  have ez0 := held_cell ya 0 _ rfl
  have ez1 := held_cell ya 1 _ rfl
  have ez2 := held_cell ya 2 _ rfl
  have ez3 := held_cell ya 3 _ rfl
  have ez4 := held_cell ya 4 _ rfl
  clear ya yO q1
  go_wp2_with fail
  refine bodyPost_ret (v := .agg #[.bool b, .int .i64 h, .int .i64 m, .int .i64 c2, .int .i64 c]) (by simp [results, Tryz.results42, go_sem, ez0, ez1, ez2, ez3, ez4]) rfl ⟨rfl, hP9.out, hef4.out⟩
set_option maxRecDepth 100000 in
set_option maxHeartbeats 4000000 in
theorem equal_any (B : Nat) (e : Int) (s : ByteArray) (R : List ByteArray) (w : World) (hP : EyeIn w B e (s :: R)) (hl : (s :: R).length ≤ 1000) : Calls Tryz.prog 40 #[.agg #[.pointer (some ⟨B, 0, none⟩)]] w fun r w' => r = .returned (.int .i64 (dgS s 0 8).1) ∧ EyeIn w' B (kp e (dgS s 0 8).2) R ∧ Eff B w w' := by
  have k0 : kp e 0 = e := by unfold kp; split <;> omega
  have kx := hid (fun U h => etextC B e s R U h hl)
  have kf := hid (fun U x h => efail_any B e x R U h)
  clear hl
  by_cases c1 : s.size = 1
  case neg =>
    have hd : dgS s 0 8 = (0, 3) := by unfold dgS; rw [if_neg (by omega)]
    rw [hd]
    dsimp only
    clear hd
    replace k0 := hid k0
    have b1 : ((s.size : Int) != 1) = true := by simp; omega
    have b2 : ((s.size : Int) == 1) = false := by simp; omega
    have hlt := hP.lt
    replace hP := hid hP
    go_enter Tryz.func40, Tryz.ntmps40
    go_upto_region 0 with (fail)
    apply wp_region_seg0 (w := w) (S := [.al 1000, .q []]) (E := [.al ((fun p => .pointer (some ⟨p, 0, none⟩)), _) 1000, .q0 _]) rfl (by kernel_rfl) rfl rfl
    intro th hge hne
    refine Seg.step _ rfl ⟨by rfl, fun U hU => ?_⟩ ?_
    · go_simp; exact vp_alloc rfl rfl rfl
    refine ⟨_, by (simp only [Ent.val]; go_simp <;> exact rfl), ?_⟩
    refine Seg.step _ rfl (Or.inl ⟨by rfl, fun U hU => vp_quiet (by (go_simp <;> exact rfl))⟩) ⟨_, by (simp only [Ent.val]; go_simp <;> exact rfl), ?_⟩
    refine Seg.stop (fun U1 hU hk => ?_)
    have nb0 := hge 0 _ _ rfl
    have rb0 := (hk 0 _ _ rfl trivial).1.2 (by simp)
    clear hk hge hne
    generalize th (0 + 0) = p0_0 at *
    dsimp only at rb0
    have r_p0_0 := rb0
    clear rb0
    have n_p0_0 := nb0
    clear nb0
    have sz1 := hU.size
    have hB : Below w.heap.size w U1 := hU
    clear hU
    replace hP := hid (hP.out.aft hB)
    have hef := hid (eff_after24 (g := B) hB)
    clear hB
    have r0 := hid r_p0_0
    have hb_r0 : p0_0 ≠ B := by omega
    clear r_p0_0
    have x0 := held_cell r0.out 0 _ rfl
    go_wp2_with fail
    refine (kx.out _ hP.out).mono ?_
    rintro r V1 ⟨rfl, hP2, hf2⟩
    replace hP := hid hP2
    clear hP2
    replace r0 := hid (eff_block24 hf2 r0.out hb_r0)
    replace hef := hid (eff_trans24 hef.out hf2)
    clear hf2
    clear x0
    have x0 := held_cell r0.out 0 _ rfl
    go_wp2_with fail
    refine (kf.out _ 3 hP.out).mono ?_
    rintro r V2 ⟨rfl, hP2, hf2⟩
    replace hP := hid hP2
    clear hP2
    replace r0 := hid (eff_block24 hf2 r0.out hb_r0)
    replace hef := hid (eff_trans24 hef.out hf2)
    clear hf2
    clear x0
    go_wp2_with fail
    go_ret
    exact ⟨rfl, hP.out, hef.out⟩
  obtain ⟨c, hc⟩ : ∃ c, (sb s).getD 0 0 = c := ⟨_, rfl⟩
  have hix := fun W => tidx (P := Tryz.prog) 9 Tryz.underlying9 s 0 c (by omega) hc .i64 0 rfl W
  have hcb : c ≤ 255 := by rw [← hc, List.getD_eq_getElem?_getD, List.getElem?_eq_getElem (show 0 < (sb s).length by rw [sb_len]; omega)]; have := sb_lt s _ (List.getElem_mem (show 0 < (sb s).length by rw [sb_len]; omega)); simp only [Option.getD_some]; omega
  have b1 : ((s.size : Int) != 1) = false := by simp; omega
  have b2 : ((s.size : Int) == 1) = true := by simp; omega
  by_cases c2 : c < 48
  case pos =>
    have hd : dgS s 0 8 = (0, 3) := by unfold dgS; rw [if_neg (by omega)]
    rw [hd]
    dsimp only
    clear hd
    replace k0 := hid k0
    have b3 : decide ((c : Int) < 48) = true := by simp; omega
    clear hc c1
    have hlt := hP.lt
    replace hP := hid hP
    go_enter Tryz.func40, Tryz.ntmps40
    go_upto_region 0 with (fail)
    apply wp_region_seg0 (w := w) (S := [.al 1000, .q []]) (E := [.al ((fun p => .pointer (some ⟨p, 0, none⟩)), _) 1000, .q0 _]) rfl (by kernel_rfl) rfl rfl
    intro th hge hne
    refine Seg.step _ rfl ⟨by rfl, fun U hU => ?_⟩ ?_
    · go_simp; exact vp_alloc rfl rfl rfl
    refine ⟨_, by (simp only [Ent.val]; go_simp <;> exact rfl), ?_⟩
    refine Seg.step _ rfl (Or.inl ⟨by rfl, fun U hU => vp_quiet (by (go_simp <;> exact rfl))⟩) ⟨_, by (simp only [Ent.val]; go_simp <;> exact rfl), ?_⟩
    refine Seg.stop (fun U1 hU hk => ?_)
    have nb0 := hge 0 _ _ rfl
    have rb0 := (hk 0 _ _ rfl trivial).1.2 (by simp)
    clear hk hge hne
    generalize th (0 + 0) = p0_0 at *
    dsimp only at rb0
    have r_p0_0 := rb0
    clear rb0
    have n_p0_0 := nb0
    clear nb0
    have sz1 := hU.size
    have hB : Below w.heap.size w U1 := hU
    clear hU
    replace hP := hid (hP.out.aft hB)
    have hef := hid (eff_after24 (g := B) hB)
    clear hB
    have r0 := hid r_p0_0
    have hb_r0 : p0_0 ≠ B := by omega
    clear r_p0_0
    have x0 := held_cell r0.out 0 _ rfl
    go_wp2_with fail
    refine (kx.out _ hP.out).mono ?_
    rintro r V1 ⟨rfl, hP2, hf2⟩
    replace hP := hid hP2
    clear hP2
    replace r0 := hid (eff_block24 hf2 r0.out hb_r0)
    replace hef := hid (eff_trans24 hef.out hf2)
    clear hf2
    clear x0
    have x0 := held_cell r0.out 0 _ rfl
    go_wp2_with fail
    refine (kf.out _ 3 hP.out).mono ?_
    rintro r V2 ⟨rfl, hP2, hf2⟩
    replace hP := hid hP2
    clear hP2
    replace r0 := hid (eff_block24 hf2 r0.out hb_r0)
    replace hef := hid (eff_trans24 hef.out hf2)
    clear hf2
    clear x0
    go_wp2_with fail
    go_ret
    exact ⟨rfl, hP.out, hef.out⟩
  have b3 : decide ((c : Int) < 48) = false := by simp; omega
  by_cases c3 : 57 < c
  case pos =>
    have hd : dgS s 0 8 = (0, 3) := by unfold dgS; rw [if_neg (by omega)]
    rw [hd]
    dsimp only
    clear hd
    replace k0 := hid k0
    have b4 : decide ((57 : Int) < (c : Int)) = true := by simp; omega
    clear hc c1
    have hlt := hP.lt
    replace hP := hid hP
    go_enter Tryz.func40, Tryz.ntmps40
    go_upto_region 0 with (fail)
    apply wp_region_seg0 (w := w) (S := [.al 1000, .q []]) (E := [.al ((fun p => .pointer (some ⟨p, 0, none⟩)), _) 1000, .q0 _]) rfl (by kernel_rfl) rfl rfl
    intro th hge hne
    refine Seg.step _ rfl ⟨by rfl, fun U hU => ?_⟩ ?_
    · go_simp; exact vp_alloc rfl rfl rfl
    refine ⟨_, by (simp only [Ent.val]; go_simp <;> exact rfl), ?_⟩
    refine Seg.step _ rfl (Or.inl ⟨by rfl, fun U hU => vp_quiet (by (go_simp <;> exact rfl))⟩) ⟨_, by (simp only [Ent.val]; go_simp <;> exact rfl), ?_⟩
    refine Seg.stop (fun U1 hU hk => ?_)
    have nb0 := hge 0 _ _ rfl
    have rb0 := (hk 0 _ _ rfl trivial).1.2 (by simp)
    clear hk hge hne
    generalize th (0 + 0) = p0_0 at *
    dsimp only at rb0
    have r_p0_0 := rb0
    clear rb0
    have n_p0_0 := nb0
    clear nb0
    have sz1 := hU.size
    have hB : Below w.heap.size w U1 := hU
    clear hU
    replace hP := hid (hP.out.aft hB)
    have hef := hid (eff_after24 (g := B) hB)
    clear hB
    have r0 := hid r_p0_0
    have hb_r0 : p0_0 ≠ B := by omega
    clear r_p0_0
    have x0 := held_cell r0.out 0 _ rfl
    go_wp2_with fail
    refine (kx.out _ hP.out).mono ?_
    rintro r V1 ⟨rfl, hP2, hf2⟩
    replace hP := hid hP2
    clear hP2
    replace r0 := hid (eff_block24 hf2 r0.out hb_r0)
    replace hef := hid (eff_trans24 hef.out hf2)
    clear hf2
    clear x0
    have x0 := held_cell r0.out 0 _ rfl
    go_wp2_with fail
    refine (kf.out _ 3 hP.out).mono ?_
    rintro r V2 ⟨rfl, hP2, hf2⟩
    replace hP := hid hP2
    clear hP2
    replace r0 := hid (eff_block24 hf2 r0.out hb_r0)
    replace hef := hid (eff_trans24 hef.out hf2)
    clear hf2
    clear x0
    go_wp2_with fail
    go_ret
    exact ⟨rfl, hP.out, hef.out⟩
  have b4 : decide ((57 : Int) < (c : Int)) = false := by simp; omega
  have e1 : ((c : Int) - 48) % 256 = (c : Int) - 48 := by omega
  have e2 : IntKind.i64.wrap ((c : Int) - 48) = (c : Int) - 48 := by simp [IntKind.wrap, IntKind.bits, IntKind.signed]; omega
  by_cases c5 : 8 < (c : Int) - 48
  case pos =>
    have hd : dgS s 0 8 = ((c : Int) - 48, 5) := by unfold dgS; rw [if_pos (by omega), hc, if_pos (by omega)]
    rw [hd]
    dsimp only
    clear hd
    replace k0 := hid k0
    have b5 : decide ((8 : Int) < (c : Int) - 48) = true := by simp; omega
    clear hc c1 c2 c3 c5
    have hlt := hP.lt
    replace hP := hid hP
    go_enter Tryz.func40, Tryz.ntmps40
    go_upto_region 0 with (fail)
    apply wp_region_seg0 (w := w) (S := [.al 1000, .q []]) (E := [.al ((fun p => .pointer (some ⟨p, 0, none⟩)), _) 1000, .q0 _]) rfl (by kernel_rfl) rfl rfl
    intro th hge hne
    refine Seg.step _ rfl ⟨by rfl, fun U hU => ?_⟩ ?_
    · go_simp; exact vp_alloc rfl rfl rfl
    refine ⟨_, by (simp only [Ent.val]; go_simp <;> exact rfl), ?_⟩
    refine Seg.step _ rfl (Or.inl ⟨by rfl, fun U hU => vp_quiet (by (go_simp <;> exact rfl))⟩) ⟨_, by (simp only [Ent.val]; go_simp <;> exact rfl), ?_⟩
    refine Seg.stop (fun U1 hU hk => ?_)
    have nb0 := hge 0 _ _ rfl
    have rb0 := (hk 0 _ _ rfl trivial).1.2 (by simp)
    clear hk hge hne
    generalize th (0 + 0) = p0_0 at *
    dsimp only at rb0
    have r_p0_0 := rb0
    clear rb0
    have n_p0_0 := nb0
    clear nb0
    have sz1 := hU.size
    have hB : Below w.heap.size w U1 := hU
    clear hU
    replace hP := hid (hP.out.aft hB)
    have hef := hid (eff_after24 (g := B) hB)
    clear hB
    have r0 := hid r_p0_0
    have hb_r0 : p0_0 ≠ B := by omega
    clear r_p0_0
    have x0 := held_cell r0.out 0 _ rfl
    go_wp2_with fail
    refine (kx.out _ hP.out).mono ?_
    rintro r V1 ⟨rfl, hP2, hf2⟩
    replace hP := hid hP2
    clear hP2
    replace r0 := hid (eff_block24 hf2 r0.out hb_r0)
    replace hef := hid (eff_trans24 hef.out hf2)
    clear hf2
    clear x0
    have x0 := held_cell r0.out 0 _ rfl
    go_wp2_with fail
    refine (kf.out _ 5 hP.out).mono ?_
    rintro r V2 ⟨rfl, hP2, hf2⟩
    replace hP := hid hP2
    clear hP2
    replace r0 := hid (eff_block24 hf2 r0.out hb_r0)
    replace hef := hid (eff_trans24 hef.out hf2)
    clear hf2
    clear x0
    go_wp2_with fail
    go_ret
    exact ⟨rfl, hP.out, hef.out⟩
  have hd : dgS s 0 8 = ((c : Int) - 48, 0) := by unfold dgS; rw [if_pos (by omega), hc, if_neg (by omega)]
  rw [hd]
  dsimp only
  clear hd
  rw [k0]
  replace k0 := hid k0
  have b5 : decide ((8 : Int) < (c : Int) - 48) = false := by simp; omega
  clear hc c1 c2 c3 c5
  have hlt := hP.lt
  replace hP := hid hP
  go_enter Tryz.func40, Tryz.ntmps40
  go_upto_region 0 with (fail)
  apply wp_region_seg0 (w := w) (S := [.al 1000, .q []]) (E := [.al ((fun p => .pointer (some ⟨p, 0, none⟩)), _) 1000, .q0 _]) rfl (by kernel_rfl) rfl rfl
  intro th hge hne
  refine Seg.step _ rfl ⟨by rfl, fun U hU => ?_⟩ ?_
  · go_simp; exact vp_alloc rfl rfl rfl
  refine ⟨_, by (simp only [Ent.val]; go_simp <;> exact rfl), ?_⟩
  refine Seg.step _ rfl (Or.inl ⟨by rfl, fun U hU => vp_quiet (by (go_simp <;> exact rfl))⟩) ⟨_, by (simp only [Ent.val]; go_simp <;> exact rfl), ?_⟩
  refine Seg.stop (fun U1 hU hk => ?_)
  have nb0 := hge 0 _ _ rfl
  have rb0 := (hk 0 _ _ rfl trivial).1.2 (by simp)
  clear hk hge hne
  generalize th (0 + 0) = p0_0 at *
  dsimp only at rb0
  have r_p0_0 := rb0
  clear rb0
  have n_p0_0 := nb0
  clear nb0
  have sz1 := hU.size
  have hB : Below w.heap.size w U1 := hU
  clear hU
  replace hP := hid (hP.out.aft hB)
  have hef := hid (eff_after24 (g := B) hB)
  clear hB
  have r0 := hid r_p0_0
  have hb_r0 : p0_0 ≠ B := by omega
  clear r_p0_0
  have x0 := held_cell r0.out 0 _ rfl
  go_wp2_with fail
  refine (kx.out _ hP.out).mono ?_
  rintro r V1 ⟨rfl, hP2, hf2⟩
  replace hP := hid hP2
  clear hP2
  replace r0 := hid (eff_block24 hf2 r0.out hb_r0)
  replace hef := hid (eff_trans24 hef.out hf2)
  clear hf2
  clear x0
  have x0 := held_cell r0.out 0 _ rfl
  go_wp2_with fail
  go_ret
  exact ⟨rfl, hP.out, hef.out⟩
set_option maxRecDepth 100000 in
set_option maxHeartbeats 4000000 in
theorem rdigit_any (B : Nat) (e : Int) (s : ByteArray) (R : List ByteArray) (lo hi : Int) (w : World) (hP : RowR w B e (s :: R)) (hl : (s :: R).length ≤ 1000) : Calls Tryz.prog 44 #[.pointer (some ⟨B, 0, none⟩), .int .i64 lo, .int .i64 hi] w fun r w' => r = .returned (.int .i64 (dgS s lo hi).1) ∧ RowR w' B (kp e (dgS s lo hi).2) R ∧ Eff B w w' := by
  have k0 : kp e 0 = e := by unfold kp; split <;> omega
  have kx := hid (fun U h => rtextC B e s R U h)
  have kf := hid (fun U x h => rfirstR_any B e x R U h)
  clear hl
  by_cases c1 : s.size = 1
  case neg =>
    have hd : dgS s lo hi = (0, 3) := by unfold dgS; rw [if_neg (by omega)]
    rw [hd]
    dsimp only
    clear hd
    replace k0 := hid k0
    have b1 : ((s.size : Int) != 1) = true := by simp; omega
    have b2 : ((s.size : Int) == 1) = false := by simp; omega
    have hlt := hP.lt
    replace hP := hid hP
    have hef := hid (eff_refl24 B w)
    go_enter Tryz.func44, Tryz.ntmps44
    go_wp2_with fail
    refine (kx.out _ hP.out).mono ?_
    rintro r V1 ⟨rfl, hP2, hf2⟩
    replace hP := hid hP2
    clear hP2
    replace hef := hid (eff_trans24 hef.out hf2)
    clear hf2
    go_wp2_with fail
    refine (kf.out _ 3 hP.out).mono ?_
    rintro r V2 ⟨rfl, hP2, hf2⟩
    replace hP := hid hP2
    clear hP2
    replace hef := hid (eff_trans24 hef.out hf2)
    clear hf2
    go_wp2_with fail
    go_ret
    exact ⟨rfl, hP.out, hef.out⟩
  obtain ⟨c, hc⟩ : ∃ c, (sb s).getD 0 0 = c := ⟨_, rfl⟩
  have hix := fun W => tidx (P := Tryz.prog) 9 Tryz.underlying9 s 0 c (by omega) hc .i64 0 rfl W
  have hcb : c ≤ 255 := by rw [← hc, List.getD_eq_getElem?_getD, List.getElem?_eq_getElem (show 0 < (sb s).length by rw [sb_len]; omega)]; have := sb_lt s _ (List.getElem_mem (show 0 < (sb s).length by rw [sb_len]; omega)); simp only [Option.getD_some]; omega
  have b1 : ((s.size : Int) != 1) = false := by simp; omega
  have b2 : ((s.size : Int) == 1) = true := by simp; omega
  by_cases c2 : c < 48
  case pos =>
    have hd : dgS s lo hi = (0, 3) := by unfold dgS; rw [if_neg (by omega)]
    rw [hd]
    dsimp only
    clear hd
    replace k0 := hid k0
    have b3 : decide ((c : Int) < 48) = true := by simp; omega
    clear hc c1
    have hlt := hP.lt
    replace hP := hid hP
    have hef := hid (eff_refl24 B w)
    go_enter Tryz.func44, Tryz.ntmps44
    go_wp2_with fail
    refine (kx.out _ hP.out).mono ?_
    rintro r V1 ⟨rfl, hP2, hf2⟩
    replace hP := hid hP2
    clear hP2
    replace hef := hid (eff_trans24 hef.out hf2)
    clear hf2
    go_wp2_with fail
    refine (kf.out _ 3 hP.out).mono ?_
    rintro r V2 ⟨rfl, hP2, hf2⟩
    replace hP := hid hP2
    clear hP2
    replace hef := hid (eff_trans24 hef.out hf2)
    clear hf2
    go_wp2_with fail
    go_ret
    exact ⟨rfl, hP.out, hef.out⟩
  have b3 : decide ((c : Int) < 48) = false := by simp; omega
  by_cases c3 : 57 < c
  case pos =>
    have hd : dgS s lo hi = (0, 3) := by unfold dgS; rw [if_neg (by omega)]
    rw [hd]
    dsimp only
    clear hd
    replace k0 := hid k0
    have b4 : decide ((57 : Int) < (c : Int)) = true := by simp; omega
    clear hc c1
    have hlt := hP.lt
    replace hP := hid hP
    have hef := hid (eff_refl24 B w)
    go_enter Tryz.func44, Tryz.ntmps44
    go_wp2_with fail
    refine (kx.out _ hP.out).mono ?_
    rintro r V1 ⟨rfl, hP2, hf2⟩
    replace hP := hid hP2
    clear hP2
    replace hef := hid (eff_trans24 hef.out hf2)
    clear hf2
    go_wp2_with fail
    refine (kf.out _ 3 hP.out).mono ?_
    rintro r V2 ⟨rfl, hP2, hf2⟩
    replace hP := hid hP2
    clear hP2
    replace hef := hid (eff_trans24 hef.out hf2)
    clear hf2
    go_wp2_with fail
    go_ret
    exact ⟨rfl, hP.out, hef.out⟩
  have b4 : decide ((57 : Int) < (c : Int)) = false := by simp; omega
  have e1 : ((c : Int) - 48) % 256 = (c : Int) - 48 := by omega
  have e2 : IntKind.i64.wrap ((c : Int) - 48) = (c : Int) - 48 := by simp [IntKind.wrap, IntKind.bits, IntKind.signed]; omega
  by_cases c4 : (c : Int) - 48 < lo
  case pos =>
    have hd : dgS s lo hi = ((c : Int) - 48, 5) := by unfold dgS; rw [if_pos (by omega), hc, if_pos (by omega)]
    rw [hd]
    dsimp only
    clear hd
    replace k0 := hid k0
    have b5 : decide ((c : Int) - 48 < lo) = true := by simpa using c4
    clear hc c1 c2 c3 c4
    have hlt := hP.lt
    replace hP := hid hP
    have hef := hid (eff_refl24 B w)
    go_enter Tryz.func44, Tryz.ntmps44
    go_wp2_with fail
    refine (kx.out _ hP.out).mono ?_
    rintro r V1 ⟨rfl, hP2, hf2⟩
    replace hP := hid hP2
    clear hP2
    replace hef := hid (eff_trans24 hef.out hf2)
    clear hf2
    go_wp2_with fail
    refine (kf.out _ 5 hP.out).mono ?_
    rintro r V2 ⟨rfl, hP2, hf2⟩
    replace hP := hid hP2
    clear hP2
    replace hef := hid (eff_trans24 hef.out hf2)
    clear hf2
    go_wp2_with fail
    go_ret
    exact ⟨rfl, hP.out, hef.out⟩
  have b5 : decide ((c : Int) - 48 < lo) = false := by simpa using c4
  by_cases c5 : hi < (c : Int) - 48
  case pos =>
    have hd : dgS s lo hi = ((c : Int) - 48, 5) := by unfold dgS; rw [if_pos (by omega), hc, if_pos (by omega)]
    rw [hd]
    dsimp only
    clear hd
    replace k0 := hid k0
    have b6 : decide (hi < (c : Int) - 48) = true := by simpa using c5
    clear hc c1 c2 c3 c4 c5
    have hlt := hP.lt
    replace hP := hid hP
    have hef := hid (eff_refl24 B w)
    go_enter Tryz.func44, Tryz.ntmps44
    go_wp2_with fail
    refine (kx.out _ hP.out).mono ?_
    rintro r V1 ⟨rfl, hP2, hf2⟩
    replace hP := hid hP2
    clear hP2
    replace hef := hid (eff_trans24 hef.out hf2)
    clear hf2
    go_wp2_with fail
    refine (kf.out _ 5 hP.out).mono ?_
    rintro r V2 ⟨rfl, hP2, hf2⟩
    replace hP := hid hP2
    clear hP2
    replace hef := hid (eff_trans24 hef.out hf2)
    clear hf2
    go_wp2_with fail
    go_ret
    exact ⟨rfl, hP.out, hef.out⟩
  have hd : dgS s lo hi = ((c : Int) - 48, 0) := by unfold dgS; rw [if_pos (by omega), hc, if_neg (by omega)]
  rw [hd]
  dsimp only
  clear hd
  rw [k0]
  replace k0 := hid k0
  have b6 : decide (hi < (c : Int) - 48) = false := by simpa using c5
  clear hc c1 c2 c3 c4 c5
  have hlt := hP.lt
  replace hP := hid hP
  have hef := hid (eff_refl24 B w)
  go_enter Tryz.func44, Tryz.ntmps44
  go_wp2_with fail
  refine (kx.out _ hP.out).mono ?_
  rintro r V1 ⟨rfl, hP2, hf2⟩
  replace hP := hid hP2
  clear hP2
  replace hef := hid (eff_trans24 hef.out hf2)
  clear hf2
  go_wp2_with fail
  go_ret
  exact ⟨rfl, hP.out, hef.out⟩
set_option maxRecDepth 100000 in
set_option maxHeartbeats 4000000 in
theorem elong_any (B : Nat) (e : Int) (s u : ByteArray) (R : List ByteArray) (W M F lo hi : Int) {i : Bool} {n x : Int} (htd : takD s W M F lo hi = (i, n, x)) (w : World) (hP : EyeIn w B e (s :: u :: R)) (hl : (s :: u :: R).length ≤ 1000) (hs : ∀ t ∈ s :: u :: R, t.size ≤ 1000) (hlb : (-9223372036854775808 ≤ lo ∧ lo ≤ 9223372036854775807) ∧ (-9223372036854775808 ≤ hi ∧ hi ≤ 9223372036854775807)) : Calls Tryz.prog 38 #[.agg #[.pointer (some ⟨B, 0, none⟩)], .agg #[.int .i64 W, .int .i64 M, .int .i64 F, .int .i64 lo, .int .i64 hi]] w fun r w' => r = .returned (.agg #[.bool i, .int .i64 n]) ∧ EyeIn w' B (kp (kp e x) (unE u ⟨#[77]⟩ i)) R ∧ Eff B w w' := by
  have k0 : ∀ e, kp e 0 = e := fun e => by unfold kp; split <;> omega
  have kn := hid (fun U h => enumC B e s (u :: R) W M F lo hi htd U h hl hs hlb)
  obtain ⟨E, hE⟩ : ∃ E, kp e x = E := ⟨_, rfl⟩
  rw [hE] at kn ⊢
  have kx := hid (fun U h => etextC B E u R U h (by simp at hl ⊢; omega))
  have kf := hid (fun U h => efail_any B E 3 R U h)
  have hM := seqC u [77]
  have hZ := temp_iff u
  clear htd hl hs hlb hE
  by_cases c1 : u = ⟨#[77]⟩
  case pos =>
    have q1 : (u.toList == [77]) = true := by rw [hM]; exact decide_eq_true c1
    have hu : unE u ⟨#[77]⟩ i = 0 := by unfold unE; rw [if_neg (by first | exact ⟨c1, .inl c2⟩ | exact ⟨c1, .inr c3⟩ | exact fun h => h.1 c1 | exact fun h => h.2.elim (fun h => c2 h) (fun h => c3 h))]
    rw [hu]
    clear hu
    rw [k0]
    clear k0
    clear hM hZ c1
    have hlt := hP.lt
    replace hP := hid hP
    go_enter Tryz.func38, Tryz.ntmps38
    go_upto_region 0 with (fail)
    apply wp_region_seg0 (w := w) (S := [.al 1000, .al 1000, .al 1000]) (E := [.al ((fun p => .pointer (some ⟨p, 0, none⟩)), _) 1000, .al ((fun p => .pointer (some ⟨p, 0, none⟩)), _) 1000, .al ((fun p => .pointer (some ⟨p, 0, none⟩)), _) 1000]) rfl (by kernel_rfl) rfl rfl
    intro th hge hne
    refine Seg.step _ rfl ⟨by rfl, fun U hU => ?_⟩ ?_
    · go_simp; exact vp_alloc rfl rfl rfl
    refine ⟨_, by (simp only [Ent.val]; go_simp <;> exact rfl), ?_⟩
    refine Seg.step _ rfl ⟨by rfl, fun U hU => ?_⟩ ?_
    · go_simp; exact vp_alloc rfl rfl rfl
    refine ⟨_, by (simp only [Ent.val]; go_simp <;> exact rfl), ?_⟩
    refine Seg.step _ rfl ⟨by rfl, fun U hU => ?_⟩ ?_
    · go_simp; exact vp_alloc rfl rfl rfl
    refine ⟨_, by (simp only [Ent.val]; go_simp <;> exact rfl), ?_⟩
    refine Seg.stop (fun U1 hU hk => ?_)
    have nb0 := hge 0 _ _ rfl
    have rb0 := (hk 0 _ _ rfl trivial).1.2 (by simp)
    have nb1 := hge 1 _ _ rfl
    have rb1 := (hk 1 _ _ rfl trivial).1.2 (by simp)
    have nb2 := hge 2 _ _ rfl
    have rb2 := (hk 2 _ _ rfl trivial).1.2 (by simp)
    have ne0_1 := hne 0 1 _ _ _ _ rfl rfl (by omega)
    have ne0_2 := hne 0 2 _ _ _ _ rfl rfl (by omega)
    have ne1_2 := hne 1 2 _ _ _ _ rfl rfl (by omega)
    clear hk hge hne
    generalize th (0 + 0) = p0_0 at *
    dsimp only at rb0
    generalize th (0 + 1) = p0_1 at *
    dsimp only at rb1
    generalize th (0 + 2) = p0_2 at *
    dsimp only at rb2
    have r_p0_0 := rb0
    clear rb0
    have n_p0_0 := nb0
    clear nb0
    have d_p0_0_p0_1 := ne0_1
    clear ne0_1
    have d_p0_0_p0_2 := ne0_2
    clear ne0_2
    have r_p0_1 := rb1
    clear rb1
    have n_p0_1 := nb1
    clear nb1
    have d_p0_1_p0_2 := ne1_2
    clear ne1_2
    have r_p0_2 := rb2
    clear rb2
    have n_p0_2 := nb2
    clear nb2
    have sz1 := hU.size
    have hB : Below w.heap.size w U1 := hU
    clear hU
    replace hP := hid (hP.out.aft hB)
    have hef := hid (eff_after24 (g := B) hB)
    clear hB
    have r0 := hid r_p0_0
    have hb_r0 : p0_0 ≠ B := by omega
    have r1 := hid r_p0_1
    have hb_r1 : p0_1 ≠ B := by omega
    have r2 := hid r_p0_2
    have hb_r2 : p0_2 ≠ B := by omega
    clear r_p0_0 r_p0_1 r_p0_2
    have x0 := held_cell r0.out 0 _ rfl
    have y0 := held_cell r1.out 0 _ rfl
    have y1 := held_cell r1.out 1 _ rfl
    have y2 := held_cell r1.out 2 _ rfl
    have y3 := held_cell r1.out 3 _ rfl
    have y4 := held_cell r1.out 4 _ rfl
    go_wp2_with fail
    refine (kn.out _ hP.out).mono ?_
    rintro r V1 ⟨rfl, hP2, hf2⟩
    replace hP := hid hP2
    clear hP2
    replace r0 := hid (eff_block24 hf2 r0.out hb_r0)
    replace r1 := hid (eff_block24 hf2 r1.out hb_r1)
    replace r2 := hid (eff_block24 hf2 r2.out hb_r2)
    replace hef := hid (eff_trans24 hef.out hf2)
    clear hf2
    clear x0 y0 y1 y2 y3 y4
    have nw := alloc_new V1 (.cells #[.bool i, .int .i64 n] 25)
    have hA := nw.2.1
    have r3 := nw.2.2
    clear nw
    have hlB := hP.out.lt
    go_upto_region 2 with (fail)
    obtain ⟨V2, hV2⟩ : ∃ X, V1.alloc (.cells #[.bool i, .int .i64 n] 25) = X := ⟨_, rfl⟩
    rw [hV2] at hA r3 ⊢
    obtain ⟨q3, hq3⟩ : ∃ X, V1.heap.size = X := ⟨_, rfl⟩
    have hb_r3 : q3 ≠ B := by omega
    rw [hq3] at r3 ⊢
    replace hV2 := hid hV2
    replace hq3 := hid hq3
    clear hlB
    replace hP := hid (hP.out.aft hA)
    replace r0 := hid (held_after hA r0.out)
    replace r2 := hid (held_after hA r2.out)
    replace hef := hid (eff_trans24 hef.out (eff_after24 hA))
    clear hA
    replace r3 := hid r3
    have x0 := held_cell r0.out 0 _ rfl
    go_wp2_with fail
    refine (kx.out _ hP.out).mono ?_
    rintro r V3 ⟨rfl, hP2, hf2⟩
    replace hP := hid hP2
    clear hP2
    replace r0 := hid (eff_block24 hf2 r0.out hb_r0)
    replace r2 := hid (eff_block24 hf2 r2.out hb_r2)
    replace r3 := hid (eff_block24 hf2 r3.out hb_r3)
    replace hef := hid (eff_trans24 hef.out hf2)
    clear hf2
    clear x0
    have x0 := held_cell r0.out 0 _ rfl
    have z0 := held_cell r3.out 0 _ rfl
    have z1 := held_cell r3.out 1 _ rfl
    have q1 := r2.out
    have k0 := held_cell q1 0 _ rfl
    have k1 := held_cell q1 1 _ rfl
    have g0 := held_free q1 0
    have g1 := held_free q1 1
    obtain ⟨W9, hW9, ya, yO⟩ := st2 q1 (.bool i) (.int .i64 n)
    have hef4 := hid (eff_new24 hef.out yO (by omega))
    have hP9 := hid (hP.out.off yO hb_r2 q1 (by intro j s h; match j, h with | 0, h => simp at h | 1, h => simp at h | j + 2, h => simp at h))
    have ez0 := held_cell ya 0 _ rfl
    have ez1 := held_cell ya 1 _ rfl
    clear ya yO q1
    go_wp2_with fail
    refine bodyPost_ret (v := .agg #[.bool i, .int .i64 n]) (by simp [results, Tryz.results38, go_sem, ez0, ez1]) rfl ⟨rfl, hP9.out, hef4.out⟩
  have q1 : (u.toList == [77]) = false := by rw [hM]; exact decide_eq_false c1
  by_cases c2 : u.size ≠ 0
  case pos =>
    have q2 : u.toList.isEmpty = false := by rw [hZ]; exact decide_eq_false c2
    have hu : unE u ⟨#[77]⟩ i = 3 := by unfold unE; rw [if_pos (by first | exact ⟨c1, .inl c2⟩ | exact ⟨c1, .inr c3⟩ | exact fun h => h.1 c1 | exact fun h => h.2.elim (fun h => c2 h) (fun h => c3 h))]
    rw [hu]
    clear hu
    clear k0
    clear hM hZ c1 c2
    have hlt := hP.lt
    replace hP := hid hP
    go_enter Tryz.func38, Tryz.ntmps38
    go_upto_region 0 with (fail)
    apply wp_region_seg0 (w := w) (S := [.al 1000, .al 1000, .al 1000]) (E := [.al ((fun p => .pointer (some ⟨p, 0, none⟩)), _) 1000, .al ((fun p => .pointer (some ⟨p, 0, none⟩)), _) 1000, .al ((fun p => .pointer (some ⟨p, 0, none⟩)), _) 1000]) rfl (by kernel_rfl) rfl rfl
    intro th hge hne
    refine Seg.step _ rfl ⟨by rfl, fun U hU => ?_⟩ ?_
    · go_simp; exact vp_alloc rfl rfl rfl
    refine ⟨_, by (simp only [Ent.val]; go_simp <;> exact rfl), ?_⟩
    refine Seg.step _ rfl ⟨by rfl, fun U hU => ?_⟩ ?_
    · go_simp; exact vp_alloc rfl rfl rfl
    refine ⟨_, by (simp only [Ent.val]; go_simp <;> exact rfl), ?_⟩
    refine Seg.step _ rfl ⟨by rfl, fun U hU => ?_⟩ ?_
    · go_simp; exact vp_alloc rfl rfl rfl
    refine ⟨_, by (simp only [Ent.val]; go_simp <;> exact rfl), ?_⟩
    refine Seg.stop (fun U1 hU hk => ?_)
    have nb0 := hge 0 _ _ rfl
    have rb0 := (hk 0 _ _ rfl trivial).1.2 (by simp)
    have nb1 := hge 1 _ _ rfl
    have rb1 := (hk 1 _ _ rfl trivial).1.2 (by simp)
    have nb2 := hge 2 _ _ rfl
    have rb2 := (hk 2 _ _ rfl trivial).1.2 (by simp)
    have ne0_1 := hne 0 1 _ _ _ _ rfl rfl (by omega)
    have ne0_2 := hne 0 2 _ _ _ _ rfl rfl (by omega)
    have ne1_2 := hne 1 2 _ _ _ _ rfl rfl (by omega)
    clear hk hge hne
    generalize th (0 + 0) = p0_0 at *
    dsimp only at rb0
    generalize th (0 + 1) = p0_1 at *
    dsimp only at rb1
    generalize th (0 + 2) = p0_2 at *
    dsimp only at rb2
    have r_p0_0 := rb0
    clear rb0
    have n_p0_0 := nb0
    clear nb0
    have d_p0_0_p0_1 := ne0_1
    clear ne0_1
    have d_p0_0_p0_2 := ne0_2
    clear ne0_2
    have r_p0_1 := rb1
    clear rb1
    have n_p0_1 := nb1
    clear nb1
    have d_p0_1_p0_2 := ne1_2
    clear ne1_2
    have r_p0_2 := rb2
    clear rb2
    have n_p0_2 := nb2
    clear nb2
    have sz1 := hU.size
    have hB : Below w.heap.size w U1 := hU
    clear hU
    replace hP := hid (hP.out.aft hB)
    have hef := hid (eff_after24 (g := B) hB)
    clear hB
    have r0 := hid r_p0_0
    have hb_r0 : p0_0 ≠ B := by omega
    have r1 := hid r_p0_1
    have hb_r1 : p0_1 ≠ B := by omega
    have r2 := hid r_p0_2
    have hb_r2 : p0_2 ≠ B := by omega
    clear r_p0_0 r_p0_1 r_p0_2
    have x0 := held_cell r0.out 0 _ rfl
    have y0 := held_cell r1.out 0 _ rfl
    have y1 := held_cell r1.out 1 _ rfl
    have y2 := held_cell r1.out 2 _ rfl
    have y3 := held_cell r1.out 3 _ rfl
    have y4 := held_cell r1.out 4 _ rfl
    go_wp2_with fail
    refine (kn.out _ hP.out).mono ?_
    rintro r V1 ⟨rfl, hP2, hf2⟩
    replace hP := hid hP2
    clear hP2
    replace r0 := hid (eff_block24 hf2 r0.out hb_r0)
    replace r1 := hid (eff_block24 hf2 r1.out hb_r1)
    replace r2 := hid (eff_block24 hf2 r2.out hb_r2)
    replace hef := hid (eff_trans24 hef.out hf2)
    clear hf2
    clear x0 y0 y1 y2 y3 y4
    have nw := alloc_new V1 (.cells #[.bool i, .int .i64 n] 25)
    have hA := nw.2.1
    have r3 := nw.2.2
    clear nw
    have hlB := hP.out.lt
    go_upto_region 2 with (fail)
    obtain ⟨V2, hV2⟩ : ∃ X, V1.alloc (.cells #[.bool i, .int .i64 n] 25) = X := ⟨_, rfl⟩
    rw [hV2] at hA r3 ⊢
    obtain ⟨q3, hq3⟩ : ∃ X, V1.heap.size = X := ⟨_, rfl⟩
    have hb_r3 : q3 ≠ B := by omega
    rw [hq3] at r3 ⊢
    replace hV2 := hid hV2
    replace hq3 := hid hq3
    clear hlB
    replace hP := hid (hP.out.aft hA)
    replace r0 := hid (held_after hA r0.out)
    replace r2 := hid (held_after hA r2.out)
    replace hef := hid (eff_trans24 hef.out (eff_after24 hA))
    clear hA
    replace r3 := hid r3
    have x0 := held_cell r0.out 0 _ rfl
    go_wp2_with fail
    refine (kx.out _ hP.out).mono ?_
    rintro r V3 ⟨rfl, hP2, hf2⟩
    replace hP := hid hP2
    clear hP2
    replace r0 := hid (eff_block24 hf2 r0.out hb_r0)
    replace r2 := hid (eff_block24 hf2 r2.out hb_r2)
    replace r3 := hid (eff_block24 hf2 r3.out hb_r3)
    replace hef := hid (eff_trans24 hef.out hf2)
    clear hf2
    clear x0
    have x0 := held_cell r0.out 0 _ rfl
    have z0 := held_cell r3.out 0 _ rfl
    have z1 := held_cell r3.out 1 _ rfl
    go_wp2_with fail
    refine (kf.out _ hP.out).mono ?_
    rintro r V4 ⟨rfl, hP2, hf2⟩
    replace hP := hid hP2
    clear hP2
    replace r0 := hid (eff_block24 hf2 r0.out hb_r0)
    replace r2 := hid (eff_block24 hf2 r2.out hb_r2)
    replace r3 := hid (eff_block24 hf2 r3.out hb_r3)
    replace hef := hid (eff_trans24 hef.out hf2)
    clear hf2
    clear x0 z0 z1
    have z0 := held_cell r3.out 0 _ rfl
    have z1 := held_cell r3.out 1 _ rfl
    have q1 := r2.out
    have k0 := held_cell q1 0 _ rfl
    have k1 := held_cell q1 1 _ rfl
    have g0 := held_free q1 0
    have g1 := held_free q1 1
    obtain ⟨W9, hW9, ya, yO⟩ := st2 q1 (.bool i) (.int .i64 n)
    have hef4 := hid (eff_new24 hef.out yO (by omega))
    have hP9 := hid (hP.out.off yO hb_r2 q1 (by intro j s h; match j, h with | 0, h => simp at h | 1, h => simp at h | j + 2, h => simp at h))
    have ez0 := held_cell ya 0 _ rfl
    have ez1 := held_cell ya 1 _ rfl
    clear ya yO q1
    go_wp2_with fail
    refine bodyPost_ret (v := .agg #[.bool i, .int .i64 n]) (by simp [results, Tryz.results38, go_sem, ez0, ez1]) rfl ⟨rfl, hP9.out, hef4.out⟩
  have q2 : u.toList.isEmpty = true := by rw [hZ]; exact decide_eq_true (by omega)
  by_cases c3 : i = true
  case pos =>
    have hu : unE u ⟨#[77]⟩ i = 3 := by unfold unE; rw [if_pos (by first | exact ⟨c1, .inl c2⟩ | exact ⟨c1, .inr c3⟩ | exact fun h => h.1 c1 | exact fun h => h.2.elim (fun h => c2 h) (fun h => c3 h))]
    rw [hu]
    clear hu
    clear k0
    subst c3
    clear hM hZ c1 c2
    have hlt := hP.lt
    replace hP := hid hP
    go_enter Tryz.func38, Tryz.ntmps38
    go_upto_region 0 with (fail)
    apply wp_region_seg0 (w := w) (S := [.al 1000, .al 1000, .al 1000]) (E := [.al ((fun p => .pointer (some ⟨p, 0, none⟩)), _) 1000, .al ((fun p => .pointer (some ⟨p, 0, none⟩)), _) 1000, .al ((fun p => .pointer (some ⟨p, 0, none⟩)), _) 1000]) rfl (by kernel_rfl) rfl rfl
    intro th hge hne
    refine Seg.step _ rfl ⟨by rfl, fun U hU => ?_⟩ ?_
    · go_simp; exact vp_alloc rfl rfl rfl
    refine ⟨_, by (simp only [Ent.val]; go_simp <;> exact rfl), ?_⟩
    refine Seg.step _ rfl ⟨by rfl, fun U hU => ?_⟩ ?_
    · go_simp; exact vp_alloc rfl rfl rfl
    refine ⟨_, by (simp only [Ent.val]; go_simp <;> exact rfl), ?_⟩
    refine Seg.step _ rfl ⟨by rfl, fun U hU => ?_⟩ ?_
    · go_simp; exact vp_alloc rfl rfl rfl
    refine ⟨_, by (simp only [Ent.val]; go_simp <;> exact rfl), ?_⟩
    refine Seg.stop (fun U1 hU hk => ?_)
    have nb0 := hge 0 _ _ rfl
    have rb0 := (hk 0 _ _ rfl trivial).1.2 (by simp)
    have nb1 := hge 1 _ _ rfl
    have rb1 := (hk 1 _ _ rfl trivial).1.2 (by simp)
    have nb2 := hge 2 _ _ rfl
    have rb2 := (hk 2 _ _ rfl trivial).1.2 (by simp)
    have ne0_1 := hne 0 1 _ _ _ _ rfl rfl (by omega)
    have ne0_2 := hne 0 2 _ _ _ _ rfl rfl (by omega)
    have ne1_2 := hne 1 2 _ _ _ _ rfl rfl (by omega)
    clear hk hge hne
    generalize th (0 + 0) = p0_0 at *
    dsimp only at rb0
    generalize th (0 + 1) = p0_1 at *
    dsimp only at rb1
    generalize th (0 + 2) = p0_2 at *
    dsimp only at rb2
    have r_p0_0 := rb0
    clear rb0
    have n_p0_0 := nb0
    clear nb0
    have d_p0_0_p0_1 := ne0_1
    clear ne0_1
    have d_p0_0_p0_2 := ne0_2
    clear ne0_2
    have r_p0_1 := rb1
    clear rb1
    have n_p0_1 := nb1
    clear nb1
    have d_p0_1_p0_2 := ne1_2
    clear ne1_2
    have r_p0_2 := rb2
    clear rb2
    have n_p0_2 := nb2
    clear nb2
    have sz1 := hU.size
    have hB : Below w.heap.size w U1 := hU
    clear hU
    replace hP := hid (hP.out.aft hB)
    have hef := hid (eff_after24 (g := B) hB)
    clear hB
    have r0 := hid r_p0_0
    have hb_r0 : p0_0 ≠ B := by omega
    have r1 := hid r_p0_1
    have hb_r1 : p0_1 ≠ B := by omega
    have r2 := hid r_p0_2
    have hb_r2 : p0_2 ≠ B := by omega
    clear r_p0_0 r_p0_1 r_p0_2
    have x0 := held_cell r0.out 0 _ rfl
    have y0 := held_cell r1.out 0 _ rfl
    have y1 := held_cell r1.out 1 _ rfl
    have y2 := held_cell r1.out 2 _ rfl
    have y3 := held_cell r1.out 3 _ rfl
    have y4 := held_cell r1.out 4 _ rfl
    go_wp2_with fail
    refine (kn.out _ hP.out).mono ?_
    rintro r V1 ⟨rfl, hP2, hf2⟩
    replace hP := hid hP2
    clear hP2
    replace r0 := hid (eff_block24 hf2 r0.out hb_r0)
    replace r1 := hid (eff_block24 hf2 r1.out hb_r1)
    replace r2 := hid (eff_block24 hf2 r2.out hb_r2)
    replace hef := hid (eff_trans24 hef.out hf2)
    clear hf2
    clear x0 y0 y1 y2 y3 y4
    have nw := alloc_new V1 (.cells #[.bool true, .int .i64 n] 25)
    have hA := nw.2.1
    have r3 := nw.2.2
    clear nw
    have hlB := hP.out.lt
    go_upto_region 2 with (fail)
    obtain ⟨V2, hV2⟩ : ∃ X, V1.alloc (.cells #[.bool true, .int .i64 n] 25) = X := ⟨_, rfl⟩
    rw [hV2] at hA r3 ⊢
    obtain ⟨q3, hq3⟩ : ∃ X, V1.heap.size = X := ⟨_, rfl⟩
    have hb_r3 : q3 ≠ B := by omega
    rw [hq3] at r3 ⊢
    replace hV2 := hid hV2
    replace hq3 := hid hq3
    clear hlB
    replace hP := hid (hP.out.aft hA)
    replace r0 := hid (held_after hA r0.out)
    replace r2 := hid (held_after hA r2.out)
    replace hef := hid (eff_trans24 hef.out (eff_after24 hA))
    clear hA
    replace r3 := hid r3
    have x0 := held_cell r0.out 0 _ rfl
    go_wp2_with fail
    refine (kx.out _ hP.out).mono ?_
    rintro r V3 ⟨rfl, hP2, hf2⟩
    replace hP := hid hP2
    clear hP2
    replace r0 := hid (eff_block24 hf2 r0.out hb_r0)
    replace r2 := hid (eff_block24 hf2 r2.out hb_r2)
    replace r3 := hid (eff_block24 hf2 r3.out hb_r3)
    replace hef := hid (eff_trans24 hef.out hf2)
    clear hf2
    clear x0
    have x0 := held_cell r0.out 0 _ rfl
    have z0 := held_cell r3.out 0 _ rfl
    have z1 := held_cell r3.out 1 _ rfl
    go_wp2_with fail
    refine (kf.out _ hP.out).mono ?_
    rintro r V4 ⟨rfl, hP2, hf2⟩
    replace hP := hid hP2
    clear hP2
    replace r0 := hid (eff_block24 hf2 r0.out hb_r0)
    replace r2 := hid (eff_block24 hf2 r2.out hb_r2)
    replace r3 := hid (eff_block24 hf2 r3.out hb_r3)
    replace hef := hid (eff_trans24 hef.out hf2)
    clear hf2
    clear x0 z0 z1
    have z0 := held_cell r3.out 0 _ rfl
    have z1 := held_cell r3.out 1 _ rfl
    have q1 := r2.out
    have k0 := held_cell q1 0 _ rfl
    have k1 := held_cell q1 1 _ rfl
    have g0 := held_free q1 0
    have g1 := held_free q1 1
    obtain ⟨W9, hW9, ya, yO⟩ := st2 q1 (.bool true) (.int .i64 n)
    have hef4 := hid (eff_new24 hef.out yO (by omega))
    have hP9 := hid (hP.out.off yO hb_r2 q1 (by intro j s h; match j, h with | 0, h => simp at h | 1, h => simp at h | j + 2, h => simp at h))
    have ez0 := held_cell ya 0 _ rfl
    have ez1 := held_cell ya 1 _ rfl
    clear ya yO q1
    go_wp2_with fail
    refine bodyPost_ret (v := .agg #[.bool true, .int .i64 n]) (by simp [results, Tryz.results38, go_sem, ez0, ez1]) rfl ⟨rfl, hP9.out, hef4.out⟩
  have hu : unE u ⟨#[77]⟩ i = 0 := by unfold unE; rw [if_neg (by first | exact ⟨c1, .inl c2⟩ | exact ⟨c1, .inr c3⟩ | exact fun h => h.1 c1 | exact fun h => h.2.elim (fun h => c2 h) (fun h => c3 h))]
  rw [hu]
  clear hu
  rw [k0]
  clear k0
  have c4 : i = false := by simpa using c3
  subst c4
  clear hM hZ c1 c2 c3
  have hlt := hP.lt
  replace hP := hid hP
  go_enter Tryz.func38, Tryz.ntmps38
  go_upto_region 0 with (fail)
  apply wp_region_seg0 (w := w) (S := [.al 1000, .al 1000, .al 1000]) (E := [.al ((fun p => .pointer (some ⟨p, 0, none⟩)), _) 1000, .al ((fun p => .pointer (some ⟨p, 0, none⟩)), _) 1000, .al ((fun p => .pointer (some ⟨p, 0, none⟩)), _) 1000]) rfl (by kernel_rfl) rfl rfl
  intro th hge hne
  refine Seg.step _ rfl ⟨by rfl, fun U hU => ?_⟩ ?_
  · go_simp; exact vp_alloc rfl rfl rfl
  refine ⟨_, by (simp only [Ent.val]; go_simp <;> exact rfl), ?_⟩
  refine Seg.step _ rfl ⟨by rfl, fun U hU => ?_⟩ ?_
  · go_simp; exact vp_alloc rfl rfl rfl
  refine ⟨_, by (simp only [Ent.val]; go_simp <;> exact rfl), ?_⟩
  refine Seg.step _ rfl ⟨by rfl, fun U hU => ?_⟩ ?_
  · go_simp; exact vp_alloc rfl rfl rfl
  refine ⟨_, by (simp only [Ent.val]; go_simp <;> exact rfl), ?_⟩
  refine Seg.stop (fun U1 hU hk => ?_)
  have nb0 := hge 0 _ _ rfl
  have rb0 := (hk 0 _ _ rfl trivial).1.2 (by simp)
  have nb1 := hge 1 _ _ rfl
  have rb1 := (hk 1 _ _ rfl trivial).1.2 (by simp)
  have nb2 := hge 2 _ _ rfl
  have rb2 := (hk 2 _ _ rfl trivial).1.2 (by simp)
  have ne0_1 := hne 0 1 _ _ _ _ rfl rfl (by omega)
  have ne0_2 := hne 0 2 _ _ _ _ rfl rfl (by omega)
  have ne1_2 := hne 1 2 _ _ _ _ rfl rfl (by omega)
  clear hk hge hne
  generalize th (0 + 0) = p0_0 at *
  dsimp only at rb0
  generalize th (0 + 1) = p0_1 at *
  dsimp only at rb1
  generalize th (0 + 2) = p0_2 at *
  dsimp only at rb2
  have r_p0_0 := rb0
  clear rb0
  have n_p0_0 := nb0
  clear nb0
  have d_p0_0_p0_1 := ne0_1
  clear ne0_1
  have d_p0_0_p0_2 := ne0_2
  clear ne0_2
  have r_p0_1 := rb1
  clear rb1
  have n_p0_1 := nb1
  clear nb1
  have d_p0_1_p0_2 := ne1_2
  clear ne1_2
  have r_p0_2 := rb2
  clear rb2
  have n_p0_2 := nb2
  clear nb2
  have sz1 := hU.size
  have hB : Below w.heap.size w U1 := hU
  clear hU
  replace hP := hid (hP.out.aft hB)
  have hef := hid (eff_after24 (g := B) hB)
  clear hB
  have r0 := hid r_p0_0
  have hb_r0 : p0_0 ≠ B := by omega
  have r1 := hid r_p0_1
  have hb_r1 : p0_1 ≠ B := by omega
  have r2 := hid r_p0_2
  have hb_r2 : p0_2 ≠ B := by omega
  clear r_p0_0 r_p0_1 r_p0_2
  have x0 := held_cell r0.out 0 _ rfl
  have y0 := held_cell r1.out 0 _ rfl
  have y1 := held_cell r1.out 1 _ rfl
  have y2 := held_cell r1.out 2 _ rfl
  have y3 := held_cell r1.out 3 _ rfl
  have y4 := held_cell r1.out 4 _ rfl
  go_wp2_with fail
  refine (kn.out _ hP.out).mono ?_
  rintro r V1 ⟨rfl, hP2, hf2⟩
  replace hP := hid hP2
  clear hP2
  replace r0 := hid (eff_block24 hf2 r0.out hb_r0)
  replace r1 := hid (eff_block24 hf2 r1.out hb_r1)
  replace r2 := hid (eff_block24 hf2 r2.out hb_r2)
  replace hef := hid (eff_trans24 hef.out hf2)
  clear hf2
  clear x0 y0 y1 y2 y3 y4
  have nw := alloc_new V1 (.cells #[.bool false, .int .i64 n] 25)
  have hA := nw.2.1
  have r3 := nw.2.2
  clear nw
  have hlB := hP.out.lt
  go_upto_region 2 with (fail)
  obtain ⟨V2, hV2⟩ : ∃ X, V1.alloc (.cells #[.bool false, .int .i64 n] 25) = X := ⟨_, rfl⟩
  rw [hV2] at hA r3 ⊢
  obtain ⟨q3, hq3⟩ : ∃ X, V1.heap.size = X := ⟨_, rfl⟩
  have hb_r3 : q3 ≠ B := by omega
  rw [hq3] at r3 ⊢
  replace hV2 := hid hV2
  replace hq3 := hid hq3
  clear hlB
  replace hP := hid (hP.out.aft hA)
  replace r0 := hid (held_after hA r0.out)
  replace r2 := hid (held_after hA r2.out)
  replace hef := hid (eff_trans24 hef.out (eff_after24 hA))
  clear hA
  replace r3 := hid r3
  have x0 := held_cell r0.out 0 _ rfl
  go_wp2_with fail
  refine (kx.out _ hP.out).mono ?_
  rintro r V3 ⟨rfl, hP2, hf2⟩
  replace hP := hid hP2
  clear hP2
  replace r0 := hid (eff_block24 hf2 r0.out hb_r0)
  replace r2 := hid (eff_block24 hf2 r2.out hb_r2)
  replace r3 := hid (eff_block24 hf2 r3.out hb_r3)
  replace hef := hid (eff_trans24 hef.out hf2)
  clear hf2
  clear x0
  have x0 := held_cell r0.out 0 _ rfl
  have z0 := held_cell r3.out 0 _ rfl
  have z1 := held_cell r3.out 1 _ rfl
  have q1 := r2.out
  have k0 := held_cell q1 0 _ rfl
  have k1 := held_cell q1 1 _ rfl
  have g0 := held_free q1 0
  have g1 := held_free q1 1
  obtain ⟨W9, hW9, ya, yO⟩ := st2 q1 (.bool false) (.int .i64 n)
  have hef4 := hid (eff_new24 hef.out yO (by omega))
  have hP9 := hid (hP.out.off yO hb_r2 q1 (by intro j s h; match j, h with | 0, h => simp at h | 1, h => simp at h | j + 2, h => simp at h))
  have ez0 := held_cell ya 0 _ rfl
  have ez1 := held_cell ya 1 _ rfl
  clear ya yO q1
  go_wp2_with fail
  refine bodyPost_ret (v := .agg #[.bool false, .int .i64 n]) (by simp [results, Tryz.results38, go_sem, ez0, ez1]) rfl ⟨rfl, hP9.out, hef4.out⟩

end Go.Proofs.YtiokoakamcihcaaGreatDoor
