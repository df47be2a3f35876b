/- Package gga: the small functions that read. -/
import Derived.Test.YthnoomdhgbaecaaGreatDoorGga
import Derived.Test.YthnoomdhgbaecaaGreatDoorClock7
import Derived.Test.YthnoomdhgbaecaaGreatDoorClock11
import Derived.Deep.DeepCutAuto
namespace Go.Proofs.YthnoomdhgbaecaaGreatDoor

open Go.ChangeShapes Go.WideShapes Go.ChangeAt Go.RowKit

set_option linter.unusedVariables false

set_option linter.unusedSimpArgs false

theorem els_offG {w w' : World} {p : Nat} {a : Option Addr} {len cap : Nat} {F : List ByteArray} {c : Array Value} {T : TypeId} (h : Els w 1 a len cap (strV23 F)) (hp : w.heap[p]? = some (.cells c T (0, 0))) (hns : ∀ (j : Nat) (s : ByteArray), c[j]? ≠ some (.string s)) (k : Only p w w') : Els w' 1 a len cap (strV23 F) := by
  refine ⟨h.1, h.2.1, h.2.2.1, h.2.2.2.1, fun i x hx => ?_⟩
  obtain ⟨h1, b, off, e, hc⟩ := h.2.2.2.2 i x hx
  refine ⟨h1, b, off, e, fun j u hj => ?_⟩
  have hb : b ≠ p := by
    intro e2
    subst e2
    have hc2 := hc j u hj
    rw [cell_of_row w b (off + i * 1 + j) _ T (0, 0) hp] at hc2
    obtain ⟨f, -, rfl⟩ : ∃ f, f ∈ F ∧ strC23 f = x := by
      have := List.mem_of_getElem? hx
      exact List.mem_map.1 this
    have hu : u = .string f := by
      match j, hj with
      | 0, hj => simpa [strC23] using hj.symm
      | j + 1, hj => simp [strC23] at hj
    subst hu
    exact hns _ _ hc2
  exact (World.cell?_of_block (w := w) (a := ⟨b, off + i * 1 + j, none⟩) (k.block b hb)).trans (hc j u hj)
theorem EyeIn.off {w w' : World} {B p : Nat} {e : Int} {L : List ByteArray} {c : Array Value} {T : TypeId} (h : EyeIn w B e L) (k : Only p w w') (hne : p ≠ B) (hp : w.heap[p]? = some (.cells c T (0, 0))) (hns : ∀ (j : Nat) (s : ByteArray), c[j]? ≠ some (.string s)) : EyeIn w' B e L := by
  obtain ⟨a, cap, h1, h2, h3⟩ := h
  exact ⟨a, cap, (k.block B hne.symm).trans h1, els_offG h2 hp hns k, h3⟩
theorem RowR.offG {w w' : World} {B p : Nat} {e : Int} {L : List ByteArray} {c : Array Value} {T : TypeId} (h : RowR w B e L) (k : Only p w w') (hne : p ≠ B) (hp : w.heap[p]? = some (.cells c T (0, 0))) (hns : ∀ (j : Nat) (s : ByteArray), c[j]? ≠ some (.string s)) : RowR w' B e L := by
  obtain ⟨F, a, cap, i, h1, h2, h3, h4, h5, h6⟩ := h
  exact ⟨F, a, cap, i, h1, h2, h3, (k.block B hne.symm).trans h4, els_offG h5 hp hns k, h6⟩
theorem seqC (u : ByteArray) (l : List UInt8) : (u.toList == l) = decide (u = ⟨l.toArray⟩) := by
  rw [ByteArray.toList_eq]
  by_cases h : u = ⟨l.toArray⟩
  · subst h; simp
  · rw [decide_eq_false h]
    refine beq_false_of_ne fun e => h ?_
    subst e
    rfl
theorem enumC (B : Nat) (e : Int) (s : ByteArray) (R : List ByteArray) (W M F lo hi : Int) {i : Bool} {n x : Int} (htd : takD s W M F lo hi = (i, n, x)) (w : World) (hP : EyeIn w B e (s :: R)) (hl : (s :: R).length ≤ 1000) (hs : ∀ t ∈ s :: R, t.size ≤ 1000) (hlb : (-9223372036854775808 ≤ lo ∧ lo ≤ 9223372036854775807) ∧ (-9223372036854775808 ≤ hi ∧ hi ≤ 9223372036854775807)) : Calls Tryz.prog 55 #[.pointer (some ⟨B, 0, none⟩), .agg #[.int .i64 W, .int .i64 M, .int .i64 F, .int .i64 lo, .int .i64 hi]] w fun r w' => r = .returned (.agg #[.bool i, .int .i64 n]) ∧ EyeIn w' B (kp e x) R ∧ Eff B w w' := by
  have h : nmS e (s :: R) W M F lo hi = ((i, n), kp e x, R) := by unfold nmS; dsimp only [txS]; rw [htd]
  have k := enum_any B e (s :: R) W M F lo hi w hP hl hs hlb
  rw [h] at k
  exact k
theorem rtakenumC (B : Nat) (e : Int) (s : ByteArray) (R : List ByteArray) (W M F lo hi : Int) {i : Bool} {n x : Int} (htd : takD s W M F lo hi = (i, n, x)) (w : World) (hP : RowR w B e (s :: R)) (hs : ∀ t ∈ s :: R, t.size ≤ 1000) (hlb : (-9223372036854775808 ≤ lo ∧ lo ≤ 9223372036854775807) ∧ (-9223372036854775808 ≤ hi ∧ hi ≤ 9223372036854775807)) : Calls Tryz.prog 68 #[.pointer (some ⟨B, 0, none⟩), .agg #[.int .i64 W, .int .i64 M, .int .i64 F, .int .i64 lo, .int .i64 hi]] w fun r w' => r = .returned (.agg #[.bool i, .int .i64 n]) ∧ RowR w' B (kp e x) R ∧ Eff B w w' := by
  have h : nmS e (s :: R) W M F lo hi = ((i, n), kp e x, R) := by unfold nmS; dsimp only [txS]; rw [htd]
  have k := rtakenum_any B e (s :: R) W M F lo hi w hP hs hlb
  rw [h] at k
  exact k
theorem eangC (B : Nat) (e : Int) (s t : ByteArray) (R : List ByteArray) (lat : Bool) {i : Bool} {n x : Int} (htd : tkaD s t lat = (i, n, x)) (w : World) (hP : EyeIn w B e (s :: t :: R)) (hl : (s :: t :: R).length ≤ 1000) (hs : ∀ u ∈ s :: t :: R, u.size ≤ 1000) : Calls Tryz.prog 52 #[.pointer (some ⟨B, 0, none⟩), .bool lat] w fun r w' => r = .returned (.agg #[.bool i, .int .i64 n]) ∧ EyeIn w' B (kp e x) R ∧ Eff B w w' := by
  have h : agS e (s :: t :: R) lat = ((i, n), kp e x, R) := by unfold agS; dsimp only [txS]; rw [htd]
  have k := eang_any B e (s :: t :: R) lat w hP hl hs
  rw [h] at k
  exact k
theorem rtakeangC (B : Nat) (e : Int) (s t : ByteArray) (R : List ByteArray) (lat : Bool) {i : Bool} {n x : Int} (htd : tkaD s t lat = (i, n, x)) (w : World) (hP : RowR w B e (s :: t :: R)) (hs : ∀ u ∈ s :: t :: R, u.size ≤ 1000) : Calls Tryz.prog 67 #[.pointer (some ⟨B, 0, none⟩), .bool lat] w fun r w' => r = .returned (.agg #[.bool i, .int .i64 n]) ∧ RowR w' B (kp e x) R ∧ Eff B w w' := by
  have h : agS e (s :: t :: R) lat = ((i, n), kp e x, R) := by unfold agS; dsimp only [txS]; rw [htd]
  have k := rtakeang_any B e (s :: t :: R) lat w hP hs
  rw [h] at k
  exact k
set_option maxRecDepth 100000 in
set_option maxHeartbeats 4000000 in
theorem rtakeclock_any (B : Nat) (e : Int) (s : ByteArray) (R : List ByteArray) {b : Bool} {h m c2 c k : Int} (hV : takeV (sb s) = .tuple #[.agg #[.bool b, .int .i64 h, .int .i64 m, .int .i64 c2, .int .i64 c], .int .i64 k]) (w : World) (hP : RowR w B e (s :: R)) (hl : (s :: R).length ≤ 1000) (hs : s.size ≤ 1000) : Calls Tryz.prog 65 #[.pointer (some ⟨B, 0, none⟩)] w fun r w' => r = .returned (.agg #[.bool b, .int .i64 h, .int .i64 m, .int .i64 c2, .int .i64 c]) ∧ RowR w' B (kp e k) R ∧ Eff B w w' := by
  have kx := hid (fun U h => rtextC B e s R U h)
  have kT := hid (fun U => hV ▸ rtake_any s U (by omega))
  have kf := hid (fun U h => rfirstR_any B e k R U h)
  clear hV hl hs
  have hlt := hP.lt
  replace hP := hid hP
  go_enter Tryz.func65, Tryz.ntmps65
  go_upto_region 0 with (fail)
  apply wp_region_seg0 (w := w) (S := [.al 1000]) (E := [.al ((fun p => .pointer (some ⟨p, 0, none⟩)), _) 1000]) rfl (by kernel_rfl) rfl rfl
  intro th hge hne
  refine Seg.step _ rfl ⟨by rfl, fun U hU => ?_⟩ ?_
  · go_simp; exact vp_alloc rfl rfl rfl
  refine Seg.sa ?_
  refine Seg.stop (fun U1 hU hk => ?_)
  have nb0 := hge 0 _ _ rfl
  have rb0 := (hk 0 _ _ rfl trivial).1.2 (by simp)
  clear hk hge hne
  generalize th (0 + 0) = p0_0 at *
  dsimp only at rb0
  have r_p0_0 := rb0
  clear rb0
  have n_p0_0 := nb0
  clear nb0
  have sz1 := hU.size
  have hB : Below w.heap.size w U1 := hU
  clear hU
  replace hP := hid (hP.out.aft hB)
  have hef := hid (eff_after24 (g := B) hB)
  clear hB
  have r0 := hid r_p0_0
  have hb_r0 : p0_0 ≠ B := by omega
  clear r_p0_0
  go_wp2_with fail
  refine (kx.out _ hP.out).mono ?_
  rintro r V1 ⟨rfl, hP2, hf2⟩
  replace hP := hid hP2
  clear hP2
  replace r0 := hid (eff_block24 hf2 r0.out hb_r0)
  replace hef := hid (eff_trans24 hef.out hf2)
  clear hf2
  go_wp2_with fail
  refine (kT.out _).mono ?_
  rintro r V2 ⟨rfl, hA⟩
  replace hP := hid (hP.out.aft hA)
  replace r0 := hid (held_after hA r0.out)
  replace hef := hid (eff_trans24 hef.out (eff_after24 hA))
  clear hA
  have nw := alloc_new V2 (.cells #[.bool b, .int .i64 h, .int .i64 m, .int .i64 c2, .int .i64 c] 23)
  have hA := nw.2.1
  have r2 := nw.2.2
  clear nw
  have hlB := hP.out.lt
  go_upto_region 2 with (fail)
  obtain ⟨V3, hV3⟩ : ∃ X, V2.alloc (.cells #[.bool b, .int .i64 h, .int .i64 m, .int .i64 c2, .int .i64 c] 23) = X := ⟨_, rfl⟩
  rw [hV3] at hA r2 ⊢
  obtain ⟨q2, hq2⟩ : ∃ X, V2.heap.size = X := ⟨_, rfl⟩
  have hb_r2 : q2 ≠ B := by omega
  rw [hq2] at r2 ⊢
  replace hV3 := hid hV3
  replace hq2 := hid hq2
  clear hlB
  replace hP := hid (hP.out.aft hA)
  replace r0 := hid (held_after hA r0.out)
  replace hef := hid (eff_trans24 hef.out (eff_after24 hA))
  clear hA
  replace r2 := hid r2
  go_wp2_with fail
  refine (kf.out _ hP.out).mono ?_
  rintro r V4 ⟨rfl, hP2, hf2⟩
  replace hP := hid hP2
  clear hP2
  replace r0 := hid (eff_block24 hf2 r0.out hb_r0)
  replace r2 := hid (eff_block24 hf2 r2.out hb_r2)
  replace hef := hid (eff_trans24 hef.out hf2)
  clear hf2
  have z0 := held_cell r2.out 0 _ rfl
  have z1 := held_cell r2.out 1 _ rfl
  have z2 := held_cell r2.out 2 _ rfl
  have z3 := held_cell r2.out 3 _ rfl
  have z4 := held_cell r2.out 4 _ rfl
  have q1 := r0.out
  have k0 := held_cell q1 0 _ rfl
  have k1 := held_cell q1 1 _ rfl
  have k2 := held_cell q1 2 _ rfl
  have k3 := held_cell q1 3 _ rfl
  have k4 := held_cell q1 4 _ rfl
  have g0 := held_free q1 0
  have g1 := held_free q1 1
  have g2 := held_free q1 2
  have g3 := held_free q1 3
  have g4 := held_free q1 4
  obtain ⟨W9, hW9, ya, yO⟩ := st5 q1 (.bool b) (.int .i64 h) (.int .i64 m) (.int .i64 c2) (.int .i64 c)
  have hef4 := hid (eff_new24 hef.out yO (by omega))
  have hP9 := hid (hP.out.offG yO hb_r0 q1 (by intro j s h; match j, h with | 0, h => simp at h | 1, h => simp at h | 2, h => simp at h | 3, h => simp at h | 4, h => simp at h | j + 5, h => simp at h))
  have ez0 := held_cell ya 0 _ rfl
  have ez1 := held_cell ya 1 _ rfl
  have ez2 := held_cell ya 2 _ rfl
  have ez3 := held_cell ya 3 _ rfl
  have ez4 := held_cell ya 4 _ rfl
  clear ya yO q1
  go_wp2_with fail
  refine bodyPost_ret (v := .agg #[.bool b, .int .i64 h, .int .i64 m, .int .i64 c2, .int .i64 c]) (by simp [results, Tryz.results65, go_sem, ez0, ez1, ez2, ez3, ez4]) rfl ⟨rfl, hP9.out, hef4.out⟩
end Go.Proofs.YthnoomdhgbaecaaGreatDoor
