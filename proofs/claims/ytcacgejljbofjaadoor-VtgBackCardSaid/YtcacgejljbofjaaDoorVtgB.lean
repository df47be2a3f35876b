/- Package vtg: what is put is taken, what is taken is put. -/
import Derived.Test.YtcacgejljbofjaaDoorVtg5
import Derived.Test.YtcacgejljbofjaaDoorGR
import Derived.Deep.DeepCutAuto
namespace Go.Proofs.YtcacgejljbofjaaDoor
open Go.ChangeShapes Go.WideShapes Go.ChangeAt Go.RowKit
set_option linter.unusedVariables false
set_option linter.unusedSimpArgs false

theorem unE_ul (i : Bool) (l : ByteArray) : unE (ulS i l) l i = 0 := by
  unfold unE ulS
  cases i
  · rw [if_neg (fun h => h.2.elim (fun h => h rfl) (fun h => by cases h))]
  · rw [if_neg (fun h => h.1 rfl)]
theorem ul_back {u l : ByteArray} {i : Bool} (h : unE u l i = 0) : (ulS i l).size ≤ u.size := by
  unfold unE at h
  split at h
  · simp at h
  · rename_i h1
    cases i
    · exact Nat.zero_le _
    · by_cases h2 : u = l
      · rw [h2]; exact Nat.le_refl _
      · exact absurd ⟨h2, .inr rfl⟩ h1
theorem ul_size (i : Bool) {l : ByteArray} (h : l.size ≤ 1000) : (ulS i l).size ≤ 1000 := by
  unfold ulS; split
  · exact h
  · exact Nat.zero_le _
set_option maxRecDepth 100000 in
set_option maxHeartbeats 4000000 in
theorem vback1 (g0i : Bool) (g0n : Int) (g1i : Bool) (g1n : Int) (g2i : Bool) (g2n : Int) (g3i : Bool) (g3n : Int) (h0 : fE (vtI g0i g0n g1i g1n g2i g2n g3i g3n) = 0) : (fL (vtI g0i g0n g1i g1n g2i g2n g3i g3n)).length = 8 ∧ ∀ (U : World) (a : Option Addr) (cap : Nat), Els U 1 a 8 cap (strV23 (fL (vtI g0i g0n g1i g1n g2i g2n g3i g3n))) → Calls Tryd.prog 15 #[.slice a 8 cap] U fun r w' => r = .returned (.tuple #[.agg #[.bool g0i, .int .i64 g0n, .bool g1i, .int .i64 g1n, .bool g2i, .int .i64 g2n, .bool g3i, .int .i64 g3n], .int .i64 0]) ∧ After U w' := by
  have hz := (fE_zero2 (e := 0) h0).2
  have a0 := put_all2 (hz _ (List.Mem.head _))
  have a1 := put_all2 (hz _ (List.Mem.tail _ (List.Mem.head _)))
  have a2 := put_all2 (hz _ (List.Mem.tail _ (List.Mem.tail _ (List.Mem.head _))))
  have a3 := put_all2 (hz _ (List.Mem.tail _ (List.Mem.tail _ (List.Mem.tail _ (List.Mem.head _)))))
  refine ⟨rfl, fun U a cap hE => ?_⟩
  have hK : moL (kp (kp (kp (kp (kp (kp (kp (kp 0 0) (unE (ulS g0i ⟨#[84]⟩) ⟨#[84]⟩ g0i)) 0) (unE (ulS g1i ⟨#[77]⟩) ⟨#[77]⟩ g1i)) 0) (unE (ulS g2i ⟨#[78]⟩) ⟨#[78]⟩ g2i)) 0) (unE (ulS g3i ⟨#[75]⟩) ⟨#[75]⟩ g3i)) [] = 0 := by rw [unE_ul, unE_ul, unE_ul, unE_ul]; rfl
  have k := vtake_any (nb (putD g0i g0n 1 3 2 0 36000).1) (ulS g0i ⟨#[84]⟩) (nb (putD g1i g1n 1 3 2 0 36000).1) (ulS g1i ⟨#[77]⟩) (nb (putD g2i g2n 1 4 2 0 999999).1) (ulS g2i ⟨#[78]⟩) (nb (putD g3i g3n 1 4 2 0 999999).1) (ulS g3i ⟨#[75]⟩) [] (by decide) a0.1 a1.1 a2.1 a3.1 hK U a 8 cap rfl hE (List.forall_mem_cons.2 ⟨a0.2, (List.forall_mem_cons.2 ⟨(ul_size _ (by decide)), (List.forall_mem_cons.2 ⟨a1.2, (List.forall_mem_cons.2 ⟨(ul_size _ (by decide)), (List.forall_mem_cons.2 ⟨a2.2, (List.forall_mem_cons.2 ⟨(ul_size _ (by decide)), (List.forall_mem_cons.2 ⟨a3.2, (List.forall_mem_cons.2 ⟨(ul_size _ (by decide)), (fun s hs => by cases hs)⟩)⟩)⟩)⟩)⟩)⟩)⟩)⟩)
  unfold vmR at k
  rw [if_pos rfl] at k
  exact k
set_option maxRecDepth 100000 in
set_option maxHeartbeats 4000000 in
theorem vback2 (s0 s1 s2 s3 s4 s5 s6 s7 : ByteArray) (R : List ByteArray) (hR : R.length ≤ 1) {g0i : Bool} {g0n x0 : Int} {g1i : Bool} {g1n x1 : Int} {g2i : Bool} {g2n x2 : Int} {g3i : Bool} {g3n x3 : Int} (h0 : takD s0 1 3 2 0 36000 = (g0i, g0n, x0)) (h1 : takD s2 1 3 2 0 36000 = (g1i, g1n, x1)) (h2 : takD s4 1 4 2 0 999999 = (g2i, g2n, x2)) (h3 : takD s6 1 4 2 0 999999 = (g3i, g3n, x3)) (hKE : moL (kp (kp (kp (kp (kp (kp (kp (kp 0 x0) (unE s1 ⟨#[84]⟩ g0i)) x1) (unE s3 ⟨#[77]⟩ g1i)) x2) (unE s5 ⟨#[78]⟩ g2i)) x3) (unE s7 ⟨#[75]⟩ g3i)) R = 0) : fE (vtI g0i g0n g1i g1n g2i g2n g3i g3n) = 0 ∧ ((-9223372036854775808 ≤ g0n ∧ g0n ≤ 9223372036854775807) ∧ (-9223372036854775808 ≤ g1n ∧ g1n ≤ 9223372036854775807) ∧ (-9223372036854775808 ≤ g2n ∧ g2n ≤ 9223372036854775807) ∧ (-9223372036854775808 ≤ g3n ∧ g3n ≤ 9223372036854775807)) ∧ ∀ (i : Nat) (t s : ByteArray), (fL (vtI g0i g0n g1i g1n g2i g2n g3i g3n))[i]? = some t → (s0 :: s1 :: s2 :: s3 :: s4 :: s5 :: s6 :: s7 :: R)[i]? = some s → t.size ≤ s.size := by
  have q7 := kp_ok (moL_zero hKE)
  have q6 := kp_ok q7.1
  have q5 := kp_ok q6.1
  have q4 := kp_ok q5.1
  have q3 := kp_ok q4.1
  have q2 := kp_ok q3.1
  have q1 := kp_ok q2.1
  have q0 := kp_ok q1.1
  rw [q0.2] at h0
  rw [q2.2] at h1
  rw [q4.2] at h2
  rw [q6.2] at h3
  obtain ⟨P0, g0, b0, l0⟩ := tak_all h0 rfl (by decide)
  replace l0 := l0 rfl
  have u0 := ul_back q1.2
  obtain ⟨P1, g1, b1, l1⟩ := tak_all h1 rfl (by decide)
  replace l1 := l1 rfl
  have u1 := ul_back q3.2
  obtain ⟨P2, g2, b2, l2⟩ := tak_all h2 rfl (by decide)
  replace l2 := l2 rfl
  have u2 := ul_back q5.2
  obtain ⟨P3, g3, b3, l3⟩ := tak_all h3 rfl (by decide)
  replace l3 := l3 rfl
  have u3 := ul_back q7.2
  have hL : vtI g0i g0n g1i g1n g2i g2n g3i g3n = [([nb P0, ulS g0i ⟨#[84]⟩], 0), ([nb P1, ulS g1i ⟨#[77]⟩], 0), ([nb P2, ulS g2i ⟨#[78]⟩], 0), ([nb P3, ulS g3i ⟨#[75]⟩], 0)] := by unfold vtI; rw [g0, g1, g2, g3]
  rw [hL]
  refine ⟨rfl, ⟨b0, b1, b2, b3⟩, fun i t s ht hs => ?_⟩
  match i, ht, hs with
  | 0, ht, hs => cases ht; cases hs; exact l0
  | 1, ht, hs => cases ht; cases hs; exact u0
  | 2, ht, hs => cases ht; cases hs; exact l1
  | 3, ht, hs => cases ht; cases hs; exact u1
  | 4, ht, hs => cases ht; cases hs; exact l2
  | 5, ht, hs => cases ht; cases hs; exact u2
  | 6, ht, hs => cases ht; cases hs; exact l3
  | 7, ht, hs => cases ht; cases hs; exact u3
  | i + 8, ht, hs => cases ht

end Go.Proofs.YtcacgejljbofjaaDoor
