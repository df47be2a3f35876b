/- The laws of layer 36: FlogWrites. -/
import Derived.Test.YtkpncailoekjpaaLaw36
import Derived.Test.YtkpncailoekjpaaFlog7
import Derived.Deep.DeepCutAuto
namespace Go.Proofs.Ytkpncailoekjpaa
open Go.ChangeShapes Go.WideShapes Go.ChangeAt Go.RowKit
set_option linter.unusedVariables false
set_option linter.unusedSimpArgs false

set_option maxRecDepth 100000 in
set_option maxHeartbeats 8000000 in
theorem law_FlogWrites (a0 : Int) (a1 : Option Addr) (len1 cap1 : Nat) (x1 : List (List Value)) (W : World) (w0 : (Lit.int .i64 a0).wf = true) (w1 : Els W 13 a1 len1 cap1 x1) (t1 : ∀ x ∈ x1, (∃ (c0 : Int) (c1 : Int) (c2 : Int) (c3 : Int) (c4 : Int) (c5 : Int) (c6 : Int) (c7 : Int) (c8 : Int) (c9 : Int) (c10 : Int) (c11 : Int) (c12 : Int), x = [.int .u32 c0, .int .i32 c1, .int .i32 c2, .int .i32 c3, .int .i32 c4, .int .i32 c5, .int .i32 c6, .int .i32 c7, .int .i32 c8, .int .i32 c9, .int .i32 c10, .int .i32 c11, .int .i32 c12] ∧ ((Lit.int .u32 c0).wf = true) ∧ ((Lit.int .i32 c1).wf = true) ∧ ((Lit.int .i32 c2).wf = true) ∧ ((Lit.int .i32 c3).wf = true) ∧ ((Lit.int .i32 c4).wf = true) ∧ ((Lit.int .i32 c5).wf = true) ∧ ((Lit.int .i32 c6).wf = true) ∧ ((Lit.int .i32 c7).wf = true) ∧ ((Lit.int .i32 c8).wf = true) ∧ ((Lit.int .i32 c9).wf = true) ∧ ((Lit.int .i32 c10).wf = true) ∧ ((Lit.int .i32 c11).wf = true) ∧ ((Lit.int .i32 c12).wf = true))) :
    Calls Try.prog 4 #[.int .i64 a0, .slice a1 len1 cap1] W fun e w' => e = .returned (.bool true) ∧ Below W.heap.size W w' := by
  obtain ⟨l, rfl, hl⟩ := els_recs t1
  obtain rfl : l.length = len1 := by have := w1.1; simpa [recsV] using this
  clear t1 w0
  obtain ⟨n, hn⟩ : ∃ n, l.length = n := ⟨_, rfl⟩
  rw [hn] at w1 ⊢
  have hE := hid w1
  clear w1
  replace hl := hid hl
  replace hn := hid hn
  by_cases cb : (60 : Int) < n
  case pos =>
    go_enter Try.func4, Try.ntmps4
    go_wp2_with fail
    refine (knows36_any _).mono ?_
    rintro e V ⟨rfl, hst⟩
    replace hst := hid hst
    go_wp2_with fail
    go_ret
    exact ⟨rfl, hst.out⟩
  have h60 : n ≤ 60 := by omega
  have hcon : ∃ (L : List Int) (ee : Int), (0 ≤ ee ∧ ee ≤ 9) ∧ (∀ U, Els U 13 a1 n cap1 (recsV l) → Calls Try.prog 15 #[.int .i64 a0, .slice a1 n cap1] U (WrOk U L ee)) ∧ (∀ U, Els U 13 a1 n cap1 (recsV l) → Calls Try.prog 16 #[.int .i64 a0, .slice a1 n cap1] U (WrOk U L ee)) := by
    by_cases hbad : a0 < 1 ∨ 255 < a0
    · exact ⟨[], 1, by omega, fun U _ => lwrite_bad a0 _ U hbad, fun U _ => rwrite_bad a0 _ U hbad⟩
    · obtain ⟨ev, rfl⟩ : ∃ ev : Nat, a0 = ev := ⟨a0.toNat, by omega⟩
      exact ⟨writeS ev l, 0, by omega, fun U h => lwrite_any ev a1 n cap1 l U (by omega) (by omega) hn.out (by omega) h hl.out, fun U h => rwrite_any ev a1 n cap1 l U (by omega) (by omega) hn.out (by omega) h hl.out⟩
  obtain ⟨L, ee, he, k1, k2⟩ := hcon
  replace k1 := hid k1
  replace k2 := hid k2
  go_enter Try.func4, Try.ntmps4
  go_wp2_with fail
  refine (knows36_any _).mono ?_
  rintro e V0 ⟨rfl, hB⟩
  replace hE := hid (hE.out.below hB)
  replace hB := hid hB
  go_wp2_with fail
  refine (k1.out _ hE.out).mono ?_
  rintro e V1 ⟨r1a, r1c, rfl, hO1, hA⟩
  replace hE := hid (hE.out.below hA)
  replace hB := hid (bthen hB.out hA)
  clear hA
  replace hO1 := hid hO1.slf
  go_wp2_with fail
  refine (k2.out _ hE.out).mono ?_
  rintro e V2 ⟨r2a, r2c, rfl, hO2, hA⟩
  replace hE := hid (hE.out.below hA)
  replace hO1 := hid (hO1.out.below hA)
  replace hB := hid (bthen hB.out hA)
  clear hA
  have c1 := txt36 hO1.out
  have c2 := txt36 hO2.slf
  clear hO2
  generalize textOf L = TX at *
  go_wp2_with fail
  refine (num36_any ee _ (by omega) (by omega)).mono ?_
  rintro e V ⟨rfl, rfl⟩
  go_wp2_with fail
  refine (num36_any ee _ (by omega) (by omega)).mono ?_
  rintro e V ⟨rfl, rfl⟩
  go_wp2_with fail
  go_ret
  exact ⟨ret_bool (by simp), hB.out⟩

end Go.Proofs.Ytkpncailoekjpaa
