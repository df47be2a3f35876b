/- Package turn: products, numbers that are cut and counted. -/
import Derived.Test.YtpdpcdifnlellaaGreatQuat2
import Derived.Test.YtpdpcdifnlellaaGreatKB
import Derived.Deep.DeepCutAuto
namespace Go.Proofs.YtpdpcdifnlellaaGreat
open Go.ChangeShapes Go.WideShapes Go.ChangeAt Go.RowKit
set_option linter.unusedVariables false

theorem rnd30_bd (X Y : Int) (hX : B32 X) (hY : B32 Y) : -4294967297 ≤ roundS (X * Y) 30 ∧ roundS (X * Y) 30 ≤ 4294967297 := by
  obtain ⟨m1, m2⟩ := mul_bd X Y hX.1 hX.2 hY.1 hY.2
  have hp : pow2 (bnd 30 62) = 1073741824 := by decide +kernel
  unfold roundS overS
  rw [hp, if_neg (by omega)]
  have hq : qn (X * Y).natAbs (1073741824 : Int).natAbs ≤ 4294967297 := by
    unfold qn
    have : (1073741824 : Int).natAbs = 1073741824 := rfl
    rw [this]
    split <;> omega
  split
  · omega
  · split <;> omega
theorem tprod_any (a b : Int) (w : World) (h1 : B32 a) (h2 : B32 b) :
    Calls Tryz.prog 47 #[.int .i32 a, .int .i32 b] w fun e w' => e = .returned (.int .i64 (roundS (a * b) 30)) ∧ ∃ k, w' = w.drewN k := by
  obtain ⟨m1, m2⟩ := mul_bd a b h1.1 h1.2 h2.1 h2.2
  have fm : IntKind.i64.wrap (a * b) = a * b := by rw [IntKind.wrap_i64]; omega
  have g1 := h1.1
  have g2 := h1.2
  have g3 := h2.1
  have g4 := h2.2
  obtain ⟨P, hP⟩ : ∃ P, a * b = P := ⟨_, rfl⟩
  rw [hP] at fm m1 m2 ⊢
  go_enter Tryz.func47, Tryz.ntmps47
  go_wp2_with fail
  refine (round_any P 30 _ (by omega) (by omega)).mono ?_
  rintro e w1 ⟨rfl, k, rfl⟩
  go_wp2_with fail
  go_ret
  exact ⟨rfl, k, rfl⟩
def oneIf (b : Bool) : Int := if b then 1 else 0
def ctr (c : Int) : Obj := .cells #[.int .i64 c] 79
theorem ctr_def (c : Int) : ctr c = .cells #[.int .i64 c] 79 := rfl
theorem eff_after {g : Nat} {w U : World} (h : After w U) : Eff g w U := ⟨h.os, h.tape, h.output, h.size, fun k hk _ => h.block k hk⟩
theorem eff_set {g : Nat} {w U : World} (h : Eff g w U) (j : Nat) (v : Value) : Eff g w (U.setCell ⟨g, j, none⟩ v) := ⟨h.os, h.tape, h.output, by simpa using h.size, fun k hk hn => by rw [Below.heap_setCell U ⟨g, j, none⟩ v k hn]; exact h.block k hk hn⟩
theorem ccut_any (n c : Int) (p : Nat) (w : World) (h : w.heap[p]? = some (ctr c)) (h1 : -9223372036854775808 ≤ n) (h2 : n ≤ 9223372036854775807) (h3 : 0 ≤ c) (h4 : c ≤ 1000) :
    Calls Tryz.prog 46 #[.pointer (some ⟨p, 0, none⟩), .int .i64 n] w fun e w' => e = .returned (.int .i32 (clampS n)) ∧ Eff p w w' ∧ w'.heap[p]? = some (ctr (c + oneIf (clampB n))) := by
  have k1 := hid (fun (v : World) => clampV_def n ▸ clamp_any n v h1 h2)
  have hh := hid h
  clear h h1 h2
  generalize clampS n = s at *
  generalize clampB n = b at *
  have hc2 : IntKind.i64.wrap (c + 1) = c + 1 := by rw [IntKind.wrap_i64]; omega
  go_enter Tryz.func46, Tryz.ntmps46
  go_wp2_with fail
  refine (k1.out _).mono ?_
  rintro e U ⟨rfl, hst⟩
  have hU := held_after hst hh.out
  have e0 := held_cell hU 0 _ rfl
  have f0 := held_free hU 0
  replace hU := hid hU
  replace hst := hid hst
  cases b
  · go_wp2_with fail
    go_ret
    exact ⟨rfl, eff_after hst.out, by have := hU.out; simpa [oneIf] using this⟩
  · go_wp2_with fail
    go_ret
    exact ⟨rfl, eff_set (eff_after hst.out) 0 _, held_set hU.out 0 _⟩

end Go.Proofs.YtpdpcdifnlellaaGreat
