/- The laws of layer 20: ValsetTakes. -/
import Derived.Test.YtdgmmndklmomkaaLaw20
import Derived.Deep.DeepCutAuto
namespace Go.Proofs.Ytdgmmndklmomkaa
open Go.ChangeShapes Go.WideShapes Go.ChangeAt Go.RowKit
set_option linter.unusedVariables false
set_option linter.unusedSimpArgs false

set_option maxRecDepth 100000 in
set_option maxHeartbeats 8000000 in
theorem law_ValsetTakes (a0 : Option Addr) (len0 cap0 : Nat) (z0 : List Int) (W : World) (w0 : IsRow .u8 W a0 len0 cap0 z0) :
    Calls Try.prog 4 #[.slice a0 len0 cap0] W fun e w' => e = .returned (.bool true) ∧ Below W.heap.size W w' := by
  obtain ⟨hs1, hw1⟩ := w0.sl
  generalize z0.take len0 = bs at hs1 hw1
  clear w0
  have hb2 := hid (bytes_bd hw1)
  replace hs1 := hid hs1
  replace hw1 := hid hw1
  by_cases cb : (600 : Int) < len0
  case pos =>
    go_enter Try.func4, Try.ntmps4
    go_wp2_with fail
    refine (knows20_any _).mono ?_
    rintro e V ⟨rfl, hst⟩
    replace hst := hid hst
    go_wp2_with fail
    go_ret
    exact ⟨rfl, hst.out⟩
  have te := takVS_e bs
  have hLb := hid (fun l h e => (take_putV hb2.out (layers := l) (l := h) e).2.2.2)
  obtain ⟨⟨ly, L, ge⟩, hq⟩ : ∃ r, takVS bs = r := ⟨_, rfl⟩
  rw [hq] at te
  dsimp only at te
  have hL40 : L.length ≤ 40 := by
    by_cases c : ge = 0
    · subst c; have := hLb.out _ _ hq; omega
    · have h2 := takVS_bad (bs := bs) (by rw [hq]; exact c); rw [hq] at h2; have h3 := congrArg (fun r => r.2.1) h2; dsimp only at h3; rw [h3]; simp
  replace hL40 := hid hL40
  replace hq := hid hq
  go_enter Try.func4, Try.ntmps4
  go_wp2_with fail
  refine (knows20_any _).mono ?_
  rintro e V0 ⟨rfl, hB⟩
  replace hB := hid hB
  go_wp2_with fail
  refine (takeV_any a0 len0 cap0 bs _ (hs1.out.below hB.out) hw1.out (by omega)).mono ?_
  rintro e V1 ⟨r1a, r1c, rfl, hE1, hA⟩
  replace hB := hid (bthen hB.out hA)
  clear hA
  rw [hq.out] at hE1 ⊢
  dsimp only at hE1 ⊢
  replace hE1 := hid hE1
  have nw := alloc_new V1 (.cells #[.int .i64 ly, .slice r1a L.length r1c] 24)
  have hA := nw.2.1
  have rk1 := nw.2.2
  clear nw
  go_upto_region 4 with (fail)
  obtain ⟨V2, hV2⟩ : ∃ X, V1.alloc (.cells #[.int .i64 ly, .slice r1a L.length r1c] 24) = X := ⟨_, rfl⟩
  rw [hV2] at hA rk1 ⊢
  obtain ⟨qk1, hqk1⟩ : ∃ X, V1.heap.size = X := ⟨_, rfl⟩
  rw [hqk1] at rk1 ⊢
  replace hV2 := hid hV2
  replace hqk1 := hid hqk1
  replace hE1 := hid (hE1.out.below hA)
  replace hB := hid (bthen hB.out hA)
  clear hA
  replace rk1 := hid rk1
  go_wp2_with fail
  refine (rtakeV_any a0 len0 cap0 bs _ (hs1.out.below hB.out) hw1.out (by omega)).mono ?_
  rintro e V3 ⟨r2a, r2c, rfl, hE2, hA⟩
  replace hE1 := hid (hE1.out.below hA)
  replace rk1 := hid (held_after hA rk1.out)
  replace hB := hid (bthen hB.out hA)
  clear hA
  rw [hq.out] at hE2 ⊢
  dsimp only at hE2 ⊢
  replace hE2 := hid hE2
  have nw := alloc_new V3 (.cells #[.int .i64 ly, .slice r2a L.length r2c] 24)
  have hA := nw.2.1
  have rk2 := nw.2.2
  clear nw
  go_upto_region 5 with (fail)
  obtain ⟨V4, hV4⟩ : ∃ X, V3.alloc (.cells #[.int .i64 ly, .slice r2a L.length r2c] 24) = X := ⟨_, rfl⟩
  rw [hV4] at hA rk2 ⊢
  obtain ⟨qk2, hqk2⟩ : ∃ X, V3.heap.size = X := ⟨_, rfl⟩
  rw [hqk2] at rk2 ⊢
  replace hV4 := hid hV4
  replace hqk2 := hid hqk2
  replace hE1 := hid (hE1.out.below hA)
  replace hE2 := hid (hE2.out.below hA)
  replace rk1 := hid (held_after hA rk1.out)
  replace hB := hid (bthen hB.out hA)
  clear hA
  replace rk2 := hid rk2
  have y0 := held_cell rk1.out 0 _ rfl
  have y1 := held_cell rk1.out 1 _ rfl
  have z0 := held_cell rk2.out 0 _ rfl
  have z1 := held_cell rk2.out 1 _ rfl
  go_wp2_with fail
  clear y0 y1 z0 z1
  refine (same20_refl ly r1a r2a r1c r2c L _ hE1.out hE2.out hL40.out).mono ?_
  rintro e V5 ⟨rfl, hA⟩
  replace hE1 := hid (hE1.out.below hA)
  replace hE2 := hid (hE2.out.below hA)
  replace rk1 := hid (held_after hA rk1.out)
  replace rk2 := hid (held_after hA rk2.out)
  replace hB := hid (bthen hB.out hA)
  clear hA
  go_wp2_with fail
  refine (num20_any ge _ (by omega) (by omega)).mono ?_
  rintro e V ⟨rfl, rfl⟩
  go_wp2_with fail
  refine (num20_any ge _ (by omega) (by omega)).mono ?_
  rintro e V ⟨rfl, rfl⟩
  go_wp2_with fail
  go_ret
  exact ⟨ret_bool (by simp), hB.out⟩

end Go.Proofs.Ytdgmmndklmomkaa
