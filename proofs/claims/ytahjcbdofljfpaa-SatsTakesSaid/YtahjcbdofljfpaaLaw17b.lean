/- The laws of layer 17: SatsTakes. -/
import Derived.Test.YtahjcbdofljfpaaLaw17
import Derived.Test.YtahjcbdofljfpaaSats10
import Derived.Test.YtahjcbdofljfpaaSats5
import Derived.Laws.StructEq
import Derived.Deep.DeepCutAuto
namespace Go.Proofs.Ytahjcbdofljfpaa
open Go.ChangeShapes Go.WideShapes Go.ChangeAt Go.RowKit
set_option linter.unusedVariables false
set_option linter.unusedSimpArgs false

set_option maxRecDepth 100000 in
set_option maxHeartbeats 8000000 in
theorem law_SatsTakes (a0 : Option Addr) (len0 cap0 : Nat) (z0 : List Int) (W : World) (w0 : IsRow .u8 W a0 len0 cap0 z0) :
    Calls Try.prog 4 #[.slice a0 len0 cap0] W fun e w' => e = .returned (.bool true) ∧ Below W.heap.size W w' := by
  obtain ⟨hs1, hw1⟩ := w0.sl
  generalize z0.take len0 = bs at hs1 hw1
  clear w0
  have hb2 := hid (bytes_bd hw1)
  replace hs1 := hid hs1
  replace hw1 := hid hw1
  by_cases cb : (1000 : Int) < len0
  case pos =>
    go_enter Try.func4, Try.ntmps4
    go_wp2_with fail
    refine (knows17_any _).mono ?_
    rintro e V ⟨rfl, hst⟩
    replace hst := hid hst
    go_wp2_with fail
    go_ret
    exact ⟨rfl, hst.out⟩
  have te := takSS_e bs
  have hLb := hid (fun l h e => (take_putS hb2.out (tow := l) (l := h) e).2.2)
  have hBad := hid (fun h : (takSS bs).2.2 ≠ 0 => takSS_bad h)
  obtain ⟨⟨ly, L, ge⟩, hq⟩ : ∃ r, takSS bs = r := ⟨_, rfl⟩
  rw [hq] at te hBad
  dsimp only at te hBad
  have hL : L.length ≤ 64 ∧ ∀ x ∈ L, x.length = 7 := by
    by_cases c : ge = 0
    · subst c; have h := hLb.out _ _ hq; exact ⟨h.1, fun x hx => (h.2 x hx).1⟩
    · have h3 := congrArg (fun r => r.2.1) (hBad.out c); dsimp only at h3; rw [h3]; exact ⟨by simp, fun x hx => by cases hx⟩
  have hL100 := hid (show L.length ≤ 100 by omega)
  have hL7 := hid hL.2
  clear hL hBad hLb
  replace hq := hid hq
  go_enter Try.func4, Try.ntmps4
  go_wp2_with fail
  refine (knows17_any _).mono ?_
  rintro e V0 ⟨rfl, hB⟩
  replace hB := hid hB
  go_wp2_with fail
  refine (takeS_any a0 len0 cap0 bs _ (hs1.out.below hB.out) hw1.out (by omega)).mono ?_
  rintro e V1 ⟨r1a, r1c, rfl, hE1, hA⟩
  replace hB := hid (bthen hB.out hA)
  clear hA
  rw [hq.out] at hE1 ⊢
  dsimp only at hE1 ⊢
  replace hE1 := hid hE1
  have nw := alloc_new V1 (.cells #[.int .i64 ly, .slice r1a L.length r1c] 24)
  have hA := nw.2.1
  have rk1 := nw.2.2
  clear nw
  go_upto_region 4 with (fail)
  obtain ⟨V2, hV2⟩ : ∃ X, V1.alloc (.cells #[.int .i64 ly, .slice r1a L.length r1c] 24) = X := ⟨_, rfl⟩
  rw [hV2] at hA rk1 ⊢
  obtain ⟨qk1, hqk1⟩ : ∃ X, V1.heap.size = X := ⟨_, rfl⟩
  rw [hqk1] at rk1 ⊢
  replace hV2 := hid hV2
  replace hqk1 := hid hqk1
  replace hE1 := hid (hE1.out.below hA)
  replace hB := hid (bthen hB.out hA)
  clear hA
  replace rk1 := hid rk1
  go_wp2_with fail
  refine (rtakeS_any a0 len0 cap0 bs _ (hs1.out.below hB.out) hw1.out (by omega)).mono ?_
  rintro e V3 ⟨r2a, r2c, rfl, hE2, hA⟩
  replace hE1 := hid (hE1.out.below hA)
  replace rk1 := hid (held_after hA rk1.out)
  replace hB := hid (bthen hB.out hA)
  clear hA
  rw [hq.out] at hE2 ⊢
  dsimp only at hE2 ⊢
  replace hE2 := hid hE2
  have nw := alloc_new V3 (.cells #[.int .i64 ly, .slice r2a L.length r2c] 24)
  have hA := nw.2.1
  have rk2 := nw.2.2
  clear nw
  go_upto_region 5 with (fail)
  obtain ⟨V4, hV4⟩ : ∃ X, V3.alloc (.cells #[.int .i64 ly, .slice r2a L.length r2c] 24) = X := ⟨_, rfl⟩
  rw [hV4] at hA rk2 ⊢
  obtain ⟨qk2, hqk2⟩ : ∃ X, V3.heap.size = X := ⟨_, rfl⟩
  rw [hqk2] at rk2 ⊢
  replace hV4 := hid hV4
  replace hqk2 := hid hqk2
  replace hE1 := hid (hE1.out.below hA)
  replace hE2 := hid (hE2.out.below hA)
  replace rk1 := hid (held_after hA rk1.out)
  replace hB := hid (bthen hB.out hA)
  clear hA
  replace rk2 := hid rk2
  go_wp2_with fail
  refine (fieldsH17 _).mono ?_
  rintro e V5 ⟨r3a, r3c, rfl, hE3, hA⟩
  replace hE1 := hid (hE1.out.below hA)
  replace hE2 := hid (hE2.out.below hA)
  replace rk1 := hid (held_after hA rk1.out)
  replace rk2 := hid (held_after hA rk2.out)
  replace hB := hid (bthen hB.out hA)
  clear hA
  rw [show HD17.length = 4 from rfl]
  replace hE3 := hid hE3
  go_wp2_with fail
  refine (rfieldsH17 _).mono ?_
  rintro e V6 ⟨r4a, r4c, rfl, hE4, hA⟩
  replace hE1 := hid (hE1.out.below hA)
  replace hE2 := hid (hE2.out.below hA)
  replace hE3 := hid (hE3.out.below hA)
  replace rk1 := hid (held_after hA rk1.out)
  replace rk2 := hid (held_after hA rk2.out)
  replace hB := hid (bthen hB.out hA)
  clear hA
  rw [show HD17.length = 4 from rfl]
  replace hE4 := hid hE4
  go_wp2_with fail
  go_loopw [9] (fun ix wr => ∃ k : Nat, k ≤ 4 ∧ ix = .int .i64 k ∧ After V6 wr) (fun ix _ => 4 - (intOf ix).toNat)
  case atStart => exact ⟨0, by omega, rfl, After.refl _⟩
  case round =>
    obtain ⟨k, hk, rfl, hT⟩ := hrel
    by_cases hlt : (k : Int) < 4
    case pos =>
      obtain ⟨b3, o3, rfl, g0, g1, g2, g3⟩ := (hE3.out.below hT).2.2.2 k (by show k < 4; omega)
      obtain ⟨b4, o4, rfl, f0, f1, f2, f3⟩ := (hE4.out.below hT).2.2.2 k (by show k < 4; omega)
      have kz : (0 : Int) ≤ k := by omega
      have wk : IntKind.i64.wrap ((k : Int) + 1) = (k : Int) + 1 := by rw [IntKind.wrap_i64]; omega
      have hk1 := hid (show k + 1 ≤ 4 by omega)
      replace hT := hid hT
      clear hk
      generalize fN HD17 k = u0 at *
      generalize fS HD17 k = u1 at *
      generalize fL HD17 k = u2 at *
      generalize fH HD17 k = u3 at *
      go_wp2_with fail
      go_quiet (fail)
      go_wp2_with fail
      go_roundw
      case rel => exact ⟨k + 1, hk1.out, by simp, below_drewN hT.out _⟩
      case measure => simp [intOf]; omega
    obtain rfl : k = 4 := by omega
    clear hk hlt
    replace hE1 := hid (hE1.out.below hT)
    replace hE2 := hid (hE2.out.below hT)
    replace hE3 := hid (hE3.out.below hT)
    replace hE4 := hid (hE4.out.below hT)
    replace rk1 := hid (held_after hT rk1.out)
    replace rk2 := hid (held_after hT rk2.out)
    replace hB := hid (bthen hB.out hT)
    clear hT
    go_wp2_with fail
    refine (fieldsS17 _).mono ?_
    rintro e V7 ⟨r5a, r5c, rfl, hE5, hA⟩
    replace hE1 := hid (hE1.out.below hA)
    replace hE2 := hid (hE2.out.below hA)
    replace hE3 := hid (hE3.out.below hA)
    replace hE4 := hid (hE4.out.below hA)
    replace rk1 := hid (held_after hA rk1.out)
    replace rk2 := hid (held_after hA rk2.out)
    replace hB := hid (bthen hB.out hA)
    clear hA
    rw [show SD17.length = 7 from rfl]
    replace hE5 := hid hE5
    go_wp2_with fail
    refine (rfieldsS17 _).mono ?_
    rintro e V8 ⟨r6a, r6c, rfl, hE6, hA⟩
    replace hE1 := hid (hE1.out.below hA)
    replace hE2 := hid (hE2.out.below hA)
    replace hE3 := hid (hE3.out.below hA)
    replace hE4 := hid (hE4.out.below hA)
    replace hE5 := hid (hE5.out.below hA)
    replace rk1 := hid (held_after hA rk1.out)
    replace rk2 := hid (held_after hA rk2.out)
    replace hB := hid (bthen hB.out hA)
    clear hA
    rw [show SD17.length = 7 from rfl]
    replace hE6 := hid hE6
    go_wp2_with fail
    go_loopw [12] (fun ix wr => ∃ k : Nat, k ≤ 7 ∧ ix = .int .i64 k ∧ After V8 wr) (fun ix _ => 7 - (intOf ix).toNat)
    case atStart => exact ⟨0, by omega, rfl, After.refl _⟩
    case round =>
      obtain ⟨k, hk, rfl, hT⟩ := hrel
      by_cases hlt : (k : Int) < 7
      case pos =>
        obtain ⟨b5, o5, rfl, g0, g1, g2, g3⟩ := (hE5.out.below hT).2.2.2 k (by show k < 7; omega)
        obtain ⟨b6, o6, rfl, f0, f1, f2, f3⟩ := (hE6.out.below hT).2.2.2 k (by show k < 7; omega)
        have kz : (0 : Int) ≤ k := by omega
        have wk : IntKind.i64.wrap ((k : Int) + 1) = (k : Int) + 1 := by rw [IntKind.wrap_i64]; omega
        have hk1 := hid (show k + 1 ≤ 7 by omega)
        replace hT := hid hT
        clear hk
        generalize fN SD17 k = u0 at *
        generalize fS SD17 k = u1 at *
        generalize fL SD17 k = u2 at *
        generalize fH SD17 k = u3 at *
        go_wp2_with fail
        go_quiet (fail)
        go_wp2_with fail
        go_roundw
        case rel => exact ⟨k + 1, hk1.out, by simp, below_drewN hT.out _⟩
        case measure => simp [intOf]; omega
      obtain rfl : k = 7 := by omega
      clear hk hlt
      replace hE1 := hid (hE1.out.below hT)
      replace hE2 := hid (hE2.out.below hT)
      replace hE3 := hid (hE3.out.below hT)
      replace hE4 := hid (hE4.out.below hT)
      replace hE5 := hid (hE5.out.below hT)
      replace hE6 := hid (hE6.out.below hT)
      replace rk1 := hid (held_after hT rk1.out)
      replace rk2 := hid (held_after hT rk2.out)
      replace hB := hid (bthen hB.out hT)
      clear hT
      have y0 := held_cell rk1.out 0 _ rfl
      have y1 := held_cell rk1.out 1 _ rfl
      have z0 := held_cell rk2.out 0 _ rfl
      have z1 := held_cell rk2.out 1 _ rfl
      go_wp2_with fail
      clear y0 y1 z0 z1
      refine (same17_refl ly r1a r2a r1c r2c L _ hE1.out hE2.out hL100.out hL7.out).mono ?_
      rintro e V9 ⟨rfl, hA⟩
      replace hE1 := hid (hE1.out.below hA)
      replace hE2 := hid (hE2.out.below hA)
      replace hE3 := hid (hE3.out.below hA)
      replace hE4 := hid (hE4.out.below hA)
      replace hE5 := hid (hE5.out.below hA)
      replace hE6 := hid (hE6.out.below hA)
      replace rk1 := hid (held_after hA rk1.out)
      replace rk2 := hid (held_after hA rk2.out)
      replace hB := hid (bthen hB.out hA)
      clear hA
      go_wp2_with fail
      refine (num17_any ge _ (by omega) (by omega)).mono ?_
      rintro e V ⟨rfl, rfl⟩
      go_wp2_with fail
      refine (num17_any ge _ (by omega) (by omega)).mono ?_
      rintro e V ⟨rfl, rfl⟩
      go_wp2_with fail
      go_ret
      exact ⟨ret_bool (by simp), hB.out⟩

end Go.Proofs.Ytahjcbdofljfpaa
