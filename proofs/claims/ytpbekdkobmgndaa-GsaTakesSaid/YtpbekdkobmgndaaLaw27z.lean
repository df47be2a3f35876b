/- The laws of layer 27: GsaTakes. -/
import Derived.Test.YtpbekdkobmgndaaGsa9
import Derived.Laws.StructEq
import Derived.Laws.Tables
import Derived.Deep.DeepCutAuto
namespace Go.Proofs.Ytpbekdkobmgndaa
open Go.ChangeShapes Go.WideShapes Go.ChangeAt Go.RowKit
set_option linter.unusedVariables false
set_option linter.unusedSimpArgs false

set_option maxRecDepth 100000 in
set_option maxHeartbeats 8000000 in
theorem rgstake_no (w : World) (a : Option Addr) (n cap : Nat) (hn : n ≠ 17) : Calls Try.prog 7 #[.slice a n cap] w fun r w' => r = .returned (.tuple #[.agg #[.bool false, .int .i64 0, .slice none 0 0, .bool false, .int .i64 0, .bool false, .int .i64 0, .bool false, .int .i64 0], .int .i64 3]) ∧ After w w' := by
  have b1 : ((n : Int) != 17) = true := by simp; omega
  clear hn
  go_enter Try.func7, Try.ntmps7
  go_upto_region 0 with (fail)
  apply wp_region_seg0 (w := w) (S := [.al 1000, .q []]) (E := [.al ((fun p => .pointer (some ⟨p, 0, none⟩)), _) 1000, .q0 _]) rfl (by kernel_rfl) rfl rfl
  intro th hge hne
  refine Seg.step _ rfl ⟨by rfl, fun U hU => ?_⟩ ?_
  · go_simp; exact vp_alloc rfl rfl rfl
  refine Seg.sa ?_
  refine Seg.sq ?_
  refine Seg.stop (fun U1 hU hk => ?_)
  have nb0 := hge 0 _ _ rfl
  have rb0 := (hk 0 _ _ rfl trivial).1.2 (by simp)
  clear hk hge hne
  generalize th (0 + 0) = p0_0 at *
  dsimp only at rb0
  have r_p0_0 := rb0
  clear rb0
  have n_p0_0 := nb0
  clear nb0
  have sz1 := hU.size
  have hB : Below w.heap.size w U1 := hU
  clear hU
  have ya := setRow_heap U1 p0_0 _ #[.bool false, .int .i64 0, .slice none 0 0, .bool false, .int .i64 0, .bool false, .int .i64 0, .bool false, .int .i64 0] 29 (0, 0) r_p0_0
  have yO : Only p0_0 U1 (U1.setRow p0_0 #[.bool false, .int .i64 0, .slice none 0 0, .bool false, .int .i64 0, .bool false, .int .i64 0, .bool false, .int .i64 0]) := ⟨rfl, rfl, rfl, by simp [World.setRow], fun k hk => setRow_other _ _ _ _ hk⟩
  obtain ⟨W9, hW9⟩ : ∃ X, U1.setRow p0_0 #[.bool false, .int .i64 0, .slice none 0 0, .bool false, .int .i64 0, .bool false, .int .i64 0, .bool false, .int .i64 0] = X := ⟨_, rfl⟩
  rw [hW9] at ya yO
  have hB9 := hid (belowS hB yO (by omega))
  have hld := run_loadVar_row (P := Try.prog) W9 p0_0 29 29 #[.bool false, .int .i64 0, .slice none 0 0, .bool false, .int .i64 0, .bool false, .int .i64 0, .bool false, .int .i64 0] (0, 0) _ ya Try.underlying29 rfl (by kernel_rfl)
  replace ya := hid ya
  clear yO
  go_wp2_with (first | (refine wpList_store_row rfl 29 (.tmp 2) (.tmp 11) rfl p0_0 #[.bool false, .int .i64 0, .slice none 0 0, .bool false, .int .i64 0, .bool false, .int .i64 0, .bool false, .int .i64 0] rfl rfl 29 _ r_p0_0 (by kernel_rfl) rfl (by simp [Value.oneCell']) ?_; rw [hW9]))
  refine bodyPost_ret (v := .tuple #[.agg #[.bool false, .int .i64 0, .slice none 0 0, .bool false, .int .i64 0, .bool false, .int .i64 0, .bool false, .int .i64 0], .int .i64 3]) (by simp [results, Try.results7, asAddr, hld]) rfl ⟨rfl, hB9.out⟩
theorem sl_nil27 (W : World) : Sl .i64 W none 0 0 [] := ⟨rfl, Nat.le_refl _, by unfold maxLen; omega, fun _ => rfl, fun i hi => by cases hi⟩
theorem list17 {F : List ByteArray} (h : F.length = 17) : ∃ s0 s1 R, R.length = 15 ∧ F = s0 :: s1 :: R := by
  match F, h with
  | s0 :: s1 :: R, h => exact ⟨s0, s1, R, by simpa using h, rfl⟩
theorem gsR_len (s0 s1 : ByteArray) (R : List ByteArray) (hl : R.length ≤ 1000) (hs : ∀ s ∈ R, s.size ≤ 1000) : (gsR s0 s1 R).xs.length ≤ 1000000 := by
  have h : (gsR s0 s1 R).xs = (idsS (kp (kp 0 (onE s0 ⟨#[65]⟩ ⟨#[77]⟩)) (fxS s1).2) R 12).1 := by unfold gsR; rfl
  rw [h]
  have := (idsS_ok (e := kp (kp 0 (onE s0 ⟨#[65]⟩ ⟨#[77]⟩)) (fxS s1).2) hl hs 12).2.2.1
  omega
set_option maxRecDepth 100000 in
set_option maxHeartbeats 4000000 in
theorem two27 (F : List ByteArray) (len : Nat) (hlen : F.length = len) (h100 : ∀ f ∈ F, f.size ≤ 100) : ∃ (b : Bool) (f : Int) (xs : List Int) (pi : Bool) (pn : Int) (ki : Bool) (kn : Int) (vi : Bool) (vn : Int) (E : Int), xs.length ≤ 1000000 ∧ (∀ U a cap, Els U 1 a len cap (strV23 F) → Calls Try.prog 6 #[.slice a len cap] U fun r w' => After U w' ∧ ∃ (a1 : Option Addr) (n1 c1 : Nat), r = .returned (.tuple #[.agg #[.bool b, .int .i64 f, .slice a1 n1 c1, .bool pi, .int .i64 pn, .bool ki, .int .i64 kn, .bool vi, .int .i64 vn], .int .i64 E]) ∧ Sl .i64 w' a1 n1 c1 xs) ∧ (∀ U a cap, Els U 1 a len cap (strV23 F) → Calls Try.prog 7 #[.slice a len cap] U fun r w' => After U w' ∧ ∃ (a1 : Option Addr) (n1 c1 : Nat), r = .returned (.tuple #[.agg #[.bool b, .int .i64 f, .slice a1 n1 c1, .bool pi, .int .i64 pn, .bool ki, .int .i64 kn, .bool vi, .int .i64 vn], .int .i64 E]) ∧ Sl .i64 w' a1 n1 c1 xs) := by
  by_cases hl : len = 17
  case neg => exact ⟨false, 0, [], false, 0, false, 0, false, 0, 3, by simp, fun U a cap _ => (gstake_no U a len cap hl).mono (fun r w' ⟨h1, h2⟩ => ⟨h2, none, 0, 0, h1, sl_nil27 _⟩), fun U a cap _ => (rgstake_no U a len cap hl).mono (fun r w' ⟨h1, h2⟩ => ⟨h2, none, 0, 0, h1, sl_nil27 _⟩)⟩
  obtain ⟨s0, s1, R, hR, rfl⟩ := list17 (hlen.trans hl)
  have h1000 : ∀ s ∈ s0 :: s1 :: R, s.size ≤ 1000 := fun s hs => Nat.le_trans (h100 s hs) (by decide)
  have hxs := gsR_len s0 s1 R (by omega) (fun s h => h1000 s (by simp [h]))
  have k1 := fun U a cap hU => gstake_any s0 s1 R hR U a len cap hl hU h1000
  have k2 := fun U a cap hU => rgstake_any s0 s1 R hR U a len cap hl hU h1000
  have he := rgR_e s0 s1 R
  have hk := fun h => rgR_ok (s0 := s0) (s1 := s1) (R := R) h
  generalize gsR s0 s1 R = g at *
  generalize rgR s0 s1 R = g2 at *
  by_cases hE0 : g.e = 0
  · obtain rfl := hk hE0
    refine ⟨g2.b, g2.f, g2.xs, g2.p.1, g2.p.2, g2.h.1, g2.h.2, g2.v.1, g2.v.2, 0, hxs, fun U a cap hU => ?_, fun U a cap hU => ?_⟩
    · refine (k1 U a cap hU).mono ?_
      rintro r w2 ⟨hA, ⟨h0, -⟩ | ⟨-, a1, n1, c1, hr, hsl⟩⟩
      · exact absurd hE0 h0
      · exact ⟨hA, a1, n1, c1, hr, hsl⟩
    · refine (k2 U a cap hU).mono ?_
      rintro r w2 ⟨hA, ⟨h0, -⟩ | ⟨-, a1, n1, c1, hr, hsl⟩⟩
      · exact absurd hE0 h0
      · exact ⟨hA, a1, n1, c1, hr, hsl⟩
  · refine ⟨false, 0, [], false, 0, false, 0, false, 0, g.e, by simp, fun U a cap hU => ?_, fun U a cap hU => ?_⟩
    · refine (k1 U a cap hU).mono ?_
      rintro r w2 ⟨hA, ⟨-, hr⟩ | ⟨h0, -⟩⟩
      · exact ⟨hA, none, 0, 0, hr, sl_nil27 _⟩
      · exact absurd h0 hE0
    · refine (k2 U a cap hU).mono ?_
      rintro r w2 ⟨hA, ⟨-, hr⟩ | ⟨h0, -⟩⟩
      · exact ⟨hA, none, 0, 0, by rw [hr, he], sl_nil27 _⟩
      · exact absurd (he ▸ h0) hE0
set_option maxRecDepth 100000 in
set_option maxHeartbeats 16000000 in
theorem law_GsaTakes (a0 : Option Addr) (len0 cap0 : Nat) (x0 : List (List Value)) (W : World) (w0 : Els W 1 a0 len0 cap0 x0) (t0 : ∀ x ∈ x0, (∃ (c0 : ByteArray), x = [.string c0] ∧ (c0.size ≤ maxLen))) :
    Calls Try.prog 3 #[.slice a0 len0 cap0] W fun e w' => e = .returned (.bool true) ∧ Below W.heap.size W w' := by
  obtain ⟨F, rfl⟩ : ∃ F, x0 = strV23 F := strV23_of x0 (fun x hx => by obtain ⟨c, h, -⟩ := t0 x hx; exact ⟨c, h⟩)
  have hlen := w0.1
  rw [strV23_len] at hlen
  have hEl := hid w0
  clear t0 w0
  go_enter Try.func3, Try.ntmps3
  go_wp2_with fail
  refine (few25_any a0 len0 cap0 F _ hlen hEl.out).mono ?_
  rintro e V1 ⟨b, rfl, hfew, hA⟩
  have hB := hid hA
  replace hEl := hid (hEl.out.below hA)
  clear hA
  cases b
  case false =>
    clear hfew
    go_wp2_with fail
    refine (knows27_any _).mono ?_
    rintro e V2 ⟨rfl, hA⟩
    replace hB := hid (bthen hB.out hA)
    clear hA
    go_wp2_with fail
    go_ret
    exact ⟨rfl, hB.out⟩
  obtain ⟨h40, h100⟩ := hfew rfl
  clear hfew
  go_wp2_with fail
  refine (knows27_any _).mono ?_
  rintro e V2 ⟨rfl, hA⟩
  replace hB := hid (bthen hB.out hA)
  replace hEl := hid (hEl.out.below hA)
  clear hA
  obtain ⟨b, f, xs, pi, pn, ki, kn, vi, vn, E, hxl, k1, k2⟩ := two27 F len0 hlen h100
  clear h40 h100 hlen
  replace k1 := hid k1
  replace k2 := hid k2
  replace hxl := hid hxl
  go_wp2_with fail
  refine (k1.out _ _ _ hEl.out).mono ?_
  rintro e Y1 ⟨hA, a1, n1, c1, rfl, hs1⟩
  replace hB := hid (bthen hB.out hA)
  replace hEl := hid (hEl.out.below hA)
  clear hA
  have nw := alloc_new Y1 (.cells #[.bool b, .int .i64 f, .slice a1 n1 c1, .bool pi, .int .i64 pn, .bool ki, .int .i64 kn, .bool vi, .int .i64 vn] 29)
  go_upto_region 4 with (fail)
  obtain ⟨Z1, hZ1⟩ : ∃ X, Y1.alloc (.cells #[.bool b, .int .i64 f, .slice a1 n1 c1, .bool pi, .int .i64 pn, .bool ki, .int .i64 kn, .bool vi, .int .i64 vn] 29) = X := ⟨_, rfl⟩
  rw [hZ1] at nw ⊢
  obtain ⟨p1, hp1⟩ : ∃ X, Y1.heap.size = X := ⟨_, rfl⟩
  rw [hp1] at nw ⊢
  replace hZ1 := hid hZ1
  replace hp1 := hid hp1
  have r1 := hid nw.2.2
  replace hB := hid (bthen hB.out nw.2.1)
  replace hEl := hid (hEl.out.below nw.2.1)
  replace hs1 := hid (hs1.below nw.2.1)
  clear nw
  go_wp2_with fail
  refine (k2.out _ _ _ hEl.out).mono ?_
  rintro e Y2 ⟨hA, a2, n2, c2, rfl, hs2⟩
  replace hB := hid (bthen hB.out hA)
  replace hEl := hid (hEl.out.below hA)
  replace hs1 := hid (hs1.out.below hA)
  replace r1 := hid (held_after hA r1.out)
  clear hA
  have nw := alloc_new Y2 (.cells #[.bool b, .int .i64 f, .slice a2 n2 c2, .bool pi, .int .i64 pn, .bool ki, .int .i64 kn, .bool vi, .int .i64 vn] 29)
  go_upto_region 5 with (fail)
  obtain ⟨Z2, hZ2⟩ : ∃ X, Y2.alloc (.cells #[.bool b, .int .i64 f, .slice a2 n2 c2, .bool pi, .int .i64 pn, .bool ki, .int .i64 kn, .bool vi, .int .i64 vn] 29) = X := ⟨_, rfl⟩
  rw [hZ2] at nw ⊢
  obtain ⟨p2, hp2⟩ : ∃ X, Y2.heap.size = X := ⟨_, rfl⟩
  rw [hp2] at nw ⊢
  replace hZ2 := hid hZ2
  replace hp2 := hid hp2
  have r2 := hid nw.2.2
  replace hB := hid (bthen hB.out nw.2.1)
  replace hEl := hid (hEl.out.below nw.2.1)
  replace hs2 := hid (hs2.below nw.2.1)
  replace hs1 := hid (hs1.out.below nw.2.1)
  replace r1 := hid (held_after nw.2.1 r1.out)
  clear nw
  clear k1 k2 hEl
  have kS := hid (same27_any b f pi pn ki kn vi vn a1 a2 n1 c1 n2 c2 xs _ hs1.out hs2.out (by have := hs1.out.1; have := hxl.out; omega) (by have := hs2.out.1; have := hxl.out; omega))
  clear hs1 hs2 hxl
  go_wp2_with (first | (refine wpList_load_row rfl 29 (.tmp 3) rfl p1 rfl 29 #[.bool b, .int .i64 f, .slice a1 n1 c1, .bool pi, .int .i64 pn, .bool ki, .int .i64 kn, .bool vi, .int .i64 vn] (0, 0) _ r1.out Try.underlying29 rfl (by kernel_rfl) ?_) | (refine wpList_load_row rfl 29 (.tmp 5) rfl p2 rfl 29 #[.bool b, .int .i64 f, .slice a2 n2 c2, .bool pi, .int .i64 pn, .bool ki, .int .i64 kn, .bool vi, .int .i64 vn] (0, 0) _ r2.out Try.underlying29 rfl (by kernel_rfl) ?_))
  refine kS.out.mono ?_
  rintro e V5 ⟨rfl, hA⟩
  replace hB := hid (bthen hB.out hA)
  clear hA r1 r2 kS
  go_wp2_with fail
  refine (num27_any E _).mono ?_
  rintro e V6 ⟨rfl, hA⟩
  replace hB := hid (bthen hB.out hA)
  clear hA
  go_wp2_with fail
  refine (num27_any E _).mono ?_
  rintro e V7 ⟨rfl, hA⟩
  replace hB := hid (bthen hB.out hA)
  clear hA
  go_wp2_with fail
  go_ret
  exact ⟨ret_bool (by simp), hB.out⟩

end Go.Proofs.Ytpbekdkobmgndaa
