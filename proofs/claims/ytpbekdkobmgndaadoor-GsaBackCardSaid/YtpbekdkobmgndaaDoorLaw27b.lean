/- The laws of layer 27: GsaBack. -/
import Derived.Test.YtpbekdkobmgndaaDoorGsaB
import Derived.Laws.StructEq
import Derived.Laws.Tables
import Derived.Deep.DeepCutAuto
namespace Go.Proofs.YtpbekdkobmgndaaDoor
open Go.ChangeShapes Go.WideShapes Go.ChangeAt Go.RowKit
set_option linter.unusedVariables false
set_option linter.unusedSimpArgs false

theorem tot_take (L : List ByteArray) (k : Nat) (s : ByteArray) (h : L[k]? = some s) : tot (L.take (k + 1)) = tot (L.take k) + s.size := by
  rw [List.take_add_one, h, tot_app]; simp [tot]
theorem tot_le (L : List ByteArray) (k : Nat) : tot (L.take k) ≤ tot L := by
  have h : tot L = tot (L.take k) + tot (L.drop k) := by rw [← tot_app, List.take_append_drop]
  omega
theorem tot_bd (L : List ByteArray) (h : ∀ s ∈ L, s.size ≤ 100) : tot L ≤ 100 * L.length := by
  induction L with
  | nil => exact Nat.le_refl _
  | cons s L ih =>
    have h1 := h s (List.mem_cons_self ..)
    have h2 := ih fun x hx => h x (List.mem_cons_of_mem _ hx)
    rw [tot_cons, List.length_cons]
    omega
theorem sl_nil27 (W : World) : Sl .i64 W none 0 0 [] := ⟨rfl, Nat.le_refl _, by unfold maxLen; omega, fun _ => rfl, fun i hi => by cases hi⟩
theorem list17 {F : List ByteArray} (h : F.length = 17) : ∃ s0 s1 R, R.length = 15 ∧ F = s0 :: s1 :: R := by
  match F, h with
  | s0 :: s1 :: R, h => exact ⟨s0, s1, R, by simpa using h, rfl⟩
set_option maxRecDepth 100000 in
set_option maxHeartbeats 4000000 in
theorem gback1t (au : Bool) (fx : Int) (zs : List Int) (pi : Bool) (pn : Int) (hi : Bool) (hn : Int) (vi : Bool) (vn : Int) (h0 : gsE au fx zs pi pn hi hn vi vn = 0) : (fL (gsI au fx zs pi pn hi hn vi vn)).length = 17 ∧ zs.length ≤ 12 ∧ ∀ (U : World) (a : Option Addr) (cap : Nat), Els U 1 a 17 cap (strV23 (fL (gsI au fx zs pi pn hi hn vi vn))) → Calls Tryd.prog 8 #[.slice a 17 cap] U fun r w' => After U w' ∧ ∃ (a1 : Option Addr) (n1 c1 : Nat), r = .returned (.tuple #[.agg #[.bool au, .int .i64 fx, .slice a1 n1 c1, .bool pi, .int .i64 pn, .bool hi, .int .i64 hn, .bool vi, .int .i64 vn], .int .i64 0]) ∧ Sl .i64 w' a1 n1 c1 zs := by
  obtain ⟨hz, s0, s1, R, hL, hR, hs, hg⟩ := gback1 au fx zs pi pn hi hn vi vn h0
  rw [hL]
  refine ⟨by simp; omega, hz, fun U a cap hE => ?_⟩
  refine (gstake_any s0 s1 R hR U a 17 cap rfl hE hs).mono ?_
  rw [hg]
  rintro r w' ⟨hA, ⟨h0, -⟩ | ⟨-, a1, n1, c1, hr, hsl⟩⟩
  · exact absurd rfl h0
  · exact ⟨hA, a1, n1, c1, hr, hsl⟩
def NoB (F : List ByteArray) (len1 : Nat) : Prop := ∃ X : Int, X ≠ 0 ∧ ∀ (U : World) (a : Option Addr) (cap : Nat), Els U 1 a len1 cap (strV23 F) → Calls Tryd.prog 8 #[.slice a len1 cap] U fun r w' => r = .returned (.tuple #[.agg #[.bool false, .int .i64 0, .slice none 0 0, .bool false, .int .i64 0, .bool false, .int .i64 0, .bool false, .int .i64 0], .int .i64 X]) ∧ After U w'
def YesB (F : List ByteArray) (len1 : Nat) : Prop := ∃ (b : Bool) (f : Int) (xs : List Int) (pi : Bool) (pn : Int) (ki : Bool) (kn : Int) (vi : Bool) (vn : Int) (M : List ByteArray), xs.length ≤ 12 ∧ (∀ (U : World) (a : Option Addr) (cap : Nat), Els U 1 a len1 cap (strV23 F) → Calls Tryd.prog 8 #[.slice a len1 cap] U fun r w' => After U w' ∧ ∃ (a1 : Option Addr) (n1 c1 : Nat), r = .returned (.tuple #[.agg #[.bool b, .int .i64 f, .slice a1 n1 c1, .bool pi, .int .i64 pn, .bool ki, .int .i64 kn, .bool vi, .int .i64 vn], .int .i64 0]) ∧ Sl .i64 w' a1 n1 c1 xs) ∧ len1 = 17 ∧ M.length = 17 ∧ (∀ (U : World) (a1 : Option Addr) (n1 c1 : Nat), Sl .i64 U a1 n1 c1 xs → Tab U → Calls Tryd.prog 6 #[.agg #[.bool b, .int .i64 f, .slice a1 n1 c1, .bool pi, .int .i64 pn, .bool ki, .int .i64 kn, .bool vi, .int .i64 vn]] U fun r w' => DnOk U 0 M r w') ∧ (∀ (U : World) (a : Option Addr) (cap : Nat), Els U 1 a 17 cap (strV23 M) → Calls Tryd.prog 8 #[.slice a 17 cap] U fun r w' => After U w' ∧ ∃ (a1 : Option Addr) (n1 c1 : Nat), r = .returned (.tuple #[.agg #[.bool b, .int .i64 f, .slice a1 n1 c1, .bool pi, .int .i64 pn, .bool ki, .int .i64 kn, .bool vi, .int .i64 vn], .int .i64 0]) ∧ Sl .i64 w' a1 n1 c1 xs) ∧ tot M ≤ tot F
set_option maxRecDepth 100000 in
set_option maxHeartbeats 4000000 in
theorem two27b (F : List ByteArray) (len1 : Nat) (hlen : F.length = len1) (h100 : ∀ f ∈ F, f.size ≤ 100) : NoB F len1 ∨ YesB F len1 := by
  by_cases hl : len1 = 17
  case neg => exact .inl ⟨3, by decide, fun U a cap _ => gstake_no U a len1 cap hl⟩
  obtain ⟨s0, s1, R, hR, rfl⟩ := list17 (hlen.trans hl)
  have h1000 : ∀ s ∈ s0 :: s1 :: R, s.size ≤ 1000 := fun s hs => Nat.le_trans (h100 s hs) (by decide)
  have kt := fun U a cap hU => gstake_any s0 s1 R hR U a len1 cap hl hU h1000
  obtain ⟨g, hg⟩ : ∃ g, gsR s0 s1 R = g := ⟨_, rfl⟩
  rw [hg] at kt
  by_cases hE0 : g.e = 0
  · obtain ⟨q1, q2, q3, q4⟩ := gback2 s0 s1 R hR (fun s h => h1000 s (by simp [h])) g hg hE0
    obtain ⟨l1, l2, l3⟩ := gback1t g.b g.f g.xs g.p.1 g.p.2 g.h.1 g.h.2 g.v.1 g.v.2 q1
    refine .inr ⟨g.b, g.f, g.xs, g.p.1, g.p.2, g.h.1, g.h.2, g.v.1, g.v.2, fL (gsI g.b g.f g.xs g.p.1 g.p.2 g.h.1 g.h.2 g.v.1 g.v.2), l2, fun U a cap hU => ?_, hl, l1, fun U a n c hS hTU => ?_, l3, q4⟩
    · refine (kt U a cap hU).mono ?_
      rintro r w' ⟨hA, ⟨h0, -⟩ | ⟨-, a1, n1, c1, hr, hsl⟩⟩
      · exact absurd hE0 h0
      · exact ⟨hA, a1, n1, c1, hr, hsl⟩
    · have k := gsput_any g.b g.f a n c g.xs g.p.1 g.p.2 g.h.1 g.h.2 g.v.1 g.v.2 q2 U q3 hS hTU
      rw [q1] at k
      exact k
  · refine .inl ⟨g.e, hE0, fun U a cap hU => ?_⟩
    refine (kt U a cap hU).mono ?_
    rintro r w' ⟨hA, ⟨-, hr⟩ | ⟨h0, -⟩⟩
    · exact ⟨hr, hA⟩
    · exact absurd h0 hE0
set_option maxRecDepth 100000 in
set_option maxHeartbeats 32000000 in
theorem law_GsaBack (a0_0 : Bool) (a0_1 : Int) (a0_2 : Option Addr) (len0_2 cap0_2 : Nat) (z0_2 : List Int) (a0_3 : Bool) (a0_4 : Int) (a0_5 : Bool) (a0_6 : Int) (a0_7 : Bool) (a0_8 : Int) (a1 : Option Addr) (len1 cap1 : Nat) (x1 : List (List Value)) (W : World) (w0_1 : (Lit.int .i64 a0_1).wf = true) (w0_2 : Sl .i64 W a0_2 len0_2 cap0_2 z0_2) (t0_2 : ∀ n ∈ z0_2, (Lit.int .i64 n).wf = true) (w0_4 : (Lit.int .i64 a0_4).wf = true) (w0_6 : (Lit.int .i64 a0_6).wf = true) (w0_8 : (Lit.int .i64 a0_8).wf = true) (w1 : Els W 1 a1 len1 cap1 x1) (t1 : ∀ x ∈ x1, (∃ (c0 : ByteArray), x = [.string c0] ∧ (c0.size ≤ maxLen))) (hT : Tab W) :
    Calls Tryd.prog 3 #[.agg #[.bool a0_0, .int .i64 a0_1, .slice a0_2 len0_2 cap0_2, .bool a0_3, .int .i64 a0_4, .bool a0_5, .int .i64 a0_6, .bool a0_7, .int .i64 a0_8], .slice a1 len1 cap1] W fun e w' => e = .returned (.bool true) ∧ Below W.heap.size W w' := by
  have hz : ∀ x ∈ z0_2, -9223372036854775808 ≤ x ∧ x ≤ 9223372036854775807 := fun x hx => bounds_i64 (t0_2 x hx)
  have hbd := And.intro (bounds_i64 w0_4) (And.intro (bounds_i64 w0_6) (bounds_i64 w0_8))
  clear w0_1 w0_4 w0_6 w0_8 t0_2
  obtain ⟨F, rfl⟩ : ∃ F, x1 = strV23 F := strV23_of x1 (fun x hx => by obtain ⟨c, h, -⟩ := t1 x hx; exact ⟨c, h⟩)
  have hlen := w1.1
  rw [strV23_len] at hlen
  have hEl := hid w1
  clear t1 w1
  by_cases hl : 20 < len0_2
  case pos =>
    have d1 : decide ((20 : Int) < (len0_2 : Int)) = true := by simp; omega
    clear hl hz hbd w0_2 hT hEl hlen
    go_enter Tryd.func3, Tryd.ntmps3
    go_upto_region 0 with (fail)
    apply wp_region_seg0 (w := W) (S := [.al 1000, .q []]) (E := [.al ((fun p => .pointer (some ⟨p, 0, none⟩)), _) 1000, .q0 _]) rfl (by kernel_rfl) rfl rfl
    intro th hge hne
    refine Seg.step _ rfl ⟨by rfl, fun U hU => ?_⟩ ?_
    · go_simp; exact vp_alloc rfl rfl rfl
    refine Seg.sa ?_
    refine Seg.sq ?_
    refine Seg.stop (fun U1 hU hk => ?_)
    have nb0 := hge 0 _ _ rfl
    have rb0 := (hk 0 _ _ rfl trivial).1.2 (by simp)
    clear hk hge hne
    generalize th (0 + 0) = p0_0 at *
    dsimp only at rb0
    have r_p0_0 := rb0
    clear rb0
    have n_p0_0 := nb0
    clear nb0
    have sz1 := hU.size
    have hB : Below W.heap.size W U1 := hU
    clear hU
    have z2 := held_cell r_p0_0 2 _ rfl
    go_wp2_with fail
    refine (knows27_any _).mono ?_
    rintro r V ⟨rfl, hA⟩
    replace hB := bthen hB hA
    go_wp2_with fail
    go_ret
    exact ⟨rfl, hB⟩
  have d1 : decide ((20 : Int) < (len0_2 : Int)) = false := by simp; omega
  have kP := hid (fun U (hA : After W U) (hTU : Tab U) => gsput_any a0_0 a0_1 a0_2 len0_2 cap0_2 z0_2 a0_3 a0_4 a0_5 a0_6 a0_7 a0_8 hz U hbd (w0_2.below hA) hTU)
  have kB := hid (fun h => gback1t a0_0 a0_1 z0_2 a0_3 a0_4 a0_5 a0_6 a0_7 a0_8 h)
  obtain ⟨E, hE⟩ : ∃ E, gsE a0_0 a0_1 z0_2 a0_3 a0_4 a0_5 a0_6 a0_7 a0_8 = E := ⟨_, rfl⟩
  obtain ⟨L, hL⟩ : ∃ L, fL (gsI a0_0 a0_1 z0_2 a0_3 a0_4 a0_5 a0_6 a0_7 a0_8) = L := ⟨_, rfl⟩
  rw [hE, hL] at kP kB
  have hS0 := hid w0_2
  have hzl := hid (show len0_2 ≤ 1000000 by omega)
  clear hE hL hz hbd w0_2 hl
  replace hT := hid hT
  go_enter Tryd.func3, Tryd.ntmps3
  go_upto_region 0 with (fail)
  apply wp_region_seg0 (w := W) (S := [.al 1000, .q []]) (E := [.al ((fun p => .pointer (some ⟨p, 0, none⟩)), _) 1000, .q0 _]) rfl (by kernel_rfl) rfl rfl
  intro th hge hne
  refine Seg.step _ rfl ⟨by rfl, fun U hU => ?_⟩ ?_
  · go_simp; exact vp_alloc rfl rfl rfl
  refine Seg.sa ?_
  refine Seg.sq ?_
  refine Seg.stop (fun U1 hU hk => ?_)
  have nb0 := hge 0 _ _ rfl
  have rb0 := (hk 0 _ _ rfl trivial).1.2 (by simp)
  clear hk hge hne
  generalize th (0 + 0) = p0_0 at *
  dsimp only at rb0
  have r_p0_0 := rb0
  clear rb0
  have n_p0_0 := nb0
  clear nb0
  have sz1 := hU.size
  have hB : Below W.heap.size W U1 := hU
  clear hU
  replace hT := hid (hT.out.on hB)
  replace hEl := hid (hEl.out.below hB)
  replace hS0 := hid (hS0.out.below hB)
  replace hB := hid hB
  have r1 := hid r_p0_0
  clear r_p0_0 n_p0_0
  have z2 := held_cell r1.out 2 _ rfl
  go_wp2_with fail
  refine (few25_any a1 len1 cap1 F _ hlen hEl.out).mono ?_
  rintro e V1 ⟨fb, rfl, hfew, hA⟩
  replace hB := hid (bthen hB.out hA)
  replace hT := hid (hT.out.on hA)
  replace hEl := hid (hEl.out.below hA)
  replace r1 := hid (held_after hA r1.out)
  replace hS0 := hid (hS0.out.below hA)
  clear z2
  clear hA
  cases fb
  case false =>
    clear hfew
    go_wp2_with fail
    refine (knows27_any _).mono ?_
    rintro e V2 ⟨rfl, hA⟩
    replace hB := hid (bthen hB.out hA)
    clear hA
    go_wp2_with fail
    go_ret
    exact ⟨rfl, hB.out⟩
  obtain ⟨h40, h100⟩ := hfew rfl
  clear hfew
  have two := hid (two27b F len1 hlen h100)
  have hF := hid (tot_bd F h100)
  clear h100
  go_wp2_with fail
  refine (knows27_any _).mono ?_
  rintro e V2 ⟨rfl, hA⟩
  replace hB := hid (bthen hB.out hA)
  replace hT := hid (hT.out.on hA)
  replace hEl := hid (hEl.out.below hA)
  replace r1 := hid (held_after hA r1.out)
  replace hS0 := hid (hS0.out.below hA)
  clear hA
  go_wp2_with (first | (refine wpList_load_row rfl 26 (.tmp 2) rfl p0_0 rfl 26 #[.bool a0_0, .int .i64 a0_1, .slice a0_2 len0_2 cap0_2, .bool a0_3, .int .i64 a0_4, .bool a0_5, .int .i64 a0_6, .bool a0_7, .int .i64 a0_8] (0, 0) _ r1.out Tryd.underlying26 rfl (by kernel_rfl) ?_))
  refine (kP.out _ hB.out hT.out).mono ?_
  rintro e V3 ⟨pa, pc, rfl, g1, -, hA⟩
  replace hB := hid (bthen hB.out hA)
  replace hT := hid (hT.out.on hA)
  replace hEl := hid (hEl.out.below hA)
  replace r1 := hid (held_after hA r1.out)
  replace hS0 := hid (hS0.out.below hA)
  clear hA
  obtain ⟨ln, hln⟩ : ∃ n, (if E = 0 then L else []).length = n := ⟨_, rfl⟩
  rw [hln]
  have hl0 := hid (fun (h : E ≠ 0) => (show ln = 0 by rw [← hln, if_neg h]; rfl))
  have g14 := hid (fun (h : E = 0) => (show ln = 17 ∧ Els V3 1 pa 17 pc (strV23 L) by have h1 := (kB.out h).1; rw [if_pos h] at hln g1; rw [h1] at hln g1; exact ⟨hln.symm, g1⟩))
  clear hln g1 kP
  go_wp2_with fail
  refine (num27_any E _).mono ?_
  rintro e V4 ⟨rfl, hA⟩
  replace g14 := hid (fun (h : E = 0) => (⟨(g14.out h).1, (g14.out h).2.below hA⟩ : ln = 17 ∧ Els V4 1 pa 17 pc (strV23 L)))
  replace hB := hid (bthen hB.out hA)
  replace hT := hid (hT.out.on hA)
  replace hEl := hid (hEl.out.below hA)
  replace r1 := hid (held_after hA r1.out)
  replace hS0 := hid (hS0.out.below hA)
  clear hA
  go_upto_if 39 with (fail)
  go_cut [7, 8] (fun _ _ W0 => W0.heap[p0_0]? = some (.cells #[.bool a0_0, .int .i64 a0_1, .slice a0_2 len0_2 cap0_2, .bool a0_3, .int .i64 a0_4, .bool a0_5, .int .i64 a0_6, .bool a0_7, .int .i64 a0_8] 26 (0, 0)) ∧ Tab W0 ∧ Els W0 1 a1 len1 cap1 (strV23 F) ∧ Below W.heap.size W W0)
  case first =>
    by_cases c0 : E = 0
    case neg =>
      have t0 : (E == 0) = false := by simpa using c0
      go_wp2_with fail
      go_meet
      exact ⟨r1.out, hT.out, hEl.out, hB.out⟩
    have g2 := g14.out c0
    obtain ⟨rfl, g3⟩ := g2
    have kX := hid (kB.out c0).2.2
    subst c0
    clear g14 hl0 kB two
    replace g3 := hid g3
    go_wp2_with fail
    refine (kX.out _ _ _ g3.out).mono ?_
    rintro e V5 ⟨hA, a5, n5, c5, rfl, hs5⟩
    replace hB := hid (bthen hB.out hA)
    replace hT := hid (hT.out.on hA)
    replace hEl := hid (hEl.out.below hA)
    replace r1 := hid (held_after hA r1.out)
    replace hS0 := hid (hS0.out.below hA)
    clear g3
    clear hA
    have nw := alloc_new V5 (.cells #[.bool a0_0, .int .i64 a0_1, .slice a5 n5 c5, .bool a0_3, .int .i64 a0_4, .bool a0_5, .int .i64 a0_6, .bool a0_7, .int .i64 a0_8] 26)
    go_upto_region 6 with (fail)
    obtain ⟨S5, hS5⟩ : ∃ X, V5.alloc (.cells #[.bool a0_0, .int .i64 a0_1, .slice a5 n5 c5, .bool a0_3, .int .i64 a0_4, .bool a0_5, .int .i64 a0_6, .bool a0_7, .int .i64 a0_8] 26) = X := ⟨_, rfl⟩
    rw [hS5] at nw ⊢
    obtain ⟨q5, hq5⟩ : ∃ X, V5.heap.size = X := ⟨_, rfl⟩
    rw [hq5] at nw ⊢
    replace hS5 := hid hS5
    replace hq5 := hid hq5
    have r_q5 := hid nw.2.2
    have hA := nw.2.1
    clear nw
    replace hB := hid (bthen hB.out hA)
    replace hT := hid (hT.out.on hA)
    replace hEl := hid (hEl.out.below hA)
    replace r1 := hid (held_after hA r1.out)
    replace hS0 := hid (hS0.out.below hA)
    replace hs5 := hid (hs5.below hA)
    clear hA
    have kS := hid (same27_any a0_0 a0_1 a0_3 a0_4 a0_5 a0_6 a0_7 a0_8 a5 a0_2 n5 c5 len0_2 cap0_2 z0_2 _ hs5.out hS0.out (by have := hs5.out.1; have := hS0.out.1; have := hzl.out; omega) hzl.out)
    go_wp2_with (first | (refine wpList_load_row rfl 26 (.tmp 7) rfl q5 rfl 26 #[.bool a0_0, .int .i64 a0_1, .slice a5 n5 c5, .bool a0_3, .int .i64 a0_4, .bool a0_5, .int .i64 a0_6, .bool a0_7, .int .i64 a0_8] (0, 0) _ r_q5.out Tryd.underlying26 rfl (by kernel_rfl) ?_) | (refine wpList_load_row rfl 26 (.tmp 2) rfl p0_0 rfl 26 #[.bool a0_0, .int .i64 a0_1, .slice a0_2 len0_2 cap0_2, .bool a0_3, .int .i64 a0_4, .bool a0_5, .int .i64 a0_6, .bool a0_7, .int .i64 a0_8] (0, 0) _ r1.out Tryd.underlying26 rfl (by kernel_rfl) ?_))
    refine kS.out.mono ?_
    rintro e V6 ⟨rfl, hA⟩
    replace hB := hid (bthen hB.out hA)
    replace hT := hid (hT.out.on hA)
    replace hEl := hid (hEl.out.below hA)
    replace r1 := hid (held_after hA r1.out)
    replace hS0 := hid (hS0.out.below hA)
    clear kS hs5 r_q5
    clear hA
    go_wp2_with fail
    refine (num27_any 0 _).mono ?_
    rintro e V7 ⟨rfl, hA⟩
    replace hB := hid (bthen hB.out hA)
    replace hT := hid (hT.out.on hA)
    replace hEl := hid (hEl.out.below hA)
    replace r1 := hid (held_after hA r1.out)
    replace hS0 := hid (hS0.out.below hA)
    clear hA
    go_wp2_with fail
    go_meet
    exact ⟨r1.out, hT.out, hEl.out, hB.out⟩
  case rest =>
    clear r1 hT hEl hB g14 kB hS0
    obtain ⟨r1, hT, hEl, hB⟩ := hcut
    replace hT := hid hT
    replace hEl := hid hEl
    replace hB := hid hB
    clear r1
    rcases two.out with ⟨X, hX, kN⟩ | ⟨b, f, xs, pi, pn, ki, kn, vi, vn, M, hxl, kT, h17, hMl, kM, kR, htot⟩
    · replace kN := hid kN
      clear two hF
      go_wp2_with fail
      refine (kN.out _ _ _ hEl.out).mono ?_
      rintro e V8 ⟨rfl, hA⟩
      replace hB := hid (bthen hB.out hA)
      clear hA hT hEl
      have nw := alloc_new V8 (.cells #[.bool false, .int .i64 0, .slice none 0 0, .bool false, .int .i64 0, .bool false, .int .i64 0, .bool false, .int .i64 0] 26)
      go_upto_region 9 with (fail)
      obtain ⟨S8, hS8⟩ : ∃ X, V8.alloc (.cells #[.bool false, .int .i64 0, .slice none 0 0, .bool false, .int .i64 0, .bool false, .int .i64 0, .bool false, .int .i64 0] 26) = X := ⟨_, rfl⟩
      rw [hS8] at nw ⊢
      obtain ⟨q8, hq8⟩ : ∃ X, V8.heap.size = X := ⟨_, rfl⟩
      rw [hq8] at nw ⊢
      replace hS8 := hid hS8
      replace hq8 := hid hq8
      have r_q8 := hid nw.2.2
      have hA := nw.2.1
      clear nw
      replace hB := hid (bthen hB.out hA)
      clear hA
      have tX : (X != 0) = true := by simpa using hX
      go_wp2_with fail
      refine (num27_any X _).mono ?_
      rintro e V9 ⟨rfl, hA⟩
      replace hB := hid (bthen hB.out hA)
      replace r_q8 := hid (held_after hA r_q8.out)
      clear hA
      go_wp2_with (first | (refine wpList_load_row rfl 26 (.tmp 9) rfl q8 rfl 26 #[.bool false, .int .i64 0, .slice none 0 0, .bool false, .int .i64 0, .bool false, .int .i64 0, .bool false, .int .i64 0] (0, 0) _ r_q8.out Tryd.underlying26 rfl (by kernel_rfl) ?_))
      refine (same27_any false 0 false 0 false 0 false 0 none none 0 0 0 0 [] _ (sl_nil27 _) (sl_nil27 _) (by decide) (by decide)).mono ?_
      rintro e V10 ⟨rfl, hA⟩
      replace hB := hid (bthen hB.out hA)
      clear hA
      go_wp2_with fail
      refine (num27_any E _).mono ?_
      rintro e V11 ⟨rfl, hA⟩
      replace hB := hid (bthen hB.out hA)
      clear hA
      by_cases c0 : E = 0
      · have t0 : (E == 0) = true := by simpa using c0
        go_wp2_with fail
        go_ret
        exact ⟨ret_bool (by simp), hB.out⟩
      · have t0 : (E == 0) = false := by simpa using c0
        have tl := hl0.out c0
        have tl2 : ((ln : Int) == 0) = true := by simp; omega
        go_wp2_with fail
        go_ret
        exact ⟨ret_bool (by simp [tl]), hB.out⟩
    · subst h17
      replace kT := hid kT
      replace kM := hid kM
      replace kR := hid kR
      replace htot := hid htot
      replace hxl := hid hxl
      replace hMl := hid hMl
      replace hlen := hid hlen
      clear two hl0
      go_wp2_with fail
      refine (kT.out _ _ _ hEl.out).mono ?_
      rintro e V8 ⟨hA, a8, n8, c8, rfl, hs8⟩
      replace hB := hid (bthen hB.out hA)
      replace hT := hid (hT.out.on hA)
      replace hEl := hid (hEl.out.below hA)
      replace hs8 := hid hs8
      clear hA
      have nw := alloc_new V8 (.cells #[.bool b, .int .i64 f, .slice a8 n8 c8, .bool pi, .int .i64 pn, .bool ki, .int .i64 kn, .bool vi, .int .i64 vn] 26)
      go_upto_region 9 with (fail)
      obtain ⟨S8, hS8⟩ : ∃ X, V8.alloc (.cells #[.bool b, .int .i64 f, .slice a8 n8 c8, .bool pi, .int .i64 pn, .bool ki, .int .i64 kn, .bool vi, .int .i64 vn] 26) = X := ⟨_, rfl⟩
      rw [hS8] at nw ⊢
      obtain ⟨q8, hq8⟩ : ∃ X, V8.heap.size = X := ⟨_, rfl⟩
      rw [hq8] at nw ⊢
      replace hS8 := hid hS8
      replace hq8 := hid hq8
      have r_q8 := hid nw.2.2
      have hA := nw.2.1
      clear nw
      replace hB := hid (bthen hB.out hA)
      replace hT := hid (hT.out.on hA)
      replace hEl := hid (hEl.out.below hA)
      replace hs8 := hid (hs8.out.below hA)
      clear hA
      go_wp2_with fail
      refine (num27_any 0 _).mono ?_
      rintro e V9 ⟨rfl, hA⟩
      replace hB := hid (bthen hB.out hA)
      replace hT := hid (hT.out.on hA)
      replace hEl := hid (hEl.out.below hA)
      replace r_q8 := hid (held_after hA r_q8.out)
      replace hs8 := hid (hs8.out.below hA)
      clear hA
      go_wp2_with (first | (refine wpList_load_row rfl 26 (.tmp 9) rfl q8 rfl 26 #[.bool b, .int .i64 f, .slice a8 n8 c8, .bool pi, .int .i64 pn, .bool ki, .int .i64 kn, .bool vi, .int .i64 vn] (0, 0) _ r_q8.out Tryd.underlying26 rfl (by kernel_rfl) ?_))
      refine (kM.out _ _ _ _ hs8.out hT.out).mono ?_
      rintro e V11 ⟨qa, qc, rfl, g1, -, hA⟩
      rw [if_pos rfl] at g1 ⊢
      rw [hMl.out] at g1 ⊢
      replace g1 := hid g1
      replace hB := hid (bthen hB.out hA)
      replace hT := hid (hT.out.on hA)
      replace hEl := hid (hEl.out.below hA)
      replace r_q8 := hid (held_after hA r_q8.out)
      replace hs8 := hid (hs8.out.below hA)
      clear hA
      go_wp2_with fail
      refine (kR.out _ _ _ g1.out).mono ?_
      rintro e V12 ⟨hA, a12, n12, c12, rfl, hs12⟩
      replace hB := hid (bthen hB.out hA)
      replace hT := hid (hT.out.on hA)
      replace hEl := hid (hEl.out.below hA)
      replace r_q8 := hid (held_after hA r_q8.out)
      replace hs8 := hid (hs8.out.below hA)
      replace g1 := hid (g1.out.below hA)
      replace hs12 := hid hs12
      clear hA
      have nw := alloc_new V12 (.cells #[.bool b, .int .i64 f, .slice a12 n12 c12, .bool pi, .int .i64 pn, .bool ki, .int .i64 kn, .bool vi, .int .i64 vn] 26)
      go_upto_region 13 with (fail)
      obtain ⟨S12, hS12⟩ : ∃ X, V12.alloc (.cells #[.bool b, .int .i64 f, .slice a12 n12 c12, .bool pi, .int .i64 pn, .bool ki, .int .i64 kn, .bool vi, .int .i64 vn] 26) = X := ⟨_, rfl⟩
      rw [hS12] at nw ⊢
      obtain ⟨q12, hq12⟩ : ∃ X, V12.heap.size = X := ⟨_, rfl⟩
      rw [hq12] at nw ⊢
      replace hS12 := hid hS12
      replace hq12 := hid hq12
      have r_q12 := hid nw.2.2
      have hA := nw.2.1
      clear nw
      replace hB := hid (bthen hB.out hA)
      replace hT := hid (hT.out.on hA)
      replace hEl := hid (hEl.out.below hA)
      replace r_q8 := hid (held_after hA r_q8.out)
      replace hs8 := hid (hs8.out.below hA)
      replace g1 := hid (g1.out.below hA)
      replace hs12 := hid (hs12.out.below hA)
      clear hA
      have kS := hid (fun U (hA : After S12 U) => same27_any b f pi pn ki kn vi vn a8 a12 n8 c8 n12 c12 xs U (hs8.out.below hA) (hs12.out.below hA) (by have := hs8.out.1; have := hxl.out; omega) (by have := hs12.out.1; have := hxl.out; omega))
      clear hs8 hs12 hT kT kM kR
      go_wp2_with fail
      go_loopw [15, 16, 17] (fun s t ix wr => ∃ k : Nat, ix = .int .i64 k ∧ k ≤ 17 ∧ s = .int .i64 (tot (F.take k) : Int) ∧ t = .int .i64 (tot (M.take k) : Int) ∧ After S12 wr) (fun _ _ ix _ => 17 - (intOf ix).toNat)
      case atStart => exact ⟨0, rfl, by omega, rfl, rfl, Below.refl _ _⟩
      case round =>
        obtain ⟨k, rfl, hk, rfl, rfl, hA⟩ := hrel
        have bF := tot_le F k
        have bM := tot_le M k
        by_cases hlt : (k : Int) < 17
        case neg =>
          obtain rfl : k = 17 := by omega
          have e1 : F.take 17 = F := List.take_of_length_le (by have := hlen.out; omega)
          have e2 : M.take 17 = M := List.take_of_length_le (by have := hMl.out; omega)
          rw [e1, e2]
          obtain ⟨x, hx⟩ : ∃ x, tot F = x := ⟨_, rfl⟩
          obtain ⟨y, hy⟩ : ∃ x, tot M = x := ⟨_, rfl⟩
          have tle : decide ((y : Int) ≤ (x : Int)) = true := by have := htot.out; simp; omega
          have tl0 := hid (show y ≤ x by have := htot.out; omega)
          rw [hx, hy]
          replace r_q8 := hid (held_after hA r_q8.out)
          replace r_q12 := hid (held_after hA r_q12.out)
          replace hB := hid (bthen hB.out hA)
          replace hA := hid hA
          clear e1 e2 hx hy bF bM hlt hk
          go_wp2_with fail
          refine (num27_any 0 _).mono ?_
          rintro e X1 ⟨rfl, hA1⟩
          replace r_q8 := hid (held_after hA1 r_q8.out)
          replace r_q12 := hid (held_after hA1 r_q12.out)
          replace hB := hid (bthen hB.out hA1)
          replace hA := hid (bthen hA.out hA1)
          clear hA1
          go_wp2_with fail
          refine (num27_any 0 _).mono ?_
          rintro e X2 ⟨rfl, hA1⟩
          replace r_q8 := hid (held_after hA1 r_q8.out)
          replace r_q12 := hid (held_after hA1 r_q12.out)
          replace hB := hid (bthen hB.out hA1)
          replace hA := hid (bthen hA.out hA1)
          clear hA1
          go_wp2_with (first | (refine BigFrame.wpList_want (by rfl) (fun K hK => wp_load_row 26 (.tmp 9) rfl q8 rfl 26 #[.bool b, .int .i64 f, .slice a8 n8 c8, .bool pi, .int .i64 pn, .bool ki, .int .i64 kn, .bool vi, .int .i64 vn] (0, 0) _ r_q8.out Tryd.underlying26 rfl (by kernel_rfl) ?_); refine hK _ _ ?_; clear hK) | (refine BigFrame.wpList_want (by rfl) (fun K hK => wp_load_row 26 (.tmp 13) rfl q12 rfl 26 #[.bool b, .int .i64 f, .slice a12 n12 c12, .bool pi, .int .i64 pn, .bool ki, .int .i64 kn, .bool vi, .int .i64 vn] (0, 0) _ r_q12.out Tryd.underlying26 rfl (by kernel_rfl) ?_); refine hK _ _ ?_; clear hK))
          refine (kS.out _ hA.out).mono ?_
          rintro e X3 ⟨rfl, hA1⟩
          replace hB := hid (bthen hB.out hA1)
          clear hA1
          have tl9 := tl0.out
          go_wp2_with fail
          go_ret
          exact ⟨ret_bool (by simp [tl9]), hB.out⟩
        obtain ⟨t, ht⟩ : ∃ x, M[k]? = some x := ⟨_, List.getElem?_eq_getElem (show k < M.length by have := hMl.out; omega)⟩
        obtain ⟨s, hs⟩ : ∃ x, F[k]? = some x := ⟨_, List.getElem?_eq_getElem (show k < F.length by have := hlen.out; omega)⟩
        obtain ⟨b1, o1, rfl, g0⟩ := (g1.out.below hA).at1 (strV23_at ht)
        obtain ⟨b2, o2, rfl, d0⟩ := (hEl.out.below hA).at1 (strV23_at hs)
        have bF1 := tot_le F (k + 1)
        have bM1 := tot_le M (k + 1)
        have uF := hid (tot_take F k s hs)
        have uM := hid (tot_take M k t ht)
        rw [uF.out] at bF1
        rw [uM.out] at bM1
        have hF1 := hF.out
        rw [hlen.out] at hF1
        have hto := htot.out
        obtain ⟨x, hx⟩ : ∃ x, tot (F.take k) = x := ⟨_, rfl⟩
        obtain ⟨y, hy⟩ : ∃ x, tot (M.take k) = x := ⟨_, rfl⟩
        rw [hx] at bF1 uF ⊢
        rw [hy] at bM1 uM ⊢
        have wx : IntKind.i64.wrap ((x : Int) + (s.size : Int)) = (x : Int) + (s.size : Int) := by rw [IntKind.wrap_i64]; omega
        have wy : IntKind.i64.wrap ((y : Int) + (t.size : Int)) = (y : Int) + (t.size : Int) := by rw [IntKind.wrap_i64]; omega
        have kz : (0 : Int) ≤ k := by omega
        have wk : IntKind.i64.wrap ((k : Int) + 1) = (k : Int) + 1 := by rw [IntKind.wrap_i64]; omega
        have hk1 := hid (show k + 1 ≤ 17 by omega)
        have hms := hid (show 17 - (k + 1) < 17 - k by omega)
        replace hA := hid hA
        clear ht hs hk hx hy bF bM bF1 bM1 hF1 hto
        go_wp2_with fail
        go_roundw
        case rel => exact ⟨k + 1, by simp, hk1.out, by rw [uF.out, Int.natCast_add], by rw [uM.out, Int.natCast_add], hA.out⟩
        case measure => simp [intOf]; have := hms.out; omega

end Go.Proofs.YtpbekdkobmgndaaDoor
