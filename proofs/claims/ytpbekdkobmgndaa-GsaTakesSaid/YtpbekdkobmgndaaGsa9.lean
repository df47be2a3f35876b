/- The papers' gsa Take. -/
import Derived.Test.YtpbekdkobmgndaaGsa8
import Derived.Test.YtpbekdkobmgndaaGX3
import Derived.Laws.Tables
import Derived.Laws.Rows
import Derived.Deep.DeepCutAuto
namespace Go.Proofs.Ytpbekdkobmgndaa
open Go.ChangeShapes Go.WideShapes Go.ChangeAt Go.RowKit
set_option linter.unusedVariables false
set_option linter.unusedSimpArgs false

theorem i64s27 : IntsOf Try.prog 25 2 .i64 8 := ⟨Try.underlying25, by kernel_rfl⟩
theorem own_eff27 {k : IntKind} {E T : TypeId} {w U : World} {base g : Nat} {v : Value} {zs : List Int} {c : Array Value} (h : Own k E w base v zs) (hg : w.heap[g]? = some (.cells c T (0, 0))) (hT : T ≠ E) (hE : Eff g w U) : Own k E U base v zs :=
  World.ownsRow.kept (w' := U) (row := some g) h ⟨hE.os, hE.tape, hE.output, hE.size, fun j h1 h2 => hE.block j h1 (fun e => h2 (by rw [e]))⟩ (.inr (fun e => own_ne h hg hT e.symm))
theorem RowRN.cells {N : Nat} {w : World} {B : Nat} {e : Int} {L : List ByteArray} (h : RowRN N w B e L) : ∃ c, w.heap[B]? = some (.cells c 54 (0, 0)) := by
  obtain ⟨F, a, cap, i, h1, h2, h3, h4, h5, h6⟩ := h
  exact ⟨_, h4⟩
theorem own_row27 {E : TypeId} {N b : Nat} {k : IntKind} {w U : World} {B : Nat} {e : Int} {L : List ByteArray} {v : Value} {zs : List Int} (h : Own k E w b v zs) (hr : RowRN N w B e L) (hT : 54 ≠ E) (hE : Eff B w U) : Own k E U b v zs := by
  obtain ⟨c, hc⟩ := hr.cells
  exact own_eff27 h hc hT hE
theorem own_only27 {k : IntKind} {E T : TypeId} {w U : World} {base g : Nat} {v : Value} {zs : List Int} {c : Array Value} (h : Own k E w base v zs) (hg : w.heap[g]? = some (.cells c T (0, 0))) (hT : T ≠ E) (hO : Only g w U) : Own k E U base v zs :=
  own_eff27 h hg hT ⟨hO.os, hO.tape, hO.output, by rw [hO.size]; exact Nat.le_refl _, fun j _ hn => hO.block j hn⟩
theorem sl_one27 (w : World) (c : Int) (T : TypeId) : Sl .i64 (w.alloc (.cells #[.int .i64 c] T)) (some ⟨w.heap.size, 0, none⟩) 1 1 [c] := ⟨rfl, Nat.le_refl _, by unfold maxLen; omega, (fun h => nomatch h), rd_one w .i64 c T⟩
/-- What the papers read of the fields. -/
def rgR (s0 s1 : ByteArray) (R : List ByteArray) : GsR := ⟨(gsR s0 s1 R).b, (dgS s1 1 3).1, (gsR s0 s1 R).xs, (gsR s0 s1 R).p, (gsR s0 s1 R).h, (gsR s0 s1 R).v, (gsR s0 s1 R).e⟩
theorem kp_zr27 {e x : Int} (h : kp e x = 0) : e = 0 := by unfold kp at h; split at h <;> omega
theorem txS_zero {e : Int} {L : List ByteArray} (h : (txS e L).2.1 = 0) : e = 0 := by
  cases L with
  | nil => exact kp_zr27 (x := 3) h
  | cons s r => exact h
theorem nmS_zero {e W M F lo hi : Int} {L : List ByteArray} (h : (nmS e L W M F lo hi).2.1 = 0) : e = 0 := txS_zero (kp_zr27 h)
theorem idsS_zero {e : Int} {L : List ByteArray} : ∀ k, (idsS e L k).2.1 = 0 → e = 0
  | 0, h => h
  | k + 1, h => idsS_zero k (nmS_zero (show (nmS (idsS e L k).2.1 (idsS e L k).2.2 1 3 0 1 255).2.1 = 0 from h))
theorem fx_same (s : ByteArray) : (fxS s).2 = (dgS s 1 3).2 := by unfold fxS; split <;> rfl
theorem rgR_e (s0 s1 : ByteArray) (R : List ByteArray) : (rgR s0 s1 R).e = (gsR s0 s1 R).e := by unfold rgR; generalize gsR s0 s1 R = g; rfl
theorem kp_two27 {x y : Int} (h : kp (kp 0 x) y = 0) : y = 0 := by
  have h0 := kp_zr27 h
  rw [h0] at h
  exact h
theorem gsR_f {s0 s1 : ByteArray} {R : List ByteArray} (h : (gsR s0 s1 R).e = 0) : (fxS s1).1 = (dgS s1 1 3).1 := by
  unfold gsR at h
  dsimp only at h
  have h1 := kp_two27 (idsS_zero 12 (nmS_zero (nmS_zero (nmS_zero h))))
  rw [fx_same] at h1
  unfold fxS; rw [if_pos h1]
theorem rgR_ok {s0 s1 : ByteArray} {R : List ByteArray} (h : (gsR s0 s1 R).e = 0) : rgR s0 s1 R = gsR s0 s1 R := by
  have hf := gsR_f h
  have hg : (gsR s0 s1 R).f = (fxS s1).1 := by unfold gsR; rfl
  unfold rgR
  rw [← hf, ← hg]
set_option maxRecDepth 100000 in
set_option maxHeartbeats 32000000 in
theorem rgstake_any (s0 s1 : ByteArray) (R : List ByteArray) (hR : R.length = 15) (w : World) (a : Option Addr) (n cap : Nat) (hn : n = 17) (hEl : Els w 1 a n cap (strV23 (s0 :: s1 :: R))) (hs : ∀ s ∈ s0 :: s1 :: R, s.size ≤ 1000) : Calls Try.prog 7 #[.slice a n cap] w fun r w' => GsOk w (rgR s0 s1 R) r w' := by
  subst hn
  have hlen : (s0 :: s1 :: R).length = 17 := by simp; omega
  have hok := hid (fun e => idsS_ok (e := e) (L := R) (by omega) (fun s h => hs s (by simp [h])))
  replace hs := hid hs
  replace hEl := hid hEl
  replace hlen := hid hlen
  replace hR := hid hR
  have hdo : (-9223372036854775808 ≤ (0 : Int) ∧ (0 : Int) ≤ 9223372036854775807) ∧ (-9223372036854775808 ≤ (99999 : Int) ∧ (99999 : Int) ≤ 9223372036854775807) := by decide
  have hdi : (-9223372036854775808 ≤ (1 : Int) ∧ (1 : Int) ≤ 9223372036854775807) ∧ (-9223372036854775808 ≤ (255 : Int) ∧ (255 : Int) ≤ 9223372036854775807) := by decide
  replace hdo := hid hdo
  replace hdi := hid hdi
  go_enter Try.func7, Try.ntmps7
  go_upto_region 0 with (fail)
  apply wp_region_seg0 (w := w) (S := [.al 1000, .q []]) (E := [.al ((fun p => .pointer (some ⟨p, 0, none⟩)), _) 1000, .q0 _]) rfl (by kernel_rfl) rfl rfl
  intro th hge hne
  refine Seg.step _ rfl ⟨by rfl, fun U hU => ?_⟩ ?_
  · go_simp; exact vp_alloc rfl rfl rfl
  refine Seg.sa ?_
  refine Seg.sq ?_
  refine Seg.stop (fun U1 hU hk => ?_)
  have nb0 := hge 0 _ _ rfl
  have rb0 := (hk 0 _ _ rfl trivial).1.2 (by simp)
  clear hk hge hne
  generalize th (0 + 0) = p0_0 at *
  dsimp only at rb0
  have r_p0_0 := rb0
  clear rb0
  have n_p0_0 := nb0
  clear nb0
  have sz1 := hU.size
  have hB : Below w.heap.size w U1 := hU
  clear hU
  have su0 := hB.size
  go_upto_region 3 with (fail)
  apply wp_region_seg0 (w := U1) (S := [.q [], .q [], .al 1000, .q [2]]) (E := [.q0 _, .q0 _, .al ((fun p => .pointer (some ⟨p, 0, none⟩)), _) 1000, .q1 2 (fun p => .pointer (some ⟨p, 0, none⟩))]) rfl (by kernel_rfl) rfl rfl
  intro th hge hne
  refine Seg.sq ?_
  refine Seg.sq ?_
  refine Seg.step _ rfl ⟨by rfl, fun U hU => ?_⟩ ?_
  · go_simp; exact vp_alloc rfl rfl rfl
  refine Seg.sa ?_
  refine Seg.sq ?_
  refine Seg.stop (fun U2 hU hk => ?_)
  have nb2 := hge 2 _ _ rfl
  have rb2 := (hk 2 _ _ rfl trivial).1.2 (by simp)
  clear hk hge hne
  generalize th (0 + 2) = p3_2 at *
  dsimp only at rb2
  have df_p0_0_p3_2 : p0_0 ≠ p3_2 := by have := held_lt r_p0_0; omega
  replace r_p0_0 := held_after hU r_p0_0
  have r_p3_2 := rb2
  clear rb2
  have n_p3_2 := nb2
  clear nb2
  have sz2 := hU.size
  replace hB := bthen hB hU
  clear hU
  have su3 := hB.size
  go_upto_region 4 with (fail)
  apply wp_region_seg0 (w := U2) (S := [.al 1000]) (E := [.al ((fun p => .pointer (some ⟨p, 0, none⟩)), _) 1000]) rfl (by kernel_rfl) rfl rfl
  intro th hge hne
  refine Seg.step _ rfl ⟨by rfl, fun U hU => ?_⟩ ?_
  · go_simp; exact vp_alloc rfl rfl rfl
  refine Seg.sa ?_
  refine Seg.stop (fun U3 hU hk => ?_)
  have nb0 := hge 0 _ _ rfl
  have rb0 := (hk 0 _ _ rfl trivial).1.2 (by simp)
  clear hk hge hne
  generalize th (0 + 0) = p4_0 at *
  dsimp only at rb0
  have df_p0_0_p4_0 : p0_0 ≠ p4_0 := by have := held_lt r_p0_0; omega
  have df_p3_2_p4_0 : p3_2 ≠ p4_0 := by have := held_lt r_p3_2; omega
  replace r_p0_0 := held_after hU r_p0_0
  replace r_p3_2 := held_after hU r_p3_2
  have r_p4_0 := rb0
  clear rb0
  have n_p4_0 := nb0
  clear nb0
  have sz3 := hU.size
  replace hB := bthen hB hU
  clear hU
  have hEl1 := hEl.out.below hB
  have hnB : ∀ x, a = some x → 0 < (s0 :: s1 :: R).length → x.block < w.heap.size ∧ w.heap.size ≤ p3_2 := by
    intro x hx _
    obtain ⟨-, b0, off0, e0, hc0⟩ := hEl.out.2.2.2.2 0 [.string s0] rfl
    have hb0 := World.block_lt_of_cell? w _ (hc0 0 (.string s0) rfl)
    rw [hx] at e0
    have e3 := Option.some.inj e0
    subst e3
    exact ⟨hb0, by omega⟩
  have hey : RowRN w.heap.size U3 p3_2 0 (s0 :: s1 :: R) := ⟨s0 :: s1 :: R, a, cap, 0, rfl, Nat.zero_le _, by have := hlen.out; omega, by rw [hlen.out]; exact r_p3_2, by rw [hlen.out]; exact hEl1, hnB⟩
  have nm : p4_0 ≠ p3_2 := Ne.symm df_p3_2_p4_0
  have nr : p0_0 ≠ p3_2 := df_p0_0_p3_2
  have nmr : p4_0 ≠ p0_0 := Ne.symm df_p0_0_p4_0
  have hm := r_p4_0
  have hr := r_p0_0
  have hB2 := hB
  have hbB : w.heap.size ≤ p3_2 := by omega
  have hbm : w.heap.size ≤ p4_0 := by omega
  have hbr : w.heap.size ≤ p0_0 := by omega
  clear su0 su3 r_p4_0 r_p0_0 r_p3_2 hB n_p3_2 n_p4_0 n_p0_0 df_p3_2_p4_0 df_p0_0_p3_2 df_p0_0_p4_0 hEl1 hnB
  obtain ⟨B, hBe⟩ : ∃ B, B = p3_2 := ⟨_, rfl⟩
  subst hBe
  obtain ⟨mb, hmb⟩ : ∃ B, B = p4_0 := ⟨_, rfl⟩
  subst hmb
  go_wp2_with fail
  refine (roneN_any w.heap.size B 0 s0 (s1 :: R) ⟨#[65]⟩ ⟨#[77]⟩ _ hey).mono ?_
  rintro r V2 ⟨rfl, hey2, hf2⟩
  replace hm := eff_block24 hf2 hm nm
  replace hr := eff_block24 hf2 hr nr
  replace hB2 := eff_below24 hB2 hf2 hbB hB2.size
  clear hey hf2
  have hey := hey2
  clear hey2
  obtain ⟨E1, hE1⟩ : ∃ X, (kp 0 (onE s0 ⟨#[65]⟩ ⟨#[77]⟩)) = X := ⟨_, rfl⟩
  rw [hE1] at hey
  obtain ⟨⟨f0, x0⟩, hd⟩ : ∃ r, dgS s1 1 3 = r := ⟨_, rfl⟩
  have hfx := fx_same s1
  rw [hd] at hfx
  dsimp only at hfx
  obtain ⟨E2, hE2⟩ : ∃ X, kp E1 (fxS s1).2 = X := ⟨_, rfl⟩
  have hE2x := hE2
  rw [hfx] at hE2x
  obtain ⟨b0, hb0⟩ : ∃ b, decide (s0 = ⟨#[65]⟩) = b := ⟨_, rfl⟩
  rw [hb0]
  have kD := hid (fun U hh => rdigitN_any w.heap.size B E1 s1 R 1 3 U hh (by have := hR.out; simp; omega))
  rw [hd, hE2x] at kD
  dsimp only at kD
  replace hfx := hid hfx
  replace hd := hid hd
  replace hE1 := hid hE1
  replace hE2 := hid hE2
  replace hb0 := hid hb0
  clear hE2x
  have x0 := held_cell hm 0 _ rfl
  have g0 := held_free hm 0
  obtain ⟨S2, hS2, ym, oM⟩ := st1 hm 0 (.bool b0)
  have hey2 := hid (hey.offG oM nm hm ((by intro j s h; match j, h with | 0, h => simp at h | 1, h => simp at h | 2, h => simp at h | 3, h => simp at h | 4, h => simp at h | 5, h => simp at h | 6, h => simp at h | 7, h => simp at h | 8, h => simp at h | j + 9, h => simp at h)))
  have hr2 := (oM.block _ (Ne.symm nmr)).trans hr
  have hB3 := hid (belowS hB2 oM hbm)
  go_upto_region 6 with (fail)
  clear hey hr hB2 hm oM hS2 x0 g0
  have hm : S2.heap[mb]? = some (.cells #[.bool b0, .int .i64 0, .slice none 0 0, .bool false, .int .i64 0, .bool false, .int .i64 0, .bool false, .int .i64 0] 29 (0, 0)) := ym
  have hey := hey2.out
  have hr := hr2
  have hB2 := hB3.out
  clear ym hey2 hr2 hB3
  go_wp2_with fail
  refine (kD.out _ hey).mono ?_
  rintro r V3 ⟨rfl, hey2, hf2⟩
  replace hm := eff_block24 hf2 hm nm
  replace hr := eff_block24 hf2 hr nr
  replace hB2 := eff_below24 hB2 hf2 hbB hB2.size
  clear hey hf2
  have hey := hey2
  clear hey2
  clear kD
  have x1 := held_cell hm 1 _ rfl
  have g1 := held_free hm 1
  obtain ⟨S3, hS3, ym, oM⟩ := st1 hm 1 (.int .i64 f0)
  have hey2 := hid (hey.offG oM nm hm ((by intro j s h; match j, h with | 0, h => simp at h | 1, h => simp at h | 2, h => simp at h | 3, h => simp at h | 4, h => simp at h | 5, h => simp at h | 6, h => simp at h | 7, h => simp at h | 8, h => simp at h | j + 9, h => simp at h)))
  have hr2 := (oM.block _ (Ne.symm nmr)).trans hr
  have hB3 := hid (belowS hB2 oM hbm)
  go_upto_region 7 with (fail)
  clear hey hr hB2 hm oM hS3 x1 g1
  have hm : S3.heap[mb]? = some (.cells #[.bool b0, .int .i64 f0, .slice none 0 0, .bool false, .int .i64 0, .bool false, .int .i64 0, .bool false, .int .i64 0] 29 (0, 0)) := ym
  have hey := hey2.out
  have hr := hr2
  have hB2 := hB3.out
  clear ym hey2 hr2 hB3
  replace hey := hid hey
  replace hB2 := hid hB2
  have hO0 := hid (Own.nil .i64 2 S3 w.heap.size)
  go_wp2_with fail
  go_loopw [6] (fun ix wr => ∃ (k : Nat) (a2 : Option Addr) (c2 : Nat), ix = .int .i64 k ∧ k ≤ 12 ∧ Own .i64 2 wr w.heap.size (.slice a2 (idsS E2 R k).1.length c2) (idsS E2 R k).1 ∧ RowRN w.heap.size wr B (idsS E2 R k).2.1 (idsS E2 R k).2.2 ∧ wr.heap[mb]? = some (.cells #[.bool b0, .int .i64 f0, .slice a2 (idsS E2 R k).1.length c2, .bool false, .int .i64 0, .bool false, .int .i64 0, .bool false, .int .i64 0] 29 (0, 0)) ∧ wr.heap[p0_0]? = some (.cells #[.bool false, .int .i64 0, .slice none 0 0, .bool false, .int .i64 0, .bool false, .int .i64 0, .bool false, .int .i64 0] 29 (0, 0)) ∧ Below w.heap.size w wr) (fun ix _ => 12 - (intOf ix).toNat)
  case atStart => exact ⟨0, none, 0, rfl, by omega, hO0.out, hey.out, hm, hr, hB2.out⟩
  case round =>
    clear hO0 hey hm hr hB2
    obtain ⟨k, a2, c2, rfl, hk, hO, hey, hm, hr, hB2⟩ := hrel
    replace hO := hid hO
    by_cases hlt : (k : Int) < 12
    case neg =>
      obtain rfl : k = 12 := by omega
      obtain ⟨⟨xs9, e3, R3⟩, hI⟩ : ∃ r, idsS E2 R 12 = r := ⟨_, rfl⟩
      have hOK := hok.out E2 12
      replace hO := hO.out
      rw [hI] at hO hey hm hOK
      dsimp only at hO hey hm hOK
      replace hO := hid hO
      have hs3 := hOK.2.1
      have hz := txS_size (e := e3) hs3
      have hrf : (txS e3 R3).2.2 = (nmS e3 R3 1 3 2 0 99999).2.2 := rfl
      have kP0 := fun U hh => rtakenumN_any w.heap.size B e3 R3 1 3 2 0 99999 U hh hs3 hdo.out
      obtain ⟨⟨⟨pi, pn⟩, e4, R4⟩, hpN⟩ : ∃ r, nmS e3 R3 1 3 2 0 99999 = r := ⟨_, rfl⟩
      rw [hpN] at kP0 hrf
      dsimp only at kP0 hrf
      have kP := hid kP0
      rw [hrf] at hz
      have hs4 := hz.2.1
      clear kP0 hrf hz
      have hz := txS_size (e := e4) hs4
      have hrf : (txS e4 R4).2.2 = (nmS e4 R4 1 3 2 0 99999).2.2 := rfl
      have kH0 := fun U hh => rtakenumN_any w.heap.size B e4 R4 1 3 2 0 99999 U hh hs4 hdo.out
      obtain ⟨⟨⟨ki, kn⟩, e5, R5⟩, hkN⟩ : ∃ r, nmS e4 R4 1 3 2 0 99999 = r := ⟨_, rfl⟩
      rw [hkN] at kH0 hrf
      dsimp only at kH0 hrf
      have kH := hid kH0
      rw [hrf] at hz
      have hs5 := hz.2.1
      clear kH0 hrf hz
      have hz := txS_size (e := e5) hs5
      have hrf : (txS e5 R5).2.2 = (nmS e5 R5 1 3 2 0 99999).2.2 := rfl
      have kV0 := fun U hh => rtakenumN_any w.heap.size B e5 R5 1 3 2 0 99999 U hh hs5 hdo.out
      obtain ⟨⟨⟨vi, vn⟩, e6, R6⟩, hvN⟩ : ∃ r, nmS e5 R5 1 3 2 0 99999 = r := ⟨_, rfl⟩
      rw [hvN] at kV0 hrf
      dsimp only at kV0 hrf
      have kV := hid kV0
      rw [hrf] at hz
      have hs6 := hz.2.1
      clear kV0 hrf hz
      have hG := hid (show rgR s0 s1 R = ⟨b0, f0, xs9, (pi, pn), (ki, kn), (vi, vn), e6⟩ by unfold rgR gsR; simp only [hE1.out, hE2.out, hb0.out, hd.out, hI, hpN, hkN, hvN])
      clear hI hpN hkN hvN hs3 hs4 hs5 hs6 hOK hk hlt hE1 hE2 hb0 hd hfx
      go_wp2_with fail
      refine (r27dopCol_any _).mono ?_
      rintro r A0 ⟨rfl, hA⟩
      replace hm := held_after hA hm
      replace hr := held_after hA hr
      replace hey := hey.aft hA
      replace hB2 := bthen hB2 hA
      replace hO := hid (hO.out.below hA)
      clear hA
      go_wp2_with fail
      refine (kP.out _ hey).mono ?_
      rintro r Z0 ⟨rfl, hey2, hf2⟩
      replace hm := eff_block24 hf2 hm nm
      replace hr := eff_block24 hf2 hr nr
      replace hB2 := eff_below24 hB2 hf2 hbB hB2.size
      replace hO := hid (own_row27 hO.out hey (by decide) hf2)
      clear hey hf2
      have hey := hey2
      clear hey2
      have x3 := held_cell hm 3 _ rfl
      have g3 := held_free hm 3
      have x4 := held_cell hm 4 _ rfl
      have g4 := held_free hm 4
      obtain ⟨S4, hS4, ym, oM⟩ := set2_27 hm 3 4 (.bool pi) (.int .i64 pn)
      have hey2 := hid (hey.offG oM nm hm ((by intro j s h; match j, h with | 0, h => simp at h | 1, h => simp at h | 2, h => simp at h | 3, h => simp at h | 4, h => simp at h | 5, h => simp at h | 6, h => simp at h | 7, h => simp at h | 8, h => simp at h | j + 9, h => simp at h)))
      have hr2 := (oM.block _ (Ne.symm nmr)).trans hr
      have hB3 := hid (belowS hB2 oM hbm)
      replace hO := hid (own_only27 hO.out hm (by decide) oM)
      go_upto_region 14 with (fail)
      clear hey hr hB2 hm oM hS4 x3 g3 x4 g4
      have hm : S4.heap[mb]? = some (.cells #[.bool b0, .int .i64 f0, .slice a2 xs9.length c2, .bool pi, .int .i64 pn, .bool false, .int .i64 0, .bool false, .int .i64 0] 29 (0, 0)) := ym
      have hey := hey2.out
      have hr := hr2
      have hB2 := hB3.out
      clear ym hey2 hr2 hB3
      go_wp2_with fail
      refine (r27dopCol_any _).mono ?_
      rintro r A1 ⟨rfl, hA⟩
      replace hm := held_after hA hm
      replace hr := held_after hA hr
      replace hey := hey.aft hA
      replace hB2 := bthen hB2 hA
      replace hO := hid (hO.out.below hA)
      clear hA
      go_wp2_with fail
      refine (kH.out _ hey).mono ?_
      rintro r Z1 ⟨rfl, hey2, hf2⟩
      replace hm := eff_block24 hf2 hm nm
      replace hr := eff_block24 hf2 hr nr
      replace hB2 := eff_below24 hB2 hf2 hbB hB2.size
      replace hO := hid (own_row27 hO.out hey (by decide) hf2)
      clear hey hf2
      have hey := hey2
      clear hey2
      have x5 := held_cell hm 5 _ rfl
      have g5 := held_free hm 5
      have x6 := held_cell hm 6 _ rfl
      have g6 := held_free hm 6
      obtain ⟨S5, hS5, ym, oM⟩ := set2_27 hm 5 6 (.bool ki) (.int .i64 kn)
      have hey2 := hid (hey.offG oM nm hm ((by intro j s h; match j, h with | 0, h => simp at h | 1, h => simp at h | 2, h => simp at h | 3, h => simp at h | 4, h => simp at h | 5, h => simp at h | 6, h => simp at h | 7, h => simp at h | 8, h => simp at h | j + 9, h => simp at h)))
      have hr2 := (oM.block _ (Ne.symm nmr)).trans hr
      have hB3 := hid (belowS hB2 oM hbm)
      replace hO := hid (own_only27 hO.out hm (by decide) oM)
      go_upto_region 15 with (fail)
      clear hey hr hB2 hm oM hS5 x5 g5 x6 g6
      have hm : S5.heap[mb]? = some (.cells #[.bool b0, .int .i64 f0, .slice a2 xs9.length c2, .bool pi, .int .i64 pn, .bool ki, .int .i64 kn, .bool false, .int .i64 0] 29 (0, 0)) := ym
      have hey := hey2.out
      have hr := hr2
      have hB2 := hB3.out
      clear ym hey2 hr2 hB3
      go_wp2_with fail
      refine (r27dopCol_any _).mono ?_
      rintro r A2 ⟨rfl, hA⟩
      replace hm := held_after hA hm
      replace hr := held_after hA hr
      replace hey := hey.aft hA
      replace hB2 := bthen hB2 hA
      replace hO := hid (hO.out.below hA)
      clear hA
      go_wp2_with fail
      refine (kV.out _ hey).mono ?_
      rintro r Z2 ⟨rfl, hey2, hf2⟩
      replace hm := eff_block24 hf2 hm nm
      replace hr := eff_block24 hf2 hr nr
      replace hB2 := eff_below24 hB2 hf2 hbB hB2.size
      replace hO := hid (own_row27 hO.out hey (by decide) hf2)
      clear hey hf2
      have hey := hey2
      clear hey2
      have x7 := held_cell hm 7 _ rfl
      have g7 := held_free hm 7
      have x8 := held_cell hm 8 _ rfl
      have g8 := held_free hm 8
      obtain ⟨S6, hS6, ym, oM⟩ := set2_27 hm 7 8 (.bool vi) (.int .i64 vn)
      have hey2 := hid (hey.offG oM nm hm ((by intro j s h; match j, h with | 0, h => simp at h | 1, h => simp at h | 2, h => simp at h | 3, h => simp at h | 4, h => simp at h | 5, h => simp at h | 6, h => simp at h | 7, h => simp at h | 8, h => simp at h | j + 9, h => simp at h)))
      have hr2 := (oM.block _ (Ne.symm nmr)).trans hr
      have hB3 := hid (belowS hB2 oM hbm)
      replace hO := hid (own_only27 hO.out hm (by decide) oM)
      go_upto_region 16 with (fail)
      clear hey hr hB2 hm oM hS6 x7 g7 x8 g8
      have hm : S6.heap[mb]? = some (.cells #[.bool b0, .int .i64 f0, .slice a2 xs9.length c2, .bool pi, .int .i64 pn, .bool ki, .int .i64 kn, .bool vi, .int .i64 vn] 29 (0, 0)) := ym
      have hey := hey2.out
      have hr := hr2
      have hB2 := hB3.out
      clear ym hey2 hr2 hB3
      obtain ⟨F0, a0, cap0, i0, q1, q2, q3, q4, q5, q6⟩ := hey
      have c9 := held_cell q4 2 _ rfl
      have hl4 := held_lt q4
      have hlr := held_lt hr
      clear q1 q2 q3 q5 q6
      replace q4 := hid q4
      by_cases hE0 : e6 = 0
      case pos =>
        have t0 : (e6 != 0) = false := by simpa using hE0
        have ya := setRow_heap S6 p0_0 _ #[.bool b0, .int .i64 f0, .slice a2 xs9.length c2, .bool pi, .int .i64 pn, .bool ki, .int .i64 kn, .bool vi, .int .i64 vn] 29 (0, 0) hr
        have yO : Only p0_0 S6 (S6.setRow p0_0 #[.bool b0, .int .i64 f0, .slice a2 xs9.length c2, .bool pi, .int .i64 pn, .bool ki, .int .i64 kn, .bool vi, .int .i64 vn]) := ⟨rfl, rfl, rfl, by simp [World.setRow], fun k hk => setRow_other _ _ _ _ hk⟩
        obtain ⟨W9, hW9⟩ : ∃ X, S6.setRow p0_0 #[.bool b0, .int .i64 f0, .slice a2 xs9.length c2, .bool pi, .int .i64 pn, .bool ki, .int .i64 kn, .bool vi, .int .i64 vn] = X := ⟨_, rfl⟩
        rw [hW9] at ya yO
        have hB9 := hid (belowS hB2 yO hbr)
        have hld := run_loadVar_row (P := Try.prog) W9 p0_0 29 29 #[.bool b0, .int .i64 f0, .slice a2 xs9.length c2, .bool pi, .int .i64 pn, .bool ki, .int .i64 kn, .bool vi, .int .i64 vn] (0, 0) _ ya Try.underlying29 rfl (by kernel_rfl)
        have hsl9 := hid (own_only27 hO.out hr (by decide) yO).slf
        have hfin : GsOk w (rgR s0 s1 R) (.returned (.tuple #[.agg #[.bool b0, .int .i64 f0, .slice a2 xs9.length c2, .bool pi, .int .i64 pn, .bool ki, .int .i64 kn, .bool vi, .int .i64 vn], .int .i64 0])) W9 := by rw [hG.out]; exact ⟨hB9.out, .inr ⟨hE0, a2, xs9.length, c2, rfl, hsl9.out⟩⟩
        replace hfin := hid hfin
        replace ya := hid ya
        clear yO
        go_wp2_with (first | (refine wpList_load_row rfl 29 (.tmp 5) rfl mb rfl 29 #[.bool b0, .int .i64 f0, .slice a2 xs9.length c2, .bool pi, .int .i64 pn, .bool ki, .int .i64 kn, .bool vi, .int .i64 vn] (0, 0) _ hm Try.underlying29 rfl (by kernel_rfl) ?_) | (refine wpList_store_row rfl 29 (.tmp 2) (.tmp 59) rfl p0_0 #[.bool b0, .int .i64 f0, .slice a2 xs9.length c2, .bool pi, .int .i64 pn, .bool ki, .int .i64 kn, .bool vi, .int .i64 vn] rfl rfl 29 _ hr (by kernel_rfl) rfl (by simp [Value.oneCell']) ?_; rw [hW9]))
        refine bodyPost_ret (v := .tuple #[.agg #[.bool b0, .int .i64 f0, .slice a2 xs9.length c2, .bool pi, .int .i64 pn, .bool ki, .int .i64 kn, .bool vi, .int .i64 vn], .int .i64 0]) (by simp [results, Try.results7, asAddr, hld]) rfl hfin.out
      case neg =>
        have t0 : (e6 != 0) = true := by simpa using hE0
        go_upto_region 17 with (fail)
        obtain ⟨QQ, hQQ⟩ : ∃ X, S6.drew = X := ⟨_, rfl⟩
        have rp0q : QQ.heap[p0_0]? = some (.cells #[.bool false, .int .i64 0, .slice none 0 0, .bool false, .int .i64 0, .bool false, .int .i64 0, .bool false, .int .i64 0] 29 (0, 0)) := by rw [← hQQ]; exact hr
        have c9q : QQ.cell? ⟨B, 2, none⟩ = some (.int .i64 e6) := by rw [← hQQ]; exact c9
        have hBq : Below w.heap.size w QQ := by rw [← hQQ]; exact hB2.drew
        have hlq : B < QQ.heap.size := by rw [← hQQ]; exact hl4
        have ya := setRow_heap QQ p0_0 _ #[.bool false, .int .i64 0, .slice none 0 0, .bool false, .int .i64 0, .bool false, .int .i64 0, .bool false, .int .i64 0] 29 (0, 0) rp0q
        have yO : Only p0_0 QQ (QQ.setRow p0_0 #[.bool false, .int .i64 0, .slice none 0 0, .bool false, .int .i64 0, .bool false, .int .i64 0, .bool false, .int .i64 0]) := ⟨rfl, rfl, rfl, by simp [World.setRow], fun k hk => setRow_other _ _ _ _ hk⟩
        obtain ⟨W9, hW9⟩ : ∃ X, QQ.setRow p0_0 #[.bool false, .int .i64 0, .slice none 0 0, .bool false, .int .i64 0, .bool false, .int .i64 0, .bool false, .int .i64 0] = X := ⟨_, rfl⟩
        rw [hW9] at ya yO
        have hB9 := hid (belowS hBq yO hbr)
        have hld := run_loadVar_row (P := Try.prog) W9 p0_0 29 29 #[.bool false, .int .i64 0, .slice none 0 0, .bool false, .int .i64 0, .bool false, .int .i64 0, .bool false, .int .i64 0] (0, 0) _ ya Try.underlying29 rfl (by kernel_rfl)
        have hfin : GsOk w (rgR s0 s1 R) (.returned (.tuple #[.agg #[.bool false, .int .i64 0, .slice none 0 0, .bool false, .int .i64 0, .bool false, .int .i64 0, .bool false, .int .i64 0], .int .i64 e6])) W9 := by rw [hG.out]; exact ⟨hB9.out, .inl ⟨hE0, rfl⟩⟩
        replace hfin := hid hfin
        replace ya := hid ya
        clear yO
        refine wp_region_K (N := QQ.heap.size) (X := [p0_0]) (by kernel_rfl) ?_
        rw [hQQ]
        refine wpAnyK_take 0 rfl (by kernel_rfl) (by kernel_rfl) (by kernel_rfl) (fun _ _ _ _ h => h) ⟨_, Or.inl ⟨by rfl, fun w2 hb => by (go_simp; try with_reducible rfl)⟩, _, by (go_simp; try rfl), ?_⟩
        refine wpAnyK_take 1 rfl (by kernel_rfl) (by kernel_rfl) (by kernel_rfl) (fun _ _ _ _ h => h) ⟨_, Or.inl ⟨by rfl, fun w2 hb => by (go_simp; try with_reducible rfl)⟩, _, by (go_simp; try rfl), ?_⟩
        refine wpAnyK_take 2 rfl (by kernel_rfl) (by kernel_rfl) (by kernel_rfl) (fun _ _ _ _ h => h) ⟨_, Or.inl ⟨by rfl, fun w2 hb => by (go_simp; try with_reducible rfl)⟩, _, by (go_simp; try rfl), ?_⟩
        refine wpAnyK_take 3 rfl (by kernel_rfl) (by kernel_rfl) (by kernel_rfl) (fun _ _ _ _ h => h) ⟨_, Or.inl ⟨by rfl, fun w2 hb => by (go_simp; try with_reducible rfl)⟩, _, by (go_simp; try rfl), ?_⟩
        refine wpAnyK_take 4 rfl (by kernel_rfl) (by kernel_rfl) (by kernel_rfl) (fun _ _ _ _ h => h) ⟨_, Or.inl ⟨by rfl, fun w2 hb => by (have h0 := Kp.cellB hb (by simpa using hlq) (by simp; omega) c9q; go_simp; try with_reducible rfl)⟩, _, by (go_simp; try rfl), ?_⟩
        refine wpAnyK_only 5 rfl (by kernel_rfl) (by rfl) (fun K hK => ?_)
        refine wp_store_row 29 (.tmp 2) (.tmp 54) rfl p0_0 #[.bool false, .int .i64 0, .slice none 0 0, .bool false, .int .i64 0, .bool false, .int .i64 0, .bool false, .int .i64 0] rfl rfl 29 _ rp0q (by kernel_rfl) rfl (by simp [Value.oneCell']) ?_
        refine hK _ _ ⟨⟨rfl, rfl, rfl, by simp [World.setRow], fun k h1 h2 => setRow_other _ _ _ _ (fun e => h2 (by simp [e]))⟩, ?_⟩
        clear hK
        rw [hW9]
        refine wpAnyK_take 6 rfl (by kernel_rfl) (by kernel_rfl) (by kernel_rfl) (fun _ _ _ _ h => h) ⟨_, Or.inl ⟨by rfl, fun w2 hb => by (go_simp; try with_reducible rfl)⟩, _, by (go_simp; try rfl), ?_⟩
        refine wpAnyK_done (by kernel_rfl) ?_ _
        go_wp2_with fail
        refine bodyPost_ret (v := .tuple #[.agg #[.bool false, .int .i64 0, .slice none 0 0, .bool false, .int .i64 0, .bool false, .int .i64 0, .bool false, .int .i64 0], .int .i64 e6]) (by simp [results, Try.results7, asAddr, hld]) rfl hfin.out
    have wk : IntKind.i64.wrap ((k : Int) + 1) = (k : Int) + 1 := by rw [IntKind.wrap_i64]; omega
    have hk1 := hid (show k + 1 ≤ 12 by omega)
    have hkk := hok.out E2 k
    obtain ⟨xs1, hxs⟩ : ∃ X, idsS E2 R k = X := ⟨_, rfl⟩
    obtain ⟨xs, e1, R1⟩ := xs1
    have hnx : idsS E2 R (k + 1) = (if (nmS e1 R1 1 3 0 1 255).1.1 = true then xs ++ [(nmS e1 R1 1 3 0 1 255).1.2] else xs, (nmS e1 R1 1 3 0 1 255).2.1, (nmS e1 R1 1 3 0 1 255).2.2) := by show (if (nmS (idsS E2 R k).2.1 (idsS E2 R k).2.2 1 3 0 1 255).1.1 = true then _ else _, _, _) = _; rw [hxs]
    replace hO := hO.out
    rw [hxs] at hO hey hm hkk
    dsimp only at hO hey hm hkk
    replace hO := hid hO
    have kI0 := fun U hh => rtakenumN_any w.heap.size B e1 R1 1 3 0 1 255 U hh hkk.2.1 hdi.out
    have hxl := hid hkk.2.2.1
    generalize nmS e1 R1 1 3 0 1 255 = Z at *
    obtain ⟨⟨zi, zn⟩, e2, R2⟩ := Z
    dsimp only at kI0 hnx
    have kI := hid kI0
    replace hnx := hid hnx
    clear kI0 hkk hxs hE1 hE2 hb0 hd hfx
    go_wp2_with fail
    refine (r27idCol_any _).mono ?_
    rintro r A5 ⟨rfl, hA⟩
    replace hm := held_after hA hm
    replace hr := held_after hA hr
    replace hey := hey.aft hA
    replace hB2 := bthen hB2 hA
    replace hO := hid (hO.out.below hA)
    clear hA
    go_wp2_with fail
    refine (kI.out _ hey).mono ?_
    rintro r Z5 ⟨rfl, hey2, hf2⟩
    replace hm := eff_block24 hf2 hm nm
    replace hr := eff_block24 hf2 hr nr
    replace hB2 := eff_below24 hB2 hf2 hbB hB2.size
    replace hO := hid (own_row27 hO.out hey (by decide) hf2)
    clear hey hf2
    have hey := hey2
    clear hey2
    have nw := alloc_new Z5 (.cells #[.bool zi, .int .i64 zn] 27)
    go_upto_region 11 with (fail)
    obtain ⟨S7, hS7⟩ : ∃ X, Z5.alloc (.cells #[.bool zi, .int .i64 zn] 27) = X := ⟨_, rfl⟩
    rw [hS7] at nw ⊢
    obtain ⟨D, hD⟩ : ∃ X, Z5.heap.size = X := ⟨_, rfl⟩
    rw [hD] at nw ⊢
    replace hS7 := hid hS7
    have rD := nw.2.2
    replace hm := held_after nw.2.1 hm
    replace hr := held_after nw.2.1 hr
    replace hey := hid (hey.aft nw.2.1)
    replace hO := hid (hO.out.below nw.2.1)
    replace hB2 := hid (bthen hB2 nw.2.1)
    have x0 := held_cell rD 0 _ rfl
    have x1 := held_cell rD 1 _ rfl
    replace hD := hid hD
    clear nw
    cases zi
    case false =>
      have hnx2 := hnx.out
      rw [if_neg (by simp)] at hnx2
      replace hnx2 := hid hnx2
      go_wp2_with fail
      go_roundw
      case rel => exact ⟨k + 1, a2, c2, by simp, hk1.out, by rw [hnx2.out]; exact ⟨hO.out, hey.out, hm, hr, hB2.out⟩⟩
      case measure => simp [intOf]; omega
    case true =>
      have hnx2 := hnx.out
      rw [if_pos rfl] at hnx2
      replace hnx2 := hid hnx2
      have x2 := held_cell hm 2 _ rfl
      have sX := sl_one27 S7 zn 2
      have aw := alloc_new S7 (.cells #[.int .i64 zn] 2)
      obtain ⟨X1, hX⟩ : ∃ X, S7.alloc (.cells #[.int .i64 zn] 2) = X := ⟨_, rfl⟩
      rw [hX] at aw sX
      have hO2 := hid (hO.out.below aw.2.1)
      have hB3 := hid (bthen hB2.out aw.2.1)
      have hbs : w.heap.size ≤ X1.heap.size := hB3.out.size
      have hm2 := held_after aw.2.1 hm
      have hr2 := held_after aw.2.1 hr
      have hey2 := hid (hey.out.aft aw.2.1)
      replace sX := hid sX
      have hxl2 := hid (show xs.length + 1 ≤ 140737488355328 / 8 by have := hxl.out; omega)
      clear aw hO hB2 hey
      go_wp2_with (first | (at_builtin; refine wpList_appK rfl (.tmp 31) (.tmp 34) 25 rfl w.heap.size 2 .i64 8 i64s27 (.slice a2 xs.length c2) xs rfl hO2.out (some ⟨_, 0, none⟩) 1 1 [zn] rfl sX.out hxl2.out (by decide) hbs ?_))
      intro a3 c3 V9 hO9 hG9 hN9
      have hm9 := held_grown hm2 hG9 (own_ne hO2.out hm2 (by decide))
      have hr9 := held_grown hr2 hG9 (own_ne hO2.out hr2 (by decide))
      have hey9 : RowRN w.heap.size V9 B e2 R2 := by
        obtain ⟨c, hc⟩ := hey2.out.cells
        exact hey2.out.grown hG9 (own_ne hO2.out hc (by decide)) (fun r e => hO2.out.block r e)
      have hB9 := Own.grew hO2.out hG9 hB3.out (Nat.le_refl _) hbs
      have y2 := held_cell hm9 2 _ rfl
      have g2 := held_free hm9 2
      obtain ⟨S9, hS9, ym, oM⟩ := st1 hm9 2 (.slice a3 (xs.length + 1) c3)
      have f1 := hid (hey9.offG oM nm hm9 ((by intro j s h; match j, h with | 0, h => simp at h | 1, h => simp at h | 2, h => simp at h | 3, h => simp at h | 4, h => simp at h | 5, h => simp at h | 6, h => simp at h | 7, h => simp at h | 8, h => simp at h | j + 9, h => simp at h)))
      have f2 := (oM.block _ (Ne.symm nmr)).trans hr9
      have f3 := hid (belowS hB9 oM hbm)
      have f4 := hid (own_only27 hO9 hm9 (by decide) oM)
      replace ym := hid ym
      clear hO2 hB3 hey2 hm2 hr2 hm9 hr9 hey9 hB9 hO9 hG9 hN9 oM
      go_wp2_with fail
      go_roundw
      case rel => exact ⟨k + 1, a3, c3, by simp, hk1.out, by rw [hnx2.out]; dsimp only; rw [List.length_append, List.length_singleton]; exact ⟨f4.out, f1.out, ym.out, f2, f3.out⟩⟩
      case measure => simp [intOf]; omega

end Go.Proofs.Ytpbekdkobmgndaa
