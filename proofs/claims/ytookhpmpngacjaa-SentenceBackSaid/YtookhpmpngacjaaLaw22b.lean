/- Laws of package sentence: Back. -/
import Derived.Test.YtookhpmpngacjaaLaw22
import Derived.Deep.DeepCutAuto
namespace Go.Proofs.Ytookhpmpngacjaa
open Go.ChangeShapes Go.WideShapes Go.ChangeAt Go.RowKit
set_option linter.unusedVariables false
set_option linter.unusedSimpArgs false

set_option maxRecDepth 100000 in
set_option maxHeartbeats 16000000 in
theorem law_SentenceBack (a0_0 : ByteArray) (a0_1 : ByteArray) (a0_2 : Option Addr) (len0_2 cap0_2 : Nat) (x0_2 : List (List Value)) (a1 : ByteArray) (W : World) (w0_0 : a0_0.size ≤ maxLen) (w0_1 : a0_1.size ≤ maxLen) (w0_2 : Els W 1 a0_2 len0_2 cap0_2 x0_2) (t0_2 : ∀ x ∈ x0_2, (∃ (c0 : ByteArray), x = [.string c0] ∧ (c0.size ≤ maxLen))) (w1 : a1.size ≤ maxLen) :
    Calls Try.prog 5 #[.agg #[.string a0_0, .string a0_1, .slice a0_2 len0_2 cap0_2], .string a1] W fun e w' => e = .returned (.bool true) ∧ Below W.heap.size W w' := by
  clear w1
  obtain ⟨F, rfl, hFm⟩ := els_strs t0_2
  obtain ⟨n, hn⟩ : ∃ n, F.length = n := ⟨_, rfl⟩
  obtain rfl : n = len0_2 := by have := w0_2.1; rw [strV_len] at this; omega
  have hE := hid w0_2
  have hT := hid w0_0
  have hK := hid w0_1
  clear w0_2 w0_0 w0_1 t0_2
  replace hFm := hid hFm
  replace hn := hid hn
  have hB := hid (Below.refl W.heap.size W)
  obtain ⟨M, hM⟩ : ∃ N, a1.size = N := ⟨_, rfl⟩
  have hMs : (a1.size : Int) = (M : Int) := by omega
  go_enter Try.func5, Try.ntmps5
  have nw := alloc_new W (.cells #[.string a0_0, .string a0_1, .slice a0_2 n cap0_2] 24)
  have hA := nw.2.1
  have rb := nw.2.2
  clear nw
  go_upto_region 1 with (fail)
  obtain ⟨V1, hV1⟩ : ∃ X, W.alloc (.cells #[.string a0_0, .string a0_1, .slice a0_2 n cap0_2] 24) = X := ⟨_, rfl⟩
  rw [hV1] at hA rb ⊢
  obtain ⟨pb, hpb⟩ : ∃ X, W.heap.size = X := ⟨_, rfl⟩
  rw [hpb] at rb ⊢
  replace hV1 := hid hV1
  replace hpb := hid hpb
  replace hE := hid (hE.out.below hA)
  replace hB := hid (bthen hB.out hA)
  clear hA
  replace rb := hid rb
  have z0 := held_cell rb.out 0 _ rfl
  have z1 := held_cell rb.out 1 _ rfl
  have z2 := held_cell rb.out 2 _ rfl
  go_wp2_with fail
  refine (few_any a0_0 a0_1 a0_2 n cap0_2 F _ hn.out hE.out hT.out hK.out hFm.out).mono ?_
  rintro e V2 ⟨b, rfl, hb, hA⟩
  clear z0 z1 z2
  replace hE := hid (hE.out.below hA)
  replace rb := hid (held_after hA rb.out)
  replace hB := hid (bthen hB.out hA)
  clear hA
  have z0 := held_cell rb.out 0 _ rfl
  have z1 := held_cell rb.out 1 _ rfl
  have z2 := held_cell rb.out 2 _ rfl
  cases b
  case false =>
    clear hb
    go_wp2_with fail
    refine (knows22_any _).mono ?_
    rintro e V9 ⟨rfl, hA⟩
    have hB9 := hid (bthen hB.out hA)
    clear hA
    go_wp2_with fail
    go_ret
    exact ⟨rfl, hB9.out⟩
  obtain ⟨b1, b2, b3, b4⟩ := hb rfl
  clear hb
  have hF5 := hid (fun f hf => Nat.le_trans (b4 f hf) (show 500 ≤ 1000 by omega))
  clear b4
  by_cases q500 : (500 : Int) < M
  case pos =>
    go_wp2_with fail
    refine (knows22_any _).mono ?_
    rintro e V9 ⟨rfl, hA⟩
    have hB9 := hid (bthen hB.out hA)
    clear hA
    go_wp2_with fail
    go_ret
    exact ⟨rfl, hB9.out⟩
  go_wp2_with fail
  refine (knows22_any _).mono ?_
  rintro e V3 ⟨rfl, hA⟩
  clear z0 z1 z2
  replace hE := hid (hE.out.below hA)
  replace rb := hid (held_after hA rb.out)
  replace hB := hid (bthen hB.out hA)
  clear hA
  have z0 := held_cell rb.out 0 _ rfl
  have z1 := held_cell rb.out 1 _ rfl
  have z2 := held_cell rb.out 2 _ rfl
  have pe := putN_e a0_0 a0_1 F
  have pb_ := putN_bad (T := a0_0) (K := a0_1) (F := F)
  have k1 := fun U h => spt_any a0_0 a0_1 a0_2 n cap0_2 F U hn.out h (by omega) (by omega) hF5.out (by omega)
  obtain ⟨⟨t, e0⟩, hp⟩ : ∃ r, putN a0_0 a0_1 F = r := ⟨_, rfl⟩
  rw [hp] at pe k1 pb_
  dsimp only at pe k1 pb_
  have te2 := takeN_e a1
  have k3 := fun U => stk_any a1 U (by omega)
  obtain ⟨⟨⟨x2, y2, l2⟩, n2, e2⟩, hr2⟩ : ∃ r : Snt × Nat × Int, takeN a1 = r := ⟨_, rfl⟩
  rw [hr2] at te2 k3
  dsimp only at te2
  obtain ⟨m2, hm2⟩ : ∃ m, l2.length = m := ⟨_, rfl⟩
  have hfew := hid (tk_few hr2)
  have hno := hid (fun h : e2 ≠ 0 => show x2 = ⟨#[]⟩ ∧ y2 = ⟨#[]⟩ ∧ l2 = [] ∧ n2 = 0 from by have h9 := takeN_bad (t := a1) (by rw [hr2]; exact h); rw [hr2] at h9; obtain ⟨h8, h7⟩ := h9; have h6 := snt_eq (n := 0) (n2 := 0) (e := 0) (e2 := 0) (show (((x2, y2, l2), 0, 0) : Snt × Nat × Int) = ((⟨#[]⟩, ⟨#[]⟩, []), 0, 0) by rw [show ((x2, y2, l2) : Snt) = noS from h8]; rfl); exact ⟨h6.1, h6.2.1, h6.2.2.1, h7⟩)
  have hyes := hid (fun h : e2 = 0 => show ∃ u, putN x2 y2 l2 = (u, 0) ∧ u.size = n2 ∧ n2 ≤ a1.size ∧ 4 ≤ n2 ∧ n2 ≤ 82 ∧ u.extract 0 (n2 - 4) = a1.extract 0 (n2 - 4) from take_put (r := (x2, y2, l2)) (k := n2) (by rw [hr2, h]))
  replace hm2 := hid hm2
  replace k3 := hid k3
  replace hM := hid hM
  replace hr2 := hid hr2
  by_cases c0 : e0 = 0
  case pos =>
    subst c0
    obtain ⟨tk, t82⟩ := put_take hp a1
    have hadd := fun U => sadd (P := Try.prog) t a1 (by have := hM.out; omega) U
    have hsz : (t ++ a1).size ≤ 100000 := by rw [ByteArray.size_append]; have := hM.out; omega
    obtain ⟨A, hA_⟩ : ∃ A, t ++ a1 = A := ⟨_, rfl⟩
    rw [hA_] at hadd tk hsz
    have k2 := fun U => stk_any A U hsz
    rw [tk] at k2
    obtain ⟨tz, htz⟩ : ∃ z, t.size = z := ⟨_, rfl⟩
    have htI : (t.size : Int) = (tz : Int) := by omega
    rw [htz] at k2 t82
    have q82 : ¬ (82 : Int) < tz := by omega
    have q82b : ¬ 82 < tz := by omega
    replace k1 := hid k1
    replace k2 := hid k2
    clear tk hA_ htz hsz pb_ t82
    replace hp := hid hp
    go_wp2_with fail
    refine (k1.out _ hE.out).mono ?_
    rintro e V4 ⟨rfl, hA⟩
    clear z0 z1 z2
    replace hE := hid (hE.out.below hA)
    replace rb := hid (held_after hA rb.out)
    replace hB := hid (bthen hB.out hA)
    clear hA
    go_wp2_with fail
    refine (k2.out _).mono ?_
    rintro e V5 ⟨ta1, tc1, rfl, hE1, hA⟩
    dsimp only at hE1 ⊢
    replace hE := hid (hE.out.below hA)
    replace rb := hid (held_after hA rb.out)
    replace hB := hid (bthen hB.out hA)
    clear hA
    rw [hn.out] at hE1 ⊢
    replace hE1 := hid hE1
    have nw := alloc_new V5 (.cells #[.string a0_0, .string a0_1, .slice ta1 n tc1] 24)
    have hA := nw.2.1
    have ra := nw.2.2
    clear nw
    go_upto_region 5 with (fail)
    obtain ⟨V6, hV6⟩ : ∃ X, V5.alloc (.cells #[.string a0_0, .string a0_1, .slice ta1 n tc1] 24) = X := ⟨_, rfl⟩
    rw [hV6] at hA ra ⊢
    obtain ⟨qra, hqra⟩ : ∃ X, V5.heap.size = X := ⟨_, rfl⟩
    rw [hqra] at ra ⊢
    replace hV6 := hid hV6
    replace hqra := hid hqra
    replace hE := hid (hE.out.below hA)
    replace hE1 := hid (hE1.out.below hA)
    replace rb := hid (held_after hA rb.out)
    replace hB := hid (bthen hB.out hA)
    clear hA
    replace ra := hid ra
    have z0 := held_cell rb.out 0 _ rfl
    have z1 := held_cell rb.out 1 _ rfl
    have z2 := held_cell rb.out 2 _ rfl
    have v0 := held_cell ra.out 0 _ rfl
    have v1 := held_cell ra.out 1 _ rfl
    have v2 := held_cell ra.out 2 _ rfl
    go_wp2_with fail
    refine (num22_any 0 _ (by omega) (by omega)).mono ?_
    rintro e V ⟨rfl, hv⟩
    obtain rfl : V6 = V := hv.symm
    clear hv
    go_wp2_with fail
    refine (num22_any 0 _ (by omega) (by omega)).mono ?_
    rintro e V ⟨rfl, hv⟩
    obtain rfl : V6 = V := hv.symm
    clear hv
    go_wp2_with fail
    refine (same22_any a0_0 a0_1 ta1 a0_2 tc1 cap0_2 n F _ hn.out hE1.out hE.out (by omega)).mono ?_
    rintro e V7 ⟨rfl, hA⟩
    clear z0 z1 z2 v0 v1 v2
    replace hE := hid (hE.out.below hA)
    replace hE1 := hid (hE1.out.below hA)
    replace rb := hid (held_after hA rb.out)
    replace ra := hid (held_after hA ra.out)
    replace hB := hid (bthen hB.out hA)
    clear hA
    go_wp2_with fail
    refine (num22_any 0 _ (by omega) (by omega)).mono ?_
    rintro e V ⟨rfl, hv⟩
    obtain rfl : V7 = V := hv.symm
    clear hv
    go_wp2_with fail
    refine (k3.out _).mono ?_
    rintro e V8 ⟨ta2, tc2, rfl, hE2, hA⟩
    dsimp only at hE2 ⊢
    replace hE := hid (hE.out.below hA)
    replace hE1 := hid (hE1.out.below hA)
    replace rb := hid (held_after hA rb.out)
    replace ra := hid (held_after hA ra.out)
    replace hB := hid (bthen hB.out hA)
    clear hA
    rw [hm2.out] at hE2 ⊢
    replace hE2 := hid hE2
    have nw := alloc_new V8 (.cells #[.string x2, .string y2, .slice ta2 m2 tc2] 24)
    have hA := nw.2.1
    have rc := nw.2.2
    clear nw
    go_upto_region 8 with (fail)
    obtain ⟨V9, hV9⟩ : ∃ X, V8.alloc (.cells #[.string x2, .string y2, .slice ta2 m2 tc2] 24) = X := ⟨_, rfl⟩
    rw [hV9] at hA rc ⊢
    obtain ⟨qrc, hqrc⟩ : ∃ X, V8.heap.size = X := ⟨_, rfl⟩
    rw [hqrc] at rc ⊢
    replace hV9 := hid hV9
    replace hqrc := hid hqrc
    replace hE := hid (hE.out.below hA)
    replace hE1 := hid (hE1.out.below hA)
    replace hE2 := hid (hE2.out.below hA)
    replace rb := hid (held_after hA rb.out)
    replace ra := hid (held_after hA ra.out)
    replace hB := hid (bthen hB.out hA)
    clear hA
    replace rc := hid rc
    go_wp2_with fail
    refine (num22_any e2 _ (by omega) (by omega)).mono ?_
    rintro e V ⟨rfl, hv⟩
    obtain rfl : V9 = V := hv.symm
    clear hv
    by_cases c2 : e2 = 0
    case neg =>
      obtain ⟨rfl, rfl, rfl, rfl⟩ := hno.out c2
      obtain rfl : m2 = 0 := by rw [← hm2.out]; rfl
      have q9 : (e2 != 0) = true := by simp [c2]
      clear hno hyes
      replace c2 := hid c2
      have v0 := held_cell rc.out 0 _ rfl
      have v1 := held_cell rc.out 1 _ rfl
      have v2 := held_cell rc.out 2 _ rfl
      go_wp2_with fail
      refine (same22_any ⟨#[]⟩ ⟨#[]⟩ ta2 none tc2 0 0 [] _ rfl hE2.out (Els.nil _ _) (by omega)).mono ?_
      rintro e V9 ⟨rfl, hA⟩
      have hB9 := hid (bthen hB.out hA)
      clear hA
      go_wp2_with fail
      go_ret
      exact ⟨rfl, hB9.out⟩
    subst c2
    obtain ⟨u, hu1, hu2, hu3, hu4, hu5, hu6⟩ := hyes.out rfl
    have hf := hfew.out
    clear hno hyes
    have k4 := fun U h => spt_any x2 y2 ta2 m2 tc2 l2 U hm2.out h (by omega) (by omega) (fun f hx => Nat.le_trans (hf.2.2.2 f hx) (by omega)) (by have := hf.1; have := hm2.out; omega)
    have k5 := fun U => stk_any u U (by omega)
    have tu := put_take0 hu1
    rw [hu1] at k4
    rw [tu, hu2] at k5
    dsimp only at k4
    clear tu hu1 hf
    obtain ⟨j, hj⟩ : ∃ j, n2 = j + 4 := ⟨n2 - 4, by omega⟩
    subst hj
    rw [show j + 4 - 4 = j by omega] at hu6
    have f1 := fun W => strto (P := Try.prog) 9 Try.underlying9 u j (by omega) .i64 j rfl W
    have f2 := fun W => strto (P := Try.prog) 9 Try.underlying9 a1 j (by omega) .i64 j rfl W
    rw [hu6] at f1
    obtain ⟨XX, hXX⟩ : ∃ X, a1.extract 0 j = X := ⟨_, rfl⟩
    rw [hXX] at f1 f2
    have w4 : IntKind.i64.wrap (((j + 4 : Nat) : Int) - 4) = (j : Int) := by rw [IntKind.wrap_i64]; omega
    obtain ⟨J, hJ⟩ : ∃ z, j + 4 = z := ⟨_, rfl⟩
    rw [hJ] at w4 k5 hu2 hu3 ⊢
    have huI : (u.size : Int) = (J : Int) := by omega
    have hJM : (J : Int) ≤ M := by omega
    clear hu2 hu3 hu4 hu5 hu6 hXX hJ
    replace k4 := hid k4
    replace k5 := hid k5
    have v0 := held_cell rc.out 0 _ rfl
    have v1 := held_cell rc.out 1 _ rfl
    have v2 := held_cell rc.out 2 _ rfl
    go_wp2_with fail
    refine (k4.out _ hE2.out).mono ?_
    rintro e V10 ⟨rfl, hA⟩
    clear v0 v1 v2
    replace hE := hid (hE.out.below hA)
    replace hE1 := hid (hE1.out.below hA)
    replace hE2 := hid (hE2.out.below hA)
    replace rb := hid (held_after hA rb.out)
    replace ra := hid (held_after hA ra.out)
    replace rc := hid (held_after hA rc.out)
    replace hB := hid (bthen hB.out hA)
    clear hA
    go_wp2_with fail
    refine (k5.out _).mono ?_
    rintro e V11 ⟨ta5, tc5, rfl, hE5, hA⟩
    dsimp only at hE5 ⊢
    replace hE := hid (hE.out.below hA)
    replace hE1 := hid (hE1.out.below hA)
    replace hE2 := hid (hE2.out.below hA)
    replace rb := hid (held_after hA rb.out)
    replace ra := hid (held_after hA ra.out)
    replace rc := hid (held_after hA rc.out)
    replace hB := hid (bthen hB.out hA)
    clear hA
    rw [hm2.out] at hE5 ⊢
    replace hE5 := hid hE5
    have nw := alloc_new V11 (.cells #[.string x2, .string y2, .slice ta5 m2 tc5] 24)
    have hA := nw.2.1
    have rd := nw.2.2
    clear nw
    go_upto_region 12 with (fail)
    obtain ⟨V12, hV12⟩ : ∃ X, V11.alloc (.cells #[.string x2, .string y2, .slice ta5 m2 tc5] 24) = X := ⟨_, rfl⟩
    rw [hV12] at hA rd ⊢
    obtain ⟨qrd, hqrd⟩ : ∃ X, V11.heap.size = X := ⟨_, rfl⟩
    rw [hqrd] at rd ⊢
    replace hV12 := hid hV12
    replace hqrd := hid hqrd
    replace hE := hid (hE.out.below hA)
    replace hE1 := hid (hE1.out.below hA)
    replace hE2 := hid (hE2.out.below hA)
    replace hE5 := hid (hE5.out.below hA)
    replace rb := hid (held_after hA rb.out)
    replace ra := hid (held_after hA ra.out)
    replace rc := hid (held_after hA rc.out)
    replace hB := hid (bthen hB.out hA)
    clear hA
    replace rd := hid rd
    have hD := hid (show After V12 V12.drew from (Below.refl _ _).drew)
    refine wp_region_R (by kernel_rfl) ?_
    refine wpAnyR_take 0 rfl (by kernel_rfl) (by kernel_rfl) (by kernel_rfl) (fun _ _ _ _ h => h) ⟨_, Or.inl ⟨by rfl, fun w2 hb2 => by (go_simp; try with_reducible rfl)⟩, _, by (go_simp; try rfl), ?_⟩
    refine wpAnyR_only 1 rfl (by kernel_rfl) (by rfl) (fun K hK => ?_)
    go_simp
    refine (num22_aft 0 _ (by omega) (by omega)).mono ?_
    rintro e VN1 ⟨rfl, hA⟩
    go_simp
    refine hK _ _ ⟨hA, ?_⟩
    clear hK
    have hD1 := hid (bthen hD.out hA)
    clear hA
    refine wpAnyR_take 2 rfl (by kernel_rfl) (by kernel_rfl) (by kernel_rfl) (fun _ _ _ _ h => h) ⟨_, Or.inl ⟨by rfl, fun w2 hb2 => by (go_simp; try with_reducible rfl)⟩, _, by (go_simp; try rfl), ?_⟩
    refine wpAnyR_take 3 rfl (by kernel_rfl) (by kernel_rfl) (by kernel_rfl) (fun _ _ _ _ h => h) ⟨_, Or.inl ⟨by rfl, fun w2 hb2 => by (go_simp; try with_reducible rfl)⟩, _, by (go_simp; try rfl), ?_⟩
    refine wpAnyR_take 4 rfl (by kernel_rfl) (by kernel_rfl) (by kernel_rfl) (fun _ _ _ _ h => h) ⟨_, Or.inl ⟨by rfl, fun w2 hb2 => by (go_simp; try with_reducible rfl)⟩, _, by (go_simp; try rfl), ?_⟩
    refine wpAnyR_only 5 rfl (by kernel_rfl) (by rfl) (fun K hK => ?_)
    go_simp
    refine (num22_aft 0 _ (by omega) (by omega)).mono ?_
    rintro e VN2 ⟨rfl, hA⟩
    go_simp
    refine hK _ _ ⟨hA, ?_⟩
    clear hK
    have hD2 := hid (bthen hD1.out hA)
    clear hA
    refine wpAnyR_take 6 rfl (by kernel_rfl) (by kernel_rfl) (by kernel_rfl) (fun _ _ _ _ h => h) ⟨_, Or.inl ⟨by rfl, fun w2 hb2 => by (go_simp; try with_reducible rfl)⟩, _, by (go_simp; try rfl), ?_⟩
    refine wpAnyR_take 7 rfl (by kernel_rfl) (by kernel_rfl) (by kernel_rfl) (fun _ _ _ _ h => h) ⟨_, Or.inl ⟨by rfl, fun w2 hb2 => by (go_simp; try with_reducible rfl)⟩, _, by (go_simp; try rfl), ?_⟩
    refine wpAnyR_take 8 rfl (by kernel_rfl) (by kernel_rfl) (by kernel_rfl) (fun _ _ _ _ h => h) ⟨_, Or.inl ⟨by rfl, fun w2 hb2 => by (go_simp; try with_reducible rfl)⟩, _, by (go_simp; try rfl), ?_⟩
    refine wpAnyR_take 9 rfl (by kernel_rfl) (by kernel_rfl) (by kernel_rfl) (fun _ _ _ _ h => h) ⟨_, Or.inl ⟨by rfl, fun w2 hb2 => by (go_simp; try with_reducible rfl)⟩, _, by (go_simp; try rfl), ?_⟩
    refine wpAnyR_take 10 rfl (by kernel_rfl) (by kernel_rfl) (by kernel_rfl) (fun _ _ _ _ h => h) ⟨_, Or.inl ⟨by rfl, fun w2 hb2 => by (go_simp; try with_reducible rfl)⟩, _, by (go_simp; try rfl), ?_⟩
    refine wpAnyR_take 11 rfl (by kernel_rfl) (by kernel_rfl) (by kernel_rfl) (fun _ _ _ _ h => h) ⟨_, Or.inl ⟨by rfl, fun w2 hb2 => by (go_simp; try with_reducible rfl)⟩, _, by (go_simp; try rfl), ?_⟩
    refine wpAnyR_take 12 rfl (by kernel_rfl) (by kernel_rfl) (by kernel_rfl) (fun _ _ _ _ h => h) ⟨_, Or.inl ⟨by rfl, fun w2 hb2 => by (go_simp; try with_reducible rfl)⟩, _, by (go_simp; try rfl), ?_⟩
    refine wpAnyR_take 13 rfl (by kernel_rfl) (by kernel_rfl) (by kernel_rfl) (fun _ _ _ _ h => h) ⟨_, Or.inl ⟨by rfl, fun w2 hb2 => by (go_simp; try with_reducible rfl)⟩, _, by (go_simp; try rfl), ?_⟩
    refine wpAnyR_take 14 rfl (by kernel_rfl) (by kernel_rfl) (by kernel_rfl) (fun _ _ _ _ h => h) ⟨_, Or.inl ⟨by rfl, fun w2 hb2 => by (go_simp; try with_reducible rfl)⟩, _, by (go_simp; try rfl), ?_⟩
    refine wpAnyR_take 15 rfl (by kernel_rfl) (by kernel_rfl) (by kernel_rfl) (fun _ _ _ _ h => h) ⟨_, Or.inl ⟨by rfl, fun w2 hb2 => by (go_simp; try with_reducible rfl)⟩, _, by (go_simp; try rfl), ?_⟩
    refine wpAnyR_take 16 rfl (by kernel_rfl) (by kernel_rfl) (by kernel_rfl) (fun _ _ _ _ h => h) ⟨_, Or.inl ⟨by rfl, fun w2 hb2 => by (go_simp; try with_reducible rfl)⟩, _, by (go_simp; try rfl), ?_⟩
    refine wpAnyR_take 17 rfl (by kernel_rfl) (by kernel_rfl) (by kernel_rfl) (fun _ _ _ _ h => h) ⟨_, Or.inl ⟨by rfl, fun w2 hb2 => by (go_simp; try with_reducible rfl)⟩, _, by (go_simp; try rfl), ?_⟩
    refine wpAnyR_take 18 rfl (by kernel_rfl) (by kernel_rfl) (by kernel_rfl) (fun _ _ _ _ h => h) ⟨_, Or.inl ⟨by rfl, fun w2 hb2 => by (go_simp; try with_reducible rfl)⟩, _, by (go_simp; try rfl), ?_⟩
    refine wpAnyR_take 19 rfl (by kernel_rfl) (by kernel_rfl) (by kernel_rfl) (fun _ _ _ _ h => h) ⟨_, Or.inl ⟨by rfl, fun w2 hb2 => by (go_simp; try with_reducible rfl)⟩, _, by (go_simp; try rfl), ?_⟩
    refine wpAnyR_take 20 rfl (by kernel_rfl) (by kernel_rfl) (by kernel_rfl) (fun _ _ _ _ h => h) ⟨_, Or.inl ⟨by rfl, fun w2 hb2 => by (go_simp; try with_reducible rfl)⟩, _, by (go_simp; try rfl), ?_⟩
    refine wpAnyR_take 21 rfl (by kernel_rfl) (by kernel_rfl) (by kernel_rfl) (fun _ _ _ _ h => h) ⟨_, Or.inl ⟨by rfl, fun w2 hb2 => by (go_simp; try with_reducible rfl)⟩, _, by (go_simp; try rfl), ?_⟩
    refine wpAnyR_take 22 rfl (by kernel_rfl) (by kernel_rfl) (by kernel_rfl) (fun _ _ _ _ h => h) ⟨_, Or.inl ⟨by rfl, fun w2 hb2 => by (go_simp; try with_reducible rfl)⟩, _, by (go_simp; try rfl), ?_⟩
    refine wpAnyR_take 23 rfl (by kernel_rfl) (by kernel_rfl) (by kernel_rfl) (fun _ _ _ _ h => h) ⟨_, Or.inl ⟨by rfl, fun w2 hb2 => by (go_simp; try with_reducible rfl)⟩, _, by (go_simp; try rfl), ?_⟩
    refine wpAnyR_take 24 rfl (by kernel_rfl) (by kernel_rfl) (by kernel_rfl) (fun _ _ _ _ h => h) ⟨_, Or.inl ⟨by rfl, fun w2 hb2 => by (go_simp; try with_reducible rfl)⟩, _, by (go_simp; try rfl), ?_⟩
    refine wpAnyR_take 25 rfl (by kernel_rfl) (by kernel_rfl) (by kernel_rfl) (fun _ _ _ _ h => h) ⟨_, Or.inl ⟨by rfl, fun w2 hb2 => by (go_simp; try with_reducible rfl)⟩, _, by (go_simp; try rfl), ?_⟩
    refine wpAnyR_take 26 rfl (by kernel_rfl) (by kernel_rfl) (by kernel_rfl) (fun _ _ _ _ h => h) ⟨_, Or.inl ⟨by rfl, fun w2 hb2 => by (have hr := held_after hb2 (held_after hD2.out rc.out); have v0 := held_cell hr 0 _ rfl; have v1 := held_cell hr 1 _ rfl; have v2 := held_cell hr 2 _ rfl; go_simp; try with_reducible rfl)⟩, _, by (go_simp; try rfl), ?_⟩
    refine wpAnyR_take 27 rfl (by kernel_rfl) (by kernel_rfl) (by kernel_rfl) (fun _ _ _ _ h => h) ⟨_, Or.inl ⟨by rfl, fun w2 hb2 => by (have hr := held_after hb2 (held_after hD2.out rd.out); have u_0 := held_cell hr 0 _ rfl; have u_1 := held_cell hr 1 _ rfl; have u_2 := held_cell hr 2 _ rfl; go_simp; try with_reducible rfl)⟩, _, by (go_simp; try rfl), ?_⟩
    refine wpAnyR_only 28 rfl (by kernel_rfl) (by rfl) (fun K hK => ?_)
    go_simp
    refine (same22_any x2 y2 ta2 ta5 tc2 tc5 m2 l2 _ hm2.out (hE2.out.below hD2.out) (hE5.out.below hD2.out) (by have := hfew.out.1; have := hm2.out; omega)).mono ?_
    rintro e VN3 ⟨rfl, hA⟩
    go_simp
    refine hK _ _ ⟨hA, ?_⟩
    clear hK
    have hB9 := hid (bthen hB.out (bthen hD2.out hA))
    clear hA
    refine wpAnyR_take 29 rfl (by kernel_rfl) (by kernel_rfl) (by kernel_rfl) (fun _ _ _ _ h => h) ⟨_, Or.inl ⟨by rfl, fun w2 hb2 => by (go_simp; try with_reducible rfl)⟩, _, by (go_simp; try rfl), ?_⟩
    refine wpAnyR_take 30 rfl (by kernel_rfl) (by kernel_rfl) (by kernel_rfl) (fun _ _ _ _ h => h) ⟨_, Or.inl ⟨by rfl, fun w2 hb2 => by (go_simp; try with_reducible rfl)⟩, _, by (go_simp; try rfl), ?_⟩
    refine wpAnyR_take 31 rfl (by kernel_rfl) (by kernel_rfl) (by kernel_rfl) (fun _ _ _ _ h => h) ⟨_, Or.inl ⟨by rfl, fun w2 hb2 => by (go_simp; try with_reducible rfl)⟩, _, by (go_simp; try rfl), ?_⟩
    refine wpAnyR_take 32 rfl (by kernel_rfl) (by kernel_rfl) (by kernel_rfl) (fun _ _ _ _ h => h) ⟨_, Or.inl ⟨by rfl, fun w2 hb2 => by (go_simp; try with_reducible rfl)⟩, _, by (go_simp; try rfl), ?_⟩
    refine wpAnyR_take 33 rfl (by kernel_rfl) (by kernel_rfl) (by kernel_rfl) (fun _ _ _ _ h => h) ⟨_, Or.inl ⟨by rfl, fun w2 hb2 => by (go_simp; try with_reducible rfl)⟩, _, by (go_simp; try rfl), ?_⟩
    refine wpAnyR_take 34 rfl (by kernel_rfl) (by kernel_rfl) (by kernel_rfl) (fun _ _ _ _ h => h) ⟨_, Or.inl ⟨by rfl, fun w2 hb2 => by (go_simp; try with_reducible rfl)⟩, _, by (go_simp; try rfl), ?_⟩
    refine wpAnyR_take 35 rfl (by kernel_rfl) (by kernel_rfl) (by kernel_rfl) (fun _ _ _ _ h => h) ⟨_, Or.inl ⟨by rfl, fun w2 hb2 => by (go_simp; try with_reducible rfl)⟩, _, by (go_simp; try rfl), ?_⟩
    refine wpAnyR_take 36 rfl (by kernel_rfl) (by kernel_rfl) (by kernel_rfl) (fun _ _ _ _ h => h) ⟨_, Or.inl ⟨by rfl, fun w2 hb2 => by (go_simp; try with_reducible rfl)⟩, _, by (go_simp; try rfl), ?_⟩
    refine wpAnyR_take 37 rfl (by kernel_rfl) (by kernel_rfl) (by kernel_rfl) (fun _ _ _ _ h => h) ⟨_, Or.inl ⟨by rfl, fun w2 hb2 => by (go_simp; try with_reducible rfl)⟩, _, by (go_simp; try rfl), ?_⟩
    refine wpAnyR_take 38 rfl (by kernel_rfl) (by kernel_rfl) (by kernel_rfl) (fun _ _ _ _ h => h) ⟨_, Or.inl ⟨by rfl, fun w2 hb2 => by (go_simp; try with_reducible rfl)⟩, _, by (go_simp; try rfl), ?_⟩
    refine wpAnyR_take 39 rfl (by kernel_rfl) (by kernel_rfl) (by kernel_rfl) (fun _ _ _ _ h => h) ⟨_, Or.inl ⟨by rfl, fun w2 hb2 => by (go_simp; try with_reducible rfl)⟩, _, by (go_simp; try rfl), ?_⟩
    refine wpAnyR_take 40 rfl (by kernel_rfl) (by kernel_rfl) (by kernel_rfl) (fun _ _ _ _ h => h) ⟨_, Or.inl ⟨by rfl, fun w2 hb2 => by (go_simp; try with_reducible rfl)⟩, _, by (go_simp; try rfl), ?_⟩
    refine wpAnyR_take 41 rfl (by kernel_rfl) (by kernel_rfl) (by kernel_rfl) (fun _ _ _ _ h => h) ⟨_, Or.inl ⟨by rfl, fun w2 hb2 => by (go_simp; try with_reducible rfl)⟩, _, by (go_simp; try rfl), ?_⟩
    refine wpAnyR_done (by kernel_rfl) ?_ _
    go_wp2_with fail
    go_ret
    exact ⟨ret_bool (by simp), hB9.out⟩
  case neg =>
    obtain rfl : t = ⟨#[]⟩ := pb_ c0
    have hadd := fun U => sadd (P := Try.prog) ⟨#[]⟩ a1 (by have : (⟨#[]⟩ : ByteArray).size = 0 := rfl; have := hM.out; omega) U
    have hsz : (⟨#[]⟩ ++ a1 : ByteArray).size ≤ 100000 := by rw [ByteArray.size_append]; have : (⟨#[]⟩ : ByteArray).size = 0 := rfl; have := hM.out; omega
    obtain ⟨A, hA_⟩ : ∃ A, (⟨#[]⟩ ++ a1 : ByteArray) = A := ⟨_, rfl⟩
    rw [hA_] at hadd hsz
    have k2 := fun U => stk_any A U hsz
    obtain ⟨⟨⟨x1, y1, l1⟩, n1, e1⟩, hr1⟩ : ∃ r : Snt × Nat × Int, takeN A = r := ⟨_, rfl⟩
    rw [hr1] at k2
    obtain ⟨m1, hm1⟩ : ∃ m, l1.length = m := ⟨_, rfl⟩
    have q0 : (e0 == 0) = false := by simp [c0]
    have q1 : (e0 != 0) = true := by simp [c0]
    replace hm1 := hid hm1
    replace k1 := hid k1
    replace k2 := hid k2
    clear hA_ hsz pb_ hr1
    replace hp := hid hp
    replace c0 := hid c0
    go_wp2_with fail
    refine (k1.out _ hE.out).mono ?_
    rintro e V4 ⟨rfl, hA⟩
    clear z0 z1 z2
    replace hE := hid (hE.out.below hA)
    replace rb := hid (held_after hA rb.out)
    replace hB := hid (bthen hB.out hA)
    clear hA
    go_wp2_with fail
    refine (k2.out _).mono ?_
    rintro e V5 ⟨ta1, tc1, rfl, hE1, hA⟩
    dsimp only at hE1 ⊢
    replace hE := hid (hE.out.below hA)
    replace rb := hid (held_after hA rb.out)
    replace hB := hid (bthen hB.out hA)
    clear hA
    rw [hm1.out] at hE1 ⊢
    replace hE1 := hid hE1
    have nw := alloc_new V5 (.cells #[.string x1, .string y1, .slice ta1 m1 tc1] 24)
    have hA := nw.2.1
    have ra := nw.2.2
    clear nw
    go_upto_region 5 with (fail)
    obtain ⟨V6, hV6⟩ : ∃ X, V5.alloc (.cells #[.string x1, .string y1, .slice ta1 m1 tc1] 24) = X := ⟨_, rfl⟩
    rw [hV6] at hA ra ⊢
    obtain ⟨qra, hqra⟩ : ∃ X, V5.heap.size = X := ⟨_, rfl⟩
    rw [hqra] at ra ⊢
    replace hV6 := hid hV6
    replace hqra := hid hqra
    replace hE := hid (hE.out.below hA)
    replace hE1 := hid (hE1.out.below hA)
    replace rb := hid (held_after hA rb.out)
    replace hB := hid (bthen hB.out hA)
    clear hA
    replace ra := hid ra
    go_wp2_with fail
    refine (num22_any e0 _ (by omega) (by omega)).mono ?_
    rintro e V ⟨rfl, hv⟩
    obtain rfl : V6 = V := hv.symm
    clear hv
    go_wp2_with fail
    refine (num22_any e0 _ (by omega) (by omega)).mono ?_
    rintro e V ⟨rfl, hv⟩
    obtain rfl : V6 = V := hv.symm
    clear hv
    go_wp2_with fail
    refine (k3.out _).mono ?_
    rintro e V7 ⟨ta2, tc2, rfl, hE2, hA⟩
    dsimp only at hE2 ⊢
    replace hE := hid (hE.out.below hA)
    replace hE1 := hid (hE1.out.below hA)
    replace rb := hid (held_after hA rb.out)
    replace ra := hid (held_after hA ra.out)
    replace hB := hid (bthen hB.out hA)
    clear hA
    rw [hm2.out] at hE2 ⊢
    replace hE2 := hid hE2
    have nw := alloc_new V7 (.cells #[.string x2, .string y2, .slice ta2 m2 tc2] 24)
    have hA := nw.2.1
    have rc := nw.2.2
    clear nw
    go_upto_region 8 with (fail)
    obtain ⟨V8, hV8⟩ : ∃ X, V7.alloc (.cells #[.string x2, .string y2, .slice ta2 m2 tc2] 24) = X := ⟨_, rfl⟩
    rw [hV8] at hA rc ⊢
    obtain ⟨qrc, hqrc⟩ : ∃ X, V7.heap.size = X := ⟨_, rfl⟩
    rw [hqrc] at rc ⊢
    replace hV8 := hid hV8
    replace hqrc := hid hqrc
    replace hE := hid (hE.out.below hA)
    replace hE1 := hid (hE1.out.below hA)
    replace hE2 := hid (hE2.out.below hA)
    replace rb := hid (held_after hA rb.out)
    replace ra := hid (held_after hA ra.out)
    replace hB := hid (bthen hB.out hA)
    clear hA
    replace rc := hid rc
    go_wp2_with fail
    refine (num22_any e2 _ (by omega) (by omega)).mono ?_
    rintro e V ⟨rfl, hv⟩
    obtain rfl : V8 = V := hv.symm
    clear hv
    by_cases c2 : e2 = 0
    case neg =>
      obtain ⟨rfl, rfl, rfl, rfl⟩ := hno.out c2
      obtain rfl : m2 = 0 := by rw [← hm2.out]; rfl
      have q9 : (e2 != 0) = true := by simp [c2]
      clear hno hyes
      replace c2 := hid c2
      have v0 := held_cell rc.out 0 _ rfl
      have v1 := held_cell rc.out 1 _ rfl
      have v2 := held_cell rc.out 2 _ rfl
      go_wp2_with fail
      refine (same22_any ⟨#[]⟩ ⟨#[]⟩ ta2 none tc2 0 0 [] _ rfl hE2.out (Els.nil _ _) (by omega)).mono ?_
      rintro e V9 ⟨rfl, hA⟩
      have hB9 := hid (bthen hB.out hA)
      clear hA
      go_wp2_with fail
      go_ret
      exact ⟨rfl, hB9.out⟩
    subst c2
    obtain ⟨u, hu1, hu2, hu3, hu4, hu5, hu6⟩ := hyes.out rfl
    have hf := hfew.out
    clear hno hyes
    have k4 := fun U h => spt_any x2 y2 ta2 m2 tc2 l2 U hm2.out h (by omega) (by omega) (fun f hx => Nat.le_trans (hf.2.2.2 f hx) (by omega)) (by have := hf.1; have := hm2.out; omega)
    have k5 := fun U => stk_any u U (by omega)
    have tu := put_take0 hu1
    rw [hu1] at k4
    rw [tu, hu2] at k5
    dsimp only at k4
    clear tu hu1 hf
    obtain ⟨j, hj⟩ : ∃ j, n2 = j + 4 := ⟨n2 - 4, by omega⟩
    subst hj
    rw [show j + 4 - 4 = j by omega] at hu6
    have f1 := fun W => strto (P := Try.prog) 9 Try.underlying9 u j (by omega) .i64 j rfl W
    have f2 := fun W => strto (P := Try.prog) 9 Try.underlying9 a1 j (by omega) .i64 j rfl W
    rw [hu6] at f1
    obtain ⟨XX, hXX⟩ : ∃ X, a1.extract 0 j = X := ⟨_, rfl⟩
    rw [hXX] at f1 f2
    have w4 : IntKind.i64.wrap (((j + 4 : Nat) : Int) - 4) = (j : Int) := by rw [IntKind.wrap_i64]; omega
    obtain ⟨J, hJ⟩ : ∃ z, j + 4 = z := ⟨_, rfl⟩
    rw [hJ] at w4 k5 hu2 hu3 ⊢
    have huI : (u.size : Int) = (J : Int) := by omega
    have hJM : (J : Int) ≤ M := by omega
    clear hu2 hu3 hu4 hu5 hu6 hXX hJ
    replace k4 := hid k4
    replace k5 := hid k5
    have v0 := held_cell rc.out 0 _ rfl
    have v1 := held_cell rc.out 1 _ rfl
    have v2 := held_cell rc.out 2 _ rfl
    go_wp2_with fail
    refine (k4.out _ hE2.out).mono ?_
    rintro e V9 ⟨rfl, hA⟩
    clear v0 v1 v2
    replace hE := hid (hE.out.below hA)
    replace hE1 := hid (hE1.out.below hA)
    replace hE2 := hid (hE2.out.below hA)
    replace rb := hid (held_after hA rb.out)
    replace ra := hid (held_after hA ra.out)
    replace rc := hid (held_after hA rc.out)
    replace hB := hid (bthen hB.out hA)
    clear hA
    go_wp2_with fail
    refine (k5.out _).mono ?_
    rintro e V10 ⟨ta5, tc5, rfl, hE5, hA⟩
    dsimp only at hE5 ⊢
    replace hE := hid (hE.out.below hA)
    replace hE1 := hid (hE1.out.below hA)
    replace hE2 := hid (hE2.out.below hA)
    replace rb := hid (held_after hA rb.out)
    replace ra := hid (held_after hA ra.out)
    replace rc := hid (held_after hA rc.out)
    replace hB := hid (bthen hB.out hA)
    clear hA
    rw [hm2.out] at hE5 ⊢
    replace hE5 := hid hE5
    have nw := alloc_new V10 (.cells #[.string x2, .string y2, .slice ta5 m2 tc5] 24)
    have hA := nw.2.1
    have rd := nw.2.2
    clear nw
    go_upto_region 12 with (fail)
    obtain ⟨V11, hV11⟩ : ∃ X, V10.alloc (.cells #[.string x2, .string y2, .slice ta5 m2 tc5] 24) = X := ⟨_, rfl⟩
    rw [hV11] at hA rd ⊢
    obtain ⟨qrd, hqrd⟩ : ∃ X, V10.heap.size = X := ⟨_, rfl⟩
    rw [hqrd] at rd ⊢
    replace hV11 := hid hV11
    replace hqrd := hid hqrd
    replace hE := hid (hE.out.below hA)
    replace hE1 := hid (hE1.out.below hA)
    replace hE2 := hid (hE2.out.below hA)
    replace hE5 := hid (hE5.out.below hA)
    replace rb := hid (held_after hA rb.out)
    replace ra := hid (held_after hA ra.out)
    replace rc := hid (held_after hA rc.out)
    replace hB := hid (bthen hB.out hA)
    clear hA
    replace rd := hid rd
    have hD := hid (show After V11 V11.drew from (Below.refl _ _).drew)
    refine wp_region_R (by kernel_rfl) ?_
    refine wpAnyR_take 0 rfl (by kernel_rfl) (by kernel_rfl) (by kernel_rfl) (fun _ _ _ _ h => h) ⟨_, Or.inl ⟨by rfl, fun w2 hb2 => by (go_simp; try with_reducible rfl)⟩, _, by (go_simp; try rfl), ?_⟩
    refine wpAnyR_only 1 rfl (by kernel_rfl) (by rfl) (fun K hK => ?_)
    go_simp
    refine (num22_aft 0 _ (by omega) (by omega)).mono ?_
    rintro e VN1 ⟨rfl, hA⟩
    go_simp
    refine hK _ _ ⟨hA, ?_⟩
    clear hK
    have hD1 := hid (bthen hD.out hA)
    clear hA
    refine wpAnyR_take 2 rfl (by kernel_rfl) (by kernel_rfl) (by kernel_rfl) (fun _ _ _ _ h => h) ⟨_, Or.inl ⟨by rfl, fun w2 hb2 => by (go_simp; try with_reducible rfl)⟩, _, by (go_simp; try rfl), ?_⟩
    refine wpAnyR_take 3 rfl (by kernel_rfl) (by kernel_rfl) (by kernel_rfl) (fun _ _ _ _ h => h) ⟨_, Or.inl ⟨by rfl, fun w2 hb2 => by (go_simp; try with_reducible rfl)⟩, _, by (go_simp; try rfl), ?_⟩
    refine wpAnyR_take 4 rfl (by kernel_rfl) (by kernel_rfl) (by kernel_rfl) (fun _ _ _ _ h => h) ⟨_, Or.inl ⟨by rfl, fun w2 hb2 => by (go_simp; try with_reducible rfl)⟩, _, by (go_simp; try rfl), ?_⟩
    refine wpAnyR_only 5 rfl (by kernel_rfl) (by rfl) (fun K hK => ?_)
    go_simp
    refine (num22_aft 0 _ (by omega) (by omega)).mono ?_
    rintro e VN2 ⟨rfl, hA⟩
    go_simp
    refine hK _ _ ⟨hA, ?_⟩
    clear hK
    have hD2 := hid (bthen hD1.out hA)
    clear hA
    refine wpAnyR_take 6 rfl (by kernel_rfl) (by kernel_rfl) (by kernel_rfl) (fun _ _ _ _ h => h) ⟨_, Or.inl ⟨by rfl, fun w2 hb2 => by (go_simp; try with_reducible rfl)⟩, _, by (go_simp; try rfl), ?_⟩
    refine wpAnyR_take 7 rfl (by kernel_rfl) (by kernel_rfl) (by kernel_rfl) (fun _ _ _ _ h => h) ⟨_, Or.inl ⟨by rfl, fun w2 hb2 => by (go_simp; try with_reducible rfl)⟩, _, by (go_simp; try rfl), ?_⟩
    refine wpAnyR_take 8 rfl (by kernel_rfl) (by kernel_rfl) (by kernel_rfl) (fun _ _ _ _ h => h) ⟨_, Or.inl ⟨by rfl, fun w2 hb2 => by (go_simp; try with_reducible rfl)⟩, _, by (go_simp; try rfl), ?_⟩
    refine wpAnyR_take 9 rfl (by kernel_rfl) (by kernel_rfl) (by kernel_rfl) (fun _ _ _ _ h => h) ⟨_, Or.inl ⟨by rfl, fun w2 hb2 => by (go_simp; try with_reducible rfl)⟩, _, by (go_simp; try rfl), ?_⟩
    refine wpAnyR_take 10 rfl (by kernel_rfl) (by kernel_rfl) (by kernel_rfl) (fun _ _ _ _ h => h) ⟨_, Or.inl ⟨by rfl, fun w2 hb2 => by (go_simp; try with_reducible rfl)⟩, _, by (go_simp; try rfl), ?_⟩
    refine wpAnyR_take 11 rfl (by kernel_rfl) (by kernel_rfl) (by kernel_rfl) (fun _ _ _ _ h => h) ⟨_, Or.inl ⟨by rfl, fun w2 hb2 => by (go_simp; try with_reducible rfl)⟩, _, by (go_simp; try rfl), ?_⟩
    refine wpAnyR_take 12 rfl (by kernel_rfl) (by kernel_rfl) (by kernel_rfl) (fun _ _ _ _ h => h) ⟨_, Or.inl ⟨by rfl, fun w2 hb2 => by (go_simp; try with_reducible rfl)⟩, _, by (go_simp; try rfl), ?_⟩
    refine wpAnyR_take 13 rfl (by kernel_rfl) (by kernel_rfl) (by kernel_rfl) (fun _ _ _ _ h => h) ⟨_, Or.inl ⟨by rfl, fun w2 hb2 => by (go_simp; try with_reducible rfl)⟩, _, by (go_simp; try rfl), ?_⟩
    refine wpAnyR_take 14 rfl (by kernel_rfl) (by kernel_rfl) (by kernel_rfl) (fun _ _ _ _ h => h) ⟨_, Or.inl ⟨by rfl, fun w2 hb2 => by (go_simp; try with_reducible rfl)⟩, _, by (go_simp; try rfl), ?_⟩
    refine wpAnyR_take 15 rfl (by kernel_rfl) (by kernel_rfl) (by kernel_rfl) (fun _ _ _ _ h => h) ⟨_, Or.inl ⟨by rfl, fun w2 hb2 => by (go_simp; try with_reducible rfl)⟩, _, by (go_simp; try rfl), ?_⟩
    refine wpAnyR_take 16 rfl (by kernel_rfl) (by kernel_rfl) (by kernel_rfl) (fun _ _ _ _ h => h) ⟨_, Or.inl ⟨by rfl, fun w2 hb2 => by (go_simp; try with_reducible rfl)⟩, _, by (go_simp; try rfl), ?_⟩
    refine wpAnyR_take 17 rfl (by kernel_rfl) (by kernel_rfl) (by kernel_rfl) (fun _ _ _ _ h => h) ⟨_, Or.inl ⟨by rfl, fun w2 hb2 => by (go_simp; try with_reducible rfl)⟩, _, by (go_simp; try rfl), ?_⟩
    refine wpAnyR_take 18 rfl (by kernel_rfl) (by kernel_rfl) (by kernel_rfl) (fun _ _ _ _ h => h) ⟨_, Or.inl ⟨by rfl, fun w2 hb2 => by (go_simp; try with_reducible rfl)⟩, _, by (go_simp; try rfl), ?_⟩
    refine wpAnyR_take 19 rfl (by kernel_rfl) (by kernel_rfl) (by kernel_rfl) (fun _ _ _ _ h => h) ⟨_, Or.inl ⟨by rfl, fun w2 hb2 => by (go_simp; try with_reducible rfl)⟩, _, by (go_simp; try rfl), ?_⟩
    refine wpAnyR_take 20 rfl (by kernel_rfl) (by kernel_rfl) (by kernel_rfl) (fun _ _ _ _ h => h) ⟨_, Or.inl ⟨by rfl, fun w2 hb2 => by (go_simp; try with_reducible rfl)⟩, _, by (go_simp; try rfl), ?_⟩
    refine wpAnyR_take 21 rfl (by kernel_rfl) (by kernel_rfl) (by kernel_rfl) (fun _ _ _ _ h => h) ⟨_, Or.inl ⟨by rfl, fun w2 hb2 => by (go_simp; try with_reducible rfl)⟩, _, by (go_simp; try rfl), ?_⟩
    refine wpAnyR_take 22 rfl (by kernel_rfl) (by kernel_rfl) (by kernel_rfl) (fun _ _ _ _ h => h) ⟨_, Or.inl ⟨by rfl, fun w2 hb2 => by (go_simp; try with_reducible rfl)⟩, _, by (go_simp; try rfl), ?_⟩
    refine wpAnyR_take 23 rfl (by kernel_rfl) (by kernel_rfl) (by kernel_rfl) (fun _ _ _ _ h => h) ⟨_, Or.inl ⟨by rfl, fun w2 hb2 => by (go_simp; try with_reducible rfl)⟩, _, by (go_simp; try rfl), ?_⟩
    refine wpAnyR_take 24 rfl (by kernel_rfl) (by kernel_rfl) (by kernel_rfl) (fun _ _ _ _ h => h) ⟨_, Or.inl ⟨by rfl, fun w2 hb2 => by (go_simp; try with_reducible rfl)⟩, _, by (go_simp; try rfl), ?_⟩
    refine wpAnyR_take 25 rfl (by kernel_rfl) (by kernel_rfl) (by kernel_rfl) (fun _ _ _ _ h => h) ⟨_, Or.inl ⟨by rfl, fun w2 hb2 => by (go_simp; try with_reducible rfl)⟩, _, by (go_simp; try rfl), ?_⟩
    refine wpAnyR_take 26 rfl (by kernel_rfl) (by kernel_rfl) (by kernel_rfl) (fun _ _ _ _ h => h) ⟨_, Or.inl ⟨by rfl, fun w2 hb2 => by (have hr := held_after hb2 (held_after hD2.out rc.out); have v0 := held_cell hr 0 _ rfl; have v1 := held_cell hr 1 _ rfl; have v2 := held_cell hr 2 _ rfl; go_simp; try with_reducible rfl)⟩, _, by (go_simp; try rfl), ?_⟩
    refine wpAnyR_take 27 rfl (by kernel_rfl) (by kernel_rfl) (by kernel_rfl) (fun _ _ _ _ h => h) ⟨_, Or.inl ⟨by rfl, fun w2 hb2 => by (have hr := held_after hb2 (held_after hD2.out rd.out); have u_0 := held_cell hr 0 _ rfl; have u_1 := held_cell hr 1 _ rfl; have u_2 := held_cell hr 2 _ rfl; go_simp; try with_reducible rfl)⟩, _, by (go_simp; try rfl), ?_⟩
    refine wpAnyR_only 28 rfl (by kernel_rfl) (by rfl) (fun K hK => ?_)
    go_simp
    refine (same22_any x2 y2 ta2 ta5 tc2 tc5 m2 l2 _ hm2.out (hE2.out.below hD2.out) (hE5.out.below hD2.out) (by have := hfew.out.1; have := hm2.out; omega)).mono ?_
    rintro e VN3 ⟨rfl, hA⟩
    go_simp
    refine hK _ _ ⟨hA, ?_⟩
    clear hK
    have hB9 := hid (bthen hB.out (bthen hD2.out hA))
    clear hA
    refine wpAnyR_take 29 rfl (by kernel_rfl) (by kernel_rfl) (by kernel_rfl) (fun _ _ _ _ h => h) ⟨_, Or.inl ⟨by rfl, fun w2 hb2 => by (go_simp; try with_reducible rfl)⟩, _, by (go_simp; try rfl), ?_⟩
    refine wpAnyR_take 30 rfl (by kernel_rfl) (by kernel_rfl) (by kernel_rfl) (fun _ _ _ _ h => h) ⟨_, Or.inl ⟨by rfl, fun w2 hb2 => by (go_simp; try with_reducible rfl)⟩, _, by (go_simp; try rfl), ?_⟩
    refine wpAnyR_take 31 rfl (by kernel_rfl) (by kernel_rfl) (by kernel_rfl) (fun _ _ _ _ h => h) ⟨_, Or.inl ⟨by rfl, fun w2 hb2 => by (go_simp; try with_reducible rfl)⟩, _, by (go_simp; try rfl), ?_⟩
    refine wpAnyR_take 32 rfl (by kernel_rfl) (by kernel_rfl) (by kernel_rfl) (fun _ _ _ _ h => h) ⟨_, Or.inl ⟨by rfl, fun w2 hb2 => by (go_simp; try with_reducible rfl)⟩, _, by (go_simp; try rfl), ?_⟩
    refine wpAnyR_take 33 rfl (by kernel_rfl) (by kernel_rfl) (by kernel_rfl) (fun _ _ _ _ h => h) ⟨_, Or.inl ⟨by rfl, fun w2 hb2 => by (go_simp; try with_reducible rfl)⟩, _, by (go_simp; try rfl), ?_⟩
    refine wpAnyR_take 34 rfl (by kernel_rfl) (by kernel_rfl) (by kernel_rfl) (fun _ _ _ _ h => h) ⟨_, Or.inl ⟨by rfl, fun w2 hb2 => by (go_simp; try with_reducible rfl)⟩, _, by (go_simp; try rfl), ?_⟩
    refine wpAnyR_take 35 rfl (by kernel_rfl) (by kernel_rfl) (by kernel_rfl) (fun _ _ _ _ h => h) ⟨_, Or.inl ⟨by rfl, fun w2 hb2 => by (go_simp; try with_reducible rfl)⟩, _, by (go_simp; try rfl), ?_⟩
    refine wpAnyR_take 36 rfl (by kernel_rfl) (by kernel_rfl) (by kernel_rfl) (fun _ _ _ _ h => h) ⟨_, Or.inl ⟨by rfl, fun w2 hb2 => by (go_simp; try with_reducible rfl)⟩, _, by (go_simp; try rfl), ?_⟩
    refine wpAnyR_take 37 rfl (by kernel_rfl) (by kernel_rfl) (by kernel_rfl) (fun _ _ _ _ h => h) ⟨_, Or.inl ⟨by rfl, fun w2 hb2 => by (go_simp; try with_reducible rfl)⟩, _, by (go_simp; try rfl), ?_⟩
    refine wpAnyR_take 38 rfl (by kernel_rfl) (by kernel_rfl) (by kernel_rfl) (fun _ _ _ _ h => h) ⟨_, Or.inl ⟨by rfl, fun w2 hb2 => by (go_simp; try with_reducible rfl)⟩, _, by (go_simp; try rfl), ?_⟩
    refine wpAnyR_take 39 rfl (by kernel_rfl) (by kernel_rfl) (by kernel_rfl) (fun _ _ _ _ h => h) ⟨_, Or.inl ⟨by rfl, fun w2 hb2 => by (go_simp; try with_reducible rfl)⟩, _, by (go_simp; try rfl), ?_⟩
    refine wpAnyR_take 40 rfl (by kernel_rfl) (by kernel_rfl) (by kernel_rfl) (fun _ _ _ _ h => h) ⟨_, Or.inl ⟨by rfl, fun w2 hb2 => by (go_simp; try with_reducible rfl)⟩, _, by (go_simp; try rfl), ?_⟩
    refine wpAnyR_take 41 rfl (by kernel_rfl) (by kernel_rfl) (by kernel_rfl) (fun _ _ _ _ h => h) ⟨_, Or.inl ⟨by rfl, fun w2 hb2 => by (go_simp; try with_reducible rfl)⟩, _, by (go_simp; try rfl), ?_⟩
    refine wpAnyR_done (by kernel_rfl) ?_ _
    go_wp2_with fail
    go_ret
    exact ⟨ret_bool (by simp), hB9.out⟩


end Go.Proofs.Ytookhpmpngacjaa
