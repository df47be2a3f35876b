/- Laws of package window: WindowQueue. -/
import Derived.Test.YtaladglmomhndaaLaw39b
import Derived.Deep.DeepCutAuto
namespace Go.Proofs.Ytaladglmomhndaa
open Go.ChangeShapes Go.WideShapes Go.ChangeAt Go.RowKit
set_option linter.unusedVariables false
set_option linter.unusedSimpArgs false

theorem wpeek3 (B : Nat) (w : World) (L : List Int) (m : Nat) (hm : L.length = m) (hW : WdSt B w L) : Calls Try.prog 16 #[.pointer (some ⟨B, 0, none⟩)] w fun e w' => ∃ q : Nat, e = .returned (.slice (some ⟨q, 0, none⟩) m m) ∧ Sl .u8 w' (some ⟨q, 0, none⟩) m m L ∧ w.heap.size ≤ q ∧ After w w' := by
  have h1024 := wdS_len hW
  refine (wpeek_any B w L hW).mono ?_
  rintro e w2 ⟨rfl, hR, hA⟩
  have h := hR.sl (by unfold maxLen; omega)
  rw [hm] at h ⊢
  exact ⟨_, rfl, h, Nat.le_refl _, hA⟩
/-- Two owned slices have no block in common. -/
def DisQ (a b : Value) : Prop := ∀ g, a.ownBlock = some g → b.ownBlock ≠ some g
theorem DisQ.symm {a b : Value} (h : DisQ a b) : DisQ b a := fun g e f => h g f e
theorem DisQ.kept {a b : Value} {E : TypeId} {w U : World} {M : Nat} {zs : List Int} (h : DisQ a b) (ho : Own .u8 E w M a zs) (hG : w.grownBy U b.ownBlock) : Own .u8 E U M a zs := by
  refine World.ownsRow.kept ho hG ?_
  cases e : a.ownBlock with
  | none => exact .inl rfl
  | some g => exact .inr (fun f => h g e f.symm)
theorem own_in {a : Value} {E : TypeId} {w : World} {M : Nat} {zs : List Int} (ho : Own .u8 E w M a zs) {g : Nat} (e : a.ownBlock = some g) : g < w.heap.size := by
  rcases ho.2 with ⟨rfl, _⟩ | ⟨g', cap, cur, rfl, hb, hg, _⟩
  · cases e
  · have : g' = g := by simpa [Value.ownBlock] using e
    subst this
    exact (Array.getElem?_eq_some_iff.1 hg).1
theorem DisQ.grown {a b c : Value} {E : TypeId} {w : World} {M : Nat} {zs : List Int} (h : DisQ a b) (ho : Own .u8 E w M a zs) (hq : ∀ g, c.ownBlock = some g → b.ownBlock = some g ∨ w.heap.size ≤ g) : DisQ a c := by
  intro g e f
  rcases hq g f with h1 | h1
  · exact h g e h1
  · have := own_in ho e
    omega
theorem wdS_grown {B : Nat} {w U : World} {L : List Int} {v : Value} {M : Nat} {zs : List Int} (h : WdSt B w L) (ho : Own .u8 5 w M v zs) (hG : w.grownBy U v.ownBlock) : WdSt B U L := by
  obtain ⟨R, fr, h1, h2⟩ := h
  exact ⟨R, fr, held_grown h1 hG (own_ne ho h1 (by decide)), h2⟩
theorem below_kp {N : Nat} {w U : World} (h : Kp N [] w U) (hN : N = w.heap.size) : After w U := ⟨h.os, h.tape, h.output, h.size, fun k hk => h.block k (by omega) (by simp)⟩
theorem own_geb40 {k : IntKind} {E : TypeId} {W : World} {base g : Nat} {v : Value} {zs : List Int} (h : Own k E W base v zs) (e : v.ownBlock = some g) : base ≤ g := by
  rcases h.2 with ⟨rfl, _⟩ | ⟨g', cap, cur, rfl, hb, _⟩
  · cases e
  · have : g' = g := by simpa [Value.ownBlock] using e
    omega
set_option maxRecDepth 100000 in
set_option maxHeartbeats 16000000 in
theorem law_WindowQueue (a0 : Option Addr) (len0 cap0 : Nat) (x0 : List (List Value)) (W : World) (w0 : Els W 3 a0 len0 cap0 x0) (t0 : ∀ x ∈ x0, (∃ (c0 : Bool) (c1_a : Option Addr) (c1_l c1_c : Nat) (c1_z : List Int) (c2 : Int), x = [.bool c0, .slice c1_a c1_l c1_c, .int .i64 c2] ∧ (Sl .u8 W c1_a c1_l c1_c c1_z ∧ ∀ n ∈ c1_z, (Lit.int .u8 n).wf = true) ∧ ((Lit.int .i64 c2).wf = true))) :
    Calls Try.prog 4 #[.slice a0 len0 cap0] W fun e w' => e = .returned (.bool true) ∧ Below W.heap.size W w' := by
  have t1 := hid (show ∀ x ∈ x0, El39 W x from t0)
  have hxl := hid w0.1
  replace w0 := hid w0
  clear t0
  go_enter Try.func4, Try.ntmps4
  go_wp2_with fail
  refine (few_any a0 len0 cap0 x0 W W w0.out t1.out).mono ?_
  rintro e v ⟨b, rfl, hb, hv⟩
  obtain rfl : W = v := hv.symm
  clear hv
  cases b with
  | false =>
    clear hb
    go_wp2_with fail
    refine (knows39_any _).mono ?_
    rintro e V ⟨rfl, hst⟩
    replace hst := hid hst
    go_wp2_with fail
    go_ret
    exact ⟨rfl, hst.out⟩
  | true =>
    obtain ⟨c60, hb2⟩ := hb rfl
    replace hb2 := hid hb2
    clear hb
    go_wp2_with fail
    refine (knows39_any _).mono ?_
    rintro e V ⟨rfl, hA⟩
    have hB := hid hA
    have hsz := hA.size
    clear hA
    go_wp2_with fail
    refine (wnew_any _).mono ?_
    rintro e V1 ⟨rfl, hS, hA⟩
    obtain ⟨B, hBe⟩ : ∃ B, V.heap.size = B := ⟨_, rfl⟩
    rw [hBe] at hS hsz ⊢
    replace hB := hid (bthen hB.out hA)
    replace hS := hid hS
    clear hA hBe
    go_wp2_with fail
    go_loopw [4, 5, 6] (fun iv ov ix wr => ∃ (k il ol m : Nat) (ia : Option Addr) (ic : Nat) (oa : Option Addr) (oc : Nat) (I O L : List Int), ix = .int .i64 k ∧ iv = .slice ia il ic ∧ ov = .slice oa ol oc ∧ k ≤ len0 ∧ il ≤ 2000 * k ∧ L.length = m ∧ I = O ++ L ∧ Own .u8 5 wr W.heap.size (.slice ia il ic) I ∧ Own .u8 5 wr W.heap.size (.slice oa ol oc) O ∧ DisQ (.slice ia il ic) (.slice oa ol oc) ∧ WdSt B wr L ∧ Below W.heap.size W wr) (fun _ _ ix _ => len0 - (intOf ix).toNat)
    case atStart => exact ⟨0, 0, 0, 0, none, 0, none, 0, [], [], [], rfl, rfl, rfl, by omega, by omega, rfl, rfl, Own.nil _ _ _ _, Own.nil _ _ _ _, (fun g e => by cases e), hS.out, hB.out⟩
    case round =>
      obtain ⟨k, il, ol, m, ia, ic, oa, oc, I, O, L, rfl, rfl, rfl, hk, hil, hm, hI, hIn, hOut, hD, hS, hA⟩ := hrel
      have hm1 := wdS_len hS
      rw [hm] at hm1
      have hIl := hIn.slf.1
      have hOl := hOut.slf.1
      have hle := congrArg List.length hI
      rw [List.length_append, hm, hIl, hOl] at hle
      replace hI := hid hI
      replace hIl := hid hIl
      replace hOl := hid hOl
      replace hIn := hid hIn
      replace hOut := hid hOut
      replace hD := hid hD
      replace hS := hid hS
      replace hA := hid hA
      by_cases hlt : (k : Int) < len0
      case neg =>
        clear hm hm1 hle hil
        go_wp2_with fail
        go_ret
        exact ⟨rfl, hA.out⟩
      obtain ⟨x, gx⟩ : ∃ x, x0[k]? = some x := ⟨_, List.getElem?_eq_getElem (show k < x0.length by have := hxl.out; omega)⟩
      have h2k := hb2.out x (List.mem_of_getElem? gx)
      obtain ⟨c0, ca, cl, cc, cz, c2, rfl, ⟨hs, hw⟩, hi⟩ := t1.out x (List.mem_of_getElem? gx)
      obtain ⟨pb, off, e9, g0, g1, g2⟩ := w0.out.at3 gx
      cases e9
      try dsimp only at g0 g1 g2
      obtain ⟨hi1, hi2⟩ := i64_bd39 hi
      have hne := hid (fun (hp : 0 < cl) (p : Addr) (e : ca = some p) => show p.block ≠ B by have := sl_lt hs hp p e; omega)
      replace h2k : cl ≤ 2000 := h2k
      have G1 := hid (fun (U : World) (h : Below W.heap.size W U) => (Below.cell h (World.block_lt_of_cell? W _ g1)).trans g1)
      have G2 := hid (fun (U : World) (h : Below W.heap.size W U) => (Below.cell h (World.block_lt_of_cell? W _ g2)).trans g2)
      have G0 := hid (fun (U : World) (h : Below W.heap.size W U) => (Below.cell h (World.block_lt_of_cell? W _ g0)).trans g0)
      have hcc := hs.2.1
      replace hs := hid hs
      replace hw := hid hw
      have kz : (0 : Int) ≤ k := by omega
      have wk : IntKind.i64.wrap ((k : Int) + 1) = (k : Int) + 1 := by rw [IntKind.wrap_i64]; omega
      have hk1 := hid (show k + 1 ≤ len0 by omega)
      have hil2 : il ≤ 120000 := by omega
      replace hm := hid hm
      replace hle := hid hle
      clear hi gx hk g0 g1 g2
      replace hil := hid hil
      go_wp2_with fail
      refine (wpeek3 B _ L m hm.out hS.out).mono ?_
      rintro e v0 ⟨q, rfl, hsw, hqs, hA0⟩
      have hqB : q ≠ B := by have := hS.out.lt; omega
      replace hA := hid (bthen hA.out hA0)
      replace hIn := hid (hIn.out.below hA0)
      replace hOut := hid (hOut.out.below hA0)
      replace hS := hid (hS.out.after hA0)
      replace hsw := hid hsw
      have x0c := G0.out _ hA.out
      clear hA0 hqs
      cases c0 with
      | true =>
        have x2c := G2.out _ hA.out
        go_wp2_with fail
        refine (wdrop_any B c2 _ L hS.out hi1 hi2).mono ?_
        rintro e v1 ⟨rfl, hS1, hE1⟩
        rw [hm.out] at hS1 ⊢
        have hkm := goN_le c2 m
        obtain ⟨n1, hn1⟩ : ∃ z, goN c2 m = z := ⟨_, rfl⟩
        rw [hn1] at hS1 hkm ⊢
        have hA1 := hid (below_eff hA.out hE1 hsz hS.out.lt)
        have hIn1 := hid (own_eff39 hIn.out hS.out hE1)
        have hOut1 := hid (own_eff39 hOut.out hS.out hE1)
        have slw := hid ((sl_eff hsw.out hE1 (fun _ p e => by cases e; exact hqB)).take n1 hkm)
        replace hS1 := hid hS1
        have cH := cutHw (some ⟨q, 0, none⟩) m m n1 hkm
        have hsA := hA1.out.size
        have z1 : (0 : Int) ≤ n1 := by omega
        have z2 : ¬ (n1 : Int) < 0 := by omega
        have z3 : ¬ (m : Int) < n1 := by omega
        have z4 : (n1 : Int) ≤ m := by omega
        clear x0c x2c hA hIn hOut hS hE1 hn1 hsw
        go_wp2_with (at_builtin; go_loud (refine wpList_appK rfl (.tmp 47) (.tmp 50) 27 rfl W.heap.size 5 .u8 1 bytesOf _ O rfl hOut1.out (some ⟨q, 0, none⟩) n1 m (L.take n1) rfl slw.out (by rw [hOl.out]; have := hle.out; omega) (by decide) hsA ?_))
        intro b9 d9 Y hO9 hG hq9
        rw [hOl.out] at hO9 hq9
        try rw [hOl.out]
        have hA := hid (hOut1.out.grew hG hA1.out (Nat.le_refl _) hsA)
        have hIn := hid (hD.out.kept hIn1.out hG)
        have hDn := hid (hD.out.grown hIn1.out hq9)
        have hS := hid (wdS_grown hS1.out hOut1.out hG)
        obtain ⟨L2, hL2⟩ : ∃ z, L.drop n1 = z := ⟨_, rfl⟩
        obtain ⟨O2, hO2⟩ : ∃ z, O ++ L.take n1 = z := ⟨_, rfl⟩
        have hI2 := hid (show I = O2 ++ L2 by rw [← hO2, ← hL2, List.append_assoc, List.take_append_drop]; exact hI.out)
        have hl2 : L2.length = m - n1 := by rw [← hL2, List.length_drop, hm.out]
        rw [hO2] at hO9
        rw [hL2] at hS
        obtain ⟨m2, hm2⟩ : ∃ z, m - n1 = z := ⟨_, rfl⟩
        rw [hm2] at hl2
        obtain ⟨ol2, hol2⟩ : ∃ z, ol + n1 = z := ⟨_, rfl⟩
        rw [hol2] at hO9 hDn ⊢
        have hOut := hid hO9
        have hil3 := hid (show il ≤ 2000 * (k + 1) by have := hil.out; omega)
        have hm2b : m2 ≤ 1024 := by omega
        have hob : ol2 ≤ 130000 := by have := hle.out; omega
        clear hL2 hO2 hm2 hol2 hO9 hG hq9 hS1 hA1 hIn1 hOut1 slw cH z1 z2 z3 z4 hkm hsA
        replace hl2 := hid hl2
        obtain ⟨TX, hTX⟩ : ∃ z, textOf (O2 ++ L2) = z := ⟨_, rfl⟩
        replace hTX := hid hTX
        obtain ⟨rm, hrm⟩ : ∃ z, 1024 - m2 = z := ⟨_, rfl⟩
        have wsum : IntKind.i64.wrap ((m2 : Int) + (rm : Int)) = 1024 := by rw [IntKind.wrap_i64]; omega
        replace hrm := hid hrm
        have q1 : ¬ (1024 : Int) < m2 := by omega
        have q2 : decide ((1024 : Int) < (m2 : Int)) = false := decide_eq_false q1
        have q3 : ¬ 1024 < m2 := by omega
        have q4 : decide (1024 < m2) = false := decide_eq_false q3
        go_upto_region 18 with (fail)
        obtain ⟨QQ, hQQ⟩ : ∃ QQ, Y.drew = QQ := ⟨_, rfl⟩
        have hAQ : After Y QQ := by rw [← hQQ]; exact (Below.refl _ Y).drew
        have hSQ := hid (hS.out.after hAQ)
        have slo := hid (hOut.out.slf.below hAQ)
        have sli := hid (hIn.out.slf.below hAQ)
        have hol9 := hid hOut.out.slf.1
        have hB7 : After QQ QQ := Below.refl _ _
        refine wp_region_K (N := QQ.heap.size) (X := []) (by kernel_rfl) ?_
        rw [hQQ]
        refine wpAnyK_take 0 rfl (by kernel_rfl) (by kernel_rfl) (by kernel_rfl) (fun _ _ _ _ h => h) ⟨_, Or.inl ⟨by rfl, fun w2 hb => by (go_simp; try with_reducible rfl)⟩, _, by (go_simp; try rfl), ?_⟩
        refine wpAnyK_only 1 rfl (by kernel_rfl) (by rfl) (fun K hK => ?_)
        go_simp
        refine (wlen_any B _ L2 hSQ.out).mono ?_
        rintro e V5 ⟨rfl, hv⟩
        obtain rfl : QQ = V5 := hv.symm
        clear hv
        rw [hl2.out]
        go_simp
        refine hK _ _ ⟨Kp.refl _ _ _, ?_⟩
        clear hK
        refine wpAnyK_take 2 rfl (by kernel_rfl) (by kernel_rfl) (by kernel_rfl) (fun _ _ _ _ h => h) ⟨_, Or.inl ⟨by rfl, fun w2 hb => by (go_simp; try with_reducible rfl)⟩, _, by (go_simp; try rfl), ?_⟩
        refine wpAnyK_take 3 rfl (by kernel_rfl) (by kernel_rfl) (by kernel_rfl) (fun _ _ _ _ h => h) ⟨_, Or.inl ⟨by rfl, fun w2 hb => by (go_simp; try with_reducible rfl)⟩, _, by (go_simp; try rfl), ?_⟩
        refine wpAnyK_take 4 rfl (by kernel_rfl) (by kernel_rfl) (by kernel_rfl) (fun _ _ _ _ h => h) ⟨_, Or.inl ⟨by rfl, fun w2 hb => by (go_simp; try with_reducible rfl)⟩, _, by (go_simp; try rfl), ?_⟩
        refine wpAnyK_take 6 rfl (by kernel_rfl) (by kernel_rfl) (by kernel_rfl) (fun _ _ _ _ h => h) ⟨_, Or.inl ⟨by rfl, fun w2 hb => by (go_simp; try with_reducible rfl)⟩, _, by (go_simp; try rfl), ?_⟩
        refine wpAnyK_only 5 rfl (by kernel_rfl) (by rfl) (fun K hK => ?_)
        go_simp
        refine (wlen_any B _ L2 hSQ.out).mono ?_
        rintro e V5 ⟨rfl, hv⟩
        obtain rfl : QQ = V5 := hv.symm
        clear hv
        rw [hl2.out]
        go_simp
        refine hK _ _ ⟨Kp.refl _ _ _, ?_⟩
        clear hK
        refine wpAnyK_only 7 rfl (by kernel_rfl) (by rfl) (fun K hK => ?_)
        go_simp
        refine (wroom_any B _ L2 hSQ.out).mono ?_
        rintro e V5 ⟨rfl, hv⟩
        obtain rfl : QQ = V5 := hv.symm
        clear hv
        rw [hl2.out, hrm.out]
        go_simp
        refine hK _ _ ⟨Kp.refl _ _ _, ?_⟩
        clear hK
        refine wpAnyK_take 8 rfl (by kernel_rfl) (by kernel_rfl) (by kernel_rfl) (fun _ _ _ _ h => h) ⟨_, Or.inl ⟨by rfl, fun w2 hb => by (go_simp; try with_reducible rfl)⟩, _, by (go_simp; try rfl), ?_⟩
        refine wpAnyK_take 9 rfl (by kernel_rfl) (by kernel_rfl) (by kernel_rfl) (fun _ _ _ _ h => h) ⟨_, Or.inl ⟨by rfl, fun w2 hb => by (go_simp; try with_reducible rfl)⟩, _, by (go_simp; try rfl), ?_⟩
        refine wpAnyK_take 10 rfl (by kernel_rfl) (by kernel_rfl) (by kernel_rfl) (fun _ _ _ _ h => h) ⟨_, Or.inl ⟨by rfl, fun w2 hb => by (go_simp; try with_reducible rfl)⟩, _, by (go_simp; try rfl), ?_⟩
        refine wpAnyK_take 11 rfl (by kernel_rfl) (by kernel_rfl) (by kernel_rfl) (fun _ _ _ _ h => h) ⟨_, Or.inl ⟨by rfl, fun w2 hb => by (go_simp; try with_reducible rfl)⟩, _, by (go_simp; try rfl), ?_⟩
        refine wpAnyK_take 13 rfl (by kernel_rfl) (by kernel_rfl) (by kernel_rfl) (fun _ _ _ _ h => h) ⟨_, Or.inl ⟨by rfl, fun w2 hb => by (go_simp; try with_reducible rfl)⟩, _, by (go_simp; try rfl), ?_⟩
        refine wpAnyK_take 15 rfl (by kernel_rfl) (by kernel_rfl) (by kernel_rfl) (fun _ _ _ _ h => h) ⟨_, Or.inl ⟨by rfl, fun w2 hb => by (go_simp; try with_reducible rfl)⟩, _, by (go_simp; try rfl), ?_⟩
        refine wpAnyK_take 19 rfl (by kernel_rfl) (by kernel_rfl) (by kernel_rfl) (fun _ _ _ _ h => h) ⟨_, Or.inl ⟨by rfl, fun w2 hb => by (go_simp; try with_reducible rfl)⟩, _, by (go_simp; try rfl), ?_⟩
        refine wpAnyK_take 20 rfl (by kernel_rfl) (by kernel_rfl) (by kernel_rfl) (fun _ _ _ _ h => h) ⟨_, Or.inl ⟨by rfl, fun w2 hb => by (have hx := txt39 (sli.out.below (below_kp hb rfl)); rw [hI2.out, hTX.out] at hx; go_simp; try with_reducible rfl)⟩, _, by (go_simp; try rfl), ?_⟩
        refine wpAnyK_only 12 rfl (by kernel_rfl) (by rfl) (fun K hK => ?_)
        go_simp
        have nw := alloc_new QQ (.cells #[] 5)
        have kp := Kp.of (N := QQ.heap.size) (X := []) nw.2.1 (Nat.le_refl _)
        have own0 := Own.lit .u8 5 QQ [] QQ.heap.size (Nat.le_refl _) (by simp) #[] rfl
        clear hB7
        have hB7 := nw.2.1
        have slp := slo.out.below hB7
        clear nw
        refine hK _ _ ⟨kp, ?_⟩
        clear hK
        clear kp
        refine wpAnyK_only 14 rfl (by kernel_rfl) (by rfl) (fun K hK => ?_)
        refine wp_appK (.tmp 92) (.tmp 93) 27 rfl QQ.heap.size 5 .u8 1 bytesOf _ [] rfl own0 b9 ol2 d9 O2 rfl slp (by first | (simp <;> omega) | (rw [List.length_nil]; omega)) (by decide) hB7.size ?_
        intro b14 d14 Y14 hO14 hG hq9
        have kp := kp_grown39 (N := QQ.heap.size) (X := []) hG hB7.size (fun k e => own_geb39 own0 e)
        have hB8 := own0.grew hG hB7 (Nat.le_refl _) hB7.size
        clear hq9 hB7 hG own0
        have hB7 := hB8
        clear hB8
        have own5 : Own .u8 5 Y14 QQ.heap.size (.slice b14 ol2 d14) O2 := by first | exact hO14 | (have := hO14; rwa [List.nil_append, show ([] : List Int).length + ol2 = ol2 from Nat.zero_add _] at this)
        clear hO14 slp
        try rw [show ([] : List Int).length + ol2 = ol2 from Nat.zero_add _]
        refine hK _ _ ⟨kp, ?_⟩
        clear hK
        clear kp
        refine wpAnyK_only 16 rfl (by kernel_rfl) (by rfl) (fun K hK => ?_)
        go_simp
        refine (wpeek3 B _ L2 m2 hl2.out (hSQ.out.after hB7)).mono ?_
        rintro e V6 ⟨pq, rfl, hsp, -, hA6⟩
        have kp := Kp.of (N := QQ.heap.size) (X := []) hA6 hB7.size
        replace own5 := own5.below hA6
        have hB8 := bthen hB7 hA6
        clear hB7 hA6
        have hB7 := hB8
        clear hB8
        go_simp
        refine hK _ _ ⟨kp, ?_⟩
        clear hK
        clear kp
        refine wpAnyK_only 17 rfl (by kernel_rfl) (by rfl) (fun K hK => ?_)
        refine wp_appK (.tmp 94) (.tmp 96) 27 rfl QQ.heap.size 5 .u8 1 bytesOf _ O2 rfl own5 (some ⟨pq, 0, none⟩) m2 m2 L2 rfl hsp (by rw [hol9.out]; omega) (by decide) hB7.size ?_
        intro b17 d17 Y17 hO17 hG hq9
        have kp := kp_grown39 (N := QQ.heap.size) (X := []) hG hB7.size (fun k e => own_geb39 own5 e)
        have hB8 := own5.grew hG hB7 (Nat.le_refl _) hB7.size
        clear hq9 hB7 hG own5
        have hB7 := hB8
        clear hB8
        rw [hol9.out] at hO17
        try rw [hol9.out]
        have own7 := hO17
        clear hO17 hsp
        refine hK _ _ ⟨kp, ?_⟩
        clear hK
        clear kp
        refine wpAnyK_only 18 rfl (by kernel_rfl) (by rfl) (fun K hK => ?_)
        have hx := txt39 own7.slf
        rw [hTX.out] at hx
        go_simp
        refine hK _ _ ⟨Kp.refl _ _ _, ?_⟩
        clear hK
        clear hx
        refine wpAnyK_take 21 rfl (by kernel_rfl) (by kernel_rfl) (by kernel_rfl) (fun _ _ _ _ h => h) ⟨_, Or.inl ⟨by rfl, fun w2 hb => by (go_simp; try with_reducible rfl)⟩, _, by (go_simp; try rfl), ?_⟩
        refine wpAnyK_take 22 rfl (by kernel_rfl) (by kernel_rfl) (by kernel_rfl) (fun _ _ _ _ h => h) ⟨_, Or.inl ⟨by rfl, fun w2 hb => by (go_simp; try with_reducible rfl)⟩, _, by (go_simp; try rfl), ?_⟩
        refine wpAnyK_done (by kernel_rfl) ?_ _
        have hAy := hid (bthen hAQ hB7)
        clear own7 hB7 hAQ hSQ slo sli
        have hSr := hid (hS.out.after hAy.out)
        have hIr := hid (hIn.out.below hAy.out)
        have hOr := hid (hOut.out.below hAy.out)
        have hAr := hid (bthen hA.out hAy.out)
        clear hS hIn hOut hA hAy hQQ
        go_wp2_with fail
        go_roundw
        case rel => exact ⟨k + 1, il, ol2, m2, ia, ic, b9, d9, I, O2, L2, by simp, rfl, rfl, hk1.out, hil3.out, hl2.out, hI2.out, hIr.out, hOr.out, hDn.out, hSr.out, hAr.out⟩
        case measure => simp [intOf]; omega
      | false =>
        have x1c := G1.out _ hA.out
        go_wp2_with fail
        refine (wput_any B ca cl cc cz _ L hS.out (hs.out.below hA.out) hne.out hw.out).mono ?_
        rintro e v1 ⟨rfl, hS1, hE1⟩
        rw [hm.out] at hS1 ⊢
        obtain ⟨n1, hn1⟩ : ∃ z, min cl (1024 - m) = z := ⟨_, rfl⟩
        rw [hn1] at hS1 ⊢
        have hkm : n1 ≤ cl := by omega
        have hA1 := hid (below_eff hA.out hE1 hsz hS.out.lt)
        have hIn1 := hid (own_eff39 hIn.out hS.out hE1)
        have hOut1 := hid (own_eff39 hOut.out hS.out hE1)
        have slw := hid ((hs.out.below hA1.out).take n1 hkm)
        replace hS1 := hid hS1
        have x1d := G1.out _ hA1.out
        have cH := cutHw ca cl cc n1 (by omega)
        have hsA := hA1.out.size
        have z1 : (0 : Int) ≤ n1 := by omega
        have z2 : ¬ (n1 : Int) < 0 := by omega
        have z3 : ¬ (cl : Int) < n1 := by omega
        have z4 : (n1 : Int) ≤ cl := by omega
        have hmn : m + n1 ≤ 1024 := by omega
        clear x0c x1c hA hIn hOut hS hE1 hn1 hsw
        go_wp2_with (at_builtin; go_loud (refine wpList_appK rfl (.tmp 71) (.tmp 78) 27 rfl W.heap.size 5 .u8 1 bytesOf _ I rfl hIn1.out ca n1 cc (cz.take n1) rfl slw.out (by rw [hIl.out]; omega) (by decide) hsA ?_))
        intro b9 d9 Y hO9 hG hq9
        rw [hIl.out] at hO9 hq9
        try rw [hIl.out]
        have hA := hid (hIn1.out.grew hG hA1.out (Nat.le_refl _) hsA)
        have hOut := hid (hD.out.symm.kept hOut1.out hG)
        have hDn := hid (hD.out.symm.grown hOut1.out hq9).symm
        have hS := hid (wdS_grown hS1.out hIn1.out hG)
        obtain ⟨L2, hL2⟩ : ∃ z, L ++ cz.take n1 = z := ⟨_, rfl⟩
        obtain ⟨I2, hI2e⟩ : ∃ z, I ++ cz.take n1 = z := ⟨_, rfl⟩
        have hI2 := hid (show I2 = O ++ L2 by rw [← hI2e, ← hL2, hI.out, List.append_assoc])
        have hl2 : L2.length = m + n1 := by rw [← hL2, List.length_append, List.length_take, hm.out, hs.out.1]; omega
        rw [hI2e] at hO9
        rw [hL2] at hS
        obtain ⟨m2, hm2⟩ : ∃ z, m + n1 = z := ⟨_, rfl⟩
        rw [hm2] at hl2
        obtain ⟨il2, hil2e⟩ : ∃ z, il + n1 = z := ⟨_, rfl⟩
        rw [hil2e] at hO9 hDn ⊢
        have hIn := hid hO9
        have hil3 := hid (show il2 ≤ 2000 * (k + 1) by have := hil.out; omega)
        have hm2b : m2 ≤ 1024 := by omega
        have hob : ol ≤ 130000 := by have := hle.out; omega
        clear hL2 hI2e hm2 hil2e hO9 hG hq9 hS1 hA1 hIn1 hOut1 slw cH z1 z2 z3 z4 hkm hsA x1d hmn
        replace hl2 := hid hl2
        obtain ⟨TX, hTX⟩ : ∃ z, textOf (O ++ L2) = z := ⟨_, rfl⟩
        replace hTX := hid hTX
        obtain ⟨rm, hrm⟩ : ∃ z, 1024 - m2 = z := ⟨_, rfl⟩
        have wsum : IntKind.i64.wrap ((m2 : Int) + (rm : Int)) = 1024 := by rw [IntKind.wrap_i64]; omega
        replace hrm := hid hrm
        have q1 : ¬ (1024 : Int) < m2 := by omega
        have q2 : decide ((1024 : Int) < (m2 : Int)) = false := decide_eq_false q1
        have q3 : ¬ 1024 < m2 := by omega
        have q4 : decide (1024 < m2) = false := decide_eq_false q3
        go_upto_region 18 with (fail)
        obtain ⟨QQ, hQQ⟩ : ∃ QQ, Y.drew = QQ := ⟨_, rfl⟩
        have hAQ : After Y QQ := by rw [← hQQ]; exact (Below.refl _ Y).drew
        have hSQ := hid (hS.out.after hAQ)
        have slo := hid (hOut.out.slf.below hAQ)
        have sli := hid (hIn.out.slf.below hAQ)
        have hol9 := hid hOut.out.slf.1
        have hB7 : After QQ QQ := Below.refl _ _
        refine wp_region_K (N := QQ.heap.size) (X := []) (by kernel_rfl) ?_
        rw [hQQ]
        refine wpAnyK_take 0 rfl (by kernel_rfl) (by kernel_rfl) (by kernel_rfl) (fun _ _ _ _ h => h) ⟨_, Or.inl ⟨by rfl, fun w2 hb => by (go_simp; try with_reducible rfl)⟩, _, by (go_simp; try rfl), ?_⟩
        refine wpAnyK_only 1 rfl (by kernel_rfl) (by rfl) (fun K hK => ?_)
        go_simp
        refine (wlen_any B _ L2 hSQ.out).mono ?_
        rintro e V5 ⟨rfl, hv⟩
        obtain rfl : QQ = V5 := hv.symm
        clear hv
        rw [hl2.out]
        go_simp
        refine hK _ _ ⟨Kp.refl _ _ _, ?_⟩
        clear hK
        refine wpAnyK_take 2 rfl (by kernel_rfl) (by kernel_rfl) (by kernel_rfl) (fun _ _ _ _ h => h) ⟨_, Or.inl ⟨by rfl, fun w2 hb => by (go_simp; try with_reducible rfl)⟩, _, by (go_simp; try rfl), ?_⟩
        refine wpAnyK_take 3 rfl (by kernel_rfl) (by kernel_rfl) (by kernel_rfl) (fun _ _ _ _ h => h) ⟨_, Or.inl ⟨by rfl, fun w2 hb => by (go_simp; try with_reducible rfl)⟩, _, by (go_simp; try rfl), ?_⟩
        refine wpAnyK_take 4 rfl (by kernel_rfl) (by kernel_rfl) (by kernel_rfl) (fun _ _ _ _ h => h) ⟨_, Or.inl ⟨by rfl, fun w2 hb => by (go_simp; try with_reducible rfl)⟩, _, by (go_simp; try rfl), ?_⟩
        refine wpAnyK_take 6 rfl (by kernel_rfl) (by kernel_rfl) (by kernel_rfl) (fun _ _ _ _ h => h) ⟨_, Or.inl ⟨by rfl, fun w2 hb => by (go_simp; try with_reducible rfl)⟩, _, by (go_simp; try rfl), ?_⟩
        refine wpAnyK_only 5 rfl (by kernel_rfl) (by rfl) (fun K hK => ?_)
        go_simp
        refine (wlen_any B _ L2 hSQ.out).mono ?_
        rintro e V5 ⟨rfl, hv⟩
        obtain rfl : QQ = V5 := hv.symm
        clear hv
        rw [hl2.out]
        go_simp
        refine hK _ _ ⟨Kp.refl _ _ _, ?_⟩
        clear hK
        refine wpAnyK_only 7 rfl (by kernel_rfl) (by rfl) (fun K hK => ?_)
        go_simp
        refine (wroom_any B _ L2 hSQ.out).mono ?_
        rintro e V5 ⟨rfl, hv⟩
        obtain rfl : QQ = V5 := hv.symm
        clear hv
        rw [hl2.out, hrm.out]
        go_simp
        refine hK _ _ ⟨Kp.refl _ _ _, ?_⟩
        clear hK
        refine wpAnyK_take 8 rfl (by kernel_rfl) (by kernel_rfl) (by kernel_rfl) (fun _ _ _ _ h => h) ⟨_, Or.inl ⟨by rfl, fun w2 hb => by (go_simp; try with_reducible rfl)⟩, _, by (go_simp; try rfl), ?_⟩
        refine wpAnyK_take 9 rfl (by kernel_rfl) (by kernel_rfl) (by kernel_rfl) (fun _ _ _ _ h => h) ⟨_, Or.inl ⟨by rfl, fun w2 hb => by (go_simp; try with_reducible rfl)⟩, _, by (go_simp; try rfl), ?_⟩
        refine wpAnyK_take 10 rfl (by kernel_rfl) (by kernel_rfl) (by kernel_rfl) (fun _ _ _ _ h => h) ⟨_, Or.inl ⟨by rfl, fun w2 hb => by (go_simp; try with_reducible rfl)⟩, _, by (go_simp; try rfl), ?_⟩
        refine wpAnyK_take 11 rfl (by kernel_rfl) (by kernel_rfl) (by kernel_rfl) (fun _ _ _ _ h => h) ⟨_, Or.inl ⟨by rfl, fun w2 hb => by (go_simp; try with_reducible rfl)⟩, _, by (go_simp; try rfl), ?_⟩
        refine wpAnyK_take 13 rfl (by kernel_rfl) (by kernel_rfl) (by kernel_rfl) (fun _ _ _ _ h => h) ⟨_, Or.inl ⟨by rfl, fun w2 hb => by (go_simp; try with_reducible rfl)⟩, _, by (go_simp; try rfl), ?_⟩
        refine wpAnyK_take 15 rfl (by kernel_rfl) (by kernel_rfl) (by kernel_rfl) (fun _ _ _ _ h => h) ⟨_, Or.inl ⟨by rfl, fun w2 hb => by (go_simp; try with_reducible rfl)⟩, _, by (go_simp; try rfl), ?_⟩
        refine wpAnyK_take 19 rfl (by kernel_rfl) (by kernel_rfl) (by kernel_rfl) (fun _ _ _ _ h => h) ⟨_, Or.inl ⟨by rfl, fun w2 hb => by (go_simp; try with_reducible rfl)⟩, _, by (go_simp; try rfl), ?_⟩
        refine wpAnyK_take 20 rfl (by kernel_rfl) (by kernel_rfl) (by kernel_rfl) (fun _ _ _ _ h => h) ⟨_, Or.inl ⟨by rfl, fun w2 hb => by (have hx := txt39 (sli.out.below (below_kp hb rfl)); rw [hI2.out, hTX.out] at hx; go_simp; try with_reducible rfl)⟩, _, by (go_simp; try rfl), ?_⟩
        refine wpAnyK_only 12 rfl (by kernel_rfl) (by rfl) (fun K hK => ?_)
        go_simp
        have nw := alloc_new QQ (.cells #[] 5)
        have kp := Kp.of (N := QQ.heap.size) (X := []) nw.2.1 (Nat.le_refl _)
        have own0 := Own.lit .u8 5 QQ [] QQ.heap.size (Nat.le_refl _) (by simp) #[] rfl
        clear hB7
        have hB7 := nw.2.1
        have slp := slo.out.below hB7
        clear nw
        refine hK _ _ ⟨kp, ?_⟩
        clear hK
        clear kp
        refine wpAnyK_only 14 rfl (by kernel_rfl) (by rfl) (fun K hK => ?_)
        refine wp_appK (.tmp 92) (.tmp 93) 27 rfl QQ.heap.size 5 .u8 1 bytesOf _ [] rfl own0 oa ol oc O rfl slp (by first | (simp <;> omega) | (rw [List.length_nil]; omega)) (by decide) hB7.size ?_
        intro b14 d14 Y14 hO14 hG hq9
        have kp := kp_grown39 (N := QQ.heap.size) (X := []) hG hB7.size (fun k e => own_geb39 own0 e)
        have hB8 := own0.grew hG hB7 (Nat.le_refl _) hB7.size
        clear hq9 hB7 hG own0
        have hB7 := hB8
        clear hB8
        have own5 : Own .u8 5 Y14 QQ.heap.size (.slice b14 ol d14) O := by first | exact hO14 | (have := hO14; rwa [List.nil_append, show ([] : List Int).length + ol = ol from Nat.zero_add _] at this)
        clear hO14 slp
        try rw [show ([] : List Int).length + ol = ol from Nat.zero_add _]
        refine hK _ _ ⟨kp, ?_⟩
        clear hK
        clear kp
        refine wpAnyK_only 16 rfl (by kernel_rfl) (by rfl) (fun K hK => ?_)
        go_simp
        refine (wpeek3 B _ L2 m2 hl2.out (hSQ.out.after hB7)).mono ?_
        rintro e V6 ⟨pq, rfl, hsp, -, hA6⟩
        have kp := Kp.of (N := QQ.heap.size) (X := []) hA6 hB7.size
        replace own5 := own5.below hA6
        have hB8 := bthen hB7 hA6
        clear hB7 hA6
        have hB7 := hB8
        clear hB8
        go_simp
        refine hK _ _ ⟨kp, ?_⟩
        clear hK
        clear kp
        refine wpAnyK_only 17 rfl (by kernel_rfl) (by rfl) (fun K hK => ?_)
        refine wp_appK (.tmp 94) (.tmp 96) 27 rfl QQ.heap.size 5 .u8 1 bytesOf _ O rfl own5 (some ⟨pq, 0, none⟩) m2 m2 L2 rfl hsp (by rw [hol9.out]; omega) (by decide) hB7.size ?_
        intro b17 d17 Y17 hO17 hG hq9
        have kp := kp_grown39 (N := QQ.heap.size) (X := []) hG hB7.size (fun k e => own_geb39 own5 e)
        have hB8 := own5.grew hG hB7 (Nat.le_refl _) hB7.size
        clear hq9 hB7 hG own5
        have hB7 := hB8
        clear hB8
        rw [hol9.out] at hO17
        try rw [hol9.out]
        have own7 := hO17
        clear hO17 hsp
        refine hK _ _ ⟨kp, ?_⟩
        clear hK
        clear kp
        refine wpAnyK_only 18 rfl (by kernel_rfl) (by rfl) (fun K hK => ?_)
        have hx := txt39 own7.slf
        rw [hTX.out] at hx
        go_simp
        refine hK _ _ ⟨Kp.refl _ _ _, ?_⟩
        clear hK
        clear hx
        refine wpAnyK_take 21 rfl (by kernel_rfl) (by kernel_rfl) (by kernel_rfl) (fun _ _ _ _ h => h) ⟨_, Or.inl ⟨by rfl, fun w2 hb => by (go_simp; try with_reducible rfl)⟩, _, by (go_simp; try rfl), ?_⟩
        refine wpAnyK_take 22 rfl (by kernel_rfl) (by kernel_rfl) (by kernel_rfl) (fun _ _ _ _ h => h) ⟨_, Or.inl ⟨by rfl, fun w2 hb => by (go_simp; try with_reducible rfl)⟩, _, by (go_simp; try rfl), ?_⟩
        refine wpAnyK_done (by kernel_rfl) ?_ _
        have hAy := hid (bthen hAQ hB7)
        clear own7 hB7 hAQ hSQ slo sli
        have hSr := hid (hS.out.after hAy.out)
        have hIr := hid (hIn.out.below hAy.out)
        have hOr := hid (hOut.out.below hAy.out)
        have hAr := hid (bthen hA.out hAy.out)
        clear hS hIn hOut hA hAy hQQ
        go_wp2_with fail
        go_roundw
        case rel => exact ⟨k + 1, il2, ol, m2, b9, d9, oa, oc, I2, O, L2, by simp, rfl, rfl, hk1.out, hil3.out, hl2.out, hI2.out, hIr.out, hOr.out, hDn.out, hSr.out, hAr.out⟩
        case measure => simp [intOf]; omega

end Go.Proofs.Ytaladglmomhndaa
