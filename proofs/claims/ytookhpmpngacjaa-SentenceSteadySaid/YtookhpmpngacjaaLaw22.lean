/- Laws of package sentence: Puts. -/
import Derived.Test.YtookhpmpngacjaaSen8
import Derived.Test.YtookhpmpngacjaaSen9
import Derived.Test.YtookhpmpngacjaaSenB
import Derived.Deep.DeepCutAuto
namespace Go.Proofs.Ytookhpmpngacjaa
open Go.ChangeShapes Go.WideShapes Go.ChangeAt Go.RowKit
set_option linter.unusedVariables false
set_option linter.unusedSimpArgs false

theorem num22_any (n : Int) (w : World) (h1 : -9223372036854775808 ≤ n) (h2 : n ≤ 9223372036854775807) : Calls Try.prog 11 #[.int .i64 n] w fun e w' => e = .returned (.int .i64 n) ∧ w' = w := by
  have w1 : IntKind.i64.wrap n = n := by rw [IntKind.wrap_i64]; omega
  go_enter Try.func11, Try.ntmps11
  go_wp2_with fail
  go_ret
  exact ⟨rfl, rfl⟩
theorem num22_aft (n : Int) (w : World) (h1 : -9223372036854775808 ≤ n) (h2 : n ≤ 9223372036854775807) : Calls Try.prog 11 #[.int .i64 n] w fun e w' => e = .returned (.int .i64 n) ∧ After w w' :=
  (num22_any n w h1 h2).mono fun _ _ h => ⟨h.1, by rw [h.2]; exact Below.refl _ _⟩
theorem els_strs : ∀ {xs : List (List Value)}, (∀ x ∈ xs, (∃ (c0 : ByteArray), x = [.string c0] ∧ (c0.size ≤ maxLen))) → ∃ F : List ByteArray, xs = strV F ∧ ∀ f ∈ F, f.size ≤ maxLen
  | [], _ => ⟨[], rfl, fun z hz => by cases hz⟩
  | y :: xs, h => by
    obtain ⟨c, rfl, hc⟩ := h y (by simp)
    obtain ⟨F, rfl, hF⟩ := els_strs (xs := xs) (fun z hz => h z (List.mem_cons_of_mem _ hz))
    refine ⟨c :: F, rfl, fun z hz => ?_⟩
    rcases List.mem_cons.1 hz with rfl | hz
    · exact hc
    · exact hF z hz
theorem know22 : putN ⟨#[71, 80]⟩ ⟨#[71, 76, 76]⟩ [] = (⟨#[36, 71, 80, 71, 76, 76, 42, 53, 48, 13, 10]⟩, 0) := by decide +kernel
theorem sizeF_mem : ∀ {F : List ByteArray} {f : ByteArray}, f ∈ F → f.size + 1 ≤ sizeF F
  | g :: gs, f, h => by
    show f.size + 1 ≤ 1 + g.size + sizeF gs
    rcases List.mem_cons.1 h with rfl | h
    · omega
    · have := sizeF_mem h; omega
theorem sizeF_len : ∀ F : List ByteArray, F.length ≤ sizeF F
  | [] => Nat.le_refl _
  | g :: gs => by
    show gs.length + 1 ≤ 1 + g.size + sizeF gs
    have := sizeF_len gs; omega
theorem snt_eq {a b a2 b2 : ByteArray} {l l2 : List ByteArray} {n n2 : Nat} {e e2 : Int} (h : (((a, b, l), n, e) : Snt × Nat × Int) = ((a2, b2, l2), n2, e2)) : a = a2 ∧ b = b2 ∧ l = l2 ∧ n = n2 ∧ e = e2 := by
  cases h; exact ⟨rfl, rfl, rfl, rfl, rfl⟩
theorem tk_few {t : ByteArray} {x y : ByteArray} {l : List ByteArray} {n : Nat} {e : Int} (h : takeN t = ((x, y, l), n, e)) : l.length ≤ 100 ∧ x.size ≤ 100 ∧ y.size ≤ 100 ∧ ∀ f ∈ l, f.size ≤ 100 := by
  by_cases he : e = 0
  · subst he
    obtain ⟨u, h1, _⟩ := take_put h
    obtain ⟨p1, p2, p3, _⟩ := putN_inv h1
    have a := (signsS_is.1 p1.1).1
    have b := (signsS_is.1 p1.2).1
    have c := sizeF_len l
    try dsimp only at a b p3
    exact ⟨by omega, by omega, by omega, fun f hf => by have := sizeF_mem hf; (try dsimp only at this); omega⟩
  · have := (takeN_bad (t := t) (by rw [h]; exact he)).1
    rw [h] at this
    unfold noS at this
    simp only [Prod.mk.injEq] at this
    obtain ⟨rfl, rfl, rfl⟩ := this
    exact ⟨by simp, by decide, by decide, fun f hf => by cases hf⟩
set_option maxRecDepth 100000 in
set_option maxHeartbeats 4000000 in
theorem knows22_any (w : World) : Calls Try.prog 8 #[] w fun e w' => e = .returned (.bool true) ∧ Below w.heap.size w w' := by
  have kP := fun U => spt_any ⟨#[71, 80]⟩ ⟨#[71, 76, 76]⟩ none 0 0 [] U rfl (Els.nil _ _) (by decide) (by decide) (fun f hf => by cases hf) (by omega)
  rw [know22] at kP
  dsimp only at kP
  replace kP := hid kP
  go_enter Try.func8, Try.ntmps8
  go_wp2_with fail
  refine (kP.out _).mono ?_
  rintro e V1 ⟨rfl, hA⟩
  replace hA := hid hA
  go_wp2_with fail
  refine (num22_any 0 _ (by omega) (by omega)).mono ?_
  rintro e V ⟨rfl, hv⟩
  obtain rfl : V1 = V := hv.symm
  clear hv
  go_wp2_with fail
  go_ret
  exact ⟨rfl, hA.out⟩
set_option maxRecDepth 100000 in
set_option maxHeartbeats 8000000 in
theorem law_SentencePuts (a0_0 : ByteArray) (a0_1 : ByteArray) (a0_2 : Option Addr) (len0_2 cap0_2 : Nat) (x0_2 : List (List Value)) (W : World) (w0_0 : a0_0.size ≤ maxLen) (w0_1 : a0_1.size ≤ maxLen) (w0_2 : Els W 1 a0_2 len0_2 cap0_2 x0_2) (t0_2 : ∀ x ∈ x0_2, (∃ (c0 : ByteArray), x = [.string c0] ∧ (c0.size ≤ maxLen))) :
    Calls Try.prog 3 #[.agg #[.string a0_0, .string a0_1, .slice a0_2 len0_2 cap0_2]] W fun e w' => e = .returned (.bool true) ∧ Below W.heap.size W w' := by
  obtain ⟨F, rfl, hFm⟩ := els_strs t0_2
  obtain ⟨n, hn⟩ : ∃ n, F.length = n := ⟨_, rfl⟩
  obtain rfl : n = len0_2 := by have := w0_2.1; rw [strV_len] at this; omega
  have hE := hid w0_2
  have hT := hid w0_0
  have hK := hid w0_1
  clear w0_2 w0_0 w0_1 t0_2
  replace hFm := hid hFm
  replace hn := hid hn
  have hB := hid (Below.refl W.heap.size W)
  go_enter Try.func3, Try.ntmps3
  have nw := alloc_new W (.cells #[.string a0_0, .string a0_1, .slice a0_2 n cap0_2] 24)
  have hA := nw.2.1
  have rb := nw.2.2
  clear nw
  go_upto_region 1 with (fail)
  obtain ⟨V1, hV1⟩ : ∃ X, W.alloc (.cells #[.string a0_0, .string a0_1, .slice a0_2 n cap0_2] 24) = X := ⟨_, rfl⟩
  rw [hV1] at hA rb ⊢
  obtain ⟨pb, hpb⟩ : ∃ X, W.heap.size = X := ⟨_, rfl⟩
  rw [hpb] at rb ⊢
  replace hV1 := hid hV1
  replace hpb := hid hpb
  replace hE := hid (hE.out.below hA)
  replace hB := hid (bthen hB.out hA)
  clear hA
  replace rb := hid rb
  have z0 := held_cell rb.out 0 _ rfl
  have z1 := held_cell rb.out 1 _ rfl
  have z2 := held_cell rb.out 2 _ rfl
  go_wp2_with fail
  refine (few_any a0_0 a0_1 a0_2 n cap0_2 F _ hn.out hE.out hT.out hK.out hFm.out).mono ?_
  rintro e V2 ⟨b, rfl, hb, hA⟩
  clear z0 z1 z2
  replace hE := hid (hE.out.below hA)
  replace rb := hid (held_after hA rb.out)
  replace hB := hid (bthen hB.out hA)
  clear hA
  have z0 := held_cell rb.out 0 _ rfl
  have z1 := held_cell rb.out 1 _ rfl
  have z2 := held_cell rb.out 2 _ rfl
  cases b
  case false =>
    clear hb
    go_wp2_with fail
    refine (knows22_any _).mono ?_
    rintro e V9 ⟨rfl, hA⟩
    have hB9 := hid (bthen hB.out hA)
    clear hA
    go_wp2_with fail
    go_ret
    exact ⟨rfl, hB9.out⟩
  obtain ⟨b1, b2, b3, b4⟩ := hb rfl
  clear hb
  have hF5 := hid (fun f hf => Nat.le_trans (b4 f hf) (show 500 ≤ 1000 by omega))
  clear b4
  go_wp2_with fail
  refine (knows22_any _).mono ?_
  rintro e V3 ⟨rfl, hA⟩
  clear z0 z1 z2
  replace hE := hid (hE.out.below hA)
  replace rb := hid (held_after hA rb.out)
  replace hB := hid (bthen hB.out hA)
  clear hA
  have z0 := held_cell rb.out 0 _ rfl
  have z1 := held_cell rb.out 1 _ rfl
  have z2 := held_cell rb.out 2 _ rfl
  have pe := putN_e a0_0 a0_1 F
  have k1 := fun U h => spt_any a0_0 a0_1 a0_2 n cap0_2 F U hn.out h (by omega) (by omega) hF5.out (by omega)
  have k2 := fun U h => rspt_any a0_0 a0_1 a0_2 n cap0_2 F U hn.out h (by omega) (by omega) hF5.out (by omega)
  obtain ⟨⟨t, e0⟩, hp⟩ : ∃ r, putN a0_0 a0_1 F = r := ⟨_, rfl⟩
  rw [hp] at pe k1 k2
  dsimp only at pe k1 k2
  replace k1 := hid k1
  replace k2 := hid k2
  clear hp
  go_wp2_with fail
  refine (k1.out _ hE.out).mono ?_
  rintro e V4 ⟨rfl, hA⟩
  clear z0 z1 z2
  replace hE := hid (hE.out.below hA)
  replace rb := hid (held_after hA rb.out)
  replace hB := hid (bthen hB.out hA)
  clear hA
  have z0 := held_cell rb.out 0 _ rfl
  have z1 := held_cell rb.out 1 _ rfl
  have z2 := held_cell rb.out 2 _ rfl
  go_wp2_with fail
  refine (k2.out _ hE.out).mono ?_
  rintro e V5 ⟨rfl, hA⟩
  clear z0 z1 z2
  replace hE := hid (hE.out.below hA)
  replace rb := hid (held_after hA rb.out)
  replace hB := hid (bthen hB.out hA)
  clear hA
  have z0 := held_cell rb.out 0 _ rfl
  have z1 := held_cell rb.out 1 _ rfl
  have z2 := held_cell rb.out 2 _ rfl
  go_wp2_with fail
  refine (num22_any e0 _ (by omega) (by omega)).mono ?_
  rintro e V ⟨rfl, hv⟩
  obtain rfl : V5 = V := hv.symm
  clear hv
  go_wp2_with fail
  refine (num22_any e0 _ (by omega) (by omega)).mono ?_
  rintro e V ⟨rfl, hv⟩
  obtain rfl : V5 = V := hv.symm
  clear hv
  go_wp2_with fail
  go_ret
  exact ⟨ret_bool (by simp), hB.out⟩


end Go.Proofs.Ytookhpmpngacjaa
