/- The laws of layer 35: knows, BlockTakes. -/
import Derived.Test.YtmfhniekcbadlaaBlk11
import Derived.Test.YtmfhniekcbadlaaBlk12
import Derived.Test.YtmfhniekcbadlaaEls
import Derived.Deep.DeepCutAuto
namespace Go.Proofs.Ytmfhniekcbadlaa
open Go.ChangeShapes Go.WideShapes Go.ChangeAt Go.RowKit
set_option linter.unusedVariables false
set_option linter.unusedSimpArgs false

theorem txt35 {w : World} {a : Option Addr} {len cap : Nat} {zs : List Int} (h : Sl .u8 w a len cap zs) : (convert 30 9 (.slice a len cap)).run Try.prog w = .ok (.string (textOf zs)) w :=
  h.text 30 9 5 Try.underlying30 Try.underlying5 Try.underlying9
theorem num35_any (n : Int) (w : World) (h1 : -9223372036854775808 ≤ n) (h2 : n ≤ 9223372036854775807) :
    Calls Try.prog 12 #[.int .i64 n] w fun e w' => e = .returned (.int .i64 n) ∧ w' = w := by
  go_enter Try.func12, Try.ntmps12
  go_wp2_with fail
  go_ret
  exact ⟨rfl, rfl⟩
theorem u32_bd35 {x : Int} (h : (Lit.int .u32 x).wf = true) : 0 ≤ x ∧ x ≤ 4294967295 := by
  have h3 : IntKind.u32.min = 0 := rfl
  have h4 : IntKind.u32.max = 4294967295 := rfl
  simp [Lit.wf, h3, h4] at h; exact h
theorem i32_bd35 {x : Int} (h : (Lit.int .i32 x).wf = true) : -2147483648 ≤ x ∧ x ≤ 2147483647 := by
  have h3 : IntKind.i32.min = -2147483648 := rfl
  have h4 : IntKind.i32.max = 2147483647 := rfl
  simp [Lit.wf, h3, h4] at h; exact h
theorem after_eq {a b : World} (h : b = a) : After a b := by rw [h]; exact Below.refl _ _
theorem els_ents : ∀ {xs : List (List Value)}, (∀ x ∈ xs, (∃ (c0 : Bool) (c1 : Int) (c2 : Int) (c3 : Int) (c4 : Int) (c5 : Int) (c6 : Int) (c7 : Int) (c8 : Int) (c9 : Int) (c10 : Int) (c11 : Int) (c12 : Int) (c13 : Int), x = [.bool c0, .int .u32 c1, .int .i32 c2, .int .i32 c3, .int .i32 c4, .int .i32 c5, .int .i32 c6, .int .i32 c7, .int .i32 c8, .int .i32 c9, .int .i32 c10, .int .i32 c11, .int .i32 c12, .int .i32 c13] ∧ ((Lit.int .u32 c1).wf = true) ∧ ((Lit.int .i32 c2).wf = true) ∧ ((Lit.int .i32 c3).wf = true) ∧ ((Lit.int .i32 c4).wf = true) ∧ ((Lit.int .i32 c5).wf = true) ∧ ((Lit.int .i32 c6).wf = true) ∧ ((Lit.int .i32 c7).wf = true) ∧ ((Lit.int .i32 c8).wf = true) ∧ ((Lit.int .i32 c9).wf = true) ∧ ((Lit.int .i32 c10).wf = true) ∧ ((Lit.int .i32 c11).wf = true) ∧ ((Lit.int .i32 c12).wf = true) ∧ ((Lit.int .i32 c13).wf = true))) → ∃ l : List En, xs = entsV l ∧ ∀ z ∈ l, EnOk z
  | [], _ => ⟨[], rfl, fun z hz => by cases hz⟩
  | y :: xs, h => by
    obtain ⟨c0, c1, c2, c3, c4, c5, c6, c7, c8, c9, c10, c11, c12, c13, rfl, h1, h2, h3, h4, h5, h6, h7, h8, h9, h10, h11, h12, h13⟩ := h y (by simp)
    obtain ⟨l, rfl, hl⟩ := els_ents (xs := xs) (fun z hz => h z (List.mem_cons_of_mem _ hz))
    refine ⟨(c0, c1, [c2, c3, c4, c5, c6, c7, c8, c9, c10, c11, c12, c13]) :: l, rfl, fun z hz => ?_⟩
    rcases List.mem_cons.1 hz with rfl | hz
    · refine ⟨u32_bd35 h1, rfl, fun y hy => ?_⟩
      simp only [List.mem_cons, List.not_mem_nil, or_false] at hy
      rcases hy with rfl | rfl | rfl | rfl | rfl | rfl | rfl | rfl | rfl | rfl | rfl | rfl <;> first | exact i32_bd35 h2 | exact i32_bd35 h3 | exact i32_bd35 h4 | exact i32_bd35 h5 | exact i32_bd35 h6 | exact i32_bd35 h7 | exact i32_bd35 h8 | exact i32_bd35 h9 | exact i32_bd35 h10 | exact i32_bd35 h11 | exact i32_bd35 h12 | exact i32_bd35 h13
    · exact hl z hz
theorem putB_e (no : Int) (l : List En) : 0 ≤ (putB no l).2 ∧ (putB no l).2 ≤ 9 := by
  unfold putB
  split
  · split <;> simp
  · simp
theorem putB_no {no : Int} {l : List En} (h : (putB no l).2 ≠ 0) : (putB no l).1 = [] := by
  unfold putB at *
  split
  · rename_i c
    rw [if_pos c] at h
    split
    · rfl
    · rename_i c2
      rw [if_neg c2] at h; exact absurd rfl h
  · rfl
theorem putB_wf {no : Int} {l : List En} (hl : ∀ x ∈ l, EnOk x) : ∀ y ∈ (putB no l).1, 0 ≤ y ∧ y ≤ 255 := by
  intro y hy
  unfold putB at hy
  split at hy
  · split at hy
    · cases hy
    · unfold blockB at hy
      refine crcSeal_bytes _ (bytes_bd (fill_wf ?_)) y hy
      intro z hz
      rcases List.mem_append.1 hz with hz | hz
      · exact hdr_wf _ _ z hz
      · exact entS_wf l _ stK0.2.2 hl z hz
  · cases hy
theorem putB_len {no : Int} {l : List En} : (putB no l).1.length ≤ 256 := by
  unfold putB
  split
  · split
    · simp
    · rename_i c
      unfold blockB
      rw [crcSeal_len, fill_len (by rw [List.length_append, hdr_len]; omega)]
      exact Nat.le_refl _
  · simp
set_option maxRecDepth 100000 in
set_option maxHeartbeats 4000000 in
theorem knows35_any (w : World) : Calls Try.prog 7 #[] w fun e w' => e = .returned (.bool true) ∧ Below w.heap.size w w' := by
  have e0 : putB 0 [(true, 0, zer12)] = ((putB 0 [(true, 0, zer12)]).1, 0) := Prod.ext rfl (show (putB 0 [(true, 0, zer12)]).2 = 0 by decide +kernel)
  have e1 : (putB 0 [(true, 0, zer12)]).1.length = 256 := by decide +kernel
  have e2 : (putB 0 [(true, 0, zer12)]).1.getD 0 0 = 76 := by decide +kernel
  have e3 : (putB 0 [(true, 0, zer12)]).1.getD 6 0 = 75 := by decide +kernel
  have e4 : (entS (0, zer12) [(true, 0, zer12)]).length = 53 := by decide +kernel
  obtain ⟨P, hP⟩ : ∃ p, (putB 0 [(true, 0, zer12)]).1 = p := ⟨_, rfl⟩
  rw [hP] at e0 e1 e2 e3
  have hok := hid (show ∀ x ∈ [((true, 0, zer12) : En)], EnOk x from by intro x hx; rw [List.mem_singleton] at hx; subst hx; exact ⟨by decide, rfl, stK0.2.2⟩)
  have kP := fun U a c (h : Els U 14 a 1 c (entsV [(true, 0, zer12)])) => bput_any 0 a 1 c [(true, 0, zer12)] U (by decide) rfl h (by decide) hok.out
  rw [e0] at kP
  have kS := fun U a c (h : Els U 14 a 1 c (entsV [(true, 0, zer12)])) => size_any a c [(true, 0, zer12)] U h (by decide) hok.out
  rw [e4] at kS
  clear e0 e4 hP
  replace kP := hid kP
  replace kS := hid kS
  replace e1 := hid e1
  have n1 := alloc_new w (.cells #[.bool true, .int .u32 0, .int .i32 0, .int .i32 0, .int .i32 0, .int .i32 0, .int .i32 0, .int .i32 0, .int .i32 0, .int .i32 0, .int .i32 0, .int .i32 0, .int .i32 0, .int .i32 0] 36)
  have hA1 := n1.2.1
  have E1 := hid (show Els (w.alloc (.cells #[.bool true, .int .u32 0, .int .i32 0, .int .i32 0, .int .i32 0, .int .i32 0, .int .i32 0, .int .i32 0, .int .i32 0, .int .i32 0, .int .i32 0, .int .i32 0, .int .i32 0, .int .i32 0] 36)) 14 (some ⟨w.heap.size, 0, none⟩) 1 1 (entsV [(true, 0, zer12)]) from els_blk (m := 14) n1.2.2 rfl)
  clear n1
  obtain ⟨W1, hW1⟩ : ∃ X, w.alloc (.cells #[.bool true, .int .u32 0, .int .i32 0, .int .i32 0, .int .i32 0, .int .i32 0, .int .i32 0, .int .i32 0, .int .i32 0, .int .i32 0, .int .i32 0, .int .i32 0, .int .i32 0, .int .i32 0] 36) = X := ⟨_, rfl⟩
  rw [hW1] at hA1 E1
  replace hA1 := hid hA1
  go_enter Try.func7, Try.ntmps7
  go_wp2_with fail
  refine (kP.out _ _ _ E1.out).mono ?_
  rintro e V1 ⟨a1, c1, rfl, hO, hA⟩
  have hS := hO.slf
  dsimp only at hS
  have hB1 := hid (bthen hA1.out hA)
  clear hO hA E1 hA1 hW1
  obtain ⟨g, o, rfl, v0⟩ := hS.2.2.2.2 0 (by rw [e1.out]; decide)
  have v6 : V1.cell? ⟨g, o + 6, none⟩ = some (.int .u8 (P.getD 6 0)) := by obtain ⟨b9, o9, e9, v9⟩ := hS.2.2.2.2 6 (by rw [e1.out]; decide); cases e9; exact v9
  rw [e2, Nat.add_zero] at v0
  rw [e3] at v6
  clear e2 e3 hS
  dsimp only
  rw [e1.out]
  have n2 := alloc_new V1 (.cells #[.bool true, .int .u32 0, .int .i32 0, .int .i32 0, .int .i32 0, .int .i32 0, .int .i32 0, .int .i32 0, .int .i32 0, .int .i32 0, .int .i32 0, .int .i32 0, .int .i32 0, .int .i32 0] 36)
  have hA2 := n2.2.1
  have E2 := hid (show Els (V1.alloc (.cells #[.bool true, .int .u32 0, .int .i32 0, .int .i32 0, .int .i32 0, .int .i32 0, .int .i32 0, .int .i32 0, .int .i32 0, .int .i32 0, .int .i32 0, .int .i32 0, .int .i32 0, .int .i32 0] 36)) 14 (some ⟨V1.heap.size, 0, none⟩) 1 1 (entsV [(true, 0, zer12)]) from els_blk (m := 14) n2.2.2 rfl)
  clear n2
  obtain ⟨W2, hW2⟩ : ∃ X, V1.alloc (.cells #[.bool true, .int .u32 0, .int .i32 0, .int .i32 0, .int .i32 0, .int .i32 0, .int .i32 0, .int .i32 0, .int .i32 0, .int .i32 0, .int .i32 0, .int .i32 0, .int .i32 0, .int .i32 0] 36) = X := ⟨_, rfl⟩
  rw [hW2] at hA2 E2
  have hB2 := hid (bthen hB1.out hA2)
  have v0b := hid ((Below.cell hA2 (World.block_lt_of_cell? V1 _ v0)).trans v0)
  have v6b := hid ((Below.cell hA2 (World.block_lt_of_cell? V1 _ v6)).trans v6)
  clear hA2 hB1 v0 v6
  go_wp2_with fail
  refine (kS.out _ _ _ E2.out).mono ?_
  rintro e V2 ⟨rfl, hA⟩
  have v0c := (Below.cell hA (World.block_lt_of_cell? W2 _ v0b.out)).trans v0b.out
  have v6c := (Below.cell hA (World.block_lt_of_cell? W2 _ v6b.out)).trans v6b.out
  have hB3 := hid (bthen hB2.out hA)
  clear hA hB2 E2 v0b v6b hW2
  go_wp2_with fail
  refine (num35_any 0 _ (by omega) (by omega)).mono ?_
  rintro e V ⟨rfl, hv⟩
  obtain rfl : V2 = V := hv.symm
  clear hv
  go_wp2_with fail
  go_ret
  exact ⟨rfl, hB3.out⟩
set_option maxRecDepth 100000 in
set_option maxHeartbeats 8000000 in
theorem law_BlockTakes (a0 : Option Addr) (len0 cap0 : Nat) (z0 : List Int) (W : World) (w0 : IsRow .u8 W a0 len0 cap0 z0) :
    Calls Try.prog 4 #[.slice a0 len0 cap0] W fun e w' => e = .returned (.bool true) ∧ Below W.heap.size W w' := by
  obtain ⟨hs1, hw1⟩ := w0.sl
  generalize z0.take len0 = bs at hs1 hw1
  clear w0
  have hb2 := hid (bytes_bd hw1)
  replace hs1 := hid hs1
  replace hw1 := hid hw1
  by_cases cb : (300 : Int) < len0
  case pos =>
    go_enter Try.func4, Try.ntmps4
    go_wp2_with fail
    refine (knows35_any _).mono ?_
    rintro e V ⟨rfl, hst⟩
    replace hst := hid hst
    go_wp2_with fail
    go_ret
    exact ⟨rfl, hst.out⟩
  have te := takB_e bs
  have hTB := hid (fun h : (takB bs).2.2 ≠ 0 => takB_bad (zs := bs) h)
  have hTP := hid (fun (no : Int) (l : List En) (h : takB bs = (no, l, 0)) => takB_back hw1.out h)
  obtain ⟨⟨ly, L, ge⟩, hq⟩ : ∃ r, takB bs = r := ⟨_, rfl⟩
  rw [hq] at te hTB
  dsimp only at te hTB
  have hLk : L.length ≤ 255 ∧ ∀ x ∈ L, EnOk x := by
    by_cases c : ge = 0
    · subst c; have h := hTP.out _ _ hq; exact ⟨h.2.1, h.2.2.1⟩
    · have h2 := hTB.out c; rw [Prod.mk.injEq, Prod.mk.injEq] at h2; rw [h2.2.1]; exact ⟨by simp, fun x hx => by cases hx⟩
  have hL40 := hLk.1
  have hLo := hid hLk.2
  clear hLk hTP hTB
  replace hq := hid hq
  go_enter Try.func4, Try.ntmps4
  go_wp2_with fail
  refine (knows35_any _).mono ?_
  rintro e V0 ⟨rfl, hB⟩
  replace hB := hid hB
  go_wp2_with fail
  refine (btake_any a0 len0 cap0 bs _ (hs1.out.below hB.out) hw1.out (by omega)).mono ?_
  rintro e V1 ⟨r1a, r1c, rfl, hE1, hA⟩
  replace hB := hid (bthen hB.out hA)
  clear hA
  rw [hq.out] at hE1 ⊢
  dsimp only at hE1 ⊢
  replace hE1 := hid hE1
  have nw := alloc_new V1 (.cells #[.int .u32 ly, .slice r1a L.length r1c] 25)
  have hA := nw.2.1
  have rk1 := nw.2.2
  clear nw
  go_upto_region 4 with (fail)
  obtain ⟨V2, hV2⟩ : ∃ X, V1.alloc (.cells #[.int .u32 ly, .slice r1a L.length r1c] 25) = X := ⟨_, rfl⟩
  rw [hV2] at hA rk1 ⊢
  obtain ⟨qk1, hqk1⟩ : ∃ X, V1.heap.size = X := ⟨_, rfl⟩
  rw [hqk1] at rk1 ⊢
  replace hV2 := hid hV2
  replace hqk1 := hid hqk1
  replace hE1 := hid (hE1.out.below hA)
  replace hB := hid (bthen hB.out hA)
  clear hA
  replace rk1 := hid rk1
  go_wp2_with fail
  refine (rbtake_any a0 len0 cap0 bs _ (hs1.out.below hB.out) hw1.out (by omega)).mono ?_
  rintro e V3 ⟨r2a, r2c, rfl, hE2, hA⟩
  replace hE1 := hid (hE1.out.below hA)
  replace rk1 := hid (held_after hA rk1.out)
  replace hB := hid (bthen hB.out hA)
  clear hA
  rw [hq.out] at hE2 ⊢
  dsimp only at hE2 ⊢
  replace hE2 := hid hE2
  have nw := alloc_new V3 (.cells #[.int .u32 ly, .slice r2a L.length r2c] 25)
  have hA := nw.2.1
  have rk2 := nw.2.2
  clear nw
  go_upto_region 5 with (fail)
  obtain ⟨V4, hV4⟩ : ∃ X, V3.alloc (.cells #[.int .u32 ly, .slice r2a L.length r2c] 25) = X := ⟨_, rfl⟩
  rw [hV4] at hA rk2 ⊢
  obtain ⟨qk2, hqk2⟩ : ∃ X, V3.heap.size = X := ⟨_, rfl⟩
  rw [hqk2] at rk2 ⊢
  replace hV4 := hid hV4
  replace hqk2 := hid hqk2
  replace hE1 := hid (hE1.out.below hA)
  replace hE2 := hid (hE2.out.below hA)
  replace rk1 := hid (held_after hA rk1.out)
  replace hB := hid (bthen hB.out hA)
  clear hA
  replace rk2 := hid rk2
  have y0 := held_cell rk1.out 0 _ rfl
  have y1 := held_cell rk1.out 1 _ rfl
  have z0 := held_cell rk2.out 0 _ rfl
  have z1 := held_cell rk2.out 1 _ rfl
  go_wp2_with fail
  clear y0 y1 z0 z1
  refine (sameB_any ly r1a r2a r1c r2c L.length L _ rfl hE1.out hE2.out (by omega) hLo.out).mono ?_
  rintro e V5 ⟨rfl, hA⟩
  replace hE1 := hid (hE1.out.below hA)
  replace hE2 := hid (hE2.out.below hA)
  replace rk1 := hid (held_after hA rk1.out)
  replace rk2 := hid (held_after hA rk2.out)
  replace hB := hid (bthen hB.out hA)
  clear hA
  go_wp2_with fail
  refine (num35_any ge _ (by omega) (by omega)).mono ?_
  rintro e V ⟨rfl, rfl⟩
  go_wp2_with fail
  refine (num35_any ge _ (by omega) (by omega)).mono ?_
  rintro e V ⟨rfl, rfl⟩
  go_wp2_with fail
  go_ret
  exact ⟨ret_bool (by simp), hB.out⟩

end Go.Proofs.Ytmfhniekcbadlaa
