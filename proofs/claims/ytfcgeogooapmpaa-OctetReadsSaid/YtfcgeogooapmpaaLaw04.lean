/- Stage 4: the chapter's example; what is not made. -/
import Derived.Test.YtfcgeogooapmpaaOctet6
import Derived.Deep.DeepCutAuto
import Derived.Handy
namespace Go.Proofs.Ytfcgeogooapmpaa
open Go.ChangeShapes Go.WideShapes Go.ChangeAt Go.RowKit Go.Shelf
set_option linter.unusedVariables false

section
variable {P : Program} {ops : Array Oper} {Q : Exit → Act → World → Prop} {md : Region.Mode} {X : Option Nat} {last : Nat}
theorem wpAnyT_two {oi oj : Oper} {n : Nat} {listed : Array Bool} {a : Act} {w : World} (i j : Nat) (hi : ops[i]? = some oi) (hj : ops[j]? = some oj) (hr : Region.ready md ops listed = [i, j]) (hwi : Region.wanted oi (yielded ops a.tmps) = true) (hwj : Region.wanted oj (yielded ops a.tmps) = true)
    (h1 : ∀ K : Act → World → Prop, (∀ a' w', (i ≠ last → RX X w w') ∧ wpAnyT P md X last ops Q n (listed.setIfInBounds i true) a' w' → K a' w') → oi.wp P a w K Q)
    (h2 : ∀ K : Act → World → Prop, (∀ a' w', (j ≠ last → RX X w w') ∧ wpAnyT P md X last ops Q n (listed.setIfInBounds j true) a' w' → K a' w') → oj.wp P a w K Q) : wpAnyT P md X last ops Q (n + 1) listed a w := by
  refine ⟨(fun h0 => by rw [hr] at h0; cases h0), fun m hm => ?_⟩
  rw [hr] at hm
  rcases List.mem_cons.1 hm with rfl | hm
  · unfold wpOp
    simp only [hi, hwi, if_true]
    exact .inl (h1 _ fun _ _ k => k)
  · obtain rfl := List.mem_singleton.1 hm
    unfold wpOp
    simp only [hj, hwj, if_true]
    exact .inl (h2 _ fun _ _ k => k)
end
theorem RX.of_set (R j : Nat) (w : World) (v : Value) : RX (some R) w (w.setCell ⟨R, j, none⟩ v) := ⟨by simp [World.setCell], fun k hk hne => Below.heap_setCell _ _ _ _ (fun e => hne (by rw [e]))⟩
theorem RX.of_after {X : Option Nat} {w w2 : World} (h : After w w2) : RX X w w2 := ⟨h.size, fun k hk _ => h.block k hk⟩
theorem own_textX {w : World} {base R : Nat} {a : Option Addr} {cap : Nat} {zs : List Int} {c : Array Value} {T : TypeId} {f : Nat × Nat} (h : Own .u8 5 w base (.slice a zs.length cap) zs) (hR : w.heap[R]? = some (.cells c T f)) (hT : T ≠ 5) :
    ∀ w2, RX (some R) w w2 → (convert 22 9 (.slice a zs.length cap)).run Try.prog w2 = .ok (.string (textOf zs)) w2 := by
  intro w2 hx
  have hne := own_ne h hR hT
  have h2 : Own .u8 5 w2 base (.slice a zs.length cap) zs := by
    refine ⟨h.1, ?_⟩
    rcases h.2 with k | ⟨g, c, cur, hv, hb, hg, r⟩
    · exact .inl k
    · refine .inr ⟨g, c, cur, hv, hb, (hx.block g (Array.getElem?_eq_some_iff.1 hg).1 (fun e => hne ?_)).trans hg, r⟩
      rw [hv]; exact e.symm
  exact (h2.slf).text 22 9 5 Try.underlying22 Try.underlying5 Try.underlying9
theorem rdr_keep {R B : Nat} {w w2 : World} {zs : List Int} {v : Value} {T : TypeId} (h : Rdr R w zs) (hv : ∀ x, v ≠ .int .u8 x) (hB : w.heap[B]? = some (.cells #[.bool true, v, .bool false] T (0, 0))) (hRB : R ≠ B) (hF : ∀ k, k < w.heap.size → k ≠ B → w2.heap[k]? = w.heap[k]?) : Rdr R w2 zs := by
  obtain ⟨a, cap, hH, h1, h2, h3, h4, h5⟩ := h
  refine ⟨a, cap, (hF R (held_lt hH) hRB).trans hH, h1, h2, h3, h4, fun i hi => ?_⟩
  obtain ⟨b, off, e, hc⟩ := h5 i hi
  refine ⟨b, off, e, ?_⟩
  have hne : b ≠ B := by
    intro e2
    subst e2
    rw [cell_of_row w b (off + i) _ T (0, 0) hB] at hc
    match h9 : off + i with
    | 0 => rw [h9] at hc; cases hc
    | 1 => rw [h9] at hc; exact hv _ (Option.some.inj hc)
    | 2 => rw [h9] at hc; cases hc
    | k + 3 => rw [h9] at hc; simp at hc
  exact (World.cell?_of_block (w := w) (a := ⟨b, off + i, none⟩) (hF b (World.block_lt_of_cell? w _ hc) hne)).trans hc
theorem Rdr.later {R : Nat} {w w2 : World} {zs : List Int} (h : Rdr R w zs) (hA : After w w2) : Rdr R w2 zs := by
  obtain ⟨a, cap, hH, hsl⟩ := h
  exact ⟨a, cap, held_after hA hH, hsl.below hA⟩
theorem Wr.later {B base : Nat} {w w2 : World} {zs : List Int} (h : Wr B base w zs) (hA : After w w2) : Wr B base w2 zs := by
  obtain ⟨a, cap, hH, hO⟩ := h
  exact ⟨a, cap, held_after hA hH, hO.below hA⟩

set_option maxRecDepth 100000 in
set_option maxHeartbeats 4000000 in
theorem knows4_any (w : World) : Calls Try.prog 8 #[] w fun e w' => e = .returned (.bool true) ∧ Below w.heap.size w w' := by
  go_enter Try.func8, Try.ntmps8
  go_wp2_with fail
  refine (make_any w).mono ?_
  rintro e w1 ⟨rfl, hW, hA1⟩
  have hA2 : After w1 (w1.alloc (.cells #[.int .u8 255] 5)) := (Below.refl _ w1).alloc (Nat.le_refl _) _
  have hsl := Row.sl (show Row .u8 5 (w1.alloc (.cells #[.int .u8 255] 5)) w1.heap.size [255] from World.alloc_heap_new w1 _) (by unfold maxLen; simp)
  have kN := new_any _ _ _ _ _ (by simp) hsl
  have lt1 := held_lt hW
  replace hW := hid hW
  clear hsl
  go_wp2_with fail
  refine kN.mono ?_
  rintro e w2 ⟨R, rfl, hR, hRd, hA3⟩
  have hW2 := held_after hA3 (held_after hA2 hW.out)
  have hB2 := bthen (bthen hA1 hA2) hA3
  have hRB : R ≠ w.heap.size := by simp at hR; omega
  have hRl : w.heap.size ≤ R := by simp at hR; omega
  have lt2 := hB2.size
  clear hA1 hA2 hA3 kN hW hR
  replace hW2 := hid hW2
  replace hRd := hid hRd
  replace hB2 := hid hB2
  go_wp2_with fail
  refine (wu_513 w.heap.size w2.heap.size w.heap.size w2 ⟨none, 0, hW2.out, Own.nil _ _ _ _⟩ (Nat.le_refl _) lt2 (Nat.le_refl _)).mono ?_
  rintro e w5 ⟨rfl, hW5, hB5, hF5⟩
  have hRd5 := rdr_keep hRd.out (fun x h => by cases h) hW2.out hRB hF5
  have hB := hB2.out.trans hB5
  clear hF5 hB5 hRd hB2 hW2
  have kB := fun U (h : After w5 U) => wbytes_good w.heap.size w2.heap.size [1, 2] U (by simp) (hW5.later h)
  have hRH : ∃ v, w5.heap[R]? = some (.cells #[.bool true, v, .bool false] 59 (0, 0)) := by
    obtain ⟨a, cap, hH, _⟩ := hRd5
    exact ⟨_, hH⟩
  obtain ⟨rv, hRH⟩ := hRH
  obtain ⟨TX, hTX⟩ : ∃ TX, textOf [1, 2] = TX := ⟨_, rfl⟩
  go_upto_region 6 with (fail)
  refine wp_region_T (some R) 21 (by kernel_rfl) ?_
  refine wpAnyT_takeP 0 rfl (by kernel_rfl) (by kernel_rfl) (by kernel_rfl) (fun _ _ _ _ h => h) ⟨_, Or.inl ⟨by rfl, fun w2 _ => by (go_simp; try with_reducible rfl)⟩, _, by (go_simp; try rfl), ?_⟩
  refine wpAnyT_two 1 3 rfl rfl (by kernel_rfl) (by rfl) (by rfl) (fun K hK => ?_) (fun K hK => ?_)
  · have htriv : True := trivial
    go_simp
    refine (kB _ ((Below.refl _ w5).drew)).mono ?_
    rintro e V ⟨a7, cp7, rfl, hO7, hA7⟩
    refine hK _ _ ⟨fun _ => RX.of_after hA7, ?_⟩
    clear hK
    have hA9 : After w5 V := bthen ((Below.refl _ w5).drew) hA7
    have t7 := own_textX hO7 (held_after hA9 hRH) (by decide)
    rw [hTX] at t7
    change ∀ w2, _ → (convert 22 9 (.slice a7 2 cp7)).run _ w2 = _ at t7
    refine wpAnyT_take 2 rfl (by kernel_rfl) (by kernel_rfl) (by kernel_rfl) (by kernel_rfl) (fun _ _ _ _ h => h) ⟨_, Or.inl ⟨by rfl, fun w2 hb2 => by (have hx := t7 w2 hb2; go_simp; try with_reducible rfl)⟩, _, by (go_simp; try rfl), ?_⟩
    refine wpAnyT_only 3 rfl (by kernel_rfl) (by rfl) (fun K hK => ?_)
    go_simp
    have hA8 : After w5 (V.alloc (.cells #[.int .u8 1, .int .u8 2] 5)) := hA9.alloc hA9.size _
    have hO8 := Row.own (show Row .u8 5 (V.alloc (.cells #[.int .u8 1, .int .u8 2] 5)) V.heap.size [1, 2] from World.alloc_heap_new _ _) 0 (Nat.zero_le _) (by unfold maxLen; simp)
    have t8 := own_textX hO8 (held_after hA8 hRH) (by decide)
    rw [hTX] at t8
    change ∀ w2, _ → (convert 22 9 (.slice (some ⟨V.heap.size, 0, none⟩) 2 2)).run _ w2 = _ at t8
    refine hK _ _ ⟨fun _ => RX.alloc _ _ _, ?_⟩
    clear hK
    refine wpAnyT_take 4 rfl (by kernel_rfl) (by kernel_rfl) (by kernel_rfl) (by kernel_rfl) (fun _ _ _ _ h => h) ⟨_, Or.inl ⟨by rfl, fun w2 hb2 => by (have hx := t8 w2 hb2; go_simp; try with_reducible rfl)⟩, _, by (go_simp; try rfl), ?_⟩
    have hAz := hA8
    generalize V.alloc (.cells #[.int .u8 1, .int .u8 2] 5) = Y at *
    clear t7 t8 hO7 hO8 kB
    have hRy := hRd5.later hAz
    have hBy := hB.trans (Below.mono hAz (by have := hB.size; omega))
    refine wpAnyT_takeP 5 rfl (by kernel_rfl) (by kernel_rfl) (by kernel_rfl) (fun _ _ _ _ h => h) ⟨_, Or.inl ⟨by rfl, fun w2 _ => by (go_simp; try with_reducible rfl)⟩, _, by (go_simp; try rfl), ?_⟩
    refine wpAnyT_takeP 6 rfl (by kernel_rfl) (by kernel_rfl) (by kernel_rfl) (fun _ _ _ _ h => h) ⟨_, Or.inl ⟨by rfl, fun w2 _ => by (go_simp; try with_reducible rfl)⟩, _, by (go_simp; try rfl), ?_⟩
    refine wpAnyT_takeP 7 rfl (by kernel_rfl) (by kernel_rfl) (by kernel_rfl) (fun _ _ _ _ h => h) ⟨_, Or.inl ⟨by rfl, fun w2 _ => by (go_simp; try with_reducible rfl)⟩, _, by (go_simp; try rfl), ?_⟩
    refine wpAnyT_only 8 rfl (by kernel_rfl) (by rfl) (fun K hK => ?_)
    go_simp
    refine (ri_one R Y hRy).mono ?_
    rintro e Z ⟨rfl, a6, cp6, hZ, hRz⟩
    have hBz : Below w.heap.size w Z := by rw [hZ]; exact hBy.setCell (p := ⟨R, 1, none⟩) hRl _
    refine hK _ _ ⟨fun _ => by rw [hZ]; exact RX.of_set _ _ _ _, ?_⟩
    clear hK hZ
    refine wpAnyT_takeP 9 rfl (by kernel_rfl) (by kernel_rfl) (by kernel_rfl) (fun _ _ _ _ h => h) ⟨_, Or.inl ⟨by rfl, fun w2 _ => by (go_simp; try with_reducible rfl)⟩, _, by (go_simp; try rfl), ?_⟩
    refine wpAnyT_takeP 10 rfl (by kernel_rfl) (by kernel_rfl) (by kernel_rfl) (fun _ _ _ _ h => h) ⟨_, Or.inl ⟨by rfl, fun w2 _ => by (go_simp; try with_reducible rfl)⟩, _, by (go_simp; try rfl), ?_⟩
    refine wpAnyT_takeP 11 rfl (by kernel_rfl) (by kernel_rfl) (by kernel_rfl) (fun _ _ _ _ h => h) ⟨_, Or.inl ⟨by rfl, fun w2 _ => by (go_simp; try with_reducible rfl)⟩, _, by (go_simp; try rfl), ?_⟩
    refine wpAnyT_takeP 12 rfl (by kernel_rfl) (by kernel_rfl) (by kernel_rfl) (fun _ _ _ _ h => h) ⟨_, Or.inl ⟨by rfl, fun w2 _ => by (go_simp; try with_reducible rfl)⟩, _, by (go_simp; try rfl), ?_⟩
    refine wpAnyT_only 13 rfl (by kernel_rfl) (by rfl) (fun K hK => ?_)
    go_simp
    refine (left_good R _ _ _ Z hRz).mono ?_
    rintro e Z2 ⟨rfl, rfl⟩
    refine hK _ _ ⟨fun _ => RX.refl _ _, ?_⟩
    clear hK
    refine wpAnyT_takeP 14 rfl (by kernel_rfl) (by kernel_rfl) (by kernel_rfl) (fun _ _ _ _ h => h) ⟨_, Or.inl ⟨by rfl, fun w2 _ => by (go_simp; try with_reducible rfl)⟩, _, by (go_simp; try rfl), ?_⟩
    refine wpAnyT_takeP 15 rfl (by kernel_rfl) (by kernel_rfl) (by kernel_rfl) (fun _ _ _ _ h => h) ⟨_, Or.inl ⟨by rfl, fun w2 _ => by (go_simp; try with_reducible rfl)⟩, _, by (go_simp; try rfl), ?_⟩
    refine wpAnyT_takeP 16 rfl (by kernel_rfl) (by kernel_rfl) (by kernel_rfl) (fun _ _ _ _ h => h) ⟨_, Or.inl ⟨by rfl, fun w2 _ => by (go_simp; try with_reducible rfl)⟩, _, by (go_simp; try rfl), ?_⟩
    refine wpAnyT_takeP 17 rfl (by kernel_rfl) (by kernel_rfl) (by kernel_rfl) (fun _ _ _ _ h => h) ⟨_, Or.inl ⟨by rfl, fun w2 _ => by (go_simp; try with_reducible rfl)⟩, _, by (go_simp; try rfl), ?_⟩
    refine wpAnyT_only 18 rfl (by kernel_rfl) (by rfl) (fun K hK => ?_)
    go_simp
    refine (rfail_good R _ Z2 hRz).mono ?_
    rintro e Z3 ⟨rfl, rfl⟩
    refine hK _ _ ⟨fun _ => RX.refl _ _, ?_⟩
    clear hK
    refine wpAnyT_takeP 19 rfl (by kernel_rfl) (by kernel_rfl) (by kernel_rfl) (fun _ _ _ _ h => h) ⟨_, Or.inl ⟨by rfl, fun w2 _ => by (go_simp; try with_reducible rfl)⟩, _, by (go_simp; try rfl), ?_⟩
    refine wpAnyT_takeP 20 rfl (by kernel_rfl) (by kernel_rfl) (by kernel_rfl) (fun _ _ _ _ h => h) ⟨_, Or.inl ⟨by rfl, fun w2 _ => by (go_simp; try with_reducible rfl)⟩, _, by (go_simp; try rfl), ?_⟩
    refine wpAnyT_only 21 rfl (by kernel_rfl) (by rfl) (fun K hK => ?_)
    go_simp
    refine hK _ _ ⟨fun h => (h rfl).elim, wpAnyT_done (by kernel_rfl) ?_ _⟩
    clear hK
    go_wp2_with fail
    go_ret
    exact ⟨rfl, hBz⟩
  · have htriv : True := trivial
    go_simp
    have hA8 : After w5 (w5.drew.alloc (.cells #[.int .u8 1, .int .u8 2] 5)) := ((Below.refl _ w5).drew).alloc (Nat.le_refl _) _
    have hO8 := Row.own (show Row .u8 5 (w5.drew.alloc (.cells #[.int .u8 1, .int .u8 2] 5)) w5.drew.heap.size [1, 2] from World.alloc_heap_new _ _) 0 (Nat.zero_le _) (by unfold maxLen; simp)
    have t8 := own_textX hO8 (held_after hA8 hRH) (by decide)
    rw [hTX] at t8
    change ∀ w2, _ → (convert 22 9 (.slice (some ⟨w5.heap.size, 0, none⟩) 2 2)).run _ w2 = _ at t8
    refine hK _ _ ⟨fun _ => RX.alloc _ _ _, ?_⟩
    clear hK
    refine wpAnyT_take 4 rfl (by kernel_rfl) (by kernel_rfl) (by kernel_rfl) (by kernel_rfl) (fun _ _ _ _ h => h) ⟨_, Or.inl ⟨by rfl, fun w2 hb2 => by (have hx := t8 w2 hb2; go_simp; try with_reducible rfl)⟩, _, by (go_simp; try rfl), ?_⟩
    refine wpAnyT_only 1 rfl (by kernel_rfl) (by rfl) (fun K hK => ?_)
    go_simp
    refine (kB _ hA8).mono ?_
    rintro e V ⟨a7, cp7, rfl, hO7, hA7⟩
    refine hK _ _ ⟨fun _ => RX.of_after hA7, ?_⟩
    clear hK
    have hA9 : After w5 V := bthen hA8 hA7
    have t7 := own_textX hO7 (held_after hA9 hRH) (by decide)
    rw [hTX] at t7
    change ∀ w2, _ → (convert 22 9 (.slice a7 2 cp7)).run _ w2 = _ at t7
    refine wpAnyT_take 2 rfl (by kernel_rfl) (by kernel_rfl) (by kernel_rfl) (by kernel_rfl) (fun _ _ _ _ h => h) ⟨_, Or.inl ⟨by rfl, fun w2 hb2 => by (have hx := t7 w2 hb2; go_simp; try with_reducible rfl)⟩, _, by (go_simp; try rfl), ?_⟩
    have hAz := hA9
    generalize V = Y at *
    clear t7 t8 hO7 hO8 kB
    have hRy := hRd5.later hAz
    have hBy := hB.trans (Below.mono hAz (by have := hB.size; omega))
    refine wpAnyT_takeP 5 rfl (by kernel_rfl) (by kernel_rfl) (by kernel_rfl) (fun _ _ _ _ h => h) ⟨_, Or.inl ⟨by rfl, fun w2 _ => by (go_simp; try with_reducible rfl)⟩, _, by (go_simp; try rfl), ?_⟩
    refine wpAnyT_takeP 6 rfl (by kernel_rfl) (by kernel_rfl) (by kernel_rfl) (fun _ _ _ _ h => h) ⟨_, Or.inl ⟨by rfl, fun w2 _ => by (go_simp; try with_reducible rfl)⟩, _, by (go_simp; try rfl), ?_⟩
    refine wpAnyT_takeP 7 rfl (by kernel_rfl) (by kernel_rfl) (by kernel_rfl) (fun _ _ _ _ h => h) ⟨_, Or.inl ⟨by rfl, fun w2 _ => by (go_simp; try with_reducible rfl)⟩, _, by (go_simp; try rfl), ?_⟩
    refine wpAnyT_only 8 rfl (by kernel_rfl) (by rfl) (fun K hK => ?_)
    go_simp
    refine (ri_one R Y hRy).mono ?_
    rintro e Z ⟨rfl, a6, cp6, hZ, hRz⟩
    have hBz : Below w.heap.size w Z := by rw [hZ]; exact hBy.setCell (p := ⟨R, 1, none⟩) hRl _
    refine hK _ _ ⟨fun _ => by rw [hZ]; exact RX.of_set _ _ _ _, ?_⟩
    clear hK hZ
    refine wpAnyT_takeP 9 rfl (by kernel_rfl) (by kernel_rfl) (by kernel_rfl) (fun _ _ _ _ h => h) ⟨_, Or.inl ⟨by rfl, fun w2 _ => by (go_simp; try with_reducible rfl)⟩, _, by (go_simp; try rfl), ?_⟩
    refine wpAnyT_takeP 10 rfl (by kernel_rfl) (by kernel_rfl) (by kernel_rfl) (fun _ _ _ _ h => h) ⟨_, Or.inl ⟨by rfl, fun w2 _ => by (go_simp; try with_reducible rfl)⟩, _, by (go_simp; try rfl), ?_⟩
    refine wpAnyT_takeP 11 rfl (by kernel_rfl) (by kernel_rfl) (by kernel_rfl) (fun _ _ _ _ h => h) ⟨_, Or.inl ⟨by rfl, fun w2 _ => by (go_simp; try with_reducible rfl)⟩, _, by (go_simp; try rfl), ?_⟩
    refine wpAnyT_takeP 12 rfl (by kernel_rfl) (by kernel_rfl) (by kernel_rfl) (fun _ _ _ _ h => h) ⟨_, Or.inl ⟨by rfl, fun w2 _ => by (go_simp; try with_reducible rfl)⟩, _, by (go_simp; try rfl), ?_⟩
    refine wpAnyT_only 13 rfl (by kernel_rfl) (by rfl) (fun K hK => ?_)
    go_simp
    refine (left_good R _ _ _ Z hRz).mono ?_
    rintro e Z2 ⟨rfl, rfl⟩
    refine hK _ _ ⟨fun _ => RX.refl _ _, ?_⟩
    clear hK
    refine wpAnyT_takeP 14 rfl (by kernel_rfl) (by kernel_rfl) (by kernel_rfl) (fun _ _ _ _ h => h) ⟨_, Or.inl ⟨by rfl, fun w2 _ => by (go_simp; try with_reducible rfl)⟩, _, by (go_simp; try rfl), ?_⟩
    refine wpAnyT_takeP 15 rfl (by kernel_rfl) (by kernel_rfl) (by kernel_rfl) (fun _ _ _ _ h => h) ⟨_, Or.inl ⟨by rfl, fun w2 _ => by (go_simp; try with_reducible rfl)⟩, _, by (go_simp; try rfl), ?_⟩
    refine wpAnyT_takeP 16 rfl (by kernel_rfl) (by kernel_rfl) (by kernel_rfl) (fun _ _ _ _ h => h) ⟨_, Or.inl ⟨by rfl, fun w2 _ => by (go_simp; try with_reducible rfl)⟩, _, by (go_simp; try rfl), ?_⟩
    refine wpAnyT_takeP 17 rfl (by kernel_rfl) (by kernel_rfl) (by kernel_rfl) (fun _ _ _ _ h => h) ⟨_, Or.inl ⟨by rfl, fun w2 _ => by (go_simp; try with_reducible rfl)⟩, _, by (go_simp; try rfl), ?_⟩
    refine wpAnyT_only 18 rfl (by kernel_rfl) (by rfl) (fun K hK => ?_)
    go_simp
    refine (rfail_good R _ Z2 hRz).mono ?_
    rintro e Z3 ⟨rfl, rfl⟩
    refine hK _ _ ⟨fun _ => RX.refl _ _, ?_⟩
    clear hK
    refine wpAnyT_takeP 19 rfl (by kernel_rfl) (by kernel_rfl) (by kernel_rfl) (fun _ _ _ _ h => h) ⟨_, Or.inl ⟨by rfl, fun w2 _ => by (go_simp; try with_reducible rfl)⟩, _, by (go_simp; try rfl), ?_⟩
    refine wpAnyT_takeP 20 rfl (by kernel_rfl) (by kernel_rfl) (by kernel_rfl) (fun _ _ _ _ h => h) ⟨_, Or.inl ⟨by rfl, fun w2 _ => by (go_simp; try with_reducible rfl)⟩, _, by (go_simp; try rfl), ?_⟩
    refine wpAnyT_only 21 rfl (by kernel_rfl) (by rfl) (fun K hK => ?_)
    go_simp
    refine hK _ _ ⟨fun h => (h rfl).elim, wpAnyT_done (by kernel_rfl) ?_ _⟩
    clear hK
    go_wp2_with fail
    go_ret
    exact ⟨rfl, hBz⟩

end Go.Proofs.Ytfcgeogooapmpaa
