/- The law FletchOne, walked: it returns true. -/
import Derived.Test.YtjbamblmkbbpfaaFletchOne
namespace Go.Proofs.Ytjbamblmkbbpfaa
open Go.ChangeShapes Go.WideShapes Go.ChangeAt Go.RowKit
set_option linter.unusedVariables false

theorem Own.addr {k : IntKind} {E : TypeId} {w : World} {base n : Nat} {a : Option Addr} {cap : Nat} {zs : List Int} (h : Own k E w base (.slice a n cap) zs) (hn : 0 < zs.length) : n = zs.length ∧ ∃ g, a = some ⟨g, 0, none⟩ ∧ base ≤ g := by
  rcases h.2 with ⟨hv, hz⟩ | ⟨g, c, cur, hv, hb, _⟩
  · omega
  · simp only [Value.slice.injEq] at hv
    exact ⟨hv.2.1, g, hv.1, hb⟩
theorem Own.cellAt {k : IntKind} {E : TypeId} {w : World} {base g : Nat} {cap : Nat} {zs : List Int} (h : Own k E w base (.slice (some ⟨g, 0, none⟩) zs.length cap) zs) (j : Nat) (hj : j < zs.length) : w.cell? ⟨g, j, none⟩ = some (.int k (zs.getD j 0)) := by
  have := World.ownsRow.cellAt (w := w) (base := base) (e := E) (size := 1) (g := g) (n := zs.length) (cap := cap) (xs := zs.map (Value.int k)) h j (by omega)
  rw [this]; simp [hj]
theorem Own.free {k : IntKind} {E : TypeId} {w : World} {base g : Nat} {cap : Nat} {zs : List Int} (h : Own k E w base (.slice (some ⟨g, 0, none⟩) zs.length cap) zs) (j : Nat) : w.frozen? ⟨g, j, none⟩ = false :=
  World.ownsRow.frozenAt (w := w) (base := base) (e := E) (size := 1) (g := g) (n := zs.length) (cap := cap) (xs := zs.map (Value.int k)) h j
theorem Own.set {k : IntKind} {E : TypeId} {w : World} {base g : Nat} {cap : Nat} {zs : List Int} (h : Own k E w base (.slice (some ⟨g, 0, none⟩) zs.length cap) zs) (j : Nat) (x : Int) : Own k E (w.setCell ⟨g, j, none⟩ (.int k x)) base (.slice (some ⟨g, 0, none⟩) (zs.set j x).length cap) (zs.set j x) := by
  have := (World.ownsRow.stored (w := w) (base := base) (e := E) (size := 1) (g := g) (n := zs.length) (cap := cap) (xs := zs.map (Value.int k)) h j (.int k x)).1
  unfold Own
  rw [List.length_set, List.map_set]; exact this

theorem Sl.cell {k : IntKind} {w : World} {g len cap : Nat} {zs : List Int} (h : Sl k w (some ⟨g, 0, none⟩) len cap zs) (j : Nat) (hj : j < len) : w.cell? ⟨g, j, none⟩ = some (.int k (zs.getD j 0)) := by
  obtain ⟨b, off, ha, hc⟩ := h.2.2.2.2 j (by rw [h.1]; exact hj)
  simp only [Option.some.injEq, Addr.mk.injEq] at ha
  obtain ⟨rfl, rfl, -⟩ := ha
  rw [← hc, Nat.zero_add]

set_option maxRecDepth 100000 in
set_option maxHeartbeats 4000000 in
theorem law_FletchOne (a0 : Option Addr) (len0 cap0 : Nat) (z0 : List Int) (a1 : Int) (a2 : Int) (w : World) (w0 : IsRow .u8 w a0 len0 cap0 z0) (w1 : (Lit.int .i64 a1).wf = true) (w2 : (Lit.int .u8 a2).wf = true) :
    Calls Try.prog 5 #[.slice a0 len0 cap0, .int .i64 a1, .int .u8 a2] w fun e w' => e = .returned (.bool true) ∧ Below w.heap.size w w' := by
  obtain ⟨hsl0, hz0⟩ := w0.sl
  obtain ⟨b1, b2⟩ := bounds_i64 w1
  obtain ⟨b3, b4⟩ := bounds_u8 w2
  clear w0 w1 w2
  generalize z0.take len0 = s at *
  have hm0 := hsl0.2.1
  have hn0 := hsl0.2.2.1
  unfold maxLen at hn0
  by_cases c0 : (1000 : Int) < len0
  · go_enter Try.func5, Try.ntmps5
    go_wp2_with fail
    refine (knows06_any _).mono ?_
    rintro e w1 ⟨rfl, hb⟩
    go_wp2_with fail
    go_ret
    exact ⟨rfl, hb⟩
  have hs255 : ∀ n ∈ s, 0 ≤ n ∧ n ≤ 255 := fun n hn => bounds_u8 (hz0 n hn)
  have hl0 := hid hsl0.1
  have hOS := hid (open_seal s)
  have hSL := sealS_len s
  have hzS : ∀ n ∈ sealS s, 0 ≤ n ∧ n ≤ 255 := by
    intro c hc
    have hf := flS_bd s 0 0 (by omega) (by omega)
    rcases List.mem_append.1 hc with h | h
    · exact hs255 c h
    · simp at h; rcases h with rfl | rfl
      · exact hf.1
      · exact hf.2
  have HONE := hid (one_byte s hs255)
  have HTWO := hid (two_bytes s hs255)
  have hbb : len0 ≤ 1000 := by omega
  go_enter Try.func5, Try.ntmps5
  go_wp2_with fail
  refine (knows06_any _).mono ?_
  rintro e w2 ⟨rfl, hb2⟩
  have hs0 := hsl0.below hb2
  go_wp2_with fail
  refine (seal_any _ _ _ s _ (by omega) hs0 hz0).mono ?_
  rintro e w3 ⟨ad3, cp3, rfl, own3, be3⟩
  have hs0 := hs0.below be3
  have hb3 := bthen hb2 be3
  generalize HAL : sealS s = al at *
  have hSL : al.length = len0 + 2 := by rw [hSL, hl0.out]
  have hAl := hid HAL
  clear HAL
  obtain ⟨-, g3, rfl, hg3⟩ := own3.addr (by rw [hSL]; omega)
  obtain ⟨_, _, hv, hsA⟩ := own3.sl
  cases hv
  rw [hSL] at hsA ⊢
  have hzal : ∀ n ∈ al, (Lit.int .u8 n).wf = true := fun n hn => byte_wf (hzS n hn).1 (hzS n hn).2
  clear own3 be3 hb2 hsl0
  go_wp2_with fail
  refine (open_any _ _ _ al _ (by omega) hsA hzal).mono ?_
  rintro e w4 ⟨ad4, cp4, rfl, own4, be4⟩
  rw [hOS.out] at own4 ⊢
  have hs0 := hs0.below be4
  have hsA := hsA.below be4
  have hb4 := bthen hb3 be4
  obtain ⟨_, _, hv, hsX⟩ := Own.sl (zs := s) own4
  cases hv
  rw [hl0.out] at hsX
  have el0 : ((some s).getD ([] : List Int)).length = len0 := hl0.out
  rw [el0]
  clear el0 own4 be4 hb3
  have hTX : ∀ (P : World → Prop), P w4 → P w4 := fun _ h => h
  have hzb : ∀ j, 0 ≤ al.getD j 0 ∧ al.getD j 0 ≤ 255 := fun j => by
    rw [List.getD_eq_getElem?_getD]
    by_cases hj : j < al.length
    · rw [List.getElem?_eq_getElem hj]; exact hzS _ (List.getElem_mem hj)
    · rw [List.getElem?_eq_none (by omega)]; simp
  by_cases c1 : 0 ≤ a1 ∧ a1 < (len0 : Int) + 2
  case neg =>
    go_wp2_with (first
      | (refine wpList_text _ rfl (.tmp 34) 22 9 5 rfl Try.underlying22 Try.underlying5 Try.underlying9 ad4 _ _ s rfl hsX ?_)
      | (refine wpList_text _ rfl (.tmp 36) 22 9 5 rfl Try.underlying22 Try.underlying5 Try.underlying9 _ _ _ s rfl hs0 ?_))
    all_goals (first | omega | skip)
    all_goals go_ret
    all_goals exact ⟨rfl, hb4⟩
  obtain ⟨i, rfl⟩ := Int.eq_ofNat_of_zero_le c1.1
  have hi : i < len0 + 2 := by omega
  have hgx := hid (rfl : al.getD i 0 = al.getD i 0)
  have hx := hzb i
  have be5 : Below w4.heap.size w4 (w4.alloc (.cells #[] 5)) := (Below.refl _ _).alloc (Nat.le_refl _) _
  have ho := Own.lit .u8 5 w4 [] w4.heap.size (Nat.le_refl _) (by simp) #[] rfl
  have hsA5 := hsA.below be5
  have sz5 := be5.size
  clear hSL
  go_wp2_with (first
    | (refine wpList_text _ rfl (.tmp 34) 22 9 5 rfl Try.underlying22 Try.underlying5 Try.underlying9 ad4 _ _ s rfl hsX ?_)
    | (refine wpList_text _ rfl (.tmp 36) 22 9 5 rfl Try.underlying22 Try.underlying5 Try.underlying9 _ _ _ s rfl hs0 ?_)
    | (at_builtin; refine wpList_appS _ w4 rfl (.tmp 56) (.tmp 57) 22 rfl w4.heap.size w4.heap.size 5 .u8 1 bytesOf (.slice (some ⟨w4.heap.size, 0, none⟩) 0 0) [] rfl ho _ _ cp3 al rfl hsA5 (by simp; omega) (by decide) be5 (Nat.le_refl _) sz5 ?_))
  all_goals (first | omega | skip)
  intro a6 cp6 w6 own6 be6
  have el6 : len0 + 2 = al.length := hsA.1.symm
  obtain ⟨-, g6, rfl, hg6⟩ := own6.addr (by rw [hsA.1]; omega)
  rw [el6] at own6
  have hia : i < al.length := by rw [hsA.1]; exact hi
  have cc6 := own6.cellAt i hia
  have cf6 := own6.free i
  have own7 := own6.set i ((al.getD i 0 + a2) % 256)
  have be7 : Below w4.heap.size w4 (w6.setCell ⟨g6, i, none⟩ (.int .u8 ((al.getD i 0 + a2) % 256))) := be6.setCell hg6 _
  generalize HX : al.getD i 0 = x at *
  have hX := hid HX
  clear HX
  have hEL := hid hsA.1
  clear own6 be6 el6 ho hsA5
  go_wp2_with fail
  obtain ⟨_, _, hv, hsO⟩ := own7.sl
  cases hv
  have eO : (al.set i ((x + a2) % 256)).length = len0 + 2 := by rw [List.length_set]; exact hEL.out
  rw [eO] at hsO
  have hz7 : ∀ n ∈ al.set i ((x + a2) % 256), (Lit.int .u8 n).wf = true := by
    intro n hn
    rcases List.mem_or_eq_of_mem_set hn with h | rfl
    · exact hzal n h
    · exact byte_wf (by omega) (by omega)
  have hO : (openS (al.set i ((x + a2) % 256))).isSome = decide (a2 = 0) := by
    rw [HONE.out i (by rw [hl0.out]; exact hi) _ (by omega), hX.out, decide_eq_decide]
    omega
  refine (open_any _ _ _ (al.set i ((x + a2) % 256)) _ (by omega) hsO hz7).mono ?_
  rintro e w8 ⟨ad8, cp8, rfl, own8, be8⟩
  rw [hO]
  have hs8 := (hsA.below be7).below be8
  have hb8 := bthen (bthen hb4 be7) be8
  clear own8 own7 be7 be8 hO hz7 hsO eO cc6 cf6 hs0 hsA hsX
  have be9 : Below w8.heap.size w8 (w8.alloc (.cells #[] 5)) := (Below.refl _ _).alloc (Nat.le_refl _) _
  have ho := Own.lit .u8 5 w8 [] w8.heap.size (Nat.le_refl _) (by simp) #[] rfl
  have hsA9 := hs8.below be9
  have sz9 := be9.size
  generalize HD : (((openS (al.set i ((x + a2) % 256))).getD []).length) = dl at *
  clear HD
  by_cases c2 : i + 1 = len0 + 2
  · have hII : (i : Int) + 1 = (len0 : Int) + 2 := by omega
    go_wp2_with fail
    all_goals go_ret
    all_goals exact ⟨by simp, hb8⟩
  have hII : ¬ ((i : Int) + 1 = (len0 : Int) + 2) := by omega
  have hi1 : i + 1 < len0 + 2 := by omega
  have hT : (openS ((al.set i (al.getD (i + 1) 0)).set (i + 1) (al.getD i 0))).isSome = decide (al.getD i 0 = al.getD (i + 1) 0) := HTWO.out i (by rw [hl0.out]; exact hi1)
  rw [hX.out] at hT
  have hy := hzb (i + 1)
  go_wp2_with (first
    | (at_builtin; refine wpList_appS _ w8 rfl (.tmp 88) (.tmp 89) 22 rfl w8.heap.size w8.heap.size 5 .u8 1 bytesOf (.slice (some ⟨w8.heap.size, 0, none⟩) 0 0) [] rfl ho _ _ cp3 al rfl hsA9 (by simp; omega) (by decide) be9 (Nat.le_refl _) sz9 ?_))
  all_goals (first | omega | skip)
  intro a10 cp10 w10 own10 be10
  have el10 : len0 + 2 = al.length := hEL.out.symm
  obtain ⟨-, g10, rfl, hg10⟩ := own10.addr (by omega)
  have hsA10 := hs8.below be10
  rw [el10] at own10
  have cy := hsA10.cell (i + 1) hi1
  have c10 := own10.cellAt i (by omega)
  have f10 := own10.free i
  generalize HY : al.getD (i + 1) 0 = y at *
  have hY := hid HY
  clear HY
  have own11 := own10.set i y
  have be11 : Below w8.heap.size w8 (w10.setCell ⟨g10, i, none⟩ (.int .u8 y)) := be10.setCell hg10 _
  have hsA11 := hs8.below be11
  have cx : (w10.setCell ⟨g10, i, none⟩ (.int .u8 y)).cell? ⟨g3, i, none⟩ = some (.int .u8 x) := by rw [hsA11.cell i (by omega), hX.out]
  have c11 := own11.cellAt (i + 1) (by rw [List.length_set]; omega)
  have f11 := own11.free (i + 1)
  have own12 := own11.set (i + 1) x
  have be12 : Below w8.heap.size w8 ((w10.setCell ⟨g10, i, none⟩ (.int .u8 y)).setCell ⟨g10, i + 1, none⟩ (.int .u8 x)) := be11.setCell hg10 _
  have hsA12 := hs8.below be12
  have cz0 := hsA12.cell i (by omega)
  have cz1 := hsA12.cell (i + 1) hi1
  rw [hX.out] at cz0
  rw [hY.out] at cz1
  obtain ⟨_, _, hv, hsW⟩ := own12.sl
  cases hv
  have eW : ((al.set i y).set (i + 1) x).length = len0 + 2 := by rw [List.length_set, List.length_set]; exact hEL.out
  rw [eW] at hsW
  have hzW : ∀ n ∈ (al.set i y).set (i + 1) x, (Lit.int .u8 n).wf = true := by
    intro n hn
    rcases List.mem_or_eq_of_mem_set hn with h | rfl
    · rcases List.mem_or_eq_of_mem_set h with h | rfl
      · exact hzal n h
      · exact byte_wf hy.1 hy.2
    · exact byte_wf hx.1 hx.2
  clear own10 own11 own12 be10 be11 hsA10 hsA11 hsA9 ho el10 eW
  go_wp2_with fail
  refine (open_any _ _ _ ((al.set i y).set (i + 1) x) _ (by omega) hsW hzW).mono ?_
  rintro e w13 ⟨ad13, cp13, rfl, own13, be13⟩
  rw [hT]
  have hb13 := bthen (bthen hb8 be12) be13
  have hs13 := hsA12.below be13
  have cz0 := hs13.cell i (by omega)
  have cz1 := hs13.cell (i + 1) hi1
  rw [hX.out] at cz0
  rw [hY.out] at cz1
  clear own13 be12 be13 hsA12 hsW hzW hT c10 c11 f10 f11 cx cy
  generalize HD : (((openS ((al.set i y).set (i + 1) x)).getD []).length) = dl2 at *
  clear HD
  go_wp2_with fail
  go_quiet (fail)
  go_wp2_with fail
  all_goals go_ret
  have hE : (decide (x = y) == (x == y)) = true := by by_cases h : x = y <;> simp [h]
  exact ⟨congrArg (fun b => Ending.returned (Value.bool b)) hE, bdrewN hb13 _⟩

end Go.Proofs.Ytjbamblmkbbpfaa
