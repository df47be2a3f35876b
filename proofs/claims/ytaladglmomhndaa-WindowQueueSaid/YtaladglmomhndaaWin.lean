/- Package window: the small methods. -/
import Derived.Test.YtaladglmomhndaaWinM
import Derived.Deep.DeepCutAuto
namespace Go.Proofs.Ytaladglmomhndaa
open Go.ChangeShapes Go.WideShapes Go.ChangeAt Go.RowKit
set_option linter.unusedVariables false
set_option linter.unusedSimpArgs false

/-- A window in memory. -/
def WdSt (B : Nat) (w : World) (L : List Int) : Prop := ∃ (R : List Int) (fr : Nat), w.heap[B]? = some (.cells (wdC R fr L.length) 41 (0, 0)) ∧ WdI R fr L
theorem WdSt.lt {B : Nat} {w : World} {L : List Int} (h : WdSt B w L) : B < w.heap.size := by
  obtain ⟨R, fr, h1, _⟩ := h
  exact held_lt h1
theorem WdSt.after {B : Nat} {w w2 : World} {L : List Int} (h : WdSt B w L) (hA : After w w2) : WdSt B w2 L := by
  obtain ⟨R, fr, h1, h2⟩ := h
  exact ⟨R, fr, held_after hA h1, h2⟩
theorem eff_refl (g : Nat) (w : World) : Eff g w w := ⟨rfl, rfl, rfl, Nat.le_refl _, fun _ _ _ => rfl⟩
theorem eff_trans {g : Nat} {a b c : World} (h : Eff g a b) (k : Eff g b c) : Eff g a c := ⟨k.os.trans h.os, k.tape.trans h.tape, k.output.trans h.output, Nat.le_trans h.size k.size, fun j h1 h2 => (k.block j (Nat.lt_of_lt_of_le h1 h.size) h2).trans (h.block j h1 h2)⟩
theorem eff_after {g : Nat} {a b : World} (h : After a b) : Eff g a b := ⟨h.os, h.tape, h.output, h.size, fun j h1 _ => h.block j h1⟩
theorem eff_only {g : Nat} {a b : World} (h : Only g a b) : Eff g a b := ⟨h.os, h.tape, h.output, by rw [h.size]; exact Nat.le_refl _, fun j _ h2 => h.block j h2⟩
theorem eff_set {g j : Nat} (w : World) (v : Value) : Eff g w (w.setCell ⟨g, j, none⟩ v) := ⟨rfl, rfl, rfl, by simp [World.setCell], fun k _ h => Below.heap_setCell w ⟨g, j, none⟩ v k h⟩
theorem eff_below {M g : Nat} {a b c : World} (h : Below M a b) (k : Eff g b c) (hg : M ≤ g) (hM : M ≤ b.heap.size) : Below M a c := h.trans ⟨k.os, k.tape, k.output, k.size, fun j hj => k.block j (by omega) (by omega)⟩
theorem own_eff {k : IntKind} {E T : TypeId} {w U : World} {base g : Nat} {v : Value} {zs : List Int} {c : Array Value} (h : Own k E w base v zs) (hg : w.heap[g]? = some (.cells c T (0, 0))) (hT : T ≠ E) (hE : Eff g w U) : Own k E U base v zs :=
  World.ownsRow.kept (w' := U) (row := some g) h ⟨hE.os, hE.tape, hE.output, hE.size, fun j h1 h2 => hE.block j h1 (fun e => h2 (by rw [e]))⟩ (.inr (fun e => own_ne h hg hT e.symm))
theorem sl_eff {k : IntKind} {w U : World} {g : Nat} {a : Option Addr} {len cap : Nat} {zs : List Int} (h : Sl k w a len cap zs) (hE : Eff g w U) (hn : 0 < len → ∀ p, a = some p → p.block ≠ g) : Sl k U a len cap zs := by
  refine ⟨h.1, h.2.1, h.2.2.1, h.2.2.2.1, fun i hi => ?_⟩
  obtain ⟨b, off, e, hc⟩ := h.2.2.2.2 i hi
  exact ⟨b, off, e, (World.cell?_of_block (w := w) (hE.block b (World.block_lt_of_cell? w _ hc) (hn (by have := h.1; omega) _ e))).trans hc⟩
theorem sl_lt {k : IntKind} {w : World} {a : Option Addr} {len cap : Nat} {zs : List Int} (h : Sl k w a len cap zs) (h0 : 0 < len) : ∀ p, a = some p → p.block < w.heap.size := by
  intro p e
  obtain ⟨b, off, e2, hc⟩ := h.2.2.2.2 0 (by have := h.1; omega)
  rw [e] at e2; cases e2
  exact World.block_lt_of_cell? w _ hc
set_option maxRecDepth 100000 in
theorem cutHw (a : Option Addr) (len cap n : Nat) (hc : n ≤ cap) (W : World) : (Instr.slice 27 (.slice a len cap) none (some (.int .i64 (n : Int))) none).run Try.prog W = .ok (.slice a n cap) W := by
  have az : a.map (fun x => x.add 0) = a := by
    cases a with
    | none => rfl
    | some q => cases q; rfl
  rw [run_slice_h W 27 a len cap (by rfl) .i64 (n : Int) (by omega) (by omega)]
  by_cases e : cap = 0
  · go_simp <;> simp [sliced, e]
  · go_simp <;> simp [sliced, e, az]
theorem cutLw (a : Option Addr) (len cap n : Nat) (hc : len ≤ cap) (hn : n ≤ len) : ∃ a2 : Option Addr, (∀ W : World, (Instr.slice 27 (.slice a len cap) (some (.int .i64 (n : Int))) none none).run Try.prog W = .ok (.slice a2 (len - n) (cap - n)) W) ∧ (∀ (U : World) (zs : List Int), Sl .u8 U a len cap zs → Sl .u8 U a2 (len - n) (cap - n) (zs.drop n)) ∧ (∀ q, a2 = some q → ∃ p, a = some p ∧ p.block = q.block) := by
  have e : ∀ W : World, (Instr.slice 27 (.slice a len cap) (some (.int .i64 (n : Int))) none none).run Try.prog W = .ok (.slice (if cap = n then a else a.map (·.add n)) (len - n) (cap - n)) W := by
    intro W
    rw [run_slice_l W 27 a len cap (by rfl) .i64 (n : Int) (by omega) (by omega)]
    go_simp <;> simp [sliced]
  by_cases c : cap = n
  · refine ⟨a, ?_, ?_, fun q h => ⟨q, h, rfl⟩⟩
    · intro W; rw [e W, if_pos c]
    · intro U zs h
      have := h.end n hn c
      rw [show cap - n = 0 by omega]
      exact this
  · refine ⟨a.map (·.add n), ?_, ?_, fun q h => ?_⟩
    · intro W; rw [e W, if_neg c]
    · intro U zs h; exact h.drop n hn
    · obtain ⟨p, h1, h2⟩ := Option.map_eq_some_iff.1 h
      refine ⟨p, h1, ?_⟩
      subst h2
      obtain ⟨b0, o0, s0⟩ := p
      cases s0 <;> (simp only [Addr.add]; split <;> rfl)
set_option maxRecDepth 100000 in
/-- The ring from a place on, and the whole one. -/
theorem ring_l (B n : Nat) (h : n < 1024) (W : World) : (Instr.sliceAt 39 (.pointer (some ⟨B, 1, none⟩)) (some (.int .i64 (n : Int))) none none).run Try.prog W = .ok (.slice (some ⟨B, 1 + n, none⟩) (1024 - n) (1024 - n)) W := by
  have hal : Try.prog.arrayLen 39 = 1024 := by rfl
  rw [run_sliceAt_array_l W 39 ⟨B, 1, none⟩ (by rfl) .i64 (n : Int) (by omega) (by rw [hal]; omega)]
  rw [hal]
  have e : ¬ 1024 = n := by omega
  go_simp <;> simp [slicedAt, Addr.add, e]
set_option maxRecDepth 100000 in
theorem ring_a (B : Nat) (W : World) : (Instr.sliceAt 39 (.pointer (some ⟨B, 1, none⟩)) none none none).run Try.prog W = .ok (.slice (some ⟨B, 1, none⟩) 1024 1024) W := by
  have hal : Try.prog.arrayLen 39 = 1024 := by rfl
  rw [run_sliceAt_array_all W 39 ⟨B, 1, none⟩ (by rfl)]
  rw [hal]
  go_simp <;> simp [slicedAt, Addr.add]
theorem ring_sl {B : Nat} {w : World} {R : List Int} {fr ct : Int} (h : w.heap[B]? = some (.cells (wdC R fr ct) 41 (0, 0))) (hR : R.length = 1024) (n : Nat) (hn : n ≤ 1024) : Sl .u8 w (some ⟨B, 1 + n, none⟩) (1024 - n) (1024 - n) (R.drop n) := by
  refine ⟨by rw [List.length_drop, hR], Nat.le_refl _, by unfold maxLen; omega, (fun e => by cases e), fun i hi => ?_⟩
  rw [List.length_drop, hR] at hi
  refine ⟨B, 1 + n, rfl, ?_⟩
  rw [getD_dropI, show 1 + n + i = 1 + (n + i) by omega]
  exact held_cell h (1 + (n + i)) _ (wdC_ring fr ct (by omega))
/-- Bytes are copied into the ring. -/
theorem wp_copyR {P : Program} {w : World} {o : Oper} {a : Act} {K : Act → World → Prop} {Q : Exit → Act → World → Prop} (d s : Operand) (t : TypeId)
    (ho : o.op = .call { callee := .builtin .copy, args := #[d, s], argTypes := #[t, t] }) (T E : TypeId) (b : Nat) (hT : IntsOf P t E .u8 b)
    (g n dLen dCap : Nat) (R : List Int) (hR : R.length = 1024) (fr ct : Int) (hrow : w.heap[g]? = some (.cells (wdC R fr ct) T (0, 0))) (hd : a.eval d = .slice (some ⟨g, 1 + n, none⟩) dLen dCap) (hfit : n + dLen ≤ 1024)
    (ad : Option Addr) (len cap : Nat) (ys : List Int) (hs : a.eval s = .slice ad len cap) (hsl : Sl .u8 w ad len cap ys) (cnt : Nat) (hcnt : (ys.take dLen).length = cnt) (R2 : List Int) (hR2 : laid R n (ys.take dLen) = R2)
    (h : ∀ w', w'.heap[g]? = some (.cells (wdC R2 fr ct) T (0, 0)) → Only g w w' → K (a.put o.dst (.int .i64 (cnt : Int))) w') : o.wp P a w K Q := by
  subst hcnt hR2
  obtain ⟨ht, hi⟩ := hT
  obtain ⟨i, hi1, hz, hsz, hby⟩ := info_parts hi
  obtain ⟨rfl, h2, h3, h4, h5⟩ := hsl
  have hlen : ((ys.take dLen).map (Value.int .u8)).length = Nat.min ys.length dLen := by rw [List.length_map, List.length_take, Nat.min_comm]
  have hmin : Nat.min ys.length dLen ≤ dLen := Nat.min_le_right _ _
  have hs1 : (P.info? E).map (·.size) = some 1 := by rw [hi1]; simp [hsz]
  by_cases h0 : (ys.take dLen).length = 0
  · have hnil : ys.take dLen = [] := List.eq_nil_of_length_eq_zero h0
    have hrun := run_copy_none (P := P) w t t o.type E (some ⟨g, 1 + n, none⟩) ad dLen dCap ys.length cap ht hs1 (by rw [← hlen, List.length_map]; exact h0)
    unfold Oper.wp
    simp [execOp, ho, resolve, invoke, builtin, hd, hs, hrun, Result.andThen]
    have := h w (by rw [hnil]; simpa [laid] using hrow) ⟨rfl, rfl, rfl, rfl, fun _ _ => rfl⟩
    rw [h0] at this
    exact this
  · have hp : 0 < ys.length := by rw [List.length_take] at h0; omega
    obtain ⟨b0, o0, ha0, _⟩ := h5 0 hp
    have hrun := run_copy_row (P := P) w t t o.type E g (1 + n) dLen dCap ⟨b0, o0, none⟩ ys.length cap (wdC R fr ct) T ((ys.take dLen).map (Value.int .u8)) ht hs1 hrow hlen ?_ (by rw [wdC_size hR, hlen]; omega) (by intro v hv; obtain ⟨x, _, rfl⟩ := List.mem_map.1 hv; rfl)
    · unfold Oper.wp
      rw [ha0] at hs
      simp [execOp, ho, resolve, invoke, builtin, hd, hs, hrun, Result.andThen]
      have := h (w.setRow g ((wdC R fr ct).toList.take (1 + n) ++ (ys.take dLen).map (Value.int .u8) ++ (wdC R fr ct).toList.drop (1 + n + ((ys.take dLen).map (Value.int .u8)).length)).toArray) ?_ (setRow_only _ hrow)
      · show K (a.put o.dst (.int .i64 _)) _
        simpa using this
      · rw [setRow_heap w g _ _ T _ hrow, wdC_laid hR fr ct (by rw [List.length_take]; omega)]
    · intro j v hj
      have hjl : j < (ys.take dLen).length := by
        rcases Nat.lt_or_ge j (ys.take dLen).length with hl | hl
        · exact hl
        · rw [List.getElem?_eq_none (by simpa using hl)] at hj; cases hj
      have hjy : j < ys.length := by rw [List.length_take] at hjl; omega
      have hjd : j < dLen := by rw [List.length_take] at hjl; omega
      obtain ⟨b1, o1, ha1, hc⟩ := h5 j hjy
      rw [ha0] at ha1; cases ha1
      have hv : v = .int .u8 (ys.getD j 0) := by
        simp [hjd, hjy] at hj; simp [hjy, hj]
      rw [hv]
      by_cases hj0 : j = 0
      · subst hj0; simpa [Addr.add] using hc
      · simpa [Addr.add, hj0] using hc
theorem wright_any (B : Nat) (w : World) (L : List Int) (hW : WdSt B w L) : Calls Try.prog 17 #[.pointer (some ⟨B, 0, none⟩)] w fun e w' => e = .returned (.bool true) ∧ w' = w := by
  obtain ⟨R, fr, hH, hI⟩ := hW
  have hR := hI.1
  have hfr := hI.2.1
  have hct := hI.2.2.1
  have z0 := held_cell hH 0 _ (wdC_0 R fr L.length)
  have z1 := held_cell hH 1025 _ (wdC_from hR fr L.length)
  have z2 := held_cell hH 1026 _ (wdC_cnt hR fr L.length)
  clear z1 z2 hI hH
  go_enter Try.func17, Try.ntmps17
  go_wp2_with fail
  go_ret
  exact ⟨rfl, rfl⟩
set_option maxRecDepth 100000 in
set_option maxHeartbeats 2000000 in
theorem wlen_any (B : Nat) (w : World) (L : List Int) (hW : WdSt B w L) : Calls Try.prog 14 #[.pointer (some ⟨B, 0, none⟩)] w fun e w' => e = .returned (.int .i64 (L.length : Int)) ∧ w' = w := by
  have kr := hid (wright_any B w L hW)
  obtain ⟨R, fr, hH, hI⟩ := hW
  have hR := hI.1
  have hfr := hI.2.1
  have hct := hI.2.2.1
  have z0 := held_cell hH 0 _ (wdC_0 R fr L.length)
  have z1 := held_cell hH 1025 _ (wdC_from hR fr L.length)
  have z2 := held_cell hH 1026 _ (wdC_cnt hR fr L.length)
  clear z0 z1 hI hH
  generalize L.length = n at *
  go_enter Try.func14, Try.ntmps14
  go_wp2_with fail
  refine kr.out.mono ?_
  rintro e w2 ⟨rfl, rfl⟩
  go_wp2_with fail
  go_ret
  exact ⟨rfl, rfl⟩
set_option maxRecDepth 100000 in
set_option maxHeartbeats 2000000 in
theorem wroom_any (B : Nat) (w : World) (L : List Int) (hW : WdSt B w L) : Calls Try.prog 15 #[.pointer (some ⟨B, 0, none⟩)] w fun e w' => e = .returned (.int .i64 ((1024 - L.length : Nat) : Int)) ∧ w' = w := by
  have kr := hid (wright_any B w L hW)
  obtain ⟨R, fr, hH, hI⟩ := hW
  have hR := hI.1
  have hfr := hI.2.1
  have hct := hI.2.2.1
  have z0 := held_cell hH 0 _ (wdC_0 R fr L.length)
  have z1 := held_cell hH 1025 _ (wdC_from hR fr L.length)
  have z2 := held_cell hH 1026 _ (wdC_cnt hR fr L.length)
  have wr : IntKind.i64.wrap (1024 - (L.length : Int)) = ((1024 - L.length : Nat) : Int) := by rw [IntKind.wrap_i64]; omega
  clear z0 z1 hI hH
  generalize L.length = n at *
  go_enter Try.func15, Try.ntmps15
  go_wp2_with fail
  refine kr.out.mono ?_
  rintro e w2 ⟨rfl, rfl⟩
  go_wp2_with fail
  go_ret
  exact ⟨rfl, rfl⟩
set_option maxRecDepth 100000 in
set_option maxHeartbeats 4000000 in
theorem wfirst_any (B : Nat) (w : World) (L : List Int) (hW : WdSt B w L) : Calls Try.prog 13 #[.pointer (some ⟨B, 0, none⟩)] w fun e w' => e = .returned (.tuple #[.int .u8 (L.getD 0 0), .bool (decide (0 < L.length))]) ∧ After w w' := by
  have kr := hid (wlen_any B w L hW)
  obtain ⟨R, fr, hH, hI⟩ := hW
  have hR := hI.1
  have hfr := hI.2.1
  have hct := hI.2.2.1
  have z0 := held_cell hH 0 _ (wdC_0 R fr L.length)
  have z1 := held_cell hH 1025 _ (wdC_from hR fr L.length)
  have z2 := held_cell hH 1026 _ (wdC_cnt hR fr L.length)
  have h0 := hid (hI.2.2.2.1 0)
  clear z0 z2
  by_cases hn : L.length = 0
  case pos =>
    have hL : L = [] := List.length_eq_zero_iff.1 hn
    subst hL
    dsimp only [List.length_nil] at kr
    clear h0 hI hn hH hct
    go_enter Try.func13, Try.ntmps13
    go_wp2_with fail
    refine kr.out.mono ?_
    rintro e w2 ⟨rfl, rfl⟩
    go_wp2_with fail
    go_ret2
    exact ⟨rfl, Below.refl _ _⟩
  have hv : R.getD fr 0 = L.getD 0 0 := by have := h0.out (by omega); rwa [Nat.add_zero, Nat.mod_eq_of_lt hfr] at this
  have zr := held_cell hH (1 + fr) _ (wdC_ring (R := R) fr L.length (by rw [hR]; exact hfr))
  rw [hv] at zr
  have hpos := hid (show decide (0 < L.length) = true from decide_eq_true (by omega))
  have q : ((L.length : Int) == 0) = false := beq_eq_false_iff_ne.2 (by omega)
  obtain ⟨X, hX⟩ : ∃ X, L.getD 0 0 = X := ⟨_, rfl⟩
  rw [hX] at zr ⊢
  rw [hpos.out]
  have qz : (0 : Int) ≤ fr := by omega
  have q1024 : (fr : Int) < 1024 := by omega
  have z1d := (show w.drew.cell? _ = _ from z1)
  have zrd := (show w.drew.cell? _ = _ from zr)
  clear h0 hI hv hX hpos hH
  generalize L.length = n at *
  replace hn := hid hn
  go_enter Try.func13, Try.ntmps13
  go_wp2_with fail
  refine kr.out.mono ?_
  rintro e w2 ⟨rfl, hv⟩
  obtain rfl : w = w2 := hv.symm
  clear hv
  go_upto_region 3 with (fail)
  refine wp_region_R (by kernel_rfl) ?_
  refine wpAnyR_take 0 rfl (by kernel_rfl) (by kernel_rfl) (by kernel_rfl) (fun _ _ _ _ h => h) ⟨_, Or.inl ⟨by rfl, fun w2 hb2 => by (go_simp; try with_reducible rfl)⟩, _, by (go_simp; try rfl), ?_⟩
  refine wpAnyR_take 1 rfl (by kernel_rfl) (by kernel_rfl) (by kernel_rfl) (fun _ _ _ _ h => h) ⟨_, Or.inl ⟨by rfl, fun w2 hb2 => by (go_simp; try with_reducible rfl)⟩, _, by (go_simp; try rfl), ?_⟩
  refine wpAnyR_take 2 rfl (by kernel_rfl) (by kernel_rfl) (by kernel_rfl) (fun _ _ _ _ h => h) ⟨_, Or.inl ⟨by rfl, fun w2 hb2 => by (go_simp; try with_reducible rfl)⟩, _, by (go_simp; try rfl), ?_⟩
  refine wpAnyR_take 3 rfl (by kernel_rfl) (by kernel_rfl) (by kernel_rfl) (fun _ _ _ _ h => h) ⟨_, Or.inl ⟨by rfl, fun w2 hb2 => by (go_simp; try with_reducible rfl)⟩, _, by (go_simp; try rfl), ?_⟩
  refine wpAnyR_take 4 rfl (by kernel_rfl) (by kernel_rfl) (by kernel_rfl) (fun _ _ _ _ h => h) ⟨_, Or.inl ⟨by rfl, fun w2 hb2 => by (have hx := (Below.cell hb2 (World.block_lt_of_cell? w _ z1)).trans z1; go_simp; try with_reducible rfl)⟩, _, by (go_simp; try rfl), ?_⟩
  refine wpAnyR_take 5 rfl (by kernel_rfl) (by kernel_rfl) (by kernel_rfl) (fun _ _ _ _ h => h) ⟨_, Or.inl ⟨by rfl, fun w2 hb2 => by (go_simp; try with_reducible rfl)⟩, _, by (go_simp; try rfl), ?_⟩
  refine wpAnyR_take 6 rfl (by kernel_rfl) (by kernel_rfl) (by kernel_rfl) (fun _ _ _ _ h => h) ⟨_, Or.inl ⟨by rfl, fun w2 hb2 => by (go_simp; try with_reducible rfl)⟩, _, by (go_simp; try rfl), ?_⟩
  refine wpAnyR_take 7 rfl (by kernel_rfl) (by kernel_rfl) (by kernel_rfl) (fun _ _ _ _ h => h) ⟨_, Or.inl ⟨by rfl, fun w2 hb2 => by (go_simp; try with_reducible rfl)⟩, _, by (go_simp; try rfl), ?_⟩
  refine wpAnyR_take 8 rfl (by kernel_rfl) (by kernel_rfl) (by kernel_rfl) (fun _ _ _ _ h => h) ⟨_, Or.inl ⟨by rfl, fun w2 hb2 => by (have hx := (Below.cell hb2 (World.block_lt_of_cell? w _ zr)).trans zr; go_simp; try with_reducible rfl)⟩, _, by (go_simp; try rfl), ?_⟩
  refine wpAnyR_take 9 rfl (by kernel_rfl) (by kernel_rfl) (by kernel_rfl) (fun _ _ _ _ h => h) ⟨_, Or.inl ⟨by rfl, fun w2 hb2 => by (go_simp; try with_reducible rfl)⟩, _, by (go_simp; try rfl), ?_⟩
  refine wpAnyR_take 10 rfl (by kernel_rfl) (by kernel_rfl) (by kernel_rfl) (fun _ _ _ _ h => h) ⟨_, Or.inl ⟨by rfl, fun w2 hb2 => by (go_simp; try with_reducible rfl)⟩, _, by (go_simp; try rfl), ?_⟩
  refine wpAnyR_done (by kernel_rfl) ?_ _
  go_wp2_with fail
  go_ret2
  exact ⟨rfl, (Below.refl _ w).drew⟩
/-- How many go. -/
def goN (n : Int) (m : Nat) : Nat := (max 0 (min n (m : Int))).toNat
set_option maxRecDepth 100000 in
set_option maxHeartbeats 4000000 in
theorem wdrop_any (B : Nat) (n : Int) (w : World) (L : List Int) (hW : WdSt B w L) (h1 : -9223372036854775808 ≤ n) (h2 : n ≤ 9223372036854775807) : Calls Try.prog 9 #[.pointer (some ⟨B, 0, none⟩), .int .i64 n] w fun e w' => e = .returned (.int .i64 (goN n L.length : Int)) ∧ WdSt B w' (L.drop (goN n L.length)) ∧ Eff B w w' := by
  have kr := hid (wlen_any B w L hW)
  have hW0 := hid hW
  obtain ⟨R, fr, hH, hI⟩ := hW
  have hR := hI.1
  have hfr := hI.2.1
  have hct := hI.2.2.1
  have z0 := held_cell hH 0 _ (wdC_0 R fr L.length)
  have z1 := held_cell hH 1025 _ (wdC_from hR fr L.length)
  have z2 := held_cell hH 1026 _ (wdC_cnt hR fr L.length)
  obtain ⟨m, hm⟩ : ∃ m, L.length = m := ⟨_, rfl⟩
  obtain ⟨k, hk⟩ : ∃ k, goN n L.length = k := ⟨_, rfl⟩
  have hkm : k ≤ m := by unfold goN at hk; omega
  have hkm2 : k ≤ L.length := by omega
  rw [hk]
  have hI2 := hid (wdI_drop hI hkm2)
  have hdl := hid (show (L.drop k).length = m - k by rw [List.length_drop, hm])
  rw [hm] at kr hct z2 hH
  have hgo : goN n m = k := by rw [← hm]; exact hk
  unfold goN at hgo
  clear z0 hI hW0
  by_cases hk0 : k = 0
  case pos =>
    subst hk0
    have hE := hid (show WdSt B w (L.drop 0) from ⟨R, fr, by rw [List.drop_zero, hm]; exact hH, by have h := hI2.out; rwa [Nat.add_zero, Nat.mod_eq_of_lt hfr] at h⟩)
    have mn : (if (m : Int) < n then (m : Int) else n) ≤ 0 := by split <;> omega
    obtain ⟨q, hq⟩ : ∃ q, (if (m : Int) < n then (m : Int) else n) = q := ⟨_, rfl⟩
    have mx : (if (0 : Int) < q then q else 0) = 0 := by rw [hq] at mn; rw [if_neg (by omega)]
    rw [hq] at mn
    have nq : ¬ (0 : Int) < q := by omega
    clear hgo hI2 hdl hH z1 z2
    replace hm := hid hm
    replace hk := hid hk
    go_enter Try.func9, Try.ntmps9
    go_wp2_with fail
    refine kr.out.mono ?_
    rintro e w2 ⟨rfl, rfl⟩
    go_wp2_with fail
    all_goals go_ret
    all_goals exact ⟨rfl, hE.out, eff_refl _ _⟩
  have hk1 : 0 < k := by omega
  have mn : (if (m : Int) < n then (m : Int) else n) = k := by split <;> omega
  have mx : (if (0 : Int) < (k : Int) then (k : Int) else 0) = k := by rw [if_pos (by omega)]
  have k0 : (0 : Int) < k := by omega
  obtain ⟨f2, hf2⟩ : ∃ z, (fr + k) % 1024 = z := ⟨_, rfl⟩
  have hf2I : ((fr : Int) + (k : Int)) % 1024 = (f2 : Int) := by omega
  have w1 : IntKind.i64.wrap ((fr : Int) + (k : Int)) = (fr : Int) + (k : Int) := by rw [IntKind.wrap_i64]; omega
  have w2 : Int.tmod ((fr : Int) + (k : Int)) 1024 = (f2 : Int) := by rw [Int.tmod_eq_emod_of_nonneg (by omega)]; exact hf2I
  have w3 : IntKind.i64.wrap (Int.tmod ((fr : Int) + (k : Int)) 1024) = (f2 : Int) := by rw [w2, IntKind.wrap_i64]; omega
  have w5 : IntKind.i64.wrap (f2 : Int) = (f2 : Int) := by rw [IntKind.wrap_i64]; omega
  have w4 : IntKind.i64.wrap ((m : Int) - (k : Int)) = ((m - k : Nat) : Int) := by rw [IntKind.wrap_i64]; omega
  rw [hf2] at hI2
  have g1 := held_free hH 1025
  have s1 := held_set hH 1025 (.int .i64 (f2 : Int))
  rw [wdC_setF hR] at s1
  have y2 := held_cell s1 1026 _ (wdC_cnt hR f2 m)
  have g2 := held_free s1 1026
  have s2 := held_set s1 1026 (.int .i64 ((m - k : Nat) : Int))
  rw [wdC_setC hR] at s2
  have e1 := eff_set (g := B) (j := 1025) w (.int .i64 (f2 : Int))
  have e2 := eff_trans e1 (eff_set (g := B) (j := 1026) (w.setCell ⟨B, 1025, none⟩ (.int .i64 (f2 : Int))) (.int .i64 ((m - k : Nat) : Int)))
  have hE := hid (show WdSt B ((w.setCell ⟨B, 1025, none⟩ (.int .i64 (f2 : Int))).setCell ⟨B, 1026, none⟩ (.int .i64 ((m - k : Nat) : Int))) (L.drop k) from ⟨R, f2, by rw [hdl.out]; exact s2, hI2.out⟩)
  replace e2 := hid e2
  clear hgo hI2 hdl hH s1 s2 e1 hf2
  replace hm := hid hm
  replace hk := hid hk
  replace hk0 := hid hk0
  go_enter Try.func9, Try.ntmps9
  go_wp2_with fail
  refine kr.out.mono ?_
  rintro e w2 ⟨rfl, rfl⟩
  go_wp2_with fail
  all_goals go_ret
  all_goals exact ⟨rfl, hE.out, e2.out⟩

end Go.Proofs.Ytaladglmomhndaa
