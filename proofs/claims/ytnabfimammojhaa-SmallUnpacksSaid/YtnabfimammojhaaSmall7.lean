/- The reference of package small: Unpack. -/
import Derived.Test.YtnabfimammojhaaSmall6
import Derived.RegionTactic
import Derived.ChangeAlike
namespace Go.Proofs.Ytnabfimammojhaa
open Go.ChangeShapes Go.WideShapes Go.ChangeAt Go.RowKit Go.Shelf
set_option linter.unusedVariables false

/-- What the list has when k parts have come. -/
def rL (o : Nat) (Y : Nat → Int) : Nat → List Int
  | 0 => []
  | k + 1 => (if k = o then rL o Y k ++ [0] else rL o Y k) ++ [Y (k + 1)]
def rS (Y : Nat → Int) : Nat → Int
  | 0 => 0
  | k + 1 => rS Y k + Y (k + 1) * Y (k + 1)
theorem rL_len (o : Nat) (Y : Nat → Int) : ∀ k, (rL o Y k).length = if o < k then k + 1 else k
  | 0 => by simp [rL]
  | k + 1 => by
    unfold rL
    have h := rL_len o Y k
    by_cases c : k = o
    · rw [if_pos c, List.length_append, List.length_append, h, if_neg (by omega), if_pos (by omega)]; simp
    · rw [if_neg c, List.length_append, h]
      by_cases d : o < k
      · rw [if_pos d, if_pos (by omega)]; simp
      · rw [if_neg d, if_neg (by omega)]; simp
theorem rL_put {o k : Nat} {Y : Nat → Int} (h : k = o) : rL o Y (k + 1) = (rL o Y k ++ [0]) ++ [Y (k + 1)] := by
  show (if k = o then _ else _) ++ _ = _
  rw [if_pos h]
theorem rL_go {o k : Nat} {Y : Nat → Int} (h : k ≠ o) : rL o Y (k + 1) = rL o Y k ++ [Y (k + 1)] := by
  show (if k = o then _ else _) ++ _ = _
  rw [if_neg h]
theorem rL_end {o : Nat} (ho : o < 3) (Y : Nat → Int) : rL o Y 3 = unL o 0 (Y 1) (Y 2) (Y 3) := by
  obtain rfl | rfl | rfl : o = 0 ∨ o = 1 ∨ o = 2 := by omega
  all_goals rfl
theorem rL_end3 (Y : Nat → Int) : rL 3 Y 3 = [Y 1, Y 2, Y 3] := rfl
theorem rS_b (Y : Nat → Int) (hY : ∀ j, j < 3 → -759250125 ≤ Y (j + 1) ∧ Y (j + 1) ≤ 759250125) : ∀ k, k ≤ 3 → 0 ≤ rS Y k ∧ rS Y k ≤ 576460752312515625 * k
  | 0, _ => ⟨Int.le_refl _, Int.le_refl _⟩
  | k + 1, h => by
    have h1 := rS_b Y hY k (by omega)
    have h2 := hY k (by omega)
    have h3 := sq_bd _ h2.1 h2.2
    unfold rS; omega

theorem rS_bk (Y N : Nat → Int) : ∀ k, k ≤ 3 → (∀ j, j < k → -759250125 ≤ Y (j + 1) ∧ Y (j + 1) ≤ 759250125) → 0 ≤ rS Y k ∧ rS Y k ≤ 576460752312515625 * k
  | 0, _, _ => ⟨Int.le_refl _, Int.le_refl _⟩
  | k + 1, h, hY => by
    have h1 := rS_bk Y N k (by omega) (fun j hj => hY j (by omega))
    have h2 := hY k (by omega)
    have h3 := sq_bd _ h2.1 h2.2
    unfold rS; omega
theorem rsqrt_int (n : Int) (w : World) (h0 : 0 ≤ n) (h : n ≤ 18446744073709551615) :
    Calls Try.prog 28 #[.int .u64 n] w fun e w' => e = .returned (.int .u32 (sqrtS n.toNat)) ∧ w' = w := by
  obtain ⟨k, rfl⟩ := Int.eq_ofNat_of_zero_le h0
  exact rsqrt_nat k w (by omega)
theorem own_cell4 {E : TypeId} {w : World} {base g : Nat} {cap : Nat} {a b c d : Int} (h : Own .i32 E w base (.slice (some ⟨g, 0, none⟩) 4 cap) [a, b, c, d]) :
    w.cell? ⟨g, 0, none⟩ = some (.int .i32 a) ∧ w.cell? ⟨g, 1, none⟩ = some (.int .i32 b) ∧ w.cell? ⟨g, 2, none⟩ = some (.int .i32 c) ∧ w.cell? ⟨g, 3, none⟩ = some (.int .i32 d) := by
  obtain ⟨g0, e0, _, h0, _, _⟩ := Own.cellSet h 0 (by simp)
  obtain ⟨g1, e1, _, h1, _, _⟩ := Own.cellSet h 1 (by simp)
  obtain ⟨g2, e2, _, h2, _, _⟩ := Own.cellSet h 2 (by simp)
  obtain ⟨g3, e3, _, h3, _, _⟩ := Own.cellSet h 3 (by simp)
  cases e0; cases e1; cases e2; cases e3
  exact ⟨h0, h1, h2, h3⟩
theorem drew_cell {W : World} {p : Addr} {v : Value} (h : W.cell? p = some v) : W.drew.cell? p = some v := h
theorem i32s : IntsOf Try.prog 44 21 .i32 4 := ⟨Try.underlying44, by kernel_rfl⟩
set_option maxRecDepth 100000 in
set_option maxHeartbeats 4000000 in
theorem runpack_any (x : Nat) (w : World) (hx : x < 4294967296) :
    Calls Try.prog 11 #[.int .u32 x] w fun e w' => e = .returned (unpackT x) ∧ Below w.heap.size w w' := by
  go_enter Try.func11, Try.ntmps11
  have r2 := World.alloc_heap_new w (.cells #[.int .i32 0, .int .i32 0, .int .i32 0, .int .i32 0] 23)
  have r4 := World.alloc_heap_new (w.alloc (.cells #[.int .i32 0, .int .i32 0, .int .i32 0, .int .i32 0] 23)) (.cells #[.int .i64 2, .int .i64 10, .int .i64 10, .int .i64 10] 3)
  rw [World.size_alloc] at r4
  have rA : After w ((w.alloc (.cells #[.int .i32 0, .int .i32 0, .int .i32 0, .int .i32 0] 23)).alloc (.cells #[.int .i64 2, .int .i64 10, .int .i64 10, .int .i64 10] 3)) := ((Below.refl _ w).alloc (Nat.le_refl _) _).alloc (by simp) _
  have r2b := (Below.heap_alloc (w.alloc (.cells #[.int .i32 0, .int .i32 0, .int .i32 0, .int .i32 0] 23)) (.cells #[.int .i64 2, .int .i64 10, .int .i64 10, .int .i64 10] 3) w.heap.size (by simp)).trans r2
  have rz : ((w.alloc (.cells #[.int .i32 0, .int .i32 0, .int .i32 0, .int .i32 0] 23)).alloc (.cells #[.int .i64 2, .int .i64 10, .int .i64 10, .int .i64 10] 3)).heap.size = w.heap.size + 1 + 1 := by simp
  have kS := rsplit_any x (some ⟨w.heap.size + 1, 0, none⟩) 4 4 [2, 10, 10, 10] _ hx (Row.sl (show Row .i64 3 _ _ [2, 10, 10, 10] from r4) (by unfold maxLen; simp)) (by decide) (by omega)
  replace r2b := hid r2b
  clear r4 r2
  go_wp2_with fail
  refine kS.mono ?_
  rintro e W1 ⟨ad, len, cap, rfl, hsl, hb1⟩
  rw [split4] at hsl
  rw [right4B]
  have hB0 := bthen rA hb1
  have q2 := held_after hb1 r2b.out
  have hs1 := hb1.size
  rw [rz] at hs1
  clear kS r2b rz rA hb1
  have hpb := pa_b x
  have hT : Go.RowKit.Hid (unpackT x = unT (pa x 0).toNat (pa x 1) (pa x 2) (pa x 3)) := hid rfl
  obtain ⟨rfl, blk, off, rfl, hblk, hcl⟩ := sel4_of (k := 0) hsl
  generalize pa x 0 = a0 at *
  generalize pa x 1 = a1 at *
  generalize pa x 2 = a2 at *
  generalize pa x 3 = a3 at *
  clear hsl
  obtain ⟨o, rfl⟩ := Int.eq_ofNat_of_zero_le hpb.1.1
  have ho : o < 4 := by omega
  rw [Int.toNat_natCast] at hT
  have hc0 := hcl 0 (by omega)
  have e0 : sel4 0 (o : Int) a1 a2 a3 = o := rfl
  rw [e0, Nat.add_zero] at hc0
  clear e0
  have hwo : IntKind.i64.wrap (o : Int) = o := by rw [IntKind.wrap_i64]; omega
  replace hcl := hid hcl
  replace q2 := hid q2
  replace hB0 := hid hB0
  replace hpb := hid hpb
  have hYb : Go.RowKit.Hid (∀ j, j < 3 → sel4 (j + 1) (o : Int) a1 a2 a3 ≠ 0 → -759250125 ≤ yS (sel4 (j + 1) (o : Int) a1 a2 a3) ∧ yS (sel4 (j + 1) (o : Int) a1 a2 a3) ≤ 759250125) := hid (fun j hj hn => by have := sel4_123 (o : Int) a1 a2 a3 hj; have := hpb.out; exact yS_b _ (by omega) (by omega))
  go_wp2_with fail
  go_loopw [7, 8, 9] (fun l s i wr => ∃ (k : Nat) (ad : Option Addr) (cp : Nat), k ≤ 3 ∧ i = .int .i64 ((k : Int) + 1) ∧ s = .int .i64 (rS (fun j => yS (sel4 j (o : Int) a1 a2 a3)) k) ∧ l = .slice ad (rL o (fun j => yS (sel4 j (o : Int) a1 a2 a3)) k).length cp ∧ Own .i32 21 wr W1.heap.size (.slice ad (rL o (fun j => yS (sel4 j (o : Int) a1 a2 a3)) k).length cp) (rL o (fun j => yS (sel4 j (o : Int) a1 a2 a3)) k) ∧ (∀ j, j < k → sel4 (j + 1) (o : Int) a1 a2 a3 ≠ 0) ∧ Below W1.heap.size W1 wr) (fun l s i _ => 4 - (intOf i).toNat)
  case atStart => exact ⟨0, none, 0, by omega, rfl, rfl, rfl, Own.nil _ _ _ _, fun j hj => by omega, Below.refl _ _⟩
  case round =>
    obtain ⟨k, ad, cp, hk, rfl, rfl, rfl, hO, hz, hB⟩ := hrel
    by_cases hlt : (k : Int) + 1 < 4
    case neg =>
      obtain rfl : k = 3 := by omega
      have hT0 := hT.out
      clear hlt hk hc0 hT
      have z1 : a1 ≠ 0 := hz 0 (by omega)
      have z2 : a2 ≠ 0 := hz 1 (by omega)
      have z3 : a3 ≠ 0 := hz 2 (by omega)
      clear hz
      have hpb2 := hpb.out
      have b1 := yS_b a1 (by omega) (by omega)
      have b2 := yS_b a2 (by omega) (by omega)
      have b3 := yS_b a3 (by omega) (by omega)
      have hS3 : rS (fun j => yS (sel4 j (o : Int) a1 a2 a3)) 3 = sq3 a1 a2 a3 := by show ((0 + yS a1 * yS a1) + yS a2 * yS a2) + yS a3 * yS a3 = _; unfold sq3; omega
      rw [hS3]
      have kT1 := hid (fun h => hT0.trans (unT_big (o := o) z1 z2 z3 h))
      have kT2 := hid (fun h => hT0.trans (unT_ok (o := o) z1 z2 z3 h))
      have hsb := sq3_b b1 b2 b3
      clear hT0 hpb hpb2 hcl z1 z2 z3 hS3 hYb
      have hl4 : rL o (fun j => yS (sel4 j (o : Int) a1 a2 a3)) 3 = (if o = 0 then [0, yS a1, yS a2, yS a3] else if o = 1 then [yS a1, 0, yS a2, yS a3] else if o = 2 then [yS a1, yS a2, 0, yS a3] else [yS a1, yS a2, yS a3]) := by
        obtain rfl | rfl | rfl | rfl : o = 0 ∨ o = 1 ∨ o = 2 ∨ o = 3 := by omega
        all_goals rfl
      rw [hl4] at hO ⊢
      clear hl4
      generalize yS a1 = y1 at *
      generalize yS a2 = y2 at *
      generalize yS a3 = y3 at *
      generalize sq3 a1 a2 a3 = S at *
      have r2 := (hB.block w.heap.size (by omega)).trans q2.out
      have r2r : Row .i32 23 wr w.heap.size [0, 0, 0, 0] := r2
      have hBw := hid (hB0.out.trans (hB.mono (by omega)))
      have hsz := hB.size
      replace r2r := hid r2r
      replace hB := hid hB
      clear r2 q2
      replace b1 := hid b1
      replace b2 := hid b2
      replace b3 := hid b3
      have hwN : IntKind.i64.wrap (1152921504606846976 - S) = 1152921504606846976 - S := by rw [IntKind.wrap_i64]; omega
      obtain rfl | rfl | rfl | rfl : o = 0 ∨ o = 1 ∨ o = 2 ∨ o = 3 := by omega
      · skip
        have hO4 : Own .i32 21 wr W1.heap.size (.slice ad 4 cp) [0, y1, y2, y3] := hO
        clear hO
        replace hO4 := hid hO4
        go_upto_region 17 with (fail)
        by_cases cs : (1152921504606846976 : Int) < S
        · have kT := hid (kT1.out cs)
          clear kT1 kT2
          obtain ⟨f0, f1, f2, f3, f4, f5, f6, f7⟩ := r2r.out.four
          go_wp2_with fail
          have s2 := Row.set4 r2r.out 0 0 0 0
          have e0 := held_cell s2 0 _ rfl
          have e1 := held_cell s2 1 _ rfl
          have e2 := held_cell s2 2 _ rfl
          have e3 := held_cell s2 3 _ rfl
          refine bodyPost_ret (v := unpackT x) ?_ rfl ⟨rfl, below4 hBw.out w.heap.size _ _ _ _ (Nat.le_refl _)⟩
          rw [kT.out]
          simp [results, Try.results11, go_sem, zeroT, e0, e1, e2, e3]
        have kT := hid (kT2.out (by omega))
        clear kT1 kT2
        have hwU : IntKind.u64.wrap (1152921504606846976 - S) = 1152921504606846976 - S := by simp [IntKind.wrap, IntKind.bits, IntKind.signed]; omega
        have kR := fun w => rsqrt_int (1152921504606846976 - S) w (by omega) (by omega)
        have hRb := sqrt_60 (1152921504606846976 - S) (by omega)
        generalize sqrtS (1152921504606846976 - S).toNat = R at *
        have hwR : IntKind.i32.wrap (R : Int) = R := by rw [IntKind.wrap_i32]; omega
        obtain ⟨gb, rfl, hgb, c0, c1, hset⟩ := Own.cellSet hO4.out 0 (by simp)
        have hO5 := hset (R : Int)
        have hx := own_cell4 hO5
        clear hset
        replace hO5 := hid hO5
        replace hx := hid hx
        go_upto_region 20 with (fail)
        refine (kR _).mono ?_
        rintro e w5 ⟨rfl, rfl⟩
        go_upto_region 20 with (fail)
        obtain ⟨x0, x1, x2, x3⟩ := hx.out
        clear hx
        have hne : w.heap.size ≠ gb := by omega
        have r3 := hid (held_oth (j := 0) (v := .int .i32 R) hne r2r.out)
        have hB8 := hid (hBw.out.setCell (p := ⟨gb, 0, none⟩) (by show w.heap.size ≤ gb; omega) (.int .i32 R))
        obtain ⟨f0, f1, f2, f3, f4, f5, f6, f7⟩ := (show Row .i32 23 _ w.heap.size [0, 0, 0, 0] from r3.out).four
        generalize World.setCell _ ⟨gb, 0, none⟩ (.int .i32 R) = V at *
        go_region
        go_wp2_with fail
        have s2 := Row.set4 (show Row .i32 23 V w.heap.size [0, 0, 0, 0] from r3.out) (R : Int) y1 y2 y3
        have e0 := drew_cell (held_cell s2 0 _ rfl)
        have e1 := drew_cell (held_cell s2 1 _ rfl)
        have e2 := drew_cell (held_cell s2 2 _ rfl)
        have e3 := drew_cell (held_cell s2 3 _ rfl)
        refine bodyPost_ret (v := unpackT x) ?_ rfl ⟨rfl, (below4 hB8.out w.heap.size (.int .i32 (R : Int)) (.int .i32 y1) (.int .i32 y2) (.int .i32 y3) (Nat.le_refl _)).drew⟩
        rw [kT.out]
        simp [results, Try.results11, go_sem, unL, e0, e1, e2, e3]
      · skip
        have hO4 : Own .i32 21 wr W1.heap.size (.slice ad 4 cp) [y1, 0, y2, y3] := hO
        clear hO
        replace hO4 := hid hO4
        go_upto_region 17 with (fail)
        by_cases cs : (1152921504606846976 : Int) < S
        · have kT := hid (kT1.out cs)
          clear kT1 kT2
          obtain ⟨f0, f1, f2, f3, f4, f5, f6, f7⟩ := r2r.out.four
          go_wp2_with fail
          have s2 := Row.set4 r2r.out 0 0 0 0
          have e0 := held_cell s2 0 _ rfl
          have e1 := held_cell s2 1 _ rfl
          have e2 := held_cell s2 2 _ rfl
          have e3 := held_cell s2 3 _ rfl
          refine bodyPost_ret (v := unpackT x) ?_ rfl ⟨rfl, below4 hBw.out w.heap.size _ _ _ _ (Nat.le_refl _)⟩
          rw [kT.out]
          simp [results, Try.results11, go_sem, zeroT, e0, e1, e2, e3]
        have kT := hid (kT2.out (by omega))
        clear kT1 kT2
        have hwU : IntKind.u64.wrap (1152921504606846976 - S) = 1152921504606846976 - S := by simp [IntKind.wrap, IntKind.bits, IntKind.signed]; omega
        have kR := fun w => rsqrt_int (1152921504606846976 - S) w (by omega) (by omega)
        have hRb := sqrt_60 (1152921504606846976 - S) (by omega)
        generalize sqrtS (1152921504606846976 - S).toNat = R at *
        have hwR : IntKind.i32.wrap (R : Int) = R := by rw [IntKind.wrap_i32]; omega
        obtain ⟨gb, rfl, hgb, c0, c1, hset⟩ := Own.cellSet hO4.out 1 (by simp)
        have hO5 := hset (R : Int)
        have hx := own_cell4 hO5
        clear hset
        replace hO5 := hid hO5
        replace hx := hid hx
        go_upto_region 20 with (fail)
        refine (kR _).mono ?_
        rintro e w5 ⟨rfl, rfl⟩
        go_upto_region 20 with (fail)
        obtain ⟨x0, x1, x2, x3⟩ := hx.out
        clear hx
        have hne : w.heap.size ≠ gb := by omega
        have r3 := hid (held_oth (j := 1) (v := .int .i32 R) hne r2r.out)
        have hB8 := hid (hBw.out.setCell (p := ⟨gb, 1, none⟩) (by show w.heap.size ≤ gb; omega) (.int .i32 R))
        obtain ⟨f0, f1, f2, f3, f4, f5, f6, f7⟩ := (show Row .i32 23 _ w.heap.size [0, 0, 0, 0] from r3.out).four
        generalize World.setCell _ ⟨gb, 1, none⟩ (.int .i32 R) = V at *
        go_region
        go_wp2_with fail
        have s2 := Row.set4 (show Row .i32 23 V w.heap.size [0, 0, 0, 0] from r3.out) y1 (R : Int) y2 y3
        have e0 := drew_cell (held_cell s2 0 _ rfl)
        have e1 := drew_cell (held_cell s2 1 _ rfl)
        have e2 := drew_cell (held_cell s2 2 _ rfl)
        have e3 := drew_cell (held_cell s2 3 _ rfl)
        refine bodyPost_ret (v := unpackT x) ?_ rfl ⟨rfl, (below4 hB8.out w.heap.size (.int .i32 y1) (.int .i32 (R : Int)) (.int .i32 y2) (.int .i32 y3) (Nat.le_refl _)).drew⟩
        rw [kT.out]
        simp [results, Try.results11, go_sem, unL, e0, e1, e2, e3]
      · skip
        have hO4 : Own .i32 21 wr W1.heap.size (.slice ad 4 cp) [y1, y2, 0, y3] := hO
        clear hO
        replace hO4 := hid hO4
        go_upto_region 17 with (fail)
        by_cases cs : (1152921504606846976 : Int) < S
        · have kT := hid (kT1.out cs)
          clear kT1 kT2
          obtain ⟨f0, f1, f2, f3, f4, f5, f6, f7⟩ := r2r.out.four
          go_wp2_with fail
          have s2 := Row.set4 r2r.out 0 0 0 0
          have e0 := held_cell s2 0 _ rfl
          have e1 := held_cell s2 1 _ rfl
          have e2 := held_cell s2 2 _ rfl
          have e3 := held_cell s2 3 _ rfl
          refine bodyPost_ret (v := unpackT x) ?_ rfl ⟨rfl, below4 hBw.out w.heap.size _ _ _ _ (Nat.le_refl _)⟩
          rw [kT.out]
          simp [results, Try.results11, go_sem, zeroT, e0, e1, e2, e3]
        have kT := hid (kT2.out (by omega))
        clear kT1 kT2
        have hwU : IntKind.u64.wrap (1152921504606846976 - S) = 1152921504606846976 - S := by simp [IntKind.wrap, IntKind.bits, IntKind.signed]; omega
        have kR := fun w => rsqrt_int (1152921504606846976 - S) w (by omega) (by omega)
        have hRb := sqrt_60 (1152921504606846976 - S) (by omega)
        generalize sqrtS (1152921504606846976 - S).toNat = R at *
        have hwR : IntKind.i32.wrap (R : Int) = R := by rw [IntKind.wrap_i32]; omega
        obtain ⟨gb, rfl, hgb, c0, c1, hset⟩ := Own.cellSet hO4.out 2 (by simp)
        have hO5 := hset (R : Int)
        have hx := own_cell4 hO5
        clear hset
        replace hO5 := hid hO5
        replace hx := hid hx
        go_upto_region 20 with (fail)
        refine (kR _).mono ?_
        rintro e w5 ⟨rfl, rfl⟩
        go_upto_region 20 with (fail)
        obtain ⟨x0, x1, x2, x3⟩ := hx.out
        clear hx
        have hne : w.heap.size ≠ gb := by omega
        have r3 := hid (held_oth (j := 2) (v := .int .i32 R) hne r2r.out)
        have hB8 := hid (hBw.out.setCell (p := ⟨gb, 2, none⟩) (by show w.heap.size ≤ gb; omega) (.int .i32 R))
        obtain ⟨f0, f1, f2, f3, f4, f5, f6, f7⟩ := (show Row .i32 23 _ w.heap.size [0, 0, 0, 0] from r3.out).four
        generalize World.setCell _ ⟨gb, 2, none⟩ (.int .i32 R) = V at *
        go_region
        go_wp2_with fail
        have s2 := Row.set4 (show Row .i32 23 V w.heap.size [0, 0, 0, 0] from r3.out) y1 y2 (R : Int) y3
        have e0 := drew_cell (held_cell s2 0 _ rfl)
        have e1 := drew_cell (held_cell s2 1 _ rfl)
        have e2 := drew_cell (held_cell s2 2 _ rfl)
        have e3 := drew_cell (held_cell s2 3 _ rfl)
        refine bodyPost_ret (v := unpackT x) ?_ rfl ⟨rfl, (below4 hB8.out w.heap.size (.int .i32 y1) (.int .i32 y2) (.int .i32 (R : Int)) (.int .i32 y3) (Nat.le_refl _)).drew⟩
        rw [kT.out]
        simp [results, Try.results11, go_sem, unL, e0, e1, e2, e3]
      · skip
        have hO3 : Own .i32 21 wr W1.heap.size (.slice ad 3 cp) [y1, y2, y3] := hO
        clear hO
        replace hO3 := hid hO3
        go_upto_region 17 with (at_builtin; refine wpList_app2 wr W1 rfl (.tmp 58) (.tmp 59) 44 rfl W1.heap.size W1.heap.size 21 .i32 4 i32s (.slice ad 3 cp) [y1, y2, y3] rfl hO3.out 0 rfl (by simp) (by decide) hB.out (Nat.le_refl _) hsz ?_)
        intro a9 cp9 w9 hO9 hB9 hk9
        have hO4 : Own .i32 21 w9 W1.heap.size (.slice a9 4 cp9) [y1, y2, y3, 0] := by simpa using hO9
        replace hO4 := hid hO4
        replace r2r := hid (show Row .i32 23 w9 w.heap.size [0, 0, 0, 0] from hk9 _ _ _ _ _ (by decide) r2r.out)
        clear hk9 hO9 hO3 hBw hsz
        have hBw := hid (hB0.out.trans (hB9.mono (by omega)))
        clear hB
        have hB := hid hB9
        clear hB9
        go_upto_region 17 with (fail)
        by_cases cs : (1152921504606846976 : Int) < S
        · have kT := hid (kT1.out cs)
          clear kT1 kT2
          obtain ⟨f0, f1, f2, f3, f4, f5, f6, f7⟩ := r2r.out.four
          go_wp2_with fail
          have s2 := Row.set4 r2r.out 0 0 0 0
          have e0 := held_cell s2 0 _ rfl
          have e1 := held_cell s2 1 _ rfl
          have e2 := held_cell s2 2 _ rfl
          have e3 := held_cell s2 3 _ rfl
          refine bodyPost_ret (v := unpackT x) ?_ rfl ⟨rfl, below4 hBw.out w.heap.size _ _ _ _ (Nat.le_refl _)⟩
          rw [kT.out]
          simp [results, Try.results11, go_sem, zeroT, e0, e1, e2, e3]
        have kT := hid (kT2.out (by omega))
        clear kT1 kT2
        have hwU : IntKind.u64.wrap (1152921504606846976 - S) = 1152921504606846976 - S := by simp [IntKind.wrap, IntKind.bits, IntKind.signed]; omega
        have kR := fun w => rsqrt_int (1152921504606846976 - S) w (by omega) (by omega)
        have hRb := sqrt_60 (1152921504606846976 - S) (by omega)
        generalize sqrtS (1152921504606846976 - S).toNat = R at *
        have hwR : IntKind.i32.wrap (R : Int) = R := by rw [IntKind.wrap_i32]; omega
        obtain ⟨gb, rfl, hgb, c0, c1, hset⟩ := Own.cellSet hO4.out 3 (by simp)
        have hO5 := hset (R : Int)
        have hx := own_cell4 hO5
        clear hset
        replace hO5 := hid hO5
        replace hx := hid hx
        go_upto_region 20 with (fail)
        refine (kR _).mono ?_
        rintro e w5 ⟨rfl, rfl⟩
        go_upto_region 20 with (fail)
        obtain ⟨x0, x1, x2, x3⟩ := hx.out
        clear hx
        have hne : w.heap.size ≠ gb := by omega
        have r3 := hid (held_oth (j := 3) (v := .int .i32 R) hne r2r.out)
        have hB8 := hid (hBw.out.setCell (p := ⟨gb, 3, none⟩) (by show w.heap.size ≤ gb; omega) (.int .i32 R))
        obtain ⟨f0, f1, f2, f3, f4, f5, f6, f7⟩ := (show Row .i32 23 _ w.heap.size [0, 0, 0, 0] from r3.out).four
        generalize World.setCell _ ⟨gb, 3, none⟩ (.int .i32 R) = V at *
        go_region
        go_wp2_with fail
        have s2 := Row.set4 (show Row .i32 23 V w.heap.size [0, 0, 0, 0] from r3.out) y1 y2 y3 (R : Int)
        have e0 := drew_cell (held_cell s2 0 _ rfl)
        have e1 := drew_cell (held_cell s2 1 _ rfl)
        have e2 := drew_cell (held_cell s2 2 _ rfl)
        have e3 := drew_cell (held_cell s2 3 _ rfl)
        refine bodyPost_ret (v := unpackT x) ?_ rfl ⟨rfl, (below4 hB8.out w.heap.size (.int .i32 y1) (.int .i32 y2) (.int .i32 y3) (.int .i32 (R : Int)) (Nat.le_refl _)).drew⟩
        rw [kT.out]
        simp [results, Try.results11, go_sem, unL, e0, e1, e2, e3]
    case pos =>
      have hlt2 : k < 3 := by omega
      have hck := (hB.cell (p := ⟨blk, off + (k + 1), none⟩) hblk).trans (hcl.out (k + 1) (by omega))
      have hor := sel4_123 (o : Int) a1 a2 a3 hlt2
      have hvb : 0 ≤ sel4 (k + 1) (o : Int) a1 a2 a3 ∧ sel4 (k + 1) (o : Int) a1 a2 a3 < 1024 := by have := hpb.out; omega
      clear hor
      have hyb := hid (hYb.out k hlt2)
      have hll := hid (rL_len o (fun j => yS (sel4 j (o : Int) a1 a2 a3)) k)
      have hput := hid (rL_put (o := o) (k := k) (Y := (fun j => yS (sel4 j (o : Int) a1 a2 a3))))
      have hgo := hid (rL_go (o := o) (k := k) (Y := (fun j => yS (sel4 j (o : Int) a1 a2 a3))))
      have hSn : Go.RowKit.Hid (rS (fun j => yS (sel4 j (o : Int) a1 a2 a3)) (k + 1) = rS (fun j => yS (sel4 j (o : Int) a1 a2 a3)) k + yS (sel4 (k + 1) (o : Int) a1 a2 a3) * yS (sel4 (k + 1) (o : Int) a1 a2 a3)) := hid rfl
      have hSb := rS_bk (fun j => yS (sel4 j (o : Int) a1 a2 a3)) (fun j => sel4 (j + 1) (o : Int) a1 a2 a3) k (by omega) (fun j hj => hYb.out j (by omega) (hz j hj))
      have hll2 : (rL o (fun j => yS (sel4 j (o : Int) a1 a2 a3)) k).length ≤ 4 := by rw [hll.out]; split <;> omega
      have hlo : ((rL o (fun j => yS (sel4 j (o : Int) a1 a2 a3)) k).length : Int) = o ↔ k = o := by rw [hll.out]; split <;> omega
      try dsimp only at hput hgo
      generalize rS (fun j => yS (sel4 j (o : Int) a1 a2 a3)) k = s at *
      generalize hrl : rL o (fun j => yS (sel4 j (o : Int) a1 a2 a3)) k = l at *
      replace hrl := hid hrl
      have hm1 : (k : Int) + 1 < 4 := hlt
      have hm0 : 0 ≤ (k : Int) + 1 := by omega
      have hmn : ((k : Int) + 1).toNat = k + 1 := by omega
      generalize hv : sel4 (k + 1) (o : Int) a1 a2 a3 = v at *
      replace hv := hid hv
      have hsz := hB.size
      replace hO := hid hO
      replace hz := hid hz
      by_cases c : v = 0
      case pos =>
        have r2 := (hB.block w.heap.size (by omega)).trans q2.out
        have r2r : Row .i32 23 wr w.heap.size [0, 0, 0, 0] := r2
        obtain ⟨f0, f1, f2, f3, f4, f5, f6, f7⟩ := r2r.four
        have hBw := hid (hB0.out.trans (hB.mono (by omega)))
        replace r2r := hid r2r
        have hT2 := hid (hT.out.trans (unT_zero (o := o) hlt2 (hv.out.trans c)))
        clear r2 hyb hput hgo hlo
        subst c
        replace hB := hid hB
        go_wp2_with fail
        have s2 := Row.set4 r2r.out 0 0 0 0
        have e0 := held_cell s2 0 _ rfl
        have e1 := held_cell s2 1 _ rfl
        have e2 := held_cell s2 2 _ rfl
        have e3 := held_cell s2 3 _ rfl
        refine bodyPost_ret (v := unpackT x) ?_ rfl ⟨rfl, below4 hBw.out w.heap.size _ _ _ _ (Nat.le_refl _)⟩
        rw [hT2.out]
        simp [results, Try.results11, go_sem, zeroT, e0, e1, e2, e3]
      have hb1 : (v == 0) = false := by simpa using c
      have hyb2 := hyb.out c
      have hyy : Go.RowKit.Hid (yS v = overS ((v - 512) * 759250125) 511) := hid rfl
      rw [hyy.out] at hyb2 hput hgo hSn
      have hw1 : IntKind.i64.wrap v = v := by rw [IntKind.wrap_i64]; omega
      have hw2 : IntKind.i64.wrap (v - 512) = v - 512 := by rw [IntKind.wrap_i64]; omega
      have hw3 : IntKind.i64.wrap ((v - 512) * 759250125) = (v - 512) * 759250125 := by rw [IntKind.wrap_i64]; omega
      have hov := fun w => rover_any ((v - 512) * 759250125) 511 w (by omega) (by omega) (by omega) (by omega)
      have hw6 : IntKind.i64.wrap ((k : Int) + 1 + 1) = (k : Int) + 1 + 1 := by rw [IntKind.wrap_i64]; omega
      generalize overS ((v - 512) * 759250125) 511 = y at *
      have hw4 : IntKind.i32.wrap y = y := by rw [IntKind.wrap_i32]; omega
      have hy2 := sq_bd y hyb2.1 hyb2.2
      generalize hY2 : y * y = Y2 at *
      have hw5 : IntKind.i64.wrap Y2 = Y2 := by rw [IntKind.wrap_i64]; omega
      have hw7 : IntKind.i64.wrap (s + Y2) = s + Y2 := by rw [IntKind.wrap_i64]; omega
      clear hyy hyb hSb hy2
      have hz1 : Go.RowKit.Hid (∀ j, j < k + 1 → sel4 (j + 1) (o : Int) a1 a2 a3 ≠ 0) := hid (fun j hj => by by_cases e : j = k; (rw [e, hv.out]; exact c); exact hz.out j (by omega))
      replace hB := hid hB
      clear hz
      by_cases ck : k = o
      case pos =>
        have e1 := hid (hput.out ck)
        have hlo2 : (l.length : Int) = o := hlo.2 ck
        have hbl : ((l.length : Int) == (o : Int)) = true := by simpa using hlo2
        clear hput hgo hlo
        replace hlo2 := hid hlo2
        replace ck := hid ck
        go_wp2_with fail
        refine (hov _).mono ?_
        rintro e w5 ⟨rfl, rfl⟩
        go_wp2_with ((at_builtin; refine wpList_app2 w5 W1 rfl (.tmp 43) (.tmp 44) 44 rfl W1.heap.size W1.heap.size 21 .i32 4 i32s (.slice ad l.length cp) (l) rfl hO.out 0 rfl (by simp; omega) (by decide) hB.out (Nat.le_refl _) hsz ?_))
        intro a8 cp8 w8 hO8 hB8 hk8
        clear hk8
        have hs8 := hB8.size
        replace hO8 := hid hO8
        replace hB8 := hid hB8
        go_wp2_with ((at_builtin; refine wpList_app2 w8 W1 rfl (.tmp 46) (.tmp 49) 44 rfl W1.heap.size W1.heap.size 21 .i32 4 i32s (.slice a8 (l.length + 1) cp8) (l ++ [0]) rfl hO8.out y rfl (by simp; omega) (by decide) hB8.out (Nat.le_refl _) hs8 ?_))
        intro a9 cp9 w9 hO9 hB9 hk9
        clear hk9
        replace hO9 := hid hO9
        replace hB9 := hid hB9
        have hSn2 := hid hSn.out
        clear hSn
        go_wp2_with fail
        go_roundw
        case rel => first | exact ⟨k + 1, a9, cp9, by omega, by simp, by rw [hSn2.out], by rw [e1.out]; simp, by rw [e1.out]; simpa using hO9.out, hz1.out, hB9.out⟩ | ((repeat apply Exists.intro); exact ⟨⟨k + 1, a9, cp9, by omega, by simp, by rw [hSn2.out], by rw [e1.out]; simp, by rw [e1.out]; simpa using hO9.out, hz1.out, hB9.out⟩, rfl⟩)
        case measure => show 4 - ((k : Int) + 1 + 1).toNat < 4 - ((k : Int) + 1).toNat; omega
      case neg =>
        have e1 := hid (hgo.out ck)
        have hlo2 : ¬ (l.length : Int) = o := fun h => ck (hlo.1 h)
        have hbl : ((l.length : Int) == (o : Int)) = false := by simpa using hlo2
        clear hput hgo hlo
        replace hlo2 := hid hlo2
        replace ck := hid ck
        go_wp2_with fail
        refine (hov _).mono ?_
        rintro e w5 ⟨rfl, rfl⟩
        go_wp2_with ((at_builtin; refine wpList_app2 w5 W1 rfl (.tmp 46) (.tmp 49) 44 rfl W1.heap.size W1.heap.size 21 .i32 4 i32s (.slice ad l.length cp) (l) rfl hO.out y rfl (by simp; omega) (by decide) hB.out (Nat.le_refl _) hsz ?_))
        intro a9 cp9 w9 hO9 hB9 hk9
        clear hk9
        replace hO9 := hid hO9
        replace hB9 := hid hB9
        have hSn2 := hid hSn.out
        clear hSn
        go_wp2_with fail
        go_roundw
        case rel => first | exact ⟨k + 1, a9, cp9, by omega, by simp, by rw [hSn2.out], by rw [e1.out]; simp, by rw [e1.out]; simpa using hO9.out, hz1.out, hB9.out⟩ | ((repeat apply Exists.intro); exact ⟨⟨k + 1, a9, cp9, by omega, by simp, by rw [hSn2.out], by rw [e1.out]; simp, by rw [e1.out]; simpa using hO9.out, hz1.out, hB9.out⟩, rfl⟩)
        case measure => show 4 - ((k : Int) + 1 + 1).toNat < 4 - ((k : Int) + 1).toNat; omega

end Go.Proofs.Ytnabfimammojhaa
