/- Package small: Unpack. -/
import Derived.Test.YtnabfimammojhaaSmall5
namespace Go.Proofs.Ytnabfimammojhaa
open Go.ChangeShapes Go.WideShapes Go.ChangeAt Go.RowKit Go.Shelf
set_option linter.unusedVariables false

theorem keepsOthers_drewN (W : World) (n : Nat) : KeepsOthers W (W.drewN n) := ⟨Nat.le_refl _, fun _ _ h _ => h⟩
theorem held_put {W : World} {D g : Nat} {c : Array Value} {T : TypeId} {f : Nat × Nat} (h : W.heap[g]? = some (.cells c T f)) (hK : W.heap[D]? = some (.deferred (some []))) (o : Obj) : (W.putObj D o).heap[g]? = some (.cells c T f) := by
  rw [World.putObj_heap_other (fun e => by subst e; rw [h] at hK; cases hK)]; exact h
theorem sel4_of {a b c d : Int} {k : Nat} {w : World} {ad : Option Addr} {len cap : Nat} (h : Sl .u32 w ad len cap [a, b, c, d]) : len = 4 ∧ ∃ blk off, ad = some ⟨blk, off, none⟩ ∧ blk < w.heap.size ∧ ∀ j, j < 4 → w.cell? ⟨blk, off + j, none⟩ = some (.int .u32 (sel4 j a b c d)) := by
  obtain ⟨h1, _, _, _, hr⟩ := h
  refine ⟨h1.symm, ?_⟩
  obtain ⟨blk, off, e, hc⟩ := hr 0 (by simp)
  refine ⟨blk, off, e, World.block_lt_of_cell? w _ hc, fun j hj => ?_⟩
  obtain ⟨b2, o2, e2, hc2⟩ := hr j (by simpa using hj)
  rw [e] at e2; cases e2
  rw [getD4 j a b c d hj] at hc2
  exact hc2

theorem sel4_123 (a b c d : Int) {k : Nat} (hk : k < 3) : sel4 (k + 1) a b c d = b ∨ sel4 (k + 1) a b c d = c ∨ sel4 (k + 1) a b c d = d := by
  obtain rfl | rfl | rfl : k = 0 ∨ k = 1 ∨ k = 2 := by omega
  · exact .inl rfl
  · exact .inr (.inl rfl)
  · exact .inr (.inr rfl)
theorem unT_zero {o : Nat} {a b c d : Int} {k : Nat} (hk : k < 3) (h : sel4 (k + 1) d a b c = 0) : unT o a b c = zeroT := by
  have hor : a = 0 ∨ b = 0 ∨ c = 0 := by
    obtain rfl | rfl | rfl : k = 0 ∨ k = 1 ∨ k = 2 := by omega
    · exact .inl h
    · exact .inr (.inl h)
    · exact .inr (.inr h)
  unfold unT; rw [if_pos hor]

theorem unT_big {o : Nat} {a b c : Int} (h1 : a ≠ 0) (h2 : b ≠ 0) (h3 : c ≠ 0) (h : 1152921504606846976 < sq3 a b c) : unT o a b c = zeroT := by
  unfold unT; rw [if_neg (by simp [h1, h2, h3]), if_pos h]
theorem unT_ok {o : Nat} {a b c : Int} (h1 : a ≠ 0) (h2 : b ≠ 0) (h3 : c ≠ 0) (h : ¬ 1152921504606846976 < sq3 a b c) : unT o a b c = .tuple #[.agg ((unL o (sqrtS (1152921504606846976 - sq3 a b c).toNat : Nat) (yS a) (yS b) (yS c)).map (Value.int .i32)).toArray, .bool true] := by
  unfold unT; rw [if_neg (by simp [h1, h2, h3]), if_neg h]
theorem sq3_b {a b c : Int} (h1 : -759250125 ≤ yS a ∧ yS a ≤ 759250125) (h2 : -759250125 ≤ yS b ∧ yS b ≤ 759250125) (h3 : -759250125 ≤ yS c ∧ yS c ≤ 759250125) : 0 ≤ sq3 a b c ∧ sq3 a b c ≤ 1729382256937546875 := by
  have k1 := sq_bd _ h1.1 h1.2
  have k2 := sq_bd _ h2.1 h2.2
  have k3 := sq_bd _ h3.1 h3.2
  unfold sq3; omega
theorem sqrt_60 (n : Int) (h : n ≤ 1152921504606846976) : sqrtS n.toNat ≤ 1073741824 := by
  have h1 := (sqrtS_spec n.toNat (by omega)).1
  have h2 : sqrtS n.toNat * sqrtS n.toNat ≤ 1152921504606846976 := by omega
  rcases Nat.lt_or_ge 1073741824 (sqrtS n.toNat) with k | k
  · have := Nat.mul_le_mul k k; omega
  · exact k
theorem unL_wf (o : Nat) {a b c : Int} (h1 : -759250125 ≤ a ∧ a ≤ 759250125) (h2 : -759250125 ≤ b ∧ b ≤ 759250125) (h3 : -759250125 ≤ c ∧ c ≤ 759250125) : ∀ n ∈ unL o 0 a b c, (Lit.int .i32 n).wf = true := by
  have e1 : IntKind.i32.min = -2147483648 := rfl
  have e2 : IntKind.i32.max = 2147483647 := rfl
  have H : ∀ n : Int, n = 0 ∨ n = a ∨ n = b ∨ n = c → (Lit.int .i32 n).wf = true := fun n h => by
    simp [Lit.wf, e1, e2]; omega
  intro n hn
  refine H n ?_
  unfold unL at hn
  split at hn
  · simp at hn; omega
  · split at hn
    · simp at hn; omega
    · split at hn
      · simp at hn; omega
      · simp at hn; omega
theorem held4 {U : World} {p q : Nat} {o : Obj} {a b c d : Value} (h : p ≠ q) (hp : U.heap[p]? = some o) : ((((U.setCell ⟨q, 0, none⟩ a).setCell ⟨q, 1, none⟩ b).setCell ⟨q, 2, none⟩ c).setCell ⟨q, 3, none⟩ d).heap[p]? = some o :=
  held_oth h (held_oth h (held_oth h (held_oth h hp)))

attribute [local go_sem] Oper.semAt_some
set_option maxRecDepth 100000 in
set_option maxHeartbeats 4000000 in
theorem unpack_any (x : Nat) (w : World) (hx : x < 4294967296) :
    Calls Try.prog 10 #[.int .u32 x] w fun e w' => e = .returned (unpackT x) ∧ Below w.heap.size w w' := by
  refine calls_of_marks Try.func10 rfl ?_
  simp only [Try.ntmps10, List.size_toArray, List.length_cons, List.length_nil, Nat.reduceAdd, Nat.reduceSub, Array.replicate_succ, Array.replicate_zero, List.push_toArray, List.append_toArray, List.nil_append, List.cons_append]
  obtain ⟨r2, r3, r4, rz, rA⟩ := three_new w (.cells #[.int .i32 0, .int .i32 0, .int .i32 0, .int .i32 0] 23) (.cells #[.bool false] 4) (.cells #[.int .i64 2, .int .i64 10, .int .i64 10, .int .i64 10] 3)
  have kS := split_any x (some ⟨w.heap.size + 1 + 1, 0, none⟩) 4 4 [2, 10, 10, 10] _ hx (Row.sl (show Row .i64 3 _ _ [2, 10, 10, 10] from r4) (by unfold maxLen; simp)) (by decide) (by omega)
  replace r2 := hid r2
  replace r3 := hid r3
  clear r4
  go_wp2_with fail
  refine kS.mono ?_
  rintro e W1 ⟨ad, len, cap, rfl, hsl, hb1⟩
  rw [split4] at hsl
  rw [right4B]
  have hB0 := bthen rA hb1
  have q2 := held_after hb1 r2.out
  have q3 := held_after hb1 r3.out
  have hs1 := hb1.size
  rw [rz] at hs1
  clear kS r2 r3 rz rA hb1
  have hpb := pa_b x
  have hT : Go.RowKit.Hid (unpackT x = unT (pa x 0).toNat (pa x 1) (pa x 2) (pa x 3)) := hid rfl
  obtain ⟨rfl, blk, off, rfl, hblk, hcl⟩ := sel4_of (k := 0) hsl
  generalize pa x 0 = a0 at *
  generalize pa x 1 = a1 at *
  generalize pa x 2 = a2 at *
  generalize pa x 3 = a3 at *
  clear hsl
  obtain ⟨o, rfl⟩ := Int.eq_ofNat_of_zero_le hpb.1.1
  have ho : o < 4 := by omega
  rw [Int.toNat_natCast] at hT
  skip
  obtain ⟨pL1, pP, pA, pz, pAft⟩ := three_new W1 (.cells #[.slice (some ⟨blk, off, none⟩) 4 cap] 37) (.cells #[.int .i32 0, .int .i32 0, .int .i32 0, .int .i32 0] 32) (.cells #[.int .i64 1] 3)
  have hA2 : After W1 ((W1.alloc (.cells #[.slice (some ⟨blk, off, none⟩) 4 cap] 37)).alloc (.cells #[.int .i32 0, .int .i32 0, .int .i32 0, .int .i32 0] 32)) := ((Below.refl _ W1).alloc (Nat.le_refl _) _).alloc (by simp) _
  have hc0 := (After.cellB hA2 (hcl 0 (by omega)))
  have e0 : sel4 0 (o : Int) a1 a2 a3 = o := rfl
  rw [e0, Nat.add_zero] at hc0
  clear e0 hA2
  replace pL1 := hid pL1
  replace pP := hid pP
  replace pA := hid pA
  replace hcl := hid hcl
  replace q2 := hid q2
  replace q3 := hid q3
  replace hB0 := hid hB0
  replace hpb := hid hpb
  have hwo : IntKind.i64.wrap (o : Int) = o := by rw [IntKind.wrap_i64]; omega
  go_wp2_with fail
  refine (others_any _ _).mono ?_
  rintro e w3 ⟨rfl, rfl⟩
  go_wp2_with fail
  have pC := World.alloc_heap_new (((W1.alloc (.cells #[.slice (some ⟨blk, off, none⟩) 4 cap] 37)).alloc (.cells #[.int .i32 0, .int .i32 0, .int .i32 0, .int .i32 0] 32)).alloc (.cells #[.int .i64 1] 3)) (.cells #[.int .i64 o] 3)
  rw [pz] at pC
  have pAft2 : After (((W1.alloc (.cells #[.slice (some ⟨blk, off, none⟩) 4 cap] 37)).alloc (.cells #[.int .i32 0, .int .i32 0, .int .i32 0, .int .i32 0] 32)).alloc (.cells #[.int .i64 1] 3)) ((((W1.alloc (.cells #[.slice (some ⟨blk, off, none⟩) 4 cap] 37)).alloc (.cells #[.int .i32 0, .int .i32 0, .int .i32 0, .int .i32 0] 32)).alloc (.cells #[.int .i64 1] 3)).alloc (.cells #[.int .i64 o] 3)) := (Below.refl _ _).alloc (Nat.le_refl _) _
  have hsz0 : ((((W1.alloc (.cells #[.slice (some ⟨blk, off, none⟩) 4 cap] 37)).alloc (.cells #[.int .i32 0, .int .i32 0, .int .i32 0, .int .i32 0] 32)).alloc (.cells #[.int .i64 1] 3)).alloc (.cells #[.int .i64 o] 3)).heap.size = W1.heap.size + 1 + 1 + 1 + 1 := by rw [World.size_alloc, pz]
  have qL := held_after pAft2 pL1.out
  have qP := held_after pAft2 pP.out
  have qA := held_after pAft2 pA.out
  have hB1 := bthen pAft pAft2
  generalize (((W1.alloc (.cells #[.slice (some ⟨blk, off, none⟩) 4 cap] 37)).alloc (.cells #[.int .i32 0, .int .i32 0, .int .i32 0, .int .i32 0] 32)).alloc (.cells #[.int .i64 1] 3)).alloc (.cells #[.int .i64 o] 3) = W0 at *
  clear pAft pAft2 pz pL1 pP pA hc0
  have hgs : Go.RowKit.Hid (W1.heap.size = W1.heap.size) := hid rfl
  generalize hg0 : W1.heap.size = g at *
  replace hg0 := hid hg0
  clear hgs
  have hwq : w.heap.size + 1 < g := by omega
  have hgz : g + 1 + 1 + 1 < W0.heap.size := by omega
  have hcC := held_cell pC 0 _ rfl
  refine wp_rangeFunc_F (gf := 32) (lb := #[.pointer (some ⟨g + 1 + 1 + 1, 0, none⟩)]) rfl (enters_of Try.func32 (by kernel_rfl) rfl) (others_stops 8 o ho (g + 1 + 1 + 1) W0 hgz hcC) (fun h k => kpAt_t h k) (kpAt_b hgz) (Below.refl _ _) (fun _ => rfl)
    (fun pre W => W.heap[g]? = some (.cells #[.slice (some ⟨blk, off, none⟩) 4 cap] 37 (0, 0)) ∧ Row .i32 32 W (g + 1) (pL (fun j => yS (sel4 j (o : Int) a1 a2 a3)) pre 1 [0, 0, 0, 0]) ∧ W.heap[g + 1 + 1]? = some (.cells #[.int .i64 ((pre.length : Int) + 1)] 3 (0, 0)) ∧ W.heap[g + 1 + 1 + 1]? = some (.cells #[.int .i64 o] 3 (0, 0)) ∧ (∀ j, j < pre.length → sel4 (j + 1) (o : Int) a1 a2 a3 ≠ 0) ∧ Below g W1 W) (fun c _ W => c = .ret ∧ (∃ k, k < 3 ∧ sel4 (k + 1) (o : Int) a1 a2 a3 = 0) ∧ W.heap[w.heap.size]? = some (.cells #[.int .i32 0, .int .i32 0, .int .i32 0, .int .i32 0] 23 (0, 0)) ∧ W.heap[w.heap.size + 1]? = some (.cells #[.bool false] 4 (0, 0)) ∧ Below w.heap.size w W) ?own ?ownx ?start (fun i => { tmps := #[.int .u32 x, undef, .pointer (some ⟨w.heap.size, 0, none⟩), .pointer (some ⟨w.heap.size + 1, 0, none⟩), .pointer (some ⟨g, 0, none⟩), .bool true, .pointer (some ⟨g + 1, 0, none⟩), .int .i64 o, .pointer (some ⟨g + 1 + 1, 0, none⟩), .int .i64 (i.val : Int), undef, .tuple #[.slice (some ⟨blk, off, none⟩) 4 cap, .bool true], .int .u32 x, .slice (some ⟨w.heap.size + 1 + 1, 0, none⟩) 4 4, .tuple #[.slice (some ⟨blk, off, none⟩) 4 cap, .bool true], .slice (some ⟨blk, off, none⟩) 4 cap, .bool true, .bool true, .bool false, undef, .slice (some ⟨blk, off, none⟩) 4 cap, .pointer (some ⟨blk, off, none⟩), .int .u32 o, .int .i64 o, .int .i64 o, .func (.func 32) #[] #[.pointer (some ⟨g + 1 + 1 + 1, 0, none⟩)], .int .i64 (i.val : Int), undef, undef, undef, undef, undef, undef, undef, undef, undef, undef, undef, undef, undef, undef, undef, undef, undef, undef, undef, undef, undef, undef, undef, undef, undef, undef, undef, undef, undef, undef, undef, undef, undef, undef, undef, undef, undef, undef, undef], defers := [] }) ?assign ?body ?done ?stop
  case own =>
    rintro pre A B row ⟨k1, k2, k3, k4, k5, k6⟩ hg hr
    exact ⟨keeps_row k1 rfl hg hr, keeps_row k2 rfl hg hr, keeps_row k3 rfl hg hr, keeps_row k4 rfl hg hr, k5, keeps_below k6 (by omega) (by have := k6.size; have := hg0.out; omega) hg hr⟩
  case ownx =>
    rintro c pre A B row ⟨k1, k2, k3, k4, k5⟩ hg hr
    exact ⟨k1, k2, keeps_row k3 rfl hg hr, keeps_row k4 rfl hg hr, keeps_below k5 (by omega) k5.size hg hr⟩
  case start => exact ⟨qL, qP, qA, pC, fun j hj => by simp at hj, hB1⟩
  case assign =>
    intro l i W K hK
    gi_wp2
    exact hK
  case stop =>
    rintro D c pre W hD _ ⟨rfl, ⟨k, hk, hz⟩, r2, r3, hB⟩ hK
    have hT2 := hid (hT.out.trans (unT_zero (o := o) hk hz))
    have s2 := held_put r2 hK (.deferred none)
    have s3 := held_put r3 hK (.deferred none)
    go_wp2_with fail
    refine marks_ret1 (v := unpackT x) hK ?_ ⟨rfl, below_mark hB (by omega) hD hK⟩
    rw [hT2.out]
    have e0 := held_cell s2 0 _ rfl
    have e1 := held_cell s2 1 _ rfl
    have e2 := held_cell s2 2 _ rfl
    have e3 := held_cell s2 3 _ rfl
    have e4 := held_cell s3 0 _ rfl
    simp [results, Try.results10, go_sem, zeroT, e0, e1, e2, e3, e4]
  case body =>
    rintro l pre ⟨i, hi⟩ W ⟨hL, hP, hA, hC, hz, hB⟩ hlen
    dsimp only
    have hck := (hB.cell (p := ⟨blk, off + (pre.length + 1), none⟩) hblk).trans (hcl.out (pre.length + 1) (by omega))
    have hor := sel4_123 (o : Int) a1 a2 a3 hlen
    have hYn := hid (pL_snoc (fun j => yS (sel4 j (o : Int) a1 a2 a3)) ⟨i, hi⟩ pre 1 [0, 0, 0, 0])
    have hln := hid (pL_len (fun j => yS (sel4 j (o : Int) a1 a2 a3)) pre 1 [0, 0, 0, 0])
    have hpl : Go.RowKit.Hid ((pre ++ [(⟨i, hi⟩ : Fin 4)]).length = pre.length + 1) := hid (by simp)
    have hvb : 0 ≤ sel4 (pre.length + 1) (o : Int) a1 a2 a3 ∧ sel4 (pre.length + 1) (o : Int) a1 a2 a3 < 1024 := by have := hpb.out; omega
    clear hor
    have hY1 : Go.RowKit.Hid (yS (sel4 (1 + pre.length) (o : Int) a1 a2 a3) = overS ((sel4 (pre.length + 1) (o : Int) a1 a2 a3 - 512) * 759250125) 511) := hid (by rw [Nat.add_comm]; rfl)
    have hyb := hid (yS_b (sel4 (pre.length + 1) (o : Int) a1 a2 a3))
    have hz0 : Go.RowKit.Hid (∀ k, pre.length = k → sel4 (k + 1) (o : Int) a1 a2 a3 = sel4 (pre.length + 1) (o : Int) a1 a2 a3) := hid (fun k h => by rw [h])
    generalize pL (fun j => yS (sel4 j (o : Int) a1 a2 a3)) pre 1 [0, 0, 0, 0] = pz at *
    replace hYn := hid hYn.out
    generalize hm : pre.length = m at *
    replace hm := hid hm
    have hi4 : (i : Int) < 4 := by omega
    have hm1 : (m : Int) + 1 < 4 := by omega
    have hm0 : 0 ≤ (m : Int) + 1 := by omega
    have hmn : ((m : Int) + 1).toNat = m + 1 := by omega
    generalize hv : sel4 (m + 1) (o : Int) a1 a2 a3 = v at *
    replace hv := hid hv
    have hcL := held_cell hL 0 _ rfl
    have hcA := held_cell hA 0 _ rfl
    have hfA := held_free hA 0
    by_cases c : v = 0
    case pos =>
      have r2 := (hB.block w.heap.size (by omega)).trans q2.out
      have r3 := (hB.block (w.heap.size + 1) (by omega)).trans q3.out
      have r2r : Row .i32 23 W w.heap.size [0, 0, 0, 0] := r2
      obtain ⟨f0, f1, f2, f3, f4, f5, f6, f7⟩ := r2r.four
      have f8 := held_cell r3 0 _ rfl
      have f9 := held_free r3 0
      have hBw := hid (hB0.out.trans (hB.mono (by omega)))
      replace hz := hid hz
      replace r2r := hid r2r
      have r3h := hid r3
      replace hB := hid hB
      clear r2 r3 hL hP hA hC hYn hpl hln
      subst c
      gi_wp2
      refine ⟨?_, rfl, ⟨m, by omega, hv.out⟩, ?_, ?_, ?_⟩
      · exact ((((KeepsOthers.setCell _ _ _).trans (KeepsOthers.setCell _ _ _)).trans (KeepsOthers.setCell _ _ _)).trans (KeepsOthers.setCell _ _ _)).trans (KeepsOthers.setCell _ _ _)
      · exact held_oth (by omega) (Row.set4 r2r.out 0 0 0 0)
      · exact held_set (held_oth (by omega) (held_oth (by omega) (held_oth (by omega) (held_oth (by omega) r3h.out)))) 0 _
      · exact (below4 hBw.out w.heap.size _ _ _ _ (Nat.le_refl _)).setCell (p := ⟨w.heap.size + 1, 0, none⟩) (by show w.heap.size ≤ w.heap.size + 1; omega) _
    case neg =>
      have hb1 : (v == 0) = false := by simpa using c
      have hyb2 := hyb.out (by omega) (by omega)
      have hyy : Go.RowKit.Hid (yS v = overS ((v - 512) * 759250125) 511) := hid rfl
      rw [hyy.out] at hyb2
      have hw1 : IntKind.i64.wrap v = v := by rw [IntKind.wrap_i64]; omega
      have hw2 : IntKind.i64.wrap (v - 512) = v - 512 := by rw [IntKind.wrap_i64]; omega
      have hw3 : IntKind.i64.wrap ((v - 512) * 759250125) = (v - 512) * 759250125 := by rw [IntKind.wrap_i64]; omega
      have hov := fun w => over_any ((v - 512) * 759250125) 511 w (by omega) (by omega) (by omega) (by omega)
      generalize overS ((v - 512) * 759250125) 511 = y at *
      have hw4 : IntKind.i32.wrap y = y := by rw [IntKind.wrap_i32]; omega
      have hw5 : IntKind.i64.wrap ((m : Int) + 1 + 1) = (m : Int) + 1 + 1 := by rw [IntKind.wrap_i64]; omega
      have hcP := hP.cellAt i (by rw [hln.out]; exact hi)
      have hfP := hP.free i
      clear hyy hyb hyb2
      replace hP := hid hP
      replace hL := hid hL
      replace hA := hid hA
      replace hC := hid hC
      replace hz := hid hz
      replace hB := hid hB
      gi_wp2
      refine ⟨trivial, ?_⟩
      refine (CallsIn.inRound l ((callsIn_wide (n := _)).2 (hov _))).mono ?_
      rintro e W2 ⟨rfl, k, rfl⟩
      have d1 : (W.drewN k).cell? ⟨g + 1, i, none⟩ = _ := hcP
      have d2 : (W.drewN k).frozen? ⟨g + 1, i, none⟩ = false := hfP
      have d3 : (W.drewN k).cell? ⟨g + 1 + 1, 0, none⟩ = _ := hcA
      have d4 : (W.drewN k).frozen? ⟨g + 1 + 1, 0, none⟩ = false := hfA
      gi_wp2
      refine ⟨((keepsOthers_drewN W k).trans (KeepsOthers.setCell _ _ _)).trans (KeepsOthers.setCell _ _ _), ⟨?_, ?_⟩, held_oth (by omega) (held_oth (by omega) hL.out), ?_, ?_, held_oth (by omega) (held_oth (by omega) hC.out), ?_, ?_⟩
      · have := (((keepsOthers_drewN W k).trans (KeepsOthers.setCell _ ⟨g + 1, i, none⟩ (.int .i32 y))).trans (KeepsOthers.setCell _ ⟨g + 1 + 1, 0, none⟩ (.int .i64 ((m : Int) + 1 + 1)))).size; exact this
      · exact (held_oth (by omega) (held_oth (by omega) hC.out)).trans hC.out.symm
      · rw [hYn.out, hY1.out]; exact held_oth (by omega) (Row.set (show Row .i32 32 (W.drewN k) (g + 1) pz from hP.out) i y)
      · have e9 : ((m + 1 : Nat) : Int) + 1 = (m : Int) + 1 + 1 := by omega
        rw [hpl.out, e9]; exact held_set (held_oth (by omega) hA.out) 0 _
      · intro j hj
        rw [hpl.out] at hj
        by_cases e : j = m
        · rw [e, hv.out]; exact c
        · exact hz.out j (by omega)
      · exact (Below.setCell (Below.setCell (w := W.drewN k) ⟨hB.out.os, hB.out.tape, hB.out.output, hB.out.size, hB.out.block⟩ (p := ⟨g + 1, i, none⟩) (by show g ≤ g + 1; omega) _) (p := ⟨g + 1 + 1, 0, none⟩) (by show g ≤ g + 1 + 1; omega) _)
  case done =>
    rintro D ys W hD rfl ⟨hL, hP, hA, hC, hz, hB⟩ hK
    rw [pL_all _ o ho] at hP
    try dsimp only at hP
    have ex1 : sel4 1 (o : Int) a1 a2 a3 = a1 := rfl
    have ex2 : sel4 2 (o : Int) a1 a2 a3 = a2 := rfl
    have ex3 : sel4 3 (o : Int) a1 a2 a3 = a3 := rfl
    rw [ex1, ex2, ex3] at hP
    have hl3 := oth_all o ho
    have z1 : a1 ≠ 0 := hz 0 (by omega)
    have z2 : a2 ≠ 0 := hz 1 (by omega)
    have z3 : a3 ≠ 0 := hz 2 (by omega)
    clear ex1 ex2 ex3 hz hl3
    have hpb2 := hpb.out
    have b1 := yS_b a1 (by omega) (by omega)
    have b2 := yS_b a2 (by omega) (by omega)
    have b3 := yS_b a3 (by omega) (by omega)
    have hsq := sqs_unL o ho _ _ _ b1 b2 b3
    have hsv : Go.RowKit.Hid (sq3 a1 a2 a3 = yS a1 * yS a1 + yS a2 * yS a2 + yS a3 * yS a3) := hid rfl
    rw [← hsv.out] at hsq
    have kT1 := hid (fun h => hT.out.trans (unT_big (o := o) z1 z2 z3 h))
    have kT2 := hid (fun h => hT.out.trans (unT_ok (o := o) z1 z2 z3 h))
    have hsb := sq3_b b1 b2 b3
    clear hT hpb hpb2 hcl hsv z1 z2 z3
    generalize yS a1 = y1 at *
    generalize yS a2 = y2 at *
    generalize yS a3 = y3 at *
    generalize sq3 a1 a2 a3 = S at *
    have hul := unL_len o 0 y1 y2 y3
    have hwf := unL_wf o b1 b2 b3
    have kSq := squares_any (some ⟨g + 1, 0, none⟩) 4 (unL o 0 y1 y2 y3) W (by rw [hul]; omega) (Row.sl hP (by rw [hul]; unfold maxLen; omega)).2.2.2.2 hwf
    rw [hul] at kSq
    have r2 := (hB.block w.heap.size (by omega)).trans q2.out
    have r3 := (hB.block (w.heap.size + 1) (by omega)).trans q3.out
    have r2r : Row .i32 23 W w.heap.size [0, 0, 0, 0] := r2
    obtain ⟨f0, f1, f2, f3, f4, f5, f6, f7⟩ := r2r.four
    have f8 := held_cell r3 0 _ rfl
    have f9 := held_free r3 0
    have hBw := hid (hB0.out.trans (hB.mono (by omega)))
    replace r2r := hid r2r
    have r3h := hid r3
    replace hB := hid hB
    replace hK := hid hK
    clear r2 r3 hL hA hC hul hwf q2 q3 hB0
    generalize hN : sqs (unL o 0 y1 y2 y3) 0 = N at *
    clear hN
    obtain rfl : (N : Int) = S := hsq
    replace hP := hid hP
    replace b1 := hid b1
    replace b2 := hid b2
    replace b3 := hid b3
    go_wp2_with fail
    refine kSq.mono ?_
    rintro e w5 ⟨rfl, rfl⟩
    by_cases cs : (1152921504606846976 : Int) < (N : Int)
    case pos =>
      have kT := hid (kT1.out cs)
      clear kT1 kT2 hP
      go_wp2_with fail
      have hK2 := held_oth (j := 0) (v := .bool false) (p := D) (q := w.heap.size + 1) (by omega) (held4 (p := D) (q := w.heap.size) (a := .int .i32 0) (b := .int .i32 0) (c := .int .i32 0) (d := .int .i32 0) (by omega) hK.out)
      have s2 := held_oth (j := 0) (v := .bool false) (p := w.heap.size) (q := w.heap.size + 1) (by omega) (Row.set4 r2r.out 0 0 0 0)
      have s3 := held_set (held4 (p := w.heap.size + 1) (q := w.heap.size) (a := .int .i32 0) (b := .int .i32 0) (c := .int .i32 0) (d := .int .i32 0) (by omega) r3h.out) 0 (.bool false)
      have hB9 := (below4 hBw.out w.heap.size (.int .i32 0) (.int .i32 0) (.int .i32 0) (.int .i32 0) (Nat.le_refl _)).setCell (p := ⟨w.heap.size + 1, 0, none⟩) (by show w.heap.size ≤ w.heap.size + 1; omega) (.bool false)
      replace s2 := held_put s2 hK2 (.deferred none)
      replace s3 := held_put s3 hK2 (.deferred none)
      refine marks_ret1 (v := unpackT x) hK2 ?_ ⟨rfl, below_mark hB9 (by omega) hD hK2⟩
      rw [kT.out]
      have e0 := held_cell s2 0 _ rfl
      have e1 := held_cell s2 1 _ rfl
      have e2 := held_cell s2 2 _ rfl
      have e3 := held_cell s2 3 _ rfl
      have e4 := held_cell s3 0 _ rfl
      simp [results, Try.results10, go_sem, zeroT, e0, e1, e2, e3, e4]
    case neg =>
      have kT := hid (kT2.out (Int.not_lt.1 cs))
      clear kT1 kT2
      have hwN : IntKind.u64.wrap (1152921504606846976 - (N : Int)) = 1152921504606846976 - (N : Int) := by simp [IntKind.wrap, IntKind.bits, IntKind.signed]; omega
      have kR := fun w => sqrt_any (1152921504606846976 - (N : Int)) w (by omega) (by omega)
      have hRb := sqrt_60 (1152921504606846976 - (N : Int)) (by omega)
      generalize sqrtS (1152921504606846976 - (N : Int)).toNat = R at *
      have hwR : IntKind.i32.wrap (R : Int) = R := by rw [IntKind.wrap_i32]; omega
      replace hRb := hid hRb
      obtain rfl | rfl | rfl | rfl : o = 0 ∨ o = 1 ∨ o = 2 ∨ o = 3 := by omega
      · have hP4 : Row .i32 32 _ (g + 1) [0, y1, y2, y3] := hP.out
        obtain ⟨c0, c1, c2, c3, c4, c5, c6, c7⟩ := hP4.four
        have hP5 := hid (Row.set hP4 0 R)
        clear hP hP4
        go_wp2_with fail
        refine (kR _).mono ?_
        rintro e w5 ⟨rfl, rfl⟩
        go_wp2_with fail
        have hK1 := held_oth (j := 0) (v := .int .i32 R) (p := D) (q := g + 1) (by omega) hK.out
        have hK2 := held_oth (j := 0) (v := .bool true) (p := D) (q := w.heap.size + 1) (by omega) (held4 (p := D) (q := w.heap.size) (a := .int .i32 (R : Int)) (b := .int .i32 y1) (c := .int .i32 y2) (d := .int .i32 y3) (by omega) hK1)
        have r2s := held_oth (j := 0) (v := .int .i32 R) (p := w.heap.size) (q := g + 1) (by omega) r2r.out
        have r3s := held_oth (j := 0) (v := .int .i32 R) (p := w.heap.size + 1) (q := g + 1) (by omega) r3h.out
        have s2 := held_oth (j := 0) (v := .bool true) (p := w.heap.size) (q := w.heap.size + 1) (by omega) (Row.set4 (show Row .i32 23 _ w.heap.size [0, 0, 0, 0] from r2s) (R : Int) y1 y2 y3)
        have s3 := held_set (held4 (p := w.heap.size + 1) (q := w.heap.size) (a := .int .i32 (R : Int)) (b := .int .i32 y1) (c := .int .i32 y2) (d := .int .i32 y3) (by omega) r3s) 0 (.bool true)
        have hB9 := (below4 (hBw.out.setCell (p := ⟨g + 1, 0, none⟩) (by show _ ≤ g + 1; omega) (.int .i32 R)) w.heap.size (.int .i32 (R : Int)) (.int .i32 y1) (.int .i32 y2) (.int .i32 y3) (Nat.le_refl _)).setCell (p := ⟨w.heap.size + 1, 0, none⟩) (by show w.heap.size ≤ w.heap.size + 1; omega) (.bool true)
        replace s2 := held_put s2 hK2 (.deferred none)
        replace s3 := held_put s3 hK2 (.deferred none)
        refine marks_ret1 (v := unpackT x) hK2 ?_ ⟨rfl, below_mark hB9 (by omega) hD hK2⟩
        rw [kT.out]
        have e0 := held_cell s2 0 _ rfl
        have e1 := held_cell s2 1 _ rfl
        have e2 := held_cell s2 2 _ rfl
        have e3 := held_cell s2 3 _ rfl
        have e4 := held_cell s3 0 _ rfl
        simp [results, Try.results10, go_sem, unL, e0, e1, e2, e3, e4]
      · have hP4 : Row .i32 32 _ (g + 1) [y1, 0, y2, y3] := hP.out
        obtain ⟨c0, c1, c2, c3, c4, c5, c6, c7⟩ := hP4.four
        have hP5 := hid (Row.set hP4 1 R)
        clear hP hP4
        go_wp2_with fail
        refine (kR _).mono ?_
        rintro e w5 ⟨rfl, rfl⟩
        go_wp2_with fail
        have hK1 := held_oth (j := 1) (v := .int .i32 R) (p := D) (q := g + 1) (by omega) hK.out
        have hK2 := held_oth (j := 0) (v := .bool true) (p := D) (q := w.heap.size + 1) (by omega) (held4 (p := D) (q := w.heap.size) (a := .int .i32 y1) (b := .int .i32 (R : Int)) (c := .int .i32 y2) (d := .int .i32 y3) (by omega) hK1)
        have r2s := held_oth (j := 1) (v := .int .i32 R) (p := w.heap.size) (q := g + 1) (by omega) r2r.out
        have r3s := held_oth (j := 1) (v := .int .i32 R) (p := w.heap.size + 1) (q := g + 1) (by omega) r3h.out
        have s2 := held_oth (j := 0) (v := .bool true) (p := w.heap.size) (q := w.heap.size + 1) (by omega) (Row.set4 (show Row .i32 23 _ w.heap.size [0, 0, 0, 0] from r2s) y1 (R : Int) y2 y3)
        have s3 := held_set (held4 (p := w.heap.size + 1) (q := w.heap.size) (a := .int .i32 y1) (b := .int .i32 (R : Int)) (c := .int .i32 y2) (d := .int .i32 y3) (by omega) r3s) 0 (.bool true)
        have hB9 := (below4 (hBw.out.setCell (p := ⟨g + 1, 1, none⟩) (by show _ ≤ g + 1; omega) (.int .i32 R)) w.heap.size (.int .i32 y1) (.int .i32 (R : Int)) (.int .i32 y2) (.int .i32 y3) (Nat.le_refl _)).setCell (p := ⟨w.heap.size + 1, 0, none⟩) (by show w.heap.size ≤ w.heap.size + 1; omega) (.bool true)
        replace s2 := held_put s2 hK2 (.deferred none)
        replace s3 := held_put s3 hK2 (.deferred none)
        refine marks_ret1 (v := unpackT x) hK2 ?_ ⟨rfl, below_mark hB9 (by omega) hD hK2⟩
        rw [kT.out]
        have e0 := held_cell s2 0 _ rfl
        have e1 := held_cell s2 1 _ rfl
        have e2 := held_cell s2 2 _ rfl
        have e3 := held_cell s2 3 _ rfl
        have e4 := held_cell s3 0 _ rfl
        simp [results, Try.results10, go_sem, unL, e0, e1, e2, e3, e4]
      · have hP4 : Row .i32 32 _ (g + 1) [y1, y2, 0, y3] := hP.out
        obtain ⟨c0, c1, c2, c3, c4, c5, c6, c7⟩ := hP4.four
        have hP5 := hid (Row.set hP4 2 R)
        clear hP hP4
        go_wp2_with fail
        refine (kR _).mono ?_
        rintro e w5 ⟨rfl, rfl⟩
        go_wp2_with fail
        have hK1 := held_oth (j := 2) (v := .int .i32 R) (p := D) (q := g + 1) (by omega) hK.out
        have hK2 := held_oth (j := 0) (v := .bool true) (p := D) (q := w.heap.size + 1) (by omega) (held4 (p := D) (q := w.heap.size) (a := .int .i32 y1) (b := .int .i32 y2) (c := .int .i32 (R : Int)) (d := .int .i32 y3) (by omega) hK1)
        have r2s := held_oth (j := 2) (v := .int .i32 R) (p := w.heap.size) (q := g + 1) (by omega) r2r.out
        have r3s := held_oth (j := 2) (v := .int .i32 R) (p := w.heap.size + 1) (q := g + 1) (by omega) r3h.out
        have s2 := held_oth (j := 0) (v := .bool true) (p := w.heap.size) (q := w.heap.size + 1) (by omega) (Row.set4 (show Row .i32 23 _ w.heap.size [0, 0, 0, 0] from r2s) y1 y2 (R : Int) y3)
        have s3 := held_set (held4 (p := w.heap.size + 1) (q := w.heap.size) (a := .int .i32 y1) (b := .int .i32 y2) (c := .int .i32 (R : Int)) (d := .int .i32 y3) (by omega) r3s) 0 (.bool true)
        have hB9 := (below4 (hBw.out.setCell (p := ⟨g + 1, 2, none⟩) (by show _ ≤ g + 1; omega) (.int .i32 R)) w.heap.size (.int .i32 y1) (.int .i32 y2) (.int .i32 (R : Int)) (.int .i32 y3) (Nat.le_refl _)).setCell (p := ⟨w.heap.size + 1, 0, none⟩) (by show w.heap.size ≤ w.heap.size + 1; omega) (.bool true)
        replace s2 := held_put s2 hK2 (.deferred none)
        replace s3 := held_put s3 hK2 (.deferred none)
        refine marks_ret1 (v := unpackT x) hK2 ?_ ⟨rfl, below_mark hB9 (by omega) hD hK2⟩
        rw [kT.out]
        have e0 := held_cell s2 0 _ rfl
        have e1 := held_cell s2 1 _ rfl
        have e2 := held_cell s2 2 _ rfl
        have e3 := held_cell s2 3 _ rfl
        have e4 := held_cell s3 0 _ rfl
        simp [results, Try.results10, go_sem, unL, e0, e1, e2, e3, e4]
      · have hP4 : Row .i32 32 _ (g + 1) [y1, y2, y3, 0] := hP.out
        obtain ⟨c0, c1, c2, c3, c4, c5, c6, c7⟩ := hP4.four
        have hP5 := hid (Row.set hP4 3 R)
        clear hP hP4
        go_wp2_with fail
        refine (kR _).mono ?_
        rintro e w5 ⟨rfl, rfl⟩
        go_wp2_with fail
        have hK1 := held_oth (j := 3) (v := .int .i32 R) (p := D) (q := g + 1) (by omega) hK.out
        have hK2 := held_oth (j := 0) (v := .bool true) (p := D) (q := w.heap.size + 1) (by omega) (held4 (p := D) (q := w.heap.size) (a := .int .i32 y1) (b := .int .i32 y2) (c := .int .i32 y3) (d := .int .i32 (R : Int)) (by omega) hK1)
        have r2s := held_oth (j := 3) (v := .int .i32 R) (p := w.heap.size) (q := g + 1) (by omega) r2r.out
        have r3s := held_oth (j := 3) (v := .int .i32 R) (p := w.heap.size + 1) (q := g + 1) (by omega) r3h.out
        have s2 := held_oth (j := 0) (v := .bool true) (p := w.heap.size) (q := w.heap.size + 1) (by omega) (Row.set4 (show Row .i32 23 _ w.heap.size [0, 0, 0, 0] from r2s) y1 y2 y3 (R : Int))
        have s3 := held_set (held4 (p := w.heap.size + 1) (q := w.heap.size) (a := .int .i32 y1) (b := .int .i32 y2) (c := .int .i32 y3) (d := .int .i32 (R : Int)) (by omega) r3s) 0 (.bool true)
        have hB9 := (below4 (hBw.out.setCell (p := ⟨g + 1, 3, none⟩) (by show _ ≤ g + 1; omega) (.int .i32 R)) w.heap.size (.int .i32 y1) (.int .i32 y2) (.int .i32 y3) (.int .i32 (R : Int)) (Nat.le_refl _)).setCell (p := ⟨w.heap.size + 1, 0, none⟩) (by show w.heap.size ≤ w.heap.size + 1; omega) (.bool true)
        replace s2 := held_put s2 hK2 (.deferred none)
        replace s3 := held_put s3 hK2 (.deferred none)
        refine marks_ret1 (v := unpackT x) hK2 ?_ ⟨rfl, below_mark hB9 (by omega) hD hK2⟩
        rw [kT.out]
        have e0 := held_cell s2 0 _ rfl
        have e1 := held_cell s2 1 _ rfl
        have e2 := held_cell s2 2 _ rfl
        have e3 := held_cell s2 3 _ rfl
        have e4 := held_cell s3 0 _ rfl
        simp [results, Try.results10, go_sem, unL, e0, e1, e2, e3, e4]

end Go.Proofs.Ytnabfimammojhaa
