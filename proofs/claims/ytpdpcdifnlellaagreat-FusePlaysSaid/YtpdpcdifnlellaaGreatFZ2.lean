/- Several texts in one: Small, Small2, Small3, Small4. -/
import Derived.Test.YtpdpcdifnlellaaGreatKB
import Derived.Test.YtpdpcdifnlellaaGreatFZ1
import Derived.Test.YtpdpcdifnlellaaGreatUnit2
import Derived.Test.YtpdpcdifnlellaaGreatQuat2
import Derived.Test.YtpdpcdifnlellaaGreatUnit3

/- Package small: the other three places. -/
namespace Go.Proofs.YtpdpcdifnlellaaGreat
open Go.ChangeShapes Go.WideShapes Go.ChangeAt Go.RowKit Go.Shelf
set_option maxRecDepth 100000
set_option linter.unusedVariables false

/-- The places below k that are not out. -/
def oth (out : Nat) : Nat → List (Fin 4)
  | 0 => []
  | k + 1 => if h : k < 4 then if k = out then oth out k else oth out k ++ [⟨k, h⟩] else oth out k
theorem oth_len : ∀ out : Nat, out < 4 → ∀ k : Nat, k < 4 → k ≠ out → (oth out k).length < 3 := by decide
theorem oth_pre : ∀ out : Nat, out < 4 → ∀ k : Nat, k < 4 → k ≠ out → oth out (k + 1) <+: oth out 4 := by decide
theorem oth_same {out k : Nat} (h : k = out) : oth out (k + 1) = oth out k := by
  show (if h : k < 4 then _ else _) = _
  by_cases c : k < 4
  · rw [dif_pos c, if_pos h]
  · rw [dif_neg c]
theorem oth_next {out k : Nat} (hk : k < 4) (h : k ≠ out) : oth out (k + 1) = oth out k ++ [⟨k, hk⟩] := by
  show (if h : k < 4 then _ else _) = _
  rw [dif_pos hk, if_neg h]

theorem others_any (out : Int) (w : World) :
    Calls Tryz.prog 67 #[.int .i64 out] w fun e w' => e = .returned (.func (.func 91) #[] #[.pointer (some ⟨w.heap.size, 0, none⟩)]) ∧ w' = w.alloc (.cells #[.int .i64 out] 3) := by
  have hmf : ∀ (fn : Fn) (first cap : Array Value) (w : World), (Instr.makeFunc fn first cap).run Tryz.prog w = .ok (.func fn first cap) w := fun _ _ _ _ => rfl
  go_enter Tryz.func67, Tryz.ntmps67
  go_wp2_with fail
  go_ret
  exact ⟨rfl, rfl⟩

attribute [local go_sem] Oper.semAt_some
set_option maxRecDepth 100000 in
set_option maxHeartbeats 1000000 in
theorem others_in (n : Nat) (out : Nat) (ho : out < 4) (l B : Nat) (J Jx : List (Fin 4) → World → Prop)
    (hY : ∀ pre (x : Fin 4) W, J pre W → pre.length < 3 → YieldAt Fence.wide (n - 1) Tryz.prog l #[.int .i64 (x.val : Int)] W fun e W' =>
      (e = .returned (.bool true) ∧ J (pre ++ [x]) W' ∧ KpAt B W W') ∨ (e = .returned (.bool false) ∧ Jx (pre ++ [x]) W'))
    (W : World) (hc : W.cell? ⟨B, 0, none⟩ = some (.int .i64 (out : Int))) (h0 : J [] W) :
    CallsIn Fence.wide n Tryz.prog 91 #[.func (.yield l) #[] #[], .pointer (some ⟨B, 0, none⟩)] W fun e W' => (∃ v, e = .returned v) ∧
      ((∃ ys, ys = oth out 4 ∧ J ys W') ∨ (∃ pre, pre <+: oth out 4 ∧ Jx pre W')) := by
  refine callsIn_of_wp Tryz.func91 rfl trivial ?_ rfl
  simp only [Tryz.ntmps91, List.size_toArray, List.length_cons, List.length_nil, Nat.reduceAdd, Nat.reduceSub, Array.replicate_succ, Array.replicate_zero, List.push_toArray, List.append_toArray, List.nil_append, List.cons_append]
  gi_wp2
  gi_loopw [4] (fun p wr => ∃ k : Nat, k ≤ 4 ∧ p = .int .i64 (k : Int) ∧ wr.cell? ⟨B, 0, none⟩ = some (.int .i64 (out : Int)) ∧ J (oth out k) wr)
    (fun p wr => 4 - (intOf p).toNat)
  case atStart =>
    exact ⟨0, by omega, rfl, hc, h0⟩
  case round =>
    obtain ⟨k, hk, rfl, hcr, hJs⟩ := hrel
    by_cases hlt : (k : Int) < 4
    · have hlt2 : k < 4 := by omega
      by_cases he : (k : Int) = out
      · have hnx := oth_same (show k = out by omega)
        have hb1 : ((k : Int) != (out : Int)) = false := by simp; omega
        gi_wp2
        refine ⟨fun _ h => (by cases h), ?_⟩
        gi_wp2
        go_roundw
        case rel => exact ⟨k + 1, by omega, by simp [he], hcr, by rw [hnx]; exact hJs⟩
        case measure => first | omega | (simp only [intOf]; omega)
      · have hne : k ≠ out := fun e => he (by rw [e])
        have hnx := oth_next hlt2 hne
        obtain ⟨fn, tmps, assign, body, hy, hR⟩ := hY (oth out k) ⟨k, hlt2⟩ wr hJs (oth_len out ho k hlt2 hne)
        have hb1 : ((k : Int) != (out : Int)) = true := by simp; omega
        gi_wp2
        refine ⟨fun h => (by cases h), hR.mono ?_⟩
        rintro e W3 (⟨rfl, hJ3, hk3⟩ | ⟨rfl, hJx3⟩)
        · have hc3 := (kpAt_cell hk3 0).trans hcr
          gi_wp2
          go_roundw
          case rel => exact ⟨k + 1, by omega, by simp, hc3, by rw [hnx]; exact hJ3⟩
          case measure => first | omega | (simp only [intOf]; omega)
        · gi_wp2
          refine bodyPost_ret (results_none rfl _ _ _) rfl ?_
          exact ⟨⟨_, rfl⟩, .inr ⟨_, by have := oth_pre out ho k hlt2 hne; rw [hnx] at this; exact this, hJx3⟩⟩
    · gi_wp2
      go_end0
      obtain rfl : k = 4 := by omega
      exact ⟨⟨_, rfl⟩, .inl hJs⟩

/-- What others hands back is a sequence: its contract for a range over it. -/
theorem others_stops (n : Nat) (out : Nat) (ho : out < 4) (B : Nat) (w0 : World) (hB : B < w0.heap.size) (hc : w0.cell? ⟨B, 0, none⟩ = some (.int .i64 (out : Int))) :
    SeqStopsK Fence.wide n Tryz.prog 91 #[.pointer (some ⟨B, 0, none⟩)] (fun x : Fin 4 => #[.int .i64 (x.val : Int)]) (KpAt B) (fun ys => ys = oth out 4) (fun pre => pre <+: oth out 4) 3 w0 :=
  fun l J Jx W hW _ _ hY h0 => others_in n out ho l B J Jx hY W ((hW.cell (p := ⟨B, 0, none⟩) hB).trans hc) h0

end Go.Proofs.YtpdpcdifnlellaaGreat

/- Package small: the farthest part, a part's number. -/
namespace Go.Proofs.YtpdpcdifnlellaaGreat
open Go.ChangeShapes Go.WideShapes Go.ChangeAt Go.RowKit Go.Shelf
set_option maxRecDepth 100000
set_option linter.unusedVariables false

/-- The first place up to k of what is greatest. -/
def bst (f : Nat → Int) : Nat → Nat
  | 0 => 0
  | k + 1 => if f (bst f k) < f (k + 1) then k + 1 else bst f k
theorem bst_le (f : Nat → Int) : ∀ k, bst f k ≤ k
  | 0 => Nat.le_refl _
  | k + 1 => by unfold bst; have := bst_le f k; split <;> omega
theorem bst_max (f : Nat → Int) : ∀ k i, i ≤ k → f i ≤ f (bst f k)
  | 0, i, h => by obtain rfl : i = 0 := by omega
                  exact Int.le_refl _
  | k + 1, i, h => by
    by_cases c : f (bst f k) < f (k + 1)
    · have e : bst f (k + 1) = k + 1 := if_pos c
      rw [e]
      by_cases hi : i = k + 1
      · subst hi; exact Int.le_refl _
      · have := bst_max f k i (by omega); omega
    · have e : bst f (k + 1) = bst f k := if_neg c
      rw [e]
      by_cases hi : i = k + 1
      · subst hi; omega
      · exact bst_max f k i (by omega)
def absI (n : Int) : Int := if n < 0 then -n else n
def far4S (x y z t : Int) (i : Nat) : Int := absI (sel4 i x y z t)
def best4 (x y z t : Int) : Nat := bst (far4S x y z t) 3
theorem best4_lt (x y z t : Int) : best4 x y z t < 4 := by have := bst_le (far4S x y z t) 3; unfold best4; omega
/-- What the loop has: the best place of the first k, and how far that is. -/
def bestB (f : Nat → Int) (k : Nat) : Nat := if k = 0 then 0 else bst f (k - 1)
def bestF (f : Nat → Int) (k : Nat) : Int := if k = 0 then -1 else f (bst f (k - 1))
theorem best_more {f : Nat → Int} {k : Nat} (h0 : 0 ≤ f k) (h : bestF f k < f k) : bestB f (k + 1) = k ∧ bestF f (k + 1) = f k := by
  unfold bestB bestF at *
  cases k with
  | zero => simp [bst]
  | succ k =>
    simp at h ⊢
    have e : bst f (k + 1) = k + 1 := if_pos h
    rw [e]; exact ⟨rfl, rfl⟩
theorem best_less {f : Nat → Int} {k : Nat} (h0 : 0 ≤ f k) (h : ¬ bestF f k < f k) : bestB f (k + 1) = bestB f k ∧ bestF f (k + 1) = bestF f k := by
  unfold bestB bestF at *
  cases k with
  | zero => simp at h; omega
  | succ k =>
    simp at h ⊢
    have e : bst f (k + 1) = bst f k := if_neg (by omega)
    rw [e]; exact ⟨rfl, rfl⟩
theorem absI_0 (n : Int) : 0 ≤ absI n := by unfold absI; split <;> omega

set_option maxHeartbeats 1000000 in
theorem farthest_any (x y z t : Int) (w : World) (p0 : B32 x) (p1 : B32 y) (p2 : B32 z) (p3 : B32 t) :
    Calls Tryz.prog 66 #[.agg #[.int .i32 x, .int .i32 y, .int .i32 z, .int .i32 t]] w fun e w' => e = .returned (.int .i64 (best4 x y z t : Nat)) ∧ Below w.heap.size w w' := by
  have hsb := fun k => sel4_b k p0 p1 p2 p3
  replace hsb := hid hsb
  clear p0 p1 p2 p3
  go_enter Tryz.func66, Tryz.ntmps66
  go_wp2_with fail
  have hb0 : Below w.heap.size w (w.alloc (.cells #[.int .i32 x, .int .i32 y, .int .i32 z, .int .i32 t] 94)) := (Below.refl _ w).alloc (Nat.le_refl _) _
  go_loopw [3, 4, 9] (fun b f i wr => ∃ k : Nat, k ≤ 4 ∧ i = .int .i64 k ∧ b = .int .i64 (bestB (far4S x y z t) k : Nat) ∧ f = .int .i64 (bestF (far4S x y z t) k) ∧ Below w.heap.size w wr) (fun b f i _ => 4 - (intOf i).toNat)
  case atStart => exact ⟨0, by omega, rfl, rfl, rfl, hb0⟩
  case round =>
    obtain ⟨k, hk, rfl, rfl, rfl, hbr⟩ := hrel
    by_cases hlt : (k : Int) < 4
    · have hlt2 : k < 4 := by omega
      have hx := fun w => index4_any x y z t k w hlt2
      have hv := hsb.out k
      have h0 := absI_0 (sel4 k x y z t)
      have hm := hid (best_more (f := far4S x y z t) (k := k) h0)
      have hl := hid (best_less (f := far4S x y z t) (k := k) h0)
      have hfk := hid (show far4S x y z t k = absI (sel4 k x y z t) from rfl)
      clear h0
      generalize sel4 k x y z t = v at *
      obtain ⟨v1, v2⟩ := hv
      have hw : IntKind.i64.wrap (-v) = -v := by rw [IntKind.wrap_i64]; omega
      have hw2 : IntKind.i64.wrap v = v := by rw [IntKind.wrap_i64]; omega
      have ha : Go.RowKit.Hid (absI v = if v < 0 then -v else v) := hid rfl
      by_cases cn : v < 0
      · have ea : absI v = -v := by rw [ha.out, if_pos cn]
        replace hfk := hid (hfk.out.trans ea)
        clear ha ea
        rw [hfk.out] at hm hl
        by_cases c : bestF (far4S x y z t) k < -v
        · have e := hid (hm.out c)
          generalize bestF (far4S x y z t) k = F at *
          go_wp2_with omega
          go_roundw
          case rel => exact ⟨k + 1, by omega, by simp, by rw [e.out.1], by rw [e.out.2], hbr⟩
          case measure => simp only [intOf]; omega
        · have e := hid (hl.out c)
          generalize bestF (far4S x y z t) k = F at *
          go_wp2_with omega
          go_roundw
          case rel => exact ⟨k + 1, by omega, by simp, by rw [e.out.1], by rw [e.out.2], hbr⟩
          case measure => simp only [intOf]; omega
      · have ea : absI v = v := by rw [ha.out, if_neg cn]
        replace hfk := hid (hfk.out.trans ea)
        clear ha ea
        rw [hfk.out] at hm hl
        by_cases c : bestF (far4S x y z t) k < v
        · have e := hid (hm.out c)
          generalize bestF (far4S x y z t) k = F at *
          go_wp2_with omega
          go_roundw
          case rel => exact ⟨k + 1, by omega, by simp, by rw [e.out.1], by rw [e.out.2], hbr⟩
          case measure => simp only [intOf]; omega
        · have e := hid (hl.out c)
          generalize bestF (far4S x y z t) k = F at *
          go_wp2_with omega
          go_roundw
          case rel => exact ⟨k + 1, by omega, by simp, by rw [e.out.1], by rw [e.out.2], hbr⟩
          case measure => simp only [intOf]; omega
    · go_wp2_with fail
      go_ret
      obtain rfl : k = 4 := by omega
      exact ⟨rfl, hbr⟩

theorem rfar12_any (n : Int) (w : World) (h : B32 n) :
    Calls Tryz.prog 71 #[.int .i32 n] w fun e w' => e = .returned (.int .i64 (absI n)) ∧ w' = w := by
  obtain ⟨h1, h2⟩ := h
  have hw : IntKind.i64.wrap (-n) = -n := by rw [IntKind.wrap_i64]; omega
  have hw2 : IntKind.i64.wrap n = n := by rw [IntKind.wrap_i64]; omega
  by_cases c : n < 0
  · have ea := hid (show absI n = -n from if_pos c)
    go_enter Tryz.func71, Tryz.ntmps71
    go_wp2_with omega
    go_ret
    exact ⟨by rw [ea.out]; rfl, rfl⟩
  · have ea := hid (show absI n = n from if_neg c)
    go_enter Tryz.func71, Tryz.ntmps71
    go_wp2_with omega
    go_ret
    exact ⟨by rw [ea.out]; rfl, rfl⟩

/-- What stands in the word for a part. -/
def numC (n : Int) : Int := 512 + (if n < -511 then -511 else if 511 < n then 511 else n)
def numS (part : Int) : Int := numC (overS (511 * part) 759250125)
theorem numC_b (n : Int) : 1 ≤ numC n ∧ numC n ≤ 1023 := by unfold numC; split <;> (try split) <;> omega

theorem overS_b (n d : Int) (h1 : -9223372036854775808 ≤ n) (h2 : n ≤ 9223372036854775807) : -9223372036854775808 ≤ overS n d ∧ overS n d ≤ 9223372036854775807 := by
  unfold overS
  split
  · omega
  · rename_i hd
    have := qn_le n.natAbs d.natAbs (by omega) (by omega)
    split
    · omega
    · split <;> omega
set_option maxHeartbeats 1000000 in
theorem number_any (p : Int) (w : World) (h1 : -2147483648 ≤ p) (h2 : p ≤ 2147483648) :
    Calls Tryz.prog 68 #[.int .i64 p] w fun e w' => e = .returned (.int .u32 (numS p)) ∧ ∃ k, w' = w.drewN k := by
  have hw : IntKind.i64.wrap (511 * p) = 511 * p := by rw [IntKind.wrap_i64]; omega
  have hO := over_any (511 * p) 759250125 w (by omega) (by omega) (by omega) (by omega)
  have ho := overS_b (511 * p) 759250125 (by omega) (by omega)
  have hs : Go.RowKit.Hid (numS p = numC (overS (511 * p) 759250125)) := hid rfl
  generalize overS (511 * p) 759250125 = n at *
  have hc : Go.RowKit.Hid (numC n = 512 + (if n < -511 then -511 else if 511 < n then 511 else n)) := hid rfl
  by_cases c1 : n ≤ -511
  · have e := hid (show numS p = 1 by rw [hs.out, hc.out]; split <;> (try split) <;> omega)
    clear hs hc
    go_enter Tryz.func68, Tryz.ntmps68
    go_wp2_with fail
    refine hO.mono ?_
    rintro e1 w1 ⟨rfl, k, rfl⟩
    go_wp2_with omega
    go_ret
    exact ⟨by rw [e.out]; rfl, k, rfl⟩
  · by_cases c2 : 511 < n
    · have e := hid (show numS p = 1023 by rw [hs.out, hc.out]; split <;> (try split) <;> omega)
      clear hs hc
      go_enter Tryz.func68, Tryz.ntmps68
      go_wp2_with fail
      refine hO.mono ?_
      rintro e1 w1 ⟨rfl, k, rfl⟩
      go_wp2_with omega
      go_ret
      exact ⟨by rw [e.out]; rfl, k, rfl⟩
    · have e := hid (show numS p = 512 + n by rw [hs.out, hc.out]; split <;> (try split) <;> omega)
      clear hs hc
      have hw3 : IntKind.i64.wrap (512 + n) = 512 + n := by rw [IntKind.wrap_i64]; omega
      have hw4 : IntKind.u32.wrap (512 + n) = 512 + n := by simp [IntKind.wrap, IntKind.bits, IntKind.signed]; omega
      go_enter Tryz.func68, Tryz.ntmps68
      go_wp2_with fail
      refine hO.mono ?_
      rintro e1 w1 ⟨rfl, k, rfl⟩
      go_wp2_with omega
      go_ret
      exact ⟨by rw [e.out]; rfl, k, rfl⟩

end Go.Proofs.YtpdpcdifnlellaaGreat

/- Package small: Pack. -/
namespace Go.Proofs.YtpdpcdifnlellaaGreat
open Go.ChangeShapes Go.WideShapes Go.ChangeAt Go.RowKit Go.Shelf
set_option maxRecDepth 100000
set_option linter.unusedVariables false

def sg4 (x y z t : Int) : Int := if sel4 (best4 x y z t) x y z t < 0 then -1 else 1
def packG (x y z t : Int) (i : Fin 4) : Int := numS (sg4 x y z t * sel4 i.val x y z t)
def packL (x y z t : Int) : List Int := (best4 x y z t : Int) :: (oth (best4 x y z t) 4).map (packG x y z t)
def isU (x y z t : Int) : Bool := decide (offS (sqs [x, y, z, t] 0) ≤ 1099511627776)
def packT (x y z t : Int) : Value := if isU x y z t then .tuple #[.int .u32 (joinV [2, 10, 10, 10] (packL x y z t) : Nat), .bool true] else .tuple #[.int .u32 0, .bool false]
theorem sg4_b (x y z t : Int) (i : Nat) (p0 : B32 x) (p1 : B32 y) (p2 : B32 z) (p3 : B32 t) : -2147483648 ≤ sg4 x y z t * sel4 i x y z t ∧ sg4 x y z t * sel4 i x y z t ≤ 2147483648 := by
  have := sel4_b i p0 p1 p2 p3
  unfold B32 at this
  unfold sg4; split <;> omega
theorem u32_wf {n : Int} (h : 0 ≤ n ∧ n ≤ 4294967295) : (Lit.int .u32 n).wf = true := by
  have e1 : IntKind.u32.min = 0 := rfl
  have e2 : IntKind.u32.max = 4294967295 := rfl
  simp [Lit.wf, e1, e2]; omega
theorem packL_wf (x y z t : Int) : ∀ n ∈ packL x y z t, (Lit.int .u32 n).wf = true := by
  intro n hn
  unfold packL at hn
  rcases List.mem_cons.1 hn with rfl | h
  · have := best4_lt x y z t; exact u32_wf (by omega)
  · obtain ⟨i, _, rfl⟩ := List.mem_map.1 h
    have := numC_b (overS (511 * (sg4 x y z t * sel4 i.val x y z t)) 759250125)
    exact u32_wf (by unfold packG numS; omega)
theorem oth_all : ∀ o : Nat, o < 4 → (oth o 4).length = 3 := by decide
theorem packL_len (x y z t : Int) : (packL x y z t).length = 4 := by
  unfold packL; rw [List.length_cons, List.length_map, oth_all _ (best4_lt x y z t)]
theorem right4 : rightP [2, 10, 10, 10] := by decide
theorem pack_fits (x y z t : Int) : joinOk [2, 10, 10, 10] (packL x y z t) = true := by
  refine decide_eq_true ⟨right4, packL_len x y z t, fun i hi => ?_⟩
  have hb := best4_lt x y z t
  have hl := oth_all _ hb
  have hg : ∀ j : Fin 4, 0 ≤ packG x y z t j ∧ packG x y z t j ≤ 1023 := fun j => by
    have := numC_b (overS (511 * (sg4 x y z t * sel4 j.val x y z t)) 759250125); unfold packG numS; omega
  unfold packL
  generalize oth (best4 x y z t) 4 = l at *
  match l, hl with
  | [a, b, c], _ =>
    have h1 := hg a; have h2 := hg b; have h3 := hg c
    simp at hi
    obtain rfl | rfl | rfl | rfl : i = 0 ∨ i = 1 ∨ i = 2 ∨ i = 3 := by omega
    · show (best4 x y z t : Int).toNat < 4; omega
    · show (packG x y z t a).toNat < 1024; omega
    · show (packG x y z t b).toNat < 1024; omega
    · show (packG x y z t c).toNat < 1024; omega

attribute [local go_sem] Oper.semAt_some
/-- The numbers that are there when pre has come. -/
def zsP (o : Nat) (G : Fin 4 → Int) (pre : List (Fin 4)) : List Int := (o : Int) :: pre.map G
theorem zsP_len (o : Nat) (G : Fin 4 → Int) (pre : List (Fin 4)) : (zsP o G pre).length = pre.length + 1 := by simp [zsP]
theorem zsP_next (o : Nat) (G : Fin 4 → Int) (pre : List (Fin 4)) (i : Fin 4) : zsP o G (pre ++ [i]) = zsP o G pre ++ [G i] := by simp [zsP]

set_option maxRecDepth 100000 in
set_option maxHeartbeats 4000000 in
theorem pack_any (x y z t : Int) (w : World) (p0 : B32 x) (p1 : B32 y) (p2 : B32 z) (p3 : B32 t) :
    Calls Tryz.prog 38 #[.agg #[.int .i32 x, .int .i32 y, .int .i32 z, .int .i32 t]] w fun e w' => e = .returned (packT x y z t) ∧ Below w.heap.size w w' := by
  have kU := fun w => isu_any x y z t w p0 p1 p2 p3
  by_cases cu : isU x y z t = true
  case neg =>
    have cu := Bool.not_eq_true _ ▸ cu
    have ht := hid (show packT x y z t = .tuple #[.int .u32 0, .bool false] by unfold packT; rw [cu]; rfl)
    have hd := hid cu
    unfold isU at hd
    clear cu
    refine calls_of_marks Tryz.func38 rfl ?_
    simp only [Tryz.ntmps38, List.size_toArray, List.length_cons, List.length_nil, Nat.reduceAdd, Nat.reduceSub, Array.replicate_succ, Array.replicate_zero, List.push_toArray, List.append_toArray, List.nil_append, List.cons_append]
    go_wp2_with fail
    refine (kU _).mono ?_
    rintro e w2 ⟨rfl, hst⟩
    rw [hd.out]
    replace hst := bthen ((Below.refl _ w).alloc (Nat.le_refl _) _) hst
    go_wp2_with fail
    refine marks_ret0 (v := packT x y z t) ?_ ⟨rfl, hst⟩
    rw [ht.out]
    simp [results, Tryz.results38, go_sem]
  have ht := hid (show packT x y z t = .tuple #[.int .u32 (joinV [2, 10, 10, 10] (packL x y z t) : Nat), .bool true] by unfold packT; rw [cu]; rfl)
  have hd := hid cu
  unfold isU at hd
  clear cu
  have kF := fun w => farthest_any x y z t w p0 p1 p2 p3
  have hsg := hid (fun i => sg4_b x y z t i p0 p1 p2 p3)
  clear p0 p1 p2 p3
  have ho := best4_lt x y z t
  have hs : Go.RowKit.Hid (sg4 x y z t = if sel4 (best4 x y z t) x y z t < 0 then -1 else 1) := hid rfl
  have kL : Go.RowKit.Hid (packL x y z t = (best4 x y z t : Int) :: (oth (best4 x y z t) 4).map (packG x y z t)) := hid rfl
  have hoa := hid (oth_all _ ho)
  generalize best4 x y z t = o at *
  refine calls_of_marks Tryz.func38 rfl ?_
  simp only [Tryz.ntmps38, List.size_toArray, List.length_cons, List.length_nil, Nat.reduceAdd, Nat.reduceSub, Array.replicate_succ, Array.replicate_zero, List.push_toArray, List.append_toArray, List.nil_append, List.cons_append]
  go_upto_region 0 with (fail)
  apply wp_region_seg0 (w := w) (S := [.al 1000, .q [], .q []]) (E := [.al ((fun p => .pointer (some ⟨p, 0, none⟩)), _) 1000, .q0 _, .q0 _]) rfl (by kernel_rfl) rfl rfl
  intro th hge hne
  refine Seg.step _ rfl ⟨by rfl, fun U hU => ?_⟩ ?_
  · go_simp; exact vp_alloc rfl rfl rfl
  refine Seg.sa ?_
  refine Seg.sq ?_
  refine Seg.sq ?_
  refine Seg.stop (fun U1 hU hk => ?_)
  have nb0 := hge 0 _ _ rfl
  have rb0 := (hk 0 _ _ rfl trivial).1.2 (by simp)
  clear hk hge hne
  generalize th (0 + 0) = p0_0 at *
  dsimp only at rb0
  have r_p0_0 := rb0
  clear rb0
  have n_p0_0 := nb0
  clear nb0
  have sz1 := hU.size
  have hB : Below w.heap.size w U1 := hU
  clear hU
  go_upto_region 1 with (fail)
  apply wp_region_seg0 (w := U1) (S := [.q [], .q [], .q []]) (E := [.q0 _, .c0 _, .q0 _]) rfl (by kernel_rfl) rfl rfl
  intro th hge hne
  refine Seg.sq ?_ (ht := Or.inl ⟨by rfl, fun U hU => vp_quiet (by (have h0 := held_cell (held_after hU.1 r_p0_0) 0 _ rfl; have h1 := held_cell (held_after hU.1 r_p0_0) 1 _ rfl; have h2 := held_cell (held_after hU.1 r_p0_0) 2 _ rfl; have h3 := held_cell (held_after hU.1 r_p0_0) 3 _ rfl; go_simp <;> exact rfl))⟩)
  refine Seg.step _ rfl (Or.inl ⟨by rfl, fun U hU => ?_⟩) ?_
  · go_simp
    refine vp_call (kU _)
  refine Seg.sa ?_
  refine Seg.sq ?_
  refine Seg.stop (fun U2 hU hk => ?_)
  clear hk hge hne
  replace r_p0_0 := held_after hU r_p0_0
  have sz2 := hU.size
  replace hB := bthen hB hU
  clear hU
  rw [hd.out]
  go_upto_region 3 with (fail)
  apply wp_region_seg0 (w := U2) (S := [.q [], .q [], .q [], .q [], .q [], .q [], .q [], .q [], .q [], .al 10, .st 9 []]) (E := [.q0 _, .q0 _, .q0 _, .q0 _, .q0 _, .q0 _, .q0 _, .q0 _, .q0 _, .al ((fun p => .pointer (some ⟨p, 0, none⟩)), _) 10, .s0 9 (.cells _ _)]) rfl (by kernel_rfl) rfl rfl
  intro th hge hne
  refine Seg.sq ?_
  refine Seg.sq ?_ (ht := Or.inl ⟨by rfl, fun U hU => vp_quiet (by (have h0 := held_cell (held_after hU.1 r_p0_0) 0 _ rfl; go_simp <;> exact rfl))⟩)
  refine Seg.sq ?_
  refine Seg.sq ?_ (ht := Or.inl ⟨by rfl, fun U hU => vp_quiet (by (have h0 := held_cell (held_after hU.1 r_p0_0) 1 _ rfl; go_simp <;> exact rfl))⟩)
  refine Seg.sq ?_
  refine Seg.sq ?_ (ht := Or.inl ⟨by rfl, fun U hU => vp_quiet (by (have h0 := held_cell (held_after hU.1 r_p0_0) 2 _ rfl; go_simp <;> exact rfl))⟩)
  refine Seg.sq ?_
  refine Seg.sq ?_ (ht := Or.inl ⟨by rfl, fun U hU => vp_quiet (by (have h0 := held_cell (held_after hU.1 r_p0_0) 3 _ rfl; go_simp <;> exact rfl))⟩)
  refine Seg.sq ?_
  refine Seg.step _ rfl ⟨by rfl, fun U hU => ?_⟩ ?_
  · go_simp; exact vp_alloc rfl rfl rfl
  refine Seg.sa ?_
  refine Seg.step _ rfl ⟨by rfl, fun U z k hz hU hc => ?_⟩ ?_
  · have hz2 := Option.some.inj hz
    cases hz2; clear hz
    exact vp_store_agg _ _ _ rfl hc rfl rfl (by kernel_rfl) rfl (by rfl)
  refine Seg.sa ?_
  refine Seg.stop (fun U3 hU hk => ?_)
  have nb9 := hge 9 _ _ rfl
  have rb9 := (hk 9 _ 10 rfl trivial).1.1 trivial _ (Nat.zero_le _) rfl
  clear hk hge hne
  generalize th (0 + 9) = p3_9 at *
  simp only [Ent.obj] at rb9
  have df_p0_0_p3_9 : p0_0 ≠ p3_9 := by have := held_lt r_p0_0; omega
  replace r_p0_0 := held_after hU r_p0_0
  have r_p3_9 := rb9
  clear rb9
  have n_p3_9 := nb9
  clear nb9
  have sz3 := hU.size
  replace hB := bthen hB hU
  clear hU
  go_upto_region 4 with (fail)
  apply wp_region_seg0 (w := U3) (S := [.q [], .q [], .q []]) (E := [.q0 _, .c0 _, .q0 _]) rfl (by kernel_rfl) rfl rfl
  intro th hge hne
  refine Seg.sq ?_ (ht := Or.inl ⟨by rfl, fun U hU => vp_quiet (by (have h0 := held_cell (held_after hU.1 r_p3_9) 0 _ rfl; have h1 := held_cell (held_after hU.1 r_p3_9) 1 _ rfl; have h2 := held_cell (held_after hU.1 r_p3_9) 2 _ rfl; have h3 := held_cell (held_after hU.1 r_p3_9) 3 _ rfl; go_simp <;> exact rfl))⟩)
  refine Seg.step _ rfl (Or.inl ⟨by rfl, fun U hU => ?_⟩) ?_
  · go_simp
    refine vp_call (kF _)
  refine Seg.sa ?_
  refine Seg.sq ?_
  refine Seg.stop (fun U4 hU hk => ?_)
  clear hk hge hne
  replace r_p0_0 := held_after hU r_p0_0
  replace r_p3_9 := held_after hU r_p3_9
  have sz4 := hU.size
  replace hB := bthen hB hU
  clear hU
  go_upto_region 5 with (fail)
  apply wp_region_seg0 (w := U4) (S := [.al 1, .st 0 []]) (E := [.al ((fun p => .pointer (some ⟨p, 0, none⟩)), _) 1, .s0 0 (.cells _ _)]) rfl (by kernel_rfl) rfl rfl
  intro th hge hne
  refine Seg.step _ rfl ⟨by rfl, fun U hU => ?_⟩ ?_
  · go_simp; exact vp_alloc rfl rfl rfl
  refine Seg.sa ?_
  refine Seg.step _ rfl ⟨by rfl, fun U z k hz hU hc => ?_⟩ ?_
  · have hz2 := Option.some.inj hz
    cases hz2; clear hz
    exact vp_store_one _ _ _ rfl hc rfl rfl (by kernel_rfl) rfl ⟨rfl, rfl⟩
  refine Seg.sa ?_
  refine Seg.stop (fun U5 hU hk => ?_)
  have nb0 := hge 0 _ _ rfl
  have rb0 := (hk 0 _ 1 rfl trivial).1.1 trivial _ (Nat.zero_le _) rfl
  clear hk hge hne
  generalize th (0 + 0) = p5_0 at *
  simp only [Ent.obj] at rb0
  have df_p0_0_p5_0 : p0_0 ≠ p5_0 := by have := held_lt r_p0_0; omega
  have df_p3_9_p5_0 : p3_9 ≠ p5_0 := by have := held_lt r_p3_9; omega
  replace r_p0_0 := held_after hU r_p0_0
  replace r_p3_9 := held_after hU r_p3_9
  have r_p5_0 := rb0
  clear rb0
  have n_p5_0 := nb0
  clear nb0
  have sz5 := hU.size
  replace hB := bthen hB hU
  clear hU
  have dPS := df_p3_9_p5_0
  have ra : Row .i32 94 U5 p3_9 [x, y, z, t] := r_p3_9
  have hc := ra.cellAt o (show o < 4 from ho)
  rw [getD4 o x y z t ho] at hc
  have hs0 := held_cell r_p5_0 0 _ rfl
  have hs1 := held_free r_p5_0 0
  have hset := held_set r_p5_0 0 (.int .i64 (-1))
  replace ra := hid ra
  replace hset := hid hset
  replace hB := hid hB
  have nSG : w.heap.size ≤ p5_0 := by omega
  have rs := hid r_p5_0
  have rp := hid r_p3_9
  clear r_p5_0 r_p3_9
  have hsv : Go.RowKit.Hid (sel4 o x y z t = sel4 o x y z t) := hid rfl
  by_cases cn : sel4 o x y z t < 0
  · have esg : sg4 x y z t = -1 := by rw [hs.out, if_pos cn]
    replace esg := hid esg
    go_upto_region 8 with (fail)
    replace hB := hB.out.setCell (p := ⟨p5_0, 0, none⟩) nSG (.int .i64 (-1))
    have r_p5_0 := hset.out
    have r_p3_9 := rp.out
    replace r_p3_9 := (held_oth (j := 0) (v := .int .i64 (-1)) dPS r_p3_9)
    generalize U5.setCell ⟨p5_0, 0, none⟩ (.int .i64 (-1)) = V at *
    clear hset rs rp ra hc hs0 hs1
    have hwo : IntKind.u32.wrap (o : Int) = o := by simp [IntKind.wrap, IntKind.bits, IntKind.signed]; omega
    go_wp2_with fail
    refine (others_any _ _).mono ?_
    rintro e w3 ⟨rfl, rfl⟩
    go_wp2_with fail
    clear kU kF hd
    obtain ⟨qg, qL, qC, qz, qA⟩ := three_new V (.cells #[.int .u32 o] 38) (.cells #[.slice (some ⟨V.heap.size, 0, none⟩) 1 1] 96) (.cells #[.int .i64 o] 3)
    have hP := held_after qA r_p3_9
    have hS := held_after qA r_p5_0
    replace hB := bthen hB qA
    have hgw : w.heap.size ≤ V.heap.size := by have := hB.size; have := held_lt r_p3_9; omega
    have dL1 : p3_9 ≠ V.heap.size + 1 := by have := held_lt r_p3_9; omega
    have dL2 : p5_0 ≠ V.heap.size + 1 := by have := held_lt r_p5_0; omega
    generalize ((V.alloc (.cells #[.int .u32 o] 38)).alloc (.cells #[.slice (some ⟨V.heap.size, 0, none⟩) 1 1] 96)).alloc (.cells #[.int .i64 o] 3) = W0 at *
    clear qA r_p3_9 r_p5_0
    generalize V.heap.size = g at *
    have hltC : g + 1 + 1 < W0.heap.size := by omega
    have hcC := held_cell qC 0 _ rfl
    refine wp_rangeFunc_F (gf := 91) (lb := #[.pointer (some ⟨(g + 1 + 1), 0, none⟩)]) rfl (enters_of Tryz.func91 (by kernel_rfl) rfl) (others_stops 8 o ho (g + 1 + 1) W0 hltC hcC) (fun h k => kpAt_t h k) (kpAt_b hltC) (Below.refl _ _) (fun _ => rfl)
      (fun pre W => ∃ (ad : Option Addr) (cap : Nat), W.heap[g + 1]? = some (.cells #[.slice ad (zsP o (packG x y z t) pre).length cap] 96 (0, 0)) ∧ Own .u32 38 W w.heap.size (.slice ad (zsP o (packG x y z t) pre).length cap) (zsP o (packG x y z t) pre) ∧ W.heap[p3_9]? = some (.cells #[.int .i32 x, .int .i32 y, .int .i32 z, .int .i32 t] 94 (0, 0)) ∧ W.heap[p5_0]? = some (.cells #[.int .i64 (-1)] 2 (0, 0)) ∧ W.heap[g + 1 + 1]? = some (.cells #[.int .i64 o] 3 (0, 0)) ∧ Below w.heap.size w W) (fun _ _ _ => False) ?own ?ownx ?start (fun i => { tmps := #[.agg #[.int .i32 x, .int .i32 y, .int .i32 z, .int .i32 t], .pointer (some ⟨p0_0, 0, none⟩), .int .u32 0, .bool false, .pointer (some ⟨p3_9, 0, none⟩), .int .i64 o, .pointer (some ⟨p5_0, 0, none⟩), .pointer (some ⟨(g + 1), 0, none⟩), .int .i64 (i.val : Int), .agg #[.int .i32 x, .int .i32 y, .int .i32 z, .int .i32 t], .bool true, .bool false, .pointer (some ⟨p0_0, 0, none⟩), .int .i32 x, .pointer (some ⟨p0_0, 1, none⟩), .int .i32 y, .pointer (some ⟨p0_0, 2, none⟩), .int .i32 z, .pointer (some ⟨p0_0, 3, none⟩), .int .i32 t, .agg #[.int .i32 x, .int .i32 y, .int .i32 z, .int .i32 t], .agg #[.int .i32 x, .int .i32 y, .int .i32 z, .int .i32 t], .int .i64 o, .int .i64 o, .pointer (some ⟨p3_9, o, none⟩), .int .i32 (sel4 o x y z t), .bool true, .int .i64 o, .int .u32 o, .slice (some ⟨g, 0, none⟩) 1 1, .int .i64 o, .func (.func 91) #[] #[.pointer (some ⟨(g + 1 + 1), 0, none⟩)], .int .i64 (i.val : Int), undef, undef, undef, undef, undef, undef, undef, undef, undef, undef, undef, undef, undef, undef, undef], defers := [] }) ?assign ?body ?done ?stop
    case own =>
      rintro pre A B row ⟨ad, cap, k1, k2, k3, k4, k5, k6⟩ hg hr
      exact ⟨ad, cap, keeps_row k1 rfl hg hr, keeps_own k2 hg hr, keeps_row k3 rfl hg hr, keeps_row k4 rfl hg hr, keeps_row k5 rfl hg hr, keeps_below k6 (by omega) k6.size hg hr⟩
    case ownx => exact fun _ _ _ _ _ h _ _ => h
    case start => exact ⟨some ⟨g, 0, none⟩, 1, qL, Row.own (show Row .u32 38 W0 g [(o : Int)] from qg) _ hgw (by unfold maxLen; simp), hP, hS, qC, hB⟩
    case assign =>
      intro l i W K hK
      gi_wp2
      exact hK
    case stop =>
      rintro D c pre W _ _ h _
      exact h.elim
    case body =>
      rintro l pre ⟨i, hi⟩ W ⟨ad, cap, hL, hO, hP, hS, hC, hB⟩ hlen
      dsimp only
      apply wpIn_block
      have hsi := hsg.out i
      rw [esg.out] at hsi
      have hG := hid (show packG x y z t ⟨i, hi⟩ = numS (-sel4 i x y z t) by unfold packG; dsimp only; rw [esg.out]; congr 1; omega)
      have hvb : -2147483648 ≤ sel4 i x y z t ∧ sel4 i x y z t ≤ 2147483648 := by omega
      have hw1 : IntKind.i64.wrap (sel4 i x y z t) = sel4 i x y z t := by rw [IntKind.wrap_i64]; omega
      have hw2 : IntKind.i64.wrap (-sel4 i x y z t) = -sel4 i x y z t := by rw [IntKind.wrap_i64]; omega
      have hzl := hid (zsP_len o (packG x y z t) pre)
      have hnx := hid (zsP_next o (packG x y z t) pre ⟨i, hi⟩)
      have hC0 := hid hC
      have hO2 := hid hO
      have hB2 := hid hB
      have hi4 : (i : Int) < 4 := by omega
      clear hO hB
      apply wpIn_region_part (w := W) (S := [.q [], .q [], .q [], .q [], .q [], .q [], .q [], .q [], .al 1000]) (E := [.q0 _, .q0 _, .q0 _, .q0 _, .q0 _, .q0 _, .q0 _, .c0 _, .al ((fun p => .slice (some ⟨p, 0, none⟩) 1 1), _) 1000]) 9 2 (by kernel_rfl) (fun ⟨_, _, h⟩ => h) (by kernel_rfl) rfl (by kernel_rfl) rfl rfl rfl
      intro th hge hne
      refine Seg.sq ?_ (ht := Or.inl ⟨by rfl, fun U hU => vp_quiet (by (have h0 := held_cell (held_after hU.1 hL) 0 _ rfl; go_simp <;> exact rfl))⟩)
      refine Seg.sq ?_ (ht := Or.inl ⟨by rfl, fun U hU => vp_quiet (by (have h0 := held_cell (held_after hU.1 hS) 0 _ rfl; go_simp <;> exact rfl))⟩)
      refine Seg.sq ?_
      refine Seg.sq ?_
      refine Seg.sq ?_ (ht := Or.inl ⟨by rfl, fun U hU => vp_quiet (by (have h0 := Row.cellAt (k := .i32) (zs := [x, y, z, t]) (show Row .i32 94 _ _ [x, y, z, t] from held_after hU.1 hP) i hi; rw [getD4 i x y z t hi] at h0; go_simp <;> exact rfl))⟩)
      refine Seg.sq ?_
      refine Seg.sq ?_
      refine Seg.step _ rfl (Or.inl ⟨by rfl, fun U hU => ?_⟩) ?_
      · go_simp
        refine vp_calld (number_any _ _ (by omega) (by omega))
      refine Seg.sa ?_
      refine Seg.step _ rfl ⟨by rfl, fun U hU => ?_⟩ ?_
      · go_simp; exact vp_alloc rfl rfl rfl
      refine Seg.sa ?_
      refine Seg.stop (fun U11 hU hk => ?_)
      have nb8 := hge 8 _ _ rfl
      have rb8 := (hk 8 _ _ rfl trivial).1.2 (by simp)
      clear hk hge hne
      generalize th (0 + 8) = p11_8 at *
      dsimp only at rb8
      replace hP := held_after hU hP
      replace hS := held_after hU hS
      replace hL := held_after hU hL
      have r_p11_8 := rb8
      clear rb8
      have n_p11_8 := nb8
      clear nb8
      have sz11 := hU.size
      have hB : Below W.heap.size W U11 := hU
      have hC := held_after hU hC
      have hO := hO2.out.below hU
      have kA := keepsOthers_after hU
      have hB := bthen hB2.out hU
      clear hO2 hB2 hU
      rw [← hG.out] at r_p11_8
      have hzs : (zsP o (packG x y z t) pre).length + 1 ≤ 140737488355328 / 4 := by rw [hzl.out]; omega
      refine Seg.only (m := 9) (k := 1) rfl (by kernel_rfl) (by rfl) (fun K hK => ?_)
      refine wp_app1 (.tmp 33) (.tmp 41) 96 rfl w.heap.size 38 .u32 4 u32s _ _ rfl hO p11_8 _ _ rfl r_p11_8 hzs (by omega) (hB.size) ?_
      intro a9 cap9 w9 hO9 hg9
      refine hK _ _ ?_
      clear hK
      have hL9 := held_grown hL hg9 (own_ne hO hL (by decide))
      have hP9 := held_grown hP hg9 (own_ne hO hP (by decide))
      have hS9 := held_grown hS hg9 (own_ne hO hS (by decide))
      have hC9 := held_grown hC hg9 (own_ne hO hC (by decide))
      have hB9 := hO.grew hg9 hB (Nat.le_refl _) hB.size
      have kA9 := kA.trans (KeepsOthers.of_grownBy hg9 (fun j ob e hj => own_cells hO e hj))
      clear hO hg9 hL hP hS hC
      rw [← hnx.out] at hO9
      have hc9 := held_cell hL9 0 _ rfl
      have hf9 := held_free hL9 0
      replace hO9 := hid hO9
      replace hB9 := hid hB9
      refine Seg.only (m := 10) (k := 0) rfl (by kernel_rfl) (by rfl) (fun K hK => ?_)
      go_simp
      refine hK _ _ (Seg.finish ?_ _)
      clear hK
      have hsz : (zsP o (packG x y z t) pre).length + 1 = (zsP o (packG x y z t) (pre ++ [⟨i, hi⟩])).length := by rw [hnx.out, List.length_append]; rfl
      rw [hsz] at hO9 ⊢
      refine ⟨kA9.trans (KeepsOthers.setCell _ _ _), ⟨?_, ?_⟩, a9, cap9, held_set hL9 0 _, hO9.out.oth hL9 (by decide) 0 _, held_oth dL1 hP9, held_oth dL2 hS9, held_oth (by omega) hC9, hB9.out.setCell (p := ⟨g + 1, 0, none⟩) (by show _ ≤ g + 1; omega) _⟩
      · have := kA9.size; simpa [World.setCell] using this
      · rw [show _ = _ from held_oth (show g + 1 + 1 ≠ g + 1 by omega) hC9]; exact hC0.out.symm
    case done =>
      rintro D ys W hD rfl ⟨ad, cap, hL, hO, hP, hS, hC, hB⟩ hK
      have ez : zsP o (packG x y z t) (oth o 4) = packL x y z t := kL.out.symm
      rw [ez] at hL hO
      have hl4 : (packL x y z t).length ≤ 4 := by rw [packL_len]; exact Nat.le_refl _
      have hwf := hid (packL_wf x y z t)
      have hok := pack_fits x y z t
      clear ez kL hs hsg hoa esg qg qL qC hP hS hC
      generalize packL x y z t = zs at *
      obtain ⟨bd, cb, hv, hsl⟩ := hO.sl
      cases hv
      have hrow := World.alloc_heap_new W (.cells #[.int .i64 2, .int .i64 10, .int .i64 10, .int .i64 10] 3)
      have hA : After W (W.alloc (.cells #[.int .i64 2, .int .i64 10, .int .i64 10, .int .i64 10] 3)) := (Below.refl _ W).alloc (Nat.le_refl _) _
      have kJ := join_any (some ⟨W.heap.size, 0, none⟩) ad 4 4 zs.length cap [2, 10, 10, 10] zs _ (Row.sl (show Row .i64 3 _ _ [2, 10, 10, 10] from hrow) (by unfold maxLen; simp)) (by decide) (by omega) (hsl.below hA) hwf.out (by omega)
      replace hK := hid (held_after hA hK)
      replace hB := hid (bthen hB hA)
      have hcl := held_cell (held_after hA hL) 0 _ rfl
      clear hsl hA hrow hO hL
      go_wp2_with fail
      refine kJ.mono ?_
      rintro e w5 ⟨rfl, hb5⟩
      replace hK := held_after hb5 hK.out
      replace hB := bthen hB.out hb5
      replace hK := hid hK
      replace hB := hid hB
      go_wp2_with fail
      refine marks_ret1 (v := packT x y z t) hK.out ?_ ⟨rfl, below_mark hB.out (by omega) hD hK.out⟩
      rw [ht.out]
      simp [results, Tryz.results38, go_sem]
  · have esg : sg4 x y z t = 1 := by rw [hs.out, if_neg cn]
    replace esg := hid esg
    go_upto_region 8 with (fail)
    replace hB := hB.out
    have r_p5_0 := rs.out
    have r_p3_9 := rp.out
    clear hset rs rp ra hc hs0 hs1
    have hwo : IntKind.u32.wrap (o : Int) = o := by simp [IntKind.wrap, IntKind.bits, IntKind.signed]; omega
    go_wp2_with fail
    refine (others_any _ _).mono ?_
    rintro e w3 ⟨rfl, rfl⟩
    go_wp2_with fail
    clear kU kF hd
    obtain ⟨qg, qL, qC, qz, qA⟩ := three_new U5 (.cells #[.int .u32 o] 38) (.cells #[.slice (some ⟨U5.heap.size, 0, none⟩) 1 1] 96) (.cells #[.int .i64 o] 3)
    have hP := held_after qA r_p3_9
    have hS := held_after qA r_p5_0
    replace hB := bthen hB qA
    have hgw : w.heap.size ≤ U5.heap.size := by have := hB.size; have := held_lt r_p3_9; omega
    have dL1 : p3_9 ≠ U5.heap.size + 1 := by have := held_lt r_p3_9; omega
    have dL2 : p5_0 ≠ U5.heap.size + 1 := by have := held_lt r_p5_0; omega
    generalize ((U5.alloc (.cells #[.int .u32 o] 38)).alloc (.cells #[.slice (some ⟨U5.heap.size, 0, none⟩) 1 1] 96)).alloc (.cells #[.int .i64 o] 3) = W0 at *
    clear qA r_p3_9 r_p5_0
    generalize U5.heap.size = g at *
    have hltC : g + 1 + 1 < W0.heap.size := by omega
    have hcC := held_cell qC 0 _ rfl
    refine wp_rangeFunc_F (gf := 91) (lb := #[.pointer (some ⟨(g + 1 + 1), 0, none⟩)]) rfl (enters_of Tryz.func91 (by kernel_rfl) rfl) (others_stops 8 o ho (g + 1 + 1) W0 hltC hcC) (fun h k => kpAt_t h k) (kpAt_b hltC) (Below.refl _ _) (fun _ => rfl)
      (fun pre W => ∃ (ad : Option Addr) (cap : Nat), W.heap[g + 1]? = some (.cells #[.slice ad (zsP o (packG x y z t) pre).length cap] 96 (0, 0)) ∧ Own .u32 38 W w.heap.size (.slice ad (zsP o (packG x y z t) pre).length cap) (zsP o (packG x y z t) pre) ∧ W.heap[p3_9]? = some (.cells #[.int .i32 x, .int .i32 y, .int .i32 z, .int .i32 t] 94 (0, 0)) ∧ W.heap[p5_0]? = some (.cells #[.int .i64 (1)] 2 (0, 0)) ∧ W.heap[g + 1 + 1]? = some (.cells #[.int .i64 o] 3 (0, 0)) ∧ Below w.heap.size w W) (fun _ _ _ => False) ?own ?ownx ?start (fun i => { tmps := #[.agg #[.int .i32 x, .int .i32 y, .int .i32 z, .int .i32 t], .pointer (some ⟨p0_0, 0, none⟩), .int .u32 0, .bool false, .pointer (some ⟨p3_9, 0, none⟩), .int .i64 o, .pointer (some ⟨p5_0, 0, none⟩), .pointer (some ⟨(g + 1), 0, none⟩), .int .i64 (i.val : Int), .agg #[.int .i32 x, .int .i32 y, .int .i32 z, .int .i32 t], .bool true, .bool false, .pointer (some ⟨p0_0, 0, none⟩), .int .i32 x, .pointer (some ⟨p0_0, 1, none⟩), .int .i32 y, .pointer (some ⟨p0_0, 2, none⟩), .int .i32 z, .pointer (some ⟨p0_0, 3, none⟩), .int .i32 t, .agg #[.int .i32 x, .int .i32 y, .int .i32 z, .int .i32 t], .agg #[.int .i32 x, .int .i32 y, .int .i32 z, .int .i32 t], .int .i64 o, .int .i64 o, .pointer (some ⟨p3_9, o, none⟩), .int .i32 (sel4 o x y z t), .bool false, .int .i64 o, .int .u32 o, .slice (some ⟨g, 0, none⟩) 1 1, .int .i64 o, .func (.func 91) #[] #[.pointer (some ⟨(g + 1 + 1), 0, none⟩)], .int .i64 (i.val : Int), undef, undef, undef, undef, undef, undef, undef, undef, undef, undef, undef, undef, undef, undef, undef], defers := [] }) ?assign ?body ?done ?stop
    case own =>
      rintro pre A B row ⟨ad, cap, k1, k2, k3, k4, k5, k6⟩ hg hr
      exact ⟨ad, cap, keeps_row k1 rfl hg hr, keeps_own k2 hg hr, keeps_row k3 rfl hg hr, keeps_row k4 rfl hg hr, keeps_row k5 rfl hg hr, keeps_below k6 (by omega) k6.size hg hr⟩
    case ownx => exact fun _ _ _ _ _ h _ _ => h
    case start => exact ⟨some ⟨g, 0, none⟩, 1, qL, Row.own (show Row .u32 38 W0 g [(o : Int)] from qg) _ hgw (by unfold maxLen; simp), hP, hS, qC, hB⟩
    case assign =>
      intro l i W K hK
      gi_wp2
      exact hK
    case stop =>
      rintro D c pre W _ _ h _
      exact h.elim
    case body =>
      rintro l pre ⟨i, hi⟩ W ⟨ad, cap, hL, hO, hP, hS, hC, hB⟩ hlen
      dsimp only
      apply wpIn_block
      have hsi := hsg.out i
      rw [esg.out] at hsi
      have hG := hid (show packG x y z t ⟨i, hi⟩ = numS (sel4 i x y z t) by unfold packG; dsimp only; rw [esg.out]; congr 1; omega)
      have hvb : -2147483648 ≤ sel4 i x y z t ∧ sel4 i x y z t ≤ 2147483648 := by omega
      have hw1 : IntKind.i64.wrap (sel4 i x y z t) = sel4 i x y z t := by rw [IntKind.wrap_i64]; omega
      have hw2 : IntKind.i64.wrap (-sel4 i x y z t) = -sel4 i x y z t := by rw [IntKind.wrap_i64]; omega
      have hzl := hid (zsP_len o (packG x y z t) pre)
      have hnx := hid (zsP_next o (packG x y z t) pre ⟨i, hi⟩)
      have hC0 := hid hC
      have hO2 := hid hO
      have hB2 := hid hB
      have hi4 : (i : Int) < 4 := by omega
      clear hO hB
      apply wpIn_region_part (w := W) (S := [.q [], .q [], .q [], .q [], .q [], .q [], .q [], .q [], .al 1000]) (E := [.q0 _, .q0 _, .q0 _, .q0 _, .q0 _, .q0 _, .q0 _, .c0 _, .al ((fun p => .slice (some ⟨p, 0, none⟩) 1 1), _) 1000]) 9 2 (by kernel_rfl) (fun ⟨_, _, h⟩ => h) (by kernel_rfl) rfl (by kernel_rfl) rfl rfl rfl
      intro th hge hne
      refine Seg.sq ?_ (ht := Or.inl ⟨by rfl, fun U hU => vp_quiet (by (have h0 := held_cell (held_after hU.1 hL) 0 _ rfl; go_simp <;> exact rfl))⟩)
      refine Seg.sq ?_ (ht := Or.inl ⟨by rfl, fun U hU => vp_quiet (by (have h0 := held_cell (held_after hU.1 hS) 0 _ rfl; go_simp <;> exact rfl))⟩)
      refine Seg.sq ?_
      refine Seg.sq ?_
      refine Seg.sq ?_ (ht := Or.inl ⟨by rfl, fun U hU => vp_quiet (by (have h0 := Row.cellAt (k := .i32) (zs := [x, y, z, t]) (show Row .i32 94 _ _ [x, y, z, t] from held_after hU.1 hP) i hi; rw [getD4 i x y z t hi] at h0; go_simp <;> exact rfl))⟩)
      refine Seg.sq ?_
      refine Seg.sq ?_
      refine Seg.step _ rfl (Or.inl ⟨by rfl, fun U hU => ?_⟩) ?_
      · go_simp
        refine vp_calld (number_any _ _ (by omega) (by omega))
      refine Seg.sa ?_
      refine Seg.step _ rfl ⟨by rfl, fun U hU => ?_⟩ ?_
      · go_simp; exact vp_alloc rfl rfl rfl
      refine Seg.sa ?_
      refine Seg.stop (fun U11 hU hk => ?_)
      have nb8 := hge 8 _ _ rfl
      have rb8 := (hk 8 _ _ rfl trivial).1.2 (by simp)
      clear hk hge hne
      generalize th (0 + 8) = p11_8 at *
      dsimp only at rb8
      replace hP := held_after hU hP
      replace hS := held_after hU hS
      replace hL := held_after hU hL
      have r_p11_8 := rb8
      clear rb8
      have n_p11_8 := nb8
      clear nb8
      have sz11 := hU.size
      have hB : Below W.heap.size W U11 := hU
      have hC := held_after hU hC
      have hO := hO2.out.below hU
      have kA := keepsOthers_after hU
      have hB := bthen hB2.out hU
      clear hO2 hB2 hU
      rw [← hG.out] at r_p11_8
      have hzs : (zsP o (packG x y z t) pre).length + 1 ≤ 140737488355328 / 4 := by rw [hzl.out]; omega
      refine Seg.only (m := 9) (k := 1) rfl (by kernel_rfl) (by rfl) (fun K hK => ?_)
      refine wp_app1 (.tmp 33) (.tmp 41) 96 rfl w.heap.size 38 .u32 4 u32s _ _ rfl hO p11_8 _ _ rfl r_p11_8 hzs (by omega) (hB.size) ?_
      intro a9 cap9 w9 hO9 hg9
      refine hK _ _ ?_
      clear hK
      have hL9 := held_grown hL hg9 (own_ne hO hL (by decide))
      have hP9 := held_grown hP hg9 (own_ne hO hP (by decide))
      have hS9 := held_grown hS hg9 (own_ne hO hS (by decide))
      have hC9 := held_grown hC hg9 (own_ne hO hC (by decide))
      have hB9 := hO.grew hg9 hB (Nat.le_refl _) hB.size
      have kA9 := kA.trans (KeepsOthers.of_grownBy hg9 (fun j ob e hj => own_cells hO e hj))
      clear hO hg9 hL hP hS hC
      rw [← hnx.out] at hO9
      have hc9 := held_cell hL9 0 _ rfl
      have hf9 := held_free hL9 0
      replace hO9 := hid hO9
      replace hB9 := hid hB9
      refine Seg.only (m := 10) (k := 0) rfl (by kernel_rfl) (by rfl) (fun K hK => ?_)
      go_simp
      refine hK _ _ (Seg.finish ?_ _)
      clear hK
      have hsz : (zsP o (packG x y z t) pre).length + 1 = (zsP o (packG x y z t) (pre ++ [⟨i, hi⟩])).length := by rw [hnx.out, List.length_append]; rfl
      rw [hsz] at hO9 ⊢
      refine ⟨kA9.trans (KeepsOthers.setCell _ _ _), ⟨?_, ?_⟩, a9, cap9, held_set hL9 0 _, hO9.out.oth hL9 (by decide) 0 _, held_oth dL1 hP9, held_oth dL2 hS9, held_oth (by omega) hC9, hB9.out.setCell (p := ⟨g + 1, 0, none⟩) (by show _ ≤ g + 1; omega) _⟩
      · have := kA9.size; simpa [World.setCell] using this
      · rw [show _ = _ from held_oth (show g + 1 + 1 ≠ g + 1 by omega) hC9]; exact hC0.out.symm
    case done =>
      rintro D ys W hD rfl ⟨ad, cap, hL, hO, hP, hS, hC, hB⟩ hK
      have ez : zsP o (packG x y z t) (oth o 4) = packL x y z t := kL.out.symm
      rw [ez] at hL hO
      have hl4 : (packL x y z t).length ≤ 4 := by rw [packL_len]; exact Nat.le_refl _
      have hwf := hid (packL_wf x y z t)
      have hok := pack_fits x y z t
      clear ez kL hs hsg hoa esg qg qL qC hP hS hC
      generalize packL x y z t = zs at *
      obtain ⟨bd, cb, hv, hsl⟩ := hO.sl
      cases hv
      have hrow := World.alloc_heap_new W (.cells #[.int .i64 2, .int .i64 10, .int .i64 10, .int .i64 10] 3)
      have hA : After W (W.alloc (.cells #[.int .i64 2, .int .i64 10, .int .i64 10, .int .i64 10] 3)) := (Below.refl _ W).alloc (Nat.le_refl _) _
      have kJ := join_any (some ⟨W.heap.size, 0, none⟩) ad 4 4 zs.length cap [2, 10, 10, 10] zs _ (Row.sl (show Row .i64 3 _ _ [2, 10, 10, 10] from hrow) (by unfold maxLen; simp)) (by decide) (by omega) (hsl.below hA) hwf.out (by omega)
      replace hK := hid (held_after hA hK)
      replace hB := hid (bthen hB hA)
      have hcl := held_cell (held_after hA hL) 0 _ rfl
      clear hsl hA hrow hO hL
      go_wp2_with fail
      refine kJ.mono ?_
      rintro e w5 ⟨rfl, hb5⟩
      replace hK := held_after hb5 hK.out
      replace hB := bthen hB.out hb5
      replace hK := hid hK
      replace hB := hid hB
      go_wp2_with fail
      refine marks_ret1 (v := packT x y z t) hK.out ?_ ⟨rfl, below_mark hB.out (by omega) hD hK.out⟩
      rw [ht.out]
      simp [results, Tryz.results38, go_sem]

end Go.Proofs.YtpdpcdifnlellaaGreat

/- The reference of package small: Pack. -/
namespace Go.Proofs.YtpdpcdifnlellaaGreat
open Go.ChangeShapes Go.WideShapes Go.ChangeAt Go.RowKit Go.Shelf
set_option maxRecDepth 100000
set_option linter.unusedVariables false

theorem bst_up {f : Nat → Int} {k : Nat} (h : f (bst f k) < f (k + 1)) : bst f (k + 1) = k + 1 := if_pos h
theorem bst_no {f : Nat → Int} {k : Nat} (h : ¬ f (bst f k) < f (k + 1)) : bst f (k + 1) = bst f k := if_neg h
theorem zsP_same {o k : Nat} {G : Fin 4 → Int} (h : k = o) : zsP o G (oth o (k + 1)) = zsP o G (oth o k) := by rw [oth_same h]
theorem zsP_more {o k : Nat} {G : Fin 4 → Int} (hk : k < 4) (h : k ≠ o) : zsP o G (oth o (k + 1)) = zsP o G (oth o k) ++ [G ⟨k, hk⟩] := by rw [oth_next hk h, zsP_next]
theorem oth_le : ∀ o : Nat, o < 4 → ∀ k : Nat, k < 5 → (oth o k).length ≤ 4 := by decide

set_option maxRecDepth 100000 in
set_option maxHeartbeats 4000000 in
theorem rpack_any (x y z t : Int) (w : World) (p0 : B32 x) (p1 : B32 y) (p2 : B32 z) (p3 : B32 t) :
    Calls Tryz.prog 39 #[.agg #[.int .i32 x, .int .i32 y, .int .i32 z, .int .i32 t]] w fun e w' => e = .returned (packT x y z t) ∧ Below w.heap.size w w' := by
  have kU := fun w => risu_any x y z t w p0 p1 p2 p3
  by_cases cu : isU x y z t = true
  case neg =>
    have cu := Bool.not_eq_true _ ▸ cu
    have ht := hid (show packT x y z t = .tuple #[.int .u32 0, .bool false] by unfold packT; rw [cu]; rfl)
    have hd := hid cu
    unfold isU at hd
    clear cu
    go_enter Tryz.func39, Tryz.ntmps39
    go_wp2_with fail
    refine (kU _).mono ?_
    rintro e w2 ⟨rfl, hst⟩
    rw [hd.out]
    replace hst := bthen ((Below.refl _ w).alloc (Nat.le_refl _) _) hst
    go_wp2_with fail
    refine bodyPost_ret (v := packT x y z t) ?_ rfl ⟨rfl, hst⟩
    rw [ht.out]
    simp [results, Tryz.results39, go_sem]
  have ht := hid (show packT x y z t = .tuple #[.int .u32 (joinV [2, 10, 10, 10] (packL x y z t) : Nat), .bool true] by unfold packT; rw [cu]; rfl)
  have hd := hid cu
  unfold isU at hd
  clear cu
  have hsg := hid (fun i => sg4_b x y z t i p0 p1 p2 p3)
  have hsb := hid (fun k => sel4_b k p0 p1 p2 p3)
  clear p0 p1 p2 p3
  go_enter Tryz.func39, Tryz.ntmps39
  go_upto_region 0 with (fail)
  apply wp_region_seg0 (w := w) (S := [.al 1000, .q [], .q []]) (E := [.al ((fun p => .pointer (some ⟨p, 0, none⟩)), _) 1000, .q0 _, .q0 _]) rfl (by kernel_rfl) rfl rfl
  intro th hge hne
  refine Seg.step _ rfl ⟨by rfl, fun U hU => ?_⟩ ?_
  · go_simp; exact vp_alloc rfl rfl rfl
  refine Seg.sa ?_
  refine Seg.sq ?_
  refine Seg.sq ?_
  refine Seg.stop (fun U1 hU hk => ?_)
  have nb0 := hge 0 _ _ rfl
  have rb0 := (hk 0 _ _ rfl trivial).1.2 (by simp)
  clear hk hge hne
  generalize th (0 + 0) = p0_0 at *
  dsimp only at rb0
  have r_p0_0 := rb0
  clear rb0
  have n_p0_0 := nb0
  clear nb0
  have sz1 := hU.size
  have hB : Below w.heap.size w U1 := hU
  clear hU
  go_upto_region 1 with (fail)
  apply wp_region_seg0 (w := U1) (S := [.q [], .q [], .q []]) (E := [.q0 _, .c0 _, .q0 _]) rfl (by kernel_rfl) rfl rfl
  intro th hge hne
  refine Seg.sq ?_ (ht := Or.inl ⟨by rfl, fun U hU => vp_quiet (by (have h0 := held_cell (held_after hU.1 r_p0_0) 0 _ rfl; have h1 := held_cell (held_after hU.1 r_p0_0) 1 _ rfl; have h2 := held_cell (held_after hU.1 r_p0_0) 2 _ rfl; have h3 := held_cell (held_after hU.1 r_p0_0) 3 _ rfl; go_simp <;> exact rfl))⟩)
  refine Seg.step _ rfl (Or.inl ⟨by rfl, fun U hU => ?_⟩) ?_
  · go_simp
    refine vp_call (kU _)
  refine Seg.sa ?_
  refine Seg.sq ?_
  refine Seg.stop (fun U2 hU hk => ?_)
  clear hk hge hne
  replace r_p0_0 := held_after hU r_p0_0
  have sz2 := hU.size
  replace hB := bthen hB hU
  clear hU
  rw [hd.out]
  go_upto_region 3 with (fail)
  apply wp_region_seg0 (w := U2) (S := [.q [], .q [], .q [], .q [], .q [], .q [], .q [], .q [], .al 1000, .q [8]]) (E := [.q0 _, .q0 _, .q0 _, .q0 _, .q0 _, .q0 _, .q0 _, .q0 _, .al ((fun p => .slice (some ⟨p, 0, none⟩) 4 4), _) 1000, .q1 8 (fun p => .slice (some ⟨p, 0, none⟩) 4 4)]) rfl (by kernel_rfl) rfl rfl
  intro th hge hne
  refine Seg.sq ?_
  refine Seg.sq ?_ (ht := Or.inl ⟨by rfl, fun U hU => vp_quiet (by (have h0 := held_cell (held_after hU.1 r_p0_0) 0 _ rfl; go_simp <;> exact rfl))⟩)
  refine Seg.sq ?_
  refine Seg.sq ?_ (ht := Or.inl ⟨by rfl, fun U hU => vp_quiet (by (have h0 := held_cell (held_after hU.1 r_p0_0) 1 _ rfl; go_simp <;> exact rfl))⟩)
  refine Seg.sq ?_
  refine Seg.sq ?_ (ht := Or.inl ⟨by rfl, fun U hU => vp_quiet (by (have h0 := held_cell (held_after hU.1 r_p0_0) 2 _ rfl; go_simp <;> exact rfl))⟩)
  refine Seg.sq ?_
  refine Seg.sq ?_ (ht := Or.inl ⟨by rfl, fun U hU => vp_quiet (by (have h0 := held_cell (held_after hU.1 r_p0_0) 3 _ rfl; go_simp <;> exact rfl))⟩)
  refine Seg.step _ rfl ⟨by rfl, fun U hU => ?_⟩ ?_
  · go_simp; exact vp_alloc rfl rfl rfl
  refine Seg.sa ?_
  refine Seg.sq ?_
  refine Seg.stop (fun U3 hU hk => ?_)
  have nb8 := hge 8 _ _ rfl
  have rb8 := (hk 8 _ _ rfl trivial).1.2 (by simp)
  clear hk hge hne
  generalize th (0 + 8) = p3_8 at *
  dsimp only at rb8
  have df_p0_0_p3_8 : p0_0 ≠ p3_8 := by have := held_lt r_p0_0; omega
  replace r_p0_0 := held_after hU r_p0_0
  have r_p3_8 := rb8
  clear rb8
  have n_p3_8 := nb8
  clear nb8
  have sz3 := hU.size
  replace hB := bthen hB hU
  clear hU
  go_upto_region 4 with (fail)
  have ra : Row .i32 21 U3 p3_8 [x, y, z, t] := r_p3_8
  have nA : w.heap.size ≤ p3_8 := by omega
  clear kU hd
  clear r_p3_8 r_p0_0
  go_wp2_with fail
  go_loopw [5, 6] (fun b i wr => ∃ k : Nat, k ≤ 3 ∧ i = .int .i64 ((k : Int) + 1) ∧ b = .int .i64 (bst (far4S x y z t) k : Nat) ∧ Row .i32 21 wr p3_8 [x, y, z, t] ∧ Below w.heap.size w wr) (fun b i _ => 4 - (intOf i).toNat)
  case atStart => exact ⟨0, by omega, rfl, rfl, ra, hB⟩
  case round =>
    clear ra hB
    obtain ⟨k, hk, rfl, rfl, ra, hB⟩ := hrel
    by_cases hlt : (k : Int) + 1 < 4
    case pos =>
      have hb3 := bst_le (far4S x y z t) k
      have hlt2 : k + 1 < 4 := by omega
      have hbl : bst (far4S x y z t) k < 4 := by omega
      have hup := hid (bst_up (f := far4S x y z t) (k := k))
      have hno := hid (bst_no (f := far4S x y z t) (k := k))
      have hf1 := hid (show far4S x y z t (k + 1) = absI (sel4 (k + 1) x y z t) from rfl)
      have hf2 := hid (show far4S x y z t (bst (far4S x y z t) k) = absI (sel4 (bst (far4S x y z t) k) x y z t) from rfl)
      rw [hf1.out, hf2.out] at hup hno
      have hc1 := ra.cellAt (k + 1) (show k + 1 < 4 from hlt2)
      rw [getD4 (k + 1) x y z t hlt2] at hc1
      have hc2 := ra.cellAt (bst (far4S x y z t) k) (show _ < 4 from hbl)
      rw [getD4 _ x y z t hbl] at hc2
      have hB1 := hsb.out (k + 1)
      have hB2 := hsb.out (bst (far4S x y z t) k)
      have k1 := hid (fun (v : World) => rfar12_any (sel4 (k + 1) x y z t) v hB1)
      have k2 := hid (fun (v : World) => rfar12_any (sel4 (bst (far4S x y z t) k) x y z t) v hB2)
      clear hf1 hf2 hB1 hB2
      replace hup := hid hup
      replace hno := hid hno
      generalize sel4 (k + 1) x y z t = u1 at *
      generalize sel4 (bst (far4S x y z t) k) x y z t = u2 at *
      generalize absI u1 = n1 at *
      generalize absI u2 = n2 at *
      generalize hbk : bst (far4S x y z t) k = bb at *
      replace hbk := hid hbk
      have hbi : (bb : Int) < 4 := by omega
      have hw1 : IntKind.i64.wrap ((k : Int) + 1 + 1) = (k : Int) + 1 + 1 := by rw [IntKind.wrap_i64]; omega
      by_cases cc : n2 < n1
      · have e := hid (hup.out.out cc)
        have cb : decide (n2 < n1) = true := decide_eq_true cc
        clear hup hno
        replace ra := hid ra
        have hBw := hid hB
        clear hB
        have cb2 : decide ((k : Int) + 1 < 4) = true := decide_eq_true hlt
        clear cc
        go_upto_region 8 with (fail)
        apply wp_region_seg (w := wr) (S := [.q [], .q [], .q [], .q [], .q [], .q [], .q [], .q [], .q [], .q [], .q []]) (E := [.q0 _, .q0 _, .q0 _, .q0 _, .c0 _, .q0 _, .q0 _, .q0 _, .q0 _, .c0 _, .q0 _]) (by kernel_rfl) rfl (by kernel_rfl) rfl rfl
        intro th hge hne
        iterate 3 refine Seg.sq ?_
        refine Seg.sq ?_ (ht := Or.inl ⟨by rfl, fun U hU => vp_quiet (by (have h0 := After.cellB hU.1 hc1; go_simp <;> exact rfl))⟩)
        refine Seg.step _ rfl (Or.inl ⟨by rfl, fun U hU => ?_⟩) ?_
        · go_simp
          refine vp_calls (k1.out _)
        refine Seg.sa ?_
        iterate 3 refine Seg.sq ?_
        refine Seg.sq ?_ (ht := Or.inl ⟨by rfl, fun U hU => vp_quiet (by (have h0 := After.cellB hU.1 hc2; go_simp <;> exact rfl))⟩)
        refine Seg.step _ rfl (Or.inl ⟨by rfl, fun U hU => ?_⟩) ?_
        · go_simp
          refine vp_calls (k2.out _)
        refine Seg.sa ?_
        refine Seg.sq ?_
        refine Seg.stop (fun U21 hU hk => ?_)
        clear hk hge hne
        have sz21 := hU.size
        have hB : Below wr.heap.size wr U21 := hU
        replace ra := ra.out.below hU
        replace hB := bthen hBw.out hU
        clear hU hc1 hc2 k1 k2 hBw
        go_wp2_with omega
        go_roundw
        case rel => exact ⟨k + 1, by omega, by simp, by rw [e.out]; simp, ra, hB⟩
        case measure => simp only [intOf]; omega
      · have e := hid (hno.out.out cc)
        have cb : decide (n2 < n1) = false := decide_eq_false cc
        clear hup hno
        replace ra := hid ra
        have hBw := hid hB
        clear hB
        have cb2 : decide ((k : Int) + 1 < 4) = true := decide_eq_true hlt
        clear cc
        go_upto_region 8 with (fail)
        apply wp_region_seg (w := wr) (S := [.q [], .q [], .q [], .q [], .q [], .q [], .q [], .q [], .q [], .q [], .q []]) (E := [.q0 _, .q0 _, .q0 _, .q0 _, .c0 _, .q0 _, .q0 _, .q0 _, .q0 _, .c0 _, .q0 _]) (by kernel_rfl) rfl (by kernel_rfl) rfl rfl
        intro th hge hne
        iterate 3 refine Seg.sq ?_
        refine Seg.sq ?_ (ht := Or.inl ⟨by rfl, fun U hU => vp_quiet (by (have h0 := After.cellB hU.1 hc1; go_simp <;> exact rfl))⟩)
        refine Seg.step _ rfl (Or.inl ⟨by rfl, fun U hU => ?_⟩) ?_
        · go_simp
          refine vp_calls (k1.out _)
        refine Seg.sa ?_
        iterate 3 refine Seg.sq ?_
        refine Seg.sq ?_ (ht := Or.inl ⟨by rfl, fun U hU => vp_quiet (by (have h0 := After.cellB hU.1 hc2; go_simp <;> exact rfl))⟩)
        refine Seg.step _ rfl (Or.inl ⟨by rfl, fun U hU => ?_⟩) ?_
        · go_simp
          refine vp_calls (k2.out _)
        refine Seg.sa ?_
        refine Seg.sq ?_
        refine Seg.stop (fun U21 hU hk => ?_)
        clear hk hge hne
        have sz21 := hU.size
        have hB : Below wr.heap.size wr U21 := hU
        replace ra := ra.out.below hU
        replace hB := bthen hBw.out hU
        clear hU hc1 hc2 k1 k2 hBw
        go_wp2_with omega
        go_roundw
        case rel => exact ⟨k + 1, by omega, by simp, by rw [e.out], ra, hB⟩
        case measure => simp only [intOf]; omega
    case neg =>
      obtain rfl : k = 3 := by omega
      have ho := best4_lt x y z t
      have hs : Go.RowKit.Hid (sg4 x y z t = if sel4 (best4 x y z t) x y z t < 0 then -1 else 1) := hid rfl
      have kL : Go.RowKit.Hid (packL x y z t = (best4 x y z t : Int) :: (oth (best4 x y z t) 4).map (packG x y z t)) := hid rfl
      have eb : bst (far4S x y z t) 3 = best4 x y z t := rfl
      rw [eb]
      clear eb hlt hk
      generalize best4 x y z t = o at *
      have hwo : IntKind.u32.wrap (o : Int) = o := by simp [IntKind.wrap, IntKind.bits, IntKind.signed]; omega
      replace ra := hid ra
      replace hB := hid hB
      go_wp2_with fail
      have hrow := World.alloc_heap_new wr (.cells #[.int .u32 o] 38)
      have hA : After wr (wr.alloc (.cells #[.int .u32 o] 38)) := (Below.refl _ wr).alloc (Nat.le_refl _) _
      have nG : w.heap.size ≤ wr.heap.size := hB.out.size
      have ra2 := ra.out.below hA
      have hB2 := bthen hB.out hA
      clear ra hB hA
      generalize wr.heap.size = g at *
      generalize wr.alloc (.cells #[.int .u32 o] 38) = W0 at *
      have hO0 : Own .u32 38 W0 w.heap.size (.slice (some ⟨g, 0, none⟩) (zsP o (packG x y z t) (oth o 0)).length 1) (zsP o (packG x y z t) (oth o 0)) := Row.own (show Row .u32 38 W0 g [(o : Int)] from hrow) _ nG (by unfold maxLen; simp)
      go_loopw [7, 8] (fun l i wr => ∃ (k : Nat) (ad : Option Addr) (cap : Nat), k ≤ 4 ∧ i = .int .i64 k ∧ l = .slice ad (zsP o (packG x y z t) (oth o k)).length cap ∧ Own .u32 38 wr w.heap.size (.slice ad (zsP o (packG x y z t) (oth o k)).length cap) (zsP o (packG x y z t) (oth o k)) ∧ Row .i32 21 wr p3_8 [x, y, z, t] ∧ Below w.heap.size w wr) (fun l i _ => 4 - (intOf i).toNat)
      case atStart => exact ⟨0, some ⟨g, 0, none⟩, 1, by omega, rfl, rfl, hO0, ra2, hB2⟩
      case round =>
        clear hO0 ra2 hB2 hrow
        obtain ⟨k, ad, cap, hk, rfl, rfl, hO, ra, hB⟩ := hrel
        by_cases hlt : (k : Int) < 4
        case neg =>
          obtain rfl : k = 4 := by omega
          have ez : zsP o (packG x y z t) (oth o 4) = packL x y z t := kL.out.symm
          rw [ez] at hO ⊢
          have hl4 : (packL x y z t).length ≤ 4 := by rw [packL_len]; exact Nat.le_refl _
          have hwf := hid (packL_wf x y z t)
          have hok := pack_fits x y z t
          clear ez kL hs hsg hsb
          generalize packL x y z t = zs at *
          obtain ⟨bd, cb, hv, hsl⟩ := hO.sl
          cases hv
          have hrow := World.alloc_heap_new wr (.cells #[.int .i64 2, .int .i64 10, .int .i64 10, .int .i64 10] 3)
          have hA : After wr (wr.alloc (.cells #[.int .i64 2, .int .i64 10, .int .i64 10, .int .i64 10] 3)) := (Below.refl _ wr).alloc (Nat.le_refl _) _
          have kJ := rjoin_any (some ⟨wr.heap.size, 0, none⟩) ad 4 4 zs.length cap [2, 10, 10, 10] zs _ (Row.sl (show Row .i64 3 _ _ [2, 10, 10, 10] from hrow) (by unfold maxLen; simp)) (by decide) (by omega) (hsl.below hA) hwf.out (by omega)
          replace hB := hid (bthen hB hA)
          clear hsl hA hrow hO ra
          go_wp2_with fail
          refine kJ.mono ?_
          rintro e w5 ⟨rfl, hb5⟩
          replace hB := bthen hB.out hb5
          replace hB := hid hB
          go_wp2_with fail
          refine bodyPost_ret (v := packT x y z t) ?_ rfl ⟨rfl, hB.out⟩
          rw [ht.out]
          simp [results, Tryz.results39, go_sem]
        case pos =>
          have hlt2 : k < 4 := by omega
          have hoi : (o : Int) < 4 := by omega
          have hc1 := ra.cellAt k (show k < 4 from hlt2)
          rw [getD4 k x y z t hlt2] at hc1
          have hc2 := ra.cellAt o (show o < 4 from ho)
          rw [getD4 o x y z t ho] at hc2
          have hsi := hsg.out k
          have hvb := hsb.out k
          unfold B32 at hvb
          have hsame := hid (zsP_same (o := o) (k := k) (G := packG x y z t))
          have hmore := hid (zsP_more (o := o) (k := k) (G := packG x y z t) hlt2)
          have hzl : (zsP o (packG x y z t) (oth o k)).length ≤ 5 := by rw [zsP_len]; have := oth_le o ho k (by omega); omega
          have hw1 : IntKind.i64.wrap (sel4 k x y z t) = sel4 k x y z t := by rw [IntKind.wrap_i64]; omega
          have hw2 : IntKind.i64.wrap (-sel4 k x y z t) = -sel4 k x y z t := by rw [IntKind.wrap_i64]; omega
          have hsz := hB.size
          replace hO := hid hO
          replace ra := hid ra
          replace hB := hid hB
          have hG : Go.RowKit.Hid (packG x y z t ⟨k, hlt2⟩ = numS (sg4 x y z t * sel4 k x y z t)) := hid rfl
          generalize hzz : zsP o (packG x y z t) (oth o k) = zz at *
          replace hzz := hid hzz
          by_cases cn : sel4 o x y z t < 0
          · have esg : sg4 x y z t = -1 := by rw [hs.out, if_pos cn]
            rw [esg] at hsi hG
            clear esg
            have hpb : -2147483648 ≤ -sel4 k x y z t ∧ -sel4 k x y z t ≤ 2147483648 := by omega
            have hG2 : Go.RowKit.Hid (packG x y z t ⟨k, hlt2⟩ = numC (overS (511 * -sel4 k x y z t) 759250125)) := hid (by rw [hG.out]; unfold numS; congr 2; omega)
            clear hG hsi
            have hw3 : IntKind.i64.wrap (-(511 * sel4 k x y z t)) = -(511 * sel4 k x y z t) := by rw [IntKind.wrap_i64]; omega
            have hw4 : IntKind.i64.wrap (511 * (-sel4 k x y z t)) = 511 * (-sel4 k x y z t) := by rw [IntKind.wrap_i64]; omega
            have hov := fun w => rover_any (511 * -sel4 k x y z t) 759250125 w (by omega) (by omega) (by omega) (by omega)
            have hon := overS_b (511 * -sel4 k x y z t) 759250125 (by omega) (by omega)
            generalize overS (511 * -sel4 k x y z t) 759250125 = n at *
            have hc : Go.RowKit.Hid (numC n = 512 + (if n < -511 then -511 else if 511 < n then 511 else n)) := hid rfl
            by_cases he : (k : Int) = o
            · have e1 := hid (hsame.out (show k = o by omega))
              clear hmore hsame hc2
              obtain rfl : k = o := by omega
              clear he
              go_wp2_with omega
              refine (hov _).mono ?_
              rintro e w5 ⟨rfl, rfl⟩
              go_wp2_with omega
              go_roundw
              case rel => ((repeat apply Exists.intro); exact ⟨⟨k + 1, ad, cap, by omega, by simp, by rw [e1.out], by rw [e1.out]; exact hO.out, ra.out, hB.out⟩, rfl⟩)
              case measure => show 4 - ((k : Int) + 1).toNat < 4 - (k : Int).toNat; omega
            have e1 := hid (hmore.out (show k ≠ o by omega))
            have hb1 : ((k : Int) != (o : Int)) = true := by simp; omega
            clear hmore hsame
            rw [hG2.out] at e1
            by_cases c0 : n ≤ -511
            · have ev : numC n = 1 := by rw [hc.out]; split <;> (try split) <;> omega
              rw [ev] at e1
              clear ev hc hG2
              go_wp2_with omega
              refine (hov _).mono ?_
              rintro e w5 ⟨rfl, rfl⟩
              go_wp2_with (first | omega | (at_builtin; refine wpList_app2 w5 w rfl (.tmp 66) (.tmp 72) 96 rfl w.heap.size w.heap.size 38 .u32 4 u32s (.slice ad zz.length cap) zz rfl hO.out (1) rfl (by omega) (by decide) hB.out (Nat.le_refl _) hsz ?_))
              intro a9 cap9 w9 hO9 hB9 hk9
              replace ra := hid (show Row .i32 21 w9 p3_8 [x, y, z, t] from hk9 _ _ _ _ _ (by decide) ra.out)
              clear hk9
              replace hO9 := hid hO9
              replace hB9 := hid hB9
              go_wp2_with omega
              go_roundw
              case rel => ((repeat apply Exists.intro); exact ⟨⟨k + 1, a9, cap9, by omega, by simp, by rw [e1.out, List.length_append]; rfl, by rw [e1.out, List.length_append]; exact hO9.out, ra.out, hB9.out⟩, rfl⟩)
              case measure => show 4 - ((k : Int) + 1).toNat < 4 - (k : Int).toNat; omega
            by_cases c1 : 511 < n
            · have ev : numC n = 1023 := by rw [hc.out]; split <;> (try split) <;> omega
              rw [ev] at e1
              clear ev hc hG2
              go_wp2_with omega
              refine (hov _).mono ?_
              rintro e w5 ⟨rfl, rfl⟩
              go_wp2_with (first | omega | (at_builtin; refine wpList_app2 w5 w rfl (.tmp 66) (.tmp 72) 96 rfl w.heap.size w.heap.size 38 .u32 4 u32s (.slice ad zz.length cap) zz rfl hO.out (1023) rfl (by omega) (by decide) hB.out (Nat.le_refl _) hsz ?_))
              intro a9 cap9 w9 hO9 hB9 hk9
              replace ra := hid (show Row .i32 21 w9 p3_8 [x, y, z, t] from hk9 _ _ _ _ _ (by decide) ra.out)
              clear hk9
              replace hO9 := hid hO9
              replace hB9 := hid hB9
              go_wp2_with omega
              go_roundw
              case rel => ((repeat apply Exists.intro); exact ⟨⟨k + 1, a9, cap9, by omega, by simp, by rw [e1.out, List.length_append]; rfl, by rw [e1.out, List.length_append]; exact hO9.out, ra.out, hB9.out⟩, rfl⟩)
              case measure => show 4 - ((k : Int) + 1).toNat < 4 - (k : Int).toNat; omega
            have ev : numC n = 512 + n := by rw [hc.out]; split <;> (try split) <;> omega
            rw [ev] at e1
            clear ev hc hG2
            have hw5 : IntKind.i64.wrap (512 + n) = 512 + n := by rw [IntKind.wrap_i64]; omega
            have hw6 : IntKind.u32.wrap (512 + n) = 512 + n := by simp [IntKind.wrap, IntKind.bits, IntKind.signed]; omega
            go_wp2_with omega
            refine (hov _).mono ?_
            rintro e w5 ⟨rfl, rfl⟩
            go_wp2_with (first | omega | (at_builtin; refine wpList_app2 w5 w rfl (.tmp 66) (.tmp 72) 96 rfl w.heap.size w.heap.size 38 .u32 4 u32s (.slice ad zz.length cap) zz rfl hO.out (512 + n) rfl (by omega) (by decide) hB.out (Nat.le_refl _) hsz ?_))
            intro a9 cap9 w9 hO9 hB9 hk9
            replace ra := hid (show Row .i32 21 w9 p3_8 [x, y, z, t] from hk9 _ _ _ _ _ (by decide) ra.out)
            clear hk9
            replace hO9 := hid hO9
            replace hB9 := hid hB9
            go_wp2_with omega
            go_roundw
            case rel => ((repeat apply Exists.intro); exact ⟨⟨k + 1, a9, cap9, by omega, by simp, by rw [e1.out, List.length_append]; rfl, by rw [e1.out, List.length_append]; exact hO9.out, ra.out, hB9.out⟩, rfl⟩)
            case measure => show 4 - ((k : Int) + 1).toNat < 4 - (k : Int).toNat; omega
          · have esg : sg4 x y z t = 1 := by rw [hs.out, if_neg cn]
            rw [esg] at hsi hG
            clear esg
            have hpb : -2147483648 ≤ sel4 k x y z t ∧ sel4 k x y z t ≤ 2147483648 := by omega
            have hG2 : Go.RowKit.Hid (packG x y z t ⟨k, hlt2⟩ = numC (overS (511 * sel4 k x y z t) 759250125)) := hid (by rw [hG.out]; unfold numS; congr 2; omega)
            clear hG hsi
            have hw3 : IntKind.i64.wrap (511 * (sel4 k x y z t)) = 511 * (sel4 k x y z t) := by rw [IntKind.wrap_i64]; omega
            have hov := fun w => rover_any (511 * sel4 k x y z t) 759250125 w (by omega) (by omega) (by omega) (by omega)
            have hon := overS_b (511 * sel4 k x y z t) 759250125 (by omega) (by omega)
            generalize overS (511 * sel4 k x y z t) 759250125 = n at *
            have hc : Go.RowKit.Hid (numC n = 512 + (if n < -511 then -511 else if 511 < n then 511 else n)) := hid rfl
            by_cases he : (k : Int) = o
            · have e1 := hid (hsame.out (show k = o by omega))
              clear hmore hsame hc2
              obtain rfl : k = o := by omega
              clear he
              go_wp2_with omega
              refine (hov _).mono ?_
              rintro e w5 ⟨rfl, rfl⟩
              go_wp2_with omega
              go_roundw
              case rel => ((repeat apply Exists.intro); exact ⟨⟨k + 1, ad, cap, by omega, by simp, by rw [e1.out], by rw [e1.out]; exact hO.out, ra.out, hB.out⟩, rfl⟩)
              case measure => show 4 - ((k : Int) + 1).toNat < 4 - (k : Int).toNat; omega
            have e1 := hid (hmore.out (show k ≠ o by omega))
            have hb1 : ((k : Int) != (o : Int)) = true := by simp; omega
            clear hmore hsame
            rw [hG2.out] at e1
            by_cases c0 : n ≤ -511
            · have ev : numC n = 1 := by rw [hc.out]; split <;> (try split) <;> omega
              rw [ev] at e1
              clear ev hc hG2
              go_wp2_with omega
              refine (hov _).mono ?_
              rintro e w5 ⟨rfl, rfl⟩
              go_wp2_with (first | omega | (at_builtin; refine wpList_app2 w5 w rfl (.tmp 66) (.tmp 72) 96 rfl w.heap.size w.heap.size 38 .u32 4 u32s (.slice ad zz.length cap) zz rfl hO.out (1) rfl (by omega) (by decide) hB.out (Nat.le_refl _) hsz ?_))
              intro a9 cap9 w9 hO9 hB9 hk9
              replace ra := hid (show Row .i32 21 w9 p3_8 [x, y, z, t] from hk9 _ _ _ _ _ (by decide) ra.out)
              clear hk9
              replace hO9 := hid hO9
              replace hB9 := hid hB9
              go_wp2_with omega
              go_roundw
              case rel => ((repeat apply Exists.intro); exact ⟨⟨k + 1, a9, cap9, by omega, by simp, by rw [e1.out, List.length_append]; rfl, by rw [e1.out, List.length_append]; exact hO9.out, ra.out, hB9.out⟩, rfl⟩)
              case measure => show 4 - ((k : Int) + 1).toNat < 4 - (k : Int).toNat; omega
            by_cases c1 : 511 < n
            · have ev : numC n = 1023 := by rw [hc.out]; split <;> (try split) <;> omega
              rw [ev] at e1
              clear ev hc hG2
              go_wp2_with omega
              refine (hov _).mono ?_
              rintro e w5 ⟨rfl, rfl⟩
              go_wp2_with (first | omega | (at_builtin; refine wpList_app2 w5 w rfl (.tmp 66) (.tmp 72) 96 rfl w.heap.size w.heap.size 38 .u32 4 u32s (.slice ad zz.length cap) zz rfl hO.out (1023) rfl (by omega) (by decide) hB.out (Nat.le_refl _) hsz ?_))
              intro a9 cap9 w9 hO9 hB9 hk9
              replace ra := hid (show Row .i32 21 w9 p3_8 [x, y, z, t] from hk9 _ _ _ _ _ (by decide) ra.out)
              clear hk9
              replace hO9 := hid hO9
              replace hB9 := hid hB9
              go_wp2_with omega
              go_roundw
              case rel => ((repeat apply Exists.intro); exact ⟨⟨k + 1, a9, cap9, by omega, by simp, by rw [e1.out, List.length_append]; rfl, by rw [e1.out, List.length_append]; exact hO9.out, ra.out, hB9.out⟩, rfl⟩)
              case measure => show 4 - ((k : Int) + 1).toNat < 4 - (k : Int).toNat; omega
            have ev : numC n = 512 + n := by rw [hc.out]; split <;> (try split) <;> omega
            rw [ev] at e1
            clear ev hc hG2
            have hw5 : IntKind.i64.wrap (512 + n) = 512 + n := by rw [IntKind.wrap_i64]; omega
            have hw6 : IntKind.u32.wrap (512 + n) = 512 + n := by simp [IntKind.wrap, IntKind.bits, IntKind.signed]; omega
            go_wp2_with omega
            refine (hov _).mono ?_
            rintro e w5 ⟨rfl, rfl⟩
            go_wp2_with (first | omega | (at_builtin; refine wpList_app2 w5 w rfl (.tmp 66) (.tmp 72) 96 rfl w.heap.size w.heap.size 38 .u32 4 u32s (.slice ad zz.length cap) zz rfl hO.out (512 + n) rfl (by omega) (by decide) hB.out (Nat.le_refl _) hsz ?_))
            intro a9 cap9 w9 hO9 hB9 hk9
            replace ra := hid (show Row .i32 21 w9 p3_8 [x, y, z, t] from hk9 _ _ _ _ _ (by decide) ra.out)
            clear hk9
            replace hO9 := hid hO9
            replace hB9 := hid hB9
            go_wp2_with omega
            go_roundw
            case rel => ((repeat apply Exists.intro); exact ⟨⟨k + 1, a9, cap9, by omega, by simp, by rw [e1.out, List.length_append]; rfl, by rw [e1.out, List.length_append]; exact hO9.out, ra.out, hB9.out⟩, rfl⟩)
            case measure => show 4 - ((k : Int) + 1).toNat < 4 - (k : Int).toNat; omega

end Go.Proofs.YtpdpcdifnlellaaGreat
