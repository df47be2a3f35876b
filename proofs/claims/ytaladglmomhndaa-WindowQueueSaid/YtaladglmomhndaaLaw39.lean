/- Laws of package window: knows, few. -/
import Derived.Test.YtaladglmomhndaaWin4
import Derived.Test.YtaladglmomhndaaWin5
import Derived.Test.YtaladglmomhndaaEls
import Derived.Test.YtaladglmomhndaaKA
import Derived.Deep.DeepCutAuto
namespace Go.Proofs.Ytaladglmomhndaa
open Go.ChangeShapes Go.WideShapes Go.ChangeAt Go.RowKit
set_option linter.unusedVariables false
set_option linter.unusedSimpArgs false

theorem txt39 {w : World} {a : Option Addr} {len cap : Nat} {zs : List Int} (h : Sl .u8 w a len cap zs) : (convert 27 9 (.slice a len cap)).run Try.prog w = .ok (.string (textOf zs)) w :=
  h.text 27 9 5 Try.underlying27 Try.underlying5 Try.underlying9
theorem wpList_makeW {P : Program} (w aw : World) {ops : Array Oper} {rest : List Oper} {o : Oper} {a : Act} {Q : Exit → Act → World → Prop} (hw : Region.wanted o (yielded ops a.tmps) = true) (l c : Operand) (t : TypeId) (hop : o.op = Op.makeSlice t l c)
    (B : Nat) (E : TypeId) (k : IntKind) (b : Nat) (hT : IntsOf P t E k b) (n : Nat) (hl : a.eval l = .int .i64 (n : Int)) (hc : a.eval c = .int .i64 (n : Int)) (hn : b * n ≤ 281474976710656) (hm : n ≤ maxLen) (hbel : Below B aw w) (hB : B ≤ w.heap.size)
    (h : ∀ w', Row k E w' w.heap.size (List.replicate n 0) → Below B aw w' → wpList P ops Q rest (a.put o.dst (.slice (some ⟨w.heap.size, 0, none⟩) n n)) w') : wpList P ops Q (o :: rest) a w := by
  obtain ⟨ht, hi⟩ := hT
  obtain ⟨i, hi1, hz, hsz, hby⟩ := info_parts hi
  obtain ⟨w', hrun, h1, h2⟩ := run_make_full (P := P) w w.heap.size t E i (.int k 0) 1 ht hi1 hz hsz .i64 .i64 n (by rw [hby]; exact hn) hm (Nat.le_refl _)
  refine BigFrame.wpList_want hw fun K hK' => ?_
  unfold Oper.wp
  simp [execOp, hop, hl, hc, hrun, Result.andThen]
  refine hK' _ _ (h w' ?_ (hbel.grown h2 hB (fun k e => by cases e)))
  rcases h1.2 with ⟨h, _⟩ | ⟨g, cap, cur, hv, hg, hh, hnc, hcm, hcs, htk⟩
  · cases h
  · simp only [Value.slice.injEq, Option.some.injEq, Addr.mk.injEq, and_true, true_and] at hv
    obtain ⟨rfl, rfl⟩ := hv
    unfold Row
    rw [hh]
    congr 2
    have e1 : cur.toList.take (n * 1) = cur.toList := List.take_of_length_le (by rw [Array.length_toList, hcs]; exact Nat.le_refl _)
    rw [e1] at htk
    rw [← Array.toArray_toList (xs := cur), htk, show (Value.int k 0).cells = #[Value.int k 0] from rfl, toList_madeCells_one]
    simp
theorem wdS_len {B : Nat} {w : World} {L : List Int} (h : WdSt B w L) : L.length ≤ 1024 := by
  obtain ⟨R, fr, _, hI⟩ := h
  exact hI.2.2.1
theorem below_eff {M B : Nat} {a b c : World} (h : Below M a b) (k : Eff B b c) (hM : M ≤ B) (hB : B < b.heap.size) : Below M a c := eff_below h k hM (by omega)
set_option maxRecDepth 100000 in
set_option maxHeartbeats 8000000 in
theorem knows39_any (w : World) : Calls Try.prog 7 #[] w fun e w' => e = .returned (.bool true) ∧ After w w' := by
  obtain ⟨Z, hZ⟩ : ∃ z, List.replicate 2000 (0 : Int) = z := ⟨_, rfl⟩
  have hZl : Z.length = 2000 := by rw [← hZ]; exact List.length_replicate
  have hZw : ∀ x ∈ Z, (Lit.int .u8 x).wf = true := by
    intro x hx
    rw [← hZ] at hx
    rw [List.eq_of_mem_replicate hx]; rfl
  obtain ⟨L1, hL1⟩ : ∃ z, Z.take 1024 = z := ⟨_, rfl⟩
  have hL1l : L1.length = 1024 := by rw [← hL1, List.length_take, hZl]; rfl
  replace hZ := hid hZ
  replace hZl := hid hZl
  replace hZw := hid hZw
  replace hL1 := hid hL1
  replace hL1l := hid hL1l
  go_enter Try.func7, Try.ntmps7
  go_wp2_with fail
  refine (wnew_any _).mono ?_
  rintro e v1 ⟨rfl, hS, hA⟩
  obtain ⟨B, hB⟩ : ∃ B, w.heap.size = B := ⟨_, rfl⟩
  rw [hB] at hS ⊢
  have hBl := hS.lt
  replace hS := hid hS
  replace hA := hid hA
  go_wp2_with (first | (at_make; refine wpList_makeW v1 v1 rfl (.const (.int .i64 2000)) (.const (.int .i64 2000)) 27 rfl v1.heap.size 5 .u8 1 bytesOf 2000 rfl rfl (by omega) (by unfold maxLen; omega) (Below.refl _ _) (Nat.le_refl _) ?_))
  intro V2 hRow hA2
  replace hRow : Row .u8 5 V2 v1.heap.size (List.replicate 2000 (0 : Int)) := hRow
  rw [hZ.out] at hRow
  have sl1 := hRow.sl (by rw [hZl.out]; unfold maxLen; omega)
  rw [hZl.out] at sl1
  have hS2 := hid (hS.out.after hA2)
  replace hA := hid (bthen hA.out hA2)
  replace sl1 := hid sl1
  have hq : v1.heap.size ≠ B := by omega
  clear hRow hA2 hS
  go_wp2_with fail
  refine (wput_any B _ 2000 2000 Z _ [] hS2.out sl1.out (fun _ p e => by cases e; exact hq) hZw.out).mono ?_
  rintro e V3 ⟨rfl, hS3, hE3⟩
  rw [show min 2000 (1024 - ([] : List Int).length) = 1024 from rfl, hL1.out, List.nil_append] at hS3
  rw [show ((min 2000 (1024 - ([] : List Int).length) : Nat) : Int) = 1024 from rfl]
  have hB2 := hS2.out.lt
  replace hA := hid (below_eff hA.out hE3 (by omega) hB2)
  have hB3 := hS3.lt
  clear hE3 hS2 sl1 hB2
  have nC := alloc_new V3 (.cells #[.int .u8 1] 5)
  have slk : Sl .u8 (V3.alloc (.cells #[.int .u8 1] 5)) (some ⟨V3.heap.size, 0, none⟩) 1 1 [(1 : Int)] := (Own.lit .u8 5 V3 [(1 : Int)] V3.heap.size (Nat.le_refl _) (by unfold maxLen; simp) #[.int .u8 1] rfl).slf
  have hS4 := hid (hS3.after nC.2.1)
  replace hA := hid (bthen hA.out nC.2.1)
  replace slk := hid slk
  have hq3 : V3.heap.size ≠ B := by omega
  clear nC hS3
  go_wp2_with fail
  refine (wput_any B _ 1 1 [(1 : Int)] _ L1 hS4.out slk.out (fun _ p e => by cases e; exact hq3) (fun x hx => by cases hx with | head => rfl | tail _ h => cases h)).mono ?_
  rintro e V5 ⟨rfl, hS5, hE5⟩
  rw [hL1l.out, show min 1 (1024 - 1024) = 0 from rfl, List.take_zero, List.append_nil] at hS5
  rw [show ((min 1 (1024 - L1.length) : Nat) : Int) = 0 by rw [hL1l.out]; rfl]
  have hB4 := hS4.out.lt
  replace hA := hid (below_eff hA.out hE5 (by omega) hB4)
  have hB5 := hS5.lt
  replace hS5 := hid hS5
  clear hE5 hS4 slk hB4
  go_wp2_with fail
  refine (wroom_any B _ L1 hS5.out).mono ?_
  rintro e V6 ⟨rfl, hv⟩
  rw [hL1l.out]
  obtain rfl : V5 = V6 := hv.symm
  clear hv
  go_wp2_with fail
  refine (wdrop_any B 1 _ L1 hS5.out (by omega) (by omega)).mono ?_
  rintro e V6 ⟨rfl, hS6, hE6⟩
  rw [hL1l.out, show goN 1 1024 = 1 from rfl] at hS6 ⊢
  replace hA := hid (below_eff hA.out hE6 (by omega) hB5)
  have hl6 : (L1.drop 1).length = 1023 := by rw [List.length_drop, hL1l.out]
  replace hS6 := hid hS6
  replace hl6 := hid hl6
  clear hE6 hS5
  go_wp2_with fail
  refine (wlen_any B _ (L1.drop 1) hS6.out).mono ?_
  rintro e V7 ⟨rfl, hv⟩
  rw [hl6.out]
  obtain rfl : V6 = V7 := hv.symm
  clear hv
  go_wp2_with fail
  go_ret
  exact ⟨rfl, hA.out⟩
/-- An element's shape. -/
def El39 (W : World) (x : List Value) : Prop := ∃ (c0 : Bool) (c1_a : Option Addr) (c1_l c1_c : Nat) (c1_z : List Int) (c2 : Int), x = [.bool c0, .slice c1_a c1_l c1_c, .int .i64 c2] ∧ (Sl .u8 W c1_a c1_l c1_c c1_z ∧ ∀ n ∈ c1_z, (Lit.int .u8 n).wf = true) ∧ ((Lit.int .i64 c2).wf = true)
/-- How long an element's bytes are. -/
def ln39 : List Value → Nat
  | [_, .slice _ n _, _] => n
  | _ => 0
def FewOk (len0 : Nat) (x0 : List (List Value)) (w : World) (e : Ending) (w2 : World) : Prop := ∃ b : Bool, e = .returned (.bool b) ∧ (b = true → len0 ≤ 60 ∧ ∀ x ∈ x0, ln39 x ≤ 2000) ∧ w2 = w
set_option maxRecDepth 100000 in
set_option maxHeartbeats 4000000 in
theorem few_any (a0 : Option Addr) (len0 cap0 : Nat) (x0 : List (List Value)) (W w : World) (w0 : Els w 3 a0 len0 cap0 x0) (t0 : ∀ x ∈ x0, El39 W x) : Calls Try.prog 6 #[.slice a0 len0 cap0] w fun e w' => FewOk len0 x0 w e w' := by
  have hxl := w0.1
  by_cases c60 : (60 : Int) < len0
  case pos =>
    go_enter Try.func6, Try.ntmps6
    go_wp2_with fail
    go_ret
    exact ⟨false, rfl, (fun e => by cases e), rfl⟩
  have c61 : len0 ≤ 60 := by omega
  replace w0 := hid w0
  replace t0 := hid t0
  replace hxl := hid hxl
  go_enter Try.func6, Try.ntmps6
  go_wp2_with fail
  go_loopw [3] (fun ix wr => ∃ k : Nat, ix = .int .i64 k ∧ k ≤ len0 ∧ (∀ i, i < k → ∀ x, x0[i]? = some x → ln39 x ≤ 2000) ∧ wr = w) (fun ix _ => len0 - (intOf ix).toNat)
  case atStart => exact ⟨0, rfl, by omega, fun i hi => by omega, rfl⟩
  case round =>
    obtain ⟨k, rfl, hk, hall, rfl⟩ := hrel
    replace hall := hid hall
    by_cases hlt : (k : Int) < len0
    case neg =>
      obtain rfl : k = len0 := by omega
      go_wp2_with fail
      go_ret
      refine ⟨true, rfl, fun _ => ⟨by omega, fun x hx => ?_⟩, rfl⟩
      obtain ⟨i, hi, e⟩ := List.mem_iff_getElem.1 hx
      exact hall.out i (by have := hxl.out; omega) x (by rw [List.getElem?_eq_getElem hi, e])
    obtain ⟨x, gx⟩ : ∃ x, x0[k]? = some x := ⟨_, List.getElem?_eq_getElem (show k < x0.length by have := hxl.out; omega)⟩
    obtain ⟨c0, ca, cl, cc, cz, c2, rfl, ⟨hs, hw⟩, hi⟩ := t0.out x (List.mem_of_getElem? gx)
    obtain ⟨pb, off, e9, g0, g1, g2⟩ := w0.out.at3 gx
    cases e9
    try dsimp only at g0 g1 g2
    have kz : (0 : Int) ≤ k := by omega
    have wk : IntKind.i64.wrap ((k : Int) + 1) = (k : Int) + 1 := by rw [IntKind.wrap_i64]; omega
    have hk1 := hid (show k + 1 ≤ len0 by omega)
    have hgx := hid gx
    clear gx hs hw hi
    by_cases c2k : (2000 : Int) < cl
    case pos =>
      go_wp2_with fail
      go_ret
      exact ⟨false, rfl, (fun e => by cases e), rfl⟩
    have cl2 := hid (show cl ≤ 2000 by omega)
    clear hk
    go_wp2_with fail
    go_roundw
    case rel => exact ⟨k + 1, by simp, hk1.out, fun i hi x hx => by
      by_cases hik : i = k
      · subst hik
        rw [hgx.out] at hx; cases hx
        exact cl2.out
      · exact hall.out i (by omega) x hx, trivial⟩
    case measure => simp [intOf]; omega

end Go.Proofs.Ytaladglmomhndaa
