/- The laws of layer 29: GsvTogether. -/
import Derived.Test.YtobgibmpodggkaaDoorGsvR
import Derived.Test.YtobgibmpodggkaaDoorGV3
import Derived.Laws.StructEq
import Derived.Laws.Tables
import Derived.Deep.DeepCutAuto
namespace Go.Proofs.YtobgibmpodggkaaDoor
open Go.ChangeShapes Go.WideShapes Go.ChangeAt Go.RowKit
set_option linter.unusedVariables false
set_option linter.unusedSimpArgs false

/-- The views of the first parts. -/
def CT (ps : List (List V4)) (i : Nat) : List V4 := (ps.take i).flatten
theorem CT_next {ps : List (List V4)} {i : Nat} {vs : List V4} (h : ps[i]? = some vs) : CT ps (i + 1) = CT ps i ++ vs := by
  unfold CT
  rw [List.take_add_one, h]
  simp
/-- What a book is ahead of part i. -/
def TG (P i : Nat) (ps : List (List V4)) (t n : Int) (ls : List V4) : Prop := i = 0 ∨ (0 < i ∧ i < P ∧ t = P ∧ n = (i : Int) + 1 ∧ ls = CT ps i) ∨ (0 < i ∧ i = P ∧ t = 0 ∧ n = 0)
theorem tg_step {P i : Nat} {ps : List (List V4)} {t n : Int} {ls vs : List V4} (h : TG P i ps t n ls) (hi : i < P) (hP : P ≤ 9) (hv : ps[i]? = some vs) (h4 : vs.length ≤ 4) : addS t n ls P ((i : Int) + 1) vs = if i + 1 < P then (((P : Int), (i : Int) + 1 + 1, CT ps (i + 1)), none) else ((0, 0, []), some (CT ps (i + 1))) := by
  have hg : rgB P ((i : Int) + 1) vs.length = true := decide_eq_true (by omega)
  have hk : (i : Int) + 1 = 1 ∨ (t = P ∧ n = (i : Int) + 1) := by
    rcases h with h | h | h
    · left; omega
    · right; exact ⟨h.2.2.1, h.2.2.2.1⟩
    · omega
  have hl : (if (i : Int) + 1 = 1 then [] else ls) = CT ps i := by
    rcases h with h | h | h
    · subst h; rfl
    · rw [if_neg (by omega)]; exact h.2.2.2.2
    · omega
  rw [CT_next hv]
  by_cases hlt : i + 1 < P
  · rw [if_pos hlt]
    exact addS_more ⟨hg, hk⟩ hl (by omega)
  · rw [if_neg hlt]
    exact addS_last ⟨hg, hk⟩ hl (by omega)
theorem parts_of {W : World} (xs : List (List Value)) (t1 : ∀ x ∈ xs, (∃ (c0_a : Option Addr) (c0_l c0_c : Nat) (c0_x : List (List Value)), x = [.slice c0_a c0_l c0_c] ∧ (Els W 8 c0_a c0_l c0_c c0_x ∧ ∀ x ∈ c0_x, (∃ (c0 : Bool) (c1 : Int) (c2 : Bool) (c3 : Int) (c4 : Bool) (c5 : Int) (c6 : Bool) (c7 : Int), x = [.bool c0, .int .i64 c1, .bool c2, .int .i64 c3, .bool c4, .int .i64 c5, .bool c6, .int .i64 c7] ∧ ((Lit.int .i64 c1).wf = true) ∧ ((Lit.int .i64 c3).wf = true) ∧ ((Lit.int .i64 c5).wf = true) ∧ ((Lit.int .i64 c7).wf = true))))) : ∃ ps : List (List V4), ps.length = xs.length ∧ ∀ (i : Nat) (x : List Value), xs[i]? = some x → ∃ (a : Option Addr) (l c : Nat) (vs : List V4), ps[i]? = some vs ∧ x = [.slice a l c] ∧ Els W 8 a l c (vs.map enV) := by
  induction xs with
  | nil => exact ⟨[], rfl, fun i x h => by simp at h⟩
  | cons x xs ih =>
    obtain ⟨ps, h1, h2⟩ := ih (fun y hy => t1 y (List.mem_cons_of_mem _ hy))
    obtain ⟨a, l, c, cx, rfl, hE, hcx⟩ := t1 x (List.mem_cons_self ..)
    obtain ⟨vs, rfl, -⟩ := views_of cx hcx
    refine ⟨vs :: ps, by simp [h1], ?_⟩
    intro i y hy
    cases i with
    | zero => simp at hy; subst hy; exact ⟨a, l, c, vs, rfl, rfl, hE⟩
    | succ i => simp at hy; simpa using h2 i y hy
/-- A book, and what is wanted, side by side. -/
def WL (W : World) (B P i : Nat) (ps : List (List V4)) (wa : Option Addr) (wl wc : Nat) (wr : World) : Prop := ∃ (t n : Int) (ls : List V4) (a : Option Addr) (len cap : Nat), wr.heap[B]? = some (.cells #[.bool true, .int .i64 t, .int .i64 n, .slice a len cap] 56 (0, 0)) ∧ OwnE 69 wr W.heap.size 8 (.slice a len cap) len (ls.map enV).flatten ∧ ls.length = len ∧ TG P i ps t n ls ∧ (0 ≤ n ∧ n ≤ 9 ∧ (ls.length : Int) ≤ 4 * n) ∧ OwnE 69 wr W.heap.size 8 (.slice wa wl wc) wl ((CT ps i).map enV).flatten ∧ (CT ps i).length = wl ∧ (∀ g, (Value.slice wa wl wc).ownBlock = some g → (Value.slice a len cap).ownBlock ≠ some g)
def BW (W : World) (B : Nat) (wr : World) : Prop := ∃ (t n : Int) (ls : List V4), BkIn W.heap.size B t n ls wr ∧ (0 ≤ n ∧ n ≤ 9 ∧ (ls.length : Int) ≤ 4 * n)
set_option maxRecDepth 100000 in
set_option maxHeartbeats 32000000 in
theorem law_GsvTogether (a0 : Option Addr) (len0 cap0 : Nat) (x0 : List (List Value)) (a1 : Option Addr) (len1 cap1 : Nat) (x1 : List (List Value)) (W : World) (w0 : Els W 4 a0 len0 cap0 x0) (t0 : ∀ x ∈ x0, (∃ (c0 : Int) (c1 : Int) (c2 : Int) (c3_a : Option Addr) (c3_l c3_c : Nat) (c3_x : List (List Value)), x = [.int .i64 c0, .int .i64 c1, .int .i64 c2, .slice c3_a c3_l c3_c] ∧ ((Lit.int .i64 c0).wf = true) ∧ ((Lit.int .i64 c1).wf = true) ∧ ((Lit.int .i64 c2).wf = true) ∧ (Els W 8 c3_a c3_l c3_c c3_x ∧ ∀ x ∈ c3_x, (∃ (c0 : Bool) (c1 : Int) (c2 : Bool) (c3 : Int) (c4 : Bool) (c5 : Int) (c6 : Bool) (c7 : Int), x = [.bool c0, .int .i64 c1, .bool c2, .int .i64 c3, .bool c4, .int .i64 c5, .bool c6, .int .i64 c7] ∧ ((Lit.int .i64 c1).wf = true) ∧ ((Lit.int .i64 c3).wf = true) ∧ ((Lit.int .i64 c5).wf = true) ∧ ((Lit.int .i64 c7).wf = true))))) (w1 : Els W 1 a1 len1 cap1 x1) (t1 : ∀ x ∈ x1, (∃ (c0_a : Option Addr) (c0_l c0_c : Nat) (c0_x : List (List Value)), x = [.slice c0_a c0_l c0_c] ∧ (Els W 8 c0_a c0_l c0_c c0_x ∧ ∀ x ∈ c0_x, (∃ (c0 : Bool) (c1 : Int) (c2 : Bool) (c3 : Int) (c4 : Bool) (c5 : Int) (c6 : Bool) (c7 : Int), x = [.bool c0, .int .i64 c1, .bool c2, .int .i64 c3, .bool c4, .int .i64 c5, .bool c6, .int .i64 c7] ∧ ((Lit.int .i64 c1).wf = true) ∧ ((Lit.int .i64 c3).wf = true) ∧ ((Lit.int .i64 c5).wf = true) ∧ ((Lit.int .i64 c7).wf = true))))) (hT : Tab W) :
    Calls Tryd.prog 6 #[.slice a0 len0 cap0, .slice a1 len1 cap1] W fun e w' => e = .returned (.bool true) ∧ Below W.heap.size W w' := by
  have hM := hid (msgs_of t0)
  have hEl := hid w0
  have hlen := hid w0.1
  obtain ⟨ps, hps, hPs⟩ := parts_of x1 t1
  have hEl1 := hid w1
  have hlen1 := w1.1
  rw [hlen1] at hps
  replace hps := hid hps
  replace hPs := hid hPs
  replace hlen1 := hid hlen1
  clear t0 w0 t1 w1
  replace hT := hid hT
  have hBw := hid (Below.refl W.heap.size W)
  by_cases l0 : 20 < len0
  case pos =>
    have d0 : decide ((20 : Int) < (len0 : Int)) = true := by simp; omega
    have hBw2 := hBw
    clear l0
    go_enter Tryd.func6, Tryd.ntmps6
    go_wp2_with fail
    refine (knows29_any _ (hT.out.on hBw.out)).mono ?_
    rintro e V ⟨rfl, hA⟩
    replace hBw := hid (bthen hBw.out hA)
    clear hA
    go_wp2_with fail
    go_ret
    exact ⟨rfl, hBw.out⟩
  have d0 : decide ((20 : Int) < (len0 : Int)) = false := by simp; omega
  by_cases l1 : len1 < 1
  case pos =>
    have d1 : decide ((len1 : Int) < 1) = true := by simp; omega
    have hBw2 := hBw
    clear l1
    go_enter Tryd.func6, Tryd.ntmps6
    go_wp2_with fail
    refine (knows29_any _ (hT.out.on hBw.out)).mono ?_
    rintro e V ⟨rfl, hA⟩
    replace hBw := hid (bthen hBw.out hA)
    clear hA
    go_wp2_with fail
    go_ret
    exact ⟨rfl, hBw.out⟩
  have d1 : decide ((len1 : Int) < 1) = false := by simp; omega
  by_cases l2 : 9 < len1
  case pos =>
    have d2 : decide ((9 : Int) < (len1 : Int)) = true := by simp; omega
    have hBw2 := hBw
    clear l2
    go_enter Tryd.func6, Tryd.ntmps6
    go_wp2_with fail
    refine (knows29_any _ (hT.out.on hBw.out)).mono ?_
    rintro e V ⟨rfl, hA⟩
    replace hBw := hid (bthen hBw.out hA)
    clear hA
    go_wp2_with fail
    go_ret
    exact ⟨rfl, hBw.out⟩
  have d2 : decide ((9 : Int) < (len1 : Int)) = false := by simp; omega
  have hl0 := hid (show len0 ≤ 20 by omega)
  have hl1 := hid (show 1 ≤ len1 ∧ len1 ≤ 9 by omega)
  clear l0 l1 l2
  go_enter Tryd.func6, Tryd.ntmps6
  go_wp2_with fail
  refine (knows29_any _ (hT.out.on hBw.out)).mono ?_
  rintro e V0 ⟨rfl, hA⟩
  replace hBw := hid (bthen hBw.out hA)
  clear hA
  go_wp2_with fail
  refine (bnew29_any _).mono ?_
  rintro r V ⟨rfl, hv⟩
  have nw := alloc_new V0 (.cells #[.bool true, .int .i64 0, .int .i64 0, .slice none 0 0] 56)
  rw [← hv] at nw
  obtain ⟨n1, n2, n3⟩ := nw
  obtain ⟨B, hBe⟩ : ∃ B, V0.heap.size = B := ⟨_, rfl⟩
  have hNB : W.heap.size ≤ B := by have := hBw.out.size; omega
  replace hBw := hid (bthen hBw.out n2)
  rw [hBe] at n3 ⊢
  replace hBe := hid hBe
  have hBW0 := hid (show BW W B V from ⟨0, 0, [], ⟨none, 0, 0, n3, OwnE.nil _ _ _ _, rfl⟩, by decide⟩)
  clear hv n1 n2 n3
  go_wp2_with fail
  go_loopw [6] (fun ix wr => ∃ k : Nat, ix = .int .i64 k ∧ k ≤ len0 ∧ BW W B wr ∧ Below W.heap.size W wr) (fun ix _ => len0 - (intOf ix).toNat)
  case atStart => exact ⟨0, rfl, by omega, hBW0.out, hBw.out⟩
  case round =>
    clear hBW0 hBw
    obtain ⟨k, rfl, hk, ⟨t, n, ls, hbk, hbd⟩, hBw⟩ := hrel
    replace hBw := hid hBw
    by_cases hlt : (k : Int) < len0
    case pos =>
      obtain ⟨x, hx⟩ : ∃ x, x0[k]? = some x := ⟨_, List.getElem?_eq_getElem (by have := hlen.out; have := hl0.out; omega)⟩
      obtain ⟨tt, no, sn, va, vn, vc, vs, rfl, hS⟩ := hM.out x (List.mem_of_getElem? hx)
      obtain ⟨b, o, rfl, d0e, d1e, d2e, d3⟩ := (hEl.out.below hBw.out).at4 hx
      have kz : (0 : Int) ≤ k := by omega
      have wk : IntKind.i64.wrap ((k : Int) + 1) = (k : Int) + 1 := by have := hl0.out; rw [IntKind.wrap_i64]; omega
      have hk1 := hid (show k + 1 ≤ len0 by omega)
      have hms := hid (show len0 - (k + 1) < len0 - k by omega)
      have kA := hid (badd29_any W.heap.size B t n ls tt no sn va vn vc vs wr hbk hNB (by omega) (hS.below hBw.out) (els_lt29 hS (by decide)))
      have hbd2 := hid (add_bd (t := t) (tt := tt) (no := no) (vs := vs) hbd)
      clear hx hk hbk hbd
      by_cases hv20 : 20 < vn
      case pos =>
        have d2v : decide ((20 : Int) < (vn : Int)) = true := by simp; omega
        clear hS kA d0e d1e d2e
        go_wp2_with fail
        refine (knows29_any _ (hT.out.on hBw.out)).mono ?_
        rintro e V ⟨rfl, hA⟩
        replace hBw := hid (bthen hBw.out hA)
        clear hA
        go_wp2_with fail
        go_ret
        exact ⟨rfl, hBw.out⟩
      have d2v : decide ((20 : Int) < (vn : Int)) = false := by simp; omega
      clear hv20 hS
      go_wp2_with fail
      refine kA.out.mono ?_
      rintro r V1 ⟨hb1, hK, ra, rn, rc, rfl, -, -⟩
      have hB1 := hid (hBw.out.trans hK.below)
      have hBW := hid (show BW W B V1 from ⟨_, _, _, hb1, hbd2.out.1⟩)
      clear hb1 hK kA
      go_wp2_with fail
      go_roundw
      case rel => exact ⟨k + 1, by simp, hk1.out, hBW.out, hB1.out⟩
      case measure => simp [intOf]; have := hms.out; omega
    clear hk
    obtain ⟨a, len, cap, hb, hO, hll⟩ := hbk
    have hWL0 := hid (show WL W B len1 0 ps none 0 0 wr from ⟨t, n, ls, a, len, cap, hb, hO, hll, .inl rfl, hbd, OwnE.nil _ _ _ _, rfl, fun g hg => by cases hg⟩)
    clear hb hO hll hbd
    go_wp2_with fail
    go_loopw [7, 8] (fun wv ix wr => ∃ (k : Nat) (wa : Option Addr) (wl wc : Nat), ix = .int .i64 k ∧ wv = .slice wa wl wc ∧ k ≤ len1 ∧ wl ≤ 4 * k ∧ WL W B len1 k ps wa wl wc wr ∧ Below W.heap.size W wr) (fun _ ix _ => len1 - (intOf ix).toNat)
    case atStart => exact ⟨0, none, 0, 0, rfl, rfl, by omega, by omega, hWL0.out, hBw.out⟩
    case round =>
      clear hWL0 hBw
      obtain ⟨k, wa, wl, wc, rfl, rfl, hk, hwl, ⟨t, n, ls, a, len, cap, hb, hO, hll, hTG, hbd, hOw, hwn, hdis⟩, hBw⟩ := hrel
      replace hBw := hid hBw
      by_cases hlt : (k : Int) < len1
      case neg =>
        have htn : t = 0 ∧ n = 0 := by
          have := hl1.out
          rcases hTG with h | h | h
          · omega
          · omega
          · exact h.2.2
        obtain ⟨rfl, rfl⟩ := htn
        have kW := hid (bwait29_any B 0 0 (.slice a len cap) wr hb)
        clear hb hO hll hTG hbd hOw hwn hdis hwl hk
        go_wp2_with fail
        refine kW.out.mono ?_
        rintro r V2 ⟨rfl, hA⟩
        replace hBw := hid (bthen hBw.out hA)
        clear hA kW
        go_wp2_with fail
        go_ret
        exact ⟨rfl, hBw.out⟩
      obtain ⟨x, hx⟩ : ∃ x, x1[k]? = some x := ⟨_, List.getElem?_eq_getElem (by have := hlen1.out; have := hl1.out; omega)⟩
      obtain ⟨va, vn, vc, vs, hpv, rfl, hS⟩ := hPs.out k x hx
      obtain ⟨b, o, rfl, d0c⟩ := (hEl1.out.below hBw.out).at1 hx
      have hS1 := hid (hS.below hBw.out)
      have hva := hid (els_lt29 hS (by decide))
      have hvl : vs.length = vn := by have := hS.1; rw [List.length_map] at this; exact this
      have hSE := hid hS
      clear hS
      have kz : (0 : Int) ≤ k := by omega
      have wk : IntKind.i64.wrap ((k : Int) + 1) = (k : Int) + 1 := by have := hl1.out; rw [IntKind.wrap_i64]; omega
      have hk1 := hid (show k + 1 ≤ len1 by omega)
      have hms := hid (show len1 - (k + 1) < len1 - k by omega)
      have hkl := hid (show k < len1 by omega)
      replace hx := hid hx
      by_cases hv4 : 4 < vn
      case pos =>
        have d2v : decide ((4 : Int) < (vn : Int)) = true := by simp; omega
        clear hS1 hb hO hll hTG hbd hOw hwn hdis hpv hvl hk hva
        go_wp2_with fail
        refine (knows29_any _ (hT.out.on hBw.out)).mono ?_
        rintro e V ⟨rfl, hA⟩
        replace hBw := hid (bthen hBw.out hA)
        clear hA
        go_wp2_with fail
        go_ret
        exact ⟨rfl, hBw.out⟩
      have d2v : decide ((4 : Int) < (vn : Int)) = false := by simp; omega
      have hSt := tg_step hTG hkl.out hl1.out.2 hpv (by omega)
      have hCT := CT_next hpv
      have hwl9 := hid (show wl + vn ≤ 4 * (k + 1) by omega)
      have hbd2 := add_bd (t := t) (tt := (len1 : Int)) (no := (k : Int) + 1) (vs := vs) hbd
      have hls9 := hid (show ls.length ≤ 100 by omega)
      have hls : ls.length ≤ 100 := by omega
      have hbs := hBw.out.size
      have h36 : wl ≤ 36 := by have := hl1.out; omega
      replace hb := hid hb
      replace hO := hid hO
      replace hOw := hid hOw
      replace hdis := hid hdis
      replace hll := hid hll
      replace hSt := hid hSt
      replace hCT := hid hCT
      replace hbd2 := hid hbd2
      replace hwn := hid hwn
      replace hvl := hid hvl
      have hvn := hid (show vn ≤ 4 by omega)
      clear hTG hbd hpv hv4 hwl hk hls
      go_wp2_with (first | (at_builtin; refine wpList_appE rfl (.tmp 65) (.tmp 69) 22 rfl W.heap.size 69 8 64 viO (by decide) (.slice wa wl wc) wl ((CT ps k).map enV).flatten rfl hOw.out va vn vc (vs.map enV) rfl hS1.out (enV_one vs) (by unfold maxLen; have := hvn.out; omega) (by have := hvn.out; omega) hbs ?_))
      intro a9 c9 W9 hO9 hG9 hN9
      have hb9 := (hG9.block B (held_lt hb.out) (fun e => hOw.out.ne hb.out (by decide) e.symm)).trans hb.out
      have hOb9 := hO.out.kept (fun g hg => hG9.block g (hO.out.lt g hg).2.1 (fun e => hdis.out g e.symm hg))
      have hdis9 := hid (fun g (hg : (Value.slice a9 (wl + vn) c9).ownBlock = some g) (hg2 : (Value.slice a len cap).ownBlock = some g) => (show False from by rcases hN9 g hg with h | h; exact hdis.out g h hg2; have := (hO.out.lt g hg2).2.1; omega))
      have hBw9 := hid (hBw.out.grown hG9 hbs (fun g e => (hOw.out.lt g e).1))
      have hOw9 := hid (show OwnE 69 W9 W.heap.size 8 (.slice a9 (wl + vn) c9) (wl + vn) ((CT ps (k + 1)).map enV).flatten from by rw [hCT.out, List.map_append, List.flatten_append]; exact hO9)
      have hwn9 := hid (show (CT ps (k + 1)).length = wl + vn from by rw [hCT.out, List.length_append, hwn.out, hvl.out])
      clear hG9 hN9 hO9 hO hb hOw hdis hBw hwn hS1 d0c hbs h36
      obtain ⟨wl9, hwle⟩ : ∃ z, wl + vn = z := ⟨_, rfl⟩
      rw [hwle] at hdis9 hOw9 hwn9 hwl9 ⊢
      replace hwle := hid hwle
      obtain ⟨b2, o2, e2, d0c⟩ := (hEl1.out.below hBw9.out).at1 hx.out
      cases e2
      skip
      have kA := badd29_any W.heap.size B t n ls (len1 : Int) ((k : Int) + 1) 0 va vn vc vs W9 ⟨a, len, cap, hb9, hOb9, hll.out⟩ hNB hls9.out (hSE.out.below hBw9.out) hva.out
      replace hb9 := hid hb9
      replace hOb9 := hid hOb9
      rw [hSt.out] at kA
      have hbd3 := hbd2.out.1
      rw [hSt.out] at hbd3
      replace hbd3 := hid hbd3
      have wP : IntKind.i64.wrap ((len1 : Int) - 1) = (len1 : Int) - 1 := by have := hl1.out; rw [IntKind.wrap_i64]; omega
      clear hSt hbd2
      by_cases hla : k + 1 < len1
      case pos =>
        rw [if_pos hla] at kA
        have hbd4 := hbd3.out
        rw [if_pos hla] at hbd4
        replace hbd4 := hid hbd4
        have bl : ((k : Int) == (len1 : Int) - 1) = false := by simp; have := hkl.out; omega
        have hlx := hid hla
        unfold AdOk at kA
        dsimp only at kA
        replace kA := hid kA
        clear hbd3 hla
        go_wp2_with fail
        refine kA.out.mono ?_
        rintro r V1 ⟨⟨a', len', cap', hb1, hO1, hll1⟩, hK, ra, rn, rc, rfl, hE1, hra⟩
        clear d0c kA
        have hw1 := hOw9.out.kept (fun g hg => hK.owp.block g (hOw9.out.lt g hg).2.1 (fun e => by subst e; exact (hOw9.out.ne hb9.out (by decide)) hg) (by rw [wown_at hb9.out (j := 3) (v := .slice a len cap) rfl]; exact fun e => hdis9.out g hg e.symm))
        have hd1 := hid (fun g (hg : (Value.slice a9 wl9 c9).ownBlock = some g) => (show (Value.slice a' len' cap').ownBlock ≠ some g from fun hg2 => by rcases hK.owp.own g (by rw [wown_at hb1 (j := 3) (v := .slice a' len' cap') rfl]; exact hg2) with h | h; rw [wown_at hb9.out (j := 3) (v := .slice a len cap) rfl] at h; exact hdis9.out g hg h; have := (hOw9.out.lt g hg).2.1; omega))
        have hB1 := hid (hBw9.out.trans hK.below)
        obtain rfl : rn = 0 := hE1.1.symm
        have hTG9 : TG len1 (k + 1) ps (len1 : Int) ((k : Int) + 1 + 1) (CT ps (k + 1)) := .inr (.inl ⟨by omega, hlx.out, rfl, by omega, rfl⟩)
        replace hTG9 := hid hTG9
        replace hll1 := hid hll1
        replace hb1 := hid hb1
        replace hO1 := hid hO1
        replace hw1 := hid hw1
        clear hK hE1 hra hb9 hOb9 hdis9 hOw9 hBw9
        go_wp2_with fail
        go_roundw
        case rel => exact ⟨k + 1, a9, wl9, c9, by simp, rfl, hk1.out, hwl9.out, ⟨(len1 : Int), ((k : Int) + 1 + 1), (CT ps (k + 1)), a', len', cap', hb1.out, hO1.out, hll1.out, hTG9.out, hbd4.out, hw1.out, hwn9.out, hd1.out⟩, hB1.out⟩
        case measure => simp [intOf]; have := hms.out; omega
      rw [if_neg hla] at kA
      have hbd4 := hbd3.out
      rw [if_neg hla] at hbd4
      replace hbd4 := hid hbd4
      have bl : ((k : Int) == (len1 : Int) - 1) = true := by simp; have := hkl.out; omega
      have hlx := hid hla
      unfold AdOk at kA
      dsimp only at kA
      replace kA := hid kA
      clear hbd3 hla
      go_wp2_with fail
      refine kA.out.mono ?_
      rintro r V1 ⟨⟨a', len', cap', hb1, hO1, hll1⟩, hK, ra, rn, rc, rfl, hE1, hra⟩
      clear d0c kA
      have hw1 := hOw9.out.kept (fun g hg => hK.owp.block g (hOw9.out.lt g hg).2.1 (fun e => by subst e; exact (hOw9.out.ne hb9.out (by decide)) hg) (by rw [wown_at hb9.out (j := 3) (v := .slice a len cap) rfl]; exact fun e => hdis9.out g hg e.symm))
      have hd1 := hid (fun g (hg : (Value.slice a9 wl9 c9).ownBlock = some g) => (show (Value.slice a' len' cap').ownBlock ≠ some g from fun hg2 => by rcases hK.owp.own g (by rw [wown_at hb1 (j := 3) (v := .slice a' len' cap') rfl]; exact hg2) with h | h; rw [wown_at hb9.out (j := 3) (v := .slice a len cap) rfl] at h; exact hdis9.out g hg h; have := (hOw9.out.lt g hg).2.1; omega))
      have hB1 := hid (hBw9.out.trans hK.below)
      have hEw := hid (hw1.els (by rw [List.length_map]; exact hwn9.out) (enV_m _))
      have e1 := hE1.1
      rw [List.length_map] at e1
      have hrn : rn = wl9 := by rw [← e1]; exact hwn9.out
      subst hrn
      have kV := hid (views29_any ra a9 rc c9 rn (CT ps (k + 1)) _ hwn9.out hE1 hEw.out (by have := hwl9.out; have := hl1.out; omega))
      have hTG9 : TG len1 (k + 1) ps 0 0 [] := .inr (.inr ⟨by omega, by have := hlx.out; have := hkl.out; omega, rfl, rfl⟩)
      clear e1 hEw
      replace hTG9 := hid hTG9
      replace hll1 := hid hll1
      replace hb1 := hid hb1
      replace hO1 := hid hO1
      replace hw1 := hid hw1
      clear hK hE1 hra hb9 hOb9 hdis9 hOw9 hBw9
      go_wp2_with fail
      refine kV.out.mono ?_
      rintro r V2 ⟨rfl, hA⟩
      replace hb1 := hid (held_after hA hb1.out)
      replace hO1 := hid (hO1.out.below hA)
      replace hw1 := hid (hw1.out.below hA)
      replace hB1 := hid (bthen hB1.out hA)
      clear hA kV
      go_wp2_with fail
      go_roundw
      case rel => exact ⟨k + 1, a9, rn, c9, by simp, rfl, hk1.out, hwl9.out, ⟨0, 0, [], a', len', cap', hb1.out, hO1.out, hll1.out, hTG9.out, hbd4.out, hw1.out, hwn9.out, hd1.out⟩, hB1.out⟩
      case measure => simp [intOf]; have := hms.out; omega

end Go.Proofs.YtobgibmpodggkaaDoor
