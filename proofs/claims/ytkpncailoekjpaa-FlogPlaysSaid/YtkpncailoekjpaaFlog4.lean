/- Package flog: Write. -/
import Derived.Test.YtkpncailoekjpaaFlog3
import Derived.Test.YtkpncailoekjpaaFlogN
import Derived.Deep.DeepCutAuto
namespace Go.Proofs.Ytkpncailoekjpaa
open Go.ChangeShapes Go.WideShapes Go.ChangeAt Go.RowKit
set_option linter.unusedVariables false
set_option linter.unusedSimpArgs false

def recL (r : Rc) : List Value := .int .u32 r.1 :: r.2.map (Value.int .i32)
def recsV (l : List Rc) : List (List Value) := l.map recL
theorem recsV_at {l : List Rc} {k : Nat} {x : Rc} (h : l[k]? = some x) : (recsV l)[k]? = some (recL x) := by simp [recsV, h]
theorem Els.at13 {w : World} {a : Option Addr} {len cap k : Nat} {l : List (List Value)} {u b0 b1 b2 b3 b4 b5 b6 b7 b8 b9 b10 b11 : Int} (h : Els w 13 a len cap l) (hx : l[k]? = some (recL (u, [b0, b1, b2, b3, b4, b5, b6, b7, b8, b9, b10, b11]))) : ∃ b off, a = some ⟨b, off, none⟩ ∧ w.cell? ⟨b, off + k * 13, none⟩ = some (.int .u32 u) ∧ w.cell? ⟨b, off + k * 13 + 1, none⟩ = some (.int .i32 b0) ∧ w.cell? ⟨b, off + k * 13 + 2, none⟩ = some (.int .i32 b1) ∧ w.cell? ⟨b, off + k * 13 + 3, none⟩ = some (.int .i32 b2) ∧ w.cell? ⟨b, off + k * 13 + 4, none⟩ = some (.int .i32 b3) ∧ w.cell? ⟨b, off + k * 13 + 5, none⟩ = some (.int .i32 b4) ∧ w.cell? ⟨b, off + k * 13 + 6, none⟩ = some (.int .i32 b5) ∧ w.cell? ⟨b, off + k * 13 + 7, none⟩ = some (.int .i32 b6) ∧ w.cell? ⟨b, off + k * 13 + 8, none⟩ = some (.int .i32 b7) ∧ w.cell? ⟨b, off + k * 13 + 9, none⟩ = some (.int .i32 b8) ∧ w.cell? ⟨b, off + k * 13 + 10, none⟩ = some (.int .i32 b9) ∧ w.cell? ⟨b, off + k * 13 + 11, none⟩ = some (.int .i32 b10) ∧ w.cell? ⟨b, off + k * 13 + 12, none⟩ = some (.int .i32 b11) := by
  obtain ⟨_, b, off, e, hc⟩ := h.2.2.2.2 k _ hx
  exact ⟨b, off, e, hc 0 _ rfl, hc 1 _ rfl, hc 2 _ rfl, hc 3 _ rfl, hc 4 _ rfl, hc 5 _ rfl, hc 6 _ rfl, hc 7 _ rfl, hc 8 _ rfl, hc 9 _ rfl, hc 10 _ rfl, hc 11 _ rfl, hc 12 _ rfl⟩
theorem own_owp {k1 : IntKind} {E1 : TypeId} {B base b1 : Nat} {w w2 : World} {v : Value} {zs : List Int} {ev : Nat} {s : FSt} (h : Own k1 E1 w b1 v zs) (hL : LgSt B base w ev s) (hK : Owp B 1 w w2) (h1 : E1 ≠ 59) (h2 : E1 ≠ 57) : Own k1 E1 w2 b1 v zs := by
  obtain ⟨a, cap, hH, hOE⟩ := hL
  refine ⟨h.1, ?_⟩
  rcases h.2 with h3 | ⟨g, c, cur, e1, e2, e3, r⟩
  · exact .inl h3
  · refine .inr ⟨g, c, cur, e1, e2, (hK.block g (held_lt e3) (fun e => ?_) (fun e => ?_)).trans e3, r⟩
    · subst e; rw [hH] at e3; cases e3; exact h1 rfl
    · rw [wown_at hH (j := 1) rfl] at e
      exact hOE.ne e3 h2 e.symm
theorem LgSt.grown {B base b1 : Nat} {w w2 : World} {v : Value} {zs : List Int} {ev : Nat} {s : FSt} {k1 : IntKind} {E1 : TypeId} (hL : LgSt B base w ev s) (h : Own k1 E1 w b1 v zs) (hG : w.grownBy w2 v.ownBlock) (h1 : 59 ≠ E1) (h2 : 57 ≠ E1) : LgSt B base w2 ev s := by
  obtain ⟨a, cap, hH, hOE⟩ := hL
  refine ⟨a, cap, held_grown hH hG (own_ne h hH h1), hOE.kept (fun g hg => ?_)⟩
  obtain ⟨_, hlt, cur, hc⟩ := hOE.lt g hg
  exact hG.block g hlt (own_ne h hc h2)
theorem take_snocR {l : List Rc} {k : Nat} {x : Rc} (hx : l[k]? = some x) : l.take (k + 1) = l.take k ++ [x] := by
  rw [List.take_add_one, hx]; rfl
theorem adds_cnt (ev : Nat) : ∀ (l : List Rc) (s : FSt), (addsS ev s l).2.2.1 ≤ s.2.1 + l.length ∧ (addsS ev s l).2.2.2 ≤ s.2.2 + l.length
  | [], s => ⟨Nat.le_refl _, Nat.le_refl _⟩
  | r :: l, s => by
    have h1 := add_cnt ev s r
    have h2 := adds_cnt ev l (addS ev s r).2
    show (addsS ev (addS ev s r).2 l).2.2.1 ≤ _ ∧ (addsS ev (addS ev s r).2 l).2.2.2 ≤ _
    rw [List.length_cons]
    omega
theorem adds_len {ev : Nat} : ∀ {l : List Rc} {s : FSt}, FOk s → (∀ r ∈ l, StK r) → (addsS ev s l).1.length ≤ 256 * l.length
  | [], _, _, _ => by simp [addsS]
  | r :: l, s, h, hr => by
    have h1 := (add_wf (ev := ev) (r := r) h).2
    have h2 := adds_len (ev := ev) (l := l) (s := (addS ev s r).2) (add_ok (ev := ev) h (hr r (by simp))) (fun x hx => hr x (by simp [hx]))
    show ((addS ev s r).1 ++ (addsS ev (addS ev s r).2 l).1).length ≤ _
    rw [List.length_append, List.length_cons]
    omega
def WrOk (w : World) (L : List Int) (n : Int) (e : Ending) (w' : World) : Prop := ∃ a cap, e = .returned (.tuple #[.slice a L.length cap, .int .i64 n]) ∧ Own .u8 5 w' w.heap.size (.slice a L.length cap) L ∧ After w w'
set_option maxRecDepth 100000 in
set_option maxHeartbeats 2000000 in
theorem lwrite_bad (ev : Int) (v : Value) (w : World) (h : ev < 1 ∨ 255 < ev) : Calls Try.prog 15 #[.int .i64 ev, v] w (WrOk w [] 1) := by
  have kN := lnew_bad ev w h
  go_enter Try.func15, Try.ntmps15
  go_wp2_with fail
  refine kN.mono ?_
  rintro e V ⟨rfl, hv⟩
  obtain rfl : w = V := hv.symm
  clear hv
  go_wp2_with fail
  go_ret2
  exact ⟨none, 0, rfl, Own.nil _ _ _ _, Below.refl _ _⟩
set_option maxRecDepth 100000 in
set_option maxHeartbeats 8000000 in
theorem lwrite_any (ev : Nat) (a : Option Addr) (n cap : Nat) (l : List Rc) (w : World) (h1 : 1 ≤ ev) (h2 : ev ≤ 255) (hn : l.length = n) (h100 : n ≤ 1000) (hE : Els w 13 a n cap (recsV l)) (hl : ∀ r ∈ l, StK r) : Calls Try.prog 15 #[.int .i64 ev, .slice a n cap] w (WrOk w (writeS ev l) 0) := by
  have kN := lnew_any ev w h1 h2
  have hall := hid (show l.take n = l by rw [← hn, List.take_length])
  replace hE := hid hE
  replace hl := hid hl
  replace hn := hid hn
  go_enter Try.func15, Try.ntmps15
  go_wp2_with fail
  refine kN.mono ?_
  rintro e V1 ⟨B, rfl, hB, hL, hA⟩
  have hLt := hL.lt
  replace hL := hid hL
  replace hA := hid hA
  go_wp2_with fail
  go_loopw [7, 16] (fun ov ix wr => ∃ (k : Nat) (oa : Option Addr) (ol oc : Nat) (L : List Int) (s : FSt), k ≤ n ∧ ix = .int .i64 k ∧ ov = .slice oa ol oc ∧ Hid (L.length = ol) ∧ ol ≤ 256 * k ∧ Own .u8 5 wr w.heap.size (.slice oa ol oc) L ∧ LgSt B w.heap.size wr ev s ∧ Hid (addsS ev ([], 0, 0) (l.take k) = (L, s)) ∧ Below w.heap.size w wr) (fun _ ix _ => n - (intOf ix).toNat)
  case atStart => exact ⟨0, none, 0, 0, [], ([], 0, 0), by omega, rfl, rfl, hid rfl, by omega, Own.nil _ _ _ _, hL.out, hid rfl, hA.out⟩
  case round =>
    clear hL hA
    obtain ⟨k, oa, ol, oc, L, s, hk, rfl, rfl, hol, hol2, hO, hL, hs, hA⟩ := hrel
    have sA := hA.size
    have hFk : FOk s := by have := adds_ok (ev := ev) (l := l.take k) fok0 (fun r hr => hl.out r (List.mem_of_mem_take hr)); rw [hs.out] at this; exact this
    have hcn := adds_cnt ev (l.take k) ([], 0, 0)
    rw [hs.out, List.length_take] at hcn
    dsimp only at hcn
    have hc1 : s.2.1 ≤ 1000 := by omega
    have hc2 : s.2.2 ≤ 1000 := by omega
    clear hcn
    replace hO := hid hO
    by_cases hlt : (k : Int) < n
    case neg =>
      obtain rfl : k = n := by omega
      have hws : writeS ev l = L ++ (flushS s).1 := by unfold writeS; rw [← hall.out, hs.out]
      have hfl := (told_wf hFk).2
      have kF := lflush_any B w.heap.size w.heap.size ev s wr hL hFk (by omega) (by omega) hB (Nat.le_refl _) sA
      obtain ⟨r, hr⟩ : ∃ r, flushS s = r := ⟨_, rfl⟩
      rw [hr] at kF hws hfl
      obtain ⟨T, s2⟩ := r
      dsimp only at hws hfl
      replace hws := hid hws
      replace kF := hid kF
      clear hr hs
      replace hA := hid hA
      replace hL := hid hL
      go_wp2_with fail
      refine kF.out.mono ?_
      rintro e V2 ⟨ta, tc, rfl, hT, hL2, hW⟩
      dsimp only at hT ⊢
      have hO2 := hid (own_owp hO.out hL.out hW.2 (by decide) (by decide))
      have hB2 := hA.out.trans hW.1
      have s2z := hB2.size
      have sl2 := hid hT.slf
      clear hT hL2 hW hA hL hO kF
      have hla := hid (show L.length + T.length ≤ 140737488355328 / 1 by have := hol.out; omega)
      have hO3 := hid (show Own .u8 5 V2 w.heap.size (.slice oa ol oc) L from hO2.out)
      go_wp2_with (first | (at_builtin; refine wpList_app _ rfl (.tmp 26) (.tmp 28) 29 rfl w.heap.size 5 .u8 1 bytesOf (.slice oa ol oc) L rfl hO3.out ta tc T rfl sl2.out.2.2.2.2 sl2.out.2.2.2.1 hla.out (by omega) s2z ?_))
      intro v9 w9 hO9 hG
      obtain ⟨ga, gc, hv9, -⟩ := hO9.sl
      subst hv9
      have hB9 := hid (hO3.out.grew hG hB2 (Nat.le_refl _) s2z)
      clear hG hO2 hO3 hB2
      rw [← hws.out] at hO9 ⊢
      obtain ⟨Z, hZ⟩ : ∃ z, writeS ev l = z := ⟨_, rfl⟩
      rw [hZ] at hO9 ⊢
      clear hws
      replace hZ := hid hZ
      replace hO9 := hid hO9
      go_wp2_with fail
      go_ret2
      rw [hZ.out]
      exact ⟨ga, gc, rfl, hO9.out, hB9.out⟩
    obtain ⟨x, hx⟩ : ∃ x, l[k]? = some x := ⟨_, List.getElem?_eq_getElem (show k < l.length by have := hn.out; omega)⟩
    have hxo := hl.out x (List.mem_of_getElem? hx)
    have hsn := addsS_snoc ev (l.take k) ([], 0, 0) x
    rw [← take_snocR hx, hs.out] at hsn
    dsimp only at hsn
    have hfl := (add_wf (ev := ev) (r := x) hFk).2
    obtain ⟨u, bl⟩ := x
    obtain ⟨hu, hbl, hbb⟩ := hxo
    dsimp only at hu hbl hbb
    obtain ⟨b0, b1, b2, b3, b4, b5, b6, b7, b8, b9, b10, b11, rfl⟩ := list12 hbl
    obtain ⟨bb, off, rfl, g0, g1, g2, g3, g4, g5, g6, g7, g8, g9, g10, g11, g12⟩ := (hE.out.below hA).at13 (recsV_at hx)
    have kz : (0 : Int) ≤ k := by omega
    have wk : IntKind.i64.wrap ((k : Int) + 1) = (k : Int) + 1 := by rw [IntKind.wrap_i64]; omega
    have hk1 := hid (show k + 1 ≤ n by omega)
    clear hx hbl hs
    have nA := alloc_new wr (.cells #[.int .u32 u, .int .i32 b0, .int .i32 b1, .int .i32 b2, .int .i32 b3, .int .i32 b4, .int .i32 b5, .int .i32 b6, .int .i32 b7, .int .i32 b8, .int .i32 b9, .int .i32 b10, .int .i32 b11] 33)
    have hAr := nA.2.1
    have rx := nA.2.2
    have hO1 := hid (hO.out.below hAr)
    have hL1 := hid (hL.aft hAr)
    have hA1 := bthen hA hAr
    have s1 := hA1.size
    clear nA hAr hO hL hA hk
    go_upto_region 8 with (fail)
    obtain ⟨W1, hW1⟩ : ∃ X, wr.alloc (.cells #[.int .u32 u, .int .i32 b0, .int .i32 b1, .int .i32 b2, .int .i32 b3, .int .i32 b4, .int .i32 b5, .int .i32 b6, .int .i32 b7, .int .i32 b8, .int .i32 b9, .int .i32 b10, .int .i32 b11] 33) = X := ⟨_, rfl⟩
    rw [hW1] at rx hO1 hL1 hA1 s1
    try rw [hW1]
    obtain ⟨px, hpx⟩ : ∃ X, wr.heap.size = X := ⟨_, rfl⟩
    rw [hpx] at rx
    try rw [hpx]
    clear hW1 hpx g0 g1 g2 g3 g4 g5 g6 g7 g8 g9 g10 g11 g12
    have x0 := held_cell rx 0 _ rfl
    have x1 := held_cell rx 1 _ rfl
    have x2 := held_cell rx 2 _ rfl
    have x3 := held_cell rx 3 _ rfl
    have x4 := held_cell rx 4 _ rfl
    have x5 := held_cell rx 5 _ rfl
    have x6 := held_cell rx 6 _ rfl
    have x7 := held_cell rx 7 _ rfl
    have x8 := held_cell rx 8 _ rfl
    have x9 := held_cell rx 9 _ rfl
    have x10 := held_cell rx 10 _ rfl
    have x11 := held_cell rx 11 _ rfl
    have x12 := held_cell rx 12 _ rfl
    clear rx
    have kA := ladd_any B w.heap.size w.heap.size ev s u b0 b1 b2 b3 b4 b5 b6 b7 b8 b9 b10 b11 W1 hL1.out hFk (by omega) h2 (by omega) (by omega) hu hbb hB (Nat.le_refl _) s1
    obtain ⟨r, hr⟩ : ∃ r, addS ev s (u, [b0, b1, b2, b3, b4, b5, b6, b7, b8, b9, b10, b11]) = r := ⟨_, rfl⟩
    rw [hr] at kA hsn hfl
    clear hr
    obtain ⟨T, s2⟩ := r
    dsimp only at hsn hfl
    replace hsn := hid hsn
    replace kA := hid kA
    clear hbb
    replace hA1 := hid hA1
    go_wp2_with fail
    refine kA.out.mono ?_
    rintro e V2 ⟨ta, tc, rfl, hT, hL2, hW⟩
    dsimp only at hT hL2 ⊢
    have hO2 := hid (own_owp hO1.out hL1.out hW.2 (by decide) (by decide))
    have hB2 := hA1.out.trans hW.1
    have s2z := hB2.size
    have sl2 := hid hT.slf
    clear hT hW hA1 hL1 hO1 kA x0 x1 x2 x3 x4 x5 x6 x7 x8 x9 x10 x11 x12
    have hla := hid (show L.length + T.length ≤ 140737488355328 / 1 by have := hol.out; omega)
    replace hL2 := hid hL2
    go_wp2_with (first | (at_builtin; refine wpList_app _ rfl (.tmp 20) (.tmp 23) 29 rfl w.heap.size 5 .u8 1 bytesOf (.slice oa ol oc) L rfl hO2.out ta tc T rfl sl2.out.2.2.2.2 sl2.out.2.2.2.1 hla.out (by omega) s2z ?_))
    intro v9 w9 hO9 hG
    obtain ⟨ga, gc, hv9, -⟩ := hO9.sl
    subst hv9
    have hB9 := hid (hO2.out.grew hG hB2 (Nat.le_refl _) s2z)
    have hL9 := hid (hL2.out.grown hO2.out hG (by decide) (by decide))
    have hl9 : (L ++ T).length ≤ 256 * (k + 1) := by rw [List.length_append]; have := hol.out; omega
    obtain ⟨Z, hZ⟩ : ∃ z, L ++ T = z := ⟨_, rfl⟩
    have hsn2 := hsn.out
    rw [hZ] at hO9 hl9 hsn2 ⊢
    obtain ⟨zl, hzl⟩ : ∃ z, Z.length = z := ⟨_, rfl⟩
    rw [hzl] at hO9 hl9 ⊢
    replace hzl := hid hzl
    replace hsn := hid hsn2
    clear hG hO2 hB2 hL2 hZ hsn2
    replace hO9 := hid hO9
    go_wp2_with fail
    go_roundw
    case rel => exact ⟨k + 1, ga, zl, gc, Z, s2, hk1.out, by simp, rfl, hzl, hl9, hO9.out, hL9.out, hsn, hB9.out⟩
    case measure => simp [intOf]; omega

end Go.Proofs.Ytkpncailoekjpaa
