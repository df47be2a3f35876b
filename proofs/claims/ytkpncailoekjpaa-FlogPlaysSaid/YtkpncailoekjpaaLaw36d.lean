/- The laws of layer 36: FlogPlays. -/
import Derived.Test.YtkpncailoekjpaaLaw36
import Derived.Test.YtkpncailoekjpaaFlog7
import Derived.Deep.DeepCutAuto
namespace Go.Proofs.Ytkpncailoekjpaa
open Go.ChangeShapes Go.WideShapes Go.ChangeAt Go.RowKit
set_option linter.unusedVariables false
set_option linter.unusedSimpArgs false

theorem els_ops : ∀ {xs : List (List Value)}, (∀ x ∈ xs, (∃ (c0 : Bool) (c1 : Int) (c2 : Int) (c3 : Int) (c4 : Int) (c5 : Int) (c6 : Int) (c7 : Int) (c8 : Int) (c9 : Int) (c10 : Int) (c11 : Int) (c12 : Int) (c13 : Int), x = [.bool c0, .int .u32 c1, .int .i32 c2, .int .i32 c3, .int .i32 c4, .int .i32 c5, .int .i32 c6, .int .i32 c7, .int .i32 c8, .int .i32 c9, .int .i32 c10, .int .i32 c11, .int .i32 c12, .int .i32 c13] ∧ ((Lit.int .u32 c1).wf = true) ∧ ((Lit.int .i32 c2).wf = true) ∧ ((Lit.int .i32 c3).wf = true) ∧ ((Lit.int .i32 c4).wf = true) ∧ ((Lit.int .i32 c5).wf = true) ∧ ((Lit.int .i32 c6).wf = true) ∧ ((Lit.int .i32 c7).wf = true) ∧ ((Lit.int .i32 c8).wf = true) ∧ ((Lit.int .i32 c9).wf = true) ∧ ((Lit.int .i32 c10).wf = true) ∧ ((Lit.int .i32 c11).wf = true) ∧ ((Lit.int .i32 c12).wf = true) ∧ ((Lit.int .i32 c13).wf = true))) → ∃ l : List En, xs = entsV l ∧ ∀ z ∈ l, EnOk z
  | [], _ => ⟨[], rfl, fun z hz => by cases hz⟩
  | y :: xs, h => by
    obtain ⟨c0, c1, c2, c3, c4, c5, c6, c7, c8, c9, c10, c11, c12, c13, rfl, h1, h2, h3, h4, h5, h6, h7, h8, h9, h10, h11, h12, h13⟩ := h y (by simp)
    obtain ⟨l, rfl, hl⟩ := els_ops (xs := xs) (fun z hz => h z (List.mem_cons_of_mem _ hz))
    refine ⟨(c0, c1, [c2, c3, c4, c5, c6, c7, c8, c9, c10, c11, c12, c13]) :: l, rfl, fun z hz => ?_⟩
    rcases List.mem_cons.1 hz with rfl | hz
    · refine ⟨u32_bd36 h1, rfl, fun y hy => ?_⟩
      simp only [List.mem_cons, List.not_mem_nil, or_false] at hy
      rcases hy with rfl | rfl | rfl | rfl | rfl | rfl | rfl | rfl | rfl | rfl | rfl | rfl <;> first | exact i32_bd36 h2 | exact i32_bd36 h3 | exact i32_bd36 h4 | exact i32_bd36 h5 | exact i32_bd36 h6 | exact i32_bd36 h7 | exact i32_bd36 h8 | exact i32_bd36 h9 | exact i32_bd36 h10 | exact i32_bd36 h11 | exact i32_bd36 h12 | exact i32_bd36 h13
    · exact hl z hz
/-- Where a list's block is not the log's own. -/
def DisE (B : Nat) (w : World) (a : Option Addr) : Prop := ∀ q, a = some q → q.block ≠ B ∧ some q.block ≠ wown B 1 w ∧ q.block < w.heap.size
theorem els_owp {B m len cap : Nat} {w w2 : World} {a : Option Addr} {xs : List (List Value)} (hE : Els w m a len cap xs) (hd : DisE B w a) (hK : Owp B 1 w w2) : Els w2 m a len cap xs :=
  ⟨hE.1, hE.2.1, hE.2.2.1, hE.2.2.2.1, fun i x hx => by
    obtain ⟨h1, b, off, e, hc⟩ := hE.2.2.2.2 i x hx
    obtain ⟨d1, d2, d3⟩ := hd _ e
    exact ⟨h1, b, off, e, fun j v hj => (World.cell?_of_block (w := w) (hK.block b d3 d1 d2)).trans (hc j v hj)⟩⟩
theorem et_owp {B : Nat} {w w2 : World} {a : Option Addr} (h : EtAt w a) (hd : DisE B w a) (hK : Owp B 1 w w2) : EtAt w2 a := fun q e => by
  obtain ⟨cs, hc⟩ := h q e
  obtain ⟨d1, d2, d3⟩ := hd q e
  exact ⟨cs, (hK.block _ d3 d1 d2).trans hc⟩
theorem dis_owp {B : Nat} {w w2 : World} {a : Option Addr} (hd : DisE B w a) (hK : Owp B 1 w w2) : DisE B w2 a := fun q e => by
  obtain ⟨d1, d2, d3⟩ := hd q e
  refine ⟨d1, fun h => ?_, Nat.lt_of_lt_of_le d3 hK.size⟩
  rcases hK.own q.block h.symm with h2 | h2
  · exact d2 h2.symm
  · omega
theorem dis_new {B base ev : Nat} {s : FSt} {w w2 : World} {a a2 : Option Addr} (hL : LgSt B base w ev s) (hd : DisE B w a) (hA : After w w2) (hf : ∀ p, a2 = some p → a = some p ∨ w.heap.size ≤ p.block) (ht : EtAt w2 a2) : DisE B w2 a2 := fun q e => by
  have hB := hL.lt
  have hw : wown B 1 w2 = wown B 1 w := wown_same (hA.block B hB)
  obtain ⟨cs, hc⟩ := ht q e
  rw [hw]
  rcases hf q e with h | h
  · obtain ⟨d1, d2, d3⟩ := hd q h
    exact ⟨d1, d2, held_lt hc⟩
  · refine ⟨by omega, fun h2 => ?_, held_lt hc⟩
    obtain ⟨a9, c9, hH, hOE⟩ := hL
    rw [wown_at hH (j := 1) rfl] at h2
    have := (hOE.lt q.block h2.symm).2.1
    omega
theorem dis_only {B p : Nat} {w w2 : World} {a : Option Addr} (hd : DisE B w a) (ho : Only p w w2) (hp : B ≠ p) : DisE B w2 a := fun q e => by
  obtain ⟨d1, d2, d3⟩ := hd q e
  refine ⟨d1, ?_, by rw [ho.size]; exact d3⟩
  rw [wown_same (ho.block B hp)]; exact d2
theorem lg_only {B base ev p : Nat} {s : FSt} {w w2 : World} {c : Array Value} {T : TypeId} (hL : LgSt B base w ev s) (hp : w.heap[p]? = some (.cells c T (0, 0))) (ho : Only p w w2) (hB : B ≠ p) (hT : T ≠ 57) : LgSt B base w2 ev s := by
  obtain ⟨a, cap, hH, hOE⟩ := hL
  exact ⟨a, cap, held_only ho hB hH, hOE.kept (fun g hg => ho.block g (fun e => by subst e; exact hOE.ne hp hT hg))⟩
theorem aft_eq {a b : World} (h : b = a) : After a b := by rw [h]; exact Below.refl _ _
def opS (ev : Nat) (s : FSt) (x : En) : List Int × FSt := if x.1 then flushS s else addS ev s x.2
set_option maxRecDepth 100000 in
set_option maxHeartbeats 32000000 in
theorem law_FlogPlays (a0 : Int) (a1 : Option Addr) (len1 cap1 : Nat) (x1 : List (List Value)) (W : World) (w0 : (Lit.int .i64 a0).wf = true) (w1 : Els W 14 a1 len1 cap1 x1) (t1 : ∀ x ∈ x1, (∃ (c0 : Bool) (c1 : Int) (c2 : Int) (c3 : Int) (c4 : Int) (c5 : Int) (c6 : Int) (c7 : Int) (c8 : Int) (c9 : Int) (c10 : Int) (c11 : Int) (c12 : Int) (c13 : Int), x = [.bool c0, .int .u32 c1, .int .i32 c2, .int .i32 c3, .int .i32 c4, .int .i32 c5, .int .i32 c6, .int .i32 c7, .int .i32 c8, .int .i32 c9, .int .i32 c10, .int .i32 c11, .int .i32 c12, .int .i32 c13] ∧ ((Lit.int .u32 c1).wf = true) ∧ ((Lit.int .i32 c2).wf = true) ∧ ((Lit.int .i32 c3).wf = true) ∧ ((Lit.int .i32 c4).wf = true) ∧ ((Lit.int .i32 c5).wf = true) ∧ ((Lit.int .i32 c6).wf = true) ∧ ((Lit.int .i32 c7).wf = true) ∧ ((Lit.int .i32 c8).wf = true) ∧ ((Lit.int .i32 c9).wf = true) ∧ ((Lit.int .i32 c10).wf = true) ∧ ((Lit.int .i32 c11).wf = true) ∧ ((Lit.int .i32 c12).wf = true) ∧ ((Lit.int .i32 c13).wf = true))) :
    Calls Try.prog 3 #[.int .i64 a0, .slice a1 len1 cap1] W fun e w' => e = .returned (.bool true) ∧ Below W.heap.size W w' := by
  obtain ⟨l, rfl, hl⟩ := els_ops t1
  obtain rfl : l.length = len1 := by have := w1.1; simpa [entsV] using this
  clear t1 w0
  obtain ⟨n, hn⟩ : ∃ n, l.length = n := ⟨_, rfl⟩
  rw [hn] at w1 ⊢
  have hE0W := hid w1
  clear w1
  replace hl := hid hl
  replace hn := hid hn
  by_cases cb : (60 : Int) < n
  case pos =>
    go_enter Try.func3, Try.ntmps3
    go_wp2_with fail
    refine (knows36_any _).mono ?_
    rintro e V ⟨rfl, hst⟩
    replace hst := hid hst
    go_wp2_with fail
    go_ret
    exact ⟨rfl, hst.out⟩
  have h60 : n ≤ 60 := by omega
  go_enter Try.func3, Try.ntmps3
  go_wp2_with fail
  refine (knows36_any _).mono ?_
  rintro e V0 ⟨rfl, hB⟩
  have hs0 := hB.size
  replace hB := hid hB
  go_wp2_with fail
  by_cases hbad : a0 < 1 ∨ 255 < a0
  case pos =>
    refine (lnew_bad a0 _ hbad).mono ?_
    rintro e V ⟨rfl, hv⟩
    obtain rfl : V0 = V := hv.symm
    clear hv
    by_cases h1 : a0 < 1
    case pos =>
      go_wp2_with fail
      go_ret
      exact ⟨rfl, hB.out⟩
    have h2 : 255 < a0 := by omega
    clear hbad
    go_wp2_with fail
    go_ret
    exact ⟨rfl, hB.out⟩
  obtain ⟨ev, hev⟩ : ∃ ev : Nat, a0 = ev := ⟨a0.toNat, by omega⟩
  subst hev
  have he1 : 1 ≤ ev := by omega
  have he2 : ev ≤ 255 := by omega
  have q1 : ¬ (ev : Int) < 1 := by omega
  have q2 : ¬ (255 : Int) < ev := by omega
  clear hbad
  refine (lnew_any ev _ he1 he2).mono ?_
  rintro e V1 ⟨B, rfl, hBB, hL, hA⟩
  have hB1 := bthen hB.out hA
  have nw := alloc_new V1 (.cells #[.int .i64 (ev : Int), .slice none 0 0, .int .i64 0, .int .i64 0] 28)
  have hLt := hL.lt
  have hL2 := hid (hL.aft nw.2.1)
  have hB2 := hid (bthen hB1 nw.2.1)
  have rB := hid nw.2.2
  have hAA := hid (bthen hA nw.2.1)
  have s1 := hA.size
  clear nw hL hB hA hB1
  go_upto_region 7 with (fail)
  obtain ⟨V2, hV2⟩ : ∃ X, V1.alloc (.cells #[.int .i64 (ev : Int), .slice none 0 0, .int .i64 0, .int .i64 0] 28) = X := ⟨_, rfl⟩
  rw [hV2] at hL2 hB2 rB hAA
  try rw [hV2]
  obtain ⟨p6, hp6⟩ : ∃ X, V1.heap.size = X := ⟨_, rfl⟩
  have hpB : B ≠ p6 := by omega
  have hp : W.heap.size ≤ p6 := by omega
  rw [hp6] at rB
  try rw [hp6]
  clear hV2 hp6
  obtain ⟨base, hbase⟩ : ∃ X, V0.heap.size = X := ⟨_, rfl⟩
  have hbs : W.heap.size ≤ base := by omega
  have hbB : W.heap.size ≤ B := by omega
  have hbz := hAA.out.size
  rw [hbase] at hL2 hbz
  clear hAA hs0 hBB s1 hLt hbase
  go_wp2_with fail
  go_loopw [7] (fun ix wr => ∃ (k : Nat) (l0 : List En) (rc bk m : Nat) (sa : Option Addr) (sc : Nat), k ≤ n ∧ ix = .int .i64 k ∧ LgSt B base wr ev (l0, rc, bk) ∧ wr.heap[p6]? = some (.cells #[.int .i64 (ev : Int), .slice sa m sc, .int .i64 (rc : Nat), .int .i64 (bk : Nat)] 28 (0, 0)) ∧ Els wr 14 sa m sc (entsV l0) ∧ EtAt wr sa ∧ DisE B wr sa ∧ Hid (l0.length = m) ∧ FOk (l0, rc, bk) ∧ rc ≤ k ∧ bk ≤ k ∧ base ≤ wr.heap.size ∧ Below W.heap.size W wr) (fun ix _ => n - (intOf ix).toNat)
  case atStart => exact ⟨0, [], 0, 0, 0, none, 0, by omega, rfl, hL2.out, rB.out, Els.nil _ _, (fun q e => by cases e), (fun q e => by cases e), hid rfl, fok0, by omega, by omega, hbz, hB2.out⟩
  case round =>
    clear rB hL2 hB2 hbz
    obtain ⟨k, l0, rc, bk, m, sa, sc, hk, rfl, hL, rB, hEs, hty, hdi, hm, hFk, hrc, hbk, hbz, hB⟩ := hrel
    replace hB := hid hB
    by_cases hlt : (k : Int) < n
    case neg =>
      clear rB
      go_wp2_with fail
      go_ret
      exact ⟨rfl, hB.out⟩
    replace hL := hid hL
    replace hEs := hid hEs
    replace hty := hid hty
    replace hdi := hid hdi
    obtain ⟨x, hx⟩ : ∃ x, l[k]? = some x := ⟨_, List.getElem?_eq_getElem (show k < l.length by have := hn.out; omega)⟩
    have hxo := hl.out x (List.mem_of_getElem? hx)
    obtain ⟨fl, u, bl⟩ := x
    obtain ⟨hu, hbl, hbb⟩ := hxo
    dsimp only at hu hbl hbb
    obtain ⟨b0, b1, b2, b3, b4, b5, b6, b7, b8, b9, b10, b11, rfl⟩ := list12 hbl
    have hEx := hid (entsV_at hx)
    obtain ⟨bb, off, e9, g0, g1, g2, g3, g4, g5, g6, g7, g8, g9, g10, g11, g12, g13⟩ := (hE0W.out.below hB.out).at14 hEx.out
    subst e9
    have kz : (0 : Int) ≤ k := by omega
    have wk : IntKind.i64.wrap ((k : Int) + 1) = (k : Int) + 1 := by rw [IntKind.wrap_i64]; omega
    have hk1 := hid (show k + 1 ≤ n by omega)
    replace hrc := hid hrc
    replace hbk := hid hbk
    replace rB := hid rB
    clear hx hbl hk
    cases fl
    case true =>
      have kK := lflush_any B base W.heap.size ev (l0, rc, bk) wr hL.out hFk (by omega) (show bk ≤ 1000000 by have := hbk.out; omega) hbB hbs (by omega)
      obtain ⟨r, hr⟩ : ∃ r, flushS (l0, rc, bk) = r := ⟨_, rfl⟩
      have hfo : FOk (flushS (l0, rc, bk)).2 := flush_ok hFk
      have hct := flush_cnt (l0, rc, bk)
      rw [hr] at kK hfo hct
      obtain ⟨T, s2⟩ := r
      obtain ⟨l2, rc2, bk2⟩ := s2
      dsimp only at kK hfo hct
      have hr2 := hid hr
      clear hr
      have hrc9 := hrc.out
      have hbk9 := hbk.out
      have hc2 : rc2 ≤ k + 1 := by omega
      have hb2 : bk2 ≤ k + 1 := by omega
      clear hrc9 hbk9 hct
      replace kK := hid kK
      replace hfo := hid hfo
      go_wp2_with fail
      refine kK.out.mono ?_
      rintro e V3 ⟨ta, tc, rfl, hT1, hL3, hW3⟩
      dsimp only at hT1 hL3 ⊢
      have rB3 := hL.out.besides hW3.2 rB.out (fun e => hpB e.symm) (by decide)
      have hE3 := els_owp hEs.out hdi.out hW3.2
      have hy3 := et_owp hty.out hdi.out hW3.2
      have hd3 := dis_owp hdi.out hW3.2
      have hB3 := hid (hB.out.trans hW3.1)
      have sl1 := hid hT1.slf
      have hbz3 : base ≤ V3.heap.size := by have := hW3.2.size; omega
      replace hL3 := hid hL3
      clear hT1 hW3 kK hL rB hEs hty hdi hB g0 g1 g2 g3 g4 g5 g6 g7 g8 g9 g10 g11 g12 g13
      have x0 := held_cell rB3 0 _ rfl
      have x1 := held_cell rB3 1 _ rfl
      have x2 := held_cell rB3 2 _ rfl
      have x3 := held_cell rB3 3 _ rfl
      have f0 := held_free rB3 0
      have f1 := held_free rB3 1
      have f2 := held_free rB3 2
      have f3 := held_free rB3 3
      have kF := fun h1 h3 => rflush_any ev (l0, rc, bk) sa sc V3 h1 h3 hFk (show bk ≤ 1000000 by have := hbk.out; omega)
      rw [hr2.out] at kF
      dsimp only at kF
      rw [hm.out] at kF
      have kF2 := hid (kF hE3 (et_lt hy3))
      clear kF
      obtain ⟨m2, hm2⟩ : ∃ z, l2.length = z := ⟨_, rfl⟩
      replace hm2 := hid hm2
      go_wp2_with fail
      refine kF2.out.mono ?_
      rintro e V4 ⟨a2, c2, tb, td, rfl, hE4, hT4, hA4, hfr, hEt⟩
      dsimp only at hE4 hT4 ⊢
      rw [hm2.out] at hE4
      try rw [hm2.out]
      have hy4 := hEt hy3
      have hd4 := dis_new hL3.out hd3 hA4 hfr hy4
      have rB4 := held_after hA4 rB3
      have hL4 := hid (hL3.out.aft hA4)
      have sl4 := hT4.slf
      have sl1b := sl1.out.below hA4
      have hB4 := bthen hB3.out hA4
      have hbz4 : base ≤ V4.heap.size := by have := hA4.size; omega
      clear hT4 hfr hEt kF2 rB3 hE3 hy3 hd3 hL3 sl1 hB3 hA4 x0 x1 x2 x3 f0 f1 f2 f3
      have x0 := held_cell rB4 0 _ rfl
      have x1 := held_cell rB4 1 _ rfl
      have x2 := held_cell rB4 2 _ rfl
      have x3 := held_cell rB4 3 _ rfl
      have f0 := held_free rB4 0
      have f1 := held_free rB4 1
      have f2 := held_free rB4 2
      have f3 := held_free rB4 3
      obtain ⟨W9, hW9, ya, yO⟩ := st4w rB4 (.int .i64 (ev : Int)) (.slice a2 m2 c2) (.int .i64 (rc2 : Nat)) (.int .i64 (bk2 : Nat))
      have ne6 := et_ne hy4 rB4 (by decide)
      have hE9 := hid (els_only hE4 yO ne6)
      have hy9 := hid (et_only hy4 yO ne6)
      have hd9 := hid (dis_only hd4 yO hpB)
      have hL9 := hid (lg_only hL4.out rB4 yO hpB (by decide))
      have hL9b := hL9.out.lt
      have sl1 := hid (sl_only9 sl1b rB4 yO)
      have sl2 := hid (sl_only9 sl4 rB4 yO)
      have hB9 := hid (belowS hB4 yO hp)
      have rB9 := hid ya
      have hbzc : base ≤ W9.heap.size := by rw [yO.size]; exact hbz4
      clear yO ya ne6 hE4 hy4 hd4 hL4 sl1b sl4 hB4 rB4
      have kC := fun U h => lcounts_any B base ev (l2, rc2, bk2) U h (by omega)
      have kO := fun U h => lopen_any B base ev (l2, rc2, bk2) U h (by omega)
      dsimp only at kC kO
      rw [hm2.out] at kO
      replace kC := hid kC
      replace kO := hid kO
      go_wp2_with fail
      refine (kC.out _ hL9.out).mono ?_
      rintro e VC ⟨rfl, hAc⟩
      replace hL9 := hid (hL9.out.aft hAc)
      replace rB9 := hid (held_after hAc rB9.out)
      replace hE9 := hid (hE9.out.below hAc)
      replace hy9 := hid (et_aft hy9.out hAc)
      replace hd9 := hid (dis_owp hd9.out (Owp.after hL9b hAc))
      replace sl1 := hid (sl1.out.below hAc)
      replace sl2 := hid (sl2.out.below hAc)
      replace hB9 := hid (bthen hB9.out hAc)
      replace hbzc := Nat.le_trans hbzc hAc.size
      clear hAc hL9b kC
      have hL9b := hL9.out.lt
      go_upto_region 17 with (fail)
      have hT := hid (show After VC VC.drew from (Below.refl _ VC).drew)
      have rQ := hid (show VC.drew.heap[p6]? = _ from rB9.out)
      have tl1 := hid (show Sl .u8 VC.drew ta T.length tc T from sl1.out)
      have tl2 := hid (show Sl .u8 VC.drew tb T.length td T from sl2.out)
      have lQ := hid (show LgSt B base VC.drew ev (l2, rc2, bk2) from hL9.out)
      refine wp_region_R (by kernel_rfl) ?_
      refine wpAnyR_take 0 rfl (by kernel_rfl) (by kernel_rfl) (by kernel_rfl) (fun _ _ _ _ h => h) ⟨_, Or.inl ⟨by rfl, fun w2 hb2 => by (go_simp; try with_reducible rfl)⟩, _, by (go_simp; try rfl), ?_⟩
      refine wpAnyR_take 1 rfl (by kernel_rfl) (by kernel_rfl) (by kernel_rfl) (fun _ _ _ _ h => h) ⟨_, Or.inl ⟨by rfl, fun w2 hb2 => by (have hx := txt36 (tl1.out.below hb2); go_simp; try with_reducible rfl)⟩, _, by (go_simp; try rfl), ?_⟩
      refine wpAnyR_take 2 rfl (by kernel_rfl) (by kernel_rfl) (by kernel_rfl) (fun _ _ _ _ h => h) ⟨_, Or.inl ⟨by rfl, fun w2 hb2 => by (go_simp; try with_reducible rfl)⟩, _, by (go_simp; try rfl), ?_⟩
      refine wpAnyR_take 3 rfl (by kernel_rfl) (by kernel_rfl) (by kernel_rfl) (fun _ _ _ _ h => h) ⟨_, Or.inl ⟨by rfl, fun w2 hb2 => by (have hx := txt36 (tl2.out.below hb2); go_simp; try with_reducible rfl)⟩, _, by (go_simp; try rfl), ?_⟩
      refine wpAnyR_take 4 rfl (by kernel_rfl) (by kernel_rfl) (by kernel_rfl) (fun _ _ _ _ h => h) ⟨_, Or.inl ⟨by rfl, fun w2 hb2 => by (go_simp; try with_reducible rfl)⟩, _, by (go_simp; try rfl), ?_⟩
      refine wpAnyR_take 5 rfl (by kernel_rfl) (by kernel_rfl) (by kernel_rfl) (fun _ _ _ _ h => h) ⟨_, Or.inl ⟨by rfl, fun w2 hb2 => by (go_simp; try with_reducible rfl)⟩, _, by (go_simp; try rfl), ?_⟩
      refine wpAnyR_take 6 rfl (by kernel_rfl) (by kernel_rfl) (by kernel_rfl) (fun _ _ _ _ h => h) ⟨_, Or.inl ⟨by rfl, fun w2 hb2 => by (go_simp; try with_reducible rfl)⟩, _, by (go_simp; try rfl), ?_⟩
      refine wpAnyR_take 8 rfl (by kernel_rfl) (by kernel_rfl) (by kernel_rfl) (fun _ _ _ _ h => h) ⟨_, Or.inl ⟨by rfl, fun w2 hb2 => by (go_simp; try with_reducible rfl)⟩, _, by (go_simp; try rfl), ?_⟩
      refine wpAnyR_take 9 rfl (by kernel_rfl) (by kernel_rfl) (by kernel_rfl) (fun _ _ _ _ h => h) ⟨_, Or.inl ⟨by rfl, fun w2 hb2 => by (have hr := held_after hb2 rQ.out; have y9 := held_cell hr 1 _ rfl; go_simp; try with_reducible rfl)⟩, _, by (go_simp; try rfl), ?_⟩
      refine wpAnyR_take 10 rfl (by kernel_rfl) (by kernel_rfl) (by kernel_rfl) (fun _ _ _ _ h => h) ⟨_, Or.inl ⟨by rfl, fun w2 hb2 => by (go_simp; try with_reducible rfl)⟩, _, by (go_simp; try rfl), ?_⟩
      refine wpAnyR_only 7 rfl (by kernel_rfl) (by rfl) (fun K hK => ?_)
      go_simp
      refine (kO.out _ lQ.out).mono ?_
      rintro e V5 ⟨rfl, hv⟩
      have hA5 := aft_eq hv
      replace hT := hid (bthen hT.out hA5)
      replace rQ := hid (held_after hA5 rQ.out)
      clear hv
      go_simp
      refine hK _ _ ⟨hA5, ?_⟩
      clear hK
      clear hA5
      refine wpAnyR_take 11 rfl (by kernel_rfl) (by kernel_rfl) (by kernel_rfl) (fun _ _ _ _ h => h) ⟨_, Or.inl ⟨by rfl, fun w2 hb2 => by (go_simp; try with_reducible rfl)⟩, _, by (go_simp; try rfl), ?_⟩
      refine wpAnyR_take 12 rfl (by kernel_rfl) (by kernel_rfl) (by kernel_rfl) (fun _ _ _ _ h => h) ⟨_, Or.inl ⟨by rfl, fun w2 hb2 => by (go_simp; try with_reducible rfl)⟩, _, by (go_simp; try rfl), ?_⟩
      refine wpAnyR_take 13 rfl (by kernel_rfl) (by kernel_rfl) (by kernel_rfl) (fun _ _ _ _ h => h) ⟨_, Or.inl ⟨by rfl, fun w2 hb2 => by (go_simp; try with_reducible rfl)⟩, _, by (go_simp; try rfl), ?_⟩
      refine wpAnyR_take 14 rfl (by kernel_rfl) (by kernel_rfl) (by kernel_rfl) (fun _ _ _ _ h => h) ⟨_, Or.inl ⟨by rfl, fun w2 hb2 => by (go_simp; try with_reducible rfl)⟩, _, by (go_simp; try rfl), ?_⟩
      refine wpAnyR_take 15 rfl (by kernel_rfl) (by kernel_rfl) (by kernel_rfl) (fun _ _ _ _ h => h) ⟨_, Or.inl ⟨by rfl, fun w2 hb2 => by (go_simp; try with_reducible rfl)⟩, _, by (go_simp; try rfl), ?_⟩
      refine wpAnyR_take 16 rfl (by kernel_rfl) (by kernel_rfl) (by kernel_rfl) (fun _ _ _ _ h => h) ⟨_, Or.inl ⟨by rfl, fun w2 hb2 => by (have hr := held_after hb2 rQ.out; have y9 := held_cell hr 2 _ rfl; go_simp; try with_reducible rfl)⟩, _, by (go_simp; try rfl), ?_⟩
      refine wpAnyR_take 17 rfl (by kernel_rfl) (by kernel_rfl) (by kernel_rfl) (fun _ _ _ _ h => h) ⟨_, Or.inl ⟨by rfl, fun w2 hb2 => by (go_simp; try with_reducible rfl)⟩, _, by (go_simp; try rfl), ?_⟩
      refine wpAnyR_take 18 rfl (by kernel_rfl) (by kernel_rfl) (by kernel_rfl) (fun _ _ _ _ h => h) ⟨_, Or.inl ⟨by rfl, fun w2 hb2 => by (go_simp; try with_reducible rfl)⟩, _, by (go_simp; try rfl), ?_⟩
      refine wpAnyR_take 19 rfl (by kernel_rfl) (by kernel_rfl) (by kernel_rfl) (fun _ _ _ _ h => h) ⟨_, Or.inl ⟨by rfl, fun w2 hb2 => by (go_simp; try with_reducible rfl)⟩, _, by (go_simp; try rfl), ?_⟩
      refine wpAnyR_take 20 rfl (by kernel_rfl) (by kernel_rfl) (by kernel_rfl) (fun _ _ _ _ h => h) ⟨_, Or.inl ⟨by rfl, fun w2 hb2 => by (go_simp; try with_reducible rfl)⟩, _, by (go_simp; try rfl), ?_⟩
      refine wpAnyR_take 21 rfl (by kernel_rfl) (by kernel_rfl) (by kernel_rfl) (fun _ _ _ _ h => h) ⟨_, Or.inl ⟨by rfl, fun w2 hb2 => by (go_simp; try with_reducible rfl)⟩, _, by (go_simp; try rfl), ?_⟩
      refine wpAnyR_take 22 rfl (by kernel_rfl) (by kernel_rfl) (by kernel_rfl) (fun _ _ _ _ h => h) ⟨_, Or.inl ⟨by rfl, fun w2 hb2 => by (have hr := held_after hb2 rQ.out; have y9 := held_cell hr 3 _ rfl; go_simp; try with_reducible rfl)⟩, _, by (go_simp; try rfl), ?_⟩
      refine wpAnyR_take 23 rfl (by kernel_rfl) (by kernel_rfl) (by kernel_rfl) (fun _ _ _ _ h => h) ⟨_, Or.inl ⟨by rfl, fun w2 hb2 => by (go_simp; try with_reducible rfl)⟩, _, by (go_simp; try rfl), ?_⟩
      refine wpAnyR_take 24 rfl (by kernel_rfl) (by kernel_rfl) (by kernel_rfl) (fun _ _ _ _ h => h) ⟨_, Or.inl ⟨by rfl, fun w2 hb2 => by (go_simp; try with_reducible rfl)⟩, _, by (go_simp; try rfl), ?_⟩
      refine wpAnyR_done (by kernel_rfl) ?_ _
      have hTT := hT.out
      replace hL9 := hid (hL9.out.aft hTT)
      replace rB9 := hid (held_after hTT rB9.out)
      replace hE9 := hid (hE9.out.below hTT)
      replace hy9 := hid (et_aft hy9.out hTT)
      replace hd9 := hid (dis_owp hd9.out (Owp.after hL9b hTT))
      replace hB9 := hid (bthen hB9.out hTT)
      have hbz9 := hid (Nat.le_trans hbzc hTT.size)
      clear hTT hT rQ tl1 tl2 lQ sl1 sl2 hL9b hbzc kO
      generalize textOf T = TX at *
      go_wp2_with fail
      go_roundw
      case rel => exact ⟨k + 1, l2, rc2, bk2, m2, a2, c2, hk1.out, by simp, hL9.out, rB9.out, hE9.out, hy9.out, hd9.out, hm2, hfo.out, hc2, hb2, hbz9.out, hB9.out⟩
      case measure => simp [intOf]; omega
    have kK := ladd_any B base W.heap.size ev (l0, rc, bk) u b0 b1 b2 b3 b4 b5 b6 b7 b8 b9 b10 b11 wr hL.out hFk (by omega) he2 (show rc ≤ 1000000 by have := hrc.out; omega) (show bk ≤ 1000000 by have := hbk.out; omega) hu hbb hbB hbs hbz
    obtain ⟨r, hr⟩ : ∃ r, addS ev (l0, rc, bk) (u, [b0, b1, b2, b3, b4, b5, b6, b7, b8, b9, b10, b11]) = r := ⟨_, rfl⟩
    have hfo : FOk (addS ev (l0, rc, bk) (u, [b0, b1, b2, b3, b4, b5, b6, b7, b8, b9, b10, b11])).2 := add_ok hFk ⟨hu, rfl, hbb⟩
    have hct := add_cnt ev (l0, rc, bk) (u, [b0, b1, b2, b3, b4, b5, b6, b7, b8, b9, b10, b11])
    rw [hr] at kK hfo hct
    obtain ⟨T, s2⟩ := r
    obtain ⟨l2, rc2, bk2⟩ := s2
    dsimp only at kK hfo hct
    have hr2 := hid hr
    clear hr
    have hrc9 := hrc.out
    have hbk9 := hbk.out
    have hc2 : rc2 ≤ k + 1 := by omega
    have hb2 : bk2 ≤ k + 1 := by omega
    clear hrc9 hbk9 hct
    replace kK := hid kK
    replace hfo := hid hfo
    go_wp2_with fail
    refine kK.out.mono ?_
    rintro e V3 ⟨ta, tc, rfl, hT1, hL3, hW3⟩
    dsimp only at hT1 hL3 ⊢
    have rB3 := hL.out.besides hW3.2 rB.out (fun e => hpB e.symm) (by decide)
    have hE3 := els_owp hEs.out hdi.out hW3.2
    have hy3 := et_owp hty.out hdi.out hW3.2
    have hd3 := dis_owp hdi.out hW3.2
    have hB3 := hid (hB.out.trans hW3.1)
    have sl1 := hid hT1.slf
    have hbz3 : base ≤ V3.heap.size := by have := hW3.2.size; omega
    replace hL3 := hid hL3
    clear hT1 hW3 kK hL rB hEs hty hdi hB g0 g1 g2 g3 g4 g5 g6 g7 g8 g9 g10 g11 g12 g13
    have kF := fun U h1 h3 => radd_any ev (l0, rc, bk) u b0 b1 b2 b3 b4 b5 b6 b7 b8 b9 b10 b11 sa sc U h1 h3 hFk (by omega) he2 (show rc ≤ 1000000 by have := hrc.out; omega) (show bk ≤ 1000000 by have := hbk.out; omega) hu hbb
    rw [hr2.out] at kF
    dsimp only at kF
    rw [hm.out] at kF
    replace kF := hid kF
    obtain ⟨m2, hm2⟩ : ∃ z, l2.length = z := ⟨_, rfl⟩
    replace hm2 := hid hm2
    obtain ⟨bb2, off2, e9, g0, g1, g2, g3, g4, g5, g6, g7, g8, g9, g10, g11, g12, g13⟩ := (hE0W.out.below hB3.out).at14 hEx.out
    cases e9
    go_upto_region 15 with (fail)
    have bQ := (show V3.drew.heap[p6]? = _ from rB3)
    have eQ := hid (show Els V3.drew 14 sa m sc (entsV l0) from hE3)
    have yQ := hid (show EtAt V3.drew sa from hy3)
    have dQ := (show DisE B V3.drew sa from hd3)
    have lQ := hid (show LgSt B base V3.drew ev (l2, rc2, bk2) from hL3.out)
    have sQ := (show Sl .u8 V3.drew ta T.length tc T from sl1.out)
    have wQ := hB3.out.drew
    have zQ : base ≤ V3.drew.heap.size := hbz3
    have v1 := (show V3.drew.cell? _ = _ from g1)
    have v2 := (show V3.drew.cell? _ = _ from g2)
    have v3 := (show V3.drew.cell? _ = _ from g3)
    have v4 := (show V3.drew.cell? _ = _ from g4)
    have v5 := (show V3.drew.cell? _ = _ from g5)
    have v6 := (show V3.drew.cell? _ = _ from g6)
    have v7 := (show V3.drew.cell? _ = _ from g7)
    have v8 := (show V3.drew.cell? _ = _ from g8)
    have v9 := (show V3.drew.cell? _ = _ from g9)
    have v10 := (show V3.drew.cell? _ = _ from g10)
    have v11 := (show V3.drew.cell? _ = _ from g11)
    have v12 := (show V3.drew.cell? _ = _ from g12)
    have v13 := (show V3.drew.cell? _ = _ from g13)
    clear rB3 hE3 hy3 hd3 hL3 sl1 hB3 g0 g1 g2 g3 g4 g5 g6 g7 g8 g9 g10 g11 g12 g13
    refine wp_region_T none 10 (by kernel_rfl) ?_
    refine wpAnyT_take 0 rfl (by kernel_rfl) (by kernel_rfl) (by kernel_rfl) (by kernel_rfl) (fun _ _ _ _ h => h) ⟨_, Or.inl ⟨by rfl, fun w2 hb2 => by (have hr := hb2.held bQ (by simp); have y0 := held_cell hr 0 _ rfl; have y1 := held_cell hr 1 _ rfl; have y2 := held_cell hr 2 _ rfl; have y3 := held_cell hr 3 _ rfl; go_simp; try with_reducible rfl)⟩, _, by (go_simp; try rfl), ?_⟩
    refine wpAnyT_take 1 rfl (by kernel_rfl) (by kernel_rfl) (by kernel_rfl) (by kernel_rfl) (fun _ _ _ _ h => h) ⟨_, Or.inl ⟨by rfl, fun w2 hb2 => by (go_simp; try with_reducible rfl)⟩, _, by (go_simp; try rfl), ?_⟩
    refine wpAnyT_take 2 rfl (by kernel_rfl) (by kernel_rfl) (by kernel_rfl) (by kernel_rfl) (fun _ _ _ _ h => h) ⟨_, Or.inl ⟨by rfl, fun w2 hb2 => by (go_simp; try with_reducible rfl)⟩, _, by (go_simp; try rfl), ?_⟩
    refine wpAnyT_take 3 rfl (by kernel_rfl) (by kernel_rfl) (by kernel_rfl) (by kernel_rfl) (fun _ _ _ _ h => h) ⟨_, Or.inl ⟨by rfl, fun w2 hb2 => by (go_simp; try with_reducible rfl)⟩, _, by (go_simp; try rfl), ?_⟩
    refine wpAnyT_take 4 rfl (by kernel_rfl) (by kernel_rfl) (by kernel_rfl) (by kernel_rfl) (fun _ _ _ _ h => h) ⟨_, Or.inl ⟨by rfl, fun w2 hb2 => by (go_simp; try with_reducible rfl)⟩, _, by (go_simp; try rfl), ?_⟩
    refine wpAnyT_take 5 rfl (by kernel_rfl) (by kernel_rfl) (by kernel_rfl) (by kernel_rfl) (fun _ _ _ _ h => h) ⟨_, Or.inl ⟨by rfl, fun w2 hb2 => by (have h1 := hb2.cell v1 (by simp); have h2 := hb2.cell v2 (by simp); have h3 := hb2.cell v3 (by simp); have h4 := hb2.cell v4 (by simp); have h5 := hb2.cell v5 (by simp); have h6 := hb2.cell v6 (by simp); have h7 := hb2.cell v7 (by simp); have h8 := hb2.cell v8 (by simp); have h9 := hb2.cell v9 (by simp); have h10 := hb2.cell v10 (by simp); have h11 := hb2.cell v11 (by simp); have h12 := hb2.cell v12 (by simp); have h13 := hb2.cell v13 (by simp); go_simp; try with_reducible rfl)⟩, _, by (go_simp; try rfl), ?_⟩
    refine wpAnyT_only 6 rfl (by kernel_rfl) (by rfl) (fun K hK => ?_)
    go_simp
    refine (kF.out _ eQ.out (et_lt yQ.out)).mono ?_
    rintro e V4 ⟨a2, c2, tb, td, rfl, hE4, hT4, hA4, hfr, hEt⟩
    dsimp only at hE4 hT4 ⊢
    rw [hm2.out] at hE4
    try rw [hm2.out]
    go_simp
    refine hK _ _ ⟨fun _ => rx_after hA4, ?_⟩
    clear hK
    have hy4 := hEt yQ.out
    have hd4 := dis_new lQ.out dQ hA4 hfr hy4
    have rB4 := held_after hA4 bQ
    have hL4 := hid (lQ.out.aft hA4)
    have sl4 := hT4.slf
    have sl1b := sQ.below hA4
    have hB4 := bthen wQ hA4
    have hbz4 : base ≤ V4.heap.size := by have := hA4.size; omega
    clear hT4 hfr hEt hA4 bQ eQ yQ dQ lQ sQ wQ zQ kF v1 v2 v3 v4 v5 v6 v7 v8 v9 v10 v11 v12 v13
    refine wpAnyT_take 7 rfl (by kernel_rfl) (by kernel_rfl) (by kernel_rfl) (by kernel_rfl) (fun _ _ _ _ h => h) ⟨_, Or.inl ⟨by rfl, fun w2 hb2 => by (go_simp; try with_reducible rfl)⟩, _, by (go_simp; try rfl), ?_⟩
    refine wpAnyT_take 8 rfl (by kernel_rfl) (by kernel_rfl) (by kernel_rfl) (by kernel_rfl) (fun _ _ _ _ h => h) ⟨_, Or.inl ⟨by rfl, fun w2 hb2 => by (go_simp; try with_reducible rfl)⟩, _, by (go_simp; try rfl), ?_⟩
    refine wpAnyT_takeP 9 rfl (by kernel_rfl) (by kernel_rfl) (by kernel_rfl) (fun _ _ _ _ h => h) ⟨_, Or.inl ⟨by rfl, fun w2 _ => by (go_simp; try with_reducible rfl)⟩, _, by (go_simp; try rfl), ?_⟩
    refine wpAnyT_only 10 rfl (by kernel_rfl) (by rfl) (fun K hK => ?_)
    have x0 := held_cell rB4 0 _ rfl
    have x1 := held_cell rB4 1 _ rfl
    have x2 := held_cell rB4 2 _ rfl
    have x3 := held_cell rB4 3 _ rfl
    have f0 := held_free rB4 0
    have f1 := held_free rB4 1
    have f2 := held_free rB4 2
    have f3 := held_free rB4 3
    obtain ⟨W9, hW9, ya, yO⟩ := st4w rB4 (.int .i64 (ev : Int)) (.slice a2 m2 c2) (.int .i64 (rc2 : Nat)) (.int .i64 (bk2 : Nat))
    have ne6 := et_ne hy4 rB4 (by decide)
    have hE9 := hid (els_only hE4 yO ne6)
    have hy9 := hid (et_only hy4 yO ne6)
    have hd9 := hid (dis_only hd4 yO hpB)
    have hL9 := hid (lg_only hL4.out rB4 yO hpB (by decide))
    have hL9b := hL9.out.lt
    have sl1 := hid (sl_only9 sl1b rB4 yO)
    have sl2 := hid (sl_only9 sl4 rB4 yO)
    have hB9 := hid (belowS hB4 yO hp)
    have rB9 := hid ya
    have hbzc : base ≤ W9.heap.size := by rw [yO.size]; exact hbz4
    clear yO ya ne6 hE4 hy4 hd4 hL4 sl1b sl4 hB4 rB4
    go_simp
    refine hK _ _ ⟨fun h => (h rfl).elim, ?_⟩
    clear hK
    refine wpAnyT_only 11 rfl (by kernel_rfl) (by rfl) (fun K hK => ?_)
    go_simp
    refine hK _ _ ⟨fun _ => RX.refl _ _, ?_⟩
    clear hK
    refine wpAnyT_done (by kernel_rfl) ?_ _
    have kC := fun U h => lcounts_any B base ev (l2, rc2, bk2) U h (by omega)
    have kO := fun U h => lopen_any B base ev (l2, rc2, bk2) U h (by omega)
    dsimp only at kC kO
    rw [hm2.out] at kO
    replace kC := hid kC
    replace kO := hid kO
    go_wp2_with fail
    refine (kC.out _ hL9.out).mono ?_
    rintro e VC ⟨rfl, hAc⟩
    replace hL9 := hid (hL9.out.aft hAc)
    replace rB9 := hid (held_after hAc rB9.out)
    replace hE9 := hid (hE9.out.below hAc)
    replace hy9 := hid (et_aft hy9.out hAc)
    replace hd9 := hid (dis_owp hd9.out (Owp.after hL9b hAc))
    replace sl1 := hid (sl1.out.below hAc)
    replace sl2 := hid (sl2.out.below hAc)
    replace hB9 := hid (bthen hB9.out hAc)
    replace hbzc := Nat.le_trans hbzc hAc.size
    clear hAc hL9b kC
    have hL9b := hL9.out.lt
    go_upto_region 17 with (fail)
    have hT := hid (show After VC VC.drew from (Below.refl _ VC).drew)
    have rQ := hid (show VC.drew.heap[p6]? = _ from rB9.out)
    have tl1 := hid (show Sl .u8 VC.drew ta T.length tc T from sl1.out)
    have tl2 := hid (show Sl .u8 VC.drew tb T.length td T from sl2.out)
    have lQ := hid (show LgSt B base VC.drew ev (l2, rc2, bk2) from hL9.out)
    refine wp_region_R (by kernel_rfl) ?_
    refine wpAnyR_take 0 rfl (by kernel_rfl) (by kernel_rfl) (by kernel_rfl) (fun _ _ _ _ h => h) ⟨_, Or.inl ⟨by rfl, fun w2 hb2 => by (go_simp; try with_reducible rfl)⟩, _, by (go_simp; try rfl), ?_⟩
    refine wpAnyR_take 1 rfl (by kernel_rfl) (by kernel_rfl) (by kernel_rfl) (fun _ _ _ _ h => h) ⟨_, Or.inl ⟨by rfl, fun w2 hb2 => by (have hx := txt36 (tl1.out.below hb2); go_simp; try with_reducible rfl)⟩, _, by (go_simp; try rfl), ?_⟩
    refine wpAnyR_take 2 rfl (by kernel_rfl) (by kernel_rfl) (by kernel_rfl) (fun _ _ _ _ h => h) ⟨_, Or.inl ⟨by rfl, fun w2 hb2 => by (go_simp; try with_reducible rfl)⟩, _, by (go_simp; try rfl), ?_⟩
    refine wpAnyR_take 3 rfl (by kernel_rfl) (by kernel_rfl) (by kernel_rfl) (fun _ _ _ _ h => h) ⟨_, Or.inl ⟨by rfl, fun w2 hb2 => by (have hx := txt36 (tl2.out.below hb2); go_simp; try with_reducible rfl)⟩, _, by (go_simp; try rfl), ?_⟩
    refine wpAnyR_take 4 rfl (by kernel_rfl) (by kernel_rfl) (by kernel_rfl) (fun _ _ _ _ h => h) ⟨_, Or.inl ⟨by rfl, fun w2 hb2 => by (go_simp; try with_reducible rfl)⟩, _, by (go_simp; try rfl), ?_⟩
    refine wpAnyR_take 5 rfl (by kernel_rfl) (by kernel_rfl) (by kernel_rfl) (fun _ _ _ _ h => h) ⟨_, Or.inl ⟨by rfl, fun w2 hb2 => by (go_simp; try with_reducible rfl)⟩, _, by (go_simp; try rfl), ?_⟩
    refine wpAnyR_take 6 rfl (by kernel_rfl) (by kernel_rfl) (by kernel_rfl) (fun _ _ _ _ h => h) ⟨_, Or.inl ⟨by rfl, fun w2 hb2 => by (go_simp; try with_reducible rfl)⟩, _, by (go_simp; try rfl), ?_⟩
    refine wpAnyR_take 8 rfl (by kernel_rfl) (by kernel_rfl) (by kernel_rfl) (fun _ _ _ _ h => h) ⟨_, Or.inl ⟨by rfl, fun w2 hb2 => by (go_simp; try with_reducible rfl)⟩, _, by (go_simp; try rfl), ?_⟩
    refine wpAnyR_take 9 rfl (by kernel_rfl) (by kernel_rfl) (by kernel_rfl) (fun _ _ _ _ h => h) ⟨_, Or.inl ⟨by rfl, fun w2 hb2 => by (have hr := held_after hb2 rQ.out; have y9 := held_cell hr 1 _ rfl; go_simp; try with_reducible rfl)⟩, _, by (go_simp; try rfl), ?_⟩
    refine wpAnyR_take 10 rfl (by kernel_rfl) (by kernel_rfl) (by kernel_rfl) (fun _ _ _ _ h => h) ⟨_, Or.inl ⟨by rfl, fun w2 hb2 => by (go_simp; try with_reducible rfl)⟩, _, by (go_simp; try rfl), ?_⟩
    refine wpAnyR_only 7 rfl (by kernel_rfl) (by rfl) (fun K hK => ?_)
    go_simp
    refine (kO.out _ lQ.out).mono ?_
    rintro e V5 ⟨rfl, hv⟩
    have hA5 := aft_eq hv
    replace hT := hid (bthen hT.out hA5)
    replace rQ := hid (held_after hA5 rQ.out)
    clear hv
    go_simp
    refine hK _ _ ⟨hA5, ?_⟩
    clear hK
    clear hA5
    refine wpAnyR_take 11 rfl (by kernel_rfl) (by kernel_rfl) (by kernel_rfl) (fun _ _ _ _ h => h) ⟨_, Or.inl ⟨by rfl, fun w2 hb2 => by (go_simp; try with_reducible rfl)⟩, _, by (go_simp; try rfl), ?_⟩
    refine wpAnyR_take 12 rfl (by kernel_rfl) (by kernel_rfl) (by kernel_rfl) (fun _ _ _ _ h => h) ⟨_, Or.inl ⟨by rfl, fun w2 hb2 => by (go_simp; try with_reducible rfl)⟩, _, by (go_simp; try rfl), ?_⟩
    refine wpAnyR_take 13 rfl (by kernel_rfl) (by kernel_rfl) (by kernel_rfl) (fun _ _ _ _ h => h) ⟨_, Or.inl ⟨by rfl, fun w2 hb2 => by (go_simp; try with_reducible rfl)⟩, _, by (go_simp; try rfl), ?_⟩
    refine wpAnyR_take 14 rfl (by kernel_rfl) (by kernel_rfl) (by kernel_rfl) (fun _ _ _ _ h => h) ⟨_, Or.inl ⟨by rfl, fun w2 hb2 => by (go_simp; try with_reducible rfl)⟩, _, by (go_simp; try rfl), ?_⟩
    refine wpAnyR_take 15 rfl (by kernel_rfl) (by kernel_rfl) (by kernel_rfl) (fun _ _ _ _ h => h) ⟨_, Or.inl ⟨by rfl, fun w2 hb2 => by (go_simp; try with_reducible rfl)⟩, _, by (go_simp; try rfl), ?_⟩
    refine wpAnyR_take 16 rfl (by kernel_rfl) (by kernel_rfl) (by kernel_rfl) (fun _ _ _ _ h => h) ⟨_, Or.inl ⟨by rfl, fun w2 hb2 => by (have hr := held_after hb2 rQ.out; have y9 := held_cell hr 2 _ rfl; go_simp; try with_reducible rfl)⟩, _, by (go_simp; try rfl), ?_⟩
    refine wpAnyR_take 17 rfl (by kernel_rfl) (by kernel_rfl) (by kernel_rfl) (fun _ _ _ _ h => h) ⟨_, Or.inl ⟨by rfl, fun w2 hb2 => by (go_simp; try with_reducible rfl)⟩, _, by (go_simp; try rfl), ?_⟩
    refine wpAnyR_take 18 rfl (by kernel_rfl) (by kernel_rfl) (by kernel_rfl) (fun _ _ _ _ h => h) ⟨_, Or.inl ⟨by rfl, fun w2 hb2 => by (go_simp; try with_reducible rfl)⟩, _, by (go_simp; try rfl), ?_⟩
    refine wpAnyR_take 19 rfl (by kernel_rfl) (by kernel_rfl) (by kernel_rfl) (fun _ _ _ _ h => h) ⟨_, Or.inl ⟨by rfl, fun w2 hb2 => by (go_simp; try with_reducible rfl)⟩, _, by (go_simp; try rfl), ?_⟩
    refine wpAnyR_take 20 rfl (by kernel_rfl) (by kernel_rfl) (by kernel_rfl) (fun _ _ _ _ h => h) ⟨_, Or.inl ⟨by rfl, fun w2 hb2 => by (go_simp; try with_reducible rfl)⟩, _, by (go_simp; try rfl), ?_⟩
    refine wpAnyR_take 21 rfl (by kernel_rfl) (by kernel_rfl) (by kernel_rfl) (fun _ _ _ _ h => h) ⟨_, Or.inl ⟨by rfl, fun w2 hb2 => by (go_simp; try with_reducible rfl)⟩, _, by (go_simp; try rfl), ?_⟩
    refine wpAnyR_take 22 rfl (by kernel_rfl) (by kernel_rfl) (by kernel_rfl) (fun _ _ _ _ h => h) ⟨_, Or.inl ⟨by rfl, fun w2 hb2 => by (have hr := held_after hb2 rQ.out; have y9 := held_cell hr 3 _ rfl; go_simp; try with_reducible rfl)⟩, _, by (go_simp; try rfl), ?_⟩
    refine wpAnyR_take 23 rfl (by kernel_rfl) (by kernel_rfl) (by kernel_rfl) (fun _ _ _ _ h => h) ⟨_, Or.inl ⟨by rfl, fun w2 hb2 => by (go_simp; try with_reducible rfl)⟩, _, by (go_simp; try rfl), ?_⟩
    refine wpAnyR_take 24 rfl (by kernel_rfl) (by kernel_rfl) (by kernel_rfl) (fun _ _ _ _ h => h) ⟨_, Or.inl ⟨by rfl, fun w2 hb2 => by (go_simp; try with_reducible rfl)⟩, _, by (go_simp; try rfl), ?_⟩
    refine wpAnyR_done (by kernel_rfl) ?_ _
    have hTT := hT.out
    replace hL9 := hid (hL9.out.aft hTT)
    replace rB9 := hid (held_after hTT rB9.out)
    replace hE9 := hid (hE9.out.below hTT)
    replace hy9 := hid (et_aft hy9.out hTT)
    replace hd9 := hid (dis_owp hd9.out (Owp.after hL9b hTT))
    replace hB9 := hid (bthen hB9.out hTT)
    have hbz9 := hid (Nat.le_trans hbzc hTT.size)
    clear hTT hT rQ tl1 tl2 lQ sl1 sl2 hL9b hbzc kO
    generalize textOf T = TX at *
    go_wp2_with fail
    go_roundw
    case rel => exact ⟨k + 1, l2, rc2, bk2, m2, a2, c2, hk1.out, by simp, hL9.out, rB9.out, hE9.out, hy9.out, hd9.out, hm2, hfo.out, hc2, hb2, hbz9.out, hB9.out⟩
    case measure => simp [intOf]; omega

end Go.Proofs.Ytkpncailoekjpaa
