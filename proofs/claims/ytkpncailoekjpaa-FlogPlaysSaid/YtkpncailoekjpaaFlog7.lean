/- Package flog: the papers' Write. -/
import Derived.Test.YtkpncailoekjpaaFlog6
import Derived.Deep.DeepCutAuto
namespace Go.Proofs.Ytkpncailoekjpaa
open Go.ChangeShapes Go.WideShapes Go.ChangeAt Go.RowKit
set_option linter.unusedVariables false
set_option linter.unusedSimpArgs false

theorem et_grown {k1 : IntKind} {E1 : TypeId} {w w2 : World} {b1 : Nat} {v : Value} {zs : List Int} {a : Option Addr} (h : EtAt w a) (hO : Own k1 E1 w b1 v zs) (hG : w.grownBy w2 v.ownBlock) (hT : 57 ≠ E1) : EtAt w2 a := fun q e => by
  obtain ⟨cs, hc⟩ := h q e
  exact ⟨cs, held_grown hc hG (own_ne hO hc hT)⟩
theorem els_grownE {k1 : IntKind} {E1 : TypeId} {w w2 : World} {b1 m len cap : Nat} {v : Value} {zs : List Int} {a : Option Addr} {xs : List (List Value)} (hE : Els w m a len cap xs) (h : EtAt w a) (hO : Own k1 E1 w b1 v zs) (hG : w.grownBy w2 v.ownBlock) (hT : 57 ≠ E1) : Els w2 m a len cap xs :=
  ⟨hE.1, hE.2.1, hE.2.2.1, hE.2.2.2.1, fun i x hx => by
    obtain ⟨h1, b, off, e, hc⟩ := hE.2.2.2.2 i x hx
    obtain ⟨cs, hb⟩ := h _ e
    exact ⟨h1, b, off, e, fun j v hj => (World.cell?_of_block (w := w) ((hG.block b (held_lt hb) (own_ne hO hb hT)))).trans (hc j v hj)⟩⟩
theorem et_ne {w : World} {a : Option Addr} {p : Nat} {c : Array Value} {T : TypeId} (h : EtAt w a) (hp : w.heap[p]? = some (.cells c T (0, 0))) (hT : T ≠ 57) : ∀ q, a = some q → q.block ≠ p := fun q e e2 => by
  obtain ⟨cs, hc⟩ := h q e
  rw [e2, hp] at hc
  cases hc; exact hT rfl
theorem et_lt {w : World} {a : Option Addr} (h : EtAt w a) : ∀ q, a = some q → q.block < w.heap.size := fun q e => by
  obtain ⟨cs, hc⟩ := h q e
  exact held_lt hc
theorem sl_only9 {w w2 : World} {p : Nat} {a : Option Addr} {len cap : Nat} {zs : List Int} {e0 r0 b0 : Int} {s0 : Option Addr} {sl sc : Nat} (h : Sl .u8 w a len cap zs) (hp : w.heap[p]? = some (.cells #[.int .i64 e0, .slice s0 sl sc, .int .i64 r0, .int .i64 b0] 28 (0, 0))) (ho : Only p w w2) : Sl .u8 w2 a len cap zs :=
  h.other hp (by
    intro i x hh
    match i with
    | 0 => simp at hh
    | 1 => simp at hh
    | 2 => simp at hh
    | 3 => simp at hh
    | n + 4 => simp at hh) (fun b hb => ho.block b hb)
set_option maxRecDepth 100000 in
set_option maxHeartbeats 2000000 in
theorem rwrite_bad (ev : Int) (v : Value) (w : World) (h : ev < 1 ∨ 255 < ev) : Calls Try.prog 16 #[.int .i64 ev, v] w (WrOk w [] 1) := by
  by_cases h1 : ev < 1
  · go_enter Try.func16, Try.ntmps16
    go_wp2_with fail
    go_ret2
    exact ⟨none, 0, rfl, Own.nil _ _ _ _, Below.refl _ _⟩
  have h2 : 255 < ev := by omega
  go_enter Try.func16, Try.ntmps16
  go_wp2_with fail
  go_ret2
  exact ⟨none, 0, rfl, Own.nil _ _ _ _, Below.refl _ _⟩
set_option maxRecDepth 100000 in
set_option maxHeartbeats 16000000 in
theorem rwrite_any (ev : Nat) (a : Option Addr) (n cap : Nat) (l : List Rc) (w : World) (h1 : 1 ≤ ev) (h2 : ev ≤ 255) (hn : l.length = n) (h100 : n ≤ 1000) (hE : Els w 13 a n cap (recsV l)) (hl : ∀ r ∈ l, StK r) : Calls Try.prog 16 #[.int .i64 (ev : Int), .slice a n cap] w (WrOk w (writeS ev l) 0) := by
  have hall := hid (show l.take n = l by rw [← hn, List.take_length])
  replace hE := hid hE
  replace hl := hid hl
  replace hn := hid hn
  have q1 : ¬ (ev : Int) < 1 := by omega
  have q2 : ¬ (255 : Int) < ev := by omega
  have nw := alloc_new w (.cells #[.int .i64 (ev : Int), .slice none 0 0, .int .i64 0, .int .i64 0] 28)
  have hA := hid nw.2.1
  have rB := hid nw.2.2
  clear nw
  go_enter Try.func16, Try.ntmps16
  go_upto_region 4 with (fail)
  obtain ⟨V1, hV1⟩ : ∃ X, w.alloc (.cells #[.int .i64 (ev : Int), .slice none 0 0, .int .i64 0, .int .i64 0] 28) = X := ⟨_, rfl⟩
  rw [hV1] at hA rB
  try rw [hV1]
  obtain ⟨p6, hp6⟩ : ∃ X, w.heap.size = X := ⟨_, rfl⟩
  have hp : w.heap.size ≤ p6 := by omega
  rw [hp6] at rB
  try rw [hp6]
  clear hV1 hp6
  go_wp2_with fail
  go_loopw [7, 8] (fun ov ix wr => ∃ (k : Nat) (oa : Option Addr) (ol oc : Nat) (L : List Int) (l0 : List En) (rc bk m : Nat) (sa : Option Addr) (sc : Nat), k ≤ n ∧ ix = .int .i64 k ∧ ov = .slice oa ol oc ∧ Hid (L.length = ol) ∧ ol ≤ 256 * k ∧ Own .u8 5 wr w.heap.size (.slice oa ol oc) L ∧ wr.heap[p6]? = some (.cells #[.int .i64 (ev : Int), .slice sa m sc, .int .i64 (rc : Nat), .int .i64 (bk : Nat)] 28 (0, 0)) ∧ Els wr 14 sa m sc (entsV l0) ∧ EtAt wr sa ∧ Hid (l0.length = m) ∧ Hid (addsS ev ([], 0, 0) (l.take k) = (L, (l0, rc, bk))) ∧ Below w.heap.size w wr) (fun _ ix _ => n - (intOf ix).toNat)
  case atStart => exact ⟨0, none, 0, 0, [], [], 0, 0, 0, none, 0, by omega, rfl, rfl, hid rfl, by omega, Own.nil _ _ _ _, rB.out, Els.nil _ _, (fun q e => by cases e), hid rfl, hid rfl, hA.out⟩
  case round =>
    clear rB hA
    obtain ⟨k, oa, ol, oc, L, l0, rc, bk, m, sa, sc, hk, rfl, rfl, hol, hol2, hO, rB, hEs, hty, hm, hs, hA⟩ := hrel
    have sA := hA.size
    have hFk : FOk (l0, rc, bk) := by have := adds_ok (ev := ev) (l := l.take k) fok0 (fun r hr => hl.out r (List.mem_of_mem_take hr)); rw [hs.out] at this; exact this
    have hcn := adds_cnt ev (l.take k) ([], 0, 0)
    rw [hs.out, List.length_take] at hcn
    dsimp only at hcn
    have hc1 : rc ≤ 1000 := by omega
    have hc2 : bk ≤ 1000 := by omega
    clear hcn
    replace hO := hid hO
    replace hEs := hid hEs
    replace hty := hid hty
    have x0 := held_cell rB 0 _ rfl
    have x1 := held_cell rB 1 _ rfl
    have x2 := held_cell rB 2 _ rfl
    have x3 := held_cell rB 3 _ rfl
    replace rB := hid rB
    replace hA := hid hA
    by_cases hlt : (k : Int) < n
    case neg =>
      obtain rfl : k = n := by omega
      have hws : writeS ev l = L ++ (flushS (l0, rc, bk)).1 := by unfold writeS; rw [← hall.out, hs.out]
      have hfl := (told_wf hFk).2
      have kF := fun U h1 h2 => rflush_any ev (l0, rc, bk) sa sc U h1 h2 hFk (show bk ≤ 1000000 by omega)
      obtain ⟨r, hr⟩ : ∃ r, flushS (l0, rc, bk) = r := ⟨_, rfl⟩
      rw [hr] at kF hws hfl
      obtain ⟨T, s2⟩ := r
      obtain ⟨l2, rc2, bk2⟩ := s2
      dsimp only at hws hfl kF
      rw [hm.out] at kF
      replace hws := hid hws
      replace kF := hid kF
      clear hr hs
      have ltE := et_lt hty.out
      go_wp2_with fail
      refine (kF.out _ hEs.out ltE).mono ?_
      rintro e V2 ⟨a2, c2, ta, tc, rfl, hE2, hT, hA2, -, -⟩
      dsimp only at hT ⊢
      have hO2 := hid (hO.out.below hA2)
      have hB2 := hid (bthen hA.out hA2)
      have sl2 := hid hT.slf
      clear hT hA2 hE2 hA hO kF rB hEs hty ltE x0 x1 x2 x3
      obtain ⟨l2n, hl2n⟩ : ∃ z, l2.length = z := ⟨_, rfl⟩
      try rw [hl2n]
      have nC := alloc_new V2 (.cells #[.int .i64 (ev : Int), .slice a2 l2n c2, .int .i64 (rc2 : Nat), .int .i64 (bk2 : Nat)] 28)
      have hO3 := hid (hO2.out.below nC.2.1)
      have hB3 := bthen hB2.out nC.2.1
      have sl3 := hid (sl2.out.below nC.2.1)
      clear nC hO2 hB2 sl2
      obtain ⟨V3, hV3⟩ : ∃ X, V2.alloc (.cells #[.int .i64 (ev : Int), .slice a2 l2n c2, .int .i64 (rc2 : Nat), .int .i64 (bk2 : Nat)] 28) = X := ⟨_, rfl⟩
      rw [hV3] at hO3 hB3 sl3
      have s2z := hB3.size
      have hla := hid (show L.length + T.length ≤ 140737488355328 / 1 by have := hol.out; omega)
      replace hl2n := hid hl2n
      go_wp2_with (first | (at_builtin; refine wpList_app _ rfl (.tmp 45) (.tmp 46) 29 rfl w.heap.size 5 .u8 1 bytesOf (.slice oa ol oc) L rfl hO3.out ta tc T rfl sl3.out.2.2.2.2 sl3.out.2.2.2.1 hla.out (by omega) s2z ?_))
      intro v9 w9 hO9 hG
      obtain ⟨ga, gc, hv9, -⟩ := hO9.sl
      subst hv9
      have hB9 := hid (hO3.out.grew hG hB3 (Nat.le_refl _) s2z)
      clear hG hO3 hB3
      rw [← hws.out] at hO9 ⊢
      obtain ⟨Z, hZ⟩ : ∃ z, writeS ev l = z := ⟨_, rfl⟩
      rw [hZ] at hO9 ⊢
      clear hws
      replace hZ := hid hZ
      replace hO9 := hid hO9
      go_wp2_with fail
      go_ret2
      rw [hZ.out]
      exact ⟨ga, gc, rfl, hO9.out, hB9.out⟩
    obtain ⟨x, hx⟩ : ∃ x, l[k]? = some x := ⟨_, List.getElem?_eq_getElem (show k < l.length by have := hn.out; omega)⟩
    have hxo := hl.out x (List.mem_of_getElem? hx)
    have hsn := addsS_snoc ev (l.take k) ([], 0, 0) x
    rw [← take_snocR hx, hs.out] at hsn
    dsimp only at hsn
    have hfl := (add_wf (ev := ev) (r := x) hFk).2
    obtain ⟨u, bl⟩ := x
    obtain ⟨hu, hbl, hbb⟩ := hxo
    dsimp only at hu hbl hbb
    obtain ⟨b0, b1, b2, b3, b4, b5, b6, b7, b8, b9, b10, b11, rfl⟩ := list12 hbl
    obtain ⟨bb, off, rfl, g0, g1, g2, g3, g4, g5, g6, g7, g8, g9, g10, g11, g12⟩ := (hE.out.below hA.out).at13 (recsV_at hx)
    have kz : (0 : Int) ≤ k := by omega
    have wk : IntKind.i64.wrap ((k : Int) + 1) = (k : Int) + 1 := by rw [IntKind.wrap_i64]; omega
    have hk1 := hid (show k + 1 ≤ n by omega)
    have kA := fun U h1 h3 => radd_any ev (l0, rc, bk) u b0 b1 b2 b3 b4 b5 b6 b7 b8 b9 b10 b11 sa sc U h1 h3 hFk (by omega) h2 (show rc ≤ 1000000 by omega) (show bk ≤ 1000000 by omega) hu hbb
    obtain ⟨r, hr⟩ : ∃ r, addS ev (l0, rc, bk) (u, [b0, b1, b2, b3, b4, b5, b6, b7, b8, b9, b10, b11]) = r := ⟨_, rfl⟩
    rw [hr] at kA hsn hfl
    clear hr
    obtain ⟨T, s2⟩ := r
    obtain ⟨l2, rc2, bk2⟩ := s2
    dsimp only at hsn hfl kA
    rw [hm.out] at kA
    replace hsn := hid hsn
    replace kA := hid kA
    clear hx hbl hs hbb hk
    go_upto_region 8 with (fail)
    obtain ⟨m2, hm2⟩ : ∃ z, l2.length = z := ⟨_, rfl⟩
    replace hm2 := hid hm2
    go_cut [9, 10] from 27 to 35 (fun s9 s10 wx => ∃ (p9 : Nat) (a2 : Option Addr) (c2 : Nat) (ta : Option Addr) (tc : Nat), s9 = .pointer (some ⟨p9, 0, none⟩) ∧ s10 = .slice ta T.length tc ∧ wr.heap.size ≤ p9 ∧ wx.heap[p9]? = some (.cells #[.int .i64 (ev : Int), .slice a2 m2 c2, .int .i64 (rc2 : Nat), .int .i64 (bk2 : Nat)] 28 (0, 0)) ∧ Els wx 14 a2 m2 c2 (entsV l2) ∧ EtAt wx a2 ∧ Sl .u8 wx ta T.length tc T ∧ After wr wx)
    case first =>
      obtain ⟨QQ, hQQ⟩ : ∃ X, wr.drew = X := ⟨_, rfl⟩
      have bQ := (show wr.drew.heap[p6]? = _ from rB.out)
      have eQ := (show Els wr.drew 14 sa m sc (entsV l0) from hEs.out)
      have yQ := (show EtAt wr.drew sa from hty.out)
      have v0 := (show wr.drew.cell? _ = _ from g0)
      have v1 := (show wr.drew.cell? _ = _ from g1)
      have v2 := (show wr.drew.cell? _ = _ from g2)
      have v3 := (show wr.drew.cell? _ = _ from g3)
      have v4 := (show wr.drew.cell? _ = _ from g4)
      have v5 := (show wr.drew.cell? _ = _ from g5)
      have v6 := (show wr.drew.cell? _ = _ from g6)
      have v7 := (show wr.drew.cell? _ = _ from g7)
      have v8 := (show wr.drew.cell? _ = _ from g8)
      have v9 := (show wr.drew.cell? _ = _ from g9)
      have v10 := (show wr.drew.cell? _ = _ from g10)
      have v11 := (show wr.drew.cell? _ = _ from g11)
      have v12 := (show wr.drew.cell? _ = _ from g12)
      rw [hQQ] at bQ eQ yQ v0 v1 v2 v3 v4 v5 v6 v7 v8 v9 v10 v11 v12
      replace eQ := hid eQ
      replace yQ := hid yQ
      have hQ := Below.refl QQ.heap.size QQ
      have lb := held_lt bQ
      have lv := World.block_lt_of_cell? QQ _ v0
      refine wp_region_K (N := QQ.heap.size) (X := []) (by kernel_rfl) ?_
      rw [hQQ]
      refine wpAnyK_take 0 rfl (by kernel_rfl) (by kernel_rfl) (by kernel_rfl) (fun _ _ _ _ h => h) ⟨_, Or.inl ⟨by rfl, fun w2 hb => by (have g0 := hb.cellB (p := ⟨p6, 0, none⟩) (by show p6 < _; exact lb) (by simp) (held_cell bQ 0 _ rfl); have g1 := hb.cellB (p := ⟨p6, 1, none⟩) (by show p6 < _; exact lb) (by simp) (held_cell bQ 1 _ rfl); have g2 := hb.cellB (p := ⟨p6, 2, none⟩) (by show p6 < _; exact lb) (by simp) (held_cell bQ 2 _ rfl); have g3 := hb.cellB (p := ⟨p6, 3, none⟩) (by show p6 < _; exact lb) (by simp) (held_cell bQ 3 _ rfl); go_simp; try with_reducible rfl)⟩, _, by (go_simp; try rfl), ?_⟩
      refine wpAnyK_take 1 rfl (by kernel_rfl) (by kernel_rfl) (by kernel_rfl) (fun _ _ _ _ h => h) ⟨_, Or.inl ⟨by rfl, fun w2 hb => by (go_simp; try with_reducible rfl)⟩, _, by (go_simp; try rfl), ?_⟩
      refine wpAnyK_take 2 rfl (by kernel_rfl) (by kernel_rfl) (by kernel_rfl) (fun _ _ _ _ h => h) ⟨_, Or.inl ⟨by rfl, fun w2 hb => by (go_simp; try with_reducible rfl)⟩, _, by (go_simp; try rfl), ?_⟩
      refine wpAnyK_take 3 rfl (by kernel_rfl) (by kernel_rfl) (by kernel_rfl) (fun _ _ _ _ h => h) ⟨_, Or.inl ⟨by rfl, fun w2 hb => by (go_simp; try with_reducible rfl)⟩, _, by (go_simp; try rfl), ?_⟩
      refine wpAnyK_take 4 rfl (by kernel_rfl) (by kernel_rfl) (by kernel_rfl) (fun _ _ _ _ h => h) ⟨_, Or.inl ⟨by rfl, fun w2 hb => by (have g0 := hb.cellB (by show bb < _; exact lv) (by simp) v0; have g1 := hb.cellB (by show bb < _; exact lv) (by simp) v1; have g2 := hb.cellB (by show bb < _; exact lv) (by simp) v2; have g3 := hb.cellB (by show bb < _; exact lv) (by simp) v3; have g4 := hb.cellB (by show bb < _; exact lv) (by simp) v4; have g5 := hb.cellB (by show bb < _; exact lv) (by simp) v5; have g6 := hb.cellB (by show bb < _; exact lv) (by simp) v6; have g7 := hb.cellB (by show bb < _; exact lv) (by simp) v7; have g8 := hb.cellB (by show bb < _; exact lv) (by simp) v8; have g9 := hb.cellB (by show bb < _; exact lv) (by simp) v9; have g10 := hb.cellB (by show bb < _; exact lv) (by simp) v10; have g11 := hb.cellB (by show bb < _; exact lv) (by simp) v11; have g12 := hb.cellB (by show bb < _; exact lv) (by simp) v12; go_simp; try with_reducible rfl)⟩, _, by (go_simp; try rfl), ?_⟩
      refine wpAnyK_two 5 9 rfl rfl (by kernel_rfl) (by rfl) (by rfl) (fun K hK => ?_) (fun K hK => ?_)
      · go_simp
        refine (kA.out _ (eQ.out.below hQ) (et_lt (et_aft yQ.out hQ))).mono ?_
        rintro e Y1 ⟨a2, c2, ta, tc, rfl, hE2, hT, hA2, -, hEt⟩
        dsimp only at hT hE2 ⊢
        have hE3 := hid hE2
        have hE3b := hE3.out
        rw [hm2.out] at hE3b
        have hy3 := hid (hEt (et_aft yQ.out hQ))
        have sl3 := hT.slf
        have kp := Kp.of (X := []) hA2 hQ.size
        replace hQ := bthen hQ hA2
        clear hT hA2 hEt hE2 hE3
        try rw [hm2.out]
        go_simp
        refine hK _ _ ⟨kp, ?_⟩
        clear hK
        clear kp
        refine wpAnyK_take 6 rfl (by kernel_rfl) (by kernel_rfl) (by kernel_rfl) (fun _ _ _ _ h => h) ⟨_, Or.inl ⟨by rfl, fun w2 hb => by (go_simp; try with_reducible rfl)⟩, _, by (go_simp; try rfl), ?_⟩
        refine wpAnyK_take 7 rfl (by kernel_rfl) (by kernel_rfl) (by kernel_rfl) (fun _ _ _ _ h => h) ⟨_, Or.inl ⟨by rfl, fun w2 hb => by (go_simp; try with_reducible rfl)⟩, _, by (go_simp; try rfl), ?_⟩
        refine wpAnyK_take 8 rfl (by kernel_rfl) (by kernel_rfl) (by kernel_rfl) (fun _ _ _ _ h => h) ⟨_, Or.inl ⟨by rfl, fun w2 hb => by (go_simp; try with_reducible rfl)⟩, _, by (go_simp; try rfl), ?_⟩
        refine wpAnyK_only 9 rfl (by kernel_rfl) (by rfl) (fun K hK => ?_)
        go_simp
        have nw := alloc_new Y1 (.cells #[.int .i64 0, .slice none 0 0, .int .i64 0, .int .i64 0] 28)
        have kp := Kp.of (X := []) nw.2.1 hQ.size
        have r9 := nw.2.2
        have n9 : QQ.heap.size ≤ Y1.heap.size := hQ.size
        replace hE3b := hE3b.below nw.2.1
        replace hy3 := hid (et_aft hy3.out nw.2.1)
        replace sl3 := sl3.below nw.2.1
        replace hQ := bthen hQ nw.2.1
        clear nw
        obtain ⟨Y2, hY2⟩ : ∃ X, Y1.alloc (.cells #[.int .i64 0, .slice none 0 0, .int .i64 0, .int .i64 0] 28) = X := ⟨_, rfl⟩
        rw [hY2] at r9 kp hQ hE3b hy3 sl3 ⊢
        clear hY2
        refine hK _ _ ⟨kp, ?_⟩
        clear hK
        clear kp
        refine wpAnyK_only 10 rfl (by kernel_rfl) (by rfl) (fun K hK => ?_)
        have zz0 := held_cell r9 0 _ rfl
        have zz1 := held_cell r9 1 _ rfl
        have zz2 := held_cell r9 2 _ rfl
        have zz3 := held_cell r9 3 _ rfl
        have ff0 := held_free r9 0
        have ff1 := held_free r9 1
        have ff2 := held_free r9 2
        have ff3 := held_free r9 3
        obtain ⟨W9, hW9, ya, yO⟩ := st4w r9 (.int .i64 (ev : Int)) (.slice a2 m2 c2) (.int .i64 (rc2 : Nat)) (.int .i64 (bk2 : Nat))
        have ne9 := et_ne hy3.out r9 (by decide)
        have hE4 := els_only hE3b yO ne9
        have hy4 := et_only hy3.out yO ne9
        have sl4 := sl_only9 sl3 r9 yO
        have kp : Kp QQ.heap.size [] Y2 W9 := kpf (belowS (Below.refl QQ.heap.size Y2) yO n9)
        replace hQ := belowS hQ yO n9
        clear yO
        go_simp
        refine hK _ _ ⟨kp, ?_⟩
        clear hK
        clear kp
        refine wpAnyK_take 11 rfl (by kernel_rfl) (by kernel_rfl) (by kernel_rfl) (fun _ _ _ _ h => h) ⟨_, Or.inl ⟨by rfl, fun w2 hb => by (go_simp; try with_reducible rfl)⟩, _, by (go_simp; try rfl), ?_⟩
        refine wpAnyK_done (by kernel_rfl) ?_ _
        have hA9 : After wr W9 := bthen (Below.refl wr.heap.size wr).drew (show Below wr.drew.heap.size wr.drew W9 from by rw [hQQ]; exact hQ)
        have eq9 : QQ.heap.size = wr.heap.size := by rw [← hQQ]; rfl
        have n10 := Nat.le_trans (Nat.le_of_eq eq9.symm) n9
        clear hQ bQ eQ yQ hQQ eq9
        go_wp2_with fail
        go_meet
        exact ⟨_, _, _, _, _, rfl, rfl, n10, ya, hE4, hy4, sl4, hA9⟩
      · go_simp
        have nw := alloc_new QQ (.cells #[.int .i64 0, .slice none 0 0, .int .i64 0, .int .i64 0] 28)
        have kp := Kp.of (X := []) nw.2.1 hQ.size
        have r9 := nw.2.2
        have n9 : QQ.heap.size ≤ QQ.heap.size := hQ.size
        replace hQ := bthen hQ nw.2.1
        clear nw
        obtain ⟨Y1, hY1⟩ : ∃ X, QQ.alloc (.cells #[.int .i64 0, .slice none 0 0, .int .i64 0, .int .i64 0] 28) = X := ⟨_, rfl⟩
        rw [hY1] at r9 kp hQ ⊢
        clear hY1
        refine hK _ _ ⟨kp, ?_⟩
        clear hK
        clear kp
        refine wpAnyK_only 5 rfl (by kernel_rfl) (by rfl) (fun K hK => ?_)
        go_simp
        refine (kA.out _ (eQ.out.below hQ) (et_lt (et_aft yQ.out hQ))).mono ?_
        rintro e Y2 ⟨a2, c2, ta, tc, rfl, hE2, hT, hA2, -, hEt⟩
        dsimp only at hT hE2 ⊢
        have hE3 := hid hE2
        have hE3b := hE3.out
        rw [hm2.out] at hE3b
        have hy3 := hid (hEt (et_aft yQ.out hQ))
        have sl3 := hT.slf
        have kp := Kp.of (X := []) hA2 hQ.size
        replace r9 := held_after hA2 r9
        replace hQ := bthen hQ hA2
        clear hT hA2 hEt hE2 hE3
        try rw [hm2.out]
        go_simp
        refine hK _ _ ⟨kp, ?_⟩
        clear hK
        clear kp
        refine wpAnyK_take 6 rfl (by kernel_rfl) (by kernel_rfl) (by kernel_rfl) (fun _ _ _ _ h => h) ⟨_, Or.inl ⟨by rfl, fun w2 hb => by (go_simp; try with_reducible rfl)⟩, _, by (go_simp; try rfl), ?_⟩
        refine wpAnyK_take 7 rfl (by kernel_rfl) (by kernel_rfl) (by kernel_rfl) (fun _ _ _ _ h => h) ⟨_, Or.inl ⟨by rfl, fun w2 hb => by (go_simp; try with_reducible rfl)⟩, _, by (go_simp; try rfl), ?_⟩
        refine wpAnyK_take 8 rfl (by kernel_rfl) (by kernel_rfl) (by kernel_rfl) (fun _ _ _ _ h => h) ⟨_, Or.inl ⟨by rfl, fun w2 hb => by (go_simp; try with_reducible rfl)⟩, _, by (go_simp; try rfl), ?_⟩
        refine wpAnyK_only 10 rfl (by kernel_rfl) (by rfl) (fun K hK => ?_)
        have zz0 := held_cell r9 0 _ rfl
        have zz1 := held_cell r9 1 _ rfl
        have zz2 := held_cell r9 2 _ rfl
        have zz3 := held_cell r9 3 _ rfl
        have ff0 := held_free r9 0
        have ff1 := held_free r9 1
        have ff2 := held_free r9 2
        have ff3 := held_free r9 3
        obtain ⟨W9, hW9, ya, yO⟩ := st4w r9 (.int .i64 (ev : Int)) (.slice a2 m2 c2) (.int .i64 (rc2 : Nat)) (.int .i64 (bk2 : Nat))
        have ne9 := et_ne hy3.out r9 (by decide)
        have hE4 := els_only hE3b yO ne9
        have hy4 := et_only hy3.out yO ne9
        have sl4 := sl_only9 sl3 r9 yO
        have kp : Kp QQ.heap.size [] Y2 W9 := kpf (belowS (Below.refl QQ.heap.size Y2) yO n9)
        replace hQ := belowS hQ yO n9
        clear yO
        go_simp
        refine hK _ _ ⟨kp, ?_⟩
        clear hK
        clear kp
        refine wpAnyK_take 11 rfl (by kernel_rfl) (by kernel_rfl) (by kernel_rfl) (fun _ _ _ _ h => h) ⟨_, Or.inl ⟨by rfl, fun w2 hb => by (go_simp; try with_reducible rfl)⟩, _, by (go_simp; try rfl), ?_⟩
        refine wpAnyK_done (by kernel_rfl) ?_ _
        have hA9 : After wr W9 := bthen (Below.refl wr.heap.size wr).drew (show Below wr.drew.heap.size wr.drew W9 from by rw [hQQ]; exact hQ)
        have eq9 : QQ.heap.size = wr.heap.size := by rw [← hQQ]; rfl
        have n10 := Nat.le_trans (Nat.le_of_eq eq9.symm) n9
        clear hQ bQ eQ yQ hQQ eq9
        go_wp2_with fail
        go_meet
        exact ⟨_, _, _, _, _, rfl, rfl, n10, ya, hE4, hy4, sl4, hA9⟩
    case rest =>
      obtain ⟨p9, a2, c2, ta, tc, rfl, rfl, hp9, r9, hE2, hy2, sl2, hA2⟩ := hcut
      have rB2 := held_after hA2 rB.out
      have hO2 := hid (hO.out.below hA2)
      have hB2 := bthen hA.out hA2
      clear hA2 rB hO hA hEs hty kA x0 x1 x2 x3 g0 g1 g2 g3 g4 g5 g6 g7 g8 g9 g10 g11 g12
      have y0 := held_cell r9 0 _ rfl
      have y1 := held_cell r9 1 _ rfl
      have y2 := held_cell r9 2 _ rfl
      have y3 := held_cell r9 3 _ rfl
      have z0 := held_cell rB2 0 _ rfl
      have z1 := held_cell rB2 1 _ rfl
      have z2 := held_cell rB2 2 _ rfl
      have z3 := held_cell rB2 3 _ rfl
      have f0 := held_free rB2 0
      have f1 := held_free rB2 1
      have f2 := held_free rB2 2
      have f3 := held_free rB2 3
      obtain ⟨W9, hW9, ya, yO⟩ := st4w rB2 (.int .i64 (ev : Int)) (.slice a2 m2 c2) (.int .i64 (rc2 : Nat)) (.int .i64 (bk2 : Nat))
      have ne6 := et_ne hy2 rB2 (by decide)
      have hE4 := els_only hE2 yO ne6
      have hy4 := hid (et_only hy2 yO ne6)
      have sl4 := hid (sl_only9 sl2 rB2 yO)
      have hO4 := hid (hO2.out.kept2 rB2 (by decide) yO)
      have hB4 := belowS hB2 yO hp
      have s2z := hB4.size
      have ya2 := hid ya
      replace hE4 := hid hE4
      clear yO ya hE2 hy2 sl2 hO2 hB2 rB2 r9
      have hla := hid (show L.length + T.length ≤ 140737488355328 / 1 by have := hol.out; omega)
      go_wp2_with (first | (at_builtin; refine wpList_app _ rfl (.tmp 37) (.tmp 38) 29 rfl w.heap.size 5 .u8 1 bytesOf (.slice oa ol oc) L rfl hO4.out ta tc T rfl sl4.out.2.2.2.2 sl4.out.2.2.2.1 hla.out (by omega) s2z ?_))
      intro v9 w9 hO9 hG
      obtain ⟨ga, gc, hv9, -⟩ := hO9.sl
      subst hv9
      have hB9 := hid (hO4.out.grew hG hB4 (Nat.le_refl _) s2z)
      have rB9 := hid (held_grown ya2.out hG (own_ne hO4.out ya2.out (by decide)))
      have hE9 := hid (els_grownE hE4.out hy4.out hO4.out hG (by decide))
      have hy9 := hid (et_grown hy4.out hO4.out hG (by decide))
      have hl9 : (L ++ T).length ≤ 256 * (k + 1) := by rw [List.length_append]; have := hol.out; omega
      obtain ⟨Z, hZ⟩ : ∃ z, L ++ T = z := ⟨_, rfl⟩
      have hsn2 := hsn.out
      rw [hZ] at hO9 hl9 hsn2 ⊢
      obtain ⟨zl, hzl⟩ : ∃ z, Z.length = z := ⟨_, rfl⟩
      rw [hzl] at hO9 hl9 ⊢
      replace hzl := hid hzl
      replace hsn := hid hsn2
      clear hG hO4 hB4 ya2 hE4 hy4 sl4 hZ hsn2
      replace hO9 := hid hO9
      go_wp2_with fail
      go_roundw
      case rel => exact ⟨k + 1, ga, zl, gc, Z, l2, rc2, bk2, m2, a2, c2, hk1.out, by simp, rfl, hzl, hl9, hO9.out, rB9.out, hE9.out, hy9.out, hm2, hsn, hB9.out⟩
      case measure => simp [intOf]; omega

end Go.Proofs.Ytkpncailoekjpaa
