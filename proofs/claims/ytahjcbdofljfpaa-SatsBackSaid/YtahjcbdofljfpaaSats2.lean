/- Package sats: the bytes laid, piece by piece. -/
import Derived.Test.YtahjcbdofljfpaaSats
import Derived.Test.YtahjcbdofljfpaaPre
import Derived.Test.YtahjcbdofljfpaaRange3
import Derived.Deep.DeepCutAuto
namespace Go.Proofs.Ytahjcbdofljfpaa
open Go.ChangeShapes Go.WideShapes Go.ChangeAt Go.RowKit
set_option linter.unusedVariables false
set_option linter.unusedSimpArgs false

theorem drew_after (W : World) : After W W.drew := (Below.refl _ W).drew
theorem els_kpX {q M m : Nat} {w w' : World} {a : Option Addr} {len cap : Nat} {xs : List (List Value)} (h : Els w m a len cap xs) (hk : KpX q M w w') (hb : ∀ b off, a = some ⟨b, off, none⟩ → 0 < len → b < M ∧ b ≠ q) : Els w' m a len cap xs :=
  ⟨h.1, h.2.1, h.2.2.1, h.2.2.2.1, fun i x hx => by
    obtain ⟨h1, b, off, e, hc⟩ := h.2.2.2.2 i x hx
    obtain ⟨h2, h3⟩ := hb b off e (by have := (List.getElem?_eq_some_iff.1 hx).1; have := h.1; omega)
    exact ⟨h1, b, off, e, fun j v hj => (World.cell?_of_block (w := w) (hk.2 b h2 h3)).trans (hc j v hj)⟩⟩
theorem take_map_succ {f : List Int → List Int × Int} {l : List (List Int)} {k : Nat} {x : List Int} (hx : l[k]? = some x) : (l.take (k + 1)).map f = (l.take k).map f ++ [f x] := by
  obtain ⟨h, rfl⟩ := List.getElem?_eq_some_iff.1 hx
  rw [List.take_succ_eq_append_getElem h, List.map_append]
  rfl
theorem drop_at {l : List (List Int)} {k : Nat} {x : List Int} (hx : l[k]? = some x) : l.drop k = x :: l.drop (k + 1) := by
  obtain ⟨h, rfl⟩ := List.getElem?_eq_some_iff.1 hx
  exact List.drop_eq_getElem_cons h
theorem Els.at7 {w : World} {a : Option Addr} {len cap k : Nat} {l : List (List Value)} {x0 x1 x2 x3 x4 x5 x6 : Int} (h : Els w 7 a len cap l) (hx : l[k]? = some (satV [x0, x1, x2, x3, x4, x5, x6])) : ∃ b off, a = some ⟨b, off, none⟩ ∧ w.cell? ⟨b, off + k * 7, none⟩ = some (.int .i64 x0) ∧ w.cell? ⟨b, off + k * 7 + 1, none⟩ = some (.int .i64 x1) ∧ w.cell? ⟨b, off + k * 7 + 2, none⟩ = some (.int .i64 x2) ∧ w.cell? ⟨b, off + k * 7 + 3, none⟩ = some (.int .i64 x3) ∧ w.cell? ⟨b, off + k * 7 + 4, none⟩ = some (.int .i64 x4) ∧ w.cell? ⟨b, off + k * 7 + 5, none⟩ = some (.int .i64 x5) ∧ w.cell? ⟨b, off + k * 7 + 6, none⟩ = some (.int .i64 x6) :=
  by
    obtain ⟨_, b, off, e, hc⟩ := h.2.2.2.2 k _ hx
    exact ⟨b, off, e, hc 0 _ rfl, hc 1 _ rfl, hc 2 _ rfl, hc 3 _ rfl, hc 4 _ rfl, hc 5 _ rfl, hc 6 _ rfl⟩
theorem laid_any (tow : Int) (a : Option Addr) (n cap : Nat) (w : World) : Calls Try.prog 19 #[.agg #[.int .i64 tow, .slice a n cap]] w fun e w' => e = .returned (.func (.func 27) #[] #[.pointer (some ⟨w.heap.size, 0, none⟩)]) ∧ w' = w.alloc (.cells #[.int .i64 tow, .slice a n cap] 24) := by
  have hmf : ∀ (fn : Fn) (first cap : Array Value) (w : World), (Instr.makeFunc fn first cap).run Try.prog w = .ok (.func fn first cap) w := fun _ _ _ _ => rfl
  go_enter Try.func19, Try.ntmps19
  go_wp2_with fail
  go_ret
  exact ⟨rfl, rfl⟩
attribute [local go_sem] Oper.semAt_some
set_option maxRecDepth 100000 in
set_option maxHeartbeats 8000000 in
theorem laid_tells (tow : Int) (a : Option Addr) (cap : Nat) (l : List (List Int)) (q M B : Nat) (w0 : World) (hBM : B < M) (hM : M ≤ w0.heap.size) (hBq : B ≠ q) (hc : w0.heap[B]? = some (.cells #[.int .i64 tow, .slice a l.length cap] 24 (0, 0))) (hE : Els w0 7 a l.length cap (satsV l)) (hEb : ∀ b off, a = some ⟨b, off, none⟩ → 0 < l.length → b < M ∧ b ≠ q) (h64 : l.length ≤ 64) (hty : -9223372036854775808 ≤ tow ∧ tow ≤ 9223372036854775807) (hl7 : ∀ x ∈ l, x.length = 7 ∧ ∀ y ∈ x, -9223372036854775808 ≤ y ∧ y ≤ 9223372036854775807) :
    TellsE Try.prog 27 #[.pointer (some ⟨B, 0, none⟩)] enc17 at17 (KpX q M) (fun xs => xs.map (fun x => x.2.2) = pieces tow l) (fun pre => pre.map (fun x => x.2.2) <+: pieces tow l) (pieces tow l).length w0 := by
  intro ly J Jx W hW hst hY h0
  have hc0 := (hW.block B (by omega)).trans hc
  refine callsIn_of_wp Try.func27 rfl trivial ?_ rfl
  simp only [Try.ntmps27, List.size_toArray, List.length_cons, List.length_nil, Nat.reduceAdd, Nat.reduceSub, Array.replicate_succ, Array.replicate_zero, List.push_toArray, List.append_toArray, List.nil_append, List.cons_append]
  have hE0 := hid (hE.below hW)
  have hWM := hW.size
  clear hE hc
  replace hW := hid hW
  replace hst := hid hst
  replace hY := hid hY
  have hb4 := hid (show ∀ x ∈ [tow, 1, (l.length : Int), 0], -9223372036854775808 ≤ x ∧ x ≤ 9223372036854775807 from by intro x hx; simp at hx; rcases hx with rfl | rfl | rfl | rfl <;> omega)
  have hhd : hd17 tow l = putL HD17 [tow, 1, (l.length : Int), 0] := rfl
  obtain ⟨⟨hb, he⟩, hr⟩ : ∃ r, hd17 tow l = r := ⟨_, rfl⟩
  rw [hr] at hhd
  replace hhd := hid hhd
  have hpc : pieces tow l = (hb, he) :: l.map (putL SD17) := by unfold pieces; rw [hr]
  replace hpc := hid hpc
  clear hr
  gi_wp2
  have rb : W.drew.heap[B]? = some (.cells #[.int .i64 tow, .slice a l.length cap] 24 (0, 0)) := hc0
  have aD := hid (drew_after W)
  refine wpIn_region_preR 11 2 (by simp only [List.extract_toArray, List.extract_eq_take_drop, Nat.sub_zero, List.drop_zero, List.take_succ_cons, List.take_zero]; rfl) (by kernel_rfl) rfl (by kernel_rfl) ?_
  refine wpAnyR_take 0 rfl (by kernel_rfl) (by kernel_rfl) (by kernel_rfl) (fun _ _ _ _ h => by cases h.1) ⟨_, Or.inl ⟨by rfl, fun w2 hb2 => by (go_simp; try with_reducible rfl)⟩, _, by (go_simp; try rfl), ?_⟩
  refine wpAnyR_take 2 rfl (by kernel_rfl) (by kernel_rfl) (by kernel_rfl) (fun _ _ _ _ h => by cases h.1) ⟨_, Or.inl ⟨by rfl, fun w2 hb2 => by (go_simp; try with_reducible rfl)⟩, _, by (go_simp; try rfl), ?_⟩
  refine wpAnyR_take 3 rfl (by kernel_rfl) (by kernel_rfl) (by kernel_rfl) (fun _ _ _ _ h => by cases h.1) ⟨_, Or.inl ⟨by rfl, fun w2 hb2 => by (have hx := held_cell (held_after hb2 rb) 0 _ rfl; go_simp; try with_reducible rfl)⟩, _, by (go_simp; try rfl), ?_⟩
  refine wpAnyR_take 4 rfl (by kernel_rfl) (by kernel_rfl) (by kernel_rfl) (fun _ _ _ _ h => by cases h.1) ⟨_, Or.inl ⟨by rfl, fun w2 hb2 => by (go_simp; try with_reducible rfl)⟩, _, by (go_simp; try rfl), ?_⟩
  refine wpAnyR_take 5 rfl (by kernel_rfl) (by kernel_rfl) (by kernel_rfl) (fun _ _ _ _ h => by cases h.1) ⟨_, Or.inl ⟨by rfl, fun w2 hb2 => by (have hx := held_cell (held_after hb2 rb) 1 _ rfl; go_simp; try with_reducible rfl)⟩, _, by (go_simp; try rfl), ?_⟩
  refine wpAnyR_take 6 rfl (by kernel_rfl) (by kernel_rfl) (by kernel_rfl) (fun _ _ _ _ h => by cases h.1) ⟨_, Or.inl ⟨by rfl, fun w2 hb2 => by (go_simp; try with_reducible rfl)⟩, _, by (go_simp; try rfl), ?_⟩
  refine wpAnyR_pair 1 7 rfl rfl (by kernel_rfl) (by rfl) (by rfl) (fun K hK => ?_) (fun K hK => ?_)
  · go_simp
    refine (fieldsH17 _).mono ?_
    rintro e V1 ⟨fa, fc, rfl, hF, hA1⟩
    have hT := hid (bthen aD.out hA1)
    replace hF := hid hF
    go_simp
    refine hK _ _ ⟨hA1, ?_⟩
    clear hK
    clear hA1
    refine wpAnyR_only 7 rfl (by kernel_rfl) (by rfl) (fun K hK => ?_)
    go_simp
    have hS := hid (row_lit .i64 2 V1 [tow, 1, (l.length : Int), 0] _ 4 V1.heap.size rfl rfl (by unfold maxLen; omega) rfl)
    have hA2 := (alloc_new V1 (.cells #[.int .i64 tow, .int .i64 1, .int .i64 l.length, .int .i64 0] 2)).2.1
    replace hT := hid (bthen hT.out hA2)
    replace hF := hid (hF.out.below hA2)
    clear hA2
    refine hK _ _ ⟨(alloc_new _ _).2.1, ?_⟩
    clear hK
    refine wpAnyR_only 8 rfl (by kernel_rfl) (by rfl) (fun K hK => ?_)
    go_simp
    refine (sput_any fa 4 fc (fN HD17) (fS HD17) (fL HD17) (fH HD17) (some ⟨_, 0, none⟩) 4 4 [tow, 1, (l.length : Int), 0] _ hF.out hS.out hb4.out (by omega)).mono ?_
    rintro e V2 ⟨ra, rc, rfl, hO, hA2⟩
    have e1 : putF (fN HD17) (fS HD17) (fL HD17) (fH HD17) 4 [tow, 1, (l.length : Int), 0] = (hb, he) := hhd.out.symm
    rw [e1] at hO ⊢
    dsimp only at hO ⊢
    clear e1
    replace hT := hid (bthen hT.out hA2)
    have hO9 := hid hO.slf
    have hL8 := hid (put_len (show putL HD17 [tow, 1, (l.length : Int), 0] = (hb, he) from hhd.out.symm) (by decide)).1
    clear hO hF hS
    go_simp
    refine hK _ _ ⟨hA2, ?_⟩
    clear hK
    clear hA2
    refine wpAnyR_take 9 rfl (by kernel_rfl) (by kernel_rfl) (by kernel_rfl) (fun _ _ _ _ h => by cases h.1) ⟨_, Or.inl ⟨by rfl, fun w2 hb2 => by (go_simp; try with_reducible rfl)⟩, _, by (go_simp; try rfl), ?_⟩
    refine wpAnyR_take 10 rfl (by kernel_rfl) (by kernel_rfl) (by kernel_rfl) (fun _ _ _ _ h => by cases h.1) ⟨_, Or.inl ⟨by rfl, fun w2 hb2 => by (go_simp; try with_reducible rfl)⟩, _, by (go_simp; try rfl), ?_⟩
    refine wpAnyR_done (by kernel_rfl) ?_ _
    refine ⟨rfl, ?_⟩
    clear rb aD
    have hJ2 := hst.out _ _ _ h0 hT.out
    obtain ⟨fn, tmps, assign, body, hy, hR⟩ := hY.out [] (ra, rc, hb, he) V2 hJ2 ⟨hO9.out, hL8.out⟩ (by rw [hpc.out]; simp)
    unfold enc17 at hy
    dsimp only at hy
    refine Seg.onlyIn (m := 11) (k := 1) rfl (by kernel_rfl) (by rfl) (fun K hK => ?_)
    gi_wp2
    refine hR.mono ?_
    rintro e W3 (⟨rfl, hJ3, hk3⟩ | ⟨rfl, hJx3⟩)
    · dsimp only
      refine hK _ _ ?_
      clear hK
      refine Seg.onlyIn (m := 12) (k := 0) rfl (by kernel_rfl) (by rfl) (fun K hK => ?_)
      gi_wp2
      refine Seg.finishIn ?_ _
      have bx := held_cell (kpX_held hk3 (held_after hT.out hc0) hBM hBq) 1 _ rfl
      gi_wp2
      clear bx
      gi_loopw [21] (fun ix wr => ∃ (k : Nat) (pre : List El17), ix = .int .i64 k ∧ k ≤ l.length ∧ Hid (pre.map (fun x => x.2.2) = (hb, he) :: (l.take k).map (putL SD17)) ∧ J pre wr ∧ Els wr 7 a l.length cap (satsV l) ∧ M ≤ wr.heap.size) (fun ix _ => l.length - (intOf ix).toNat)
      case atStart => exact ⟨0, [(ra, rc, hb, he)], rfl, by omega, hid rfl, hJ3, els_kpX (hE0.out.below hT.out) hk3 hEb, by have := hT.out.size; have := hk3.1; omega⟩
      case round =>
        clear hJ3 hk3 hO9 hL8 hT hJ2 h0 hE0
        obtain ⟨k, pre, rfl, hk, hm, hJ, hE, hMr⟩ := hrel
        by_cases hlt : (k : Int) < l.length
        case neg =>
          obtain rfl : k = l.length := by omega
          have hfin : pre.map (fun x => x.2.2) = pieces tow l := by rw [hm.out, hpc.out, List.take_length]
          replace hfin := hid hfin
          clear hk
          gi_wp2
          go_end0
          exact ⟨⟨_, rfl⟩, .inl ⟨_, hfin.out, hJ⟩⟩
        obtain ⟨x, hx⟩ : ∃ x, l[k]? = some x := ⟨_, List.getElem?_eq_getElem (show k < l.length by omega)⟩
        obtain ⟨q7, qb⟩ := hl7 x (List.mem_of_getElem? hx)
        obtain ⟨x0, x1, x2, x3, x4, x5, x6, rfl⟩ := list7 q7
        have hb7 := hid qb
        obtain ⟨bb, off, hab, g0, g1, g2, g3, g4, g5, g6⟩ := hE.at7 (satsV_at hx)
        have htk := hid (take_map_succ (f := putL SD17) hx)
        have hlen : pre.length < (pieces tow l).length := by have e := congrArg List.length hm.out; rw [hpc.out]; simp at e ⊢; omega
        have hpl : pieces tow l = pre.map (fun x => x.2.2) ++ putL SD17 [x0, x1, x2, x3, x4, x5, x6] :: (l.drop (k + 1)).map (putL SD17) := by rw [hm.out, hpc.out, List.cons_append, ← List.map_cons (f := putL SD17), ← List.map_append, ← drop_at hx, List.take_append_drop]
        replace hpl := hid hpl
        replace hlen := hid hlen
        obtain ⟨⟨pb, pe⟩, hp⟩ : ∃ r, putL SD17 [x0, x1, x2, x3, x4, x5, x6] = r := ⟨_, rfl⟩
        rw [hp] at htk hpl
        replace hp := hid hp
        replace hE := hid hE
        have kz : (0 : Int) ≤ k := by omega
        have wk : IntKind.i64.wrap ((k : Int) + 1) = (k : Int) + 1 := by rw [IntKind.wrap_i64]; omega
        have hk1 := hid (show k + 1 ≤ l.length by omega)
        have hMr2 := hid hMr
        have hEb2 := hid hEb
        subst hab
        clear hx hk q7 qb hEb hMr
        have nw := alloc_new wr (.cells #[.int .i64 x0, .int .i64 x1, .int .i64 x2, .int .i64 x3, .int .i64 x4, .int .i64 x5, .int .i64 x6] 49)
        have rU := nw.2.2
        have hT := hid nw.2.1
        clear nw
        gi_wp2
        obtain ⟨U1, hU1⟩ : ∃ X, wr.alloc (.cells #[.int .i64 x0, .int .i64 x1, .int .i64 x2, .int .i64 x3, .int .i64 x4, .int .i64 x5, .int .i64 x6] 49) = X := ⟨_, rfl⟩
        rw [hU1] at rU hT ⊢
        clear hU1
        obtain ⟨pU, hpU⟩ : ∃ X, wr.heap.size = X := ⟨_, rfl⟩
        rw [hpU] at rU ⊢
        replace hpU := hid hpU
        have rb : U1.drew.heap[pU]? = some (.cells #[.int .i64 x0, .int .i64 x1, .int .i64 x2, .int .i64 x3, .int .i64 x4, .int .i64 x5, .int .i64 x6] 49 (0, 0)) := rU
        clear rU g0 g1 g2 g3 g4 g5 g6
        replace hT := hid (bthen hT.out (drew_after U1))
        refine wpIn_region_preR 7 2 (by simp only [List.extract_toArray, List.extract_eq_take_drop, Nat.sub_zero, List.drop_zero, List.take_succ_cons, List.take_zero]; rfl) (by kernel_rfl) rfl (by kernel_rfl) ?_
        refine wpAnyR_take 0 rfl (by kernel_rfl) (by kernel_rfl) (by kernel_rfl) (fun _ _ _ _ h => by cases h.1) ⟨_, Or.inl ⟨by rfl, fun w2 hb2 => by (go_simp; try with_reducible rfl)⟩, _, by (go_simp; try rfl), ?_⟩
        refine wpAnyR_take 2 rfl (by kernel_rfl) (by kernel_rfl) (by kernel_rfl) (fun _ _ _ _ h => by cases h.1) ⟨_, Or.inl ⟨by rfl, fun w2 hb2 => by (have hx0 := held_cell (held_after hb2 rb) 0 _ rfl; have hx1 := held_cell (held_after hb2 rb) 1 _ rfl; have hx2 := held_cell (held_after hb2 rb) 2 _ rfl; have hx3 := held_cell (held_after hb2 rb) 3 _ rfl; have hx4 := held_cell (held_after hb2 rb) 4 _ rfl; have hx5 := held_cell (held_after hb2 rb) 5 _ rfl; have hx6 := held_cell (held_after hb2 rb) 6 _ rfl; go_simp; try with_reducible rfl)⟩, _, by (go_simp; try rfl), ?_⟩
        refine wpAnyR_only 1 rfl (by kernel_rfl) (by rfl) (fun K hK => ?_)
        go_simp
        refine (fieldsS17 _).mono ?_
        rintro e V1 ⟨fa, fc, rfl, hF, hA1⟩
        replace hT := hid (bthen hT.out hA1)
        replace hF := hid hF
        go_simp
        refine hK _ _ ⟨hA1, ?_⟩
        clear hK
        clear hA1
        refine wpAnyR_only 3 rfl (by kernel_rfl) (by rfl) (fun K hK => ?_)
        go_simp
        refine (values_any x0 x1 x2 x3 x4 x5 x6 _).mono ?_
        rintro e V2 ⟨vb, rfl, hS, hA1⟩
        replace hT := hid (bthen hT.out hA1)
        replace hF := hid (hF.out.below hA1)
        replace hS := hid hS
        go_simp
        refine hK _ _ ⟨hA1, ?_⟩
        clear hK
        clear hA1
        refine wpAnyR_only 4 rfl (by kernel_rfl) (by rfl) (fun K hK => ?_)
        go_simp
        refine (sput_any fa 7 fc (fN SD17) (fS SD17) (fL SD17) (fH SD17) (some ⟨vb, 0, none⟩) 7 7 [x0, x1, x2, x3, x4, x5, x6] _ hF.out hS.out hb7.out (by omega)).mono ?_
        rintro e V3 ⟨ra, rc, rfl, hO, hA2⟩
        have e1 : putF (fN SD17) (fS SD17) (fL SD17) (fH SD17) 7 [x0, x1, x2, x3, x4, x5, x6] = (pb, pe) := hp.out
        rw [e1] at hO ⊢
        dsimp only at hO ⊢
        clear e1
        replace hT := hid (bthen hT.out hA2)
        have hO9 := hid hO.slf
        have hL8 := hid (put_len hp.out (by decide)).1
        clear hO hF hS
        go_simp
        refine hK _ _ ⟨hA2, ?_⟩
        clear hK
        clear hA2
        refine wpAnyR_take 5 rfl (by kernel_rfl) (by kernel_rfl) (by kernel_rfl) (fun _ _ _ _ h => by cases h.1) ⟨_, Or.inl ⟨by rfl, fun w2 hb2 => by (go_simp; try with_reducible rfl)⟩, _, by (go_simp; try rfl), ?_⟩
        refine wpAnyR_take 6 rfl (by kernel_rfl) (by kernel_rfl) (by kernel_rfl) (fun _ _ _ _ h => by cases h.1) ⟨_, Or.inl ⟨by rfl, fun w2 hb2 => by (go_simp; try with_reducible rfl)⟩, _, by (go_simp; try rfl), ?_⟩
        refine wpAnyR_done (by kernel_rfl) ?_ _
        refine ⟨rfl, ?_⟩
        have hJ2 := hst.out _ _ _ hJ hT.out
        have hE2 := hid (hE.out.below hT.out)
        have hsz := hid hT.out.size
        clear rb hT hJ hE
        obtain ⟨fn, tmps, assign, body, hy, hR⟩ := hY.out pre (ra, rc, pb, pe) V3 hJ2 ⟨hO9.out, hL8.out⟩ (hlen.out)
        unfold enc17 at hy
        dsimp only at hy
        refine Seg.onlyIn (m := 7) (k := 1) rfl (by kernel_rfl) (by rfl) (fun K hK => ?_)
        gi_wp2
        refine hR.mono ?_
        rintro e W3 (⟨rfl, hJ3, hk3⟩ | ⟨rfl, hJx3⟩)
        · dsimp only
          refine hK _ _ ?_
          clear hK
          refine Seg.onlyIn (m := 8) (k := 0) rfl (by kernel_rfl) (by rfl) (fun K hK => ?_)
          gi_wp2
          refine Seg.finishIn ?_ _
          have hE3 := hid (els_kpX hE2.out hk3 hEb2.out)
          have hM3 := hid (show M ≤ W3.heap.size by have := hk3.1; have := hsz.out; have := hMr2.out; omega)
          clear hk3
          gi_wp2
          go_roundw
          case rel => exact ⟨k + 1, pre ++ [(ra, rc, pb, pe)], by simp, hk1.out, hid (by rw [List.map_append, hm.out, htk.out, List.cons_append]; rfl), hJ3, hE3.out, hM3.out⟩
          case measure => simp [intOf]; omega
        · dsimp only
          refine hK _ _ ?_
          clear hK
          refine Seg.onlyIn (m := 8) (k := 0) rfl (by kernel_rfl) (by rfl) (fun K hK => ?_)
          gi_wp2
          refine Seg.finishIn ?_ _
          gi_wp2
          refine bodyPost_ret (results_none rfl _ _ _) rfl ?_
          exact ⟨⟨_, rfl⟩, .inr ⟨_, by rw [List.map_append, hpl.out]; exact ⟨_, by rw [List.append_assoc]; rfl⟩, hJx3⟩⟩
    · dsimp only
      refine hK _ _ ?_
      clear hK
      refine Seg.onlyIn (m := 12) (k := 0) rfl (by kernel_rfl) (by rfl) (fun K hK => ?_)
      gi_wp2
      refine Seg.finishIn ?_ _
      gi_wp2
      refine bodyPost_ret (results_none rfl _ _ _) rfl ?_
      exact ⟨⟨_, rfl⟩, .inr ⟨_, by rw [hpc.out]; exact ⟨_, rfl⟩, hJx3⟩⟩
  · go_simp
    have hS := hid (row_lit .i64 2 W.drew [tow, 1, (l.length : Int), 0] _ 4 W.heap.size rfl rfl (by unfold maxLen; omega) rfl)
    have hT := hid (bthen aD.out (alloc_new W.drew (.cells #[.int .i64 tow, .int .i64 1, .int .i64 l.length, .int .i64 0] 2)).2.1)
    refine hK _ _ ⟨(alloc_new _ _).2.1, ?_⟩
    clear hK
    refine wpAnyR_only 1 rfl (by kernel_rfl) (by rfl) (fun K hK => ?_)
    go_simp
    refine (fieldsH17 _).mono ?_
    rintro e V1 ⟨fa, fc, rfl, hF, hA1⟩
    replace hT := hid (bthen hT.out hA1)
    replace hS := hid (hS.out.below hA1)
    replace hF := hid hF
    go_simp
    refine hK _ _ ⟨hA1, ?_⟩
    clear hK
    clear hA1
    refine wpAnyR_only 8 rfl (by kernel_rfl) (by rfl) (fun K hK => ?_)
    go_simp
    refine (sput_any fa 4 fc (fN HD17) (fS HD17) (fL HD17) (fH HD17) (some ⟨_, 0, none⟩) 4 4 [tow, 1, (l.length : Int), 0] _ hF.out hS.out hb4.out (by omega)).mono ?_
    rintro e V2 ⟨ra, rc, rfl, hO, hA2⟩
    have e1 : putF (fN HD17) (fS HD17) (fL HD17) (fH HD17) 4 [tow, 1, (l.length : Int), 0] = (hb, he) := hhd.out.symm
    rw [e1] at hO ⊢
    dsimp only at hO ⊢
    clear e1
    replace hT := hid (bthen hT.out hA2)
    have hO9 := hid hO.slf
    have hL8 := hid (put_len (show putL HD17 [tow, 1, (l.length : Int), 0] = (hb, he) from hhd.out.symm) (by decide)).1
    clear hO hF hS
    go_simp
    refine hK _ _ ⟨hA2, ?_⟩
    clear hK
    clear hA2
    refine wpAnyR_take 9 rfl (by kernel_rfl) (by kernel_rfl) (by kernel_rfl) (fun _ _ _ _ h => by cases h.1) ⟨_, Or.inl ⟨by rfl, fun w2 hb2 => by (go_simp; try with_reducible rfl)⟩, _, by (go_simp; try rfl), ?_⟩
    refine wpAnyR_take 10 rfl (by kernel_rfl) (by kernel_rfl) (by kernel_rfl) (fun _ _ _ _ h => by cases h.1) ⟨_, Or.inl ⟨by rfl, fun w2 hb2 => by (go_simp; try with_reducible rfl)⟩, _, by (go_simp; try rfl), ?_⟩
    refine wpAnyR_done (by kernel_rfl) ?_ _
    refine ⟨rfl, ?_⟩
    clear rb aD
    have hJ2 := hst.out _ _ _ h0 hT.out
    obtain ⟨fn, tmps, assign, body, hy, hR⟩ := hY.out [] (ra, rc, hb, he) V2 hJ2 ⟨hO9.out, hL8.out⟩ (by rw [hpc.out]; simp)
    unfold enc17 at hy
    dsimp only at hy
    refine Seg.onlyIn (m := 11) (k := 1) rfl (by kernel_rfl) (by rfl) (fun K hK => ?_)
    gi_wp2
    refine hR.mono ?_
    rintro e W3 (⟨rfl, hJ3, hk3⟩ | ⟨rfl, hJx3⟩)
    · dsimp only
      refine hK _ _ ?_
      clear hK
      refine Seg.onlyIn (m := 12) (k := 0) rfl (by kernel_rfl) (by rfl) (fun K hK => ?_)
      gi_wp2
      refine Seg.finishIn ?_ _
      have bx := held_cell (kpX_held hk3 (held_after hT.out hc0) hBM hBq) 1 _ rfl
      gi_wp2
      clear bx
      gi_loopw [21] (fun ix wr => ∃ (k : Nat) (pre : List El17), ix = .int .i64 k ∧ k ≤ l.length ∧ Hid (pre.map (fun x => x.2.2) = (hb, he) :: (l.take k).map (putL SD17)) ∧ J pre wr ∧ Els wr 7 a l.length cap (satsV l) ∧ M ≤ wr.heap.size) (fun ix _ => l.length - (intOf ix).toNat)
      case atStart => exact ⟨0, [(ra, rc, hb, he)], rfl, by omega, hid rfl, hJ3, els_kpX (hE0.out.below hT.out) hk3 hEb, by have := hT.out.size; have := hk3.1; omega⟩
      case round =>
        clear hJ3 hk3 hO9 hL8 hT hJ2 h0 hE0
        obtain ⟨k, pre, rfl, hk, hm, hJ, hE, hMr⟩ := hrel
        by_cases hlt : (k : Int) < l.length
        case neg =>
          obtain rfl : k = l.length := by omega
          have hfin : pre.map (fun x => x.2.2) = pieces tow l := by rw [hm.out, hpc.out, List.take_length]
          replace hfin := hid hfin
          clear hk
          gi_wp2
          go_end0
          exact ⟨⟨_, rfl⟩, .inl ⟨_, hfin.out, hJ⟩⟩
        obtain ⟨x, hx⟩ : ∃ x, l[k]? = some x := ⟨_, List.getElem?_eq_getElem (show k < l.length by omega)⟩
        obtain ⟨q7, qb⟩ := hl7 x (List.mem_of_getElem? hx)
        obtain ⟨x0, x1, x2, x3, x4, x5, x6, rfl⟩ := list7 q7
        have hb7 := hid qb
        obtain ⟨bb, off, hab, g0, g1, g2, g3, g4, g5, g6⟩ := hE.at7 (satsV_at hx)
        have htk := hid (take_map_succ (f := putL SD17) hx)
        have hlen : pre.length < (pieces tow l).length := by have e := congrArg List.length hm.out; rw [hpc.out]; simp at e ⊢; omega
        have hpl : pieces tow l = pre.map (fun x => x.2.2) ++ putL SD17 [x0, x1, x2, x3, x4, x5, x6] :: (l.drop (k + 1)).map (putL SD17) := by rw [hm.out, hpc.out, List.cons_append, ← List.map_cons (f := putL SD17), ← List.map_append, ← drop_at hx, List.take_append_drop]
        replace hpl := hid hpl
        replace hlen := hid hlen
        obtain ⟨⟨pb, pe⟩, hp⟩ : ∃ r, putL SD17 [x0, x1, x2, x3, x4, x5, x6] = r := ⟨_, rfl⟩
        rw [hp] at htk hpl
        replace hp := hid hp
        replace hE := hid hE
        have kz : (0 : Int) ≤ k := by omega
        have wk : IntKind.i64.wrap ((k : Int) + 1) = (k : Int) + 1 := by rw [IntKind.wrap_i64]; omega
        have hk1 := hid (show k + 1 ≤ l.length by omega)
        have hMr2 := hid hMr
        have hEb2 := hid hEb
        subst hab
        clear hx hk q7 qb hEb hMr
        have nw := alloc_new wr (.cells #[.int .i64 x0, .int .i64 x1, .int .i64 x2, .int .i64 x3, .int .i64 x4, .int .i64 x5, .int .i64 x6] 49)
        have rU := nw.2.2
        have hT := hid nw.2.1
        clear nw
        gi_wp2
        obtain ⟨U1, hU1⟩ : ∃ X, wr.alloc (.cells #[.int .i64 x0, .int .i64 x1, .int .i64 x2, .int .i64 x3, .int .i64 x4, .int .i64 x5, .int .i64 x6] 49) = X := ⟨_, rfl⟩
        rw [hU1] at rU hT ⊢
        clear hU1
        obtain ⟨pU, hpU⟩ : ∃ X, wr.heap.size = X := ⟨_, rfl⟩
        rw [hpU] at rU ⊢
        replace hpU := hid hpU
        have rb : U1.drew.heap[pU]? = some (.cells #[.int .i64 x0, .int .i64 x1, .int .i64 x2, .int .i64 x3, .int .i64 x4, .int .i64 x5, .int .i64 x6] 49 (0, 0)) := rU
        clear rU g0 g1 g2 g3 g4 g5 g6
        replace hT := hid (bthen hT.out (drew_after U1))
        refine wpIn_region_preR 7 2 (by simp only [List.extract_toArray, List.extract_eq_take_drop, Nat.sub_zero, List.drop_zero, List.take_succ_cons, List.take_zero]; rfl) (by kernel_rfl) rfl (by kernel_rfl) ?_
        refine wpAnyR_take 0 rfl (by kernel_rfl) (by kernel_rfl) (by kernel_rfl) (fun _ _ _ _ h => by cases h.1) ⟨_, Or.inl ⟨by rfl, fun w2 hb2 => by (go_simp; try with_reducible rfl)⟩, _, by (go_simp; try rfl), ?_⟩
        refine wpAnyR_take 2 rfl (by kernel_rfl) (by kernel_rfl) (by kernel_rfl) (fun _ _ _ _ h => by cases h.1) ⟨_, Or.inl ⟨by rfl, fun w2 hb2 => by (have hx0 := held_cell (held_after hb2 rb) 0 _ rfl; have hx1 := held_cell (held_after hb2 rb) 1 _ rfl; have hx2 := held_cell (held_after hb2 rb) 2 _ rfl; have hx3 := held_cell (held_after hb2 rb) 3 _ rfl; have hx4 := held_cell (held_after hb2 rb) 4 _ rfl; have hx5 := held_cell (held_after hb2 rb) 5 _ rfl; have hx6 := held_cell (held_after hb2 rb) 6 _ rfl; go_simp; try with_reducible rfl)⟩, _, by (go_simp; try rfl), ?_⟩
        refine wpAnyR_only 1 rfl (by kernel_rfl) (by rfl) (fun K hK => ?_)
        go_simp
        refine (fieldsS17 _).mono ?_
        rintro e V1 ⟨fa, fc, rfl, hF, hA1⟩
        replace hT := hid (bthen hT.out hA1)
        replace hF := hid hF
        go_simp
        refine hK _ _ ⟨hA1, ?_⟩
        clear hK
        clear hA1
        refine wpAnyR_only 3 rfl (by kernel_rfl) (by rfl) (fun K hK => ?_)
        go_simp
        refine (values_any x0 x1 x2 x3 x4 x5 x6 _).mono ?_
        rintro e V2 ⟨vb, rfl, hS, hA1⟩
        replace hT := hid (bthen hT.out hA1)
        replace hF := hid (hF.out.below hA1)
        replace hS := hid hS
        go_simp
        refine hK _ _ ⟨hA1, ?_⟩
        clear hK
        clear hA1
        refine wpAnyR_only 4 rfl (by kernel_rfl) (by rfl) (fun K hK => ?_)
        go_simp
        refine (sput_any fa 7 fc (fN SD17) (fS SD17) (fL SD17) (fH SD17) (some ⟨vb, 0, none⟩) 7 7 [x0, x1, x2, x3, x4, x5, x6] _ hF.out hS.out hb7.out (by omega)).mono ?_
        rintro e V3 ⟨ra, rc, rfl, hO, hA2⟩
        have e1 : putF (fN SD17) (fS SD17) (fL SD17) (fH SD17) 7 [x0, x1, x2, x3, x4, x5, x6] = (pb, pe) := hp.out
        rw [e1] at hO ⊢
        dsimp only at hO ⊢
        clear e1
        replace hT := hid (bthen hT.out hA2)
        have hO9 := hid hO.slf
        have hL8 := hid (put_len hp.out (by decide)).1
        clear hO hF hS
        go_simp
        refine hK _ _ ⟨hA2, ?_⟩
        clear hK
        clear hA2
        refine wpAnyR_take 5 rfl (by kernel_rfl) (by kernel_rfl) (by kernel_rfl) (fun _ _ _ _ h => by cases h.1) ⟨_, Or.inl ⟨by rfl, fun w2 hb2 => by (go_simp; try with_reducible rfl)⟩, _, by (go_simp; try rfl), ?_⟩
        refine wpAnyR_take 6 rfl (by kernel_rfl) (by kernel_rfl) (by kernel_rfl) (fun _ _ _ _ h => by cases h.1) ⟨_, Or.inl ⟨by rfl, fun w2 hb2 => by (go_simp; try with_reducible rfl)⟩, _, by (go_simp; try rfl), ?_⟩
        refine wpAnyR_done (by kernel_rfl) ?_ _
        refine ⟨rfl, ?_⟩
        have hJ2 := hst.out _ _ _ hJ hT.out
        have hE2 := hid (hE.out.below hT.out)
        have hsz := hid hT.out.size
        clear rb hT hJ hE
        obtain ⟨fn, tmps, assign, body, hy, hR⟩ := hY.out pre (ra, rc, pb, pe) V3 hJ2 ⟨hO9.out, hL8.out⟩ (hlen.out)
        unfold enc17 at hy
        dsimp only at hy
        refine Seg.onlyIn (m := 7) (k := 1) rfl (by kernel_rfl) (by rfl) (fun K hK => ?_)
        gi_wp2
        refine hR.mono ?_
        rintro e W3 (⟨rfl, hJ3, hk3⟩ | ⟨rfl, hJx3⟩)
        · dsimp only
          refine hK _ _ ?_
          clear hK
          refine Seg.onlyIn (m := 8) (k := 0) rfl (by kernel_rfl) (by rfl) (fun K hK => ?_)
          gi_wp2
          refine Seg.finishIn ?_ _
          have hE3 := hid (els_kpX hE2.out hk3 hEb2.out)
          have hM3 := hid (show M ≤ W3.heap.size by have := hk3.1; have := hsz.out; have := hMr2.out; omega)
          clear hk3
          gi_wp2
          go_roundw
          case rel => exact ⟨k + 1, pre ++ [(ra, rc, pb, pe)], by simp, hk1.out, hid (by rw [List.map_append, hm.out, htk.out, List.cons_append]; rfl), hJ3, hE3.out, hM3.out⟩
          case measure => simp [intOf]; omega
        · dsimp only
          refine hK _ _ ?_
          clear hK
          refine Seg.onlyIn (m := 8) (k := 0) rfl (by kernel_rfl) (by rfl) (fun K hK => ?_)
          gi_wp2
          refine Seg.finishIn ?_ _
          gi_wp2
          refine bodyPost_ret (results_none rfl _ _ _) rfl ?_
          exact ⟨⟨_, rfl⟩, .inr ⟨_, by rw [List.map_append, hpl.out]; exact ⟨_, by rw [List.append_assoc]; rfl⟩, hJx3⟩⟩
    · dsimp only
      refine hK _ _ ?_
      clear hK
      refine Seg.onlyIn (m := 12) (k := 0) rfl (by kernel_rfl) (by rfl) (fun K hK => ?_)
      gi_wp2
      refine Seg.finishIn ?_ _
      gi_wp2
      refine bodyPost_ret (results_none rfl _ _ _) rfl ?_
      exact ⟨⟨_, rfl⟩, .inr ⟨_, by rw [hpc.out]; exact ⟨_, rfl⟩, hJx3⟩⟩

end Go.Proofs.Ytahjcbdofljfpaa
