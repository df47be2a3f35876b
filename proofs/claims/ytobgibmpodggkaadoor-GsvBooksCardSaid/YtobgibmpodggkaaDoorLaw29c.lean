/- The laws of layer 29: GsvBooks. -/
import Derived.Test.YtobgibmpodggkaaDoorGsvR
import Derived.Test.YtobgibmpodggkaaDoorGV3
import Derived.Laws.StructEq
import Derived.Laws.Tables
import Derived.Deep.DeepCutAuto
namespace Go.Proofs.YtobgibmpodggkaaDoor
open Go.ChangeShapes Go.WideShapes Go.ChangeAt Go.RowKit
set_option linter.unusedVariables false
set_option linter.unusedSimpArgs false

/-- A book and the papers' beside it. -/
def BL (W : World) (B q : Nat) (wr : World) : Prop := ∃ (t n : Int) (ls : List V4) (a : Option Addr) (len cap : Nat) (a2 : Option Addr) (n2 c2 : Nat), wr.heap[B]? = some (.cells #[.bool true, .int .i64 t, .int .i64 n, .slice a len cap] 56 (0, 0)) ∧ OwnE 69 wr W.heap.size 8 (.slice a len cap) len (ls.map enV).flatten ∧ ls.length = len ∧ wr.heap[q]? = some (.cells #[.int .i64 t, .int .i64 n, .slice a2 n2 c2] 42 (0, 0)) ∧ Els wr 8 a2 n2 c2 (ls.map enV) ∧ (∀ x g, a2 = some x → 0 < n2 → (Value.slice a len cap).ownBlock = some g → x.block ≠ g) ∧ (∀ x, a2 = some x → 0 < n2 → x.block ≠ B) ∧ (0 ≤ n ∧ n ≤ 9 ∧ (ls.length : Int) ≤ 4 * n)
set_option maxRecDepth 100000 in
set_option maxHeartbeats 32000000 in
theorem law_GsvBooks (a0 : Option Addr) (len0 cap0 : Nat) (x0 : List (List Value)) (W : World) (w0 : Els W 4 a0 len0 cap0 x0) (t0 : ∀ x ∈ x0, (∃ (c0 : Int) (c1 : Int) (c2 : Int) (c3_a : Option Addr) (c3_l c3_c : Nat) (c3_x : List (List Value)), x = [.int .i64 c0, .int .i64 c1, .int .i64 c2, .slice c3_a c3_l c3_c] ∧ ((Lit.int .i64 c0).wf = true) ∧ ((Lit.int .i64 c1).wf = true) ∧ ((Lit.int .i64 c2).wf = true) ∧ (Els W 8 c3_a c3_l c3_c c3_x ∧ ∀ x ∈ c3_x, (∃ (c0 : Bool) (c1 : Int) (c2 : Bool) (c3 : Int) (c4 : Bool) (c5 : Int) (c6 : Bool) (c7 : Int), x = [.bool c0, .int .i64 c1, .bool c2, .int .i64 c3, .bool c4, .int .i64 c5, .bool c6, .int .i64 c7] ∧ ((Lit.int .i64 c1).wf = true) ∧ ((Lit.int .i64 c3).wf = true) ∧ ((Lit.int .i64 c5).wf = true) ∧ ((Lit.int .i64 c7).wf = true))))) (hT : Tab W) :
    Calls Tryd.prog 5 #[.slice a0 len0 cap0] W fun e w' => e = .returned (.bool true) ∧ Below W.heap.size W w' := by
  have hM := hid (msgs_of t0)
  have hEl := hid w0
  have hlen := hid w0.1
  clear t0 w0
  replace hT := hid hT
  have hBw := hid (Below.refl W.heap.size W)
  by_cases hl : 60 < len0
  case pos =>
    have d1 : decide ((60 : Int) < (len0 : Int)) = true := by simp; omega
    clear hl
    go_enter Tryd.func5, Tryd.ntmps5
    go_wp2_with fail
    refine (knows29_any _ (hT.out.on hBw.out)).mono ?_
    rintro e V ⟨rfl, hA⟩
    replace hBw := hid (bthen hBw.out hA)
    clear hA
    go_wp2_with fail
    go_ret
    exact ⟨rfl, hBw.out⟩
  have d1 : decide ((60 : Int) < (len0 : Int)) = false := by simp; omega
  have hl60 := hid (show len0 ≤ 60 by omega)
  clear hl
  go_enter Tryd.func5, Tryd.ntmps5
  go_wp2_with fail
  refine (knows29_any _ (hT.out.on hBw.out)).mono ?_
  rintro e V0 ⟨rfl, hA⟩
  replace hBw := hid (bthen hBw.out hA)
  clear hA
  go_wp2_with fail
  go_loopw [3] (fun ix wr => ∃ k : Nat, ix = .int .i64 k ∧ k ≤ len0 ∧ Below W.heap.size W wr) (fun ix _ => len0 - (intOf ix).toNat)
  case atStart => exact ⟨0, rfl, by omega, hBw.out⟩
  case round =>
    clear hBw
    obtain ⟨k, rfl, hk, hBw⟩ := hrel
    replace hBw := hid hBw
    by_cases hlt : (k : Int) < len0
    case pos =>
      obtain ⟨x, hx⟩ : ∃ x, x0[k]? = some x := ⟨_, List.getElem?_eq_getElem (by have := hlen.out; have := hl60.out; omega)⟩
      obtain ⟨tt, no, sn, va, vn, vc, vs, rfl, hS⟩ := hM.out x (List.mem_of_getElem? hx)
      replace hS := hid hS
      obtain ⟨b, o, rfl, -, -, -, d3⟩ := (hEl.out.below hBw.out).at4 hx
      have kz : (0 : Int) ≤ k := by omega
      have wk : IntKind.i64.wrap ((k : Int) + 1) = (k : Int) + 1 := by have := hl60.out; rw [IntKind.wrap_i64]; omega
      have hk1 := hid (show k + 1 ≤ len0 by omega)
      have hms := hid (show len0 - (k + 1) < len0 - k by omega)
      clear hx hk
      by_cases hv20 : 20 < vn
      case pos =>
        have d2 : decide ((20 : Int) < (vn : Int)) = true := by simp; omega
        clear hS
        go_wp2_with fail
        refine (knows29_any _ (hT.out.on hBw.out)).mono ?_
        rintro e V ⟨rfl, hA⟩
        replace hBw := hid (bthen hBw.out hA)
        clear hA
        go_wp2_with fail
        go_ret
        exact ⟨rfl, hBw.out⟩
      have d2 : decide ((20 : Int) < (vn : Int)) = false := by simp; omega
      clear hv20 hS
      go_wp2_with fail
      go_roundw
      case rel => exact ⟨k + 1, by simp, hk1.out, hBw.out⟩
      case measure => simp [intOf]; have := hms.out; omega
    clear hk
    go_wp2_with fail
    refine (bnew29_any _).mono ?_
    rintro r V ⟨rfl, hv⟩
    have nw := alloc_new wr (.cells #[.bool true, .int .i64 0, .int .i64 0, .slice none 0 0] 56)
    rw [← hv] at nw
    obtain ⟨n1, n2, n3⟩ := nw
    obtain ⟨B, hBe⟩ : ∃ B, wr.heap.size = B := ⟨_, rfl⟩
    have hNB : W.heap.size ≤ B := by have := hBw.out.size; omega
    replace hBw := hid (bthen hBw.out n2)
    rw [hBe] at n3 ⊢
    have lB := held_lt n3
    replace n3 := hid n3
    clear hv n1 n2
    replace hBe := hid hBe
    go_upto_region 9 with (fail)
    apply wp_region_seg0 (w := V) (S := [.q [], .al 2, .st 1 []]) (E := [.q0 _, .al ((fun p => .pointer (some ⟨p, 0, none⟩)), _) 2, .s0 1 (.cells _ _)]) rfl (by kernel_rfl) rfl rfl
    intro th hge hne
    refine Seg.sq ?_
    refine Seg.step _ rfl ⟨by rfl, fun U hU => ?_⟩ ?_
    · go_simp; exact vp_alloc rfl rfl rfl
    refine Seg.sa ?_
    refine Seg.step _ rfl ⟨by rfl, fun U z k hz hU hc => ?_⟩ ?_
    · have hz2 := Option.some.inj hz
      cases hz2; clear hz
      exact vp_store_agg _ _ _ rfl hc rfl rfl (by kernel_rfl) rfl (by rfl)
    refine Seg.sa ?_
    refine Seg.stop (fun U31 hU hk => ?_)
    have nb1 := hge 1 _ _ rfl
    have rb1 := (hk 1 _ 2 rfl trivial).1.1 trivial _ (Nat.zero_le _) rfl
    clear hk hge hne
    generalize th (0 + 1) = p9_1 at *
    simp only [Ent.obj] at rb1
    have r_p9_1 := rb1
    clear rb1
    have n_p9_1 := nb1
    clear nb1
    have sz31 := hU.size
    have hB : Below V.heap.size V U31 := hU
    clear hU
    have hq := r_p9_1
    have nqB : p9_1 ≠ B := by omega
    have hqW : W.heap.size ≤ p9_1 := by omega
    replace hBw := hid (bthen hBw.out hB)
    have hb0 := hid (held_after hB n3.out)
    clear r_p9_1 hB n3
    have hBL0 := hid (show BL W B p9_1 U31 from ⟨0, 0, [], none, 0, 0, none, 0, 0, hb0.out, OwnE.nil _ _ _ _, rfl, hq, Els.nil _ _, (fun x g hx => by cases hx), (fun x hx => by cases hx), by decide⟩)
    clear hq hb0 n_p9_1 lB
    go_wp2_with fail
    go_loopw [6] (fun ix wr => ∃ k : Nat, ix = .int .i64 k ∧ k ≤ len0 ∧ BL W B p9_1 wr ∧ Below W.heap.size W wr) (fun ix _ => len0 - (intOf ix).toNat)
    case atStart => exact ⟨0, rfl, by omega, hBL0.out, hBw.out⟩
    case round =>
      clear hBL0 hBw
      obtain ⟨k, rfl, hk, hBL, hBw⟩ := hrel
      replace hBw := hid hBw
      by_cases hlt : (k : Int) < len0
      case neg =>
        clear hBL
        go_wp2_with fail
        go_ret
        exact ⟨rfl, hBw.out⟩
      obtain ⟨t, n, ls, a, len, cap, a2, n2, c2, hb, hO, hll, hq, hL, hsep, hsB, hbd⟩ := hBL
      obtain ⟨x, hx⟩ : ∃ x, x0[k]? = some x := ⟨_, List.getElem?_eq_getElem (by have := hlen.out; have := hl60.out; omega)⟩
      obtain ⟨tt, no, sn, va, vn, vc, vs, rfl, hS⟩ := hM.out x (List.mem_of_getElem? hx)
      replace hS := hid hS
      obtain ⟨b, o, rfl, d0, d1e, d2e, d3⟩ := (hEl.out.below hBw.out).at4 hx
      have kz : (0 : Int) ≤ k := by omega
      have wk : IntKind.i64.wrap ((k : Int) + 1) = (k : Int) + 1 := by have := hl60.out; rw [IntKind.wrap_i64]; omega
      have hk1 := hid (show k + 1 ≤ len0 by omega)
      have hms := hid (show len0 - (k + 1) < len0 - k by omega)
      have hxk := hid hx
      clear hx hk
      have hva := els_lt29 hS.out (by decide)
      have hbd2 := add_bd (t := t) (tt := tt) (no := no) (vs := vs) hbd
      have kA := badd29_any W.heap.size B t n ls tt no sn va vn vc vs wr ⟨a, len, cap, hb, hO, hll⟩ hNB (by omega) (hS.out.below hBw.out) hva
      have kR := fun U h1 h2 => radd29_any t n a2 n2 c2 ls tt no sn va vn vc vs U h1 (by omega) h2
      obtain ⟨⟨⟨t1, n1, l1⟩, oo⟩, hSq⟩ : ∃ r, addS t n ls tt no vs = r := ⟨_, rfl⟩
      rw [hSq] at hbd2 kA
      simp only [hSq] at kR
      obtain ⟨ok, hok⟩ : ∃ b, oo.isSome = b := ⟨_, rfl⟩
      dsimp only at hbd2
      unfold AdOk at kA
      unfold RdOk at kR
      dsimp only at kA kR
      rw [hok] at kA
      simp only [hok] at kR
      replace hok := hid hok
      clear hSq
      replace kA := hid kA
      replace kR := hid kR
      replace hbd2 := hid hbd2
      replace hb := hid hb
      replace hO := hid hO
      replace hq := hid hq
      replace hL := hid hL
      replace hsep := hid hsep
      replace hsB := hid hsB
      clear hbd hll
      replace hva := hid hva
      go_wp2_with fail
      refine kA.out.mono ?_
      rintro r V1 ⟨⟨a', len', cap', hb1, hO1, hl1⟩, hK, ra, rn, rc, rfl, hE1, hra⟩
      clear d0 d1e d2e d3 kA
      have lq := held_lt hq.out
      have hq1 := hid ((hK.owp.block p9_1 lq nqB (by rw [wown_at hb.out (j := 3) (v := .slice a len cap) rfl]; exact fun e => hO.out.ne hq.out (by decide) e.symm)).trans hq.out)
      have hL1 := hid (hL.out.kept29 (fun x hx h0 => hK.owp.block x.block (els_lt29 hL.out (by decide) x hx h0) (hsB.out x hx h0) (by rw [wown_at hb.out (j := 3) (v := .slice a len cap) rfl]; exact fun e => hsep.out x x.block hx h0 e.symm rfl)))
      have hB1 := hid (hBw.out.trans hK.below)
      have lown := hid (fun g (hg : (Value.slice a' len' cap').ownBlock = some g) => (hO1.lt g hg).2.1)
      have hra2 := hid (fun x (hx : ra = some x) => (show x.block ≠ p9_1 from by have := hra x hx; omega))
      have lB1 := hid (held_lt hb1)
      replace hb1 := hid hb1
      replace hO1 := hid hO1
      replace hE1 := hid hE1
      replace hl1 := hid hl1
      clear hK hb hO hq hL hsep hsB hra lq hBw
      have lq1 := held_lt hq1.out
      go_upto_region 14 with (fail)
      go_cut [9, 10, 11] from 53 to 62 (fun s9 s10 s11 wx => ∃ (q9 : Nat) (a1 : Option Addr) (m1 c1 : Nat) (a4 : Option Addr) (m4 c4 : Nat), s9 = .pointer (some ⟨q9, 0, none⟩) ∧ wx.heap[q9]? = some (.cells #[.int .i64 t1, .int .i64 n1, .slice a1 m1 c1] 42 (0, 0)) ∧ s10 = .slice a4 m4 c4 ∧ s11 = .bool ok ∧ Els wx 8 a1 m1 c1 (l1.map enV) ∧ Els wx 8 a4 m4 c4 ((oo.getD []).map enV) ∧ (∀ x, a1 = some x → V1.heap.size ≤ x.block) ∧ (∀ x, a4 = some x → V1.heap.size ≤ x.block) ∧ After V1 wx)
      case first =>
        obtain ⟨b2, o2, e2, f0, f1, f2, f3⟩ := (hEl.out.below hB1.out).at4 hxk.out
        cases e2
        have qQ := hid (show V1.drew.heap[p9_1]? = _ from hq1.out)
        have lQ := hid (show Els V1.drew _ _ _ _ _ from hL1.out)
        have hSQ := hid ((hS.out.below hB1.out))
        have sQ := hid (show Els V1.drew _ _ _ _ _ from hSQ.out)
        have g0 := (show V1.drew.cell? _ = _ from f0)
        have g1 := (show V1.drew.cell? _ = _ from f1)
        have g2 := (show V1.drew.cell? _ = _ from f2)
        have g3 := (show V1.drew.cell? _ = _ from f3)
        have hAV := hid (show After V1 V1.drew from (Below.refl _ V1).drew)
        have hsz : V1.drew.heap.size = V1.heap.size := rfl
        obtain ⟨QQ, hQQ⟩ : ∃ X, V1.drew = X := ⟨_, rfl⟩
        rw [hQQ] at qQ lQ sQ g0 g1 g2 g3 hAV hsz
        have lqQ := held_lt qQ.out
        have c0 := held_cell qQ.out 0 _ rfl
        have c1e := held_cell qQ.out 1 _ rfl
        have c2e := held_cell qQ.out 2 _ rfl
        have lb := World.block_lt_of_cell? QQ _ g0
        dsimp only at lb
        replace hsz := hid hsz
        have hT0 := hid (Below.refl QQ.heap.size QQ)
        clear f0 f1 f2 f3 hSQ
        refine wp_region_K (N := V1.drew.heap.size) (X := []) (by kernel_rfl) ?_
        rw [hQQ]
        refine wpAnyK_take 0 rfl (by kernel_rfl) (by kernel_rfl) (by kernel_rfl) (fun _ _ _ _ h => h) ⟨_, Or.inl ⟨by rfl, fun w2 hb => by (have k0 := Kp.cellB hb (by simpa using lqQ) (by simp) c0; have k1 := Kp.cellB hb (by simpa using lqQ) (by simp) c1e; have k2 := Kp.cellB hb (by simpa using lqQ) (by simp) c2e; go_simp; try with_reducible rfl)⟩, _, by (go_simp; try rfl), ?_⟩
        refine wpAnyK_take 1 rfl (by kernel_rfl) (by kernel_rfl) (by kernel_rfl) (fun _ _ _ _ h => h) ⟨_, Or.inl ⟨by rfl, fun w2 hb => by (go_simp; try with_reducible rfl)⟩, _, by (go_simp; try rfl), ?_⟩
        refine wpAnyK_take 2 rfl (by kernel_rfl) (by kernel_rfl) (by kernel_rfl) (fun _ _ _ _ h => h) ⟨_, Or.inl ⟨by rfl, fun w2 hb => by (go_simp; try with_reducible rfl)⟩, _, by (go_simp; try rfl), ?_⟩
        refine wpAnyK_take 3 rfl (by kernel_rfl) (by kernel_rfl) (by kernel_rfl) (fun _ _ _ _ h => h) ⟨_, Or.inl ⟨by rfl, fun w2 hb => by (go_simp; try with_reducible rfl)⟩, _, by (go_simp; try rfl), ?_⟩
        refine wpAnyK_take 4 rfl (by kernel_rfl) (by kernel_rfl) (by kernel_rfl) (fun _ _ _ _ h => h) ⟨_, Or.inl ⟨by rfl, fun w2 hb => by (have j0 := Kp.cellB hb (by simpa using lb) (by simp) g0; have j1 := Kp.cellB hb (by simpa using lb) (by simp) g1; have j2 := Kp.cellB hb (by simpa using lb) (by simp) g2; have j3 := Kp.cellB hb (by simpa using lb) (by simp) g3; go_simp; try with_reducible rfl)⟩, _, by (go_simp; try rfl), ?_⟩
        refine wpAnyK_two 5 10 rfl rfl (by kernel_rfl) (by rfl) (by rfl) (fun K hK => ?_) (fun K hK => ?_)
        · go_simp
          refine (kR.out _ (lQ.out.below hT0.out) (sQ.out.below hT0.out)).mono ?_
          rintro r A1 ⟨a1, m1, c1, a4, m4, c4, rfl, f1, f2, f3, f4, hA⟩
          have hT1 := hid (bthen hT0.out hA)
          have f3q := hid (fun y (hy : a1 = some y) => (show V1.heap.size ≤ y.block from by have := f3 y hy; have := hT0.out.size; have := hsz.out; omega))
          have f4q := hid (fun y (hy : a4 = some y) => (show V1.heap.size ≤ y.block from by have := f4 y hy; have := hT0.out.size; have := hsz.out; omega))
          replace f1 := hid f1
          replace f2 := hid f2
          clear f3 f4
          go_simp
          refine hK _ _ ⟨⟨hA.os, hA.tape, hA.output, hA.size, fun k9 h9 _ => hA.block k9 (by have := hT0.out.size; omega)⟩, ?_⟩
          clear hK
          clear hA
          refine wpAnyK_take 6 rfl (by kernel_rfl) (by kernel_rfl) (by kernel_rfl) (fun _ _ _ _ h => h) ⟨_, Or.inl ⟨by rfl, fun w2 hb => by (go_simp; try with_reducible rfl)⟩, _, by (go_simp; try rfl), ?_⟩
          refine wpAnyK_take 7 rfl (by kernel_rfl) (by kernel_rfl) (by kernel_rfl) (fun _ _ _ _ h => h) ⟨_, Or.inl ⟨by rfl, fun w2 hb => by (go_simp; try with_reducible rfl)⟩, _, by (go_simp; try rfl), ?_⟩
          refine wpAnyK_take 8 rfl (by kernel_rfl) (by kernel_rfl) (by kernel_rfl) (fun _ _ _ _ h => h) ⟨_, Or.inl ⟨by rfl, fun w2 hb => by (go_simp; try with_reducible rfl)⟩, _, by (go_simp; try rfl), ?_⟩
          refine wpAnyK_take 9 rfl (by kernel_rfl) (by kernel_rfl) (by kernel_rfl) (fun _ _ _ _ h => h) ⟨_, Or.inl ⟨by rfl, fun w2 hb => by (go_simp; try with_reducible rfl)⟩, _, by (go_simp; try rfl), ?_⟩
          refine wpAnyK_only 10 rfl (by kernel_rfl) (by rfl) (fun K hK => ?_)
          go_simp
          have nz := alloc_new A1 (.cells #[.int .i64 0, .int .i64 0, .slice none 0 0] 42)
          obtain ⟨A2, hA2⟩ : ∃ X, A1.alloc (.cells #[.int .i64 0, .int .i64 0, .slice none 0 0] 42) = X := ⟨_, rfl⟩
          rw [hA2] at nz ⊢
          obtain ⟨q9, hq9⟩ : ∃ X, A1.heap.size = X := ⟨_, rfl⟩
          rw [hq9] at nz ⊢
          have rz := hid nz.2.2
          have hA := nz.2.1
          have hq9l := hid (held_lt nz.2.2)
          have hqQ := hid (show QQ.heap.size ≤ q9 from by have := hT1.out.size; omega)
          have hT2 := hid (bthen hT1.out hA)
          have n1q := hid (fun y (hy : a1 = some y) (h0 : 0 < m1) => (show y.block ≠ q9 from by have := els_lt29 f1.out (by decide) y hy h0; omega))
          have n4q := hid (fun y (hy : a4 = some y) (h0 : 0 < m4) => (show y.block ≠ q9 from by have := els_lt29 f2.out (by decide) y hy h0; omega))
          replace f1 := hid (f1.out.below hA)
          replace f2 := hid (f2.out.below hA)
          clear nz hA2
          replace hq9 := hid hq9
          refine hK _ _ ⟨⟨hA.os, hA.tape, hA.output, hA.size, fun k9 h9 _ => hA.block k9 (by have := hT1.out.size; omega)⟩, ?_⟩
          clear hK
          clear hA
          refine wpAnyK_only 11 rfl (by kernel_rfl) (by rfl) (fun K hK => ?_)
          have x0 := held_cell rz.out 0 _ rfl
          have x1 := held_cell rz.out 1 _ rfl
          have x2 := held_cell rz.out 2 _ rfl
          have y0 := held_free rz.out 0
          have y1 := held_free rz.out 1
          have y2 := held_free rz.out 2
          obtain ⟨S9, hS9, ys, os⟩ := st3 rz.out (.int .i64 t1) (.int .i64 n1) (.slice a1 m1 c1)
          replace f1 := hid (f1.out.kept29 (fun y hy h0 => os.block y.block (n1q.out y hy h0)))
          replace f2 := hid (f2.out.kept29 (fun y hy h0 => os.block y.block (n4q.out y hy h0)))
          have kp9 : Kp QQ.heap.size [] A2 S9 := ⟨os.os, os.tape, os.output, by rw [os.size]; exact Nat.le_refl _, fun k9 h9 _ => os.block k9 (by have := hqQ.out; omega)⟩
          have hAf := hid (belowS (bthen hAV.out hT2.out) os (by have := hqQ.out; have := hsz.out; omega))
          replace ys := hid ys
          clear os
          go_simp
          refine hK _ _ ⟨kp9, ?_⟩
          clear hK
          clear kp9
          refine wpAnyK_take 12 rfl (by kernel_rfl) (by kernel_rfl) (by kernel_rfl) (fun _ _ _ _ h => h) ⟨_, Or.inl ⟨by rfl, fun w2 hb => by (go_simp; try with_reducible rfl)⟩, _, by (go_simp; try rfl), ?_⟩
          refine wpAnyK_take 13 rfl (by kernel_rfl) (by kernel_rfl) (by kernel_rfl) (fun _ _ _ _ h => h) ⟨_, Or.inl ⟨by rfl, fun w2 hb => by (go_simp; try with_reducible rfl)⟩, _, by (go_simp; try rfl), ?_⟩
          refine wpAnyK_done (by kernel_rfl) ?_ _
          go_wp2_with fail
          go_meet
          exact ⟨q9, a1, m1, c1, a4, m4, c4, rfl, ys.out, rfl, rfl, f1.out, f2.out, f3q.out, f4q.out, hAf.out⟩
        · go_simp
          have nz := alloc_new QQ (.cells #[.int .i64 0, .int .i64 0, .slice none 0 0] 42)
          obtain ⟨A2, hA2⟩ : ∃ X, QQ.alloc (.cells #[.int .i64 0, .int .i64 0, .slice none 0 0] 42) = X := ⟨_, rfl⟩
          rw [hA2] at nz ⊢
          obtain ⟨q9, hq9⟩ : ∃ X, QQ.heap.size = X := ⟨_, rfl⟩
          rw [hq9] at nz ⊢
          have rz := hid nz.2.2
          have hA := nz.2.1
          have hq9l := hid (held_lt nz.2.2)
          have hqQ := hid (show QQ.heap.size ≤ q9 from by have := hT0.out.size; omega)
          have hT2 := hid (bthen hT0.out hA)
          clear nz hA2
          replace hq9 := hid hq9
          refine hK _ _ ⟨⟨hA.os, hA.tape, hA.output, hA.size, fun k9 h9 _ => hA.block k9 (by have := hT0.out.size; omega)⟩, ?_⟩
          clear hK
          clear hA
          refine wpAnyK_only 5 rfl (by kernel_rfl) (by rfl) (fun K hK => ?_)
          go_simp
          refine (kR.out _ (lQ.out.below hT2.out) (sQ.out.below hT2.out)).mono ?_
          rintro r A1 ⟨a1, m1, c1, a4, m4, c4, rfl, f1, f2, f3, f4, hA⟩
          have hT1 := hid (bthen hT2.out hA)
          replace rz := hid (held_after hA rz.out)
          have n1q := hid (fun y (hy : a1 = some y) => (show y.block ≠ q9 from by have := f3 y hy; have := hq9l.out; omega))
          have n4q := hid (fun y (hy : a4 = some y) => (show y.block ≠ q9 from by have := f4 y hy; have := hq9l.out; omega))
          have f3q := hid (fun y (hy : a1 = some y) => (show V1.heap.size ≤ y.block from by have := f3 y hy; have := hT2.out.size; have := hsz.out; omega))
          have f4q := hid (fun y (hy : a4 = some y) => (show V1.heap.size ≤ y.block from by have := f4 y hy; have := hT2.out.size; have := hsz.out; omega))
          replace f1 := hid f1
          replace f2 := hid f2
          clear f3 f4
          go_simp
          refine hK _ _ ⟨⟨hA.os, hA.tape, hA.output, hA.size, fun k9 h9 _ => hA.block k9 (by have := hT2.out.size; omega)⟩, ?_⟩
          clear hK
          clear hA
          refine wpAnyK_take 6 rfl (by kernel_rfl) (by kernel_rfl) (by kernel_rfl) (fun _ _ _ _ h => h) ⟨_, Or.inl ⟨by rfl, fun w2 hb => by (go_simp; try with_reducible rfl)⟩, _, by (go_simp; try rfl), ?_⟩
          refine wpAnyK_take 7 rfl (by kernel_rfl) (by kernel_rfl) (by kernel_rfl) (fun _ _ _ _ h => h) ⟨_, Or.inl ⟨by rfl, fun w2 hb => by (go_simp; try with_reducible rfl)⟩, _, by (go_simp; try rfl), ?_⟩
          refine wpAnyK_take 8 rfl (by kernel_rfl) (by kernel_rfl) (by kernel_rfl) (fun _ _ _ _ h => h) ⟨_, Or.inl ⟨by rfl, fun w2 hb => by (go_simp; try with_reducible rfl)⟩, _, by (go_simp; try rfl), ?_⟩
          refine wpAnyK_take 9 rfl (by kernel_rfl) (by kernel_rfl) (by kernel_rfl) (fun _ _ _ _ h => h) ⟨_, Or.inl ⟨by rfl, fun w2 hb => by (go_simp; try with_reducible rfl)⟩, _, by (go_simp; try rfl), ?_⟩
          refine wpAnyK_only 11 rfl (by kernel_rfl) (by rfl) (fun K hK => ?_)
          have x0 := held_cell rz.out 0 _ rfl
          have x1 := held_cell rz.out 1 _ rfl
          have x2 := held_cell rz.out 2 _ rfl
          have y0 := held_free rz.out 0
          have y1 := held_free rz.out 1
          have y2 := held_free rz.out 2
          obtain ⟨S9, hS9, ys, os⟩ := st3 rz.out (.int .i64 t1) (.int .i64 n1) (.slice a1 m1 c1)
          replace f1 := hid (f1.out.kept29 (fun y hy h0 => os.block y.block (n1q.out y hy)))
          replace f2 := hid (f2.out.kept29 (fun y hy h0 => os.block y.block (n4q.out y hy)))
          have kp9 : Kp QQ.heap.size [] A1 S9 := ⟨os.os, os.tape, os.output, by rw [os.size]; exact Nat.le_refl _, fun k9 h9 _ => os.block k9 (by have := hqQ.out; omega)⟩
          have hAf := hid (belowS (bthen hAV.out hT1.out) os (by have := hqQ.out; have := hsz.out; omega))
          replace ys := hid ys
          clear os
          go_simp
          refine hK _ _ ⟨kp9, ?_⟩
          clear hK
          clear kp9
          refine wpAnyK_take 12 rfl (by kernel_rfl) (by kernel_rfl) (by kernel_rfl) (fun _ _ _ _ h => h) ⟨_, Or.inl ⟨by rfl, fun w2 hb => by (go_simp; try with_reducible rfl)⟩, _, by (go_simp; try rfl), ?_⟩
          refine wpAnyK_take 13 rfl (by kernel_rfl) (by kernel_rfl) (by kernel_rfl) (fun _ _ _ _ h => h) ⟨_, Or.inl ⟨by rfl, fun w2 hb => by (go_simp; try with_reducible rfl)⟩, _, by (go_simp; try rfl), ?_⟩
          refine wpAnyK_done (by kernel_rfl) ?_ _
          go_wp2_with fail
          go_meet
          exact ⟨q9, a1, m1, c1, a4, m4, c4, rfl, ys.out, rfl, rfl, f1.out, f2.out, f3q.out, f4q.out, hAf.out⟩
      case rest =>
        obtain ⟨q9, a1, m1, c1, a4, m4, c4, rfl, r9, rfl, rfl, f1, f2, f3, f4, hA⟩ := hcut
        have hb2 := hid (held_after hA hb1.out)
        have hO2 := hid (hO1.out.below hA)
        have hE2 := hid (hE1.out.below hA)
        have hq2 := held_after hA hq1.out
        have hB2 := hid (bthen hB1.out hA)
        clear hb1 hO1 hE1 hq1 hB1 hL1 kR hA
        have x0 := held_cell r9 0 _ rfl
        have x1 := held_cell r9 1 _ rfl
        have x2 := held_cell r9 2 _ rfl
        have y0 := held_cell hq2 0 _ rfl
        have y1 := held_cell hq2 1 _ rfl
        have y2 := held_cell hq2 2 _ rfl
        have u0e := held_free hq2 0
        have u1e := held_free hq2 1
        have u2e := held_free hq2 2
        obtain ⟨S4, hS4, ym, oM⟩ := st3 hq2 (.int .i64 t1) (.int .i64 n1) (.slice a1 m1 c1)
        have hb3 := hid ((oM.block B (Ne.symm nqB)).trans hb2.out)
        have hO3 := hid (hO2.out.kept (fun g hg => oM.block g (fun e => by subst e; exact (hO2.out.ne hq2 (by decide)) hg)))
        have hE3 := hid (hE2.out.kept29 (fun x hx h0 => oM.block x.block (hra2.out x hx)))
        have g1 := hid (f1.kept29 (fun x hx h0 => oM.block x.block (by have := f3 x hx; omega)))
        have g2 := hid (f2.kept29 (fun x hx h0 => oM.block x.block (by have := f4 x hx; omega)))
        have hB3 := hid (belowS hB2.out oM hqW)
        have hq3 := hid (show S4.heap[p9_1]? = some (.cells #[.int .i64 t1, .int .i64 n1, .slice a1 m1 c1] 42 (0, 0)) from ym)
        have hsep := hid (fun x g (hx : a1 = some x) (h0 : 0 < m1) (hg : (Value.slice a' len' cap').ownBlock = some g) => (show x.block ≠ g from by have := f3 x hx; have := lown.out g hg; omega))
        have hsB := hid (fun x (hx : a1 = some x) (h0 : 0 < m1) => (show x.block ≠ B from by have := f3 x hx; have := lB1.out; omega))
        clear oM ym f1 f2 f3 f4 hb2 hO2 hE2 hB2 hq2 r9 lown lB1 hra2
        go_wp2_with fail
        refine (bwait29_any B t1 n1 (.slice a' len' cap') _ hb3.out).mono ?_
        rintro r V5 ⟨rfl, hA⟩
        replace hb3 := hid (held_after hA hb3.out)
        replace hO3 := hid (hO3.out.below hA)
        replace g1 := hid (g1.out.below hA)
        replace hB3 := hid (bthen hB3.out hA)
        replace hq3 := hid (held_after hA hq3.out)
        replace g2 := hid (g2.out.below hA)
        replace hE3 := hid (hE3.out.below hA)
        clear hA x0 x1 x2 y0 y1 y2 u0e u1e u2e
        have e1 := hE3.out.1
        have e2 := g2.out.1
        obtain rfl : rn = m4 := by omega
        rw [List.length_map] at e1
        have kV := hid (views29_any ra a4 rc c4 rn (oo.getD []) _ e1 hE3.out g2.out (by have := hbd2.out.2; omega))
        clear e1 e2 hE3 g2
        have tq0 : (ok != ok) = false := bne_self_eq_false ok
        have tq1 : (t1 != t1) = false := bne_self_eq_false t1
        have tq2 : (n1 != n1) = false := bne_self_eq_false n1
        go_wp2_with fail
        refine kV.out.mono ?_
        rintro r V6 ⟨rfl, hA⟩
        replace hb3 := hid (held_after hA hb3.out)
        replace hO3 := hid (hO3.out.below hA)
        replace g1 := hid (g1.out.below hA)
        replace hB3 := hid (bthen hB3.out hA)
        replace hq3 := hid (held_after hA hq3.out)
        clear hA kV
        have z0 := held_cell hq3.out 0 _ rfl
        have z1 := held_cell hq3.out 1 _ rfl
        have hBLf := hid (show BL W B p9_1 V6 from ⟨t1, n1, l1, a', len', cap', a1, m1, c1, hb3.out, hO3.out, hl1.out, hq3.out, g1.out, hsep.out, hsB.out, hbd2.out.1⟩)
        go_wp2_with fail
        go_roundw
        case rel => exact ⟨k + 1, by simp, hk1.out, hBLf.out, hB3.out⟩
        case measure => simp [intOf]; have := hms.out; omega

end Go.Proofs.YtobgibmpodggkaaDoor
