/- Package gaps: All. -/
import Derived.Test.YtjeiclfdhdcfnaaGap7
import Derived.Laws.Tables
import Derived.WideLaws
import Derived.Laws.OwnMore
import Derived.Laws.MakeOwn
import Derived.Deep.DeepCutAuto
import Derived.Deep.LoopGhost
namespace Go.Proofs.Ytjeiclfdhdcfnaa
open Go.ChangeShapes Go.WideShapes Go.ChangeAt Go.RowKit
set_option linter.unusedVariables false
set_option linter.unusedSimpArgs false

theorem perm_sub {P : List Nat} {n : Nat} (hd : P.Nodup) (hb : ∀ i ∈ P, i < n) : P.length ≤ n := by
  have h1 : P ⊆ List.range n := fun i hi => List.mem_range.2 (hb i hi)
  have h2 := List.Nodup.length_le_of_subset hd h1
  simpa using h2
set_option maxRecDepth 100000 in
set_option maxHeartbeats 32000000 in
theorem gall_any (B m : Nat) (L : List Ln) (w : World) (hb : w.heap[B]? = some (.cells #[.map (some m)] 47 (0, 0))) (hm : MapAt w m L) (hd : Dist L) (h16 : L.length ≤ 16) : Calls Try.prog 12 #[.pointer (some ⟨B, 0, none⟩)] w fun r w' => ∃ (a : Option Addr) (cap : Nat) (S : List Ln), r = .returned (.slice a L.length cap) ∧ S.Perm L ∧ S.Pairwise (fun x z => ¬ lt33 (z.y, z.c) (x.y, x.c)) ∧ Els w' 5 a L.length cap (S.map enL) ∧ After w w' := by
  have kR := hid (gright_any B m w hb)
  have hBm : B ≠ m := by
    intro e
    subst e
    rw [hm] at hb
    cases hb
  have hb0 := held_cell hb 0 _ rfl
  obtain ⟨n, hn⟩ : ∃ n, L.length = n := ⟨_, rfl⟩
  have hln := fun ty => run_len_map (P := Try.prog) (w := w) 45 ty m _ _ Try.underlying45 hm
  have hszm : (enM 0 L).toArray.size = n := by simp [enM_len, hn]
  rw [hszm] at hln
  rw [hn] at h16 ⊢
  obtain ⟨is, zs, his, hzs, hszs, hbys⟩ : ∃ i z, Try.prog.info? 51 = some i ∧ i.zero = some z ∧ i.size = 2 ∧ i.bytes = 16 := ⟨_, _, rfl, rfl, rfl, rfl⟩
  obtain ⟨il, zl, hil, hzl, hszl, hbyl⟩ : ∃ i z, Try.prog.info? 43 = some i ∧ i.zero = some z ∧ i.size = 5 ∧ i.bytes = 40 := ⟨_, _, rfl, rfl, rfl, rfl⟩
  obtain ⟨W1, hmk, hown, hgr⟩ := run_make_own (P := Try.prog) w w.heap.size 55 51 is zs 2 Try.underlying55 his hzs hszs .i64 .i64 n (by rw [hbys]; omega) (by unfold maxLen; omega) (Nat.le_refl _)
  have hO1 := OwnE.of hown
  have hA1 : After w W1 := (Below.refl _ w).grown hgr (Nat.le_refl _) (fun k e => by cases e)
  have hb1 := held_after hA1 hb
  have hm1 := hm.aft hA1
  have hb10 := held_cell hb1 0 _ rfl
  have hrg := range33 hm1
  have hr2 := alloc_at33 W1 (.mapIter (some m) L.length #[] L.length)
  have hA2 := aalloc W1 (.mapIter (some m) L.length #[] L.length)
  obtain ⟨W2, hW2⟩ : ∃ X, W1.alloc (.mapIter (some m) L.length #[] L.length) = X := ⟨_, rfl⟩
  rw [hW2] at hrg hr2 hA2
  obtain ⟨r, hr⟩ : ∃ r, W1.heap.size = r := ⟨_, rfl⟩
  have hrw : w.heap.size ≤ r := by rw [← hr]; exact hA1.size
  have lB1 := held_lt hb1
  have lm1 := hm1.lt
  have hlo1 := hO1.lt w.heap.size rfl
  rw [hr] at hrg hr2 lB1 lm1 hlo1
  have hb2 := hid (held_after hA2 hb1)
  have hm2 := hid (hm1.aft hA2)
  have hO2 := hid (hO1.below hA2)
  have hAw := hid (bthen hA1 hA2)
  replace hr2 := hid hr2
  have hrB : r ≠ B := by omega
  have hrm : r ≠ m := by omega
  have hg0 := hid (show w.heap.size ≠ r from by omega)
  clear hA1 hA2 hO1 hown hgr hb1 hm1 hW2 hszm lB1 lm1 hlo1
  replace hn := hid hn
  replace hb := hid hb
  replace hm := hid hm
  replace hr := hid hr
  replace hd := hid hd
  skip
  replace his := hid his
  replace hzs := hid hzs
  replace hszs := hid hszs
  replace hbys := hid hbys
  replace hil := hid hil
  replace hzl := hid hzl
  replace hszl := hid hszl
  replace hbyl := hid hbyl
  go_enter Try.func12, Try.ntmps12
  go_wp2_with fail
  refine kR.out.mono ?_
  rintro e V ⟨rfl, hv⟩
  obtain rfl : w = V := hv.symm
  clear hv
  go_wp2_with fail
  go_loopg [3] n (fun gk kv wr => ∃ (P : List Nat) (g cap : Nat), gk = n - P.length ∧ kv = .slice (some ⟨g, 0, none⟩) P.length cap ∧ P.Nodup ∧ (∀ i ∈ P, i < n) ∧ wr.heap[r]? = some (.mapIter (some m) L.length P.toArray L.length) ∧ MapAt wr m L ∧ wr.heap[B]? = some (.cells #[.map (some m)] 47 (0, 0)) ∧ OwnE 51 wr w.heap.size 2 (.slice (some ⟨g, 0, none⟩) P.length cap) P.length ((P.map (keyAt L)).map en33).flatten ∧ g ≠ r ∧ After w wr)
  case atStart => exact ⟨[], w.heap.size, n, by simp, rfl, List.nodup_nil, (fun i hi => by cases hi), hr2.out, hm2.out, hb2.out, hO2.out, hg0.out, hAw.out⟩
  case round =>
    clear hr2 hm2 hb2 hO2 hAw hb0 hb10 hln hmk hrg kR hg0
    obtain ⟨P, g, cap, hgk, rfl, hnd, hPn, hr2, hm2, hb2, hO, hgr2, hA⟩ := hrel
    replace hgk := hid hgk
    rcases next33 hr2 hm2 with ⟨hall, hrun⟩ | ⟨i, x, W3, hx, hnp, hrun, hr3, hO3, hent⟩
    · have hper : P.Perm (List.range n) := perm_range hnd hPn (by have := hn.out; intro i hi; exact hall i (by omega))
      have hPl : P.length = n := by have := hper.length_eq; simpa using this
      have hkp : (P.map (keyAt L)).Perm (L.map (fun x => (x.y, x.c))) := by
        rw [← keys_range, hn.out]
        exact hper.map _
      rw [hPl] at hO ⊢
      obtain ⟨K, hK⟩ : ∃ K, P.map (keyAt L) = K := ⟨_, rfl⟩
      have hKl : K.length = n := by rw [← hK, List.length_map]; exact hPl
      rw [hK] at hO hkp
      have hkc := key_cells hO
      have kS := sort_any g 0 cap K wr (hO.lt g rfl).2.1 (by omega) hkc
      rw [hKl] at kS
      have hgB : g ≠ B := fun e => hO.ne hb2 (by decide) (by rw [e]; rfl)
      have hgm : g ≠ m := by
        intro e
        obtain ⟨-, -, cur, hc⟩ := hO.lt g rfl
        rw [e, hm2] at hc
        cases hc
      have hgw := hid (hO.lt g rfl).1
      have hglt := (hO.lt g rfl).2.1
      replace kS := hid kS
      replace hkp := hid hkp
      replace hb2 := hid hb2
      replace hm2 := hid hm2
      replace hA := hid hA
      clear hall hnd hPn hper hPl hK hkc hr2 hO hKl hgk
      go_wp2_with fail
      refine kS.out.mono ?_
      rintro e V4 ⟨rfl, hE, S', hSp, hSs, hSc⟩
      replace hb2 := hid (eff_at33 hE hb2.out (Ne.symm hgB))
      replace hm2 := hid (hm2.out.eff hE (Ne.symm hgm))
      have hszV := hE.size
      replace hA := hid (eff_below33 hA.out hE hgw.out hA.out.size)
      have hKI : KeysIn V4 g S' := hSc
      have hglt4 : g < V4.heap.size := by omega
      clear hE hSc kS hrun hglt hszV
      have hSl : S'.length = n := by have := (hSp.trans hkp.out).length_eq; rw [this, List.length_map]; exact hn.out
      obtain ⟨T, hT⟩ : ∃ T, S'.map (lnOf L) = T := ⟨_, rfl⟩
      have hTl : T.length = n := by rw [← hT, List.length_map]; exact hSl
      have hTp : T.Perm L := by
        rw [← hT]
        have h1 := (hSp.trans hkp.out).map (lnOf L)
        rw [lnOf_self hd.out] at h1
        exact h1
      have hTs : T.Pairwise (fun x z => ¬ lt33 (z.y, z.c) (x.y, x.c)) := by
        rw [← hT, List.pairwise_map]
        refine hSs.imp ?_
        intro a b h
        obtain ⟨q1, q2⟩ := lnOf_key (L := L) (k := a)
        obtain ⟨q3, q4⟩ := lnOf_key (L := L) (k := b)
        rw [q1, q2, q3, q4]
        exact h
      have hTx := hid (fun (j : Nat) (k : Int × Int) (h : S'[j]? = some k) => (show T[j]? = some (lnOf L k) from by rw [← hT, List.getElem?_map, h]; rfl))
      obtain ⟨W6, hmk2, hown2, hgr6⟩ := run_make_full (P := Try.prog) V4 V4.heap.size 35 43 il zl 5 Try.underlying35 hil.out hzl.out hszl.out .i64 .i64 n (by rw [hbyl.out]; omega) (by unfold maxLen; omega) (Nat.le_refl _)
      have hO6 := OwnE.of hown2
      have hA6 : After V4 W6 := (Below.refl _ V4).grown hgr6 (Nat.le_refl _) (fun k e => by cases e)
      have hOut : OutAt W6 V4.heap.size 0 n T := by
        obtain ⟨-, h2⟩ := hO6
        rcases h2 with ⟨e, -⟩ | ⟨p2, cap2, cur, e, r1, r2, r3, r4, r5, -⟩
        · cases e
        · injection e with e1 e2 e3
          injection e1 with e1
          injection e1 with e1
          subst e1 e3
          exact ⟨cur, r2, r5, fun i x hi => by omega⟩
      obtain ⟨p, hp⟩ : ∃ p, V4.heap.size = p := ⟨_, rfl⟩
      have lB4 := held_lt hb2.out
      have lm4 := hm2.out.lt
      have hpw : w.heap.size ≤ p := by rw [← hp]; exact hA.out.size
      rw [hp] at hmk2 hOut lB4 lm4 hglt4
      replace hb2 := hid (held_after hA6 hb2.out)
      replace hm2 := hid (hm2.out.aft hA6)
      replace hA := hid (bthen hA.out hA6)
      have hK6 := hid (hKI.kept (hA6.block g (by rw [hp]; exact hglt4)))
      replace hOut := hid hOut
      have hgp := hid (show g ≠ p from by omega)
      have hmp := hid (show m ≠ p from by omega)
      have hBp := hid (show B ≠ p from by omega)
      replace hp := hid hp
      replace hT := hid hT
      replace hTp := hid hTp
      replace hTs := hid hTs
      replace hTl := hid hTl
      replace hSl := hid hSl
      clear hSp hSs hkp hKI hown2 hgr6 hO6 hA6
      go_wp2_with fail
      go_loopw [38] (fun ix wr => ∃ j : Nat, ix = .int .i64 j ∧ j ≤ n ∧ OutAt wr p j n T ∧ KeysIn wr g S' ∧ MapAt wr m L ∧ wr.heap[B]? = some (.cells #[.map (some m)] 47 (0, 0)) ∧ After w wr) (fun ix _ => n - (intOf ix).toNat)
      case atStart => exact ⟨0, rfl, by omega, hOut.out, hK6.out, hm2.out, hb2.out, hA.out⟩
      case round =>
        clear hOut hK6 hm2 hb2 hA hmk2
        obtain ⟨j, rfl, hj, hOut, hKI, hm2, hb2, hA⟩ := hrel
        by_cases hlt : (j : Int) < n
        case neg =>
          obtain rfl : j = n := by omega
          have hfin := hid (hOut.els hTl.out (by omega))
          replace hA := hid hA
          clear hOut hKI hm2 hb2
          go_wp2_with fail
          go_ret
          exact ⟨_, _, rfl, T, hTp.out, hTs.out, hfin.out, hA.out⟩
        obtain ⟨k, hk⟩ : ∃ k, S'[j]? = some k := ⟨_, List.getElem?_eq_getElem (by have := hSl.out; omega)⟩
        obtain ⟨k1, k2⟩ := k
        obtain ⟨c0, c1⟩ := hKI j _ hk
        rw [Nat.zero_add] at c0 c1
        have hTj := hid (hTx.out j _ hk)
        have kz : (0 : Int) ≤ j := by omega
        have wk : IntKind.i64.wrap ((j : Int) + 1) = (j : Int) + 1 := by rw [IntKind.wrap_i64]; omega
        have hj1 := hid (show j + 1 ≤ n by omega)
        have hjn := hid (show j < n by omega)
        have hms := hid (show n - (j + 1) < n - j by omega)
        have nw := alloc_new wr (.cells #[.int .i64 k1, .int .i64 k2] 51)
        go_upto_region 13 with (fail)
        obtain ⟨W7, hW7⟩ : ∃ X, wr.alloc (.cells #[.int .i64 k1, .int .i64 k2] 51) = X := ⟨_, rfl⟩
        rw [hW7] at nw ⊢
        obtain ⟨pw, hpw7⟩ : ∃ X, wr.heap.size = X := ⟨_, rfl⟩
        have lp7 : p < wr.heap.size := by obtain ⟨C, h1, -⟩ := hOut; exact held_lt h1
        have lg7 := World.block_lt_of_cell? wr _ c0
        dsimp only at lg7
        rw [hpw7] at nw lp7 lg7 ⊢
        replace hW7 := hid hW7
        have hwh := nw.2.2
        have hA7 := nw.2.1
        have hp7 := hid (hOut.kept (hA7.block p (by rw [hpw7]; exact lp7)))
        have hg7 := hid (hKI.kept (hA7.block g (by rw [hpw7]; exact lg7)))
        have hm7 := hid (hm2.aft hA7)
        have hb7 := held_after hA7 hb2
        have hAw := hid (bthen hA hA7)
        have npp : pw ≠ p := by omega
        replace hpw7 := hid hpw7
        clear nw hA7 hOut hKI hm2 hb2 hA c0 c1
        have hlk := hid (fun (U : World) (h : MapAt U m L) => look33f h k1 k2)
        have hkey := lnOf_key (L := L) (k := (k1, k2))
        obtain ⟨⟨xy, xc, xq, xh, xl⟩, hX⟩ : ∃ x, lnOf L (k1, k2) = x := ⟨_, rfl⟩
        rw [hX] at hkey hTj
        simp only [hX] at hlk
        obtain ⟨rfl, rfl⟩ := hkey
        skip
        apply wp_region_seg (w := W7) (S := [.q [], .q [], .q [], .q [], .q [], .q [], .al 7, .st 6 []]) (E := [.q0 _, .q0 _, .q0 _, .q0 _, .q0 _, .q0 _, .al ((fun p => .pointer (some ⟨p, 0, none⟩)), _) 7, .s0 6 (.cells _ _)]) (by kernel_rfl) rfl (by kernel_rfl) rfl rfl
        intro th hge hne
        iterate 3 refine Seg.sq ?_
        refine Seg.sq ?_ (ht := Or.inl ⟨by rfl, fun U hU => vp_quiet (by (have h0 := held_cell (held_after hU.1 hb7) 0 _ rfl; go_simp <;> exact rfl))⟩)
        refine Seg.sq ?_ (ht := Or.inl ⟨by rfl, fun U hU => vp_quiet (by (have h0 := held_cell (held_after hU.1 hwh) 0 _ rfl; have h1 := held_cell (held_after hU.1 hwh) 1 _ rfl; go_simp <;> exact rfl))⟩)
        refine Seg.sq ?_ (ht := Or.inl ⟨by rfl, fun U hU => vp_quiet (by (have h5 := hlk.out _ (hm7.out.aft hU.1); go_simp <;> exact rfl))⟩)
        refine Seg.step _ rfl ⟨by rfl, fun U hU => ?_⟩ ?_
        · go_simp; exact vp_alloc rfl rfl rfl
        refine Seg.sa ?_
        refine Seg.step _ rfl ⟨by rfl, fun U z k hz hU hc => ?_⟩ ?_
        · have hz2 := Option.some.inj hz
          cases hz2; clear hz
          exact vp_store_agg _ _ _ rfl hc rfl rfl (by kernel_rfl) rfl (by rfl)
        refine Seg.sa ?_
        refine Seg.stop (fun U61 hU hk => ?_)
        have nb6 := hge 6 _ _ rfl
        have rb6 := (hk 6 _ 7 rfl trivial).1.1 trivial _ (Nat.zero_le _) rfl
        clear hk hge hne
        generalize th (0 + 6) = p13_6 at *
        simp only [Ent.obj] at rb6
        have df_pw_p13_6 : pw ≠ p13_6 := by have := held_lt hwh; omega
        have df_B_p13_6 : B ≠ p13_6 := by have := held_lt hb7; omega
        replace hwh := held_after hU hwh
        replace hb7 := held_after hU hb7
        have r_p13_6 := rb6
        clear rb6
        have n_p13_6 := nb6
        clear nb6
        have sz61 := hU.size
        have hB : Below W7.heap.size W7 U61 := hU
        have lp8 := hid (show p < W7.heap.size from by obtain ⟨C, h1, -⟩ := hp7.out; exact held_lt h1)
        have hp8 := hp7.out.kept (hU.block p lp8.out)
        have hg8 := hid (hg7.out.kept (hU.block g (by have := hg7.out; have := sz61; have h9 := (hg7.out j _ hk).1; exact World.block_lt_of_cell? W7 _ h9)))
        have hm8 := hid (hm7.out.aft hU)
        have hb8 := hid hb7
        have hA8 := hid (bthen hAw.out hU)
        clear hU hb7 hp7 hg7 hm7 hAw
        obtain ⟨⟨v0, v1, v2, v3, v4, y0, y1, y2, y3, y4⟩, hfz, W9, hS9, hp9, oM⟩ := hp8.set hjn.out hTj.out
        dsimp only at hS9
        have f0 := hfz (j * 5)
        have f1 := hfz (j * 5 + 1)
        have f2 := hfz (j * 5 + 2)
        have f3 := hfz (j * 5 + 3)
        have f4 := hfz (j * 5 + 4)
        have a0 := held_cell hwh 0 _ rfl
        have a1 := held_cell hwh 1 _ rfl
        have b0 := held_cell r_p13_6 0 _ rfl
        have b1 := held_cell r_p13_6 1 _ rfl
        have b2 := held_cell r_p13_6 2 _ rfl
        have hg9 := hid (hg8.out.kept (oM.block g (by have := lp8.out; exact hgp.out)))
        have hm9 := hid ((oM.block m hmp.out).trans hm8.out)
        have hb9 := hid ((oM.block B hBp.out).trans hb8.out)
        have hA9 := hid (belowS hA8.out oM hpw)
        replace hp9 := hid hp9
        clear oM hp8 hg8 hm8 hb8 hA8 hfz
        go_wp2_with fail
        go_roundw
        case rel => exact ⟨j + 1, by simp, hj1.out, hp9.out, hg9.out, hm9.out, hb9.out, hA9.out⟩
        case measure => simp [intOf]; have := hms.out; omega
    · have hi : i < n := by have := (List.getElem?_eq_some_iff.1 hx).1; have := hn.out; omega
      have hKi : keyAt L i = (x.y, x.c) := by unfold keyAt; rw [hx]
      have hPl1 : P.length < n := by
        have hnd2 : (i :: P).Nodup := List.nodup_cons.2 ⟨hnp, hnd⟩
        have h2 := perm_sub hnd2 (n := n) (by intro a ha; rcases List.mem_cons.1 ha with rfl | ha; exact hi; exact hPn a ha)
        simp at h2
        omega
      obtain ⟨y, c, q0, h0, l0⟩ := x
      dsimp only at hrun hent hKi
      unfold kyG vlG at hrun hent
      have hm3 := hid ((hO3.block m (Ne.symm hrm)).trans hm2)
      have hb3 := hid ((hO3.block B (Ne.symm hrB)).trans hb2)
      have hO3o := hid (hO.kept (fun k hk => hO3.block k (fun e => by subst e; cases hk; exact hgr2 rfl)))
      have hA3 := hid (belowS hA hO3 hrw)
      replace hr3 := hid hr3
      clear hr2 hm2 hb2 hO hA hO3 hx
      replace hnd := hid hnd
      replace hPn := hid hPn
      replace hnp := hid hnp
      replace hKi := hid hKi
      have nw := alloc_new W3 (.cells #[.int .i64 y, .int .i64 c] 51)
      go_upto_region 7 with (fail)
      obtain ⟨W4, hW4⟩ : ∃ X, W3.alloc (.cells #[.int .i64 y, .int .i64 c] 51) = X := ⟨_, rfl⟩
      rw [hW4] at nw ⊢
      obtain ⟨pw, hpw⟩ : ∃ X, W3.heap.size = X := ⟨_, rfl⟩
      rw [hpw] at nw ⊢
      replace hW4 := hid hW4
      have hwh := nw.2.2
      have hA4 := nw.2.1
      replace hm3 := hid (held_after hA4 hm3.out)
      replace hb3 := hid (held_after hA4 hb3.out)
      replace hr3 := hid (held_after hA4 hr3.out)
      replace hO3o := hid (hO3o.out.below hA4)
      replace hA3 := hid (bthen hA3.out hA4)
      have w0 := held_cell hwh 0 _ rfl
      have w1 := held_cell hwh 1 _ rfl
      replace hpw := hid hpw
      clear nw hA4 hrun hent
      have hE2 := els_one W4 #[.int .i64 y, .int .i64 c] 51 2 rfl
      have hA5 := (alloc_new W4 (.cells #[.int .i64 y, .int .i64 c] 51)).2.1
      obtain ⟨X6, hX6⟩ : ∃ X, W4.alloc (.cells #[.int .i64 y, .int .i64 c] 51) = X := ⟨_, rfl⟩
      rw [hX6] at hA5 hE2
      have hm5 := held_after hA5 hm3.out
      have hb5 := held_after hA5 hb3.out
      have hr5 := held_after hA5 hr3.out
      have hO5 := hid (hO3o.out.below hA5)
      have hA6 := hid (bthen hA3.out hA5)
      have hbs : w.heap.size ≤ X6.heap.size := hA6.out.size
      replace hE2 := hid hE2
      replace hm5 := hid hm5
      replace hb5 := hid hb5
      replace hr5 := hid hr5
      clear hA5 hm3 hb3 hr3 hO3o hA3 hwh
      go_wp2_with (first | (at_builtin; refine wpList_appE rfl (.tmp 27) (.tmp 29) 55 rfl w.heap.size 51 2 16 senO (by decide) (.slice (some ⟨g, 0, none⟩) P.length cap) P.length ((P.map (keyAt L)).map en33).flatten rfl hO5.out (some ⟨_, 0, none⟩) 1 1 [[.int .i64 y, .int .i64 c]] rfl hE2.out (by intro z hz v hv; obtain rfl := List.mem_singleton.1 hz; simp at hv; rcases hv with rfl | rfl <;> rfl) (by unfold maxLen; omega) (by omega) hbs ?_))
      intro a9 c9 W9 hO9 hG9 hN9
      have hm9 := hid ((hG9.block m (hm5.out |> held_lt33) (fun e => by
        have e2 : m = g := Option.some.inj e
        obtain ⟨-, -, cur, hc⟩ := hO5.out.lt g rfl
        rw [← e2, hm5.out] at hc
        cases hc)).trans hm5.out)
      have hb9 := hid ((hG9.block B (held_lt33 hb5.out) (fun e => hO5.out.ne hb5.out (by decide) e.symm)).trans hb5.out)
      have hr9 := hid ((hG9.block r (held_lt33 hr5.out) (fun e => hgr2 (Option.some.inj e).symm)).trans hr5.out)
      have hA9 := hid (hA6.out.grown hG9 hbs (fun k e => (hO5.out.lt k e).1))
      obtain ⟨g9, hg9⟩ : ∃ g9, a9 = some ⟨g9, 0, none⟩ ∧ (g9 = g ∨ X6.heap.size ≤ g9) := by
        obtain ⟨-, h2⟩ := hO9
        rcases h2 with ⟨e, h3⟩ | ⟨p2, cap2, cur, e, r1, r2, r3, r4, r5, -⟩
        · exact absurd h3 (by omega)
        · injection e with e1 e2 e3
          subst e1
          refine ⟨p2, rfl, ?_⟩
          rcases hN9 p2 rfl with h | h
          · exact .inl (Option.some.inj h).symm
          · exact .inr h
      obtain ⟨rfl, hg9c⟩ := hg9
      have hg9r := hid (show g9 ≠ r from by rcases hg9c with h | h; rw [h]; exact hgr2; have := held_lt33 hr5.out; omega)
      have hO10 := hid (show OwnE 51 W9 w.heap.size 2 (.slice (some ⟨g9, 0, none⟩) (P ++ [i]).length c9) (P ++ [i]).length (((P ++ [i]).map (keyAt L)).map en33).flatten from by simpa [hKi.out, en33] using hO9)
      have hnd9 := hid (show (P ++ [i]).Nodup from List.nodup_append.2 ⟨hnd.out, List.nodup_cons.2 ⟨List.not_mem_nil, List.nodup_nil⟩, fun a ha b hb e => by rw [List.mem_singleton.1 hb] at e; exact hnp.out (e ▸ ha)⟩)
      have hPn9 := hid (show ∀ a ∈ P ++ [i], a < n from fun a ha => by rcases List.mem_append.1 ha with h | h; exact hPn.out a h; rw [List.mem_singleton.1 h]; exact hi)
      have hlen9 := hid (show (P ++ [i]).length = P.length + 1 from by simp)
      clear hO9 hG9 hN9 hm5 hb5 hr5 hO5 hA6 hE2 hg9c w0 w1
      go_wp2_with fail
      go_roundg (n - (P ++ [i]).length)
      case rel => exact ⟨P ++ [i], g9, c9, rfl, by rw [hlen9.out], hnd9.out, hPn9.out, hr9.out, hm9.out, hb9.out, hO10.out, hg9r.out, hA9.out⟩
      case measure => have := hgk.out; have := hlen9.out; omega

end Go.Proofs.Ytjeiclfdhdcfnaa
