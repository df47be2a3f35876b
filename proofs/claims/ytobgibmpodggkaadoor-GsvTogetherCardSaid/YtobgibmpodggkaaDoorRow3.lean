/- Rows of fields: numbers, angles read. -/
import Derived.Test.YtobgibmpodggkaaDoorRow
import Derived.Test.YtobgibmpodggkaaDoorDec8
import Derived.Test.YtobgibmpodggkaaDoorDec11
import Derived.LoopN
import Derived.Deep.DeepCutAuto
namespace Go.Proofs.YtobgibmpodggkaaDoor
open Go.ChangeShapes Go.WideShapes Go.ChangeAt Go.RowKit
set_option linter.unusedVariables false
set_option linter.unusedSimpArgs false

theorem els_keep1 {g m : Nat} {o : Obj} {w U : World} {a : Option Addr} {len cap : Nat} {xs : List (List Value)} (h : Els w m a len cap xs) (hU : Seg.base [(g, o)] w U) (hne : ∀ x, a = some x → x.block ≠ g) : Els U m a len cap xs :=
  ⟨h.1, h.2.1, h.2.2.1, h.2.2.2.1, fun i x hx => by
    obtain ⟨h1, b, off, e, hc⟩ := h.2.2.2.2 i x hx
    exact ⟨h1, b, off, e, fun j v hj => keep1_cell hU (hc j v hj) (hne ⟨b, off, none⟩ e)⟩⟩
theorem eff_base1 {g : Nat} {o : Obj} {w U : World} (hU : Seg.base [(g, o)] w U) : Eff g w U := ⟨hU.os, hU.tape, hU.output, hU.size, fun k hk hn => hU.block k hk (fun b g' o'' hb => by
    cases b with
    | zero => cases hb; exact hn
    | succ b => cases hb)⟩
theorem eff_new24 {g p : Nat} {w V W : World} (h : Eff g w V) (k : Only p V W) (hp : w.heap.size ≤ p) : Eff g w W := ⟨k.os.trans h.os, k.tape.trans h.tape, k.output.trans h.output, by rw [k.size]; exact h.size, fun j hj hn => (k.block j (by omega)).trans (h.block j hj hn)⟩
theorem txS_size {e : Int} {L : List ByteArray} (h : ∀ s ∈ L, s.size ≤ 1000) : (txS e L).1.size ≤ 1000 ∧ (∀ s ∈ (txS e L).2.2, s.size ≤ 1000) ∧ (txS e L).2.2.length ≤ L.length := by
  cases L with
  | nil => exact ⟨(show (0 : Nat) ≤ 1000 by decide), fun s hs => (by cases hs), Nat.le_refl _⟩
  | cons s R => exact ⟨h s (by simp), fun t ht => h t (List.mem_cons_of_mem _ ht), by simp [txS]⟩
set_option maxRecDepth 100000 in
set_option maxHeartbeats 8000000 in
theorem enum_any (B : Nat) (e : Int) (L : List ByteArray) (W M F lo hi : Int) (w : World) (hP : EyeIn w B e L) (hl : L.length ≤ 1000) (hs : ∀ s ∈ L, s.size ≤ 1000) (hlb : (-9223372036854775808 ≤ lo ∧ lo ≤ 9223372036854775807) ∧ (-9223372036854775808 ≤ hi ∧ hi ≤ 9223372036854775807)) : Calls Tryd.prog 39 #[.pointer (some ⟨B, 0, none⟩), .agg #[.int .i64 W, .int .i64 M, .int .i64 F, .int .i64 lo, .int .i64 hi]] w fun r w' => r = .returned (.agg #[.bool (nmS e L W M F lo hi).1.1, .int .i64 (nmS e L W M F lo hi).1.2]) ∧ EyeIn w' B (nmS e L W M F lo hi).2.1 (nmS e L W M F lo hi).2.2 ∧ Eff B w w' := by
  have hsz := (txS_size (e := e) hs).1
  obtain ⟨a, cap, hp, hE, hnB⟩ := hP
  obtain ⟨a2, cap2, h1, h2, h3, h4⟩ := etext_raw B e L a cap hl hE.2.1 hnB
  have kr := hid (fun W h => e23right B true (.int .i64 e) (.slice a L.length cap) W h)
  obtain ⟨⟨s, e1, R⟩, htx⟩ : ∃ r, txS e L = r := ⟨_, rfl⟩
  obtain ⟨⟨ti, tn, x⟩, htd⟩ : ∃ r, takD s W M F lo hi = r := ⟨_, rfl⟩
  have hnm : nmS e L W M F lo hi = ((ti, tn), kp e1 x, R) := by unfold nmS; rw [htx]; dsimp only; rw [htd]
  rw [hnm]
  rw [htx] at h1 h2 h4 hsz
  dsimp only at h1 h2 h4 hsz ⊢
  have kT := hid (fun U => htd ▸ take23_any s W M F lo hi U hsz hlb)
  dsimp only at kT
  have kk := hid (fun W h => keep23_any 0 B 94 (.bool true) (.slice a2 R.length cap2) e1 x W h (Nat.zero_le _))
  clear hnm htx htd hs
  generalize L.length = ln at *
  obtain ⟨rn, hrn⟩ : ∃ n, R.length = n := ⟨_, rfl⟩
  rw [hrn] at h1 h2 h4 kk
  replace hrn := hid hrn
  have hlt := held_lt hp
  have hE0 := hid hE
  replace h1 := hid h1
  replace h2 := hid h2
  replace h3 := hid h3
  replace hnB := hid hnB
  replace h4 := hid h4
  go_enter Tryd.func39, Tryd.ntmps39
  go_upto_region 0 with (fail)
  apply wp_region_seg0 (w := w) (S := [.al 1000, .al 1000]) (E := [.al ((fun p => .pointer (some ⟨p, 0, none⟩)), _) 1000, .al ((fun p => .pointer (some ⟨p, 0, none⟩)), _) 1000]) rfl (by kernel_rfl) rfl rfl
  intro th hge hne
  refine Seg.step _ rfl ⟨by rfl, fun U hU => ?_⟩ ?_
  · go_simp; exact vp_alloc rfl rfl rfl
  refine Seg.sa ?_
  refine Seg.step _ rfl ⟨by rfl, fun U hU => ?_⟩ ?_
  · go_simp; exact vp_alloc rfl rfl rfl
  refine Seg.sa ?_
  refine Seg.stop (fun U1 hU hk => ?_)
  have nb0 := hge 0 _ _ rfl
  have rb0 := (hk 0 _ _ rfl trivial).1.2 (by simp)
  have nb1 := hge 1 _ _ rfl
  have rb1 := (hk 1 _ _ rfl trivial).1.2 (by simp)
  have ne0_1 := hne 0 1 _ _ _ _ rfl rfl (by omega)
  clear hk hge hne
  generalize th (0 + 0) = p0_0 at *
  dsimp only at rb0
  generalize th (0 + 1) = p0_1 at *
  dsimp only at rb1
  replace hp := held_after hU hp
  have r_p0_0 := rb0
  clear rb0
  have n_p0_0 := nb0
  clear nb0
  have d_p0_0_p0_1 := ne0_1
  clear ne0_1
  have r_p0_1 := rb1
  clear rb1
  have n_p0_1 := nb1
  clear nb1
  have sz1 := hU.size
  have hB : Below w.heap.size w U1 := hU
  clear hU
  have hE1 := hid (hE.below hB)
  clear hE
  have hef := hid (eff_after24 (g := B) hB)
  clear hB
  replace hp := hid hp
  have rp0 := hid r_p0_0
  have rp1 := hid r_p0_1
  clear r_p0_0 r_p0_1
  go_wp2_with fail
  refine (kr.out _ hp.out).mono ?_
  rintro r V ⟨rfl, hv⟩
  obtain rfl : U1 = V := hv.symm
  go_upto_region 3 with (fail)
  replace hp := hp.out
  have r_p0_0 := rp0.out
  have r_p0_1 := rp1.out
  clear rp0 rp1
  apply wp_region_segX (w := U1) (S := [.q [], .ef 0 none, .q [], .q [], .q [], .q [], .q [], .al 8, .st 7 [], .q []]) (E := [.q0 _, .ef 0 none _ _, .q0 _, .c0 _, .q0 _, .q0 _, .q0 _, .al ((fun p => .pointer (some ⟨p, 0, none⟩)), _) 8, .s0 7 (.cells _ _), .q0 _]) [(B, _)] (by kernel_rfl) rfl (by kernel_rfl) rfl (x1_w hp) x1_d (x1_e (S := [.q [], .ef 0 none, .q [], .q [], .q [], .q [], .q [], .al 8, .st 7 [], .q []]) rfl rfl)
  intro th hge hne
  refine Seg.sq ?_
  refine Seg.step _ rfl ⟨by rfl, fun U g0 o0 o1 hx hc hU hg => ?_⟩ ?_
  · have hx2 := Option.some.inj hx
    cases hx2
    have hc2 := Option.some.inj hc
    cases hc2
    clear hx hc
    go_simp
    exact vp_eff (h1.out _ hg (els_keep1 hE1.out hU.1 hnB.out))
  refine Seg.sa ?_
  refine Seg.sq ?_ (ht := Or.inl ⟨by rfl, fun U hU => vp_quiet (by (have h0 := held_cell (keep1 hU.1 (by omega) r_p0_0) 0 _ rfl; have h1 := held_cell (keep1 hU.1 (by omega) r_p0_0) 1 _ rfl; have h2 := held_cell (keep1 hU.1 (by omega) r_p0_0) 2 _ rfl; have h3 := held_cell (keep1 hU.1 (by omega) r_p0_0) 3 _ rfl; have h4 := held_cell (keep1 hU.1 (by omega) r_p0_0) 4 _ rfl; go_simp <;> exact rfl))⟩)
  refine Seg.step _ rfl (Or.inl ⟨by rfl, fun U hU => ?_⟩) ?_
  · go_simp
    refine vp_call (kT.out _)
  refine Seg.sa ?_
  iterate 3 refine Seg.sq ?_
  refine Seg.step _ rfl ⟨by rfl, fun U hU => ?_⟩ ?_
  · go_simp; exact vp_alloc rfl rfl rfl
  refine Seg.sa ?_
  refine Seg.step _ rfl ⟨by rfl, fun U z k hz hU hc => ?_⟩ ?_
  · have hz2 := Option.some.inj hz
    cases hz2; clear hz
    exact vp_store_agg _ _ _ rfl hc rfl rfl (by kernel_rfl) rfl (by rfl)
  refine Seg.sa ?_
  refine Seg.sq ?_
  refine Seg.stop (fun U2 hU hk hX => ?_)
  have nb7 := hge 7 _ _ rfl
  have rb7 := (hk 7 _ 8 rfl trivial).1.1 trivial _ (Nat.zero_le _) rfl
  have rx := Seg.end1 hX (S := [.q [], .ef 0 none, .q [], .q [], .q [], .q [], .q [], .al 8, .st 7 [], .q []]) rfl 0 1 (by rfl) rfl rfl
  clear hX
  clear hk hge hne
  generalize th (0 + 7) = p3_7 at *
  simp only [Ent.obj] at rb7
  clear hp
  have hp := rx
  clear rx
  replace r_p0_0 := keep1 hU (by omega) r_p0_0
  replace r_p0_1 := keep1 hU (by omega) r_p0_1
  have r_p3_7 := rb7
  clear rb7
  have n_p3_7 := nb7
  clear nb7
  have sz2 := keep1_size hU
  have hE5 := eff_base1 hU
  have hef2 := hid (eff_trans24 hef.out hE5)
  clear hE5 hU hef hE1
  have hb0 : p0_1 ≠ B := by omega
  have hb1 : p3_7 ≠ B := by omega
  replace hp := hid hp
  have rp1 := hid r_p0_1
  have rp7 := hid r_p3_7
  clear r_p0_0 r_p0_1 r_p3_7
  go_wp2_with fail
  refine (kk.out _ hp.out).mono ?_
  rintro r V ⟨rfl, hq, hK, hN⟩
  have hef3 := hid (eff_trans24 hef2.out (eff_only24 hN))
  have q1 := (hN.block _ hb0).trans rp1.out
  have q7 := (hN.block _ hb1).trans rp7.out
  clear hK hN hef2 rp1 rp7 hp
  replace hq := hid hq
  have x0 := held_cell q7 0 _ rfl
  have x1 := held_cell q7 1 _ rfl
  have z0 := held_cell q1 0 _ rfl
  have z1 := held_cell q1 1 _ rfl
  have g0 := held_free q1 0
  have g1 := held_free q1 1
  obtain ⟨W9, hW9, ya, yO⟩ := st2 q1 (.bool ti) (.int .i64 tn)
  have hef4 := hid (eff_new24 hef3.out yO (by omega))
  have hp9 := hid ((yO.block B (by omega)).trans hq.out)
  have ez0 := held_cell ya 0 _ rfl
  have ez1 := held_cell ya 1 _ rfl
  clear ya yO q1 q7 hq hef3
  have hEl := hid (h2.out _ (els_eff24 hE0.out hef4.out hnB.out))
  go_wp2_with fail
  refine bodyPost_ret (v := .agg #[.bool ti, .int .i64 tn]) (by simp [results, Tryd.results39, go_sem, ez0, ez1]) rfl ⟨rfl, ⟨a2, cap2, ?_, ?_, h3.out⟩, hef4.out⟩
  · first | exact hp9.out | (rw [hrn.out]; exact hp9.out)
  · first | exact hEl.out | (rw [hrn.out]; exact hEl.out)
end Go.Proofs.YtobgibmpodggkaaDoor
