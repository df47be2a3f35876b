/- Rows of fields: the papers', read. -/
import Derived.Test.YtobgibmpodggkaaGreatDoorRow3
import Derived.Test.YtobgibmpodggkaaGreatDoorRow4
import Derived.Test.YtobgibmpodggkaaGreatDoorDec8
import Derived.Test.YtobgibmpodggkaaGreatDoorDec12
import Derived.Deep.DeepCutAuto
namespace Go.Proofs.YtobgibmpodggkaaGreatDoor
open Go.ChangeShapes Go.WideShapes Go.ChangeAt Go.RowKit
set_option linter.unusedVariables false
set_option linter.unusedSimpArgs false

/-- Texts stay where a block without any changes. -/
theorem els_off24 {w w' : World} {p : Nat} {a : Option Addr} {len cap : Nat} {F : List ByteArray} {v : Bool} {n : Int} {T : TypeId} (h : Els w 1 a len cap (strV23 F)) (hp : w.heap[p]? = some (.cells #[.bool v, .int .i64 n] T (0, 0))) (k : Only p w w') : Els w' 1 a len cap (strV23 F) := by
  refine ⟨h.1, h.2.1, h.2.2.1, h.2.2.2.1, fun i x hx => ?_⟩
  · obtain ⟨h1, b, off, e, hc⟩ := h.2.2.2.2 i x hx
    refine ⟨h1, b, off, e, fun j u hj => ?_⟩
    have hb : b ≠ p := by
      intro e2
      subst e2
      have hc2 := hc j u hj
      rw [cell_of_row w b (off + i * 1 + j) _ T (0, 0) hp] at hc2
      obtain ⟨f, -, rfl⟩ : ∃ f, f ∈ F ∧ strC23 f = x := by
        have := List.mem_of_getElem? hx
        exact List.mem_map.1 this
      have hu : u = .string f := by
        match j, hj with
        | 0, hj => simpa [strC23] using hj.symm
        | j + 1, hj => simp [strC23] at hj
      subst hu
      generalize off + i * 1 + j = q at hc2
      match q, hc2 with
      | 0, hc2 => simp at hc2
      | 1, hc2 => simp at hc2
      | q + 2, hc2 => simp at hc2
    exact (World.cell?_of_block (w := w) (a := ⟨b, off + i * 1 + j, none⟩) (k.block b hb)).trans (hc j u hj)
theorem RowR.off {w w' : World} {B p : Nat} {e : Int} {L : List ByteArray} {v : Bool} {n : Int} (h : RowR w B e L) (k : Only p w w') (hp : w.heap[p]? = some (.cells #[.bool v, .int .i64 n] 46 (0, 0))) : RowR w' B e L := by
  obtain ⟨F, a, cap, i, h1, h2, h3, h4, h5, h6⟩ := h
  have hb : B ≠ p := by
    intro e2
    subst e2
    rw [h4] at hp
    cases hp
  exact ⟨F, a, cap, i, h1, h2, h3, (k.block B hb).trans h4, els_off24 h5 hp k, h6⟩
set_option maxRecDepth 100000 in
set_option maxHeartbeats 2000000 in
theorem rleft_any (B : Nat) (e : Int) (L : List ByteArray) (w : World) (hP : RowR w B e L) : Calls Tryz.prog 28 #[.pointer (some ⟨B, 0, none⟩)] w fun r w' => r = .returned (.int .i64 (L.length : Int)) ∧ After w w' := by
  obtain ⟨F, a, cap, i, rfl, h2, h3, h4, h5, h6⟩ := hP
  have hlen := hid (show (F.drop i).length = F.length - i from List.length_drop ..)
  generalize F.length = n at *
  have e1 : IntKind.i64.wrap ((n : Int) - (i : Int)) = (n : Int) - (i : Int) := by simp [IntKind.wrap, IntKind.bits, IntKind.signed]; omega
  have hv : ((n - i : Nat) : Int) = (n : Int) - (i : Int) := by omega
  replace hv := hid hv
  have hp := hid h4
  clear h4 h5 h6
  go_enter Tryz.func28, Tryz.ntmps28
  go_upto_region 0 with (fail)
  go_upto_region 1 with (fail)
  apply wp_region_seg (w := w) (S := [.q [], .q [], .q [], .q [], .q [], .q [], .q [], .q [], .q [], .q [], .q []]) (E := [.q0 _, .q0 _, .q0 _, .q0 _, .q0 _, .q0 _, .q0 _, .q0 _, .q0 _, .q0 _, .q0 _]) (by kernel_rfl) rfl (by kernel_rfl) rfl rfl
  intro th hge hne
  iterate 3 refine Seg.sq ?_
  refine Seg.sq ?_ (ht := Or.inl ⟨by rfl, fun U hU => vp_quiet (by (have h0 := held_cell (held_after hU.1 hp.out) 0 _ rfl; go_simp <;> exact rfl))⟩)
  iterate 4 refine Seg.sq ?_
  refine Seg.sq ?_ (ht := Or.inl ⟨by rfl, fun U hU => vp_quiet (by (have h0 := held_cell (held_after hU.1 hp.out) 1 _ rfl; go_simp <;> exact rfl))⟩)
  refine Seg.sq ?_
  refine Seg.sq ?_
  refine Seg.stop (fun U1 hU hk => ?_)
  clear hk hge hne
  have sz1 := hU.size
  have hB : Below w.heap.size w U1 := hU
  clear hU
  go_wp2_with fail
  go_ret
  exact ⟨by rw [hlen.out, hv.out]; rfl, hB⟩
set_option maxRecDepth 100000 in
set_option maxHeartbeats 4000000 in
theorem rtt_raw (B : Nat) (e : Int) (F : List ByteArray) (a : Option Addr) (cap i n : Nat) (hn : F.length = n) (hi : i ≤ n) (hl : n ≤ 1000) (hne : ∀ x, a = some x → x.block ≠ B) : ∃ i2 : Nat, i2 ≤ n ∧ (txS e (F.drop i)).2.2 = F.drop i2 ∧ ∀ U : World, U.heap[B]? = some (.cells #[.slice a n cap, .int .i64 ((i : Nat) : Int), .int .i64 e] 58 (0, 0)) → Els U 1 a n cap (strV23 F) → Calls Tryz.prog 42 #[.pointer (some ⟨B, 0, none⟩)] U fun r U' => r = .returned (.string (txS e (F.drop i)).1) ∧ Eff B U U' ∧ U'.heap[B]? = some (.cells #[.slice a n cap, .int .i64 ((i2 : Nat) : Int), .int .i64 (txS e (F.drop i)).2.1] 58 (0, 0)) := by
  by_cases c : i < n
  case neg =>
    have e0 : F.drop i = [] := List.drop_eq_nil_of_le (by omega)
    rw [e0]
    dsimp only [txS]
    refine ⟨i, hi, e0.symm, fun U hp hE => ?_⟩
    have kk := hid (fun W h => rfirst_raw 0 B 58 (.slice a n cap) (.int .i64 ((i : Nat) : Int)) e 3 W h (Nat.zero_le _))
    replace hp := hid hp
    have b1 : decide ((n : Int) ≤ (i : Int)) = true := by simp; omega
    clear hE hne hn e0
    go_enter Tryz.func42, Tryz.ntmps42
    go_upto_region 0 with (fail)
    go_upto_region 1 with (fail)
    apply wp_region_seg (w := U) (S := [.q [], .q [], .q [], .q [], .q [], .q [], .q [], .q [], .q [], .q []]) (E := [.q0 _, .q0 _, .q0 _, .q0 _, .q0 _, .q0 _, .q0 _, .q0 _, .q0 _, .q0 _]) (by kernel_rfl) rfl (by kernel_rfl) rfl rfl
    intro th hge hne
    iterate 3 refine Seg.sq ?_
    refine Seg.sq ?_ (ht := Or.inl ⟨by rfl, fun U hU => vp_quiet (by (have h0 := held_cell (held_after hU.1 hp.out) 1 _ rfl; go_simp <;> exact rfl))⟩)
    iterate 3 refine Seg.sq ?_
    refine Seg.sq ?_ (ht := Or.inl ⟨by rfl, fun U hU => vp_quiet (by (have h0 := held_cell (held_after hU.1 hp.out) 0 _ rfl; go_simp <;> exact rfl))⟩)
    refine Seg.sq ?_
    refine Seg.sq ?_
    refine Seg.stop (fun U1 hU hk => ?_)
    clear hk hge hne
    have sz1 := hU.size
    have hB : Below U.heap.size U U1 := hU
    clear hU
    have hp2 := hid (held_after hB hp.out)
    replace hB := hid hB
    go_wp2_with fail
    refine (kk.out _ hp2.out).mono ?_
    rintro r V ⟨rfl, hq, hK, hN⟩
    replace hq := hid hq
    have hef := hid (eff_trans24 (eff_after24 (g := B) hB.out) (eff_only24 hN))
    clear hK hN
    go_wp2_with fail
    go_ret
    exact ⟨rfl, hef.out, hq.out⟩
  case pos =>
    have hlt : i < F.length := by omega
    obtain ⟨s, hs⟩ : ∃ s, F[i] = s := ⟨_, rfl⟩
    have e0 : F.drop i = s :: F.drop (i + 1) := by rw [← hs]; exact List.drop_eq_getElem_cons hlt
    have e1 : F[i]? = some s := by rw [← hs]; exact List.getElem?_eq_getElem hlt
    rw [e0]
    dsimp only [txS]
    refine ⟨i + 1, by omega, rfl, fun U hp hE => ?_⟩
    obtain ⟨b, off, rfl, hc1⟩ := hE.at1 (i := i) (v0 := .string s) (by unfold strV23; rw [List.getElem?_map, e1]; rfl)
    have hnb : b ≠ B := hne _ rfl
    have b1 : decide ((n : Int) ≤ (i : Int)) = false := by simp; omega
    have b2 : (0 : Int) ≤ (i : Int) := by omega
    have b3 : (i : Int) < (n : Int) := by omega
    have e3 : IntKind.i64.wrap ((i : Int) + 1) = (i : Int) + 1 := by simp [IntKind.wrap, IntKind.bits, IntKind.signed]; omega
    have e4 : IntKind.i64.wrap (i : Int) = (i : Int) := by simp [IntKind.wrap, IntKind.bits, IntKind.signed]; omega
    have e5 : ((i + 1 : Nat) : Int) = (i : Int) + 1 := by omega
    have hcx := hid hc1
    replace hp := hid hp
    replace e5 := hid e5
    clear hE hc1 hs e0 e1 hlt hn
    go_enter Tryz.func42, Tryz.ntmps42
    go_upto_region 0 with (fail)
    go_upto_region 1 with (fail)
    apply wp_region_seg (w := U) (S := [.q [], .q [], .q [], .q [], .q [], .q [], .q [], .q [], .q [], .q []]) (E := [.q0 _, .q0 _, .q0 _, .q0 _, .q0 _, .q0 _, .q0 _, .q0 _, .q0 _, .q0 _]) (by kernel_rfl) rfl (by kernel_rfl) rfl rfl
    intro th hge hne
    iterate 3 refine Seg.sq ?_
    refine Seg.sq ?_ (ht := Or.inl ⟨by rfl, fun U hU => vp_quiet (by (have h0 := held_cell (held_after hU.1 hp.out) 1 _ rfl; go_simp <;> exact rfl))⟩)
    iterate 3 refine Seg.sq ?_
    refine Seg.sq ?_ (ht := Or.inl ⟨by rfl, fun U hU => vp_quiet (by (have h0 := held_cell (held_after hU.1 hp.out) 0 _ rfl; go_simp <;> exact rfl))⟩)
    refine Seg.sq ?_
    refine Seg.sq ?_
    refine Seg.stop (fun U1 hU hk => ?_)
    clear hk hge hne
    have sz1 := hU.size
    have hB : Below U.heap.size U U1 := hU
    clear hU
    have hp2 := held_after hB hp.out
    have hc2 := After.cellB hB hcx.out
    have z0 := held_cell hp2 1 _ rfl
    have z1 := held_free hp2 1
    obtain ⟨S1, hS1, s1, o1⟩ := st1 hp2 1 (.int .i64 ((i : Int) + 1))
    have hc3 : S1.cell? ⟨b, off + i, none⟩ = some (.string s) := (World.cell?_of_block (w := U1) (a := ⟨b, off + i, none⟩) (o1.block b hnb)).trans hc2
    have hef := hid (eff_trans24 (eff_after24 (g := B) hB) (eff_only24 o1))
    have hB1 := hid (Below.refl S1.heap.size S1)
    replace s1 := hid s1
    replace hc3 := hid hc3
    clear hp2 hc2 o1 hB hcx
    go_upto_region 5 with (fail)
    apply wp_region_seg (w := S1) (S := [.q [], .q [], .q [], .q [], .q [], .q [], .q [], .q [], .q [], .q [], .q [], .q []]) (E := [.q0 _, .q0 _, .q0 _, .q0 _, .q0 _, .q0 _, .q0 _, .q0 _, .q0 _, .q0 _, .q0 _, .q0 _]) (by kernel_rfl) rfl (by kernel_rfl) rfl rfl
    intro th hge hne
    iterate 3 refine Seg.sq ?_
    refine Seg.sq ?_ (ht := Or.inl ⟨by rfl, fun U hU => vp_quiet (by (have h0 := held_cell (held_after hU.1 s1.out) 0 _ rfl; go_simp <;> exact rfl))⟩)
    iterate 3 refine Seg.sq ?_
    refine Seg.sq ?_ (ht := Or.inl ⟨by rfl, fun U hU => vp_quiet (by (have h0 := held_cell (held_after hU.1 s1.out) 1 _ rfl; go_simp <;> exact rfl))⟩)
    refine Seg.sq ?_
    refine Seg.sq ?_
    refine Seg.sq ?_ (ht := Or.inl ⟨by rfl, fun U hU => vp_quiet (by (have hcU := After.cellB hU.1 hc3.out; go_simp <;> exact rfl))⟩)
    refine Seg.sq ?_
    refine Seg.stop (fun U2 hU hk => ?_)
    clear hk hge hne
    have sz2 := hU.size
    have hB : Below S1.heap.size S1 U2 := hU
    clear hU
    have hq := held_after hB s1.out
    replace hef := hid (eff_trans24 hef.out (eff_after24 (g := B) hB))
    replace hq := hid hq
    go_wp2_with fail
    go_ret
    exact ⟨rfl, hef.out, by rw [e5.out]; exact hq.out⟩
theorem rtaketext_any (B : Nat) (e : Int) (L : List ByteArray) (w : World) (hP : RowR w B e L) : Calls Tryz.prog 42 #[.pointer (some ⟨B, 0, none⟩)] w fun r w' => r = .returned (.string (txS e L).1) ∧ RowR w' B (txS e L).2.1 (txS e L).2.2 ∧ Eff B w w' := by
  obtain ⟨F, a, cap, i, rfl, h2, h3, h4, h5, h6⟩ := hP
  obtain ⟨i2, g1, g2, g3⟩ := rtt_raw B e F a cap i F.length rfl h2 h3 h6
  refine (g3 w h4 h5).mono ?_
  rintro r V ⟨rfl, hef, hq⟩
  exact ⟨rfl, ⟨F, a, cap, i2, g2, g1, h3, hq, els_eff24 h5 hef h6, h6⟩, hef⟩
set_option maxRecDepth 100000 in
set_option maxHeartbeats 8000000 in
theorem rtakenum_any (B : Nat) (e : Int) (L : List ByteArray) (W M F lo hi : Int) (w : World) (hP : RowR w B e L) (hs : ∀ s ∈ L, s.size ≤ 1000) (hlb : (-9223372036854775808 ≤ lo ∧ lo ≤ 9223372036854775807) ∧ (-9223372036854775808 ≤ hi ∧ hi ≤ 9223372036854775807)) : Calls Tryz.prog 26 #[.pointer (some ⟨B, 0, none⟩), .agg #[.int .i64 W, .int .i64 M, .int .i64 F, .int .i64 lo, .int .i64 hi]] w fun r w' => r = .returned (.agg #[.bool (nmS e L W M F lo hi).1.1, .int .i64 (nmS e L W M F lo hi).1.2]) ∧ RowR w' B (nmS e L W M F lo hi).2.1 (nmS e L W M F lo hi).2.2 ∧ Eff B w w' := by
  have hsz := (txS_size (e := e) hs).1
  obtain ⟨G, a, cap, i, hL, h2, h3, hp, hE, hnB⟩ := hP
  obtain ⟨i2, g1, g2, h1⟩ := rtt_raw B e G a cap i G.length rfl h2 h3 hnB
  rw [← hL] at g2 h1
  obtain ⟨⟨s, e1, R⟩, htx⟩ : ∃ r, txS e L = r := ⟨_, rfl⟩
  obtain ⟨⟨ti, tn, x⟩, htd⟩ : ∃ r, takD s W M F lo hi = r := ⟨_, rfl⟩
  have hnm : nmS e L W M F lo hi = ((ti, tn), kp e1 x, R) := by unfold nmS; rw [htx]; dsimp only; rw [htd]
  rw [hnm]
  rw [htx] at h1 g2 hsz
  dsimp only at h1 g2 hsz ⊢
  have kT := hid (fun U => htd ▸ rtake23_any s W M F lo hi U hsz hlb)
  dsimp only at kT
  obtain ⟨gn, hgn⟩ : ∃ n, G.length = n := ⟨_, rfl⟩
  rw [hgn] at h1 hp hE h2 h3 g1
  have kk := hid (fun W h => rfirst_raw 0 B 58 (.slice a gn cap) (.int .i64 ((i2 : Nat) : Int)) e1 x W h (Nat.zero_le _))
  clear hnm htx htd hs hL
  replace hgn := hid hgn
  have hlt := held_lt hp
  have hE0 := hid hE
  replace h1 := hid h1
  replace hnB := hid hnB
  replace g2 := hid g2
  go_enter Tryz.func26, Tryz.ntmps26
  go_upto_region 0 with (fail)
  apply wp_region_seg0 (w := w) (S := [.al 1000, .al 1000]) (E := [.al ((fun p => .pointer (some ⟨p, 0, none⟩)), _) 1000, .al ((fun p => .pointer (some ⟨p, 0, none⟩)), _) 1000]) rfl (by kernel_rfl) rfl rfl
  intro th hge hne
  refine Seg.step _ rfl ⟨by rfl, fun U hU => ?_⟩ ?_
  · go_simp; exact vp_alloc rfl rfl rfl
  refine Seg.sa ?_
  refine Seg.step _ rfl ⟨by rfl, fun U hU => ?_⟩ ?_
  · go_simp; exact vp_alloc rfl rfl rfl
  refine Seg.sa ?_
  refine Seg.stop (fun U1 hU hk => ?_)
  have nb0 := hge 0 _ _ rfl
  have rb0 := (hk 0 _ _ rfl trivial).1.2 (by simp)
  have nb1 := hge 1 _ _ rfl
  have rb1 := (hk 1 _ _ rfl trivial).1.2 (by simp)
  have ne0_1 := hne 0 1 _ _ _ _ rfl rfl (by omega)
  clear hk hge hne
  generalize th (0 + 0) = p0_0 at *
  dsimp only at rb0
  generalize th (0 + 1) = p0_1 at *
  dsimp only at rb1
  replace hp := held_after hU hp
  have r_p0_0 := rb0
  clear rb0
  have n_p0_0 := nb0
  clear nb0
  have d_p0_0_p0_1 := ne0_1
  clear ne0_1
  have r_p0_1 := rb1
  clear rb1
  have n_p0_1 := nb1
  clear nb1
  have sz1 := hU.size
  have hB : Below w.heap.size w U1 := hU
  clear hU
  have hE1 := hid (hE.below hB)
  clear hE
  have hef := hid (eff_after24 (g := B) hB)
  clear hB
  go_upto_region 1 with (fail)
  apply wp_region_segX (w := U1) (S := [.q [], .ef 0 none, .q [], .q [], .q [], .q [], .q [], .al 8, .st 7 [], .q []]) (E := [.q0 _, .ef 0 none _ _, .q0 _, .c0 _, .q0 _, .q0 _, .q0 _, .al ((fun p => .pointer (some ⟨p, 0, none⟩)), _) 8, .s0 7 (.cells _ _), .q0 _]) [(B, _)] (by kernel_rfl) rfl (by kernel_rfl) rfl (x1_w hp) x1_d (x1_e (S := [.q [], .ef 0 none, .q [], .q [], .q [], .q [], .q [], .al 8, .st 7 [], .q []]) rfl rfl)
  intro th hge hne
  refine Seg.sq ?_
  refine Seg.step _ rfl ⟨by rfl, fun U g0 o0 o1 hx hc hU hg => ?_⟩ ?_
  · have hx2 := Option.some.inj hx
    cases hx2
    have hc2 := Option.some.inj hc
    cases hc2
    clear hx hc
    go_simp
    exact vp_eff (h1.out _ hg (els_keep1 hE1.out hU.1 hnB.out))
  refine Seg.sa ?_
  refine Seg.sq ?_ (ht := Or.inl ⟨by rfl, fun U hU => vp_quiet (by (have h0 := held_cell (keep1 hU.1 (by omega) r_p0_0) 0 _ rfl; have h1 := held_cell (keep1 hU.1 (by omega) r_p0_0) 1 _ rfl; have h2 := held_cell (keep1 hU.1 (by omega) r_p0_0) 2 _ rfl; have h3 := held_cell (keep1 hU.1 (by omega) r_p0_0) 3 _ rfl; have h4 := held_cell (keep1 hU.1 (by omega) r_p0_0) 4 _ rfl; go_simp <;> exact rfl))⟩)
  refine Seg.step _ rfl (Or.inl ⟨by rfl, fun U hU => ?_⟩) ?_
  · go_simp
    refine vp_call (kT.out _)
  refine Seg.sa ?_
  iterate 3 refine Seg.sq ?_
  refine Seg.step _ rfl ⟨by rfl, fun U hU => ?_⟩ ?_
  · go_simp; exact vp_alloc rfl rfl rfl
  refine Seg.sa ?_
  refine Seg.step _ rfl ⟨by rfl, fun U z k hz hU hc => ?_⟩ ?_
  · have hz2 := Option.some.inj hz
    cases hz2; clear hz
    exact vp_store_agg _ _ _ rfl hc rfl rfl (by kernel_rfl) rfl (by rfl)
  refine Seg.sa ?_
  refine Seg.sq ?_
  refine Seg.stop (fun U2 hU hk hX => ?_)
  have nb7 := hge 7 _ _ rfl
  have rb7 := (hk 7 _ 8 rfl trivial).1.1 trivial _ (Nat.zero_le _) rfl
  have rx := Seg.end1 hX (S := [.q [], .ef 0 none, .q [], .q [], .q [], .q [], .q [], .al 8, .st 7 [], .q []]) rfl 0 1 (by rfl) rfl rfl
  clear hX
  clear hk hge hne
  generalize th (0 + 7) = p1_7 at *
  simp only [Ent.obj] at rb7
  clear hp
  have hp := rx
  clear rx
  replace r_p0_0 := keep1 hU (by omega) r_p0_0
  replace r_p0_1 := keep1 hU (by omega) r_p0_1
  have r_p1_7 := rb7
  clear rb7
  have n_p1_7 := nb7
  clear nb7
  have sz2 := keep1_size hU
  have hE5 := eff_base1 hU
  have hef2 := hid (eff_trans24 hef.out hE5)
  clear hE5 hU hef hE1
  have hb0 : p0_1 ≠ B := by omega
  have hb1 : p1_7 ≠ B := by omega
  replace hp := hid hp
  have rp1 := hid r_p0_1
  have rp7 := hid r_p1_7
  clear r_p0_0 r_p0_1 r_p1_7
  go_wp2_with fail
  refine (kk.out _ hp.out).mono ?_
  rintro r V ⟨rfl, hq, hK, hN⟩
  have hef3 := hid (eff_trans24 hef2.out (eff_only24 hN))
  have q1 := (hN.block _ hb0).trans rp1.out
  have q7 := (hN.block _ hb1).trans rp7.out
  clear hK hN hef2 rp1 rp7 hp
  replace hq := hid hq
  have x0 := held_cell q7 0 _ rfl
  have x1 := held_cell q7 1 _ rfl
  have z0 := held_cell q1 0 _ rfl
  have z1 := held_cell q1 1 _ rfl
  have g0 := held_free q1 0
  have g3 := held_free q1 1
  obtain ⟨W9, hW9, ya, yO⟩ := st2 q1 (.bool ti) (.int .i64 tn)
  have hef4 := hid (eff_new24 hef3.out yO (by omega))
  have hp9 := hid ((yO.block B (by omega)).trans hq.out)
  have ez0 := held_cell ya 0 _ rfl
  have ez1 := held_cell ya 1 _ rfl
  clear ya yO q1 q7 hq hef3
  have hEl := hid (els_eff24 hE0.out hef4.out hnB.out)
  go_wp2_with fail
  refine bodyPost_ret (v := .agg #[.bool ti, .int .i64 tn]) (by simp [results, Tryz.results26, go_sem, ez0, ez1]) rfl ⟨rfl, ⟨G, a, cap, i2, g2.out, by rw [hgn.out]; exact g1, by rw [hgn.out]; exact h3, by rw [hgn.out]; exact hp9.out, by rw [hgn.out]; exact hEl.out, hnB.out⟩, hef4.out⟩
end Go.Proofs.YtobgibmpodggkaaGreatDoor
