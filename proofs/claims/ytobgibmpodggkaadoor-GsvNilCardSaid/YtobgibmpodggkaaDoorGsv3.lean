/- Package gsv: what is put, the papers'. -/
import Derived.Test.YtobgibmpodggkaaDoorGsv2
import Derived.Test.YtobgibmpodggkaaDoorGS
import Derived.Laws.Tables
import Derived.Deep.DeepCutAuto
namespace Go.Proofs.YtobgibmpodggkaaDoor
open Go.ChangeShapes Go.WideShapes Go.ChangeAt Go.RowKit
set_option linter.unusedVariables false
set_option linter.unusedSimpArgs false

/-- A papers' row that is written, the message and the columns beside it. -/
structure RGv (W0 : World) (B mb pc : Nat) (M C : Array Value) (e : Int) (L : List ByteArray) (W : World) : Prop where
  pen : RowW W W0.heap.size B e L
  m : W.heap[mb]? = some (.cells M 24 (0, 0))
  c : W.heap[pc]? = some (.cells C 66 (0, 0))
  bel : After W0 W
  nm : mb ≠ B
  nc : pc ≠ B
  hb : W0.heap.size ≤ B
theorem RGv.eff {W0 : World} {B mb pc : Nat} {M C : Array Value} {e e' : Int} {L L' : List ByteArray} {W W' : World} (h : RGv W0 B mb pc M C e L W) (hP : RowW W' W0.heap.size B e' L') (hK : PEff W0.heap.size B 0 W W') : RGv W0 B mb pc M C e' L' W' :=
  ⟨hP, h.pen.besides hK h.m h.nm (by decide), h.pen.besides hK h.c h.nc (by decide), (show Below W0.heap.size W0 W from h.bel).trans hK.below, h.nm, h.nc, h.hb⟩
theorem RGv.below {W0 : World} {B mb pc : Nat} {M C : Array Value} {e : Int} {L : List ByteArray} {W W' : World} (h : RGv W0 B mb pc M C e L W) (hA : After W W') : RGv W0 B mb pc M C e L W' :=
  ⟨h.pen.aft hA, held_after hA h.m, held_after hA h.c, bthen h.bel hA, h.nm, h.nc, h.hb⟩
theorem els8_at {w : World} {b off len cap i : Nat} {xs : List (List Value)} {v0 v1 v2 v3 v4 v5 v6 v7 : Value} (h : Els w 8 (some ⟨b, off, none⟩) len cap xs) (hx : xs[i]? = some [v0, v1, v2, v3, v4, v5, v6, v7]) : w.cell? ⟨b, off + i * 8, none⟩ = some v0 ∧ w.cell? ⟨b, off + i * 8 + 1, none⟩ = some v1 ∧ w.cell? ⟨b, off + i * 8 + 2, none⟩ = some v2 ∧ w.cell? ⟨b, off + i * 8 + 3, none⟩ = some v3 ∧ w.cell? ⟨b, off + i * 8 + 4, none⟩ = some v4 ∧ w.cell? ⟨b, off + i * 8 + 5, none⟩ = some v5 ∧ w.cell? ⟨b, off + i * 8 + 6, none⟩ = some v6 ∧ w.cell? ⟨b, off + i * 8 + 7, none⟩ = some v7 := by
  obtain ⟨b2, off2, e, hr⟩ := h.at8 hx
  cases e
  exact hr
theorem dg_two (tt no : Int) : kp (kp 0 (dgV tt 9).2) (dgP no 1 (max (min tt 9) 0)).2 = kp (kp 0 (dgV tt 9).2) (dgV no tt).2 ∧ (kp (kp 0 (dgV tt 9).2) (dgV no tt).2 = 0 → dgP no 1 (max (min tt 9) 0) = dgV no tt) := by
  by_cases c : tt < 1 ∨ 9 < tt
  · have h : (dgV tt 9).2 = 5 := by unfold dgV; rw [if_pos c]
    rw [h]
    exact ⟨rfl, fun h0 => absurd (show (5 : Int) = 0 from h0) (by decide)⟩
  · have h : max (min tt 9) 0 = tt := by omega
    rw [h, dgV_P (show tt ≤ 9 by omega)]
    exact ⟨rfl, fun _ => rfl⟩
theorem gE9_zero {l : List (List ByteArray × Int)} : ∀ {e : Int}, gE9 e l = 0 → e = 0 := by
  induction l with
  | nil => intro e h; exact h
  | cons y l ih => intro e h; exact (kp_ok (ih (e := kp e y.2) h)).1
set_option maxRecDepth 100000 in
set_option maxHeartbeats 8000000 in
theorem rcols29_any (w : World) : Calls Tryd.prog 31 #[] w fun r w' => ∃ C, r = .returned (.slice (some ⟨C, 0, none⟩) 5 5) ∧ w'.heap[C]? = some (.cells #[.int .i64 1, .int .i64 2, .int .i64 0, .int .i64 0, .int .i64 99, .int .i64 1, .int .i64 3, .int .i64 0, .int .i64 1, .int .i64 255, .int .i64 1, .int .i64 2, .int .i64 0, .int .i64 0, .int .i64 90, .int .i64 1, .int .i64 3, .int .i64 0, .int .i64 0, .int .i64 359, .int .i64 1, .int .i64 2, .int .i64 0, .int .i64 0, .int .i64 99] 66 (0, 0)) ∧ After w w' ∧ w.heap.size ≤ C := by
  go_enter Tryd.func31, Tryd.ntmps31
  go_upto_region 0 with (fail)
  go_upto_region 1 with (fail)
  apply wp_region_seg0 (w := w) (S := [.q [], .q [], .q [], .q [], .q [], .al 1000, .q [5]]) (E := [.q0 _, .q0 _, .q0 _, .q0 _, .q0 _, .al ((fun p => .slice (some ⟨p, 0, none⟩) 5 5), _) 1000, .q1 5 (fun p => .slice (some ⟨p, 0, none⟩) 5 5)]) rfl (by kernel_rfl) rfl rfl
  intro th hge hne
  iterate 5 refine Seg.sq ?_
  refine Seg.step _ rfl ⟨by rfl, fun U hU => ?_⟩ ?_
  · go_simp; exact vp_alloc rfl rfl rfl
  refine Seg.sa ?_
  refine Seg.sq ?_
  refine Seg.stop (fun U1 hU hk => ?_)
  have nb5 := hge 5 _ _ rfl
  have rb5 := (hk 5 _ _ rfl trivial).1.2 (by simp)
  clear hk hge hne
  generalize th (0 + 5) = p1_5 at *
  dsimp only at rb5
  have r_p1_5 := rb5
  clear rb5
  have n_p1_5 := nb5
  clear nb5
  have sz1 := hU.size
  have hB : Below w.heap.size w U1 := hU
  clear hU
  replace r_p1_5 := hid r_p1_5
  go_wp2_with fail
  go_ret
  exact ⟨_, rfl, r_p1_5.out, hB, n_p1_5⟩
set_option maxRecDepth 100000 in
set_option maxHeartbeats 16000000 in
theorem rgvput_any (tt no sn : Int) (va : Option Addr) (vn vc : Nat) (vs : List V4) (w : World) (bs : (-9223372036854775808 ≤ sn ∧ sn ≤ 9223372036854775807)) (hv : ∀ v ∈ vs, okV v) (hS : Els w 8 va vn vc (vs.map enV)) : Calls Tryd.prog 10 #[.agg #[.int .i64 tt, .int .i64 no, .int .i64 sn, .slice va vn vc]] w fun r w' => DnOk w (gvE tt no sn vs) (fL (gvI tt no sn vs)) r w' := by
  have hlv : vs.length = vn := by have := hS.1; rw [List.length_map] at this; exact this
  replace hv := hid hv
  replace bs := hid bs
  have hmx := hS.2.2.1
  have hmm : maxLen ≤ 9223372036854775807 := by decide
  have hvc := hS.2.1
  by_cases hlong : 4 < vn
  case pos =>
    have hE : gvE tt no sn vs = 7 := by unfold gvE; rw [if_pos (by omega)]
    have b1 : decide ((4 : Int) < (vn : Int)) = true := by simp; omega
    rw [hE]
    clear hE hlv hlong
    replace hS := hid hS
    go_enter Tryd.func10, Tryd.ntmps10
    go_upto_region 0 with (fail)
    apply wp_region_seg0 (w := w) (S := [.al 1000, .q [], .q []]) (E := [.al ((fun p => .pointer (some ⟨p, 0, none⟩)), _) 1000, .q0 _, .q0 _]) rfl (by kernel_rfl) rfl rfl
    intro th hge hne
    refine Seg.step _ rfl ⟨by rfl, fun U hU => ?_⟩ ?_
    · go_simp; exact vp_alloc rfl rfl rfl
    refine Seg.sa ?_
    refine Seg.sq ?_
    refine Seg.sq ?_
    refine Seg.stop (fun U1 hU hk => ?_)
    have nb0 := hge 0 _ _ rfl
    have rb0 := (hk 0 _ _ rfl trivial).1.2 (by simp)
    clear hk hge hne
    generalize th (0 + 0) = p0_0 at *
    dsimp only at rb0
    have r_p0_0 := rb0
    clear rb0
    have n_p0_0 := nb0
    clear nb0
    have sz1 := hU.size
    have hB : Below w.heap.size w U1 := hU
    clear hU
    have c2 := held_cell r_p0_0 3 _ rfl
    clear r_p0_0
    go_wp2_with fail
    go_ret2
    exact dn_long9 _ _ _ hB
  have hEq : gvE tt no sn vs = gE9 (kp (kp (kp 0 (dgV tt 9).2) (dgV no tt).2) (putD true sn 1 2 0 0 99).2) (vs.flatMap vwI) := by unfold gvE gvI; rw [if_neg (by omega), gE9_app]; rfl
  have hLq : fL (gvI tt no sn vs) = [nb (dgV tt 9).1, nb (dgV no tt).1, nb (putD true sn 1 2 0 0 99).1] ++ fL (vs.flatMap vwI) := by unfold gvI; rw [fL9_app]; rfl
  have b1 : decide ((4 : Int) < (vn : Int)) = false := by simp; omega
  obtain ⟨EE, hEE⟩ : ∃ e, gvE tt no sn vs = e := ⟨_, rfl⟩
  obtain ⟨LL, hLL⟩ : ∃ e, fL (gvI tt no sn vs) = e := ⟨_, rfl⟩
  rw [hEE] at hEq
  rw [hLL] at hLq
  rw [hEE, hLL]
  clear hEE hLL
  obtain ⟨hd1, hd2⟩ := dg_two tt no
  have hm0 : 0 ≤ max (min tt 9) 0 ∧ max (min tt 9) 0 ≤ 9 := by omega
  obtain ⟨h9, hh9⟩ : ∃ x, max (min tt 9) 0 = x := ⟨_, rfl⟩
  rw [hh9] at hd1 hd2 hm0
  replace hEq := hid hEq
  replace hLq := hid hLq
  replace hd1 := hid hd1
  replace hd2 := hid hd2
  replace hm0 := hid hm0
  replace hlv := hid hlv
  go_enter Tryd.func10, Tryd.ntmps10
  go_upto_region 0 with (fail)
  apply wp_region_seg0 (w := w) (S := [.al 1000, .q [], .q []]) (E := [.al ((fun p => .pointer (some ⟨p, 0, none⟩)), _) 1000, .q0 _, .q0 _]) rfl (by kernel_rfl) rfl rfl
  intro th hge hne
  refine Seg.step _ rfl ⟨by rfl, fun U hU => ?_⟩ ?_
  · go_simp; exact vp_alloc rfl rfl rfl
  refine Seg.sa ?_
  refine Seg.sq ?_
  refine Seg.sq ?_
  refine Seg.stop (fun U1 hU hk => ?_)
  have nb0 := hge 0 _ _ rfl
  have rb0 := (hk 0 _ _ rfl trivial).1.2 (by simp)
  clear hk hge hne
  generalize th (0 + 0) = p0_0 at *
  dsimp only at rb0
  have r_p0_0 := rb0
  clear rb0
  have n_p0_0 := nb0
  clear nb0
  have sz1 := hU.size
  have hB : Below w.heap.size w U1 := hU
  clear hU
  have hlg := held_lt r_p0_0
  have hSU := hid (hS.below hB)
  clear hS
  have c3 := held_cell r_p0_0 3 _ rfl
  have hBU := hid hB
  clear hB
  go_wp2_with fail
  refine (rcols29_any _).mono ?_
  rintro r V ⟨pc, rfl, rc, hA, hlC⟩
  replace r_p0_0 := held_after hA r_p0_0
  replace rc := hid rc
  clear c3
  have hAV := hid hA
  have hlc := held_lt rc.out
  have hAs := hA.size
  clear hA
  go_upto_region 4 with (fail)
  apply wp_region_seg0 (w := V) (S := [.q [], .al 1000, .q [1]]) (E := [.q0 _, .al ((fun p => .pointer (some ⟨p, 0, none⟩)), _) 1000, .q1 1 (fun p => .pointer (some ⟨p, 0, none⟩))]) rfl (by kernel_rfl) rfl rfl
  intro th hge hne
  refine Seg.sq ?_
  refine Seg.step _ rfl ⟨by rfl, fun U hU => ?_⟩ ?_
  · go_simp; exact vp_alloc rfl rfl rfl
  refine Seg.sa ?_
  refine Seg.sq ?_
  refine Seg.stop (fun U2 hU hk => ?_)
  have nb1 := hge 1 _ _ rfl
  have rb1 := (hk 1 _ _ rfl trivial).1.2 (by simp)
  clear hk hge hne
  generalize th (0 + 1) = p4_1 at *
  dsimp only at rb1
  replace r_p0_0 := held_after hU r_p0_0
  have r_p4_1 := rb1
  clear rb1
  have n_p4_1 := nb1
  clear nb1
  have sz2 := hU.size
  have hB : Below V.heap.size V U2 := hU
  have h : RGv U1 p4_1 p0_0 pc #[.int .i64 tt, .int .i64 no, .int .i64 sn, .slice va vn vc] #[.int .i64 1, .int .i64 2, .int .i64 0, .int .i64 0, .int .i64 99, .int .i64 1, .int .i64 3, .int .i64 0, .int .i64 1, .int .i64 255, .int .i64 1, .int .i64 2, .int .i64 0, .int .i64 0, .int .i64 90, .int .i64 1, .int .i64 3, .int .i64 0, .int .i64 0, .int .i64 359, .int .i64 1, .int .i64 2, .int .i64 0, .int .i64 0, .int .i64 99] 0 [] U2 := ⟨⟨none, 0, r_p4_1, OwnE.nil _ _ _ _⟩, r_p0_0, held_after hU rc.out, bthen hAV.out hU, by omega, by omega, by omega⟩
  clear r_p4_1 r_p0_0 hU n_p4_1 hlg hlc hAs rc hlC hAV
  obtain ⟨B, hBe⟩ : ∃ B, B = p4_1 := ⟨_, rfl⟩
  subst hBe
  obtain ⟨mb, hmb⟩ : ∃ B, B = p0_0 := ⟨_, rfl⟩
  subst hmb
  have c0 := held_cell h.m 0 _ rfl
  have kt := hid (fun U hh => rputdig_any U1.heap.size B 0 [] tt 1 9 (by decide) (by decide) U hh (by simp) h.hb)
  rw [← dgV_P (show (9 : Int) ≤ 9 by decide)] at kt
  go_wp2_with fail
  refine (kt.out _ h.pen).mono ?_
  rintro r V1 ⟨rfl, hP2, hf2⟩
  replace h := h.eff hP2 hf2
  clear hP2 hf2 kt c0
  obtain ⟨e1, he1⟩ : ∃ e, kp 0 (dgV tt 9).2 = e := ⟨_, rfl⟩
  obtain ⟨L1, hL1⟩ : ∃ L, ([] ++ if (dgV tt 9).2 = 0 then [nb (dgV tt 9).1] else [] : List ByteArray) = L := ⟨_, rfl⟩
  rw [he1, hL1] at h
  have hl1 : L1.length ≤ 1 := by rw [← hL1, List.length_append]; split <;> simp
  have hz1 := hid (fun (h0 : (dgV tt 9).2 = 0) => (show L1 = [nb (dgV tt 9).1] by rw [← hL1, if_pos h0]; rfl))
  replace he1 := hid he1
  clear hL1
  have c0 := held_cell h.m 0 _ rfl
  have c1 := held_cell h.m 1 _ rfl
  have kt := hid (fun U hh => rputdig_any U1.heap.size B e1 L1 no 1 h9 (by decide) hm0.out.2 U hh (by omega) h.hb)
  go_wp2_with fail
  refine (kt.out _ h.pen).mono ?_
  rintro r V2 ⟨rfl, hP2, hf2⟩
  replace h := h.eff hP2 hf2
  clear hP2 hf2 kt c0 c1
  obtain ⟨L2, hL2⟩ : ∃ L, (L1 ++ if (dgP no 1 h9).2 = 0 then [nb (dgP no 1 h9).1] else [] : List ByteArray) = L := ⟨_, rfl⟩
  have hl2 : L2.length ≤ 2 := by rw [← hL2, List.length_append]; split <;> simp <;> omega
  rw [hL2, ← he1.out, hd1.out] at h
  obtain ⟨e2, he2⟩ : ∃ e, kp (kp 0 (dgV tt 9).2) (dgV no tt).2 = e := ⟨_, rfl⟩
  have hz2 := hid (fun (h0 : e2 = 0) => (show L2 = [nb (dgV tt 9).1, nb (dgV no tt).1] by
    have h1 := he2.trans h0
    have q := kp_ok h1
    have q1 := (kp_ok q.1).2
    rw [← hL2, hz1.out q1, hd2.out h1, if_pos q.2]
    rfl))
  rw [he2] at h
  have hEq2 := hEq.out
  rw [he2] at hEq2
  replace hEq := hid hEq2
  clear hL2 hz1 he1 hd1 hd2 hEq2
  replace he2 := hid he2
  have hm := h.m
  have hc := hid h.c
  go_upto_region 7 with (fail)
  apply wp_region_part (w := V2) (S := [.q [], .q [], .q [], .q [], .q [], .q [], .q []]) (E := [.q0 _, .q0 _, .q0 _, .q0 _, .q0 _, .q0 _, .q0 _]) 7 1 (by kernel_rfl) rfl (by kernel_rfl) rfl rfl rfl
  intro th hge hne
  refine Seg.sq ?_
  refine Seg.sq ?_
  refine Seg.sq ?_ (ht := Or.inl ⟨by rfl, fun U hU => vp_quiet (by (have h0 := held_cell (held_after hU.1 hm) 2 _ rfl; go_simp <;> exact rfl))⟩)
  iterate 3 refine Seg.sq ?_
  refine Seg.sq ?_ (ht := Or.inl ⟨by rfl, fun U hU => vp_quiet (by (have h60 := held_cell (held_after hU.1 hc.out) 0 _ rfl; have h61 := held_cell (held_after hU.1 hc.out) 1 _ rfl; have h62 := held_cell (held_after hU.1 hc.out) 2 _ rfl; have h63 := held_cell (held_after hU.1 hc.out) 3 _ rfl; have h64 := held_cell (held_after hU.1 hc.out) 4 _ rfl; go_simp <;> exact rfl))⟩)
  refine Seg.stop (fun U11 hU hk => ?_)
  clear hk hge hne
  replace hm := held_after hU hm
  replace h := h.below hU
  have sz11 := hU.size
  have hB : Below V2.heap.size V2 U11 := hU
  clear hm hc hU hB
  have kt := hid (fun U hh => rnum_any U1.heap.size B e2 L2 true sn 1 2 0 0 99 U hh (by omega) h.hb bs.out (by decide))
  refine Seg.only (m := 7) (k := 0) rfl (by kernel_rfl) (by rfl) (fun K hK => ?_)
  go_simp
  refine (kt.out _ h.pen).mono ?_
  rintro r V5 ⟨rfl, hP2, hf2⟩
  replace h := h.eff hP2 hf2
  clear hP2 hf2
  refine hK _ _ (Seg.finish ?_ _)
  clear hK kt
  obtain ⟨E3, he3⟩ : ∃ e, kp e2 (putD true sn 1 2 0 0 99).2 = e := ⟨_, rfl⟩
  obtain ⟨L3, hL3⟩ : ∃ L, L2 ++ [nb (putD true sn 1 2 0 0 99).1] = L := ⟨_, rfl⟩
  rw [he3, hL3] at h
  have hl3 : L3.length ≤ 3 := by rw [← hL3, List.length_append, List.length_singleton]; omega
  have hEq2 := hEq.out
  rw [he3] at hEq2
  replace hEq := hid hEq2
  have hz3 := hid (fun (h0 : E3 = 0) => (show L3 = [nb (dgV tt 9).1, nb (dgV no tt).1, nb (putD true sn 1 2 0 0 99).1] by rw [← hL3, hz2.out (kp_ok (he3.trans h0)).1]; rfl))
  clear he3 hL3 hEq2 hz2 he2
  go_wp2_with fail
  go_loopw [6] (fun ix wr => ∃ k : Nat, ix = .int .i64 k ∧ k ≤ vn ∧ RGv U1 B mb pc #[.int .i64 tt, .int .i64 no, .int .i64 sn, .slice va vn vc] #[.int .i64 1, .int .i64 2, .int .i64 0, .int .i64 0, .int .i64 99, .int .i64 1, .int .i64 3, .int .i64 0, .int .i64 1, .int .i64 255, .int .i64 1, .int .i64 2, .int .i64 0, .int .i64 0, .int .i64 90, .int .i64 1, .int .i64 3, .int .i64 0, .int .i64 0, .int .i64 359, .int .i64 1, .int .i64 2, .int .i64 0, .int .i64 0, .int .i64 99] (gE9 E3 ((vs.take k).flatMap vwI)) (L3 ++ fL ((vs.take k).flatMap vwI)) wr) (fun ix _ => vn - (intOf ix).toNat)
  case atStart => exact ⟨0, rfl, by omega, by simpa [gE9, fL] using h⟩
  case round =>
    clear h
    obtain ⟨k, rfl, hk, h⟩ := hrel
    by_cases hlt : (k : Int) < vn
    case neg =>
      obtain rfl : k = vn := by omega
      have e9 : vs.take k = vs := List.take_of_length_le (by have := hlv.out; omega)
      rw [e9] at h
      have hlL : (L3 ++ fL (vs.flatMap vwI)).length ≤ 1000 := by rw [List.length_append, vw_len]; have := hlv.out; omega
      have hzz : EE = 0 → L3 ++ fL (vs.flatMap vwI) = LL := fun h0 => by
        have q := gE9_zero (hEq.out.symm.trans h0)
        rw [hz3.out q, hLq.out]
      rw [← hEq.out] at h
      obtain ⟨LP, hLP⟩ : ∃ X, L3 ++ fL (vs.flatMap vwI) = X := ⟨_, rfl⟩
      rw [hLP] at h hlL hzz
      replace hzz := hid hzz
      clear hLP e9
      have c3 := held_cell h.m 3 _ rfl
      go_wp2_with fail
      refine (rdone_any U1.heap.size B EE LP _ h.pen hlL).mono ?_
      rintro r V9 ⟨a9, c9, rfl, g1, g2, g3⟩
      have hD8 := DnOk.congr26 hzz.out (show DnOk w EE LP _ V9 from ⟨a9, c9, rfl, g1, g2, bthen hBU.out (bthen h.bel g3)⟩)
      obtain ⟨n9, hn9⟩ : ∃ n, (if EE = 0 then LP else []).length = n := ⟨_, rfl⟩
      rw [hn9] at hD8 ⊢
      clear hn9 g1 g2 g3 h
      replace hD8 := hid hD8
      go_wp2_with fail
      go_ret2
      exact hD8.out
    obtain ⟨v, hvk⟩ : ∃ v, vs[k]? = some v := ⟨_, List.getElem?_eq_getElem (by have := hlv.out; omega)⟩
    have hok := hv.out v (List.mem_of_getElem? hvk)
    have hnx := vw_next E3 L3 vs k v hvk
    have hxk : (vs.map enV)[k]? = some (enV v) := by rw [List.getElem?_map, hvk]; rfl
    have hle : (L3 ++ fL ((vs.take k).flatMap vwI)).length ≤ 15 := by rw [List.length_append, vw_len, List.length_take]; omega
    obtain ⟨Ek, hEk⟩ : ∃ e, gE9 E3 ((vs.take k).flatMap vwI) = e := ⟨_, rfl⟩
    obtain ⟨Lk, hLk⟩ : ∃ l, L3 ++ fL ((vs.take k).flatMap vwI) = l := ⟨_, rfl⟩
    rw [hEk, hLk] at h hnx
    rw [hLk] at hle
    clear hEk hLk
    obtain ⟨⟨i0, m0⟩, ⟨i1, m1⟩, ⟨i2, m2⟩, i3, m3⟩ := v
    obtain ⟨o0, o1, o2, o3⟩ := hok
    dsimp only at o0 o1 o2 o3
    obtain ⟨b, off, rfl, -⟩ := (hSU.out.below h.bel).at8 hxk
    have kz : (0 : Int) ≤ k := by omega
    have wk : IntKind.i64.wrap ((k : Int) + 1) = (k : Int) + 1 := by rw [IntKind.wrap_i64]; omega
    have hk1 := hid (show k + 1 ≤ vn by omega)
    have hms := hid (show vn - (k + 1) < vn - k by omega)
    replace o0 := hid o0
    replace o1 := hid o1
    replace o2 := hid o2
    replace o3 := hid o3
    replace hnx := hid hnx
    replace hxk := hid hxk
    have c3 := held_cell h.m 3 _ rfl
    clear hvk hk
    have hm := h.m
    have hc := hid h.c
    obtain ⟨d0, d1, d2, d3, d4, d5, d6, d7⟩ := els8_at (hSU.out.below h.bel) hxk.out
    clear d2 d3 d4 d5 d6 d7
    go_upto_region 11 with (fail)
    apply wp_region_part (w := wr) (S := [.q [], .q [], .q [], .q [], .q [], .q [], .q [], .q [], .q [], .q []]) (E := [.q0 _, .q0 _, .q0 _, .q0 _, .q0 _, .q0 _, .q0 _, .q0 _, .q0 _, .q0 _]) 10 1 (by kernel_rfl) rfl (by kernel_rfl) rfl rfl rfl
    intro th hge hne
    refine Seg.sq ?_
    refine Seg.sq ?_
    refine Seg.sq ?_ (ht := Or.inl ⟨by rfl, fun U hU => vp_quiet (by (have h0 := held_cell (held_after hU.1 hm) 3 _ rfl; go_simp <;> exact rfl))⟩)
    iterate 3 refine Seg.sq ?_
    refine Seg.sq ?_ (ht := Or.inl ⟨by rfl, fun U hU => vp_quiet (by (have hx0 := After.cellB hU.1 d0; have hx1 := After.cellB hU.1 d1; go_simp <;> exact rfl))⟩)
    refine Seg.sq ?_
    refine Seg.sq ?_
    refine Seg.sq ?_ (ht := Or.inl ⟨by rfl, fun U hU => vp_quiet (by (have h60 := held_cell (held_after hU.1 hc.out) 5 _ rfl; have h61 := held_cell (held_after hU.1 hc.out) 6 _ rfl; have h62 := held_cell (held_after hU.1 hc.out) 7 _ rfl; have h63 := held_cell (held_after hU.1 hc.out) 8 _ rfl; have h64 := held_cell (held_after hU.1 hc.out) 9 _ rfl; go_simp <;> exact rfl))⟩)
    refine Seg.stop (fun U21 hU hk => ?_)
    clear hk hge hne
    replace hm := held_after hU hm
    replace h := h.below hU
    have sz21 := hU.size
    have hB : Below wr.heap.size wr U21 := hU
    clear hm hc hU hB
    have kt := hid (fun U hh => rnum_any U1.heap.size B Ek Lk i0 m0 1 3 0 1 255 U hh (by omega) h.hb o0.out (by decide))
    refine Seg.only (m := 10) (k := 0) rfl (by kernel_rfl) (by rfl) (fun K hK => ?_)
    go_simp
    refine (kt.out _ h.pen).mono ?_
    rintro r X0 ⟨rfl, hP2, hf2⟩
    replace h := h.eff hP2 hf2
    clear hP2 hf2
    refine hK _ _ (Seg.finish ?_ _)
    clear hK kt
    clear d0 d1
    clear c3
    obtain ⟨F0, hF0⟩ : ∃ e, kp Ek (putD i0 m0 1 3 0 1 255).2 = e := ⟨_, rfl⟩
    obtain ⟨K0, hK0⟩ : ∃ l, Lk ++ [nb (putD i0 m0 1 3 0 1 255).1] = l := ⟨_, rfl⟩
    rw [hF0, hK0] at h
    have hl5 : K0.length ≤ 16 := by rw [← hK0, List.length_append, List.length_singleton]; omega
    replace hF0 := hid hF0
    replace hK0 := hid hK0
    have hm := h.m
    have hc := hid h.c
    obtain ⟨d0, d1, d2, d3, d4, d5, d6, d7⟩ := els8_at (hSU.out.below h.bel) hxk.out
    clear d0 d1 d4 d5 d6 d7
    go_upto_region 12 with (fail)
    apply wp_region_part (w := X0) (S := [.q [], .q [], .q [], .q [], .q [], .q [], .q [], .q [], .q [], .q []]) (E := [.q0 _, .q0 _, .q0 _, .q0 _, .q0 _, .q0 _, .q0 _, .q0 _, .q0 _, .q0 _]) 10 1 (by kernel_rfl) rfl (by kernel_rfl) rfl rfl rfl
    intro th hge hne
    refine Seg.sq ?_
    refine Seg.sq ?_
    refine Seg.sq ?_ (ht := Or.inl ⟨by rfl, fun U hU => vp_quiet (by (have h0 := held_cell (held_after hU.1 hm) 3 _ rfl; go_simp <;> exact rfl))⟩)
    iterate 3 refine Seg.sq ?_
    refine Seg.sq ?_ (ht := Or.inl ⟨by rfl, fun U hU => vp_quiet (by (have hx0 := After.cellB hU.1 d2; have hx1 := After.cellB hU.1 d3; go_simp <;> exact rfl))⟩)
    refine Seg.sq ?_
    refine Seg.sq ?_
    refine Seg.sq ?_ (ht := Or.inl ⟨by rfl, fun U hU => vp_quiet (by (have h60 := held_cell (held_after hU.1 hc.out) 10 _ rfl; have h61 := held_cell (held_after hU.1 hc.out) 11 _ rfl; have h62 := held_cell (held_after hU.1 hc.out) 12 _ rfl; have h63 := held_cell (held_after hU.1 hc.out) 13 _ rfl; have h64 := held_cell (held_after hU.1 hc.out) 14 _ rfl; go_simp <;> exact rfl))⟩)
    refine Seg.stop (fun U31 hU hk => ?_)
    clear hk hge hne
    replace hm := held_after hU hm
    replace h := h.below hU
    have sz31 := hU.size
    have hB : Below X0.heap.size X0 U31 := hU
    clear hm hc hU hB
    have kt := hid (fun U hh => rnum_any U1.heap.size B F0 K0 i1 m1 1 2 0 0 90 U hh (by omega) h.hb o1.out (by decide))
    refine Seg.only (m := 10) (k := 0) rfl (by kernel_rfl) (by rfl) (fun K hK => ?_)
    go_simp
    refine (kt.out _ h.pen).mono ?_
    rintro r X1 ⟨rfl, hP2, hf2⟩
    replace h := h.eff hP2 hf2
    clear hP2 hf2
    refine hK _ _ (Seg.finish ?_ _)
    clear hK kt
    clear d2 d3
    obtain ⟨F1, hF1⟩ : ∃ e, kp F0 (putD i1 m1 1 2 0 0 90).2 = e := ⟨_, rfl⟩
    obtain ⟨K1, hK1⟩ : ∃ l, K0 ++ [nb (putD i1 m1 1 2 0 0 90).1] = l := ⟨_, rfl⟩
    rw [hF1, hK1] at h
    have hl6 : K1.length ≤ 17 := by rw [← hK1, List.length_append, List.length_singleton]; omega
    replace hF1 := hid hF1
    replace hK1 := hid hK1
    have hm := h.m
    have hc := hid h.c
    obtain ⟨d0, d1, d2, d3, d4, d5, d6, d7⟩ := els8_at (hSU.out.below h.bel) hxk.out
    clear d0 d1 d2 d3 d6 d7
    go_upto_region 13 with (fail)
    apply wp_region_part (w := X1) (S := [.q [], .q [], .q [], .q [], .q [], .q [], .q [], .q [], .q [], .q []]) (E := [.q0 _, .q0 _, .q0 _, .q0 _, .q0 _, .q0 _, .q0 _, .q0 _, .q0 _, .q0 _]) 10 1 (by kernel_rfl) rfl (by kernel_rfl) rfl rfl rfl
    intro th hge hne
    refine Seg.sq ?_
    refine Seg.sq ?_
    refine Seg.sq ?_ (ht := Or.inl ⟨by rfl, fun U hU => vp_quiet (by (have h0 := held_cell (held_after hU.1 hm) 3 _ rfl; go_simp <;> exact rfl))⟩)
    iterate 3 refine Seg.sq ?_
    refine Seg.sq ?_ (ht := Or.inl ⟨by rfl, fun U hU => vp_quiet (by (have hx0 := After.cellB hU.1 d4; have hx1 := After.cellB hU.1 d5; go_simp <;> exact rfl))⟩)
    refine Seg.sq ?_
    refine Seg.sq ?_
    refine Seg.sq ?_ (ht := Or.inl ⟨by rfl, fun U hU => vp_quiet (by (have h60 := held_cell (held_after hU.1 hc.out) 15 _ rfl; have h61 := held_cell (held_after hU.1 hc.out) 16 _ rfl; have h62 := held_cell (held_after hU.1 hc.out) 17 _ rfl; have h63 := held_cell (held_after hU.1 hc.out) 18 _ rfl; have h64 := held_cell (held_after hU.1 hc.out) 19 _ rfl; go_simp <;> exact rfl))⟩)
    refine Seg.stop (fun U41 hU hk => ?_)
    clear hk hge hne
    replace hm := held_after hU hm
    replace h := h.below hU
    have sz41 := hU.size
    have hB : Below X1.heap.size X1 U41 := hU
    clear hm hc hU hB
    have kt := hid (fun U hh => rnum_any U1.heap.size B F1 K1 i2 m2 1 3 0 0 359 U hh (by omega) h.hb o2.out (by decide))
    refine Seg.only (m := 10) (k := 0) rfl (by kernel_rfl) (by rfl) (fun K hK => ?_)
    go_simp
    refine (kt.out _ h.pen).mono ?_
    rintro r X2 ⟨rfl, hP2, hf2⟩
    replace h := h.eff hP2 hf2
    clear hP2 hf2
    refine hK _ _ (Seg.finish ?_ _)
    clear hK kt
    clear d4 d5
    obtain ⟨F2, hF2⟩ : ∃ e, kp F1 (putD i2 m2 1 3 0 0 359).2 = e := ⟨_, rfl⟩
    obtain ⟨K2, hK2⟩ : ∃ l, K1 ++ [nb (putD i2 m2 1 3 0 0 359).1] = l := ⟨_, rfl⟩
    rw [hF2, hK2] at h
    have hl7 : K2.length ≤ 18 := by rw [← hK2, List.length_append, List.length_singleton]; omega
    replace hF2 := hid hF2
    replace hK2 := hid hK2
    have hm := h.m
    have hc := hid h.c
    obtain ⟨d0, d1, d2, d3, d4, d5, d6, d7⟩ := els8_at (hSU.out.below h.bel) hxk.out
    clear d0 d1 d2 d3 d4 d5
    go_upto_region 14 with (fail)
    apply wp_region_part (w := X2) (S := [.q [], .q [], .q [], .q [], .q [], .q [], .q [], .q [], .q [], .q []]) (E := [.q0 _, .q0 _, .q0 _, .q0 _, .q0 _, .q0 _, .q0 _, .q0 _, .q0 _, .q0 _]) 10 1 (by kernel_rfl) rfl (by kernel_rfl) rfl rfl rfl
    intro th hge hne
    refine Seg.sq ?_
    refine Seg.sq ?_
    refine Seg.sq ?_ (ht := Or.inl ⟨by rfl, fun U hU => vp_quiet (by (have h0 := held_cell (held_after hU.1 hm) 3 _ rfl; go_simp <;> exact rfl))⟩)
    iterate 3 refine Seg.sq ?_
    refine Seg.sq ?_ (ht := Or.inl ⟨by rfl, fun U hU => vp_quiet (by (have hx0 := After.cellB hU.1 d6; have hx1 := After.cellB hU.1 d7; go_simp <;> exact rfl))⟩)
    refine Seg.sq ?_
    refine Seg.sq ?_
    refine Seg.sq ?_ (ht := Or.inl ⟨by rfl, fun U hU => vp_quiet (by (have h60 := held_cell (held_after hU.1 hc.out) 20 _ rfl; have h61 := held_cell (held_after hU.1 hc.out) 21 _ rfl; have h62 := held_cell (held_after hU.1 hc.out) 22 _ rfl; have h63 := held_cell (held_after hU.1 hc.out) 23 _ rfl; have h64 := held_cell (held_after hU.1 hc.out) 24 _ rfl; go_simp <;> exact rfl))⟩)
    refine Seg.stop (fun U51 hU hk => ?_)
    clear hk hge hne
    replace hm := held_after hU hm
    replace h := h.below hU
    have sz51 := hU.size
    have hB : Below X2.heap.size X2 U51 := hU
    clear hm hc hU hB
    have kt := hid (fun U hh => rnum_any U1.heap.size B F2 K2 i3 m3 1 2 0 0 99 U hh (by omega) h.hb o3.out (by decide))
    refine Seg.only (m := 10) (k := 0) rfl (by kernel_rfl) (by rfl) (fun K hK => ?_)
    go_simp
    refine (kt.out _ h.pen).mono ?_
    rintro r X3 ⟨rfl, hP2, hf2⟩
    replace h := h.eff hP2 hf2
    clear hP2 hf2
    refine hK _ _ (Seg.finish ?_ _)
    clear hK kt
    clear d6 d7
    obtain ⟨F3, hF3⟩ : ∃ e, kp F2 (putD i3 m3 1 2 0 0 99).2 = e := ⟨_, rfl⟩
    obtain ⟨K3, hK3⟩ : ∃ l, K2 ++ [nb (putD i3 m3 1 2 0 0 99).1] = l := ⟨_, rfl⟩
    rw [hF3, hK3] at h
    have hl8 : K3.length ≤ 19 := by rw [← hK3, List.length_append, List.length_singleton]; omega
    replace hF3 := hid hF3
    replace hK3 := hid hK3
    have z1 : gE9 Ek (vwI ((i0, m0), (i1, m1), (i2, m2), i3, m3)) = F3 := by rw [← hF3.out, ← hF2.out, ← hF1.out, ← hF0.out]; rfl
    have z2 : Lk ++ fL (vwI ((i0, m0), (i1, m1), (i2, m2), i3, m3)) = K3 := by rw [← hK3.out, ← hK2.out, ← hK1.out, ← hK0.out]; simp only [List.append_assoc]; rfl
    replace hnx := hid (show gE9 E3 ((vs.take (k + 1)).flatMap vwI) = F3 ∧ L3 ++ fL ((vs.take (k + 1)).flatMap vwI) = K3 from ⟨hnx.out.1.trans z1, hnx.out.2.trans z2⟩)
    clear z1 z2 hF0 hF1 hF2 hF3 hK0 hK1 hK2 hK3
    go_wp2_with fail
    go_roundw
    case rel => exact ⟨k + 1, by simp, hk1.out, by rw [hnx.out.1, hnx.out.2]; exact h⟩
    case measure => simp [intOf]; have := hms.out; omega

end Go.Proofs.YtobgibmpodggkaaDoor
