/- Stage 4: what is read. -/
import Derived.Test.YtfcgeogooapmpaaOctet24
import Derived.Test.YtfcgeogooapmpaaLaw04
import Derived.Test.YtfcgeogooapmpaaRegionB
namespace Go.Proofs.Ytfcgeogooapmpaa
open Go.ChangeShapes Go.WideShapes Go.ChangeAt Go.RowKit Go.Shelf
set_option linter.unusedVariables false

/-- The cells of call k. -/
theorem opcells {W : World} {a : Option Addr} {len cap : Nat} {V : Nat → Nat → Value} {k : Nat} {o : OpV} (hF : Flat W a len cap 5 V) (hk : k < len) (hO : OpIs W (V k) o) :
    ∃ b off, a = some ⟨b, off, none⟩ ∧ b < W.heap.size ∧ W.cell? ⟨b, off + k * 5, none⟩ = some (.int .i64 o.k) ∧ W.cell? ⟨b, off + k * 5 + 1, none⟩ = some (.int .i64 o.n) ∧ W.cell? ⟨b, off + k * 5 + 2, none⟩ = some (.int .u64 o.u) ∧ W.cell? ⟨b, off + k * 5 + 3, none⟩ = some (.int .i64 o.i) ∧ W.cell? ⟨b, off + k * 5 + 4, none⟩ = some (.slice o.b o.l o.c) := by
  obtain ⟨_, _, _, hc⟩ := hF
  obtain ⟨b, off, rfl, h0⟩ := hc k hk 0 (by omega)
  have hb := World.block_lt_of_cell? W _ h0
  have g := fun j (hj : j < 5) => (show W.cell? ⟨b, off + k * 5 + j, none⟩ = some (V k j) by
    obtain ⟨b2, off2, e, h⟩ := hc k hk j hj
    simp at e
    obtain ⟨rfl, rfl⟩ := e
    rw [← Nat.add_assoc] at h; exact h)
  refine ⟨b, off, rfl, hb, ?_, ?_, ?_, ?_, ?_⟩
  · rw [← hO.v0]; exact g 0 (by omega)
  · rw [← hO.v1]; exact g 1 (by omega)
  · rw [← hO.v2]; exact g 2 (by omega)
  · rw [← hO.v3]; exact g 3 (by omega)
  · rw [← hO.v4]; exact g 4 (by omega)
/-- What a round has of call k. -/
theorem opround {W w : World} {a : Option Addr} {len cap : Nat} {V : Nat → Nat → Value} {f : Nat → OpV} {k : Nat} (hF : Flat W a len cap 5 V) (hk : k < len) (hO : ∀ i, i < len → OpIs W (V i) (f i)) (hB : Below W.heap.size W w) :
    ∃ o, f k = o ∧ OpIs w (V k) o ∧ ∃ b off, a = some ⟨b, off, none⟩ ∧ b < W.heap.size ∧ w.cell? ⟨b, off + k * 5, none⟩ = some (.int .i64 o.k) ∧ w.cell? ⟨b, off + k * 5 + 1, none⟩ = some (.int .i64 o.n) ∧ w.cell? ⟨b, off + k * 5 + 2, none⟩ = some (.int .u64 o.u) ∧ w.cell? ⟨b, off + k * 5 + 3, none⟩ = some (.int .i64 o.i) ∧ w.cell? ⟨b, off + k * 5 + 4, none⟩ = some (.slice o.b o.l o.c) := by
  obtain ⟨b, off, e, hb, c0, c1, c2, c3, c4⟩ := opcells hF hk (hO k hk)
  have g := fun (p : Addr) (v : Value) (hp : p.block = b) (h : W.cell? p = some v) => (Below.cell hB (show p.block < W.heap.size by rw [hp]; exact hb)).trans h
  exact ⟨_, rfl, (hO k hk).below hB, b, off, e, hb, g _ _ rfl c0, g _ _ rfl c1, g _ _ rfl c2, g _ _ rfl c3, g _ _ rfl c4⟩

set_option maxRecDepth 100000 in
set_option maxHeartbeats 8000000 in
theorem law_OctetReads (a0 : Option Addr) (len0 cap0 : Nat) (z0 : List Int) (a1 : Option Addr) (len1 cap1 : Nat) (vv1 : Nat → Nat → Value) (W : World) (hI : IsRow .u8 W a0 len0 cap0 z0) (hF : Flat W a1 len1 cap1 5 vv1) (t1 : ∀ i, i < len1 → (∃ n, vv1 i 0 = .int .i64 n ∧ (Lit.int .i64 n).wf = true) ∧ (∃ n, vv1 i 1 = .int .i64 n ∧ (Lit.int .i64 n).wf = true) ∧ (∃ n, vv1 i 2 = .int .u64 n ∧ (Lit.int .u64 n).wf = true) ∧ (∃ n, vv1 i 3 = .int .i64 n ∧ (Lit.int .i64 n).wf = true) ∧ (∃ b l c zs, vv1 i 4 = .slice b l c ∧ IsRow .u8 W b l c zs)) :
    Calls Try.prog 3 #[.slice a0 len0 cap0, .slice a1 len1 cap1] W fun e w' => e = .returned (.bool true) ∧ Below W.heap.size W w' := by
  obtain ⟨f, hO⟩ := ops_of t1
  clear t1
  have kf := few_any a1 len1 cap1 vv1 f W hF hO
  obtain ⟨hs0, hwf⟩ := hI.sl
  generalize z0.take len0 = zs at hs0 hwf
  clear hI
  by_cases cb : (1000 : Int) < len0
  case pos =>
    have b1 : decide ((1000 : Int) < len0) = true := decide_eq_true cb
    clear hs0 hwf hO kf
    go_enter Try.func3, Try.ntmps3
    go_wp2_with fail
    refine (knows4_any _).mono ?_
    rintro e V ⟨rfl, hst⟩
    go_wp2_with fail
    go_ret
    exact ⟨rfl, hst⟩
  have b1 : decide ((1000 : Int) < len0) = false := decide_eq_false cb
  by_cases cf : fewS f len1 = true
  case neg =>
    rw [Bool.eq_false_iff.2 cf] at kf
    clear cf hs0 hwf hO
    go_enter Try.func3, Try.ntmps3
    go_wp2_with fail
    refine kf.mono ?_
    rintro e w1 ⟨rfl, rfl⟩
    go_wp2_with fail
    refine (knows4_any _).mono ?_
    rintro e V ⟨rfl, hst⟩
    go_wp2_with fail
    go_ret
    exact ⟨rfl, hst⟩
  rw [cf] at kf
  obtain ⟨hlen, hfew⟩ := of_decide_eq_true cf
  clear cf hfew
  replace hO := hid hO
  replace hF := hid hF
  replace hwf := hid hwf
  replace hs0 := hid hs0
  go_enter Try.func3, Try.ntmps3
  go_wp2_with fail
  refine kf.mono ?_
  rintro e w1 ⟨rfl, rfl⟩
  go_wp2_with fail
  refine (knows4_any _).mono ?_
  rintro e V ⟨rfl, hB⟩
  go_wp2_with fail
  refine (new_any a0 len0 cap0 zs V (by omega) (hs0.out.below hB)).mono ?_
  rintro e V2 ⟨R, rfl, hRV, hRd, hA2⟩
  have hRW : w1.heap.size ≤ R := Nat.le_trans hB.size hRV
  have hB2 := bthen hB hA2
  have hRl : R < V2.heap.size := by obtain ⟨_, _, h, _⟩ := hRd; exact held_lt h
  have hq0 := World.alloc_heap_new V2 (.cells #[.slice a0 len0 cap0, .bool false] 29)
  have hA3 : After V2 (V2.alloc (.cells #[.slice a0 len0 cap0, .bool false] 29)) := aalloc _ _
  have hRs : RSt R (V2.alloc (.cells #[.slice a0 len0 cap0, .bool false] 29)) (rs zs f 0).1 (rs zs f 0).2 := RSt.later (zs := zs) (bad := false) hRd hA3
  have hQs : QRd 29 w1 R V2.heap.size (V2.alloc (.cells #[.slice a0 len0 cap0, .bool false] 29)) (rs zs f 0).1 (rs zs f 0).2 := ⟨a0, len0, cap0, hq0, hs0.out, by omega⟩
  have hWQ : w1.heap.size ≤ V2.heap.size := hB2.size
  replace hB2 := bthen hB2 hA3
  clear hA2 hA3 hRd hRV hq0 hB kf hRl
  obtain ⟨Q, hQ⟩ : ∃ Q, V2.heap.size = Q := ⟨_, rfl⟩
  obtain ⟨V3, hV3⟩ : ∃ V3, V2.alloc (.cells #[.slice a0 len0 cap0, .bool false] 29) = V3 := ⟨_, rfl⟩
  rw [hV3] at hRs hB2
  rw [hQ, hV3] at hQs
  rw [hQ] at hWQ
  replace hRs := hid hRs
  replace hQs := hid hQs
  replace hB2 := hid hB2
  replace hQ := hid hQ
  replace hV3 := hid hV3
  go_wp2_with fail
  rw [hV3.out, hQ.out]
  clear hQ hV3
  have hzs : zs.length ≤ 1000 := by have := hs0.out.1; omega
  go_loopw [7] (fun i wr => ∃ k : Nat, k ≤ len1 ∧ i = .int .i64 k ∧ RSt R wr (rs zs f k).1 (rs zs f k).2 ∧ QRd 29 w1 R Q wr (rs zs f k).1 (rs zs f k).2 ∧ Below w1.heap.size w1 wr) (fun i _ => len1 - (intOf i).toNat)
  case atStart => exact ⟨0, by omega, rfl, hRs.out, hQs.out, hB2.out⟩
  case round =>
    clear hRs hQs hB2
    obtain ⟨k, hk, rfl, hRs, hQs, hB⟩ := hrel
    by_cases hlt : (k : Int) < len1
    case neg =>
      clear hRs hQs
      replace hB := hid hB
      go_wp2_with fail
      go_ret
      exact ⟨rfl, hB.out⟩
    have hk2 : k < len1 := by omega
    obtain ⟨o, hfo, hP, b, off, rfl, hlt5, c0, c1, c2, c3, c4⟩ := opround hF.out hk2 hO.out hB
    have hru : rs zs f (k + 1) = (gotR (okO (rs zs f k).1 (rs zs f k).2 o) (rs zs f k).1 o.n, !okO (rs zs f k).1 (rs zs f k).2 o) := by rw [← hfo]; rfl
    have hsub := rs_sub zs f k
    have hbad := rs_bad zs f k
    obtain ⟨zk, bk, hrk⟩ : ∃ zk bk, rs zs f k = (zk, bk) := ⟨_, _, rfl⟩
    rw [hrk] at hru hsub hbad hRs hQs
    dsimp only at hru hsub hbad hRs hQs
    have hwz : ∀ x ∈ zk, (Lit.int .u8 x).wf = true := fun x hx => hwf.out x (hsub.2 x hx)
    have hbz := bytes_bd hwz
    have hzl : zk.length ≤ 1000 := by omega
    obtain ⟨a5, l5, cp5, hq5, hs5, hQR⟩ := hQs
    have hl5 : l5 ≤ 1000000 := by have := hs5.1; omega
    clear hsub hrk hfo
    by_cases k0 : o.k = 0
    · have hb0 : (o.k == 0) = true := by simp [k0]
      have eo : okO zk bk o = okU zk bk o.n := by unfold okO; rw [if_pos k0]
      rw [eo] at hru
      have kW := fun U (h : After _ U) => ru_v R w1.heap.size zk bk o.n U (hRs.later h) hwz (by omega) hRW
      have kQ := fun U (h : Sl .u8 U a5 l5 cp5 zk) => rrawu_any a5 l5 cp5 zk bk o.n U h hbad hl5 hbz
      obtain ⟨val, ev⟩ : ∃ val : Nat, valU zk bk o.n = val := ⟨_, rfl⟩
      rw [ev] at kW kQ
      obtain ⟨ok, eok⟩ : ∃ ok, okU zk bk o.n = ok := ⟨_, rfl⟩
      rw [eok] at kW kQ hru
      obtain ⟨zn, ezn⟩ : ∃ zn, gotR ok zk o.n = zn := ⟨_, rfl⟩
      rw [ezn] at kW hru
      obtain ⟨bd, ebd⟩ : ∃ bd, (!ok) = bd := ⟨_, rfl⟩
      rw [ebd] at kW hru
      clear eo hwz hbz hbad eok ev
      replace hru := hid hru
      replace ezn := hid ezn
      replace ebd := hid ebd
      replace hs5 := hid hs5
      replace hq5 := hid hq5
      replace hRs := hid hRs
      replace hP := hid hP
      go_wp2_with fail
      refine (kW _ (Below.refl _ _)).mono ?_
      rintro e V6 ⟨rfl, hR6, hB6, hX6⟩
      have hB7 : Below w1.heap.size w1 V6 := Below.trans hB hB6
      have hq6 := hX6.held hq5.out (fun e => hQR (Option.some.inj e))
      have d1 := (Below.cell hB6 (show (⟨b, off + k * 5 + 1, none⟩ : Addr).block < w1.heap.size from hlt5)).trans c1
      have hsV := hs5.out.below hB7
      have kQ2 := fun U (h : After V6 U) => kQ U (hsV.below h)
      have qc0 := held_cell hq6 0 _ rfl
      have qc1 := held_cell hq6 1 _ rfl
      clear kQ kW hB6 hB hX6 hRs hq5 hsV hP c0 c1 c2 c3 c4
      replace hR6 := hid hR6
      replace hB7 := hid hB7
      replace hq6 := hid hq6
      go_upto_region 18 with (fail)
      refine wp_region_T none 10 (by kernel_rfl) ?_
      refine wpAnyT_take 0 rfl (by kernel_rfl) (by kernel_rfl) (by kernel_rfl) (by kernel_rfl) (fun _ _ _ _ h => h) ⟨_, Or.inl ⟨by rfl, fun w2 hb2 => by (have hx0 := hb2.cell (show V6.drew.cell? _ = _ from qc0) (by simp); have hx1 := hb2.cell (show V6.drew.cell? _ = _ from qc1) (by simp); go_simp; try with_reducible rfl)⟩, _, by (go_simp; try rfl), ?_⟩
      refine wpAnyT_take 1 rfl (by kernel_rfl) (by kernel_rfl) (by kernel_rfl) (by kernel_rfl) (fun _ _ _ _ h => h) ⟨_, Or.inl ⟨by rfl, fun w2 hb2 => by (go_simp; try with_reducible rfl)⟩, _, by (go_simp; try rfl), ?_⟩
      refine wpAnyT_take 2 rfl (by kernel_rfl) (by kernel_rfl) (by kernel_rfl) (by kernel_rfl) (fun _ _ _ _ h => h) ⟨_, Or.inl ⟨by rfl, fun w2 hb2 => by (go_simp; try with_reducible rfl)⟩, _, by (go_simp; try rfl), ?_⟩
      refine wpAnyT_take 3 rfl (by kernel_rfl) (by kernel_rfl) (by kernel_rfl) (by kernel_rfl) (fun _ _ _ _ h => h) ⟨_, Or.inl ⟨by rfl, fun w2 hb2 => by (go_simp; try with_reducible rfl)⟩, _, by (go_simp; try rfl), ?_⟩
      refine wpAnyT_take 4 rfl (by kernel_rfl) (by kernel_rfl) (by kernel_rfl) (by kernel_rfl) (fun _ _ _ _ h => h) ⟨_, Or.inl ⟨by rfl, fun w2 hb2 => by (go_simp; try with_reducible rfl)⟩, _, by (go_simp; try rfl), ?_⟩
      refine wpAnyT_take 5 rfl (by kernel_rfl) (by kernel_rfl) (by kernel_rfl) (by kernel_rfl) (fun _ _ _ _ h => h) ⟨_, Or.inl ⟨by rfl, fun w2 hb2 => by (have hx := hb2.cell (show V6.drew.cell? _ = _ from d1) (by simp); go_simp; try with_reducible rfl)⟩, _, by (go_simp; try rfl), ?_⟩
      refine wpAnyT_only 6 rfl (by kernel_rfl) (by rfl) (fun K hK => ?_)
      go_simp
      refine (kQ2 _ ((Below.refl _ _).drew)).mono ?_
      rintro e V7 ⟨a8, l8, cp8, rfl, hR8, hA9⟩
      refine hK _ _ ⟨fun _ => rx_after hA9, ?_⟩
      clear hK
      rw [ebd.out]
      replace hA9 : After V6 V7 := Below.trans ((Below.refl _ V6).drew) hA9
      have hs8 := hR8 w1 hs5.out
      rw [ezn.out] at hs8
      have q7 := held_after hA9 hq6.out
      have d0 := held_cell q7 0 _ rfl
      have d1 := held_cell q7 1 _ rfl
      have f0 := held_free q7 0
      have f1 := held_free q7 1
      obtain ⟨W5, eW5, x0, x1, xz, xB, xO⟩ := two_set (u0 := .slice a8 l8 cp8) (u1 := .bool bd) q7
      have hqW : W5.heap[Q]? = some (.cells #[.slice a8 l8 cp8, .bool bd] 29 (0, 0)) := by rw [← eW5]; exact held_set (held_set q7 0 _) 1 _
      have hR5 := (hR6.out.later hA9).other q7 no_int2 hQR xO
      have hB8 : Below w1.heap.size w1 W5 := Below.trans (hB7.out.trans (hA9.mono hB7.out.size)) (xB.mono hWQ)
      clear hR8 q7 xB xO kQ2 qc0 qc1 hq6 hB7 hA9 hR6 hs5
      replace hs8 := hid hs8
      replace hqW := hid hqW
      replace hR5 := hid hR5
      replace hB8 := hid hB8
      refine wpAnyT_takeP 7 rfl (by kernel_rfl) (by kernel_rfl) (by kernel_rfl) (fun _ _ _ _ h => h) ⟨_, Or.inl ⟨by rfl, fun w2 _ => by (go_simp; try with_reducible rfl)⟩, _, by (go_simp; try rfl), ?_⟩
      refine wpAnyT_takeP 8 rfl (by kernel_rfl) (by kernel_rfl) (by kernel_rfl) (fun _ _ _ _ h => h) ⟨_, Or.inl ⟨by rfl, fun w2 _ => by (go_simp; try with_reducible rfl)⟩, _, by (go_simp; try rfl), ?_⟩
      refine wpAnyT_takeP 9 rfl (by kernel_rfl) (by kernel_rfl) (by kernel_rfl) (fun _ _ _ _ h => h) ⟨_, Or.inl ⟨by rfl, fun w2 _ => by (go_simp; try with_reducible rfl)⟩, _, by (go_simp; try rfl), ?_⟩
      refine wpAnyT_only 10 rfl (by kernel_rfl) (by rfl) (fun K hK => ?_)
      go_simp
      refine hK _ _ ⟨fun h => (h rfl).elim, ?_⟩
      clear hK
      refine wpAnyT_only 11 rfl (by kernel_rfl) (by rfl) (fun K hK => ?_)
      go_simp
      refine hK _ _ ⟨fun _ => RX.refl _ _, wpAnyT_done (by kernel_rfl) ?_ _⟩
      clear hK
      have kL := fun U (h : After W5 U) => rleft_st R zn bd U (hR5.out.later h)
      rw [hs8.out.1] at kL
      have kF := fun U (h : After W5 U) => rfail_st R zn bd U (hR5.out.later h)
      have hTA := fun U (h : Aft W5.heap.size W5.drew U) => (sl_nil .u8 U).text 22 9 5 Try.underlying22 Try.underlying5 Try.underlying9
      have hTB := hTA
      have hQl : Q < W5.heap.size := held_lt hqW.out
      go_upto_region 22 with (fail)
      refine wp_region_B (B := W5.heap.size) (by kernel_rfl) ?_
      refine wpAnyB_take 0 rfl (by kernel_rfl) (by kernel_rfl) (by kernel_rfl) (fun _ _ _ _ h => h) ⟨_, Or.inl ⟨by rfl, fun w' hb => by (go_simp; try with_reducible rfl)⟩, _, by (go_simp; try rfl), ?_⟩
      refine wpAnyB_take 1 rfl (by kernel_rfl) (by kernel_rfl) (by kernel_rfl) (fun _ _ _ _ h => h) ⟨_, Or.inl ⟨by rfl, fun w' hb => by (go_simp; try with_reducible rfl)⟩, _, by (go_simp; try rfl), ?_⟩
      refine wpAnyB_take 2 rfl (by kernel_rfl) (by kernel_rfl) (by kernel_rfl) (fun _ _ _ _ h => h) ⟨_, Or.inl ⟨by rfl, fun w' hb => by (go_simp; try with_reducible rfl)⟩, _, by (go_simp; try rfl), ?_⟩
      refine wpAnyB_take 3 rfl (by kernel_rfl) (by kernel_rfl) (by kernel_rfl) (fun _ _ _ _ h => h) ⟨_, Or.inl ⟨by rfl, fun w' hb => by (go_simp; try with_reducible rfl)⟩, _, by (go_simp; try rfl), ?_⟩
      refine wpAnyB_take 4 rfl (by kernel_rfl) (by kernel_rfl) (by kernel_rfl) (fun _ _ _ _ h => h) ⟨_, Or.inl ⟨by rfl, fun w' hb => by (go_simp; try with_reducible rfl)⟩, _, by (go_simp; try rfl), ?_⟩
      refine wpAnyB_take 5 rfl (by kernel_rfl) (by kernel_rfl) (by kernel_rfl) (fun _ _ _ _ h => h) ⟨_, Or.inl ⟨by rfl, fun w' hb => by (go_simp; try with_reducible rfl)⟩, _, by (go_simp; try rfl), ?_⟩
      refine wpAnyB_take 6 rfl (by kernel_rfl) (by kernel_rfl) (by kernel_rfl) (fun _ _ _ _ h => h) ⟨_, Or.inl ⟨by rfl, fun w' hb => by (go_simp; try with_reducible rfl)⟩, _, by (go_simp; try rfl), ?_⟩
      refine wpAnyB_take 7 rfl (by kernel_rfl) (by kernel_rfl) (by kernel_rfl) (fun _ _ _ _ h => h) ⟨_, Or.inl ⟨by rfl, fun w' hb => by (go_simp; try with_reducible rfl)⟩, _, by (go_simp; try rfl), ?_⟩
      refine wpAnyB_take 8 rfl (by kernel_rfl) (by kernel_rfl) (by kernel_rfl) (fun _ _ _ _ h => h) ⟨_, Or.inl ⟨by rfl, fun w' hb => by (go_simp; try with_reducible rfl)⟩, _, by (go_simp; try rfl), ?_⟩
      refine wpAnyB_take 9 rfl (by kernel_rfl) (by kernel_rfl) (by kernel_rfl) (fun _ _ _ _ h => h) ⟨_, Or.inl ⟨by rfl, fun w' hb => by (go_simp; try with_reducible rfl)⟩, _, by (go_simp; try rfl), ?_⟩
      refine wpAnyB_take 10 rfl (by kernel_rfl) (by kernel_rfl) (by kernel_rfl) (fun _ _ _ _ h => h) ⟨_, Or.inl ⟨by rfl, fun w' hb => by (have hx := hTA w' hb; go_simp; try with_reducible rfl)⟩, _, by (go_simp; try rfl), ?_⟩
      refine wpAnyB_take 11 rfl (by kernel_rfl) (by kernel_rfl) (by kernel_rfl) (fun _ _ _ _ h => h) ⟨_, Or.inl ⟨by rfl, fun w' hb => by (go_simp; try with_reducible rfl)⟩, _, by (go_simp; try rfl), ?_⟩
      refine wpAnyB_take 12 rfl (by kernel_rfl) (by kernel_rfl) (by kernel_rfl) (fun _ _ _ _ h => h) ⟨_, Or.inl ⟨by rfl, fun w' hb => by (have hx := hTB w' hb; go_simp; try with_reducible rfl)⟩, _, by (go_simp; try rfl), ?_⟩
      refine wpAnyB_take 13 rfl (by kernel_rfl) (by kernel_rfl) (by kernel_rfl) (fun _ _ _ _ h => h) ⟨_, Or.inl ⟨by rfl, fun w' hb => by (go_simp; try with_reducible rfl)⟩, _, by (go_simp; try rfl), ?_⟩
      refine wpAnyB_take 14 rfl (by kernel_rfl) (by kernel_rfl) (by kernel_rfl) (fun _ _ _ _ h => h) ⟨_, Or.inl ⟨by rfl, fun w' hb => by (go_simp; try with_reducible rfl)⟩, _, by (go_simp; try rfl), ?_⟩
      refine wpAnyB_take 15 rfl (by kernel_rfl) (by kernel_rfl) (by kernel_rfl) (fun _ _ _ _ h => h) ⟨_, Or.inl ⟨by rfl, fun w' hb => by (go_simp; try with_reducible rfl)⟩, _, by (go_simp; try rfl), ?_⟩
      refine wpAnyB_take 16 rfl (by kernel_rfl) (by kernel_rfl) (by kernel_rfl) (fun _ _ _ _ h => h) ⟨_, Or.inl ⟨by rfl, fun w' hb => by (go_simp; try with_reducible rfl)⟩, _, by (go_simp; try rfl), ?_⟩
      refine wpAnyB_take 18 rfl (by kernel_rfl) (by kernel_rfl) (by kernel_rfl) (fun _ _ _ _ h => h) ⟨_, Or.inl ⟨by rfl, fun w' hb => by (go_simp; try with_reducible rfl)⟩, _, by (go_simp; try rfl), ?_⟩
      refine wpAnyB_take 19 rfl (by kernel_rfl) (by kernel_rfl) (by kernel_rfl) (fun _ _ _ _ h => h) ⟨_, Or.inl ⟨by rfl, fun w' hb => by (have hc := hb.cellB hQl (show W5.drew.cell? _ = _ from x0); go_simp; try with_reducible rfl)⟩, _, by (go_simp; try rfl), ?_⟩
      refine wpAnyB_take 20 rfl (by kernel_rfl) (by kernel_rfl) (by kernel_rfl) (fun _ _ _ _ h => h) ⟨_, Or.inl ⟨by rfl, fun w' hb => by (go_simp; try with_reducible rfl)⟩, _, by (go_simp; try rfl), ?_⟩
      refine wpAnyB_only 17 rfl (by kernel_rfl) (by rfl) (fun K hK => ?_)
      go_simp
      refine (kL _ ((Below.refl _ W5).drew)).mono ?_
      rintro e V8 ⟨rfl, rfl⟩
      refine hK _ _ ⟨Below.refl _ _, ?_⟩
      refine wpAnyB_take 21 rfl (by kernel_rfl) (by kernel_rfl) (by kernel_rfl) (fun _ _ _ _ h => h) ⟨_, Or.inl ⟨by rfl, fun w' hb => by (go_simp; try with_reducible rfl)⟩, _, by (go_simp; try rfl), ?_⟩
      refine wpAnyB_take 22 rfl (by kernel_rfl) (by kernel_rfl) (by kernel_rfl) (fun _ _ _ _ h => h) ⟨_, Or.inl ⟨by rfl, fun w' hb => by (go_simp; try with_reducible rfl)⟩, _, by (go_simp; try rfl), ?_⟩
      refine wpAnyB_take 23 rfl (by kernel_rfl) (by kernel_rfl) (by kernel_rfl) (fun _ _ _ _ h => h) ⟨_, Or.inl ⟨by rfl, fun w' hb => by (go_simp; try with_reducible rfl)⟩, _, by (go_simp; try rfl), ?_⟩
      refine wpAnyB_take 24 rfl (by kernel_rfl) (by kernel_rfl) (by kernel_rfl) (fun _ _ _ _ h => h) ⟨_, Or.inl ⟨by rfl, fun w' hb => by (go_simp; try with_reducible rfl)⟩, _, by (go_simp; try rfl), ?_⟩
      refine wpAnyB_take 26 rfl (by kernel_rfl) (by kernel_rfl) (by kernel_rfl) (fun _ _ _ _ h => h) ⟨_, Or.inl ⟨by rfl, fun w' hb => by (go_simp; try with_reducible rfl)⟩, _, by (go_simp; try rfl), ?_⟩
      refine wpAnyB_take 27 rfl (by kernel_rfl) (by kernel_rfl) (by kernel_rfl) (fun _ _ _ _ h => h) ⟨_, Or.inl ⟨by rfl, fun w' hb => by (have hc := hb.cellB hQl (show W5.drew.cell? _ = _ from x1); go_simp; try with_reducible rfl)⟩, _, by (go_simp; try rfl), ?_⟩
      refine wpAnyB_only 25 rfl (by kernel_rfl) (by rfl) (fun K hK => ?_)
      go_simp
      refine (kF _ ((Below.refl _ W5).drew)).mono ?_
      rintro e V9 ⟨rfl, rfl⟩
      refine hK _ _ ⟨Below.refl _ _, ?_⟩
      refine wpAnyB_take 28 rfl (by kernel_rfl) (by kernel_rfl) (by kernel_rfl) (fun _ _ _ _ h => h) ⟨_, Or.inl ⟨by rfl, fun w' hb => by (go_simp; try with_reducible rfl)⟩, _, by (go_simp; try rfl), ?_⟩
      refine wpAnyB_take 29 rfl (by kernel_rfl) (by kernel_rfl) (by kernel_rfl) (fun _ _ _ _ h => h) ⟨_, Or.inl ⟨by rfl, fun w' hb => by (go_simp; try with_reducible rfl)⟩, _, by (go_simp; try rfl), ?_⟩
      refine wpAnyB_done (by kernel_rfl) ?_ _
      clear hK
      have hRz := hid (hR5.out.later ((Below.refl _ W5).drew))
      have hQz := hid (show QRd 29 w1 R Q W5.drew zn bd from ⟨a8, l8, cp8, hqW.out, hs8.out, hQR⟩)
      have hBz := hid (Below.trans hB8.out ((Below.refl _ W5).drew))
      clear hR5 hB8 hqW hs8
      go_wp2_with fail
      go_roundw
      case rel => first | exact ⟨k + 1, by omega, by simp, by rw [hru.out]; exact hRz.out, by rw [hru.out]; exact hQz.out, hBz.out⟩ | ((repeat apply Exists.intro); exact ⟨⟨k + 1, by omega, by simp, by rw [hru.out]; exact hRz.out, by rw [hru.out]; exact hQz.out, hBz.out⟩, rfl⟩)
      case measure => show len1 - ((k : Int) + 1).toNat < len1 - (k : Int).toNat; omega
    have hb0 : (o.k == 0) = false := by simp [k0]
    by_cases k1 : o.k = 1
    · have hb1 : (o.k == 1) = true := by simp [k1]
      have eo : okO zk bk o = okU zk bk o.n := by unfold okO; rw [if_neg k0, if_pos k1]
      rw [eo] at hru
      have kW := fun U (h : After _ U) => ri_v R w1.heap.size zk bk o.n U (hRs.later h) hwz (by omega) hRW
      have kQ := fun U (h : Sl .u8 U a5 l5 cp5 zk) => rrawi_any a5 l5 cp5 zk bk o.n U h hbad hl5 hbz
      obtain ⟨val, ev⟩ : ∃ val : Int, valI zk bk o.n = val := ⟨_, rfl⟩
      rw [ev] at kW kQ
      obtain ⟨ok, eok⟩ : ∃ ok, okU zk bk o.n = ok := ⟨_, rfl⟩
      rw [eok] at kW kQ hru
      obtain ⟨zn, ezn⟩ : ∃ zn, gotR ok zk o.n = zn := ⟨_, rfl⟩
      rw [ezn] at kW hru
      obtain ⟨bd, ebd⟩ : ∃ bd, (!ok) = bd := ⟨_, rfl⟩
      rw [ebd] at kW hru
      clear eo hwz hbz hbad eok ev
      replace hru := hid hru
      replace ezn := hid ezn
      replace ebd := hid ebd
      replace hs5 := hid hs5
      replace hq5 := hid hq5
      replace hRs := hid hRs
      replace hP := hid hP
      go_wp2_with fail
      refine (kW _ (Below.refl _ _)).mono ?_
      rintro e V6 ⟨rfl, hR6, hB6, hX6⟩
      have hB7 : Below w1.heap.size w1 V6 := Below.trans hB hB6
      have hq6 := hX6.held hq5.out (fun e => hQR (Option.some.inj e))
      have d1 := (Below.cell hB6 (show (⟨b, off + k * 5 + 1, none⟩ : Addr).block < w1.heap.size from hlt5)).trans c1
      have hsV := hs5.out.below hB7
      have kQ2 := fun U (h : After V6 U) => kQ U (hsV.below h)
      have qc0 := held_cell hq6 0 _ rfl
      have qc1 := held_cell hq6 1 _ rfl
      clear kQ kW hB6 hB hX6 hRs hq5 hsV hP c0 c1 c2 c3 c4
      replace hR6 := hid hR6
      replace hB7 := hid hB7
      replace hq6 := hid hq6
      go_upto_region 21 with (fail)
      refine wp_region_T none 10 (by kernel_rfl) ?_
      refine wpAnyT_take 0 rfl (by kernel_rfl) (by kernel_rfl) (by kernel_rfl) (by kernel_rfl) (fun _ _ _ _ h => h) ⟨_, Or.inl ⟨by rfl, fun w2 hb2 => by (have hx0 := hb2.cell (show V6.drew.cell? _ = _ from qc0) (by simp); have hx1 := hb2.cell (show V6.drew.cell? _ = _ from qc1) (by simp); go_simp; try with_reducible rfl)⟩, _, by (go_simp; try rfl), ?_⟩
      refine wpAnyT_take 1 rfl (by kernel_rfl) (by kernel_rfl) (by kernel_rfl) (by kernel_rfl) (fun _ _ _ _ h => h) ⟨_, Or.inl ⟨by rfl, fun w2 hb2 => by (go_simp; try with_reducible rfl)⟩, _, by (go_simp; try rfl), ?_⟩
      refine wpAnyT_take 2 rfl (by kernel_rfl) (by kernel_rfl) (by kernel_rfl) (by kernel_rfl) (fun _ _ _ _ h => h) ⟨_, Or.inl ⟨by rfl, fun w2 hb2 => by (go_simp; try with_reducible rfl)⟩, _, by (go_simp; try rfl), ?_⟩
      refine wpAnyT_take 3 rfl (by kernel_rfl) (by kernel_rfl) (by kernel_rfl) (by kernel_rfl) (fun _ _ _ _ h => h) ⟨_, Or.inl ⟨by rfl, fun w2 hb2 => by (go_simp; try with_reducible rfl)⟩, _, by (go_simp; try rfl), ?_⟩
      refine wpAnyT_take 4 rfl (by kernel_rfl) (by kernel_rfl) (by kernel_rfl) (by kernel_rfl) (fun _ _ _ _ h => h) ⟨_, Or.inl ⟨by rfl, fun w2 hb2 => by (go_simp; try with_reducible rfl)⟩, _, by (go_simp; try rfl), ?_⟩
      refine wpAnyT_take 5 rfl (by kernel_rfl) (by kernel_rfl) (by kernel_rfl) (by kernel_rfl) (fun _ _ _ _ h => h) ⟨_, Or.inl ⟨by rfl, fun w2 hb2 => by (have hx := hb2.cell (show V6.drew.cell? _ = _ from d1) (by simp); go_simp; try with_reducible rfl)⟩, _, by (go_simp; try rfl), ?_⟩
      refine wpAnyT_only 6 rfl (by kernel_rfl) (by rfl) (fun K hK => ?_)
      go_simp
      refine (kQ2 _ ((Below.refl _ _).drew)).mono ?_
      rintro e V7 ⟨a8, l8, cp8, rfl, hR8, hA9⟩
      refine hK _ _ ⟨fun _ => rx_after hA9, ?_⟩
      clear hK
      rw [ebd.out]
      replace hA9 : After V6 V7 := Below.trans ((Below.refl _ V6).drew) hA9
      have hs8 := hR8 w1 hs5.out
      rw [ezn.out] at hs8
      have q7 := held_after hA9 hq6.out
      have d0 := held_cell q7 0 _ rfl
      have d1 := held_cell q7 1 _ rfl
      have f0 := held_free q7 0
      have f1 := held_free q7 1
      obtain ⟨W5, eW5, x0, x1, xz, xB, xO⟩ := two_set (u0 := .slice a8 l8 cp8) (u1 := .bool bd) q7
      have hqW : W5.heap[Q]? = some (.cells #[.slice a8 l8 cp8, .bool bd] 29 (0, 0)) := by rw [← eW5]; exact held_set (held_set q7 0 _) 1 _
      have hR5 := (hR6.out.later hA9).other q7 no_int2 hQR xO
      have hB8 : Below w1.heap.size w1 W5 := Below.trans (hB7.out.trans (hA9.mono hB7.out.size)) (xB.mono hWQ)
      clear hR8 q7 xB xO kQ2 qc0 qc1 hq6 hB7 hA9 hR6 hs5
      replace hs8 := hid hs8
      replace hqW := hid hqW
      replace hR5 := hid hR5
      replace hB8 := hid hB8
      refine wpAnyT_takeP 7 rfl (by kernel_rfl) (by kernel_rfl) (by kernel_rfl) (fun _ _ _ _ h => h) ⟨_, Or.inl ⟨by rfl, fun w2 _ => by (go_simp; try with_reducible rfl)⟩, _, by (go_simp; try rfl), ?_⟩
      refine wpAnyT_takeP 8 rfl (by kernel_rfl) (by kernel_rfl) (by kernel_rfl) (fun _ _ _ _ h => h) ⟨_, Or.inl ⟨by rfl, fun w2 _ => by (go_simp; try with_reducible rfl)⟩, _, by (go_simp; try rfl), ?_⟩
      refine wpAnyT_takeP 9 rfl (by kernel_rfl) (by kernel_rfl) (by kernel_rfl) (fun _ _ _ _ h => h) ⟨_, Or.inl ⟨by rfl, fun w2 _ => by (go_simp; try with_reducible rfl)⟩, _, by (go_simp; try rfl), ?_⟩
      refine wpAnyT_only 10 rfl (by kernel_rfl) (by rfl) (fun K hK => ?_)
      go_simp
      refine hK _ _ ⟨fun h => (h rfl).elim, ?_⟩
      clear hK
      refine wpAnyT_only 11 rfl (by kernel_rfl) (by rfl) (fun K hK => ?_)
      go_simp
      refine hK _ _ ⟨fun _ => RX.refl _ _, wpAnyT_done (by kernel_rfl) ?_ _⟩
      clear hK
      have kL := fun U (h : After W5 U) => rleft_st R zn bd U (hR5.out.later h)
      rw [hs8.out.1] at kL
      have kF := fun U (h : After W5 U) => rfail_st R zn bd U (hR5.out.later h)
      have hTA := fun U (h : Aft W5.heap.size W5.drew U) => (sl_nil .u8 U).text 22 9 5 Try.underlying22 Try.underlying5 Try.underlying9
      have hTB := hTA
      have hQl : Q < W5.heap.size := held_lt hqW.out
      go_upto_region 22 with (fail)
      refine wp_region_B (B := W5.heap.size) (by kernel_rfl) ?_
      refine wpAnyB_take 0 rfl (by kernel_rfl) (by kernel_rfl) (by kernel_rfl) (fun _ _ _ _ h => h) ⟨_, Or.inl ⟨by rfl, fun w' hb => by (go_simp; try with_reducible rfl)⟩, _, by (go_simp; try rfl), ?_⟩
      refine wpAnyB_take 1 rfl (by kernel_rfl) (by kernel_rfl) (by kernel_rfl) (fun _ _ _ _ h => h) ⟨_, Or.inl ⟨by rfl, fun w' hb => by (go_simp; try with_reducible rfl)⟩, _, by (go_simp; try rfl), ?_⟩
      refine wpAnyB_take 2 rfl (by kernel_rfl) (by kernel_rfl) (by kernel_rfl) (fun _ _ _ _ h => h) ⟨_, Or.inl ⟨by rfl, fun w' hb => by (go_simp; try with_reducible rfl)⟩, _, by (go_simp; try rfl), ?_⟩
      refine wpAnyB_take 3 rfl (by kernel_rfl) (by kernel_rfl) (by kernel_rfl) (fun _ _ _ _ h => h) ⟨_, Or.inl ⟨by rfl, fun w' hb => by (go_simp; try with_reducible rfl)⟩, _, by (go_simp; try rfl), ?_⟩
      refine wpAnyB_take 4 rfl (by kernel_rfl) (by kernel_rfl) (by kernel_rfl) (fun _ _ _ _ h => h) ⟨_, Or.inl ⟨by rfl, fun w' hb => by (go_simp; try with_reducible rfl)⟩, _, by (go_simp; try rfl), ?_⟩
      refine wpAnyB_take 5 rfl (by kernel_rfl) (by kernel_rfl) (by kernel_rfl) (fun _ _ _ _ h => h) ⟨_, Or.inl ⟨by rfl, fun w' hb => by (go_simp; try with_reducible rfl)⟩, _, by (go_simp; try rfl), ?_⟩
      refine wpAnyB_take 6 rfl (by kernel_rfl) (by kernel_rfl) (by kernel_rfl) (fun _ _ _ _ h => h) ⟨_, Or.inl ⟨by rfl, fun w' hb => by (go_simp; try with_reducible rfl)⟩, _, by (go_simp; try rfl), ?_⟩
      refine wpAnyB_take 7 rfl (by kernel_rfl) (by kernel_rfl) (by kernel_rfl) (fun _ _ _ _ h => h) ⟨_, Or.inl ⟨by rfl, fun w' hb => by (go_simp; try with_reducible rfl)⟩, _, by (go_simp; try rfl), ?_⟩
      refine wpAnyB_take 8 rfl (by kernel_rfl) (by kernel_rfl) (by kernel_rfl) (fun _ _ _ _ h => h) ⟨_, Or.inl ⟨by rfl, fun w' hb => by (go_simp; try with_reducible rfl)⟩, _, by (go_simp; try rfl), ?_⟩
      refine wpAnyB_take 9 rfl (by kernel_rfl) (by kernel_rfl) (by kernel_rfl) (fun _ _ _ _ h => h) ⟨_, Or.inl ⟨by rfl, fun w' hb => by (go_simp; try with_reducible rfl)⟩, _, by (go_simp; try rfl), ?_⟩
      refine wpAnyB_take 10 rfl (by kernel_rfl) (by kernel_rfl) (by kernel_rfl) (fun _ _ _ _ h => h) ⟨_, Or.inl ⟨by rfl, fun w' hb => by (have hx := hTA w' hb; go_simp; try with_reducible rfl)⟩, _, by (go_simp; try rfl), ?_⟩
      refine wpAnyB_take 11 rfl (by kernel_rfl) (by kernel_rfl) (by kernel_rfl) (fun _ _ _ _ h => h) ⟨_, Or.inl ⟨by rfl, fun w' hb => by (go_simp; try with_reducible rfl)⟩, _, by (go_simp; try rfl), ?_⟩
      refine wpAnyB_take 12 rfl (by kernel_rfl) (by kernel_rfl) (by kernel_rfl) (fun _ _ _ _ h => h) ⟨_, Or.inl ⟨by rfl, fun w' hb => by (have hx := hTB w' hb; go_simp; try with_reducible rfl)⟩, _, by (go_simp; try rfl), ?_⟩
      refine wpAnyB_take 13 rfl (by kernel_rfl) (by kernel_rfl) (by kernel_rfl) (fun _ _ _ _ h => h) ⟨_, Or.inl ⟨by rfl, fun w' hb => by (go_simp; try with_reducible rfl)⟩, _, by (go_simp; try rfl), ?_⟩
      refine wpAnyB_take 14 rfl (by kernel_rfl) (by kernel_rfl) (by kernel_rfl) (fun _ _ _ _ h => h) ⟨_, Or.inl ⟨by rfl, fun w' hb => by (go_simp; try with_reducible rfl)⟩, _, by (go_simp; try rfl), ?_⟩
      refine wpAnyB_take 15 rfl (by kernel_rfl) (by kernel_rfl) (by kernel_rfl) (fun _ _ _ _ h => h) ⟨_, Or.inl ⟨by rfl, fun w' hb => by (go_simp; try with_reducible rfl)⟩, _, by (go_simp; try rfl), ?_⟩
      refine wpAnyB_take 16 rfl (by kernel_rfl) (by kernel_rfl) (by kernel_rfl) (fun _ _ _ _ h => h) ⟨_, Or.inl ⟨by rfl, fun w' hb => by (go_simp; try with_reducible rfl)⟩, _, by (go_simp; try rfl), ?_⟩
      refine wpAnyB_take 18 rfl (by kernel_rfl) (by kernel_rfl) (by kernel_rfl) (fun _ _ _ _ h => h) ⟨_, Or.inl ⟨by rfl, fun w' hb => by (go_simp; try with_reducible rfl)⟩, _, by (go_simp; try rfl), ?_⟩
      refine wpAnyB_take 19 rfl (by kernel_rfl) (by kernel_rfl) (by kernel_rfl) (fun _ _ _ _ h => h) ⟨_, Or.inl ⟨by rfl, fun w' hb => by (have hc := hb.cellB hQl (show W5.drew.cell? _ = _ from x0); go_simp; try with_reducible rfl)⟩, _, by (go_simp; try rfl), ?_⟩
      refine wpAnyB_take 20 rfl (by kernel_rfl) (by kernel_rfl) (by kernel_rfl) (fun _ _ _ _ h => h) ⟨_, Or.inl ⟨by rfl, fun w' hb => by (go_simp; try with_reducible rfl)⟩, _, by (go_simp; try rfl), ?_⟩
      refine wpAnyB_only 17 rfl (by kernel_rfl) (by rfl) (fun K hK => ?_)
      go_simp
      refine (kL _ ((Below.refl _ W5).drew)).mono ?_
      rintro e V8 ⟨rfl, rfl⟩
      refine hK _ _ ⟨Below.refl _ _, ?_⟩
      refine wpAnyB_take 21 rfl (by kernel_rfl) (by kernel_rfl) (by kernel_rfl) (fun _ _ _ _ h => h) ⟨_, Or.inl ⟨by rfl, fun w' hb => by (go_simp; try with_reducible rfl)⟩, _, by (go_simp; try rfl), ?_⟩
      refine wpAnyB_take 22 rfl (by kernel_rfl) (by kernel_rfl) (by kernel_rfl) (fun _ _ _ _ h => h) ⟨_, Or.inl ⟨by rfl, fun w' hb => by (go_simp; try with_reducible rfl)⟩, _, by (go_simp; try rfl), ?_⟩
      refine wpAnyB_take 23 rfl (by kernel_rfl) (by kernel_rfl) (by kernel_rfl) (fun _ _ _ _ h => h) ⟨_, Or.inl ⟨by rfl, fun w' hb => by (go_simp; try with_reducible rfl)⟩, _, by (go_simp; try rfl), ?_⟩
      refine wpAnyB_take 24 rfl (by kernel_rfl) (by kernel_rfl) (by kernel_rfl) (fun _ _ _ _ h => h) ⟨_, Or.inl ⟨by rfl, fun w' hb => by (go_simp; try with_reducible rfl)⟩, _, by (go_simp; try rfl), ?_⟩
      refine wpAnyB_take 26 rfl (by kernel_rfl) (by kernel_rfl) (by kernel_rfl) (fun _ _ _ _ h => h) ⟨_, Or.inl ⟨by rfl, fun w' hb => by (go_simp; try with_reducible rfl)⟩, _, by (go_simp; try rfl), ?_⟩
      refine wpAnyB_take 27 rfl (by kernel_rfl) (by kernel_rfl) (by kernel_rfl) (fun _ _ _ _ h => h) ⟨_, Or.inl ⟨by rfl, fun w' hb => by (have hc := hb.cellB hQl (show W5.drew.cell? _ = _ from x1); go_simp; try with_reducible rfl)⟩, _, by (go_simp; try rfl), ?_⟩
      refine wpAnyB_only 25 rfl (by kernel_rfl) (by rfl) (fun K hK => ?_)
      go_simp
      refine (kF _ ((Below.refl _ W5).drew)).mono ?_
      rintro e V9 ⟨rfl, rfl⟩
      refine hK _ _ ⟨Below.refl _ _, ?_⟩
      refine wpAnyB_take 28 rfl (by kernel_rfl) (by kernel_rfl) (by kernel_rfl) (fun _ _ _ _ h => h) ⟨_, Or.inl ⟨by rfl, fun w' hb => by (go_simp; try with_reducible rfl)⟩, _, by (go_simp; try rfl), ?_⟩
      refine wpAnyB_take 29 rfl (by kernel_rfl) (by kernel_rfl) (by kernel_rfl) (fun _ _ _ _ h => h) ⟨_, Or.inl ⟨by rfl, fun w' hb => by (go_simp; try with_reducible rfl)⟩, _, by (go_simp; try rfl), ?_⟩
      refine wpAnyB_done (by kernel_rfl) ?_ _
      clear hK
      have hRz := hid (hR5.out.later ((Below.refl _ W5).drew))
      have hQz := hid (show QRd 29 w1 R Q W5.drew zn bd from ⟨a8, l8, cp8, hqW.out, hs8.out, hQR⟩)
      have hBz := hid (Below.trans hB8.out ((Below.refl _ W5).drew))
      clear hR5 hB8 hqW hs8
      go_wp2_with fail
      go_roundw
      case rel => first | exact ⟨k + 1, by omega, by simp, by rw [hru.out]; exact hRz.out, by rw [hru.out]; exact hQz.out, hBz.out⟩ | ((repeat apply Exists.intro); exact ⟨⟨k + 1, by omega, by simp, by rw [hru.out]; exact hRz.out, by rw [hru.out]; exact hQz.out, hBz.out⟩, rfl⟩)
      case measure => show len1 - ((k : Int) + 1).toNat < len1 - (k : Int).toNat; omega
    · have hb1 : (o.k == 1) = false := by simp [k1]
      have eo : okO zk bk o = okR zk bk o.n := by unfold okO; rw [if_neg k0, if_neg k1]
      rw [eo] at hru
      have kW := fun U (h : After _ U) => rraw_v R w1.heap.size zk bk o.n U (hRs.later h) (by omega) hRW (Nat.le_trans hB.size h.size)
      have kQ := fun U (h : Sl .u8 U a5 l5 cp5 zk) => rrawr_any a5 l5 cp5 zk bk o.n U h hbad hl5
      obtain ⟨ok, eok⟩ : ∃ ok, okR zk bk o.n = ok := ⟨_, rfl⟩
      rw [eok] at kW kQ hru
      obtain ⟨zn, ezn⟩ : ∃ zn, gotR ok zk o.n = zn := ⟨_, rfl⟩
      rw [ezn] at kW hru
      obtain ⟨bd, ebd⟩ : ∃ bd, (!ok) = bd := ⟨_, rfl⟩
      rw [ebd] at kW hru
      obtain ⟨zr, ezr⟩ : ∃ zr, bytesR ok zk o.n = zr := ⟨_, rfl⟩
      rw [ezr] at kW
      clear eo hwz hbz hbad eok
      replace hru := hid hru
      replace ezn := hid ezn
      replace ebd := hid ebd
      replace ezr := hid ezr
      replace hs5 := hid hs5
      replace hq5 := hid hq5
      replace hRs := hid hRs
      replace hP := hid hP
      go_wp2_with fail
      refine (kW _ (Below.refl _ _)).mono ?_
      rintro e V6 ⟨⟨a6, l6, cp6, rfl, hs6⟩, hR6, hB6, hX6⟩
      have hB7 : Below w1.heap.size w1 V6 := Below.trans hB hB6
      have hq6 := hX6.held hq5.out (fun e => hQR (Option.some.inj e))
      have d1 := (Below.cell hB6 (show (⟨b, off + k * 5 + 1, none⟩ : Addr).block < w1.heap.size from hlt5)).trans c1
      have hsV := hs5.out.below hB7
      have kQ2 := fun U (h : After V6 U) => kQ U (hsV.below h)
      have qc0 := held_cell hq6 0 _ rfl
      have qc1 := held_cell hq6 1 _ rfl
      clear kQ kW hB6 hB hX6 hRs hq5 hsV hP c0 c1 c2 c3 c4
      replace hR6 := hid hR6
      replace hB7 := hid hB7
      replace hq6 := hid hq6
      replace hs6 := hid hs6
      go_upto_region 15 with (fail)
      refine wp_region_T none 10 (by kernel_rfl) ?_
      refine wpAnyT_take 0 rfl (by kernel_rfl) (by kernel_rfl) (by kernel_rfl) (by kernel_rfl) (fun _ _ _ _ h => h) ⟨_, Or.inl ⟨by rfl, fun w2 hb2 => by (have hx0 := hb2.cell (show V6.drew.cell? _ = _ from qc0) (by simp); have hx1 := hb2.cell (show V6.drew.cell? _ = _ from qc1) (by simp); go_simp; try with_reducible rfl)⟩, _, by (go_simp; try rfl), ?_⟩
      refine wpAnyT_take 1 rfl (by kernel_rfl) (by kernel_rfl) (by kernel_rfl) (by kernel_rfl) (fun _ _ _ _ h => h) ⟨_, Or.inl ⟨by rfl, fun w2 hb2 => by (go_simp; try with_reducible rfl)⟩, _, by (go_simp; try rfl), ?_⟩
      refine wpAnyT_take 2 rfl (by kernel_rfl) (by kernel_rfl) (by kernel_rfl) (by kernel_rfl) (fun _ _ _ _ h => h) ⟨_, Or.inl ⟨by rfl, fun w2 hb2 => by (go_simp; try with_reducible rfl)⟩, _, by (go_simp; try rfl), ?_⟩
      refine wpAnyT_take 3 rfl (by kernel_rfl) (by kernel_rfl) (by kernel_rfl) (by kernel_rfl) (fun _ _ _ _ h => h) ⟨_, Or.inl ⟨by rfl, fun w2 hb2 => by (go_simp; try with_reducible rfl)⟩, _, by (go_simp; try rfl), ?_⟩
      refine wpAnyT_take 4 rfl (by kernel_rfl) (by kernel_rfl) (by kernel_rfl) (by kernel_rfl) (fun _ _ _ _ h => h) ⟨_, Or.inl ⟨by rfl, fun w2 hb2 => by (go_simp; try with_reducible rfl)⟩, _, by (go_simp; try rfl), ?_⟩
      refine wpAnyT_take 5 rfl (by kernel_rfl) (by kernel_rfl) (by kernel_rfl) (by kernel_rfl) (fun _ _ _ _ h => h) ⟨_, Or.inl ⟨by rfl, fun w2 hb2 => by (have hx := hb2.cell (show V6.drew.cell? _ = _ from d1) (by simp); go_simp; try with_reducible rfl)⟩, _, by (go_simp; try rfl), ?_⟩
      refine wpAnyT_only 6 rfl (by kernel_rfl) (by rfl) (fun K hK => ?_)
      go_simp
      refine (kQ2 _ ((Below.refl _ _).drew)).mono ?_
      rintro e V7 ⟨a8, l8, cp8, a9, l9, cp9, rfl, hR8, hs9, hA9⟩
      refine hK _ _ ⟨fun _ => rx_after hA9, ?_⟩
      clear hK
      rw [ebd.out]
      replace hA9 : After V6 V7 := Below.trans ((Below.refl _ V6).drew) hA9
      have hs8 := hR8 w1 hs5.out
      rw [ezn.out] at hs8
      have q7 := held_after hA9 hq6.out
      have d0 := held_cell q7 0 _ rfl
      have d1 := held_cell q7 1 _ rfl
      have f0 := held_free q7 0
      have f1 := held_free q7 1
      obtain ⟨W5, eW5, x0, x1, xz, xB, xO⟩ := two_set (u0 := .slice a8 l8 cp8) (u1 := .bool bd) q7
      have hqW : W5.heap[Q]? = some (.cells #[.slice a8 l8 cp8, .bool bd] 29 (0, 0)) := by rw [← eW5]; exact held_set (held_set q7 0 _) 1 _
      have hR5 := (hR6.out.later hA9).other q7 no_int2 hQR xO
      have hB8 : Below w1.heap.size w1 W5 := Below.trans (hB7.out.trans (hA9.mono hB7.out.size)) (xB.mono hWQ)
      rw [ezr.out] at hs9
      have hsA := (hs6.out.below hA9).other q7 no_int2 xO
      have hsB := hs9.other q7 no_int2 xO
      replace hsA := hid hsA
      replace hsB := hid hsB
      clear hs9 hs6
      clear hR8 q7 xB xO kQ2 qc0 qc1 hq6 hB7 hA9 hR6 hs5
      replace hs8 := hid hs8
      replace hqW := hid hqW
      replace hR5 := hid hR5
      replace hB8 := hid hB8
      refine wpAnyT_takeP 7 rfl (by kernel_rfl) (by kernel_rfl) (by kernel_rfl) (fun _ _ _ _ h => h) ⟨_, Or.inl ⟨by rfl, fun w2 _ => by (go_simp; try with_reducible rfl)⟩, _, by (go_simp; try rfl), ?_⟩
      refine wpAnyT_takeP 8 rfl (by kernel_rfl) (by kernel_rfl) (by kernel_rfl) (fun _ _ _ _ h => h) ⟨_, Or.inl ⟨by rfl, fun w2 _ => by (go_simp; try with_reducible rfl)⟩, _, by (go_simp; try rfl), ?_⟩
      refine wpAnyT_takeP 9 rfl (by kernel_rfl) (by kernel_rfl) (by kernel_rfl) (fun _ _ _ _ h => h) ⟨_, Or.inl ⟨by rfl, fun w2 _ => by (go_simp; try with_reducible rfl)⟩, _, by (go_simp; try rfl), ?_⟩
      refine wpAnyT_only 10 rfl (by kernel_rfl) (by rfl) (fun K hK => ?_)
      go_simp
      refine hK _ _ ⟨fun h => (h rfl).elim, ?_⟩
      clear hK
      refine wpAnyT_only 11 rfl (by kernel_rfl) (by rfl) (fun K hK => ?_)
      go_simp
      refine hK _ _ ⟨fun _ => RX.refl _ _, wpAnyT_done (by kernel_rfl) ?_ _⟩
      clear hK
      have kL := fun U (h : After W5 U) => rleft_st R zn bd U (hR5.out.later h)
      rw [hs8.out.1] at kL
      have kF := fun U (h : After W5 U) => rfail_st R zn bd U (hR5.out.later h)
      obtain ⟨TX, hTX⟩ : ∃ TX, textOf zr = TX := ⟨_, rfl⟩
      have hTA := fun U (h : Aft W5.heap.size W5.drew U) => (Sl.below hsA.out (Below.trans ((Below.refl _ W5).drew) h)).text 22 9 5 Try.underlying22 Try.underlying5 Try.underlying9
      have hTB := fun U (h : Aft W5.heap.size W5.drew U) => (Sl.below hsB.out (Below.trans ((Below.refl _ W5).drew) h)).text 22 9 5 Try.underlying22 Try.underlying5 Try.underlying9
      rw [hTX] at hTA hTB
      have hQl : Q < W5.heap.size := held_lt hqW.out
      go_upto_region 22 with (fail)
      refine wp_region_B (B := W5.heap.size) (by kernel_rfl) ?_
      refine wpAnyB_take 0 rfl (by kernel_rfl) (by kernel_rfl) (by kernel_rfl) (fun _ _ _ _ h => h) ⟨_, Or.inl ⟨by rfl, fun w' hb => by (go_simp; try with_reducible rfl)⟩, _, by (go_simp; try rfl), ?_⟩
      refine wpAnyB_take 1 rfl (by kernel_rfl) (by kernel_rfl) (by kernel_rfl) (fun _ _ _ _ h => h) ⟨_, Or.inl ⟨by rfl, fun w' hb => by (go_simp; try with_reducible rfl)⟩, _, by (go_simp; try rfl), ?_⟩
      refine wpAnyB_take 2 rfl (by kernel_rfl) (by kernel_rfl) (by kernel_rfl) (fun _ _ _ _ h => h) ⟨_, Or.inl ⟨by rfl, fun w' hb => by (go_simp; try with_reducible rfl)⟩, _, by (go_simp; try rfl), ?_⟩
      refine wpAnyB_take 3 rfl (by kernel_rfl) (by kernel_rfl) (by kernel_rfl) (fun _ _ _ _ h => h) ⟨_, Or.inl ⟨by rfl, fun w' hb => by (go_simp; try with_reducible rfl)⟩, _, by (go_simp; try rfl), ?_⟩
      refine wpAnyB_take 4 rfl (by kernel_rfl) (by kernel_rfl) (by kernel_rfl) (fun _ _ _ _ h => h) ⟨_, Or.inl ⟨by rfl, fun w' hb => by (go_simp; try with_reducible rfl)⟩, _, by (go_simp; try rfl), ?_⟩
      refine wpAnyB_take 5 rfl (by kernel_rfl) (by kernel_rfl) (by kernel_rfl) (fun _ _ _ _ h => h) ⟨_, Or.inl ⟨by rfl, fun w' hb => by (go_simp; try with_reducible rfl)⟩, _, by (go_simp; try rfl), ?_⟩
      refine wpAnyB_take 6 rfl (by kernel_rfl) (by kernel_rfl) (by kernel_rfl) (fun _ _ _ _ h => h) ⟨_, Or.inl ⟨by rfl, fun w' hb => by (go_simp; try with_reducible rfl)⟩, _, by (go_simp; try rfl), ?_⟩
      refine wpAnyB_take 7 rfl (by kernel_rfl) (by kernel_rfl) (by kernel_rfl) (fun _ _ _ _ h => h) ⟨_, Or.inl ⟨by rfl, fun w' hb => by (go_simp; try with_reducible rfl)⟩, _, by (go_simp; try rfl), ?_⟩
      refine wpAnyB_take 8 rfl (by kernel_rfl) (by kernel_rfl) (by kernel_rfl) (fun _ _ _ _ h => h) ⟨_, Or.inl ⟨by rfl, fun w' hb => by (go_simp; try with_reducible rfl)⟩, _, by (go_simp; try rfl), ?_⟩
      refine wpAnyB_take 9 rfl (by kernel_rfl) (by kernel_rfl) (by kernel_rfl) (fun _ _ _ _ h => h) ⟨_, Or.inl ⟨by rfl, fun w' hb => by (go_simp; try with_reducible rfl)⟩, _, by (go_simp; try rfl), ?_⟩
      refine wpAnyB_take 10 rfl (by kernel_rfl) (by kernel_rfl) (by kernel_rfl) (fun _ _ _ _ h => h) ⟨_, Or.inl ⟨by rfl, fun w' hb => by (have hx := hTA w' hb; go_simp; try with_reducible rfl)⟩, _, by (go_simp; try rfl), ?_⟩
      refine wpAnyB_take 11 rfl (by kernel_rfl) (by kernel_rfl) (by kernel_rfl) (fun _ _ _ _ h => h) ⟨_, Or.inl ⟨by rfl, fun w' hb => by (go_simp; try with_reducible rfl)⟩, _, by (go_simp; try rfl), ?_⟩
      refine wpAnyB_take 12 rfl (by kernel_rfl) (by kernel_rfl) (by kernel_rfl) (fun _ _ _ _ h => h) ⟨_, Or.inl ⟨by rfl, fun w' hb => by (have hx := hTB w' hb; go_simp; try with_reducible rfl)⟩, _, by (go_simp; try rfl), ?_⟩
      refine wpAnyB_take 13 rfl (by kernel_rfl) (by kernel_rfl) (by kernel_rfl) (fun _ _ _ _ h => h) ⟨_, Or.inl ⟨by rfl, fun w' hb => by (go_simp; try with_reducible rfl)⟩, _, by (go_simp; try rfl), ?_⟩
      refine wpAnyB_take 14 rfl (by kernel_rfl) (by kernel_rfl) (by kernel_rfl) (fun _ _ _ _ h => h) ⟨_, Or.inl ⟨by rfl, fun w' hb => by (go_simp; try with_reducible rfl)⟩, _, by (go_simp; try rfl), ?_⟩
      refine wpAnyB_take 15 rfl (by kernel_rfl) (by kernel_rfl) (by kernel_rfl) (fun _ _ _ _ h => h) ⟨_, Or.inl ⟨by rfl, fun w' hb => by (go_simp; try with_reducible rfl)⟩, _, by (go_simp; try rfl), ?_⟩
      refine wpAnyB_take 16 rfl (by kernel_rfl) (by kernel_rfl) (by kernel_rfl) (fun _ _ _ _ h => h) ⟨_, Or.inl ⟨by rfl, fun w' hb => by (go_simp; try with_reducible rfl)⟩, _, by (go_simp; try rfl), ?_⟩
      refine wpAnyB_take 18 rfl (by kernel_rfl) (by kernel_rfl) (by kernel_rfl) (fun _ _ _ _ h => h) ⟨_, Or.inl ⟨by rfl, fun w' hb => by (go_simp; try with_reducible rfl)⟩, _, by (go_simp; try rfl), ?_⟩
      refine wpAnyB_take 19 rfl (by kernel_rfl) (by kernel_rfl) (by kernel_rfl) (fun _ _ _ _ h => h) ⟨_, Or.inl ⟨by rfl, fun w' hb => by (have hc := hb.cellB hQl (show W5.drew.cell? _ = _ from x0); go_simp; try with_reducible rfl)⟩, _, by (go_simp; try rfl), ?_⟩
      refine wpAnyB_take 20 rfl (by kernel_rfl) (by kernel_rfl) (by kernel_rfl) (fun _ _ _ _ h => h) ⟨_, Or.inl ⟨by rfl, fun w' hb => by (go_simp; try with_reducible rfl)⟩, _, by (go_simp; try rfl), ?_⟩
      refine wpAnyB_only 17 rfl (by kernel_rfl) (by rfl) (fun K hK => ?_)
      go_simp
      refine (kL _ ((Below.refl _ W5).drew)).mono ?_
      rintro e V8 ⟨rfl, rfl⟩
      refine hK _ _ ⟨Below.refl _ _, ?_⟩
      refine wpAnyB_take 21 rfl (by kernel_rfl) (by kernel_rfl) (by kernel_rfl) (fun _ _ _ _ h => h) ⟨_, Or.inl ⟨by rfl, fun w' hb => by (go_simp; try with_reducible rfl)⟩, _, by (go_simp; try rfl), ?_⟩
      refine wpAnyB_take 22 rfl (by kernel_rfl) (by kernel_rfl) (by kernel_rfl) (fun _ _ _ _ h => h) ⟨_, Or.inl ⟨by rfl, fun w' hb => by (go_simp; try with_reducible rfl)⟩, _, by (go_simp; try rfl), ?_⟩
      refine wpAnyB_take 23 rfl (by kernel_rfl) (by kernel_rfl) (by kernel_rfl) (fun _ _ _ _ h => h) ⟨_, Or.inl ⟨by rfl, fun w' hb => by (go_simp; try with_reducible rfl)⟩, _, by (go_simp; try rfl), ?_⟩
      refine wpAnyB_take 24 rfl (by kernel_rfl) (by kernel_rfl) (by kernel_rfl) (fun _ _ _ _ h => h) ⟨_, Or.inl ⟨by rfl, fun w' hb => by (go_simp; try with_reducible rfl)⟩, _, by (go_simp; try rfl), ?_⟩
      refine wpAnyB_take 26 rfl (by kernel_rfl) (by kernel_rfl) (by kernel_rfl) (fun _ _ _ _ h => h) ⟨_, Or.inl ⟨by rfl, fun w' hb => by (go_simp; try with_reducible rfl)⟩, _, by (go_simp; try rfl), ?_⟩
      refine wpAnyB_take 27 rfl (by kernel_rfl) (by kernel_rfl) (by kernel_rfl) (fun _ _ _ _ h => h) ⟨_, Or.inl ⟨by rfl, fun w' hb => by (have hc := hb.cellB hQl (show W5.drew.cell? _ = _ from x1); go_simp; try with_reducible rfl)⟩, _, by (go_simp; try rfl), ?_⟩
      refine wpAnyB_only 25 rfl (by kernel_rfl) (by rfl) (fun K hK => ?_)
      go_simp
      refine (kF _ ((Below.refl _ W5).drew)).mono ?_
      rintro e V9 ⟨rfl, rfl⟩
      refine hK _ _ ⟨Below.refl _ _, ?_⟩
      refine wpAnyB_take 28 rfl (by kernel_rfl) (by kernel_rfl) (by kernel_rfl) (fun _ _ _ _ h => h) ⟨_, Or.inl ⟨by rfl, fun w' hb => by (go_simp; try with_reducible rfl)⟩, _, by (go_simp; try rfl), ?_⟩
      refine wpAnyB_take 29 rfl (by kernel_rfl) (by kernel_rfl) (by kernel_rfl) (fun _ _ _ _ h => h) ⟨_, Or.inl ⟨by rfl, fun w' hb => by (go_simp; try with_reducible rfl)⟩, _, by (go_simp; try rfl), ?_⟩
      refine wpAnyB_done (by kernel_rfl) ?_ _
      clear hK
      have hRz := hid (hR5.out.later ((Below.refl _ W5).drew))
      have hQz := hid (show QRd 29 w1 R Q W5.drew zn bd from ⟨a8, l8, cp8, hqW.out, hs8.out, hQR⟩)
      have hBz := hid (Below.trans hB8.out ((Below.refl _ W5).drew))
      clear hR5 hB8 hqW hs8
      go_wp2_with fail
      go_roundw
      case rel => first | exact ⟨k + 1, by omega, by simp, by rw [hru.out]; exact hRz.out, by rw [hru.out]; exact hQz.out, hBz.out⟩ | ((repeat apply Exists.intro); exact ⟨⟨k + 1, by omega, by simp, by rw [hru.out]; exact hRz.out, by rw [hru.out]; exact hQz.out, hBz.out⟩, rfl⟩)
      case measure => show len1 - ((k : Int) + 1).toNat < len1 - (k : Int).toNat; omega

end Go.Proofs.Ytfcgeogooapmpaa
