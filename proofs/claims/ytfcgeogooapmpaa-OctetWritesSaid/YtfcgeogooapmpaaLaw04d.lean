/- Stage 4: what is written. -/
import Derived.Test.YtfcgeogooapmpaaOctet21
import Derived.Test.YtfcgeogooapmpaaLaw04
import Derived.Test.YtfcgeogooapmpaaRegionB
namespace Go.Proofs.Ytfcgeogooapmpaa
open Go.ChangeShapes Go.WideShapes Go.ChangeAt Go.RowKit Go.Shelf
set_option linter.unusedVariables false

/-- The cells of call k. -/
theorem opcells {W : World} {a : Option Addr} {len cap : Nat} {V : Nat → Nat → Value} {k : Nat} {o : OpV} (hF : Flat W a len cap 5 V) (hk : k < len) (hO : OpIs W (V k) o) :
    ∃ b off, a = some ⟨b, off, none⟩ ∧ b < W.heap.size ∧ W.cell? ⟨b, off + k * 5, none⟩ = some (.int .i64 o.k) ∧ W.cell? ⟨b, off + k * 5 + 1, none⟩ = some (.int .i64 o.n) ∧ W.cell? ⟨b, off + k * 5 + 2, none⟩ = some (.int .u64 o.u) ∧ W.cell? ⟨b, off + k * 5 + 3, none⟩ = some (.int .i64 o.i) ∧ W.cell? ⟨b, off + k * 5 + 4, none⟩ = some (.slice o.b o.l o.c) := by
  obtain ⟨_, _, _, hc⟩ := hF
  obtain ⟨b, off, rfl, h0⟩ := hc k hk 0 (by omega)
  have hb := World.block_lt_of_cell? W _ h0
  have g := fun j (hj : j < 5) => (show W.cell? ⟨b, off + k * 5 + j, none⟩ = some (V k j) by
    obtain ⟨b2, off2, e, h⟩ := hc k hk j hj
    simp at e
    obtain ⟨rfl, rfl⟩ := e
    rw [← Nat.add_assoc] at h; exact h)
  refine ⟨b, off, rfl, hb, ?_, ?_, ?_, ?_, ?_⟩
  · rw [← hO.v0]; exact g 0 (by omega)
  · rw [← hO.v1]; exact g 1 (by omega)
  · rw [← hO.v2]; exact g 2 (by omega)
  · rw [← hO.v3]; exact g 3 (by omega)
  · rw [← hO.v4]; exact g 4 (by omega)
/-- What a round has of call k. -/
theorem opround {W w : World} {a : Option Addr} {len cap : Nat} {V : Nat → Nat → Value} {f : Nat → OpV} {k : Nat} (hF : Flat W a len cap 5 V) (hk : k < len) (hO : ∀ i, i < len → OpIs W (V i) (f i)) (hB : Below W.heap.size W w) :
    ∃ o, f k = o ∧ OpIs w (V k) o ∧ ∃ b off, a = some ⟨b, off, none⟩ ∧ b < W.heap.size ∧ w.cell? ⟨b, off + k * 5, none⟩ = some (.int .i64 o.k) ∧ w.cell? ⟨b, off + k * 5 + 1, none⟩ = some (.int .i64 o.n) ∧ w.cell? ⟨b, off + k * 5 + 2, none⟩ = some (.int .u64 o.u) ∧ w.cell? ⟨b, off + k * 5 + 3, none⟩ = some (.int .i64 o.i) ∧ w.cell? ⟨b, off + k * 5 + 4, none⟩ = some (.slice o.b o.l o.c) := by
  obtain ⟨b, off, e, hb, c0, c1, c2, c3, c4⟩ := opcells hF hk (hO k hk)
  have g := fun (p : Addr) (v : Value) (hp : p.block = b) (h : W.cell? p = some v) => (Below.cell hB (show p.block < W.heap.size by rw [hp]; exact hb)).trans h
  exact ⟨_, rfl, (hO k hk).below hB, b, off, e, hb, g _ _ rfl c0, g _ _ rfl c1, g _ _ rfl c2, g _ _ rfl c3, g _ _ rfl c4⟩

set_option maxRecDepth 100000 in
set_option maxHeartbeats 4000000 in
theorem law_OctetWrites (a0 : Option Addr) (len0 cap0 : Nat) (vv0 : Nat → Nat → Value) (W : World) (w0 : Flat W a0 len0 cap0 5 vv0) (t0 : ∀ i, i < len0 → (∃ n, vv0 i 0 = .int .i64 n ∧ (Lit.int .i64 n).wf = true) ∧ (∃ n, vv0 i 1 = .int .i64 n ∧ (Lit.int .i64 n).wf = true) ∧ (∃ n, vv0 i 2 = .int .u64 n ∧ (Lit.int .u64 n).wf = true) ∧ (∃ n, vv0 i 3 = .int .i64 n ∧ (Lit.int .i64 n).wf = true) ∧ (∃ b l c zs, vv0 i 4 = .slice b l c ∧ IsRow .u8 W b l c zs)) :
    Calls Try.prog 4 #[.slice a0 len0 cap0] W fun e w' => e = .returned (.bool true) ∧ Below W.heap.size W w' := by
  obtain ⟨f, hO⟩ := ops_of t0
  clear t0
  have kf := few_any a0 len0 cap0 vv0 f W w0 hO
  by_cases cf : fewS f len0 = true
  case neg =>
    rw [Bool.eq_false_iff.2 cf] at kf
    clear cf
    go_enter Try.func4, Try.ntmps4
    go_wp2_with fail
    refine kf.mono ?_
    rintro e w1 ⟨rfl, rfl⟩
    go_wp2_with fail
    refine (knows4_any _).mono ?_
    rintro e V ⟨rfl, hst⟩
    go_wp2_with fail
    go_ret
    exact ⟨rfl, hst⟩
  rw [cf] at kf
  obtain ⟨hlen, hfew⟩ := of_decide_eq_true cf
  have hls : Go.RowKit.Hid (∀ i, i < len0 → (f i).l ≤ 100 ∧ (f i).z.length = (f i).l) := fun i hi => ⟨hfew i hi, (hO i hi).sl.1⟩
  clear cf hfew
  replace hO := hid hO
  replace w0 := hid w0
  go_enter Try.func4, Try.ntmps4
  go_wp2_with fail
  refine kf.mono ?_
  rintro e w1 ⟨rfl, rfl⟩
  go_wp2_with fail
  refine (knows4_any _).mono ?_
  rintro e V ⟨rfl, hB⟩
  go_wp2_with fail
  refine (make_any V).mono ?_
  rintro e V2 ⟨rfl, hH, hA2⟩
  obtain ⟨B, hBB⟩ : ∃ B, V.heap.size = B := ⟨_, rfl⟩
  have hWB : w1.heap.size ≤ B := by rw [← hBB]; exact hB.size
  have hB2 := bthen hB hA2
  rw [hBB] at hH ⊢
  have hWs : WSt B (B + 1) V2 (wst f 0) (!okAll f 0) := ⟨held_lt hH, held_lt hH, none, 0, hH, Own.nil _ _ _ _⟩
  clear hA2 hB hH hBB kf
  have hQs : QSt 46 B V2.heap.size (V2.alloc (.cells #[.slice none 0 0, .bool false] 46)) (wst f 0) (!okAll f 0) := QSt.made hWs
  have hA3 : After V2 (V2.alloc (.cells #[.slice none 0 0, .bool false] 46)) := (Below.refl _ V2).alloc (Nat.le_refl _) _
  replace hWs := hWs.later hA3
  obtain ⟨Q, hQ⟩ : ∃ Q, V2.heap.size = Q := ⟨_, rfl⟩
  obtain ⟨V3, hV3⟩ : ∃ V3, V2.alloc (.cells #[.slice none 0 0, .bool false] 46) = V3 := ⟨_, rfl⟩
  have hWQ : w1.heap.size ≤ Q := by rw [← hQ]; exact hB2.size
  replace hB2 := bthen hB2 hA3
  rw [hQ, hV3] at hQs
  rw [hV3] at hWs hB2
  clear hA3
  replace hWs := hid hWs
  replace hQs := hid hQs
  replace hB2 := hid hB2
  replace hQ := hid hQ
  replace hV3 := hid hV3
  go_wp2_with fail
  rw [hV3.out, hQ.out]
  clear hQ hV3
  go_loopw [5] (fun i wr => ∃ k : Nat, k ≤ len0 ∧ i = .int .i64 k ∧ WSt B (B + 1) wr (wst f k) (!okAll f k) ∧ QSt 46 B Q wr (wst f k) (!okAll f k) ∧ Below w1.heap.size w1 wr) (fun i _ => len0 - (intOf i).toNat)
  case atStart => exact ⟨0, by omega, rfl, hWs.out, hQs.out, hB2.out⟩
  case round =>
    clear hWs hQs hB2
    obtain ⟨k, hk, rfl, hWs, hQs, hB⟩ := hrel
    by_cases hlt : (k : Int) < len0
    case neg =>
      replace hB := hid hB
      go_wp2_with fail
      go_ret
      exact ⟨rfl, hB.out⟩
    have hk2 : k < len0 := by omega
    obtain ⟨o, hfo, hP, b, off, rfl, hlt5, c0, c1, c2, c3, c4⟩ := opround w0.out hk2 hO.out hB
    have hwl := wst_len f k (by omega) (fun i hi => hls.out i (by omega))
    have hwl2 := wst_len f (k + 1) (by omega) (fun i hi => hls.out i (by omega))
    have hnx := wst_next f k
    rw [hfo] at hnx
    have hbb : w1.heap.size ≤ B + 1 := by omega
    have hbd : (!okAll f (k + 1)) = false → (!okAll f k) = false := fun h => by rw [← hnx.2] at h; revert h; cases okAll f k <;> simp
    have hzn : (!okAll f (k + 1)) = true → wst f (k + 1) = [] := fun h => by unfold wst; rw [if_neg (by simpa using h)]
    have hzo : (!okAll f k) = true → wst f k = [] := fun h => by unfold wst; rw [if_neg (by simpa using h)]
    by_cases k0 : o.k = 0
    · have hb0 : (o.k == 0) = true := by simp [k0]
      have ep : pc o = bytesL o.u o.n.toNat := by unfold pc; rw [if_pos k0]
      have eo : okp o = fitU o.n o.u := by unfold okp; rw [if_pos k0]
      rw [ep, eo] at hnx
      have kW := fun U (h : After _ U) => wu_st B (B + 1) w1.heap.size _ _ o.n o.u hP.hu.1 hP.hu.2 U (hWs.later h) (by omega) hWB hbb
      have kQ := fun (a l c : _) (U : World) (h : Sl .u8 U a l c _) hl => rputu_any a l c _ _ o.n o.u hP.hu.1 hP.hu.2 U h hzo hl
      rw [Bool.not_not] at kW
      simp only [Bool.not_not] at kQ
      rw [hnx.1, hnx.2] at kW
      rw [hnx.1, hnx.2] at kQ
      clear hnx ep eo hfo hwl
      have hW0 := hid hWs
      clear hWs
      go_upto_region 12 with (fail)
      refine wp_region_B (B := w1.heap.size) (by kernel_rfl) ?_
      refine wpAnyB_take 0 rfl (by kernel_rfl) (by kernel_rfl) (by kernel_rfl) (fun _ _ _ _ h => h) ⟨_, Or.inl ⟨by rfl, fun w' hb => by (go_simp; try with_reducible rfl)⟩, _, by (go_simp; try rfl), ?_⟩
      refine wpAnyB_take 1 rfl (by kernel_rfl) (by kernel_rfl) (by kernel_rfl) (fun _ _ _ _ h => h) ⟨_, Or.inl ⟨by rfl, fun w' hb => by (go_simp; try with_reducible rfl)⟩, _, by (go_simp; try rfl), ?_⟩
      refine wpAnyB_take 2 rfl (by kernel_rfl) (by kernel_rfl) (by kernel_rfl) (fun _ _ _ _ h => h) ⟨_, Or.inl ⟨by rfl, fun w' hb => by (go_simp; try with_reducible rfl)⟩, _, by (go_simp; try rfl), ?_⟩
      refine wpAnyB_take 3 rfl (by kernel_rfl) (by kernel_rfl) (by kernel_rfl) (fun _ _ _ _ h => h) ⟨_, Or.inl ⟨by rfl, fun w' hb => by (go_simp; try with_reducible rfl)⟩, _, by (go_simp; try rfl), ?_⟩
      refine wpAnyB_take 4 rfl (by kernel_rfl) (by kernel_rfl) (by kernel_rfl) (fun _ _ _ _ h => h) ⟨_, Or.inl ⟨by rfl, fun w' hb => by (go_simp; try with_reducible rfl)⟩, _, by (go_simp; try rfl), ?_⟩
      refine wpAnyB_take 5 rfl (by kernel_rfl) (by kernel_rfl) (by kernel_rfl) (fun _ _ _ _ h => h) ⟨_, Or.inl ⟨by rfl, fun w' hb => by (have hc := hb.cellB hlt5 c1; go_simp; try with_reducible rfl)⟩, _, by (go_simp; try rfl), ?_⟩
      refine wpAnyB_take 6 rfl (by kernel_rfl) (by kernel_rfl) (by kernel_rfl) (fun _ _ _ _ h => h) ⟨_, Or.inl ⟨by rfl, fun w' hb => by (go_simp; try with_reducible rfl)⟩, _, by (go_simp; try rfl), ?_⟩
      refine wpAnyB_take 7 rfl (by kernel_rfl) (by kernel_rfl) (by kernel_rfl) (fun _ _ _ _ h => h) ⟨_, Or.inl ⟨by rfl, fun w' hb => by (go_simp; try with_reducible rfl)⟩, _, by (go_simp; try rfl), ?_⟩
      refine wpAnyB_take 8 rfl (by kernel_rfl) (by kernel_rfl) (by kernel_rfl) (fun _ _ _ _ h => h) ⟨_, Or.inl ⟨by rfl, fun w' hb => by (go_simp; try with_reducible rfl)⟩, _, by (go_simp; try rfl), ?_⟩
      refine wpAnyB_take 9 rfl (by kernel_rfl) (by kernel_rfl) (by kernel_rfl) (fun _ _ _ _ h => h) ⟨_, Or.inl ⟨by rfl, fun w' hb => by (go_simp; try with_reducible rfl)⟩, _, by (go_simp; try rfl), ?_⟩
      refine wpAnyB_take 10 rfl (by kernel_rfl) (by kernel_rfl) (by kernel_rfl) (fun _ _ _ _ h => h) ⟨_, Or.inl ⟨by rfl, fun w' hb => by (have hc := hb.cellB hlt5 c2; go_simp; try with_reducible rfl)⟩, _, by (go_simp; try rfl), ?_⟩
      refine wpAnyB_only 11 rfl (by kernel_rfl) (by rfl) (fun K hK => ?_)
      go_simp
      refine (kW _ ((Below.refl _ _).drew)).mono ?_
      rintro e V6 ⟨rfl, hWs, hB6, hP6⟩
      refine hK _ _ ⟨hB6, ?_⟩
      refine wpAnyB_done (by kernel_rfl) ?_ _
      clear hK
      replace hB6 := Below.trans ((Below.refl w1.heap.size _).drew) hB6
      have hB7 : Below w1.heap.size w1 V6 := Below.trans hB hB6
      have hQ6 := hQs.kp (Owp.drew.trans hP6)
      have d1 := (Below.cell hB6 (show (⟨b, off + k * 5 + 1, none⟩ : Addr).block < w1.heap.size from hlt5)).trans c1
      have d2 := (Below.cell hB6 (show (⟨b, off + k * 5 + 2, none⟩ : Addr).block < w1.heap.size from hlt5)).trans c2
      have d3 := (Below.cell hB6 (show (⟨b, off + k * 5 + 3, none⟩ : Addr).block < w1.heap.size from hlt5)).trans c3
      obtain ⟨a5, l5, cp5, hq5, hs5, hQne, hQow, hz5, hse5⟩ := hQ6
      have hQ6 : QSt 46 B Q V6 _ _ := ⟨a5, l5, cp5, hq5, hs5, hQne, hQow, hz5, hse5⟩
      have hl5 : l5 ≤ 1000000 := by have := hs5.1; have := wst_len f k (by omega) (fun i hi => hls.out i (by omega)); omega
      have kQ2 := fun U (h : After V6 U) => kQ a5 l5 cp5 U (hs5.below h) hl5
      have qc0 := held_cell hq5 0 _ rfl
      have qc1 := held_cell hq5 1 _ rfl
      clear kQ kW hB6 hB hP6 hQs hW0 c0 c1 c2 c3 c4
      obtain ⟨bd, ebd⟩ : ∃ bd, (!okAll f (k + 1)) = bd := ⟨_, rfl⟩
      obtain ⟨b0, eb0⟩ : ∃ b0, (!okAll f k) = b0 := ⟨_, rfl⟩
      have eok : okAll f (k + 1) = !bd := by rw [← ebd, Bool.not_not]
      rw [ebd] at hbd hzn hWs
      rw [eb0] at hbd hzo hQ6 hq5 qc1 hz5 hse5
      simp only [eok] at kQ2
      rw [eb0] at kQ2
      obtain ⟨zk, ezk⟩ : ∃ zk, wst f (k + 1) = zk := ⟨_, rfl⟩
      rw [ezk] at hzn hWs kQ2 hwl2
      replace ebd := hid ebd
      replace eb0 := hid eb0
      replace ezk := hid ezk
      clear eok
      replace hbd := hid hbd
      replace hzn := hid hzn
      replace hzo := hid hzo
      replace hse5 := hid hse5
      replace hz5 := hid hz5
      replace hWs := hid hWs
      replace hQ6 := hid hQ6
      replace hq5 := hid hq5
      replace hB7 := hid hB7
      go_upto_region 13 with (fail)
      refine wp_region_T none 12 (by kernel_rfl) ?_
      refine wpAnyT_take 0 rfl (by kernel_rfl) (by kernel_rfl) (by kernel_rfl) (by kernel_rfl) (fun _ _ _ _ h => h) ⟨_, Or.inl ⟨by rfl, fun w2 hb2 => by (have hx0 := hb2.cell (show V6.drew.cell? _ = _ from qc0) (by simp); have hx1 := hb2.cell (show V6.drew.cell? _ = _ from qc1) (by simp); go_simp; try with_reducible rfl)⟩, _, by (go_simp; try rfl), ?_⟩
      refine wpAnyT_take 1 rfl (by kernel_rfl) (by kernel_rfl) (by kernel_rfl) (by kernel_rfl) (fun _ _ _ _ h => h) ⟨_, Or.inl ⟨by rfl, fun w2 hb2 => by (go_simp; try with_reducible rfl)⟩, _, by (go_simp; try rfl), ?_⟩
      refine wpAnyT_take 2 rfl (by kernel_rfl) (by kernel_rfl) (by kernel_rfl) (by kernel_rfl) (fun _ _ _ _ h => h) ⟨_, Or.inl ⟨by rfl, fun w2 hb2 => by (go_simp; try with_reducible rfl)⟩, _, by (go_simp; try rfl), ?_⟩
      refine wpAnyT_take 3 rfl (by kernel_rfl) (by kernel_rfl) (by kernel_rfl) (by kernel_rfl) (fun _ _ _ _ h => h) ⟨_, Or.inl ⟨by rfl, fun w2 hb2 => by (go_simp; try with_reducible rfl)⟩, _, by (go_simp; try rfl), ?_⟩
      refine wpAnyT_take 4 rfl (by kernel_rfl) (by kernel_rfl) (by kernel_rfl) (by kernel_rfl) (fun _ _ _ _ h => h) ⟨_, Or.inl ⟨by rfl, fun w2 hb2 => by (go_simp; try with_reducible rfl)⟩, _, by (go_simp; try rfl), ?_⟩
      refine wpAnyT_take 5 rfl (by kernel_rfl) (by kernel_rfl) (by kernel_rfl) (by kernel_rfl) (fun _ _ _ _ h => h) ⟨_, Or.inl ⟨by rfl, fun w2 hb2 => by (have hx := hb2.cell (show V6.drew.cell? _ = _ from d1) (by simp); go_simp; try with_reducible rfl)⟩, _, by (go_simp; try rfl), ?_⟩
      refine wpAnyT_take 6 rfl (by kernel_rfl) (by kernel_rfl) (by kernel_rfl) (by kernel_rfl) (fun _ _ _ _ h => h) ⟨_, Or.inl ⟨by rfl, fun w2 hb2 => by (go_simp; try with_reducible rfl)⟩, _, by (go_simp; try rfl), ?_⟩
      refine wpAnyT_take 7 rfl (by kernel_rfl) (by kernel_rfl) (by kernel_rfl) (by kernel_rfl) (fun _ _ _ _ h => h) ⟨_, Or.inl ⟨by rfl, fun w2 hb2 => by (go_simp; try with_reducible rfl)⟩, _, by (go_simp; try rfl), ?_⟩
      refine wpAnyT_take 8 rfl (by kernel_rfl) (by kernel_rfl) (by kernel_rfl) (by kernel_rfl) (fun _ _ _ _ h => h) ⟨_, Or.inl ⟨by rfl, fun w2 hb2 => by (go_simp; try with_reducible rfl)⟩, _, by (go_simp; try rfl), ?_⟩
      refine wpAnyT_take 9 rfl (by kernel_rfl) (by kernel_rfl) (by kernel_rfl) (by kernel_rfl) (fun _ _ _ _ h => h) ⟨_, Or.inl ⟨by rfl, fun w2 hb2 => by (go_simp; try with_reducible rfl)⟩, _, by (go_simp; try rfl), ?_⟩
      refine wpAnyT_take 10 rfl (by kernel_rfl) (by kernel_rfl) (by kernel_rfl) (by kernel_rfl) (fun _ _ _ _ h => h) ⟨_, Or.inl ⟨by rfl, fun w2 hb2 => by (have hx := hb2.cell (show V6.drew.cell? _ = _ from d2) (by simp); go_simp; try with_reducible rfl)⟩, _, by (go_simp; try rfl), ?_⟩
      refine wpAnyT_only 11 rfl (by kernel_rfl) (by rfl) (fun K hK => ?_)
      go_simp
      refine (kQ2 _ ((Below.refl _ _).drew)).mono ?_
      rintro e V7 ⟨a8, l8, cp8, rfl, hs8, hA9, hw8⟩
      refine hK _ _ ⟨fun _ => rx_after hA9, ?_⟩
      clear hK
      rw [Bool.not_not]
      replace hA9 : After V6 V7 := Below.trans ((Below.refl _ V6).drew) hA9
      obtain ⟨hQ5, hW5⟩ := QSt.next hWs.out hQ6.out hq5.out hA9 hs8 hw8 hbd.out hzn.out
      have q7 := held_after hA9 hq5.out
      have d0 := held_cell q7 0 _ rfl
      have d1 := held_cell q7 1 _ rfl
      have f0 := held_free q7 0
      have f1 := held_free q7 1
      have hs9 := hs8.other q7 no_int2 (two_set (u0 := .slice a8 l8 cp8) (u1 := .bool bd) q7).choose_spec.2.2.2.2.2
      obtain ⟨W5, eW5, x0, x1, xz, xB, xO⟩ := two_set (u0 := .slice a8 l8 cp8) (u1 := .bool bd) q7
      replace hs9 := hs8.other q7 no_int2 xO
      rw [eW5] at hQ5 hW5
      have hB8 : Below w1.heap.size w1 W5 := Below.trans (hB7.out.trans (hA9.mono hB7.out.size)) (xB.mono hWQ)
      clear hs8 hw8 q7 xB xO kQ2 qc0 qc1 hQ6 hq5 hB7 hA9 hz5 hse5
      replace hQ5 := hid hQ5
      replace hW5 := hid hW5
      replace hB8 := hid hB8
      replace hs9 := hid hs9
      refine wpAnyT_only 12 rfl (by kernel_rfl) (by rfl) (fun K hK => ?_)
      go_simp
      refine hK _ _ ⟨fun h => (h rfl).elim, wpAnyT_done (by kernel_rfl) ?_ _⟩
      clear hK
      have kB := fun U (h : After W5 U) => wbytes_st B (B + 1) zk bd U (by omega) (hW5.out.later h)
      have kF := fun U (h : After W5 U) => wfail_st B (B + 1) zk bd U (hW5.out.later h)
      have hTq := fun U (h : Aft W5.heap.size W5.drew U) => (Sl.below hs9.out (Below.trans ((Below.refl _ W5).drew) h)).text 22 9 5 Try.underlying22 Try.underlying5 Try.underlying9
      obtain ⟨TX, hTX⟩ : ∃ TX, textOf zk = TX := ⟨_, rfl⟩
      rw [hTX] at hTq
      have hQl : Q < W5.heap.size := by obtain ⟨_, _, _, h, _⟩ := hQ5.out; exact held_lt h
      go_upto_region 17 with (fail)
      refine wp_region_B (B := W5.heap.size) (by kernel_rfl) ?_
      refine wpAnyB_take 0 rfl (by kernel_rfl) (by kernel_rfl) (by kernel_rfl) (fun _ _ _ _ h => h) ⟨_, Or.inl ⟨by rfl, fun w' hb => by (go_simp; try with_reducible rfl)⟩, _, by (go_simp; try rfl), ?_⟩
      refine wpAnyB_take 3 rfl (by kernel_rfl) (by kernel_rfl) (by kernel_rfl) (fun _ _ _ _ h => h) ⟨_, Or.inl ⟨by rfl, fun w' hb => by (go_simp; try with_reducible rfl)⟩, _, by (go_simp; try rfl), ?_⟩
      refine wpAnyB_take 4 rfl (by kernel_rfl) (by kernel_rfl) (by kernel_rfl) (fun _ _ _ _ h => h) ⟨_, Or.inl ⟨by rfl, fun w' hb => by (have hc := hb.cellB hQl (show W5.drew.cell? _ = _ from x0); go_simp; try with_reducible rfl)⟩, _, by (go_simp; try rfl), ?_⟩
      refine wpAnyB_take 5 rfl (by kernel_rfl) (by kernel_rfl) (by kernel_rfl) (fun _ _ _ _ h => h) ⟨_, Or.inl ⟨by rfl, fun w' hb => by (have hx := hTq w' hb; go_simp; try with_reducible rfl)⟩, _, by (go_simp; try rfl), ?_⟩
      refine wpAnyB_only 1 rfl (by kernel_rfl) (by rfl) (fun K hK => ?_)
      go_simp
      refine (kB _ ((Below.refl _ _).drew)).mono ?_
      rintro e V8 ⟨a6, cp6, rfl, hO6, hA6⟩
      have hT6 := hO6.slf.text 22 9 5 Try.underlying22 Try.underlying5 Try.underlying9
      rw [hTX] at hT6
      refine hK _ _ ⟨hA6, ?_⟩
      refine wpAnyB_only 2 rfl (by kernel_rfl) (by rfl) (fun K hK => ?_)
      go_simp
      refine hK _ _ ⟨Below.refl _ _, ?_⟩
      refine wpAnyB_take 6 rfl (by kernel_rfl) (by kernel_rfl) (by kernel_rfl) (fun _ _ _ _ h => h) ⟨_, Or.inl ⟨by rfl, fun w' hb => by (go_simp; try with_reducible rfl)⟩, _, by (go_simp; try rfl), ?_⟩
      refine wpAnyB_take 7 rfl (by kernel_rfl) (by kernel_rfl) (by kernel_rfl) (fun _ _ _ _ h => h) ⟨_, Or.inl ⟨by rfl, fun w' hb => by (go_simp; try with_reducible rfl)⟩, _, by (go_simp; try rfl), ?_⟩
      refine wpAnyB_take 8 rfl (by kernel_rfl) (by kernel_rfl) (by kernel_rfl) (fun _ _ _ _ h => h) ⟨_, Or.inl ⟨by rfl, fun w' hb => by (go_simp; try with_reducible rfl)⟩, _, by (go_simp; try rfl), ?_⟩
      refine wpAnyB_take 10 rfl (by kernel_rfl) (by kernel_rfl) (by kernel_rfl) (fun _ _ _ _ h => h) ⟨_, Or.inl ⟨by rfl, fun w' hb => by (go_simp; try with_reducible rfl)⟩, _, by (go_simp; try rfl), ?_⟩
      refine wpAnyB_take 11 rfl (by kernel_rfl) (by kernel_rfl) (by kernel_rfl) (fun _ _ _ _ h => h) ⟨_, Or.inl ⟨by rfl, fun w' hb => by (have hc := Aft.cellB (Below.trans hA6 hb) hQl (show W5.drew.cell? _ = _ from x1); go_simp; try with_reducible rfl)⟩, _, by (go_simp; try rfl), ?_⟩
      refine wpAnyB_only 9 rfl (by kernel_rfl) (by rfl) (fun K hK => ?_)
      go_simp
      refine (kF _ (Below.trans ((Below.refl _ W5).drew) hA6)).mono ?_
      rintro e V9 ⟨rfl, rfl⟩
      refine hK _ _ ⟨Below.refl _ _, ?_⟩
      refine wpAnyB_take 12 rfl (by kernel_rfl) (by kernel_rfl) (by kernel_rfl) (fun _ _ _ _ h => h) ⟨_, Or.inl ⟨by rfl, fun w' hb => by (go_simp; try with_reducible rfl)⟩, _, by (go_simp; try rfl), ?_⟩
      refine wpAnyB_take 13 rfl (by kernel_rfl) (by kernel_rfl) (by kernel_rfl) (fun _ _ _ _ h => h) ⟨_, Or.inl ⟨by rfl, fun w' hb => by (go_simp; try with_reducible rfl)⟩, _, by (go_simp; try rfl), ?_⟩
      refine wpAnyB_done (by kernel_rfl) ?_ _
      clear hK
      replace hA6 := Below.trans ((Below.refl _ W5).drew) hA6
      have hWz := hid (hW5.out.later hA6)
      have hQz := hid (hQ5.out.kp (Owp.after hW5.out.1 hA6))
      have hBz := hid (bthen hB8.out hA6)
      clear hW5 hQ5 hB8 hA6
      go_wp2_with fail
      go_roundw
      case rel => first | exact ⟨k + 1, by omega, by simp, by rw [ezk.out, ebd.out]; exact hWz.out, by rw [ezk.out, ebd.out]; exact hQz.out, hBz.out⟩ | ((repeat apply Exists.intro); exact ⟨⟨k + 1, by omega, by simp, by rw [ezk.out, ebd.out]; exact hWz.out, by rw [ezk.out, ebd.out]; exact hQz.out, hBz.out⟩, rfl⟩)
      case measure => show len0 - ((k : Int) + 1).toNat < len0 - (k : Int).toNat; omega
    have hb0 : (o.k == 0) = false := by simp [k0]
    by_cases k1 : o.k = 1
    · have hb1 : (o.k == 1) = true := by simp [k1]
      have ep : pc o = bytesL (wrapU o.i) o.n.toNat := by unfold pc; rw [if_neg k0, if_pos k1]
      have eo : okp o = fitI o.n o.i := by unfold okp; rw [if_neg k0, if_pos k1]
      rw [ep, eo] at hnx
      have kW := fun U (h : After _ U) => wi_st B (B + 1) w1.heap.size _ _ o.n o.i hP.hi.1 hP.hi.2 U (hWs.later h) (by omega) hWB hbb
      have kQ := fun (a l c : _) (U : World) (h : Sl .u8 U a l c _) hl => rputi_any a l c _ _ o.n o.i hP.hi.1 hP.hi.2 U h hzo hl
      rw [Bool.not_not] at kW
      simp only [Bool.not_not] at kQ
      rw [hnx.1, hnx.2] at kW
      rw [hnx.1, hnx.2] at kQ
      clear hnx ep eo hfo hwl
      have hW0 := hid hWs
      clear hWs
      go_upto_region 15 with (fail)
      refine wp_region_B (B := w1.heap.size) (by kernel_rfl) ?_
      refine wpAnyB_take 0 rfl (by kernel_rfl) (by kernel_rfl) (by kernel_rfl) (fun _ _ _ _ h => h) ⟨_, Or.inl ⟨by rfl, fun w' hb => by (go_simp; try with_reducible rfl)⟩, _, by (go_simp; try rfl), ?_⟩
      refine wpAnyB_take 1 rfl (by kernel_rfl) (by kernel_rfl) (by kernel_rfl) (fun _ _ _ _ h => h) ⟨_, Or.inl ⟨by rfl, fun w' hb => by (go_simp; try with_reducible rfl)⟩, _, by (go_simp; try rfl), ?_⟩
      refine wpAnyB_take 2 rfl (by kernel_rfl) (by kernel_rfl) (by kernel_rfl) (fun _ _ _ _ h => h) ⟨_, Or.inl ⟨by rfl, fun w' hb => by (go_simp; try with_reducible rfl)⟩, _, by (go_simp; try rfl), ?_⟩
      refine wpAnyB_take 3 rfl (by kernel_rfl) (by kernel_rfl) (by kernel_rfl) (fun _ _ _ _ h => h) ⟨_, Or.inl ⟨by rfl, fun w' hb => by (go_simp; try with_reducible rfl)⟩, _, by (go_simp; try rfl), ?_⟩
      refine wpAnyB_take 4 rfl (by kernel_rfl) (by kernel_rfl) (by kernel_rfl) (fun _ _ _ _ h => h) ⟨_, Or.inl ⟨by rfl, fun w' hb => by (go_simp; try with_reducible rfl)⟩, _, by (go_simp; try rfl), ?_⟩
      refine wpAnyB_take 5 rfl (by kernel_rfl) (by kernel_rfl) (by kernel_rfl) (fun _ _ _ _ h => h) ⟨_, Or.inl ⟨by rfl, fun w' hb => by (have hc := hb.cellB hlt5 c1; go_simp; try with_reducible rfl)⟩, _, by (go_simp; try rfl), ?_⟩
      refine wpAnyB_take 6 rfl (by kernel_rfl) (by kernel_rfl) (by kernel_rfl) (fun _ _ _ _ h => h) ⟨_, Or.inl ⟨by rfl, fun w' hb => by (go_simp; try with_reducible rfl)⟩, _, by (go_simp; try rfl), ?_⟩
      refine wpAnyB_take 7 rfl (by kernel_rfl) (by kernel_rfl) (by kernel_rfl) (fun _ _ _ _ h => h) ⟨_, Or.inl ⟨by rfl, fun w' hb => by (go_simp; try with_reducible rfl)⟩, _, by (go_simp; try rfl), ?_⟩
      refine wpAnyB_take 8 rfl (by kernel_rfl) (by kernel_rfl) (by kernel_rfl) (fun _ _ _ _ h => h) ⟨_, Or.inl ⟨by rfl, fun w' hb => by (go_simp; try with_reducible rfl)⟩, _, by (go_simp; try rfl), ?_⟩
      refine wpAnyB_take 9 rfl (by kernel_rfl) (by kernel_rfl) (by kernel_rfl) (fun _ _ _ _ h => h) ⟨_, Or.inl ⟨by rfl, fun w' hb => by (go_simp; try with_reducible rfl)⟩, _, by (go_simp; try rfl), ?_⟩
      refine wpAnyB_take 10 rfl (by kernel_rfl) (by kernel_rfl) (by kernel_rfl) (fun _ _ _ _ h => h) ⟨_, Or.inl ⟨by rfl, fun w' hb => by (have hc := hb.cellB hlt5 c3; go_simp; try with_reducible rfl)⟩, _, by (go_simp; try rfl), ?_⟩
      refine wpAnyB_only 11 rfl (by kernel_rfl) (by rfl) (fun K hK => ?_)
      go_simp
      refine (kW _ ((Below.refl _ _).drew)).mono ?_
      rintro e V6 ⟨rfl, hWs, hB6, hP6⟩
      refine hK _ _ ⟨hB6, ?_⟩
      refine wpAnyB_done (by kernel_rfl) ?_ _
      clear hK
      replace hB6 := Below.trans ((Below.refl w1.heap.size _).drew) hB6
      have hB7 : Below w1.heap.size w1 V6 := Below.trans hB hB6
      have hQ6 := hQs.kp (Owp.drew.trans hP6)
      have d1 := (Below.cell hB6 (show (⟨b, off + k * 5 + 1, none⟩ : Addr).block < w1.heap.size from hlt5)).trans c1
      have d2 := (Below.cell hB6 (show (⟨b, off + k * 5 + 2, none⟩ : Addr).block < w1.heap.size from hlt5)).trans c2
      have d3 := (Below.cell hB6 (show (⟨b, off + k * 5 + 3, none⟩ : Addr).block < w1.heap.size from hlt5)).trans c3
      obtain ⟨a5, l5, cp5, hq5, hs5, hQne, hQow, hz5, hse5⟩ := hQ6
      have hQ6 : QSt 46 B Q V6 _ _ := ⟨a5, l5, cp5, hq5, hs5, hQne, hQow, hz5, hse5⟩
      have hl5 : l5 ≤ 1000000 := by have := hs5.1; have := wst_len f k (by omega) (fun i hi => hls.out i (by omega)); omega
      have kQ2 := fun U (h : After V6 U) => kQ a5 l5 cp5 U (hs5.below h) hl5
      have qc0 := held_cell hq5 0 _ rfl
      have qc1 := held_cell hq5 1 _ rfl
      clear kQ kW hB6 hB hP6 hQs hW0 c0 c1 c2 c3 c4
      obtain ⟨bd, ebd⟩ : ∃ bd, (!okAll f (k + 1)) = bd := ⟨_, rfl⟩
      obtain ⟨b0, eb0⟩ : ∃ b0, (!okAll f k) = b0 := ⟨_, rfl⟩
      have eok : okAll f (k + 1) = !bd := by rw [← ebd, Bool.not_not]
      rw [ebd] at hbd hzn hWs
      rw [eb0] at hbd hzo hQ6 hq5 qc1 hz5 hse5
      simp only [eok] at kQ2
      rw [eb0] at kQ2
      obtain ⟨zk, ezk⟩ : ∃ zk, wst f (k + 1) = zk := ⟨_, rfl⟩
      rw [ezk] at hzn hWs kQ2 hwl2
      replace ebd := hid ebd
      replace eb0 := hid eb0
      replace ezk := hid ezk
      clear eok
      replace hbd := hid hbd
      replace hzn := hid hzn
      replace hzo := hid hzo
      replace hse5 := hid hse5
      replace hz5 := hid hz5
      replace hWs := hid hWs
      replace hQ6 := hid hQ6
      replace hq5 := hid hq5
      replace hB7 := hid hB7
      go_upto_region 16 with (fail)
      refine wp_region_T none 12 (by kernel_rfl) ?_
      refine wpAnyT_take 0 rfl (by kernel_rfl) (by kernel_rfl) (by kernel_rfl) (by kernel_rfl) (fun _ _ _ _ h => h) ⟨_, Or.inl ⟨by rfl, fun w2 hb2 => by (have hx0 := hb2.cell (show V6.drew.cell? _ = _ from qc0) (by simp); have hx1 := hb2.cell (show V6.drew.cell? _ = _ from qc1) (by simp); go_simp; try with_reducible rfl)⟩, _, by (go_simp; try rfl), ?_⟩
      refine wpAnyT_take 1 rfl (by kernel_rfl) (by kernel_rfl) (by kernel_rfl) (by kernel_rfl) (fun _ _ _ _ h => h) ⟨_, Or.inl ⟨by rfl, fun w2 hb2 => by (go_simp; try with_reducible rfl)⟩, _, by (go_simp; try rfl), ?_⟩
      refine wpAnyT_take 2 rfl (by kernel_rfl) (by kernel_rfl) (by kernel_rfl) (by kernel_rfl) (fun _ _ _ _ h => h) ⟨_, Or.inl ⟨by rfl, fun w2 hb2 => by (go_simp; try with_reducible rfl)⟩, _, by (go_simp; try rfl), ?_⟩
      refine wpAnyT_take 3 rfl (by kernel_rfl) (by kernel_rfl) (by kernel_rfl) (by kernel_rfl) (fun _ _ _ _ h => h) ⟨_, Or.inl ⟨by rfl, fun w2 hb2 => by (go_simp; try with_reducible rfl)⟩, _, by (go_simp; try rfl), ?_⟩
      refine wpAnyT_take 4 rfl (by kernel_rfl) (by kernel_rfl) (by kernel_rfl) (by kernel_rfl) (fun _ _ _ _ h => h) ⟨_, Or.inl ⟨by rfl, fun w2 hb2 => by (go_simp; try with_reducible rfl)⟩, _, by (go_simp; try rfl), ?_⟩
      refine wpAnyT_take 5 rfl (by kernel_rfl) (by kernel_rfl) (by kernel_rfl) (by kernel_rfl) (fun _ _ _ _ h => h) ⟨_, Or.inl ⟨by rfl, fun w2 hb2 => by (have hx := hb2.cell (show V6.drew.cell? _ = _ from d1) (by simp); go_simp; try with_reducible rfl)⟩, _, by (go_simp; try rfl), ?_⟩
      refine wpAnyT_take 6 rfl (by kernel_rfl) (by kernel_rfl) (by kernel_rfl) (by kernel_rfl) (fun _ _ _ _ h => h) ⟨_, Or.inl ⟨by rfl, fun w2 hb2 => by (go_simp; try with_reducible rfl)⟩, _, by (go_simp; try rfl), ?_⟩
      refine wpAnyT_take 7 rfl (by kernel_rfl) (by kernel_rfl) (by kernel_rfl) (by kernel_rfl) (fun _ _ _ _ h => h) ⟨_, Or.inl ⟨by rfl, fun w2 hb2 => by (go_simp; try with_reducible rfl)⟩, _, by (go_simp; try rfl), ?_⟩
      refine wpAnyT_take 8 rfl (by kernel_rfl) (by kernel_rfl) (by kernel_rfl) (by kernel_rfl) (fun _ _ _ _ h => h) ⟨_, Or.inl ⟨by rfl, fun w2 hb2 => by (go_simp; try with_reducible rfl)⟩, _, by (go_simp; try rfl), ?_⟩
      refine wpAnyT_take 9 rfl (by kernel_rfl) (by kernel_rfl) (by kernel_rfl) (by kernel_rfl) (fun _ _ _ _ h => h) ⟨_, Or.inl ⟨by rfl, fun w2 hb2 => by (go_simp; try with_reducible rfl)⟩, _, by (go_simp; try rfl), ?_⟩
      refine wpAnyT_take 10 rfl (by kernel_rfl) (by kernel_rfl) (by kernel_rfl) (by kernel_rfl) (fun _ _ _ _ h => h) ⟨_, Or.inl ⟨by rfl, fun w2 hb2 => by (have hx := hb2.cell (show V6.drew.cell? _ = _ from d3) (by simp); go_simp; try with_reducible rfl)⟩, _, by (go_simp; try rfl), ?_⟩
      refine wpAnyT_only 11 rfl (by kernel_rfl) (by rfl) (fun K hK => ?_)
      go_simp
      refine (kQ2 _ ((Below.refl _ _).drew)).mono ?_
      rintro e V7 ⟨a8, l8, cp8, rfl, hs8, hA9, hw8⟩
      refine hK _ _ ⟨fun _ => rx_after hA9, ?_⟩
      clear hK
      rw [Bool.not_not]
      replace hA9 : After V6 V7 := Below.trans ((Below.refl _ V6).drew) hA9
      obtain ⟨hQ5, hW5⟩ := QSt.next hWs.out hQ6.out hq5.out hA9 hs8 hw8 hbd.out hzn.out
      have q7 := held_after hA9 hq5.out
      have d0 := held_cell q7 0 _ rfl
      have d1 := held_cell q7 1 _ rfl
      have f0 := held_free q7 0
      have f1 := held_free q7 1
      have hs9 := hs8.other q7 no_int2 (two_set (u0 := .slice a8 l8 cp8) (u1 := .bool bd) q7).choose_spec.2.2.2.2.2
      obtain ⟨W5, eW5, x0, x1, xz, xB, xO⟩ := two_set (u0 := .slice a8 l8 cp8) (u1 := .bool bd) q7
      replace hs9 := hs8.other q7 no_int2 xO
      rw [eW5] at hQ5 hW5
      have hB8 : Below w1.heap.size w1 W5 := Below.trans (hB7.out.trans (hA9.mono hB7.out.size)) (xB.mono hWQ)
      clear hs8 hw8 q7 xB xO kQ2 qc0 qc1 hQ6 hq5 hB7 hA9 hz5 hse5
      replace hQ5 := hid hQ5
      replace hW5 := hid hW5
      replace hB8 := hid hB8
      replace hs9 := hid hs9
      refine wpAnyT_only 12 rfl (by kernel_rfl) (by rfl) (fun K hK => ?_)
      go_simp
      refine hK _ _ ⟨fun h => (h rfl).elim, wpAnyT_done (by kernel_rfl) ?_ _⟩
      clear hK
      have kB := fun U (h : After W5 U) => wbytes_st B (B + 1) zk bd U (by omega) (hW5.out.later h)
      have kF := fun U (h : After W5 U) => wfail_st B (B + 1) zk bd U (hW5.out.later h)
      have hTq := fun U (h : Aft W5.heap.size W5.drew U) => (Sl.below hs9.out (Below.trans ((Below.refl _ W5).drew) h)).text 22 9 5 Try.underlying22 Try.underlying5 Try.underlying9
      obtain ⟨TX, hTX⟩ : ∃ TX, textOf zk = TX := ⟨_, rfl⟩
      rw [hTX] at hTq
      have hQl : Q < W5.heap.size := by obtain ⟨_, _, _, h, _⟩ := hQ5.out; exact held_lt h
      go_upto_region 17 with (fail)
      refine wp_region_B (B := W5.heap.size) (by kernel_rfl) ?_
      refine wpAnyB_take 0 rfl (by kernel_rfl) (by kernel_rfl) (by kernel_rfl) (fun _ _ _ _ h => h) ⟨_, Or.inl ⟨by rfl, fun w' hb => by (go_simp; try with_reducible rfl)⟩, _, by (go_simp; try rfl), ?_⟩
      refine wpAnyB_take 3 rfl (by kernel_rfl) (by kernel_rfl) (by kernel_rfl) (fun _ _ _ _ h => h) ⟨_, Or.inl ⟨by rfl, fun w' hb => by (go_simp; try with_reducible rfl)⟩, _, by (go_simp; try rfl), ?_⟩
      refine wpAnyB_take 4 rfl (by kernel_rfl) (by kernel_rfl) (by kernel_rfl) (fun _ _ _ _ h => h) ⟨_, Or.inl ⟨by rfl, fun w' hb => by (have hc := hb.cellB hQl (show W5.drew.cell? _ = _ from x0); go_simp; try with_reducible rfl)⟩, _, by (go_simp; try rfl), ?_⟩
      refine wpAnyB_take 5 rfl (by kernel_rfl) (by kernel_rfl) (by kernel_rfl) (fun _ _ _ _ h => h) ⟨_, Or.inl ⟨by rfl, fun w' hb => by (have hx := hTq w' hb; go_simp; try with_reducible rfl)⟩, _, by (go_simp; try rfl), ?_⟩
      refine wpAnyB_only 1 rfl (by kernel_rfl) (by rfl) (fun K hK => ?_)
      go_simp
      refine (kB _ ((Below.refl _ _).drew)).mono ?_
      rintro e V8 ⟨a6, cp6, rfl, hO6, hA6⟩
      have hT6 := hO6.slf.text 22 9 5 Try.underlying22 Try.underlying5 Try.underlying9
      rw [hTX] at hT6
      refine hK _ _ ⟨hA6, ?_⟩
      refine wpAnyB_only 2 rfl (by kernel_rfl) (by rfl) (fun K hK => ?_)
      go_simp
      refine hK _ _ ⟨Below.refl _ _, ?_⟩
      refine wpAnyB_take 6 rfl (by kernel_rfl) (by kernel_rfl) (by kernel_rfl) (fun _ _ _ _ h => h) ⟨_, Or.inl ⟨by rfl, fun w' hb => by (go_simp; try with_reducible rfl)⟩, _, by (go_simp; try rfl), ?_⟩
      refine wpAnyB_take 7 rfl (by kernel_rfl) (by kernel_rfl) (by kernel_rfl) (fun _ _ _ _ h => h) ⟨_, Or.inl ⟨by rfl, fun w' hb => by (go_simp; try with_reducible rfl)⟩, _, by (go_simp; try rfl), ?_⟩
      refine wpAnyB_take 8 rfl (by kernel_rfl) (by kernel_rfl) (by kernel_rfl) (fun _ _ _ _ h => h) ⟨_, Or.inl ⟨by rfl, fun w' hb => by (go_simp; try with_reducible rfl)⟩, _, by (go_simp; try rfl), ?_⟩
      refine wpAnyB_take 10 rfl (by kernel_rfl) (by kernel_rfl) (by kernel_rfl) (fun _ _ _ _ h => h) ⟨_, Or.inl ⟨by rfl, fun w' hb => by (go_simp; try with_reducible rfl)⟩, _, by (go_simp; try rfl), ?_⟩
      refine wpAnyB_take 11 rfl (by kernel_rfl) (by kernel_rfl) (by kernel_rfl) (fun _ _ _ _ h => h) ⟨_, Or.inl ⟨by rfl, fun w' hb => by (have hc := Aft.cellB (Below.trans hA6 hb) hQl (show W5.drew.cell? _ = _ from x1); go_simp; try with_reducible rfl)⟩, _, by (go_simp; try rfl), ?_⟩
      refine wpAnyB_only 9 rfl (by kernel_rfl) (by rfl) (fun K hK => ?_)
      go_simp
      refine (kF _ (Below.trans ((Below.refl _ W5).drew) hA6)).mono ?_
      rintro e V9 ⟨rfl, rfl⟩
      refine hK _ _ ⟨Below.refl _ _, ?_⟩
      refine wpAnyB_take 12 rfl (by kernel_rfl) (by kernel_rfl) (by kernel_rfl) (fun _ _ _ _ h => h) ⟨_, Or.inl ⟨by rfl, fun w' hb => by (go_simp; try with_reducible rfl)⟩, _, by (go_simp; try rfl), ?_⟩
      refine wpAnyB_take 13 rfl (by kernel_rfl) (by kernel_rfl) (by kernel_rfl) (fun _ _ _ _ h => h) ⟨_, Or.inl ⟨by rfl, fun w' hb => by (go_simp; try with_reducible rfl)⟩, _, by (go_simp; try rfl), ?_⟩
      refine wpAnyB_done (by kernel_rfl) ?_ _
      clear hK
      replace hA6 := Below.trans ((Below.refl _ W5).drew) hA6
      have hWz := hid (hW5.out.later hA6)
      have hQz := hid (hQ5.out.kp (Owp.after hW5.out.1 hA6))
      have hBz := hid (bthen hB8.out hA6)
      clear hW5 hQ5 hB8 hA6
      go_wp2_with fail
      go_roundw
      case rel => first | exact ⟨k + 1, by omega, by simp, by rw [ezk.out, ebd.out]; exact hWz.out, by rw [ezk.out, ebd.out]; exact hQz.out, hBz.out⟩ | ((repeat apply Exists.intro); exact ⟨⟨k + 1, by omega, by simp, by rw [ezk.out, ebd.out]; exact hWz.out, by rw [ezk.out, ebd.out]; exact hQz.out, hBz.out⟩, rfl⟩)
      case measure => show len0 - ((k : Int) + 1).toNat < len0 - (k : Int).toNat; omega
    · have hb1 : (o.k == 1) = false := by simp [k1]
      have ep : pc o = o.z := by unfold pc; rw [if_neg k0, if_neg k1]
      have eo : okp o = true := by unfold okp; rw [if_neg k0, if_neg k1]
      have hol := (hls.out k hk2).1
      rw [hfo] at hol
      have hsw := (hO.out k hk2).sl
      rw [hfo] at hsw
      rw [ep, eo] at hnx
      have kW := fun U (h : After _ U) => wraw_st B (B + 1) w1.heap.size _ _ _ o.b o.l o.c U (hWs.later h) (by omega) (hP.sl.below h) (by omega) hWB hbb
      rw [Bool.and_true] at hnx
      have kQ := fun (a l c : _) (U : World) (h : Sl .u8 U a l c _) hl (hs : Sl .u8 U o.b o.l o.c o.z) => rputraw_any a l c _ o.z _ o.b o.l o.c U h hzo hs hl (by omega)
      rw [Bool.not_not] at kW
      simp only [Bool.not_not] at kQ
      have e2 := hid hnx.2
      rw [hnx.1] at kW
      rw [hnx.2] at kW
      simp only [hnx.1] at kQ
      simp only [hnx.2] at kQ
      clear hnx ep eo hfo hwl
      have hW0 := hid hWs
      clear hWs
      go_wp2_with fail
      refine (kW _ (Below.refl _ _)).mono ?_
      rintro e V6 ⟨rfl, hWs, hB6, hP6⟩
      have hB7 : Below w1.heap.size w1 V6 := Below.trans hB hB6
      have hQ6 := hQs.kp hP6
      have d4 := (Below.cell hB6 (show b < w1.heap.size from hlt5)).trans c4
      have d4 : V6.cell? ⟨b, off + k * 5 + 4, none⟩ = _ := d4
      obtain ⟨a5, l5, cp5, hq5, hs5, hQne, hQow, hz5, hse5⟩ := hQ6
      have hQ6 : QSt 46 B Q V6 _ _ := ⟨a5, l5, cp5, hq5, hs5, hQne, hQow, hz5, hse5⟩
      have hl5 : l5 ≤ 1000000 := by have := hs5.1; have := wst_len f k (by omega) (fun i hi => hls.out i (by omega)); omega
      have hsz : Sl .u8 V6 o.b o.l o.c o.z := hsw.below hB7
      have kQ2 := fun U (h : After V6 U) => kQ a5 l5 cp5 U (hs5.below h) hl5 (hsz.below h)
      have qc0 := held_cell hq5 0 _ rfl
      have qc1 := held_cell hq5 1 _ rfl
      clear kQ kW hB6 hB hP6 hQs hW0 c0 c1 c2 c3 c4
      obtain ⟨bd, ebd⟩ : ∃ bd, (!okAll f (k + 1)) = bd := ⟨_, rfl⟩
      obtain ⟨b0, eb0⟩ : ∃ b0, (!okAll f k) = b0 := ⟨_, rfl⟩
      have eok : okAll f (k + 1) = !bd := by rw [← ebd, Bool.not_not]
      rw [ebd] at hbd hzn hWs
      rw [eb0] at hbd hzo hQ6 hq5 qc1 hz5 hse5
      simp only [eok] at kQ2
      rw [Bool.not_not] at kQ2
      obtain rfl : bd = b0 := by rw [← eb0, ← ebd, e2.out]
      obtain ⟨zk, ezk⟩ : ∃ zk, wst f (k + 1) = zk := ⟨_, rfl⟩
      rw [ezk] at hzn hWs kQ2 hwl2
      replace ebd := hid ebd
      replace eb0 := hid eb0
      replace ezk := hid ezk
      clear eok
      replace hbd := hid hbd
      replace hzn := hid hzn
      replace hzo := hid hzo
      replace hse5 := hid hse5
      replace hz5 := hid hz5
      replace hWs := hid hWs
      replace hQ6 := hid hQ6
      replace hq5 := hid hq5
      replace hB7 := hid hB7
      go_upto_region 10 with (fail)
      refine wp_region_T none 7 (by kernel_rfl) ?_
      refine wpAnyT_take 0 rfl (by kernel_rfl) (by kernel_rfl) (by kernel_rfl) (by kernel_rfl) (fun _ _ _ _ h => h) ⟨_, Or.inl ⟨by rfl, fun w2 hb2 => by (have hx0 := hb2.cell (show V6.drew.cell? _ = _ from qc0) (by simp); have hx1 := hb2.cell (show V6.drew.cell? _ = _ from qc1) (by simp); go_simp; try with_reducible rfl)⟩, _, by (go_simp; try rfl), ?_⟩
      refine wpAnyT_take 1 rfl (by kernel_rfl) (by kernel_rfl) (by kernel_rfl) (by kernel_rfl) (fun _ _ _ _ h => h) ⟨_, Or.inl ⟨by rfl, fun w2 hb2 => by (go_simp; try with_reducible rfl)⟩, _, by (go_simp; try rfl), ?_⟩
      refine wpAnyT_take 2 rfl (by kernel_rfl) (by kernel_rfl) (by kernel_rfl) (by kernel_rfl) (fun _ _ _ _ h => h) ⟨_, Or.inl ⟨by rfl, fun w2 hb2 => by (go_simp; try with_reducible rfl)⟩, _, by (go_simp; try rfl), ?_⟩
      refine wpAnyT_take 3 rfl (by kernel_rfl) (by kernel_rfl) (by kernel_rfl) (by kernel_rfl) (fun _ _ _ _ h => h) ⟨_, Or.inl ⟨by rfl, fun w2 hb2 => by (go_simp; try with_reducible rfl)⟩, _, by (go_simp; try rfl), ?_⟩
      refine wpAnyT_take 4 rfl (by kernel_rfl) (by kernel_rfl) (by kernel_rfl) (by kernel_rfl) (fun _ _ _ _ h => h) ⟨_, Or.inl ⟨by rfl, fun w2 hb2 => by (go_simp; try with_reducible rfl)⟩, _, by (go_simp; try rfl), ?_⟩
      refine wpAnyT_take 5 rfl (by kernel_rfl) (by kernel_rfl) (by kernel_rfl) (by kernel_rfl) (fun _ _ _ _ h => h) ⟨_, Or.inl ⟨by rfl, fun w2 hb2 => by (have hx := hb2.cell (show V6.drew.cell? _ = _ from d4) (by simp); go_simp; try with_reducible rfl)⟩, _, by (go_simp; try rfl), ?_⟩
      refine wpAnyT_only 6 rfl (by kernel_rfl) (by rfl) (fun K hK => ?_)
      go_simp
      refine (kQ2 _ ((Below.refl _ _).drew)).mono ?_
      rintro e V7 ⟨a8, l8, cp8, rfl, hs8, hA9, hw8⟩
      refine hK _ _ ⟨fun _ => rx_after hA9, ?_⟩
      clear hK
      rw [Bool.not_not]
      replace hA9 : After V6 V7 := Below.trans ((Below.refl _ V6).drew) hA9
      obtain ⟨hQ5, hW5⟩ := QSt.next hWs.out hQ6.out hq5.out hA9 hs8 hw8 hbd.out hzn.out
      have q7 := held_after hA9 hq5.out
      have d0 := held_cell q7 0 _ rfl
      have d1 := held_cell q7 1 _ rfl
      have f0 := held_free q7 0
      have f1 := held_free q7 1
      have hs9 := hs8.other q7 no_int2 (two_set (u0 := .slice a8 l8 cp8) (u1 := .bool bd) q7).choose_spec.2.2.2.2.2
      obtain ⟨W5, eW5, x0, x1, xz, xB, xO⟩ := two_set (u0 := .slice a8 l8 cp8) (u1 := .bool bd) q7
      replace hs9 := hs8.other q7 no_int2 xO
      rw [eW5] at hQ5 hW5
      have hB8 : Below w1.heap.size w1 W5 := Below.trans (hB7.out.trans (hA9.mono hB7.out.size)) (xB.mono hWQ)
      clear hs8 hw8 q7 xB xO kQ2 qc0 qc1 hQ6 hq5 hB7 hA9 hz5 hse5
      replace hQ5 := hid hQ5
      replace hW5 := hid hW5
      replace hB8 := hid hB8
      replace hs9 := hid hs9
      refine wpAnyT_only 7 rfl (by kernel_rfl) (by rfl) (fun K hK => ?_)
      go_simp
      refine hK _ _ ⟨fun h => (h rfl).elim, wpAnyT_done (by kernel_rfl) ?_ _⟩
      clear hK
      have kB := fun U (h : After W5 U) => wbytes_st B (B + 1) zk bd U (by omega) (hW5.out.later h)
      have kF := fun U (h : After W5 U) => wfail_st B (B + 1) zk bd U (hW5.out.later h)
      have hTq := fun U (h : Aft W5.heap.size W5.drew U) => (Sl.below hs9.out (Below.trans ((Below.refl _ W5).drew) h)).text 22 9 5 Try.underlying22 Try.underlying5 Try.underlying9
      obtain ⟨TX, hTX⟩ : ∃ TX, textOf zk = TX := ⟨_, rfl⟩
      rw [hTX] at hTq
      have hQl : Q < W5.heap.size := by obtain ⟨_, _, _, h, _⟩ := hQ5.out; exact held_lt h
      go_upto_region 17 with (fail)
      refine wp_region_B (B := W5.heap.size) (by kernel_rfl) ?_
      refine wpAnyB_take 0 rfl (by kernel_rfl) (by kernel_rfl) (by kernel_rfl) (fun _ _ _ _ h => h) ⟨_, Or.inl ⟨by rfl, fun w' hb => by (go_simp; try with_reducible rfl)⟩, _, by (go_simp; try rfl), ?_⟩
      refine wpAnyB_take 3 rfl (by kernel_rfl) (by kernel_rfl) (by kernel_rfl) (fun _ _ _ _ h => h) ⟨_, Or.inl ⟨by rfl, fun w' hb => by (go_simp; try with_reducible rfl)⟩, _, by (go_simp; try rfl), ?_⟩
      refine wpAnyB_take 4 rfl (by kernel_rfl) (by kernel_rfl) (by kernel_rfl) (fun _ _ _ _ h => h) ⟨_, Or.inl ⟨by rfl, fun w' hb => by (have hc := hb.cellB hQl (show W5.drew.cell? _ = _ from x0); go_simp; try with_reducible rfl)⟩, _, by (go_simp; try rfl), ?_⟩
      refine wpAnyB_take 5 rfl (by kernel_rfl) (by kernel_rfl) (by kernel_rfl) (fun _ _ _ _ h => h) ⟨_, Or.inl ⟨by rfl, fun w' hb => by (have hx := hTq w' hb; go_simp; try with_reducible rfl)⟩, _, by (go_simp; try rfl), ?_⟩
      refine wpAnyB_only 1 rfl (by kernel_rfl) (by rfl) (fun K hK => ?_)
      go_simp
      refine (kB _ ((Below.refl _ _).drew)).mono ?_
      rintro e V8 ⟨a6, cp6, rfl, hO6, hA6⟩
      have hT6 := hO6.slf.text 22 9 5 Try.underlying22 Try.underlying5 Try.underlying9
      rw [hTX] at hT6
      refine hK _ _ ⟨hA6, ?_⟩
      refine wpAnyB_only 2 rfl (by kernel_rfl) (by rfl) (fun K hK => ?_)
      go_simp
      refine hK _ _ ⟨Below.refl _ _, ?_⟩
      refine wpAnyB_take 6 rfl (by kernel_rfl) (by kernel_rfl) (by kernel_rfl) (fun _ _ _ _ h => h) ⟨_, Or.inl ⟨by rfl, fun w' hb => by (go_simp; try with_reducible rfl)⟩, _, by (go_simp; try rfl), ?_⟩
      refine wpAnyB_take 7 rfl (by kernel_rfl) (by kernel_rfl) (by kernel_rfl) (fun _ _ _ _ h => h) ⟨_, Or.inl ⟨by rfl, fun w' hb => by (go_simp; try with_reducible rfl)⟩, _, by (go_simp; try rfl), ?_⟩
      refine wpAnyB_take 8 rfl (by kernel_rfl) (by kernel_rfl) (by kernel_rfl) (fun _ _ _ _ h => h) ⟨_, Or.inl ⟨by rfl, fun w' hb => by (go_simp; try with_reducible rfl)⟩, _, by (go_simp; try rfl), ?_⟩
      refine wpAnyB_take 10 rfl (by kernel_rfl) (by kernel_rfl) (by kernel_rfl) (fun _ _ _ _ h => h) ⟨_, Or.inl ⟨by rfl, fun w' hb => by (go_simp; try with_reducible rfl)⟩, _, by (go_simp; try rfl), ?_⟩
      refine wpAnyB_take 11 rfl (by kernel_rfl) (by kernel_rfl) (by kernel_rfl) (fun _ _ _ _ h => h) ⟨_, Or.inl ⟨by rfl, fun w' hb => by (have hc := Aft.cellB (Below.trans hA6 hb) hQl (show W5.drew.cell? _ = _ from x1); go_simp; try with_reducible rfl)⟩, _, by (go_simp; try rfl), ?_⟩
      refine wpAnyB_only 9 rfl (by kernel_rfl) (by rfl) (fun K hK => ?_)
      go_simp
      refine (kF _ (Below.trans ((Below.refl _ W5).drew) hA6)).mono ?_
      rintro e V9 ⟨rfl, rfl⟩
      refine hK _ _ ⟨Below.refl _ _, ?_⟩
      refine wpAnyB_take 12 rfl (by kernel_rfl) (by kernel_rfl) (by kernel_rfl) (fun _ _ _ _ h => h) ⟨_, Or.inl ⟨by rfl, fun w' hb => by (go_simp; try with_reducible rfl)⟩, _, by (go_simp; try rfl), ?_⟩
      refine wpAnyB_take 13 rfl (by kernel_rfl) (by kernel_rfl) (by kernel_rfl) (fun _ _ _ _ h => h) ⟨_, Or.inl ⟨by rfl, fun w' hb => by (go_simp; try with_reducible rfl)⟩, _, by (go_simp; try rfl), ?_⟩
      refine wpAnyB_done (by kernel_rfl) ?_ _
      clear hK
      replace hA6 := Below.trans ((Below.refl _ W5).drew) hA6
      have hWz := hid (hW5.out.later hA6)
      have hQz := hid (hQ5.out.kp (Owp.after hW5.out.1 hA6))
      have hBz := hid (bthen hB8.out hA6)
      clear hW5 hQ5 hB8 hA6
      go_wp2_with fail
      go_roundw
      case rel => first | exact ⟨k + 1, by omega, by simp, by rw [ezk.out, ebd.out]; exact hWz.out, by rw [ezk.out, ebd.out]; exact hQz.out, hBz.out⟩ | ((repeat apply Exists.intro); exact ⟨⟨k + 1, by omega, by simp, by rw [ezk.out, ebd.out]; exact hWz.out, by rw [ezk.out, ebd.out]; exact hQz.out, hBz.out⟩, rfl⟩)
      case measure => show len0 - ((k : Int) + 1).toNat < len0 - (k : Int).toNat; omega

end Go.Proofs.Ytfcgeogooapmpaa
