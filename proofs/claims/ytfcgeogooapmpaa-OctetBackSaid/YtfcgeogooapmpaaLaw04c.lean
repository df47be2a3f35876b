/- Stage 4: what is written is read. -/
import Derived.Test.YtfcgeogooapmpaaOctet18
import Derived.Test.YtfcgeogooapmpaaLaw04
import Derived.Test.YtfcgeogooapmpaaRegionB
namespace Go.Proofs.Ytfcgeogooapmpaa
open Go.ChangeShapes Go.WideShapes Go.ChangeAt Go.RowKit Go.Shelf
set_option linter.unusedVariables false

/-- The cells of call k. -/
theorem opcells {W : World} {a : Option Addr} {len cap : Nat} {V : Nat → Nat → Value} {k : Nat} {o : OpV} (hF : Flat W a len cap 5 V) (hk : k < len) (hO : OpIs W (V k) o) :
    ∃ b off, a = some ⟨b, off, none⟩ ∧ b < W.heap.size ∧ W.cell? ⟨b, off + k * 5, none⟩ = some (.int .i64 o.k) ∧ W.cell? ⟨b, off + k * 5 + 1, none⟩ = some (.int .i64 o.n) ∧ W.cell? ⟨b, off + k * 5 + 2, none⟩ = some (.int .u64 o.u) ∧ W.cell? ⟨b, off + k * 5 + 3, none⟩ = some (.int .i64 o.i) ∧ W.cell? ⟨b, off + k * 5 + 4, none⟩ = some (.slice o.b o.l o.c) := by
  obtain ⟨_, _, _, hc⟩ := hF
  obtain ⟨b, off, rfl, h0⟩ := hc k hk 0 (by omega)
  have hb := World.block_lt_of_cell? W _ h0
  have g := fun j (hj : j < 5) => (show W.cell? ⟨b, off + k * 5 + j, none⟩ = some (V k j) by
    obtain ⟨b2, off2, e, h⟩ := hc k hk j hj
    simp at e
    obtain ⟨rfl, rfl⟩ := e
    rw [← Nat.add_assoc] at h; exact h)
  refine ⟨b, off, rfl, hb, ?_, ?_, ?_, ?_, ?_⟩
  · rw [← hO.v0]; exact g 0 (by omega)
  · rw [← hO.v1]; exact g 1 (by omega)
  · rw [← hO.v2]; exact g 2 (by omega)
  · rw [← hO.v3]; exact g 3 (by omega)
  · rw [← hO.v4]; exact g 4 (by omega)
/-- What a round has of call k. -/
theorem opround {W w : World} {a : Option Addr} {len cap : Nat} {V : Nat → Nat → Value} {f : Nat → OpV} {k : Nat} (hF : Flat W a len cap 5 V) (hk : k < len) (hO : ∀ i, i < len → OpIs W (V i) (f i)) (hB : Below W.heap.size W w) :
    ∃ o, f k = o ∧ OpIs w (V k) o ∧ ∃ b off, a = some ⟨b, off, none⟩ ∧ b < W.heap.size ∧ w.cell? ⟨b, off + k * 5, none⟩ = some (.int .i64 o.k) ∧ w.cell? ⟨b, off + k * 5 + 1, none⟩ = some (.int .i64 o.n) ∧ w.cell? ⟨b, off + k * 5 + 2, none⟩ = some (.int .u64 o.u) ∧ w.cell? ⟨b, off + k * 5 + 3, none⟩ = some (.int .i64 o.i) ∧ w.cell? ⟨b, off + k * 5 + 4, none⟩ = some (.slice o.b o.l o.c) := by
  obtain ⟨b, off, e, hb, c0, c1, c2, c3, c4⟩ := opcells hF hk (hO k hk)
  have g := fun (p : Addr) (v : Value) (hp : p.block = b) (h : W.cell? p = some v) => (Below.cell hB (show p.block < W.heap.size by rw [hp]; exact hb)).trans h
  exact ⟨_, rfl, (hO k hk).below hB, b, off, e, hb, g _ _ rfl c0, g _ _ rfl c1, g _ _ rfl c2, g _ _ rfl c3, g _ _ rfl c4⟩

set_option maxRecDepth 100000 in
set_option maxHeartbeats 4000000 in
theorem law_OctetBack (a0 : Option Addr) (len0 cap0 : Nat) (vv0 : Nat → Nat → Value) (W : World) (w0 : Flat W a0 len0 cap0 5 vv0) (t0 : ∀ i, i < len0 → (∃ n, vv0 i 0 = .int .i64 n ∧ (Lit.int .i64 n).wf = true) ∧ (∃ n, vv0 i 1 = .int .i64 n ∧ (Lit.int .i64 n).wf = true) ∧ (∃ n, vv0 i 2 = .int .u64 n ∧ (Lit.int .u64 n).wf = true) ∧ (∃ n, vv0 i 3 = .int .i64 n ∧ (Lit.int .i64 n).wf = true) ∧ (∃ b l c zs, vv0 i 4 = .slice b l c ∧ IsRow .u8 W b l c zs)) :
    Calls Try.prog 5 #[.slice a0 len0 cap0] W fun e w' => e = .returned (.bool true) ∧ Below W.heap.size W w' := by
  obtain ⟨f, hO⟩ := ops_of t0
  clear t0
  have kf := few_any a0 len0 cap0 vv0 f W w0 hO
  by_cases cf : fewS f len0 = true
  case neg =>
    rw [Bool.eq_false_iff.2 cf] at kf
    clear cf
    go_enter Try.func5, Try.ntmps5
    go_wp2_with fail
    refine kf.mono ?_
    rintro e w1 ⟨rfl, rfl⟩
    go_wp2_with fail
    refine (knows4_any _).mono ?_
    rintro e V ⟨rfl, hst⟩
    go_wp2_with fail
    go_ret
    exact ⟨rfl, hst⟩
  rw [cf] at kf
  obtain ⟨hlen, hfew⟩ := of_decide_eq_true cf
  have hls : Go.RowKit.Hid (∀ i, i < len0 → (f i).l ≤ 100 ∧ (f i).z.length = (f i).l) := fun i hi => ⟨hfew i hi, (hO i hi).sl.1⟩
  clear cf hfew
  replace hO := hid hO
  replace w0 := hid w0
  go_enter Try.func5, Try.ntmps5
  go_wp2_with fail
  refine kf.mono ?_
  rintro e w1 ⟨rfl, rfl⟩
  go_wp2_with fail
  refine (knows4_any _).mono ?_
  rintro e V ⟨rfl, hB⟩
  go_wp2_with fail
  refine (make_any V).mono ?_
  rintro e V2 ⟨rfl, hH, hA2⟩
  obtain ⟨B, hBB⟩ : ∃ B, V.heap.size = B := ⟨_, rfl⟩
  have hWB : w1.heap.size ≤ B := by rw [← hBB]; exact hB.size
  have hB2 := bthen hB hA2
  rw [hBB] at hH ⊢
  have hWs : WSt B (B + 1) V2 (wst f 0) (!okAll f 0) := ⟨held_lt hH, held_lt hH, none, 0, hH, Own.nil _ _ _ _⟩
  clear hA2 hB hH hBB kf
  replace hWs := hid hWs
  replace hB2 := hid hB2
  go_wp2_with fail
  go_loopw [4] (fun i wr => ∃ k : Nat, k ≤ len0 ∧ i = .int .i64 k ∧ WSt B (B + 1) wr (wst f k) (!okAll f k) ∧ Below w1.heap.size w1 wr) (fun i _ => len0 - (intOf i).toNat)
  case atStart => exact ⟨0, by omega, rfl, hWs.out, hB2.out⟩
  case round =>
    clear hWs hB2
    obtain ⟨k, hk, rfl, hWs, hB⟩ := hrel
    by_cases hlt : (k : Int) < len0
    case neg =>
      obtain rfl : k = len0 := by omega
      have hlw := wst_len f k hlen hls.out
      have kF := wfail_st B (B + 1) _ _ _ hWs
      have kB := fun U (h : After _ U) => wbytes_st B (B + 1) _ _ U (by omega) (hWs.later h)
      replace hWs := hid hWs
      replace hB := hid hB
      by_cases cok : okAll f k = true
      case neg =>
        have cok2 := Bool.eq_false_iff.2 cok
        have ew : wst f k = [] := by unfold wst; rw [cok2]; rfl
        rw [cok2] at kF
        rw [ew] at kB
        clear hlt cok cok2 ew
        go_wp2_with fail
        refine kF.mono ?_
        rintro e V3 ⟨rfl, rfl⟩
        go_wp2_with fail
        refine (kB _ (Below.refl _ _)).mono ?_
        rintro e V4 ⟨a4, cp4, rfl, hO4, hA4⟩
        replace hB := hid (bthen hB.out hA4)
        go_wp2_with fail
        go_ret
        exact ⟨rfl, hB.out⟩
      have ew : wst f k = catP f k := by unfold wst; rw [cok]; rfl
      rw [cok] at kF
      rw [ew] at kB hlw
      clear hlt hWs ew
      go_wp2_with fail
      refine kF.mono ?_
      rintro e V3 ⟨rfl, rfl⟩
      go_wp2_with fail
      refine (kB _ (Below.refl _ _)).mono ?_
      rintro e V4 ⟨a4, cp4, rfl, hO4, hA4⟩
      replace hB := hid (bthen hB.out hA4)
      have kN := new_any a4 _ cp4 _ V4 (by omega) hO4.slf
      clear hO4 hA4 kB kF
      go_wp2_with fail
      refine kN.mono ?_
      rintro e V5 ⟨R, rfl, hR, hRd, hA5⟩
      have hRW : w1.heap.size ≤ R := Nat.le_trans hB.out.size hR
      replace hB := hid (bthen hB.out hA5)
      have hRs : RSt R V5 (sufP f 0 k) false := by
        have := cat_suf f k 0
        simp [catP] at this
        rw [this]; exact hRd
      have hkk := cok
      clear cok hRd hA5 kN hR
      replace hRs := hid hRs
      replace hkk := hid hkk
      go_wp2_with fail
      have hok : Go.RowKit.Hid (∀ i, i < k → okp (f i) = true) := by
        have : ∀ k, okAll f k = true → ∀ i, i < k → okp (f i) = true := by
          intro k
          induction k with
          | zero => intro _ i hi; omega
          | succ k ih =>
            intro h i hi
            unfold okAll at h
            rw [Bool.and_eq_true] at h
            rcases Nat.lt_succ_iff_lt_or_eq.1 hi with h2 | rfl
            · exact ih h.1 i h2
            · exact h.2
        exact this k hkk.out
      have hlN : (sufP f 0 k).length ≤ 6000 := by
        have := cat_suf f k 0
        simp [catP] at this
        rw [this]; omega
      go_loopw [6, 7] (fun i g wr => ∃ j : Nat, j ≤ k ∧ i = .int .i64 j ∧ RSt R wr (sufP f j (k - j)) false ∧ (sufP f j (k - j)).length ≤ 6000 ∧ Below w1.heap.size w1 wr) (fun i _ _ => k - (intOf i).toNat)
      case atStart => exact ⟨0, by omega, rfl, hRs.out, hlN, hB.out⟩
      case round =>
        clear hRs hB hlN hlw
        obtain ⟨j, hj, rfl, hRs, hln, hB⟩ := hrel
        have kL := fun w (h : RSt R w [] false) => rleft_st R [] false w h
        by_cases hlt : (j : Int) < k
        case neg =>
          obtain rfl : j = k := by omega
          rw [Nat.sub_self] at hRs
          have kL := rleft_st R _ false _ hRs
          replace hB := hid hB
          clear hlt hRs
          go_wp2_with fail
          refine kL.mono ?_
          rintro e V6 ⟨rfl, rfl⟩
          go_wp2_with fail
          go_ret
          exact ⟨rfl, hB.out⟩
        have hj2 : j < k := by omega
        obtain ⟨m, hm⟩ : ∃ m, k - j = m + 1 := ⟨k - j - 1, by omega⟩
        have em : k - (j + 1) = m := by omega
        rw [hm] at hRs hln
        have hz := suf_wf f (m + 1) j (fun i hi => (hO.out i (by omega)).wf)
        have hokj := hok.out j hj2
        obtain ⟨o, hfo, hP, b, off, rfl, hlt5, c0, c1, c2, c3, c4⟩ := opround w0.out hj2 hO.out hB
        unfold sufP at hRs hln hz
        rw [hfo] at hRs hln hz hokj
        have kx := rfail_st R
        by_cases k0 : o.k = 0
        · have hb0 : (o.k == 0) = true := by simp [k0]
          have ep : pc o = bytesL o.u o.n.toNat := by unfold pc; rw [if_pos k0]
          have eo : fitU o.n o.u = true := by unfold okp at hokj; rw [if_pos k0] at hokj; exact hokj
          obtain ⟨er, ed⟩ := read_u o.u o.n hP.hu.1 eo (sufP f (j + 1) m)
          rw [ep] at hRs hln hz
          have hn := of_decide_eq_true eo
          have e1 : okU (bytesL o.u o.n.toNat ++ sufP f (j + 1) m) false o.n = true := by
            simp only [okU, Bool.not_false, Bool.true_and]
            refine decide_eq_true ⟨hn.1, hn.2.1, ?_⟩
            rw [List.length_append, bytesL_len]; omega
          have kR := fun U (h : After _ U) => ru_st R w1.heap.size _ false o.n U (hRs.later h) hz (by omega) hRW
          rw [e1] at kR
          simp only [if_true, gotR, ed, er, Bool.not_true] at kR
          have hl2 : (sufP f (j + 1) m).length ≤ 6000 := by rw [List.length_append] at hln; omega
          replace hl2 := hid hl2
          clear er ed eo ep hn e1 hz hln hRs hokj hfo kL hm
          go_upto_region 23 with (fail)
          refine wp_region_B (B := w1.heap.size) (by kernel_rfl) ?_
          refine wpAnyB_take 0 rfl (by kernel_rfl) (by kernel_rfl) (by kernel_rfl) (fun _ _ _ _ h => h) ⟨_, Or.inl ⟨by rfl, fun w' hb => by (go_simp; try with_reducible rfl)⟩, _, by (go_simp; try rfl), ?_⟩
          refine wpAnyB_take 1 rfl (by kernel_rfl) (by kernel_rfl) (by kernel_rfl) (fun _ _ _ _ h => h) ⟨_, Or.inl ⟨by rfl, fun w' hb => by (go_simp; try with_reducible rfl)⟩, _, by (go_simp; try rfl), ?_⟩
          refine wpAnyB_take 2 rfl (by kernel_rfl) (by kernel_rfl) (by kernel_rfl) (fun _ _ _ _ h => h) ⟨_, Or.inl ⟨by rfl, fun w' hb => by (go_simp; try with_reducible rfl)⟩, _, by (go_simp; try rfl), ?_⟩
          refine wpAnyB_take 3 rfl (by kernel_rfl) (by kernel_rfl) (by kernel_rfl) (fun _ _ _ _ h => h) ⟨_, Or.inl ⟨by rfl, fun w' hb => by (go_simp; try with_reducible rfl)⟩, _, by (go_simp; try rfl), ?_⟩
          refine wpAnyB_take 4 rfl (by kernel_rfl) (by kernel_rfl) (by kernel_rfl) (fun _ _ _ _ h => h) ⟨_, Or.inl ⟨by rfl, fun w' hb => by (go_simp; try with_reducible rfl)⟩, _, by (go_simp; try rfl), ?_⟩
          refine wpAnyB_take 5 rfl (by kernel_rfl) (by kernel_rfl) (by kernel_rfl) (fun _ _ _ _ h => h) ⟨_, Or.inl ⟨by rfl, fun w' hb => by (have hc := hb.cellB hlt5 c1; go_simp; try with_reducible rfl)⟩, _, by (go_simp; try rfl), ?_⟩
          refine wpAnyB_take 7 rfl (by kernel_rfl) (by kernel_rfl) (by kernel_rfl) (fun _ _ _ _ h => h) ⟨_, Or.inl ⟨by rfl, fun w' hb => by (go_simp; try with_reducible rfl)⟩, _, by (go_simp; try rfl), ?_⟩
          refine wpAnyB_take 8 rfl (by kernel_rfl) (by kernel_rfl) (by kernel_rfl) (fun _ _ _ _ h => h) ⟨_, Or.inl ⟨by rfl, fun w' hb => by (go_simp; try with_reducible rfl)⟩, _, by (go_simp; try rfl), ?_⟩
          refine wpAnyB_take 9 rfl (by kernel_rfl) (by kernel_rfl) (by kernel_rfl) (fun _ _ _ _ h => h) ⟨_, Or.inl ⟨by rfl, fun w' hb => by (go_simp; try with_reducible rfl)⟩, _, by (go_simp; try rfl), ?_⟩
          refine wpAnyB_take 10 rfl (by kernel_rfl) (by kernel_rfl) (by kernel_rfl) (fun _ _ _ _ h => h) ⟨_, Or.inl ⟨by rfl, fun w' hb => by (go_simp; try with_reducible rfl)⟩, _, by (go_simp; try rfl), ?_⟩
          refine wpAnyB_take 11 rfl (by kernel_rfl) (by kernel_rfl) (by kernel_rfl) (fun _ _ _ _ h => h) ⟨_, Or.inl ⟨by rfl, fun w' hb => by (have hc := hb.cellB hlt5 c2; go_simp; try with_reducible rfl)⟩, _, by (go_simp; try rfl), ?_⟩
          refine wpAnyB_only 6 rfl (by kernel_rfl) (by rfl) (fun K hK => ?_)
          go_simp
          refine (kR _ ((Below.refl _ _).drew)).mono ?_
          rintro e V6 ⟨rfl, hRs, hB6⟩
          refine hK _ _ ⟨hB6, ?_⟩
          refine wpAnyB_take 12 rfl (by kernel_rfl) (by kernel_rfl) (by kernel_rfl) (fun _ _ _ _ h => h) ⟨_, Or.inl ⟨by rfl, fun w' hb => by (go_simp; try with_reducible rfl)⟩, _, by (go_simp; try rfl), ?_⟩
          refine wpAnyB_take 13 rfl (by kernel_rfl) (by kernel_rfl) (by kernel_rfl) (fun _ _ _ _ h => h) ⟨_, Or.inl ⟨by rfl, fun w' hb => by (go_simp; try with_reducible rfl)⟩, _, by (go_simp; try rfl), ?_⟩
          refine wpAnyB_done (by kernel_rfl) ?_ _
          have hB7 : Below w1.heap.size w1 V6 := Below.trans (Below.trans hB ((Below.refl _ _).drew)) hB6
          replace hRs := hid hRs
          clear hB6 hB
          have hB := hid hB7
          clear hB7
          have hln := hl2
          go_wp2_with fail
          refine (rfail_st R _ false _ hRs.out).mono ?_
          rintro e V7 ⟨rfl, rfl⟩
          go_wp2_with fail
          go_roundw
          case rel => first | exact ⟨j + 1, by omega, by simp, by rw [em]; exact hRs.out, by rw [em]; exact hln.out, hB.out⟩ | ((repeat apply Exists.intro); exact ⟨⟨j + 1, by omega, by simp, by rw [em]; exact hRs.out, by rw [em]; exact hln.out, hB.out⟩, rfl⟩)
          case measure => show k - ((j : Int) + 1).toNat < k - (j : Int).toNat; omega
        have hb0 : (o.k == 0) = false := by simp [k0]
        by_cases k1 : o.k = 1
        · have hb1 : (o.k == 1) = true := by simp [k1]
          have ep : pc o = bytesL (wrapU o.i) o.n.toNat := by unfold pc; rw [if_neg k0, if_pos k1]
          have eo : fitI o.n o.i = true := by unfold okp at hokj; rw [if_neg k0, if_pos k1] at hokj; exact hokj
          obtain ⟨er, ed⟩ := read_i o.i o.n eo (sufP f (j + 1) m)
          rw [ep] at hRs hln hz
          have hn := of_decide_eq_true eo
          have e1 : okU (bytesL (wrapU o.i) o.n.toNat ++ sufP f (j + 1) m) false o.n = true := by
            simp only [okU, Bool.not_false, Bool.true_and]
            refine decide_eq_true ⟨hn.1, hn.2.1, ?_⟩
            rw [List.length_append, bytesL_len]; omega
          have kR := fun U (h : After _ U) => ri_st R w1.heap.size _ false o.n U (hRs.later h) hz (by omega) hRW
          rw [e1] at kR
          simp only [if_true, gotR, ed, er, Bool.not_true] at kR
          have hl2 : (sufP f (j + 1) m).length ≤ 6000 := by rw [List.length_append] at hln; omega
          replace hl2 := hid hl2
          clear er ed eo ep hn e1 hz hln hRs hokj hfo kL hm
          go_upto_region 25 with (fail)
          refine wp_region_B (B := w1.heap.size) (by kernel_rfl) ?_
          refine wpAnyB_take 0 rfl (by kernel_rfl) (by kernel_rfl) (by kernel_rfl) (fun _ _ _ _ h => h) ⟨_, Or.inl ⟨by rfl, fun w' hb => by (go_simp; try with_reducible rfl)⟩, _, by (go_simp; try rfl), ?_⟩
          refine wpAnyB_take 1 rfl (by kernel_rfl) (by kernel_rfl) (by kernel_rfl) (fun _ _ _ _ h => h) ⟨_, Or.inl ⟨by rfl, fun w' hb => by (go_simp; try with_reducible rfl)⟩, _, by (go_simp; try rfl), ?_⟩
          refine wpAnyB_take 2 rfl (by kernel_rfl) (by kernel_rfl) (by kernel_rfl) (fun _ _ _ _ h => h) ⟨_, Or.inl ⟨by rfl, fun w' hb => by (go_simp; try with_reducible rfl)⟩, _, by (go_simp; try rfl), ?_⟩
          refine wpAnyB_take 3 rfl (by kernel_rfl) (by kernel_rfl) (by kernel_rfl) (fun _ _ _ _ h => h) ⟨_, Or.inl ⟨by rfl, fun w' hb => by (go_simp; try with_reducible rfl)⟩, _, by (go_simp; try rfl), ?_⟩
          refine wpAnyB_take 4 rfl (by kernel_rfl) (by kernel_rfl) (by kernel_rfl) (fun _ _ _ _ h => h) ⟨_, Or.inl ⟨by rfl, fun w' hb => by (go_simp; try with_reducible rfl)⟩, _, by (go_simp; try rfl), ?_⟩
          refine wpAnyB_take 5 rfl (by kernel_rfl) (by kernel_rfl) (by kernel_rfl) (fun _ _ _ _ h => h) ⟨_, Or.inl ⟨by rfl, fun w' hb => by (have hc := hb.cellB hlt5 c1; go_simp; try with_reducible rfl)⟩, _, by (go_simp; try rfl), ?_⟩
          refine wpAnyB_take 7 rfl (by kernel_rfl) (by kernel_rfl) (by kernel_rfl) (fun _ _ _ _ h => h) ⟨_, Or.inl ⟨by rfl, fun w' hb => by (go_simp; try with_reducible rfl)⟩, _, by (go_simp; try rfl), ?_⟩
          refine wpAnyB_take 8 rfl (by kernel_rfl) (by kernel_rfl) (by kernel_rfl) (fun _ _ _ _ h => h) ⟨_, Or.inl ⟨by rfl, fun w' hb => by (go_simp; try with_reducible rfl)⟩, _, by (go_simp; try rfl), ?_⟩
          refine wpAnyB_take 9 rfl (by kernel_rfl) (by kernel_rfl) (by kernel_rfl) (fun _ _ _ _ h => h) ⟨_, Or.inl ⟨by rfl, fun w' hb => by (go_simp; try with_reducible rfl)⟩, _, by (go_simp; try rfl), ?_⟩
          refine wpAnyB_take 10 rfl (by kernel_rfl) (by kernel_rfl) (by kernel_rfl) (fun _ _ _ _ h => h) ⟨_, Or.inl ⟨by rfl, fun w' hb => by (go_simp; try with_reducible rfl)⟩, _, by (go_simp; try rfl), ?_⟩
          refine wpAnyB_take 11 rfl (by kernel_rfl) (by kernel_rfl) (by kernel_rfl) (fun _ _ _ _ h => h) ⟨_, Or.inl ⟨by rfl, fun w' hb => by (have hc := hb.cellB hlt5 c3; go_simp; try with_reducible rfl)⟩, _, by (go_simp; try rfl), ?_⟩
          refine wpAnyB_only 6 rfl (by kernel_rfl) (by rfl) (fun K hK => ?_)
          go_simp
          refine (kR _ ((Below.refl _ _).drew)).mono ?_
          rintro e V6 ⟨rfl, hRs, hB6⟩
          refine hK _ _ ⟨hB6, ?_⟩
          refine wpAnyB_take 12 rfl (by kernel_rfl) (by kernel_rfl) (by kernel_rfl) (fun _ _ _ _ h => h) ⟨_, Or.inl ⟨by rfl, fun w' hb => by (go_simp; try with_reducible rfl)⟩, _, by (go_simp; try rfl), ?_⟩
          refine wpAnyB_take 13 rfl (by kernel_rfl) (by kernel_rfl) (by kernel_rfl) (fun _ _ _ _ h => h) ⟨_, Or.inl ⟨by rfl, fun w' hb => by (go_simp; try with_reducible rfl)⟩, _, by (go_simp; try rfl), ?_⟩
          refine wpAnyB_done (by kernel_rfl) ?_ _
          have hB7 : Below w1.heap.size w1 V6 := Below.trans (Below.trans hB ((Below.refl _ _).drew)) hB6
          replace hRs := hid hRs
          clear hB6 hB
          have hB := hid hB7
          clear hB7
          have hln := hl2
          go_wp2_with fail
          refine (rfail_st R _ false _ hRs.out).mono ?_
          rintro e V7 ⟨rfl, rfl⟩
          go_wp2_with fail
          go_roundw
          case rel => first | exact ⟨j + 1, by omega, by simp, by rw [em]; exact hRs.out, by rw [em]; exact hln.out, hB.out⟩ | ((repeat apply Exists.intro); exact ⟨⟨j + 1, by omega, by simp, by rw [em]; exact hRs.out, by rw [em]; exact hln.out, hB.out⟩, rfl⟩)
          case measure => show k - ((j : Int) + 1).toNat < k - (j : Int).toNat; omega
        · have hb1 : (o.k == 1) = false := by simp [k1]
          have ep : pc o = o.z := by unfold pc; rw [if_neg k0, if_neg k1]
          rw [ep] at hRs hln hz
          have hzl := hP.sl.1
          have e1 : okR (o.z ++ sufP f (j + 1) m) false (o.l : Int) = true := by
            simp only [okR, Bool.not_false, Bool.true_and]
            refine decide_eq_true ⟨by omega, ?_⟩
            rw [List.length_append]; omega
          have et : (o.z ++ sufP f (j + 1) m).take ((o.l : Int)).toNat = o.z := List.take_left' (by omega)
          have ed : (o.z ++ sufP f (j + 1) m).drop ((o.l : Int)).toNat = sufP f (j + 1) m := List.drop_left' (by omega)
          have hTl := fun U (h : Aft w1.heap.size w1 U) => (((hO.out j (by omega)).sl.below h)).text 22 9 5 Try.underlying22 Try.underlying5 Try.underlying9
          rw [hfo] at hTl
          have kR := fun U (h : After _ U) => rraw_st R w1.heap.size _ false (o.l : Int) U (hRs.later h) (by omega) hRW (Nat.le_trans hB.size h.size)
          rw [e1] at kR
          simp only [if_true, gotR, ed, et, Bool.not_true] at kR
          have hl2 : (sufP f (j + 1) m).length ≤ 6000 := by rw [List.length_append] at hln; omega
          replace hl2 := hid hl2
          obtain ⟨TX, hTX⟩ : ∃ TX, textOf o.z = TX := ⟨_, rfl⟩
          rw [hTX] at hTl
          clear et ed ep e1 hz hln hRs hokj hfo kL hm
          go_upto_region 21 with (fail)
          refine wp_region_B (B := w1.heap.size) (by kernel_rfl) ?_
          refine wpAnyB_take 0 rfl (by kernel_rfl) (by kernel_rfl) (by kernel_rfl) (fun _ _ _ _ h => h) ⟨_, Or.inl ⟨by rfl, fun w' hb => by (go_simp; try with_reducible rfl)⟩, _, by (go_simp; try rfl), ?_⟩
          refine wpAnyB_take 1 rfl (by kernel_rfl) (by kernel_rfl) (by kernel_rfl) (fun _ _ _ _ h => h) ⟨_, Or.inl ⟨by rfl, fun w' hb => by (go_simp; try with_reducible rfl)⟩, _, by (go_simp; try rfl), ?_⟩
          refine wpAnyB_take 2 rfl (by kernel_rfl) (by kernel_rfl) (by kernel_rfl) (fun _ _ _ _ h => h) ⟨_, Or.inl ⟨by rfl, fun w' hb => by (go_simp; try with_reducible rfl)⟩, _, by (go_simp; try rfl), ?_⟩
          refine wpAnyB_take 3 rfl (by kernel_rfl) (by kernel_rfl) (by kernel_rfl) (fun _ _ _ _ h => h) ⟨_, Or.inl ⟨by rfl, fun w' hb => by (go_simp; try with_reducible rfl)⟩, _, by (go_simp; try rfl), ?_⟩
          refine wpAnyB_take 4 rfl (by kernel_rfl) (by kernel_rfl) (by kernel_rfl) (fun _ _ _ _ h => h) ⟨_, Or.inl ⟨by rfl, fun w' hb => by (go_simp; try with_reducible rfl)⟩, _, by (go_simp; try rfl), ?_⟩
          refine wpAnyB_take 5 rfl (by kernel_rfl) (by kernel_rfl) (by kernel_rfl) (fun _ _ _ _ h => h) ⟨_, Or.inl ⟨by rfl, fun w' hb => by (have hc := hb.cellB hlt5 c4; go_simp; try with_reducible rfl)⟩, _, by (go_simp; try rfl), ?_⟩
          refine wpAnyB_take 6 rfl (by kernel_rfl) (by kernel_rfl) (by kernel_rfl) (fun _ _ _ _ h => h) ⟨_, Or.inl ⟨by rfl, fun w' hb => by (go_simp; try with_reducible rfl)⟩, _, by (go_simp; try rfl), ?_⟩
          refine wpAnyB_take 9 rfl (by kernel_rfl) (by kernel_rfl) (by kernel_rfl) (fun _ _ _ _ h => h) ⟨_, Or.inl ⟨by rfl, fun w' hb => by (go_simp; try with_reducible rfl)⟩, _, by (go_simp; try rfl), ?_⟩
          refine wpAnyB_take 10 rfl (by kernel_rfl) (by kernel_rfl) (by kernel_rfl) (fun _ _ _ _ h => h) ⟨_, Or.inl ⟨by rfl, fun w' hb => by (go_simp; try with_reducible rfl)⟩, _, by (go_simp; try rfl), ?_⟩
          refine wpAnyB_take 11 rfl (by kernel_rfl) (by kernel_rfl) (by kernel_rfl) (fun _ _ _ _ h => h) ⟨_, Or.inl ⟨by rfl, fun w' hb => by (go_simp; try with_reducible rfl)⟩, _, by (go_simp; try rfl), ?_⟩
          refine wpAnyB_take 12 rfl (by kernel_rfl) (by kernel_rfl) (by kernel_rfl) (fun _ _ _ _ h => h) ⟨_, Or.inl ⟨by rfl, fun w' hb => by (go_simp; try with_reducible rfl)⟩, _, by (go_simp; try rfl), ?_⟩
          refine wpAnyB_take 13 rfl (by kernel_rfl) (by kernel_rfl) (by kernel_rfl) (fun _ _ _ _ h => h) ⟨_, Or.inl ⟨by rfl, fun w' hb => by (have hc := hb.cellB hlt5 c4; go_simp; try with_reducible rfl)⟩, _, by (go_simp; try rfl), ?_⟩
          refine wpAnyB_take 14 rfl (by kernel_rfl) (by kernel_rfl) (by kernel_rfl) (fun _ _ _ _ h => h) ⟨_, Or.inl ⟨by rfl, fun w' hb => by (have hx := hTl w' (Below.trans (Below.trans hB ((Below.refl _ _).drew)) hb); go_simp; try with_reducible rfl)⟩, _, by (go_simp; try rfl), ?_⟩
          refine wpAnyB_only 7 rfl (by kernel_rfl) (by rfl) (fun K hK => ?_)
          go_simp
          refine (kR _ ((Below.refl _ _).drew)).mono ?_
          rintro e V6 ⟨⟨a6, l6, cp6, rfl, hs6⟩, hRs, hB6⟩
          have hT6 := hs6.text 22 9 5 Try.underlying22 Try.underlying5 Try.underlying9
          rw [hTX] at hT6
          refine hK _ _ ⟨hB6, ?_⟩
          refine wpAnyB_only 8 rfl (by kernel_rfl) (by rfl) (fun K hK => ?_)
          go_simp
          refine hK _ _ ⟨Below.refl _ _, ?_⟩
          refine wpAnyB_take 15 rfl (by kernel_rfl) (by kernel_rfl) (by kernel_rfl) (fun _ _ _ _ h => h) ⟨_, Or.inl ⟨by rfl, fun w' hb => by (go_simp; try with_reducible rfl)⟩, _, by (go_simp; try rfl), ?_⟩
          refine wpAnyB_take 16 rfl (by kernel_rfl) (by kernel_rfl) (by kernel_rfl) (fun _ _ _ _ h => h) ⟨_, Or.inl ⟨by rfl, fun w' hb => by (go_simp; try with_reducible rfl)⟩, _, by (go_simp; try rfl), ?_⟩
          refine wpAnyB_done (by kernel_rfl) ?_ _
          have hB7 : Below w1.heap.size w1 V6 := Below.trans (Below.trans hB ((Below.refl _ _).drew)) hB6
          replace hRs := hid hRs
          clear hB6 hB
          have hB := hid hB7
          clear hB7
          have hln := hl2
          go_wp2_with fail
          refine (rfail_st R _ false _ hRs.out).mono ?_
          rintro e V7 ⟨rfl, rfl⟩
          go_wp2_with fail
          go_roundw
          case rel => first | exact ⟨j + 1, by omega, by simp, by rw [em]; exact hRs.out, by rw [em]; exact hln.out, hB.out⟩ | ((repeat apply Exists.intro); exact ⟨⟨j + 1, by omega, by simp, by rw [em]; exact hRs.out, by rw [em]; exact hln.out, hB.out⟩, rfl⟩)
          case measure => show k - ((j : Int) + 1).toNat < k - (j : Int).toNat; omega
    have hk2 : k < len0 := by omega
    obtain ⟨o, hfo, hP, b, off, rfl, hlt5, c0, c1, c2, c3, c4⟩ := opround w0.out hk2 hO.out hB
    have hwl := wst_len f k (by omega) (fun i hi => hls.out i (by omega))
    have hnx := wst_next f k
    rw [hfo] at hnx
    have hbb : w1.heap.size ≤ B + 1 := by omega
    by_cases k0 : o.k = 0
    · have hb0 : (o.k == 0) = true := by simp [k0]
      have ep : pc o = bytesL o.u o.n.toNat := by unfold pc; rw [if_pos k0]
      have eo : okp o = fitU o.n o.u := by unfold okp; rw [if_pos k0]
      rw [ep, eo] at hnx
      have kW := fun U (h : After _ U) => wu_st B (B + 1) w1.heap.size _ _ o.n o.u hP.hu.1 hP.hu.2 U (hWs.later h) (by omega) hWB hbb
      rw [Bool.not_not] at kW
      rw [hnx.1, hnx.2] at kW
      clear hnx ep eo hWs hfo hwl
      go_upto_region 10 with (fail)
      refine wp_region_B (B := w1.heap.size) (by kernel_rfl) ?_
      refine wpAnyB_take 0 rfl (by kernel_rfl) (by kernel_rfl) (by kernel_rfl) (fun _ _ _ _ h => h) ⟨_, Or.inl ⟨by rfl, fun w' hb => by (go_simp; try with_reducible rfl)⟩, _, by (go_simp; try rfl), ?_⟩
      refine wpAnyB_take 1 rfl (by kernel_rfl) (by kernel_rfl) (by kernel_rfl) (fun _ _ _ _ h => h) ⟨_, Or.inl ⟨by rfl, fun w' hb => by (go_simp; try with_reducible rfl)⟩, _, by (go_simp; try rfl), ?_⟩
      refine wpAnyB_take 2 rfl (by kernel_rfl) (by kernel_rfl) (by kernel_rfl) (fun _ _ _ _ h => h) ⟨_, Or.inl ⟨by rfl, fun w' hb => by (go_simp; try with_reducible rfl)⟩, _, by (go_simp; try rfl), ?_⟩
      refine wpAnyB_take 3 rfl (by kernel_rfl) (by kernel_rfl) (by kernel_rfl) (fun _ _ _ _ h => h) ⟨_, Or.inl ⟨by rfl, fun w' hb => by (go_simp; try with_reducible rfl)⟩, _, by (go_simp; try rfl), ?_⟩
      refine wpAnyB_take 4 rfl (by kernel_rfl) (by kernel_rfl) (by kernel_rfl) (fun _ _ _ _ h => h) ⟨_, Or.inl ⟨by rfl, fun w' hb => by (go_simp; try with_reducible rfl)⟩, _, by (go_simp; try rfl), ?_⟩
      refine wpAnyB_take 5 rfl (by kernel_rfl) (by kernel_rfl) (by kernel_rfl) (fun _ _ _ _ h => h) ⟨_, Or.inl ⟨by rfl, fun w' hb => by (have hc := hb.cellB hlt5 c1; go_simp; try with_reducible rfl)⟩, _, by (go_simp; try rfl), ?_⟩
      refine wpAnyB_take 6 rfl (by kernel_rfl) (by kernel_rfl) (by kernel_rfl) (fun _ _ _ _ h => h) ⟨_, Or.inl ⟨by rfl, fun w' hb => by (go_simp; try with_reducible rfl)⟩, _, by (go_simp; try rfl), ?_⟩
      refine wpAnyB_take 7 rfl (by kernel_rfl) (by kernel_rfl) (by kernel_rfl) (fun _ _ _ _ h => h) ⟨_, Or.inl ⟨by rfl, fun w' hb => by (go_simp; try with_reducible rfl)⟩, _, by (go_simp; try rfl), ?_⟩
      refine wpAnyB_take 8 rfl (by kernel_rfl) (by kernel_rfl) (by kernel_rfl) (fun _ _ _ _ h => h) ⟨_, Or.inl ⟨by rfl, fun w' hb => by (go_simp; try with_reducible rfl)⟩, _, by (go_simp; try rfl), ?_⟩
      refine wpAnyB_take 9 rfl (by kernel_rfl) (by kernel_rfl) (by kernel_rfl) (fun _ _ _ _ h => h) ⟨_, Or.inl ⟨by rfl, fun w' hb => by (go_simp; try with_reducible rfl)⟩, _, by (go_simp; try rfl), ?_⟩
      refine wpAnyB_take 10 rfl (by kernel_rfl) (by kernel_rfl) (by kernel_rfl) (fun _ _ _ _ h => h) ⟨_, Or.inl ⟨by rfl, fun w' hb => by (have hc := hb.cellB hlt5 c2; go_simp; try with_reducible rfl)⟩, _, by (go_simp; try rfl), ?_⟩
      refine wpAnyB_only 11 rfl (by kernel_rfl) (by rfl) (fun K hK => ?_)
      go_simp
      refine (kW _ ((Below.refl _ _).drew)).mono ?_
      rintro e V6 ⟨rfl, hWs, hB6⟩
      refine hK _ _ ⟨hB6, ?_⟩
      refine wpAnyB_done (by kernel_rfl) ?_ _
      have hB7 : Below w1.heap.size w1 V6 := Below.trans (Below.trans hB ((Below.refl _ _).drew)) hB6
      clear hB6 hB kW
      replace hWs := hid hWs
      have hB := hid hB7
      clear hB7
      go_wp2_with fail
      go_roundw
      case rel => first | exact ⟨k + 1, by omega, by simp, hWs.out, hB.out⟩ | ((repeat apply Exists.intro); exact ⟨⟨k + 1, by omega, by simp, hWs.out, hB.out⟩, rfl⟩)
      case measure => show len0 - ((k : Int) + 1).toNat < len0 - (k : Int).toNat; omega
    have hb0 : (o.k == 0) = false := by simp [k0]
    by_cases k1 : o.k = 1
    · have hb1 : (o.k == 1) = true := by simp [k1]
      have ep : pc o = bytesL (wrapU o.i) o.n.toNat := by unfold pc; rw [if_neg k0, if_pos k1]
      have eo : okp o = fitI o.n o.i := by unfold okp; rw [if_neg k0, if_pos k1]
      rw [ep, eo] at hnx
      have kW := fun U (h : After _ U) => wi_st B (B + 1) w1.heap.size _ _ o.n o.i hP.hi.1 hP.hi.2 U (hWs.later h) (by omega) hWB hbb
      rw [Bool.not_not] at kW
      rw [hnx.1, hnx.2] at kW
      clear hnx ep eo hWs hfo hwl
      go_upto_region 12 with (fail)
      refine wp_region_B (B := w1.heap.size) (by kernel_rfl) ?_
      refine wpAnyB_take 0 rfl (by kernel_rfl) (by kernel_rfl) (by kernel_rfl) (fun _ _ _ _ h => h) ⟨_, Or.inl ⟨by rfl, fun w' hb => by (go_simp; try with_reducible rfl)⟩, _, by (go_simp; try rfl), ?_⟩
      refine wpAnyB_take 1 rfl (by kernel_rfl) (by kernel_rfl) (by kernel_rfl) (fun _ _ _ _ h => h) ⟨_, Or.inl ⟨by rfl, fun w' hb => by (go_simp; try with_reducible rfl)⟩, _, by (go_simp; try rfl), ?_⟩
      refine wpAnyB_take 2 rfl (by kernel_rfl) (by kernel_rfl) (by kernel_rfl) (fun _ _ _ _ h => h) ⟨_, Or.inl ⟨by rfl, fun w' hb => by (go_simp; try with_reducible rfl)⟩, _, by (go_simp; try rfl), ?_⟩
      refine wpAnyB_take 3 rfl (by kernel_rfl) (by kernel_rfl) (by kernel_rfl) (fun _ _ _ _ h => h) ⟨_, Or.inl ⟨by rfl, fun w' hb => by (go_simp; try with_reducible rfl)⟩, _, by (go_simp; try rfl), ?_⟩
      refine wpAnyB_take 4 rfl (by kernel_rfl) (by kernel_rfl) (by kernel_rfl) (fun _ _ _ _ h => h) ⟨_, Or.inl ⟨by rfl, fun w' hb => by (go_simp; try with_reducible rfl)⟩, _, by (go_simp; try rfl), ?_⟩
      refine wpAnyB_take 5 rfl (by kernel_rfl) (by kernel_rfl) (by kernel_rfl) (fun _ _ _ _ h => h) ⟨_, Or.inl ⟨by rfl, fun w' hb => by (have hc := hb.cellB hlt5 c1; go_simp; try with_reducible rfl)⟩, _, by (go_simp; try rfl), ?_⟩
      refine wpAnyB_take 6 rfl (by kernel_rfl) (by kernel_rfl) (by kernel_rfl) (fun _ _ _ _ h => h) ⟨_, Or.inl ⟨by rfl, fun w' hb => by (go_simp; try with_reducible rfl)⟩, _, by (go_simp; try rfl), ?_⟩
      refine wpAnyB_take 7 rfl (by kernel_rfl) (by kernel_rfl) (by kernel_rfl) (fun _ _ _ _ h => h) ⟨_, Or.inl ⟨by rfl, fun w' hb => by (go_simp; try with_reducible rfl)⟩, _, by (go_simp; try rfl), ?_⟩
      refine wpAnyB_take 8 rfl (by kernel_rfl) (by kernel_rfl) (by kernel_rfl) (fun _ _ _ _ h => h) ⟨_, Or.inl ⟨by rfl, fun w' hb => by (go_simp; try with_reducible rfl)⟩, _, by (go_simp; try rfl), ?_⟩
      refine wpAnyB_take 9 rfl (by kernel_rfl) (by kernel_rfl) (by kernel_rfl) (fun _ _ _ _ h => h) ⟨_, Or.inl ⟨by rfl, fun w' hb => by (go_simp; try with_reducible rfl)⟩, _, by (go_simp; try rfl), ?_⟩
      refine wpAnyB_take 10 rfl (by kernel_rfl) (by kernel_rfl) (by kernel_rfl) (fun _ _ _ _ h => h) ⟨_, Or.inl ⟨by rfl, fun w' hb => by (have hc := hb.cellB hlt5 c3; go_simp; try with_reducible rfl)⟩, _, by (go_simp; try rfl), ?_⟩
      refine wpAnyB_only 11 rfl (by kernel_rfl) (by rfl) (fun K hK => ?_)
      go_simp
      refine (kW _ ((Below.refl _ _).drew)).mono ?_
      rintro e V6 ⟨rfl, hWs, hB6⟩
      refine hK _ _ ⟨hB6, ?_⟩
      refine wpAnyB_done (by kernel_rfl) ?_ _
      have hB7 : Below w1.heap.size w1 V6 := Below.trans (Below.trans hB ((Below.refl _ _).drew)) hB6
      clear hB6 hB kW
      replace hWs := hid hWs
      have hB := hid hB7
      clear hB7
      go_wp2_with fail
      go_roundw
      case rel => first | exact ⟨k + 1, by omega, by simp, hWs.out, hB.out⟩ | ((repeat apply Exists.intro); exact ⟨⟨k + 1, by omega, by simp, hWs.out, hB.out⟩, rfl⟩)
      case measure => show len0 - ((k : Int) + 1).toNat < len0 - (k : Int).toNat; omega
    · have hb1 : (o.k == 1) = false := by simp [k1]
      have ep : pc o = o.z := by unfold pc; rw [if_neg k0, if_neg k1]
      have eo : okp o = true := by unfold okp; rw [if_neg k0, if_neg k1]
      have hol := (hls.out k hk2).1
      rw [hfo] at hol
      rw [ep, eo] at hnx
      have kW := fun U (h : After _ U) => wraw_st B (B + 1) w1.heap.size _ _ _ o.b o.l o.c U (hWs.later h) (by omega) (hP.sl.below h) (by omega) hWB hbb
      rw [Bool.and_true] at hnx
      rw [Bool.not_not] at kW
      rw [hnx.1] at kW
      rw [hnx.2] at kW
      clear hnx ep eo hWs hfo hwl
      go_wp2_with fail
      refine (kW _ (Below.refl _ _)).mono ?_
      rintro e V6 ⟨rfl, hWs, hB6⟩
      have hB7 : Below w1.heap.size w1 V6 := Below.trans hB hB6
      clear hB6 hB kW
      replace hWs := hid hWs
      have hB := hid hB7
      clear hB7
      go_wp2_with fail
      go_roundw
      case rel => first | exact ⟨k + 1, by omega, by simp, hWs.out, hB.out⟩ | ((repeat apply Exists.intro); exact ⟨⟨k + 1, by omega, by simp, hWs.out, hB.out⟩, rfl⟩)
      case measure => show len0 - ((k : Int) + 1).toNat < len0 - (k : Int).toNat; omega

end Go.Proofs.Ytfcgeogooapmpaa
