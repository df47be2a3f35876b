/- Several texts in one: Rec5, Rec6. -/
import Derived.Test.YtlfbhfmchdbnoaaKI
import Derived.Deep.DeepCutAuto

/- Package rec: the papers' Delta. -/
namespace Go.Proofs.Ytlfbhfmchdbnoaa
open Go.ChangeShapes Go.WideShapes Go.ChangeAt Go.RowKit
set_option linter.unusedVariables false
set_option linter.unusedSimpArgs false

theorem intsS_snoc (l : List Int) (d : Int) : intsS (l ++ [d]) = intsS l ++ vpS (zigS d).toNat := by simp [intsS]
theorem mskF_eq {a b : List Int} {k : Nat} (h : b.getD k 0 = a.getD k 0) : mskF a b (k + 1) = mskF a b k := by
  show mskF a b k + _ = _
  rw [if_pos h, Nat.add_zero]
theorem mskF_ne {a b : List Int} {k : Nat} (h : b.getD k 0 ≠ a.getD k 0) : mskF a b (k + 1) = mskF a b k + 2 ^ k := by
  show mskF a b k + _ = _
  rw [if_neg h]
set_option maxRecDepth 100000 in
set_option maxHeartbeats 2000000 in
theorem rlater_any (t u : Int) (w : World) (ht : 0 ≤ t ∧ t ≤ 4294967295) (hu : 0 ≤ u ∧ u ≤ 4294967295) : Calls Try.prog 73 #[.int .u32 t, .int .u32 u] w fun e w' => e = .returned (.int .u64 ((lateV t u : Nat) : Int)) ∧ w' = w := by
  have w1 : IntKind.u64.wrap t = t := by rw [IntKind.wrap_u64]; omega
  have w2 : IntKind.u64.wrap u = u := by rw [IntKind.wrap_u64]; omega
  have w3 : IntKind.u64.wrap (u + 4294967296) = u + 4294967296 := by rw [IntKind.wrap_u64]; omega
  have w4 : IntKind.u64.wrap (u + 4294967296 - t) = u + 4294967296 - t := by rw [IntKind.wrap_u64]; omega
  have w5 : (u + 4294967296 - t).tmod 4294967296 = ((lateV t u : Nat) : Int) := by rw [Int.tmod_eq_emod_of_nonneg (by omega)]; unfold lateV; omega
  have w6 : (u + 4294967296 - t) % 4294967296 = ((lateV t u : Nat) : Int) := by unfold lateV; omega
  obtain ⟨L, hL⟩ : ∃ L, lateV t u = L := ⟨_, rfl⟩
  rw [hL] at w5 w6 ⊢
  go_enter Try.func73, Try.ntmps73
  go_wp2_with fail
  go_ret
  exact ⟨rfl, rfl⟩
set_option maxRecDepth 100000 in
set_option maxHeartbeats 8000000 in
theorem rdelta_any (t u a0 a1 a2 a3 a4 a5 a6 a7 a8 a9 a10 a11 b0 b1 b2 b3 b4 b5 b6 b7 b8 b9 b10 b11 : Int) (w : World) (ht : 0 ≤ t ∧ t ≤ 4294967295) (hu : 0 ≤ u ∧ u ≤ 4294967295) (ha : ∀ x ∈ [a0, a1, a2, a3, a4, a5, a6, a7, a8, a9, a10, a11], -2147483648 ≤ x ∧ x ≤ 2147483647) (hb : ∀ x ∈ [b0, b1, b2, b3, b4, b5, b6, b7, b8, b9, b10, b11], -2147483648 ≤ x ∧ x ≤ 2147483647) : Calls Try.prog 67 #[.agg #[.int .u32 t, .int .i32 a0, .int .i32 a1, .int .i32 a2, .int .i32 a3, .int .i32 a4, .int .i32 a5, .int .i32 a6, .int .i32 a7, .int .i32 a8, .int .i32 a9, .int .i32 a10, .int .i32 a11], .agg #[.int .u32 u, .int .i32 b0, .int .i32 b1, .int .i32 b2, .int .i32 b3, .int .i32 b4, .int .i32 b5, .int .i32 b6, .int .i32 b7, .int .i32 b8, .int .i32 b9, .int .i32 b10, .int .i32 b11]] w (BytesOk w (deltaV t u ([a0, a1, a2, a3, a4, a5, a6, a7, a8, a9, a10, a11]) ([b0, b1, b2, b3, b4, b5, b6, b7, b8, b9, b10, b11]))) := by
  replace ha := hid ha
  replace hb := hid hb
  go_enter Try.func67, Try.ntmps67
  go_upto_region 0 with (fail)
  apply wp_region_seg0 (w := w) (S := [.al 1000, .al 1000, .q []]) (E := [.al ((fun p => .pointer (some ⟨p, 0, none⟩)), _) 1000, .al ((fun p => .pointer (some ⟨p, 0, none⟩)), _) 1000, .q0 _]) rfl (by kernel_rfl) rfl rfl
  intro th hge hne
  refine Seg.step _ rfl ⟨by rfl, fun U hU => ?_⟩ ?_
  · go_simp; exact vp_alloc rfl rfl rfl
  refine ⟨_, by (simp only [Ent.val]; go_simp <;> exact rfl), ?_⟩
  refine Seg.step _ rfl ⟨by rfl, fun U hU => ?_⟩ ?_
  · go_simp; exact vp_alloc rfl rfl rfl
  refine ⟨_, by (simp only [Ent.val]; go_simp <;> exact rfl), ?_⟩
  refine Seg.step _ rfl (Or.inl ⟨by rfl, fun U hU => vp_quiet (by (go_simp <;> exact rfl))⟩) ⟨_, by (simp only [Ent.val]; go_simp <;> exact rfl), ?_⟩
  refine Seg.stop (fun U1 hU hk => ?_)
  have nb0 := hge 0 _ _ rfl
  have rb0 := (hk 0 _ _ rfl trivial).1.2 (by simp)
  have nb1 := hge 1 _ _ rfl
  have rb1 := (hk 1 _ _ rfl trivial).1.2 (by simp)
  have ne0_1 := hne 0 1 _ _ _ _ rfl rfl (by omega)
  clear hk hge hne
  generalize th (0 + 0) = p0_0 at *
  dsimp only at rb0
  generalize th (0 + 1) = p0_1 at *
  dsimp only at rb1
  have r_p0_0 := rb0
  clear rb0
  have n_p0_0 := nb0
  clear nb0
  have d_p0_0_p0_1 := ne0_1
  clear ne0_1
  have r_p0_1 := rb1
  clear rb1
  have n_p0_1 := nb1
  clear nb1
  have sz1 := hU.size
  have hB : Below w.heap.size w U1 := hU
  clear hU
  have sU := hB.size
  replace hB := hid hB
  have z0 := held_cell r_p0_0 0 _ rfl
  have y0 := held_cell r_p0_1 0 _ rfl
  replace r_p0_0 := hid r_p0_0
  replace r_p0_1 := hid r_p0_1
  go_wp2_with fail
  refine (rlater_any t u _ ht hu).mono ?_
  rintro e V ⟨rfl, hv⟩
  obtain rfl : U1 = V := hv.symm
  clear hv
  have hdef : deltaV t u ([a0, a1, a2, a3, a4, a5, a6, a7, a8, a9, a10, a11]) ([b0, b1, b2, b3, b4, b5, b6, b7, b8, b9, b10, b11]) = vpS (lateV t u) ++ vpS (mskF ([a0, a1, a2, a3, a4, a5, a6, a7, a8, a9, a10, a11]) ([b0, b1, b2, b3, b4, b5, b6, b7, b8, b9, b10, b11]) 12) ++ intsS ((chgF ([a0, a1, a2, a3, a4, a5, a6, a7, a8, a9, a10, a11]) ([b0, b1, b2, b3, b4, b5, b6, b7, b8, b9, b10, b11]) 12).map Prod.snd) := rfl
  have hL32 : lateV t u ≤ 4294967295 := by unfold lateV; omega
  obtain ⟨L, hL⟩ : ∃ L, lateV t u = L := ⟨_, rfl⟩
  rw [hL] at hdef hL32 ⊢
  clear hL
  obtain ⟨DV, hDV⟩ : ∃ D, deltaV t u ([a0, a1, a2, a3, a4, a5, a6, a7, a8, a9, a10, a11]) ([b0, b1, b2, b3, b4, b5, b6, b7, b8, b9, b10, b11]) = D := ⟨_, rfl⟩
  rw [hDV] at hdef
  replace hDV := hid hDV
  replace hdef := hid hdef
  have hlp := vpS_len L
  go_wp2_with fail
  refine (rvput_any L _ (by omega)).mono ?_
  rintro e V1 ⟨pa, pc, rfl, hO1, hA1⟩
  have r0 := hid (held_after hA1 r_p0_0.out)
  have r1 := hid (held_after hA1 r_p0_1.out)
  have hB1 := hid (bthen hB.out hA1)
  have hP1 := hid (hO1.base sU)
  have sV1 := hid hB1.out.size
  clear hA1 hO1 hB r_p0_0 r_p0_1 z0 y0
  go_wp2_with fail
  go_loopw [6, 7, 8] (fun mv bv ix wr => ∃ (k m q : Nat), k ≤ 12 ∧ ix = .int .i64 k ∧ mv = .int .u64 (m : Int) ∧ bv = .int .u64 (q : Int) ∧ Hid (mskF ([a0, a1, a2, a3, a4, a5, a6, a7, a8, a9, a10, a11]) ([b0, b1, b2, b3, b4, b5, b6, b7, b8, b9, b10, b11]) k = m ∧ 2 ^ k = q) ∧ After V1 wr) (fun _ _ ix _ => 12 - (intOf ix).toNat)
  case atStart => exact ⟨0, 0, 1, by omega, rfl, rfl, rfl, hid ⟨rfl, rfl⟩, After.refl _⟩
  case round =>
    obtain ⟨k, m, q, hk, rfl, rfl, rfl, hmq, hT⟩ := hrel
    by_cases hlt : (k : Int) < 12
    case pos =>
      have q0 := held_after hT r0.out
      have q1 := held_after hT r1.out
      have hk2 : k < 12 := by omega
      have ax := cells12 (.int .u32 t) a0 a1 a2 a3 a4 a5 a6 a7 a8 a9 a10 a11 k hk2
      have bx := cells12 (.int .u32 u) b0 b1 b2 b3 b4 b5 b6 b7 b8 b9 b10 b11 k hk2
      have cx : wr.cell? ⟨p0_0, 1 + k, none⟩ = some (.int .i32 ([a0, a1, a2, a3, a4, a5, a6, a7, a8, a9, a10, a11].getD k 0)) := by rw [cell_of_row wr p0_0 (1 + k) _ 65 (0, 0) q0]; exact ax
      have cy : wr.cell? ⟨p0_1, 1 + k, none⟩ = some (.int .i32 ([b0, b1, b2, b3, b4, b5, b6, b7, b8, b9, b10, b11].getD k 0)) := by rw [cell_of_row wr p0_1 (1 + k) _ 65 (0, 0) q1]; exact bx
      have h1 := mskF_lt ([a0, a1, a2, a3, a4, a5, a6, a7, a8, a9, a10, a11]) ([b0, b1, b2, b3, b4, b5, b6, b7, b8, b9, b10, b11]) k
      have hp : 2 ^ k ≤ 2048 := by have := Nat.pow_le_pow_right (show 0 < 2 by decide) (show k ≤ 11 by omega); omega
      have he := fun h => mskF_eq (a := [a0, a1, a2, a3, a4, a5, a6, a7, a8, a9, a10, a11]) (b := [b0, b1, b2, b3, b4, b5, b6, b7, b8, b9, b10, b11]) (k := k) h
      have hn := fun h => mskF_ne (a := [a0, a1, a2, a3, a4, a5, a6, a7, a8, a9, a10, a11]) (b := [b0, b1, b2, b3, b4, b5, b6, b7, b8, b9, b10, b11]) (k := k) h
      have h2k : 2 ^ (k + 1) = 2 ^ k * 2 := Nat.pow_succ 2 k
      rw [hmq.out.1] at he hn h1
      rw [hmq.out.2] at hn h1 hp h2k
      obtain ⟨x, hx⟩ : ∃ x, [b0, b1, b2, b3, b4, b5, b6, b7, b8, b9, b10, b11].getD k 0 = x := ⟨_, rfl⟩
      obtain ⟨y, hy⟩ : ∃ y, [a0, a1, a2, a3, a4, a5, a6, a7, a8, a9, a10, a11].getD k 0 = y := ⟨_, rfl⟩
      rw [hx] at cy he hn
      rw [hy] at cx he hn
      clear hx hy ax bx hmq q0 q1
      have kz : (0 : Int) ≤ k := by omega
      have wk : IntKind.i64.wrap ((k : Int) + 1) = (k : Int) + 1 := by rw [IntKind.wrap_i64]; omega
      have wq : IntKind.u64.wrap (2 * (q : Int)) = ((q * 2 : Nat) : Int) := by rw [IntKind.wrap_u64]; omega
      have wm : IntKind.u64.wrap ((m : Int) + (q : Int)) = ((m + q : Nat) : Int) := by rw [IntKind.wrap_u64]; omega
      have hk1 := hid (show k + 1 ≤ 12 by omega)
      replace hT := hid hT
      clear hk h1 hp
      by_cases hxy : x = y
      · have h9 := hid (he hxy)
        have hq1 : (y != x) = false := by simp [hxy]
        replace h2k := hid h2k
        clear he hn hxy
        go_wp2_with fail
        go_quiet (fail)
        go_wp2_with fail
        go_roundw
        case rel => exact ⟨k + 1, m, q * 2, hk1.out, by simp, rfl, rfl, hid ⟨h9.out, h2k.out⟩, below_drewN hT.out _⟩
        case measure => simp [intOf]; omega
      · have h9 := hid (hn hxy)
        have hq1 : (y != x) = true := by simp; exact fun h => hxy h.symm
        replace h2k := hid h2k
        clear he hn hxy
        go_wp2_with fail
        go_quiet (fail)
        go_wp2_with fail
        go_roundw
        case rel => exact ⟨k + 1, m + q, q * 2, hk1.out, by simp, rfl, rfl, hid ⟨h9.out, h2k.out⟩, below_drewN hT.out _⟩
        case measure => simp [intOf]; omega
    obtain rfl : k = 12 := by omega
    have hml := mskF_lt ([a0, a1, a2, a3, a4, a5, a6, a7, a8, a9, a10, a11]) ([b0, b1, b2, b3, b4, b5, b6, b7, b8, b9, b10, b11]) 12
    rw [hmq.out.1] at hml
    have hm64 : m ≤ 18446744073709551615 := by have : (2 : Nat) ^ 12 = 4096 := rfl; omega
    have hde := hdef.out
    rw [hmq.out.1] at hde
    replace hdef := hid hde
    clear hde hmq hml hk hlt
    replace r0 := hid (held_after hT r0.out)
    replace r1 := hid (held_after hT r1.out)
    replace hP1 := hid (hP1.out.below hT)
    replace hB1 := hid (bthen hB1.out hT)
    have sZ := hB1.out.size
    have hlm := vpS_len m
    clear hT
    obtain ⟨VV, hVV⟩ : ∃ X, wr = X := ⟨_, rfl⟩
    rw [hVV] at r0 r1 hP1 hB1 sZ ⊢
    clear hVV
    go_wp2_with fail
    refine (rvput_any m _ hm64).mono ?_
    rintro e V2 ⟨pb, qc, rfl, hO2, hA2⟩
    have s0 := hid (held_after hA2 r0.out)
    have s1 := hid (held_after hA2 r1.out)
    have hB2 := hid (bthen hB1.out hA2)
    replace hP1 := hid (hP1.out.below hA2)
    have hP2 := hid hO2.slf
    have sz2 := hid hB2.out.size
    clear hA2 hO2 r0 r1 hB1
    go_wp2_with (first | (at_builtin; refine wpList_app _ rfl (.tmp 34) (.tmp 36) 22 rfl w.heap.size 5 .u8 1 bytesOf (.slice pa (vpS L).length pc) (vpS L) rfl hP1.out pb qc (vpS m) rfl hP2.out.2.2.2.2 hP2.out.2.2.2.1 (by omega) (by omega) sz2.out ?_))
    intro v9 w9 hO9 hG
    obtain ⟨ga, gc, hv9, -⟩ := hO9.sl
    subst hv9
    have t0 := hid (held_grown s0.out hG (own_ne hP1.out s0.out (by decide)))
    have t1 := hid (held_grown s1.out hG (own_ne hP1.out s1.out (by decide)))
    have hB3 := hid (hP1.out.grew hG hB2.out (Nat.le_refl _) sz2.out)
    have hll : (vpS L ++ vpS m).length ≤ 100 := by rw [List.length_append]; omega
    have hdef2 := hdef.out
    obtain ⟨LL, hLL⟩ : ∃ l, vpS L ++ vpS m = l := ⟨_, rfl⟩
    rw [hLL] at hO9 hll hdef2 ⊢
    replace hdef := hid hdef2
    replace hO9 := hid hO9
    clear hdef2 hLL hG s0 s1 hP1 hP2 hB2
    go_wp2_with fail
    go_loopw [5, 9] (fun ov ix wr => ∃ (k : Nat) (ad : Option Addr) (cp : Nat) (l : List Int), k ≤ 12 ∧ ix = .int .i64 k ∧ ov = .slice ad l.length cp ∧ Hid (l = LL ++ intsS ((chgF ([a0, a1, a2, a3, a4, a5, a6, a7, a8, a9, a10, a11]) ([b0, b1, b2, b3, b4, b5, b6, b7, b8, b9, b10, b11]) k).map Prod.snd)) ∧ l.length ≤ 100 + 10 * k ∧ Own .u8 5 wr w.heap.size (.slice ad l.length cp) l ∧ wr.heap[p0_0]? = some (.cells #[.int .u32 t, .int .i32 a0, .int .i32 a1, .int .i32 a2, .int .i32 a3, .int .i32 a4, .int .i32 a5, .int .i32 a6, .int .i32 a7, .int .i32 a8, .int .i32 a9, .int .i32 a10, .int .i32 a11] 65 (0, 0)) ∧ wr.heap[p0_1]? = some (.cells #[.int .u32 u, .int .i32 b0, .int .i32 b1, .int .i32 b2, .int .i32 b3, .int .i32 b4, .int .i32 b5, .int .i32 b6, .int .i32 b7, .int .i32 b8, .int .i32 b9, .int .i32 b10, .int .i32 b11] 65 (0, 0)) ∧ Below w.heap.size w wr) (fun _ ix _ => 12 - (intOf ix).toNat)
    case atStart => exact ⟨0, ga, gc, LL, by omega, rfl, rfl, hid (by simp [chgF, intsS]), by omega, hO9.out, t0.out, t1.out, hB3.out⟩
    case round =>
      clear hO9 t0 t1 hB3
      obtain ⟨k, ad, cp, l, hk, rfl, rfl, hl, hll9, hO, r0, r1, hB⟩ := hrel
      have sB := hB.size
      replace hO := hid hO
      replace hB := hid hB
      by_cases hlt : (k : Int) < 12
      case neg =>
        obtain rfl : k = 12 := by omega
        have h9 : l = deltaV t u ([a0, a1, a2, a3, a4, a5, a6, a7, a8, a9, a10, a11]) ([b0, b1, b2, b3, b4, b5, b6, b7, b8, b9, b10, b11]) := by rw [hl.out, hDV.out, hdef.out]
        subst h9
        clear hdef hl hDV
        clear hk
        go_wp2_with fail
        go_ret
        exact ⟨ad, cp, rfl, hO.out, hB.out⟩
      have hk2 : k < 12 := by omega
      have ax := cells12 (.int .u32 t) a0 a1 a2 a3 a4 a5 a6 a7 a8 a9 a10 a11 k hk2
      have bx := cells12 (.int .u32 u) b0 b1 b2 b3 b4 b5 b6 b7 b8 b9 b10 b11 k hk2
      have cx : wr.cell? ⟨p0_0, 1 + k, none⟩ = some (.int .i32 ([a0, a1, a2, a3, a4, a5, a6, a7, a8, a9, a10, a11].getD k 0)) := by rw [cell_of_row wr p0_0 (1 + k) _ 65 (0, 0) r0]; exact ax
      have cy : wr.cell? ⟨p0_1, 1 + k, none⟩ = some (.int .i32 ([b0, b1, b2, b3, b4, b5, b6, b7, b8, b9, b10, b11].getD k 0)) := by rw [cell_of_row wr p0_1 (1 + k) _ 65 (0, 0) r1]; exact bx
      have gx := get_bd hb.out k
      have gy := get_bd ha.out k
      have he := fun h => congrArg (fun z => LL ++ intsS (z.map Prod.snd)) (chgF_eq (a := [a0, a1, a2, a3, a4, a5, a6, a7, a8, a9, a10, a11]) (b := [b0, b1, b2, b3, b4, b5, b6, b7, b8, b9, b10, b11]) (k := k) h)
      have hn := fun h => congrArg (fun z => LL ++ intsS (z.map Prod.snd)) (chgF_ne (a := [a0, a1, a2, a3, a4, a5, a6, a7, a8, a9, a10, a11]) (b := [b0, b1, b2, b3, b4, b5, b6, b7, b8, b9, b10, b11]) (k := k) h)
      simp only [List.map_append, List.map_cons, List.map_nil, intsS_snoc, ← List.append_assoc] at hn
      rw [← hl.out] at he hn
      obtain ⟨x, hx⟩ : ∃ x, [b0, b1, b2, b3, b4, b5, b6, b7, b8, b9, b10, b11].getD k 0 = x := ⟨_, rfl⟩
      obtain ⟨y, hy⟩ : ∃ y, [a0, a1, a2, a3, a4, a5, a6, a7, a8, a9, a10, a11].getD k 0 = y := ⟨_, rfl⟩
      rw [hx] at cy bx gx he hn
      rw [hy] at cx ax gy he hn
      clear hx hy hl
      have kz : (0 : Int) ≤ k := by omega
      have wk : IntKind.i64.wrap ((k : Int) + 1) = (k : Int) + 1 := by rw [IntKind.wrap_i64]; omega
      have wx : IntKind.i64.wrap x = x := by rw [IntKind.wrap_i64]; omega
      have wy : IntKind.i64.wrap y = y := by rw [IntKind.wrap_i64]; omega
      have wd : IntKind.i64.wrap (x - y) = x - y := by rw [IntKind.wrap_i64]; omega
      have hk1 := hid (show k + 1 ≤ 12 by omega)
      clear hk
      by_cases hxy : x = y
      · have h9 := hid (he hxy).symm
        have hq1 : (y != x) = false := by simp [hxy]
        replace r0 := hid r0
        replace r1 := hid r1
        clear he hn hxy ax bx
        go_wp2_with fail
        go_quiet (fail)
        go_wp2_with fail
        go_roundw
        case rel => exact ⟨k + 1, ad, cp, l, hk1.out, by simp, rfl, h9, by omega, hO.out, r0.out, r1.out, below_drewN hB.out _⟩
        case measure => simp [intOf]; omega
      have h9 := hid (hn hxy)
      have hq1 : (y != x) = true := by simp; exact fun h => hxy h.symm
      have hz := zig_bd (x - y) (by omega) (by omega)
      obtain ⟨z, hzz⟩ : ∃ z : Nat, zigS (x - y) = z := ⟨(zigS (x - y)).toNat, by omega⟩
      have kz9 := hid (fun W => rzig_any (x - y) W (by omega) (by omega))
      have h9b := h9.out
      rw [hzz, Int.toNat_natCast] at h9b
      rw [hzz] at kz9 hz
      replace h9 := hid h9b
      have hz64 : z ≤ 18446744073709551615 := by omega
      have hzl := vpS_len z
      clear he hn hxy h9b hzz hz
      replace r0 := hid r0
      replace r1 := hid r1
      go_wp2_with fail
      go_quiet (fail)
      go_wp2_with fail
      clear cx cy
      refine (wpIn_wide (n := 9)).1 ?_
      refine wpIn_region_preR 14 2 (by simp only [List.extract_toArray, List.extract_eq_take_drop, Nat.sub_zero, List.drop_zero, List.take_succ_cons, List.take_zero]; rfl) (by kernel_rfl) rfl (by kernel_rfl) ?_
      refine wpAnyR_take 0 rfl (by kernel_rfl) (by kernel_rfl) (by kernel_rfl) (fun _ _ _ _ h => by cases h.1) ⟨_, Or.inl ⟨by rfl, fun w2 hb2 => by (go_simp; try with_reducible rfl)⟩, _, by (go_simp; try rfl), ?_⟩
      refine wpAnyR_take 1 rfl (by kernel_rfl) (by kernel_rfl) (by kernel_rfl) (fun _ _ _ _ h => by cases h.1) ⟨_, Or.inl ⟨by rfl, fun w2 hb2 => by (go_simp; try with_reducible rfl)⟩, _, by (go_simp; try rfl), ?_⟩
      refine wpAnyR_take 2 rfl (by kernel_rfl) (by kernel_rfl) (by kernel_rfl) (fun _ _ _ _ h => by cases h.1) ⟨_, Or.inl ⟨by rfl, fun w2 hb2 => by (go_simp; try with_reducible rfl)⟩, _, by (go_simp; try rfl), ?_⟩
      refine wpAnyR_take 3 rfl (by kernel_rfl) (by kernel_rfl) (by kernel_rfl) (fun _ _ _ _ h => by cases h.1) ⟨_, Or.inl ⟨by rfl, fun w2 hb2 => by (go_simp; try with_reducible rfl)⟩, _, by (go_simp; try rfl), ?_⟩
      refine wpAnyR_take 4 rfl (by kernel_rfl) (by kernel_rfl) (by kernel_rfl) (fun _ _ _ _ h => by cases h.1) ⟨_, Or.inl ⟨by rfl, fun w2 hb2 => by (have hx := (show w2.cell? ⟨p0_1, 1 + k, none⟩ = some (.int .i32 x) from by rw [cell_of_row w2 p0_1 (1 + k) _ 65 (0, 0) (held_after hb2 r1.out)]; exact bx); go_simp; try with_reducible rfl)⟩, _, by (go_simp; try rfl), ?_⟩
      refine wpAnyR_take 5 rfl (by kernel_rfl) (by kernel_rfl) (by kernel_rfl) (fun _ _ _ _ h => by cases h.1) ⟨_, Or.inl ⟨by rfl, fun w2 hb2 => by (go_simp; try with_reducible rfl)⟩, _, by (go_simp; try rfl), ?_⟩
      refine wpAnyR_take 6 rfl (by kernel_rfl) (by kernel_rfl) (by kernel_rfl) (fun _ _ _ _ h => by cases h.1) ⟨_, Or.inl ⟨by rfl, fun w2 hb2 => by (go_simp; try with_reducible rfl)⟩, _, by (go_simp; try rfl), ?_⟩
      refine wpAnyR_take 7 rfl (by kernel_rfl) (by kernel_rfl) (by kernel_rfl) (fun _ _ _ _ h => by cases h.1) ⟨_, Or.inl ⟨by rfl, fun w2 hb2 => by (go_simp; try with_reducible rfl)⟩, _, by (go_simp; try rfl), ?_⟩
      refine wpAnyR_take 8 rfl (by kernel_rfl) (by kernel_rfl) (by kernel_rfl) (fun _ _ _ _ h => by cases h.1) ⟨_, Or.inl ⟨by rfl, fun w2 hb2 => by (go_simp; try with_reducible rfl)⟩, _, by (go_simp; try rfl), ?_⟩
      refine wpAnyR_take 9 rfl (by kernel_rfl) (by kernel_rfl) (by kernel_rfl) (fun _ _ _ _ h => by cases h.1) ⟨_, Or.inl ⟨by rfl, fun w2 hb2 => by (have hx := (show w2.cell? ⟨p0_0, 1 + k, none⟩ = some (.int .i32 y) from by rw [cell_of_row w2 p0_0 (1 + k) _ 65 (0, 0) (held_after hb2 r0.out)]; exact ax); go_simp; try with_reducible rfl)⟩, _, by (go_simp; try rfl), ?_⟩
      refine wpAnyR_take 10 rfl (by kernel_rfl) (by kernel_rfl) (by kernel_rfl) (fun _ _ _ _ h => by cases h.1) ⟨_, Or.inl ⟨by rfl, fun w2 hb2 => by (go_simp; try with_reducible rfl)⟩, _, by (go_simp; try rfl), ?_⟩
      refine wpAnyR_take 11 rfl (by kernel_rfl) (by kernel_rfl) (by kernel_rfl) (fun _ _ _ _ h => by cases h.1) ⟨_, Or.inl ⟨by rfl, fun w2 hb2 => by (go_simp; try with_reducible rfl)⟩, _, by (go_simp; try rfl), ?_⟩
      refine wpAnyR_only 12 rfl (by kernel_rfl) (by rfl) (fun K hK => ?_)
      go_simp
      refine (kz9.out _).mono ?_
      rintro e Vz ⟨rfl, hvz⟩
      subst hvz
      go_simp
      refine hK _ _ ⟨After.refl _, ?_⟩
      clear hK
      refine wpAnyR_only 13 rfl (by kernel_rfl) (by rfl) (fun K hK => ?_)
      go_simp
      refine (rvput_any z _ hz64).mono ?_
      rintro e V5 ⟨pz, qz, rfl, hO5, hA5⟩
      go_simp
      refine hK _ _ ⟨hA5, ?_⟩
      clear hK
      have hAw := hid (show After wr V5 from bthen (below_drewN (Below.refl wr.heap.size wr) _) hA5)
      have hS5 := hid hO5.slf
      clear hA5 hO5
      refine wpAnyR_done (by kernel_rfl) ?_ _
      refine ⟨rfl, ?_⟩
      have q0 := hid (held_after hAw.out r0.out)
      have q1 := hid (held_after hAw.out r1.out)
      have hO6 := hid (hO.out.below hAw.out)
      have hB6 := hid (bthen hB.out hAw.out)
      have sz6 := hid hB6.out.size
      clear hAw r0 r1 hO hB
      refine Seg.onlyIn (m := 14) (k := 1) rfl (by kernel_rfl) (by rfl) (fun K hK => ?_)
      refine wpIn_of_false (Q1 := fun _ _ _ => False) (fun _ _ _ _ h => h) ?_
      refine wp_app _ (.tmp 51) (.tmp 64) 22 rfl w.heap.size 5 .u8 1 bytesOf (.slice ad l.length cp) l rfl hO6.out pz qz (vpS z) rfl hS5.out.2.2.2.2 hS5.out.2.2.2.1 (by omega) (by omega) sz6.out ?_
      intro v8 w8 hO8 hG
      obtain ⟨gb, gd, hv8, -⟩ := hO8.sl
      subst hv8
      have q0 := hid (held_grown q0.out hG (own_ne hO6.out q0.out (by decide)))
      have q1 := hid (held_grown q1.out hG (own_ne hO6.out q1.out (by decide)))
      have hB8 := hid (hO6.out.grew hG hB6.out (Nat.le_refl _) sz6.out)
      have hln : (l ++ vpS z).length ≤ 100 + 10 * (k + 1) := by rw [List.length_append]; omega
      obtain ⟨l2, hl2⟩ : ∃ l2, l ++ vpS z = l2 := ⟨_, rfl⟩
      have h92 := h9.out
      rw [hl2] at hO8 hln h92 ⊢
      replace h9 := hid h92.symm
      replace hO8 := hid hO8
      clear hG hO6 hB6 hl2 h92 hS5
      refine hK _ _ ?_
      clear hK
      refine Seg.onlyIn (m := 15) (k := 0) rfl (by kernel_rfl) (by rfl) (fun K hK => ?_)
      refine wpIn_of_false (Q1 := fun _ _ _ => False) (fun _ _ _ _ h => h) ?_
      go_simp
      refine hK _ _ ?_
      clear hK
      refine Seg.finishIn ?_ _
      go_wp2_with fail
      go_roundw
      case rel => exact ⟨k + 1, gb, gd, l2, hk1.out, by simp, rfl, h9, hln, hO8.out, q0.out, q1.out, hB8.out⟩
      case measure => simp [intOf]; omega

end Go.Proofs.Ytlfbhfmchdbnoaa

/- Package rec: reader: next, grown. -/
namespace Go.Proofs.Ytlfbhfmchdbnoaa
open Go.ChangeShapes Go.WideShapes Go.ChangeAt Go.RowKit
set_option linter.unusedVariables false
set_option linter.unusedSimpArgs false

/-- The next number, at most hi, of some bytes. -/
def nxS (bs : List Int) (at_ : Nat) (e : Int) (hi : Nat) : Nat × Nat × Int :=
  if e ≠ 0 then (0, at_, e) else if (takeS (bs.drop at_) 0 0).2.2 ≠ 0 then (0, at_, ((takeS (bs.drop at_) 0 0).2.2 : Int)) else if hi < (takeS (bs.drop at_) 0 0).1 then (0, at_, 5) else ((takeS (bs.drop at_) 0 0).1, at_ + (takeS (bs.drop at_) 0 0).2.1, 0)
/-- v, and as much as the next number says. -/
def grS (bs : List Int) (at_ : Nat) (e : Int) (v : Int) : Int × Nat × Int :=
  if (nxS bs at_ e 18446744073709551615).2.2 ≠ 0 then (0, (nxS bs at_ e 18446744073709551615).2.1, (nxS bs at_ e 18446744073709551615).2.2) else
  if zagS (nxS bs at_ e 18446744073709551615).1 = 0 ∨ 2147483647 - v < zagS (nxS bs at_ e 18446744073709551615).1 ∨ zagS (nxS bs at_ e 18446744073709551615).1 < -2147483648 - v then (0, (nxS bs at_ e 18446744073709551615).2.1, 5) else
  (v + zagS (nxS bs at_ e 18446744073709551615).1, (nxS bs at_ e 18446744073709551615).2.1, 0)
theorem nxS_bd {bs : List Int} (hz : ∀ x ∈ bs, (Lit.int .u8 x).wf = true) {at_ : Nat} {e : Int} {hi : Nat} (hat : at_ ≤ bs.length) (hh : hi ≤ 18446744073709551615) (he : 0 ≤ e ∧ e ≤ 9) : (nxS bs at_ e hi).1 ≤ hi ∧ (nxS bs at_ e hi).2.1 ≤ bs.length ∧ (0 ≤ (nxS bs at_ e hi).2.2 ∧ (nxS bs at_ e hi).2.2 ≤ 9) ∧ at_ ≤ (nxS bs at_ e hi).2.1 := by
  have h1 := takeS_err (bs.drop at_) 0 0
  have h2 := takeS_ok (bs.drop at_) (bytes_bd (fun x hx => hz x (List.mem_of_mem_drop hx)))
  rw [List.length_drop] at h2
  unfold nxS
  generalize takeS (bs.drop at_) 0 0 = q at *
  by_cases c1 : e ≠ 0
  · rw [if_pos c1]; exact ⟨by simp, hat, he, Nat.le_refl _⟩
  · rw [if_neg c1]
    by_cases c2 : q.2.2 ≠ 0
    · rw [if_pos c2]; exact ⟨by simp, hat, by dsimp only; omega, Nat.le_refl _⟩
    · rw [if_neg c2]
      have h3 := h2 (Decidable.not_not.1 c2)
      by_cases c3 : hi < q.1
      · rw [if_pos c3]; exact ⟨by simp, hat, by simp, Nat.le_refl _⟩
      · rw [if_neg c3]; exact ⟨by dsimp only; omega, by dsimp only; omega, by simp, by dsimp only; omega⟩
theorem Only.rf (p : Nat) (U : World) : Only p U U := ⟨rfl, rfl, rfl, rfl, fun _ _ => rfl⟩
theorem Only.rd {p : Nat} {U V : World} (h : Only p U.drew V) : Only p U V := ⟨h.os, h.tape, h.output, h.size, h.block⟩
theorem Only.sl {B : Nat} {w W : World} {a x : Option Addr} {len cap l c : Nat} {zs : List Int} {y z : Int} (ho : Only B w W) (h : Sl .u8 w a len cap zs) (hp : w.heap[B]? = some (.cells #[.slice x l c, .int .i64 y, .int .i64 z] 120 (0, 0))) : Sl .u8 W a len cap zs :=
  h.other hp (by intro i x hh; rcases i with _ | _ | _ | i <;> simp at hh) (fun b hb => ho.block b hb)
set_option maxRecDepth 100000 in
set_option maxHeartbeats 4000000 in
theorem next_any (B len cap at_ : Nat) (a : Option Addr) (bs : List Int) (e : Int) (hi : Nat) (w : World) (hB : w.heap[B]? = some (.cells #[.slice a len cap, .int .i64 at_, .int .i64 e] 120 (0, 0))) (hS : Sl .u8 w a len cap bs) (hz : ∀ x ∈ bs, (Lit.int .u8 x).wf = true) (hat : at_ ≤ len) (he : 0 ≤ e ∧ e ≤ 9) (hl : len ≤ 100000) (hh : hi ≤ 18446744073709551615) : Calls Try.prog 64 #[.pointer (some ⟨B, 0, none⟩), .int .u64 (hi : Int)] w fun ev w' => ev = .returned (.int .u64 (((nxS bs at_ e hi).1 : Nat) : Int)) ∧ w'.heap[B]? = some (.cells #[.slice a len cap, .int .i64 ((nxS bs at_ e hi).2.1 : Nat), .int .i64 (nxS bs at_ e hi).2.2] 120 (0, 0)) ∧ Only B w w' := by
  have hzl := hS.1
  have hcc := hS.2.1
  have hcm : cap ≤ 9223372036854775807 := Nat.le_trans hS.2.2.1 (by decide)
  obtain ⟨r, hr⟩ : ∃ r, nxS bs at_ e hi = r := ⟨_, rfl⟩
  rw [hr]
  have c0 := held_cell hB 0 _ rfl
  have c1 := held_cell hB 1 _ rfl
  have c2 := held_cell hB 2 _ rfl
  have f0 := held_free hB 0
  have f1 := held_free hB 1
  have f2 := held_free hB 2
  by_cases h0 : e = 0
  case neg =>
    have er := hid (show r = (0, at_, e) by rw [← hr]; unfold nxS; rw [if_pos h0])
    have hq : (e != 0) = true := by simp [h0]
    clear hr h0
    replace hB := hid hB
    go_enter Try.func64, Try.ntmps64
    go_wp2_with fail
    go_ret
    rw [er.out]
    exact ⟨rfl, hB.out, Only.rf _ _⟩
  subst h0
  have hr2 : r = if (takeS (bs.drop at_) 0 0).2.2 ≠ 0 then (0, at_, ((takeS (bs.drop at_) 0 0).2.2 : Int)) else if hi < (takeS (bs.drop at_) 0 0).1 then (0, at_, 5) else ((takeS (bs.drop at_) 0 0).1, at_ + (takeS (bs.drop at_) 0 0).2.1, 0) := by rw [← hr]; unfold nxS; rw [if_neg (by simp)]
  clear hr
  have h1 := takeS_err (bs.drop at_) 0 0
  have h2 := takeS_ok (bs.drop at_) (bytes_bd (fun x hx => hz x (List.mem_of_mem_drop hx)))
  rw [List.length_drop, hzl] at h2
  have kt := hid (fun (ad : Option Addr) (n c : Nat) (W : World) (h : Sl .u8 W ad n c (bs.drop at_)) (hn : n ≤ 1000000) => vtake_any ad n c (bs.drop at_) W hn h (fun x hx => hz x (List.mem_of_mem_drop hx)))
  obtain ⟨⟨qu, qn, qe⟩, hq⟩ : ∃ q, takeS (bs.drop at_) 0 0 = q := ⟨_, rfl⟩
  rw [hq] at hr2 h1 h2 kt
  dsimp only at hr2 h1 h2
  have e9 : vtakeV (qu, qn, qe) = .tuple #[.int .u64 qu, .int .i64 qn, .int .i64 qe] := rfl
  rw [e9] at kt
  clear e9 hq
  replace hr2 := hid hr2
  replace h1 := hid h1
  replace h2 := hid h2
  have rD := (show w.drew.heap[B]? = _ from hB)
  have kz : (0 : Int) ≤ at_ := by omega
  have ka : (at_ : Int) ≤ len := by omega
  go_enter Try.func64, Try.ntmps64
  go_upto_region 3 with (fail)
  by_cases hce : cap = at_
  · have hSd : Sl .u8 w.drew a (len - at_) 0 (bs.drop at_) := hS.end at_ hat hce
    rw [show len - at_ = 0 from by omega] at hSd
    have hk9 := hid (kt.out _ _ _ _ hSd (by omega))
    clear hSd hS
    subst hce
    refine wp_region_R (by kernel_rfl) ?_
    refine wpAnyR_take 0 rfl (by kernel_rfl) (by kernel_rfl) (by kernel_rfl) (fun _ _ _ _ h => h) ⟨_, Or.inl ⟨by rfl, fun w2 hb2 => by (go_simp; try with_reducible rfl)⟩, _, by (go_simp; try rfl), ?_⟩
    refine wpAnyR_take 1 rfl (by kernel_rfl) (by kernel_rfl) (by kernel_rfl) (fun _ _ _ _ h => h) ⟨_, Or.inl ⟨by rfl, fun w2 hb2 => by (go_simp; try with_reducible rfl)⟩, _, by (go_simp; try rfl), ?_⟩
    refine wpAnyR_take 2 rfl (by kernel_rfl) (by kernel_rfl) (by kernel_rfl) (fun _ _ _ _ h => h) ⟨_, Or.inl ⟨by rfl, fun w2 hb2 => by (go_simp; try with_reducible rfl)⟩, _, by (go_simp; try rfl), ?_⟩
    refine wpAnyR_take 3 rfl (by kernel_rfl) (by kernel_rfl) (by kernel_rfl) (fun _ _ _ _ h => h) ⟨_, Or.inl ⟨by rfl, fun w2 hb2 => by (have hx := held_cell (held_after hb2 rD) 0 _ rfl; go_simp; try with_reducible rfl)⟩, _, by (go_simp; try rfl), ?_⟩
    refine wpAnyR_take 4 rfl (by kernel_rfl) (by kernel_rfl) (by kernel_rfl) (fun _ _ _ _ h => h) ⟨_, Or.inl ⟨by rfl, fun w2 hb2 => by (go_simp; try with_reducible rfl)⟩, _, by (go_simp; try rfl), ?_⟩
    refine wpAnyR_take 5 rfl (by kernel_rfl) (by kernel_rfl) (by kernel_rfl) (fun _ _ _ _ h => h) ⟨_, Or.inl ⟨by rfl, fun w2 hb2 => by (go_simp; try with_reducible rfl)⟩, _, by (go_simp; try rfl), ?_⟩
    refine wpAnyR_take 6 rfl (by kernel_rfl) (by kernel_rfl) (by kernel_rfl) (fun _ _ _ _ h => h) ⟨_, Or.inl ⟨by rfl, fun w2 hb2 => by (go_simp; try with_reducible rfl)⟩, _, by (go_simp; try rfl), ?_⟩
    refine wpAnyR_take 7 rfl (by kernel_rfl) (by kernel_rfl) (by kernel_rfl) (fun _ _ _ _ h => h) ⟨_, Or.inl ⟨by rfl, fun w2 hb2 => by (have hx := held_cell (held_after hb2 rD) 1 _ rfl; go_simp; try with_reducible rfl)⟩, _, by (go_simp; try rfl), ?_⟩
    refine wpAnyR_take 8 rfl (by kernel_rfl) (by kernel_rfl) (by kernel_rfl) (fun _ _ _ _ h => h) ⟨_, Or.inl ⟨by rfl, fun w2 hb2 => by (go_simp; try with_reducible rfl)⟩, _, by (go_simp; try rfl), ?_⟩
    refine wpAnyR_only 9 rfl (by kernel_rfl) (by rfl) (fun K hK => ?_)
    go_simp
    refine hk9.out.mono ?_
    rintro ev Vt ⟨rfl, hvt⟩
    subst hvt
    go_simp
    refine hK _ _ ⟨After.refl _, ?_⟩
    clear hK
    refine wpAnyR_take 10 rfl (by kernel_rfl) (by kernel_rfl) (by kernel_rfl) (fun _ _ _ _ h => h) ⟨_, Or.inl ⟨by rfl, fun w2 hb2 => by (go_simp; try with_reducible rfl)⟩, _, by (go_simp; try rfl), ?_⟩
    refine wpAnyR_take 11 rfl (by kernel_rfl) (by kernel_rfl) (by kernel_rfl) (fun _ _ _ _ h => h) ⟨_, Or.inl ⟨by rfl, fun w2 hb2 => by (go_simp; try with_reducible rfl)⟩, _, by (go_simp; try rfl), ?_⟩
    refine wpAnyR_take 12 rfl (by kernel_rfl) (by kernel_rfl) (by kernel_rfl) (fun _ _ _ _ h => h) ⟨_, Or.inl ⟨by rfl, fun w2 hb2 => by (go_simp; try with_reducible rfl)⟩, _, by (go_simp; try rfl), ?_⟩
    refine wpAnyR_take 13 rfl (by kernel_rfl) (by kernel_rfl) (by kernel_rfl) (fun _ _ _ _ h => h) ⟨_, Or.inl ⟨by rfl, fun w2 hb2 => by (go_simp; try with_reducible rfl)⟩, _, by (go_simp; try rfl), ?_⟩
    refine wpAnyR_take 14 rfl (by kernel_rfl) (by kernel_rfl) (by kernel_rfl) (fun _ _ _ _ h => h) ⟨_, Or.inl ⟨by rfl, fun w2 hb2 => by (go_simp; try with_reducible rfl)⟩, _, by (go_simp; try rfl), ?_⟩
    refine wpAnyR_take 15 rfl (by kernel_rfl) (by kernel_rfl) (by kernel_rfl) (fun _ _ _ _ h => h) ⟨_, Or.inl ⟨by rfl, fun w2 hb2 => by (go_simp; try with_reducible rfl)⟩, _, by (go_simp; try rfl), ?_⟩
    refine wpAnyR_take 16 rfl (by kernel_rfl) (by kernel_rfl) (by kernel_rfl) (fun _ _ _ _ h => h) ⟨_, Or.inl ⟨by rfl, fun w2 hb2 => by (go_simp; try with_reducible rfl)⟩, _, by (go_simp; try rfl), ?_⟩
    refine wpAnyR_done (by kernel_rfl) ?_ _
    clear hk9 c0 c1 c2 f0 f1 f2
    have c0 := held_cell rD 0 _ rfl
    have c1 := held_cell rD 1 _ rfl
    have c2 := held_cell rD 2 _ rfl
    have f0 := held_free rD 0
    have f1 := held_free rD 1
    have f2 := held_free rD 2
    by_cases hqe : qe = 0
    case neg =>
      have er := hid (hr2.out.trans (if_pos hqe))
      have hq1 : ((qe : Int) == 0) = false := by simp [hqe]
      have hq2 : ((qe : Int) != 0) = true := by simp [hqe]
      clear hqe h1 h2 hr2
      obtain ⟨W4, hW4, ya, yO⟩ := st1 rD 2 (.int .i64 (qe : Int))
      have ya2 := hid ya
      have yO2 := hid yO.rd
      clear ya yO
      go_wp2_with fail
      go_ret
      rw [er.out]
      exact ⟨rfl, ya2.out, yO2.out⟩
    subst hqe
    have h3 := (h2.out rfl).1
    have h4 := (h2.out rfl).2.1
    omega
  · have hSd : Sl .u8 w.drew (Option.map (fun x => x.add at_) a) (len - at_) (cap - at_) (bs.drop at_) := hS.drop at_ hat
    have hk9 := hid (kt.out _ _ _ _ hSd (by omega))
    clear hSd hS
    refine wp_region_R (by kernel_rfl) ?_
    refine wpAnyR_take 0 rfl (by kernel_rfl) (by kernel_rfl) (by kernel_rfl) (fun _ _ _ _ h => h) ⟨_, Or.inl ⟨by rfl, fun w2 hb2 => by (go_simp; try with_reducible rfl)⟩, _, by (go_simp; try rfl), ?_⟩
    refine wpAnyR_take 1 rfl (by kernel_rfl) (by kernel_rfl) (by kernel_rfl) (fun _ _ _ _ h => h) ⟨_, Or.inl ⟨by rfl, fun w2 hb2 => by (go_simp; try with_reducible rfl)⟩, _, by (go_simp; try rfl), ?_⟩
    refine wpAnyR_take 2 rfl (by kernel_rfl) (by kernel_rfl) (by kernel_rfl) (fun _ _ _ _ h => h) ⟨_, Or.inl ⟨by rfl, fun w2 hb2 => by (go_simp; try with_reducible rfl)⟩, _, by (go_simp; try rfl), ?_⟩
    refine wpAnyR_take 3 rfl (by kernel_rfl) (by kernel_rfl) (by kernel_rfl) (fun _ _ _ _ h => h) ⟨_, Or.inl ⟨by rfl, fun w2 hb2 => by (have hx := held_cell (held_after hb2 rD) 0 _ rfl; go_simp; try with_reducible rfl)⟩, _, by (go_simp; try rfl), ?_⟩
    refine wpAnyR_take 4 rfl (by kernel_rfl) (by kernel_rfl) (by kernel_rfl) (fun _ _ _ _ h => h) ⟨_, Or.inl ⟨by rfl, fun w2 hb2 => by (go_simp; try with_reducible rfl)⟩, _, by (go_simp; try rfl), ?_⟩
    refine wpAnyR_take 5 rfl (by kernel_rfl) (by kernel_rfl) (by kernel_rfl) (fun _ _ _ _ h => h) ⟨_, Or.inl ⟨by rfl, fun w2 hb2 => by (go_simp; try with_reducible rfl)⟩, _, by (go_simp; try rfl), ?_⟩
    refine wpAnyR_take 6 rfl (by kernel_rfl) (by kernel_rfl) (by kernel_rfl) (fun _ _ _ _ h => h) ⟨_, Or.inl ⟨by rfl, fun w2 hb2 => by (go_simp; try with_reducible rfl)⟩, _, by (go_simp; try rfl), ?_⟩
    refine wpAnyR_take 7 rfl (by kernel_rfl) (by kernel_rfl) (by kernel_rfl) (fun _ _ _ _ h => h) ⟨_, Or.inl ⟨by rfl, fun w2 hb2 => by (have hx := held_cell (held_after hb2 rD) 1 _ rfl; go_simp; try with_reducible rfl)⟩, _, by (go_simp; try rfl), ?_⟩
    refine wpAnyR_take 8 rfl (by kernel_rfl) (by kernel_rfl) (by kernel_rfl) (fun _ _ _ _ h => h) ⟨_, Or.inl ⟨by rfl, fun w2 hb2 => by (go_simp; try with_reducible rfl)⟩, _, by (go_simp; try rfl), ?_⟩
    refine wpAnyR_only 9 rfl (by kernel_rfl) (by rfl) (fun K hK => ?_)
    go_simp
    refine hk9.out.mono ?_
    rintro ev Vt ⟨rfl, hvt⟩
    subst hvt
    go_simp
    refine hK _ _ ⟨After.refl _, ?_⟩
    clear hK
    refine wpAnyR_take 10 rfl (by kernel_rfl) (by kernel_rfl) (by kernel_rfl) (fun _ _ _ _ h => h) ⟨_, Or.inl ⟨by rfl, fun w2 hb2 => by (go_simp; try with_reducible rfl)⟩, _, by (go_simp; try rfl), ?_⟩
    refine wpAnyR_take 11 rfl (by kernel_rfl) (by kernel_rfl) (by kernel_rfl) (fun _ _ _ _ h => h) ⟨_, Or.inl ⟨by rfl, fun w2 hb2 => by (go_simp; try with_reducible rfl)⟩, _, by (go_simp; try rfl), ?_⟩
    refine wpAnyR_take 12 rfl (by kernel_rfl) (by kernel_rfl) (by kernel_rfl) (fun _ _ _ _ h => h) ⟨_, Or.inl ⟨by rfl, fun w2 hb2 => by (go_simp; try with_reducible rfl)⟩, _, by (go_simp; try rfl), ?_⟩
    refine wpAnyR_take 13 rfl (by kernel_rfl) (by kernel_rfl) (by kernel_rfl) (fun _ _ _ _ h => h) ⟨_, Or.inl ⟨by rfl, fun w2 hb2 => by (go_simp; try with_reducible rfl)⟩, _, by (go_simp; try rfl), ?_⟩
    refine wpAnyR_take 14 rfl (by kernel_rfl) (by kernel_rfl) (by kernel_rfl) (fun _ _ _ _ h => h) ⟨_, Or.inl ⟨by rfl, fun w2 hb2 => by (go_simp; try with_reducible rfl)⟩, _, by (go_simp; try rfl), ?_⟩
    refine wpAnyR_take 15 rfl (by kernel_rfl) (by kernel_rfl) (by kernel_rfl) (fun _ _ _ _ h => h) ⟨_, Or.inl ⟨by rfl, fun w2 hb2 => by (go_simp; try with_reducible rfl)⟩, _, by (go_simp; try rfl), ?_⟩
    refine wpAnyR_take 16 rfl (by kernel_rfl) (by kernel_rfl) (by kernel_rfl) (fun _ _ _ _ h => h) ⟨_, Or.inl ⟨by rfl, fun w2 hb2 => by (go_simp; try with_reducible rfl)⟩, _, by (go_simp; try rfl), ?_⟩
    refine wpAnyR_done (by kernel_rfl) ?_ _
    clear hk9 c0 c1 c2 f0 f1 f2
    have c0 := held_cell rD 0 _ rfl
    have c1 := held_cell rD 1 _ rfl
    have c2 := held_cell rD 2 _ rfl
    have f0 := held_free rD 0
    have f1 := held_free rD 1
    have f2 := held_free rD 2
    by_cases hqe : qe = 0
    case neg =>
      have er := hid (hr2.out.trans (if_pos hqe))
      have hq1 : ((qe : Int) == 0) = false := by simp [hqe]
      have hq2 : ((qe : Int) != 0) = true := by simp [hqe]
      clear hqe h1 h2 hr2
      obtain ⟨W4, hW4, ya, yO⟩ := st1 rD 2 (.int .i64 (qe : Int))
      have ya2 := hid ya
      have yO2 := hid yO.rd
      clear ya yO
      go_wp2_with fail
      go_ret
      rw [er.out]
      exact ⟨rfl, ya2.out, yO2.out⟩
    subst hqe
    obtain ⟨h3, h4, h5⟩ : 1 ≤ qn ∧ qn ≤ len - at_ ∧ qu ≤ 18446744073709551615 := ⟨(h2.out rfl).1, (h2.out rfl).2.1, (h2.out rfl).2.2.1⟩
    have hr3 := hr2.out.trans (if_neg (by simp))
    clear hr2 h1 h2
    by_cases hgt : (hi : Int) < (qu : Int)
    case pos =>
      have er := hid (hr3.trans (if_pos (by omega)))
      clear hr3
      obtain ⟨W4, hW4, ya, yO⟩ := st1 rD 2 (.int .i64 5)
      have ya2 := hid ya
      have yO2 := hid yO.rd
      clear ya yO
      go_wp2_with fail
      go_ret
      rw [er.out]
      exact ⟨rfl, ya2.out, yO2.out⟩
    have er := hid (hr3.trans (if_neg (by omega)))
    have wa : IntKind.i64.wrap ((at_ : Int) + (qn : Int)) = (at_ : Int) + (qn : Int) := by rw [IntKind.wrap_i64]; omega
    have e2 := hid (show ((at_ + qn : Nat) : Int) = (at_ : Int) + (qn : Int) by omega)
    clear hr3
    obtain ⟨W4, hW4, ya, yO⟩ := st1 rD 1 (.int .i64 ((at_ : Int) + (qn : Int)))
    have ya2 := hid ya
    have yO2 := hid yO.rd
    clear ya yO
    go_wp2_with fail
    go_ret
    rw [er.out]
    refine ⟨rfl, ?_, yO2.out⟩
    dsimp only
    rw [e2.out]
    exact ya2.out
set_option maxRecDepth 100000 in
set_option maxHeartbeats 4000000 in
theorem grown_any (B len cap at_ : Nat) (a : Option Addr) (bs : List Int) (e : Int) (v : Int) (w : World) (hB : w.heap[B]? = some (.cells #[.slice a len cap, .int .i64 at_, .int .i64 e] 120 (0, 0))) (hS : Sl .u8 w a len cap bs) (hz : ∀ x ∈ bs, (Lit.int .u8 x).wf = true) (hat : at_ ≤ len) (he : 0 ≤ e ∧ e ≤ 9) (hl : len ≤ 100000) (hv : -2147483648 ≤ v ∧ v ≤ 2147483647) : Calls Try.prog 65 #[.pointer (some ⟨B, 0, none⟩), .int .i32 v] w fun ev w' => ev = .returned (.int .i32 (grS bs at_ e v).1) ∧ w'.heap[B]? = some (.cells #[.slice a len cap, .int .i64 ((grS bs at_ e v).2.1 : Nat), .int .i64 (grS bs at_ e v).2.2] 120 (0, 0)) ∧ Only B w w' := by
  obtain ⟨r, hr⟩ : ∃ r, grS bs at_ e v = r := ⟨_, rfl⟩
  rw [hr]
  unfold grS at hr
  have hzl := hS.1
  have hb := nxS_bd (hi := 18446744073709551615) hz (by rw [hzl]; exact hat) (Nat.le_refl _) he
  rw [hzl] at hb
  have kn := hid (next_any B len cap at_ a bs e 18446744073709551615 w hB hS hz hat he hl (Nat.le_refl _))
  obtain ⟨⟨nu, na, ne⟩, hn⟩ : ∃ n, nxS bs at_ e 18446744073709551615 = n := ⟨_, rfl⟩
  rw [hn] at hr hb kn
  dsimp only at hr hb kn
  clear hn hB hS
  have hzb := zag_bd (nu : Int) (by omega) (by omega)
  have kz := hid (fun W => zag_any (nu : Int) W (by omega) (by omega))
  obtain ⟨d, hd⟩ : ∃ d, zagS (nu : Int) = d := ⟨_, rfl⟩
  rw [hd] at hr hzb kz
  clear hd
  have wv : IntKind.i64.wrap v = v := by rw [IntKind.wrap_i64]; omega
  have w1 : IntKind.i64.wrap (2147483647 - v) = 2147483647 - v := by rw [IntKind.wrap_i64]; omega
  have w2 : IntKind.i64.wrap (-2147483648 - v) = -2147483648 - v := by rw [IntKind.wrap_i64]; omega
  replace hr := hid hr
  go_enter Try.func65, Try.ntmps65
  go_wp2_with fail
  refine kn.out.mono ?_
  rintro ev V ⟨rfl, rB, hO⟩
  clear kn
  go_wp2_with fail
  refine (kz.out _).mono ?_
  rintro ev V2 ⟨rfl, hv2⟩
  obtain rfl : V = V2 := hv2.symm
  clear hv2 kz
  have c0 := held_cell rB 0 _ rfl
  have c1 := held_cell rB 1 _ rfl
  have c2 := held_cell rB 2 _ rfl
  have f0 := held_free rB 0
  have f1 := held_free rB 1
  have f2 := held_free rB 2
  by_cases h0 : ne = 0
  case neg =>
    have er := hid (hr.out.symm.trans (if_pos h0))
    have hq : (ne != 0) = true := by simp [h0]
    clear hr h0
    replace rB := hid rB
    replace hO := hid hO
    go_wp2_with fail
    go_ret
    rw [er.out]
    exact ⟨rfl, rB.out, hO.out⟩
  subst h0
  have hr3 := hr.out.symm.trans (if_neg (by simp))
  clear hr
  by_cases d0 : d = 0
  case pos =>
    have er := hid (hr3.trans (if_pos (Or.inl d0)))
    have hq : (d == 0) = true := by simp [d0]
    obtain ⟨W4, hW4, ya, yO⟩ := st1 rB 2 (.int .i64 5)
    have ya2 := hid ya
    have yO2 := hid (hO.then yO)
    clear ya yO hr3 rB hO
    go_wp2_with fail
    go_ret
    rw [er.out]
    exact ⟨rfl, ya2.out, yO2.out⟩
  have hq : (d == 0) = false := by simp [d0]
  by_cases d1 : 2147483647 - v < d
  case pos =>
    have er := hid (hr3.trans (if_pos (Or.inr (Or.inl d1))))
    clear d0
    obtain ⟨W4, hW4, ya, yO⟩ := st1 rB 2 (.int .i64 5)
    have ya2 := hid ya
    have yO2 := hid (hO.then yO)
    clear ya yO hr3 rB hO
    go_wp2_with fail
    go_ret
    rw [er.out]
    exact ⟨rfl, ya2.out, yO2.out⟩
  by_cases d2 : d < -2147483648 - v
  case pos =>
    have er := hid (hr3.trans (if_pos (Or.inr (Or.inr d2))))
    clear d0
    obtain ⟨W4, hW4, ya, yO⟩ := st1 rB 2 (.int .i64 5)
    have ya2 := hid ya
    have yO2 := hid (hO.then yO)
    clear ya yO hr3 rB hO
    go_wp2_with fail
    go_ret
    rw [er.out]
    exact ⟨rfl, ya2.out, yO2.out⟩
  have er := hid (hr3.trans (if_neg (by omega)))
  have w3 : IntKind.i64.wrap (v + d) = v + d := by rw [IntKind.wrap_i64]; omega
  have w4 : IntKind.i32.wrap (v + d) = v + d := by rw [IntKind.wrap_i32]; omega
  clear hr3 d0
  replace rB := hid rB
  replace hO := hid hO
  go_wp2_with fail
  go_ret
  rw [er.out]
  exact ⟨rfl, rB.out, hO.out⟩

end Go.Proofs.Ytlfbhfmchdbnoaa
