/- Package block: the papers' entries. -/
import Derived.Test.YtkpncailoekjpaaBlk2
import Derived.Deep.DeepCutAuto
namespace Go.Proofs.Ytkpncailoekjpaa
open Go.ChangeShapes Go.WideShapes Go.ChangeAt Go.RowKit
set_option linter.unusedVariables false
set_option linter.unusedSimpArgs false

theorem Own.kept2 {k : IntKind} {E T : TypeId} {w W : World} {base p : Nat} {v : Value} {zs : List Int} {c : Array Value} {f : Nat × Nat} (h : Own k E w base v zs) (hp : w.heap[p]? = some (.cells c T f)) (hT : T ≠ E) (ho : Only p w W) : Own k E W base v zs :=
  World.ownsRow.kept (w' := W) (row := some p) h ⟨ho.os, ho.tape, ho.output, by rw [ho.size]; exact Nat.le_refl _, fun k hk hne => ho.block k (fun e => hne (by rw [e]))⟩ (.inr (fun e => own_ne h hp hT e.symm))
set_option maxRecDepth 100000 in
set_option maxHeartbeats 8000000 in
theorem rentries_any (a : Option Addr) (cap : Nat) (l : List En) (w : World) (hE : Els w 14 a l.length cap (entsV l)) (h100 : l.length ≤ 1000) (hl : ∀ x ∈ l, EnOk x) : Calls Try.prog 32 #[.slice a l.length cap] w (BytesOk w (entS (0, zer12) l)) := by
  have hall := hid (show entS (0, zer12) (l.take l.length) = entS (0, zer12) l from by rw [List.take_length])
  obtain ⟨G, hG⟩ : ∃ g, entS (0, zer12) l = g := ⟨_, rfl⟩
  rw [hG] at hall ⊢
  clear hG
  replace hl := hid hl
  replace hE := hid hE
  go_enter Try.func32, Try.ntmps32
  go_upto_region 2 with (fail)
  apply wp_region_seg0 (w := w) (S := [.q [], .al 2, .st 1 []]) (E := [.q0 _, .al ((fun p => .pointer (some ⟨p, 0, none⟩)), _) 2, .s0 1 (.cells _ _)]) rfl (by kernel_rfl) rfl rfl
  intro th hge hne
  refine Seg.step _ rfl (Or.inl ⟨by rfl, fun U hU => vp_quiet (by (go_simp <;> exact rfl))⟩) ⟨_, by (simp only [Ent.val]; go_simp <;> exact rfl), ?_⟩
  refine Seg.step _ rfl ⟨by rfl, fun U hU => ?_⟩ ?_
  · go_simp; exact vp_alloc rfl rfl rfl
  refine ⟨_, by (simp only [Ent.val]; go_simp <;> exact rfl), ?_⟩
  refine Seg.step _ rfl ⟨by rfl, fun U z k hz hU hc => ?_⟩ ?_
  · have hz2 := Option.some.inj hz
    cases hz2; clear hz
    exact vp_store_agg _ _ _ rfl hc rfl rfl (by kernel_rfl) rfl (by rfl)
  refine ⟨_, by (simp only [Ent.val]; go_simp <;> exact rfl), ?_⟩
  refine Seg.stop (fun U1 hU hk => ?_)
  have nb1 := hge 1 _ _ rfl
  have rb1 := (hk 1 _ 2 rfl trivial).1.1 trivial _ (Nat.zero_le _) rfl
  clear hk hge hne
  generalize th (0 + 1) = p2_1 at *
  simp only [Ent.obj] at rb1
  have r_p2_1 := rb1
  clear rb1
  have n_p2_1 := nb1
  clear nb1
  have sz1 := hU.size
  have hB : Below w.heap.size w U1 := hU
  clear hU
  have np := n_p2_1
  replace hB := hid hB
  have r0 := hid (show U1.heap[p2_1]? = some (.cells (recC 0 zer12) 33 (0, 0)) from r_p2_1)
  clear r_p2_1
  go_wp2_with fail
  go_loopw [3, 5] (fun ov ix wr => ∃ (k : Nat) (ad : Option Addr) (cp : Nat) (L : List Int) (T : Int) (v : List Int), k ≤ l.length ∧ ix = .int .i64 k ∧ ov = .slice ad L.length cp ∧ Hid (entS (0, zer12) (l.take k) = L) ∧ L.length ≤ 68 * k ∧ Own .u8 5 wr w.heap.size (.slice ad L.length cp) L ∧ Hid (lastR (0, zer12) (l.take k) = (T, v)) ∧ (0 ≤ T ∧ T ≤ 4294967295) ∧ Hid (v.length = 12 ∧ ∀ y ∈ v, -2147483648 ≤ y ∧ y ≤ 2147483647) ∧ wr.heap[p2_1]? = some (.cells (recC T v) 33 (0, 0)) ∧ Below w.heap.size w wr) (fun _ ix _ => l.length - (intOf ix).toNat)
  case atStart => exact ⟨0, none, 0, [], 0, zer12, by omega, rfl, rfl, hid rfl, by simp, Own.nil _ _ _ _, hid rfl, by omega, hid ⟨rfl, by intro y hy; simp [zer12] at hy; subst hy; decide⟩, r0.out, hB.out⟩
  case round =>
    clear r0 hB
    obtain ⟨k, ad, cp, L, T, v, hk, rfl, rfl, hn, hn68, hO, hla, hT, hv, r0, hB⟩ := hrel
    replace hO := hid hO
    by_cases hlt : (k : Int) < l.length
    case neg =>
      obtain rfl : k = l.length := by omega
      have e : G = L := by rw [← hn.out, hall.out]
      subst e
      clear hn hall hla hv
      replace r0 := hid r0
      replace hB := hid hB
      go_wp2_with fail
      go_ret
      exact ⟨ad, cp, rfl, hO.out, hB.out⟩
    obtain ⟨x, hx⟩ : ∃ x, l[k]? = some x := ⟨_, List.getElem?_eq_getElem (show k < l.length by omega)⟩
    have hxo := hl.out x (List.mem_of_getElem? hx)
    have hsn := hid (entS_snoc (0, zer12) (l.take k) x)
    have hls := hid (lastR_snoc (0, zer12) (l.take k) x)
    rw [← take_snocE hx] at hsn hls
    rw [hla.out, hn.out] at hsn
    have hll := layS_len (st := (T, v)) (x := x) hv.out.2 hxo
    obtain ⟨kb, u, bl⟩ := x
    obtain ⟨hu, hbl, hbb⟩ := hxo
    dsimp only at hu hbl hbb
    obtain ⟨b0, b1, b2, b3, b4, b5, b6, b7, b8, b9, b10, b11, rfl⟩ := list12 hbl
    obtain ⟨hvl, hvb⟩ := hv.out
    obtain ⟨a0, a1, a2, a3, a4, a5, a6, a7, a8, a9, a10, a11, rfl⟩ := list12 hvl
    have kL := hid (fun U => rlay_any T u a0 a1 a2 a3 a4 a5 a6 a7 a8 a9 a10 a11 b0 b1 b2 b3 b4 b5 b6 b7 b8 b9 b10 b11 kb U hT hu hvb hbb)
    have hEx := hid (entsV_at hx)
    obtain ⟨bb, off, hab, g0, g1, g2, g3, g4, g5, g6, g7, g8, g9, g10, g11, g12, g13⟩ := (hE.out.below hB).at14 hEx.out
    obtain ⟨LY, hLY⟩ : ∃ y, layS (T, [a0, a1, a2, a3, a4, a5, a6, a7, a8, a9, a10, a11]) (kb, u, [b0, b1, b2, b3, b4, b5, b6, b7, b8, b9, b10, b11]) = y := ⟨_, rfl⟩
    rw [hLY] at hsn hll kL
    clear hLY
    have hbo := hid (And.intro hbl hbb)
    have hla9 := hid (show L.length + LY.length ≤ 140737488355328 / 1 by omega)
    have hn8 := hid (show (L ++ LY).length ≤ 68 * (k + 1) by rw [List.length_append]; omega)
    clear hvl hvb hbl hbb hla hv hn hx
    replace kL := hid kL
    have kz : (0 : Int) ≤ k := by omega
    have wk : IntKind.i64.wrap ((k : Int) + 1) = (k : Int) + 1 := by rw [IntKind.wrap_i64]; omega
    have hk1 := hid (show k + 1 ≤ l.length by omega)
    have r0l : wr.heap[p2_1]? = some (.cells #[.int .u32 T, .int .i32 a0, .int .i32 a1, .int .i32 a2, .int .i32 a3, .int .i32 a4, .int .i32 a5, .int .i32 a6, .int .i32 a7, .int .i32 a8, .int .i32 a9, .int .i32 a10, .int .i32 a11] 33 (0, 0)) := r0
    have rD := hid (show wr.drew.heap[p2_1]? = _ from r0l)
    have aD := hid (show After wr wr.drew from (Below.refl _ wr).drew)
    replace hB := hid hB
    clear r0 r0l hk
    subst hab
    go_upto_region 6 with (fail)
    refine (wpIn_wide (n := 9)).1 ?_
    refine wpIn_region_preR 7 2 (by simp only [List.extract_toArray, List.extract_eq_take_drop, Nat.sub_zero, List.drop_zero, List.take_succ_cons, List.take_zero]; rfl) (by kernel_rfl) rfl (by kernel_rfl) ?_
    refine wpAnyR_take 0 rfl (by kernel_rfl) (by kernel_rfl) (by kernel_rfl) (fun _ _ _ _ h => by cases h.1) ⟨_, Or.inl ⟨by rfl, fun w2 hb2 => by (go_simp; try with_reducible rfl)⟩, _, by (go_simp; try rfl), ?_⟩
    refine wpAnyR_take 1 rfl (by kernel_rfl) (by kernel_rfl) (by kernel_rfl) (fun _ _ _ _ h => by cases h.1) ⟨_, Or.inl ⟨by rfl, fun w2 hb2 => by (have hr := held_after hb2 rD.out; have q0 := held_cell hr 0 _ rfl; have q1 := held_cell hr 1 _ rfl; have q2 := held_cell hr 2 _ rfl; have q3 := held_cell hr 3 _ rfl; have q4 := held_cell hr 4 _ rfl; have q5 := held_cell hr 5 _ rfl; have q6 := held_cell hr 6 _ rfl; have q7 := held_cell hr 7 _ rfl; have q8 := held_cell hr 8 _ rfl; have q9 := held_cell hr 9 _ rfl; have q10 := held_cell hr 10 _ rfl; have q11 := held_cell hr 11 _ rfl; have q12 := held_cell hr 12 _ rfl; go_simp; try with_reducible rfl)⟩, _, by (go_simp; try rfl), ?_⟩
    refine wpAnyR_take 2 rfl (by kernel_rfl) (by kernel_rfl) (by kernel_rfl) (fun _ _ _ _ h => by cases h.1) ⟨_, Or.inl ⟨by rfl, fun w2 hb2 => by (go_simp; try with_reducible rfl)⟩, _, by (go_simp; try rfl), ?_⟩
    refine wpAnyR_take 3 rfl (by kernel_rfl) (by kernel_rfl) (by kernel_rfl) (fun _ _ _ _ h => by cases h.1) ⟨_, Or.inl ⟨by rfl, fun w2 hb2 => by (go_simp; try with_reducible rfl)⟩, _, by (go_simp; try rfl), ?_⟩
    refine wpAnyR_take 4 rfl (by kernel_rfl) (by kernel_rfl) (by kernel_rfl) (fun _ _ _ _ h => by cases h.1) ⟨_, Or.inl ⟨by rfl, fun w2 hb2 => by (go_simp; try with_reducible rfl)⟩, _, by (go_simp; try rfl), ?_⟩
    refine wpAnyR_take 5 rfl (by kernel_rfl) (by kernel_rfl) (by kernel_rfl) (fun _ _ _ _ h => by cases h.1) ⟨_, Or.inl ⟨by rfl, fun w2 hb2 => by (have h0 := (Below.cell hb2 (World.block_lt_of_cell? wr _ g0)).trans g0; have h1 := (Below.cell hb2 (World.block_lt_of_cell? wr _ g1)).trans g1; have h2 := (Below.cell hb2 (World.block_lt_of_cell? wr _ g2)).trans g2; have h3 := (Below.cell hb2 (World.block_lt_of_cell? wr _ g3)).trans g3; have h4 := (Below.cell hb2 (World.block_lt_of_cell? wr _ g4)).trans g4; have h5 := (Below.cell hb2 (World.block_lt_of_cell? wr _ g5)).trans g5; have h6 := (Below.cell hb2 (World.block_lt_of_cell? wr _ g6)).trans g6; have h7 := (Below.cell hb2 (World.block_lt_of_cell? wr _ g7)).trans g7; have h8 := (Below.cell hb2 (World.block_lt_of_cell? wr _ g8)).trans g8; have h9 := (Below.cell hb2 (World.block_lt_of_cell? wr _ g9)).trans g9; have h10 := (Below.cell hb2 (World.block_lt_of_cell? wr _ g10)).trans g10; have h11 := (Below.cell hb2 (World.block_lt_of_cell? wr _ g11)).trans g11; have h12 := (Below.cell hb2 (World.block_lt_of_cell? wr _ g12)).trans g12; have h13 := (Below.cell hb2 (World.block_lt_of_cell? wr _ g13)).trans g13; go_simp; try with_reducible rfl)⟩, _, by (go_simp; try rfl), ?_⟩
    refine wpAnyR_only 6 rfl (by kernel_rfl) (by rfl) (fun K hK => ?_)
    go_simp
    refine (kL.out _).mono ?_
    rintro e V ⟨qa, qc, rfl, hOy, hA⟩
    have hAw := hid (bthen aD.out hA)
    have hSy := hid hOy.slf
    have rV := hid (held_after hA rD.out)
    clear hOy
    go_simp
    refine hK _ _ ⟨hA, ?_⟩
    clear hK
    clear hA
    refine wpAnyR_done (by kernel_rfl) ?_ _
    refine ⟨rfl, ?_⟩
    have hO6 := hid (hO.out.below hAw.out)
    have hB6 := hid (bthen hB.out hAw.out)
    have sz6 := hid hB6.out.size
    clear hAw hO hB rD aD kL g0 g1 g2 g3 g4 g5 g6 g7 g8 g9 g10 g11 g12 g13
    refine Seg.onlyIn (m := 7) (k := 1) rfl (by kernel_rfl) (by rfl) (fun K hK => ?_)
    refine wpIn_of_false (Q1 := fun _ _ _ => False) (fun _ _ _ _ h => h) ?_
    refine wp_app _ (.tmp 13) (.tmp 19) 29 rfl w.heap.size 5 .u8 1 bytesOf (.slice ad L.length cp) L rfl hO6.out qa qc LY rfl hSy.out.2.2.2.2 hSy.out.2.2.2.1 hla9.out (by omega) sz6.out ?_
    intro v8 w8 hO8 hG
    obtain ⟨gb, gd, hv8, -⟩ := hO8.sl
    subst hv8
    have r8 := held_grown rV.out hG (own_ne hO6.out rV.out (by decide))
    have hB8 := hO6.out.grew hG hB6.out (Nat.le_refl _) sz6.out
    obtain ⟨ba, oa, hab, g0, g1, g2, g3, g4, g5, g6, g7, g8, g9, g10, g11, g12, g13⟩ := (hE.out.below hB8).at14 hEx.out
    cases hab
    obtain ⟨L2, hL2⟩ : ∃ z, L ++ LY = z := ⟨_, rfl⟩
    have hsn2 := hsn.out
    have hn82 := hn8.out
    rw [hL2] at hO8 hsn2 hn82 ⊢
    replace hsn := hid hsn2
    replace hn8 := hid hn82
    clear hsn2 hn82 hL2 hG hO6 hB6 rV hSy
    refine hK _ _ ?_
    clear hK
    refine Seg.onlyIn (m := 8) (k := 0) rfl (by kernel_rfl) (by rfl) (fun K hK => ?_)
    refine wpIn_of_false (Q1 := fun _ _ _ => False) (fun _ _ _ _ h => h) ?_
    go_simp
    refine hK _ _ ?_
    clear hK
    refine Seg.finishIn ?_ _
    have y0 := held_cell r8 0 _ rfl
    have y1 := held_cell r8 1 _ rfl
    have y2 := held_cell r8 2 _ rfl
    have y3 := held_cell r8 3 _ rfl
    have y4 := held_cell r8 4 _ rfl
    have y5 := held_cell r8 5 _ rfl
    have y6 := held_cell r8 6 _ rfl
    have y7 := held_cell r8 7 _ rfl
    have y8 := held_cell r8 8 _ rfl
    have y9 := held_cell r8 9 _ rfl
    have y10 := held_cell r8 10 _ rfl
    have y11 := held_cell r8 11 _ rfl
    have y12 := held_cell r8 12 _ rfl
    have f0 := held_free r8 0
    have f1 := held_free r8 1
    have f2 := held_free r8 2
    have f3 := held_free r8 3
    have f4 := held_free r8 4
    have f5 := held_free r8 5
    have f6 := held_free r8 6
    have f7 := held_free r8 7
    have f8 := held_free r8 8
    have f9 := held_free r8 9
    have f10 := held_free r8 10
    have f11 := held_free r8 11
    have f12 := held_free r8 12
    obtain ⟨W4, hW4, ya, yO⟩ := st13 r8 (.int .u32 u) (.int .i32 b0) (.int .i32 b1) (.int .i32 b2) (.int .i32 b3) (.int .i32 b4) (.int .i32 b5) (.int .i32 b6) (.int .i32 b7) (.int .i32 b8) (.int .i32 b9) (.int .i32 b10) (.int .i32 b11)
    have ya2 := hid (show W4.heap[p2_1]? = some (.cells (recC u [b0, b1, b2, b3, b4, b5, b6, b7, b8, b9, b10, b11]) 33 (0, 0)) from ya)
    have hB4 := hid (belowS hB8 yO np)
    have hO4 := hid (hO8.kept2 r8 (by decide) yO)
    clear ya yO hO8 hB8 r8
    go_wp2_with fail
    go_roundw
    case rel => exact ⟨k + 1, gb, gd, L2, u, [b0, b1, b2, b3, b4, b5, b6, b7, b8, b9, b10, b11], hk1.out, by simp, rfl, hsn, hn8.out, hO4.out, hls, hu, hbo, ya2.out, hB4.out⟩
    case measure => simp [intOf]; omega

end Go.Proofs.Ytkpncailoekjpaa
