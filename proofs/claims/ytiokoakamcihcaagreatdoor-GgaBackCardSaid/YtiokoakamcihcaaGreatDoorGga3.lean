/- Package gga: what is put. -/
import Derived.Test.YtiokoakamcihcaaGreatDoorGga
import Derived.Deep.DeepCutAuto
namespace Go.Proofs.YtiokoakamcihcaaGreatDoor
open Go.ChangeShapes Go.WideShapes Go.ChangeAt Go.RowKit
set_option linter.unusedVariables false
set_option linter.unusedSimpArgs false

theorem PenIn.below {w w2 : World} {base B : Nat} {e : Int} {L : List ByteArray} (h : PenIn w base B e L) (hA : After w w2) : PenIn w2 base B e L := h.aft hA
theorem RowW.below {w w2 : World} {base B : Nat} {e : Int} {L : List ByteArray} (h : RowW w base B e L) (hA : After w w2) : RowW w2 base B e L := h.aft hA
/-- The first error of what is written, and the fields. -/
def fE (l : List (List ByteArray × Int)) : Int := l.foldl (fun e x => kp e x.2) 0
def fL (l : List (List ByteArray × Int)) : List ByteArray := l.flatMap (·.1)
/-- What a fix's fields are. -/
def ggI (T : ByteArray) (k : Int) (ai : Bool) (an : Int) (oi : Bool) (on q : Int) (n1i : Bool) (n1n : Int) (n2i : Bool) (n2n : Int) (n3i : Bool) (n3n : Int) (n4i : Bool) (n4n : Int) (n5i : Bool) (n5n : Int) (n6i : Bool) (n6n : Int) : List (List ByteArray × Int) := [([T], k), ([nb (angD ai an true).1, nb (angD ai an true).2.1], (angD ai an true).2.2), ([nb (angD oi on false).1, nb (angD oi on false).2.1], (angD oi on false).2.2), ([nb (dgP q 0 8).1], (dgP q 0 8).2), ([nb (putD n1i n1n 1 2 0 0 99).1], (putD n1i n1n 1 2 0 0 99).2), ([nb (putD n2i n2n 1 3 2 0 99999).1], (putD n2i n2n 1 3 2 0 99999).2), ([nb (putD n3i n3n 1 6 1 (-9999999) 9999999).1, (if n3i = true then (⟨#[77]⟩ : ByteArray) else ⟨#[]⟩)], (putD n3i n3n 1 6 1 (-9999999) 9999999).2), ([nb (putD n4i n4n 1 4 1 (-99999) 99999).1, (if n4i = true then (⟨#[77]⟩ : ByteArray) else ⟨#[]⟩)], (putD n4i n4n 1 4 1 (-99999) 99999).2), ([nb (putD n5i n5n 1 4 1 0 99999).1], (putD n5i n5n 1 4 1 0 99999).2), ([nb (putD n6i n6n 1 4 0 0 1023).1], (putD n6i n6n 1 4 0 0 1023).2)]
set_option maxRecDepth 100000 in
set_option maxHeartbeats 16000000 in
theorem gput_any (tb : Bool) (tho tmi tse tce : Int) (ai : Bool) (an : Int) (oi : Bool) (on q : Int) (n1i : Bool) (n1n : Int) (n2i : Bool) (n2n : Int) (n3i : Bool) (n3n : Int) (n4i : Bool) (n4n : Int) (n5i : Bool) (n5n : Int) (n6i : Bool) (n6n : Int) (T : ByteArray) (k : Int) (hV : putV tb tho tmi tse tce = .tuple #[.string T, .int .i64 k]) (w : World) (bb : (-9223372036854775808 ≤ an ∧ an ≤ 9223372036854775807) ∧ (-9223372036854775808 ≤ on ∧ on ≤ 9223372036854775807) ∧ (-9223372036854775808 ≤ n1n ∧ n1n ≤ 9223372036854775807) ∧ (-9223372036854775808 ≤ n2n ∧ n2n ≤ 9223372036854775807) ∧ (-9223372036854775808 ≤ n3n ∧ n3n ≤ 9223372036854775807) ∧ (-9223372036854775808 ≤ n4n ∧ n4n ≤ 9223372036854775807) ∧ (-9223372036854775808 ≤ n5n ∧ n5n ≤ 9223372036854775807) ∧ (-9223372036854775808 ≤ n6n ∧ n6n ≤ 9223372036854775807)) (hT : Tab w) : Calls Tryz.prog 6 #[.agg #[.bool tb, .int .i64 tho, .int .i64 tmi, .int .i64 tse, .int .i64 tce, .bool ai, .int .i64 an, .bool oi, .int .i64 on, .int .i64 q, .bool n1i, .int .i64 n1n, .bool n2i, .int .i64 n2n, .bool n3i, .int .i64 n3n, .bool n4i, .int .i64 n4n, .bool n5i, .int .i64 n5n, .bool n6i, .int .i64 n6n]] w fun r w' => DnOk w (fE (ggI T k ai an oi on q n1i n1n n2i n2n n3i n3n n4i n4n n5i n5n n6i n6n)) (fL (ggI T k ai an oi on q n1i n1n n2i n2n n3i n3n n4i n4n n5i n5n n6i n6n)) r w' := by
  obtain ⟨ban, bon, bn1, bn2, bn3, bn4, bn5, bn6⟩ := bb
  replace ban := hid ban
  replace bon := hid bon
  replace bn1 := hid bn1
  replace bn2 := hid bn2
  replace bn3 := hid bn3
  replace bn4 := hid bn4
  replace bn5 := hid bn5
  replace bn6 := hid bn6
  obtain ⟨⟨P1a, P1b, x1⟩, h1⟩ : ∃ r, angD ai an true = r := ⟨_, rfl⟩
  obtain ⟨S1a, hS1a⟩ : ∃ S, nb P1a = S := ⟨_, rfl⟩
  obtain ⟨S1b, hS1b⟩ : ∃ S, nb P1b = S := ⟨_, rfl⟩
  obtain ⟨⟨P2a, P2b, x2⟩, h2⟩ : ∃ r, angD oi on false = r := ⟨_, rfl⟩
  obtain ⟨S2a, hS2a⟩ : ∃ S, nb P2a = S := ⟨_, rfl⟩
  obtain ⟨S2b, hS2b⟩ : ∃ S, nb P2b = S := ⟨_, rfl⟩
  obtain ⟨⟨P3, x3⟩, h3⟩ : ∃ r, dgP q 0 8 = r := ⟨_, rfl⟩
  obtain ⟨S3, hS3⟩ : ∃ S, nb P3 = S := ⟨_, rfl⟩
  obtain ⟨⟨P4, x4⟩, h4⟩ : ∃ r, putD n1i n1n 1 2 0 0 99 = r := ⟨_, rfl⟩
  obtain ⟨S4, hS4⟩ : ∃ S, nb P4 = S := ⟨_, rfl⟩
  obtain ⟨⟨P5, x5⟩, h5⟩ : ∃ r, putD n2i n2n 1 3 2 0 99999 = r := ⟨_, rfl⟩
  obtain ⟨S5, hS5⟩ : ∃ S, nb P5 = S := ⟨_, rfl⟩
  obtain ⟨⟨P6, x6⟩, h6⟩ : ∃ r, putD n3i n3n 1 6 1 (-9999999) 9999999 = r := ⟨_, rfl⟩
  obtain ⟨S6, hS6⟩ : ∃ S, nb P6 = S := ⟨_, rfl⟩
  obtain ⟨u6, hu6⟩ : ∃ u, (if n3i = true then (⟨#[77]⟩ : ByteArray) else ⟨#[]⟩) = u := ⟨_, rfl⟩
  obtain ⟨⟨P7, x7⟩, h7⟩ : ∃ r, putD n4i n4n 1 4 1 (-99999) 99999 = r := ⟨_, rfl⟩
  obtain ⟨S7, hS7⟩ : ∃ S, nb P7 = S := ⟨_, rfl⟩
  obtain ⟨u7, hu7⟩ : ∃ u, (if n4i = true then (⟨#[77]⟩ : ByteArray) else ⟨#[]⟩) = u := ⟨_, rfl⟩
  obtain ⟨⟨P8, x8⟩, h8⟩ : ∃ r, putD n5i n5n 1 4 1 0 99999 = r := ⟨_, rfl⟩
  obtain ⟨S8, hS8⟩ : ∃ S, nb P8 = S := ⟨_, rfl⟩
  obtain ⟨⟨P9, x9⟩, h9⟩ : ∃ r, putD n6i n6n 1 4 0 0 1023 = r := ⟨_, rfl⟩
  obtain ⟨S9, hS9⟩ : ∃ S, nb P9 = S := ⟨_, rfl⟩
  have hI : ggI T k ai an oi on q n1i n1n n2i n2n n3i n3n n4i n4n n5i n5n n6i n6n = [([T], k), ([S1a, S1b], x1), ([S2a, S2b], x2), ([S3], x3), ([S4], x4), ([S5], x5), ([S6, u6], x6), ([S7, u7], x7), ([S8], x8), ([S9], x9)] := by unfold ggI; rw [h1, h2, h3, h4, h5, h6, h7, h8, h9]; dsimp only; rw [hS1a, hS1b, hS2a, hS2b, hS3, hS4, hS5, hS6, hu6, hS7, hu7, hS8, hS9]
  rw [hI]
  clear hI
  replace h1 := hid h1
  replace h2 := hid h2
  replace h3 := hid h3
  replace h4 := hid h4
  replace h5 := hid h5
  replace h6 := hid h6
  replace h7 := hid h7
  replace h8 := hid h8
  replace h9 := hid h9
  replace hS1a := hid hS1a
  replace hS1b := hid hS1b
  replace hS2a := hid hS2a
  replace hS2b := hid hS2b
  replace hS3 := hid hS3
  replace hS4 := hid hS4
  replace hS5 := hid hS5
  replace hS6 := hid hS6
  replace hu6 := hid hu6
  replace hS7 := hid hS7
  replace hu7 := hid hu7
  replace hS8 := hid hS8
  replace hS9 := hid hS9
  have kC := hid (fun U => hV ▸ put_any tb tho tmi tse tce U)
  clear hV
  replace hT := hid hT
  go_enter Tryz.func6, Tryz.ntmps6
  go_upto_region 0 with (fail)
  apply wp_region_seg0 (w := w) (S := [.al 1000, .q [], .q []]) (E := [.al ((fun p => .pointer (some ⟨p, 0, none⟩)), _) 1000, .q0 _, .q0 _]) rfl (by kernel_rfl) rfl rfl
  intro th hge hne
  refine Seg.step _ rfl ⟨by rfl, fun U hU => ?_⟩ ?_
  · go_simp; exact vp_alloc rfl rfl rfl
  refine ⟨_, by (simp only [Ent.val]; go_simp <;> exact rfl), ?_⟩
  refine Seg.step _ rfl (Or.inl ⟨by rfl, fun U hU => vp_quiet (by (go_simp <;> exact rfl))⟩) ⟨_, by (simp only [Ent.val]; go_simp <;> exact rfl), ?_⟩
  refine Seg.step _ rfl (Or.inl ⟨by rfl, fun U hU => vp_quiet (by (go_simp <;> exact rfl))⟩) ⟨_, by (simp only [Ent.val]; go_simp <;> exact rfl), ?_⟩
  refine Seg.stop (fun U1 hU hk => ?_)
  have nb0 := hge 0 _ _ rfl
  have rb0 := (hk 0 _ _ rfl trivial).1.2 (by simp)
  clear hk hge hne
  generalize th (0 + 0) = p0_0 at *
  dsimp only at rb0
  have r_p0_0 := rb0
  clear rb0
  have n_p0_0 := nb0
  clear nb0
  have sz1 := hU.size
  have hB : Below w.heap.size w U1 := hU
  clear hU
  have hlg := held_lt r_p0_0
  go_wp2_with fail
  refine (prow_any U1.heap.size _ (Nat.le_refl _)).mono ?_
  rintro r V ⟨B, rfl, hP, hA, hlB⟩
  replace hB := bthen hB hA
  replace r_p0_0 := held_after hA r_p0_0
  clear hA
  have nw := alloc_new V (.cells #[.pointer (some ⟨B, 0, none⟩)] 43)
  have hlp := hP.lt
  go_upto_region 2 with (fail)
  obtain ⟨W1, hW1⟩ : ∃ X, V.alloc (.cells #[.pointer (some ⟨B, 0, none⟩)] 43) = X := ⟨_, rfl⟩
  rw [hW1] at nw ⊢
  obtain ⟨pp, hpp⟩ : ∃ X, V.heap.size = X := ⟨_, rfl⟩
  rw [hpp] at nw ⊢
  replace hW1 := hid hW1
  have hA := nw.2.1
  have r_pp := nw.2.2
  have nep : pp ≠ B := by omega
  replace hpp := hid hpp
  clear nw
  replace hB := bthen hB hA
  replace r_p0_0 := held_after hA r_p0_0
  replace hP := hP.aft hA
  clear hA
  have neg : p0_0 ≠ B := by omega
  have hBw : w.heap.size ≤ U1.heap.size := sz1
  apply wp_region_seg (w := W1) (S := [.q [], .q [], .q [], .q [], .q [], .q [], .q [], .q [], .q [], .q [], .q []]) (E := [.q0 _, .q0 _, .q0 _, .q0 _, .q0 _, .q0 _, .q0 _, .q0 _, .q0 _, .q0 _, .q0 _]) (by kernel_rfl) rfl (by kernel_rfl) rfl rfl
  intro th hge hne
  refine Seg.step _ rfl (Or.inl ⟨by rfl, fun U hU => vp_quiet (by (go_simp <;> exact rfl))⟩) ⟨_, by (simp only [Ent.val]; go_simp <;> exact rfl), ?_⟩
  refine Seg.step _ rfl (Or.inl ⟨by rfl, fun U hU => vp_quiet (by (have h0 := held_cell (held_after hU.1 r_pp) 0 _ rfl; go_simp <;> exact rfl))⟩) ⟨_, by (simp only [Ent.val]; go_simp <;> exact rfl), ?_⟩
  refine Seg.step _ rfl (Or.inl ⟨by rfl, fun U hU => vp_quiet (by (go_simp <;> exact rfl))⟩) ⟨_, by (simp only [Ent.val]; go_simp <;> exact rfl), ?_⟩
  refine Seg.step _ rfl (Or.inl ⟨by rfl, fun U hU => vp_quiet (by (go_simp <;> exact rfl))⟩) ⟨_, by (simp only [Ent.val]; go_simp <;> exact rfl), ?_⟩
  refine Seg.step _ rfl (Or.inl ⟨by rfl, fun U hU => vp_quiet (by (have h0 := held_cell (held_after hU.1 r_pp) 0 _ rfl; go_simp <;> exact rfl))⟩) ⟨_, by (simp only [Ent.val]; go_simp <;> exact rfl), ?_⟩
  refine Seg.step _ rfl (Or.inl ⟨by rfl, fun U hU => vp_quiet (by (go_simp <;> exact rfl))⟩) ⟨_, by (simp only [Ent.val]; go_simp <;> exact rfl), ?_⟩
  refine Seg.step _ rfl (Or.inl ⟨by rfl, fun U hU => vp_quiet (by (have h0 := held_cell (held_after hU.1 r_pp) 0 _ rfl; go_simp <;> exact rfl))⟩) ⟨_, by (simp only [Ent.val]; go_simp <;> exact rfl), ?_⟩
  refine Seg.step _ rfl (Or.inl ⟨by rfl, fun U hU => vp_quiet (by (go_simp <;> exact rfl))⟩) ⟨_, by (simp only [Ent.val]; go_simp <;> exact rfl), ?_⟩
  refine Seg.step _ rfl (Or.inl ⟨by rfl, fun U hU => vp_quiet (by (go_simp <;> exact rfl))⟩) ⟨_, by (simp only [Ent.val]; go_simp <;> exact rfl), ?_⟩
  refine Seg.step _ rfl (Or.inl ⟨by rfl, fun U hU => vp_quiet (by (go_simp <;> exact rfl))⟩) ⟨_, by (simp only [Ent.val]; go_simp <;> exact rfl), ?_⟩
  refine Seg.step _ rfl (Or.inl ⟨by rfl, fun U hU => vp_quiet (by (go_simp <;> exact rfl))⟩) ⟨_, by (simp only [Ent.val]; go_simp <;> exact rfl), ?_⟩
  refine Seg.stop (fun U2 hU hk => ?_)
  clear hk hge hne
  replace r_p0_0 := held_after hU r_p0_0
  replace r_pp := held_after hU r_pp
  replace hP := hP.below hU
  have sz2 := hU.size
  replace hB := bthen hB hU
  clear hU
  go_upto_region 3 with (fail)
  apply wp_region_part (w := U2) (S := [.q [], .q [], .q [], .q [], .q [], .q [], .q []]) (E := [.q0 _, .q0 _, .q0 _, .q0 _, .c0 _, .q0 _, .q0 _]) 7 1 (by kernel_rfl) rfl (by kernel_rfl) rfl rfl rfl
  intro th hge hne
  refine Seg.step _ rfl (Or.inl ⟨by rfl, fun U hU => vp_quiet (by (go_simp <;> exact rfl))⟩) ⟨_, by (simp only [Ent.val]; go_simp <;> exact rfl), ?_⟩
  refine Seg.step _ rfl (Or.inl ⟨by rfl, fun U hU => vp_quiet (by (have h0 := held_cell (held_after hU.1 r_pp) 0 _ rfl; go_simp <;> exact rfl))⟩) ⟨_, by (simp only [Ent.val]; go_simp <;> exact rfl), ?_⟩
  refine Seg.step _ rfl (Or.inl ⟨by rfl, fun U hU => vp_quiet (by (go_simp <;> exact rfl))⟩) ⟨_, by (simp only [Ent.val]; go_simp <;> exact rfl), ?_⟩
  refine Seg.step _ rfl (Or.inl ⟨by rfl, fun U hU => vp_quiet (by (have h0 := held_cell (held_after hU.1 r_p0_0) 0 _ rfl; have h1 := held_cell (held_after hU.1 r_p0_0) 1 _ rfl; have h2 := held_cell (held_after hU.1 r_p0_0) 2 _ rfl; have h3 := held_cell (held_after hU.1 r_p0_0) 3 _ rfl; have h4 := held_cell (held_after hU.1 r_p0_0) 4 _ rfl; go_simp <;> exact rfl))⟩) ⟨_, by (simp only [Ent.val]; go_simp <;> exact rfl), ?_⟩
  refine Seg.step _ rfl (Or.inl ⟨by rfl, fun U hU => ?_⟩) ?_
  · go_simp
    refine vp_call (kC.out _)
  refine ⟨_, by (simp only [Ent.val]; go_simp <;> exact rfl), ?_⟩
  refine Seg.step _ rfl (Or.inl ⟨by rfl, fun U hU => vp_quiet (by (go_simp <;> exact rfl))⟩) ⟨_, by (simp only [Ent.val]; go_simp <;> exact rfl), ?_⟩
  refine Seg.step _ rfl (Or.inl ⟨by rfl, fun U hU => vp_quiet (by (go_simp <;> exact rfl))⟩) ⟨_, by (simp only [Ent.val]; go_simp <;> exact rfl), ?_⟩
  refine Seg.stop (fun U3 hU hk => ?_)
  clear hk hge hne
  replace r_p0_0 := held_after hU r_p0_0
  replace r_pp := held_after hU r_pp
  replace hP := hP.below hU
  have sz3 := hU.size
  replace hB := bthen hB hU
  clear hU
  have kt := hid (fun U h => ptext_any U1.heap.size B 0 k [] T U h (by simp) hlB)
  refine Seg.only (m := 7) (k := 0) rfl (by kernel_rfl) (by rfl) (fun K hK => ?_)
  go_simp
  refine (kt.out _ hP).mono ?_
  rintro r Y1 ⟨rfl, hP2, hf2⟩
  replace r_p0_0 := hP.besides hf2 r_p0_0 neg (by decide)
  replace r_pp := hP.besides hf2 r_pp nep (by decide)
  replace hB := hB.trans (hf2.below.mono (by omega))
  obtain ⟨E1, hE1⟩ : ∃ E, kp 0 k = E := ⟨_, rfl⟩
  rw [hE1] at hP2
  replace hE1 := hid hE1
  replace hP := (show PenIn Y1 U1.heap.size B E1 [T] from hP2)
  clear hP2 hf2
  refine hK _ _ (Seg.finish ?_ _)
  clear hK kt
  go_upto_region 4 with (fail)
  have c1_0 := held_cell r_p0_0 5 _ rfl
  have c1_1 := held_cell r_p0_0 6 _ rfl
  have kt := hid (fun U h ht => pang_any U1.heap.size B E1 [T] ai an true U h (by simp) hlB ban.out ht)
  rw [h1.out] at kt
  dsimp only at kt
  rw [hS1a.out, hS1b.out] at kt
  go_wp2_with fail
  refine (kt.out _ hP (hT.out.on hB)).mono ?_
  clear c1_0 c1_1 kt
  rintro r Y2 ⟨rfl, hP2, hf2⟩
  replace r_p0_0 := hP.besides hf2 r_p0_0 neg (by decide)
  replace r_pp := hP.besides hf2 r_pp nep (by decide)
  replace hB := hB.trans (hf2.below.mono (by omega))
  obtain ⟨E2, hE2⟩ : ∃ E, kp E1 x1 = E := ⟨_, rfl⟩
  rw [hE2] at hP2
  replace hE2 := hid hE2
  replace hP := (show PenIn Y2 U1.heap.size B E2 [T, S1a, S1b] from hP2)
  clear hP2 hf2
  go_upto_region 5 with (fail)
  have c2_0 := held_cell r_p0_0 7 _ rfl
  have c2_1 := held_cell r_p0_0 8 _ rfl
  have kt := hid (fun U h ht => pang_any U1.heap.size B E2 [T, S1a, S1b] oi on false U h (by simp) hlB bon.out ht)
  rw [h2.out] at kt
  dsimp only at kt
  rw [hS2a.out, hS2b.out] at kt
  go_wp2_with fail
  refine (kt.out _ hP (hT.out.on hB)).mono ?_
  clear c2_0 c2_1 kt
  rintro r Y3 ⟨rfl, hP2, hf2⟩
  replace r_p0_0 := hP.besides hf2 r_p0_0 neg (by decide)
  replace r_pp := hP.besides hf2 r_pp nep (by decide)
  replace hB := hB.trans (hf2.below.mono (by omega))
  obtain ⟨E3, hE3⟩ : ∃ E, kp E2 x2 = E := ⟨_, rfl⟩
  rw [hE3] at hP2
  replace hE3 := hid hE3
  replace hP := (show PenIn Y3 U1.heap.size B E3 [T, S1a, S1b, S2a, S2b] from hP2)
  clear hP2 hf2
  go_upto_region 6 with (fail)
  have e3_0 := held_cell r_pp 0 _ rfl
  have c3_0 := held_cell r_p0_0 9 _ rfl
  have kt := hid (fun U h => pqual_any U1.heap.size B E3 [T, S1a, S1b, S2a, S2b] q U h (by simp) hlB)
  rw [h3.out] at kt
  dsimp only at kt
  rw [hS3.out] at kt
  go_wp2_with fail
  refine (kt.out _ hP).mono ?_
  clear c3_0 e3_0 kt
  rintro r Y4 ⟨rfl, hP2, hf2⟩
  replace r_p0_0 := hP.besides hf2 r_p0_0 neg (by decide)
  replace r_pp := hP.besides hf2 r_pp nep (by decide)
  replace hB := hB.trans (hf2.below.mono (by omega))
  obtain ⟨E4, hE4⟩ : ∃ E, kp E3 x3 = E := ⟨_, rfl⟩
  rw [hE4] at hP2
  replace hE4 := hid hE4
  replace hP := (show PenIn Y4 U1.heap.size B E4 [T, S1a, S1b, S2a, S2b, S3] from hP2)
  clear hP2 hf2
  go_upto_region 7 with (fail)
  apply wp_region_part (w := Y4) (S := [.q [], .q [], .q [], .q []]) (E := [.q0 _, .q0 _, .q0 _, .c0 _]) 4 1 (by kernel_rfl) rfl (by kernel_rfl) rfl rfl rfl
  intro th hge hne
  refine Seg.step _ rfl (Or.inl ⟨by rfl, fun U hU => vp_quiet (by (go_simp <;> exact rfl))⟩) ⟨_, by (simp only [Ent.val]; go_simp <;> exact rfl), ?_⟩
  refine Seg.step _ rfl (Or.inl ⟨by rfl, fun U hU => vp_quiet (by (go_simp <;> exact rfl))⟩) ⟨_, by (simp only [Ent.val]; go_simp <;> exact rfl), ?_⟩
  refine Seg.step _ rfl (Or.inl ⟨by rfl, fun U hU => vp_quiet (by (have h0 := held_cell (held_after hU.1 r_p0_0) 10 _ rfl; have h1 := held_cell (held_after hU.1 r_p0_0) 11 _ rfl; go_simp <;> exact rfl))⟩) ⟨_, by (simp only [Ent.val]; go_simp <;> exact rfl), ?_⟩
  refine Seg.step _ rfl (Or.inl ⟨by rfl, fun U hU => ?_⟩) ?_
  · go_simp
    refine vp_call (satsCol_any _)
  refine ⟨_, by (simp only [Ent.val]; go_simp <;> exact rfl), ?_⟩
  refine Seg.stop (fun U4 hU hk => ?_)
  clear hk hge hne
  replace r_p0_0 := held_after hU r_p0_0
  replace r_pp := held_after hU r_pp
  replace hP := hP.below hU
  have sz4 := hU.size
  replace hB := bthen hB hU
  clear hU
  have kt := hid (fun U h ht => pnum_any U1.heap.size B E4 [T, S1a, S1b, S2a, S2b, S3] n1i n1n 1 2 0 0 99 U h (by simp) hlB bn1.out (by decide) ht)
  rw [h4.out] at kt
  dsimp only at kt
  rw [hS4.out] at kt
  refine Seg.only (m := 4) (k := 0) rfl (by kernel_rfl) (by rfl) (fun K hK => ?_)
  go_simp
  refine (kt.out _ hP (hT.out.on hB)).mono ?_
  rintro r Y5 ⟨rfl, hP2, hf2⟩
  replace r_p0_0 := hP.besides hf2 r_p0_0 neg (by decide)
  replace r_pp := hP.besides hf2 r_pp nep (by decide)
  replace hB := hB.trans (hf2.below.mono (by omega))
  obtain ⟨E5, hE5⟩ : ∃ E, kp E4 x4 = E := ⟨_, rfl⟩
  rw [hE5] at hP2
  replace hE5 := hid hE5
  replace hP := (show PenIn Y5 U1.heap.size B E5 [T, S1a, S1b, S2a, S2b, S3, S4] from hP2)
  clear hP2 hf2
  refine hK _ _ (Seg.finish ?_ _)
  clear hK kt
  go_upto_region 8 with (fail)
  apply wp_region_part (w := Y5) (S := [.q [], .q [], .q [], .q []]) (E := [.q0 _, .q0 _, .q0 _, .c0 _]) 4 1 (by kernel_rfl) rfl (by kernel_rfl) rfl rfl rfl
  intro th hge hne
  refine Seg.step _ rfl (Or.inl ⟨by rfl, fun U hU => vp_quiet (by (go_simp <;> exact rfl))⟩) ⟨_, by (simp only [Ent.val]; go_simp <;> exact rfl), ?_⟩
  refine Seg.step _ rfl (Or.inl ⟨by rfl, fun U hU => vp_quiet (by (go_simp <;> exact rfl))⟩) ⟨_, by (simp only [Ent.val]; go_simp <;> exact rfl), ?_⟩
  refine Seg.step _ rfl (Or.inl ⟨by rfl, fun U hU => vp_quiet (by (have h0 := held_cell (held_after hU.1 r_p0_0) 12 _ rfl; have h1 := held_cell (held_after hU.1 r_p0_0) 13 _ rfl; go_simp <;> exact rfl))⟩) ⟨_, by (simp only [Ent.val]; go_simp <;> exact rfl), ?_⟩
  refine Seg.step _ rfl (Or.inl ⟨by rfl, fun U hU => ?_⟩) ?_
  · go_simp
    refine vp_call (hdopCol_any _)
  refine ⟨_, by (simp only [Ent.val]; go_simp <;> exact rfl), ?_⟩
  refine Seg.stop (fun U5 hU hk => ?_)
  clear hk hge hne
  replace r_p0_0 := held_after hU r_p0_0
  replace r_pp := held_after hU r_pp
  replace hP := hP.below hU
  have sz5 := hU.size
  replace hB := bthen hB hU
  clear hU
  have kt := hid (fun U h ht => pnum_any U1.heap.size B E5 [T, S1a, S1b, S2a, S2b, S3, S4] n2i n2n 1 3 2 0 99999 U h (by simp) hlB bn2.out (by decide) ht)
  rw [h5.out] at kt
  dsimp only at kt
  rw [hS5.out] at kt
  refine Seg.only (m := 4) (k := 0) rfl (by kernel_rfl) (by rfl) (fun K hK => ?_)
  go_simp
  refine (kt.out _ hP (hT.out.on hB)).mono ?_
  rintro r Y6 ⟨rfl, hP2, hf2⟩
  replace r_p0_0 := hP.besides hf2 r_p0_0 neg (by decide)
  replace r_pp := hP.besides hf2 r_pp nep (by decide)
  replace hB := hB.trans (hf2.below.mono (by omega))
  obtain ⟨E6, hE6⟩ : ∃ E, kp E5 x5 = E := ⟨_, rfl⟩
  rw [hE6] at hP2
  replace hE6 := hid hE6
  replace hP := (show PenIn Y6 U1.heap.size B E6 [T, S1a, S1b, S2a, S2b, S3, S4, S5] from hP2)
  clear hP2 hf2
  refine hK _ _ (Seg.finish ?_ _)
  clear hK kt
  go_upto_region 9 with (fail)
  apply wp_region_part (w := Y6) (S := [.q [], .q [], .q [], .q []]) (E := [.q0 _, .q0 _, .q0 _, .c0 _]) 4 1 (by kernel_rfl) rfl (by kernel_rfl) rfl rfl rfl
  intro th hge hne
  refine Seg.step _ rfl (Or.inl ⟨by rfl, fun U hU => vp_quiet (by (go_simp <;> exact rfl))⟩) ⟨_, by (simp only [Ent.val]; go_simp <;> exact rfl), ?_⟩
  refine Seg.step _ rfl (Or.inl ⟨by rfl, fun U hU => vp_quiet (by (go_simp <;> exact rfl))⟩) ⟨_, by (simp only [Ent.val]; go_simp <;> exact rfl), ?_⟩
  refine Seg.step _ rfl (Or.inl ⟨by rfl, fun U hU => vp_quiet (by (have h0 := held_cell (held_after hU.1 r_p0_0) 14 _ rfl; have h1 := held_cell (held_after hU.1 r_p0_0) 15 _ rfl; go_simp <;> exact rfl))⟩) ⟨_, by (simp only [Ent.val]; go_simp <;> exact rfl), ?_⟩
  refine Seg.step _ rfl (Or.inl ⟨by rfl, fun U hU => ?_⟩) ?_
  · go_simp
    refine vp_call (altCol_any _)
  refine ⟨_, by (simp only [Ent.val]; go_simp <;> exact rfl), ?_⟩
  refine Seg.stop (fun U6 hU hk => ?_)
  clear hk hge hne
  replace r_p0_0 := held_after hU r_p0_0
  replace r_pp := held_after hU r_pp
  replace hP := hP.below hU
  have sz6 := hU.size
  replace hB := bthen hB hU
  clear hU
  have kt := hid (fun U h ht => plong_any U1.heap.size B E6 [T, S1a, S1b, S2a, S2b, S3, S4, S5] n3i n3n 1 6 1 (-9999999) 9999999 U h (by simp) hlB bn3.out (by decide) ht)
  rw [h6.out] at kt
  dsimp only at kt
  rw [hS6.out, hu6.out] at kt
  refine Seg.only (m := 4) (k := 0) rfl (by kernel_rfl) (by rfl) (fun K hK => ?_)
  go_simp
  refine (kt.out _ hP (hT.out.on hB)).mono ?_
  rintro r Y7 ⟨rfl, hP2, hf2⟩
  replace r_p0_0 := hP.besides hf2 r_p0_0 neg (by decide)
  replace r_pp := hP.besides hf2 r_pp nep (by decide)
  replace hB := hB.trans (hf2.below.mono (by omega))
  obtain ⟨E7, hE7⟩ : ∃ E, kp E6 x6 = E := ⟨_, rfl⟩
  rw [hE7] at hP2
  replace hE7 := hid hE7
  replace hP := (show PenIn Y7 U1.heap.size B E7 [T, S1a, S1b, S2a, S2b, S3, S4, S5, S6, u6] from hP2)
  clear hP2 hf2
  refine hK _ _ (Seg.finish ?_ _)
  clear hK kt
  go_upto_region 10 with (fail)
  apply wp_region_part (w := Y7) (S := [.q [], .q [], .q [], .q []]) (E := [.q0 _, .q0 _, .q0 _, .c0 _]) 4 1 (by kernel_rfl) rfl (by kernel_rfl) rfl rfl rfl
  intro th hge hne
  refine Seg.step _ rfl (Or.inl ⟨by rfl, fun U hU => vp_quiet (by (go_simp <;> exact rfl))⟩) ⟨_, by (simp only [Ent.val]; go_simp <;> exact rfl), ?_⟩
  refine Seg.step _ rfl (Or.inl ⟨by rfl, fun U hU => vp_quiet (by (go_simp <;> exact rfl))⟩) ⟨_, by (simp only [Ent.val]; go_simp <;> exact rfl), ?_⟩
  refine Seg.step _ rfl (Or.inl ⟨by rfl, fun U hU => vp_quiet (by (have h0 := held_cell (held_after hU.1 r_p0_0) 16 _ rfl; have h1 := held_cell (held_after hU.1 r_p0_0) 17 _ rfl; go_simp <;> exact rfl))⟩) ⟨_, by (simp only [Ent.val]; go_simp <;> exact rfl), ?_⟩
  refine Seg.step _ rfl (Or.inl ⟨by rfl, fun U hU => ?_⟩) ?_
  · go_simp
    refine vp_call (geoidCol_any _)
  refine ⟨_, by (simp only [Ent.val]; go_simp <;> exact rfl), ?_⟩
  refine Seg.stop (fun U7 hU hk => ?_)
  clear hk hge hne
  replace r_p0_0 := held_after hU r_p0_0
  replace r_pp := held_after hU r_pp
  replace hP := hP.below hU
  have sz7 := hU.size
  replace hB := bthen hB hU
  clear hU
  have kt := hid (fun U h ht => plong_any U1.heap.size B E7 [T, S1a, S1b, S2a, S2b, S3, S4, S5, S6, u6] n4i n4n 1 4 1 (-99999) 99999 U h (by simp) hlB bn4.out (by decide) ht)
  rw [h7.out] at kt
  dsimp only at kt
  rw [hS7.out, hu7.out] at kt
  refine Seg.only (m := 4) (k := 0) rfl (by kernel_rfl) (by rfl) (fun K hK => ?_)
  go_simp
  refine (kt.out _ hP (hT.out.on hB)).mono ?_
  rintro r Y8 ⟨rfl, hP2, hf2⟩
  replace r_p0_0 := hP.besides hf2 r_p0_0 neg (by decide)
  replace r_pp := hP.besides hf2 r_pp nep (by decide)
  replace hB := hB.trans (hf2.below.mono (by omega))
  obtain ⟨E8, hE8⟩ : ∃ E, kp E7 x7 = E := ⟨_, rfl⟩
  rw [hE8] at hP2
  replace hE8 := hid hE8
  replace hP := (show PenIn Y8 U1.heap.size B E8 [T, S1a, S1b, S2a, S2b, S3, S4, S5, S6, u6, S7, u7] from hP2)
  clear hP2 hf2
  refine hK _ _ (Seg.finish ?_ _)
  clear hK kt
  go_upto_region 11 with (fail)
  apply wp_region_part (w := Y8) (S := [.q [], .q [], .q [], .q []]) (E := [.q0 _, .q0 _, .q0 _, .c0 _]) 4 1 (by kernel_rfl) rfl (by kernel_rfl) rfl rfl rfl
  intro th hge hne
  refine Seg.step _ rfl (Or.inl ⟨by rfl, fun U hU => vp_quiet (by (go_simp <;> exact rfl))⟩) ⟨_, by (simp only [Ent.val]; go_simp <;> exact rfl), ?_⟩
  refine Seg.step _ rfl (Or.inl ⟨by rfl, fun U hU => vp_quiet (by (go_simp <;> exact rfl))⟩) ⟨_, by (simp only [Ent.val]; go_simp <;> exact rfl), ?_⟩
  refine Seg.step _ rfl (Or.inl ⟨by rfl, fun U hU => vp_quiet (by (have h0 := held_cell (held_after hU.1 r_p0_0) 18 _ rfl; have h1 := held_cell (held_after hU.1 r_p0_0) 19 _ rfl; go_simp <;> exact rfl))⟩) ⟨_, by (simp only [Ent.val]; go_simp <;> exact rfl), ?_⟩
  refine Seg.step _ rfl (Or.inl ⟨by rfl, fun U hU => ?_⟩) ?_
  · go_simp
    refine vp_call (ageCol_any _)
  refine ⟨_, by (simp only [Ent.val]; go_simp <;> exact rfl), ?_⟩
  refine Seg.stop (fun U8 hU hk => ?_)
  clear hk hge hne
  replace r_p0_0 := held_after hU r_p0_0
  replace r_pp := held_after hU r_pp
  replace hP := hP.below hU
  have sz8 := hU.size
  replace hB := bthen hB hU
  clear hU
  have kt := hid (fun U h ht => pnum_any U1.heap.size B E8 [T, S1a, S1b, S2a, S2b, S3, S4, S5, S6, u6, S7, u7] n5i n5n 1 4 1 0 99999 U h (by simp) hlB bn5.out (by decide) ht)
  rw [h8.out] at kt
  dsimp only at kt
  rw [hS8.out] at kt
  refine Seg.only (m := 4) (k := 0) rfl (by kernel_rfl) (by rfl) (fun K hK => ?_)
  go_simp
  refine (kt.out _ hP (hT.out.on hB)).mono ?_
  rintro r Y9 ⟨rfl, hP2, hf2⟩
  replace r_p0_0 := hP.besides hf2 r_p0_0 neg (by decide)
  replace r_pp := hP.besides hf2 r_pp nep (by decide)
  replace hB := hB.trans (hf2.below.mono (by omega))
  obtain ⟨E9, hE9⟩ : ∃ E, kp E8 x8 = E := ⟨_, rfl⟩
  rw [hE9] at hP2
  replace hE9 := hid hE9
  replace hP := (show PenIn Y9 U1.heap.size B E9 [T, S1a, S1b, S2a, S2b, S3, S4, S5, S6, u6, S7, u7, S8] from hP2)
  clear hP2 hf2
  refine hK _ _ (Seg.finish ?_ _)
  clear hK kt
  go_upto_region 12 with (fail)
  apply wp_region_part (w := Y9) (S := [.q [], .q [], .q [], .q []]) (E := [.q0 _, .q0 _, .q0 _, .c0 _]) 4 1 (by kernel_rfl) rfl (by kernel_rfl) rfl rfl rfl
  intro th hge hne
  refine Seg.step _ rfl (Or.inl ⟨by rfl, fun U hU => vp_quiet (by (go_simp <;> exact rfl))⟩) ⟨_, by (simp only [Ent.val]; go_simp <;> exact rfl), ?_⟩
  refine Seg.step _ rfl (Or.inl ⟨by rfl, fun U hU => vp_quiet (by (go_simp <;> exact rfl))⟩) ⟨_, by (simp only [Ent.val]; go_simp <;> exact rfl), ?_⟩
  refine Seg.step _ rfl (Or.inl ⟨by rfl, fun U hU => vp_quiet (by (have h0 := held_cell (held_after hU.1 r_p0_0) 20 _ rfl; have h1 := held_cell (held_after hU.1 r_p0_0) 21 _ rfl; go_simp <;> exact rfl))⟩) ⟨_, by (simp only [Ent.val]; go_simp <;> exact rfl), ?_⟩
  refine Seg.step _ rfl (Or.inl ⟨by rfl, fun U hU => ?_⟩) ?_
  · go_simp
    refine vp_call (atCol_any _)
  refine ⟨_, by (simp only [Ent.val]; go_simp <;> exact rfl), ?_⟩
  refine Seg.stop (fun U9 hU hk => ?_)
  clear hk hge hne
  replace r_p0_0 := held_after hU r_p0_0
  replace r_pp := held_after hU r_pp
  replace hP := hP.below hU
  have sz9 := hU.size
  replace hB := bthen hB hU
  clear hU
  have kt := hid (fun U h ht => pnum_any U1.heap.size B E9 [T, S1a, S1b, S2a, S2b, S3, S4, S5, S6, u6, S7, u7, S8] n6i n6n 1 4 0 0 1023 U h (by simp) hlB bn6.out (by decide) ht)
  rw [h9.out] at kt
  dsimp only at kt
  rw [hS9.out] at kt
  refine Seg.only (m := 4) (k := 0) rfl (by kernel_rfl) (by rfl) (fun K hK => ?_)
  go_simp
  refine (kt.out _ hP (hT.out.on hB)).mono ?_
  rintro r Y10 ⟨rfl, hP2, hf2⟩
  replace r_p0_0 := hP.besides hf2 r_p0_0 neg (by decide)
  replace r_pp := hP.besides hf2 r_pp nep (by decide)
  replace hB := hB.trans (hf2.below.mono (by omega))
  obtain ⟨E10, hE10⟩ : ∃ E, kp E9 x9 = E := ⟨_, rfl⟩
  rw [hE10] at hP2
  replace hE10 := hid hE10
  replace hP := (show PenIn Y10 U1.heap.size B E10 [T, S1a, S1b, S2a, S2b, S3, S4, S5, S6, u6, S7, u7, S8, S9] from hP2)
  clear hP2 hf2
  refine hK _ _ (Seg.finish ?_ _)
  clear hK kt
  have hfE : fE [([T], k), ([S1a, S1b], x1), ([S2a, S2b], x2), ([S3], x3), ([S4], x4), ([S5], x5), ([S6, u6], x6), ([S7, u7], x7), ([S8], x8), ([S9], x9)] = E10 := by
    show kp (kp (kp (kp (kp (kp (kp (kp (kp (kp 0 k) x1) x2) x3) x4) x5) x6) x7) x8) x9 = _
    rw [hE1.out, hE2.out, hE3.out, hE4.out, hE5.out, hE6.out, hE7.out, hE8.out, hE9.out, hE10.out]
  replace hfE := hid hfE
  go_upto_region 13 with (fail)
  have e_0 := held_cell r_pp 0 _ rfl
  have kd := hid (fun U h => pdone_any U1.heap.size B E10 [T, S1a, S1b, S2a, S2b, S3, S4, S5, S6, u6, S7, u7, S8, S9] U h (by simp))
  go_wp2_with fail
  refine (kd.out _ hP).mono ?_
  rintro r V9 ⟨a9, c9, rfl, g1, g2, g3⟩
  have hD := (show DnOk w (fE [([T], k), ([S1a, S1b], x1), ([S2a, S2b], x2), ([S3], x3), ([S4], x4), ([S5], x5), ([S6, u6], x6), ([S7, u7], x7), ([S8], x8), ([S9], x9)]) (fL [([T], k), ([S1a, S1b], x1), ([S2a, S2b], x2), ([S3], x3), ([S4], x4), ([S5], x5), ([S6, u6], x6), ([S7, u7], x7), ([S8], x8), ([S9], x9)]) (.returned (.tuple #[.slice a9 (if E10 = 0 then [T, S1a, S1b, S2a, S2b, S3, S4, S5, S6, u6, S7, u7, S8, S9] else []).length c9, .int .i64 E10])) V9 from (by rw [hfE.out]; exact ⟨a9, c9, rfl, g1, g2, bthen hB g3⟩))
  obtain ⟨n9, hn9⟩ : ∃ n, (if E10 = 0 then [T, S1a, S1b, S2a, S2b, S3, S4, S5, S6, u6, S7, u7, S8, S9] else []).length = n := ⟨_, rfl⟩
  rw [hn9] at hD ⊢
  clear hn9
  replace hD := hid hD
  clear g1 g2 g3
  go_wp2_with fail
  go_ret2
  exact hD.out

end Go.Proofs.YtiokoakamcihcaaGreatDoor
