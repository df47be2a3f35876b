/- Package gga: what is put, the papers'. -/
import Derived.Test.YtiokoakamcihcaaGreatDoorGga3
import Derived.Test.YtiokoakamcihcaaGreatDoorClock10
import Derived.Laws.Tables
import Derived.Deep.DeepCutAuto
namespace Go.Proofs.YtiokoakamcihcaaGreatDoor
open Go.ChangeShapes Go.WideShapes Go.ChangeAt Go.RowKit
set_option linter.unusedVariables false
set_option linter.unusedSimpArgs false

theorem fE_zero {l : List (List ByteArray × Int)} : ∀ {e : Int}, l.foldl (fun e x => kp e x.2) e = 0 → e = 0 ∧ ∀ x ∈ l, x.2 = 0 := by
  induction l with
  | nil => intro e h; exact ⟨h, fun x hx => by cases hx⟩
  | cons y l ih =>
    intro e h
    obtain ⟨h1, h2⟩ := ih h
    obtain ⟨h3, h4⟩ := kp_ok h1
    refine ⟨h3, fun x hx => ?_⟩
    rcases List.mem_cons.1 hx with rfl | hx
    · exact h4
    · exact h2 x hx
theorem DnOk.congr {w w' : World} {e : Int} {L L' : List ByteArray} {r : Ending} (h : e = 0 → L = L') (k : DnOk w e L r w') : DnOk w e L' r w' := by
  by_cases c : e = 0
  · rw [← h c]; exact k
  · obtain ⟨a, cap, h1, h2, h3, h4⟩ := k
    rw [if_neg c] at h1 h2
    exact ⟨a, cap, by rw [if_neg c]; exact h1, by rw [if_neg c]; exact h2, h3, h4⟩
set_option maxRecDepth 100000 in
set_option maxHeartbeats 4000000 in
theorem rputclk_any (base B : Nat) (e : Int) (L : List ByteArray) (tb : Bool) (tho tmi tse tce : Int) (T : ByteArray) (k : Int) (hV : putV tb tho tmi tse tce = .tuple #[.string T, .int .i64 k]) (w : World) (hP : RowW w base B e L) (hl : L.length ≤ 1000) (hb : base ≤ B) : Calls Tryz.prog 29 #[.pointer (some ⟨B, 0, none⟩), .agg #[.bool tb, .int .i64 tho, .int .i64 tmi, .int .i64 tse, .int .i64 tce]] w fun r w' => r = .returned (.tuple #[]) ∧ RowW w' base B (kp e k) (L ++ [T]) ∧ PEff base B 0 w w' := by
  have kT := hid (fun U => hV ▸ rput_any tb tho tmi tse tce U)
  have kt := hid (fun U h => rtext_any base B e k L T U h hl hb)
  clear hV
  have hlt := hP.lt
  replace hP := hid hP
  go_enter Tryz.func29, Tryz.ntmps29
  go_upto_region 0 with (fail)
  apply wp_region_seg0 (w := w) (S := [.al 1000]) (E := [.al ((fun p => .pointer (some ⟨p, 0, none⟩)), _) 1000]) rfl (by kernel_rfl) rfl rfl
  intro th hge hne
  refine Seg.step _ rfl ⟨by rfl, fun U hU => ?_⟩ ?_
  · go_simp; exact vp_alloc rfl rfl rfl
  refine ⟨_, by (simp only [Ent.val]; go_simp <;> exact rfl), ?_⟩
  refine Seg.stop (fun U1 hU hk => ?_)
  have nb0 := hge 0 _ _ rfl
  have rb0 := (hk 0 _ _ rfl trivial).1.2 (by simp)
  clear hk hge hne
  generalize th (0 + 0) = p0_0 at *
  dsimp only at rb0
  have r_p0_0 := rb0
  clear rb0
  have n_p0_0 := nb0
  clear nb0
  have sz1 := hU.size
  have hB : Below w.heap.size w U1 := hU
  clear hU
  have hef := hid (PEff.after (base := base) (p := B) (j := 0) (by omega) hlt hB)
  replace hP := hid (hP.out.aft hB)
  clear hB
  have r0 := hid r_p0_0
  have hb_r0 : p0_0 ≠ B := by omega
  clear r_p0_0
  have x0 := held_cell r0.out 0 _ rfl
  have x1 := held_cell r0.out 1 _ rfl
  have x2 := held_cell r0.out 2 _ rfl
  have x3 := held_cell r0.out 3 _ rfl
  have x4 := held_cell r0.out 4 _ rfl
  go_wp2_with fail
  refine (kT.out _).mono ?_
  rintro r V1 ⟨rfl, hA⟩
  replace hef := hid (hef.out.trans (PEff.after (by have := hP.out.lt; omega) hP.out.lt hA))
  replace hP := hid (hP.out.aft hA)
  replace r0 := hid (held_after hA r0.out)
  clear hA
  clear x0 x1 x2 x3 x4
  go_wp2_with fail
  refine (kt.out _ hP.out).mono ?_
  rintro r V2 ⟨rfl, hP2, hf2⟩
  replace r0 := hid (hP.out.besides hf2 r0.out hb_r0 (by decide))
  replace hP := hid hP2
  replace hef := hid (hef.out.trans hf2)
  clear hf2 hP2
  go_wp2_with fail
  go_end0
  exact ⟨rfl, hP.out, hef.out⟩
set_option maxRecDepth 100000 in
set_option maxHeartbeats 4000000 in
theorem rputunit_any (base B : Nat) (e : Int) (L : List ByteArray) (is : Bool) (n : Int) (u : ByteArray) (w : World) (hP : RowW w base B e L) (hl : L.length ≤ 1000) (hb : base ≤ B) : Calls Tryz.prog 33 #[.pointer (some ⟨B, 0, none⟩), .agg #[.bool is, .int .i64 n], .string u] w fun r w' => r = .returned (.tuple #[]) ∧ RowW w' base B e (L ++ [if is = true then u else ⟨#[]⟩]) ∧ PEff base B 0 w w' := by
  have k0 : kp e 0 = e := by unfold kp; split <;> omega
  have kt := hid (fun U x h => rtext_any base B e 0 L x U h hl hb)
  rw [k0] at kt
  clear k0
  cases is
  · have hlt := hP.lt
    replace hP := hid hP
    go_enter Tryz.func33, Tryz.ntmps33
    go_upto_region 0 with (fail)
    apply wp_region_seg0 (w := w) (S := [.al 1000]) (E := [.al ((fun p => .pointer (some ⟨p, 0, none⟩)), _) 1000]) rfl (by kernel_rfl) rfl rfl
    intro th hge hne
    refine Seg.step _ rfl ⟨by rfl, fun U hU => ?_⟩ ?_
    · go_simp; exact vp_alloc rfl rfl rfl
    refine ⟨_, by (simp only [Ent.val]; go_simp <;> exact rfl), ?_⟩
    refine Seg.stop (fun U1 hU hk => ?_)
    have nb0 := hge 0 _ _ rfl
    have rb0 := (hk 0 _ _ rfl trivial).1.2 (by simp)
    clear hk hge hne
    generalize th (0 + 0) = p0_0 at *
    dsimp only at rb0
    have r_p0_0 := rb0
    clear rb0
    have n_p0_0 := nb0
    clear nb0
    have sz1 := hU.size
    have hB : Below w.heap.size w U1 := hU
    clear hU
    have hef := hid (PEff.after (base := base) (p := B) (j := 0) (by omega) hlt hB)
    replace hP := hid (hP.out.aft hB)
    clear hB
    have r0 := hid r_p0_0
    have hb_r0 : p0_0 ≠ B := by omega
    clear r_p0_0
    have x0 := held_cell r0.out 0 _ rfl
    have x1 := held_cell r0.out 1 _ rfl
    go_wp2_with fail
    refine (kt.out _ _ hP.out).mono ?_
    rintro r V1 ⟨rfl, hP2, hf2⟩
    replace r0 := hid (hP.out.besides hf2 r0.out hb_r0 (by decide))
    replace hP := hid hP2
    replace hef := hid (hef.out.trans hf2)
    clear hf2 hP2
    clear x0 x1
    go_wp2_with fail
    go_end0
    exact ⟨rfl, hP.out, hef.out⟩
  · have hlt := hP.lt
    replace hP := hid hP
    go_enter Tryz.func33, Tryz.ntmps33
    go_upto_region 0 with (fail)
    apply wp_region_seg0 (w := w) (S := [.al 1000]) (E := [.al ((fun p => .pointer (some ⟨p, 0, none⟩)), _) 1000]) rfl (by kernel_rfl) rfl rfl
    intro th hge hne
    refine Seg.step _ rfl ⟨by rfl, fun U hU => ?_⟩ ?_
    · go_simp; exact vp_alloc rfl rfl rfl
    refine ⟨_, by (simp only [Ent.val]; go_simp <;> exact rfl), ?_⟩
    refine Seg.stop (fun U1 hU hk => ?_)
    have nb0 := hge 0 _ _ rfl
    have rb0 := (hk 0 _ _ rfl trivial).1.2 (by simp)
    clear hk hge hne
    generalize th (0 + 0) = p0_0 at *
    dsimp only at rb0
    have r_p0_0 := rb0
    clear rb0
    have n_p0_0 := nb0
    clear nb0
    have sz1 := hU.size
    have hB : Below w.heap.size w U1 := hU
    clear hU
    have hef := hid (PEff.after (base := base) (p := B) (j := 0) (by omega) hlt hB)
    replace hP := hid (hP.out.aft hB)
    clear hB
    have r0 := hid r_p0_0
    have hb_r0 : p0_0 ≠ B := by omega
    clear r_p0_0
    have x0 := held_cell r0.out 0 _ rfl
    have x1 := held_cell r0.out 1 _ rfl
    go_wp2_with fail
    refine (kt.out _ _ hP.out).mono ?_
    rintro r V1 ⟨rfl, hP2, hf2⟩
    replace r0 := hid (hP.out.besides hf2 r0.out hb_r0 (by decide))
    replace hP := hid hP2
    replace hef := hid (hef.out.trans hf2)
    clear hf2 hP2
    clear x0 x1
    go_wp2_with fail
    go_end0
    exact ⟨rfl, hP.out, hef.out⟩
set_option maxRecDepth 100000 in
set_option maxHeartbeats 4000000 in
theorem rputdig_any (base B : Nat) (e : Int) (L : List ByteArray) (n lo hi : Int) (hlo : 0 ≤ lo) (hhi : hi ≤ 9) (w : World) (hP : RowW w base B e L) (hl : L.length ≤ 1000) (hb : base ≤ B) : Calls Tryz.prog 31 #[.pointer (some ⟨B, 0, none⟩), .int .i64 n, .int .i64 lo, .int .i64 hi] w fun r w' => r = .returned (.tuple #[]) ∧ RowW w' base B (kp e (dgP n lo hi).2) (L ++ if (dgP n lo hi).2 = 0 then [nb (dgP n lo hi).1] else []) ∧ PEff base B 0 w w' := by
  by_cases c1 : n < lo
  case pos =>
    have hd : dgP n lo hi = ([], 5) := by unfold dgP; rw [if_pos (by omega)]
    rw [hd]
    dsimp only
    rw [if_neg (by decide), List.append_nil]
    have kf := hid (fun U h => rfirstW_any base B e 5 L U h hb)
    have b1 : decide (n < lo) = true := by simpa using c1
    have hlt := hP.lt
    replace hP := hid hP
    have hef := hid (PEff.refl base B 0 w)
    go_enter Tryz.func31, Tryz.ntmps31
    go_wp2_with fail
    refine (kf.out _ hP.out).mono ?_
    rintro r V1 ⟨rfl, hP2, hf2⟩
    replace hP := hid hP2
    replace hef := hid (hef.out.trans hf2)
    clear hf2 hP2
    go_wp2_with fail
    first | go_end0 | refine bodyPost_ret (results_none rfl _ _ _) rfl ?_
    exact ⟨rfl, hP.out, hef.out⟩
  by_cases c2 : hi < n
  case pos =>
    have hd : dgP n lo hi = ([], 5) := by unfold dgP; rw [if_pos (by omega)]
    rw [hd]
    dsimp only
    rw [if_neg (by decide), List.append_nil]
    have kf := hid (fun U h => rfirstW_any base B e 5 L U h hb)
    have b1 : decide (n < lo) = false := by simpa using c1
    have b2 : decide (hi < n) = true := by simpa using c2
    have hlt := hP.lt
    replace hP := hid hP
    have hef := hid (PEff.refl base B 0 w)
    go_enter Tryz.func31, Tryz.ntmps31
    go_wp2_with fail
    refine (kf.out _ hP.out).mono ?_
    rintro r V1 ⟨rfl, hP2, hf2⟩
    replace hP := hid hP2
    replace hef := hid (hef.out.trans hf2)
    clear hf2 hP2
    go_wp2_with fail
    first | go_end0 | refine bodyPost_ret (results_none rfl _ _ _) rfl ?_
    exact ⟨rfl, hP.out, hef.out⟩
  have hd : dgP n lo hi = ([48 + n.toNat], 0) := by unfold dgP; rw [if_neg (by omega)]
  rw [hd]
  dsimp only
  rw [if_pos rfl]
  have b1 : decide (n < lo) = false := by simpa using c1
  have b2 : decide (hi < n) = false := by simpa using c2
  obtain ⟨N, rfl⟩ : ∃ N : Nat, n = N := ⟨n.toNat, by omega⟩
  have hdg : digV N 1 = [48 + N] := by unfold digV; rw [show max 1 (nd N) = 1 by have := nd_le (n := N) (k := 1) (by omega); omega]; show [48 + N % 10] = _; rw [Nat.mod_eq_of_lt (by omega)]
  have kd := hid (fun U => hdg ▸ rdigits_any N 1 U (by omega) (by omega) (by omega))
  have kt := hid (fun U h => rtext_any base B e 0 L (nb [48 + N]) U h hl hb)
  rw [show (N : Int).toNat = N from rfl]
  have hlt := hP.lt
  replace hP := hid hP
  have hef := hid (PEff.refl base B 0 w)
  go_enter Tryz.func31, Tryz.ntmps31
  go_wp2_with fail
  refine (kd.out _).mono ?_
  rintro r V1 ⟨rfl, hA⟩
  replace hef := hid (hef.out.trans (PEff.after (by have := hP.out.lt; omega) hP.out.lt hA))
  replace hP := hid (hP.out.aft hA)
  clear hA
  go_wp2_with fail
  refine (kt.out _ hP.out).mono ?_
  rintro r V2 ⟨rfl, hP2, hf2⟩
  replace hP := hid hP2
  replace hef := hid (hef.out.trans hf2)
  clear hf2 hP2
  go_wp2_with fail
  first | go_end0 | refine bodyPost_ret (results_none rfl _ _ _) rfl ?_
  exact ⟨rfl, hP.out, hef.out⟩
set_option maxRecDepth 100000 in
set_option maxHeartbeats 8000000 in
theorem rcols_any (w : World) : Calls Tryz.prog 28 #[] w fun r w' => ∃ C, r = .returned (.slice (some ⟨C, 0, none⟩) 6 6) ∧ w'.heap[C]? = some (.cells #[.int .i64 1, .int .i64 2, .int .i64 0, .int .i64 0, .int .i64 99, .int .i64 1, .int .i64 3, .int .i64 2, .int .i64 0, .int .i64 99999, .int .i64 1, .int .i64 6, .int .i64 1, .int .i64 (-9999999), .int .i64 9999999, .int .i64 1, .int .i64 4, .int .i64 1, .int .i64 (-99999), .int .i64 99999, .int .i64 1, .int .i64 4, .int .i64 1, .int .i64 0, .int .i64 99999, .int .i64 1, .int .i64 4, .int .i64 0, .int .i64 0, .int .i64 1023] 51 (0, 0)) ∧ After w w' ∧ w.heap.size ≤ C := by
  go_enter Tryz.func28, Tryz.ntmps28
  go_upto_region 0 with (fail)
  go_upto_region 1 with (fail)
  apply wp_region_seg0 (w := w) (S := [.q [], .q [], .q [], .q [], .q [], .q [], .al 1000, .q [6]]) (E := [.q0 _, .q0 _, .q0 _, .q0 _, .q0 _, .q0 _, .al ((fun p => .slice (some ⟨p, 0, none⟩) 6 6), _) 1000, .q1 6 (fun p => .slice (some ⟨p, 0, none⟩) 6 6)]) rfl (by kernel_rfl) rfl rfl
  intro th hge hne
  refine Seg.step _ rfl (Or.inl ⟨by rfl, fun U hU => vp_quiet (by (go_simp <;> exact rfl))⟩) ⟨_, by (simp only [Ent.val]; go_simp <;> exact rfl), ?_⟩
  refine Seg.step _ rfl (Or.inl ⟨by rfl, fun U hU => vp_quiet (by (go_simp <;> exact rfl))⟩) ⟨_, by (simp only [Ent.val]; go_simp <;> exact rfl), ?_⟩
  refine Seg.step _ rfl (Or.inl ⟨by rfl, fun U hU => vp_quiet (by (go_simp <;> exact rfl))⟩) ⟨_, by (simp only [Ent.val]; go_simp <;> exact rfl), ?_⟩
  refine Seg.step _ rfl (Or.inl ⟨by rfl, fun U hU => vp_quiet (by (go_simp <;> exact rfl))⟩) ⟨_, by (simp only [Ent.val]; go_simp <;> exact rfl), ?_⟩
  refine Seg.step _ rfl (Or.inl ⟨by rfl, fun U hU => vp_quiet (by (go_simp <;> exact rfl))⟩) ⟨_, by (simp only [Ent.val]; go_simp <;> exact rfl), ?_⟩
  refine Seg.step _ rfl (Or.inl ⟨by rfl, fun U hU => vp_quiet (by (go_simp <;> exact rfl))⟩) ⟨_, by (simp only [Ent.val]; go_simp <;> exact rfl), ?_⟩
  refine Seg.step _ rfl ⟨by rfl, fun U hU => ?_⟩ ?_
  · go_simp; exact vp_alloc rfl rfl rfl
  refine ⟨_, by (simp only [Ent.val]; go_simp <;> exact rfl), ?_⟩
  refine Seg.step _ rfl (Or.inl ⟨by rfl, fun U hU => vp_quiet (by (go_simp <;> exact rfl))⟩) ⟨_, by (simp only [Ent.val]; go_simp <;> exact rfl), ?_⟩
  refine Seg.stop (fun U1 hU hk => ?_)
  have nb6 := hge 6 _ _ rfl
  have rb6 := (hk 6 _ _ rfl trivial).1.2 (by simp)
  clear hk hge hne
  generalize th (0 + 6) = p1_6 at *
  dsimp only at rb6
  have r_p1_6 := rb6
  clear rb6
  have n_p1_6 := nb6
  clear nb6
  have sz1 := hU.size
  have hB : Below w.heap.size w U1 := hU
  clear hU
  replace r_p1_6 := hid r_p1_6
  go_wp2_with fail
  go_ret
  exact ⟨_, rfl, r_p1_6.out, hB, n_p1_6⟩
set_option maxRecDepth 100000 in
set_option maxHeartbeats 16000000 in
theorem rgput_any (tb : Bool) (tho tmi tse tce : Int) (ai : Bool) (an : Int) (oi : Bool) (on q : Int) (n1i : Bool) (n1n : Int) (n2i : Bool) (n2n : Int) (n3i : Bool) (n3n : Int) (n4i : Bool) (n4n : Int) (n5i : Bool) (n5n : Int) (n6i : Bool) (n6n : Int) (T : ByteArray) (k : Int) (hV : putV tb tho tmi tse tce = .tuple #[.string T, .int .i64 k]) (w : World) (bb : (-9223372036854775808 ≤ an ∧ an ≤ 9223372036854775807) ∧ (-9223372036854775808 ≤ on ∧ on ≤ 9223372036854775807) ∧ (-9223372036854775808 ≤ n1n ∧ n1n ≤ 9223372036854775807) ∧ (-9223372036854775808 ≤ n2n ∧ n2n ≤ 9223372036854775807) ∧ (-9223372036854775808 ≤ n3n ∧ n3n ≤ 9223372036854775807) ∧ (-9223372036854775808 ≤ n4n ∧ n4n ≤ 9223372036854775807) ∧ (-9223372036854775808 ≤ n5n ∧ n5n ≤ 9223372036854775807) ∧ (-9223372036854775808 ≤ n6n ∧ n6n ≤ 9223372036854775807)) : Calls Tryz.prog 7 #[.agg #[.bool tb, .int .i64 tho, .int .i64 tmi, .int .i64 tse, .int .i64 tce, .bool ai, .int .i64 an, .bool oi, .int .i64 on, .int .i64 q, .bool n1i, .int .i64 n1n, .bool n2i, .int .i64 n2n, .bool n3i, .int .i64 n3n, .bool n4i, .int .i64 n4n, .bool n5i, .int .i64 n5n, .bool n6i, .int .i64 n6n]] w fun r w' => DnOk w (fE (ggI T k ai an oi on q n1i n1n n2i n2n n3i n3n n4i n4n n5i n5n n6i n6n)) (fL (ggI T k ai an oi on q n1i n1n n2i n2n n3i n3n n4i n4n n5i n5n n6i n6n)) r w' := by
  obtain ⟨ban, bon, bn1, bn2, bn3, bn4, bn5, bn6⟩ := bb
  replace ban := hid ban
  replace bon := hid bon
  replace bn1 := hid bn1
  replace bn2 := hid bn2
  replace bn3 := hid bn3
  replace bn4 := hid bn4
  replace bn5 := hid bn5
  replace bn6 := hid bn6
  obtain ⟨⟨P1a, P1b, x1⟩, h1⟩ : ∃ r, angD ai an true = r := ⟨_, rfl⟩
  obtain ⟨S1a, hS1a⟩ : ∃ S, nb P1a = S := ⟨_, rfl⟩
  obtain ⟨S1b, hS1b⟩ : ∃ S, nb P1b = S := ⟨_, rfl⟩
  obtain ⟨⟨P2a, P2b, x2⟩, h2⟩ : ∃ r, angD oi on false = r := ⟨_, rfl⟩
  obtain ⟨S2a, hS2a⟩ : ∃ S, nb P2a = S := ⟨_, rfl⟩
  obtain ⟨S2b, hS2b⟩ : ∃ S, nb P2b = S := ⟨_, rfl⟩
  obtain ⟨⟨P3, x3⟩, h3⟩ : ∃ r, dgP q 0 8 = r := ⟨_, rfl⟩
  obtain ⟨S3, hS3⟩ : ∃ S, nb P3 = S := ⟨_, rfl⟩
  obtain ⟨⟨P4, x4⟩, h4⟩ : ∃ r, putD n1i n1n 1 2 0 0 99 = r := ⟨_, rfl⟩
  obtain ⟨S4, hS4⟩ : ∃ S, nb P4 = S := ⟨_, rfl⟩
  obtain ⟨⟨P5, x5⟩, h5⟩ : ∃ r, putD n2i n2n 1 3 2 0 99999 = r := ⟨_, rfl⟩
  obtain ⟨S5, hS5⟩ : ∃ S, nb P5 = S := ⟨_, rfl⟩
  obtain ⟨⟨P6, x6⟩, h6⟩ : ∃ r, putD n3i n3n 1 6 1 (-9999999) 9999999 = r := ⟨_, rfl⟩
  obtain ⟨S6, hS6⟩ : ∃ S, nb P6 = S := ⟨_, rfl⟩
  obtain ⟨u6, hu6⟩ : ∃ u, (if n3i = true then (⟨#[77]⟩ : ByteArray) else ⟨#[]⟩) = u := ⟨_, rfl⟩
  obtain ⟨⟨P7, x7⟩, h7⟩ : ∃ r, putD n4i n4n 1 4 1 (-99999) 99999 = r := ⟨_, rfl⟩
  obtain ⟨S7, hS7⟩ : ∃ S, nb P7 = S := ⟨_, rfl⟩
  obtain ⟨u7, hu7⟩ : ∃ u, (if n4i = true then (⟨#[77]⟩ : ByteArray) else ⟨#[]⟩) = u := ⟨_, rfl⟩
  obtain ⟨⟨P8, x8⟩, h8⟩ : ∃ r, putD n5i n5n 1 4 1 0 99999 = r := ⟨_, rfl⟩
  obtain ⟨S8, hS8⟩ : ∃ S, nb P8 = S := ⟨_, rfl⟩
  obtain ⟨⟨P9, x9⟩, h9⟩ : ∃ r, putD n6i n6n 1 4 0 0 1023 = r := ⟨_, rfl⟩
  obtain ⟨S9, hS9⟩ : ∃ S, nb P9 = S := ⟨_, rfl⟩
  have hI : ggI T k ai an oi on q n1i n1n n2i n2n n3i n3n n4i n4n n5i n5n n6i n6n = [([T], k), ([S1a, S1b], x1), ([S2a, S2b], x2), ([S3], x3), ([S4], x4), ([S5], x5), ([S6, u6], x6), ([S7, u7], x7), ([S8], x8), ([S9], x9)] := by unfold ggI; rw [h1, h2, h3, h4, h5, h6, h7, h8, h9]; dsimp only; rw [hS1a, hS1b, hS2a, hS2b, hS3, hS4, hS5, hS6, hu6, hS7, hu7, hS8, hS9]
  rw [hI]
  clear hI
  replace h1 := hid h1
  replace h2 := hid h2
  replace h3 := hid h3
  replace h4 := hid h4
  replace h5 := hid h5
  replace h6 := hid h6
  replace h7 := hid h7
  replace h8 := hid h8
  replace h9 := hid h9
  replace hS1a := hid hS1a
  replace hS1b := hid hS1b
  replace hS2a := hid hS2a
  replace hS2b := hid hS2b
  replace hS3 := hid hS3
  replace hS4 := hid hS4
  replace hS5 := hid hS5
  replace hS6 := hid hS6
  replace hu6 := hid hu6
  replace hS7 := hid hS7
  replace hu7 := hid hu7
  replace hS8 := hid hS8
  replace hS9 := hid hS9
  replace hV := hid hV
  go_enter Tryz.func7, Tryz.ntmps7
  go_upto_region 0 with (fail)
  apply wp_region_seg0 (w := w) (S := [.al 1000, .q [], .q []]) (E := [.al ((fun p => .pointer (some ⟨p, 0, none⟩)), _) 1000, .q0 _, .q0 _]) rfl (by kernel_rfl) rfl rfl
  intro th hge hne
  refine Seg.step _ rfl ⟨by rfl, fun U hU => ?_⟩ ?_
  · go_simp; exact vp_alloc rfl rfl rfl
  refine ⟨_, by (simp only [Ent.val]; go_simp <;> exact rfl), ?_⟩
  refine Seg.step _ rfl (Or.inl ⟨by rfl, fun U hU => vp_quiet (by (go_simp <;> exact rfl))⟩) ⟨_, by (simp only [Ent.val]; go_simp <;> exact rfl), ?_⟩
  refine Seg.step _ rfl (Or.inl ⟨by rfl, fun U hU => vp_quiet (by (go_simp <;> exact rfl))⟩) ⟨_, by (simp only [Ent.val]; go_simp <;> exact rfl), ?_⟩
  refine Seg.stop (fun U1 hU hk => ?_)
  have nb0 := hge 0 _ _ rfl
  have rb0 := (hk 0 _ _ rfl trivial).1.2 (by simp)
  clear hk hge hne
  generalize th (0 + 0) = p0_0 at *
  dsimp only at rb0
  have r_p0_0 := rb0
  clear rb0
  have n_p0_0 := nb0
  clear nb0
  have sz1 := hU.size
  have hB : Below w.heap.size w U1 := hU
  clear hU
  have hlg := held_lt r_p0_0
  go_wp2_with fail
  refine (rcols_any _).mono ?_
  rintro r V ⟨pc, rfl, r_pc, hA, hlC⟩
  replace hB := bthen hB hA
  replace r_p0_0 := held_after hA r_p0_0
  clear hA
  have hlc := held_lt r_pc
  go_upto_region 2 with (fail)
  apply wp_region_seg0 (w := V) (S := [.q [], .al 1000, .q [1]]) (E := [.q0 _, .al ((fun p => .pointer (some ⟨p, 0, none⟩)), _) 1000, .q1 1 (fun p => .pointer (some ⟨p, 0, none⟩))]) rfl (by kernel_rfl) rfl rfl
  intro th hge hne
  refine Seg.step _ rfl (Or.inl ⟨by rfl, fun U hU => vp_quiet (by (go_simp <;> exact rfl))⟩) ⟨_, by (simp only [Ent.val]; go_simp <;> exact rfl), ?_⟩
  refine Seg.step _ rfl ⟨by rfl, fun U hU => ?_⟩ ?_
  · go_simp; exact vp_alloc rfl rfl rfl
  refine ⟨_, by (simp only [Ent.val]; go_simp <;> exact rfl), ?_⟩
  refine Seg.step _ rfl (Or.inl ⟨by rfl, fun U hU => vp_quiet (by (go_simp <;> exact rfl))⟩) ⟨_, by (simp only [Ent.val]; go_simp <;> exact rfl), ?_⟩
  refine Seg.stop (fun U2 hU hk => ?_)
  have nb1 := hge 1 _ _ rfl
  have rb1 := (hk 1 _ _ rfl trivial).1.2 (by simp)
  clear hk hge hne
  generalize th (0 + 1) = p2_1 at *
  dsimp only at rb1
  replace r_p0_0 := held_after hU r_p0_0
  replace r_pc := held_after hU r_pc
  have r_p2_1 := rb1
  clear rb1
  have n_p2_1 := nb1
  clear nb1
  have sz2 := hU.size
  replace hB := bthen hB hU
  clear hU
  have hP : RowW U2 V.heap.size p2_1 0 [] := ⟨none, 0, r_p2_1, OwnE.nil _ _ _ _⟩
  clear r_p2_1
  obtain ⟨B, hBe⟩ : ∃ B, B = p2_1 := ⟨_, rfl⟩
  subst hBe
  have hlB : V.heap.size ≤ B := n_p2_1
  have neg : p0_0 ≠ B := by omega
  have nec : pc ≠ B := by omega
  go_upto_region 3 with (fail)
  have c_0 := held_cell r_p0_0 0 _ rfl
  have c_1 := held_cell r_p0_0 1 _ rfl
  have c_2 := held_cell r_p0_0 2 _ rfl
  have c_3 := held_cell r_p0_0 3 _ rfl
  have c_4 := held_cell r_p0_0 4 _ rfl
  have kt := hid (fun U h => rputclk_any V.heap.size B 0 [] tb tho tmi tse tce T k hV.out U h (by simp) hlB)
  go_wp2_with fail
  refine (kt.out _ hP).mono ?_
  clear c_0 c_1 c_2 c_3 c_4 kt
  rintro r Y1 ⟨rfl, hP2, hf2⟩
  replace r_p0_0 := hP.besides hf2 r_p0_0 neg (by decide)
  replace r_pc := hP.besides hf2 r_pc nec (by decide)
  replace hB := hB.trans (hf2.below.mono (by omega))
  obtain ⟨E1, hE1⟩ : ∃ E, kp 0 k = E := ⟨_, rfl⟩
  rw [hE1] at hP2
  replace hE1 := hid hE1
  replace hP := (show RowW Y1 V.heap.size B E1 [T] from (by first | exact hP2 | simpa only [List.append_assoc, List.cons_append, List.nil_append] using hP2))
  clear hP2 hf2
  go_upto_region 4 with (fail)
  have c_0 := held_cell r_p0_0 5 _ rfl
  have c_1 := held_cell r_p0_0 6 _ rfl
  have kt := hid (fun U h => rang_any V.heap.size B E1 [T] ai an true U h (by simp) hlB ban.out)
  rw [h1.out] at kt
  dsimp only at kt
  rw [hS1a.out, hS1b.out] at kt
  go_wp2_with fail
  refine (kt.out _ hP).mono ?_
  clear c_0 c_1 kt
  rintro r Y2 ⟨rfl, hP2, hf2⟩
  replace r_p0_0 := hP.besides hf2 r_p0_0 neg (by decide)
  replace r_pc := hP.besides hf2 r_pc nec (by decide)
  replace hB := hB.trans (hf2.below.mono (by omega))
  obtain ⟨E2, hE2⟩ : ∃ E, kp E1 x1 = E := ⟨_, rfl⟩
  rw [hE2] at hP2
  replace hE2 := hid hE2
  replace hP := (show RowW Y2 V.heap.size B E2 [T, S1a, S1b] from (by first | exact hP2 | simpa only [List.append_assoc, List.cons_append, List.nil_append] using hP2))
  clear hP2 hf2
  go_upto_region 5 with (fail)
  have c_0 := held_cell r_p0_0 7 _ rfl
  have c_1 := held_cell r_p0_0 8 _ rfl
  have kt := hid (fun U h => rang_any V.heap.size B E2 [T, S1a, S1b] oi on false U h (by simp) hlB bon.out)
  rw [h2.out] at kt
  dsimp only at kt
  rw [hS2a.out, hS2b.out] at kt
  go_wp2_with fail
  refine (kt.out _ hP).mono ?_
  clear c_0 c_1 kt
  rintro r Y3 ⟨rfl, hP2, hf2⟩
  replace r_p0_0 := hP.besides hf2 r_p0_0 neg (by decide)
  replace r_pc := hP.besides hf2 r_pc nec (by decide)
  replace hB := hB.trans (hf2.below.mono (by omega))
  obtain ⟨E3, hE3⟩ : ∃ E, kp E2 x2 = E := ⟨_, rfl⟩
  rw [hE3] at hP2
  replace hE3 := hid hE3
  replace hP := (show RowW Y3 V.heap.size B E3 [T, S1a, S1b, S2a, S2b] from (by first | exact hP2 | simpa only [List.append_assoc, List.cons_append, List.nil_append] using hP2))
  clear hP2 hf2
  go_upto_region 6 with (fail)
  have c_0 := held_cell r_p0_0 9 _ rfl
  have kt := hid (fun U h => rputdig_any V.heap.size B E3 [T, S1a, S1b, S2a, S2b] q 0 8 (by decide) (by decide) U h (by simp) hlB)
  rw [h3.out] at kt
  dsimp only at kt
  rw [hS3.out] at kt
  go_wp2_with fail
  refine (kt.out _ hP).mono ?_
  clear c_0 kt
  rintro r Y4 ⟨rfl, hP2, hf2⟩
  replace r_p0_0 := hP.besides hf2 r_p0_0 neg (by decide)
  replace r_pc := hP.besides hf2 r_pc nec (by decide)
  replace hB := hB.trans (hf2.below.mono (by omega))
  obtain ⟨E4, hE4⟩ : ∃ E, kp E3 x3 = E := ⟨_, rfl⟩
  rw [hE4] at hP2
  replace hE4 := hid hE4
  obtain ⟨M, hM⟩ : ∃ M, [T, S1a, S1b, S2a, S2b] ++ (if x3 = 0 then [S3] else []) = M := ⟨_, rfl⟩
  rw [hM] at hP2
  have hMl : M.length ≤ 6 := by rw [← hM, List.length_append]; split <;> simp
  replace hM := hid hM
  replace hP := hP2
  clear hP2 hf2
  go_upto_region 7 with (fail)
  apply wp_region_part (w := Y4) (S := [.q [], .q [], .q [], .q [], .q [], .q []]) (E := [.q0 _, .q0 _, .q0 _, .q0 _, .q0 _, .q0 _]) 6 1 (by kernel_rfl) rfl (by kernel_rfl) rfl rfl rfl
  intro th hge hne
  refine Seg.step _ rfl (Or.inl ⟨by rfl, fun U hU => vp_quiet (by (go_simp <;> exact rfl))⟩) ⟨_, by (simp only [Ent.val]; go_simp <;> exact rfl), ?_⟩
  refine Seg.step _ rfl (Or.inl ⟨by rfl, fun U hU => vp_quiet (by (go_simp <;> exact rfl))⟩) ⟨_, by (simp only [Ent.val]; go_simp <;> exact rfl), ?_⟩
  refine Seg.step _ rfl (Or.inl ⟨by rfl, fun U hU => vp_quiet (by (have h0 := held_cell (held_after hU.1 r_p0_0) 10 _ rfl; have h1 := held_cell (held_after hU.1 r_p0_0) 11 _ rfl; go_simp <;> exact rfl))⟩) ⟨_, by (simp only [Ent.val]; go_simp <;> exact rfl), ?_⟩
  refine Seg.step _ rfl (Or.inl ⟨by rfl, fun U hU => vp_quiet (by (go_simp <;> exact rfl))⟩) ⟨_, by (simp only [Ent.val]; go_simp <;> exact rfl), ?_⟩
  refine Seg.step _ rfl (Or.inl ⟨by rfl, fun U hU => vp_quiet (by (go_simp <;> exact rfl))⟩) ⟨_, by (simp only [Ent.val]; go_simp <;> exact rfl), ?_⟩
  refine Seg.step _ rfl (Or.inl ⟨by rfl, fun U hU => vp_quiet (by (have h0 := held_cell (held_after hU.1 r_pc) 0 _ rfl; have h1 := held_cell (held_after hU.1 r_pc) 1 _ rfl; have h2 := held_cell (held_after hU.1 r_pc) 2 _ rfl; have h3 := held_cell (held_after hU.1 r_pc) 3 _ rfl; have h4 := held_cell (held_after hU.1 r_pc) 4 _ rfl; go_simp <;> exact rfl))⟩) ⟨_, by (simp only [Ent.val]; go_simp <;> exact rfl), ?_⟩
  refine Seg.stop (fun U3 hU hk => ?_)
  clear hk hge hne
  replace r_p0_0 := held_after hU r_p0_0
  replace r_pc := held_after hU r_pc
  replace hP := hP.below hU
  have sz3 := hU.size
  replace hB := bthen hB hU
  clear hU
  have kt := hid (fun U h => rnum_any V.heap.size B E4 M n1i n1n 1 2 0 0 99 U h (by first | omega | (simp; omega)) hlB bn1.out (by decide))
  rw [h4.out] at kt
  dsimp only at kt
  rw [hS4.out] at kt
  refine Seg.only (m := 6) (k := 0) rfl (by kernel_rfl) (by rfl) (fun K hK => ?_)
  go_simp
  refine (kt.out _ hP).mono ?_
  rintro r Y5 ⟨rfl, hP2, hf2⟩
  replace r_p0_0 := hP.besides hf2 r_p0_0 neg (by decide)
  replace r_pc := hP.besides hf2 r_pc nec (by decide)
  replace hB := hB.trans (hf2.below.mono (by omega))
  obtain ⟨E5, hE5⟩ : ∃ E, kp E4 x4 = E := ⟨_, rfl⟩
  rw [hE5] at hP2
  replace hE5 := hid hE5
  replace hP := (show RowW Y5 V.heap.size B E5 (M ++ [S4]) from (by first | exact hP2 | simpa only [List.append_assoc, List.cons_append, List.nil_append] using hP2))
  clear hP2 hf2
  refine hK _ _ (Seg.finish ?_ _)
  clear hK kt
  go_upto_region 8 with (fail)
  apply wp_region_part (w := Y5) (S := [.q [], .q [], .q [], .q [], .q [], .q []]) (E := [.q0 _, .q0 _, .q0 _, .q0 _, .q0 _, .q0 _]) 6 1 (by kernel_rfl) rfl (by kernel_rfl) rfl rfl rfl
  intro th hge hne
  refine Seg.step _ rfl (Or.inl ⟨by rfl, fun U hU => vp_quiet (by (go_simp <;> exact rfl))⟩) ⟨_, by (simp only [Ent.val]; go_simp <;> exact rfl), ?_⟩
  refine Seg.step _ rfl (Or.inl ⟨by rfl, fun U hU => vp_quiet (by (go_simp <;> exact rfl))⟩) ⟨_, by (simp only [Ent.val]; go_simp <;> exact rfl), ?_⟩
  refine Seg.step _ rfl (Or.inl ⟨by rfl, fun U hU => vp_quiet (by (have h0 := held_cell (held_after hU.1 r_p0_0) 12 _ rfl; have h1 := held_cell (held_after hU.1 r_p0_0) 13 _ rfl; go_simp <;> exact rfl))⟩) ⟨_, by (simp only [Ent.val]; go_simp <;> exact rfl), ?_⟩
  refine Seg.step _ rfl (Or.inl ⟨by rfl, fun U hU => vp_quiet (by (go_simp <;> exact rfl))⟩) ⟨_, by (simp only [Ent.val]; go_simp <;> exact rfl), ?_⟩
  refine Seg.step _ rfl (Or.inl ⟨by rfl, fun U hU => vp_quiet (by (go_simp <;> exact rfl))⟩) ⟨_, by (simp only [Ent.val]; go_simp <;> exact rfl), ?_⟩
  refine Seg.step _ rfl (Or.inl ⟨by rfl, fun U hU => vp_quiet (by (have h0 := held_cell (held_after hU.1 r_pc) 5 _ rfl; have h1 := held_cell (held_after hU.1 r_pc) 6 _ rfl; have h2 := held_cell (held_after hU.1 r_pc) 7 _ rfl; have h3 := held_cell (held_after hU.1 r_pc) 8 _ rfl; have h4 := held_cell (held_after hU.1 r_pc) 9 _ rfl; go_simp <;> exact rfl))⟩) ⟨_, by (simp only [Ent.val]; go_simp <;> exact rfl), ?_⟩
  refine Seg.stop (fun U4 hU hk => ?_)
  clear hk hge hne
  replace r_p0_0 := held_after hU r_p0_0
  replace r_pc := held_after hU r_pc
  replace hP := hP.below hU
  have sz4 := hU.size
  replace hB := bthen hB hU
  clear hU
  have kt := hid (fun U h => rnum_any V.heap.size B E5 (M ++ [S4]) n2i n2n 1 3 2 0 99999 U h (by first | omega | (simp; omega)) hlB bn2.out (by decide))
  rw [h5.out] at kt
  dsimp only at kt
  rw [hS5.out] at kt
  refine Seg.only (m := 6) (k := 0) rfl (by kernel_rfl) (by rfl) (fun K hK => ?_)
  go_simp
  refine (kt.out _ hP).mono ?_
  rintro r Y6 ⟨rfl, hP2, hf2⟩
  replace r_p0_0 := hP.besides hf2 r_p0_0 neg (by decide)
  replace r_pc := hP.besides hf2 r_pc nec (by decide)
  replace hB := hB.trans (hf2.below.mono (by omega))
  obtain ⟨E6, hE6⟩ : ∃ E, kp E5 x5 = E := ⟨_, rfl⟩
  rw [hE6] at hP2
  replace hE6 := hid hE6
  replace hP := (show RowW Y6 V.heap.size B E6 (M ++ [S4, S5]) from (by first | exact hP2 | simpa only [List.append_assoc, List.cons_append, List.nil_append] using hP2))
  clear hP2 hf2
  refine hK _ _ (Seg.finish ?_ _)
  clear hK kt
  go_upto_region 9 with (fail)
  apply wp_region_part (w := Y6) (S := [.q [], .q [], .q [], .q [], .q [], .q []]) (E := [.q0 _, .q0 _, .q0 _, .q0 _, .q0 _, .q0 _]) 6 1 (by kernel_rfl) rfl (by kernel_rfl) rfl rfl rfl
  intro th hge hne
  refine Seg.step _ rfl (Or.inl ⟨by rfl, fun U hU => vp_quiet (by (go_simp <;> exact rfl))⟩) ⟨_, by (simp only [Ent.val]; go_simp <;> exact rfl), ?_⟩
  refine Seg.step _ rfl (Or.inl ⟨by rfl, fun U hU => vp_quiet (by (go_simp <;> exact rfl))⟩) ⟨_, by (simp only [Ent.val]; go_simp <;> exact rfl), ?_⟩
  refine Seg.step _ rfl (Or.inl ⟨by rfl, fun U hU => vp_quiet (by (have h0 := held_cell (held_after hU.1 r_p0_0) 14 _ rfl; have h1 := held_cell (held_after hU.1 r_p0_0) 15 _ rfl; go_simp <;> exact rfl))⟩) ⟨_, by (simp only [Ent.val]; go_simp <;> exact rfl), ?_⟩
  refine Seg.step _ rfl (Or.inl ⟨by rfl, fun U hU => vp_quiet (by (go_simp <;> exact rfl))⟩) ⟨_, by (simp only [Ent.val]; go_simp <;> exact rfl), ?_⟩
  refine Seg.step _ rfl (Or.inl ⟨by rfl, fun U hU => vp_quiet (by (go_simp <;> exact rfl))⟩) ⟨_, by (simp only [Ent.val]; go_simp <;> exact rfl), ?_⟩
  refine Seg.step _ rfl (Or.inl ⟨by rfl, fun U hU => vp_quiet (by (have h0 := held_cell (held_after hU.1 r_pc) 10 _ rfl; have h1 := held_cell (held_after hU.1 r_pc) 11 _ rfl; have h2 := held_cell (held_after hU.1 r_pc) 12 _ rfl; have h3 := held_cell (held_after hU.1 r_pc) 13 _ rfl; have h4 := held_cell (held_after hU.1 r_pc) 14 _ rfl; go_simp <;> exact rfl))⟩) ⟨_, by (simp only [Ent.val]; go_simp <;> exact rfl), ?_⟩
  refine Seg.stop (fun U5 hU hk => ?_)
  clear hk hge hne
  replace r_p0_0 := held_after hU r_p0_0
  replace r_pc := held_after hU r_pc
  replace hP := hP.below hU
  have sz5 := hU.size
  replace hB := bthen hB hU
  clear hU
  have kt := hid (fun U h => rnum_any V.heap.size B E6 (M ++ [S4, S5]) n3i n3n 1 6 1 (-9999999) 9999999 U h (by first | omega | (simp; omega)) hlB bn3.out (by decide))
  rw [h6.out] at kt
  dsimp only at kt
  rw [hS6.out] at kt
  refine Seg.only (m := 6) (k := 0) rfl (by kernel_rfl) (by rfl) (fun K hK => ?_)
  go_simp
  refine (kt.out _ hP).mono ?_
  rintro r Y7 ⟨rfl, hP2, hf2⟩
  replace r_p0_0 := hP.besides hf2 r_p0_0 neg (by decide)
  replace r_pc := hP.besides hf2 r_pc nec (by decide)
  replace hB := hB.trans (hf2.below.mono (by omega))
  obtain ⟨E7, hE7⟩ : ∃ E, kp E6 x6 = E := ⟨_, rfl⟩
  rw [hE7] at hP2
  replace hE7 := hid hE7
  replace hP := (show RowW Y7 V.heap.size B E7 (M ++ [S4, S5, S6]) from (by first | exact hP2 | simpa only [List.append_assoc, List.cons_append, List.nil_append] using hP2))
  clear hP2 hf2
  refine hK _ _ (Seg.finish ?_ _)
  clear hK kt
  go_upto_region 10 with (fail)
  have c_0 := held_cell r_p0_0 14 _ rfl
  have c_1 := held_cell r_p0_0 15 _ rfl
  have kt := hid (fun U h => rputunit_any V.heap.size B E7 (M ++ [S4, S5, S6]) n3i n3n ⟨#[77]⟩ U h (by first | omega | (simp; omega)) hlB)
  rw [hu6.out] at kt
  go_wp2_with fail
  refine (kt.out _ hP).mono ?_
  clear c_0 c_1 kt
  rintro r Y8 ⟨rfl, hP2, hf2⟩
  replace r_p0_0 := hP.besides hf2 r_p0_0 neg (by decide)
  replace r_pc := hP.besides hf2 r_pc nec (by decide)
  replace hB := hB.trans (hf2.below.mono (by omega))
  replace hP := (show RowW Y8 V.heap.size B E7 (M ++ [S4, S5, S6, u6]) from (by first | exact hP2 | simpa only [List.append_assoc, List.cons_append, List.nil_append] using hP2))
  clear hP2 hf2
  go_upto_region 11 with (fail)
  apply wp_region_part (w := Y8) (S := [.q [], .q [], .q [], .q [], .q [], .q []]) (E := [.q0 _, .q0 _, .q0 _, .q0 _, .q0 _, .q0 _]) 6 1 (by kernel_rfl) rfl (by kernel_rfl) rfl rfl rfl
  intro th hge hne
  refine Seg.step _ rfl (Or.inl ⟨by rfl, fun U hU => vp_quiet (by (go_simp <;> exact rfl))⟩) ⟨_, by (simp only [Ent.val]; go_simp <;> exact rfl), ?_⟩
  refine Seg.step _ rfl (Or.inl ⟨by rfl, fun U hU => vp_quiet (by (go_simp <;> exact rfl))⟩) ⟨_, by (simp only [Ent.val]; go_simp <;> exact rfl), ?_⟩
  refine Seg.step _ rfl (Or.inl ⟨by rfl, fun U hU => vp_quiet (by (have h0 := held_cell (held_after hU.1 r_p0_0) 16 _ rfl; have h1 := held_cell (held_after hU.1 r_p0_0) 17 _ rfl; go_simp <;> exact rfl))⟩) ⟨_, by (simp only [Ent.val]; go_simp <;> exact rfl), ?_⟩
  refine Seg.step _ rfl (Or.inl ⟨by rfl, fun U hU => vp_quiet (by (go_simp <;> exact rfl))⟩) ⟨_, by (simp only [Ent.val]; go_simp <;> exact rfl), ?_⟩
  refine Seg.step _ rfl (Or.inl ⟨by rfl, fun U hU => vp_quiet (by (go_simp <;> exact rfl))⟩) ⟨_, by (simp only [Ent.val]; go_simp <;> exact rfl), ?_⟩
  refine Seg.step _ rfl (Or.inl ⟨by rfl, fun U hU => vp_quiet (by (have h0 := held_cell (held_after hU.1 r_pc) 15 _ rfl; have h1 := held_cell (held_after hU.1 r_pc) 16 _ rfl; have h2 := held_cell (held_after hU.1 r_pc) 17 _ rfl; have h3 := held_cell (held_after hU.1 r_pc) 18 _ rfl; have h4 := held_cell (held_after hU.1 r_pc) 19 _ rfl; go_simp <;> exact rfl))⟩) ⟨_, by (simp only [Ent.val]; go_simp <;> exact rfl), ?_⟩
  refine Seg.stop (fun U6 hU hk => ?_)
  clear hk hge hne
  replace r_p0_0 := held_after hU r_p0_0
  replace r_pc := held_after hU r_pc
  replace hP := hP.below hU
  have sz6 := hU.size
  replace hB := bthen hB hU
  clear hU
  have kt := hid (fun U h => rnum_any V.heap.size B E7 (M ++ [S4, S5, S6, u6]) n4i n4n 1 4 1 (-99999) 99999 U h (by first | omega | (simp; omega)) hlB bn4.out (by decide))
  rw [h7.out] at kt
  dsimp only at kt
  rw [hS7.out] at kt
  refine Seg.only (m := 6) (k := 0) rfl (by kernel_rfl) (by rfl) (fun K hK => ?_)
  go_simp
  refine (kt.out _ hP).mono ?_
  rintro r Y9 ⟨rfl, hP2, hf2⟩
  replace r_p0_0 := hP.besides hf2 r_p0_0 neg (by decide)
  replace r_pc := hP.besides hf2 r_pc nec (by decide)
  replace hB := hB.trans (hf2.below.mono (by omega))
  obtain ⟨E9, hE9⟩ : ∃ E, kp E7 x7 = E := ⟨_, rfl⟩
  rw [hE9] at hP2
  replace hE9 := hid hE9
  replace hP := (show RowW Y9 V.heap.size B E9 (M ++ [S4, S5, S6, u6, S7]) from (by first | exact hP2 | simpa only [List.append_assoc, List.cons_append, List.nil_append] using hP2))
  clear hP2 hf2
  refine hK _ _ (Seg.finish ?_ _)
  clear hK kt
  go_upto_region 12 with (fail)
  have c_0 := held_cell r_p0_0 16 _ rfl
  have c_1 := held_cell r_p0_0 17 _ rfl
  have kt := hid (fun U h => rputunit_any V.heap.size B E9 (M ++ [S4, S5, S6, u6, S7]) n4i n4n ⟨#[77]⟩ U h (by first | omega | (simp; omega)) hlB)
  rw [hu7.out] at kt
  go_wp2_with fail
  refine (kt.out _ hP).mono ?_
  clear c_0 c_1 kt
  rintro r Y10 ⟨rfl, hP2, hf2⟩
  replace r_p0_0 := hP.besides hf2 r_p0_0 neg (by decide)
  replace r_pc := hP.besides hf2 r_pc nec (by decide)
  replace hB := hB.trans (hf2.below.mono (by omega))
  replace hP := (show RowW Y10 V.heap.size B E9 (M ++ [S4, S5, S6, u6, S7, u7]) from (by first | exact hP2 | simpa only [List.append_assoc, List.cons_append, List.nil_append] using hP2))
  clear hP2 hf2
  go_upto_region 13 with (fail)
  apply wp_region_part (w := Y10) (S := [.q [], .q [], .q [], .q [], .q [], .q []]) (E := [.q0 _, .q0 _, .q0 _, .q0 _, .q0 _, .q0 _]) 6 1 (by kernel_rfl) rfl (by kernel_rfl) rfl rfl rfl
  intro th hge hne
  refine Seg.step _ rfl (Or.inl ⟨by rfl, fun U hU => vp_quiet (by (go_simp <;> exact rfl))⟩) ⟨_, by (simp only [Ent.val]; go_simp <;> exact rfl), ?_⟩
  refine Seg.step _ rfl (Or.inl ⟨by rfl, fun U hU => vp_quiet (by (go_simp <;> exact rfl))⟩) ⟨_, by (simp only [Ent.val]; go_simp <;> exact rfl), ?_⟩
  refine Seg.step _ rfl (Or.inl ⟨by rfl, fun U hU => vp_quiet (by (have h0 := held_cell (held_after hU.1 r_p0_0) 18 _ rfl; have h1 := held_cell (held_after hU.1 r_p0_0) 19 _ rfl; go_simp <;> exact rfl))⟩) ⟨_, by (simp only [Ent.val]; go_simp <;> exact rfl), ?_⟩
  refine Seg.step _ rfl (Or.inl ⟨by rfl, fun U hU => vp_quiet (by (go_simp <;> exact rfl))⟩) ⟨_, by (simp only [Ent.val]; go_simp <;> exact rfl), ?_⟩
  refine Seg.step _ rfl (Or.inl ⟨by rfl, fun U hU => vp_quiet (by (go_simp <;> exact rfl))⟩) ⟨_, by (simp only [Ent.val]; go_simp <;> exact rfl), ?_⟩
  refine Seg.step _ rfl (Or.inl ⟨by rfl, fun U hU => vp_quiet (by (have h0 := held_cell (held_after hU.1 r_pc) 20 _ rfl; have h1 := held_cell (held_after hU.1 r_pc) 21 _ rfl; have h2 := held_cell (held_after hU.1 r_pc) 22 _ rfl; have h3 := held_cell (held_after hU.1 r_pc) 23 _ rfl; have h4 := held_cell (held_after hU.1 r_pc) 24 _ rfl; go_simp <;> exact rfl))⟩) ⟨_, by (simp only [Ent.val]; go_simp <;> exact rfl), ?_⟩
  refine Seg.stop (fun U7 hU hk => ?_)
  clear hk hge hne
  replace r_p0_0 := held_after hU r_p0_0
  replace r_pc := held_after hU r_pc
  replace hP := hP.below hU
  have sz7 := hU.size
  replace hB := bthen hB hU
  clear hU
  have kt := hid (fun U h => rnum_any V.heap.size B E9 (M ++ [S4, S5, S6, u6, S7, u7]) n5i n5n 1 4 1 0 99999 U h (by first | omega | (simp; omega)) hlB bn5.out (by decide))
  rw [h8.out] at kt
  dsimp only at kt
  rw [hS8.out] at kt
  refine Seg.only (m := 6) (k := 0) rfl (by kernel_rfl) (by rfl) (fun K hK => ?_)
  go_simp
  refine (kt.out _ hP).mono ?_
  rintro r Y11 ⟨rfl, hP2, hf2⟩
  replace r_p0_0 := hP.besides hf2 r_p0_0 neg (by decide)
  replace r_pc := hP.besides hf2 r_pc nec (by decide)
  replace hB := hB.trans (hf2.below.mono (by omega))
  obtain ⟨E11, hE11⟩ : ∃ E, kp E9 x8 = E := ⟨_, rfl⟩
  rw [hE11] at hP2
  replace hE11 := hid hE11
  replace hP := (show RowW Y11 V.heap.size B E11 (M ++ [S4, S5, S6, u6, S7, u7, S8]) from (by first | exact hP2 | simpa only [List.append_assoc, List.cons_append, List.nil_append] using hP2))
  clear hP2 hf2
  refine hK _ _ (Seg.finish ?_ _)
  clear hK kt
  go_upto_region 14 with (fail)
  apply wp_region_part (w := Y11) (S := [.q [], .q [], .q [], .q [], .q [], .q []]) (E := [.q0 _, .q0 _, .q0 _, .q0 _, .q0 _, .q0 _]) 6 1 (by kernel_rfl) rfl (by kernel_rfl) rfl rfl rfl
  intro th hge hne
  refine Seg.step _ rfl (Or.inl ⟨by rfl, fun U hU => vp_quiet (by (go_simp <;> exact rfl))⟩) ⟨_, by (simp only [Ent.val]; go_simp <;> exact rfl), ?_⟩
  refine Seg.step _ rfl (Or.inl ⟨by rfl, fun U hU => vp_quiet (by (go_simp <;> exact rfl))⟩) ⟨_, by (simp only [Ent.val]; go_simp <;> exact rfl), ?_⟩
  refine Seg.step _ rfl (Or.inl ⟨by rfl, fun U hU => vp_quiet (by (have h0 := held_cell (held_after hU.1 r_p0_0) 20 _ rfl; have h1 := held_cell (held_after hU.1 r_p0_0) 21 _ rfl; go_simp <;> exact rfl))⟩) ⟨_, by (simp only [Ent.val]; go_simp <;> exact rfl), ?_⟩
  refine Seg.step _ rfl (Or.inl ⟨by rfl, fun U hU => vp_quiet (by (go_simp <;> exact rfl))⟩) ⟨_, by (simp only [Ent.val]; go_simp <;> exact rfl), ?_⟩
  refine Seg.step _ rfl (Or.inl ⟨by rfl, fun U hU => vp_quiet (by (go_simp <;> exact rfl))⟩) ⟨_, by (simp only [Ent.val]; go_simp <;> exact rfl), ?_⟩
  refine Seg.step _ rfl (Or.inl ⟨by rfl, fun U hU => vp_quiet (by (have h0 := held_cell (held_after hU.1 r_pc) 25 _ rfl; have h1 := held_cell (held_after hU.1 r_pc) 26 _ rfl; have h2 := held_cell (held_after hU.1 r_pc) 27 _ rfl; have h3 := held_cell (held_after hU.1 r_pc) 28 _ rfl; have h4 := held_cell (held_after hU.1 r_pc) 29 _ rfl; go_simp <;> exact rfl))⟩) ⟨_, by (simp only [Ent.val]; go_simp <;> exact rfl), ?_⟩
  refine Seg.stop (fun U8 hU hk => ?_)
  clear hk hge hne
  replace r_p0_0 := held_after hU r_p0_0
  replace r_pc := held_after hU r_pc
  replace hP := hP.below hU
  have sz8 := hU.size
  replace hB := bthen hB hU
  clear hU
  have kt := hid (fun U h => rnum_any V.heap.size B E11 (M ++ [S4, S5, S6, u6, S7, u7, S8]) n6i n6n 1 4 0 0 1023 U h (by first | omega | (simp; omega)) hlB bn6.out (by decide))
  rw [h9.out] at kt
  dsimp only at kt
  rw [hS9.out] at kt
  refine Seg.only (m := 6) (k := 0) rfl (by kernel_rfl) (by rfl) (fun K hK => ?_)
  go_simp
  refine (kt.out _ hP).mono ?_
  rintro r Y12 ⟨rfl, hP2, hf2⟩
  replace r_p0_0 := hP.besides hf2 r_p0_0 neg (by decide)
  replace r_pc := hP.besides hf2 r_pc nec (by decide)
  replace hB := hB.trans (hf2.below.mono (by omega))
  obtain ⟨E12, hE12⟩ : ∃ E, kp E11 x9 = E := ⟨_, rfl⟩
  rw [hE12] at hP2
  replace hE12 := hid hE12
  replace hP := (show RowW Y12 V.heap.size B E12 (M ++ [S4, S5, S6, u6, S7, u7, S8, S9]) from (by first | exact hP2 | simpa only [List.append_assoc, List.cons_append, List.nil_append] using hP2))
  clear hP2 hf2
  refine hK _ _ (Seg.finish ?_ _)
  clear hK kt
  have hfE : fE [([T], k), ([S1a, S1b], x1), ([S2a, S2b], x2), ([S3], x3), ([S4], x4), ([S5], x5), ([S6, u6], x6), ([S7, u7], x7), ([S8], x8), ([S9], x9)] = E12 := by
    show kp (kp (kp (kp (kp (kp (kp (kp (kp (kp 0 k) x1) x2) x3) x4) x5) x6) x7) x8) x9 = _
    rw [hE1.out, hE2.out, hE3.out, hE4.out, hE5.out, hE6.out, hE7.out, hE9.out, hE11.out, hE12.out]
  have hz : E12 = 0 → (M ++ [S4, S5, S6, u6, S7, u7, S8, S9]) = fL [([T], k), ([S1a, S1b], x1), ([S2a, S2b], x2), ([S3], x3), ([S4], x4), ([S5], x5), ([S6, u6], x6), ([S7, u7], x7), ([S8], x8), ([S9], x9)] := by
    intro h0
    have hx := (fE_zero (e := 0) (hfE.trans h0)).2 ([S3], x3) (by simp)
    dsimp only at hx
    rw [← hM.out, if_pos hx]
    rfl
  replace hz := hid hz
  replace hfE := hid hfE
  have kd := hid (fun U h => rdone_any V.heap.size B E12 (M ++ [S4, S5, S6, u6, S7, u7, S8, S9]) U h (by simp; omega))
  go_wp2_with fail
  refine (kd.out _ hP).mono ?_
  rintro r V9 ⟨a9, c9, rfl, g1, g2, g3⟩
  have hD := (show DnOk w (fE [([T], k), ([S1a, S1b], x1), ([S2a, S2b], x2), ([S3], x3), ([S4], x4), ([S5], x5), ([S6, u6], x6), ([S7, u7], x7), ([S8], x8), ([S9], x9)]) (fL [([T], k), ([S1a, S1b], x1), ([S2a, S2b], x2), ([S3], x3), ([S4], x4), ([S5], x5), ([S6, u6], x6), ([S7, u7], x7), ([S8], x8), ([S9], x9)]) (.returned (.tuple #[.slice a9 (if E12 = 0 then (M ++ [S4, S5, S6, u6, S7, u7, S8, S9]) else []).length c9, .int .i64 E12])) V9 from (by rw [hfE.out]; exact DnOk.congr hz.out ⟨a9, c9, rfl, g1, g2, bthen hB g3⟩))
  obtain ⟨n9, hn9⟩ : ∃ n, (if E12 = 0 then (M ++ [S4, S5, S6, u6, S7, u7, S8, S9]) else []).length = n := ⟨_, rfl⟩
  rw [hn9] at hD ⊢
  clear hn9
  replace hD := hid hD
  clear g3 g1 g2 hB
  go_wp2_with fail
  go_ret2
  exact hD.out

end Go.Proofs.YtiokoakamcihcaaGreatDoor
