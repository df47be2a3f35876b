/- Package gga: the small functions. -/
import Derived.Test.YtiokoakamcihcaaGreatDoorRow5
import Derived.Test.YtiokoakamcihcaaGreatDoorClock11
import Derived.Test.YtiokoakamcihcaaGreatDoorClock9
import Derived.Deep.DeepCutAuto
namespace Go.Proofs.YtiokoakamcihcaaGreatDoor
open Go.ChangeShapes Go.WideShapes Go.ChangeAt Go.RowKit
set_option linter.unusedVariables false
set_option linter.unusedSimpArgs false

/-- One digit, as a text, and why it is none. -/
def dgP (n lo hi : Int) : List Nat × Int := if n < lo ∨ hi < n then ([], 5) else ([48 + n.toNat], 0)
/-- The digit that a text is, and why it is none. -/
def dgS (s : ByteArray) (lo hi : Int) : Int × Int := if s.size = 1 ∧ 48 ≤ (sb s).getD 0 0 ∧ (sb s).getD 0 0 ≤ 57 then (((sb s).getD 0 0 : Int) - 48, if ((sb s).getD 0 0 : Int) - 48 < lo ∨ hi < ((sb s).getD 0 0 : Int) - 48 then 5 else 0) else (0, 3)
/-- What is wrong with a unit behind a number. -/
def unE (s u : ByteArray) (is : Bool) : Int := if s ≠ u ∧ (s.size ≠ 0 ∨ is = true) then 3 else 0
theorem takeV_form (l : List Nat) : ∃ (b : Bool) (h m s c k : Int), takeV l = .tuple #[.agg #[.bool b, .int .i64 h, .int .i64 m, .int .i64 s, .int .i64 c], .int .i64 k] ∧ 0 ≤ k ∧ k ≤ 9 ∧ (k ≠ 0 → b = false ∧ h = 0 ∧ m = 0 ∧ s = 0 ∧ c = 0) := by
  unfold takeV clkNo
  split
  · exact ⟨_, _, _, _, _, _, rfl, by decide, by decide, by decide⟩
  · split
    · exact ⟨_, _, _, _, _, _, rfl, by decide, by decide, by decide⟩
    · split
      · split
        · exact ⟨_, _, _, _, _, _, rfl, by decide, by decide, fun h => absurd rfl h⟩
        · exact ⟨_, _, _, _, _, _, rfl, by decide, by decide, by decide⟩
      · exact ⟨_, _, _, _, _, _, rfl, by decide, by decide, by decide⟩
theorem putV_form (b : Bool) (h m s c : Int) : ∃ (S : ByteArray) (k : Int), putV b h m s c = .tuple #[.string S, .int .i64 k] ∧ 0 ≤ k ∧ k ≤ 9 := by
  unfold putV
  split
  · split
    · exact ⟨_, _, rfl, by decide, by decide⟩
    · exact ⟨_, _, rfl, by decide, by decide⟩
  · exact ⟨_, _, rfl, by decide, by decide⟩
theorem etextC (B : Nat) (e : Int) (s : ByteArray) (R : List ByteArray) (w : World) (hP : EyeIn w B e (s :: R)) (hl : (s :: R).length ≤ 1000) : Calls Tryz.prog 61 #[.pointer (some ⟨B, 0, none⟩)] w fun r w' => r = .returned (.string s) ∧ EyeIn w' B e R ∧ Eff B w w' := etext_any B e (s :: R) w hP hl
theorem rtextC (B : Nat) (e : Int) (s : ByteArray) (R : List ByteArray) (w : World) (hP : RowR w B e (s :: R)) : Calls Tryz.prog 67 #[.pointer (some ⟨B, 0, none⟩)] w fun r w' => r = .returned (.string s) ∧ RowR w' B e R ∧ Eff B w w' := rtaketext_any B e (s :: R) w hP
set_option maxRecDepth 100000 in
set_option maxHeartbeats 2000000 in
theorem satsCol_any (w : World) : Calls Tryz.prog 21 #[] w fun r w' => r = .returned (.agg #[.int .i64 1, .int .i64 2, .int .i64 0, .int .i64 0, .int .i64 99]) ∧ After w w' := by
  go_enter Tryz.func21, Tryz.ntmps21
  go_upto_region 0 with (fail)
  apply wp_region_seg0 (w := w) (S := [.al 1000]) (E := [.al ((fun p => .pointer (some ⟨p, 0, none⟩)), _) 1000]) rfl (by kernel_rfl) rfl rfl
  intro th hge hne
  refine Seg.step _ rfl ⟨by rfl, fun U hU => ?_⟩ ?_
  · go_simp; exact vp_alloc rfl rfl rfl
  refine ⟨_, by (simp only [Ent.val]; go_simp <;> exact rfl), ?_⟩
  refine Seg.stop (fun U1 hU hk => ?_)
  have nb0 := hge 0 _ _ rfl
  have rb0 := (hk 0 _ _ rfl trivial).1.2 (by simp)
  clear hk hge hne
  generalize th (0 + 0) = p0_0 at *
  dsimp only at rb0
  have r_p0_0 := rb0
  clear rb0
  have n_p0_0 := nb0
  clear nb0
  have sz1 := hU.size
  have hB : Below w.heap.size w U1 := hU
  clear hU
  have g0 := held_free r_p0_0 0
  have g1 := held_free r_p0_0 1
  have g2 := held_free r_p0_0 2
  have g3 := held_free r_p0_0 3
  have g4 := held_free r_p0_0 4
  have z0 := held_cell r_p0_0 0 _ rfl
  have z1 := held_cell r_p0_0 1 _ rfl
  have z2 := held_cell r_p0_0 2 _ rfl
  have z3 := held_cell r_p0_0 3 _ rfl
  have z4 := held_cell r_p0_0 4 _ rfl
  obtain ⟨W9, hW9, ya, yO⟩ := st5 r_p0_0 (.int .i64 1) (.int .i64 2) (.int .i64 0) (.int .i64 0) (.int .i64 99)
  have hB9 := hid (belowS hB yO (by omega))
  have ez0 := held_cell ya 0 _ rfl
  have ez1 := held_cell ya 1 _ rfl
  have ez2 := held_cell ya 2 _ rfl
  have ez3 := held_cell ya 3 _ rfl
  have ez4 := held_cell ya 4 _ rfl
  clear ya yO r_p0_0 hB
  go_wp2_with fail
  refine bodyPost_ret (v := .agg #[.int .i64 1, .int .i64 2, .int .i64 0, .int .i64 0, .int .i64 99]) (by simp [results, Tryz.results21, go_sem, ez0, ez1, ez2, ez3, ez4]) rfl ⟨rfl, hB9.out⟩
set_option maxRecDepth 100000 in
set_option maxHeartbeats 2000000 in
theorem hdopCol_any (w : World) : Calls Tryz.prog 22 #[] w fun r w' => r = .returned (.agg #[.int .i64 1, .int .i64 3, .int .i64 2, .int .i64 0, .int .i64 99999]) ∧ After w w' := by
  go_enter Tryz.func22, Tryz.ntmps22
  go_upto_region 0 with (fail)
  apply wp_region_seg0 (w := w) (S := [.al 1000]) (E := [.al ((fun p => .pointer (some ⟨p, 0, none⟩)), _) 1000]) rfl (by kernel_rfl) rfl rfl
  intro th hge hne
  refine Seg.step _ rfl ⟨by rfl, fun U hU => ?_⟩ ?_
  · go_simp; exact vp_alloc rfl rfl rfl
  refine ⟨_, by (simp only [Ent.val]; go_simp <;> exact rfl), ?_⟩
  refine Seg.stop (fun U1 hU hk => ?_)
  have nb0 := hge 0 _ _ rfl
  have rb0 := (hk 0 _ _ rfl trivial).1.2 (by simp)
  clear hk hge hne
  generalize th (0 + 0) = p0_0 at *
  dsimp only at rb0
  have r_p0_0 := rb0
  clear rb0
  have n_p0_0 := nb0
  clear nb0
  have sz1 := hU.size
  have hB : Below w.heap.size w U1 := hU
  clear hU
  have g0 := held_free r_p0_0 0
  have g1 := held_free r_p0_0 1
  have g2 := held_free r_p0_0 2
  have g3 := held_free r_p0_0 3
  have g4 := held_free r_p0_0 4
  have z0 := held_cell r_p0_0 0 _ rfl
  have z1 := held_cell r_p0_0 1 _ rfl
  have z2 := held_cell r_p0_0 2 _ rfl
  have z3 := held_cell r_p0_0 3 _ rfl
  have z4 := held_cell r_p0_0 4 _ rfl
  obtain ⟨W9, hW9, ya, yO⟩ := st5 r_p0_0 (.int .i64 1) (.int .i64 3) (.int .i64 2) (.int .i64 0) (.int .i64 99999)
  have hB9 := hid (belowS hB yO (by omega))
  have ez0 := held_cell ya 0 _ rfl
  have ez1 := held_cell ya 1 _ rfl
  have ez2 := held_cell ya 2 _ rfl
  have ez3 := held_cell ya 3 _ rfl
  have ez4 := held_cell ya 4 _ rfl
  clear ya yO r_p0_0 hB
  go_wp2_with fail
  refine bodyPost_ret (v := .agg #[.int .i64 1, .int .i64 3, .int .i64 2, .int .i64 0, .int .i64 99999]) (by simp [results, Tryz.results22, go_sem, ez0, ez1, ez2, ez3, ez4]) rfl ⟨rfl, hB9.out⟩
set_option maxRecDepth 100000 in
set_option maxHeartbeats 2000000 in
theorem altCol_any (w : World) : Calls Tryz.prog 23 #[] w fun r w' => r = .returned (.agg #[.int .i64 1, .int .i64 6, .int .i64 1, .int .i64 (-9999999), .int .i64 9999999]) ∧ After w w' := by
  go_enter Tryz.func23, Tryz.ntmps23
  go_upto_region 0 with (fail)
  apply wp_region_seg0 (w := w) (S := [.al 1000]) (E := [.al ((fun p => .pointer (some ⟨p, 0, none⟩)), _) 1000]) rfl (by kernel_rfl) rfl rfl
  intro th hge hne
  refine Seg.step _ rfl ⟨by rfl, fun U hU => ?_⟩ ?_
  · go_simp; exact vp_alloc rfl rfl rfl
  refine ⟨_, by (simp only [Ent.val]; go_simp <;> exact rfl), ?_⟩
  refine Seg.stop (fun U1 hU hk => ?_)
  have nb0 := hge 0 _ _ rfl
  have rb0 := (hk 0 _ _ rfl trivial).1.2 (by simp)
  clear hk hge hne
  generalize th (0 + 0) = p0_0 at *
  dsimp only at rb0
  have r_p0_0 := rb0
  clear rb0
  have n_p0_0 := nb0
  clear nb0
  have sz1 := hU.size
  have hB : Below w.heap.size w U1 := hU
  clear hU
  have g0 := held_free r_p0_0 0
  have g1 := held_free r_p0_0 1
  have g2 := held_free r_p0_0 2
  have g3 := held_free r_p0_0 3
  have g4 := held_free r_p0_0 4
  have z0 := held_cell r_p0_0 0 _ rfl
  have z1 := held_cell r_p0_0 1 _ rfl
  have z2 := held_cell r_p0_0 2 _ rfl
  have z3 := held_cell r_p0_0 3 _ rfl
  have z4 := held_cell r_p0_0 4 _ rfl
  obtain ⟨W9, hW9, ya, yO⟩ := st5 r_p0_0 (.int .i64 1) (.int .i64 6) (.int .i64 1) (.int .i64 (-9999999)) (.int .i64 9999999)
  have hB9 := hid (belowS hB yO (by omega))
  have ez0 := held_cell ya 0 _ rfl
  have ez1 := held_cell ya 1 _ rfl
  have ez2 := held_cell ya 2 _ rfl
  have ez3 := held_cell ya 3 _ rfl
  have ez4 := held_cell ya 4 _ rfl
  clear ya yO r_p0_0 hB
  go_wp2_with fail
  refine bodyPost_ret (v := .agg #[.int .i64 1, .int .i64 6, .int .i64 1, .int .i64 (-9999999), .int .i64 9999999]) (by simp [results, Tryz.results23, go_sem, ez0, ez1, ez2, ez3, ez4]) rfl ⟨rfl, hB9.out⟩
set_option maxRecDepth 100000 in
set_option maxHeartbeats 2000000 in
theorem geoidCol_any (w : World) : Calls Tryz.prog 24 #[] w fun r w' => r = .returned (.agg #[.int .i64 1, .int .i64 4, .int .i64 1, .int .i64 (-99999), .int .i64 99999]) ∧ After w w' := by
  go_enter Tryz.func24, Tryz.ntmps24
  go_upto_region 0 with (fail)
  apply wp_region_seg0 (w := w) (S := [.al 1000]) (E := [.al ((fun p => .pointer (some ⟨p, 0, none⟩)), _) 1000]) rfl (by kernel_rfl) rfl rfl
  intro th hge hne
  refine Seg.step _ rfl ⟨by rfl, fun U hU => ?_⟩ ?_
  · go_simp; exact vp_alloc rfl rfl rfl
  refine ⟨_, by (simp only [Ent.val]; go_simp <;> exact rfl), ?_⟩
  refine Seg.stop (fun U1 hU hk => ?_)
  have nb0 := hge 0 _ _ rfl
  have rb0 := (hk 0 _ _ rfl trivial).1.2 (by simp)
  clear hk hge hne
  generalize th (0 + 0) = p0_0 at *
  dsimp only at rb0
  have r_p0_0 := rb0
  clear rb0
  have n_p0_0 := nb0
  clear nb0
  have sz1 := hU.size
  have hB : Below w.heap.size w U1 := hU
  clear hU
  have g0 := held_free r_p0_0 0
  have g1 := held_free r_p0_0 1
  have g2 := held_free r_p0_0 2
  have g3 := held_free r_p0_0 3
  have g4 := held_free r_p0_0 4
  have z0 := held_cell r_p0_0 0 _ rfl
  have z1 := held_cell r_p0_0 1 _ rfl
  have z2 := held_cell r_p0_0 2 _ rfl
  have z3 := held_cell r_p0_0 3 _ rfl
  have z4 := held_cell r_p0_0 4 _ rfl
  obtain ⟨W9, hW9, ya, yO⟩ := st5 r_p0_0 (.int .i64 1) (.int .i64 4) (.int .i64 1) (.int .i64 (-99999)) (.int .i64 99999)
  have hB9 := hid (belowS hB yO (by omega))
  have ez0 := held_cell ya 0 _ rfl
  have ez1 := held_cell ya 1 _ rfl
  have ez2 := held_cell ya 2 _ rfl
  have ez3 := held_cell ya 3 _ rfl
  have ez4 := held_cell ya 4 _ rfl
  clear ya yO r_p0_0 hB
  go_wp2_with fail
  refine bodyPost_ret (v := .agg #[.int .i64 1, .int .i64 4, .int .i64 1, .int .i64 (-99999), .int .i64 99999]) (by simp [results, Tryz.results24, go_sem, ez0, ez1, ez2, ez3, ez4]) rfl ⟨rfl, hB9.out⟩
set_option maxRecDepth 100000 in
set_option maxHeartbeats 2000000 in
theorem ageCol_any (w : World) : Calls Tryz.prog 25 #[] w fun r w' => r = .returned (.agg #[.int .i64 1, .int .i64 4, .int .i64 1, .int .i64 0, .int .i64 99999]) ∧ After w w' := by
  go_enter Tryz.func25, Tryz.ntmps25
  go_upto_region 0 with (fail)
  apply wp_region_seg0 (w := w) (S := [.al 1000]) (E := [.al ((fun p => .pointer (some ⟨p, 0, none⟩)), _) 1000]) rfl (by kernel_rfl) rfl rfl
  intro th hge hne
  refine Seg.step _ rfl ⟨by rfl, fun U hU => ?_⟩ ?_
  · go_simp; exact vp_alloc rfl rfl rfl
  refine ⟨_, by (simp only [Ent.val]; go_simp <;> exact rfl), ?_⟩
  refine Seg.stop (fun U1 hU hk => ?_)
  have nb0 := hge 0 _ _ rfl
  have rb0 := (hk 0 _ _ rfl trivial).1.2 (by simp)
  clear hk hge hne
  generalize th (0 + 0) = p0_0 at *
  dsimp only at rb0
  have r_p0_0 := rb0
  clear rb0
  have n_p0_0 := nb0
  clear nb0
  have sz1 := hU.size
  have hB : Below w.heap.size w U1 := hU
  clear hU
  have g0 := held_free r_p0_0 0
  have g1 := held_free r_p0_0 1
  have g2 := held_free r_p0_0 2
  have g3 := held_free r_p0_0 3
  have g4 := held_free r_p0_0 4
  have z0 := held_cell r_p0_0 0 _ rfl
  have z1 := held_cell r_p0_0 1 _ rfl
  have z2 := held_cell r_p0_0 2 _ rfl
  have z3 := held_cell r_p0_0 3 _ rfl
  have z4 := held_cell r_p0_0 4 _ rfl
  obtain ⟨W9, hW9, ya, yO⟩ := st5 r_p0_0 (.int .i64 1) (.int .i64 4) (.int .i64 1) (.int .i64 0) (.int .i64 99999)
  have hB9 := hid (belowS hB yO (by omega))
  have ez0 := held_cell ya 0 _ rfl
  have ez1 := held_cell ya 1 _ rfl
  have ez2 := held_cell ya 2 _ rfl
  have ez3 := held_cell ya 3 _ rfl
  have ez4 := held_cell ya 4 _ rfl
  clear ya yO r_p0_0 hB
  go_wp2_with fail
  refine bodyPost_ret (v := .agg #[.int .i64 1, .int .i64 4, .int .i64 1, .int .i64 0, .int .i64 99999]) (by simp [results, Tryz.results25, go_sem, ez0, ez1, ez2, ez3, ez4]) rfl ⟨rfl, hB9.out⟩
set_option maxRecDepth 100000 in
set_option maxHeartbeats 2000000 in
theorem atCol_any (w : World) : Calls Tryz.prog 26 #[] w fun r w' => r = .returned (.agg #[.int .i64 1, .int .i64 4, .int .i64 0, .int .i64 0, .int .i64 1023]) ∧ After w w' := by
  go_enter Tryz.func26, Tryz.ntmps26
  go_upto_region 0 with (fail)
  apply wp_region_seg0 (w := w) (S := [.al 1000]) (E := [.al ((fun p => .pointer (some ⟨p, 0, none⟩)), _) 1000]) rfl (by kernel_rfl) rfl rfl
  intro th hge hne
  refine Seg.step _ rfl ⟨by rfl, fun U hU => ?_⟩ ?_
  · go_simp; exact vp_alloc rfl rfl rfl
  refine ⟨_, by (simp only [Ent.val]; go_simp <;> exact rfl), ?_⟩
  refine Seg.stop (fun U1 hU hk => ?_)
  have nb0 := hge 0 _ _ rfl
  have rb0 := (hk 0 _ _ rfl trivial).1.2 (by simp)
  clear hk hge hne
  generalize th (0 + 0) = p0_0 at *
  dsimp only at rb0
  have r_p0_0 := rb0
  clear rb0
  have n_p0_0 := nb0
  clear nb0
  have sz1 := hU.size
  have hB : Below w.heap.size w U1 := hU
  clear hU
  have g0 := held_free r_p0_0 0
  have g1 := held_free r_p0_0 1
  have g2 := held_free r_p0_0 2
  have g3 := held_free r_p0_0 3
  have g4 := held_free r_p0_0 4
  have z0 := held_cell r_p0_0 0 _ rfl
  have z1 := held_cell r_p0_0 1 _ rfl
  have z2 := held_cell r_p0_0 2 _ rfl
  have z3 := held_cell r_p0_0 3 _ rfl
  have z4 := held_cell r_p0_0 4 _ rfl
  obtain ⟨W9, hW9, ya, yO⟩ := st5 r_p0_0 (.int .i64 1) (.int .i64 4) (.int .i64 0) (.int .i64 0) (.int .i64 1023)
  have hB9 := hid (belowS hB yO (by omega))
  have ez0 := held_cell ya 0 _ rfl
  have ez1 := held_cell ya 1 _ rfl
  have ez2 := held_cell ya 2 _ rfl
  have ez3 := held_cell ya 3 _ rfl
  have ez4 := held_cell ya 4 _ rfl
  clear ya yO r_p0_0 hB
  go_wp2_with fail
  refine bodyPost_ret (v := .agg #[.int .i64 1, .int .i64 4, .int .i64 0, .int .i64 0, .int .i64 1023]) (by simp [results, Tryz.results26, go_sem, ez0, ez1, ez2, ez3, ez4]) rfl ⟨rfl, hB9.out⟩
set_option maxRecDepth 100000 in
set_option maxHeartbeats 4000000 in
theorem plong_any (base B : Nat) (e : Int) (L : List ByteArray) (is : Bool) (m W M F lo hi : Int) (w : World) (hP : PenIn w base B e L) (hl : L.length ≤ 999) (hb : base ≤ B) (hm : (-9223372036854775808 ≤ m ∧ m ≤ 9223372036854775807)) (hlb : (-9223372036854775808 ≤ lo ∧ lo ≤ 9223372036854775807) ∧ (-9223372036854775808 ≤ hi ∧ hi ≤ 9223372036854775807)) (hT : Tab w) : Calls Tryz.prog 17 #[.agg #[.pointer (some ⟨B, 0, none⟩)], .agg #[.bool is, .int .i64 m], .agg #[.int .i64 W, .int .i64 M, .int .i64 F, .int .i64 lo, .int .i64 hi]] w fun r w' => r = .returned (.tuple #[]) ∧ PenIn w' base B (kp e (putD is m W M F lo hi).2) (L ++ [nb (putD is m W M F lo hi).1, if is = true then ⟨#[77]⟩ else ⟨#[]⟩]) ∧ PEff base B 2 w w' := by
  have kn := hid (fun U (h : PenIn U base B e L) (ht : Tab U) => pnum_any base B e L is m W M F lo hi U h (by omega) hb hm hlb ht)
  obtain ⟨⟨PL, x⟩, hpd⟩ : ∃ r, putD is m W M F lo hi = r := ⟨_, rfl⟩
  rw [hpd] at kn
  rw [hpd]
  dsimp only at kn ⊢
  generalize nb PL = TX at *
  obtain ⟨E, hE⟩ : ∃ E, kp e x = E := ⟨_, rfl⟩
  rw [hE] at kn ⊢
  have ku := hid (fun U (u : ByteArray) (h : PenIn U base B E (L ++ [TX])) => ptext_any base B E 0 (L ++ [TX]) u U h (by rw [List.length_append]; simp; omega) hb)
  have hk0 : kp E 0 = E := by unfold kp; split <;> omega
  simp only [hk0, List.append_assoc, List.singleton_append] at ku
  clear hk0 hpd hm hlb hE
  replace hT := hid hT
  have hlt := hP.lt
  replace hP := hid hP
  go_enter Tryz.func17, Tryz.ntmps17
  go_upto_region 0 with (fail)
  apply wp_region_seg0 (w := w) (S := [.al 1000, .al 1000, .al 1000]) (E := [.al ((fun p => .pointer (some ⟨p, 0, none⟩)), _) 1000, .al ((fun p => .pointer (some ⟨p, 0, none⟩)), _) 1000, .al ((fun p => .pointer (some ⟨p, 0, none⟩)), _) 1000]) rfl (by kernel_rfl) rfl rfl
  intro th hge hne
  refine Seg.step _ rfl ⟨by rfl, fun U hU => ?_⟩ ?_
  · go_simp; exact vp_alloc rfl rfl rfl
  refine ⟨_, by (simp only [Ent.val]; go_simp <;> exact rfl), ?_⟩
  refine Seg.step _ rfl ⟨by rfl, fun U hU => ?_⟩ ?_
  · go_simp; exact vp_alloc rfl rfl rfl
  refine ⟨_, by (simp only [Ent.val]; go_simp <;> exact rfl), ?_⟩
  refine Seg.step _ rfl ⟨by rfl, fun U hU => ?_⟩ ?_
  · go_simp; exact vp_alloc rfl rfl rfl
  refine ⟨_, by (simp only [Ent.val]; go_simp <;> exact rfl), ?_⟩
  refine Seg.stop (fun U1 hU hk => ?_)
  have nb0 := hge 0 _ _ rfl
  have rb0 := (hk 0 _ _ rfl trivial).1.2 (by simp)
  have nb1 := hge 1 _ _ rfl
  have rb1 := (hk 1 _ _ rfl trivial).1.2 (by simp)
  have nb2 := hge 2 _ _ rfl
  have rb2 := (hk 2 _ _ rfl trivial).1.2 (by simp)
  have ne0_1 := hne 0 1 _ _ _ _ rfl rfl (by omega)
  have ne0_2 := hne 0 2 _ _ _ _ rfl rfl (by omega)
  have ne1_2 := hne 1 2 _ _ _ _ rfl rfl (by omega)
  clear hk hge hne
  generalize th (0 + 0) = p0_0 at *
  dsimp only at rb0
  generalize th (0 + 1) = p0_1 at *
  dsimp only at rb1
  generalize th (0 + 2) = p0_2 at *
  dsimp only at rb2
  have r_p0_0 := rb0
  clear rb0
  have n_p0_0 := nb0
  clear nb0
  have d_p0_0_p0_1 := ne0_1
  clear ne0_1
  have d_p0_0_p0_2 := ne0_2
  clear ne0_2
  have r_p0_1 := rb1
  clear rb1
  have n_p0_1 := nb1
  clear nb1
  have d_p0_1_p0_2 := ne1_2
  clear ne1_2
  have r_p0_2 := rb2
  clear rb2
  have n_p0_2 := nb2
  clear nb2
  have sz1 := hU.size
  have hB : Below w.heap.size w U1 := hU
  clear hU
  have hef := hid (PEff.after (base := base) (p := B) (j := 2) (by omega) hlt hB)
  replace hP := hid (hP.out.aft hB)
  replace hT := hid (hT.out.on hB)
  clear hB
  have r0 := hid r_p0_0
  have hb_r0 : p0_0 ≠ B := by omega
  have r1 := hid r_p0_1
  have hb_r1 : p0_1 ≠ B := by omega
  have r2 := hid r_p0_2
  have hb_r2 : p0_2 ≠ B := by omega
  clear r_p0_0 r_p0_1 r_p0_2
  have x0 := held_cell r0.out 0 _ rfl
  have z0 := held_cell r1.out 0 _ rfl
  have z1 := held_cell r1.out 1 _ rfl
  have y0 := held_cell r2.out 0 _ rfl
  have y1 := held_cell r2.out 1 _ rfl
  have y2 := held_cell r2.out 2 _ rfl
  have y3 := held_cell r2.out 3 _ rfl
  have y4 := held_cell r2.out 4 _ rfl
  go_wp2_with fail
  refine (kn.out _ hP.out hT.out).mono ?_
  rintro r V1 ⟨rfl, hP2, hf2⟩
  replace r0 := hid (hP.out.besides hf2 r0.out hb_r0 (by decide))
  replace r1 := hid (hP.out.besides hf2 r1.out hb_r1 (by decide))
  replace r2 := hid (hP.out.besides hf2 r2.out hb_r2 (by decide))
  replace hP := hid hP2
  replace hef := hid (hef.out.trans hf2)
  clear hf2 hP2
  clear x0 z0 z1 y0 y1 y2 y3 y4
  clear hT kn
  have x0 := held_cell r0.out 0 _ rfl
  have z0 := held_cell r1.out 0 _ rfl
  have z1 := held_cell r1.out 1 _ rfl
  cases is
  · go_wp2_with fail
    refine (ku.out _ _ hP.out).mono ?_
    rintro r V2 ⟨rfl, hP2, hf2⟩
    replace r0 := hid (hP.out.besides hf2 r0.out hb_r0 (by decide))
    replace r1 := hid (hP.out.besides hf2 r1.out hb_r1 (by decide))
    replace hP := hid hP2
    replace hef := hid (hef.out.trans hf2)
    clear hf2 hP2
    clear x0 z0 z1
    go_wp2_with fail
    go_end0
    exact ⟨rfl, hP.out, hef.out⟩
  · go_wp2_with fail
    refine (ku.out _ _ hP.out).mono ?_
    rintro r V2 ⟨rfl, hP2, hf2⟩
    replace r0 := hid (hP.out.besides hf2 r0.out hb_r0 (by decide))
    replace r1 := hid (hP.out.besides hf2 r1.out hb_r1 (by decide))
    replace hP := hid hP2
    replace hef := hid (hef.out.trans hf2)
    clear hf2 hP2
    clear x0 z0 z1
    go_wp2_with fail
    go_end0
    exact ⟨rfl, hP.out, hef.out⟩
set_option maxRecDepth 100000 in
set_option maxHeartbeats 4000000 in
theorem pqual_any (base B : Nat) (e : Int) (L : List ByteArray) (n : Int) (w : World) (hP : PenIn w base B e L) (hl : L.length ≤ 999) (hb : base ≤ B) : Calls Tryz.prog 20 #[.agg #[.pointer (some ⟨B, 0, none⟩)], .int .i64 n] w fun r w' => r = .returned (.tuple #[]) ∧ PenIn w' base B (kp e (dgP n 0 8).2) (L ++ [nb (dgP n 0 8).1]) ∧ PEff base B 2 w w' := by
  by_cases c1 : n < 0
  case pos =>
    have hd : dgP n 0 8 = ([], 5) := by unfold dgP; rw [if_pos (by omega)]
    rw [hd]
    dsimp only
    have b1 : decide (n < 0) = true := by simp; omega
    have kt := hid (fun U (h : PenIn U base B e L) => ptext_any base B e 5 L (nb []) U h (by omega) hb)
    have hlt := hP.lt
    replace hP := hid hP
    go_enter Tryz.func20, Tryz.ntmps20
    go_upto_region 0 with (fail)
    apply wp_region_seg0 (w := w) (S := [.al 1000]) (E := [.al ((fun p => .pointer (some ⟨p, 0, none⟩)), _) 1000]) rfl (by kernel_rfl) rfl rfl
    intro th hge hne
    refine Seg.step _ rfl ⟨by rfl, fun U hU => ?_⟩ ?_
    · go_simp; exact vp_alloc rfl rfl rfl
    refine ⟨_, by (simp only [Ent.val]; go_simp <;> exact rfl), ?_⟩
    refine Seg.stop (fun U1 hU hk => ?_)
    have nb0 := hge 0 _ _ rfl
    have rb0 := (hk 0 _ _ rfl trivial).1.2 (by simp)
    clear hk hge hne
    generalize th (0 + 0) = p0_0 at *
    dsimp only at rb0
    have r_p0_0 := rb0
    clear rb0
    have n_p0_0 := nb0
    clear nb0
    have sz1 := hU.size
    have hB : Below w.heap.size w U1 := hU
    clear hU
    have hef := hid (PEff.after (base := base) (p := B) (j := 2) (by omega) hlt hB)
    replace hP := hid (hP.out.aft hB)
    clear hB
    have r0 := hid r_p0_0
    have hb_r0 : p0_0 ≠ B := by omega
    clear r_p0_0
    have x0 := held_cell r0.out 0 _ rfl
    go_wp2_with fail
    refine (kt.out _ hP.out).mono ?_
    rintro r V1 ⟨rfl, hP2, hf2⟩
    replace r0 := hid (hP.out.besides hf2 r0.out hb_r0 (by decide))
    replace hP := hid hP2
    replace hef := hid (hef.out.trans hf2)
    clear hf2 hP2
    clear x0
    go_wp2_with fail
    first | go_end0 | refine bodyPost_ret (results_none rfl _ _ _) rfl ?_
    exact ⟨rfl, hP.out, hef.out⟩
  by_cases c2 : 8 < n
  case pos =>
    have hd : dgP n 0 8 = ([], 5) := by unfold dgP; rw [if_pos (by omega)]
    rw [hd]
    dsimp only
    have b1 : decide (n < 0) = false := by simp; omega
    have b2 : decide (8 < n) = true := by simp; omega
    have kt := hid (fun U (h : PenIn U base B e L) => ptext_any base B e 5 L (nb []) U h (by omega) hb)
    have hlt := hP.lt
    replace hP := hid hP
    go_enter Tryz.func20, Tryz.ntmps20
    go_upto_region 0 with (fail)
    apply wp_region_seg0 (w := w) (S := [.al 1000]) (E := [.al ((fun p => .pointer (some ⟨p, 0, none⟩)), _) 1000]) rfl (by kernel_rfl) rfl rfl
    intro th hge hne
    refine Seg.step _ rfl ⟨by rfl, fun U hU => ?_⟩ ?_
    · go_simp; exact vp_alloc rfl rfl rfl
    refine ⟨_, by (simp only [Ent.val]; go_simp <;> exact rfl), ?_⟩
    refine Seg.stop (fun U1 hU hk => ?_)
    have nb0 := hge 0 _ _ rfl
    have rb0 := (hk 0 _ _ rfl trivial).1.2 (by simp)
    clear hk hge hne
    generalize th (0 + 0) = p0_0 at *
    dsimp only at rb0
    have r_p0_0 := rb0
    clear rb0
    have n_p0_0 := nb0
    clear nb0
    have sz1 := hU.size
    have hB : Below w.heap.size w U1 := hU
    clear hU
    have hef := hid (PEff.after (base := base) (p := B) (j := 2) (by omega) hlt hB)
    replace hP := hid (hP.out.aft hB)
    clear hB
    have r0 := hid r_p0_0
    have hb_r0 : p0_0 ≠ B := by omega
    clear r_p0_0
    have x0 := held_cell r0.out 0 _ rfl
    go_wp2_with fail
    refine (kt.out _ hP.out).mono ?_
    rintro r V1 ⟨rfl, hP2, hf2⟩
    replace r0 := hid (hP.out.besides hf2 r0.out hb_r0 (by decide))
    replace hP := hid hP2
    replace hef := hid (hef.out.trans hf2)
    clear hf2 hP2
    clear x0
    go_wp2_with fail
    first | go_end0 | refine bodyPost_ret (results_none rfl _ _ _) rfl ?_
    exact ⟨rfl, hP.out, hef.out⟩
  have hd : dgP n 0 8 = ([48 + n.toNat], 0) := by unfold dgP; rw [if_neg (by omega)]
  rw [hd]
  dsimp only
  have b1 : decide (n < 0) = false := by simp; omega
  have b2 : decide (8 < n) = false := by simp; omega
  have kt := hid (fun U (h : PenIn U base B e L) => ptext_any base B e 0 L (nb [48 + n.toNat]) U h (by omega) hb)
  have e1 : IntKind.i64.wrap (48 + n) = 48 + n := by simp [IntKind.wrap, IntKind.bits, IntKind.signed]; omega
  have e2 : IntKind.u8.wrap (48 + n) = 48 + n := by simp [IntKind.wrap, IntKind.bits, IntKind.signed]; omega
  have hlt := hP.lt
  replace hP := hid hP
  go_enter Tryz.func20, Tryz.ntmps20
  go_upto_region 0 with (fail)
  apply wp_region_seg0 (w := w) (S := [.al 1000]) (E := [.al ((fun p => .pointer (some ⟨p, 0, none⟩)), _) 1000]) rfl (by kernel_rfl) rfl rfl
  intro th hge hne
  refine Seg.step _ rfl ⟨by rfl, fun U hU => ?_⟩ ?_
  · go_simp; exact vp_alloc rfl rfl rfl
  refine ⟨_, by (simp only [Ent.val]; go_simp <;> exact rfl), ?_⟩
  refine Seg.stop (fun U1 hU hk => ?_)
  have nb0 := hge 0 _ _ rfl
  have rb0 := (hk 0 _ _ rfl trivial).1.2 (by simp)
  clear hk hge hne
  generalize th (0 + 0) = p0_0 at *
  dsimp only at rb0
  have r_p0_0 := rb0
  clear rb0
  have n_p0_0 := nb0
  clear nb0
  have sz1 := hU.size
  have hB : Below w.heap.size w U1 := hU
  clear hU
  have hef := hid (PEff.after (base := base) (p := B) (j := 2) (by omega) hlt hB)
  replace hP := hid (hP.out.aft hB)
  clear hB
  have r0 := hid r_p0_0
  have hb_r0 : p0_0 ≠ B := by omega
  clear r_p0_0
  have x0 := held_cell r0.out 0 _ rfl
  have hds := digit_str (48 + n.toNat) (48 + n) (by omega) (by omega) U1
  have hA := (alloc_new U1 (.cells #[.int .u8 (48 + n)] 5)).2.1
  replace hef := hid (hef.out.trans (PEff.after (by have := hP.out.lt; omega) hP.out.lt hA))
  replace hP := hid (hP.out.aft hA)
  replace r0 := hid (held_after hA r0.out)
  clear hA
  go_wp2_with fail
  refine (kt.out _ hP.out).mono ?_
  rintro r V1 ⟨rfl, hP2, hf2⟩
  replace r0 := hid (hP.out.besides hf2 r0.out hb_r0 (by decide))
  replace hP := hid hP2
  replace hef := hid (hef.out.trans hf2)
  clear hf2 hP2
  clear x0
  go_wp2_with fail
  first | go_end0 | refine bodyPost_ret (results_none rfl _ _ _) rfl ?_
  exact ⟨rfl, hP.out, hef.out⟩

end Go.Proofs.YtiokoakamcihcaaGreatDoor
