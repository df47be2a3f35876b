/- Several texts in one: Rmc, Rmc2, Rmc3. -/
import Derived.Test.YthnoomdhgbaecaaGreatDoorGga2
import Derived.Test.YthnoomdhgbaecaaGreatDoorGS
import Derived.Test.YthnoomdhgbaecaaGreatDoorClock12
import Derived.Test.YthnoomdhgbaecaaGreatDoorClock4
import Derived.Laws.Tables
import Derived.Deep.DeepCutAuto
import Derived.Test.YthnoomdhgbaecaaGreatDoorDecB
import Derived.Laws.EntriesVeiled

/- Package rmc: the small functions. -/
namespace Go.Proofs.YthnoomdhgbaecaaGreatDoor

open Go.ChangeShapes Go.WideShapes Go.ChangeAt Go.RowKit

set_option linter.unusedVariables false

set_option linter.unusedSimpArgs false

/-- A message's state, as a text. -/
def stS (b : Bool) : ByteArray := if b = true then ⟨#[65]⟩ else ⟨#[86]⟩
/-- The error of a text that is neither of both. -/
def onE (s a b : ByteArray) : Int := if s ≠ a ∧ s ≠ b then 3 else 0
/-- How far the variation is from 0; its side. -/
def vN (n : Int) : Int := if n < 0 ∧ -1800 ≤ n then -n else n
def vS (i : Bool) (n : Int) : ByteArray := if i = true then (if n < 0 ∧ -1800 ≤ n then ⟨#[87]⟩ else ⟨#[69]⟩) else ⟨#[]⟩
/-- What the program puts of it. -/
def pvD (i : Bool) (n : Int) : List Nat × ByteArray × Int := if n < -1800 then ([], ⟨#[]⟩, 5) else if (putD i (vN n) 1 3 1 0 1800).2 = 0 ∧ i = true then ((putD i (vN n) 1 3 1 0 1800).1, vS i n, 0) else ([], ⟨#[]⟩, (putD i (vN n) 1 3 1 0 1800).2)
/-- The error of a side behind a number; the number with its side. -/
def sdE (s : ByteArray) (i : Bool) : Int := if i = true then (if s ≠ ⟨#[69]⟩ ∧ s ≠ ⟨#[87]⟩ then 3 else 0) else (if s.size ≠ 0 then 3 else 0)
def sdN (s : ByteArray) (n : Int) : Int := if s = ⟨#[87]⟩ then -n else n
/-- What the program takes of both. -/
def tvD (r : Bool × Int × Int) (s : ByteArray) : Bool × Int × Int := if r.2.2 ≠ 0 then (false, 0, r.2.2) else if sdE s r.1 ≠ 0 then (false, 0, 3) else (r.1, sdN s r.2.1, 0)
/-- The error of a mode. -/
def moE (s : ByteArray) : Int := if s.size = 0 ∨ (s.size = 1 ∧ 65 ≤ (sb s).getD 0 0 ∧ (sb s).getD 0 0 ≤ 90) then 0 else 3
theorem takeD_form26 (l : List Nat) : ∃ (b : Bool) (d m y k : Int), takeD l = .tuple #[.agg #[.bool b, .int .i64 d, .int .i64 m, .int .i64 y], .int .i64 k] := by
  unfold takeD
  first | exact ⟨_, _, _, _, _, rfl⟩ | (split <;> first | exact ⟨_, _, _, _, _, rfl⟩ | (split <;> first | exact ⟨_, _, _, _, _, rfl⟩ | (split <;> first | exact ⟨_, _, _, _, _, rfl⟩ | (split <;> exact ⟨_, _, _, _, _, rfl⟩))))
theorem putD_form26 (b : Bool) (d m y : Int) : ∃ (S : ByteArray) (k : Int), putDt b d m y = .tuple #[.string S, .int .i64 k] := by
  unfold putDt
  split
  · split <;> exact ⟨_, _, rfl⟩
  · exact ⟨_, _, rfl⟩
set_option maxRecDepth 100000 in
set_option maxHeartbeats 2000000 in
theorem r26speedCol_any (w : World) : Calls Tryz.prog 28 #[] w fun r w' => r = .returned (.agg #[.int .i64 1, .int .i64 4, .int .i64 2, .int .i64 0, .int .i64 999999]) ∧ After w w' := by
  go_enter Tryz.func28, Tryz.ntmps28
  go_upto_region 0 with (fail)
  apply wp_region_seg0 (w := w) (S := [.al 1000]) (E := [.al ((fun p => .pointer (some ⟨p, 0, none⟩)), _) 1000]) rfl (by kernel_rfl) rfl rfl
  intro th hge hne
  refine Seg.step _ rfl ⟨by rfl, fun U hU => ?_⟩ ?_
  · go_simp; exact vp_alloc rfl rfl rfl
  refine Seg.sa ?_
  refine Seg.stop (fun U1 hU hk => ?_)
  have nb0 := hge 0 _ _ rfl
  have rb0 := (hk 0 _ _ rfl trivial).1.2 (by simp)
  clear hk hge hne
  generalize th (0 + 0) = p0_0 at *
  dsimp only at rb0
  have r_p0_0 := rb0
  clear rb0
  have n_p0_0 := nb0
  clear nb0
  have sz1 := hU.size
  have hB : Below w.heap.size w U1 := hU
  clear hU
  have g0 := held_free r_p0_0 0
  have g1 := held_free r_p0_0 1
  have g2 := held_free r_p0_0 2
  have g3 := held_free r_p0_0 3
  have g4 := held_free r_p0_0 4
  have z0 := held_cell r_p0_0 0 _ rfl
  have z1 := held_cell r_p0_0 1 _ rfl
  have z2 := held_cell r_p0_0 2 _ rfl
  have z3 := held_cell r_p0_0 3 _ rfl
  have z4 := held_cell r_p0_0 4 _ rfl
  obtain ⟨W9, hW9, ya, yO⟩ := st5 r_p0_0 (.int .i64 1) (.int .i64 4) (.int .i64 2) (.int .i64 0) (.int .i64 999999)
  have hB9 := hid (belowS hB yO (by omega))
  have ez0 := held_cell ya 0 _ rfl
  have ez1 := held_cell ya 1 _ rfl
  have ez2 := held_cell ya 2 _ rfl
  have ez3 := held_cell ya 3 _ rfl
  have ez4 := held_cell ya 4 _ rfl
  clear ya yO r_p0_0 hB
  go_wp2_with fail
  refine bodyPost_ret (v := .agg #[.int .i64 1, .int .i64 4, .int .i64 2, .int .i64 0, .int .i64 999999]) (by simp [results, Tryz.results28, go_sem, ez0, ez1, ez2, ez3, ez4]) rfl ⟨rfl, hB9.out⟩
set_option maxRecDepth 100000 in
set_option maxHeartbeats 2000000 in
theorem r26courseCol_any (w : World) : Calls Tryz.prog 30 #[] w fun r w' => r = .returned (.agg #[.int .i64 1, .int .i64 3, .int .i64 2, .int .i64 0, .int .i64 36000]) ∧ After w w' := by
  go_enter Tryz.func30, Tryz.ntmps30
  go_upto_region 0 with (fail)
  apply wp_region_seg0 (w := w) (S := [.al 1000]) (E := [.al ((fun p => .pointer (some ⟨p, 0, none⟩)), _) 1000]) rfl (by kernel_rfl) rfl rfl
  intro th hge hne
  refine Seg.step _ rfl ⟨by rfl, fun U hU => ?_⟩ ?_
  · go_simp; exact vp_alloc rfl rfl rfl
  refine Seg.sa ?_
  refine Seg.stop (fun U1 hU hk => ?_)
  have nb0 := hge 0 _ _ rfl
  have rb0 := (hk 0 _ _ rfl trivial).1.2 (by simp)
  clear hk hge hne
  generalize th (0 + 0) = p0_0 at *
  dsimp only at rb0
  have r_p0_0 := rb0
  clear rb0
  have n_p0_0 := nb0
  clear nb0
  have sz1 := hU.size
  have hB : Below w.heap.size w U1 := hU
  clear hU
  have g0 := held_free r_p0_0 0
  have g1 := held_free r_p0_0 1
  have g2 := held_free r_p0_0 2
  have g3 := held_free r_p0_0 3
  have g4 := held_free r_p0_0 4
  have z0 := held_cell r_p0_0 0 _ rfl
  have z1 := held_cell r_p0_0 1 _ rfl
  have z2 := held_cell r_p0_0 2 _ rfl
  have z3 := held_cell r_p0_0 3 _ rfl
  have z4 := held_cell r_p0_0 4 _ rfl
  obtain ⟨W9, hW9, ya, yO⟩ := st5 r_p0_0 (.int .i64 1) (.int .i64 3) (.int .i64 2) (.int .i64 0) (.int .i64 36000)
  have hB9 := hid (belowS hB yO (by omega))
  have ez0 := held_cell ya 0 _ rfl
  have ez1 := held_cell ya 1 _ rfl
  have ez2 := held_cell ya 2 _ rfl
  have ez3 := held_cell ya 3 _ rfl
  have ez4 := held_cell ya 4 _ rfl
  clear ya yO r_p0_0 hB
  go_wp2_with fail
  refine bodyPost_ret (v := .agg #[.int .i64 1, .int .i64 3, .int .i64 2, .int .i64 0, .int .i64 36000]) (by simp [results, Tryz.results30, go_sem, ez0, ez1, ez2, ez3, ez4]) rfl ⟨rfl, hB9.out⟩
set_option maxRecDepth 100000 in
set_option maxHeartbeats 2000000 in
theorem r26varCol_any (w : World) : Calls Tryz.prog 79 #[] w fun r w' => r = .returned (.agg #[.int .i64 1, .int .i64 3, .int .i64 1, .int .i64 0, .int .i64 1800]) ∧ After w w' := by
  go_enter Tryz.func79, Tryz.ntmps79
  go_upto_region 0 with (fail)
  apply wp_region_seg0 (w := w) (S := [.al 1000]) (E := [.al ((fun p => .pointer (some ⟨p, 0, none⟩)), _) 1000]) rfl (by kernel_rfl) rfl rfl
  intro th hge hne
  refine Seg.step _ rfl ⟨by rfl, fun U hU => ?_⟩ ?_
  · go_simp; exact vp_alloc rfl rfl rfl
  refine Seg.sa ?_
  refine Seg.stop (fun U1 hU hk => ?_)
  have nb0 := hge 0 _ _ rfl
  have rb0 := (hk 0 _ _ rfl trivial).1.2 (by simp)
  clear hk hge hne
  generalize th (0 + 0) = p0_0 at *
  dsimp only at rb0
  have r_p0_0 := rb0
  clear rb0
  have n_p0_0 := nb0
  clear nb0
  have sz1 := hU.size
  have hB : Below w.heap.size w U1 := hU
  clear hU
  have g0 := held_free r_p0_0 0
  have g1 := held_free r_p0_0 1
  have g2 := held_free r_p0_0 2
  have g3 := held_free r_p0_0 3
  have g4 := held_free r_p0_0 4
  have z0 := held_cell r_p0_0 0 _ rfl
  have z1 := held_cell r_p0_0 1 _ rfl
  have z2 := held_cell r_p0_0 2 _ rfl
  have z3 := held_cell r_p0_0 3 _ rfl
  have z4 := held_cell r_p0_0 4 _ rfl
  obtain ⟨W9, hW9, ya, yO⟩ := st5 r_p0_0 (.int .i64 1) (.int .i64 3) (.int .i64 1) (.int .i64 0) (.int .i64 1800)
  have hB9 := hid (belowS hB yO (by omega))
  have ez0 := held_cell ya 0 _ rfl
  have ez1 := held_cell ya 1 _ rfl
  have ez2 := held_cell ya 2 _ rfl
  have ez3 := held_cell ya 3 _ rfl
  have ez4 := held_cell ya 4 _ rfl
  clear ya yO r_p0_0 hB
  go_wp2_with fail
  refine bodyPost_ret (v := .agg #[.int .i64 1, .int .i64 3, .int .i64 1, .int .i64 0, .int .i64 1800]) (by simp [results, Tryz.results79, go_sem, ez0, ez1, ez2, ez3, ez4]) rfl ⟨rfl, hB9.out⟩
theorem state26_any (b : Bool) (w : World) : Calls Tryz.prog 22 #[.bool b] w fun r w' => r = .returned (.string (stS b)) ∧ w' = w := by
  cases b
  · go_enter Tryz.func22, Tryz.ntmps22
    go_wp2_with fail
    go_ret
    exact ⟨rfl, rfl⟩
  · go_enter Tryz.func22, Tryz.ntmps22
    go_wp2_with fail
    go_ret
    exact ⟨rfl, rfl⟩
set_option maxRecDepth 100000 in
set_option maxHeartbeats 4000000 in
theorem putvar26_any (i : Bool) (n : Int) (w : World) (hb : (-9223372036854775808 ≤ n ∧ n ≤ 9223372036854775807)) (hT : Tab w) : Calls Tryz.prog 34 #[.agg #[.bool i, .int .i64 n]] w fun r w' => r = .returned (.tuple #[.string (nb (pvD i n).1), .string (pvD i n).2.1, .int .i64 (pvD i n).2.2]) ∧ After w w' := by
  by_cases c1 : n < -1800
  case pos =>
    have hd : pvD i n = ([], ⟨#[]⟩, 5) := by unfold pvD; rw [if_pos c1]
    rw [hd]
    dsimp only
    have b1 : decide (n < -1800) = true := by simpa using c1
    clear hd hb c1
    replace hT := hid hT
    go_enter Tryz.func34, Tryz.ntmps34
    go_upto_region 0 with (fail)
    apply wp_region_seg0 (w := w) (S := [.al 1000, .q [], .q [], .q []]) (E := [.al ((fun p => .pointer (some ⟨p, 0, none⟩)), _) 1000, .q0 _, .q0 _, .q0 _]) rfl (by kernel_rfl) rfl rfl
    intro th hge hne
    refine Seg.step _ rfl ⟨by rfl, fun U hU => ?_⟩ ?_
    · go_simp; exact vp_alloc rfl rfl rfl
    refine Seg.sa ?_
    iterate 3 refine Seg.sq ?_
    refine Seg.stop (fun U1 hU hk => ?_)
    have nb0 := hge 0 _ _ rfl
    have rb0 := (hk 0 _ _ rfl trivial).1.2 (by simp)
    clear hk hge hne
    generalize th (0 + 0) = p0_0 at *
    dsimp only at rb0
    have r_p0_0 := rb0
    clear rb0
    have n_p0_0 := nb0
    clear nb0
    have sz1 := hU.size
    have hB : Below w.heap.size w U1 := hU
    clear hU
    replace hT := hid (hT.out.on hB)
    have x1 := held_cell r_p0_0 1 _ rfl
    go_wp2_with fail
    refine bodyPost_ret (v := .tuple #[.string ⟨#[]⟩, .string ⟨#[]⟩, .int .i64 5]) (by simp [results, Tryz.results34, go_sem]) rfl ⟨rfl, hB⟩
  have b1 : decide (n < -1800) = false := by simpa using c1
  obtain ⟨⟨P, x⟩, hp⟩ : ∃ r, putD i (vN n) 1 3 1 0 1800 = r := ⟨_, rfl⟩
  have hx0 : pvD i n = if x = 0 ∧ i = true then (P, vS i n, 0) else ([], ⟨#[]⟩, x) := by unfold pvD; rw [if_neg c1, hp]
  replace hx0 := hid hx0
  have hT0 := hid hT
  by_cases c2 : n < 0
  case pos =>
    have hv : vN n = (-n) := by unfold vN; rw [if_pos (by omega)]
    have hs : vS true n = ⟨#[87]⟩ := by unfold vS; rw [if_pos rfl, if_pos (by omega)]
    rw [hv] at hp
    have hm : (-9223372036854775808 ≤ (-n) ∧ (-n) ≤ 9223372036854775807) := by omega
    have kp := hid (fun U (h : Tab U) => hp ▸ put23_any i (-n) 1 3 1 0 1800 U hm (by decide) h)
    have b2 : decide (n < 0) = true := by simpa using c2
    have wn : IntKind.i64.wrap (-n) = -n := by simp [IntKind.wrap, IntKind.bits, IntKind.signed]; omega
    replace hs := hid hs
    clear hp hv hm hb c1 c2
    replace hT := hid hT
    go_enter Tryz.func34, Tryz.ntmps34
    go_upto_region 0 with (fail)
    apply wp_region_seg0 (w := w) (S := [.al 1000, .q [], .q [], .q []]) (E := [.al ((fun p => .pointer (some ⟨p, 0, none⟩)), _) 1000, .q0 _, .q0 _, .q0 _]) rfl (by kernel_rfl) rfl rfl
    intro th hge hne
    refine Seg.step _ rfl ⟨by rfl, fun U hU => ?_⟩ ?_
    · go_simp; exact vp_alloc rfl rfl rfl
    refine Seg.sa ?_
    iterate 3 refine Seg.sq ?_
    refine Seg.stop (fun U1 hU hk => ?_)
    have nb0 := hge 0 _ _ rfl
    have rb0 := (hk 0 _ _ rfl trivial).1.2 (by simp)
    clear hk hge hne
    generalize th (0 + 0) = p0_0 at *
    dsimp only at rb0
    have r_p0_0 := rb0
    clear rb0
    have n_p0_0 := nb0
    clear nb0
    have sz1 := hU.size
    have hB : Below w.heap.size w U1 := hU
    clear hU
    replace hT := hid (hT.out.on hB)
    have x1 := held_cell r_p0_0 1 _ rfl
    have f1 := held_free r_p0_0 1
    have r0 : U1.drew.heap[p0_0]? = some (.cells #[.bool i, .int .i64 n] 25 (0, 0)) := r_p0_0
    obtain ⟨W9, hW9, s1, o1⟩ := set1 r0 1 (.int .i64 (-n))
    have hB9 := belowS (show Below w.heap.size w U1.drew from hB.drew) o1 (by omega)
    replace s1 : W9.heap[p0_0]? = some (.cells #[.bool i, .int .i64 (-n)] 25 (0, 0)) := s1
    go_upto_region 5 with (fail)
    go_region
    go_upto_region 6 with (fail)
    have hT9 : Tab W9 := hT0.out.on hB9
    replace hT := hid hT9
    clear hT9 o1 x1 f1 r0 r_p0_0 hB
    have hB := hB9
    clear hB9
    have r_p0_0 := s1
    clear s1
    apply wp_region_seg (w := W9) (S := [.q [], .q [], .q [], .q [], .q [], .q [], .q [], .q []]) (E := [.q0 _, .c0 _, .c0 _, .q0 _, .q0 _, .q0 _, .q0 _, .q0 _]) (by kernel_rfl) rfl (by kernel_rfl) rfl rfl
    intro th hge hne
    refine Seg.sq ?_ (ht := Or.inl ⟨by rfl, fun U hU => vp_quiet (by (have h0 := held_cell (held_after hU.1 r_p0_0) 0 _ rfl; have h1 := held_cell (held_after hU.1 r_p0_0) 1 _ rfl; go_simp <;> exact rfl))⟩)
    refine Seg.step _ rfl (Or.inl ⟨by rfl, fun U hU => ?_⟩) ?_
    · go_simp
      refine vp_call (r26varCol_any _)
    refine Seg.sa ?_
    refine Seg.step _ rfl (Or.inl ⟨by rfl, fun U hU => ?_⟩) ?_
    · go_simp
      refine vp_call (kp.out _ (hT.out.on hU.1))
    refine Seg.sa ?_
    iterate 5 refine Seg.sq ?_
    refine Seg.stop (fun U2 hU hk => ?_)
    clear hk hge hne
    replace r_p0_0 := held_after hU r_p0_0
    have sz2 := hU.size
    replace hB := bthen hB hU
    clear hU
    have x0 := held_cell r_p0_0 0 _ rfl
    replace hB := hid hB
    clear hT kp
    by_cases cx : x = 0
    case neg =>
      have t0 : (x != 0) = true := by simpa using cx
      have hr : pvD i n = ([], ⟨#[]⟩, x) := by rw [hx0.out, if_neg (fun h => cx h.1)]
      replace hr := hid hr
      clear hx0 hs
      go_wp2_with fail
      refine bodyPost_ret (v := .tuple #[.string ⟨#[]⟩, .string ⟨#[]⟩, .int .i64 x]) (by simp [results, Tryz.results34, go_sem]) rfl ⟨by (rw [hr.out] <;> rfl), hB.out⟩
    subst cx
    cases i
    case false =>
      have hr : pvD false n = ([], ⟨#[]⟩, 0) := by rw [hx0.out, if_neg (fun h => by cases h.2)]
      replace hr := hid hr
      clear hx0 hs
      go_wp2_with fail
      refine bodyPost_ret (v := .tuple #[.string ⟨#[]⟩, .string ⟨#[]⟩, .int .i64 0]) (by simp [results, Tryz.results34, go_sem]) rfl ⟨by (rw [hr.out] <;> rfl), hB.out⟩
    have hr : pvD true n = (P, ⟨#[87]⟩, 0) := by rw [hx0.out, if_pos ⟨rfl, rfl⟩, hs.out]
    replace hr := hid hr
    clear hx0 hs
    go_wp2_with fail
    refine bodyPost_ret (v := .tuple #[.string (nb P), .string ⟨#[87]⟩, .int .i64 0]) (by simp [results, Tryz.results34, go_sem]) rfl ⟨by (rw [hr.out] <;> rfl), hB.out⟩
  have hv : vN n = n := by unfold vN; rw [if_neg (by omega)]
  have hs : vS true n = ⟨#[69]⟩ := by unfold vS; rw [if_pos rfl, if_neg (by omega)]
  rw [hv] at hp
  have hm : (-9223372036854775808 ≤ n ∧ n ≤ 9223372036854775807) := by omega
  have kp := hid (fun U (h : Tab U) => hp ▸ put23_any i n 1 3 1 0 1800 U hm (by decide) h)
  have b2 : decide (n < 0) = false := by simpa using c2
  replace hs := hid hs
  clear hp hv hm hb c1 c2
  replace hT := hid hT
  go_enter Tryz.func34, Tryz.ntmps34
  go_upto_region 0 with (fail)
  apply wp_region_seg0 (w := w) (S := [.al 1000, .q [], .q [], .q []]) (E := [.al ((fun p => .pointer (some ⟨p, 0, none⟩)), _) 1000, .q0 _, .q0 _, .q0 _]) rfl (by kernel_rfl) rfl rfl
  intro th hge hne
  refine Seg.step _ rfl ⟨by rfl, fun U hU => ?_⟩ ?_
  · go_simp; exact vp_alloc rfl rfl rfl
  refine Seg.sa ?_
  iterate 3 refine Seg.sq ?_
  refine Seg.stop (fun U1 hU hk => ?_)
  have nb0 := hge 0 _ _ rfl
  have rb0 := (hk 0 _ _ rfl trivial).1.2 (by simp)
  clear hk hge hne
  generalize th (0 + 0) = p0_0 at *
  dsimp only at rb0
  have r_p0_0 := rb0
  clear rb0
  have n_p0_0 := nb0
  clear nb0
  have sz1 := hU.size
  have hB : Below w.heap.size w U1 := hU
  clear hU
  replace hT := hid (hT.out.on hB)
  have x1 := held_cell r_p0_0 1 _ rfl
  go_upto_region 6 with (fail)
  apply wp_region_seg (w := U1) (S := [.q [], .q [], .q [], .q [], .q [], .q [], .q [], .q []]) (E := [.q0 _, .c0 _, .c0 _, .q0 _, .q0 _, .q0 _, .q0 _, .q0 _]) (by kernel_rfl) rfl (by kernel_rfl) rfl rfl
  intro th hge hne
  refine Seg.sq ?_ (ht := Or.inl ⟨by rfl, fun U hU => vp_quiet (by (have h0 := held_cell (held_after hU.1 r_p0_0) 0 _ rfl; have h1 := held_cell (held_after hU.1 r_p0_0) 1 _ rfl; go_simp <;> exact rfl))⟩)
  refine Seg.step _ rfl (Or.inl ⟨by rfl, fun U hU => ?_⟩) ?_
  · go_simp
    refine vp_call (r26varCol_any _)
  refine Seg.sa ?_
  refine Seg.step _ rfl (Or.inl ⟨by rfl, fun U hU => ?_⟩) ?_
  · go_simp
    refine vp_call (kp.out _ (hT.out.on hU.1))
  refine Seg.sa ?_
  iterate 5 refine Seg.sq ?_
  refine Seg.stop (fun U2 hU hk => ?_)
  clear hk hge hne
  replace r_p0_0 := held_after hU r_p0_0
  have sz2 := hU.size
  replace hB := bthen hB hU
  clear hU
  have x0 := held_cell r_p0_0 0 _ rfl
  replace hB := hid hB
  clear hT kp
  by_cases cx : x = 0
  case neg =>
    have t0 : (x != 0) = true := by simpa using cx
    have hr : pvD i n = ([], ⟨#[]⟩, x) := by rw [hx0.out, if_neg (fun h => cx h.1)]
    replace hr := hid hr
    clear hx0 hs
    go_wp2_with fail
    refine bodyPost_ret (v := .tuple #[.string ⟨#[]⟩, .string ⟨#[]⟩, .int .i64 x]) (by simp [results, Tryz.results34, go_sem]) rfl ⟨by (rw [hr.out] <;> rfl), hB.out⟩
  subst cx
  cases i
  case false =>
    have hr : pvD false n = ([], ⟨#[]⟩, 0) := by rw [hx0.out, if_neg (fun h => by cases h.2)]
    replace hr := hid hr
    clear hx0 hs
    go_wp2_with fail
    refine bodyPost_ret (v := .tuple #[.string ⟨#[]⟩, .string ⟨#[]⟩, .int .i64 0]) (by simp [results, Tryz.results34, go_sem]) rfl ⟨by (rw [hr.out] <;> rfl), hB.out⟩
  have hr : pvD true n = (P, ⟨#[69]⟩, 0) := by rw [hx0.out, if_pos ⟨rfl, rfl⟩, hs.out]
  replace hr := hid hr
  clear hx0 hs
  go_wp2_with fail
  refine bodyPost_ret (v := .tuple #[.string (nb P), .string ⟨#[69]⟩, .int .i64 0]) (by simp [results, Tryz.results34, go_sem]) rfl ⟨by (rw [hr.out] <;> rfl), hB.out⟩
set_option maxRecDepth 100000 in
set_option maxHeartbeats 2000000 in
theorem mode26_any (s : ByteArray) (w : World) : Calls Tryz.prog 63 #[.string s] w fun r w' => r = .returned (.int .i64 (moE s)) ∧ w' = w := by
  have hZ := temp_iff s
  by_cases c0 : s.size = 0
  case pos =>
    have hd : moE s = 0 := by unfold moE; rw [if_pos (.inl c0)]
    rw [hd]
    have b0 : s.toList.isEmpty = true := by rw [hZ]; exact decide_eq_true c0
    clear hd hZ c0
    go_enter Tryz.func63, Tryz.ntmps63
    go_wp2_with fail
    go_ret
    exact ⟨rfl, rfl⟩
  have b0 : s.toList.isEmpty = false := by rw [hZ]; exact decide_eq_false c0
  clear hZ
  by_cases c1 : s.size = 1
  case neg =>
    have hd : moE s = 3 := by unfold moE; rw [if_neg (by omega)]
    rw [hd]
    have b1 : ((s.size : Int) == 1) = false := by simp; omega
    clear hd c0 c1
    go_enter Tryz.func63, Tryz.ntmps63
    go_wp2_with fail
    go_ret
    exact ⟨rfl, rfl⟩
  obtain ⟨c, hc⟩ : ∃ c, (sb s).getD 0 0 = c := ⟨_, rfl⟩
  have hix := fun W => tidx (P := Tryz.prog) 9 Tryz.underlying9 s 0 c (by omega) hc .i64 0 rfl W
  have b1 : ((s.size : Int) == 1) = true := by simp; omega
  have hcb : c ≤ 255 := by rw [← hc, List.getD_eq_getElem?_getD, List.getElem?_eq_getElem (show 0 < (sb s).length by rw [sb_len]; omega)]; have := sb_lt s _ (List.getElem_mem (show 0 < (sb s).length by rw [sb_len]; omega)); simp only [Option.getD_some]; omega
  by_cases c2 : 65 ≤ c
  case neg =>
    have hd : moE s = 3 := by unfold moE; rw [if_neg (by omega)]
    rw [hd]
    have b2 : decide ((65 : Int) ≤ (c : Int)) = false := by simp; omega
    clear hd hc c0 c1
    go_enter Tryz.func63, Tryz.ntmps63
    go_wp2_with fail
    go_ret
    exact ⟨rfl, rfl⟩
  have b2 : decide ((65 : Int) ≤ (c : Int)) = true := by simp; omega
  by_cases c3 : c ≤ 90
  case neg =>
    have hd : moE s = 3 := by unfold moE; rw [if_neg (by omega)]
    rw [hd]
    have b3 : decide ((c : Int) ≤ 90) = false := by simp; omega
    clear hd hc c0 c1
    go_enter Tryz.func63, Tryz.ntmps63
    go_wp2_with fail
    go_ret
    exact ⟨rfl, rfl⟩
  have b3 : decide ((c : Int) ≤ 90) = true := by simp; omega
  have hd : moE s = 0 := by unfold moE; rw [if_pos (by omega)]
  rw [hd]
  clear hd hc c0 c1
  go_enter Tryz.func63, Tryz.ntmps63
  go_wp2_with fail
  go_ret
  exact ⟨rfl, rfl⟩
set_option maxRecDepth 100000 in
set_option maxHeartbeats 2000000 in
theorem when26_any (tb : Bool) (tho : Int) (tmi : Int) (tse : Int) (tce : Int) (ac : Bool) (ai : Bool) (an : Int) (oi : Bool) (on : Int) (pi : Bool) (pn : Int) (ci : Bool) (cn : Int) (vi : Bool) (vn : Int) (db : Bool) (dd : Int) (dm : Int) (dy : Int) (w : World) : Calls Tryz.prog 8 #[.agg #[.bool tb, .int .i64 tho, .int .i64 tmi, .int .i64 tse, .int .i64 tce, .bool ac, .bool ai, .int .i64 an, .bool oi, .int .i64 on, .bool pi, .int .i64 pn, .bool ci, .int .i64 cn, .bool vi, .int .i64 vn, .bool db, .int .i64 dd, .int .i64 dm, .int .i64 dy]] w fun r w' => r = .returned (cntV db dd dm dy tb tho tmi tse tce) ∧ After w w' := by
  obtain ⟨a, b, h⟩ : ∃ (a : Int) (b : Bool), cntV db dd dm dy tb tho tmi tse tce = .tuple #[.int .i64 a, .bool b] := by unfold cntV; split <;> exact ⟨_, _, rfl⟩
  have k := hid (fun U => h ▸ ccount_any db dd dm dy tb tho tmi tse tce U)
  rw [h]
  clear h
  go_enter Tryz.func8, Tryz.ntmps8
  go_upto_region 0 with (fail)
  apply wp_region_seg0 (w := w) (S := [.al 1000, .q [], .q []]) (E := [.al ((fun p => .pointer (some ⟨p, 0, none⟩)), _) 1000, .q0 _, .q0 _]) rfl (by kernel_rfl) rfl rfl
  intro th hge hne
  refine Seg.step _ rfl ⟨by rfl, fun U hU => ?_⟩ ?_
  · go_simp; exact vp_alloc rfl rfl rfl
  refine Seg.sa ?_
  refine Seg.sq ?_
  refine Seg.sq ?_
  refine Seg.stop (fun U1 hU hk => ?_)
  have nb0 := hge 0 _ _ rfl
  have rb0 := (hk 0 _ _ rfl trivial).1.2 (by simp)
  clear hk hge hne
  generalize th (0 + 0) = p0_0 at *
  dsimp only at rb0
  have r_p0_0 := rb0
  clear rb0
  have n_p0_0 := nb0
  clear nb0
  have sz1 := hU.size
  have hB : Below w.heap.size w U1 := hU
  clear hU
  go_upto_region 1 with (fail)
  have x0 := held_cell r_p0_0 0 _ rfl
  have x1 := held_cell r_p0_0 1 _ rfl
  have x2 := held_cell r_p0_0 2 _ rfl
  have x3 := held_cell r_p0_0 3 _ rfl
  have x4 := held_cell r_p0_0 4 _ rfl
  have x5 := held_cell r_p0_0 5 _ rfl
  have x6 := held_cell r_p0_0 6 _ rfl
  have x7 := held_cell r_p0_0 7 _ rfl
  have x8 := held_cell r_p0_0 8 _ rfl
  have x9 := held_cell r_p0_0 9 _ rfl
  have x10 := held_cell r_p0_0 10 _ rfl
  have x11 := held_cell r_p0_0 11 _ rfl
  have x12 := held_cell r_p0_0 12 _ rfl
  have x13 := held_cell r_p0_0 13 _ rfl
  have x14 := held_cell r_p0_0 14 _ rfl
  have x15 := held_cell r_p0_0 15 _ rfl
  have x16 := held_cell r_p0_0 16 _ rfl
  have x17 := held_cell r_p0_0 17 _ rfl
  have x18 := held_cell r_p0_0 18 _ rfl
  have x19 := held_cell r_p0_0 19 _ rfl
  clear r_p0_0
  replace hB := hid hB
  go_wp2_with fail
  refine (k.out _).mono ?_
  rintro r V ⟨rfl, hA⟩
  go_wp2_with fail
  go_ret2
  exact ⟨rfl, bthen hB.out hA⟩
set_option maxRecDepth 100000 in
set_option maxHeartbeats 2000000 in
theorem rwhen26_any (tb : Bool) (tho : Int) (tmi : Int) (tse : Int) (tce : Int) (ac : Bool) (ai : Bool) (an : Int) (oi : Bool) (on : Int) (pi : Bool) (pn : Int) (ci : Bool) (cn : Int) (vi : Bool) (vn : Int) (db : Bool) (dd : Int) (dm : Int) (dy : Int) (w : World) : Calls Tryz.prog 9 #[.agg #[.bool tb, .int .i64 tho, .int .i64 tmi, .int .i64 tse, .int .i64 tce, .bool ac, .bool ai, .int .i64 an, .bool oi, .int .i64 on, .bool pi, .int .i64 pn, .bool ci, .int .i64 cn, .bool vi, .int .i64 vn, .bool db, .int .i64 dd, .int .i64 dm, .int .i64 dy]] w fun r w' => r = .returned (cntV db dd dm dy tb tho tmi tse tce) ∧ After w w' := by
  obtain ⟨a, b, h⟩ : ∃ (a : Int) (b : Bool), cntV db dd dm dy tb tho tmi tse tce = .tuple #[.int .i64 a, .bool b] := by unfold cntV; split <;> exact ⟨_, _, rfl⟩
  have k := hid (fun U => h ▸ rcount_any db dd dm dy tb tho tmi tse tce U)
  rw [h]
  clear h
  go_enter Tryz.func9, Tryz.ntmps9
  go_upto_region 0 with (fail)
  apply wp_region_seg0 (w := w) (S := [.al 1000, .q [], .q []]) (E := [.al ((fun p => .pointer (some ⟨p, 0, none⟩)), _) 1000, .q0 _, .q0 _]) rfl (by kernel_rfl) rfl rfl
  intro th hge hne
  refine Seg.step _ rfl ⟨by rfl, fun U hU => ?_⟩ ?_
  · go_simp; exact vp_alloc rfl rfl rfl
  refine Seg.sa ?_
  refine Seg.sq ?_
  refine Seg.sq ?_
  refine Seg.stop (fun U1 hU hk => ?_)
  have nb0 := hge 0 _ _ rfl
  have rb0 := (hk 0 _ _ rfl trivial).1.2 (by simp)
  clear hk hge hne
  generalize th (0 + 0) = p0_0 at *
  dsimp only at rb0
  have r_p0_0 := rb0
  clear rb0
  have n_p0_0 := nb0
  clear nb0
  have sz1 := hU.size
  have hB : Below w.heap.size w U1 := hU
  clear hU
  go_upto_region 1 with (fail)
  have x0 := held_cell r_p0_0 0 _ rfl
  have x1 := held_cell r_p0_0 1 _ rfl
  have x2 := held_cell r_p0_0 2 _ rfl
  have x3 := held_cell r_p0_0 3 _ rfl
  have x4 := held_cell r_p0_0 4 _ rfl
  have x5 := held_cell r_p0_0 5 _ rfl
  have x6 := held_cell r_p0_0 6 _ rfl
  have x7 := held_cell r_p0_0 7 _ rfl
  have x8 := held_cell r_p0_0 8 _ rfl
  have x9 := held_cell r_p0_0 9 _ rfl
  have x10 := held_cell r_p0_0 10 _ rfl
  have x11 := held_cell r_p0_0 11 _ rfl
  have x12 := held_cell r_p0_0 12 _ rfl
  have x13 := held_cell r_p0_0 13 _ rfl
  have x14 := held_cell r_p0_0 14 _ rfl
  have x15 := held_cell r_p0_0 15 _ rfl
  have x16 := held_cell r_p0_0 16 _ rfl
  have x17 := held_cell r_p0_0 17 _ rfl
  have x18 := held_cell r_p0_0 18 _ rfl
  have x19 := held_cell r_p0_0 19 _ rfl
  clear r_p0_0
  replace hB := hid hB
  go_wp2_with fail
  refine (k.out _).mono ?_
  rintro r V ⟨rfl, hA⟩
  go_wp2_with fail
  go_ret2
  exact ⟨rfl, bthen hB.out hA⟩
set_option maxRecDepth 100000 in
set_option maxHeartbeats 4000000 in
theorem takevar26_any (s u : ByteArray) (i : Bool) (n x : Int) (htd : takD s 1 3 1 0 1800 = (i, n, x)) (hz : i = false → n = 0) (hn : 0 ≤ n ∧ n ≤ 1800) (hs : s.size ≤ 1000) (w : World) : Calls Tryz.prog 60 #[.string s, .string u] w fun r w' => r = .returned (.tuple #[.agg #[.bool (tvD (i, n, x) u).1, .int .i64 (tvD (i, n, x) u).2.1], .int .i64 (tvD (i, n, x) u).2.2]) ∧ After w w' := by
  have kt := hid (fun U => htd ▸ take23_any s 1 3 1 0 1800 U hs (by decide))
  have hE := seqC u [69]
  have hW := seqC u [87]
  have hZ := temp_iff u
  clear htd hs
  by_cases cx : x = 0
  case neg =>
    have t0 : (x != 0) = true := by simpa using cx
    have hd : tvD (i, n, x) u = (false, 0, x) := by unfold tvD; dsimp only; rw [if_pos cx]
    rw [hd]
    dsimp only
    clear hd
    clear hE hW hZ hz hn
    go_enter Tryz.func60, Tryz.ntmps60
    go_upto_region 0 with (fail)
    apply wp_region_seg0 (w := w) (S := [.al 1000, .q []]) (E := [.al ((fun p => .pointer (some ⟨p, 0, none⟩)), _) 1000, .q0 _]) rfl (by kernel_rfl) rfl rfl
    intro th hge hne
    refine Seg.step _ rfl ⟨by rfl, fun U hU => ?_⟩ ?_
    · go_simp; exact vp_alloc rfl rfl rfl
    refine Seg.sa ?_
    refine Seg.sq ?_
    refine Seg.stop (fun U1 hU hk => ?_)
    have nb0 := hge 0 _ _ rfl
    have rb0 := (hk 0 _ _ rfl trivial).1.2 (by simp)
    clear hk hge hne
    generalize th (0 + 0) = p0_0 at *
    dsimp only at rb0
    have r_p0_0 := rb0
    clear rb0
    have n_p0_0 := nb0
    clear nb0
    have sz1 := hU.size
    have hB : Below w.heap.size w U1 := hU
    clear hU
    go_upto_region 1 with (fail)
    apply wp_region_seg0 (w := U1) (S := [.q [], .q [], .q [], .q [], .q [], .q [], .al 7, .st 6 [], .q []]) (E := [.q0 _, .c0 _, .c0 _, .q0 _, .q0 _, .q0 _, .al ((fun p => .pointer (some ⟨p, 0, none⟩)), _) 7, .s0 6 (.cells _ _), .q0 _]) rfl (by kernel_rfl) rfl rfl
    intro th hge hne
    refine Seg.sq ?_
    refine Seg.step _ rfl (Or.inl ⟨by rfl, fun U hU => ?_⟩) ?_
    · go_simp
      refine vp_call (r26varCol_any _)
    refine Seg.sa ?_
    refine Seg.step _ rfl (Or.inl ⟨by rfl, fun U hU => ?_⟩) ?_
    · go_simp
      refine vp_call (kt.out _)
    refine Seg.sa ?_
    iterate 3 refine Seg.sq ?_
    refine Seg.step _ rfl ⟨by rfl, fun U hU => ?_⟩ ?_
    · go_simp; exact vp_alloc rfl rfl rfl
    refine Seg.sa ?_
    refine Seg.step _ rfl ⟨by rfl, fun U z k hz hU hc => ?_⟩ ?_
    · have hz2 := Option.some.inj hz
      cases hz2; clear hz
      exact vp_store_agg _ _ _ rfl hc rfl rfl (by kernel_rfl) rfl (by rfl)
    refine Seg.sa ?_
    refine Seg.sq ?_
    refine Seg.stop (fun U2 hU hk => ?_)
    have nb6 := hge 6 _ _ rfl
    have rb6 := (hk 6 _ 7 rfl trivial).1.1 trivial _ (Nat.zero_le _) rfl
    clear hk hge hne
    generalize th (0 + 6) = p1_6 at *
    simp only [Ent.obj] at rb6
    replace r_p0_0 := held_after hU r_p0_0
    have r_p1_6 := rb6
    clear rb6
    have n_p1_6 := nb6
    clear nb6
    have sz2 := hU.size
    replace hB := bthen hB hU
    clear hU
    have x0 := held_cell r_p1_6 0 _ rfl
    have x1 := held_cell r_p1_6 1 _ rfl
    have f0 := held_free r_p0_0 0
    have f1 := held_free r_p0_0 1
    have k0 := held_cell r_p0_0 0 _ rfl
    have k1 := held_cell r_p0_0 1 _ rfl
    obtain ⟨W9, hW9, ya, yO⟩ := st2 r_p0_0 (.bool false) (.int .i64 0)
    have hB9 := hid (belowS hB yO (by omega))
    have hld := run_loadVar_row (P := Tryz.prog) W9 p0_0 25 25 #[.bool false, .int .i64 0] (0, 0) _ ya Tryz.underlying25 rfl (by kernel_rfl)
    replace ya := hid ya
    clear hB yO r_p0_0 kt
    go_wp2_with fail
    refine bodyPost_ret (v := .tuple #[.agg #[.bool false, .int .i64 0], .int .i64 x]) (by simp [results, Tryz.results60, asAddr, hld]) rfl ⟨rfl, hB9.out⟩
  subst cx
  have cq : ¬ ((0 : Int) ≠ 0) := fun h => h rfl
  by_cases ci : i = true
  case neg =>
    have ci2 : i = false := by simpa using ci
    subst ci2
    have hn0 := hz rfl
    subst hn0
    have q1 : (u.toList == [69]) = decide (u = ⟨#[69]⟩) := hE
    by_cases cu : u.size = 0
    case pos =>
      have b0 : u.toList.isEmpty = true := by rw [hZ]; exact decide_eq_true cu
      have hd : tvD (false, 0, 0) u = (false, 0, 0) := by
        have hs : sdE u false = 0 := by unfold sdE; rw [if_neg (by decide), if_neg (by omega)]
        have hN : sdN u 0 = 0 := by unfold sdN; split <;> rfl
        unfold tvD; dsimp only; rw [if_neg cq, hs, if_neg cq, hN]
      rw [hd]
      dsimp only
      clear hd hE hW hZ q1 hn hz cu
      go_enter Tryz.func60, Tryz.ntmps60
      go_upto_region 0 with (fail)
      apply wp_region_seg0 (w := w) (S := [.al 1000, .q []]) (E := [.al ((fun p => .pointer (some ⟨p, 0, none⟩)), _) 1000, .q0 _]) rfl (by kernel_rfl) rfl rfl
      intro th hge hne
      refine Seg.step _ rfl ⟨by rfl, fun U hU => ?_⟩ ?_
      · go_simp; exact vp_alloc rfl rfl rfl
      refine Seg.sa ?_
      refine Seg.sq ?_
      refine Seg.stop (fun U1 hU hk => ?_)
      have nb0 := hge 0 _ _ rfl
      have rb0 := (hk 0 _ _ rfl trivial).1.2 (by simp)
      clear hk hge hne
      generalize th (0 + 0) = p0_0 at *
      dsimp only at rb0
      have r_p0_0 := rb0
      clear rb0
      have n_p0_0 := nb0
      clear nb0
      have sz1 := hU.size
      have hB : Below w.heap.size w U1 := hU
      clear hU
      go_upto_region 1 with (fail)
      apply wp_region_seg0 (w := U1) (S := [.q [], .q [], .q [], .q [], .q [], .q [], .al 7, .st 6 [], .q []]) (E := [.q0 _, .c0 _, .c0 _, .q0 _, .q0 _, .q0 _, .al ((fun p => .pointer (some ⟨p, 0, none⟩)), _) 7, .s0 6 (.cells _ _), .q0 _]) rfl (by kernel_rfl) rfl rfl
      intro th hge hne
      refine Seg.sq ?_
      refine Seg.step _ rfl (Or.inl ⟨by rfl, fun U hU => ?_⟩) ?_
      · go_simp
        refine vp_call (r26varCol_any _)
      refine Seg.sa ?_
      refine Seg.step _ rfl (Or.inl ⟨by rfl, fun U hU => ?_⟩) ?_
      · go_simp
        refine vp_call (kt.out _)
      refine Seg.sa ?_
      iterate 3 refine Seg.sq ?_
      refine Seg.step _ rfl ⟨by rfl, fun U hU => ?_⟩ ?_
      · go_simp; exact vp_alloc rfl rfl rfl
      refine Seg.sa ?_
      refine Seg.step _ rfl ⟨by rfl, fun U z k hz hU hc => ?_⟩ ?_
      · have hz2 := Option.some.inj hz
        cases hz2; clear hz
        exact vp_store_agg _ _ _ rfl hc rfl rfl (by kernel_rfl) rfl (by rfl)
      refine Seg.sa ?_
      refine Seg.sq ?_
      refine Seg.stop (fun U2 hU hk => ?_)
      have nb6 := hge 6 _ _ rfl
      have rb6 := (hk 6 _ 7 rfl trivial).1.1 trivial _ (Nat.zero_le _) rfl
      clear hk hge hne
      generalize th (0 + 6) = p1_6 at *
      simp only [Ent.obj] at rb6
      replace r_p0_0 := held_after hU r_p0_0
      have r_p1_6 := rb6
      clear rb6
      have n_p1_6 := nb6
      clear nb6
      have sz2 := hU.size
      replace hB := bthen hB hU
      clear hU
      have x0 := held_cell r_p1_6 0 _ rfl
      have x1 := held_cell r_p1_6 1 _ rfl
      have f0 := held_free r_p0_0 0
      have f1 := held_free r_p0_0 1
      have k0 := held_cell r_p0_0 0 _ rfl
      have k1 := held_cell r_p0_0 1 _ rfl
      obtain ⟨W9, hW9, ya, yO⟩ := st2 r_p0_0 (.bool false) (.int .i64 0)
      have hB9 := hid (belowS hB yO (by omega))
      have hld := run_loadVar_row (P := Tryz.prog) W9 p0_0 25 25 #[.bool false, .int .i64 0] (0, 0) _ ya Tryz.underlying25 rfl (by kernel_rfl)
      replace ya := hid ya
      clear hB yO r_p0_0 kt
      go_wp2_with fail
      refine bodyPost_ret (v := .tuple #[.agg #[.bool false, .int .i64 0], .int .i64 0]) (by simp [results, Tryz.results60, asAddr, hld]) rfl ⟨rfl, hB9.out⟩
    have b0 : u.toList.isEmpty = false := by rw [hZ]; exact decide_eq_false cu
    have hd : tvD (false, 0, 0) u = (false, 0, 3) := by
      have hs : sdE u false = 3 := by unfold sdE; rw [if_neg (by decide), if_pos (by omega)]
      unfold tvD; dsimp only; rw [if_neg cq, hs, if_pos (by decide)]
    rw [hd]
    dsimp only
    clear hd hE hW hZ q1 hn hz cu
    go_enter Tryz.func60, Tryz.ntmps60
    go_upto_region 0 with (fail)
    apply wp_region_seg0 (w := w) (S := [.al 1000, .q []]) (E := [.al ((fun p => .pointer (some ⟨p, 0, none⟩)), _) 1000, .q0 _]) rfl (by kernel_rfl) rfl rfl
    intro th hge hne
    refine Seg.step _ rfl ⟨by rfl, fun U hU => ?_⟩ ?_
    · go_simp; exact vp_alloc rfl rfl rfl
    refine Seg.sa ?_
    refine Seg.sq ?_
    refine Seg.stop (fun U1 hU hk => ?_)
    have nb0 := hge 0 _ _ rfl
    have rb0 := (hk 0 _ _ rfl trivial).1.2 (by simp)
    clear hk hge hne
    generalize th (0 + 0) = p0_0 at *
    dsimp only at rb0
    have r_p0_0 := rb0
    clear rb0
    have n_p0_0 := nb0
    clear nb0
    have sz1 := hU.size
    have hB : Below w.heap.size w U1 := hU
    clear hU
    go_upto_region 1 with (fail)
    apply wp_region_seg0 (w := U1) (S := [.q [], .q [], .q [], .q [], .q [], .q [], .al 7, .st 6 [], .q []]) (E := [.q0 _, .c0 _, .c0 _, .q0 _, .q0 _, .q0 _, .al ((fun p => .pointer (some ⟨p, 0, none⟩)), _) 7, .s0 6 (.cells _ _), .q0 _]) rfl (by kernel_rfl) rfl rfl
    intro th hge hne
    refine Seg.sq ?_
    refine Seg.step _ rfl (Or.inl ⟨by rfl, fun U hU => ?_⟩) ?_
    · go_simp
      refine vp_call (r26varCol_any _)
    refine Seg.sa ?_
    refine Seg.step _ rfl (Or.inl ⟨by rfl, fun U hU => ?_⟩) ?_
    · go_simp
      refine vp_call (kt.out _)
    refine Seg.sa ?_
    iterate 3 refine Seg.sq ?_
    refine Seg.step _ rfl ⟨by rfl, fun U hU => ?_⟩ ?_
    · go_simp; exact vp_alloc rfl rfl rfl
    refine Seg.sa ?_
    refine Seg.step _ rfl ⟨by rfl, fun U z k hz hU hc => ?_⟩ ?_
    · have hz2 := Option.some.inj hz
      cases hz2; clear hz
      exact vp_store_agg _ _ _ rfl hc rfl rfl (by kernel_rfl) rfl (by rfl)
    refine Seg.sa ?_
    refine Seg.sq ?_
    refine Seg.stop (fun U2 hU hk => ?_)
    have nb6 := hge 6 _ _ rfl
    have rb6 := (hk 6 _ 7 rfl trivial).1.1 trivial _ (Nat.zero_le _) rfl
    clear hk hge hne
    generalize th (0 + 6) = p1_6 at *
    simp only [Ent.obj] at rb6
    replace r_p0_0 := held_after hU r_p0_0
    have r_p1_6 := rb6
    clear rb6
    have n_p1_6 := nb6
    clear nb6
    have sz2 := hU.size
    replace hB := bthen hB hU
    clear hU
    have x0 := held_cell r_p1_6 0 _ rfl
    have x1 := held_cell r_p1_6 1 _ rfl
    have f0 := held_free r_p0_0 0
    have f1 := held_free r_p0_0 1
    have k0 := held_cell r_p0_0 0 _ rfl
    have k1 := held_cell r_p0_0 1 _ rfl
    obtain ⟨W9, hW9, ya, yO⟩ := st2 r_p0_0 (.bool false) (.int .i64 0)
    have hB9 := hid (belowS hB yO (by omega))
    have hld := run_loadVar_row (P := Tryz.prog) W9 p0_0 25 25 #[.bool false, .int .i64 0] (0, 0) _ ya Tryz.underlying25 rfl (by kernel_rfl)
    replace ya := hid ya
    clear hB yO r_p0_0 kt
    go_wp2_with fail
    refine bodyPost_ret (v := .tuple #[.agg #[.bool false, .int .i64 0], .int .i64 3]) (by simp [results, Tryz.results60, asAddr, hld]) rfl ⟨rfl, hB9.out⟩
  subst ci
  clear hZ hz
  by_cases ce : u = ⟨#[69]⟩
  case pos =>
    have b1 : (u.toList == [69]) = true := by rw [hE]; exact decide_eq_true ce
    have hd : tvD (true, n, 0) u = (true, n, 0) := by
      have hs : sdE u true = 0 := by unfold sdE; rw [if_pos rfl, if_neg (fun h => h.1 ce)]
      have hN : sdN u n = n := by unfold sdN; rw [if_neg (by rw [ce]; decide)]
      unfold tvD; dsimp only; rw [if_neg cq, hs, if_neg cq, hN]
    rw [hd]
    dsimp only
    clear hd hE hW hn ce
    go_enter Tryz.func60, Tryz.ntmps60
    go_upto_region 0 with (fail)
    apply wp_region_seg0 (w := w) (S := [.al 1000, .q []]) (E := [.al ((fun p => .pointer (some ⟨p, 0, none⟩)), _) 1000, .q0 _]) rfl (by kernel_rfl) rfl rfl
    intro th hge hne
    refine Seg.step _ rfl ⟨by rfl, fun U hU => ?_⟩ ?_
    · go_simp; exact vp_alloc rfl rfl rfl
    refine Seg.sa ?_
    refine Seg.sq ?_
    refine Seg.stop (fun U1 hU hk => ?_)
    have nb0 := hge 0 _ _ rfl
    have rb0 := (hk 0 _ _ rfl trivial).1.2 (by simp)
    clear hk hge hne
    generalize th (0 + 0) = p0_0 at *
    dsimp only at rb0
    have r_p0_0 := rb0
    clear rb0
    have n_p0_0 := nb0
    clear nb0
    have sz1 := hU.size
    have hB : Below w.heap.size w U1 := hU
    clear hU
    go_upto_region 1 with (fail)
    apply wp_region_seg0 (w := U1) (S := [.q [], .q [], .q [], .q [], .q [], .q [], .al 7, .st 6 [], .q []]) (E := [.q0 _, .c0 _, .c0 _, .q0 _, .q0 _, .q0 _, .al ((fun p => .pointer (some ⟨p, 0, none⟩)), _) 7, .s0 6 (.cells _ _), .q0 _]) rfl (by kernel_rfl) rfl rfl
    intro th hge hne
    refine Seg.sq ?_
    refine Seg.step _ rfl (Or.inl ⟨by rfl, fun U hU => ?_⟩) ?_
    · go_simp
      refine vp_call (r26varCol_any _)
    refine Seg.sa ?_
    refine Seg.step _ rfl (Or.inl ⟨by rfl, fun U hU => ?_⟩) ?_
    · go_simp
      refine vp_call (kt.out _)
    refine Seg.sa ?_
    iterate 3 refine Seg.sq ?_
    refine Seg.step _ rfl ⟨by rfl, fun U hU => ?_⟩ ?_
    · go_simp; exact vp_alloc rfl rfl rfl
    refine Seg.sa ?_
    refine Seg.step _ rfl ⟨by rfl, fun U z k hz hU hc => ?_⟩ ?_
    · have hz2 := Option.some.inj hz
      cases hz2; clear hz
      exact vp_store_agg _ _ _ rfl hc rfl rfl (by kernel_rfl) rfl (by rfl)
    refine Seg.sa ?_
    refine Seg.sq ?_
    refine Seg.stop (fun U2 hU hk => ?_)
    have nb6 := hge 6 _ _ rfl
    have rb6 := (hk 6 _ 7 rfl trivial).1.1 trivial _ (Nat.zero_le _) rfl
    clear hk hge hne
    generalize th (0 + 6) = p1_6 at *
    simp only [Ent.obj] at rb6
    replace r_p0_0 := held_after hU r_p0_0
    have r_p1_6 := rb6
    clear rb6
    have n_p1_6 := nb6
    clear nb6
    have sz2 := hU.size
    replace hB := bthen hB hU
    clear hU
    have x0 := held_cell r_p1_6 0 _ rfl
    have x1 := held_cell r_p1_6 1 _ rfl
    have f0 := held_free r_p0_0 0
    have f1 := held_free r_p0_0 1
    have k0 := held_cell r_p0_0 0 _ rfl
    have k1 := held_cell r_p0_0 1 _ rfl
    obtain ⟨W9, hW9, ya, yO⟩ := st2 r_p0_0 (.bool true) (.int .i64 n)
    have hB9 := hid (belowS hB yO (by omega))
    have hld := run_loadVar_row (P := Tryz.prog) W9 p0_0 25 25 #[.bool true, .int .i64 n] (0, 0) _ ya Tryz.underlying25 rfl (by kernel_rfl)
    replace ya := hid ya
    clear hB yO r_p0_0 kt
    go_wp2_with fail
    refine bodyPost_ret (v := .tuple #[.agg #[.bool true, .int .i64 n], .int .i64 0]) (by simp [results, Tryz.results60, asAddr, hld]) rfl ⟨rfl, hB9.out⟩
  have b1 : (u.toList == [69]) = false := by rw [hE]; exact decide_eq_false ce
  by_cases cw : u = ⟨#[87]⟩
  case pos =>
    have b2 : (u.toList == [87]) = true := by rw [hW]; exact decide_eq_true cw
    have wn : IntKind.i64.wrap (-n) = -n := by simp [IntKind.wrap, IntKind.bits, IntKind.signed]; omega
    have hd : tvD (true, n, 0) u = (true, -n, 0) := by
      have hs : sdE u true = 0 := by unfold sdE; rw [if_pos rfl, if_neg (fun h => h.2 cw)]
      have hN : sdN u n = -n := by unfold sdN; rw [if_pos cw]
      unfold tvD; dsimp only; rw [if_neg cq, hs, if_neg cq, hN]
    rw [hd]
    dsimp only
    clear hd hE hW hn ce cw
    go_enter Tryz.func60, Tryz.ntmps60
    go_upto_region 0 with (fail)
    apply wp_region_seg0 (w := w) (S := [.al 1000, .q []]) (E := [.al ((fun p => .pointer (some ⟨p, 0, none⟩)), _) 1000, .q0 _]) rfl (by kernel_rfl) rfl rfl
    intro th hge hne
    refine Seg.step _ rfl ⟨by rfl, fun U hU => ?_⟩ ?_
    · go_simp; exact vp_alloc rfl rfl rfl
    refine Seg.sa ?_
    refine Seg.sq ?_
    refine Seg.stop (fun U1 hU hk => ?_)
    have nb0 := hge 0 _ _ rfl
    have rb0 := (hk 0 _ _ rfl trivial).1.2 (by simp)
    clear hk hge hne
    generalize th (0 + 0) = p0_0 at *
    dsimp only at rb0
    have r_p0_0 := rb0
    clear rb0
    have n_p0_0 := nb0
    clear nb0
    have sz1 := hU.size
    have hB : Below w.heap.size w U1 := hU
    clear hU
    go_upto_region 1 with (fail)
    apply wp_region_seg0 (w := U1) (S := [.q [], .q [], .q [], .q [], .q [], .q [], .al 7, .st 6 [], .q []]) (E := [.q0 _, .c0 _, .c0 _, .q0 _, .q0 _, .q0 _, .al ((fun p => .pointer (some ⟨p, 0, none⟩)), _) 7, .s0 6 (.cells _ _), .q0 _]) rfl (by kernel_rfl) rfl rfl
    intro th hge hne
    refine Seg.sq ?_
    refine Seg.step _ rfl (Or.inl ⟨by rfl, fun U hU => ?_⟩) ?_
    · go_simp
      refine vp_call (r26varCol_any _)
    refine Seg.sa ?_
    refine Seg.step _ rfl (Or.inl ⟨by rfl, fun U hU => ?_⟩) ?_
    · go_simp
      refine vp_call (kt.out _)
    refine Seg.sa ?_
    iterate 3 refine Seg.sq ?_
    refine Seg.step _ rfl ⟨by rfl, fun U hU => ?_⟩ ?_
    · go_simp; exact vp_alloc rfl rfl rfl
    refine Seg.sa ?_
    refine Seg.step _ rfl ⟨by rfl, fun U z k hz hU hc => ?_⟩ ?_
    · have hz2 := Option.some.inj hz
      cases hz2; clear hz
      exact vp_store_agg _ _ _ rfl hc rfl rfl (by kernel_rfl) rfl (by rfl)
    refine Seg.sa ?_
    refine Seg.sq ?_
    refine Seg.stop (fun U2 hU hk => ?_)
    have nb6 := hge 6 _ _ rfl
    have rb6 := (hk 6 _ 7 rfl trivial).1.1 trivial _ (Nat.zero_le _) rfl
    clear hk hge hne
    generalize th (0 + 6) = p1_6 at *
    simp only [Ent.obj] at rb6
    replace r_p0_0 := held_after hU r_p0_0
    have r_p1_6 := rb6
    clear rb6
    have n_p1_6 := nb6
    clear nb6
    have sz2 := hU.size
    replace hB := bthen hB hU
    clear hU
    have x0 := held_cell r_p1_6 0 _ rfl
    have x1 := held_cell r_p1_6 1 _ rfl
    have f0 := held_free r_p0_0 0
    have f1 := held_free r_p0_0 1
    have k0 := held_cell r_p0_0 0 _ rfl
    have k1 := held_cell r_p0_0 1 _ rfl
    obtain ⟨W9, hW9, ya, yO⟩ := st2 r_p0_0 (.bool true) (.int .i64 (-n))
    have hB9 := hid (belowS hB yO (by omega))
    have hld := run_loadVar_row (P := Tryz.prog) W9 p0_0 25 25 #[.bool true, .int .i64 (-n)] (0, 0) _ ya Tryz.underlying25 rfl (by kernel_rfl)
    replace ya := hid ya
    clear hB yO r_p0_0 kt
    go_wp2_with fail
    refine bodyPost_ret (v := .tuple #[.agg #[.bool true, .int .i64 (-n)], .int .i64 0]) (by simp [results, Tryz.results60, asAddr, hld]) rfl ⟨rfl, hB9.out⟩
  have b2 : (u.toList == [87]) = false := by rw [hW]; exact decide_eq_false cw
  have hd : tvD (true, n, 0) u = (false, 0, 3) := by
    have hs : sdE u true = 3 := by unfold sdE; rw [if_pos rfl, if_pos ⟨ce, cw⟩]
    unfold tvD; dsimp only; rw [if_neg cq, hs, if_pos (by decide)]
  rw [hd]
  dsimp only
  clear hd hE hW hn ce cw
  go_enter Tryz.func60, Tryz.ntmps60
  go_upto_region 0 with (fail)
  apply wp_region_seg0 (w := w) (S := [.al 1000, .q []]) (E := [.al ((fun p => .pointer (some ⟨p, 0, none⟩)), _) 1000, .q0 _]) rfl (by kernel_rfl) rfl rfl
  intro th hge hne
  refine Seg.step _ rfl ⟨by rfl, fun U hU => ?_⟩ ?_
  · go_simp; exact vp_alloc rfl rfl rfl
  refine Seg.sa ?_
  refine Seg.sq ?_
  refine Seg.stop (fun U1 hU hk => ?_)
  have nb0 := hge 0 _ _ rfl
  have rb0 := (hk 0 _ _ rfl trivial).1.2 (by simp)
  clear hk hge hne
  generalize th (0 + 0) = p0_0 at *
  dsimp only at rb0
  have r_p0_0 := rb0
  clear rb0
  have n_p0_0 := nb0
  clear nb0
  have sz1 := hU.size
  have hB : Below w.heap.size w U1 := hU
  clear hU
  go_upto_region 1 with (fail)
  apply wp_region_seg0 (w := U1) (S := [.q [], .q [], .q [], .q [], .q [], .q [], .al 7, .st 6 [], .q []]) (E := [.q0 _, .c0 _, .c0 _, .q0 _, .q0 _, .q0 _, .al ((fun p => .pointer (some ⟨p, 0, none⟩)), _) 7, .s0 6 (.cells _ _), .q0 _]) rfl (by kernel_rfl) rfl rfl
  intro th hge hne
  refine Seg.sq ?_
  refine Seg.step _ rfl (Or.inl ⟨by rfl, fun U hU => ?_⟩) ?_
  · go_simp
    refine vp_call (r26varCol_any _)
  refine Seg.sa ?_
  refine Seg.step _ rfl (Or.inl ⟨by rfl, fun U hU => ?_⟩) ?_
  · go_simp
    refine vp_call (kt.out _)
  refine Seg.sa ?_
  iterate 3 refine Seg.sq ?_
  refine Seg.step _ rfl ⟨by rfl, fun U hU => ?_⟩ ?_
  · go_simp; exact vp_alloc rfl rfl rfl
  refine Seg.sa ?_
  refine Seg.step _ rfl ⟨by rfl, fun U z k hz hU hc => ?_⟩ ?_
  · have hz2 := Option.some.inj hz
    cases hz2; clear hz
    exact vp_store_agg _ _ _ rfl hc rfl rfl (by kernel_rfl) rfl (by rfl)
  refine Seg.sa ?_
  refine Seg.sq ?_
  refine Seg.stop (fun U2 hU hk => ?_)
  have nb6 := hge 6 _ _ rfl
  have rb6 := (hk 6 _ 7 rfl trivial).1.1 trivial _ (Nat.zero_le _) rfl
  clear hk hge hne
  generalize th (0 + 6) = p1_6 at *
  simp only [Ent.obj] at rb6
  replace r_p0_0 := held_after hU r_p0_0
  have r_p1_6 := rb6
  clear rb6
  have n_p1_6 := nb6
  clear nb6
  have sz2 := hU.size
  replace hB := bthen hB hU
  clear hU
  have x0 := held_cell r_p1_6 0 _ rfl
  have x1 := held_cell r_p1_6 1 _ rfl
  have f0 := held_free r_p0_0 0
  have f1 := held_free r_p0_0 1
  have k0 := held_cell r_p0_0 0 _ rfl
  have k1 := held_cell r_p0_0 1 _ rfl
  obtain ⟨W9, hW9, ya, yO⟩ := st2 r_p0_0 (.bool false) (.int .i64 0)
  have hB9 := hid (belowS hB yO (by omega))
  have hld := run_loadVar_row (P := Tryz.prog) W9 p0_0 25 25 #[.bool false, .int .i64 0] (0, 0) _ ya Tryz.underlying25 rfl (by kernel_rfl)
  replace ya := hid ya
  clear hB yO r_p0_0 kt
  go_wp2_with fail
  refine bodyPost_ret (v := .tuple #[.agg #[.bool false, .int .i64 0], .int .i64 3]) (by simp [results, Tryz.results60, asAddr, hld]) rfl ⟨rfl, hB9.out⟩

end Go.Proofs.YthnoomdhgbaecaaGreatDoor

/- Package rmc: what is put. -/
namespace Go.Proofs.YthnoomdhgbaecaaGreatDoor

open Go.ChangeShapes Go.WideShapes Go.ChangeAt Go.RowKit

set_option linter.unusedVariables false

set_option linter.unusedSimpArgs false

/-- What a message's fields are. -/
def rmI (T : ByteArray) (k : Int) (ac ai : Bool) (an : Int) (oi : Bool) (on : Int) (pi : Bool) (pn : Int) (ci : Bool) (cn : Int) (vi : Bool) (vn : Int) (Td : ByteArray) (kd : Int) : List (List ByteArray × Int) := [([T], k), ([stS ac], 0), ([nb (angD ai an true).1, nb (angD ai an true).2.1], (angD ai an true).2.2), ([nb (angD oi on false).1, nb (angD oi on false).2.1], (angD oi on false).2.2), ([nb (putD pi pn 1 4 2 0 999999).1], (putD pi pn 1 4 2 0 999999).2), ([nb (putD ci cn 1 3 2 0 36000).1], (putD ci cn 1 3 2 0 36000).2), ([Td], kd), ([nb (putD vi (vN vn) 1 3 1 0 1800).1, vS vi vn], (putD vi (vN vn) 1 3 1 0 1800).2)]
def rmP (T : ByteArray) (k : Int) (ac ai : Bool) (an : Int) (oi : Bool) (on : Int) (pi : Bool) (pn : Int) (ci : Bool) (cn : Int) (vi : Bool) (vn : Int) (Td : ByteArray) (kd : Int) : List (List ByteArray × Int) := [([T], k), ([stS ac], 0), ([nb (angD ai an true).1, nb (angD ai an true).2.1], (angD ai an true).2.2), ([nb (angD oi on false).1, nb (angD oi on false).2.1], (angD oi on false).2.2), ([nb (putD pi pn 1 4 2 0 999999).1], (putD pi pn 1 4 2 0 999999).2), ([nb (putD ci cn 1 3 2 0 36000).1], (putD ci cn 1 3 2 0 36000).2), ([Td], kd), ([nb (pvD vi vn).1, (pvD vi vn).2.1], (pvD vi vn).2.2)]
theorem pv_err (i : Bool) (n : Int) : (pvD i n).2.2 = (putD i (vN n) 1 3 1 0 1800).2 := by
  unfold pvD
  split
  · rename_i h
    have hv : vN n = n := by unfold vN; rw [if_neg (by omega)]
    rw [hv]
    unfold putD
    rw [if_neg (by decide), if_pos (by unfold missE; cases i <;> simp <;> omega)]
  · split
    · rename_i h; exact h.1.symm
    · rfl
theorem pv_txt {i : Bool} {n : Int} (h : (putD i (vN n) 1 3 1 0 1800).2 = 0) : (pvD i n).1 = (putD i (vN n) 1 3 1 0 1800).1 ∧ (pvD i n).2.1 = vS i n := by
  have h0 : ¬ n < -1800 := by
    intro h1
    have h2 := pv_err i n
    rw [h] at h2
    unfold pvD at h2
    rw [if_pos h1] at h2
    cases h2
  unfold pvD
  rw [if_neg h0]
  cases i
  · rw [if_neg (fun hh => by cases hh.2)]
    refine ⟨?_, by unfold vS; rw [if_neg (by decide)]⟩
    have h3 := (putD_ok (L := (putD false (vN n) 1 3 1 0 1800).1) (Prod.ext rfl h)).2.2
    rw [if_pos rfl] at h3
    exact h3.symm
  · rw [if_pos ⟨h, rfl⟩]
    exact ⟨rfl, rfl⟩
theorem fE_zero26 {l : List (List ByteArray × Int)} : ∀ {e : Int}, l.foldl (fun e x => kp e x.2) e = 0 → e = 0 ∧ ∀ x ∈ l, x.2 = 0 := by
  induction l with
  | nil => intro e h; exact ⟨h, fun x hx => by cases hx⟩
  | cons y l ih =>
    intro e h
    obtain ⟨h1, h2⟩ := ih h
    obtain ⟨h3, h4⟩ := kp_ok h1
    refine ⟨h3, fun x hx => ?_⟩
    rcases List.mem_cons.1 hx with rfl | hx
    · exact h4
    · exact h2 x hx
theorem rm_same (T : ByteArray) (k : Int) (ac ai : Bool) (an : Int) (oi : Bool) (on : Int) (pi : Bool) (pn : Int) (ci : Bool) (cn : Int) (vi : Bool) (vn : Int) (Td : ByteArray) (kd : Int) : fE (rmP T k ac ai an oi on pi pn ci cn vi vn Td kd) = fE (rmI T k ac ai an oi on pi pn ci cn vi vn Td kd) ∧ (fE (rmI T k ac ai an oi on pi pn ci cn vi vn Td kd) = 0 → fL (rmP T k ac ai an oi on pi pn ci cn vi vn Td kd) = fL (rmI T k ac ai an oi on pi pn ci cn vi vn Td kd)) := by
  have h1 := pv_err vi vn
  refine ⟨by unfold rmP rmI; rw [h1]; rfl, fun h => ?_⟩
  have h2 := (fE_zero26 (e := 0) h).2 _ (show ([nb (putD vi (vN vn) 1 3 1 0 1800).1, vS vi vn], (putD vi (vN vn) 1 3 1 0 1800).2) ∈ rmI T k ac ai an oi on pi pn ci cn vi vn Td kd by unfold rmI; simp)
  have h3 := pv_txt h2
  unfold rmP rmI
  rw [h3.1, h3.2, h1]
/-- A pen, a message and what else stands beside it while the fields are put. -/
structure PSt (W0 : World) (B mb pp rb : Nat) (M ro : Array Value) (e : Int) (L : List ByteArray) (W : World) : Prop where
  pen : PenIn W W0.heap.size B e L
  m : W.heap[mb]? = some (.cells M 29 (0, 0))
  p : W.heap[pp]? = some (.cells #[.pointer (some ⟨B, 0, none⟩)] 44 (0, 0))
  row : W.heap[rb]? = some (.cells ro 1 (0, 0))
  tab : Tab W0
  bel : After W0 W
  nm : mb ≠ B
  np : pp ≠ B
  nr : rb ≠ B
  hb : W0.heap.size ≤ B
theorem PSt.eff {W0 : World} {B mb pp rb : Nat} {M ro : Array Value} {e e' : Int} {L L' : List ByteArray} {W W' : World} (h : PSt W0 B mb pp rb M ro e L W) (hP : PenIn W' W0.heap.size B e' L') (hK : PEff W0.heap.size B 2 W W') : PSt W0 B mb pp rb M ro e' L' W' :=
  ⟨hP, h.pen.besides hK h.m h.nm (by decide), h.pen.besides hK h.p h.np (by decide), h.pen.besides hK h.row h.nr (by decide), h.tab, (show Below W0.heap.size W0 W from h.bel).trans hK.below, h.nm, h.np, h.nr, h.hb⟩
theorem PSt.below {W0 : World} {B mb pp rb : Nat} {M ro : Array Value} {e : Int} {L : List ByteArray} {W W' : World} (h : PSt W0 B mb pp rb M ro e L W) (hA : After W W') : PSt W0 B mb pp rb M ro e L W' :=
  ⟨h.pen.aft hA, held_after hA h.m, held_after hA h.p, held_after hA h.row, h.tab, bthen h.bel hA, h.nm, h.np, h.nr, h.hb⟩
theorem PSt.tb {W0 : World} {B mb pp rb : Nat} {M ro : Array Value} {e : Int} {L : List ByteArray} {W : World} (h : PSt W0 B mb pp rb M ro e L W) : Tab W := h.tab.on h.bel
theorem DnOk.congr26 {w w' : World} {e : Int} {L L' : List ByteArray} {r : Ending} (h : e = 0 → L = L') (k : DnOk w e L r w') : DnOk w e L' r w' := by
  by_cases c : e = 0
  · rw [← h c]; exact k
  · obtain ⟨a, cap, h1, h2, h3, h4⟩ := k
    rw [if_neg c] at h1 h2
    exact ⟨a, cap, by rw [if_neg c]; exact h1, by rw [if_neg c]; exact h2, h3, h4⟩
set_option maxRecDepth 100000 in
set_option maxHeartbeats 4000000 in
theorem put26_1 {W0 : World} {B mb pp rb : Nat} {ro : Array Value} {e : Int} {L : List ByteArray} {W : World} (tb : Bool) (tho : Int) (tmi : Int) (tse : Int) (tce : Int) (ac : Bool) (ai : Bool) (an : Int) (oi : Bool) (on : Int) (pi : Bool) (pn : Int) (ci : Bool) (cn : Int) (vi : Bool) (vn : Int) (db : Bool) (dd : Int) (dm : Int) (dy : Int) {T : ByteArray} {k : Int} (hV : putV tb tho tmi tse tce = .tuple #[.string T, .int .i64 k]) (hl : L.length ≤ 900) (h : PSt W0 B mb pp rb #[.bool tb, .int .i64 tho, .int .i64 tmi, .int .i64 tse, .int .i64 tce, .bool ac, .bool ai, .int .i64 an, .bool oi, .int .i64 on, .bool pi, .int .i64 pn, .bool ci, .int .i64 cn, .bool vi, .int .i64 vn, .bool db, .int .i64 dd, .int .i64 dm, .int .i64 dy] ro e L W) : Calls Tryz.prog 18 #[.pointer (some ⟨pp, 0, none⟩), .pointer (some ⟨mb, 0, none⟩)] W fun r W' => r = .returned (.tuple #[]) ∧ PSt W0 B mb pp rb #[.bool tb, .int .i64 tho, .int .i64 tmi, .int .i64 tse, .int .i64 tce, .bool ac, .bool ai, .int .i64 an, .bool oi, .int .i64 on, .bool pi, .int .i64 pn, .bool ci, .int .i64 cn, .bool vi, .int .i64 vn, .bool db, .int .i64 dd, .int .i64 dm, .int .i64 dy] ro (kp e k) (L ++ [T]) W' := by
  have hm := h.m
  have hp := h.p
  have x := held_cell hp 0 _ rfl
  have kc := hid (fun U => hV ▸ put_any tb tho tmi tse tce U)
  go_enter Tryz.func18, Tryz.ntmps18
  go_upto_region 0 with (fail)
  apply wp_region_part (w := W) (S := [.q [], .q [], .q [], .q [], .q [], .q []]) (E := [.q0 _, .q0 _, .q0 _, .c0 _, .q0 _, .q0 _]) 6 1 (by kernel_rfl) rfl (by kernel_rfl) rfl rfl rfl
  intro th hge hne
  refine Seg.sq ?_ (ht := Or.inl ⟨by rfl, fun U hU => vp_quiet (by (have h0 := held_cell (held_after hU.1 hp) 0 _ rfl; go_simp <;> exact rfl))⟩)
  refine Seg.sq ?_
  refine Seg.sq ?_ (ht := Or.inl ⟨by rfl, fun U hU => vp_quiet (by (have h0 := held_cell (held_after hU.1 hm) 0 _ rfl; have h1 := held_cell (held_after hU.1 hm) 1 _ rfl; have h2 := held_cell (held_after hU.1 hm) 2 _ rfl; have h3 := held_cell (held_after hU.1 hm) 3 _ rfl; have h4 := held_cell (held_after hU.1 hm) 4 _ rfl; go_simp <;> exact rfl))⟩)
  refine Seg.step _ rfl (Or.inl ⟨by rfl, fun U hU => ?_⟩) ?_
  · go_simp
    refine vp_call (kc.out _)
  refine Seg.sa ?_
  refine Seg.sq ?_
  refine Seg.sq ?_
  refine Seg.stop (fun U1 hU hk => ?_)
  clear hk hge hne
  replace hp := held_after hU hp
  replace hm := held_after hU hm
  replace h := h.below hU
  have sz1 := hU.size
  have hB : Below W.heap.size W U1 := hU
  clear hU
  have kt := hid (fun U hP => ptext_any W0.heap.size B e k L T U hP (by omega) h.hb)
  refine Seg.only (m := 6) (k := 0) rfl (by kernel_rfl) (by rfl) (fun K hK => ?_)
  go_simp
  refine (kt.out _ h.pen).mono ?_
  rintro r V ⟨rfl, hP2, hf2⟩
  have hh := hid (h.eff hP2 hf2)
  clear hP2 hf2
  refine hK _ _ (Seg.finish ?_ _)
  clear hK
  go_wp2_with fail
  go_end0
  exact ⟨rfl, hh.out⟩
set_option maxRecDepth 100000 in
set_option maxHeartbeats 4000000 in
theorem put26_7 {W0 : World} {B mb pp rb : Nat} {ro : Array Value} {e : Int} {L : List ByteArray} {W : World} (tb : Bool) (tho : Int) (tmi : Int) (tse : Int) (tce : Int) (ac : Bool) (ai : Bool) (an : Int) (oi : Bool) (on : Int) (pi : Bool) (pn : Int) (ci : Bool) (cn : Int) (vi : Bool) (vn : Int) (db : Bool) (dd : Int) (dm : Int) (dy : Int) {Td : ByteArray} {kd : Int} (hD : putDt db dd dm dy = .tuple #[.string Td, .int .i64 kd]) (hl : L.length ≤ 900) (h : PSt W0 B mb pp rb #[.bool tb, .int .i64 tho, .int .i64 tmi, .int .i64 tse, .int .i64 tce, .bool ac, .bool ai, .int .i64 an, .bool oi, .int .i64 on, .bool pi, .int .i64 pn, .bool ci, .int .i64 cn, .bool vi, .int .i64 vn, .bool db, .int .i64 dd, .int .i64 dm, .int .i64 dy] ro e L W) : Calls Tryz.prog 31 #[.pointer (some ⟨pp, 0, none⟩), .pointer (some ⟨mb, 0, none⟩)] W fun r W' => r = .returned (.tuple #[]) ∧ PSt W0 B mb pp rb #[.bool tb, .int .i64 tho, .int .i64 tmi, .int .i64 tse, .int .i64 tce, .bool ac, .bool ai, .int .i64 an, .bool oi, .int .i64 on, .bool pi, .int .i64 pn, .bool ci, .int .i64 cn, .bool vi, .int .i64 vn, .bool db, .int .i64 dd, .int .i64 dm, .int .i64 dy] ro (kp e kd) (L ++ [Td]) W' := by
  have hm := h.m
  have hp := h.p
  have x := held_cell hp 0 _ rfl
  have kc := hid (fun U => hD ▸ putd_any db dd dm dy U)
  go_enter Tryz.func31, Tryz.ntmps31
  go_upto_region 0 with (fail)
  apply wp_region_part (w := W) (S := [.q [], .q [], .q [], .q [], .q [], .q []]) (E := [.q0 _, .q0 _, .q0 _, .c0 _, .q0 _, .q0 _]) 6 1 (by kernel_rfl) rfl (by kernel_rfl) rfl rfl rfl
  intro th hge hne
  refine Seg.sq ?_ (ht := Or.inl ⟨by rfl, fun U hU => vp_quiet (by (have h0 := held_cell (held_after hU.1 hp) 0 _ rfl; go_simp <;> exact rfl))⟩)
  refine Seg.sq ?_
  refine Seg.sq ?_ (ht := Or.inl ⟨by rfl, fun U hU => vp_quiet (by (have h0 := held_cell (held_after hU.1 hm) 16 _ rfl; have h1 := held_cell (held_after hU.1 hm) 17 _ rfl; have h2 := held_cell (held_after hU.1 hm) 18 _ rfl; have h3 := held_cell (held_after hU.1 hm) 19 _ rfl; go_simp <;> exact rfl))⟩)
  refine Seg.step _ rfl (Or.inl ⟨by rfl, fun U hU => ?_⟩) ?_
  · go_simp
    refine vp_call (kc.out _)
  refine Seg.sa ?_
  refine Seg.sq ?_
  refine Seg.sq ?_
  refine Seg.stop (fun U1 hU hk => ?_)
  clear hk hge hne
  replace hp := held_after hU hp
  replace hm := held_after hU hm
  replace h := h.below hU
  have sz1 := hU.size
  have hB : Below W.heap.size W U1 := hU
  clear hU
  have kt := hid (fun U hP => ptext_any W0.heap.size B e kd L Td U hP (by omega) h.hb)
  refine Seg.only (m := 6) (k := 0) rfl (by kernel_rfl) (by rfl) (fun K hK => ?_)
  go_simp
  refine (kt.out _ h.pen).mono ?_
  rintro r V ⟨rfl, hP2, hf2⟩
  have hh := hid (h.eff hP2 hf2)
  clear hP2 hf2
  refine hK _ _ (Seg.finish ?_ _)
  clear hK
  go_wp2_with fail
  go_end0
  exact ⟨rfl, hh.out⟩
set_option maxRecDepth 100000 in
set_option maxHeartbeats 4000000 in
theorem put26_2 {W0 : World} {B mb pp rb : Nat} {ro : Array Value} {e : Int} {L : List ByteArray} {W : World} (tb : Bool) (tho : Int) (tmi : Int) (tse : Int) (tce : Int) (ac : Bool) (ai : Bool) (an : Int) (oi : Bool) (on : Int) (pi : Bool) (pn : Int) (ci : Bool) (cn : Int) (vi : Bool) (vn : Int) (db : Bool) (dd : Int) (dm : Int) (dy : Int) (hl : L.length ≤ 900) (h : PSt W0 B mb pp rb #[.bool tb, .int .i64 tho, .int .i64 tmi, .int .i64 tse, .int .i64 tce, .bool ac, .bool ai, .int .i64 an, .bool oi, .int .i64 on, .bool pi, .int .i64 pn, .bool ci, .int .i64 cn, .bool vi, .int .i64 vn, .bool db, .int .i64 dd, .int .i64 dm, .int .i64 dy] ro e L W) : Calls Tryz.prog 21 #[.pointer (some ⟨pp, 0, none⟩), .pointer (some ⟨mb, 0, none⟩)] W fun r W' => r = .returned (.tuple #[]) ∧ PSt W0 B mb pp rb #[.bool tb, .int .i64 tho, .int .i64 tmi, .int .i64 tse, .int .i64 tce, .bool ac, .bool ai, .int .i64 an, .bool oi, .int .i64 on, .bool pi, .int .i64 pn, .bool ci, .int .i64 cn, .bool vi, .int .i64 vn, .bool db, .int .i64 dd, .int .i64 dm, .int .i64 dy] ro (kp e 0) (L ++ [stS ac]) W' := by
  have hm := h.m
  have hp := h.p
  have x := held_cell hp 0 _ rfl
  have kc := hid (fun U => state26_any ac U)
  go_enter Tryz.func21, Tryz.ntmps21
  go_upto_region 0 with (fail)
  apply wp_region_part (w := W) (S := [.q [], .q [], .q [], .q []]) (E := [.q0 _, .q0 _, .q0 _, .c0 _]) 4 1 (by kernel_rfl) rfl (by kernel_rfl) rfl rfl rfl
  intro th hge hne
  refine Seg.sq ?_ (ht := Or.inl ⟨by rfl, fun U hU => vp_quiet (by (have h0 := held_cell (held_after hU.1 hp) 0 _ rfl; go_simp <;> exact rfl))⟩)
  refine Seg.sq ?_
  refine Seg.sq ?_ (ht := Or.inl ⟨by rfl, fun U hU => vp_quiet (by (have h0 := held_cell (held_after hU.1 hm) 5 _ rfl; go_simp <;> exact rfl))⟩)
  refine Seg.step _ rfl (Or.inl ⟨by rfl, fun U hU => ?_⟩) ?_
  · go_simp
    refine vp_call ((kc.out _).mono (fun r V h => ⟨h.1, (by rw [h.2]; exact After.refl _)⟩))
  refine Seg.sa ?_
  refine Seg.stop (fun U1 hU hk => ?_)
  clear hk hge hne
  replace hp := held_after hU hp
  replace hm := held_after hU hm
  replace h := h.below hU
  have sz1 := hU.size
  have hB : Below W.heap.size W U1 := hU
  clear hU
  have kt := hid (fun U hP => ptext_any W0.heap.size B e 0 L (stS ac) U hP (by omega) h.hb)
  refine Seg.only (m := 4) (k := 0) rfl (by kernel_rfl) (by rfl) (fun K hK => ?_)
  go_simp
  refine (kt.out _ h.pen).mono ?_
  rintro r V ⟨rfl, hP2, hf2⟩
  have hh := hid (h.eff hP2 hf2)
  clear hP2 hf2
  refine hK _ _ (Seg.finish ?_ _)
  clear hK
  go_wp2_with fail
  go_end0
  exact ⟨rfl, hh.out⟩
set_option maxRecDepth 100000 in
set_option maxHeartbeats 4000000 in
theorem put26_3 {W0 : World} {B mb pp rb : Nat} {ro : Array Value} {e : Int} {L : List ByteArray} {W : World} (tb : Bool) (tho : Int) (tmi : Int) (tse : Int) (tce : Int) (ac : Bool) (ai : Bool) (an : Int) (oi : Bool) (on : Int) (pi : Bool) (pn : Int) (ci : Bool) (cn : Int) (vi : Bool) (vn : Int) (db : Bool) (dd : Int) (dm : Int) (dy : Int) (hn : (-9223372036854775808 ≤ an ∧ an ≤ 9223372036854775807)) (hl : L.length ≤ 900) (h : PSt W0 B mb pp rb #[.bool tb, .int .i64 tho, .int .i64 tmi, .int .i64 tse, .int .i64 tce, .bool ac, .bool ai, .int .i64 an, .bool oi, .int .i64 on, .bool pi, .int .i64 pn, .bool ci, .int .i64 cn, .bool vi, .int .i64 vn, .bool db, .int .i64 dd, .int .i64 dm, .int .i64 dy] ro e L W) : Calls Tryz.prog 23 #[.pointer (some ⟨pp, 0, none⟩), .pointer (some ⟨mb, 0, none⟩)] W fun r W' => r = .returned (.tuple #[]) ∧ PSt W0 B mb pp rb #[.bool tb, .int .i64 tho, .int .i64 tmi, .int .i64 tse, .int .i64 tce, .bool ac, .bool ai, .int .i64 an, .bool oi, .int .i64 on, .bool pi, .int .i64 pn, .bool ci, .int .i64 cn, .bool vi, .int .i64 vn, .bool db, .int .i64 dd, .int .i64 dm, .int .i64 dy] ro (kp e (angD ai an true).2.2) (L ++ [nb (angD ai an true).1, nb (angD ai an true).2.1]) W' := by
  have hm := h.m
  have hp := h.p
  have x := held_cell hp 0 _ rfl
  have c0 := held_cell hm 6 _ rfl
  have c1 := held_cell hm 7 _ rfl
  have kt := hid (fun U hP ht => pang_any W0.heap.size B e L ai an true U hP (by omega) h.hb hn ht)
  clear hm hp
  go_enter Tryz.func23, Tryz.ntmps23
  go_upto_region 0 with (fail)
  go_wp2_with fail
  refine (kt.out _ h.pen h.tb).mono ?_
  rintro r V ⟨rfl, hP2, hf2⟩
  have hh := hid (h.eff hP2 hf2)
  clear hP2 hf2
  go_wp2_with fail
  go_end0
  exact ⟨rfl, hh.out⟩
set_option maxRecDepth 100000 in
set_option maxHeartbeats 4000000 in
theorem put26_4 {W0 : World} {B mb pp rb : Nat} {ro : Array Value} {e : Int} {L : List ByteArray} {W : World} (tb : Bool) (tho : Int) (tmi : Int) (tse : Int) (tce : Int) (ac : Bool) (ai : Bool) (an : Int) (oi : Bool) (on : Int) (pi : Bool) (pn : Int) (ci : Bool) (cn : Int) (vi : Bool) (vn : Int) (db : Bool) (dd : Int) (dm : Int) (dy : Int) (hn : (-9223372036854775808 ≤ on ∧ on ≤ 9223372036854775807)) (hl : L.length ≤ 900) (h : PSt W0 B mb pp rb #[.bool tb, .int .i64 tho, .int .i64 tmi, .int .i64 tse, .int .i64 tce, .bool ac, .bool ai, .int .i64 an, .bool oi, .int .i64 on, .bool pi, .int .i64 pn, .bool ci, .int .i64 cn, .bool vi, .int .i64 vn, .bool db, .int .i64 dd, .int .i64 dm, .int .i64 dy] ro e L W) : Calls Tryz.prog 25 #[.pointer (some ⟨pp, 0, none⟩), .pointer (some ⟨mb, 0, none⟩)] W fun r W' => r = .returned (.tuple #[]) ∧ PSt W0 B mb pp rb #[.bool tb, .int .i64 tho, .int .i64 tmi, .int .i64 tse, .int .i64 tce, .bool ac, .bool ai, .int .i64 an, .bool oi, .int .i64 on, .bool pi, .int .i64 pn, .bool ci, .int .i64 cn, .bool vi, .int .i64 vn, .bool db, .int .i64 dd, .int .i64 dm, .int .i64 dy] ro (kp e (angD oi on false).2.2) (L ++ [nb (angD oi on false).1, nb (angD oi on false).2.1]) W' := by
  have hm := h.m
  have hp := h.p
  have x := held_cell hp 0 _ rfl
  have c0 := held_cell hm 8 _ rfl
  have c1 := held_cell hm 9 _ rfl
  have kt := hid (fun U hP ht => pang_any W0.heap.size B e L oi on false U hP (by omega) h.hb hn ht)
  clear hm hp
  go_enter Tryz.func25, Tryz.ntmps25
  go_upto_region 0 with (fail)
  go_wp2_with fail
  refine (kt.out _ h.pen h.tb).mono ?_
  rintro r V ⟨rfl, hP2, hf2⟩
  have hh := hid (h.eff hP2 hf2)
  clear hP2 hf2
  go_wp2_with fail
  go_end0
  exact ⟨rfl, hh.out⟩
set_option maxRecDepth 100000 in
set_option maxHeartbeats 4000000 in
theorem put26_5 {W0 : World} {B mb pp rb : Nat} {ro : Array Value} {e : Int} {L : List ByteArray} {W : World} (tb : Bool) (tho : Int) (tmi : Int) (tse : Int) (tce : Int) (ac : Bool) (ai : Bool) (an : Int) (oi : Bool) (on : Int) (pi : Bool) (pn : Int) (ci : Bool) (cn : Int) (vi : Bool) (vn : Int) (db : Bool) (dd : Int) (dm : Int) (dy : Int) (hn : (-9223372036854775808 ≤ pn ∧ pn ≤ 9223372036854775807)) (hl : L.length ≤ 900) (h : PSt W0 B mb pp rb #[.bool tb, .int .i64 tho, .int .i64 tmi, .int .i64 tse, .int .i64 tce, .bool ac, .bool ai, .int .i64 an, .bool oi, .int .i64 on, .bool pi, .int .i64 pn, .bool ci, .int .i64 cn, .bool vi, .int .i64 vn, .bool db, .int .i64 dd, .int .i64 dm, .int .i64 dy] ro e L W) : Calls Tryz.prog 26 #[.pointer (some ⟨pp, 0, none⟩), .pointer (some ⟨mb, 0, none⟩)] W fun r W' => r = .returned (.tuple #[]) ∧ PSt W0 B mb pp rb #[.bool tb, .int .i64 tho, .int .i64 tmi, .int .i64 tse, .int .i64 tce, .bool ac, .bool ai, .int .i64 an, .bool oi, .int .i64 on, .bool pi, .int .i64 pn, .bool ci, .int .i64 cn, .bool vi, .int .i64 vn, .bool db, .int .i64 dd, .int .i64 dm, .int .i64 dy] ro (kp e (putD pi pn 1 4 2 0 999999).2) (L ++ [nb (putD pi pn 1 4 2 0 999999).1]) W' := by
  have hm := h.m
  have hp := h.p
  have x := held_cell hp 0 _ rfl
  go_enter Tryz.func26, Tryz.ntmps26
  go_upto_region 0 with (fail)
  apply wp_region_part (w := W) (S := [.q [], .q [], .q [], .q []]) (E := [.q0 _, .q0 _, .q0 _, .c0 _]) 4 1 (by kernel_rfl) rfl (by kernel_rfl) rfl rfl rfl
  intro th hge hne
  refine Seg.sq ?_ (ht := Or.inl ⟨by rfl, fun U hU => vp_quiet (by (have h0 := held_cell (held_after hU.1 hp) 0 _ rfl; go_simp <;> exact rfl))⟩)
  refine Seg.sq ?_
  refine Seg.sq ?_ (ht := Or.inl ⟨by rfl, fun U hU => vp_quiet (by (have h0 := held_cell (held_after hU.1 hm) 10 _ rfl; have h1 := held_cell (held_after hU.1 hm) 11 _ rfl; go_simp <;> exact rfl))⟩)
  refine Seg.step _ rfl (Or.inl ⟨by rfl, fun U hU => ?_⟩) ?_
  · go_simp
    refine vp_call (r26speedCol_any _)
  refine Seg.sa ?_
  refine Seg.stop (fun U1 hU hk => ?_)
  clear hk hge hne
  replace hp := held_after hU hp
  replace hm := held_after hU hm
  replace h := h.below hU
  have sz1 := hU.size
  have hB : Below W.heap.size W U1 := hU
  clear hU
  have kt := hid (fun U hP ht => pnum_any W0.heap.size B e L pi pn 1 4 2 0 999999 U hP (by omega) h.hb hn (by decide) ht)
  refine Seg.only (m := 4) (k := 0) rfl (by kernel_rfl) (by rfl) (fun K hK => ?_)
  go_simp
  refine (kt.out _ h.pen h.tb).mono ?_
  rintro r V ⟨rfl, hP2, hf2⟩
  have hh := hid (h.eff hP2 hf2)
  clear hP2 hf2
  refine hK _ _ (Seg.finish ?_ _)
  clear hK
  go_wp2_with fail
  go_end0
  exact ⟨rfl, hh.out⟩
set_option maxRecDepth 100000 in
set_option maxHeartbeats 4000000 in
theorem put26_6 {W0 : World} {B mb pp rb : Nat} {ro : Array Value} {e : Int} {L : List ByteArray} {W : World} (tb : Bool) (tho : Int) (tmi : Int) (tse : Int) (tce : Int) (ac : Bool) (ai : Bool) (an : Int) (oi : Bool) (on : Int) (pi : Bool) (pn : Int) (ci : Bool) (cn : Int) (vi : Bool) (vn : Int) (db : Bool) (dd : Int) (dm : Int) (dy : Int) (hn : (-9223372036854775808 ≤ cn ∧ cn ≤ 9223372036854775807)) (hl : L.length ≤ 900) (h : PSt W0 B mb pp rb #[.bool tb, .int .i64 tho, .int .i64 tmi, .int .i64 tse, .int .i64 tce, .bool ac, .bool ai, .int .i64 an, .bool oi, .int .i64 on, .bool pi, .int .i64 pn, .bool ci, .int .i64 cn, .bool vi, .int .i64 vn, .bool db, .int .i64 dd, .int .i64 dm, .int .i64 dy] ro e L W) : Calls Tryz.prog 29 #[.pointer (some ⟨pp, 0, none⟩), .pointer (some ⟨mb, 0, none⟩)] W fun r W' => r = .returned (.tuple #[]) ∧ PSt W0 B mb pp rb #[.bool tb, .int .i64 tho, .int .i64 tmi, .int .i64 tse, .int .i64 tce, .bool ac, .bool ai, .int .i64 an, .bool oi, .int .i64 on, .bool pi, .int .i64 pn, .bool ci, .int .i64 cn, .bool vi, .int .i64 vn, .bool db, .int .i64 dd, .int .i64 dm, .int .i64 dy] ro (kp e (putD ci cn 1 3 2 0 36000).2) (L ++ [nb (putD ci cn 1 3 2 0 36000).1]) W' := by
  have hm := h.m
  have hp := h.p
  have x := held_cell hp 0 _ rfl
  go_enter Tryz.func29, Tryz.ntmps29
  go_upto_region 0 with (fail)
  apply wp_region_part (w := W) (S := [.q [], .q [], .q [], .q []]) (E := [.q0 _, .q0 _, .q0 _, .c0 _]) 4 1 (by kernel_rfl) rfl (by kernel_rfl) rfl rfl rfl
  intro th hge hne
  refine Seg.sq ?_ (ht := Or.inl ⟨by rfl, fun U hU => vp_quiet (by (have h0 := held_cell (held_after hU.1 hp) 0 _ rfl; go_simp <;> exact rfl))⟩)
  refine Seg.sq ?_
  refine Seg.sq ?_ (ht := Or.inl ⟨by rfl, fun U hU => vp_quiet (by (have h0 := held_cell (held_after hU.1 hm) 12 _ rfl; have h1 := held_cell (held_after hU.1 hm) 13 _ rfl; go_simp <;> exact rfl))⟩)
  refine Seg.step _ rfl (Or.inl ⟨by rfl, fun U hU => ?_⟩) ?_
  · go_simp
    refine vp_call (r26courseCol_any _)
  refine Seg.sa ?_
  refine Seg.stop (fun U1 hU hk => ?_)
  clear hk hge hne
  replace hp := held_after hU hp
  replace hm := held_after hU hm
  replace h := h.below hU
  have sz1 := hU.size
  have hB : Below W.heap.size W U1 := hU
  clear hU
  have kt := hid (fun U hP ht => pnum_any W0.heap.size B e L ci cn 1 3 2 0 36000 U hP (by omega) h.hb hn (by decide) ht)
  refine Seg.only (m := 4) (k := 0) rfl (by kernel_rfl) (by rfl) (fun K hK => ?_)
  go_simp
  refine (kt.out _ h.pen h.tb).mono ?_
  rintro r V ⟨rfl, hP2, hf2⟩
  have hh := hid (h.eff hP2 hf2)
  clear hP2 hf2
  refine hK _ _ (Seg.finish ?_ _)
  clear hK
  go_wp2_with fail
  go_end0
  exact ⟨rfl, hh.out⟩
set_option maxRecDepth 100000 in
set_option maxHeartbeats 4000000 in
theorem put26_8 {W0 : World} {B mb pp rb : Nat} {ro : Array Value} {e : Int} {L : List ByteArray} {W : World} (tb : Bool) (tho : Int) (tmi : Int) (tse : Int) (tce : Int) (ac : Bool) (ai : Bool) (an : Int) (oi : Bool) (on : Int) (pi : Bool) (pn : Int) (ci : Bool) (cn : Int) (vi : Bool) (vn : Int) (db : Bool) (dd : Int) (dm : Int) (dy : Int) (hn : (-9223372036854775808 ≤ vn ∧ vn ≤ 9223372036854775807)) (hl : L.length ≤ 900) (h : PSt W0 B mb pp rb #[.bool tb, .int .i64 tho, .int .i64 tmi, .int .i64 tse, .int .i64 tce, .bool ac, .bool ai, .int .i64 an, .bool oi, .int .i64 on, .bool pi, .int .i64 pn, .bool ci, .int .i64 cn, .bool vi, .int .i64 vn, .bool db, .int .i64 dd, .int .i64 dm, .int .i64 dy] ro e L W) : Calls Tryz.prog 33 #[.pointer (some ⟨mb, 0, none⟩), .pointer (some ⟨pp, 0, none⟩)] W fun r W' => r = .returned (.tuple #[]) ∧ PSt W0 B mb pp rb #[.bool tb, .int .i64 tho, .int .i64 tmi, .int .i64 tse, .int .i64 tce, .bool ac, .bool ai, .int .i64 an, .bool oi, .int .i64 on, .bool pi, .int .i64 pn, .bool ci, .int .i64 cn, .bool vi, .int .i64 vn, .bool db, .int .i64 dd, .int .i64 dm, .int .i64 dy] ro (kp e (pvD vi vn).2.2) (L ++ [nb (pvD vi vn).1, (pvD vi vn).2.1]) W' := by
  have k0 : ∀ e, kp e 0 = e := fun e => by unfold kp; split <;> omega
  have c0 := held_cell h.m 14 _ rfl
  have c1 := held_cell h.m 15 _ rfl
  have kv := hid (fun U ht => putvar26_any vi vn U hn ht)
  obtain ⟨⟨PL, S, x⟩, hx⟩ : ∃ r, pvD vi vn = r := ⟨_, rfl⟩
  rw [hx] at kv
  rw [hx]
  dsimp only at kv ⊢
  obtain ⟨T8, hT8⟩ : ∃ T, nb PL = T := ⟨_, rfl⟩
  rw [hT8] at kv ⊢
  clear hx hT8
  go_enter Tryz.func33, Tryz.ntmps33
  go_upto_region 0 with (fail)
  go_wp2_with fail
  refine (kv.out _ h.tb).mono ?_
  rintro r V ⟨rfl, hA⟩
  replace h := h.below hA
  clear hA c0 c1 kv
  have c2 := held_cell h.p 0 _ rfl
  have kt := hid (fun U hP => ptext_any W0.heap.size B e x L T8 U hP (by omega) h.hb)
  go_wp2_with fail
  refine (kt.out _ h.pen).mono ?_
  rintro r V2 ⟨rfl, hP2, hf2⟩
  replace h := h.eff hP2 hf2
  clear hP2 hf2 c2 kt
  have c2 := held_cell h.p 0 _ rfl
  have kt := hid (fun U hP => ptext_any W0.heap.size B (kp e x) 0 (L ++ [T8]) S U hP (by simp; omega) h.hb)
  go_wp2_with fail
  refine (kt.out _ h.pen).mono ?_
  rintro r V3 ⟨rfl, hP2, hf2⟩
  replace h := h.eff hP2 hf2
  rw [k0, List.append_assoc] at h
  clear hP2 hf2 c2 kt
  go_wp2_with fail
  go_end0
  exact ⟨rfl, h⟩
set_option maxRecDepth 100000 in
set_option maxHeartbeats 8000000 in
theorem all26_8 (I0 I1 I2 I3 I4 I5 I6 I7 I8 : World → Prop) (rb mb pp : Nat) {F0 F1 F2 F3 F4 F5 F6 F7 : Value} (hF : F0 = .func (.func 18) #[] #[.pointer (some ⟨pp, 0, none⟩), .pointer (some ⟨mb, 0, none⟩)] ∧ F1 = .func (.func 21) #[] #[.pointer (some ⟨pp, 0, none⟩), .pointer (some ⟨mb, 0, none⟩)] ∧ F2 = .func (.func 23) #[] #[.pointer (some ⟨pp, 0, none⟩), .pointer (some ⟨mb, 0, none⟩)] ∧ F3 = .func (.func 25) #[] #[.pointer (some ⟨pp, 0, none⟩), .pointer (some ⟨mb, 0, none⟩)] ∧ F4 = .func (.func 26) #[] #[.pointer (some ⟨pp, 0, none⟩), .pointer (some ⟨mb, 0, none⟩)] ∧ F5 = .func (.func 29) #[] #[.pointer (some ⟨pp, 0, none⟩), .pointer (some ⟨mb, 0, none⟩)] ∧ F6 = .func (.func 31) #[] #[.pointer (some ⟨pp, 0, none⟩), .pointer (some ⟨mb, 0, none⟩)] ∧ F7 = .func (.func 33) #[] #[.pointer (some ⟨mb, 0, none⟩), .pointer (some ⟨pp, 0, none⟩)]) (r0 : ∀ W, I0 W → W.heap[rb]? = some (.cells #[F0, F1, F2, F3, F4, F5, F6, F7] 1 (0, 0))) (r1 : ∀ W, I1 W → W.heap[rb]? = some (.cells #[F0, F1, F2, F3, F4, F5, F6, F7] 1 (0, 0))) (r2 : ∀ W, I2 W → W.heap[rb]? = some (.cells #[F0, F1, F2, F3, F4, F5, F6, F7] 1 (0, 0))) (r3 : ∀ W, I3 W → W.heap[rb]? = some (.cells #[F0, F1, F2, F3, F4, F5, F6, F7] 1 (0, 0))) (r4 : ∀ W, I4 W → W.heap[rb]? = some (.cells #[F0, F1, F2, F3, F4, F5, F6, F7] 1 (0, 0))) (r5 : ∀ W, I5 W → W.heap[rb]? = some (.cells #[F0, F1, F2, F3, F4, F5, F6, F7] 1 (0, 0))) (r6 : ∀ W, I6 W → W.heap[rb]? = some (.cells #[F0, F1, F2, F3, F4, F5, F6, F7] 1 (0, 0))) (r7 : ∀ W, I7 W → W.heap[rb]? = some (.cells #[F0, F1, F2, F3, F4, F5, F6, F7] 1 (0, 0))) (h0 : ∀ W, I0 W → Calls Tryz.prog 18 #[.pointer (some ⟨pp, 0, none⟩), .pointer (some ⟨mb, 0, none⟩)] W fun r W' => r = .returned (.tuple #[]) ∧ I1 W') (h1 : ∀ W, I1 W → Calls Tryz.prog 21 #[.pointer (some ⟨pp, 0, none⟩), .pointer (some ⟨mb, 0, none⟩)] W fun r W' => r = .returned (.tuple #[]) ∧ I2 W') (h2 : ∀ W, I2 W → Calls Tryz.prog 23 #[.pointer (some ⟨pp, 0, none⟩), .pointer (some ⟨mb, 0, none⟩)] W fun r W' => r = .returned (.tuple #[]) ∧ I3 W') (h3 : ∀ W, I3 W → Calls Tryz.prog 25 #[.pointer (some ⟨pp, 0, none⟩), .pointer (some ⟨mb, 0, none⟩)] W fun r W' => r = .returned (.tuple #[]) ∧ I4 W') (h4 : ∀ W, I4 W → Calls Tryz.prog 26 #[.pointer (some ⟨pp, 0, none⟩), .pointer (some ⟨mb, 0, none⟩)] W fun r W' => r = .returned (.tuple #[]) ∧ I5 W') (h5 : ∀ W, I5 W → Calls Tryz.prog 29 #[.pointer (some ⟨pp, 0, none⟩), .pointer (some ⟨mb, 0, none⟩)] W fun r W' => r = .returned (.tuple #[]) ∧ I6 W') (h6 : ∀ W, I6 W → Calls Tryz.prog 31 #[.pointer (some ⟨pp, 0, none⟩), .pointer (some ⟨mb, 0, none⟩)] W fun r W' => r = .returned (.tuple #[]) ∧ I7 W') (h7 : ∀ W, I7 W → Calls Tryz.prog 33 #[.pointer (some ⟨mb, 0, none⟩), .pointer (some ⟨pp, 0, none⟩)] W fun r W' => r = .returned (.tuple #[]) ∧ I8 W') (w : World) (hI : I0 w) : Calls Tryz.prog 17 #[.slice (some ⟨rb, 0, none⟩) 8 8] w fun r w' => r = .returned (.tuple #[]) ∧ I8 w' := by
  obtain ⟨rfl, rfl, rfl, rfl, rfl, rfl, rfl, rfl⟩ := hF
  go_enter Tryz.func17, Tryz.ntmps17
  go_wp2_with fail
  go_loopw [5] (fun ix wr => (ix = .int .i64 0 ∧ I0 wr) ∨ (ix = .int .i64 1 ∧ I1 wr) ∨ (ix = .int .i64 2 ∧ I2 wr) ∨ (ix = .int .i64 3 ∧ I3 wr) ∨ (ix = .int .i64 4 ∧ I4 wr) ∨ (ix = .int .i64 5 ∧ I5 wr) ∨ (ix = .int .i64 6 ∧ I6 wr) ∨ (ix = .int .i64 7 ∧ I7 wr) ∨ (ix = .int .i64 8 ∧ I8 wr)) (fun ix _ => 8 - (intOf ix).toNat)
  case atStart => exact .inl ⟨rfl, hI⟩
  case round =>
    rcases hrel with ⟨rfl, hIk⟩ | ⟨rfl, hIk⟩ | ⟨rfl, hIk⟩ | ⟨rfl, hIk⟩ | ⟨rfl, hIk⟩ | ⟨rfl, hIk⟩ | ⟨rfl, hIk⟩ | ⟨rfl, hIk⟩ | ⟨rfl, hIk⟩
    · have hr := r0 _ hIk
      have c0 := held_cell hr 0 _ rfl
      clear hr
      go_wp2_with fail
      refine (h0 _ hIk).mono ?_
      rintro r V ⟨rfl, hI2⟩
      go_wp2_with fail
      go_roundw
      case rel => exact .inr (.inl ⟨rfl, hI2⟩)
      case measure => simp [intOf]
    · have hr := r1 _ hIk
      have c0 := held_cell hr 1 _ rfl
      clear hr
      go_wp2_with fail
      refine (h1 _ hIk).mono ?_
      rintro r V ⟨rfl, hI2⟩
      go_wp2_with fail
      go_roundw
      case rel => exact .inr (.inr (.inl ⟨rfl, hI2⟩))
      case measure => simp [intOf]
    · have hr := r2 _ hIk
      have c0 := held_cell hr 2 _ rfl
      clear hr
      go_wp2_with fail
      refine (h2 _ hIk).mono ?_
      rintro r V ⟨rfl, hI2⟩
      go_wp2_with fail
      go_roundw
      case rel => exact .inr (.inr (.inr (.inl ⟨rfl, hI2⟩)))
      case measure => simp [intOf]
    · have hr := r3 _ hIk
      have c0 := held_cell hr 3 _ rfl
      clear hr
      go_wp2_with fail
      refine (h3 _ hIk).mono ?_
      rintro r V ⟨rfl, hI2⟩
      go_wp2_with fail
      go_roundw
      case rel => exact .inr (.inr (.inr (.inr (.inl ⟨rfl, hI2⟩))))
      case measure => simp [intOf]
    · have hr := r4 _ hIk
      have c0 := held_cell hr 4 _ rfl
      clear hr
      go_wp2_with fail
      refine (h4 _ hIk).mono ?_
      rintro r V ⟨rfl, hI2⟩
      go_wp2_with fail
      go_roundw
      case rel => exact .inr (.inr (.inr (.inr (.inr (.inl ⟨rfl, hI2⟩)))))
      case measure => simp [intOf]
    · have hr := r5 _ hIk
      have c0 := held_cell hr 5 _ rfl
      clear hr
      go_wp2_with fail
      refine (h5 _ hIk).mono ?_
      rintro r V ⟨rfl, hI2⟩
      go_wp2_with fail
      go_roundw
      case rel => exact .inr (.inr (.inr (.inr (.inr (.inr (.inl ⟨rfl, hI2⟩))))))
      case measure => simp [intOf]
    · have hr := r6 _ hIk
      have c0 := held_cell hr 6 _ rfl
      clear hr
      go_wp2_with fail
      refine (h6 _ hIk).mono ?_
      rintro r V ⟨rfl, hI2⟩
      go_wp2_with fail
      go_roundw
      case rel => exact .inr (.inr (.inr (.inr (.inr (.inr (.inr (.inl ⟨rfl, hI2⟩)))))))
      case measure => simp [intOf]
    · have hr := r7 _ hIk
      have c0 := held_cell hr 7 _ rfl
      clear hr
      go_wp2_with fail
      refine (h7 _ hIk).mono ?_
      rintro r V ⟨rfl, hI2⟩
      go_wp2_with fail
      go_roundw
      case rel => exact .inr (.inr (.inr (.inr (.inr (.inr (.inr (.inr (⟨rfl, hI2⟩))))))))
      case measure => simp [intOf]
    · go_wp2_with fail
      go_end0
      exact ⟨rfl, hIk⟩
set_option maxRecDepth 100000 in
set_option maxHeartbeats 8000000 in
theorem rmput_any (tb : Bool) (tho : Int) (tmi : Int) (tse : Int) (tce : Int) (ac : Bool) (ai : Bool) (an : Int) (oi : Bool) (on : Int) (pi : Bool) (pn : Int) (ci : Bool) (cn : Int) (vi : Bool) (vn : Int) (db : Bool) (dd : Int) (dm : Int) (dy : Int) (T : ByteArray) (k : Int) (Td : ByteArray) (kd : Int) (hV : putV tb tho tmi tse tce = .tuple #[.string T, .int .i64 k]) (hD : putDt db dd dm dy = .tuple #[.string Td, .int .i64 kd]) (w : World) (bb : (-9223372036854775808 ≤ an ∧ an ≤ 9223372036854775807) ∧ (-9223372036854775808 ≤ on ∧ on ≤ 9223372036854775807) ∧ (-9223372036854775808 ≤ pn ∧ pn ≤ 9223372036854775807) ∧ (-9223372036854775808 ≤ cn ∧ cn ≤ 9223372036854775807) ∧ (-9223372036854775808 ≤ vn ∧ vn ≤ 9223372036854775807)) (hT : Tab w) : Calls Tryz.prog 6 #[.agg #[.bool tb, .int .i64 tho, .int .i64 tmi, .int .i64 tse, .int .i64 tce, .bool ac, .bool ai, .int .i64 an, .bool oi, .int .i64 on, .bool pi, .int .i64 pn, .bool ci, .int .i64 cn, .bool vi, .int .i64 vn, .bool db, .int .i64 dd, .int .i64 dm, .int .i64 dy]] w fun r w' => DnOk w (fE (rmI T k ac ai an oi on pi pn ci cn vi vn Td kd)) (fL (rmI T k ac ai an oi on pi pn ci cn vi vn Td kd)) r w' := by
  obtain ⟨ban, bon, bpn, bcn, bvn⟩ := bb
  replace ban := hid ban
  replace bon := hid bon
  replace bpn := hid bpn
  replace bcn := hid bcn
  replace bvn := hid bvn
  replace hV := hid hV
  replace hD := hid hD
  have hsame := hid (rm_same T k ac ai an oi on pi pn ci cn vi vn Td kd)
  have hmf : ∀ (fn : Fn) (first cap : Array Value) (w : World), (Instr.makeFunc fn first cap).run Tryz.prog w = .ok (.func fn first cap) w := fun _ _ _ _ => rfl
  replace hT := hid hT
  go_enter Tryz.func6, Tryz.ntmps6
  go_upto_region 0 with (fail)
  apply wp_region_seg0 (w := w) (S := [.al 1000, .q [], .q []]) (E := [.al ((fun p => .pointer (some ⟨p, 0, none⟩)), _) 1000, .q0 _, .q0 _]) rfl (by kernel_rfl) rfl rfl
  intro th hge hne
  refine Seg.step _ rfl ⟨by rfl, fun U hU => ?_⟩ ?_
  · go_simp; exact vp_alloc rfl rfl rfl
  refine Seg.sa ?_
  refine Seg.sq ?_
  refine Seg.sq ?_
  refine Seg.stop (fun U1 hU hk => ?_)
  have nb0 := hge 0 _ _ rfl
  have rb0 := (hk 0 _ _ rfl trivial).1.2 (by simp)
  clear hk hge hne
  generalize th (0 + 0) = p0_0 at *
  dsimp only at rb0
  have r_p0_0 := rb0
  clear rb0
  have n_p0_0 := nb0
  clear nb0
  have sz1 := hU.size
  have hB : Below w.heap.size w U1 := hU
  clear hU
  replace hT := hid (hT.out.on hB)
  have hlg := held_lt r_p0_0
  go_wp2_with fail
  refine (prow_any U1.heap.size _ (Nat.le_refl _)).mono ?_
  rintro r V ⟨B, rfl, hP, hA, hlB⟩
  have neg : p0_0 ≠ B := by omega
  have hE := hA
  replace r_p0_0 := held_after hA r_p0_0
  clear hA
  have nw := alloc_new V (.cells #[.pointer (some ⟨B, 0, none⟩)] 44)
  have hlp := hP.lt
  go_upto_region 2 with (fail)
  obtain ⟨W1, hW1⟩ : ∃ X, V.alloc (.cells #[.pointer (some ⟨B, 0, none⟩)] 44) = X := ⟨_, rfl⟩
  rw [hW1] at nw ⊢
  obtain ⟨pp, hpp⟩ : ∃ X, V.heap.size = X := ⟨_, rfl⟩
  rw [hpp] at nw ⊢
  replace hW1 := hid hW1
  have hA := nw.2.1
  have r_pp := nw.2.2
  have nep : pp ≠ B := by omega
  replace hpp := hid hpp
  clear nw
  replace hE := bthen hE hA
  replace r_p0_0 := held_after hA r_p0_0
  replace hP := hP.aft hA
  clear hA
  have nw := alloc_new W1 (.cells #[.func (.func 18) #[] #[.pointer (some ⟨pp, 0, none⟩), .pointer (some ⟨p0_0, 0, none⟩)], .func (.func 21) #[] #[.pointer (some ⟨pp, 0, none⟩), .pointer (some ⟨p0_0, 0, none⟩)], .func (.func 23) #[] #[.pointer (some ⟨pp, 0, none⟩), .pointer (some ⟨p0_0, 0, none⟩)], .func (.func 25) #[] #[.pointer (some ⟨pp, 0, none⟩), .pointer (some ⟨p0_0, 0, none⟩)], .func (.func 26) #[] #[.pointer (some ⟨pp, 0, none⟩), .pointer (some ⟨p0_0, 0, none⟩)], .func (.func 29) #[] #[.pointer (some ⟨pp, 0, none⟩), .pointer (some ⟨p0_0, 0, none⟩)], .func (.func 31) #[] #[.pointer (some ⟨pp, 0, none⟩), .pointer (some ⟨p0_0, 0, none⟩)], .func (.func 33) #[] #[.pointer (some ⟨p0_0, 0, none⟩), .pointer (some ⟨pp, 0, none⟩)]] 1)
  have hlp2 := hP.lt
  obtain ⟨rb, hrb⟩ : ∃ X, W1.heap.size = X := ⟨_, rfl⟩
  have hA := nw.2.1
  have r_rb := nw.2.2
  have ner : rb ≠ B := by omega
  clear nw
  have hS : PSt U1 B p0_0 pp rb #[.bool tb, .int .i64 tho, .int .i64 tmi, .int .i64 tse, .int .i64 tce, .bool ac, .bool ai, .int .i64 an, .bool oi, .int .i64 on, .bool pi, .int .i64 pn, .bool ci, .int .i64 cn, .bool vi, .int .i64 vn, .bool db, .int .i64 dd, .int .i64 dm, .int .i64 dy] #[.func (.func 18) #[] #[.pointer (some ⟨pp, 0, none⟩), .pointer (some ⟨p0_0, 0, none⟩)], .func (.func 21) #[] #[.pointer (some ⟨pp, 0, none⟩), .pointer (some ⟨p0_0, 0, none⟩)], .func (.func 23) #[] #[.pointer (some ⟨pp, 0, none⟩), .pointer (some ⟨p0_0, 0, none⟩)], .func (.func 25) #[] #[.pointer (some ⟨pp, 0, none⟩), .pointer (some ⟨p0_0, 0, none⟩)], .func (.func 26) #[] #[.pointer (some ⟨pp, 0, none⟩), .pointer (some ⟨p0_0, 0, none⟩)], .func (.func 29) #[] #[.pointer (some ⟨pp, 0, none⟩), .pointer (some ⟨p0_0, 0, none⟩)], .func (.func 31) #[] #[.pointer (some ⟨pp, 0, none⟩), .pointer (some ⟨p0_0, 0, none⟩)], .func (.func 33) #[] #[.pointer (some ⟨p0_0, 0, none⟩), .pointer (some ⟨pp, 0, none⟩)]] 0 [] (W1.alloc (.cells #[.func (.func 18) #[] #[.pointer (some ⟨pp, 0, none⟩), .pointer (some ⟨p0_0, 0, none⟩)], .func (.func 21) #[] #[.pointer (some ⟨pp, 0, none⟩), .pointer (some ⟨p0_0, 0, none⟩)], .func (.func 23) #[] #[.pointer (some ⟨pp, 0, none⟩), .pointer (some ⟨p0_0, 0, none⟩)], .func (.func 25) #[] #[.pointer (some ⟨pp, 0, none⟩), .pointer (some ⟨p0_0, 0, none⟩)], .func (.func 26) #[] #[.pointer (some ⟨pp, 0, none⟩), .pointer (some ⟨p0_0, 0, none⟩)], .func (.func 29) #[] #[.pointer (some ⟨pp, 0, none⟩), .pointer (some ⟨p0_0, 0, none⟩)], .func (.func 31) #[] #[.pointer (some ⟨pp, 0, none⟩), .pointer (some ⟨p0_0, 0, none⟩)], .func (.func 33) #[] #[.pointer (some ⟨p0_0, 0, none⟩), .pointer (some ⟨pp, 0, none⟩)]] 1)) := ⟨hP.aft hA, held_after hA r_p0_0, held_after hA r_pp, (by rw [← hrb]; exact r_rb), hT.out, bthen hE hA, neg, nep, ner, hlB⟩
  clear hP r_p0_0 r_pp r_rb hA hE hlp hlp2 hlg neg nep ner hlB
  have kA := all26_8 (fun W => PSt U1 B p0_0 pp rb #[.bool tb, .int .i64 tho, .int .i64 tmi, .int .i64 tse, .int .i64 tce, .bool ac, .bool ai, .int .i64 an, .bool oi, .int .i64 on, .bool pi, .int .i64 pn, .bool ci, .int .i64 cn, .bool vi, .int .i64 vn, .bool db, .int .i64 dd, .int .i64 dm, .int .i64 dy] #[.func (.func 18) #[] #[.pointer (some ⟨pp, 0, none⟩), .pointer (some ⟨p0_0, 0, none⟩)], .func (.func 21) #[] #[.pointer (some ⟨pp, 0, none⟩), .pointer (some ⟨p0_0, 0, none⟩)], .func (.func 23) #[] #[.pointer (some ⟨pp, 0, none⟩), .pointer (some ⟨p0_0, 0, none⟩)], .func (.func 25) #[] #[.pointer (some ⟨pp, 0, none⟩), .pointer (some ⟨p0_0, 0, none⟩)], .func (.func 26) #[] #[.pointer (some ⟨pp, 0, none⟩), .pointer (some ⟨p0_0, 0, none⟩)], .func (.func 29) #[] #[.pointer (some ⟨pp, 0, none⟩), .pointer (some ⟨p0_0, 0, none⟩)], .func (.func 31) #[] #[.pointer (some ⟨pp, 0, none⟩), .pointer (some ⟨p0_0, 0, none⟩)], .func (.func 33) #[] #[.pointer (some ⟨p0_0, 0, none⟩), .pointer (some ⟨pp, 0, none⟩)]] (fE ((rmP T k ac ai an oi on pi pn ci cn vi vn Td kd).take 0)) (fL ((rmP T k ac ai an oi on pi pn ci cn vi vn Td kd).take 0)) W) (fun W => PSt U1 B p0_0 pp rb #[.bool tb, .int .i64 tho, .int .i64 tmi, .int .i64 tse, .int .i64 tce, .bool ac, .bool ai, .int .i64 an, .bool oi, .int .i64 on, .bool pi, .int .i64 pn, .bool ci, .int .i64 cn, .bool vi, .int .i64 vn, .bool db, .int .i64 dd, .int .i64 dm, .int .i64 dy] #[.func (.func 18) #[] #[.pointer (some ⟨pp, 0, none⟩), .pointer (some ⟨p0_0, 0, none⟩)], .func (.func 21) #[] #[.pointer (some ⟨pp, 0, none⟩), .pointer (some ⟨p0_0, 0, none⟩)], .func (.func 23) #[] #[.pointer (some ⟨pp, 0, none⟩), .pointer (some ⟨p0_0, 0, none⟩)], .func (.func 25) #[] #[.pointer (some ⟨pp, 0, none⟩), .pointer (some ⟨p0_0, 0, none⟩)], .func (.func 26) #[] #[.pointer (some ⟨pp, 0, none⟩), .pointer (some ⟨p0_0, 0, none⟩)], .func (.func 29) #[] #[.pointer (some ⟨pp, 0, none⟩), .pointer (some ⟨p0_0, 0, none⟩)], .func (.func 31) #[] #[.pointer (some ⟨pp, 0, none⟩), .pointer (some ⟨p0_0, 0, none⟩)], .func (.func 33) #[] #[.pointer (some ⟨p0_0, 0, none⟩), .pointer (some ⟨pp, 0, none⟩)]] (fE ((rmP T k ac ai an oi on pi pn ci cn vi vn Td kd).take 1)) (fL ((rmP T k ac ai an oi on pi pn ci cn vi vn Td kd).take 1)) W) (fun W => PSt U1 B p0_0 pp rb #[.bool tb, .int .i64 tho, .int .i64 tmi, .int .i64 tse, .int .i64 tce, .bool ac, .bool ai, .int .i64 an, .bool oi, .int .i64 on, .bool pi, .int .i64 pn, .bool ci, .int .i64 cn, .bool vi, .int .i64 vn, .bool db, .int .i64 dd, .int .i64 dm, .int .i64 dy] #[.func (.func 18) #[] #[.pointer (some ⟨pp, 0, none⟩), .pointer (some ⟨p0_0, 0, none⟩)], .func (.func 21) #[] #[.pointer (some ⟨pp, 0, none⟩), .pointer (some ⟨p0_0, 0, none⟩)], .func (.func 23) #[] #[.pointer (some ⟨pp, 0, none⟩), .pointer (some ⟨p0_0, 0, none⟩)], .func (.func 25) #[] #[.pointer (some ⟨pp, 0, none⟩), .pointer (some ⟨p0_0, 0, none⟩)], .func (.func 26) #[] #[.pointer (some ⟨pp, 0, none⟩), .pointer (some ⟨p0_0, 0, none⟩)], .func (.func 29) #[] #[.pointer (some ⟨pp, 0, none⟩), .pointer (some ⟨p0_0, 0, none⟩)], .func (.func 31) #[] #[.pointer (some ⟨pp, 0, none⟩), .pointer (some ⟨p0_0, 0, none⟩)], .func (.func 33) #[] #[.pointer (some ⟨p0_0, 0, none⟩), .pointer (some ⟨pp, 0, none⟩)]] (fE ((rmP T k ac ai an oi on pi pn ci cn vi vn Td kd).take 2)) (fL ((rmP T k ac ai an oi on pi pn ci cn vi vn Td kd).take 2)) W) (fun W => PSt U1 B p0_0 pp rb #[.bool tb, .int .i64 tho, .int .i64 tmi, .int .i64 tse, .int .i64 tce, .bool ac, .bool ai, .int .i64 an, .bool oi, .int .i64 on, .bool pi, .int .i64 pn, .bool ci, .int .i64 cn, .bool vi, .int .i64 vn, .bool db, .int .i64 dd, .int .i64 dm, .int .i64 dy] #[.func (.func 18) #[] #[.pointer (some ⟨pp, 0, none⟩), .pointer (some ⟨p0_0, 0, none⟩)], .func (.func 21) #[] #[.pointer (some ⟨pp, 0, none⟩), .pointer (some ⟨p0_0, 0, none⟩)], .func (.func 23) #[] #[.pointer (some ⟨pp, 0, none⟩), .pointer (some ⟨p0_0, 0, none⟩)], .func (.func 25) #[] #[.pointer (some ⟨pp, 0, none⟩), .pointer (some ⟨p0_0, 0, none⟩)], .func (.func 26) #[] #[.pointer (some ⟨pp, 0, none⟩), .pointer (some ⟨p0_0, 0, none⟩)], .func (.func 29) #[] #[.pointer (some ⟨pp, 0, none⟩), .pointer (some ⟨p0_0, 0, none⟩)], .func (.func 31) #[] #[.pointer (some ⟨pp, 0, none⟩), .pointer (some ⟨p0_0, 0, none⟩)], .func (.func 33) #[] #[.pointer (some ⟨p0_0, 0, none⟩), .pointer (some ⟨pp, 0, none⟩)]] (fE ((rmP T k ac ai an oi on pi pn ci cn vi vn Td kd).take 3)) (fL ((rmP T k ac ai an oi on pi pn ci cn vi vn Td kd).take 3)) W) (fun W => PSt U1 B p0_0 pp rb #[.bool tb, .int .i64 tho, .int .i64 tmi, .int .i64 tse, .int .i64 tce, .bool ac, .bool ai, .int .i64 an, .bool oi, .int .i64 on, .bool pi, .int .i64 pn, .bool ci, .int .i64 cn, .bool vi, .int .i64 vn, .bool db, .int .i64 dd, .int .i64 dm, .int .i64 dy] #[.func (.func 18) #[] #[.pointer (some ⟨pp, 0, none⟩), .pointer (some ⟨p0_0, 0, none⟩)], .func (.func 21) #[] #[.pointer (some ⟨pp, 0, none⟩), .pointer (some ⟨p0_0, 0, none⟩)], .func (.func 23) #[] #[.pointer (some ⟨pp, 0, none⟩), .pointer (some ⟨p0_0, 0, none⟩)], .func (.func 25) #[] #[.pointer (some ⟨pp, 0, none⟩), .pointer (some ⟨p0_0, 0, none⟩)], .func (.func 26) #[] #[.pointer (some ⟨pp, 0, none⟩), .pointer (some ⟨p0_0, 0, none⟩)], .func (.func 29) #[] #[.pointer (some ⟨pp, 0, none⟩), .pointer (some ⟨p0_0, 0, none⟩)], .func (.func 31) #[] #[.pointer (some ⟨pp, 0, none⟩), .pointer (some ⟨p0_0, 0, none⟩)], .func (.func 33) #[] #[.pointer (some ⟨p0_0, 0, none⟩), .pointer (some ⟨pp, 0, none⟩)]] (fE ((rmP T k ac ai an oi on pi pn ci cn vi vn Td kd).take 4)) (fL ((rmP T k ac ai an oi on pi pn ci cn vi vn Td kd).take 4)) W) (fun W => PSt U1 B p0_0 pp rb #[.bool tb, .int .i64 tho, .int .i64 tmi, .int .i64 tse, .int .i64 tce, .bool ac, .bool ai, .int .i64 an, .bool oi, .int .i64 on, .bool pi, .int .i64 pn, .bool ci, .int .i64 cn, .bool vi, .int .i64 vn, .bool db, .int .i64 dd, .int .i64 dm, .int .i64 dy] #[.func (.func 18) #[] #[.pointer (some ⟨pp, 0, none⟩), .pointer (some ⟨p0_0, 0, none⟩)], .func (.func 21) #[] #[.pointer (some ⟨pp, 0, none⟩), .pointer (some ⟨p0_0, 0, none⟩)], .func (.func 23) #[] #[.pointer (some ⟨pp, 0, none⟩), .pointer (some ⟨p0_0, 0, none⟩)], .func (.func 25) #[] #[.pointer (some ⟨pp, 0, none⟩), .pointer (some ⟨p0_0, 0, none⟩)], .func (.func 26) #[] #[.pointer (some ⟨pp, 0, none⟩), .pointer (some ⟨p0_0, 0, none⟩)], .func (.func 29) #[] #[.pointer (some ⟨pp, 0, none⟩), .pointer (some ⟨p0_0, 0, none⟩)], .func (.func 31) #[] #[.pointer (some ⟨pp, 0, none⟩), .pointer (some ⟨p0_0, 0, none⟩)], .func (.func 33) #[] #[.pointer (some ⟨p0_0, 0, none⟩), .pointer (some ⟨pp, 0, none⟩)]] (fE ((rmP T k ac ai an oi on pi pn ci cn vi vn Td kd).take 5)) (fL ((rmP T k ac ai an oi on pi pn ci cn vi vn Td kd).take 5)) W) (fun W => PSt U1 B p0_0 pp rb #[.bool tb, .int .i64 tho, .int .i64 tmi, .int .i64 tse, .int .i64 tce, .bool ac, .bool ai, .int .i64 an, .bool oi, .int .i64 on, .bool pi, .int .i64 pn, .bool ci, .int .i64 cn, .bool vi, .int .i64 vn, .bool db, .int .i64 dd, .int .i64 dm, .int .i64 dy] #[.func (.func 18) #[] #[.pointer (some ⟨pp, 0, none⟩), .pointer (some ⟨p0_0, 0, none⟩)], .func (.func 21) #[] #[.pointer (some ⟨pp, 0, none⟩), .pointer (some ⟨p0_0, 0, none⟩)], .func (.func 23) #[] #[.pointer (some ⟨pp, 0, none⟩), .pointer (some ⟨p0_0, 0, none⟩)], .func (.func 25) #[] #[.pointer (some ⟨pp, 0, none⟩), .pointer (some ⟨p0_0, 0, none⟩)], .func (.func 26) #[] #[.pointer (some ⟨pp, 0, none⟩), .pointer (some ⟨p0_0, 0, none⟩)], .func (.func 29) #[] #[.pointer (some ⟨pp, 0, none⟩), .pointer (some ⟨p0_0, 0, none⟩)], .func (.func 31) #[] #[.pointer (some ⟨pp, 0, none⟩), .pointer (some ⟨p0_0, 0, none⟩)], .func (.func 33) #[] #[.pointer (some ⟨p0_0, 0, none⟩), .pointer (some ⟨pp, 0, none⟩)]] (fE ((rmP T k ac ai an oi on pi pn ci cn vi vn Td kd).take 6)) (fL ((rmP T k ac ai an oi on pi pn ci cn vi vn Td kd).take 6)) W) (fun W => PSt U1 B p0_0 pp rb #[.bool tb, .int .i64 tho, .int .i64 tmi, .int .i64 tse, .int .i64 tce, .bool ac, .bool ai, .int .i64 an, .bool oi, .int .i64 on, .bool pi, .int .i64 pn, .bool ci, .int .i64 cn, .bool vi, .int .i64 vn, .bool db, .int .i64 dd, .int .i64 dm, .int .i64 dy] #[.func (.func 18) #[] #[.pointer (some ⟨pp, 0, none⟩), .pointer (some ⟨p0_0, 0, none⟩)], .func (.func 21) #[] #[.pointer (some ⟨pp, 0, none⟩), .pointer (some ⟨p0_0, 0, none⟩)], .func (.func 23) #[] #[.pointer (some ⟨pp, 0, none⟩), .pointer (some ⟨p0_0, 0, none⟩)], .func (.func 25) #[] #[.pointer (some ⟨pp, 0, none⟩), .pointer (some ⟨p0_0, 0, none⟩)], .func (.func 26) #[] #[.pointer (some ⟨pp, 0, none⟩), .pointer (some ⟨p0_0, 0, none⟩)], .func (.func 29) #[] #[.pointer (some ⟨pp, 0, none⟩), .pointer (some ⟨p0_0, 0, none⟩)], .func (.func 31) #[] #[.pointer (some ⟨pp, 0, none⟩), .pointer (some ⟨p0_0, 0, none⟩)], .func (.func 33) #[] #[.pointer (some ⟨p0_0, 0, none⟩), .pointer (some ⟨pp, 0, none⟩)]] (fE ((rmP T k ac ai an oi on pi pn ci cn vi vn Td kd).take 7)) (fL ((rmP T k ac ai an oi on pi pn ci cn vi vn Td kd).take 7)) W) (fun W => PSt U1 B p0_0 pp rb #[.bool tb, .int .i64 tho, .int .i64 tmi, .int .i64 tse, .int .i64 tce, .bool ac, .bool ai, .int .i64 an, .bool oi, .int .i64 on, .bool pi, .int .i64 pn, .bool ci, .int .i64 cn, .bool vi, .int .i64 vn, .bool db, .int .i64 dd, .int .i64 dm, .int .i64 dy] #[.func (.func 18) #[] #[.pointer (some ⟨pp, 0, none⟩), .pointer (some ⟨p0_0, 0, none⟩)], .func (.func 21) #[] #[.pointer (some ⟨pp, 0, none⟩), .pointer (some ⟨p0_0, 0, none⟩)], .func (.func 23) #[] #[.pointer (some ⟨pp, 0, none⟩), .pointer (some ⟨p0_0, 0, none⟩)], .func (.func 25) #[] #[.pointer (some ⟨pp, 0, none⟩), .pointer (some ⟨p0_0, 0, none⟩)], .func (.func 26) #[] #[.pointer (some ⟨pp, 0, none⟩), .pointer (some ⟨p0_0, 0, none⟩)], .func (.func 29) #[] #[.pointer (some ⟨pp, 0, none⟩), .pointer (some ⟨p0_0, 0, none⟩)], .func (.func 31) #[] #[.pointer (some ⟨pp, 0, none⟩), .pointer (some ⟨p0_0, 0, none⟩)], .func (.func 33) #[] #[.pointer (some ⟨p0_0, 0, none⟩), .pointer (some ⟨pp, 0, none⟩)]] (fE ((rmP T k ac ai an oi on pi pn ci cn vi vn Td kd).take 8)) (fL ((rmP T k ac ai an oi on pi pn ci cn vi vn Td kd).take 8)) W) rb p0_0 pp ⟨rfl, rfl, rfl, rfl, rfl, rfl, rfl, rfl⟩ (fun W h => h.row) (fun W h => h.row) (fun W h => h.row) (fun W h => h.row) (fun W h => h.row) (fun W h => h.row) (fun W h => h.row) (fun W h => h.row) (fun W h => (put26_1 tb tho tmi tse tce ac ai an oi on pi pn ci cn vi vn db dd dm dy hV.out (by simp [rmP, fL]) h).mono (fun r W2 h2 => ⟨h2.1, h2.2⟩)) (fun W h => (put26_2 tb tho tmi tse tce ac ai an oi on pi pn ci cn vi vn db dd dm dy (by simp [rmP, fL]) h).mono (fun r W2 h2 => ⟨h2.1, h2.2⟩)) (fun W h => (put26_3 tb tho tmi tse tce ac ai an oi on pi pn ci cn vi vn db dd dm dy ban.out (by simp [rmP, fL]) h).mono (fun r W2 h2 => ⟨h2.1, h2.2⟩)) (fun W h => (put26_4 tb tho tmi tse tce ac ai an oi on pi pn ci cn vi vn db dd dm dy bon.out (by simp [rmP, fL]) h).mono (fun r W2 h2 => ⟨h2.1, h2.2⟩)) (fun W h => (put26_5 tb tho tmi tse tce ac ai an oi on pi pn ci cn vi vn db dd dm dy bpn.out (by simp [rmP, fL]) h).mono (fun r W2 h2 => ⟨h2.1, h2.2⟩)) (fun W h => (put26_6 tb tho tmi tse tce ac ai an oi on pi pn ci cn vi vn db dd dm dy bcn.out (by simp [rmP, fL]) h).mono (fun r W2 h2 => ⟨h2.1, h2.2⟩)) (fun W h => (put26_7 tb tho tmi tse tce ac ai an oi on pi pn ci cn vi vn db dd dm dy hD.out (by simp [rmP, fL]) h).mono (fun r W2 h2 => ⟨h2.1, h2.2⟩)) (fun W h => (put26_8 tb tho tmi tse tce ac ai an oi on pi pn ci cn vi vn db dd dm dy bvn.out (by simp [rmP, fL]) h).mono (fun r W2 h2 => ⟨h2.1, h2.2⟩))
  replace kA := hid kA
  replace hS := hid hS
  subst hrb
  go_wp2_with fail
  refine (kA.out _ hS.out).mono ?_
  rintro r V2 ⟨rfl, hS2⟩
  have c2 := held_cell hS2.p 0 _ rfl
  have hpen := hS2.pen
  rw [List.take_of_length_le (by simp [rmP])] at hpen
  have hbel := bthen hB hS2.bel
  have kdn := hid (fun U h => pdone_any U1.heap.size B (fE (rmP T k ac ai an oi on pi pn ci cn vi vn Td kd)) (fL (rmP T k ac ai an oi on pi pn ci cn vi vn Td kd)) U h (by simp [rmP, fL]))
  replace hpen := hid hpen
  replace hbel := hid hbel
  clear hS2 hS kA hmf hB
  obtain ⟨EP, hEP⟩ : ∃ X, fE (rmP T k ac ai an oi on pi pn ci cn vi vn Td kd) = X := ⟨_, rfl⟩
  obtain ⟨LP, hLP⟩ : ∃ X, fL (rmP T k ac ai an oi on pi pn ci cn vi vn Td kd) = X := ⟨_, rfl⟩
  rw [hEP, hLP] at kdn hpen
  go_wp2_with fail
  refine (kdn.out _ hpen.out).mono ?_
  rintro r V9 ⟨a9, c9, rfl, g1, g2, g3⟩
  have hD9 : DnOk w (fE (rmI T k ac ai an oi on pi pn ci cn vi vn Td kd)) (fL (rmI T k ac ai an oi on pi pn ci cn vi vn Td kd)) (.returned (.tuple #[.slice a9 (if EP = 0 then LP else []).length c9, .int .i64 EP])) V9 := by
    have q1 := hsame.out.1
    rw [hEP] at q1
    rw [← q1]
    refine DnOk.congr26 (fun h0 => ?_) ⟨a9, c9, rfl, g1, g2, bthen hbel.out g3⟩
    rw [← hLP]
    exact hsame.out.2 (q1.symm.trans h0)
  obtain ⟨n9, hn9⟩ : ∃ n, (if EP = 0 then LP else []).length = n := ⟨_, rfl⟩
  rw [hn9] at hD9 ⊢
  clear hn9 g1 g2 g3
  replace hD9 := hid hD9
  go_wp2_with fail
  go_ret2
  exact hD9.out

end Go.Proofs.YthnoomdhgbaecaaGreatDoor

/- Package rmc: what is put, the papers'. -/
namespace Go.Proofs.YthnoomdhgbaecaaGreatDoor

open Go.ChangeShapes Go.WideShapes Go.ChangeAt Go.RowKit

set_option linter.unusedVariables false

set_option linter.unusedSimpArgs false

/-- A side, by itself. -/
def vT (n : Int) : ByteArray := if n < 0 ∧ -1800 ≤ n then ⟨#[87]⟩ else ⟨#[69]⟩
/-- A papers' row that is written, a message and columns beside it. -/
structure RSt (W0 : World) (B mb pc : Nat) (M C : Array Value) (e : Int) (L : List ByteArray) (W : World) : Prop where
  pen : RowW W W0.heap.size B e L
  m : W.heap[mb]? = some (.cells M 29 (0, 0))
  c : W.heap[pc]? = some (.cells C 54 (0, 0))
  bel : After W0 W
  nm : mb ≠ B
  nc : pc ≠ B
  hb : W0.heap.size ≤ B
theorem RSt.eff {W0 : World} {B mb pc : Nat} {M C : Array Value} {e e' : Int} {L L' : List ByteArray} {W W' : World} (h : RSt W0 B mb pc M C e L W) (hP : RowW W' W0.heap.size B e' L') (hK : PEff W0.heap.size B 0 W W') : RSt W0 B mb pc M C e' L' W' :=
  ⟨hP, h.pen.besides hK h.m h.nm (by decide), h.pen.besides hK h.c h.nc (by decide), (show Below W0.heap.size W0 W from h.bel).trans hK.below, h.nm, h.nc, h.hb⟩
theorem RSt.below {W0 : World} {B mb pc : Nat} {M C : Array Value} {e : Int} {L : List ByteArray} {W W' : World} (h : RSt W0 B mb pc M C e L W) (hA : After W W') : RSt W0 B mb pc M C e L W' :=
  ⟨h.pen.aft hA, held_after hA h.m, held_after hA h.c, bthen h.bel hA, h.nm, h.nc, h.hb⟩
theorem RSt.ne {W0 : World} {B mb pc p : Nat} {M C c : Array Value} {T : TypeId} {e : Int} {L : List ByteArray} {W : World} (h : RSt W0 B mb pc M C e L W) (hp : W.heap[p]? = some (.cells c T (0, 0))) (hT : T ≠ 29) : mb ≠ p := by
  intro e; subst e
  have h2 := h.m; rw [hp] at h2; cases h2; exact hT rfl
theorem RSt.nec {W0 : World} {B mb pc p : Nat} {M C c : Array Value} {T : TypeId} {e : Int} {L : List ByteArray} {W : World} (h : RSt W0 B mb pc M C e L W) (hp : W.heap[p]? = some (.cells c T (0, 0))) (hT : T ≠ 54) : pc ≠ p := by
  intro e; subst e
  have h2 := h.c; rw [hp] at h2; cases h2; exact hT rfl
theorem RowW.only {W W' : World} {base B p : Nat} {e : Int} {L : List ByteArray} {c : Array Value} {T : TypeId} (h : RowW W base B e L) (k : Only p W W') (h1 : p ≠ B) (hp : W.heap[p]? = some (.cells c T (0, 0))) (hT : T ≠ 9) : RowW W' base B e L := by
  obtain ⟨a, cap, g1, g2⟩ := h
  exact ⟨a, cap, (k.block _ h1.symm).trans g1, g2.kept (fun g hg => k.block g (fun e => by subst e; exact g2.ne hp hT hg))⟩
set_option maxRecDepth 100000 in
set_option maxHeartbeats 8000000 in
theorem rcols26_any (w : World) : Calls Tryz.prog 36 #[] w fun r w' => ∃ C, r = .returned (.slice (some ⟨C, 0, none⟩) 3 3) ∧ w'.heap[C]? = some (.cells #[.int .i64 1, .int .i64 4, .int .i64 2, .int .i64 0, .int .i64 999999, .int .i64 1, .int .i64 3, .int .i64 2, .int .i64 0, .int .i64 36000, .int .i64 1, .int .i64 3, .int .i64 1, .int .i64 0, .int .i64 1800] 54 (0, 0)) ∧ After w w' ∧ w.heap.size ≤ C := by
  go_enter Tryz.func36, Tryz.ntmps36
  go_upto_region 0 with (fail)
  go_upto_region 1 with (fail)
  apply wp_region_seg0 (w := w) (S := [.q [], .q [], .q [], .al 1000, .q [3]]) (E := [.q0 _, .q0 _, .q0 _, .al ((fun p => .slice (some ⟨p, 0, none⟩) 3 3), _) 1000, .q1 3 (fun p => .slice (some ⟨p, 0, none⟩) 3 3)]) rfl (by kernel_rfl) rfl rfl
  intro th hge hne
  iterate 3 refine Seg.sq ?_
  refine Seg.step _ rfl ⟨by rfl, fun U hU => ?_⟩ ?_
  · go_simp; exact vp_alloc rfl rfl rfl
  refine Seg.sa ?_
  refine Seg.sq ?_
  refine Seg.stop (fun U1 hU hk => ?_)
  have nb3 := hge 3 _ _ rfl
  have rb3 := (hk 3 _ _ rfl trivial).1.2 (by simp)
  clear hk hge hne
  generalize th (0 + 3) = p1_3 at *
  dsimp only at rb3
  have r_p1_3 := rb3
  clear rb3
  have n_p1_3 := nb3
  clear nb3
  have sz1 := hU.size
  have hB : Below w.heap.size w U1 := hU
  clear hU
  replace r_p1_3 := hid r_p1_3
  go_wp2_with fail
  go_ret
  exact ⟨_, rfl, r_p1_3.out, hB, n_p1_3⟩
set_option maxRecDepth 100000 in
set_option maxHeartbeats 16000000 in
theorem rrmput_any (tb : Bool) (tho : Int) (tmi : Int) (tse : Int) (tce : Int) (ac : Bool) (ai : Bool) (an : Int) (oi : Bool) (on : Int) (pi : Bool) (pn : Int) (ci : Bool) (cn : Int) (vi : Bool) (vn : Int) (db : Bool) (dd : Int) (dm : Int) (dy : Int) (T : ByteArray) (k : Int) (Td : ByteArray) (kd : Int) (hV : putV tb tho tmi tse tce = .tuple #[.string T, .int .i64 k]) (hD : putDt db dd dm dy = .tuple #[.string Td, .int .i64 kd]) (w : World) (bb : (-9223372036854775808 ≤ an ∧ an ≤ 9223372036854775807) ∧ (-9223372036854775808 ≤ on ∧ on ≤ 9223372036854775807) ∧ (-9223372036854775808 ≤ pn ∧ pn ≤ 9223372036854775807) ∧ (-9223372036854775808 ≤ cn ∧ cn ≤ 9223372036854775807) ∧ (-9223372036854775808 ≤ vn ∧ vn ≤ 9223372036854775807)) : Calls Tryz.prog 7 #[.agg #[.bool tb, .int .i64 tho, .int .i64 tmi, .int .i64 tse, .int .i64 tce, .bool ac, .bool ai, .int .i64 an, .bool oi, .int .i64 on, .bool pi, .int .i64 pn, .bool ci, .int .i64 cn, .bool vi, .int .i64 vn, .bool db, .int .i64 dd, .int .i64 dm, .int .i64 dy]] w fun r w' => DnOk w (fE (rmI T k ac ai an oi on pi pn ci cn vi vn Td kd)) (fL (rmI T k ac ai an oi on pi pn ci cn vi vn Td kd)) r w' := by
  obtain ⟨ban, bon, bpn, bcn, bvn⟩ := bb
  have hvb : (-9223372036854775808 ≤ vN vn ∧ vN vn ≤ 9223372036854775807) := by unfold vN; split <;> omega
  replace ban := hid ban
  replace bon := hid bon
  replace bpn := hid bpn
  replace bcn := hid bcn
  replace bvn := hid bvn
  have k0 : ∀ e, kp e 0 = e := fun e => by unfold kp; split <;> omega
  obtain ⟨S1, hS1⟩ : ∃ S, stS ac = S := ⟨_, rfl⟩
  obtain ⟨⟨P2a, P2b, x2⟩, h2⟩ : ∃ r, angD ai an true = r := ⟨_, rfl⟩
  obtain ⟨⟨P3a, P3b, x3⟩, h3⟩ : ∃ r, angD oi on false = r := ⟨_, rfl⟩
  obtain ⟨⟨P4, x4⟩, h4⟩ : ∃ r, putD pi pn 1 4 2 0 999999 = r := ⟨_, rfl⟩
  obtain ⟨⟨P5, x5⟩, h5⟩ : ∃ r, putD ci cn 1 3 2 0 36000 = r := ⟨_, rfl⟩
  obtain ⟨⟨P7, x7⟩, h7⟩ : ∃ r, putD vi (vN vn) 1 3 1 0 1800 = r := ⟨_, rfl⟩
  have hI : rmI T k ac ai an oi on pi pn ci cn vi vn Td kd = [([T], k), ([S1], 0), ([nb P2a, nb P2b], x2), ([nb P3a, nb P3b], x3), ([nb P4], x4), ([nb P5], x5), ([Td], kd), ([nb P7, vS vi vn], x7)] := by unfold rmI; rw [hS1, h2, h3, h4, h5, h7]
  rw [hI]
  clear hI
  obtain ⟨N2a, hN2a⟩ : ∃ S, nb P2a = S := ⟨_, rfl⟩
  rw [hN2a]
  obtain ⟨N2b, hN2b⟩ : ∃ S, nb P2b = S := ⟨_, rfl⟩
  rw [hN2b]
  obtain ⟨N3a, hN3a⟩ : ∃ S, nb P3a = S := ⟨_, rfl⟩
  rw [hN3a]
  obtain ⟨N3b, hN3b⟩ : ∃ S, nb P3b = S := ⟨_, rfl⟩
  rw [hN3b]
  obtain ⟨N4, hN4⟩ : ∃ S, nb P4 = S := ⟨_, rfl⟩
  rw [hN4]
  obtain ⟨N5, hN5⟩ : ∃ S, nb P5 = S := ⟨_, rfl⟩
  rw [hN5]
  obtain ⟨N7, hN7⟩ : ∃ S, nb P7 = S := ⟨_, rfl⟩
  rw [hN7]
  replace h2 := hid h2
  replace h3 := hid h3
  replace h4 := hid h4
  replace h5 := hid h5
  replace h7 := hid h7
  replace hS1 := hid hS1
  replace hV := hid hV
  replace hD := hid hD
  replace hvb := hid hvb
  go_enter Tryz.func7, Tryz.ntmps7
  go_upto_region 0 with (fail)
  apply wp_region_seg0 (w := w) (S := [.al 1000, .q [], .q []]) (E := [.al ((fun p => .pointer (some ⟨p, 0, none⟩)), _) 1000, .q0 _, .q0 _]) rfl (by kernel_rfl) rfl rfl
  intro th hge hne
  refine Seg.step _ rfl ⟨by rfl, fun U hU => ?_⟩ ?_
  · go_simp; exact vp_alloc rfl rfl rfl
  refine Seg.sa ?_
  refine Seg.sq ?_
  refine Seg.sq ?_
  refine Seg.stop (fun U1 hU hk => ?_)
  have nb0 := hge 0 _ _ rfl
  have rb0 := (hk 0 _ _ rfl trivial).1.2 (by simp)
  clear hk hge hne
  generalize th (0 + 0) = p0_0 at *
  dsimp only at rb0
  have r_p0_0 := rb0
  clear rb0
  have n_p0_0 := nb0
  clear nb0
  have sz1 := hU.size
  have hB : Below w.heap.size w U1 := hU
  clear hU
  have hlg := held_lt r_p0_0
  go_wp2_with fail
  refine (rcols26_any _).mono ?_
  rintro r V ⟨pc, rfl, r_pc, hA, hlC⟩
  replace hB := bthen hB hA
  have hBV := hB
  replace r_p0_0 := held_after hA r_p0_0
  clear hA
  have hlc := held_lt r_pc
  go_upto_region 2 with (fail)
  apply wp_region_seg0 (w := V) (S := [.q [], .al 1000, .q [1]]) (E := [.q0 _, .al ((fun p => .pointer (some ⟨p, 0, none⟩)), _) 1000, .q1 1 (fun p => .pointer (some ⟨p, 0, none⟩))]) rfl (by kernel_rfl) rfl rfl
  intro th hge hne
  refine Seg.sq ?_
  refine Seg.step _ rfl ⟨by rfl, fun U hU => ?_⟩ ?_
  · go_simp; exact vp_alloc rfl rfl rfl
  refine Seg.sa ?_
  refine Seg.sq ?_
  refine Seg.stop (fun U2 hU hk => ?_)
  have nb1 := hge 1 _ _ rfl
  have rb1 := (hk 1 _ _ rfl trivial).1.2 (by simp)
  clear hk hge hne
  generalize th (0 + 1) = p2_1 at *
  dsimp only at rb1
  replace r_p0_0 := held_after hU r_p0_0
  replace r_pc := held_after hU r_pc
  have r_p2_1 := rb1
  clear rb1
  have n_p2_1 := nb1
  clear nb1
  have sz2 := hU.size
  replace hB := bthen hB hU
  have hP : RowW U2 V.heap.size p2_1 0 [] := ⟨none, 0, r_p2_1, OwnE.nil _ _ _ _⟩
  clear r_p2_1
  have h : RSt V p2_1 p0_0 pc #[.bool tb, .int .i64 tho, .int .i64 tmi, .int .i64 tse, .int .i64 tce, .bool ac, .bool ai, .int .i64 an, .bool oi, .int .i64 on, .bool pi, .int .i64 pn, .bool ci, .int .i64 cn, .bool vi, .int .i64 vn, .bool db, .int .i64 dd, .int .i64 dm, .int .i64 dy] #[.int .i64 1, .int .i64 4, .int .i64 2, .int .i64 0, .int .i64 999999, .int .i64 1, .int .i64 3, .int .i64 2, .int .i64 0, .int .i64 36000, .int .i64 1, .int .i64 3, .int .i64 1, .int .i64 0, .int .i64 1800] 0 [] U2 := ⟨hP, r_p0_0, r_pc, hU, by omega, by omega, n_p2_1⟩
  obtain ⟨B, hBe⟩ : ∃ B, B = p2_1 := ⟨_, rfl⟩
  subst hBe
  clear hP hU
  clear r_p0_0 r_pc hlg hlc hB
  go_upto_region 3 with (fail)
  have c0 := held_cell h.m 0 _ rfl
  have c1 := held_cell h.m 1 _ rfl
  have c2 := held_cell h.m 2 _ rfl
  have c3 := held_cell h.m 3 _ rfl
  have c4 := held_cell h.m 4 _ rfl
  have kt := hid (fun U hh => rputclk_any V.heap.size B 0 [] tb tho tmi tse tce T k hV.out U hh (by simp) h.hb)
  go_wp2_with fail
  refine (kt.out _ h.pen).mono ?_
  clear c0 c1 c2 c3 c4
  clear kt
  rintro r Y1 ⟨rfl, hP2, hf2⟩
  replace h := h.eff hP2 hf2
  clear hP2 hf2
  obtain ⟨E1, hE1⟩ : ∃ E, kp 0 k = E := ⟨_, rfl⟩
  rw [hE1] at h
  replace hE1 := hid hE1
  replace h : RSt V B p0_0 pc #[.bool tb, .int .i64 tho, .int .i64 tmi, .int .i64 tse, .int .i64 tce, .bool ac, .bool ai, .int .i64 an, .bool oi, .int .i64 on, .bool pi, .int .i64 pn, .bool ci, .int .i64 cn, .bool vi, .int .i64 vn, .bool db, .int .i64 dd, .int .i64 dm, .int .i64 dy] #[.int .i64 1, .int .i64 4, .int .i64 2, .int .i64 0, .int .i64 999999, .int .i64 1, .int .i64 3, .int .i64 2, .int .i64 0, .int .i64 36000, .int .i64 1, .int .i64 3, .int .i64 1, .int .i64 0, .int .i64 1800] E1 [T] Y1 := h
  go_upto_region 4 with (fail)
  have c0 := held_cell h.m 5 _ rfl
  go_upto_if 18 with (fail)
  go_cut [18] (fun _ W0 => RSt V B p0_0 pc #[.bool tb, .int .i64 tho, .int .i64 tmi, .int .i64 tse, .int .i64 tce, .bool ac, .bool ai, .int .i64 an, .bool oi, .int .i64 on, .bool pi, .int .i64 pn, .bool ci, .int .i64 cn, .bool vi, .int .i64 vn, .bool db, .int .i64 dd, .int .i64 dm, .int .i64 dy] #[.int .i64 1, .int .i64 4, .int .i64 2, .int .i64 0, .int .i64 999999, .int .i64 1, .int .i64 3, .int .i64 2, .int .i64 0, .int .i64 36000, .int .i64 1, .int .i64 3, .int .i64 1, .int .i64 0, .int .i64 1800] E1 [T, S1] W0)
  case first =>
    clear c0
    have hs1 := hS1.out
    cases ac
    case false =>
      obtain rfl : ⟨#[86]⟩ = S1 := hs1
      have kt := hid (fun U hh => rtext_any V.heap.size B E1 0 [T] ⟨#[86]⟩ U hh (by simp) h.hb)
      go_wp2_with fail
      refine (kt.out _ h.pen).mono ?_
      rintro r Z ⟨rfl, hP2, hf2⟩
      replace h := h.eff hP2 hf2
      rw [k0] at h
      clear hP2 hf2 kt
      go_wp2_with fail
      go_meet
      exact h
    case true =>
      obtain rfl : ⟨#[65]⟩ = S1 := hs1
      have kt := hid (fun U hh => rtext_any V.heap.size B E1 0 [T] ⟨#[65]⟩ U hh (by simp) h.hb)
      go_wp2_with fail
      refine (kt.out _ h.pen).mono ?_
      rintro r Z ⟨rfl, hP2, hf2⟩
      replace h := h.eff hP2 hf2
      rw [k0] at h
      clear hP2 hf2 kt
      go_wp2_with fail
      go_meet
      exact h
  case rest =>
    clear h
    have h := hcut
    clear hcut
    go_upto_region 7 with (fail)
    have c0 := held_cell h.m 6 _ rfl
    have c1 := held_cell h.m 7 _ rfl
    have kt := hid (fun U hh => rang_any V.heap.size B E1 [T, S1] ai an true U hh (by simp) h.hb ban.out)
    rw [h2.out] at kt
    dsimp only at kt
    rw [hN2a, hN2b] at kt
    go_wp2_with fail
    refine (kt.out _ h.pen).mono ?_
    clear c0 c1
    clear kt
    rintro r Y2 ⟨rfl, hP2, hf2⟩
    replace h := h.eff hP2 hf2
    clear hP2 hf2
    obtain ⟨E2, hE2⟩ : ∃ E, kp E1 x2 = E := ⟨_, rfl⟩
    rw [hE2] at h
    replace hE2 := hid hE2
    replace h : RSt V B p0_0 pc #[.bool tb, .int .i64 tho, .int .i64 tmi, .int .i64 tse, .int .i64 tce, .bool ac, .bool ai, .int .i64 an, .bool oi, .int .i64 on, .bool pi, .int .i64 pn, .bool ci, .int .i64 cn, .bool vi, .int .i64 vn, .bool db, .int .i64 dd, .int .i64 dm, .int .i64 dy] #[.int .i64 1, .int .i64 4, .int .i64 2, .int .i64 0, .int .i64 999999, .int .i64 1, .int .i64 3, .int .i64 2, .int .i64 0, .int .i64 36000, .int .i64 1, .int .i64 3, .int .i64 1, .int .i64 0, .int .i64 1800] E2 [T, S1, N2a, N2b] Y2 := h
    go_upto_region 8 with (fail)
    have c0 := held_cell h.m 8 _ rfl
    have c1 := held_cell h.m 9 _ rfl
    have kt := hid (fun U hh => rang_any V.heap.size B E2 [T, S1, N2a, N2b] oi on false U hh (by simp) h.hb bon.out)
    rw [h3.out] at kt
    dsimp only at kt
    rw [hN3a, hN3b] at kt
    go_wp2_with fail
    refine (kt.out _ h.pen).mono ?_
    clear c0 c1
    clear kt
    rintro r Y3 ⟨rfl, hP2, hf2⟩
    replace h := h.eff hP2 hf2
    clear hP2 hf2
    obtain ⟨E3, hE3⟩ : ∃ E, kp E2 x3 = E := ⟨_, rfl⟩
    rw [hE3] at h
    replace hE3 := hid hE3
    replace h : RSt V B p0_0 pc #[.bool tb, .int .i64 tho, .int .i64 tmi, .int .i64 tse, .int .i64 tce, .bool ac, .bool ai, .int .i64 an, .bool oi, .int .i64 on, .bool pi, .int .i64 pn, .bool ci, .int .i64 cn, .bool vi, .int .i64 vn, .bool db, .int .i64 dd, .int .i64 dm, .int .i64 dy] #[.int .i64 1, .int .i64 4, .int .i64 2, .int .i64 0, .int .i64 999999, .int .i64 1, .int .i64 3, .int .i64 2, .int .i64 0, .int .i64 36000, .int .i64 1, .int .i64 3, .int .i64 1, .int .i64 0, .int .i64 1800] E3 [T, S1, N2a, N2b, N3a, N3b] Y3 := h
    have hm := h.m
    have hc := h.c
    go_upto_region 9 with (fail)
    apply wp_region_part (w := Y3) (S := [.q [], .q [], .q [], .q [], .q [], .q []]) (E := [.q0 _, .q0 _, .q0 _, .q0 _, .q0 _, .q0 _]) 6 1 (by kernel_rfl) rfl (by kernel_rfl) rfl rfl rfl
    intro th hge hne
    refine Seg.sq ?_
    refine Seg.sq ?_
    refine Seg.sq ?_ (ht := Or.inl ⟨by rfl, fun U hU => vp_quiet (by (have h0 := held_cell (held_after hU.1 hm) 10 _ rfl; have h1 := held_cell (held_after hU.1 hm) 11 _ rfl; go_simp <;> exact rfl))⟩)
    refine Seg.sq ?_
    refine Seg.sq ?_
    refine Seg.sq ?_ (ht := Or.inl ⟨by rfl, fun U hU => vp_quiet (by (have h0 := held_cell (held_after hU.1 hc) 0 _ rfl; have h1 := held_cell (held_after hU.1 hc) 1 _ rfl; have h2 := held_cell (held_after hU.1 hc) 2 _ rfl; have h3 := held_cell (held_after hU.1 hc) 3 _ rfl; have h4 := held_cell (held_after hU.1 hc) 4 _ rfl; go_simp <;> exact rfl))⟩)
    refine Seg.stop (fun U3 hU hk => ?_)
    clear hk hge hne
    replace hm := held_after hU hm
    replace hc := held_after hU hc
    replace h := h.below hU
    have sz3 := hU.size
    have hB : Below Y3.heap.size Y3 U3 := hU
    clear hm hc hU hB
    have kt := hid (fun U hh => rnum_any V.heap.size B E3 [T, S1, N2a, N2b, N3a, N3b] pi pn 1 4 2 0 999999 U hh (by simp) h.hb bpn.out (by decide))
    rw [h4.out] at kt
    dsimp only at kt
    rw [hN4] at kt
    refine Seg.only (m := 6) (k := 0) rfl (by kernel_rfl) (by rfl) (fun K hK => ?_)
    go_simp
    refine (kt.out _ h.pen).mono ?_
    rintro r Y4 ⟨rfl, hP2, hf2⟩
    replace h := h.eff hP2 hf2
    clear hP2 hf2
    obtain ⟨E4, hE4⟩ : ∃ E, kp E3 x4 = E := ⟨_, rfl⟩
    rw [hE4] at h
    replace hE4 := hid hE4
    replace h : RSt V B p0_0 pc #[.bool tb, .int .i64 tho, .int .i64 tmi, .int .i64 tse, .int .i64 tce, .bool ac, .bool ai, .int .i64 an, .bool oi, .int .i64 on, .bool pi, .int .i64 pn, .bool ci, .int .i64 cn, .bool vi, .int .i64 vn, .bool db, .int .i64 dd, .int .i64 dm, .int .i64 dy] #[.int .i64 1, .int .i64 4, .int .i64 2, .int .i64 0, .int .i64 999999, .int .i64 1, .int .i64 3, .int .i64 2, .int .i64 0, .int .i64 36000, .int .i64 1, .int .i64 3, .int .i64 1, .int .i64 0, .int .i64 1800] E4 [T, S1, N2a, N2b, N3a, N3b, N4] Y4 := h
    refine hK _ _ (Seg.finish ?_ _)
    clear hK kt
    have hm := h.m
    have hc := h.c
    go_upto_region 10 with (fail)
    apply wp_region_part (w := Y4) (S := [.q [], .q [], .q [], .q [], .q [], .q []]) (E := [.q0 _, .q0 _, .q0 _, .q0 _, .q0 _, .q0 _]) 6 1 (by kernel_rfl) rfl (by kernel_rfl) rfl rfl rfl
    intro th hge hne
    refine Seg.sq ?_
    refine Seg.sq ?_
    refine Seg.sq ?_ (ht := Or.inl ⟨by rfl, fun U hU => vp_quiet (by (have h0 := held_cell (held_after hU.1 hm) 12 _ rfl; have h1 := held_cell (held_after hU.1 hm) 13 _ rfl; go_simp <;> exact rfl))⟩)
    refine Seg.sq ?_
    refine Seg.sq ?_
    refine Seg.sq ?_ (ht := Or.inl ⟨by rfl, fun U hU => vp_quiet (by (have h0 := held_cell (held_after hU.1 hc) 5 _ rfl; have h1 := held_cell (held_after hU.1 hc) 6 _ rfl; have h2 := held_cell (held_after hU.1 hc) 7 _ rfl; have h3 := held_cell (held_after hU.1 hc) 8 _ rfl; have h4 := held_cell (held_after hU.1 hc) 9 _ rfl; go_simp <;> exact rfl))⟩)
    refine Seg.stop (fun U4 hU hk => ?_)
    clear hk hge hne
    replace hm := held_after hU hm
    replace hc := held_after hU hc
    replace h := h.below hU
    have sz4 := hU.size
    have hB : Below Y4.heap.size Y4 U4 := hU
    clear hm hc hU hB
    have kt := hid (fun U hh => rnum_any V.heap.size B E4 [T, S1, N2a, N2b, N3a, N3b, N4] ci cn 1 3 2 0 36000 U hh (by simp) h.hb bcn.out (by decide))
    rw [h5.out] at kt
    dsimp only at kt
    rw [hN5] at kt
    refine Seg.only (m := 6) (k := 0) rfl (by kernel_rfl) (by rfl) (fun K hK => ?_)
    go_simp
    refine (kt.out _ h.pen).mono ?_
    rintro r Y5 ⟨rfl, hP2, hf2⟩
    replace h := h.eff hP2 hf2
    clear hP2 hf2
    obtain ⟨E5, hE5⟩ : ∃ E, kp E4 x5 = E := ⟨_, rfl⟩
    rw [hE5] at h
    replace hE5 := hid hE5
    replace h : RSt V B p0_0 pc #[.bool tb, .int .i64 tho, .int .i64 tmi, .int .i64 tse, .int .i64 tce, .bool ac, .bool ai, .int .i64 an, .bool oi, .int .i64 on, .bool pi, .int .i64 pn, .bool ci, .int .i64 cn, .bool vi, .int .i64 vn, .bool db, .int .i64 dd, .int .i64 dm, .int .i64 dy] #[.int .i64 1, .int .i64 4, .int .i64 2, .int .i64 0, .int .i64 999999, .int .i64 1, .int .i64 3, .int .i64 2, .int .i64 0, .int .i64 36000, .int .i64 1, .int .i64 3, .int .i64 1, .int .i64 0, .int .i64 1800] E5 [T, S1, N2a, N2b, N3a, N3b, N4, N5] Y5 := h
    refine hK _ _ (Seg.finish ?_ _)
    clear hK kt
    go_upto_region 11 with (fail)
    have c0 := held_cell h.m 16 _ rfl
    have c1 := held_cell h.m 17 _ rfl
    have c2 := held_cell h.m 18 _ rfl
    have c3 := held_cell h.m 19 _ rfl
    have kc := hid (fun U => hD.out ▸ rputd_any db dd dm dy U)
    go_wp2_with fail
    refine (kc.out _).mono ?_
    rintro r Q1 ⟨rfl, hA⟩
    replace h := h.below hA
    clear hA kc
    clear c0 c1 c2 c3
    have kt := hid (fun U hh => rtext_any V.heap.size B E5 kd [T, S1, N2a, N2b, N3a, N3b, N4, N5] Td U hh (by simp) h.hb)
    go_wp2_with fail
    refine (kt.out _ h.pen).mono ?_
    clear kt
    rintro r Y6 ⟨rfl, hP2, hf2⟩
    replace h := h.eff hP2 hf2
    clear hP2 hf2
    obtain ⟨E6, hE6⟩ : ∃ E, kp E5 kd = E := ⟨_, rfl⟩
    rw [hE6] at h
    replace hE6 := hid hE6
    replace h : RSt V B p0_0 pc #[.bool tb, .int .i64 tho, .int .i64 tmi, .int .i64 tse, .int .i64 tce, .bool ac, .bool ai, .int .i64 an, .bool oi, .int .i64 on, .bool pi, .int .i64 pn, .bool ci, .int .i64 cn, .bool vi, .int .i64 vn, .bool db, .int .i64 dd, .int .i64 dm, .int .i64 dy] #[.int .i64 1, .int .i64 4, .int .i64 2, .int .i64 0, .int .i64 999999, .int .i64 1, .int .i64 3, .int .i64 2, .int .i64 0, .int .i64 36000, .int .i64 1, .int .i64 3, .int .i64 1, .int .i64 0, .int .i64 1800] E6 [T, S1, N2a, N2b, N3a, N3b, N4, N5, Td] Y6 := h
    go_upto_region 13 with (fail)
    have hm := h.m
    have hlB0 := h.pen.lt
    apply wp_region_seg0 (w := Y6) (S := [.q [], .q [], .al 3, .st 2 []]) (E := [.q0 _, .q0 _, .al ((fun p => .pointer (some ⟨p, 0, none⟩)), _) 3, .s0 2 (.cells _ _)]) rfl (by kernel_rfl) rfl rfl
    intro th hge hne
    refine Seg.sq ?_
    refine Seg.sq ?_ (ht := Or.inl ⟨by rfl, fun U hU => vp_quiet (by (have h0 := held_cell (held_after hU.1 hm) 14 _ rfl; have h1 := held_cell (held_after hU.1 hm) 15 _ rfl; go_simp <;> exact rfl))⟩)
    refine Seg.step _ rfl ⟨by rfl, fun U hU => ?_⟩ ?_
    · go_simp; exact vp_alloc rfl rfl rfl
    refine Seg.sa ?_
    refine Seg.step _ rfl ⟨by rfl, fun U z k hz hU hc => ?_⟩ ?_
    · have hz2 := Option.some.inj hz
      cases hz2; clear hz
      exact vp_store_agg _ _ _ rfl hc rfl rfl (by kernel_rfl) rfl (by rfl)
    refine Seg.sa ?_
    refine Seg.stop (fun U5 hU hk => ?_)
    have nb2 := hge 2 _ _ rfl
    have rb2 := (hk 2 _ 3 rfl trivial).1.1 trivial _ (Nat.zero_le _) rfl
    clear hk hge hne
    generalize th (0 + 2) = p13_2 at *
    simp only [Ent.obj] at rb2
    replace hm := held_after hU hm
    replace h := h.below hU
    have r_p13_2 := rb2
    clear rb2
    have n_p13_2 := nb2
    clear nb2
    have sz5 := hU.size
    have hB : Below Y6.heap.size Y6 U5 := hU
    have nB : p13_2 ≠ B := by omega
    have hlp := h.bel.size
    clear hm hU hB
    obtain ⟨pv, hpv⟩ : ∃ X, p13_2 = X := ⟨_, rfl⟩
    rw [hpv] at r_p13_2 nB ⊢
    have hVp : V.heap.size ≤ pv := by omega
    clear hpv n_p13_2
    have v1 := held_cell r_p13_2 1 _ rfl
    go_upto_region 15 with (fail)
    go_cut [64] (fun x W0 => x = .bool (decide (vn < 0) && decide (-1800 ≤ vn)) ∧ RSt V B p0_0 pc #[.bool tb, .int .i64 tho, .int .i64 tmi, .int .i64 tse, .int .i64 tce, .bool ac, .bool ai, .int .i64 an, .bool oi, .int .i64 on, .bool pi, .int .i64 pn, .bool ci, .int .i64 cn, .bool vi, .int .i64 vn, .bool db, .int .i64 dd, .int .i64 dm, .int .i64 dy] #[.int .i64 1, .int .i64 4, .int .i64 2, .int .i64 0, .int .i64 999999, .int .i64 1, .int .i64 3, .int .i64 2, .int .i64 0, .int .i64 36000, .int .i64 1, .int .i64 3, .int .i64 1, .int .i64 0, .int .i64 1800] E6 [T, S1, N2a, N2b, N3a, N3b, N4, N5, Td] W0 ∧ W0.heap[pv]? = some (.cells #[.bool vi, .int .i64 vn] 25 (0, 0)))
    case first =>
      by_cases c1 : vn < 0
      case neg =>
        have b1 : decide (vn < 0) = false := by simpa using c1
        go_wp2_with fail
        go_meet
        exact ⟨by rw [b1]; rfl, h, r_p13_2⟩
      have b1 : decide (vn < 0) = true := by simpa using c1
      by_cases c2 : -1800 ≤ vn
      case neg =>
        have b2 : decide (-1800 ≤ vn) = false := by simpa using c2
        go_wp2_with fail
        go_meet
        exact ⟨by rw [b1, b2]; rfl, h, r_p13_2⟩
      have b2 : decide (-1800 ≤ vn) = true := by simpa using c2
      go_wp2_with fail
      go_meet
      exact ⟨by rw [b1, b2]; rfl, h, r_p13_2⟩
    case rest =>
      clear h r_p13_2 v1
      obtain ⟨rfl, h, r9⟩ := hcut
      go_upto_if 64 with (fail)
      go_cut [9] (fun x W0 => x = .string (vT vn) ∧ RSt V B p0_0 pc #[.bool tb, .int .i64 tho, .int .i64 tmi, .int .i64 tse, .int .i64 tce, .bool ac, .bool ai, .int .i64 an, .bool oi, .int .i64 on, .bool pi, .int .i64 pn, .bool ci, .int .i64 cn, .bool vi, .int .i64 vn, .bool db, .int .i64 dd, .int .i64 dm, .int .i64 dy] #[.int .i64 1, .int .i64 4, .int .i64 2, .int .i64 0, .int .i64 999999, .int .i64 1, .int .i64 3, .int .i64 2, .int .i64 0, .int .i64 36000, .int .i64 1, .int .i64 3, .int .i64 1, .int .i64 0, .int .i64 1800] E6 [T, S1, N2a, N2b, N3a, N3b, N4, N5, Td] W0 ∧ W0.heap[pv]? = some (.cells #[.bool vi, .int .i64 (vN vn)] 25 (0, 0)))
      case first =>
        by_cases cc : vn < 0 ∧ -1800 ≤ vn
        case neg =>
          have bb : (decide (vn < 0) && decide (-1800 ≤ vn)) = false := by simpa using cc
          have hv : vN vn = vn := by unfold vN; rw [if_neg cc]
          have hs : (vT vn) = ⟨#[69]⟩ := by unfold vT; rw [if_neg cc]
          replace hv := hid hv
          replace hs := hid hs
          rw [bb]
          clear bb cc
          go_wp2_with fail
          go_meet
          exact ⟨by rw [hs.out], h, by rw [hv.out]; exact r9⟩
        have bb : (decide (vn < 0) && decide (-1800 ≤ vn)) = true := by simpa using cc
        have hv : vN vn = -vn := by unfold vN; rw [if_pos cc]
        have hs : (vT vn) = ⟨#[87]⟩ := by unfold vT; rw [if_pos cc]
        have wn : IntKind.i64.wrap (-vn) = -vn := by simp [IntKind.wrap, IntKind.bits, IntKind.signed]; omega
        replace hv := hid hv
        replace hs := hid hs
        rw [bb]
        clear bb cc
        have v1 := held_cell r9 1 _ rfl
        have f1 := held_free r9 1
        obtain ⟨S9, hS9, s1, o1⟩ := set1 r9 1 (.int .i64 (-vn))
        have h2 : RSt V B p0_0 pc #[.bool tb, .int .i64 tho, .int .i64 tmi, .int .i64 tse, .int .i64 tce, .bool ac, .bool ai, .int .i64 an, .bool oi, .int .i64 on, .bool pi, .int .i64 pn, .bool ci, .int .i64 cn, .bool vi, .int .i64 vn, .bool db, .int .i64 dd, .int .i64 dm, .int .i64 dy] #[.int .i64 1, .int .i64 4, .int .i64 2, .int .i64 0, .int .i64 999999, .int .i64 1, .int .i64 3, .int .i64 2, .int .i64 0, .int .i64 36000, .int .i64 1, .int .i64 3, .int .i64 1, .int .i64 0, .int .i64 1800] E6 [T, S1, N2a, N2b, N3a, N3b, N4, N5, Td] S9 := ⟨h.pen.only o1 nB r9 (by decide), (o1.block _ (h.ne r9 (by decide))).trans h.m, (o1.block _ (h.nec r9 (by decide))).trans h.c, belowS h.bel o1 hVp, h.nm, h.nc, h.hb⟩
        have r8 : S9.heap[pv]? = some (.cells #[.bool vi, .int .i64 (-vn)] 25 (0, 0)) := s1
        clear h r9 s1 o1
        go_wp2_with fail
        go_meet
        exact ⟨by rw [hs.out], h2, by rw [hv.out]; exact r8⟩
      case rest =>
        clear h r9
        obtain ⟨rfl, h, r9⟩ := hcut
        have v0 := held_cell r9 0 _ rfl
        go_upto_if 71 with (fail)
        go_cut [9] (fun x W0 => x = .string (vS vi vn) ∧ RSt V B p0_0 pc #[.bool tb, .int .i64 tho, .int .i64 tmi, .int .i64 tse, .int .i64 tce, .bool ac, .bool ai, .int .i64 an, .bool oi, .int .i64 on, .bool pi, .int .i64 pn, .bool ci, .int .i64 cn, .bool vi, .int .i64 vn, .bool db, .int .i64 dd, .int .i64 dm, .int .i64 dy] #[.int .i64 1, .int .i64 4, .int .i64 2, .int .i64 0, .int .i64 999999, .int .i64 1, .int .i64 3, .int .i64 2, .int .i64 0, .int .i64 36000, .int .i64 1, .int .i64 3, .int .i64 1, .int .i64 0, .int .i64 1800] E6 [T, S1, N2a, N2b, N3a, N3b, N4, N5, Td] W0 ∧ W0.heap[pv]? = some (.cells #[.bool vi, .int .i64 (vN vn)] 25 (0, 0)))
        case first =>
          cases vi
          case false =>
            go_wp2_with fail
            go_meet
            exact ⟨by unfold vS; rfl, h, r9⟩
          case true =>
            go_wp2_with fail
            go_meet
            exact ⟨by unfold vS vT; rw [if_pos rfl], h, r9⟩
        case rest =>
          clear h r9 v0
          obtain ⟨rfl, h, r9⟩ := hcut
          have hc := h.c
          have kt := hid (fun U hh => rnum_any V.heap.size B E6 [T, S1, N2a, N2b, N3a, N3b, N4, N5, Td] vi (vN vn) 1 3 1 0 1800 U hh (by simp) h.hb hvb.out (by decide))
          rw [h7.out] at kt
          dsimp only at kt
          rw [hN7] at kt
          go_upto_region 20 with (fail)
          apply wp_region_part (w := wc) (S := [.q [], .q [], .q [], .q [], .q []]) (E := [.q0 _, .q0 _, .q0 _, .q0 _, .q0 _]) 5 1 (by kernel_rfl) rfl (by kernel_rfl) rfl rfl rfl
          intro th hge hne
          refine Seg.sq ?_
          refine Seg.sq ?_ (ht := Or.inl ⟨by rfl, fun U hU => vp_quiet (by (have h0 := held_cell (held_after hU.1 r9) 0 _ rfl; have h1 := held_cell (held_after hU.1 r9) 1 _ rfl; go_simp <;> exact rfl))⟩)
          refine Seg.sq ?_
          refine Seg.sq ?_
          refine Seg.sq ?_ (ht := Or.inl ⟨by rfl, fun U hU => vp_quiet (by (have h0 := held_cell (held_after hU.1 hc) 10 _ rfl; have h1 := held_cell (held_after hU.1 hc) 11 _ rfl; have h2 := held_cell (held_after hU.1 hc) 12 _ rfl; have h3 := held_cell (held_after hU.1 hc) 13 _ rfl; have h4 := held_cell (held_after hU.1 hc) 14 _ rfl; go_simp <;> exact rfl))⟩)
          refine Seg.stop (fun U6 hU hk => ?_)
          clear hk hge hne
          replace r9 := held_after hU r9
          replace hc := held_after hU hc
          replace h := h.below hU
          have sz6 := hU.size
          have hB : Below wc.heap.size wc U6 := hU
          clear hc hU r9 hB
          refine Seg.only (m := 5) (k := 0) rfl (by kernel_rfl) (by rfl) (fun K hK => ?_)
          go_simp
          refine (kt.out _ h.pen).mono ?_
          rintro r Y7 ⟨rfl, hP2, hf2⟩
          replace h := h.eff hP2 hf2
          clear hP2 hf2
          obtain ⟨E7, hE7⟩ : ∃ E, kp E6 x7 = E := ⟨_, rfl⟩
          rw [hE7] at h
          replace hE7 := hid hE7
          replace h : RSt V B p0_0 pc #[.bool tb, .int .i64 tho, .int .i64 tmi, .int .i64 tse, .int .i64 tce, .bool ac, .bool ai, .int .i64 an, .bool oi, .int .i64 on, .bool pi, .int .i64 pn, .bool ci, .int .i64 cn, .bool vi, .int .i64 vn, .bool db, .int .i64 dd, .int .i64 dm, .int .i64 dy] #[.int .i64 1, .int .i64 4, .int .i64 2, .int .i64 0, .int .i64 999999, .int .i64 1, .int .i64 3, .int .i64 2, .int .i64 0, .int .i64 36000, .int .i64 1, .int .i64 3, .int .i64 1, .int .i64 0, .int .i64 1800] E7 [T, S1, N2a, N2b, N3a, N3b, N4, N5, Td, N7] Y7 := h
          refine hK _ _ (Seg.finish ?_ _)
          clear hK kt
          have kt := hid (fun U hh => rtext_any V.heap.size B E7 0 [T, S1, N2a, N2b, N3a, N3b, N4, N5, Td, N7] (vS vi vn) U hh (by simp) h.hb)
          go_wp2_with fail
          refine (kt.out _ h.pen).mono ?_
          rintro r Y8 ⟨rfl, hP2, hf2⟩
          replace h := h.eff hP2 hf2
          clear hP2 hf2
          rw [k0] at h
          replace h : RSt V B p0_0 pc #[.bool tb, .int .i64 tho, .int .i64 tmi, .int .i64 tse, .int .i64 tce, .bool ac, .bool ai, .int .i64 an, .bool oi, .int .i64 on, .bool pi, .int .i64 pn, .bool ci, .int .i64 cn, .bool vi, .int .i64 vn, .bool db, .int .i64 dd, .int .i64 dm, .int .i64 dy] #[.int .i64 1, .int .i64 4, .int .i64 2, .int .i64 0, .int .i64 999999, .int .i64 1, .int .i64 3, .int .i64 2, .int .i64 0, .int .i64 36000, .int .i64 1, .int .i64 3, .int .i64 1, .int .i64 0, .int .i64 1800] E7 [T, S1, N2a, N2b, N3a, N3b, N4, N5, Td, N7, (vS vi vn)] Y8 := h
          have hfE : fE [([T], k), ([S1], 0), ([N2a, N2b], x2), ([N3a, N3b], x3), ([N4], x4), ([N5], x5), ([Td], kd), ([N7, vS vi vn], x7)] = E7 := by
            show kp (kp (kp (kp (kp (kp (kp (kp 0 k) 0) x2) x3) x4) x5) kd) x7 = _
            rw [k0, hE1.out, hE2.out, hE3.out, hE4.out, hE5.out, hE6.out, hE7.out]
          have hfL : fL [([T], k), ([S1], 0), ([N2a, N2b], x2), ([N3a, N3b], x3), ([N4], x4), ([N5], x5), ([Td], kd), ([N7, vS vi vn], x7)] = [T, S1, N2a, N2b, N3a, N3b, N4, N5, Td, N7, (vS vi vn)] := rfl
          have kd2 := hid (fun U hh => rdone_any V.heap.size B E7 [T, S1, N2a, N2b, N3a, N3b, N4, N5, Td, N7, (vS vi vn)] U hh (by simp))
          go_wp2_with fail
          refine (kd2.out _ h.pen).mono ?_
          rintro r V9 ⟨a9, c9, rfl, g1, g2, g3⟩
          have hD9 : DnOk w (fE [([T], k), ([S1], 0), ([N2a, N2b], x2), ([N3a, N3b], x3), ([N4], x4), ([N5], x5), ([Td], kd), ([N7, vS vi vn], x7)]) (fL [([T], k), ([S1], 0), ([N2a, N2b], x2), ([N3a, N3b], x3), ([N4], x4), ([N5], x5), ([Td], kd), ([N7, vS vi vn], x7)]) (.returned (.tuple #[.slice a9 (if E7 = 0 then [T, S1, N2a, N2b, N3a, N3b, N4, N5, Td, N7, (vS vi vn)] else []).length c9, .int .i64 E7])) V9 := by rw [hfE, hfL]; exact ⟨a9, c9, rfl, g1, g2, bthen hBV (bthen h.bel g3)⟩
          obtain ⟨n9, hn9⟩ : ∃ n, (if E7 = 0 then [T, S1, N2a, N2b, N3a, N3b, N4, N5, Td, N7, (vS vi vn)] else []).length = n := ⟨_, rfl⟩
          rw [hn9] at hD9 ⊢
          clear hn9 g1 g2 g3
          replace hD9 := hid hD9
          go_wp2_with fail
          go_ret2
          exact hD9.out

end Go.Proofs.YthnoomdhgbaecaaGreatDoor
