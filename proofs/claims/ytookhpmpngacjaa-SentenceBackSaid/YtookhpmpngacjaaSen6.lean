/- Package sentence: Take. -/
import Derived.Test.YtookhpmpngacjaaSen5
import Derived.Test.YtookhpmpngacjaaKB
import Derived.Deep.DeepCutAuto
namespace Go.Proofs.Ytookhpmpngacjaa
open Go.ChangeShapes Go.WideShapes Go.ChangeAt Go.RowKit
set_option linter.unusedVariables false
set_option linter.unusedSimpArgs false

def SnOk (w : World) (r : Snt × Nat × Int) (e : Ending) (w' : World) : Prop := ∃ (a : Option Addr) (cap : Nat), e = .returned (.tuple #[.agg #[.string r.1.1, .string r.1.2.1, .slice a r.1.2.2.length cap], .int .i64 (r.2.1 : Int), .int .i64 r.2.2]) ∧ Els w' 1 a r.1.2.2.length cap (strV r.1.2.2) ∧ After w w'
theorem snOk_no {w w' : World} (n : Int) (h : After w w') : SnOk w (noS, 0, n) (.returned (.tuple #[.agg #[.string ⟨#[]⟩, .string ⟨#[]⟩, .slice none 0 0], .int .i64 0, .int .i64 n])) w' := ⟨none, 0, rfl, Els.nil _ _, h⟩
theorem line_in {t : ByteArray} {i : Nat} (h : lineN (sb t) = (i, 0)) : 1 ≤ i ∧ i + 2 ≤ t.size ∧ i ≤ 80 ∧ ∀ c ∈ sb (t.extract 1 i), c = 42 ∨ letN c = true := by
  obtain ⟨h1, h2, h3, h4⟩ := lineN_ok h
  obtain ⟨q1, q2, q3, q4, q5⟩ := lnF_ok h2
  rw [sb_len] at h3
  refine ⟨q1, h3, by omega, fun c hc => ?_⟩
  rw [sb_extract] at hc
  obtain ⟨p, hp, rfl⟩ := List.getElem_of_mem hc
  rw [List.length_take, List.length_drop] at hp
  have := q5 (1 + p) (by omega) (by omega)
  rw [List.getElem_take, List.getElem_drop]
  rw [List.getD_eq_getElem?_getD, List.getElem?_eq_getElem (by omega)] at this
  exact this
theorem line_low {t : ByteArray} {i : Nat} (h : lineN (sb t) = (i, 0)) : ∀ c ∈ sb (t.extract 1 i), c < 128 := fun c hc => by
  rcases (line_in h).2.2.2 c hc with h | h
  · omega
  · rw [letN_is] at h; omega
theorem opn_size {S : ByteArray} (h : opnOk S = true) : opnV S = S.extract 0 (S.size - 3) ∧ 3 ≤ S.size := by
  have h1 : opnP S := by unfold opnOk at h; exact of_decide_eq_true h
  refine ⟨?_, h1.1⟩
  unfold opnV
  rw [if_pos h1]
set_option maxRecDepth 100000 in
set_option maxHeartbeats 16000000 in
theorem stk_any (t : ByteArray) (w : World) (hb : t.size ≤ 100000) : Calls Try.prog 12 #[.string t] w (SnOk w (takeN t)) := by
  obtain ⟨r, hr⟩ : ∃ r, takeN t = r := ⟨_, rfl⟩
  rw [hr]
  have kL := hid (fun U => line_any t U hb)
  obtain ⟨⟨i, le⟩, hl⟩ : ∃ q, lineN (sb t) = q := ⟨_, rfl⟩
  rw [hl] at kL
  have hln := hid (fun h : le ≠ 0 => hr.symm.trans (takeN_line hl h))
  have hlin := hid (fun h : le = 0 => line_in (t := t) (i := i) (by rw [hl, h]))
  have hlow := hid (fun h : le = 0 => line_low (t := t) (i := i) (by rw [hl, h]))
  have hfm := hid (fun (h : le = 0) h2 => hr.symm.trans (takeN_form (t := t) (i := i) (by rw [hl, h]) h2))
  have hsm := hid (fun (h : le = 0) h2 h3 => hr.symm.trans (takeN_sum (t := t) (i := i) (by rw [hl, h]) h2 h3))
  have hok := hid (fun (h : le = 0) h2 h3 => hr.symm.trans (takeN_ok (t := t) (i := i) (by rw [hl, h]) h2 h3))
  replace hl := hid hl
  clear hr
  dsimp only at kL
  go_enter Try.func12, Try.ntmps12
  go_upto_region 0 with (fail)
  apply wp_region_seg0 (w := w) (S := [.al 1000, .q [], .q []]) (E := [.al ((fun p => .pointer (some ⟨p, 0, none⟩)), _) 1000, .q0 _, .q0 _]) rfl (by kernel_rfl) rfl rfl
  intro th hge hne
  refine Seg.step _ rfl ⟨by rfl, fun U hU => ?_⟩ ?_
  · go_simp; exact vp_alloc rfl rfl rfl
  refine ⟨_, by (simp only [Ent.val]; go_simp <;> exact rfl), ?_⟩
  refine Seg.step _ rfl (Or.inl ⟨by rfl, fun U hU => vp_quiet (by (go_simp <;> exact rfl))⟩) ⟨_, by (simp only [Ent.val]; go_simp <;> exact rfl), ?_⟩
  refine Seg.step _ rfl (Or.inl ⟨by rfl, fun U hU => vp_quiet (by (go_simp <;> exact rfl))⟩) ⟨_, by (simp only [Ent.val]; go_simp <;> exact rfl), ?_⟩
  refine Seg.stop (fun U1 hU hk => ?_)
  have nb0 := hge 0 _ _ rfl
  have rb0 := (hk 0 _ _ rfl trivial).1.2 (by simp)
  clear hk hge hne
  generalize th (0 + 0) = p0_0 at *
  dsimp only at rb0
  have r_p0_0 := rb0
  clear rb0
  have n_p0_0 := nb0
  clear nb0
  have sz1 := hU.size
  have hB : Below w.heap.size w U1 := hU
  clear hU
  have np := n_p0_0
  have hBs := hB.size
  have rP := hid r_p0_0
  replace hB := hid hB
  clear r_p0_0
  go_wp2_with fail
  refine (kL.out _).mono ?_
  rintro e V1 ⟨rfl, hA⟩
  have hB1 := hid (bthen hB.out hA)
  have rP1 := held_after hA rP.out
  clear hA rP hB
  by_cases h0 : le = 0
  case neg =>
    have q : (le != 0) = true := by simp [h0]
    have e := hid (hln.out h0)
    have y0 := held_cell rP1 0 _ rfl
    have y1 := held_cell rP1 1 _ rfl
    have y2 := held_cell rP1 2 _ rfl
    have f0 := held_free rP1 0
    have f1 := held_free rP1 1
    have f2 := held_free rP1 2
    obtain ⟨W9, hW9, ya, yO⟩ := st3 rP1 (.string ⟨#[]⟩) (.string ⟨#[]⟩) (.slice none 0 0)
    have ez0 := held_cell ya 0 _ rfl
    have ez1 := held_cell ya 1 _ rfl
    have ez2 := held_cell ya 2 _ rfl
    have hB9 := hid (belowS hB1.out yO np)
    clear hln hlin hlow hfm hsm hok
    replace h0 := hid h0
    clear yO ya
    go_wp2_with fail
    refine bodyPost_ret (v := .tuple #[.agg #[.string ⟨#[]⟩, .string ⟨#[]⟩, .slice none 0 0], .int .i64 0, .int .i64 le]) (by simp [results, Try.results12, go_sem, ez0, ez1, ez2]) rfl ?_
    rw [e.out]
    exact snOk_no le hB9.out
  obtain ⟨li1, li2, li3, li4⟩ := hlin.out h0
  have hlow2 := hid (hlow.out h0)
  have hfm2 := hid (hfm.out h0)
  have hsm2 := hid (hsm.out h0)
  have hok2 := hid (hok.out h0)
  subst h0
  clear hln hlin hlow hfm hsm hok li4
  have sl1 := fun W => strslice (P := Try.prog) 9 Try.underlying9 t 1 i li1 (by omega) .i64 .i64 1 i rfl rfl W
  have hz : (t.extract 1 i).size = i - 1 := by rw [ByteArray.size_extract]; omega
  obtain ⟨S, hS⟩ : ∃ S, t.extract 1 i = S := ⟨_, rfl⟩
  rw [hS] at sl1 hz hlow2 hfm2 hsm2 hok2
  have kF := hid (fun U => formed_any S U (by omega))
  have kO := hid (fun U => parOpen_any S U (by omega))
  replace hS := hid hS
  have hz2 := hid hz
  clear hz
  go_wp2_with fail
  refine (kF.out _).mono ?_
  rintro e V2 ⟨rfl, hA⟩
  have hB2 := hid (bthen hB1.out hA)
  have rP2 := held_after hA rP1
  clear hA rP1 hB1 kF
  by_cases hP : formP S
  case neg =>
    rw [decide_eq_false hP]
    have e := hid (hfm2.out hP)
    have y0 := held_cell rP2 0 _ rfl
    have y1 := held_cell rP2 1 _ rfl
    have y2 := held_cell rP2 2 _ rfl
    have f0 := held_free rP2 0
    have f1 := held_free rP2 1
    have f2 := held_free rP2 2
    obtain ⟨W9, hW9, ya, yO⟩ := st3 rP2 (.string ⟨#[]⟩) (.string ⟨#[]⟩) (.slice none 0 0)
    have ez0 := held_cell ya 0 _ rfl
    have ez1 := held_cell ya 1 _ rfl
    have ez2 := held_cell ya 2 _ rfl
    have hB9 := hid (belowS hB2.out yO np)
    clear hP hfm2 hsm2 hok2
    clear yO ya
    go_wp2_with fail
    refine bodyPost_ret (v := .tuple #[.agg #[.string ⟨#[]⟩, .string ⟨#[]⟩, .slice none 0 0], .int .i64 0, .int .i64 3]) (by simp [results, Try.results12, go_sem, ez0, ez1, ez2]) rfl ?_
    rw [e.out]
    exact snOk_no 3 hB9.out
  rw [decide_eq_true hP]
  have h8 := hP.1
  replace hP := hid hP
  go_wp2_with fail
  refine (kO.out _).mono ?_
  rintro e V3 ⟨rfl, hA⟩
  have hB3 := hid (bthen hB2.out hA)
  have rP3 := held_after hA rP2
  clear hA rP2 hB2 kO
  by_cases hQ : opnOk S = true
  case neg =>
    have hQ2 : opnOk S = false := by simpa using hQ
    rw [hQ2]
    have e := hid (hsm2.out hP.out hQ2)
    have y0 := held_cell rP3 0 _ rfl
    have y1 := held_cell rP3 1 _ rfl
    have y2 := held_cell rP3 2 _ rfl
    have f0 := held_free rP3 0
    have f1 := held_free rP3 1
    have f2 := held_free rP3 2
    obtain ⟨W9, hW9, ya, yO⟩ := st3 rP3 (.string ⟨#[]⟩) (.string ⟨#[]⟩) (.slice none 0 0)
    have ez0 := held_cell ya 0 _ rfl
    have ez1 := held_cell ya 1 _ rfl
    have ez2 := held_cell ya 2 _ rfl
    have hB9 := hid (belowS hB3.out yO np)
    clear hQ hQ2 hfm2 hsm2 hok2
    generalize opnV S = OV at *
    clear yO ya
    go_wp2_with fail
    refine bodyPost_ret (v := .tuple #[.agg #[.string ⟨#[]⟩, .string ⟨#[]⟩, .slice none 0 0], .int .i64 0, .int .i64 4]) (by simp [results, Try.results12, go_sem, ez0, ez1, ez2]) rfl ?_
    rw [e.out]
    exact snOk_no 4 hB9.out
  rw [hQ]
  have e := hok2.out hP.out hQ
  obtain ⟨o1, o2⟩ := opn_size hQ
  have hUz : (opnV S).size = S.size - 3 := by rw [o1, ByteArray.size_extract]; omega
  have hUl : ∀ c ∈ sb (opnV S), c < 128 := fun c hc => by rw [o1, sb_extract] at hc; exact hlow2.out c (List.mem_of_mem_drop (List.mem_of_mem_take hc))
  obtain ⟨U, hU⟩ : ∃ U, opnV S = U := ⟨_, rfl⟩
  rw [hU] at e hUz hUl ⊢
  have hU5 : 5 ≤ U.size := by omega
  have hU100 := hid (show U.size ≤ 100 by have := hz2.out; omega)
  clear hQ hU o1 o2 hfm2 hsm2 hok2 hlow2
  replace e := hid e
  have f1 := fun W => strto 9 Try.underlying9 U 2 (by omega) .i64 2 rfl W
  have f2 := fun W => strslice (P := Try.prog) 9 Try.underlying9 U 2 5 (by omega) (by omega) .i64 .i64 2 5 rfl rfl W
  obtain ⟨X1, hX1⟩ : ∃ X, U.extract 0 2 = X := ⟨_, rfl⟩
  obtain ⟨X2, hX2⟩ : ∃ X, U.extract 2 5 = X := ⟨_, rfl⟩
  have he2 := hid (show ofS U = (X1, X2, if 5 < U.size then fieldsN (U.extract 6 U.size) else []) by unfold ofS; rw [hX1, hX2])
  rw [hX1] at f1
  rw [hX2] at f2
  clear hX1 hX2
  have wi : IntKind.i64.wrap ((i : Int) + 2) = ((i + 2 : Nat) : Int) := by rw [IntKind.wrap_i64]; omega
  go_upto_region 10 with (fail)
  have hB := hB3.out
  apply wp_region_seg (w := V3) (S := [.q [], .q [], .q [], .q [], .q [], .al 6, .st 5 []]) (E := [.q0 _, .q0 _, .q0 _, .q0 _, .q0 _, .al ((fun p => .pointer (some ⟨p, 0, none⟩)), _) 6, .s0 5 (.cells _ _)]) (by kernel_rfl) rfl (by kernel_rfl) rfl rfl
  intro th hge hne
  refine Seg.step _ rfl (Or.inl ⟨by rfl, fun U hU => vp_quiet (by (go_simp <;> exact rfl))⟩) ⟨_, by (simp only [Ent.val]; go_simp <;> exact rfl), ?_⟩
  refine Seg.step _ rfl (Or.inl ⟨by rfl, fun U hU => vp_quiet (by (go_simp <;> exact rfl))⟩) ⟨_, by (simp only [Ent.val]; go_simp <;> exact rfl), ?_⟩
  refine Seg.step _ rfl (Or.inl ⟨by rfl, fun U hU => vp_quiet (by (go_simp <;> exact rfl))⟩) ⟨_, by (simp only [Ent.val]; go_simp <;> exact rfl), ?_⟩
  refine Seg.step _ rfl (Or.inl ⟨by rfl, fun U hU => vp_quiet (by (go_simp <;> exact rfl))⟩) ⟨_, by (simp only [Ent.val]; go_simp <;> exact rfl), ?_⟩
  refine Seg.step _ rfl (Or.inl ⟨by rfl, fun U hU => vp_quiet (by (go_simp <;> exact rfl))⟩) ⟨_, by (simp only [Ent.val]; go_simp <;> exact rfl), ?_⟩
  refine Seg.step _ rfl ⟨by rfl, fun U hU => ?_⟩ ?_
  · go_simp; exact vp_alloc rfl rfl rfl
  refine ⟨_, by (simp only [Ent.val]; go_simp <;> exact rfl), ?_⟩
  refine Seg.step _ rfl ⟨by rfl, fun U z k hz hU hc => ?_⟩ ?_
  · have hz2 := Option.some.inj hz
    cases hz2; clear hz
    exact vp_store_agg _ _ _ rfl hc rfl rfl (by kernel_rfl) rfl (by rfl)
  refine ⟨_, by (simp only [Ent.val]; go_simp <;> exact rfl), ?_⟩
  refine Seg.stop (fun U31 hU hk => ?_)
  have nb5 := hge 5 _ _ rfl
  have rb5 := (hk 5 _ 6 rfl trivial).1.1 trivial _ (Nat.zero_le _) rfl
  clear hk hge hne
  generalize th (0 + 5) = p10_5 at *
  simp only [Ent.obj] at rb5
  have df_p0_0_p10_5 : p0_0 ≠ p10_5 := by have := held_lt rP3; omega
  replace rP3 := held_after hU rP3
  have r_p10_5 := rb5
  clear rb5
  have n_p10_5 := nb5
  clear nb5
  have sz31 := hU.size
  replace hB := bthen hB hU
  have hB4 := hid hB
  have d0 : p0_0 ≠ p10_5 := df_p0_0_p10_5
  have np5 : w.heap.size ≤ p10_5 := by have := n_p10_5; have := hB3.out.size; omega
  clear hU hB df_p0_0_p10_5 hB3
  by_cases h6 : 5 < U.size
  case neg =>
    have q6 : ¬ (5 : Int) < U.size := by omega
    have he3 := hid (he2.out.trans (show _ = ((X1, X2, []) : Snt) by rw [if_neg h6]))
    have z0 := held_cell r_p10_5 0 _ rfl
    have z1 := held_cell r_p10_5 1 _ rfl
    have z2 := held_cell r_p10_5 2 _ rfl
    have y0 := held_cell rP3 0 _ rfl
    have y1 := held_cell rP3 1 _ rfl
    have y2 := held_cell rP3 2 _ rfl
    have f0 := held_free rP3 0
    have f1 := held_free rP3 1
    have f2 := held_free rP3 2
    obtain ⟨W9, hW9, ya, yO⟩ := st3 rP3 (.string X1) (.string X2) (.slice none 0 0)
    have ez0 := held_cell ya 0 _ rfl
    have ez1 := held_cell ya 1 _ rfl
    have ez2 := held_cell ya 2 _ rfl
    have hB9 := hid (belowS hB4.out yO np)
    clear h6 he2
    clear yO ya
    go_wp2_with fail
    refine bodyPost_ret (v := .tuple #[.agg #[.string X1, .string X2, .slice none 0 0], .int .i64 ((i + 2 : Nat) : Int), .int .i64 0]) (by simp [results, Try.results12, go_sem, ez0, ez1, ez2]) rfl ?_
    rw [e.out, he3.out]
    exact ⟨none, 0, rfl, Els.nil _ _, hB9.out⟩
  have q6 : (5 : Int) < U.size := by omega
  obtain ⟨FL, hFL⟩ : ∃ l, fieldsN (U.extract 6 U.size) = l := ⟨_, rfl⟩
  have he3 := hid (he2.out.trans (show _ = ((X1, X2, FL) : Snt) by rw [if_pos h6, hFL]))
  have f6 := fun W => strfrom 9 Try.underlying9 U 6 (by omega) .i64 6 rfl W
  have kf := hid (fun V => sfields_any (U.extract 6 U.size) V (by rw [ByteArray.size_extract]; have := hU100.out; omega) (fun c hc => by rw [sb_extract] at hc; exact hUl c (List.mem_of_mem_drop (List.mem_of_mem_take hc))))
  rw [hFL] at kf
  obtain ⟨U6, hU6⟩ : ∃ X, U.extract 6 U.size = X := ⟨_, rfl⟩
  rw [hU6] at kf f6
  clear hU6 hFL h6 he2 hUl
  go_wp2_with fail
  refine (kf.out _).mono ?_
  rintro e7 V5 ⟨fa, fc, rfl, hO, hA⟩
  obtain ⟨m, hm⟩ : ∃ m, FL.length = m := ⟨_, rfl⟩
  rw [hm] at hO ⊢
  have rP5 := held_after hA rP3
  have r5 := held_after hA r_p10_5
  have hEf := hO.els (by rw [strV_len]; exact hm) (strV_m FL)
  have hB5 := hid (bthen hB4.out hA)
  have cz2 := held_cell r5 2 _ rfl
  have cf2 := held_free r5 2
  have hset := held_set r5 2 (.slice fa m fc)
  have rP6 := held_oth (v := .slice fa m fc) (j := 2) d0 rP5
  have hO6 := hid (hO.kept (w' := V5.setCell ⟨p10_5, 2, none⟩ (.slice fa m fc)) (fun g hg => Below.heap_setCell V5 ⟨p10_5, 2, none⟩ _ g (fun e2 => by subst e2; exact hO.ne r5 (by decide) hg)))
  have hB6 := hid (hB5.out.setCell (p := ⟨p10_5, 2, none⟩) np5 (.slice fa m fc))
  clear hA hO hEf rP3 r_p10_5 hB4 hB5 kf
  replace hm := hid hm
  go_upto_region 13 with (fail)
  obtain ⟨V6, hV6⟩ : ∃ X, V5.setCell ⟨p10_5, 2, none⟩ (.slice fa m fc) = X := ⟨_, rfl⟩
  rw [hV6] at hset rP6 hO6 hB6
  try rw [hV6]
  replace hset : V6.heap[p10_5]? = some (.cells #[.string X1, .string X2, .slice fa m fc] 24 (0, 0)) := hset
  clear hV6 cz2 cf2 r5 rP5
  have z0 := held_cell hset 0 _ rfl
  have z1 := held_cell hset 1 _ rfl
  have z2 := held_cell hset 2 _ rfl
  have y0 := held_cell rP6 0 _ rfl
  have y1 := held_cell rP6 1 _ rfl
  have y2 := held_cell rP6 2 _ rfl
  have f0 := held_free rP6 0
  have f1 := held_free rP6 1
  have f2 := held_free rP6 2
  obtain ⟨W9, hW9, ya, yO⟩ := st3 rP6 (.string X1) (.string X2) (.slice fa m fc)
  have ez0 := held_cell ya 0 _ rfl
  have ez1 := held_cell ya 1 _ rfl
  have ez2 := held_cell ya 2 _ rfl
  have hB9 := hid (belowS hB6.out yO np)
  have hO9 := hid ((hO6.out.kept (w' := W9) (fun g hg => yO.block g (fun e2 => by subst e2; exact hO6.out.ne rP6 (by decide) hg))).els (by rw [strV_len]; exact hm.out) (strV_m FL))
  clear yO ya
  go_wp2_with fail
  refine bodyPost_ret (v := .tuple #[.agg #[.string X1, .string X2, .slice fa m fc], .int .i64 ((i + 2 : Nat) : Int), .int .i64 0]) (by simp [results, Try.results12, go_sem, ez0, ez1, ez2]) rfl ?_
  rw [e.out, he3.out]
  exact ⟨fa, fc, by rw [hm.out], by rw [hm.out]; exact hO9.out, hB9.out⟩

end Go.Proofs.Ytookhpmpngacjaa
