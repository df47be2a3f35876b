/- Package sentence: the papers' Take. -/
import Derived.Test.YtookhpmpngacjaaSen7
import Derived.Deep.DeepCutAuto
namespace Go.Proofs.Ytookhpmpngacjaa
open Go.ChangeShapes Go.WideShapes Go.ChangeAt Go.RowKit
set_option linter.unusedVariables false
set_option linter.unusedSimpArgs false

theorem tk_0 {t : ByteArray} (h : t.size = 0) : takeN t = (noS, 0, 2) := takeN_line (r := (0, 2)) (by unfold lineN; rw [if_pos (by rw [sb_len]; exact h)]) (by simp)
theorem tk_36 {t : ByteArray} (h : t.size ≠ 0) (h2 : (sb t).getD 0 0 ≠ 36) : takeN t = (noS, 0, 3) := takeN_line (r := (0, 3)) (by unfold lineN; rw [if_neg (by rw [sb_len]; exact h), if_neg h2]) (by simp)
theorem tk_e {t : ByteArray} {i : Nat} {e : Int} (h : t.size ≠ 0) (h2 : (sb t).getD 0 0 = 36) (hl : lnF (sb t) 80 1 = (i, e)) (he : e ≠ 0) : takeN t = (noS, 0, e) := takeN_line (r := (0, e)) (by unfold lineN; rw [if_neg (by rw [sb_len]; exact h), if_pos h2, hl]; exact if_neg he) he
theorem tk_short {t : ByteArray} {i : Nat} (h : t.size ≠ 0) (h2 : (sb t).getD 0 0 = 36) (hl : lnF (sb t) 80 1 = (i, 0)) (hs : t.size ≤ i + 1) : takeN t = (noS, 0, 2) := takeN_line (r := (i, 2)) (by unfold lineN; rw [if_neg (by rw [sb_len]; exact h), if_pos h2, hl]; dsimp only; rw [if_pos rfl]; unfold endE; rw [if_pos (by rw [List.length_drop, sb_len]; omega)]) (by simp)
theorem tk_10 {t : ByteArray} {i : Nat} (h : t.size ≠ 0) (h2 : (sb t).getD 0 0 = 36) (hl : lnF (sb t) 80 1 = (i, 0)) (hs : i + 1 < t.size) (h10 : (sb t).getD (i + 1) 0 ≠ 10) : takeN t = (noS, 0, 3) := takeN_line (r := (i, 3)) (by
  unfold lineN; rw [if_neg (by rw [sb_len]; exact h), if_pos h2, hl]; dsimp only; rw [if_pos rfl]; unfold endE
  rw [if_neg (by rw [List.length_drop, sb_len]; omega), if_neg (fun e => h10 ?_)]
  have q3 := congrArg (fun l => l.getD 1 0) e
  try dsimp only at q3
  rw [List.getD_eq_getElem?_getD, List.getElem?_take, if_pos (by omega), List.getElem?_drop, ← List.getD_eq_getElem?_getD] at q3
  exact q3) (by simp)
theorem tk_line {t : ByteArray} {i : Nat} (h2 : (sb t).getD 0 0 = 36) (hl : lnF (sb t) 80 1 = (i, 0)) (hs : i + 1 < t.size) (h10 : (sb t).getD (i + 1) 0 = 10) : lineN (sb t) = (i, 0) := lineN_run h2 hl (by rw [sb_len]; omega) (lnF_ok hl).2.2.2.1 h10
def formQ (s : ByteArray) : Prop := 8 ≤ s.size ∧ (sb s).getD (s.size - 3) 0 = 42 ∧ (sb s).count 42 = 1 ∧ signsS (s.extract 0 5) 5 = true ∧ (s.size = 8 ∨ (sb s).getD 5 0 = 44)
theorem cnt_let {l : List Nat} (h : ∀ c ∈ l, c = 42 ∨ letN c = true) : l.count 42 = 0 ↔ l.all letN = true := by
  rw [List.count_eq_zero, List.all_eq_true]
  constructor
  · intro h2 c hc
    rcases h c hc with e | e
    · subst e; exact absurd hc h2
    · exact e
  · intro h2 h3
    have := h2 42 h3
    simp [letN] at this
theorem form_ref {s : ByteArray} (hc : ∀ c ∈ sb s, c = 42 ∨ letN c = true) : formP s ↔ formQ s ∧ unhOk (s.extract (s.size - 2) s.size) = true := by
  by_cases h8 : 8 ≤ s.size
  case neg => exact ⟨fun h => absurd h.1 h8, fun h => absurd h.1.1 h8⟩
  obtain ⟨n, hn⟩ : ∃ n, s.size = n + 3 := ⟨s.size - 3, by omega⟩
  have hl := sb_len s
  unfold formP formQ
  rw [show s.size - 3 = n by omega, show s.size - 2 = n + 1 by omega]
  by_cases h42 : (sb s).getD n 0 = 42
  case neg => exact ⟨fun h => absurd h.2.1 h42, fun h => absurd h.1.2.1 h42⟩
  by_cases hu : unhOk (s.extract (n + 1) s.size) = true
  case neg => exact ⟨fun h => absurd h.2.2.1 hu, fun h => absurd h.2 hu⟩
  by_cases hs : signsS (s.extract 0 5) 5 = true
  case neg => exact ⟨fun h => absurd h.2.2.2.1 hs, fun h => absurd h.1.2.2.2.1 hs⟩
  have e1 : sb s = (sb s).take 5 ++ (((sb s).drop 5).take (n - 5) ++ (sb s).drop n) := by
    have a : (sb s).drop n = ((sb s).drop 5).drop (n - 5) := by rw [List.drop_drop]; congr 1; omega
    rw [a, List.take_append_drop, List.take_append_drop]
  have e2 : (sb s).drop n = 42 :: (sb s).drop (n + 1) := by
    rw [List.drop_eq_getElem_cons (by omega)]
    rw [List.getD_eq_getElem?_getD, List.getElem?_eq_getElem (by omega)] at h42
    have a : (sb s)[n] = 42 := h42
    rw [a]
  have eA : sb (s.extract 0 5) = (sb s).take 5 := by rw [sb_extract]; rfl
  have eB : sb (s.extract 5 n) = ((sb s).drop 5).take (n - 5) := sb_extract s 5 n
  have eC : sb (s.extract (n + 1) s.size) = (sb s).drop (n + 1) := by
    rw [sb_extract, List.take_of_length_le (by rw [List.length_drop, hl]; exact Nat.le_refl _)]
  have cA : ((sb s).take 5).count 42 = 0 := by
    rw [List.count_eq_zero]
    intro h
    have := (signsS_is.1 hs).2 42 (by rw [eA]; exact h)
    simp [signN] at this
  have cC : ((sb s).drop (n + 1)).count 42 = 0 := by
    have hp : unhP (s.extract (n + 1) s.size) := of_decide_eq_true hu
    rw [List.count_eq_zero, ← eC]
    intro h
    obtain ⟨p, hpl, he⟩ := List.getElem_of_mem h
    have hz := hp.1
    rw [sb_len, hz] at hpl
    have g : ∀ q, q < 2 → dgN ((sb (s.extract (n + 1) s.size)).getD q 0) < 16 := fun q hq => by
      rcases (show q = 0 ∨ q = 1 by omega) with rfl | rfl
      · exact hp.2.1
      · exact hp.2.2
    have := g p hpl
    rw [List.getD_eq_getElem?_getD, List.getElem?_eq_getElem (by rw [sb_len, hz]; exact hpl), Option.getD_some, he] at this
    exact absurd this (by decide)
  have cS : (sb s).count 42 = (((sb s).drop 5).take (n - 5)).count 42 + 1 := by
    conv => lhs; rw [e1]
    rw [List.count_append, List.count_append, e2, List.count_cons, cA, cC]; simp
  have hB := cnt_let (l := ((sb s).drop 5).take (n - 5)) (fun c h => hc c (List.mem_of_mem_drop (List.mem_of_mem_take h)))
  rw [eB, cS]
  constructor
  · rintro ⟨a, b, c, d, e, f⟩
    exact ⟨⟨a, b, by have := hB.2 e; omega, d, f⟩, c⟩
  · rintro ⟨⟨a, b, c, d, f⟩, g⟩
    exact ⟨a, b, g, d, hB.1 (by omega), f⟩
theorem opn_ok {S : ByteArray} {n : Nat} (hn : S.size = n + 3) (h42 : (sb S).getD n 0 = 42) (hu : unhOk (S.extract (n + 1) (n + 3)) = true) : opnOk S = decide (unhV (S.extract (n + 1) (n + 3)) = xorF 0 (sb (S.extract 0 n))) := by
  unfold opnOk
  have h := opn_is S n hn
  by_cases c : unhV (S.extract (n + 1) (n + 3)) = xorF 0 (sb (S.extract 0 n))
  · rw [decide_eq_true (h.2 ⟨h42, hu, c⟩), decide_eq_true c]
  · rw [decide_eq_false (fun e => c (h.1 e).2.2), decide_eq_false c]
theorem ofS_ref {S : ByteArray} {n : Nat} (hn : S.size = n + 3) (h5 : 5 ≤ n) (hs : signsS (S.extract 0 5) 5 = true) (h44 : n = 5 ∨ (sb S).getD 5 0 = 44) : ofS (S.extract 0 n) = (S.extract 0 2, S.extract 2 5, fieldsR (S.extract 0 n)) := by
  have hl := sb_len S
  have hz : (S.extract 0 n).size = n := by rw [ByteArray.size_extract]; omega
  have hg : ∀ p, p < n → (sb (S.extract 0 n)).getD p 0 = (sb S).getD p 0 := fun p hp => by
    rw [sb_extract, List.drop_zero, List.getD_eq_getElem?_getD, List.getElem?_take, if_pos (by omega), ← List.getD_eq_getElem?_getD]
  have e1 : (S.extract 0 n).extract 0 2 = S.extract 0 2 := sb_inj (by rw [sb_extract, sb_extract, sb_extract, List.drop_zero, List.drop_zero, List.take_take]; congr 1; omega)
  have e2 : (S.extract 0 n).extract 2 5 = S.extract 2 5 := sb_inj (by rw [sb_extract, sb_extract, sb_extract, List.drop_zero, List.drop_take, List.take_take]; congr 1; omega)
  have e3 : fieldsR (S.extract 0 n) = _ := fieldsR_is (s := S.extract 0 n) (fun p hp => by
    rw [hg p (by omega)]
    have := (signsS_is.1 hs).2 ((sb S).getD p 0) (by
      rw [sb_extract, List.drop_zero, List.getD_eq_getElem?_getD, List.getElem?_eq_getElem (by omega)]
      refine List.mem_iff_getElem?.2 ⟨p, ?_⟩
      rw [List.getElem?_take, if_pos (by omega), List.getElem?_eq_getElem (by omega)]; rfl)
    intro e; rw [e] at this; simp [signN] at this) (by omega) (fun h => by rw [hg 5 (by omega)]; rcases h44 with h9 | h9; omega; exact h9)
  rw [e3]
  unfold ofS
  rw [e1, e2]
theorem rx_after {X : Option Nat} {W U : World} (h : After W U) : RX X W U := ⟨h.size, fun k hk _ => h.block k hk⟩
theorem of_x {A : ByteArray} {w w' : World} {e : Ending} (h : e = .returned (.int .u8 ((xorF 0 (sb A) : Nat) : Int)) ∧ Below w.heap.size w w') : e = .returned (.int .u8 ((xorF 0 (sb A) : Nat) : Int)) ∧ After w w' := h
set_option maxRecDepth 100000 in
set_option maxHeartbeats 32000000 in
theorem rstk_any (t : ByteArray) (w : World) (hb : t.size ≤ 100000) : Calls Try.prog 13 #[.string t] w (SnOk w (takeN t)) := by
  obtain ⟨r, hr⟩ : ∃ r, takeN t = r := ⟨_, rfl⟩
  rw [hr]
  obtain ⟨N, hN⟩ : ∃ N, t.size = N := ⟨_, rfl⟩
  have hNs : (t.size : Int) = (N : Int) := by omega
  have hstr := str_eq (a := t) (b := ⟨#[]⟩)
  rw [toL ⟨#[]⟩] at hstr
  go_enter Try.func13, Try.ntmps13
  go_upto_region 0 with (fail)
  apply wp_region_seg0 (w := w) (S := [.al 1000, .q [], .q []]) (E := [.al ((fun p => .pointer (some ⟨p, 0, none⟩)), _) 1000, .q0 _, .q0 _]) rfl (by kernel_rfl) rfl rfl
  intro th hge hne
  refine Seg.step _ rfl ⟨by rfl, fun U hU => ?_⟩ ?_
  · go_simp; exact vp_alloc rfl rfl rfl
  refine ⟨_, by (simp only [Ent.val]; go_simp <;> exact rfl), ?_⟩
  refine Seg.step _ rfl (Or.inl ⟨by rfl, fun U hU => vp_quiet (by (go_simp <;> exact rfl))⟩) ⟨_, by (simp only [Ent.val]; go_simp <;> exact rfl), ?_⟩
  refine Seg.step _ rfl (Or.inl ⟨by rfl, fun U hU => vp_quiet (by (go_simp <;> exact rfl))⟩) ⟨_, by (simp only [Ent.val]; go_simp <;> exact rfl), ?_⟩
  refine Seg.stop (fun U1 hU hk => ?_)
  have nb0 := hge 0 _ _ rfl
  have rb0 := (hk 0 _ _ rfl trivial).1.2 (by simp)
  clear hk hge hne
  generalize th (0 + 0) = p0_0 at *
  dsimp only at rb0
  have r_p0_0 := rb0
  clear rb0
  have n_p0_0 := nb0
  clear nb0
  have sz1 := hU.size
  have hB : Below w.heap.size w U1 := hU
  clear hU
  have np := n_p0_0
  have hBs := hB.size
  have rP := r_p0_0
  replace hB := hid hB
  clear r_p0_0
  by_cases h0 : N = 0
  case pos =>
    have e := hid (hr.symm.trans (tk_0 (by omega)))
    obtain rfl : t = ⟨#[]⟩ := sb_inj (List.length_eq_zero_iff.1 (by rw [sb_len]; omega))
    clear hr hstr h0 hN hNs
    have y0 := held_cell rP 0 _ rfl
    have y1 := held_cell rP 1 _ rfl
    have y2 := held_cell rP 2 _ rfl
    have f0 := held_free rP 0
    have f1 := held_free rP 1
    have f2 := held_free rP 2
    obtain ⟨W9, hW9, ya, yO⟩ := st3 rP (.string ⟨#[]⟩) (.string ⟨#[]⟩) (.slice none 0 0)
    have ez0 := held_cell ya 0 _ rfl
    have ez1 := held_cell ya 1 _ rfl
    have ez2 := held_cell ya 2 _ rfl
    have hB9 := hid (belowS hB.out yO np)
    clear yO ya
    go_wp2_with fail
    refine bodyPost_ret (v := .tuple #[.agg #[.string ⟨#[]⟩, .string ⟨#[]⟩, .slice none 0 0], .int .i64 0, .int .i64 2]) (by simp [results, Try.results13, go_sem, ez0, ez1, ez2]) rfl ?_
    rw [e.out]
    exact snOk_no 2 hB9.out
  have hs0 : (t.toList == []) = false := by rw [show ([] : List UInt8) = (⟨#[]⟩ : ByteArray).data.toList from rfl, hstr]; exact decide_eq_false (fun e => h0 (by rw [← hN, size_of_sb e]; rfl))
  obtain ⟨c0, hc0⟩ : ∃ c, (sb t).getD 0 0 = c := ⟨_, rfl⟩
  have i0 := fun W => sidx 9 Try.underlying9 t 0 c0 (by omega) hc0 .i64 0 rfl W
  have hne := hid (show t.size ≠ 0 by omega)
  clear hstr
  by_cases h36 : c0 = 36
  case neg =>
    have e := hid (hr.symm.trans (tk_36 hne.out (by rw [hc0]; exact h36)))
    have q : ((c0 : Int) != 36) = true := by simp; omega
    clear hr hN h0
    replace h36 := hid h36
    have y0 := held_cell rP 0 _ rfl
    have y1 := held_cell rP 1 _ rfl
    have y2 := held_cell rP 2 _ rfl
    have f0 := held_free rP 0
    have f1 := held_free rP 1
    have f2 := held_free rP 2
    obtain ⟨W9, hW9, ya, yO⟩ := st3 rP (.string ⟨#[]⟩) (.string ⟨#[]⟩) (.slice none 0 0)
    have ez0 := held_cell ya 0 _ rfl
    have ez1 := held_cell ya 1 _ rfl
    have ez2 := held_cell ya 2 _ rfl
    have hB9 := hid (belowS hB.out yO np)
    clear yO ya
    go_wp2_with fail
    refine bodyPost_ret (v := .tuple #[.agg #[.string ⟨#[]⟩, .string ⟨#[]⟩, .slice none 0 0], .int .i64 0, .int .i64 3]) (by simp [results, Try.results13, go_sem, ez0, ez1, ez2]) rfl ?_
    rw [e.out]
    exact snOk_no 3 hB9.out
  have q36 : ((c0 : Int) != 36) = false := by simp; omega
  rw [h36] at hc0
  have kL := hid (fun U => rend_any t U (by omega))
  obtain ⟨⟨i, le⟩, hl⟩ : ∃ q, lnF (sb t) 80 1 = q := ⟨_, rfl⟩
  rw [hl] at kL
  dsimp only at kL
  have hli := hid (fun h : le = 0 => lnF_ok (j := i) (by rw [hl, h]))
  have hee := hid (fun h => hr.symm.trans (tk_e hne.out hc0 hl h))
  have hsh := hid (fun (h : le = 0) h2 => hr.symm.trans (tk_short (i := i) hne.out hc0 (by rw [hl, h]) h2))
  have h10 := hid (fun (h : le = 0) h2 h3 => hr.symm.trans (tk_10 (i := i) hne.out hc0 (by rw [hl, h]) h2 h3))
  have hLN := hid (fun (h : le = 0) h2 h3 => tk_line (i := i) hc0 (by rw [hl, h]) h2 h3)
  replace hr := hid hr
  replace h36 := hid h36
  replace hc0 := hid hc0
  clear hl h0
  go_wp2_with fail
  refine (kL.out _).mono ?_
  rintro e V ⟨rfl, hv⟩
  obtain rfl : U1 = V := hv.symm
  clear hv kL
  by_cases hle : le = 0
  case neg =>
    have e := hid (hee.out hle)
    have q : (le != 0) = true := by simp [hle]
    clear hee hsh h10 hLN hli
    replace hle := hid hle
    have y0 := held_cell rP 0 _ rfl
    have y1 := held_cell rP 1 _ rfl
    have y2 := held_cell rP 2 _ rfl
    have f0 := held_free rP 0
    have f1 := held_free rP 1
    have f2 := held_free rP 2
    obtain ⟨W9, hW9, ya, yO⟩ := st3 rP (.string ⟨#[]⟩) (.string ⟨#[]⟩) (.slice none 0 0)
    have ez0 := held_cell ya 0 _ rfl
    have ez1 := held_cell ya 1 _ rfl
    have ez2 := held_cell ya 2 _ rfl
    have hB9 := hid (belowS hB.out yO np)
    clear yO ya
    go_wp2_with fail
    refine bodyPost_ret (v := .tuple #[.agg #[.string ⟨#[]⟩, .string ⟨#[]⟩, .slice none 0 0], .int .i64 0, .int .i64 le]) (by simp [results, Try.results13, go_sem, ez0, ez1, ez2]) rfl ?_
    rw [e.out]
    exact snOk_no le hB9.out
  obtain ⟨li1, li2, li3, li4, -⟩ := hli.out hle
  rw [sb_len, hN] at li3
  have wi1 : IntKind.i64.wrap ((i : Int) + 1) = ((i + 1 : Nat) : Int) := by rw [IntKind.wrap_i64]; omega
  have wi2 : IntKind.i64.wrap ((i : Int) + 2) = ((i + 2 : Nat) : Int) := by rw [IntKind.wrap_i64]; omega
  by_cases hsz : N ≤ i + 1
  case pos =>
    have e := hid (hsh.out hle (by rw [hN]; exact hsz))
    have q : (N : Int) ≤ ((i + 1 : Nat) : Int) := by omega
    have q2 : ((i + 1 : Nat) : Int) ≥ (N : Int) := by omega
    subst hle
    clear hee hsh h10 hLN hli wi2
    obtain ⟨i1, hi1⟩ : ∃ z, i + 1 = z := ⟨_, rfl⟩
    rw [hi1] at wi1 q q2 hsz
    replace hi1 := hid hi1
    have y0 := held_cell rP 0 _ rfl
    have y1 := held_cell rP 1 _ rfl
    have y2 := held_cell rP 2 _ rfl
    have f0 := held_free rP 0
    have f1 := held_free rP 1
    have f2 := held_free rP 2
    obtain ⟨W9, hW9, ya, yO⟩ := st3 rP (.string ⟨#[]⟩) (.string ⟨#[]⟩) (.slice none 0 0)
    have ez0 := held_cell ya 0 _ rfl
    have ez1 := held_cell ya 1 _ rfl
    have ez2 := held_cell ya 2 _ rfl
    have hB9 := hid (belowS hB.out yO np)
    clear yO ya
    go_wp2_with fail
    refine bodyPost_ret (v := .tuple #[.agg #[.string ⟨#[]⟩, .string ⟨#[]⟩, .slice none 0 0], .int .i64 0, .int .i64 2]) (by simp [results, Try.results13, go_sem, ez0, ez1, ez2]) rfl ?_
    rw [e.out]
    exact snOk_no 2 hB9.out
  have hsN : i + 1 < t.size := by rw [hN]; omega
  have qs : ¬ (N : Int) ≤ ((i + 1 : Nat) : Int) := by omega
  have qs2 : ¬ N ≤ i + 1 := hsz
  obtain ⟨c1, hc1⟩ : ∃ c, (sb t).getD (i + 1) 0 = c := ⟨_, rfl⟩
  have ix1 := fun W => sidx 9 Try.underlying9 t (i + 1) c1 hsN hc1 .i64 ((i + 1 : Nat) : Int) rfl W
  have sl1 := fun W => strslice (P := Try.prog) 9 Try.underlying9 t 1 i li1 (by omega) .i64 .i64 1 i rfl rfl W
  have hz : (t.extract 1 i).size = i - 1 := by rw [ByteArray.size_extract]; omega
  have hft := fun h => line_in (t := t) (i := i) (hLN.out hle hsN h)
  have hfm := fun h => takeN_form (t := t) (i := i) (hLN.out hle hsN h)
  have hsm := fun h => takeN_sum (t := t) (i := i) (hLN.out hle hsN h)
  have hok := fun h => takeN_ok (t := t) (i := i) (hLN.out hle hsN h)
  obtain ⟨S, hS⟩ : ∃ S, t.extract 1 i = S := ⟨_, rfl⟩
  simp only [hS, hc1, hr.out] at hft hfm hsm hok
  rw [hS] at sl1 hz
  have h10b := hid (fun h : c1 ≠ 10 => h10.out hle hsN (by rw [hc1]; exact h))
  subst hle
  obtain ⟨Z, hZ⟩ : ∃ z, S.size = z := ⟨_, rfl⟩
  have hZs : (S.size : Int) = (Z : Int) := by omega
  have hZ82 : Z ≤ 80 := by omega
  obtain ⟨i1, hi1⟩ : ∃ z, i + 1 = z := ⟨_, rfl⟩
  rw [hi1] at wi1 qs qs2 ix1
  clear hee hsh h10 hLN hli hc1 hS hsN hsz hz
  replace hft := hid hft
  replace hfm := hid hfm
  replace hsm := hid hsm
  replace hok := hid hok
  replace hi1 := hid hi1
  replace hZ := hid hZ
  have wz : IntKind.i64.wrap ((Z : Int) - 3) = (Z : Int) - 3 := by rw [IntKind.wrap_i64]; omega
  by_cases b10 : c1 = 10
  case neg =>
    have e := hid (h10b.out b10)
    have q : ((c1 : Int) != 10) = true := by simp; omega
    clear hft hfm hsm hok h10b
    replace b10 := hid b10
    have y0 := held_cell rP 0 _ rfl
    have y1 := held_cell rP 1 _ rfl
    have y2 := held_cell rP 2 _ rfl
    have f0 := held_free rP 0
    have f1 := held_free rP 1
    have f2 := held_free rP 2
    obtain ⟨W9, hW9, ya, yO⟩ := st3 rP (.string ⟨#[]⟩) (.string ⟨#[]⟩) (.slice none 0 0)
    have ez0 := held_cell ya 0 _ rfl
    have ez1 := held_cell ya 1 _ rfl
    have ez2 := held_cell ya 2 _ rfl
    have hB9 := hid (belowS hB.out yO np)
    clear yO ya
    go_wp2_with fail
    refine bodyPost_ret (v := .tuple #[.agg #[.string ⟨#[]⟩, .string ⟨#[]⟩, .slice none 0 0], .int .i64 0, .int .i64 3]) (by simp [results, Try.results13, go_sem, ez0, ez1, ez2]) rfl ?_
    rw [e.out]
    exact snOk_no 3 hB9.out
  have q10 : ((c1 : Int) != 10) = false := by simp; omega
  have hlet := (hft.out b10).2.2.2
  have hfr := form_ref hlet
  have hfm2 := hid (hfm.out b10)
  have hsm2 := hid (hsm.out b10)
  have hok2 := hid (hok.out b10)
  replace hfr := hid hfr
  clear hft hfm hsm hok h10b hlet
  replace b10 := hid b10
  by_cases b8 : Z < 8
  case pos =>
    have e := hid (hfm2.out (fun h => by have := h.1; have := hZ.out; omega))
    have q : (Z : Int) - 3 < 5 := by omega
    clear hfm2 hsm2 hok2 hfr
    replace b8 := hid b8
    have y0 := held_cell rP 0 _ rfl
    have y1 := held_cell rP 1 _ rfl
    have y2 := held_cell rP 2 _ rfl
    have f0 := held_free rP 0
    have f1 := held_free rP 1
    have f2 := held_free rP 2
    obtain ⟨W9, hW9, ya, yO⟩ := st3 rP (.string ⟨#[]⟩) (.string ⟨#[]⟩) (.slice none 0 0)
    have ez0 := held_cell ya 0 _ rfl
    have ez1 := held_cell ya 1 _ rfl
    have ez2 := held_cell ya 2 _ rfl
    have hB9 := hid (belowS hB.out yO np)
    clear yO ya
    go_wp2_with fail
    refine bodyPost_ret (v := .tuple #[.agg #[.string ⟨#[]⟩, .string ⟨#[]⟩, .slice none 0 0], .int .i64 0, .int .i64 3]) (by simp [results, Try.results13, go_sem, ez0, ez1, ez2]) rfl ?_
    rw [e.out]
    exact snOk_no 3 hB9.out
  obtain ⟨n, hn⟩ : ∃ n, Z = n + 3 := ⟨Z - 3, by omega⟩
  have hSn : S.size = n + 3 := by rw [hZ.out]; exact hn
  have wz2 : IntKind.i64.wrap ((Z : Int) - 3) = (n : Int) := by omega
  have q8 : ¬ (n : Int) < 5 := by omega
  have n5 : 5 ≤ n := by omega
  obtain ⟨c, hc⟩ : ∃ c, (sb S).getD n 0 = c := ⟨_, rfl⟩
  have ixn := fun W => sidx 9 Try.underlying9 S n c (by omega) hc .i64 n rfl W
  have hfr2 := hfr.out
  unfold formQ at hfr2
  rw [hSn, show n + 3 - 3 = n by omega, show n + 3 - 2 = n + 1 by omega, hc] at hfr2
  clear wz hfr b8
  have n78 := hid (show n ≤ 77 by omega)
  by_cases b42 : c = 42
  case neg =>
    have e := hid (hfm2.out (fun h => b42 (hfr2.1 h).1.2.1))
    have q : ((c : Int) != 42) = true := by simp; omega
    clear hfm2 hsm2 hok2 hfr2
    replace b42 := hid b42
    replace hSn := hid hSn
    clear hc
    replace hn := hid hn
    have y0 := held_cell rP 0 _ rfl
    have y1 := held_cell rP 1 _ rfl
    have y2 := held_cell rP 2 _ rfl
    have f0 := held_free rP 0
    have f1 := held_free rP 1
    have f2 := held_free rP 2
    obtain ⟨W9, hW9, ya, yO⟩ := st3 rP (.string ⟨#[]⟩) (.string ⟨#[]⟩) (.slice none 0 0)
    have ez0 := held_cell ya 0 _ rfl
    have ez1 := held_cell ya 1 _ rfl
    have ez2 := held_cell ya 2 _ rfl
    have hB9 := hid (belowS hB.out yO np)
    clear yO ya
    go_wp2_with fail
    refine bodyPost_ret (v := .tuple #[.agg #[.string ⟨#[]⟩, .string ⟨#[]⟩, .slice none 0 0], .int .i64 0, .int .i64 3]) (by simp [results, Try.results13, go_sem, ez0, ez1, ez2]) rfl ?_
    rw [e.out]
    exact snOk_no 3 hB9.out
  have q42 : ((c : Int) != 42) = false := by simp; omega
  have ks := hid (fun U => stars_any S U (by omega))
  obtain ⟨d, hd⟩ : ∃ d, (sb S).count 42 = d := ⟨_, rfl⟩
  have hdl : d ≤ 80 := by have := List.count_le_length (a := 42) (l := sb S); rw [hd, sb_len, hZ.out] at this; omega
  rw [hd] at ks hfr2
  clear hd
  rw [b42] at hc
  replace b42 := hid b42
  by_cases b1 : d = 1
  case neg =>
    have e := hid (hfm2.out (fun h => b1 (hfr2.1 h).1.2.2.1))
    have q : ((d : Int) != 1) = true := by simp; omega
    clear hfm2 hsm2 hok2 hfr2
    replace b1 := hid b1
    replace hSn := hid hSn
    clear hc
    replace hn := hid hn
    have y0 := held_cell rP 0 _ rfl
    have y1 := held_cell rP 1 _ rfl
    have y2 := held_cell rP 2 _ rfl
    have f0 := held_free rP 0
    have f1 := held_free rP 1
    have f2 := held_free rP 2
    obtain ⟨W9, hW9, ya, yO⟩ := st3 rP (.string ⟨#[]⟩) (.string ⟨#[]⟩) (.slice none 0 0)
    have ez0 := held_cell ya 0 _ rfl
    have ez1 := held_cell ya 1 _ rfl
    have ez2 := held_cell ya 2 _ rfl
    have hB9 := hid (belowS hB.out yO np)
    go_wp2_with fail
    refine (ks.out _).mono ?_
    rintro e V ⟨rfl, hv⟩
    obtain rfl : U1 = V := hv.symm
    clear hv
    clear yO ya
    go_wp2_with fail
    refine bodyPost_ret (v := .tuple #[.agg #[.string ⟨#[]⟩, .string ⟨#[]⟩, .slice none 0 0], .int .i64 0, .int .i64 3]) (by simp [results, Try.results13, go_sem, ez0, ez1, ez2]) rfl ?_
    rw [e.out]
    exact snOk_no 3 hB9.out
  have q1 : ((d : Int) != 1) = false := by simp; omega
  have f5 := fun W => strto 9 Try.underlying9 S 5 (by omega) .i64 5 rfl W
  have z5 : (S.extract 0 5).size ≤ 100000 := by rw [ByteArray.size_extract]; omega
  have hofs := fun h1 h2 => ofS_ref hSn n5 h1 h2
  obtain ⟨X5, hX5⟩ : ∃ X, S.extract 0 5 = X := ⟨_, rfl⟩
  rw [hX5] at f5 z5 hfr2
  simp only [hX5] at hofs
  have kg := hid (fun U => rsigns_any X5 5 U z5 (by omega))
  replace b1 := hid b1
  by_cases bs : signsS X5 5 = true
  case neg =>
    have bs2 : signsS X5 5 = false := by simpa using bs
    have e := hid (hfm2.out (fun h => bs (hfr2.1 h).1.2.2.2.1))
    clear hfm2 hsm2 hok2 hfr2 hofs
    replace hSn := hid hSn
    clear hc hX5
    replace hn := hid hn
    have y0 := held_cell rP 0 _ rfl
    have y1 := held_cell rP 1 _ rfl
    have y2 := held_cell rP 2 _ rfl
    have f0 := held_free rP 0
    have f1 := held_free rP 1
    have f2 := held_free rP 2
    obtain ⟨W9, hW9, ya, yO⟩ := st3 rP (.string ⟨#[]⟩) (.string ⟨#[]⟩) (.slice none 0 0)
    have ez0 := held_cell ya 0 _ rfl
    have ez1 := held_cell ya 1 _ rfl
    have ez2 := held_cell ya 2 _ rfl
    have hB9 := hid (belowS hB.out yO np)
    go_wp2_with fail
    refine (ks.out _).mono ?_
    rintro e V ⟨rfl, hv⟩
    obtain rfl : U1 = V := hv.symm
    clear hv
    go_wp2_with fail
    refine (kg.out _).mono ?_
    rintro e V ⟨rfl, hv⟩
    obtain rfl : U1 = V := hv.symm
    clear hv
    rw [bs2]
    clear bs bs2
    clear yO ya
    go_wp2_with fail
    refine bodyPost_ret (v := .tuple #[.agg #[.string ⟨#[]⟩, .string ⟨#[]⟩, .slice none 0 0], .int .i64 0, .int .i64 3]) (by simp [results, Try.results13, go_sem, ez0, ez1, ez2]) rfl ?_
    rw [e.out]
    exact snOk_no 3 hB9.out
  obtain ⟨g, hg⟩ : ∃ c, (sb S).getD 5 0 = c := ⟨_, rfl⟩
  have ix5 := fun W => sidx 9 Try.underlying9 S 5 g (by omega) hg .i64 5 rfl W
  rw [hg] at hfr2
  simp only [hg] at hofs
  clear hX5
  by_cases b44 : n = 5 ∨ g = 44
  case neg =>
    have e := hid (hfm2.out (fun h => b44 (by rcases (hfr2.1 h).1.2.2.2.2 with h9 | h9; exact .inl (by omega); exact .inr h9)))
    have q5 : (5 : Int) < n := by omega
    have q55 : (n : Int) > 5 := by omega
    have q44 : ((g : Int) != 44) = true := by simp; omega
    clear hfm2 hsm2 hok2 hfr2 hofs
    replace b44 := hid b44
    replace hSn := hid hSn
    clear hc hg
    replace hn := hid hn
    have y0 := held_cell rP 0 _ rfl
    have y1 := held_cell rP 1 _ rfl
    have y2 := held_cell rP 2 _ rfl
    have f0 := held_free rP 0
    have f1 := held_free rP 1
    have f2 := held_free rP 2
    obtain ⟨W9, hW9, ya, yO⟩ := st3 rP (.string ⟨#[]⟩) (.string ⟨#[]⟩) (.slice none 0 0)
    have ez0 := held_cell ya 0 _ rfl
    have ez1 := held_cell ya 1 _ rfl
    have ez2 := held_cell ya 2 _ rfl
    have hB9 := hid (belowS hB.out yO np)
    go_wp2_with fail
    refine (ks.out _).mono ?_
    rintro e V ⟨rfl, hv⟩
    obtain rfl : U1 = V := hv.symm
    clear hv
    go_wp2_with fail
    refine (kg.out _).mono ?_
    rintro e V ⟨rfl, hv⟩
    obtain rfl : U1 = V := hv.symm
    clear hv
    rw [bs]
    clear bs
    clear yO ya
    go_wp2_with fail
    refine bodyPost_ret (v := .tuple #[.agg #[.string ⟨#[]⟩, .string ⟨#[]⟩, .slice none 0 0], .int .i64 0, .int .i64 3]) (by simp [results, Try.results13, go_sem, ez0, ez1, ez2]) rfl ?_
    rw [e.out]
    exact snOk_no 3 hB9.out
  have hofs2 := hid (hofs bs b44)
  have hfy := hid (fun h : unhOk (S.extract (n + 1) (n + 3)) = true => hfr2.2 ⟨⟨by omega, b42.out, b1.out, bs, by rcases b44 with h9 | h9; exact .inl (by omega); exact .inr h9⟩, h⟩)
  have hfn := hid (fun h : unhOk (S.extract (n + 1) (n + 3)) = false => hfm2.out (fun h9 => by have := (hfr2.1 h9).2; rw [h] at this; cases this))
  have hopn := hid (fun h => opn_ok hSn hc h)
  have fn := fun W => strfrom 9 Try.underlying9 S (n + 1) (by omega) .i64 ((n + 1 : Nat) : Int) rfl W
  rw [hSn] at fn
  have zn : (S.extract (n + 1) (n + 3)).size ≤ 100000 := by rw [ByteArray.size_extract]; omega
  have fo := fun W => strto 9 Try.underlying9 S n (by omega) .i64 n rfl W
  have zo : (S.extract 0 n).size = n := by rw [ByteArray.size_extract]; omega
  have f2 := fun W => strto 9 Try.underlying9 S 2 (by omega) .i64 2 rfl W
  have f25 := fun W => strslice (P := Try.prog) 9 Try.underlying9 S 2 5 (by omega) (by omega) .i64 .i64 2 5 rfl rfl W
  have hopz := hid (fun h : opnOk S = true => show opnV S = S.extract 0 n by rw [(opn_size h).1, hSn]; rfl)
  clear hofs hfr2 hfm2 hc
  obtain ⟨D, hD⟩ : ∃ D, S.extract (n + 1) (n + 3) = D := ⟨_, rfl⟩
  rw [hD] at hfy hfn hopn fn zn
  obtain ⟨A, hA_⟩ : ∃ A, S.extract 0 n = A := ⟨_, rfl⟩
  rw [hA_] at hopn fo zo hopz hofs2
  obtain ⟨X2, hX2⟩ : ∃ A, S.extract 0 2 = A := ⟨_, rfl⟩
  rw [hX2] at f2 hofs2
  obtain ⟨X25, hX25⟩ : ∃ A, S.extract 2 5 = A := ⟨_, rfl⟩
  rw [hX25] at f25 hofs2
  clear hD hA_ hX2 hX25
  have kU := hid (fun U => refUnhex_any D U zn)
  have kX := hid (fun U => refOf_any A U (by omega))
  have kF := hid (fun U => rsfields_any A U (by omega))
  replace hSn := hid hSn
  replace hn := hid hn
  have wn1 : IntKind.i64.wrap ((n : Int) + 1) = ((n + 1 : Nat) : Int) := by rw [IntKind.wrap_i64]; have := n78.out; omega
  obtain ⟨n1, hn1⟩ : ∃ z, n + 1 = z := ⟨_, rfl⟩
  rw [hn1] at wn1 fn
  replace hn1 := hid hn1
  clear zn zo
  by_cases b5 : n = 5
  case pos =>
    have q5 : ¬ (5 : Int) < n := by omega
    have q55 : ¬ (n : Int) > 5 := by omega
    have q6 : ¬ 5 < n := by omega
    replace b5 := hid b5
    replace b44 := hid b44
    go_wp2_with fail
    refine (ks.out _).mono ?_
    rintro e V ⟨rfl, hv⟩
    obtain rfl : U1 = V := hv.symm
    clear hv
    go_wp2_with fail
    refine (kg.out _).mono ?_
    rintro e V ⟨rfl, hv⟩
    obtain rfl : U1 = V := hv.symm
    clear hv
    rw [bs]
    clear bs ks kg
    go_wp2_with fail
    refine (kU.out _).mono ?_
    rintro e V ⟨rfl, hv⟩
    obtain rfl : U1 = V := hv.symm
    clear hv
    clear kU
    by_cases bu : unhOk D = true
    case neg =>
      have bu2 : unhOk D = false := by simpa using bu
      have e := hid (hfn.out bu2)
      rw [bu2]
      clear bu bu2 hfn hfy hopn hopz
      generalize unhV D = DV at *
      have y0 := held_cell rP 0 _ rfl
      have y1 := held_cell rP 1 _ rfl
      have y2 := held_cell rP 2 _ rfl
      have f0 := held_free rP 0
      have f1 := held_free rP 1
      have f2 := held_free rP 2
      obtain ⟨W9, hW9, ya, yO⟩ := st3 rP (.string ⟨#[]⟩) (.string ⟨#[]⟩) (.slice none 0 0)
      have ez0 := held_cell ya 0 _ rfl
      have ez1 := held_cell ya 1 _ rfl
      have ez2 := held_cell ya 2 _ rfl
      have hB9 := hid (belowS hB.out yO np)
      clear yO ya
      go_wp2_with fail
      refine bodyPost_ret (v := .tuple #[.agg #[.string ⟨#[]⟩, .string ⟨#[]⟩, .slice none 0 0], .int .i64 0, .int .i64 3]) (by simp [results, Try.results13, go_sem, ez0, ez1, ez2]) rfl ?_
      rw [e.out]
      exact snOk_no 3 hB9.out
    have hop := hopn.out bu
    have hfp := hid (hfy.out bu)
    rw [bu]
    clear bu hfn hfy hopn
    obtain ⟨DV, hDV⟩ : ∃ z, unhV D = z := ⟨_, rfl⟩
    rw [hDV] at hop ⊢
    clear hDV
    go_wp2_with fail
    refine (kX.out _).mono ?_
    rintro e V ⟨rfl, hv⟩
    obtain rfl : U1 = V := hv.symm
    clear hv
    clear kX
    obtain ⟨XV, hXV⟩ : ∃ z, xorF 0 (sb A) = z := ⟨_, rfl⟩
    rw [hXV] at hop ⊢
    clear hXV
    by_cases bx : DV = XV
    case neg =>
      rw [decide_eq_false bx] at hop
      have e := hid (hsm2.out hfp.out hop)
      have q : ((DV : Int) != (XV : Int)) = true := by simp; omega
      clear hop hsm2 hok2
      have y0 := held_cell rP 0 _ rfl
      have y1 := held_cell rP 1 _ rfl
      have y2 := held_cell rP 2 _ rfl
      have f0 := held_free rP 0
      have f1 := held_free rP 1
      have f2 := held_free rP 2
      obtain ⟨W9, hW9, ya, yO⟩ := st3 rP (.string ⟨#[]⟩) (.string ⟨#[]⟩) (.slice none 0 0)
      have ez0 := held_cell ya 0 _ rfl
      have ez1 := held_cell ya 1 _ rfl
      have ez2 := held_cell ya 2 _ rfl
      have hB9 := hid (belowS hB.out yO np)
      replace bx := hid bx
      clear yO ya
      go_wp2_with fail
      refine bodyPost_ret (v := .tuple #[.agg #[.string ⟨#[]⟩, .string ⟨#[]⟩, .slice none 0 0], .int .i64 0, .int .i64 4]) (by simp [results, Try.results13, go_sem, ez0, ez1, ez2]) rfl ?_
      rw [e.out]
      exact snOk_no 4 hB9.out
    rw [decide_eq_true bx] at hop
    have e := hok2.out hfp.out hop
    rw [hopz.out hop, hofs2.out] at e
    replace e := hid e
    have q : ((DV : Int) != (XV : Int)) = false := by simp; omega
    replace bx := hid bx
    clear hop hsm2 hok2 hopz
    obtain ⟨FL, hFL⟩ : ∃ l, fieldsR A = l := ⟨_, rfl⟩
    rw [hFL] at kF e
    clear hFL
    go_upto_region 19 with (fail)
    have rQ := (show U1.drew.heap[p0_0]? = _ from rP)
    have hBq := hid hB.out.drew
    clear rP hB
    refine wp_region_T none 11 (by kernel_rfl) ?_
    refine wpAnyT_take 0 rfl (by kernel_rfl) (by kernel_rfl) (by kernel_rfl) (by kernel_rfl) (fun _ _ _ _ h => h) ⟨_, Or.inl ⟨by rfl, fun w2 hb2 => by (go_simp; try with_reducible rfl)⟩, _, by (go_simp; try rfl), ?_⟩
    refine wpAnyT_take 1 rfl (by kernel_rfl) (by kernel_rfl) (by kernel_rfl) (by kernel_rfl) (fun _ _ _ _ h => h) ⟨_, Or.inl ⟨by rfl, fun w2 hb2 => by (go_simp; try with_reducible rfl)⟩, _, by (go_simp; try rfl), ?_⟩
    refine wpAnyT_take 2 rfl (by kernel_rfl) (by kernel_rfl) (by kernel_rfl) (by kernel_rfl) (fun _ _ _ _ h => h) ⟨_, Or.inl ⟨by rfl, fun w2 hb2 => by (go_simp; try with_reducible rfl)⟩, _, by (go_simp; try rfl), ?_⟩
    refine wpAnyT_take 3 rfl (by kernel_rfl) (by kernel_rfl) (by kernel_rfl) (by kernel_rfl) (fun _ _ _ _ h => h) ⟨_, Or.inl ⟨by rfl, fun w2 hb2 => by (go_simp; try with_reducible rfl)⟩, _, by (go_simp; try rfl), ?_⟩
    refine wpAnyT_take 4 rfl (by kernel_rfl) (by kernel_rfl) (by kernel_rfl) (by kernel_rfl) (fun _ _ _ _ h => h) ⟨_, Or.inl ⟨by rfl, fun w2 hb2 => by (go_simp; try with_reducible rfl)⟩, _, by (go_simp; try rfl), ?_⟩
    refine wpAnyT_take 5 rfl (by kernel_rfl) (by kernel_rfl) (by kernel_rfl) (by kernel_rfl) (fun _ _ _ _ h => h) ⟨_, Or.inl ⟨by rfl, fun w2 hb2 => by (go_simp; try with_reducible rfl)⟩, _, by (go_simp; try rfl), ?_⟩
    refine wpAnyT_take 6 rfl (by kernel_rfl) (by kernel_rfl) (by kernel_rfl) (by kernel_rfl) (fun _ _ _ _ h => h) ⟨_, Or.inl ⟨by rfl, fun w2 hb2 => by (go_simp; try with_reducible rfl)⟩, _, by (go_simp; try rfl), ?_⟩
    refine wpAnyT_takeP 9 rfl (by kernel_rfl) (by kernel_rfl) (by kernel_rfl) (fun _ _ _ _ h => h) ⟨_, Or.inl ⟨by rfl, fun w2 _ => by (go_simp; try with_reducible rfl)⟩, _, by (go_simp; try rfl), ?_⟩
    refine wpAnyT_takeP 10 rfl (by kernel_rfl) (by kernel_rfl) (by kernel_rfl) (fun _ _ _ _ h => h) ⟨_, Or.inl ⟨by rfl, fun w2 _ => by (go_simp; try with_reducible rfl)⟩, _, by (go_simp; try rfl), ?_⟩
    refine wpAnyT_only 7 rfl (by kernel_rfl) (by rfl) (fun K hK => ?_)
    go_simp
    refine (kF.out _).mono ?_
    rintro e7 V5 ⟨fa, fc, rfl, hO, hA⟩
    obtain ⟨m, hm⟩ : ∃ m, FL.length = m := ⟨_, rfl⟩
    rw [hm] at hO ⊢
    replace hm := hid hm
    have rP5 := held_after hA rQ
    have hB5 := hid (bthen hBq.out hA)
    have hO5 := hid hO
    clear hO
    go_simp
    refine hK _ _ ⟨fun _ => rx_after hA, ?_⟩
    clear hK
    clear hA
    refine wpAnyT_take 8 rfl (by kernel_rfl) (by kernel_rfl) (by kernel_rfl) (by kernel_rfl) (fun _ _ _ _ h => h) ⟨_, Or.inl ⟨by rfl, fun w2 hb2 => by (go_simp; try with_reducible rfl)⟩, _, by (go_simp; try rfl), ?_⟩
    refine wpAnyT_only 11 rfl (by kernel_rfl) (by rfl) (fun K hK => ?_)
    have y0 := held_cell rP5 0 _ rfl
    have y1 := held_cell rP5 1 _ rfl
    have y2 := held_cell rP5 2 _ rfl
    have f0 := held_free rP5 0
    have f1 := held_free rP5 1
    have f2 := held_free rP5 2
    obtain ⟨W9, hW9, ya, yO⟩ := st3 rP5 (.string X2) (.string X25) (.slice fa m fc)
    have ez0 := held_cell ya 0 _ rfl
    have ez1 := held_cell ya 1 _ rfl
    have ez2 := held_cell ya 2 _ rfl
    have hB9 := hid (belowS hB5.out yO np)
    have hO9 := hid ((hO5.out.kept (w' := W9) (fun g hg => yO.block g (fun e2 => by subst e2; exact hO5.out.ne rP5 (by decide) hg))).els (by rw [strV_len]; exact hm.out) (strV_m FL))
    go_simp
    refine hK _ _ ⟨fun h => (h rfl).elim, ?_⟩
    clear hK
    refine wpAnyT_takeP 12 rfl (by kernel_rfl) (by kernel_rfl) (by kernel_rfl) (fun _ _ _ _ h => h) ⟨_, Or.inl ⟨by rfl, fun w2 _ => by (go_simp; try with_reducible rfl)⟩, _, by (go_simp; try rfl), ?_⟩
    refine wpAnyT_only 13 rfl (by kernel_rfl) (by rfl) (fun K hK => ?_)
    go_simp
    refine hK _ _ ⟨fun _ => RX.refl _ _, ?_⟩
    clear hK
    refine wpAnyT_done (by kernel_rfl) ?_ _
    clear yO ya
    go_wp2_with fail
    refine bodyPost_ret (v := .tuple #[.agg #[.string X2, .string X25, .slice fa m fc], .int .i64 ((i + 2 : Nat) : Int), .int .i64 0]) (by simp [results, Try.results13, go_sem, ez0, ez1, ez2]) rfl ?_
    rw [e.out]
    exact ⟨fa, fc, by rw [hm.out], by rw [hm.out]; exact hO9.out, hB9.out⟩
  have q5 : (5 : Int) < n := by omega
  have q55 : (n : Int) > 5 := by omega
  have b45 : g = 44 := by omega
  have q44 : ((g : Int) != 44) = false := by simp; omega
  replace b5 := hid b5
  replace b44 := hid b44
  replace b45 := hid b45
  go_wp2_with fail
  refine (ks.out _).mono ?_
  rintro e V ⟨rfl, hv⟩
  obtain rfl : U1 = V := hv.symm
  clear hv
  go_wp2_with fail
  refine (kg.out _).mono ?_
  rintro e V ⟨rfl, hv⟩
  obtain rfl : U1 = V := hv.symm
  clear hv
  rw [bs]
  clear bs ks kg
  go_wp2_with fail
  refine (kU.out _).mono ?_
  rintro e V ⟨rfl, hv⟩
  obtain rfl : U1 = V := hv.symm
  clear hv
  clear kU
  by_cases bu : unhOk D = true
  case neg =>
    have bu2 : unhOk D = false := by simpa using bu
    have e := hid (hfn.out bu2)
    rw [bu2]
    clear bu bu2 hfn hfy hopn hopz
    generalize unhV D = DV at *
    have y0 := held_cell rP 0 _ rfl
    have y1 := held_cell rP 1 _ rfl
    have y2 := held_cell rP 2 _ rfl
    have f0 := held_free rP 0
    have f1 := held_free rP 1
    have f2 := held_free rP 2
    obtain ⟨W9, hW9, ya, yO⟩ := st3 rP (.string ⟨#[]⟩) (.string ⟨#[]⟩) (.slice none 0 0)
    have ez0 := held_cell ya 0 _ rfl
    have ez1 := held_cell ya 1 _ rfl
    have ez2 := held_cell ya 2 _ rfl
    have hB9 := hid (belowS hB.out yO np)
    clear yO ya
    go_wp2_with fail
    refine bodyPost_ret (v := .tuple #[.agg #[.string ⟨#[]⟩, .string ⟨#[]⟩, .slice none 0 0], .int .i64 0, .int .i64 3]) (by simp [results, Try.results13, go_sem, ez0, ez1, ez2]) rfl ?_
    rw [e.out]
    exact snOk_no 3 hB9.out
  have hop := hopn.out bu
  have hfp := hid (hfy.out bu)
  rw [bu]
  clear bu hfn hfy hopn
  obtain ⟨DV, hDV⟩ : ∃ z, unhV D = z := ⟨_, rfl⟩
  rw [hDV] at hop ⊢
  clear hDV
  go_wp2_with fail
  refine (kX.out _).mono ?_
  rintro e V ⟨rfl, hv⟩
  obtain rfl : U1 = V := hv.symm
  clear hv
  clear kX
  obtain ⟨XV, hXV⟩ : ∃ z, xorF 0 (sb A) = z := ⟨_, rfl⟩
  rw [hXV] at hop ⊢
  clear hXV
  by_cases bx : DV = XV
  case neg =>
    rw [decide_eq_false bx] at hop
    have e := hid (hsm2.out hfp.out hop)
    have q : ((DV : Int) != (XV : Int)) = true := by simp; omega
    clear hop hsm2 hok2
    have y0 := held_cell rP 0 _ rfl
    have y1 := held_cell rP 1 _ rfl
    have y2 := held_cell rP 2 _ rfl
    have f0 := held_free rP 0
    have f1 := held_free rP 1
    have f2 := held_free rP 2
    obtain ⟨W9, hW9, ya, yO⟩ := st3 rP (.string ⟨#[]⟩) (.string ⟨#[]⟩) (.slice none 0 0)
    have ez0 := held_cell ya 0 _ rfl
    have ez1 := held_cell ya 1 _ rfl
    have ez2 := held_cell ya 2 _ rfl
    have hB9 := hid (belowS hB.out yO np)
    replace bx := hid bx
    clear yO ya
    go_wp2_with fail
    refine bodyPost_ret (v := .tuple #[.agg #[.string ⟨#[]⟩, .string ⟨#[]⟩, .slice none 0 0], .int .i64 0, .int .i64 4]) (by simp [results, Try.results13, go_sem, ez0, ez1, ez2]) rfl ?_
    rw [e.out]
    exact snOk_no 4 hB9.out
  rw [decide_eq_true bx] at hop
  have e := hok2.out hfp.out hop
  rw [hopz.out hop, hofs2.out] at e
  replace e := hid e
  have q : ((DV : Int) != (XV : Int)) = false := by simp; omega
  replace bx := hid bx
  clear hop hsm2 hok2 hopz
  obtain ⟨FL, hFL⟩ : ∃ l, fieldsR A = l := ⟨_, rfl⟩
  rw [hFL] at kF e
  clear hFL
  go_upto_region 19 with (fail)
  have rQ := (show U1.drew.heap[p0_0]? = _ from rP)
  have hBq := hid hB.out.drew
  clear rP hB
  refine wp_region_T none 11 (by kernel_rfl) ?_
  refine wpAnyT_take 0 rfl (by kernel_rfl) (by kernel_rfl) (by kernel_rfl) (by kernel_rfl) (fun _ _ _ _ h => h) ⟨_, Or.inl ⟨by rfl, fun w2 hb2 => by (go_simp; try with_reducible rfl)⟩, _, by (go_simp; try rfl), ?_⟩
  refine wpAnyT_take 1 rfl (by kernel_rfl) (by kernel_rfl) (by kernel_rfl) (by kernel_rfl) (fun _ _ _ _ h => h) ⟨_, Or.inl ⟨by rfl, fun w2 hb2 => by (go_simp; try with_reducible rfl)⟩, _, by (go_simp; try rfl), ?_⟩
  refine wpAnyT_take 2 rfl (by kernel_rfl) (by kernel_rfl) (by kernel_rfl) (by kernel_rfl) (fun _ _ _ _ h => h) ⟨_, Or.inl ⟨by rfl, fun w2 hb2 => by (go_simp; try with_reducible rfl)⟩, _, by (go_simp; try rfl), ?_⟩
  refine wpAnyT_take 3 rfl (by kernel_rfl) (by kernel_rfl) (by kernel_rfl) (by kernel_rfl) (fun _ _ _ _ h => h) ⟨_, Or.inl ⟨by rfl, fun w2 hb2 => by (go_simp; try with_reducible rfl)⟩, _, by (go_simp; try rfl), ?_⟩
  refine wpAnyT_take 4 rfl (by kernel_rfl) (by kernel_rfl) (by kernel_rfl) (by kernel_rfl) (fun _ _ _ _ h => h) ⟨_, Or.inl ⟨by rfl, fun w2 hb2 => by (go_simp; try with_reducible rfl)⟩, _, by (go_simp; try rfl), ?_⟩
  refine wpAnyT_take 5 rfl (by kernel_rfl) (by kernel_rfl) (by kernel_rfl) (by kernel_rfl) (fun _ _ _ _ h => h) ⟨_, Or.inl ⟨by rfl, fun w2 hb2 => by (go_simp; try with_reducible rfl)⟩, _, by (go_simp; try rfl), ?_⟩
  refine wpAnyT_take 6 rfl (by kernel_rfl) (by kernel_rfl) (by kernel_rfl) (by kernel_rfl) (fun _ _ _ _ h => h) ⟨_, Or.inl ⟨by rfl, fun w2 hb2 => by (go_simp; try with_reducible rfl)⟩, _, by (go_simp; try rfl), ?_⟩
  refine wpAnyT_takeP 9 rfl (by kernel_rfl) (by kernel_rfl) (by kernel_rfl) (fun _ _ _ _ h => h) ⟨_, Or.inl ⟨by rfl, fun w2 _ => by (go_simp; try with_reducible rfl)⟩, _, by (go_simp; try rfl), ?_⟩
  refine wpAnyT_takeP 10 rfl (by kernel_rfl) (by kernel_rfl) (by kernel_rfl) (fun _ _ _ _ h => h) ⟨_, Or.inl ⟨by rfl, fun w2 _ => by (go_simp; try with_reducible rfl)⟩, _, by (go_simp; try rfl), ?_⟩
  refine wpAnyT_only 7 rfl (by kernel_rfl) (by rfl) (fun K hK => ?_)
  go_simp
  refine (kF.out _).mono ?_
  rintro e7 V5 ⟨fa, fc, rfl, hO, hA⟩
  obtain ⟨m, hm⟩ : ∃ m, FL.length = m := ⟨_, rfl⟩
  rw [hm] at hO ⊢
  replace hm := hid hm
  have rP5 := held_after hA rQ
  have hB5 := hid (bthen hBq.out hA)
  have hO5 := hid hO
  clear hO
  go_simp
  refine hK _ _ ⟨fun _ => rx_after hA, ?_⟩
  clear hK
  clear hA
  refine wpAnyT_take 8 rfl (by kernel_rfl) (by kernel_rfl) (by kernel_rfl) (by kernel_rfl) (fun _ _ _ _ h => h) ⟨_, Or.inl ⟨by rfl, fun w2 hb2 => by (go_simp; try with_reducible rfl)⟩, _, by (go_simp; try rfl), ?_⟩
  refine wpAnyT_only 11 rfl (by kernel_rfl) (by rfl) (fun K hK => ?_)
  have y0 := held_cell rP5 0 _ rfl
  have y1 := held_cell rP5 1 _ rfl
  have y2 := held_cell rP5 2 _ rfl
  have f0 := held_free rP5 0
  have f1 := held_free rP5 1
  have f2 := held_free rP5 2
  obtain ⟨W9, hW9, ya, yO⟩ := st3 rP5 (.string X2) (.string X25) (.slice fa m fc)
  have ez0 := held_cell ya 0 _ rfl
  have ez1 := held_cell ya 1 _ rfl
  have ez2 := held_cell ya 2 _ rfl
  have hB9 := hid (belowS hB5.out yO np)
  have hO9 := hid ((hO5.out.kept (w' := W9) (fun g hg => yO.block g (fun e2 => by subst e2; exact hO5.out.ne rP5 (by decide) hg))).els (by rw [strV_len]; exact hm.out) (strV_m FL))
  go_simp
  refine hK _ _ ⟨fun h => (h rfl).elim, ?_⟩
  clear hK
  refine wpAnyT_takeP 12 rfl (by kernel_rfl) (by kernel_rfl) (by kernel_rfl) (fun _ _ _ _ h => h) ⟨_, Or.inl ⟨by rfl, fun w2 _ => by (go_simp; try with_reducible rfl)⟩, _, by (go_simp; try rfl), ?_⟩
  refine wpAnyT_only 13 rfl (by kernel_rfl) (by rfl) (fun K hK => ?_)
  go_simp
  refine hK _ _ ⟨fun _ => RX.refl _ _, ?_⟩
  clear hK
  refine wpAnyT_done (by kernel_rfl) ?_ _
  clear yO ya
  go_wp2_with fail
  refine bodyPost_ret (v := .tuple #[.agg #[.string X2, .string X25, .slice fa m fc], .int .i64 ((i + 2 : Nat) : Int), .int .i64 0]) (by simp [results, Try.results13, go_sem, ez0, ez1, ez2]) rfl ?_
  rw [e.out]
  exact ⟨fa, fc, by rw [hm.out], by rw [hm.out]; exact hO9.out, hB9.out⟩

end Go.Proofs.Ytookhpmpngacjaa
