/- Package sentence: what stands between commas; whether a sentence has its form. -/
import Derived.Test.YtookhpmpngacjaaSen4
import Derived.WalkMore
import Derived.Deep.DeepCutAuto
namespace Go.Proofs.Ytookhpmpngacjaa
open Go.ChangeShapes Go.WideShapes Go.ChangeAt Go.RowKit
set_option linter.unusedVariables false
set_option linter.unusedSimpArgs false

def FsOk (w : World) (F : List ByteArray) (e : Ending) (w' : World) : Prop := ∃ (a : Option Addr) (cap : Nat), e = .returned (.slice a F.length cap) ∧ OwnE 9 w' w.heap.size 1 (.slice a F.length cap) F.length (strV F).flatten ∧ After w w'
theorem strO : CellsOf Try.prog 22 9 1 16 := ⟨Try.underlying22, by kernel_rfl⟩
theorem strC_one (f : ByteArray) : ∀ y ∈ [strC f], ∀ u ∈ y, u.oneCell' = true := by
  intro y hy u hu
  rw [List.mem_singleton] at hy; subst hy
  simp [strC] at hu
  subst hu; rfl
theorem strV_snoc (F : List ByteArray) (f : ByteArray) : (strV (F ++ [f])).flatten = (strV F).flatten ++ [strC f].flatten := by simp [strV]
theorem strV_snoc2 (F : List ByteArray) (f : ByteArray) : (strV (F ++ [f])).flatten = (strV F).flatten ++ strC f := by simp [strV]
theorem els_blkS {w : World} {cs : Array Value} {E : TypeId} {p m : Nat} (h : w.heap[p]? = some (.cells cs E (0, 0))) (hm : cs.size = m) : Els w m (some ⟨p, 0, none⟩) 1 1 [cs.toList] := by
  refine ⟨rfl, Nat.le_refl _, by unfold maxLen; omega, (fun e => by cases e), fun i x hx => ?_⟩
  obtain rfl : i = 0 := by
    have := (List.getElem?_eq_some_iff.1 hx).1
    simp at this; exact this
  simp at hx
  subst hx
  refine ⟨by simpa using hm, _, 0, rfl, fun j v hj => ?_⟩
  rw [Nat.zero_mul, Nat.add_zero, Nat.zero_add]
  exact held_cell h j v (by simpa using hj)
theorem iter_grown {E : TypeId} {w w' : World} {b base m n pos : Nat} {s : ByteArray} {v : Value} {xs : List Value} (h : Iter w b s pos) (hO : OwnE E w base m v n xs) (hG : w.grownBy w' v.ownBlock) : Iter w' b s pos := by
  refine (hG.block b h.lt (fun e => ?_)).trans h
  obtain ⟨_, _, cur, hc⟩ := hO.lt b e.symm
  unfold Iter at h
  rw [hc] at h; cases h
theorem own_it {E : TypeId} {w : World} {b base m n pos : Nat} {s : ByteArray} {v : Value} {xs : List Value} (hO : OwnE E w base m v n xs) (h : Iter w b s pos) (p : Nat) : OwnE E (itAt w b s p) base m v n xs :=
  hO.kept fun g hg => by
    obtain ⟨_, _, cur, hc⟩ := hO.lt g hg
    have hne : g ≠ b := fun e => by subst e; unfold Iter at h; rw [hc] at h; cases h
    unfold itAt
    simp only [Array.getElem?_setIfInBounds]
    rw [if_neg (fun e => hne e.symm)]
set_option maxRecDepth 100000 in
set_option maxHeartbeats 8000000 in
theorem sfields_any (s : ByteArray) (w : World) (hb : s.size ≤ 1000) (h7 : ∀ c ∈ sb s, c < 128) : Calls Try.prog 26 #[.string s] w (FsOk w (fieldsN s)) := by
  have hsl := hid (sb_len s)
  obtain ⟨N, hN⟩ : ∃ N, s.size = N := ⟨_, rfl⟩
  have hNs : (s.size : Int) = (N : Int) := by omega
  have hfd := hid (show fieldsN s = (cutS s N).2 ++ [s.extract (cutS s N).1 N] by unfold fieldsN; rw [hN])
  rw [hN] at hb
  replace hN := hid hN
  replace h7 := hid h7
  go_enter Try.func26, Try.ntmps26
  go_wp2_with fail
  go_step3
  go_wp2_with fail
  try go_step3
  go_wp2_with fail
  go_loopw [3, 4, 5, 6] (fun lv fv iv cv wr => ∃ (k m : Nat) (oa : Option Addr) (oc fr : Nat) (l : List ByteArray), k ≤ N ∧ lv = .slice oa m oc ∧ fv = .int .i64 fr ∧ Hid (cutS s k = (fr, l)) ∧ Hid (l.length = m) ∧ fr ≤ k ∧ m ≤ k ∧ OwnE 9 wr w.heap.size 1 (.slice oa m oc) m (strV l).flatten ∧ Iter wr w.heap.size s k ∧ After w wr) (fun _ _ _ _ wr => N - wr.iterPos w.heap.size)
  case atStart => exact ⟨0, 0, none, 0, 0, [], by omega, rfl, rfl, hid rfl, hid rfl, by omega, by omega, OwnE.nil _ _ _ _, Iter.made w _, biter (Below.refl _ _) (Nat.le_refl _) _ _⟩
  case round =>
    obtain ⟨k, m, oa, oc, fr, l, hk, rfl, rfl, hcs, hlm, hfr, hmk, hO, hit, hA⟩ := hrel
    have hpos := hid hit.pos
    by_cases hlt : k < N
    case neg =>
      obtain rfl : k = N := by omega
      have hE := hid (show fieldsN s = l ++ [s.extract fr k] by rw [hfd.out, hcs.out])
      have hnx := fun ty => hit.stop (P := Try.prog) (by rw [hN.out]; omega) ty
      have hss := fun W => strfrom 9 Try.underlying9 s fr (by rw [hN.out]; omega) .i64 fr rfl W
      rw [hN.out] at hss
      obtain ⟨P, hP⟩ : ∃ P, s.extract fr k = P := ⟨_, rfl⟩
      rw [hP] at hE hss
      clear hP hit
      have nC := alloc_new wr (.cells #[.string P] 9)
      have hEf : Els (wr.alloc (.cells #[.string P] 9)) 1 (some ⟨wr.heap.size, 0, none⟩) 1 1 [strC P] := els_blkS (m := 1) nC.2.2 rfl
      have hO2 := hid (hO.below nC.2.1)
      have hB4 := bthen hA nC.2.1
      obtain ⟨W4, hW4⟩ : ∃ X, wr.alloc (.cells #[.string P] 9) = X := ⟨_, rfl⟩
      rw [hW4] at hEf hO2 hB4
      obtain ⟨pc, hpc⟩ : ∃ X, wr.heap.size = X := ⟨_, rfl⟩
      rw [hpc] at hEf
      replace hEf := hid hEf
      have s4 := hB4.size
      clear nC hO hA
      go_wp2_with (first | (at_builtin; refine wpList_appE rfl (.tmp 24) (.tmp 28) 22 rfl w.heap.size 9 1 16 strO (by decide) (.slice oa m oc) m (strV l).flatten rfl hO2.out (some ⟨pc, 0, none⟩) 1 1 [strC P] rfl hEf.out (strC_one _) (by unfold maxLen; omega) (by omega) s4 ?_))
      intro a9 c9 W9 hO9 hG hN
      first | rw [← strV_snoc] at hO9 | rw [← strV_snoc2] at hO9
      replace hO9 := hid hO9
      have hB9 := hid (hB4.grown hG s4 (fun g e => (hO2.out.lt g e).1))
      have hl9 := hid (show (l ++ [P]).length = m + 1 by rw [List.length_append, hlm.out]; rfl)
      clear hG hN hO2 hEf hB4
      go_wp2_with fail
      try rw [Exit.noGoto_ret]
      refine bodyPost_ret (v := .slice a9 (m + 1) c9) (by simp [results, Try.results26, go_sem]) rfl ?_
      rw [hE.out]
      exact ⟨a9, c9, by rw [hl9.out], by rw [hl9.out]; exact hO9.out, hB9.out⟩
    have hks : k < s.size := by rw [hN.out]; exact hlt
    obtain ⟨c, hc⟩ : ∃ c, (sb s).getD k 0 = c := ⟨_, rfl⟩
    have hc7 := h7.out c (by rw [← hc, List.getD_eq_getElem?_getD, List.getElem?_eq_getElem (show k < (sb s).length by rw [hsl.out]; exact hks)]; exact List.getElem_mem _)
    have hcy := hid (fun h => cutS_yes (s := s) hc h)
    have hcn := hid (fun h => cutS_no (s := s) hc h)
    have hnx := fun ty => hit.nextA (P := Try.prog) hks _ hc hc7 ty
    have hit2 := hit.seen (k + 1)
    have hbl2 := bseen hA (Nat.le_refl _) s (k + 1)
    have hOi := own_it hO hit (k + 1)
    have hpos2 := hid hit2.pos
    clear hit hc hO hA
    by_cases h44 : c = 44
    case neg =>
      have q : ((c : Int) != 44) = true := by simp; omega
      have hcs2 := hid (show cutS s (k + 1) = (fr, l) by rw [hcn.out h44]; exact hcs.out)
      have hk1 := hid (show k + 1 ≤ N by omega)
      have hms := hid (show N - (k + 1) < N - k by omega)
      clear hcy hcn
      replace h44 := hid h44
      replace hOi := hid hOi
      replace hbl2 := hid hbl2
      replace hit2 := hid hit2
      go_wp2_with fail
      go_roundw
      case rel => exact ⟨k + 1, m, oa, oc, fr, l, hk1.out, rfl, rfl, hcs2, hlm, by omega, by omega, hOi.out, hit2.out, hbl2.out⟩
      case measure => rw [hpos.out, hpos2.out]; exact hms.out
    have q : ((c : Int) != 44) = false := by simp; omega
    have hcs2 := hid (show cutS s (k + 1) = (k + 1, l ++ [s.extract fr k]) by rw [hcy.out h44, hcs.out])
    have hk1 := hid (show k + 1 ≤ N by omega)
    have hms := hid (show N - (k + 1) < N - k by omega)
    have kz : (0 : Int) ≤ k := by omega
    have wk : IntKind.i64.wrap ((k : Int) + 1) = ((k + 1 : Nat) : Int) := by rw [IntKind.wrap_i64]; omega
    have hss := fun W => strslice (P := Try.prog) 9 Try.underlying9 s fr k hfr (by omega) .i64 .i64 fr k rfl rfl W
    obtain ⟨P, hP⟩ : ∃ P, s.extract fr k = P := ⟨_, rfl⟩
    rw [hP] at hcs2 hss
    clear hcy hcn hP
    replace h44 := hid h44
    obtain ⟨U, hU⟩ : ∃ X, itAt wr w.heap.size s (k + 1) = X := ⟨_, rfl⟩
    rw [hU] at hnx hit2 hbl2 hOi
    have hps : wr.iterPos w.heap.size = k := hpos.out
    clear hU hpos2
    have nC := alloc_new U (.cells #[.string P] 9)
    have hEf : Els (U.alloc (.cells #[.string P] 9)) 1 (some ⟨U.heap.size, 0, none⟩) 1 1 [strC P] := els_blkS (m := 1) nC.2.2 rfl
    have hO2 := hid (hOi.below nC.2.1)
    have hB4 := bthen hbl2 nC.2.1
    have hit4 := hit2.below nC.2.1
    obtain ⟨W4, hW4⟩ : ∃ X, U.alloc (.cells #[.string P] 9) = X := ⟨_, rfl⟩
    rw [hW4] at hEf hO2 hB4 hit4
    obtain ⟨pc, hpc⟩ : ∃ X, U.heap.size = X := ⟨_, rfl⟩
    rw [hpc] at hEf
    replace hEf := hid hEf
    have s4 := hB4.size
    clear nC hOi hbl2 hit2
    go_wp2_with (first | (at_builtin; refine wpList_appE rfl (.tmp 15) (.tmp 20) 22 rfl w.heap.size 9 1 16 strO (by decide) (.slice oa m oc) m (strV l).flatten rfl hO2.out (some ⟨pc, 0, none⟩) 1 1 [strC P] rfl hEf.out (strC_one _) (by unfold maxLen; omega) (by omega) s4 ?_))
    intro a9 c9 W9 hO9 hG hN
    first | rw [← strV_snoc] at hO9 | rw [← strV_snoc2] at hO9
    have hit3 := iter_grown hit4 hO2.out hG
    have hpos3 := hid hit3.pos
    replace hit3 := hid hit3
    replace hO9 := hid hO9
    have hB9 := hid (hB4.grown hG s4 (fun g e => (hO2.out.lt g e).1))
    have hl9 := hid (show (l ++ [P]).length = m + 1 by rw [List.length_append, hlm.out]; rfl)
    clear hG hN hO2 hEf hB4 hit4
    go_wp2_with fail
    go_roundw
    case rel => exact ⟨k + 1, m + 1, a9, c9, k + 1, l ++ [P], hk1.out, rfl, rfl, hcs2, hl9, by omega, by omega, hO9.out, hit3.out, hB9.out⟩
    case measure => rw [hps, hpos3.out]; exact hms.out
set_option maxRecDepth 100000 in
set_option maxHeartbeats 16000000 in
theorem formed_any (s : ByteArray) (w : World) (hb : s.size ≤ 100000) : Calls Try.prog 24 #[.string s] w fun e w' => e = .returned (.bool (decide (formP s))) ∧ After w w' := by
  obtain ⟨N, hN⟩ : ∃ N, s.size = N := ⟨_, rfl⟩
  have hNs : (s.size : Int) = (N : Int) := by omega
  by_cases h8 : N < 8
  case pos =>
    have hf := hid (show decide (formP s) = false from decide_eq_false (fun h => by have := h.1; omega))
    have w1 : IntKind.i64.wrap ((N : Int) - 3) = (N : Int) - 3 := by rw [IntKind.wrap_i64]; omega
    have q : (N : Int) - 3 < 5 := by omega
    clear h8 hN hb
    go_enter Try.func24, Try.ntmps24
    go_wp2_with fail
    go_ret
    exact ⟨by rw [hf.out]; rfl, Below.refl _ _⟩
  obtain ⟨n, hn⟩ : ∃ n, N = n + 3 := ⟨N - 3, by omega⟩
  subst hn
  have hP : formP s ↔ ((sb s).getD n 0 = 42 ∧ unhOk (s.extract (n + 1) (n + 3)) = true ∧ signsS (s.extract 0 5) 5 = true ∧ (sb (s.extract 5 n)).all letN = true ∧ (n = 5 ∨ (sb s).getD 5 0 = 44)) := by
    unfold formP
    rw [hN, show n + 3 - 3 = n by omega, show n + 3 - 2 = n + 1 by omega]
    constructor
    · rintro ⟨_, a, b, c, d, e⟩; exact ⟨a, b, c, d, by omega⟩
    · rintro ⟨a, b, c, d, e⟩; exact ⟨by omega, a, b, c, d, by omega⟩
  have h5 : 5 ≤ n := by omega
  obtain ⟨c, hc⟩ : ∃ c, (sb s).getD n 0 = c := ⟨_, rfl⟩
  obtain ⟨d, hd⟩ : ∃ c, (sb s).getD 5 0 = c := ⟨_, rfl⟩
  have i1 := fun W => sidx 9 Try.underlying9 s n c (by omega) hc .i64 n rfl W
  have i2 := fun W => sidx 9 Try.underlying9 s 5 d (by omega) hd .i64 5 rfl W
  have f1 := fun W => strfrom 9 Try.underlying9 s (n + 1) (by omega) .i64 ((n + 1 : Nat) : Int) rfl W
  have f2 := fun W => strto 9 Try.underlying9 s 5 (by omega) .i64 5 rfl W
  have f3 := fun W => strslice (P := Try.prog) 9 Try.underlying9 s 5 n h5 (by omega) .i64 .i64 5 n rfl rfl W
  rw [hN] at f1
  have z1 : (s.extract (n + 1) (n + 3)).size ≤ 100000 := by rw [ByteArray.size_extract]; omega
  have z2 : (s.extract 0 5).size ≤ 100000 := by rw [ByteArray.size_extract]; omega
  have z3 : (s.extract 5 n).size ≤ 100000 := by rw [ByteArray.size_extract]; omega
  rw [hc, hd] at hP
  obtain ⟨X1, hX1⟩ : ∃ X, s.extract (n + 1) (n + 3) = X := ⟨_, rfl⟩
  obtain ⟨X2, hX2⟩ : ∃ X, s.extract 0 5 = X := ⟨_, rfl⟩
  obtain ⟨X3, hX3⟩ : ∃ X, s.extract 5 n = X := ⟨_, rfl⟩
  rw [hX1] at hP f1 z1
  rw [hX2] at hP f2 z2
  rw [hX3] at hP f3 z3
  have w1 : IntKind.i64.wrap (((n + 3 : Nat) : Int) - 3) = (n : Int) := by rw [IntKind.wrap_i64]; omega
  have w2 : IntKind.i64.wrap ((n : Int) + 1) = ((n + 1 : Nat) : Int) := by rw [IntKind.wrap_i64]; omega
  have q5 : ¬ (n : Int) < 5 := by omega
  obtain ⟨N, hNe⟩ : ∃ N, n + 3 = N := ⟨_, rfl⟩
  rw [hNe] at hNs w1
  obtain ⟨n1, hn1⟩ : ∃ N, n + 1 = N := ⟨_, rfl⟩
  rw [hn1] at f1 w2
  have hbn := hid (show n ≤ 100000 by omega)
  clear h8 hN hb hX1 hX2 hX3 hc hd hNe hn1
  replace hP := hid hP
  by_cases c42 : c = 42
  case neg =>
    have q : ((c : Int) != 42) = true := by simp; omega
    have hf := hid (show decide (formP s) = false from decide_eq_false (fun h => c42 (hP.out.1 h).1))
    replace c42 := hid c42
    go_enter Try.func24, Try.ntmps24
    go_wp2_with fail
    go_ret
    exact ⟨by rw [hf.out]; rfl, Below.refl _ _⟩
  have q : ((c : Int) != 42) = false := by simp; omega
  go_enter Try.func24, Try.ntmps24
  go_wp2_with fail
  refine (parUnhex_any X1 _ z1).mono ?_
  rintro e V1 ⟨rfl, hA1⟩
  by_cases u : unhOk X1 = true
  case neg =>
    have u2 : unhOk X1 = false := by simpa using u
    have hf := hid (show decide (formP s) = false from decide_eq_false (fun h => u (hP.out.1 h).2.1))
    rw [u2]
    clear u u2
    go_wp2_with fail
    go_ret
    exact ⟨by rw [hf.out]; rfl, hA1⟩
  rw [u]
  replace u := hid u
  replace c42 := hid c42
  go_wp2_with fail
  refine (are_sign X2 5 _ z2 (by omega)).mono ?_
  rintro e V2 ⟨rfl, hA2⟩
  have hA3 := hid (bthen hA1 hA2)
  clear hA1 hA2
  by_cases v : signsS X2 5 = true
  case neg =>
    have v2 : signsS X2 5 = false := by simpa using v
    have hf := hid (show decide (formP s) = false from decide_eq_false (fun h => v (hP.out.1 h).2.2.1))
    rw [v2]
    clear v v2
    go_wp2_with fail
    go_ret
    exact ⟨by rw [hf.out]; rfl, hA3.out⟩
  rw [v]
  replace v := hid v
  go_wp2_with fail
  refine (all_letter X3 _ z3).mono ?_
  rintro e V3 ⟨rfl, hA4⟩
  have hA5 := hid (bthen hA3.out hA4)
  clear hA4 hA3
  by_cases l : (sb X3).all letN = true
  case neg =>
    have l2 : (sb X3).all letN = false := by simpa using l
    have hf := hid (show decide (formP s) = false from decide_eq_false (fun h => l (hP.out.1 h).2.2.2.1))
    rw [l2]
    clear l l2
    go_wp2_with fail
    go_ret
    exact ⟨by rw [hf.out]; rfl, hA5.out⟩
  rw [l]
  replace l := hid l
  by_cases n5 : n = 5
  case pos =>
    have hf := hid (show decide (formP s) = true from decide_eq_true (hP.out.2 ⟨c42.out, u.out, v.out, l.out, .inl n5⟩))
    have q2 : ((n : Int) == 5) = true := by simp; omega
    replace n5 := hid n5
    go_wp2_with fail
    go_ret
    exact ⟨by rw [hf.out]; rfl, hA5.out⟩
  have q2 : ((n : Int) == 5) = false := by simp; omega
  by_cases d44 : d = 44
  case pos =>
    have hf := hid (show decide (formP s) = true from decide_eq_true (hP.out.2 ⟨c42.out, u.out, v.out, l.out, .inr d44⟩))
    have q3 : ((d : Int) == 44) = true := by simp; omega
    replace n5 := hid n5
    replace d44 := hid d44
    go_wp2_with fail
    go_ret
    exact ⟨by rw [hf.out]; rfl, hA5.out⟩
  have hf := hid (show decide (formP s) = false from decide_eq_false (fun h => by rcases (hP.out.1 h).2.2.2.2 with e | e; exact n5 e; exact d44 e))
  have q3 : ((d : Int) == 44) = false := by simp; omega
  replace n5 := hid n5
  replace d44 := hid d44
  go_wp2_with fail
  go_ret
  exact ⟨by rw [hf.out]; rfl, hA5.out⟩

end Go.Proofs.Ytookhpmpngacjaa
