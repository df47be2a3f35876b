/- Package frame: Take. -/
import Derived.Test.YtjmmboijpkfllaaFrame2
import Derived.Test.YtjmmboijpkfllaaKA
import Derived.Test.YtjmmboijpkfllaaKB
import Derived.Laws.StructEq
import Derived.Deep.DeepCutAuto
namespace Go.Proofs.Ytjmmboijpkfllaa
open Go.ChangeShapes Go.WideShapes Go.ChangeAt Go.RowKit
set_option linter.unusedVariables false

/-- The frame that bytes begin with, how many they are, or why there is none. -/
def takFr (b : List Int) : (Int × Int × List Int) × Int × Int :=
  if b.getD 0 181 ≠ 181 ∨ b.getD 1 98 ≠ 98 then ((0, 0, []), 0, 3)
  else if b.length < 6 then ((0, 0, []), 0, 2)
  else if 1016 < b.getD 4 0 + 256 * b.getD 5 0 then ((0, 0, []), 0, 7)
  else if (b.length : Int) < b.getD 4 0 + 256 * b.getD 5 0 + 8 then ((0, 0, []), 0, 2)
  else if sealS ((b.drop 2).take ((b.getD 4 0 + 256 * b.getD 5 0).toNat + 4)) = (b.drop 2).take ((b.getD 4 0 + 256 * b.getD 5 0).toNat + 6) then ((b.getD 2 0, b.getD 3 0, (b.drop 6).take (b.getD 4 0 + 256 * b.getD 5 0).toNat), b.getD 4 0 + 256 * b.getD 5 0 + 8, 0)
  else ((0, 0, []), 0, 4)
def FtOk (w : World) (r : (Int × Int × List Int) × Int × Int) (e : Ending) (w' : World) : Prop := ∃ a cap, e = .returned (.tuple #[.agg #[.int .i64 r.1.1, .int .i64 r.1.2.1, .slice a r.1.2.2.length cap], .int .i64 r.2.1, .int .i64 r.2.2]) ∧ Sl .u8 w' a r.1.2.2.length cap r.1.2.2 ∧ After w w'
theorem mark_eq (x0 x1 y0 y1 : Int) (w : World) : (Op.equalIn 10000 45 (.agg #[.int .u8 x0, .int .u8 x1]) (.agg #[.int .u8 y0, .int .u8 y1])).run Try.prog w = .ok (x0 == y0 && x1 == y1) w := by
  have ht := Try.underlying45
  have he := Try.underlying5
  have hsz : ∀ w, (sizeOf 5).run Try.prog w = .ok 1 w := by
    intro w
    obtain ⟨i, hi, _, hs, _⟩ := u8info
    simp [sizeOf, typeInfo, hi, hs]
  have px : ∀ a b : Int, (part 5 #[.int .u8 a, .int .u8 b] 0).run Try.prog w = .ok (.int .u8 a) w := by intro a b; simp [part, isAgg, run_underlying he]
  have py : ∀ a b : Int, (part 5 #[.int .u8 a, .int .u8 b] 1).run Try.prog w = .ok (.int .u8 b) w := by intro a b; simp [part, isAgg, run_underlying he]
  have pe : ∀ a b : Int, (Op.equalIn 9999 5 (.int .u8 a) (.int .u8 b)).run Try.prog w = .ok (a == b) w := fun a b => run_equalIn_int w 9998 5 .u8 .u8 a b he
  rw [show (10000 : Nat) = 9999 + 1 from rfl, Op.equalIn]
  simp only [Sem.run_bind, run_underlying ht, Result.andThen_ok, hsz, Std.Legacy.Range.forIn_eq_forIn_range', Std.Legacy.Range.size, Nat.sub_zero, Nat.add_sub_cancel, Nat.div_one]
  rw [show List.range' 0 2 1 = [0, 1] from rfl]
  simp only [List.forIn_cons, List.forIn_nil, Sem.run_bind, Nat.mul_one, px, pe, Result.andThen_ok]
  cases h0 : (x0 == y0)
  · simp
  · cases h1 : (x1 == y1) <;> simp [py, pe, h1]
theorem wpList_copyT {P : Program} (w : World) {ops : Array Oper} {rest : List Oper} {o : Oper} {a : Act} {Q : Exit → Act → World → Prop} (hgd : o.guard = none) (d s : Operand) (t : TypeId)
    (ho : o.op = .call { callee := .builtin .copy, args := #[d, s], argTypes := #[t, t] }) (T E : TypeId) (k : IntKind) (b : Nat) (hT : IntsOf P t E k b)
    (g off dLen dCap : Nat) (zs : List Int) (hrow : Row k T w g zs) (hd : a.eval d = .slice (some ⟨g, off, none⟩) dLen dCap) (hfit : off + dLen ≤ zs.length)
    (ad : Option Addr) (len cap : Nat) (ys : List Int) (hs : a.eval s = .slice ad len cap) (hsl : Sl k w ad len cap ys)
    (h : ∀ w', Row k T w' g (laid zs off (ys.take dLen)) → Only g w w' → wpList P ops Q rest (a.put o.dst (goInt (ys.take dLen).length)) w') : wpList P ops Q (o :: rest) a w :=
  wpList_plain hgd fun _ hK => wp_copyI d s t ho T E k b hT g off dLen dCap zs hrow hd hfit ad len cap ys hs hsl fun w' h1 h2 => hK _ _ (h w' h1 h2)
theorem no_u8 {a b : Int} {v : Value} (hv : ∀ x, v ≠ .int .u8 x) (i : Nat) (x : Int) : (#[.int .i64 a, .int .i64 b, v] : Array Value)[i]? ≠ some (.int .u8 x) := by
  rcases i with _ | _ | _ | i
  · simp
  · simp
  · simpa using hv x
  · simp
theorem FtOk.no {w w' : World} {n : Int} (h : After w w') : FtOk w ((0, 0, []), 0, n) (.returned (.tuple #[.agg #[.int .i64 0, .int .i64 0, .slice none 0 0], .int .i64 0, .int .i64 n])) w' := ⟨none, 0, rfl, sl_nil _ _, h⟩
theorem laid2 (b : List Int) : laid [181, 98] 0 (b.take 2) = [b.getD 0 181, b.getD 1 98] := by
  match b with
  | [] => rfl
  | [x] => rfl
  | x :: y :: r => simp [laid]
theorem quad (b : List Int) (h : 6 ≤ b.length) : (b.drop 2).take 4 = [b.getD 2 0, b.getD 3 0, b.getD 4 0, b.getD 5 0] := by
  match b, h with
  | a0 :: a1 :: a2 :: a3 :: a4 :: a5 :: r, _ => simp
theorem nB1 (x : Int) (h : 0 ≤ x) : ((numB [x] 1 : Nat) : Int) = x := by simp [numB]; omega
theorem nB2 (x y : Int) (h : 0 ≤ x) (h2 : 0 ≤ y) : ((numB [x, y] 2 : Nat) : Int) = x + 256 * y := by simp [numB]; omega
theorem Rdr.lt15 {B : Nat} {w : World} {zs : List Int} (h : Rdr B w zs) : B < w.heap.size := by
  obtain ⟨a, cap, h1, h2⟩ := h
  exact held_lt h1
theorem Rdr.aft {B : Nat} {w w2 : World} {zs : List Int} (h : Rdr B w zs) (hA : After w w2) : Rdr B w2 zs := by
  obtain ⟨a, cap, h1, h2⟩ := h
  exact ⟨a, cap, held_after hA h1, h2.below hA⟩
theorem ru_r (B B0 : Nat) (zs : List Int) (n : Nat) (n1 : 1 ≤ n) (n8 : n ≤ 8) (hn : n ≤ zs.length) (w : World) (hR : Rdr B w zs) (hz : ∀ x ∈ zs, (Lit.int .u8 x).wf = true) (hl : zs.length ≤ 1000000) (h1 : B0 ≤ B) :
    Calls Try.prog 25 #[.pointer (some ⟨B, 0, none⟩), .int .i64 (n : Int)] w fun e w' => e = .returned (.int .u64 ((numB (zs.take n) n : Nat) : Int)) ∧ Rdr B w' (zs.drop n) ∧ Br B B0 w w' := by
  have ho : okU zs false n = true := by unfold okU; simp; omega
  refine (ru_st B B0 zs false n w (by unfold RSt; rw [if_neg (by simp)]; exact hR) hz hl h1).mono ?_
  rintro e w' ⟨rfl, hV, hB⟩
  rw [ho] at hV ⊢
  unfold RSt gotR at hV
  simp only [Bool.not_true, Bool.false_eq_true, if_false, if_true, Int.toNat_natCast] at hV
  exact ⟨by simp, hV, hB⟩
set_option maxRecDepth 100000 in
set_option maxHeartbeats 8000000 in
theorem ftake_any (ba : Option Addr) (bl bc : Nat) (zs : List Int) (w : World) (hsl : Sl .u8 w ba bl bc zs) (hw : ∀ n ∈ zs, (Lit.int .u8 n).wf = true) (hl : bl ≤ 100000) : Calls Try.prog 12 #[.slice ba bl bc] w (FtOk w (takFr zs)) := by
  have ezl := hsl.1
  have hcm := hsl.2.2.1
  unfold maxLen at hcm
  have hlc := hsl.2.1
  have hbd : ∀ i, 0 ≤ zs.getD i 0 ∧ zs.getD i 0 ≤ 255 := fun i => getD_bd (bytes_bd hw) i
  obtain ⟨r, hr⟩ : ∃ r, takFr zs = r := ⟨_, rfl⟩
  rw [hr]
  unfold takFr at hr
  replace hsl := hid hsl
  replace hw := hid hw
  replace ezl := hid ezl
  go_enter Try.func12, Try.ntmps12
  go_upto_region 0 with (fail)
  apply wp_region_seg0 (w := w) (S := [.al 1000, .q [], .q []]) (E := [.al ((fun p => .pointer (some ⟨p, 0, none⟩)), _) 1000, .q0 _, .q0 _]) rfl (by kernel_rfl) rfl rfl
  intro th hge hne
  refine Seg.step _ rfl ⟨by rfl, fun U hU => ?_⟩ ?_
  · go_simp; exact vp_alloc rfl rfl rfl
  refine ⟨_, by (simp only [Ent.val]; go_simp <;> exact rfl), ?_⟩
  refine Seg.step _ rfl (Or.inl ⟨by rfl, fun U hU => vp_quiet (by (go_simp <;> exact rfl))⟩) ⟨_, by (simp only [Ent.val]; go_simp <;> exact rfl), ?_⟩
  refine Seg.step _ rfl (Or.inl ⟨by rfl, fun U hU => vp_quiet (by (go_simp <;> exact rfl))⟩) ⟨_, by (simp only [Ent.val]; go_simp <;> exact rfl), ?_⟩
  refine Seg.stop (fun U1 hU hk => ?_)
  have nb0 := hge 0 _ _ rfl
  have rb0 := (hk 0 _ _ rfl trivial).1.2 (by simp)
  clear hk hge hne
  generalize th (0 + 0) = p0_0 at *
  dsimp only at rb0
  have r_p0_0 := rb0
  clear rb0
  have n_p0_0 := nb0
  clear nb0
  have sz1 := hU.size
  have hB : Below w.heap.size w U1 := hU
  clear hU
  have nP : w.heap.size ≤ p0_0 := n_p0_0
  have hBs := hB.size
  go_wp2_with fail
  refine (begin_any _).mono ?_
  rintro e w1 ⟨rfl, hA1⟩
  have rP := held_after hA1 r_p0_0
  have hB1 := bthen hB hA1
  have nM := alloc_new w1 (.cells #[.int .u8 181, .int .u8 98] 45)
  have rP2 := held_after nM.2.1 rP
  have hB2 := hid (bthen hB1 nM.2.1)
  have dPM : p0_0 ≠ w1.heap.size := by have := held_lt rP; omega
  have hMw : w.heap.size ≤ w1.heap.size := hB1.size
  clear hB hA1 r_p0_0 rP hB1
  go_upto_region 2 with (fail)
  generalize w1.alloc (.cells #[.int .u8 181, .int .u8 98] 45) = W2 at *
  generalize w1.heap.size = M at *
  have hrow : Row .u8 45 W2 M [181, 98] := nM.2.2
  have sl2 := hid (hsl.out.below hB2.out)
  replace hrow := hid hrow
  replace rP2 := hid rP2
  clear nM
  go_wp2_with (first | (refine wpList_copyT W2 rfl (.tmp 13) (.tmp 14) 22 rfl 45 5 .u8 1 bytesOf M 0 2 2 [181, 98] hrow.out rfl (by simp) ba bl bc zs rfl sl2.out ?_))
  intro w3 h1 h2
  rw [laid2] at h1
  have rP3 := (h2.block p0_0 dPM).trans rP2.out
  have hB3 := (hB2.out).trans ⟨h2.os, h2.tape, h2.output, by rw [h2.size]; exact Nat.le_refl _, fun k hk => h2.block k (by omega)⟩
  have rM : w3.heap[M]? = some (.cells #[.int .u8 (zs.getD 0 181), .int .u8 (zs.getD 1 98)] 45 (0, 0)) := h1
  clear h1 h2 hB2 rP2 hrow sl2
  obtain ⟨x0, hx0⟩ : ∃ x, zs.getD 0 181 = x := ⟨_, rfl⟩
  obtain ⟨x1, hx1⟩ : ∃ x, zs.getD 1 98 = x := ⟨_, rfl⟩
  rw [hx0, hx1] at hr rM
  clear hx0 hx1
  go_upto_region 3 with (fail)
  have hB := hB3
  clear hB3
  apply wp_region_seg (w := w3) (S := [.q [], .q [], .q []]) (E := [.q0 _, .c0 _, .q0 _]) (by kernel_rfl) rfl (by kernel_rfl) rfl rfl
  intro th hge hne
  refine Seg.step _ rfl (Or.inl ⟨by rfl, fun U hU => vp_quiet (by (have h0 := held_cell (held_after hU.1 rM) 0 _ rfl; have h1 := held_cell (held_after hU.1 rM) 1 _ rfl; go_simp <;> exact rfl))⟩) ⟨_, by (simp only [Ent.val]; go_simp <;> exact rfl), ?_⟩
  refine Seg.step _ rfl (Or.inl ⟨by rfl, fun U hU => ?_⟩) ?_
  · go_simp
    refine vp_call (begin_any _)
  refine ⟨_, by (simp only [Ent.val]; go_simp <;> exact rfl), ?_⟩
  refine Seg.step _ rfl (Or.inl ⟨by rfl, fun U hU => vp_quiet (by (have hm := mark_eq x0 x1 181 98 U; go_simp <;> exact rfl))⟩) ⟨_, by (simp only [Ent.val]; go_simp <;> exact rfl), ?_⟩
  refine Seg.stop (fun U4 hU hk => ?_)
  clear hk hge hne
  replace rP3 := held_after hU rP3
  replace rM := held_after hU rM
  have sz4 := hU.size
  replace hB := bthen hB hU
  clear hU
  clear rM
  have hBs4 := hB.size
  obtain ⟨bad, hbad⟩ : ∃ b, (!x0 == 181 || !x1 == 98) = b := ⟨_, rfl⟩
  rw [hbad]
  cases bad
  case true =>
    have c0 : x0 ≠ 181 ∨ x1 ≠ 98 := by
      by_cases c : x0 = 181
      · exact Or.inr (fun d => by subst c; subst d; simp at hbad)
      · exact Or.inl c
    rw [if_pos c0] at hr
    replace hr := hid hr.symm
    clear hbad c0
    have z0 := held_cell rP3 0 _ rfl
    have z1 := held_cell rP3 1 _ rfl
    have z2 := held_cell rP3 2 _ rfl
    have g0 := held_free rP3 0
    have g1 := held_free rP3 1
    have g2 := held_free rP3 2
    obtain ⟨W9, hW9, ya, yO⟩ := st3 rP3 (.int .i64 0) (.int .i64 0) (.slice none 0 0)
    have hB9 := hid (belowS hB yO nP)
    have ez0 := held_cell ya 0 _ rfl
    have ez1 := held_cell ya 1 _ rfl
    have ez2 := held_cell ya 2 _ rfl
    clear yO ya hB
    go_wp2_with fail
    refine bodyPost_ret (v := .tuple #[.agg #[.int .i64 0, .int .i64 0, .slice none 0 0], .int .i64 0, .int .i64 3]) (by simp [results, Try.results12, go_sem, ez0, ez1, ez2]) rfl ?_
    rw [hr.out]
    exact FtOk.no hB9.out
  have c0 : ¬ (x0 ≠ 181 ∨ x1 ≠ 98) := fun h => by rcases h with h | h <;> simp [h] at hbad
  rw [if_neg c0] at hr
  clear hbad c0
  by_cases c2 : (bl : Int) < 6
  case pos =>
    rw [if_pos (by rw [ezl.out]; omega)] at hr
    replace hr := hid hr.symm
    have z0 := held_cell rP3 0 _ rfl
    have z1 := held_cell rP3 1 _ rfl
    have z2 := held_cell rP3 2 _ rfl
    have g0 := held_free rP3 0
    have g1 := held_free rP3 1
    have g2 := held_free rP3 2
    obtain ⟨W9, hW9, ya, yO⟩ := st3 rP3 (.int .i64 0) (.int .i64 0) (.slice none 0 0)
    have hB9 := hid (belowS hB yO nP)
    have ez0 := held_cell ya 0 _ rfl
    have ez1 := held_cell ya 1 _ rfl
    have ez2 := held_cell ya 2 _ rfl
    clear yO ya hB
    go_wp2_with fail
    refine bodyPost_ret (v := .tuple #[.agg #[.int .i64 0, .int .i64 0, .slice none 0 0], .int .i64 0, .int .i64 2]) (by simp [results, Try.results12, go_sem, ez0, ez1, ez2]) rfl ?_
    rw [hr.out]
    exact FtOk.no hB9.out
  rw [if_neg (by rw [ezl.out]; omega)] at hr
  have hq := quad zs (by rw [ezl.out]; omega)
  have hS2 := ((hsl.out.below hB).drop 2 (by omega)).take 4 (by omega)
  rw [hq] at hS2
  clear hq
  obtain ⟨gb, go, hba, -⟩ := hS2.2.2.2.2 0 (by simp)
  obtain ⟨pb, rfl, hpb2⟩ : ∃ pb, ba = some pb ∧ pb.add 2 = ⟨gb, go, none⟩ := by
    cases ba with
    | none => cases hba
    | some pb => exact ⟨pb, rfl, Option.some.inj hba⟩
  clear hpb2 hba
  have v2 := hbd 2
  obtain ⟨y2, hy2⟩ : ∃ y, zs.getD 2 0 = y := ⟨_, rfl⟩
  rw [hy2] at hr hS2 v2
  clear hy2
  have v3 := hbd 3
  obtain ⟨y3, hy3⟩ : ∃ y, zs.getD 3 0 = y := ⟨_, rfl⟩
  rw [hy3] at hr hS2 v3
  clear hy3
  have v4 := hbd 4
  obtain ⟨y4, hy4⟩ : ∃ y, zs.getD 4 0 = y := ⟨_, rfl⟩
  rw [hy4] at hr hS2 v4
  clear hy4
  have v5 := hbd 5
  obtain ⟨y5, hy5⟩ : ∃ y, zs.getD 5 0 = y := ⟨_, rfl⟩
  rw [hy5] at hr hS2 v5
  clear hy5
  have hS3 : Sl .u8 U4 (some (pb.add 2)) 4 (bc - 2) [y2, y3, y4, y5] := hS2
  clear hS2
  have kN := hid (new_any (some (pb.add 2)) 4 (bc - 2) [y2, y3, y4, y5] U4 (by omega) hS3)
  clear hS3
  have s1 : (6 : Int) ≤ bl := by omega
  have s4 : (6 : Int) ≤ bc := by omega
  have s5 : (2 : Int) < bc := by omega
  have s8 : ¬ bc = 2 := by omega
  replace hr := hid hr
  go_wp2_with fail
  refine kN.out.mono ?_
  rintro e w5 ⟨B, rfl, hwB, hR, hA5⟩
  have rP := held_after hA5 rP3
  have hB5 := bthen hB hA5
  have dPB : p0_0 ≠ B := by have := held_lt rP3; omega
  have hsB : w.heap.size ≤ B := by omega
  clear kN hB rP3 hA5
  have q2 := hid (nB1 y2 v2.1)
  have q3 := hid (nB1 y3 v3.1)
  have q4 := hid (nB2 y4 y5 v4.1 v5.1)
  have wf4 : ∀ l : List Int, (∀ x ∈ l, x ∈ [y2, y3, y4, y5]) → ∀ x ∈ l, (Lit.int .u8 x).wf = true := fun l hl x hx => by
    have := hl x hx
    simp at this
    rcases this with rfl | rfl | rfl | rfl
    · exact byte_wf v2.1 v2.2
    · exact byte_wf v3.1 v3.2
    · exact byte_wf v4.1 v4.2
    · exact byte_wf v5.1 v5.2
  replace wf4 := hid wf4
  replace hR := hid hR
  replace rP := hid rP
  replace hB5 := hid hB5
  go_wp2_with fail
  refine (ru_r B w.heap.size [y2, y3, y4, y5] 1 (by omega) (by omega) (by simp) _ hR.out (wf4.out _ (by simp)) (by simp) hsB).mono ?_
  rintro e w6 ⟨rfl, hR2, hBr⟩
  replace rP := hid (hBr.2.held rP.out (fun e => dPB (Option.some.inj e)))
  replace hB5 := hid (hB5.out.trans hBr.1)
  clear hBr
  simp only [List.take_succ_cons, List.take_zero, List.drop_succ_cons, List.drop_zero] at hR2 ⊢
  rw [q2.out]
  replace hR := hid hR2
  clear hR2
  go_wp2_with fail
  refine (ru_r B w.heap.size [y3, y4, y5] 1 (by omega) (by omega) (by simp) _ hR.out (wf4.out _ (by simp)) (by simp) hsB).mono ?_
  rintro e w7 ⟨rfl, hR2, hBr⟩
  replace rP := hid (hBr.2.held rP.out (fun e => dPB (Option.some.inj e)))
  replace hB5 := hid (hB5.out.trans hBr.1)
  clear hBr
  simp only [List.take_succ_cons, List.take_zero, List.drop_succ_cons, List.drop_zero] at hR2 ⊢
  rw [q3.out]
  replace hR := hid hR2
  clear hR2
  have nF := alloc_new w7 (.cells #[.int .i64 y2, .int .i64 y3, .slice none 0 0] 24)
  have hFw : w.heap.size ≤ w7.heap.size := hB5.out.size
  have hRF := hid (hR.out.aft nF.2.1)
  have rPF := hid (held_after nF.2.1 rP.out)
  have hBF := hid (bthen hB5.out nF.2.1)
  have rF := hid nF.2.2
  have dFB : w7.heap.size ≠ B := by have := hR.out.lt15; omega
  have dFP : w7.heap.size ≠ p0_0 := by have := held_lt rP.out; omega
  clear nF hR rP hB5
  go_upto_region 9 with (fail)
  generalize w7.alloc (.cells #[.int .i64 y2, .int .i64 y3, .slice none 0 0] 24) = w8 at *
  generalize w7.heap.size = F at *
  go_wp2_with fail
  refine (ru_r B w.heap.size [y4, y5] 2 (by omega) (by omega) (by simp) _ hRF.out (wf4.out _ (by simp)) (by simp) hsB).mono ?_
  rintro e w9 ⟨rfl, hR2, hBr⟩
  have rP := hBr.2.held rPF.out (fun e => dPB (Option.some.inj e))
  have rF9 := hBr.2.held rF.out (fun e => dFB (Option.some.inj e))
  have hB := hBF.out.trans hBr.1
  simp only [List.take_succ_cons, List.take_zero]
  rw [q4.out]
  clear hBr hR2 rPF rF hBF hRF wf4 q2 q3 q4
  obtain ⟨N, hN⟩ := Int.eq_ofNat_of_zero_le (show 0 ≤ y4 + 256 * y5 by omega)
  replace hr := hr.out
  rw [hN] at hr ⊢
  have hNb : (N : Int) ≤ 65535 := by omega
  replace hN := hid hN
  by_cases c3 : (1016 : Int) < N
  case pos =>
    rw [if_pos c3] at hr
    replace hr := hid hr.symm
    have z0 := held_cell rP 0 _ rfl
    have z1 := held_cell rP 1 _ rfl
    have z2 := held_cell rP 2 _ rfl
    have g0 := held_free rP 0
    have g1 := held_free rP 1
    have g2 := held_free rP 2
    obtain ⟨W9, hW9, ya, yO⟩ := st3 rP (.int .i64 0) (.int .i64 0) (.slice none 0 0)
    have hB9 := hid (belowS hB yO nP)
    have ez0 := held_cell ya 0 _ rfl
    have ez1 := held_cell ya 1 _ rfl
    have ez2 := held_cell ya 2 _ rfl
    clear yO ya hB
    go_wp2_with fail
    refine bodyPost_ret (v := .tuple #[.agg #[.int .i64 0, .int .i64 0, .slice none 0 0], .int .i64 0, .int .i64 7]) (by simp [results, Try.results12, go_sem, ez0, ez1, ez2]) rfl ?_
    rw [hr.out]
    exact FtOk.no hB9.out
  rw [if_neg c3] at hr
  have kz := fsize_any N
  have ez : sizeS N = (N : Int) + 8 := by unfold sizeS; rw [if_pos (by omega)]
  rw [ez] at kz
  clear ez
  replace kz := hid kz
  rw [ezl.out, Int.toNat_natCast] at hr
  replace hB := hid hB
  replace rP := hid rP
  replace rF9 := hid rF9
  replace hr := hid hr
  go_wp2_with fail
  refine (kz.out _).mono ?_
  rintro e V ⟨rfl, rfl⟩
  replace hB := hB.out
  replace rP := rP.out
  replace hr := hr.out
  by_cases c4 : (bl : Int) < (N : Int) + 8
  case pos =>
    rw [if_pos c4] at hr
    replace hr := hid hr.symm
    have z0 := held_cell rP 0 _ rfl
    have z1 := held_cell rP 1 _ rfl
    have z2 := held_cell rP 2 _ rfl
    have g0 := held_free rP 0
    have g1 := held_free rP 1
    have g2 := held_free rP 2
    obtain ⟨W9, hW9, ya, yO⟩ := st3 rP (.int .i64 0) (.int .i64 0) (.slice none 0 0)
    have hB9 := hid (belowS hB yO nP)
    have ez0 := held_cell ya 0 _ rfl
    have ez1 := held_cell ya 1 _ rfl
    have ez2 := held_cell ya 2 _ rfl
    clear yO ya hB
    go_wp2_with fail
    refine bodyPost_ret (v := .tuple #[.agg #[.int .i64 0, .int .i64 0, .slice none 0 0], .int .i64 0, .int .i64 2]) (by simp [results, Try.results12, go_sem, ez0, ez1, ez2]) rfl ?_
    rw [hr.out]
    exact FtOk.no hB9.out
  rw [if_neg c4] at hr
  have hSp := ((hsl.out.below hB).drop 2 (by omega)).take (N + 6) (by omega)
  have hSq : Sl .u8 V (some (pb.add 2)) (N + 6) (bc - 2) ((zs.drop 2).take (N + 6)) := hSp
  clear hSp
  have hpw : ∀ n ∈ (zs.drop 2).take (N + 6), (Lit.int .u8 n).wf = true := fun x hx => hw.out x (List.mem_of_mem_drop (List.mem_of_mem_take hx))
  have hpl : ((zs.drop 2).take (N + 6)).length = N + 6 := by rw [List.length_take, List.length_drop, ezl.out]; omega
  have hop : openS ((zs.drop 2).take (N + 6)) = if sealS ((zs.drop 2).take (N + 4)) = (zs.drop 2).take (N + 6) then some ((zs.drop 2).take (N + 4)) else none := by
    unfold openS
    rw [hpl, if_neg (by omega), show N + 6 - 2 = N + 4 by omega, List.take_take, show min (N + 4) (N + 6) = N + 4 by omega]
  have kO := hid (open_any (some (pb.add 2)) (N + 6) (bc - 2) _ V (by omega) hSq hpw)
  clear hpl hpw hSq
  have s6 : ((N : Int) + 8).toNat = N + 8 := by omega
  have s7 : N + 8 - 2 = N + 6 := by omega
  have t1 : (2 : Int) ≤ (N : Int) + 8 := by omega
  have t2 : (N : Int) + 8 ≤ bl := by omega
  have t3 : (N : Int) + 8 ≤ bc := by omega
  by_cases c5 : sealS ((zs.drop 2).take (N + 4)) = (zs.drop 2).take (N + 6)
  case neg =>
    rw [if_neg c5] at hr hop
    replace hr := hid hr.symm
    rw [hop] at kO
    clear hop
    replace rP := hid rP
    replace hB := hid hB
    go_wp2_with fail
    refine kO.out.mono ?_
    rintro e V4 ⟨ia, ic, rfl, hO, hA4⟩
    have rP4 := held_after hA4 rP.out
    have hB5 := bthen hB.out hA4
    clear hB hA4
    have hB := hB5
    clear hB5
    simp only [Option.getD_none, Option.isSome_none, List.length_nil]
    have z0 := held_cell rP4 0 _ rfl
    have z1 := held_cell rP4 1 _ rfl
    have z2 := held_cell rP4 2 _ rfl
    have g0 := held_free rP4 0
    have g1 := held_free rP4 1
    have g2 := held_free rP4 2
    obtain ⟨W9, hW9, ya, yO⟩ := st3 rP4 (.int .i64 0) (.int .i64 0) (.slice none 0 0)
    have hB9 := hid (belowS hB yO nP)
    have ez0 := held_cell ya 0 _ rfl
    have ez1 := held_cell ya 1 _ rfl
    have ez2 := held_cell ya 2 _ rfl
    clear yO ya hB
    go_wp2_with fail
    refine bodyPost_ret (v := .tuple #[.agg #[.int .i64 0, .int .i64 0, .slice none 0 0], .int .i64 0, .int .i64 4]) (by simp [results, Try.results12, go_sem, ez0, ez1, ez2]) rfl ?_
    rw [hr.out]
    exact FtOk.no hB9.out
  rw [if_pos c5] at hr hop
  replace hr := hid hr.symm
  rw [hop] at kO
  clear hop c5
  have hIl : ((zs.drop 2).take (N + 4)).length = N + 4 := by rw [List.length_take, List.length_drop, ezl.out]; omega
  replace rP := hid rP
  replace hB := hid hB
  go_wp2_with fail
  refine kO.out.mono ?_
  rintro e V4 ⟨ia, ic, rfl, hO, hA4⟩
  simp only [Option.getD_some, Option.isSome_some] at hO ⊢
  have hOs := hO.slf
  rw [hIl] at hOs ⊢
  have hic := hOs.2.1
  have rP4 := held_after hA4 rP.out
  have rF4 := held_after hA4 rF9.out
  have hB4 := bthen hB.out hA4
  have hpy : ((zs.drop 2).take (N + 4)).drop 4 = (zs.drop 6).take N := by rw [List.drop_take, List.drop_drop]; rfl
  obtain ⟨ib, io, rfl, -⟩ := hOs.2.2.2.2 0 (by rw [hOs.1]; omega)
  have hPl : ((zs.drop 6).take N).length = N := by rw [List.length_take, List.length_drop, ezl.out]; omega
  have t4 : (4 : Int) ≤ (N : Int) + 4 := by omega
  have t5 : N + 4 - 4 = N := by omega
  have t6 : (4 : Int) ≤ ic := by omega
  have t7 : (N : Int) + 4 ≤ ic := by omega
  have hr2 := hr.out
  clear hO hIl hr hB rP
  by_cases c6 : ic = 4
  · have hS6 := hOs.end 4 (by omega) c6
    rw [hpy, t5] at hS6
    subst c6
    clear hOs hpy
    obtain ⟨S1, hS1, s1f, o1⟩ := st1 rF4 2 (.slice (some ⟨ib, io, none⟩) N 0)
    have rP5 := heldS o1 (Ne.symm dFP) rP4
    have hB5 := belowS hB4 o1 hFw
    have hS7 := hS6.other rF4 (no_u8 (fun x h => by cases h)) o1.block
    have f2 := held_free rF4 2
    have z2q := held_cell rF4 2 _ rfl
    have a0 := held_cell s1f 0 _ rfl
    have a1 := held_cell s1f 1 _ rfl
    have a2 := held_cell s1f 2 _ rfl
    have z0 := held_cell rP5 0 _ rfl
    have z1 := held_cell rP5 1 _ rfl
    have z2 := held_cell rP5 2 _ rfl
    have g0 := held_free rP5 0
    have g1 := held_free rP5 1
    have g2 := held_free rP5 2
    obtain ⟨W9, hW9, ya, yO⟩ := st3 rP5 (.int .i64 y2) (.int .i64 y3) (.slice (some ⟨ib, io, none⟩) N 0)
    have hB9 := hid (belowS hB5 yO nP)
    have hS9 := hid (hS7.other rP5 (no_u8 (fun x h => by cases h)) yO.block)
    have ez0 := held_cell ya 0 _ rfl
    have ez1 := held_cell ya 1 _ rfl
    have ez2 := held_cell ya 2 _ rfl
    clear yO ya o1 s1f rP5 hB5 hS7 hS6 rF4 rP4
    replace hB4 := hid hB4
    replace hPl := hid hPl
    replace hr2 := hid hr2
    go_wp2_with fail
    refine bodyPost_ret (v := .tuple #[.agg #[.int .i64 y2, .int .i64 y3, .slice (some ⟨ib, io, none⟩) N 0], .int .i64 ((N : Int) + 8), .int .i64 0]) (by simp [results, Try.results12, go_sem, ez0, ez1, ez2]) rfl ?_
    rw [hr2.out]
    exact ⟨(some ⟨ib, io, none⟩), 0, by rw [hPl.out], by rw [hPl.out]; exact hS9.out, hB9.out⟩
  · have hS5 := hOs.drop 4 (by omega)
    rw [hpy, t5] at hS5
    have hS6 : Sl .u8 V4 (some ⟨ib, io + 4, none⟩) N (ic - 4) ((zs.drop 6).take N) := hS5
    clear hS5
    have t8 : (4 : Int) < ic := by omega
    clear hOs hpy
    obtain ⟨S1, hS1, s1f, o1⟩ := st1 rF4 2 (.slice (some ⟨ib, io + 4, none⟩) N (ic - 4))
    have rP5 := heldS o1 (Ne.symm dFP) rP4
    have hB5 := belowS hB4 o1 hFw
    have hS7 := hS6.other rF4 (no_u8 (fun x h => by cases h)) o1.block
    have f2 := held_free rF4 2
    have z2q := held_cell rF4 2 _ rfl
    have a0 := held_cell s1f 0 _ rfl
    have a1 := held_cell s1f 1 _ rfl
    have a2 := held_cell s1f 2 _ rfl
    have z0 := held_cell rP5 0 _ rfl
    have z1 := held_cell rP5 1 _ rfl
    have z2 := held_cell rP5 2 _ rfl
    have g0 := held_free rP5 0
    have g1 := held_free rP5 1
    have g2 := held_free rP5 2
    obtain ⟨W9, hW9, ya, yO⟩ := st3 rP5 (.int .i64 y2) (.int .i64 y3) (.slice (some ⟨ib, io + 4, none⟩) N (ic - 4))
    have hB9 := hid (belowS hB5 yO nP)
    have hS9 := hid (hS7.other rP5 (no_u8 (fun x h => by cases h)) yO.block)
    have ez0 := held_cell ya 0 _ rfl
    have ez1 := held_cell ya 1 _ rfl
    have ez2 := held_cell ya 2 _ rfl
    clear yO ya o1 s1f rP5 hB5 hS7 hS6 rF4 rP4
    replace hB4 := hid hB4
    replace hPl := hid hPl
    replace hr2 := hid hr2
    go_wp2_with fail
    refine bodyPost_ret (v := .tuple #[.agg #[.int .i64 y2, .int .i64 y3, .slice (some ⟨ib, io + 4, none⟩) N (ic - 4)], .int .i64 ((N : Int) + 8), .int .i64 0]) (by simp [results, Try.results12, go_sem, ez0, ez1, ez2]) rfl ?_
    rw [hr2.out]
    exact ⟨(some ⟨ib, io + 4, none⟩), (ic - 4), by rw [hPl.out], by rw [hPl.out]; exact hS9.out, hB9.out⟩

end Go.Proofs.Ytjmmboijpkfllaa
