/- Package valset: pair. -/
import Derived.Test.YtdgmmndklmomkaaVal4
import Derived.Laws.OwnMore
import Derived.Deep.DeepCutAuto
namespace Go.Proofs.Ytdgmmndklmomkaa
open Go.ChangeShapes Go.WideShapes Go.ChangeAt Go.RowKit
set_option linter.unusedVariables false
set_option linter.unusedSimpArgs false

theorem Rdr.ltv {B : Nat} {w : World} {zs : List Int} (h : Rdr B w zs) : B < w.heap.size := by
  obtain ⟨a, cap, h1, h2⟩ := h
  exact held_lt h1
theorem Rdr.aftv {B : Nat} {w w2 : World} {zs : List Int} (h : Rdr B w zs) (hA : After w w2) : Rdr B w2 zs := by
  obtain ⟨a, cap, h1, h2⟩ := h
  exact ⟨a, cap, held_after hA h1, h2.below hA⟩
theorem ru_vs (B B0 : Nat) (zs : List Int) (n : Int) (n1 : 1 ≤ n) (n8 : n ≤ 8) (hn : n ≤ zs.length) (w : World) (hR : Rdr B w zs) (hz : ∀ x ∈ zs, (Lit.int .u8 x).wf = true) (hl : zs.length ≤ 1000000) (h1 : B0 ≤ B) :
    Calls Try.prog 48 #[.pointer (some ⟨B, 0, none⟩), .int .i64 n] w fun e w' => e = .returned (.int .u64 ((numB (zs.take n.toNat) n.toNat : Nat) : Int)) ∧ Rdr B w' (zs.drop n.toNat) ∧ Br B B0 w w' := by
  have ho : okU zs false n = true := by unfold okU; simp; omega
  refine (ru_st B B0 zs false n w (by unfold RSt; rw [if_neg (by simp)]; exact hR) hz hl h1).mono ?_
  rintro e w' ⟨rfl, hV, hB⟩
  rw [ho] at hV ⊢
  unfold RSt gotR at hV
  simp only [Bool.not_true, Bool.false_eq_true, if_false, if_true] at hV
  exact ⟨by simp, hV, hB⟩
theorem rleft_v (B : Nat) (zs : List Int) (w : World) (hR : Rdr B w zs) : Calls Try.prog 32 #[.pointer (some ⟨B, 0, none⟩)] w fun e w' => e = .returned (.int .i64 zs.length) ∧ w' = w := by
  obtain ⟨a, cap, h1, h2⟩ := hR
  exact left_good B a zs.length cap w h1
/-- The next pair of some bytes, or why there is none; how long it is. -/
def keyS (zs : List Int) : Int := (numB (zs.take 4) 4 : Nat)
def pairN (zs : List Int) : Nat := 4 + (szT (kindS (keyS zs))).toNat
def valS (zs : List Int) : Int := (numB ((zs.drop 4).take (szT (kindS (keyS zs))).toNat) (szT (kindS (keyS zs))).toNat : Nat)
def pairS (zs : List Int) : (Int × Int) × Int :=
  if zs.length < 4 then ((0, 0), 2) else if kindS (keyS zs) = 0 then ((0, 0), 6) else if zs.length < pairN zs then ((0, 0), 2) else if moT (kindS (keyS zs)) < valS zs then ((0, 0), 5) else ((keyS zs, valS zs), 0)
theorem pairS_e (zs : List Int) : 0 ≤ (pairS zs).2 ∧ (pairS zs).2 ≤ 6 := by
  unfold pairS; split
  · simp
  · split
    · simp
    · split
      · simp
      · split <;> simp
theorem pairS_ok {zs : List Int} (h : (pairS zs).2 = 0) : 4 ≤ zs.length ∧ kindS (keyS zs) ≠ 0 ∧ pairN zs ≤ zs.length ∧ valS zs ≤ moT (kindS (keyS zs)) ∧ (pairS zs).1 = (keyS zs, valS zs) := by
  unfold pairS at *
  by_cases h1 : zs.length < 4
  · rw [if_pos h1] at h; simp at h
  · rw [if_neg h1] at h ⊢
    by_cases h2 : kindS (keyS zs) = 0
    · rw [if_pos h2] at h; simp at h
    · rw [if_neg h2] at h ⊢
      by_cases h3 : zs.length < pairN zs
      · rw [if_pos h3] at h; simp at h
      · rw [if_neg h3] at h ⊢
        by_cases h4 : moT (kindS (keyS zs)) < valS zs
        · rw [if_pos h4] at h; simp at h
        · rw [if_neg h4]; exact ⟨by omega, h2, by omega, by omega, rfl⟩
/-- The pairs of some bytes, behind some others. -/
def tkS : Nat → List Int → List (Int × Int) → List (Int × Int) × Int
  | 0, _, _ => ([], 0)
  | f + 1, zs, acc => if zs.length = 0 then (acc, 0) else if acc.length = 32 then ([], 7) else if (pairS zs).2 ≠ 0 then ([], (pairS zs).2) else tkS f (zs.drop (pairN zs)) (acc ++ [(pairS zs).1])
def takVS (bs : List Int) : Int × List (Int × Int) × Int :=
  if bs.length < 4 then (0, [], 2) else if (takL HL (bs.take 4)).2 ≠ 0 then (0, [], (takL HL (bs.take 4)).2) else if (tkS 33 (bs.drop 4) []).2 ≠ 0 then (0, [], (tkS 33 (bs.drop 4) []).2) else ((takL HL (bs.take 4)).1.getD 1 0, (tkS 33 (bs.drop 4) []).1, 0)
def VtOk (w : World) (r : Int × List (Int × Int) × Int) (e : Ending) (w' : World) : Prop := ∃ (a : Option Addr) (cap : Nat), e = .returned (.tuple #[.agg #[.int .i64 r.1, .slice a r.2.1.length cap], .int .i64 r.2.2]) ∧ Els w' 2 a r.2.1.length cap (prsV r.2.1) ∧ After w w'
theorem VtOk.no {w w' : World} {n : Int} (h : After w w') : VtOk w (0, [], n) (.returned (.tuple #[.agg #[.int .i64 0, .slice none 0 0], .int .i64 n])) w' := ⟨none, 0, rfl, Els.nil _ _, h⟩
theorem list3 {P : List Int} (h : P.length = 3) : ∃ x0 x1 x2, P = [x0, x1, x2] := by
  match P, h with
  | [a, b, c], _ => exact ⟨a, b, c, rfl⟩
theorem keyS_bd {zs : List Int} (hz : ∀ x ∈ zs, (Lit.int .u8 x).wf = true) : 0 ≤ keyS zs ∧ keyS zs < 4294967296 := by
  have hbd := (fun i => getD_bd (bytes_bd (zs := zs.take 4) (fun x hx => hz x (List.mem_of_mem_take hx))) i)
  have := numB_lt (zs.take 4) (fun i => by have := hbd i; omega) 4
  unfold keyS; omega
theorem valS_bd {zs : List Int} (hz : ∀ x ∈ zs, (Lit.int .u8 x).wf = true) : 0 ≤ valS zs ∧ valS zs ≤ 18446744073709551615 := by
  have hbd := (fun i => getD_bd (bytes_bd (zs := (zs.drop 4).take (szT (kindS (keyS zs))).toNat) (fun x hx => hz x (List.mem_of_mem_drop (List.mem_of_mem_take hx)))) i)
  have h1 := numB_lt ((zs.drop 4).take (szT (kindS (keyS zs))).toNat) (fun i => by have := hbd i; omega) (szT (kindS (keyS zs))).toNat
  have h8 : (szT (kindS (keyS zs))).toNat ≤ 8 := by
    by_cases h : kindS (keyS zs) = 0
    · rw [h]; decide
    · have := sz_mo h (kindS_le _); omega
  have h2 : 256 ^ (szT (kindS (keyS zs))).toNat ≤ 256 ^ 8 := Nat.pow_le_pow_right (by decide) h8
  unfold valS; omega
set_option maxRecDepth 100000 in
set_option maxHeartbeats 8000000 in
theorem pair_any (B B0 : Nat) (zs : List Int) (w : World) (hR : Rdr B w zs) (hz : ∀ x ∈ zs, (Lit.int .u8 x).wf = true) (hl : zs.length ≤ 1000000) (h0 : B0 ≤ B) : Calls Try.prog 33 #[.pointer (some ⟨B, 0, none⟩)] w fun e w' => e = .returned (.tuple #[.agg #[.int .i64 (pairS zs).1.1, .int .i64 (pairS zs).1.2], .int .i64 (pairS zs).2]) ∧ ((pairS zs).2 = 0 → Rdr B w' (zs.drop (pairN zs))) ∧ Br B B0 w w' := by
  obtain ⟨r, hr⟩ : ∃ r, pairS zs = r := ⟨_, rfl⟩
  obtain ⟨n, hn⟩ : ∃ n, pairN zs = n := ⟨_, rfl⟩
  rw [hr, hn]
  replace hn := hid hn
  have hlB := hR.ltv
  have kbd := keyS_bd hz
  have vbd := valS_bd hz
  replace hz := hid hz
  replace hR := hid hR
  go_enter Try.func33, Try.ntmps33
  go_upto_region 0 with (fail)
  apply wp_region_seg0 (w := w) (S := [.al 1000, .q []]) (E := [.al ((fun p => .pointer (some ⟨p, 0, none⟩)), _) 1000, .q0 _]) rfl (by kernel_rfl) rfl rfl
  intro th hge hne
  refine Seg.step _ rfl ⟨by rfl, fun U hU => ?_⟩ ?_
  · go_simp; exact vp_alloc rfl rfl rfl
  refine ⟨_, by (simp only [Ent.val]; go_simp <;> exact rfl), ?_⟩
  refine Seg.step _ rfl (Or.inl ⟨by rfl, fun U hU => vp_quiet (by (go_simp <;> exact rfl))⟩) ⟨_, by (simp only [Ent.val]; go_simp <;> exact rfl), ?_⟩
  refine Seg.stop (fun U1 hU hk => ?_)
  have nb0 := hge 0 _ _ rfl
  have rb0 := (hk 0 _ _ rfl trivial).1.2 (by simp)
  clear hk hge hne
  generalize th (0 + 0) = p0_0 at *
  dsimp only at rb0
  have r_p0_0 := rb0
  clear rb0
  have n_p0_0 := nb0
  clear nb0
  have sz1 := hU.size
  have hB : Below w.heap.size w U1 := hU
  clear hU
  have np0 := n_p0_0
  have nB : p0_0 ≠ B := by omega
  have hR1 := hid (hR.out.aftv hB)
  have hBr0 := hid ((Br.refl B B0 w).later hB (by omega))
  have sU := hB.size
  clear hR hB
  replace r_p0_0 := hid r_p0_0
  have kl := hid (fun W h => rleft_v B zs W h)
  by_cases c4 : (zs.length : Int) < 4
  case pos =>
    have e : r = ((0, 0), 2) := by rw [← hr]; unfold pairS; rw [if_pos (by omega)]
    replace e := hid e
    clear hr
    have r0 := r_p0_0.out
    have y0 := held_cell r0 0 _ rfl
    have y1 := held_cell r0 1 _ rfl
    have f0 := held_free r0 0
    have f1 := held_free r0 1
    obtain ⟨W4, hW4, ya, yO⟩ := st2 r0 (.int .i64 0) (.int .i64 0)
    have ez0 := held_cell ya 0 _ rfl
    have ez1 := held_cell ya 1 _ rfl
    have hBr4 := hid (show Br B B0 w W4 from ⟨belowS hBr0.out.1 yO (by omega), ⟨by rw [yO.size]; exact hBr0.out.2.size, fun k hk hne => (yO.block k (by omega)).trans (hBr0.out.2.block k hk hne)⟩⟩)
    clear yO ya
    replace r0 := hid r0
    go_wp2_with fail
    refine (kl.out _ hR1.out).mono ?_
    rintro e V ⟨rfl, hv⟩
    obtain rfl : U1 = V := hv.symm
    go_wp2_with fail
    refine bodyPost_ret (v := .tuple #[.agg #[.int .i64 0, .int .i64 0], .int .i64 2]) (by simp [results, Try.results33, go_sem, ez0, ez1]) rfl ?_
    rw [e.out]
    exact ⟨rfl, fun h => by simp at h, hBr4.out⟩
  have c4n : ¬ zs.length < 4 := by omega
  go_wp2_with fail
  refine (kl.out _ hR1.out).mono ?_
  rintro e V ⟨rfl, hv⟩
  obtain rfl : U1 = V := hv.symm
  clear hv
  go_wp2_with fail
  refine (ru_vs B B0 zs 4 (by omega) (by omega) (by omega) _ hR1.out hz.out hl h0).mono ?_
  rintro e V2 ⟨rfl, hR2, hBr⟩
  replace hR2 : Rdr B V2 (zs.drop 4) := hR2
  have ek : ((numB (zs.take (4 : Int).toNat) (4 : Int).toNat : Nat) : Int) = keyS zs := rfl
  rw [ek]
  clear ek
  have r2 := hBr.2.held r_p0_0.out (fun e => nB (Option.some.inj e))
  have hBr2 := hid (show Br B B0 w V2 from ⟨hBr0.out.1.trans hBr.1, hBr0.out.2.trans hBr.2⟩)
  replace hR2 := hid hR2
  have sV2 := hBr.2.size
  clear hBr hBr0 hR1 r_p0_0
  have kf := hid (fun W : World => of_any (keyS zs) W (by omega) (by omega))
  have hN : pairN zs = 4 + (szT (kindS (keyS zs))).toNat := rfl
  have hV : valS zs = (numB ((zs.drop 4).take (szT (kindS (keyS zs))).toNat) (szT (kindS (keyS zs))).toNat : Nat) := rfl
  have hr2 : r = if kindS (keyS zs) = 0 then ((0, 0), 6) else if zs.length < pairN zs then ((0, 0), 2) else if moT (kindS (keyS zs)) < valS zs then ((0, 0), 5) else ((keyS zs, valS zs), 0) := by rw [← hr]; unfold pairS; rw [if_neg c4n]
  clear hr
  have wk : IntKind.i64.wrap (keyS zs) = keyS zs := by rw [IntKind.wrap_i64]; omega
  obtain ⟨key, hkey⟩ : ∃ k, keyS zs = k := ⟨_, rfl⟩
  rw [hkey] at kf hN hV hr2 wk kbd ⊢
  have hk5 := kindS_le key
  have hkb := fun h => kind_bd (key := key) h
  obtain ⟨d, hd⟩ : ∃ d, kindS key = d := ⟨_, rfl⟩
  rw [hd] at kf hN hV hr2 hk5 hkb
  have hsm := fun h => sz_mo (d := d) h hk5
  obtain ⟨ok, hok⟩ : ∃ b, decide (d ≠ 0) = b := ⟨_, rfl⟩
  have hv : ofV d = .tuple #[.agg #[.int .i64 (szT d), .int .i64 (moT d)], .bool ok] := by rw [← hok]; rfl
  rw [hv] at kf
  clear hv
  obtain ⟨s, hs⟩ : ∃ s, szT d = s := ⟨_, rfl⟩
  obtain ⟨m, hm⟩ : ∃ m, moT d = m := ⟨_, rfl⟩
  rw [hs] at kf hsm hN hV
  rw [hm] at kf hsm hr2
  obtain ⟨val, hval⟩ : ∃ v, valS zs = v := ⟨_, rfl⟩
  rw [hval] at hV hr2 vbd
  rw [hn.out] at hN hr2
  clear hs hm hd hkey hval hn
  replace hr2 := hid hr2
  replace hV := hid hV
  replace hsm := hid hsm
  replace hkb := hid hkb
  go_wp2_with fail
  refine (kf.out _).mono ?_
  rintro e V3 ⟨rfl, hA⟩
  have nA9 := alloc_new V3 (.cells #[.int .i64 s, .int .i64 m] 52)
  have hA9 := bthen hA nA9.2.1
  have q9 := nA9.2.2
  obtain ⟨t9, ht9⟩ : ∃ q, V3.heap.size = q := ⟨_, rfl⟩
  rw [ht9] at q9
  have r9 := held_after hA9 r2
  have hR9 := hid (hR2.out.aftv hA9)
  have hBr9 := hid (hBr2.out.later hA9 (by omega))
  have hn9 : t9 ≠ B := by have := hR2.out.ltv; have := hA.size; omega
  have sV9 := hA9.size
  clear nA9 hA9 hA r2 hR2 hBr2
  go_upto_region 5 with (fail)
  try rw [ht9]
  obtain ⟨W9, hW9e⟩ : ∃ W, V3.alloc (.cells #[.int .i64 s, .int .i64 m] 52) = W := ⟨_, rfl⟩
  rw [hW9e] at q9 r9 hR9 hBr9 sV9 ⊢
  clear hW9e ht9
  by_cases hd0 : d = 0
  case pos =>
    obtain rfl : ok = false := by rw [← hok]; simp [hd0]
    have e := hid (hr2.out.trans (if_pos hd0))
    clear hok hd0
    have y0 := held_cell r9 0 _ rfl
    have y1 := held_cell r9 1 _ rfl
    have f0 := held_free r9 0
    have f1 := held_free r9 1
    obtain ⟨W4, hW4, ya, yO⟩ := st2 r9 (.int .i64 0) (.int .i64 0)
    have ez0 := held_cell ya 0 _ rfl
    have ez1 := held_cell ya 1 _ rfl
    have hBr4 := hid (show Br B B0 w W4 from ⟨belowS hBr9.out.1 yO (by omega), ⟨by rw [yO.size]; exact hBr9.out.2.size, fun k hk hne => (yO.block k (by omega)).trans (hBr9.out.2.block k hk hne)⟩⟩)
    clear yO ya
    go_wp2_with fail
    refine bodyPost_ret (v := .tuple #[.agg #[.int .i64 0, .int .i64 0], .int .i64 6]) (by simp [results, Try.results33, go_sem, ez0, ez1]) rfl ?_
    rw [e.out]
    exact ⟨rfl, fun h => by simp at h, hBr4.out⟩
  obtain rfl : ok = true := by rw [← hok]; simp [hd0]
  clear hok
  replace hr2 := hid (hr2.out.trans (if_neg hd0))
  obtain ⟨s1, s2, m1, m2, m3⟩ := hsm.out hd0
  obtain ⟨k1, k2, -⟩ := hkb.out hd0
  clear hkb hsm m2
  have q90 := held_cell q9 0 _ rfl
  have q91 := held_cell q9 1 _ rfl
  have hld : (zs.drop 4).length = zs.length - 4 := by simp
  have kl2 := hid (fun W h => rleft_v B (zs.drop 4) W h)
  rw [hld] at kl2
  go_upto_region 7 with (fail)
  have r10 := (show W9.drew.heap[p0_0]? = _ from r9)
  have q10 := (show W9.drew.heap[t9]? = _ from q9)
  have hR10 := hid (show Rdr B W9.drew _ from hR9.out)
  have hBr10 := hid (show Br B B0 w W9.drew from hBr9.out.later ((Below.refl _ _).drew) (by omega))
  have cl : ((zs.length - 4 : Nat) : Int) = (zs.length : Int) - 4 := by omega
  clear r9 q9 hR9 hBr9 q90 q91
  refine wp_region_R (by kernel_rfl) ?_
  refine wpAnyR_take 0 rfl (by kernel_rfl) (by kernel_rfl) (by kernel_rfl) (fun _ _ _ _ h => h) ⟨_, Or.inl ⟨by rfl, fun w2 hb2 => by (go_simp; try with_reducible rfl)⟩, _, by (go_simp; try rfl), ?_⟩
  refine wpAnyR_take 2 rfl (by kernel_rfl) (by kernel_rfl) (by kernel_rfl) (fun _ _ _ _ h => h) ⟨_, Or.inl ⟨by rfl, fun w2 hb2 => by (go_simp; try with_reducible rfl)⟩, _, by (go_simp; try rfl), ?_⟩
  refine wpAnyR_take 3 rfl (by kernel_rfl) (by kernel_rfl) (by kernel_rfl) (fun _ _ _ _ h => h) ⟨_, Or.inl ⟨by rfl, fun w2 hb2 => by (have hx := held_cell (held_after hb2 q10) 0 _ rfl; go_simp; try with_reducible rfl)⟩, _, by (go_simp; try rfl), ?_⟩
  refine wpAnyR_only 1 rfl (by kernel_rfl) (by rfl) (fun K hK => ?_)
  go_simp
  refine (kl2.out _ hR10.out).mono ?_
  rintro e V4 ⟨rfl, rfl⟩
  go_simp
  refine hK _ _ ⟨After.refl _, ?_⟩
  clear hK
  refine wpAnyR_take 4 rfl (by kernel_rfl) (by kernel_rfl) (by kernel_rfl) (fun _ _ _ _ h => h) ⟨_, Or.inl ⟨by rfl, fun w2 hb2 => by (go_simp; try with_reducible rfl)⟩, _, by (go_simp; try rfl), ?_⟩
  refine wpAnyR_done (by kernel_rfl) ?_ _
  obtain ⟨WD, hWD⟩ : ∃ W, W9.drew = W := ⟨_, rfl⟩
  rw [hWD] at r10 q10 hR10 hBr10 ⊢
  have hRl := hid hR10.out.ltv
  have sWD : w.heap.size ≤ WD.heap.size := hBr10.out.2.size
  clear hWD
  by_cases c5 : zs.length < n
  case pos =>
    have e := hid (hr2.out.trans (if_pos c5))
    have c6 : ((zs.length - 4 : Nat) : Int) < s := by omega
    clear c5
    have y0 := held_cell r10 0 _ rfl
    have y1 := held_cell r10 1 _ rfl
    have f0 := held_free r10 0
    have f1 := held_free r10 1
    obtain ⟨W4, hW4, ya, yO⟩ := st2 r10 (.int .i64 0) (.int .i64 0)
    have ez0 := held_cell ya 0 _ rfl
    have ez1 := held_cell ya 1 _ rfl
    have hBr4 := hid (show Br B B0 w W4 from ⟨belowS hBr10.out.1 yO (by omega), ⟨by rw [yO.size]; exact hBr10.out.2.size, fun k hk hne => (yO.block k (by omega)).trans (hBr10.out.2.block k hk hne)⟩⟩)
    clear yO ya
    go_wp2_with fail
    refine bodyPost_ret (v := .tuple #[.agg #[.int .i64 0, .int .i64 0], .int .i64 2]) (by simp [results, Try.results33, go_sem, ez0, ez1]) rfl ?_
    rw [e.out]
    exact ⟨rfl, fun h => by simp at h, hBr4.out⟩
  replace hr2 := hid (hr2.out.trans (if_neg c5))
  have c6 : ¬ ((zs.length - 4 : Nat) : Int) < s := by omega
  have q90 := held_cell q10 0 _ rfl
  have q91 := held_cell q10 1 _ rfl
  go_wp2_with fail
  refine (ru_vs B B0 (zs.drop 4) s s1 s2 (by rw [hld]; omega) _ hR10.out (fun x hx => hz.out x (List.mem_of_mem_drop hx)) (by rw [hld]; omega) h0).mono ?_
  rintro e V5 ⟨rfl, hR5, hBr⟩
  have r11 := hBr.2.held r10 (fun e => nB (Option.some.inj e))
  have q11 := hBr.2.held q10 (fun e => hn9 (Option.some.inj e))
  have hBr11 := hid (show Br B B0 w V5 from ⟨hBr10.out.1.trans hBr.1, hBr10.out.2.trans hBr.2⟩)
  have hR11 := hid (show Rdr B V5 (zs.drop n) from by rw [List.drop_drop, ← hN] at hR5; exact hR5)
  rw [← hV.out]
  clear hR5 hBr r10 q10 hR10 hBr10 q90 q91
  have q90 := held_cell q11 0 _ rfl
  have q91 := held_cell q11 1 _ rfl
  have wm : IntKind.u64.wrap m = m := by rw [IntKind.wrap_u64]; omega
  by_cases c7 : m < val
  case pos =>
    have e := hid (hr2.out.trans (if_pos c7))
    have y0 := held_cell r11 0 _ rfl
    have y1 := held_cell r11 1 _ rfl
    have f0 := held_free r11 0
    have f1 := held_free r11 1
    obtain ⟨W4, hW4, ya, yO⟩ := st2 r11 (.int .i64 0) (.int .i64 0)
    have ez0 := held_cell ya 0 _ rfl
    have ez1 := held_cell ya 1 _ rfl
    have hBr4 := hid (show Br B B0 w W4 from ⟨belowS hBr11.out.1 yO (by omega), ⟨by rw [yO.size]; exact hBr11.out.2.size, fun k hk hne => (yO.block k (by omega)).trans (hBr11.out.2.block k hk hne)⟩⟩)
    clear yO ya
    go_wp2_with fail
    refine bodyPost_ret (v := .tuple #[.agg #[.int .i64 0, .int .i64 0], .int .i64 5]) (by simp [results, Try.results33, go_sem, ez0, ez1]) rfl ?_
    rw [e.out]
    exact ⟨rfl, fun h => by simp at h, hBr4.out⟩
  have e := hid (hr2.out.trans (if_neg c7))
  have wv : IntKind.i64.wrap val = val := by rw [IntKind.wrap_i64]; omega
  have y0 := held_cell r11 0 _ rfl
  have y1 := held_cell r11 1 _ rfl
  have f0 := held_free r11 0
  have f1 := held_free r11 1
  obtain ⟨W4, hW4, ya, yO⟩ := st2 r11 (.int .i64 key) (.int .i64 val)
  have ez0 := held_cell ya 0 _ rfl
  have ez1 := held_cell ya 1 _ rfl
  have hBr4 := hid (show Br B B0 w W4 from ⟨belowS hBr11.out.1 yO (by omega), ⟨by rw [yO.size]; exact hBr11.out.2.size, fun k hk hne => (yO.block k (by omega)).trans (hBr11.out.2.block k hk hne)⟩⟩)
  have hR4 := hid (show Rdr B W4 (zs.drop n) from by
    obtain ⟨a, cap, h1, h2⟩ := hR11.out
    exact ⟨a, cap, (yO.block B (fun e => nB e.symm)).trans h1, h2.other r11 (by intro i x hh; rcases i with _ | _ | i <;> simp at hh) (fun b hb => yO.block b hb)⟩)
  clear yO ya
  go_wp2_with fail
  refine bodyPost_ret (v := .tuple #[.agg #[.int .i64 key, .int .i64 val], .int .i64 0]) (by simp [results, Try.results33, go_sem, ez0, ez1]) rfl ?_
  rw [e.out]
  exact ⟨rfl, fun _ => hR4.out, hBr4.out⟩

end Go.Proofs.Ytdgmmndklmomkaa
