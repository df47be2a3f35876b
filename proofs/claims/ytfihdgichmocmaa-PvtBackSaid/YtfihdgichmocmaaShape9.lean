/- Package shape: a desk's takes; Take. -/
import Derived.Test.YtfihdgichmocmaaShape8
import Derived.Deep.DeepCutAuto
namespace Go.Proofs.Ytfihdgichmocmaa
open Go.ChangeShapes Go.WideShapes Go.ChangeAt Go.RowKit
set_option linter.unusedVariables false
set_option linter.unusedSimpArgs false

set_option maxRecDepth 100000 in
theorem way_field (a b : Value) (w : World) : (Instr.field 75 (.agg #[a, b]) 1).run Try.prog w = .ok b w := by rfl
theorem i64s : IntsOf Try.prog 30 2 .i64 8 := ⟨Try.underlying30, by kernel_rfl⟩
theorem Rdr.lt {B : Nat} {w : World} {zs : List Int} (h : Rdr B w zs) : B < w.heap.size := by
  obtain ⟨a, cap, h1, h2⟩ := h
  exact held_lt h1
theorem Rdr.after {B : Nat} {w w2 : World} {zs : List Int} (h : Rdr B w zs) (hA : After w w2) : Rdr B w2 zs := by
  obtain ⟨a, cap, h1, h2⟩ := h
  exact ⟨a, cap, held_after hA h1, h2.below hA⟩
theorem Rdr.row {B G : Nat} {w : World} {zs ys : List Int} (h : Rdr B w zs) {E : TypeId} (hR : Row .i64 E w G ys) (hne : B ≠ G) (j : Nat) (x : Int) : Rdr B (w.setCell ⟨G, j, none⟩ (.int .i64 x)) zs := by
  obtain ⟨a, cap, h1, h2⟩ := h
  refine ⟨a, cap, held_oth hne h1, h2.other hR (fun i y => ?_) (fun b hb => Below.heap_setCell _ _ _ _ hb)⟩
  intro e
  simp at e
theorem numF_take (sg : Bool) (n : Nat) (zs : List Int) (h : n ≤ zs.length) : numF sg n (zs.take n) = if sg then sgn n (numB (zs.take n) n) else IntKind.i64.wrap (numB (zs.take n) n : Nat) := rfl
set_option maxRecDepth 100000 in
set_option maxHeartbeats 2000000 in
theorem dtake_Plain (B B0 : Nat) (zs : List Int) (n : Nat) (n1 : 1 ≤ n) (n8 : n ≤ 8) (hn : n ≤ zs.length) (w : World) (hR : Rdr B w zs) (hz : ∀ x ∈ zs, (Lit.int .u8 x).wf = true) (hl : zs.length ≤ 1000000) (h1 : B0 ≤ B) (h2 : B0 ≤ w.heap.size) :
    Calls Try.prog 59 #[.agg #[.pointer (some ⟨B, 0, none⟩), .pointer none], .int .i64 n] w fun e w' => e = .returned (.int .i64 (numF false n (zs.take n))) ∧ Rdr B w' (zs.drop n) ∧ Br B B0 w w' := by
  have hRa : RSt B (w.alloc (.cells #[.pointer (some ⟨B, 0, none⟩), .pointer none] 70)) zs false := by unfold RSt; rw [if_neg (by simp)]; exact hR.after (alloc_new _ _).2.1
  have ho : okU zs false n = true := by unfold okU; simp; omega
  have hB0 := hid (Br.later (Br.refl B B0 w) (alloc_new w (.cells #[.pointer (some ⟨B, 0, none⟩), .pointer none] 70)).2.1 h2)
  have k := hid (ru_v B B0 zs false n _ hRa hz hl h1)
  clear hRa hz
  replace ho := hid ho
  replace hR := hid hR
  go_enter Try.func59, Try.ntmps59
  go_wp2_with fail
  refine k.out.mono ?_
  rintro e V ⟨rfl, hV, hB⟩
  rw [ho.out] at hV
  have ev : Go.RowKit.Hid (valU zs false n = numB (zs.take n) n) := hid (by unfold valU; rw [if_pos ho.out, Int.toNat_natCast])
  replace hV := hid hV
  replace hB := hid hB
  obtain ⟨vv, hvv⟩ : ∃ vv, valU zs false n = vv := ⟨_, rfl⟩
  rw [hvv] at ev ⊢
  clear hvv
  go_wp2_with fail
  go_ret
  have h9 := hV.out
  unfold RSt at h9
  rw [if_neg (by simp)] at h9
  unfold gotR at h9
  rw [if_pos rfl, Int.toNat_natCast] at h9
  refine ⟨ret_int ?_, h9, ⟨hB0.out.1.trans hB.out.1, hB0.out.2.trans hB.out.2⟩⟩
  rw [ev.out]
  show wrap64 _ = IntKind.i64.wrap _
  rw [IntKind.wrap_i64]
  generalize (numB (zs.take n) n : Int) = N
  unfold wrap64
  omega
set_option maxRecDepth 100000 in
set_option maxHeartbeats 2000000 in
theorem dtake_Signed (B B0 : Nat) (zs : List Int) (n : Nat) (n1 : 1 ≤ n) (n8 : n ≤ 8) (hn : n ≤ zs.length) (w : World) (hR : Rdr B w zs) (hz : ∀ x ∈ zs, (Lit.int .u8 x).wf = true) (hl : zs.length ≤ 1000000) (h1 : B0 ≤ B) (h2 : B0 ≤ w.heap.size) :
    Calls Try.prog 57 #[.agg #[.pointer (some ⟨B, 0, none⟩), .pointer none], .int .i64 n] w fun e w' => e = .returned (.int .i64 (numF true n (zs.take n))) ∧ Rdr B w' (zs.drop n) ∧ Br B B0 w w' := by
  have hRa : RSt B (w.alloc (.cells #[.pointer (some ⟨B, 0, none⟩), .pointer none] 70)) zs false := by unfold RSt; rw [if_neg (by simp)]; exact hR.after (alloc_new _ _).2.1
  have ho : okU zs false n = true := by unfold okU; simp; omega
  have hB0 := hid (Br.later (Br.refl B B0 w) (alloc_new w (.cells #[.pointer (some ⟨B, 0, none⟩), .pointer none] 70)).2.1 h2)
  have k := hid (ri_v B B0 zs false n _ hRa hz hl h1)
  clear hRa hz
  replace ho := hid ho
  replace hR := hid hR
  go_enter Try.func57, Try.ntmps57
  go_wp2_with fail
  refine k.out.mono ?_
  rintro e V ⟨rfl, hV, hB⟩
  rw [ho.out] at hV
  have ev : Go.RowKit.Hid (valI zs false n = sgn n (numB (zs.take n) n)) := hid (by unfold valI; rw [if_pos ho.out, Int.toNat_natCast])
  replace hV := hid hV
  replace hB := hid hB
  obtain ⟨vv, hvv⟩ : ∃ vv, valI zs false n = vv := ⟨_, rfl⟩
  rw [hvv] at ev ⊢
  clear hvv
  go_wp2_with fail
  go_ret
  have h9 := hV.out
  unfold RSt at h9
  rw [if_neg (by simp)] at h9
  unfold gotR at h9
  rw [if_pos rfl, Int.toNat_natCast] at h9
  refine ⟨ret_int ?_, h9, ⟨hB0.out.1.trans hB.out.1, hB0.out.2.trans hB.out.2⟩⟩
  rw [ev.out]
  rfl
/-- The numbers of bytes by a shape, or why there are none. -/
def takF (f0 : Nat → Int) (f1 : Nat → Bool) (f2 f3 : Nat → Int) (len : Nat) (bs : List Int) : List Int × Int :=
  if allR f0 f1 f2 f3 len = true then (if (bs.length : Int) < sumW f0 len then ([], 2) else if sumW f0 len < (bs.length : Int) then ([], 7) else if inV f2 f3 (numAt f0 f1 bs) len = true then ((List.range len).map (numAt f0 f1 bs), 0) else ([], 5)) else ([], 1)
def NsOk (w : World) (r : List Int × Int) (e : Ending) (w' : World) : Prop := ∃ a cap, e = .returned (.tuple #[.slice a r.1.length cap, .int .i64 r.2]) ∧ Own .i64 2 w' w.heap.size (.slice a r.1.length cap) r.1 ∧ After w w'
theorem NsOk.no {w w' : World} {n : Int} (h : After w w') : NsOk w ([], n) (.returned (.tuple #[.slice none 0 0, .int .i64 n])) w' := ⟨none, 0, rfl, Own.nil _ _ _ _, h⟩
/-- The first k numbers, zeros behind. -/
def vL (g : Nat → Int) (len k : Nat) : List Int := (List.range len).map (fun i => if i < k then g i else 0)
theorem vL_len (g : Nat → Int) (len k : Nat) : (vL g len k).length = len := by simp [vL]
theorem vL_0 (g : Nat → Int) (len : Nat) : vL g len 0 = List.replicate len 0 := by
  refine List.ext_getElem (by simp [vL]) fun i h1 h2 => by simp [vL]
theorem vL_next (g : Nat → Int) (len k : Nat) (h : k < len) : (vL g len k).set k (g k) = vL g len (k + 1) := by
  refine List.ext_getElem (by simp [vL]) fun i h1 h2 => ?_
  simp only [vL, List.getElem_set, List.getElem_map, List.getElem_range]
  by_cases c : k = i
  · subst c; simp
  · rw [if_neg c]
    by_cases d : i < k
    · rw [if_pos d, if_pos (by omega)]
    · rw [if_neg d, if_neg (by omega)]
theorem vL_all (g : Nat → Int) (len : Nat) : vL g len len = (List.range len).map g := by
  refine List.ext_getElem (by simp [vL]) fun i h1 h2 => ?_
  simp only [vL, List.length_map, List.length_range] at h1
  simp [vL, h1]
theorem vL_at (g : Nat → Int) (len k : Nat) (h : k < len) : (vL g len (k + 1)).getD k 0 = g k := by
  simp [vL, h]
set_option maxRecDepth 100000 in
set_option maxHeartbeats 4000000 in
theorem stake_any (a : Option Addr) (len cap : Nat) (f0 : Nat → Int) (f1 : Nat → Bool) (f2 f3 : Nat → Int) (ba : Option Addr) (bl bc : Nat) (zs : List Int) (w : World) (hF : Flds w a len cap f0 f1 f2 f3) (hS : Sl .u8 w ba bl bc zs) (hz : ∀ x ∈ zs, (Lit.int .u8 x).wf = true) (h200 : len ≤ 1000) (hbl : bl ≤ 100000) : Calls Try.prog 30 #[.slice a len cap, .slice ba bl bc] w (NsOk w (takF f0 f1 f2 f3 len zs)) := by
  have kr := fun v : World => fun h : Flds v a len cap f0 f1 f2 f3 => rightl_any a len cap f0 f1 f2 f3 v h
  have kw := fun v : World => fun h : Flds v a len cap f0 f1 f2 f3 => width_any a len cap f0 f1 f2 f3 v h h200
  have ezl := hS.1
  cases hal : allR f0 f1 f2 f3 len
  · have hV : takF f0 f1 f2 f3 len zs = ([], 1) := by unfold takF; rw [if_neg (by rw [hal]; simp)]
    rw [hV]
    rw [hal] at kr
    clear hV hal hz
    replace kr := hid kr
    replace kw := hid kw
    replace hF := hid hF
    replace hS := hid hS
    replace ezl := hid ezl
    go_enter Try.func30, Try.ntmps30
    go_wp2_with fail
    refine (kr.out _ hF.out).mono ?_
    rintro e V ⟨rfl, hst⟩
    replace hst := hid hst
    go_wp2_with fail
    go_ret2
    exact NsOk.no hst.out
  have hG : takF f0 f1 f2 f3 len zs = (if (zs.length : Int) < sumW f0 len then ([], 2) else if sumW f0 len < (zs.length : Int) then ([], 7) else if inV f2 f3 (numAt f0 f1 zs) len = true then ((List.range len).map (numAt f0 f1 zs), 0) else ([], 5)) := by unfold takF; rw [if_pos hal]
  obtain ⟨r, hr⟩ : ∃ r, takF f0 f1 f2 f3 len zs = r := ⟨_, rfl⟩
  rw [hr] at hG
  rw [hr]
  clear hr
  have hWd : widthS f0 f1 f2 f3 len = sumW f0 len := by unfold widthS; rw [if_pos hal]
  have sbd := sumW_bd hal len (Nat.le_refl _)
  have hsum := hid (fun k (hk : k ≤ len) => sumW_bd hal k hk)
  have hmono := hid (fun k (hk : k < len) => sumW_le hal (len - (k + 1)) (k + 1) (by omega))
  obtain ⟨SW, hSW⟩ : ∃ SW, sumW f0 len = SW := ⟨_, rfl⟩
  rw [hWd] at kw
  rw [hSW] at kw hG sbd
  rw [hal] at kr
  rw [ezl] at hG
  replace hG := hid hG
  replace hSW := hid hSW
  replace hal := hid hal
  replace hz := hid hz
  clear hWd
  replace kr := hid kr
  replace kw := hid kw
  replace hF := hid hF
  replace hS := hid hS
  replace ezl := hid ezl
  go_enter Try.func30, Try.ntmps30
  go_wp2_with fail
  refine (kr.out _ hF.out).mono ?_
  rintro e V ⟨rfl, hst⟩
  replace hst := hid hst
  go_wp2_with fail
  refine (kw.out _ (hF.out.below hst.out)).mono ?_
  rintro e VA ⟨rfl, hst2⟩
  replace hst := hid (bthen hst.out hst2)
  clear hst2
  by_cases c1 : (bl : Int) < SW
  case pos =>
    replace hG := hid (hG.out.trans (if_pos c1))
    go_wp2_with fail
    go_ret2
    rw [hG.out]
    exact NsOk.no hst.out
  replace hG := hid (hG.out.trans (if_neg c1))
  by_cases c2 : SW < (bl : Int)
  case pos =>
    replace hG := hid (hG.out.trans (if_pos c2))
    go_wp2_with fail
    go_ret2
    rw [hG.out]
    exact NsOk.no hst.out
  replace hG := hid (hG.out.trans (if_neg c2))
  have eSW : SW = bl := by omega
  replace eSW := hid eSW
  go_wp2_with fail
  refine (new_any ba bl bc zs _ (by omega) (hS.out.below hst.out)).mono ?_
  rintro e V0 ⟨B, rfl, hwB, hR0, hA0⟩
  have hszV := hst.out.size
  have hB0 := bthen hst.out hA0
  have nD := alloc_new V0 (.cells #[.pointer (some ⟨B, 0, none⟩), .pointer none] 70)
  have hR1 := hR0.after nD.2.1
  have hBl := hR0.lt
  have rD := nD.2.2
  have hB1 := balloc hB0 (Nat.le_refl _) (.cells #[.pointer (some ⟨B, 0, none⟩), .pointer none] 70)
  have dD : V0.heap.size ≠ B := by omega
  have hD0 : w.heap.size ≤ V0.heap.size := hB0.size
  have hsB : w.heap.size ≤ B := by omega
  have sz1 := nD.1
  clear hst hA0 hR0
  replace hB0 := hid hB0
  go_upto_region 9 with (fail)
  generalize V0.alloc (.cells #[.pointer (some ⟨B, 0, none⟩), .pointer none] 70) = V1 at *
  generalize V0.heap.size = D at *
  replace nD := hid nD
  replace hR1 := hid hR1
  replace rD := hid rD
  have hB1w := hB1.size
  replace hB1 := hid hB1
  go_wp2_with (first | (at_make; refine wpList_make V1 V1 rfl (.tmp 28) (.tmp 28) 30 rfl V1.heap.size 2 .i64 8 i64s len rfl rfl (by omega) (by unfold maxLen; omega) (Below.refl _ _) (Nat.le_refl _) ?_))
  intro V2 hRow hA2
  have hR2 := hid (hR1.out.after hA2)
  have rD2 := hid (held_after hA2 rD.out)
  have hB2 := hid (bthen hB1.out hA2)
  have dGB : B ≠ V1.heap.size := by omega
  have dGD : D ≠ V1.heap.size := by omega
  have hGw : w.heap.size ≤ V1.heap.size := hB1w
  rw [← vL_0 (numAt f0 f1 zs) len] at hRow
  generalize V1.heap.size = G at *
  clear hR1 rD hB1 hA2 hB0 nD
  replace hRow := hid hRow
  go_wp2_with fail
  obtain ⟨g, hgg⟩ : ∃ g, numAt f0 f1 zs = g := ⟨_, rfl⟩
  rw [hgg] at hRow hG
  replace hgg := hid hgg
  go_loopw [32] (fun i wr => ∃ k : Nat, k ≤ len ∧ i = .int .i64 k ∧ Go.RowKit.Hid (inV f2 f3 g k = true) ∧ wr.heap[D]? = some (.cells #[.pointer (some ⟨B, 0, none⟩), .pointer none] 70 (0, 0)) ∧ Rdr B wr (zs.drop (sumW f0 k).toNat) ∧ Row .i64 2 wr G (vL g len k) ∧ Below w.heap.size w wr) (fun i _ => len - (intOf i).toNat)
  case atStart => exact ⟨0, by omega, rfl, hid rfl, rD2.out, by simpa [sumW] using hR2.out, hRow.out, hB2.out⟩
  case round =>
    clear rD2 hR2 hRow hB2
    obtain ⟨k, hk, rfl, hd, rD, hR, hW, hB⟩ := hrel
    have hws := hB.size
    by_cases hlt : (k : Int) < len
    case neg =>
      obtain rfl : k = len := by omega
      replace hG := hid (hG.out.trans (if_pos hd.out))
      rw [vL_all] at hW
      have hO := hid (hW.own w.heap.size hGw (by simp; unfold maxLen; omega))
      have el : ((List.range k).map g).length = k := by simp
      replace hB := hid hB
      replace hR := hid hR
      replace rD := hid rD
      replace hW := hid hW
      replace el := hid el
      go_wp2_with fail
      go_ret2
      rw [hG.out]
      exact ⟨some ⟨G, 0, none⟩, k, by rw [el.out]; rfl, by have := hO.out; rw [el.out] at this ⊢; exact this, hB.out⟩
    have hlt2 : k < len := by omega
    obtain ⟨b, off, rfl, l0, l1, l2, l3⟩ := (hF.out.below hB).2.2.2 k hlt2
    have kz : (0 : Int) ≤ k := by omega
    have hri := right_sz (allR_at hal.out hlt2)
    have n1 := hri.1
    have n8 := hri.2.1
    clear hri
    have sb := hsum.out k (by omega)
    have sm := hmono.out k hlt2
    rw [show k + 1 + (len - (k + 1)) = len by omega, hSW.out, eSW.out] at sm
    have hsn : sumW f0 (k + 1) = sumW f0 k + f0 k := rfl
    have hgk : g k = numF (f1 k) (f0 k).toNat ((zs.drop (sumW f0 k).toNat).take (f0 k).toNat) := by rw [← hgg.out]; rfl
    have hlk : (zs.drop (sumW f0 k).toNat).length = bl - (sumW f0 k).toNat := by rw [List.length_drop, ezl.out]
    have hzd : ∀ x ∈ zs.drop (sumW f0 k).toNat, (Lit.int .u8 x).wf = true := fun x hx => hz.out x (List.mem_of_mem_drop hx)
    have hdd : (zs.drop (sumW f0 k).toNat).drop (f0 k).toNat = zs.drop (sumW f0 (k + 1)).toNat := by rw [List.drop_drop]; congr 1; omega
    have hle : (f0 k).toNat ≤ (zs.drop (sumW f0 k).toNat).length := by omega
    have hl6 : (zs.drop (sumW f0 k).toNat).length ≤ 1000000 := by omega
    have hy := fun (h1 : f2 k ≤ g k) (h2 : g k ≤ f3 k) => inV_yes hd.out h1 h2
    have hn := fun (h : ¬ (f2 k ≤ g k ∧ g k ≤ f3 k)) => inV_no h len hlt2
    have hvn := vL_next g len k hlt2
    have hva := vL_at g len k hlt2
    have hvl := vL_len g len k
    have hvl2 := vL_len g len (k + 1)
    generalize hx0 : f0 k = x0 at *
    generalize hx1 : f1 k = x1 at *
    generalize hx2 : f2 k = x2 at *
    generalize hx3 : f3 k = x3 at *
    generalize hy9 : g k = y at *
    generalize hYs : zs.drop (sumW f0 k).toNat = ys at *
    clear hx0 hx2 hx3 hy9 hYs hsn sb sm hlk
    obtain ⟨n, rfl⟩ := Int.eq_ofNat_of_zero_le (show 0 ≤ x0 by omega)
    rw [Int.toNat_natCast] at hgk hdd hle
    have n8b : n ≤ 8 := by omega
    have n1b : 1 ≤ n := by omega
    replace hy := hid hy
    replace hn := hid hn
    replace hgk := hid hgk
    replace hdd := hid hdd
    replace hzd := hid hzd
    replace hvn := hid hvn
    replace hva := hid hva
    replace hvl := hid hvl
    replace hvl2 := hid hvl2
    replace hR := hid hR
    replace hW := hid hW
    replace hle := hid hle
    replace hl6 := hid hl6
    replace hd := hid hd.out
    have kw2 := hid (fun W : World => within_any n x1 x2 x3 y W)
    clear hx1
    go_upto_region 12 with (fail)
    apply wp_region_seg0 (w := wr) (S := [.q [], .q [], .q [], .al 5, .q [], .st 3 []]) (E := [.q0 _, .q0 _, .q0 _, .al ((fun p => .pointer (some ⟨p, 0, none⟩)), _) 5, .q0 _, .s0 3 (.cells _ _)]) rfl (by kernel_rfl) rfl rfl
    intro th hge hne
    refine Seg.step _ rfl (Or.inl ⟨by rfl, fun U hU => vp_quiet (by (go_simp <;> exact rfl))⟩) ⟨_, by (simp only [Ent.val]; go_simp <;> exact rfl), ?_⟩
    refine Seg.step _ rfl (Or.inl ⟨by rfl, fun U hU => vp_quiet (by (go_simp <;> exact rfl))⟩) ⟨_, by (simp only [Ent.val]; go_simp <;> exact rfl), ?_⟩
    refine Seg.step _ rfl (Or.inl ⟨by rfl, fun U hU => vp_quiet (by (have h0 := hU.1.cellB l0; have h1 := hU.1.cellB l1; have h2 := hU.1.cellB l2; have h3 := hU.1.cellB l3; go_simp <;> exact rfl))⟩) ⟨_, by (simp only [Ent.val]; go_simp <;> exact rfl), ?_⟩
    refine Seg.step _ rfl ⟨by rfl, fun U hU => ?_⟩ ?_
    · go_simp; exact vp_alloc rfl rfl rfl
    refine ⟨_, by (simp only [Ent.val]; go_simp <;> exact rfl), ?_⟩
    refine Seg.step _ rfl (Or.inl ⟨by rfl, fun U hU => vp_quiet (by (go_simp <;> exact rfl))⟩) ⟨_, by (simp only [Ent.val]; go_simp <;> exact rfl), ?_⟩
    refine Seg.step _ rfl ⟨by rfl, fun U z k hz hU hc => ?_⟩ ?_
    · have hz2 := Option.some.inj hz
      cases hz2; clear hz
      exact vp_store_agg _ _ _ rfl hc rfl rfl (by kernel_rfl) rfl (by rfl)
    refine ⟨_, by (simp only [Ent.val]; go_simp <;> exact rfl), ?_⟩
    refine Seg.stop (fun U1 hU hk => ?_)
    have nb3 := hge 3 _ _ rfl
    have rb3 := (hk 3 _ 5 rfl trivial).1.1 trivial _ (Nat.zero_le _) rfl
    clear hk hge hne
    generalize th (0 + 3) = p12_3 at *
    simp only [Ent.obj] at rb3
    have df_D_p12_3 : D ≠ p12_3 := by have := held_lt rD; omega
    replace rD := held_after hU rD
    have r_p12_3 := rb3
    clear rb3
    have n_p12_3 := nb3
    clear nb3
    have sz1 := hU.size
    replace hB := bthen hB hU
    have hR6 := hid (hR.out.after hU)
    have hW6 := hid (hW.out.below hU)
    have hqw : wr.heap.size ≤ p12_3 := n_p12_3
    have ltB := hR.out.lt
    have ltG := hW.out.lt
    have dqB : p12_3 ≠ B := by omega
    have dqG : p12_3 ≠ G := by omega
    clear hU l0 l1 l2 l3 hR hW
    go_upto_region 13 with (fail)
    cases x1
    · obtain ⟨QQ, hQQ⟩ : ∃ QQ, U1.drew = QQ := ⟨_, rfl⟩
      have f0d := (show U1.drew.heap[p12_3]? = _ from r_p12_3)
      rw [hQQ] at f0d
      have fDd := (show U1.drew.heap[D]? = _ from rD)
      rw [hQQ] at fDd
      have hRd : Rdr B QQ ys := by rw [← hQQ]; exact hR6.out
      have hWd : Row .i64 2 QQ G (vL g len k) := by rw [← hQQ]; exact hW6.out
      have hBd : Below w.heap.size w QQ := by rw [← hQQ]; exact hB.drew
      have hszQ := hBd.size
      replace hRd := hid hRd
      replace hWd := hid hWd
      replace hBd := hid hBd
      have qb : some p12_3 ≠ some B := fun e => dqB (Option.some.inj e)
      have Db : some D ≠ some B := fun e => dD (Option.some.inj e)
      clear r_p12_3 rD hR6 hW6 hB
      skip
      refine wp_region_T (some B) 11 (by kernel_rfl) ?_
      refine wpAnyT_take 0 rfl (by kernel_rfl) (by kernel_rfl) (by kernel_rfl) (by kernel_rfl) (fun _ _ _ _ h => h) ⟨_, Or.inl ⟨by rfl, fun w2 hb2 => by (go_simp; try with_reducible rfl)⟩, _, by (go_simp; try rfl), ?_⟩
      refine wpAnyT_take 1 rfl (by kernel_rfl) (by kernel_rfl) (by kernel_rfl) (by kernel_rfl) (fun _ _ _ _ h => h) ⟨_, Or.inl ⟨by rfl, fun w2 hb2 => by (go_simp; try with_reducible rfl)⟩, _, by (go_simp; try rfl), ?_⟩
      refine wpAnyT_take 2 rfl (by kernel_rfl) (by kernel_rfl) (by kernel_rfl) (by kernel_rfl) (fun _ _ _ _ h => h) ⟨_, Or.inl ⟨by rfl, fun w2 hb2 => by (go_simp; try with_reducible rfl)⟩, _, by (go_simp; try rfl), ?_⟩
      refine wpAnyT_take 3 rfl (by kernel_rfl) (by kernel_rfl) (by kernel_rfl) (by kernel_rfl) (fun _ _ _ _ h => h) ⟨_, Or.inl ⟨by rfl, fun w2 hb2 => by (have hx0 := held_cell (hb2.held (show U1.drew.heap[_]? = _ from (by rw [hQQ]; exact f0d)) qb) 1 _ rfl; go_simp; try with_reducible rfl)⟩, _, by (go_simp; try rfl), ?_⟩
      refine wpAnyT_take 6 rfl (by kernel_rfl) (by kernel_rfl) (by kernel_rfl) (by kernel_rfl) (fun _ _ _ _ h => h) ⟨_, Or.inl ⟨by rfl, fun w2 hb2 => by (have hx0 := held_cell (hb2.held (show U1.drew.heap[_]? = _ from (by rw [hQQ]; exact fDd)) Db) 0 _ rfl; have hx1 := held_cell (hb2.held (show U1.drew.heap[_]? = _ from (by rw [hQQ]; exact fDd)) Db) 1 _ rfl; go_simp; try with_reducible rfl)⟩, _, by (go_simp; try rfl), ?_⟩
      refine wpAnyT_take 7 rfl (by kernel_rfl) (by kernel_rfl) (by kernel_rfl) (by kernel_rfl) (fun _ _ _ _ h => h) ⟨_, Or.inl ⟨by rfl, fun w2 hb2 => by (go_simp; try with_reducible rfl)⟩, _, by (go_simp; try rfl), ?_⟩
      refine wpAnyT_take 8 rfl (by kernel_rfl) (by kernel_rfl) (by kernel_rfl) (by kernel_rfl) (fun _ _ _ _ h => h) ⟨_, Or.inl ⟨by rfl, fun w2 hb2 => by (have hx0 := held_cell (hb2.held (show U1.drew.heap[_]? = _ from (by rw [hQQ]; exact f0d)) qb) 0 _ rfl; go_simp; try with_reducible rfl)⟩, _, by (go_simp; try rfl), ?_⟩
      refine wpAnyT_only 4 rfl (by kernel_rfl) (by rfl) (fun K hK => ?_)
      go_simp
      refine (way_false QQ).mono ?_
      rintro e V3 ⟨rfl, hA3⟩
      have hR3 := hid (hRd.out.after hA3)
      have hW3 := hid (hWd.out.below hA3)
      have hB3 := hid (hBd.out.trans (hA3.mono hszQ))
      have f3d := hid (held_after hA3 f0d)
      have D3d := hid (held_after hA3 fDd)
      have hsz3 := Nat.le_trans hszQ hA3.size
      go_simp
      refine hK _ _ ⟨fun _ => (by rw [hQQ]; exact rx_after hA3), ?_⟩
      clear hK
      clear hA3
      refine wpAnyT_take 5 rfl (by kernel_rfl) (by kernel_rfl) (by kernel_rfl) (by kernel_rfl) (fun _ _ _ _ h => h) ⟨_, Or.inl ⟨by rfl, fun w2 hb2 => by (have hfl := way_field (.func (.func 58) #[] #[]) (.func (.func 59) #[] #[]) w2; go_simp; try with_reducible rfl)⟩, _, by (go_simp; try rfl), ?_⟩
      refine wpAnyT_only 9 rfl (by kernel_rfl) (by rfl) (fun K hK => ?_)
      go_simp
      refine (dtake_Plain B w.heap.size ys n n1b n8b hle.out V3 hR3.out hzd.out hl6.out hsB hsz3).mono ?_
      rintro e V4 ⟨rfl, hR4, hBr⟩
      have hX4 := hBr.2
      have hB4 := hid (hB3.out.trans hBr.1)
      have hW4 : Row .i64 2 V4 G (vL g len k) := (hX4.block G hW3.out.lt (fun e => dGB (Option.some.inj e).symm)).trans hW3.out
      have f4 := hX4.held f3d.out qb
      have D4 := hid (hX4.held D3d.out Db)
      rw [hdd.out] at hR4
      rw [← hgk.out]
      have wc := hW4.cellAt k (by rw [hvl.out]; exact hlt2)
      have wf := hW4.free k
      have hW5 := hW4.set k y
      rw [hvn.out] at hW5
      have hR5 := hid (hR4.row hW4 dGB k y)
      have hB5 := hid (hB4.out.setCell (p := ⟨G, k, none⟩) hGw (.int .i64 y))
      have f5 := held_oth (j := k) (v := .int .i64 y) dqG f4
      have D5 := hid (held_oth (j := k) (v := .int .i64 y) dGD D4.out)
      replace hW5 := hid hW5
      clear hW4 f4 hR4
      go_simp
      refine hK _ _ ⟨fun _ => hX4, ?_⟩
      clear hK
      clear hX4 hBr
      refine wpAnyT_take 10 rfl (by kernel_rfl) (by kernel_rfl) (by kernel_rfl) (by kernel_rfl) (fun _ _ _ _ h => h) ⟨_, Or.inl ⟨by rfl, fun w2 hb2 => by (go_simp; try with_reducible rfl)⟩, _, by (go_simp; try rfl), ?_⟩
      refine wpAnyT_only 11 rfl (by kernel_rfl) (by rfl) (fun K hK => ?_)
      go_simp
      refine hK _ _ ⟨fun h => (h rfl).elim, ?_⟩
      clear hK
      refine wpAnyT_done (by kernel_rfl) ?_ _
      generalize (V4.setCell ⟨G, k, none⟩ (.int .i64 y)) = V5 at *
      clear wc wf f0d fDd
      have s0 := hW5.out.cellAt k (by rw [hvl2.out]; exact hlt2)
      rw [hva.out] at s0
      go_upto_region 14 with (fail)
      have hB := hB5.out
      apply wp_region_seg (w := V5) (S := [.q [], .q [], .q [], .q [], .q [], .q [], .q []]) (E := [.q0 _, .q0 _, .q0 _, .q0 _, .q0 _, .c0 _, .q0 _]) (by kernel_rfl) rfl (by kernel_rfl) rfl rfl
      intro th hge hne
      refine Seg.step _ rfl (Or.inl ⟨by rfl, fun U hU => vp_quiet (by (have h0 := held_cell (held_after hU.1 f5) 0 _ rfl; have h1 := held_cell (held_after hU.1 f5) 1 _ rfl; have h2 := held_cell (held_after hU.1 f5) 2 _ rfl; have h3 := held_cell (held_after hU.1 f5) 3 _ rfl; go_simp <;> exact rfl))⟩) ⟨_, by (simp only [Ent.val]; go_simp <;> exact rfl), ?_⟩
      refine Seg.step _ rfl (Or.inl ⟨by rfl, fun U hU => vp_quiet (by (go_simp <;> exact rfl))⟩) ⟨_, by (simp only [Ent.val]; go_simp <;> exact rfl), ?_⟩
      refine Seg.step _ rfl (Or.inl ⟨by rfl, fun U hU => vp_quiet (by (go_simp <;> exact rfl))⟩) ⟨_, by (simp only [Ent.val]; go_simp <;> exact rfl), ?_⟩
      refine Seg.step _ rfl (Or.inl ⟨by rfl, fun U hU => vp_quiet (by (go_simp <;> exact rfl))⟩) ⟨_, by (simp only [Ent.val]; go_simp <;> exact rfl), ?_⟩
      refine Seg.step _ rfl (Or.inl ⟨by rfl, fun U hU => vp_quiet (by (have hv := hU.1.cellB s0; go_simp <;> exact rfl))⟩) ⟨_, by (simp only [Ent.val]; go_simp <;> exact rfl), ?_⟩
      refine Seg.step _ rfl (Or.inl ⟨by rfl, fun U hU => ?_⟩) ?_
      · go_simp
        refine vp_call (kw2.out _)
      refine ⟨_, by (simp only [Ent.val]; go_simp <;> exact rfl), ?_⟩
      refine Seg.step _ rfl (Or.inl ⟨by rfl, fun U hU => vp_quiet (by (go_simp <;> exact rfl))⟩) ⟨_, by (simp only [Ent.val]; go_simp <;> exact rfl), ?_⟩
      refine Seg.stop (fun U6 hU hk => ?_)
      clear hk hge hne
      replace f5 := held_after hU f5
      have sz6 := hU.size
      replace hB := bthen hB hU
      have hR9 := hid (hR5.out.after hU)
      have hW9 := hid (hW5.out.below hU)
      have D9 := hid (held_after hU D5.out)
      clear hU s0
      replace hB := hid hB
      by_cases hwi : x2 ≤ y ∧ y ≤ x3
      case neg =>
        have hwb : withB x2 x3 y = false := by
          unfold withB
          by_cases c : x2 ≤ y
          · have c2 : ¬ y ≤ x3 := fun h => hwi ⟨c, h⟩
            simp [c2]
          · simp [c]
        rw [hwb]
        replace hG := hid (hG.out.trans (if_neg (by rw [hn.out hwi]; simp)))
        go_wp2_with fail
        go_ret2
        rw [hG.out]
        exact NsOk.no hB.out
      have hwb : withB x2 x3 y = true := by unfold withB; simp [hwi.1, hwi.2]
      rw [hwb]
      replace hd := hid (hy.out hwi.1 hwi.2)
      go_wp2_with fail
      go_roundw
      case rel => exact ⟨k + 1, by omega, by simp, hd, D9.out, hR9.out, hW9.out, hB.out⟩
      case measure => simp [intOf]; omega
    · obtain ⟨QQ, hQQ⟩ : ∃ QQ, U1.drew = QQ := ⟨_, rfl⟩
      have f0d := (show U1.drew.heap[p12_3]? = _ from r_p12_3)
      rw [hQQ] at f0d
      have fDd := (show U1.drew.heap[D]? = _ from rD)
      rw [hQQ] at fDd
      have hRd : Rdr B QQ ys := by rw [← hQQ]; exact hR6.out
      have hWd : Row .i64 2 QQ G (vL g len k) := by rw [← hQQ]; exact hW6.out
      have hBd : Below w.heap.size w QQ := by rw [← hQQ]; exact hB.drew
      have hszQ := hBd.size
      replace hRd := hid hRd
      replace hWd := hid hWd
      replace hBd := hid hBd
      have qb : some p12_3 ≠ some B := fun e => dqB (Option.some.inj e)
      have Db : some D ≠ some B := fun e => dD (Option.some.inj e)
      clear r_p12_3 rD hR6 hW6 hB
      skip
      refine wp_region_T (some B) 11 (by kernel_rfl) ?_
      refine wpAnyT_take 0 rfl (by kernel_rfl) (by kernel_rfl) (by kernel_rfl) (by kernel_rfl) (fun _ _ _ _ h => h) ⟨_, Or.inl ⟨by rfl, fun w2 hb2 => by (go_simp; try with_reducible rfl)⟩, _, by (go_simp; try rfl), ?_⟩
      refine wpAnyT_take 1 rfl (by kernel_rfl) (by kernel_rfl) (by kernel_rfl) (by kernel_rfl) (fun _ _ _ _ h => h) ⟨_, Or.inl ⟨by rfl, fun w2 hb2 => by (go_simp; try with_reducible rfl)⟩, _, by (go_simp; try rfl), ?_⟩
      refine wpAnyT_take 2 rfl (by kernel_rfl) (by kernel_rfl) (by kernel_rfl) (by kernel_rfl) (fun _ _ _ _ h => h) ⟨_, Or.inl ⟨by rfl, fun w2 hb2 => by (go_simp; try with_reducible rfl)⟩, _, by (go_simp; try rfl), ?_⟩
      refine wpAnyT_take 3 rfl (by kernel_rfl) (by kernel_rfl) (by kernel_rfl) (by kernel_rfl) (fun _ _ _ _ h => h) ⟨_, Or.inl ⟨by rfl, fun w2 hb2 => by (have hx0 := held_cell (hb2.held (show U1.drew.heap[_]? = _ from (by rw [hQQ]; exact f0d)) qb) 1 _ rfl; go_simp; try with_reducible rfl)⟩, _, by (go_simp; try rfl), ?_⟩
      refine wpAnyT_take 6 rfl (by kernel_rfl) (by kernel_rfl) (by kernel_rfl) (by kernel_rfl) (fun _ _ _ _ h => h) ⟨_, Or.inl ⟨by rfl, fun w2 hb2 => by (have hx0 := held_cell (hb2.held (show U1.drew.heap[_]? = _ from (by rw [hQQ]; exact fDd)) Db) 0 _ rfl; have hx1 := held_cell (hb2.held (show U1.drew.heap[_]? = _ from (by rw [hQQ]; exact fDd)) Db) 1 _ rfl; go_simp; try with_reducible rfl)⟩, _, by (go_simp; try rfl), ?_⟩
      refine wpAnyT_take 7 rfl (by kernel_rfl) (by kernel_rfl) (by kernel_rfl) (by kernel_rfl) (fun _ _ _ _ h => h) ⟨_, Or.inl ⟨by rfl, fun w2 hb2 => by (go_simp; try with_reducible rfl)⟩, _, by (go_simp; try rfl), ?_⟩
      refine wpAnyT_take 8 rfl (by kernel_rfl) (by kernel_rfl) (by kernel_rfl) (by kernel_rfl) (fun _ _ _ _ h => h) ⟨_, Or.inl ⟨by rfl, fun w2 hb2 => by (have hx0 := held_cell (hb2.held (show U1.drew.heap[_]? = _ from (by rw [hQQ]; exact f0d)) qb) 0 _ rfl; go_simp; try with_reducible rfl)⟩, _, by (go_simp; try rfl), ?_⟩
      refine wpAnyT_only 4 rfl (by kernel_rfl) (by rfl) (fun K hK => ?_)
      go_simp
      refine (way_true QQ).mono ?_
      rintro e V3 ⟨rfl, hA3⟩
      have hR3 := hid (hRd.out.after hA3)
      have hW3 := hid (hWd.out.below hA3)
      have hB3 := hid (hBd.out.trans (hA3.mono hszQ))
      have f3d := hid (held_after hA3 f0d)
      have D3d := hid (held_after hA3 fDd)
      have hsz3 := Nat.le_trans hszQ hA3.size
      go_simp
      refine hK _ _ ⟨fun _ => (by rw [hQQ]; exact rx_after hA3), ?_⟩
      clear hK
      clear hA3
      refine wpAnyT_take 5 rfl (by kernel_rfl) (by kernel_rfl) (by kernel_rfl) (by kernel_rfl) (fun _ _ _ _ h => h) ⟨_, Or.inl ⟨by rfl, fun w2 hb2 => by (have hfl := way_field (.func (.func 56) #[] #[]) (.func (.func 57) #[] #[]) w2; go_simp; try with_reducible rfl)⟩, _, by (go_simp; try rfl), ?_⟩
      refine wpAnyT_only 9 rfl (by kernel_rfl) (by rfl) (fun K hK => ?_)
      go_simp
      refine (dtake_Signed B w.heap.size ys n n1b n8b hle.out V3 hR3.out hzd.out hl6.out hsB hsz3).mono ?_
      rintro e V4 ⟨rfl, hR4, hBr⟩
      have hX4 := hBr.2
      have hB4 := hid (hB3.out.trans hBr.1)
      have hW4 : Row .i64 2 V4 G (vL g len k) := (hX4.block G hW3.out.lt (fun e => dGB (Option.some.inj e).symm)).trans hW3.out
      have f4 := hX4.held f3d.out qb
      have D4 := hid (hX4.held D3d.out Db)
      rw [hdd.out] at hR4
      rw [← hgk.out]
      have wc := hW4.cellAt k (by rw [hvl.out]; exact hlt2)
      have wf := hW4.free k
      have hW5 := hW4.set k y
      rw [hvn.out] at hW5
      have hR5 := hid (hR4.row hW4 dGB k y)
      have hB5 := hid (hB4.out.setCell (p := ⟨G, k, none⟩) hGw (.int .i64 y))
      have f5 := held_oth (j := k) (v := .int .i64 y) dqG f4
      have D5 := hid (held_oth (j := k) (v := .int .i64 y) dGD D4.out)
      replace hW5 := hid hW5
      clear hW4 f4 hR4
      go_simp
      refine hK _ _ ⟨fun _ => hX4, ?_⟩
      clear hK
      clear hX4 hBr
      refine wpAnyT_take 10 rfl (by kernel_rfl) (by kernel_rfl) (by kernel_rfl) (by kernel_rfl) (fun _ _ _ _ h => h) ⟨_, Or.inl ⟨by rfl, fun w2 hb2 => by (go_simp; try with_reducible rfl)⟩, _, by (go_simp; try rfl), ?_⟩
      refine wpAnyT_only 11 rfl (by kernel_rfl) (by rfl) (fun K hK => ?_)
      go_simp
      refine hK _ _ ⟨fun h => (h rfl).elim, ?_⟩
      clear hK
      refine wpAnyT_done (by kernel_rfl) ?_ _
      generalize (V4.setCell ⟨G, k, none⟩ (.int .i64 y)) = V5 at *
      clear wc wf f0d fDd
      have s0 := hW5.out.cellAt k (by rw [hvl2.out]; exact hlt2)
      rw [hva.out] at s0
      go_upto_region 14 with (fail)
      have hB := hB5.out
      apply wp_region_seg (w := V5) (S := [.q [], .q [], .q [], .q [], .q [], .q [], .q []]) (E := [.q0 _, .q0 _, .q0 _, .q0 _, .q0 _, .c0 _, .q0 _]) (by kernel_rfl) rfl (by kernel_rfl) rfl rfl
      intro th hge hne
      refine Seg.step _ rfl (Or.inl ⟨by rfl, fun U hU => vp_quiet (by (have h0 := held_cell (held_after hU.1 f5) 0 _ rfl; have h1 := held_cell (held_after hU.1 f5) 1 _ rfl; have h2 := held_cell (held_after hU.1 f5) 2 _ rfl; have h3 := held_cell (held_after hU.1 f5) 3 _ rfl; go_simp <;> exact rfl))⟩) ⟨_, by (simp only [Ent.val]; go_simp <;> exact rfl), ?_⟩
      refine Seg.step _ rfl (Or.inl ⟨by rfl, fun U hU => vp_quiet (by (go_simp <;> exact rfl))⟩) ⟨_, by (simp only [Ent.val]; go_simp <;> exact rfl), ?_⟩
      refine Seg.step _ rfl (Or.inl ⟨by rfl, fun U hU => vp_quiet (by (go_simp <;> exact rfl))⟩) ⟨_, by (simp only [Ent.val]; go_simp <;> exact rfl), ?_⟩
      refine Seg.step _ rfl (Or.inl ⟨by rfl, fun U hU => vp_quiet (by (go_simp <;> exact rfl))⟩) ⟨_, by (simp only [Ent.val]; go_simp <;> exact rfl), ?_⟩
      refine Seg.step _ rfl (Or.inl ⟨by rfl, fun U hU => vp_quiet (by (have hv := hU.1.cellB s0; go_simp <;> exact rfl))⟩) ⟨_, by (simp only [Ent.val]; go_simp <;> exact rfl), ?_⟩
      refine Seg.step _ rfl (Or.inl ⟨by rfl, fun U hU => ?_⟩) ?_
      · go_simp
        refine vp_call (kw2.out _)
      refine ⟨_, by (simp only [Ent.val]; go_simp <;> exact rfl), ?_⟩
      refine Seg.step _ rfl (Or.inl ⟨by rfl, fun U hU => vp_quiet (by (go_simp <;> exact rfl))⟩) ⟨_, by (simp only [Ent.val]; go_simp <;> exact rfl), ?_⟩
      refine Seg.stop (fun U6 hU hk => ?_)
      clear hk hge hne
      replace f5 := held_after hU f5
      have sz6 := hU.size
      replace hB := bthen hB hU
      have hR9 := hid (hR5.out.after hU)
      have hW9 := hid (hW5.out.below hU)
      have D9 := hid (held_after hU D5.out)
      clear hU s0
      replace hB := hid hB
      by_cases hwi : x2 ≤ y ∧ y ≤ x3
      case neg =>
        have hwb : withB x2 x3 y = false := by
          unfold withB
          by_cases c : x2 ≤ y
          · have c2 : ¬ y ≤ x3 := fun h => hwi ⟨c, h⟩
            simp [c2]
          · simp [c]
        rw [hwb]
        replace hG := hid (hG.out.trans (if_neg (by rw [hn.out hwi]; simp)))
        go_wp2_with fail
        go_ret2
        rw [hG.out]
        exact NsOk.no hB.out
      have hwb : withB x2 x3 y = true := by unfold withB; simp [hwi.1, hwi.2]
      rw [hwb]
      replace hd := hid (hy.out hwi.1 hwi.2)
      go_wp2_with fail
      go_roundw
      case rel => exact ⟨k + 1, by omega, by simp, hd, D9.out, hR9.out, hW9.out, hB.out⟩
      case measure => simp [intOf]; omega

end Go.Proofs.Ytfihdgichmocmaa
