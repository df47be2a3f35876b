/- Several texts in one: Gsv8, GsvK, GsvS, GsvM. -/
import Derived.Test.YtobgibmpodggkaaDoorGV2
import Derived.Test.YtobgibmpodggkaaDoorGV1
import Derived.Laws.Tables
import Derived.Laws.StructEq
import Derived.Deep.DeepCutAuto

/- A book's Add. -/
namespace Go.Proofs.YtobgibmpodggkaaDoor
open Go.ChangeShapes Go.WideShapes Go.ChangeAt Go.RowKit
set_option linter.unusedVariables false
set_option linter.unusedSimpArgs false

theorem viO : CellsOf Tryd.prog 22 69 8 64 := ⟨Tryd.underlying22, by kernel_rfl⟩
set_option maxRecDepth 100000 in
set_option maxHeartbeats 2000000 in
theorem clonev29_any (a : Option Addr) (len cap : Nat) (xs : List (List Value)) (w : World) (hl : len ≤ 1000) (hE : Els w 8 a len cap xs) (h1 : ∀ y ∈ xs, ∀ u ∈ y, u.oneCell' = true) : Calls Tryd.prog 43 #[.slice a len cap] w fun e w' => ∃ a' cap', e = .returned (.slice a' len cap') ∧ Els w' 8 a' len cap' xs ∧ After w w' ∧ (∀ x, a' = some x → w.heap.size ≤ x.block ∧ x.block < w'.heap.size) := by
  cases a with
  | none =>
    obtain ⟨q1, q2, q3, q4, q5⟩ := hE
    obtain rfl : cap = 0 := q4 rfl
    obtain rfl : len = 0 := by omega
    obtain rfl : xs = [] := List.eq_nil_of_length_eq_zero q1
    have hnil := run_eql_slice_nil (P := Tryd.prog) w 22 69 none 0 0 Tryd.underlying22
    go_enter Tryd.func43, Tryd.ntmps43
    go_wp2_with fail
    go_ret
    exact ⟨none, 0, rfl, Els.nil _ _, After.refl _, fun x hx => by cases hx⟩
  | some x =>
    have hA := (alloc_new w (.cells #[] 69)).2.1
    have hO := OwnE.lit (E := 69) w #[] 0 w.heap.size 8 (Nat.le_refl _) (by unfold maxLen; omega) rfl
    have hE2 := hE.below hA
    have sA := hA.size
    have hnil := run_eql_slice_nil (P := Tryd.prog) w 22 69 (some x) len cap Tryd.underlying22
    have hm : ∀ y ∈ xs, y.length = 8 := fun y hy => by obtain ⟨i, hi, rfl⟩ := List.getElem_of_mem hy; exact (hE.2.2.2.2 i _ (List.getElem?_eq_getElem hi)).1
    have hlx := hE.1
    replace hE2 := hid hE2
    replace hE := hid hE
    replace hm := hid hm
    replace hlx := hid hlx
    replace hA := hid hA
    replace hO := hid hO
    go_enter Tryd.func43, Tryd.ntmps43
    go_wp2_with (first | (at_builtin; refine wpList_appE rfl (.tmp 5) (.tmp 6) 22 rfl w.heap.size 69 8 64 viO (by decide) (.slice (some ⟨w.heap.size, 0, none⟩) 0 0) 0 [] rfl hO.out (some x) len cap xs rfl hE2.out h1 (by unfold maxLen; omega) (by omega) sA ?_))
    try simp only [Nat.zero_add, List.nil_append]
    intro a' cap' W9 hO9 hG hN
    try simp only [Nat.zero_add, List.nil_append] at hO9 hN
    have hfin := hid (hO9.els hlx.out hm.out)
    have hnw := hid (fun x (hx : a' = some x) => (show w.heap.size ≤ x.block ∧ x.block < W9.heap.size from by subst hx; have := hO9.lt x.block rfl; omega))
    have hB9 := hid (hA.out.grown hG sA (fun k e => (hO.out.lt k e).1))
    clear hO9 hG hN
    go_wp2_with fail
    go_ret
    exact ⟨a', cap', by simp, hfin.out, hB9.out, hnw.out⟩
theorem Els.kept29 {w w' : World} {m : Nat} {a : Option Addr} {len cap : Nat} {xs : List (List Value)} (h : Els w m a len cap xs) (hk : ∀ x, a = some x → 0 < len → w'.heap[x.block]? = w.heap[x.block]?) : Els w' m a len cap xs :=
  ⟨h.1, h.2.1, h.2.2.1, h.2.2.2.1, fun i x hx => by
    obtain ⟨h1, b, off, e, hc⟩ := h.2.2.2.2 i x hx
    exact ⟨h1, b, off, e, fun j v hj => (World.cell?_of_block (w := w) (a := ⟨b, off + i * m + j, none⟩) (hk ⟨b, off, none⟩ e (by have := (List.getElem?_eq_some_iff.1 hx).1; have := h.1; omega))).trans (hc j v hj)⟩⟩
theorem pset29 {N B : Nat} {w w' : World} {c : Array Value} {T : TypeId} {u v : Value} (h : w.heap[B]? = some (.cells c T (0, 0))) (hN : N ≤ B) (hc : 3 < c.size) (hS : (w.setCell ⟨B, 1, none⟩ u).setCell ⟨B, 2, none⟩ v = w') : PEff N B 3 w w' := by
  subst hS
  exact (PEff.cell hN h (by decide) hc rfl (Only.set B 1 u w)).trans (PEff.cell hN (held_set h 1 u) (by decide) (by simpa using hc) rfl (Only.set B 2 v _))
theorem enV_one (vs : List V4) : ∀ y ∈ vs.map enV, ∀ u ∈ y, u.oneCell' = true := by
  intro y hy u hu
  obtain ⟨v, -, rfl⟩ := List.mem_map.1 hy
  simp only [enV, List.mem_cons, List.not_mem_nil, or_false] at hu
  rcases hu with rfl | rfl | rfl | rfl | rfl | rfl | rfl | rfl <;> rfl
theorem enV_m (vs : List V4) : ∀ x ∈ vs.map enV, x.length = 8 := by
  intro y hy
  obtain ⟨v, -, rfl⟩ := List.mem_map.1 hy
  rfl
/-- What a book is and tells when a message comes. -/
def addS (t n : Int) (ls : List V4) (tt no : Int) (vs : List V4) : (Int × Int × List V4) × Option (List V4) :=
  if rgB tt no vs.length = true ∧ (no = 1 ∨ (t = tt ∧ n = no)) then
    (if no < tt then ((tt, no + 1, (if no = 1 then [] else ls) ++ vs), none) else ((0, 0, []), some ((if no = 1 then [] else ls) ++ vs)))
  else ((0, 0, []), none)
theorem addS_no {t n : Int} {ls : List V4} {tt no : Int} {vs : List V4} (h : ¬ (rgB tt no vs.length = true ∧ (no = 1 ∨ (t = tt ∧ n = no)))) : addS t n ls tt no vs = ((0, 0, []), none) := if_neg h
theorem addS_more {t n : Int} {ls l1 : List V4} {tt no : Int} {vs : List V4} (h : rgB tt no vs.length = true ∧ (no = 1 ∨ (t = tt ∧ n = no))) (h1 : (if no = 1 then [] else ls) = l1) (h2 : no < tt) : addS t n ls tt no vs = ((tt, no + 1, l1 ++ vs), none) := by
  unfold addS; rw [if_pos h, if_pos h2, h1]
theorem addS_last {t n : Int} {ls l1 : List V4} {tt no : Int} {vs : List V4} (h : rgB tt no vs.length = true ∧ (no = 1 ∨ (t = tt ∧ n = no))) (h1 : (if no = 1 then [] else ls) = l1) (h2 : ¬ no < tt) : addS t n ls tt no vs = ((0, 0, []), some (l1 ++ vs)) := by
  unfold addS; rw [if_pos h, if_neg h2, h1]
/-- A book in memory. -/
def BkIn (N B : Nat) (t n : Int) (ls : List V4) (w : World) : Prop := ∃ (a : Option Addr) (len cap : Nat), w.heap[B]? = some (.cells #[.bool true, .int .i64 t, .int .i64 n, .slice a len cap] 56 (0, 0)) ∧ OwnE 69 w N 8 (.slice a len cap) len (ls.map enV).flatten ∧ ls.length = len
theorem BkIn.aft {N B : Nat} {t n : Int} {ls : List V4} {w w2 : World} (h : BkIn N B t n ls w) (hA : After w w2) : BkIn N B t n ls w2 := by
  obtain ⟨a, len, cap, h1, h2, h3⟩ := h
  exact ⟨a, len, cap, held_after hA h1, h2.below hA, h3⟩
theorem BkIn.lt {N B : Nat} {t n : Int} {ls : List V4} {w : World} (h : BkIn N B t n ls w) : B < w.heap.size := by
  obtain ⟨_, _, _, h1, _⟩ := h
  exact held_lt h1
theorem BkIn.besides {N B D : Nat} {t n : Int} {ls : List V4} {w w2 : World} {c : Array Value} {T : TypeId} (h : BkIn N B t n ls w) (hK : PEff N B 3 w w2) (hD : w.heap[D]? = some (.cells c T (0, 0))) (hne : D ≠ B) (hT : T ≠ 69) : w2.heap[D]? = some (.cells c T (0, 0)) := by
  obtain ⟨a, len, cap, h1, h2, -⟩ := h
  rw [hK.owp.block D (held_lt hD) hne (by rw [wown_at h1 (j := 3) rfl]; exact fun e => h2.ne hD hT e.symm)]
  exact hD
/-- How a message is answered. -/
def AdOk (N B : Nat) (w : World) (s : (Int × Int × List V4) × Option (List V4)) (r : Ending) (w' : World) : Prop :=
  BkIn N B s.1.1 s.1.2.1 s.1.2.2 w' ∧ PEff N B 3 w w' ∧ ∃ (a : Option Addr) (n c : Nat), r = .returned (.tuple #[.slice a n c, .bool s.2.isSome]) ∧ Els w' 8 a n c ((s.2.getD []).map enV) ∧ (∀ x, a = some x → w.heap.size ≤ x.block)
theorem ad_no {N B : Nat} {w w' : World} {a : Option Addr} {cap : Nat} (h1 : w'.heap[B]? = some (.cells #[.bool true, .int .i64 0, .int .i64 0, .slice a 0 cap] 56 (0, 0))) (h2 : OwnE 69 w' N 8 (.slice a 0 cap) 0 []) (h3 : PEff N B 3 w w') : AdOk N B w ((0, 0, []), none) (.returned (.tuple #[.slice none 0 0, .bool false])) w' :=
  ⟨⟨a, 0, cap, h1, h2, rfl⟩, h3, none, 0, 0, rfl, Els.nil _ _, fun x hx => (by cases hx)⟩
theorem ownE_full {E : TypeId} {w : World} {base m : Nat} {a : Option Addr} {len cap : Nat} {xs : List Value} (h : OwnE E w base m (.slice a len cap) len xs) : OwnE E w base m (.slice a len len) len xs ∧ len ≤ cap := by
  obtain ⟨h1, h2⟩ := h
  rcases h2 with ⟨e, h3⟩ | ⟨g, c, cur, e, r1, r2, r3, r4, r5, r6⟩
  · injection e with e1 e2 e3
    subst e1 e2 e3
    exact ⟨⟨h1, .inl ⟨rfl, h3⟩⟩, Nat.le_refl _⟩
  · injection e with e1 e2 e3
    subst e1 e3
    exact ⟨⟨h1, .inr ⟨g, len, cur, rfl, r1, r2, Nat.le_refl _, by omega, Nat.le_trans (Nat.mul_le_mul_right m r3) r5, r6⟩⟩, r3⟩
set_option maxRecDepth 100000 in
theorem cutF29 (a : Option Addr) (len cap : Nat) (hc : len ≤ cap) (W : World) : (Instr.slice 22 (.slice a len cap) none (some (.int .i64 (len : Int))) (some (.int .i64 (len : Int)))).run Tryd.prog W = .ok (.slice a len len) W := by
  have az : a.map (fun x => x.add 0) = a := by
    cases a with
    | none => rfl
    | some q => cases q; rfl
  rw [run_slice_hm W 22 a len cap (by rfl) .i64 .i64 (len : Int) (len : Int) (by omega) (by omega) (by omega)]
  by_cases e : len = 0
  · go_simp <;> simp [sliced, e]
  · go_simp <;> simp [sliced, e, az]
set_option maxRecDepth 100000 in
set_option maxHeartbeats 2000000 in
theorem eqW29 (t n tt no : Int) (w : World) : (Op.equalIn 10000 54 (.agg #[.int .i64 t, .int .i64 n]) (.agg #[.int .i64 tt, .int .i64 no])).run Tryd.prog w = .ok (decide (t = tt ∧ n = no)) w := by
  rw [show (10000 : Nat) = 9999 + 1 from rfl, run_equalIn_agg w 9999 _ _ _ (by kernel_rfl) (by kernel_rfl)]
  by_cases c1 : t = tt
  · subst c1
    have b1 : (t == t) = true := beq_self_eq_true t
    by_cases c2 : n = no
    · subst c2
      have b2 : (n == n) = true := beq_self_eq_true n
      go_simp
    · have b2 : (n == no) = false := by simpa using c2
      have d : decide (n = no) = false := by simpa using c2
      go_simp
  · have b1 : (t == tt) = false := by simpa using c1
    have d : decide (t = tt ∧ n = no) = false := by simp [c1]
    rw [d]
    go_simp
set_option maxRecDepth 100000 in
set_option maxHeartbeats 2000000 in
theorem baddnil29_any (tt no sn : Int) (va : Option Addr) (vn vc : Nat) (w : World) : Calls Tryd.prog 17 #[.pointer none, .agg #[.int .i64 tt, .int .i64 no, .int .i64 sn, .slice va vn vc]] w fun r w' => r = .returned (.tuple #[.slice none 0 0, .bool false]) ∧ After w w' := by
  go_enter Tryd.func17, Tryd.ntmps17
  go_upto_region 0 with (fail)
  apply wp_region_seg0 (w := w) (S := [.al 1000, .q [], .q []]) (E := [.al ((fun p => .pointer (some ⟨p, 0, none⟩)), _) 1000, .q0 _, .q0 _]) rfl (by kernel_rfl) rfl rfl
  intro th hge hne
  refine Seg.step _ rfl ⟨by rfl, fun U hU => ?_⟩ ?_
  · go_simp; exact vp_alloc rfl rfl rfl
  refine Seg.sa ?_
  refine Seg.sq ?_
  refine Seg.sq ?_
  refine Seg.stop (fun U1 hU hk => ?_)
  have nb0 := hge 0 _ _ rfl
  have rb0 := (hk 0 _ _ rfl trivial).1.2 (by simp)
  clear hk hge hne
  generalize th (0 + 0) = p0_0 at *
  dsimp only at rb0
  have r_p0_0 := rb0
  clear rb0
  have n_p0_0 := nb0
  clear nb0
  have sz1 := hU.size
  have hB : Below w.heap.size w U1 := hU
  clear hU
  go_wp2_with fail
  go_ret2
  exact ⟨rfl, hB⟩
set_option maxRecDepth 100000 in
set_option maxHeartbeats 2000000 in
theorem baddun29_any (B : Nat) (x y z : Value) (tt no sn : Int) (va : Option Addr) (vn vc : Nat) (w : World) (hb : w.heap[B]? = some (.cells #[.bool false, x, y, z] 56 (0, 0))) : Calls Tryd.prog 17 #[.pointer (some ⟨B, 0, none⟩), .agg #[.int .i64 tt, .int .i64 no, .int .i64 sn, .slice va vn vc]] w fun r w' => r = .returned (.tuple #[.slice none 0 0, .bool false]) ∧ After w w' := by
  go_enter Tryd.func17, Tryd.ntmps17
  go_upto_region 0 with (fail)
  apply wp_region_seg0 (w := w) (S := [.al 1000, .q [], .q []]) (E := [.al ((fun p => .pointer (some ⟨p, 0, none⟩)), _) 1000, .q0 _, .q0 _]) rfl (by kernel_rfl) rfl rfl
  intro th hge hne
  refine Seg.step _ rfl ⟨by rfl, fun U hU => ?_⟩ ?_
  · go_simp; exact vp_alloc rfl rfl rfl
  refine Seg.sa ?_
  refine Seg.sq ?_
  refine Seg.sq ?_
  refine Seg.stop (fun U1 hU hk => ?_)
  have nb0 := hge 0 _ _ rfl
  have rb0 := (hk 0 _ _ rfl trivial).1.2 (by simp)
  clear hk hge hne
  generalize th (0 + 0) = p0_0 at *
  dsimp only at rb0
  have r_p0_0 := rb0
  clear rb0
  have n_p0_0 := nb0
  clear nb0
  have sz1 := hU.size
  have hB : Below w.heap.size w U1 := hU
  clear hU
  have z0 := held_cell (held_after hB hb) 0 _ rfl
  go_wp2_with fail
  go_ret2
  exact ⟨rfl, hB⟩
set_option maxRecDepth 100000 in
set_option maxHeartbeats 2000000 in
theorem bwaitnil29_any (w : World) : Calls Tryd.prog 19 #[.pointer none] w fun r w' => r = .returned (.tuple #[.int .i64 0, .int .i64 0]) ∧ w' = w := by
  go_enter Tryd.func19, Tryd.ntmps19
  go_wp2_with fail
  go_ret2
  exact ⟨rfl, rfl⟩
set_option maxRecDepth 100000 in
set_option maxHeartbeats 2000000 in
theorem bwaitun29_any (B : Nat) (x y z : Value) (w : World) (hb : w.heap[B]? = some (.cells #[.bool false, x, y, z] 56 (0, 0))) : Calls Tryd.prog 19 #[.pointer (some ⟨B, 0, none⟩)] w fun r w' => r = .returned (.tuple #[.int .i64 0, .int .i64 0]) ∧ w' = w := by
  have z0 := held_cell hb 0 _ rfl
  go_enter Tryd.func19, Tryd.ntmps19
  go_wp2_with fail
  go_ret2
  exact ⟨rfl, rfl⟩
set_option maxRecDepth 100000 in
set_option maxHeartbeats 16000000 in
theorem badd29_any (N B : Nat) (t n : Int) (ls : List V4) (tt no sn : Int) (va : Option Addr) (vn vc : Nat) (vs : List V4) (w : World) (hb : BkIn N B t n ls w) (hN : N ≤ B) (h36 : ls.length ≤ 100) (hS : Els w 8 va vn vc (vs.map enV)) (hva : ∀ x, va = some x → 0 < vn → x.block < N) : Calls Tryd.prog 17 #[.pointer (some ⟨B, 0, none⟩), .agg #[.int .i64 tt, .int .i64 no, .int .i64 sn, .slice va vn vc]] w (AdOk N B w (addS t n ls tt no vs)) := by
  obtain ⟨a, len, cap, hb, hO, hll⟩ := hb
  have hvl : vs.length = vn := by have := hS.1; rw [List.length_map] at this; exact this
  have hlt := held_lt hb
  have eno := addS_no (t := t) (n := n) (ls := ls) (tt := tt) (no := no) (vs := vs)
  have emo := fun l1 => addS_more (t := t) (n := n) (ls := ls) (l1 := l1) (tt := tt) (no := no) (vs := vs)
  have ela := fun l1 => addS_last (t := t) (n := n) (ls := ls) (l1 := l1) (tt := tt) (no := no) (vs := vs)
  have hNw : N ≤ w.heap.size := by omega
  obtain ⟨R, hR⟩ : ∃ R, addS t n ls tt no vs = R := ⟨_, rfl⟩
  rw [hR] at eno
  simp only [hR] at emo ela
  rw [hR]
  rw [hvl] at eno
  simp only [hvl] at emo ela
  clear hR
  replace hll := hid hll
  replace eno := hid eno
  replace emo := hid emo
  replace ela := hid ela
  replace hvl := hid hvl
  replace hva := hid hva
  replace hS := hid hS
  replace hO := hid hO
  go_enter Tryd.func17, Tryd.ntmps17
  go_upto_region 0 with (fail)
  apply wp_region_seg0 (w := w) (S := [.al 1000, .q [], .q []]) (E := [.al ((fun p => .pointer (some ⟨p, 0, none⟩)), _) 1000, .q0 _, .q0 _]) rfl (by kernel_rfl) rfl rfl
  intro th hge hne
  refine Seg.step _ rfl ⟨by rfl, fun U hU => ?_⟩ ?_
  · go_simp; exact vp_alloc rfl rfl rfl
  refine Seg.sa ?_
  refine Seg.sq ?_
  refine Seg.sq ?_
  refine Seg.stop (fun U1 hU hk => ?_)
  have nb0 := hge 0 _ _ rfl
  have rb0 := (hk 0 _ _ rfl trivial).1.2 (by simp)
  clear hk hge hne
  generalize th (0 + 0) = p0_0 at *
  dsimp only at rb0
  have r_p0_0 := rb0
  clear rb0
  have n_p0_0 := nb0
  clear nb0
  have sz1 := hU.size
  have hB : Below w.heap.size w U1 := hU
  clear hU
  have hlm := held_lt r_p0_0
  have npB : p0_0 ≠ B := by omega
  replace hb := held_after hB hb
  replace hO := hid (hO.out.below hB)
  replace hS := hid (hS.out.below hB)
  have hKe := hid (PEff.after (j := 3) hNw hlt hB)
  clear hB
  have z0 := held_cell hb 0 _ rfl
  have hr1 := hid r_p0_0
  have m0 := held_cell r_p0_0 0 _ rfl
  have m1 := held_cell r_p0_0 1 _ rfl
  have m2 := held_cell r_p0_0 2 _ rfl
  have m3 := held_cell r_p0_0 3 _ rfl
  replace hb := hid hb
  clear r_p0_0
  go_wp2_with fail
  refine (right29_any tt no sn va vn vc _).mono ?_
  rintro r V1 ⟨rfl, hA⟩
  replace hb := hid (held_after hA hb.out)
  replace hr1 := hid (held_after hA hr1.out)
  replace hO := hid (hO.out.below hA)
  replace hS := hid (hS.out.below hA)
  replace hKe := hid (hKe.out.trans (PEff.after (by have := sz1; omega) (by have := sz1; omega) hA))
  clear hA m0 m1 m2 m3 z0
  obtain ⟨g, hg⟩ : ∃ g, rgB tt no vn = g := ⟨_, rfl⟩
  rw [hg] at eno emo ela ⊢
  cases g
  case false =>
    have e0 := eno.out (fun h => by cases h.1)
    clear eno emo ela
    subst e0
    go_wp2_with fail
    refine (bnone29_any N B t n a len cap _ _ hb.out hO.out hN).mono ?_
    rintro r V2 ⟨rfl, q1, q2, q3⟩
    have hfin := hid (ad_no q1 q2 (hKe.out.trans q3))
    clear q1 q2 q3
    go_wp2_with fail
    go_ret2
    exact hfin.out
  have hgb : 1 ≤ tt ∧ tt ≤ 9 ∧ 1 ≤ no ∧ no ≤ tt ∧ vn ≤ 4 := of_decide_eq_true hg
  clear hg
  have m1 := held_cell hr1.out 1 _ rfl
  by_cases c1 : no = 1
  case pos =>
    have b1 : (no == 1) = true := by simpa using c1
    replace c1 := hid c1
    go_wp2_with fail
    refine (bnone29_any N B t n a len cap _ _ hb.out hO.out hN).mono ?_
    rintro r V2 ⟨rfl, q1, q2, q3⟩
    replace hr1 := hid ((q3.owp.block p0_0 (held_lt hr1.out) npB (by rw [wown_at hb.out (j := 3) rfl]; exact fun e => hO.out.ne hr1.out (by decide) e.symm)).trans hr1.out)
    replace hS := hid (hS.out.kept29 (fun x hx h0 => q3.below.block _ (hva.out x hx h0)))
    replace hKe := hid (hKe.out.trans q3)
    obtain ⟨ls1, hL1⟩ : ∃ L, ([] : List V4) = L := ⟨_, rfl⟩
    obtain ⟨l1, hl0⟩ : ∃ l, 0 = l := ⟨_, rfl⟩
    replace hO := hid (show OwnE 69 V2 N 8 (.slice a l1 cap) l1 (ls1.map enV).flatten from by rw [← hL1, ← hl0]; exact q2)
    obtain ⟨t1, ht1⟩ : ∃ x : Int, 0 = x := ⟨_, rfl⟩
    obtain ⟨n1, hn1⟩ : ∃ x : Int, 0 = x := ⟨_, rfl⟩
    replace hb := hid (show V2.heap[B]? = some (.cells #[.bool true, .int .i64 t1, .int .i64 n1, .slice a l1 cap] 56 (0, 0)) from by rw [← ht1, ← hn1, ← hl0]; exact q1)
    replace hL1 := hid hL1
    replace hl0 := hid hl0
    clear q1 q2 q3 ht1 hn1
    have hgg := hid (show true = true ∧ (no = 1 ∨ (t = tt ∧ n = no)) from ⟨rfl, .inl c1.out⟩)
    have hi1 := hid (show (if no = 1 then [] else ls) = ls1 from (if_pos c1.out).trans hL1.out)
    replace emo := hid (fun h => emo.out ls1 ⟨by simp, hgg.out.2⟩ hi1.out h)
    replace ela := hid (fun h => ela.out ls1 ⟨by simp, hgg.out.2⟩ hi1.out h)
    clear hgg hi1 eno
    obtain ⟨hOf, hlc⟩ := ownE_full hO.out
    have hl1 := hid (show (ls1 : List V4).length = l1 from by rw [← hL1.out, ← hl0.out]; rfl)
    have hl100 : l1 ≤ 100 := by have := hl1.out; have := hl0.out; omega
    have cutF := cutF29 a l1 cap hlc
    have hobk : (Value.slice a l1 cap).ownBlock = (Value.slice a l1 l1).ownBlock := by cases a <;> rfl
    clear m1
    go_upto_region 11 with (fail)
    have bQ := (show V2.drew.heap[B]? = _ from hb.out)
    have mQ := (show V2.drew.heap[p0_0]? = _ from hr1.out)
    have oQ := hid (show OwnE _ V2.drew _ _ _ _ _ from hOf)
    have sQ := hid (show Els V2.drew _ _ _ _ _ from hS.out)
    have hAd : After V2 V2.drew := (Below.refl _ V2).drew
    obtain ⟨QQ, hQQ⟩ : ∃ X, V2.drew = X := ⟨_, rfl⟩
    rw [hQQ] at bQ mQ oQ sQ hAd
    have lB := held_lt bQ
    have lP := held_lt mQ
    have hNQ : N ≤ QQ.heap.size := by omega
    skip
    clear hOf
    refine wp_region_T (Value.slice a l1 l1).ownBlock 21 (by kernel_rfl) ?_
    rw [hQQ]
    refine wpAnyT_take 0 rfl (by kernel_rfl) (by kernel_rfl) (by kernel_rfl) (by kernel_rfl) (fun _ _ _ _ h => h) ⟨_, Or.inl ⟨by rfl, fun w2 hb2 => by (go_simp; try with_reducible rfl)⟩, _, by (go_simp; try rfl), ?_⟩
    refine wpAnyT_take 1 rfl (by kernel_rfl) (by kernel_rfl) (by kernel_rfl) (by kernel_rfl) (fun _ _ _ _ h => h) ⟨_, Or.inl ⟨by rfl, fun w2 hb2 => by (go_simp; try with_reducible rfl)⟩, _, by (go_simp; try rfl), ?_⟩
    refine wpAnyT_take 2 rfl (by kernel_rfl) (by kernel_rfl) (by kernel_rfl) (by kernel_rfl) (fun _ _ _ _ h => h) ⟨_, Or.inl ⟨by rfl, fun w2 hb2 => by (go_simp; try with_reducible rfl)⟩, _, by (go_simp; try rfl), ?_⟩
    refine wpAnyT_take 3 rfl (by kernel_rfl) (by kernel_rfl) (by kernel_rfl) (by kernel_rfl) (fun _ _ _ _ h => h) ⟨_, Or.inl ⟨by rfl, fun w2 hb2 => by (go_simp; try with_reducible rfl)⟩, _, by (go_simp; try rfl), ?_⟩
    refine wpAnyT_take 4 rfl (by kernel_rfl) (by kernel_rfl) (by kernel_rfl) (by kernel_rfl) (fun _ _ _ _ h => h) ⟨_, Or.inl ⟨by rfl, fun w2 hb2 => by (have h3 := hb2.cell (held_cell bQ 3 _ rfl) (fun e => oQ.out.ne bQ (by decide) e.symm); go_simp; try with_reducible rfl)⟩, _, by (go_simp; try rfl), ?_⟩
    refine wpAnyT_take 5 rfl (by kernel_rfl) (by kernel_rfl) (by kernel_rfl) (by kernel_rfl) (fun _ _ _ _ h => h) ⟨_, Or.inl ⟨by rfl, fun w2 hb2 => by (go_simp; try with_reducible rfl)⟩, _, by (go_simp; try rfl), ?_⟩
    refine wpAnyT_take 6 rfl (by kernel_rfl) (by kernel_rfl) (by kernel_rfl) (by kernel_rfl) (fun _ _ _ _ h => h) ⟨_, Or.inl ⟨by rfl, fun w2 hb2 => by (go_simp; try with_reducible rfl)⟩, _, by (go_simp; try rfl), ?_⟩
    refine wpAnyT_take 7 rfl (by kernel_rfl) (by kernel_rfl) (by kernel_rfl) (by kernel_rfl) (fun _ _ _ _ h => h) ⟨_, Or.inl ⟨by rfl, fun w2 hb2 => by (go_simp; try with_reducible rfl)⟩, _, by (go_simp; try rfl), ?_⟩
    refine wpAnyT_take 8 rfl (by kernel_rfl) (by kernel_rfl) (by kernel_rfl) (by kernel_rfl) (fun _ _ _ _ h => h) ⟨_, Or.inl ⟨by rfl, fun w2 hb2 => by (have h3 := hb2.cell (held_cell bQ 3 _ rfl) (fun e => oQ.out.ne bQ (by decide) e.symm); go_simp; try with_reducible rfl)⟩, _, by (go_simp; try rfl), ?_⟩
    refine wpAnyT_take 9 rfl (by kernel_rfl) (by kernel_rfl) (by kernel_rfl) (by kernel_rfl) (fun _ _ _ _ h => h) ⟨_, Or.inl ⟨by rfl, fun w2 hb2 => by (go_simp; try with_reducible rfl)⟩, _, by (go_simp; try rfl), ?_⟩
    refine wpAnyT_take 10 rfl (by kernel_rfl) (by kernel_rfl) (by kernel_rfl) (by kernel_rfl) (fun _ _ _ _ h => h) ⟨_, Or.inl ⟨by rfl, fun w2 hb2 => by (go_simp; try with_reducible rfl)⟩, _, by (go_simp; try rfl), ?_⟩
    refine wpAnyT_take 11 rfl (by kernel_rfl) (by kernel_rfl) (by kernel_rfl) (by kernel_rfl) (fun _ _ _ _ h => h) ⟨_, Or.inl ⟨by rfl, fun w2 hb2 => by (go_simp; try with_reducible rfl)⟩, _, by (go_simp; try rfl), ?_⟩
    refine wpAnyT_take 12 rfl (by kernel_rfl) (by kernel_rfl) (by kernel_rfl) (by kernel_rfl) (fun _ _ _ _ h => h) ⟨_, Or.inl ⟨by rfl, fun w2 hb2 => by (go_simp; try with_reducible rfl)⟩, _, by (go_simp; try rfl), ?_⟩
    refine wpAnyT_take 13 rfl (by kernel_rfl) (by kernel_rfl) (by kernel_rfl) (by kernel_rfl) (fun _ _ _ _ h => h) ⟨_, Or.inl ⟨by rfl, fun w2 hb2 => by (have h3 := hb2.cell (held_cell bQ 3 _ rfl) (fun e => oQ.out.ne bQ (by decide) e.symm); go_simp; try with_reducible rfl)⟩, _, by (go_simp; try rfl), ?_⟩
    refine wpAnyT_take 14 rfl (by kernel_rfl) (by kernel_rfl) (by kernel_rfl) (by kernel_rfl) (fun _ _ _ _ h => h) ⟨_, Or.inl ⟨by rfl, fun w2 hb2 => by (go_simp; try with_reducible rfl)⟩, _, by (go_simp; try rfl), ?_⟩
    refine wpAnyT_take 15 rfl (by kernel_rfl) (by kernel_rfl) (by kernel_rfl) (by kernel_rfl) (fun _ _ _ _ h => h) ⟨_, Or.inl ⟨by rfl, fun w2 hb2 => by (have hc9 := cutF w2; go_simp; try with_reducible rfl)⟩, _, by (go_simp; try rfl), ?_⟩
    refine wpAnyT_take 16 rfl (by kernel_rfl) (by kernel_rfl) (by kernel_rfl) (by kernel_rfl) (fun _ _ _ _ h => h) ⟨_, Or.inl ⟨by rfl, fun w2 hb2 => by (go_simp; try with_reducible rfl)⟩, _, by (go_simp; try rfl), ?_⟩
    refine wpAnyT_take 17 rfl (by kernel_rfl) (by kernel_rfl) (by kernel_rfl) (by kernel_rfl) (fun _ _ _ _ h => h) ⟨_, Or.inl ⟨by rfl, fun w2 hb2 => by (have h3 := hb2.cell (held_cell mQ 3 _ rfl) (fun e => oQ.out.ne mQ (by decide) e.symm); go_simp; try with_reducible rfl)⟩, _, by (go_simp; try rfl), ?_⟩
    refine wpAnyT_only 18 rfl (by kernel_rfl) (by rfl) (fun K hK => ?_)
    refine wp_appE (.tmp 53) (.tmp 55) 22 rfl N 69 8 64 viO (by decide) (.slice a l1 l1) l1 ((ls1 : List V4).map enV).flatten rfl oQ.out va vn vc (vs.map enV) rfl sQ.out (enV_one vs) (by unfold maxLen; omega) (by omega) hNQ ?_
    intro a9 c9 W9 hO9 hG9 hN9
    refine hK _ _ ⟨fun _ => ⟨hG9.size, fun k hk hne => hG9.block k hk hne⟩, ?_⟩
    clear hK
    refine wpAnyT_takeP 19 rfl (by kernel_rfl) (by kernel_rfl) (by kernel_rfl) (fun _ _ _ _ h => h) ⟨_, Or.inl ⟨by rfl, fun w2 _ => by (go_simp; try with_reducible rfl)⟩, _, by (go_simp; try rfl), ?_⟩
    refine wpAnyT_take 20 rfl (by kernel_rfl) (by kernel_rfl) (by kernel_rfl) (by kernel_rfl) (fun _ _ _ _ h => h) ⟨_, Or.inl ⟨by rfl, fun w2 hb2 => by (go_simp; try with_reducible rfl)⟩, _, by (go_simp; try rfl), ?_⟩
    refine wpAnyT_only 21 rfl (by kernel_rfl) (by rfl) (fun K hK => ?_)
    have bQ3 := (hG9.block B lB (fun e2 => oQ.out.ne bQ (by decide) e2.symm)).trans bQ
    have mQ3 := (hG9.block p0_0 lP (fun e2 => oQ.out.ne mQ (by decide) e2.symm)).trans mQ
    have z1 := held_cell bQ3 3 _ rfl
    have f1 := held_free bQ3 3
    obtain ⟨S1, hS1, q1, o1⟩ := st1 bQ3 3 (.slice a9 (l1 + vn) c9)
    have k1 : Owp B 3 V2 QQ := Owp.after (held_lt hb.out) hAd
    have k2 := k1.trans (Owp.set (v := .slice a9 (l1 + vn) c9) bQ3 (by simp) hG9 (fun k e => by rw [wown_at bQ (j := 3) (v := .slice a l1 cap) rfl, hobk]; exact e) (fun k e => by rw [wown_at bQ (j := 3) (v := .slice a l1 cap) rfl, hobk]; exact hN9 k e))
    rw [hS1] at k2
    have hb9 : Below N V2 W9 := (Below.mono hAd (by have := hAd.size; have := held_lt hb.out; omega)).trans ((Below.refl N QQ).grown hG9 hNQ (fun k e => (oQ.out.lt k e).1))
    have hb10 := belowS hb9 o1 hN
    have oS := hid (hO9.kept (fun g hg => o1.block g (fun e2 => by subst e2; exact (hO9.ne bQ3 (by decide)) hg)))
    have mS := hid ((o1.block p0_0 npB).trans mQ3)
    replace hKe := hid (hKe.out.trans ⟨hb10, k2⟩)
    clear o1 mQ3 hG9 hN9 hO9 hb9 hb10 k1 k2
    go_simp
    refine hK _ _ ⟨fun h => (h rfl).elim, ?_⟩
    clear hK
    refine wpAnyT_done (by kernel_rfl) ?_ _
    have q1b := hid (show S1.heap[B]? = some (.cells #[.bool true, .int .i64 t1, .int .i64 n1, .slice a9 (l1 + vn) c9] 56 (0, 0)) from q1)
    clear q1 bQ3 bQ mQ oQ sQ hAd hQQ hS1 z1 f1 cutF hobk hO hb hr1 hS
    have oF := hid (show OwnE 69 S1 N 8 (.slice a9 (l1 + vn) c9) (l1 + vn) ((ls1 ++ vs).map enV).flatten from by rw [List.map_append, List.flatten_append]; exact oS.out)
    have lF := hid (show (ls1 ++ vs).length = l1 + vn from by rw [List.length_append, hl1.out, hvl.out])
    clear oS
    obtain ⟨L9, hL9⟩ : ∃ L, ls1 ++ vs = L := ⟨_, rfl⟩
    rw [hL9] at emo ela oF lF
    replace hL9 := hid hL9
    obtain ⟨l9, hl9⟩ : ∃ l, l1 + vn = l := ⟨_, rfl⟩
    rw [hl9] at q1b oF lF
    have hl9b : l9 ≤ 104 := by omega
    replace hl9 := hid hl9
    have m0 := held_cell mS.out 0 _ rfl
    have m1 := held_cell mS.out 1 _ rfl
    by_cases qc : no < tt
    case pos =>
      have b9 : decide (no < tt) = true := by simpa using qc
      have e9 := emo.out qc
      clear emo ela
      subst e9
      have wn : IntKind.i64.wrap (no + 1) = no + 1 := by rw [IntKind.wrap_i64]; omega
      have bQ := q1b.out
      have f1 := held_free bQ 1
      have f2 := held_free bQ 2
      have x1 := held_cell bQ 1 _ rfl
      have x2 := held_cell bQ 2 _ rfl
      obtain ⟨S2, hS2, y3, o2⟩ := set2_29 bQ 1 2 (.int .i64 tt) (.int .i64 (no + 1))
      have y4 : S2.heap[B]? = some (.cells #[.bool true, .int .i64 tt, .int .i64 (no + 1), .slice a9 l9 c9] 56 (0, 0)) := y3
      have hO4 := ownE_only oF.out bQ (by decide) o2
      have k4 : PEff N B 3 S1 S2 := pset29 bQ hN (by simp) hS2
      have hfin := hid (show AdOk N B w ((tt, no + 1, L9), none) (.returned (.tuple #[.slice none 0 0, .bool false])) S2 from ⟨⟨a9, l9, c9, y4, hO4, lF.out⟩, hKe.out.trans k4, none, 0, 0, rfl, Els.nil _ _, fun x hx => (by cases hx)⟩)
      clear y3 y4 o2 hO4 k4 bQ
      go_wp2_with fail
      go_ret2
      exact hfin.out
    have b9 : decide (no < tt) = false := by simpa using qc
    have e9 := ela.out (by omega)
    clear emo ela
    subst e9
    have z3 := held_cell q1b.out 3 _ rfl
    have eF := hid (oF.out.els (by rw [List.length_map]; exact lF.out) (enV_m L9))
    have lS1 := held_lt q1b.out
    have hwS9 := hid hKe.out.below.size
    have lown := hid (fun g (hg : (Value.slice a9 l9 c9).ownBlock = some g) => (oF.out.lt g hg).2.1)
    go_wp2_with fail
    clear m0 m1 mS
    refine (clonev29_any a9 l9 c9 (L9.map enV) _ (by omega) eF.out (enV_one L9)).mono ?_
    rintro r V5 ⟨a5, c5, rfl, hE5, hA, hnew⟩
    replace q1b := hid (held_after hA q1b.out)
    replace oF := hid (oF.out.below hA)
    replace hKe := hid (hKe.out.trans (PEff.after (by omega) lS1 hA))
    replace hE5 := hid hE5
    replace hnew := hid hnew
    clear hA z3 eF
    go_wp2_with fail
    refine (bnone29_any N B t1 n1 a9 l9 c9 _ _ q1b.out oF.out hN).mono ?_
    rintro r V6 ⟨rfl, y1, y2, y3⟩
    have hE6 := hE5.out.kept29 (fun x hx _ => y3.owp.block x.block (hnew.out x hx).2 (by have := (hnew.out x hx).1; omega) (by rw [wown_at q1b.out (j := 3) (v := .slice a9 l9 c9) rfl]; intro e; have := lown.out _ e.symm; have := (hnew.out x hx).1; omega))
    have hwS : w.heap.size ≤ S1.heap.size := hwS9.out
    have hfin := hid (show AdOk N B w ((0, 0, []), some L9) (.returned (.tuple #[.slice a5 l9 c5, .bool true])) V6 from ⟨⟨a9, 0, c9, y1, y2, rfl⟩, hKe.out.trans y3, a5, l9, c5, rfl, hE6, fun x hx => (by have := (hnew.out x hx).1; omega)⟩)
    clear y1 y2 y3 hE5 hE6 hnew lown
    go_wp2_with fail
    go_ret2
    exact hfin.out
  have b1 : (no == 1) = false := by simpa using c1
  obtain ⟨bq, hbq⟩ : ∃ b : Bool, decide (t = tt ∧ n = no) = b := ⟨_, rfl⟩
  have eW := fun W => eqW29 t n tt no W
  rw [hbq] at eW
  replace hbq := hid hbq
  go_upto_region 8 with (fail)
  have hbx := hb.out
  have lV1 := held_lt hbx
  have r_p0_0 := hr1.out
  apply wp_region_seg (w := V1) (S := [.q [], .q [], .q [], .q [], .q [], .q [], .q [], .q [], .q [], .q []]) (E := [.q0 _, .q0 _, .q0 _, .q0 _, .q0 _, .q0 _, .q0 _, .q0 _, .q0 _, .q0 _]) (by kernel_rfl) rfl (by kernel_rfl) rfl rfl
  intro th hge hne
  iterate 3 refine Seg.sq ?_
  refine Seg.sq ?_ (ht := Or.inl ⟨by rfl, fun U hU => vp_quiet (by (have h1 := held_cell (held_after hU.1 hbx) 1 _ rfl; have h2 := held_cell (held_after hU.1 hbx) 2 _ rfl; go_simp <;> exact rfl))⟩)
  refine Seg.sq ?_
  refine Seg.sq ?_ (ht := Or.inl ⟨by rfl, fun U hU => vp_quiet (by (have h0 := held_cell (held_after hU.1 r_p0_0) 0 _ rfl; go_simp <;> exact rfl))⟩)
  refine Seg.sq ?_
  refine Seg.sq ?_ (ht := Or.inl ⟨by rfl, fun U hU => vp_quiet (by (have h0 := held_cell (held_after hU.1 r_p0_0) 1 _ rfl; go_simp <;> exact rfl))⟩)
  refine Seg.sq ?_
  refine Seg.sq ?_
  refine Seg.stop (fun U11 hU hk => ?_)
  clear hk hge hne
  replace r_p0_0 := held_after hU r_p0_0
  replace hbx := held_after hU hbx
  have sz11 := hU.size
  have hB : Below V1.heap.size V1 U11 := hU
  replace hb := hid (held_after hU hb.out)
  replace hr1 := hid (held_after hU hr1.out)
  replace hO := hid (hO.out.below hU)
  replace hS := hid (hS.out.below hU)
  replace hKe := hid (hKe.out.trans (PEff.after (by have := sz1; have := hKe.out.below.size; omega) lV1 hU))
  clear hU r_p0_0 hbx eW
  cases bq
  case false =>
    have e0 := eno.out (fun h => by rcases h.2 with h | h; exact c1 h; exact of_decide_eq_false hbq.out h)
    clear eno emo ela
    subst e0
    go_wp2_with fail
    refine (bnone29_any N B t n a len cap _ _ hb.out hO.out hN).mono ?_
    rintro r V2 ⟨rfl, q1, q2, q3⟩
    have hfin := hid (ad_no q1 q2 (hKe.out.trans q3))
    clear q1 q2 q3
    go_wp2_with fail
    go_ret2
    exact hfin.out
  have c2 := hid (of_decide_eq_true hbq.out)
  have hgg := hid (show true = true ∧ (no = 1 ∨ (t = tt ∧ n = no)) from ⟨rfl, .inr c2.out⟩)
  have hi1 := hid (show (if no = 1 then [] else ls) = ls from if_neg c1)
  replace emo := hid (fun h => emo.out ls ⟨by simp, hgg.out.2⟩ hi1.out h)
  replace ela := hid (fun h => ela.out ls ⟨by simp, hgg.out.2⟩ hi1.out h)
  clear hgg hi1 eno
  obtain ⟨hOf, hlc⟩ := ownE_full hO.out
  have hl1 := hid (show (ls : List V4).length = len from hll.out)
  have hl100 : len ≤ 100 := by have := hl1.out; omega
  have cutF := cutF29 a len cap hlc
  have hobk : (Value.slice a len cap).ownBlock = (Value.slice a len len).ownBlock := by cases a <;> rfl
  clear m1
  go_upto_region 11 with (fail)
  have bQ := (show U11.drew.heap[B]? = _ from hb.out)
  have mQ := (show U11.drew.heap[p0_0]? = _ from hr1.out)
  have oQ := hid (show OwnE _ U11.drew _ _ _ _ _ from hOf)
  have sQ := hid (show Els U11.drew _ _ _ _ _ from hS.out)
  have hAd : After U11 U11.drew := (Below.refl _ U11).drew
  obtain ⟨QQ, hQQ⟩ : ∃ X, U11.drew = X := ⟨_, rfl⟩
  rw [hQQ] at bQ mQ oQ sQ hAd
  have lB := held_lt bQ
  have lP := held_lt mQ
  have hNQ : N ≤ QQ.heap.size := by omega
  skip
  clear hOf
  refine wp_region_T (Value.slice a len len).ownBlock 21 (by kernel_rfl) ?_
  rw [hQQ]
  refine wpAnyT_take 0 rfl (by kernel_rfl) (by kernel_rfl) (by kernel_rfl) (by kernel_rfl) (fun _ _ _ _ h => h) ⟨_, Or.inl ⟨by rfl, fun w2 hb2 => by (go_simp; try with_reducible rfl)⟩, _, by (go_simp; try rfl), ?_⟩
  refine wpAnyT_take 1 rfl (by kernel_rfl) (by kernel_rfl) (by kernel_rfl) (by kernel_rfl) (fun _ _ _ _ h => h) ⟨_, Or.inl ⟨by rfl, fun w2 hb2 => by (go_simp; try with_reducible rfl)⟩, _, by (go_simp; try rfl), ?_⟩
  refine wpAnyT_take 2 rfl (by kernel_rfl) (by kernel_rfl) (by kernel_rfl) (by kernel_rfl) (fun _ _ _ _ h => h) ⟨_, Or.inl ⟨by rfl, fun w2 hb2 => by (go_simp; try with_reducible rfl)⟩, _, by (go_simp; try rfl), ?_⟩
  refine wpAnyT_take 3 rfl (by kernel_rfl) (by kernel_rfl) (by kernel_rfl) (by kernel_rfl) (fun _ _ _ _ h => h) ⟨_, Or.inl ⟨by rfl, fun w2 hb2 => by (go_simp; try with_reducible rfl)⟩, _, by (go_simp; try rfl), ?_⟩
  refine wpAnyT_take 4 rfl (by kernel_rfl) (by kernel_rfl) (by kernel_rfl) (by kernel_rfl) (fun _ _ _ _ h => h) ⟨_, Or.inl ⟨by rfl, fun w2 hb2 => by (have h3 := hb2.cell (held_cell bQ 3 _ rfl) (fun e => oQ.out.ne bQ (by decide) e.symm); go_simp; try with_reducible rfl)⟩, _, by (go_simp; try rfl), ?_⟩
  refine wpAnyT_take 5 rfl (by kernel_rfl) (by kernel_rfl) (by kernel_rfl) (by kernel_rfl) (fun _ _ _ _ h => h) ⟨_, Or.inl ⟨by rfl, fun w2 hb2 => by (go_simp; try with_reducible rfl)⟩, _, by (go_simp; try rfl), ?_⟩
  refine wpAnyT_take 6 rfl (by kernel_rfl) (by kernel_rfl) (by kernel_rfl) (by kernel_rfl) (fun _ _ _ _ h => h) ⟨_, Or.inl ⟨by rfl, fun w2 hb2 => by (go_simp; try with_reducible rfl)⟩, _, by (go_simp; try rfl), ?_⟩
  refine wpAnyT_take 7 rfl (by kernel_rfl) (by kernel_rfl) (by kernel_rfl) (by kernel_rfl) (fun _ _ _ _ h => h) ⟨_, Or.inl ⟨by rfl, fun w2 hb2 => by (go_simp; try with_reducible rfl)⟩, _, by (go_simp; try rfl), ?_⟩
  refine wpAnyT_take 8 rfl (by kernel_rfl) (by kernel_rfl) (by kernel_rfl) (by kernel_rfl) (fun _ _ _ _ h => h) ⟨_, Or.inl ⟨by rfl, fun w2 hb2 => by (have h3 := hb2.cell (held_cell bQ 3 _ rfl) (fun e => oQ.out.ne bQ (by decide) e.symm); go_simp; try with_reducible rfl)⟩, _, by (go_simp; try rfl), ?_⟩
  refine wpAnyT_take 9 rfl (by kernel_rfl) (by kernel_rfl) (by kernel_rfl) (by kernel_rfl) (fun _ _ _ _ h => h) ⟨_, Or.inl ⟨by rfl, fun w2 hb2 => by (go_simp; try with_reducible rfl)⟩, _, by (go_simp; try rfl), ?_⟩
  refine wpAnyT_take 10 rfl (by kernel_rfl) (by kernel_rfl) (by kernel_rfl) (by kernel_rfl) (fun _ _ _ _ h => h) ⟨_, Or.inl ⟨by rfl, fun w2 hb2 => by (go_simp; try with_reducible rfl)⟩, _, by (go_simp; try rfl), ?_⟩
  refine wpAnyT_take 11 rfl (by kernel_rfl) (by kernel_rfl) (by kernel_rfl) (by kernel_rfl) (fun _ _ _ _ h => h) ⟨_, Or.inl ⟨by rfl, fun w2 hb2 => by (go_simp; try with_reducible rfl)⟩, _, by (go_simp; try rfl), ?_⟩
  refine wpAnyT_take 12 rfl (by kernel_rfl) (by kernel_rfl) (by kernel_rfl) (by kernel_rfl) (fun _ _ _ _ h => h) ⟨_, Or.inl ⟨by rfl, fun w2 hb2 => by (go_simp; try with_reducible rfl)⟩, _, by (go_simp; try rfl), ?_⟩
  refine wpAnyT_take 13 rfl (by kernel_rfl) (by kernel_rfl) (by kernel_rfl) (by kernel_rfl) (fun _ _ _ _ h => h) ⟨_, Or.inl ⟨by rfl, fun w2 hb2 => by (have h3 := hb2.cell (held_cell bQ 3 _ rfl) (fun e => oQ.out.ne bQ (by decide) e.symm); go_simp; try with_reducible rfl)⟩, _, by (go_simp; try rfl), ?_⟩
  refine wpAnyT_take 14 rfl (by kernel_rfl) (by kernel_rfl) (by kernel_rfl) (by kernel_rfl) (fun _ _ _ _ h => h) ⟨_, Or.inl ⟨by rfl, fun w2 hb2 => by (go_simp; try with_reducible rfl)⟩, _, by (go_simp; try rfl), ?_⟩
  refine wpAnyT_take 15 rfl (by kernel_rfl) (by kernel_rfl) (by kernel_rfl) (by kernel_rfl) (fun _ _ _ _ h => h) ⟨_, Or.inl ⟨by rfl, fun w2 hb2 => by (have hc9 := cutF w2; go_simp; try with_reducible rfl)⟩, _, by (go_simp; try rfl), ?_⟩
  refine wpAnyT_take 16 rfl (by kernel_rfl) (by kernel_rfl) (by kernel_rfl) (by kernel_rfl) (fun _ _ _ _ h => h) ⟨_, Or.inl ⟨by rfl, fun w2 hb2 => by (go_simp; try with_reducible rfl)⟩, _, by (go_simp; try rfl), ?_⟩
  refine wpAnyT_take 17 rfl (by kernel_rfl) (by kernel_rfl) (by kernel_rfl) (by kernel_rfl) (fun _ _ _ _ h => h) ⟨_, Or.inl ⟨by rfl, fun w2 hb2 => by (have h3 := hb2.cell (held_cell mQ 3 _ rfl) (fun e => oQ.out.ne mQ (by decide) e.symm); go_simp; try with_reducible rfl)⟩, _, by (go_simp; try rfl), ?_⟩
  refine wpAnyT_only 18 rfl (by kernel_rfl) (by rfl) (fun K hK => ?_)
  refine wp_appE (.tmp 53) (.tmp 55) 22 rfl N 69 8 64 viO (by decide) (.slice a len len) len ((ls : List V4).map enV).flatten rfl oQ.out va vn vc (vs.map enV) rfl sQ.out (enV_one vs) (by unfold maxLen; omega) (by omega) hNQ ?_
  intro a9 c9 W9 hO9 hG9 hN9
  refine hK _ _ ⟨fun _ => ⟨hG9.size, fun k hk hne => hG9.block k hk hne⟩, ?_⟩
  clear hK
  refine wpAnyT_takeP 19 rfl (by kernel_rfl) (by kernel_rfl) (by kernel_rfl) (fun _ _ _ _ h => h) ⟨_, Or.inl ⟨by rfl, fun w2 _ => by (go_simp; try with_reducible rfl)⟩, _, by (go_simp; try rfl), ?_⟩
  refine wpAnyT_take 20 rfl (by kernel_rfl) (by kernel_rfl) (by kernel_rfl) (by kernel_rfl) (fun _ _ _ _ h => h) ⟨_, Or.inl ⟨by rfl, fun w2 hb2 => by (go_simp; try with_reducible rfl)⟩, _, by (go_simp; try rfl), ?_⟩
  refine wpAnyT_only 21 rfl (by kernel_rfl) (by rfl) (fun K hK => ?_)
  have bQ3 := (hG9.block B lB (fun e2 => oQ.out.ne bQ (by decide) e2.symm)).trans bQ
  have mQ3 := (hG9.block p0_0 lP (fun e2 => oQ.out.ne mQ (by decide) e2.symm)).trans mQ
  have z1 := held_cell bQ3 3 _ rfl
  have f1 := held_free bQ3 3
  obtain ⟨S1, hS1, q1, o1⟩ := st1 bQ3 3 (.slice a9 (len + vn) c9)
  have k1 : Owp B 3 U11 QQ := Owp.after (held_lt hb.out) hAd
  have k2 := k1.trans (Owp.set (v := .slice a9 (len + vn) c9) bQ3 (by simp) hG9 (fun k e => by rw [wown_at bQ (j := 3) (v := .slice a len cap) rfl, hobk]; exact e) (fun k e => by rw [wown_at bQ (j := 3) (v := .slice a len cap) rfl, hobk]; exact hN9 k e))
  rw [hS1] at k2
  have hb9 : Below N U11 W9 := (Below.mono hAd (by have := hAd.size; have := held_lt hb.out; omega)).trans ((Below.refl N QQ).grown hG9 hNQ (fun k e => (oQ.out.lt k e).1))
  have hb10 := belowS hb9 o1 hN
  have oS := hid (hO9.kept (fun g hg => o1.block g (fun e2 => by subst e2; exact (hO9.ne bQ3 (by decide)) hg)))
  have mS := hid ((o1.block p0_0 npB).trans mQ3)
  replace hKe := hid (hKe.out.trans ⟨hb10, k2⟩)
  clear o1 mQ3 hG9 hN9 hO9 hb9 hb10 k1 k2
  go_simp
  refine hK _ _ ⟨fun h => (h rfl).elim, ?_⟩
  clear hK
  refine wpAnyT_done (by kernel_rfl) ?_ _
  have q1b := hid (show S1.heap[B]? = some (.cells #[.bool true, .int .i64 t, .int .i64 n, .slice a9 (len + vn) c9] 56 (0, 0)) from q1)
  clear q1 bQ3 bQ mQ oQ sQ hAd hQQ hS1 z1 f1 cutF hobk hO hb hr1 hS
  have oF := hid (show OwnE 69 S1 N 8 (.slice a9 (len + vn) c9) (len + vn) ((ls ++ vs).map enV).flatten from by rw [List.map_append, List.flatten_append]; exact oS.out)
  have lF := hid (show (ls ++ vs).length = len + vn from by rw [List.length_append, hl1.out, hvl.out])
  clear oS
  obtain ⟨L9, hL9⟩ : ∃ L, ls ++ vs = L := ⟨_, rfl⟩
  rw [hL9] at emo ela oF lF
  replace hL9 := hid hL9
  obtain ⟨l9, hl9⟩ : ∃ l, len + vn = l := ⟨_, rfl⟩
  rw [hl9] at q1b oF lF
  have hl9b : l9 ≤ 104 := by omega
  replace hl9 := hid hl9
  have m0 := held_cell mS.out 0 _ rfl
  have m1 := held_cell mS.out 1 _ rfl
  by_cases qc : no < tt
  case pos =>
    have b9 : decide (no < tt) = true := by simpa using qc
    have e9 := emo.out qc
    clear emo ela
    subst e9
    have wn : IntKind.i64.wrap (no + 1) = no + 1 := by rw [IntKind.wrap_i64]; omega
    have bQ := q1b.out
    have f1 := held_free bQ 1
    have f2 := held_free bQ 2
    have x1 := held_cell bQ 1 _ rfl
    have x2 := held_cell bQ 2 _ rfl
    obtain ⟨S2, hS2, y3, o2⟩ := set2_29 bQ 1 2 (.int .i64 tt) (.int .i64 (no + 1))
    have y4 : S2.heap[B]? = some (.cells #[.bool true, .int .i64 tt, .int .i64 (no + 1), .slice a9 l9 c9] 56 (0, 0)) := y3
    have hO4 := ownE_only oF.out bQ (by decide) o2
    have k4 : PEff N B 3 S1 S2 := pset29 bQ hN (by simp) hS2
    have hfin := hid (show AdOk N B w ((tt, no + 1, L9), none) (.returned (.tuple #[.slice none 0 0, .bool false])) S2 from ⟨⟨a9, l9, c9, y4, hO4, lF.out⟩, hKe.out.trans k4, none, 0, 0, rfl, Els.nil _ _, fun x hx => (by cases hx)⟩)
    clear y3 y4 o2 hO4 k4 bQ
    go_wp2_with fail
    go_ret2
    exact hfin.out
  have b9 : decide (no < tt) = false := by simpa using qc
  have e9 := ela.out (by omega)
  clear emo ela
  subst e9
  have z3 := held_cell q1b.out 3 _ rfl
  have eF := hid (oF.out.els (by rw [List.length_map]; exact lF.out) (enV_m L9))
  have lS1 := held_lt q1b.out
  have hwS9 := hid hKe.out.below.size
  have lown := hid (fun g (hg : (Value.slice a9 l9 c9).ownBlock = some g) => (oF.out.lt g hg).2.1)
  go_wp2_with fail
  clear m0 m1 mS
  refine (clonev29_any a9 l9 c9 (L9.map enV) _ (by omega) eF.out (enV_one L9)).mono ?_
  rintro r V5 ⟨a5, c5, rfl, hE5, hA, hnew⟩
  replace q1b := hid (held_after hA q1b.out)
  replace oF := hid (oF.out.below hA)
  replace hKe := hid (hKe.out.trans (PEff.after (by omega) lS1 hA))
  replace hE5 := hid hE5
  replace hnew := hid hnew
  clear hA z3 eF
  go_wp2_with fail
  refine (bnone29_any N B t n a9 l9 c9 _ _ q1b.out oF.out hN).mono ?_
  rintro r V6 ⟨rfl, y1, y2, y3⟩
  have hE6 := hE5.out.kept29 (fun x hx _ => y3.owp.block x.block (hnew.out x hx).2 (by have := (hnew.out x hx).1; omega) (by rw [wown_at q1b.out (j := 3) (v := .slice a9 l9 c9) rfl]; intro e; have := lown.out _ e.symm; have := (hnew.out x hx).1; omega))
  have hwS : w.heap.size ≤ S1.heap.size := hwS9.out
  have hfin := hid (show AdOk N B w ((0, 0, []), some L9) (.returned (.tuple #[.slice a5 l9 c5, .bool true])) V6 from ⟨⟨a9, 0, c9, y1, y2, rfl⟩, hKe.out.trans y3, a5, l9, c5, rfl, hE6, fun x hx => (by have := (hnew.out x hx).1; omega)⟩)
  clear y1 y2 y3 hE5 hE6 hnew lown
  go_wp2_with fail
  go_ret2
  exact hfin.out

end Go.Proofs.YtobgibmpodggkaaDoor

/- Stage 29: num, Views, knows. -/
namespace Go.Proofs.YtobgibmpodggkaaDoor
open Go.ChangeShapes Go.WideShapes Go.ChangeAt Go.RowKit
set_option linter.unusedVariables false
set_option linter.unusedSimpArgs false

theorem num29_any (n : Int) (w : World) : Calls Tryd.prog 12 #[.int .i64 n] w fun e w' => e = .returned (.int .i64 n) ∧ After w w' := by
  go_enter Tryd.func12, Tryd.ntmps12
  go_wp2_with fail
  go_ret
  exact ⟨rfl, After.refl _⟩
set_option maxRecDepth 100000 in
theorem eqN29 (i : Bool) (n : Int) (w : World) : (Op.equalIn 9999 64 (.agg #[.bool i, .int .i64 n]) (.agg #[.bool i, .int .i64 n])).run Tryd.prog w = .ok true w := by
  rw [show (9999 : Nat) = 9998 + 1 from rfl, run_equalIn_agg w 9998 _ _ _ (by kernel_rfl) (by kernel_rfl)]
  go_simp
set_option maxRecDepth 100000 in
set_option maxHeartbeats 4000000 in
theorem eqV29 (i0 : Bool) (m0 : Int) (i1 : Bool) (m1 : Int) (i2 : Bool) (m2 : Int) (i3 : Bool) (m3 : Int) (w : World) : (Op.equalIn 10000 69 (.agg #[.bool i0, .int .i64 m0, .bool i1, .int .i64 m1, .bool i2, .int .i64 m2, .bool i3, .int .i64 m3]) (.agg #[.bool i0, .int .i64 m0, .bool i1, .int .i64 m1, .bool i2, .int .i64 m2, .bool i3, .int .i64 m3])).run Tryd.prog w = .ok true w := by
  have e := fun i n W => eqN29 i n W
  rw [show (10000 : Nat) = 9999 + 1 from rfl, run_equalIn_struct w 9999 _ _ _ (by rfl) (by kernel_rfl)]
  go_simp
theorem els_lt29 {w : World} {m : Nat} {a : Option Addr} {len cap : Nat} {xs : List (List Value)} (h : Els w m a len cap xs) (hm : 0 < m) : ∀ x, a = some x → 0 < len → x.block < w.heap.size := by
  intro x hx h0
  obtain ⟨y, hy⟩ : ∃ y, xs[0]? = some y := ⟨_, List.getElem?_eq_getElem (by have := h.1; omega)⟩
  obtain ⟨h1, b, off, e, hc⟩ := h.2.2.2.2 0 y hy
  rw [hx] at e
  obtain rfl := Option.some.inj e
  obtain ⟨v, hv⟩ : ∃ v, y[0]? = some v := ⟨_, List.getElem?_eq_getElem (by omega)⟩
  have := World.block_lt_of_cell? w _ (hc 0 v hv)
  exact this
theorem views_of (xs : List (List Value)) (h : ∀ x ∈ xs, (∃ (c0 : Bool) (c1 : Int) (c2 : Bool) (c3 : Int) (c4 : Bool) (c5 : Int) (c6 : Bool) (c7 : Int), x = [.bool c0, .int .i64 c1, .bool c2, .int .i64 c3, .bool c4, .int .i64 c5, .bool c6, .int .i64 c7] ∧ ((Lit.int .i64 c1).wf = true) ∧ ((Lit.int .i64 c3).wf = true) ∧ ((Lit.int .i64 c5).wf = true) ∧ ((Lit.int .i64 c7).wf = true))) : ∃ vs : List V4, xs = vs.map enV ∧ ∀ v ∈ vs, okV v := by
  induction xs with
  | nil => exact ⟨[], rfl, fun v hv => by cases hv⟩
  | cons x xs ih =>
    obtain ⟨vs, rfl, h2⟩ := ih (fun y hy => h y (List.mem_cons_of_mem _ hy))
    obtain ⟨c0, c1, c2, c3, c4, c5, c6, c7, rfl, b1, b3, b5, b7⟩ := h x (List.mem_cons_self ..)
    refine ⟨((c0, c1), (c2, c3), (c4, c5), c6, c7) :: vs, rfl, ?_⟩
    intro v hv
    rcases List.mem_cons.1 hv with rfl | hv
    · exact ⟨bounds_i64 b1, bounds_i64 b3, bounds_i64 b5, bounds_i64 b7⟩
    · exact h2 v hv
set_option maxRecDepth 100000 in
set_option maxHeartbeats 8000000 in
theorem views29_any (a1 a2 : Option Addr) (c1 c2 m : Nat) (vs : List V4) (w : World) (hm : vs.length = m) (h1 : Els w 8 a1 m c1 (vs.map enV)) (h2 : Els w 8 a2 m c2 (vs.map enV)) (hb : m ≤ 100000) : Calls Tryd.prog 20 #[.slice a1 m c1, .slice a2 m c2] w fun e w' => e = .returned (.bool true) ∧ After w w' := by
  replace h1 := hid h1
  replace h2 := hid h2
  replace hm := hid hm
  go_enter Tryd.func20, Tryd.ntmps20
  go_upto_region 0 with (fail)
  go_wp2_with fail
  go_loopw [5] (fun ix wr => ∃ k : Nat, k ≤ m ∧ ix = .int .i64 k ∧ After w wr) (fun ix _ => m - (intOf ix).toNat)
  case atStart => exact ⟨0, by omega, rfl, Below.refl _ _⟩
  case round =>
    obtain ⟨k, hk, rfl, hA⟩ := hrel
    by_cases hlt : (k : Int) < m
    case neg =>
      replace hA := hid hA
      go_wp2_with fail
      go_ret
      exact ⟨rfl, hA.out⟩
    obtain ⟨x, hx⟩ : ∃ x, vs[k]? = some x := ⟨_, List.getElem?_eq_getElem (show k < vs.length by have := hm.out; omega)⟩
    have hxk : (vs.map enV)[k]? = some (enV x) := by rw [List.getElem?_map, hx]; rfl
    obtain ⟨⟨i0, m0⟩, ⟨i1, m1⟩, ⟨i2, m2⟩, i3, m3⟩ := x
    obtain ⟨p1, o1, e1, g0, g1, g2, g3, g4, g5, g6, g7⟩ := (h1.out.below hA).at8 hxk
    obtain ⟨p2, o2, e2, q0, q1, q2, q3, q4, q5, q6, q7⟩ := (h2.out.below hA).at8 hxk
    cases e1
    cases e2
    have kz : (0 : Int) ≤ k := by omega
    have wk : IntKind.i64.wrap ((k : Int) + 1) = (k : Int) + 1 := by rw [IntKind.wrap_i64]; omega
    have hk1 := hid (show k + 1 ≤ m by omega)
    have eqx := fun W => eqV29 i0 m0 i1 m1 i2 m2 i3 m3 W
    have hA2 := hid hA.drew
    clear hx hxk hA hk
    go_upto_region 6 with (fail)
    refine wp_region_R (by kernel_rfl) ?_
    refine wpAnyR_take 0 rfl (by kernel_rfl) (by kernel_rfl) (by kernel_rfl) (fun _ _ _ _ h => h) ⟨_, Or.inl ⟨by rfl, fun w2 hb2 => by (go_simp; try with_reducible rfl)⟩, _, by (go_simp; try rfl), ?_⟩
    refine wpAnyR_take 1 rfl (by kernel_rfl) (by kernel_rfl) (by kernel_rfl) (fun _ _ _ _ h => h) ⟨_, Or.inl ⟨by rfl, fun w2 hb2 => by (go_simp; try with_reducible rfl)⟩, _, by (go_simp; try rfl), ?_⟩
    refine wpAnyR_take 2 rfl (by kernel_rfl) (by kernel_rfl) (by kernel_rfl) (fun _ _ _ _ h => h) ⟨_, Or.inl ⟨by rfl, fun w2 hb2 => by (go_simp; try with_reducible rfl)⟩, _, by (go_simp; try rfl), ?_⟩
    refine wpAnyR_take 3 rfl (by kernel_rfl) (by kernel_rfl) (by kernel_rfl) (fun _ _ _ _ h => h) ⟨_, Or.inl ⟨by rfl, fun w2 hb2 => by (have h0 := (Below.cell hb2 (World.block_lt_of_cell? wr _ g0)).trans g0; have h1 := (Below.cell hb2 (World.block_lt_of_cell? wr _ g1)).trans g1; have h2 := (Below.cell hb2 (World.block_lt_of_cell? wr _ g2)).trans g2; have h3 := (Below.cell hb2 (World.block_lt_of_cell? wr _ g3)).trans g3; have h4 := (Below.cell hb2 (World.block_lt_of_cell? wr _ g4)).trans g4; have h5 := (Below.cell hb2 (World.block_lt_of_cell? wr _ g5)).trans g5; have h6 := (Below.cell hb2 (World.block_lt_of_cell? wr _ g6)).trans g6; have h7 := (Below.cell hb2 (World.block_lt_of_cell? wr _ g7)).trans g7; go_simp; try with_reducible rfl)⟩, _, by (go_simp; try rfl), ?_⟩
    refine wpAnyR_take 4 rfl (by kernel_rfl) (by kernel_rfl) (by kernel_rfl) (fun _ _ _ _ h => h) ⟨_, Or.inl ⟨by rfl, fun w2 hb2 => by (go_simp; try with_reducible rfl)⟩, _, by (go_simp; try rfl), ?_⟩
    refine wpAnyR_take 5 rfl (by kernel_rfl) (by kernel_rfl) (by kernel_rfl) (fun _ _ _ _ h => h) ⟨_, Or.inl ⟨by rfl, fun w2 hb2 => by (go_simp; try with_reducible rfl)⟩, _, by (go_simp; try rfl), ?_⟩
    refine wpAnyR_take 6 rfl (by kernel_rfl) (by kernel_rfl) (by kernel_rfl) (fun _ _ _ _ h => h) ⟨_, Or.inl ⟨by rfl, fun w2 hb2 => by (go_simp; try with_reducible rfl)⟩, _, by (go_simp; try rfl), ?_⟩
    refine wpAnyR_take 7 rfl (by kernel_rfl) (by kernel_rfl) (by kernel_rfl) (fun _ _ _ _ h => h) ⟨_, Or.inl ⟨by rfl, fun w2 hb2 => by (have h0 := (Below.cell hb2 (World.block_lt_of_cell? wr _ q0)).trans q0; have h1 := (Below.cell hb2 (World.block_lt_of_cell? wr _ q1)).trans q1; have h2 := (Below.cell hb2 (World.block_lt_of_cell? wr _ q2)).trans q2; have h3 := (Below.cell hb2 (World.block_lt_of_cell? wr _ q3)).trans q3; have h4 := (Below.cell hb2 (World.block_lt_of_cell? wr _ q4)).trans q4; have h5 := (Below.cell hb2 (World.block_lt_of_cell? wr _ q5)).trans q5; have h6 := (Below.cell hb2 (World.block_lt_of_cell? wr _ q6)).trans q6; have h7 := (Below.cell hb2 (World.block_lt_of_cell? wr _ q7)).trans q7; go_simp; try with_reducible rfl)⟩, _, by (go_simp; try rfl), ?_⟩
    refine wpAnyR_take 8 rfl (by kernel_rfl) (by kernel_rfl) (by kernel_rfl) (fun _ _ _ _ h => h) ⟨_, Or.inl ⟨by rfl, fun w2 hb2 => by (go_simp; try with_reducible rfl)⟩, _, by (go_simp; try rfl), ?_⟩
    refine wpAnyR_done (by kernel_rfl) ?_ _
    clear eqx
    go_wp2_with fail
    go_roundw
    case rel => exact ⟨k + 1, hk1.out, by simp, hA2.out⟩
    case measure => simp [intOf]; omega
set_option maxRecDepth 100000 in
set_option maxHeartbeats 8000000 in
theorem knows29_any (w : World) (hT : Tab w) : Calls Tryd.prog 8 #[] w fun e w' => e = .returned (.bool true) ∧ After w w' := by
  have hE : gvE 2 1 5 [] = 0 := by kernel_rfl
  have hL : fL (gvI 2 1 5 []) = [nb [50], nb [49], ⟨#[53]⟩] := by kernel_rfl
  have kP := fun U hh => gvput_any 2 1 5 none 0 0 [] U (by decide) (fun v hv => by cases hv) (Els.nil _ _) hh
  rw [hE, hL] at kP
  replace kP := hid kP
  clear hE hL
  replace hT := hid hT
  go_enter Tryd.func8, Tryd.ntmps8
  go_wp2_with fail
  refine (bnew29_any _).mono ?_
  rintro r V ⟨rfl, hv⟩
  have nw := alloc_new w (.cells #[.bool true, .int .i64 0, .int .i64 0, .slice none 0 0] 56)
  rw [← hv] at nw
  obtain ⟨n1, n2, n3⟩ := nw
  have hbk : BkIn w.heap.size w.heap.size 0 0 [] V := ⟨none, 0, 0, n3, OwnE.nil _ _ _ _, rfl⟩
  have hB := hid n2
  replace hbk := hid hbk
  clear hv n1 n2 n3
  obtain ⟨B, hBe⟩ : ∃ B, w.heap.size = B := ⟨_, rfl⟩
  have hB2 : Below B w V := by rw [← hBe]; exact hB.out
  replace hB := hid hB2
  clear hB2
  rw [hBe] at hbk ⊢
  replace hBe := hid hBe
  go_wp2_with fail
  refine (badd29_any B B 0 0 [] 1 1 0 none 0 0 [] _ hbk.out (Nat.le_refl _) (by decide) (Els.nil _ _) (fun x hx => by cases hx)).mono ?_
  rintro r V2 ⟨-, hK, a, n, c, rfl, hE, -⟩
  obtain rfl : n = 0 := hE.1.symm
  have hA2 : After w V2 := by show Below w.heap.size w V2; rw [hBe.out]; exact hB.out.trans hK.below
  replace hT := hid (hT.out.on hA2)
  replace hA2 := hid hA2
  clear hK hE hbk hB hBe
  go_wp2_with fail
  refine (kP.out _ hT.out).mono ?_
  rintro r V3 ⟨a3, c3, rfl, hE3, -, hA⟩
  replace hA2 := hid (bthen hA2.out hA)
  clear hA
  rw [if_pos rfl] at hE3 ⊢
  obtain ⟨b, o, rfl, d0⟩ := hE3.at1 (i := 2) (v0 := .string ⟨#[53]⟩) rfl
  clear hE3 kP hT
  obtain ⟨n3, hn3⟩ : ∃ n, ([nb [50], nb [49], ⟨#[53]⟩] : List ByteArray).length = n := ⟨_, rfl⟩
  rw [hn3]
  have d3 : ((n3 : Int) == 3) = true := by rw [← hn3]; rfl
  have l3 : (2 : Int) < (n3 : Int) := by rw [← hn3]; decide
  replace hn3 := hid hn3
  go_wp2_with fail
  refine (num29_any 0 _).mono ?_
  rintro e V4 ⟨rfl, hA⟩
  replace hA2 := hid (bthen hA2.out hA)
  clear hA
  go_wp2_with fail
  go_ret
  exact ⟨ret_bool (by simp), hA2.out⟩

end Go.Proofs.YtobgibmpodggkaaDoor

/- Stage 29: Same. -/
namespace Go.Proofs.YtobgibmpodggkaaDoor
open Go.ChangeShapes Go.WideShapes Go.ChangeAt Go.RowKit
set_option linter.unusedVariables false
set_option linter.unusedSimpArgs false

set_option maxRecDepth 100000 in
set_option maxHeartbeats 8000000 in
theorem same29_any (tt no sn : Int) (a1 a2 : Option Addr) (n1 c1 n2 c2 : Nat) (vs : List V4) (w : World) (h1 : Els w 8 a1 n1 c1 (vs.map enV)) (h2 : Els w 8 a2 n2 c2 (vs.map enV)) (hb : n1 ≤ 100000) : Calls Tryd.prog 15 #[.agg #[.int .i64 tt, .int .i64 no, .int .i64 sn, .slice a1 n1 c1], .agg #[.int .i64 tt, .int .i64 no, .int .i64 sn, .slice a2 n2 c2]] w fun e w' => e = .returned (.bool true) ∧ After w w' := by
  have l1 := h1.1
  have l2 := h2.1
  rw [List.length_map] at l1 l2
  obtain rfl : n1 = n2 := by omega
  have q1 : (tt == tt) = true := beq_self_eq_true tt
  have q2 : (no == no) = true := beq_self_eq_true no
  have q3 : (sn == sn) = true := beq_self_eq_true sn
  replace h1 := hid h1
  replace h2 := hid h2
  replace l1 := hid l1
  clear l2
  go_enter Tryd.func15, Tryd.ntmps15
  go_upto_region 0 with (fail)
  apply wp_region_seg0 (w := w) (S := [.al 1000, .al 1000, .q []]) (E := [.al ((fun p => .pointer (some ⟨p, 0, none⟩)), _) 1000, .al ((fun p => .pointer (some ⟨p, 0, none⟩)), _) 1000, .q0 _]) rfl (by kernel_rfl) rfl rfl
  intro th hge hne
  refine Seg.step _ rfl ⟨by rfl, fun U hU => ?_⟩ ?_
  · go_simp; exact vp_alloc rfl rfl rfl
  refine Seg.sa ?_
  refine Seg.step _ rfl ⟨by rfl, fun U hU => ?_⟩ ?_
  · go_simp; exact vp_alloc rfl rfl rfl
  refine Seg.sa ?_
  refine Seg.sq ?_
  refine Seg.stop (fun U1 hU hk => ?_)
  have nb0 := hge 0 _ _ rfl
  have rb0 := (hk 0 _ _ rfl trivial).1.2 (by simp)
  have nb1 := hge 1 _ _ rfl
  have rb1 := (hk 1 _ _ rfl trivial).1.2 (by simp)
  have ne0_1 := hne 0 1 _ _ _ _ rfl rfl (by omega)
  clear hk hge hne
  generalize th (0 + 0) = p0_0 at *
  dsimp only at rb0
  generalize th (0 + 1) = p0_1 at *
  dsimp only at rb1
  have r_p0_0 := rb0
  clear rb0
  have n_p0_0 := nb0
  clear nb0
  have d_p0_0_p0_1 := ne0_1
  clear ne0_1
  have r_p0_1 := rb1
  clear rb1
  have n_p0_1 := nb1
  clear nb1
  have sz1 := hU.size
  have hB : Below w.heap.size w U1 := hU
  clear hU
  have k := hid (views29_any a1 a2 c1 c2 n1 vs _ l1.out (h1.out.below hB) (h2.out.below hB) hb)
  have x0 := held_cell r_p0_0 0 _ rfl
  have x1 := held_cell r_p0_0 1 _ rfl
  have x2 := held_cell r_p0_0 2 _ rfl
  have x3 := held_cell r_p0_0 3 _ rfl
  have y0 := held_cell r_p0_1 0 _ rfl
  have y1 := held_cell r_p0_1 1 _ rfl
  have y2 := held_cell r_p0_1 2 _ rfl
  have y3 := held_cell r_p0_1 3 _ rfl
  replace hB := hid hB
  clear r_p0_0 r_p0_1
  go_wp2_with fail
  refine k.out.mono ?_
  rintro e V ⟨rfl, hA⟩
  have hB9 := hid (bthen hB.out hA)
  clear hA
  go_wp2_with fail
  go_ret
  exact ⟨rfl, hB9.out⟩

end Go.Proofs.YtobgibmpodggkaaDoor

/- Stage 29: messages of a law. -/
namespace Go.Proofs.YtobgibmpodggkaaDoor
open Go.ChangeShapes Go.WideShapes Go.ChangeAt Go.RowKit
set_option linter.unusedVariables false
set_option linter.unusedSimpArgs false

def MsgE (W : World) (x : List Value) : Prop := ∃ (tt no sn : Int) (a : Option Addr) (l c : Nat) (vs : List V4), x = [.int .i64 tt, .int .i64 no, .int .i64 sn, .slice a l c] ∧ Els W 8 a l c (vs.map enV)
theorem msgs_of {W : World} {xs : List (List Value)} (t0 : ∀ x ∈ xs, (∃ (c0 : Int) (c1 : Int) (c2 : Int) (c3_a : Option Addr) (c3_l c3_c : Nat) (c3_x : List (List Value)), x = [.int .i64 c0, .int .i64 c1, .int .i64 c2, .slice c3_a c3_l c3_c] ∧ ((Lit.int .i64 c0).wf = true) ∧ ((Lit.int .i64 c1).wf = true) ∧ ((Lit.int .i64 c2).wf = true) ∧ (Els W 8 c3_a c3_l c3_c c3_x ∧ ∀ x ∈ c3_x, (∃ (c0 : Bool) (c1 : Int) (c2 : Bool) (c3 : Int) (c4 : Bool) (c5 : Int) (c6 : Bool) (c7 : Int), x = [.bool c0, .int .i64 c1, .bool c2, .int .i64 c3, .bool c4, .int .i64 c5, .bool c6, .int .i64 c7] ∧ ((Lit.int .i64 c1).wf = true) ∧ ((Lit.int .i64 c3).wf = true) ∧ ((Lit.int .i64 c5).wf = true) ∧ ((Lit.int .i64 c7).wf = true))))) : ∀ x ∈ xs, MsgE W x := by
  intro x hx
  obtain ⟨c0, c1, c2, a, l, c, cx, rfl, -, -, -, hE, hcx⟩ := t0 x hx
  obtain ⟨vs, rfl, -⟩ := views_of cx hcx
  exact ⟨c0, c1, c2, a, l, c, vs, rfl, hE⟩
theorem add_bd {t n : Int} {ls : List V4} {tt no : Int} {vs : List V4} (h : 0 ≤ n ∧ n ≤ 9 ∧ (ls.length : Int) ≤ 4 * n) : (0 ≤ (addS t n ls tt no vs).1.2.1 ∧ (addS t n ls tt no vs).1.2.1 ≤ 9 ∧ ((addS t n ls tt no vs).1.2.2.length : Int) ≤ 4 * (addS t n ls tt no vs).1.2.1) ∧ ((addS t n ls tt no vs).2.getD []).length ≤ 100 := by
  by_cases hg : rgB tt no vs.length = true ∧ (no = 1 ∨ (t = tt ∧ n = no))
  · have h2 : 1 ≤ tt ∧ tt ≤ 9 ∧ 1 ≤ no ∧ no ≤ tt ∧ vs.length ≤ 4 := of_decide_eq_true hg.1
    obtain ⟨l1, h1⟩ : ∃ l1, (if no = 1 then [] else ls) = l1 := ⟨_, rfl⟩
    have hl : (l1.length : Int) ≤ 4 * no - 4 ∨ (l1.length : Int) ≤ 4 * no := by
      rw [← h1]
      split
      · left; simp; omega
      · rename_i hne
        rcases hg.2 with h3 | ⟨-, h3⟩
        · exact absurd h3 hne
        · right; omega
    by_cases hlt : no < tt
    · rw [addS_more hg h1 hlt]
      dsimp only
      refine ⟨⟨by omega, by omega, ?_⟩, by decide⟩
      rw [List.length_append]
      omega
    · rw [addS_last hg h1 hlt]
      dsimp only
      refine ⟨by decide, ?_⟩
      show (l1 ++ vs).length ≤ 100
      rw [List.length_append]
      omega
  · rw [addS_no hg]
    exact ⟨by decide, by decide⟩

end Go.Proofs.YtobgibmpodggkaaDoor
