/- Package sats: fields, values. -/
import Derived.Test.YtahjcbdofljfpaaKS4
import Derived.Test.YtahjcbdofljfpaaKA
import Derived.Test.YtahjcbdofljfpaaKB
import Derived.Test.YtahjcbdofljfpaaEls
import Derived.Laws.OwnMore
import Derived.Deep.DeepCutAuto
namespace Go.Proofs.Ytahjcbdofljfpaa
open Go.ChangeShapes Go.WideShapes Go.ChangeAt Go.RowKit
set_option linter.unusedVariables false
set_option linter.unusedSimpArgs false

def HD17 : List Fd := [⟨4, false, 0, 604799999⟩, ⟨1, false, 1, 1⟩, ⟨1, false, 0, 64⟩, ⟨2, false, 0, 0⟩]
def SD17 : List Fd := [⟨1, false, 0, 7⟩, ⟨1, false, 0, 255⟩, ⟨1, false, 0, 63⟩, ⟨1, true, -90, 90⟩, ⟨2, true, 0, 360⟩, ⟨2, true, -32768, 32767⟩, ⟨4, false, 0, 4294967295⟩]
theorem row_lit (k : IntKind) (E : TypeId) (w : World) (zs : List Int) (c : Array Value) (n p : Nat) (hc : c = (zs.map (Value.int k)).toArray) (hn : zs.length = n) (hm : n ≤ maxLen) (hp : p = w.heap.size) : Sl k (w.alloc (.cells c E)) (some ⟨p, 0, none⟩) n n zs := by
  subst hc hn hp
  exact Row.sl (show Row k E (w.alloc (.cells (zs.map (Value.int k)).toArray E)) w.heap.size zs from (alloc_new w _).2.2) hm
set_option maxRecDepth 100000 in
set_option maxHeartbeats 2000000 in
theorem fieldsH17 (w : World) : Calls Try.prog 14 #[] w (FdOk w HD17) := by
  have e0 : uV 4 604799999 = .agg #[.int .i64 4, .bool false, .int .i64 0, .int .i64 604799999] := by rfl
  replace e0 := hid e0
  have e2 : uV 1 64 = .agg #[.int .i64 1, .bool false, .int .i64 0, .int .i64 64] := by rfl
  replace e2 := hid e2
  have e3 : uV 2 0 = .agg #[.int .i64 2, .bool false, .int .i64 0, .int .i64 0] := by rfl
  replace e3 := hid e3
  go_enter Try.func14, Try.ntmps14
  go_wp2_with fail
  refine (u_any 4 604799999 _).mono ?_
  rintro e w1 ⟨rfl, hA1⟩
  replace hA1 := hid hA1
  rw [e0.out]
  go_wp2_with fail
  refine (u_any 1 64 _).mono ?_
  rintro e w3 ⟨rfl, hA3⟩
  replace hA3 := hid hA3
  rw [e2.out]
  go_wp2_with fail
  refine (u_any 2 0 _).mono ?_
  rintro e w4 ⟨rfl, hA4⟩
  replace hA4 := hid hA4
  rw [e3.out]
  skip
  have hB := hid (bthen (bthen (bthen (After.refl w) hA1.out) hA3.out) hA4.out)
  have hF := hid (flds_block (l := HD17) (alloc_new w4 (.cells #[.int .i64 4, .bool false, .int .i64 0, .int .i64 604799999, .int .i64 1, .bool false, .int .i64 1, .int .i64 1, .int .i64 1, .bool false, .int .i64 0, .int .i64 64, .int .i64 2, .bool false, .int .i64 0, .int .i64 0] 39)).2.2 rfl (by decide))
  have hB9 := hid (balloc hB.out (Nat.le_refl _) (.cells #[.int .i64 4, .bool false, .int .i64 0, .int .i64 604799999, .int .i64 1, .bool false, .int .i64 1, .int .i64 1, .int .i64 1, .bool false, .int .i64 0, .int .i64 64, .int .i64 2, .bool false, .int .i64 0, .int .i64 0] 39))
  clear hB
  go_wp2_with fail
  go_ret
  exact ⟨_, 4, rfl, hF.out, hB9.out⟩
set_option maxRecDepth 100000 in
set_option maxHeartbeats 2000000 in
theorem rfieldsH17 (w : World) : Calls Try.prog 15 #[] w (FdOk w HD17) := by
  go_enter Try.func15, Try.ntmps15
  go_wp2_with fail
  have hB := hid (After.refl w)
  have hF := hid (flds_block (l := HD17) (alloc_new w (.cells #[.int .i64 4, .bool false, .int .i64 0, .int .i64 604799999, .int .i64 1, .bool false, .int .i64 1, .int .i64 1, .int .i64 1, .bool false, .int .i64 0, .int .i64 64, .int .i64 2, .bool false, .int .i64 0, .int .i64 0] 39)).2.2 rfl (by decide))
  have hB9 := hid (balloc hB.out (Nat.le_refl _) (.cells #[.int .i64 4, .bool false, .int .i64 0, .int .i64 604799999, .int .i64 1, .bool false, .int .i64 1, .int .i64 1, .int .i64 1, .bool false, .int .i64 0, .int .i64 64, .int .i64 2, .bool false, .int .i64 0, .int .i64 0] 39))
  clear hB
  go_wp2_with fail
  go_ret
  exact ⟨_, 4, rfl, hF.out, hB9.out⟩
set_option maxRecDepth 100000 in
set_option maxHeartbeats 2000000 in
theorem fieldsS17 (w : World) : Calls Try.prog 16 #[] w (FdOk w SD17) := by
  have e0 : uV 1 7 = .agg #[.int .i64 1, .bool false, .int .i64 0, .int .i64 7] := by rfl
  replace e0 := hid e0
  have e1 : uV 1 255 = .agg #[.int .i64 1, .bool false, .int .i64 0, .int .i64 255] := by rfl
  replace e1 := hid e1
  have e2 : uV 1 63 = .agg #[.int .i64 1, .bool false, .int .i64 0, .int .i64 63] := by rfl
  replace e2 := hid e2
  have e3 : iV 1 (-90) 90 = .agg #[.int .i64 1, .bool true, .int .i64 (-90), .int .i64 90] := by rfl
  replace e3 := hid e3
  have e4 : iV 2 0 360 = .agg #[.int .i64 2, .bool true, .int .i64 0, .int .i64 360] := by rfl
  replace e4 := hid e4
  have e5 : anyV 2 true = .agg #[.int .i64 2, .bool true, .int .i64 (-32768), .int .i64 32767] := by rfl
  replace e5 := hid e5
  have e6 : anyV 4 false = .agg #[.int .i64 4, .bool false, .int .i64 0, .int .i64 4294967295] := by rfl
  replace e6 := hid e6
  go_enter Try.func16, Try.ntmps16
  go_wp2_with fail
  refine (u_any 1 7 _).mono ?_
  rintro e w1 ⟨rfl, hA1⟩
  replace hA1 := hid hA1
  rw [e0.out]
  go_wp2_with fail
  refine (u_any 1 255 _).mono ?_
  rintro e w2 ⟨rfl, hA2⟩
  replace hA2 := hid hA2
  rw [e1.out]
  go_wp2_with fail
  refine (u_any 1 63 _).mono ?_
  rintro e w3 ⟨rfl, hA3⟩
  replace hA3 := hid hA3
  rw [e2.out]
  go_wp2_with fail
  refine (i_any 1 (-90) 90 _).mono ?_
  rintro e w4 ⟨rfl, hA4⟩
  replace hA4 := hid hA4
  rw [e3.out]
  go_wp2_with fail
  refine (i_any 2 0 360 _).mono ?_
  rintro e w5 ⟨rfl, hA5⟩
  replace hA5 := hid hA5
  rw [e4.out]
  go_wp2_with fail
  refine (any_any 2 true _).mono ?_
  rintro e w6 ⟨rfl, hA6⟩
  replace hA6 := hid hA6
  rw [e5.out]
  go_wp2_with fail
  refine (any_any 4 false _).mono ?_
  rintro e w7 ⟨rfl, hA7⟩
  replace hA7 := hid hA7
  rw [e6.out]
  skip
  have hB := hid (bthen (bthen (bthen (bthen (bthen (bthen (bthen (After.refl w) hA1.out) hA2.out) hA3.out) hA4.out) hA5.out) hA6.out) hA7.out)
  have hF := hid (flds_block (l := SD17) (alloc_new w7 (.cells #[.int .i64 1, .bool false, .int .i64 0, .int .i64 7, .int .i64 1, .bool false, .int .i64 0, .int .i64 255, .int .i64 1, .bool false, .int .i64 0, .int .i64 63, .int .i64 1, .bool true, .int .i64 (-90), .int .i64 90, .int .i64 2, .bool true, .int .i64 0, .int .i64 360, .int .i64 2, .bool true, .int .i64 (-32768), .int .i64 32767, .int .i64 4, .bool false, .int .i64 0, .int .i64 4294967295] 39)).2.2 rfl (by decide))
  have hB9 := hid (balloc hB.out (Nat.le_refl _) (.cells #[.int .i64 1, .bool false, .int .i64 0, .int .i64 7, .int .i64 1, .bool false, .int .i64 0, .int .i64 255, .int .i64 1, .bool false, .int .i64 0, .int .i64 63, .int .i64 1, .bool true, .int .i64 (-90), .int .i64 90, .int .i64 2, .bool true, .int .i64 0, .int .i64 360, .int .i64 2, .bool true, .int .i64 (-32768), .int .i64 32767, .int .i64 4, .bool false, .int .i64 0, .int .i64 4294967295] 39))
  clear hB
  go_wp2_with fail
  go_ret
  exact ⟨_, 7, rfl, hF.out, hB9.out⟩
set_option maxRecDepth 100000 in
set_option maxHeartbeats 2000000 in
theorem rfieldsS17 (w : World) : Calls Try.prog 17 #[] w (FdOk w SD17) := by
  go_enter Try.func17, Try.ntmps17
  go_wp2_with fail
  have hB := hid (After.refl w)
  have hF := hid (flds_block (l := SD17) (alloc_new w (.cells #[.int .i64 1, .bool false, .int .i64 0, .int .i64 7, .int .i64 1, .bool false, .int .i64 0, .int .i64 255, .int .i64 1, .bool false, .int .i64 0, .int .i64 63, .int .i64 1, .bool true, .int .i64 (-90), .int .i64 90, .int .i64 2, .bool true, .int .i64 0, .int .i64 360, .int .i64 2, .bool true, .int .i64 (-32768), .int .i64 32767, .int .i64 4, .bool false, .int .i64 0, .int .i64 4294967295] 39)).2.2 rfl (by decide))
  have hB9 := hid (balloc hB.out (Nat.le_refl _) (.cells #[.int .i64 1, .bool false, .int .i64 0, .int .i64 7, .int .i64 1, .bool false, .int .i64 0, .int .i64 255, .int .i64 1, .bool false, .int .i64 0, .int .i64 63, .int .i64 1, .bool true, .int .i64 (-90), .int .i64 90, .int .i64 2, .bool true, .int .i64 0, .int .i64 360, .int .i64 2, .bool true, .int .i64 (-32768), .int .i64 32767, .int .i64 4, .bool false, .int .i64 0, .int .i64 4294967295] 39))
  clear hB
  go_wp2_with fail
  go_ret
  exact ⟨_, 7, rfl, hF.out, hB9.out⟩
theorem satO : CellsOf Try.prog 22 49 7 56 := ⟨Try.underlying22, by kernel_rfl⟩
def satV (x : List Int) : List Value := x.map (Value.int .i64)
def satsV (l : List (List Int)) : List (List Value) := l.map satV
theorem satsV_at {l : List (List Int)} {k : Nat} {x : List Int} (h : l[k]? = some x) : (satsV l)[k]? = some (satV x) := by simp [satsV, h]
/-- The first error of some pieces; their bytes. -/
def errJ : List (List Int × Int) → Int
  | [] => 0
  | p :: r => if p.2 = 0 then errJ r else p.2
def catJ (ps : List (List Int × Int)) : List Int := ps.flatMap Prod.fst
def hd17 (tow : Int) (l : List (List Int)) : List Int × Int := putL HD17 [tow, 1, (l.length : Int), 0]
def pieces (tow : Int) (l : List (List Int)) : List (List Int × Int) := hd17 tow l :: l.map (putL SD17)
def putSS (tow : Int) (l : List (List Int)) : List Int × Int := if 64 < l.length then ([], 7) else if errJ (pieces tow l) = 0 then (catJ (pieces tow l), 0) else ([], errJ (pieces tow l))
theorem errJ_snoc : ∀ {ps : List (List Int × Int)} (p : List Int × Int), errJ ps = 0 → errJ (ps ++ [p]) = p.2
  | [], p, _ => by simp [errJ]; exact fun h => h.symm
  | q :: r, p, h => by
    unfold errJ at h
    by_cases c : q.2 = 0
    · rw [if_pos c] at h
      rw [List.cons_append]
      unfold errJ
      rw [if_pos c]
      exact errJ_snoc p h
    · rw [if_neg c] at h; exact absurd h c
theorem errJ_pre : ∀ {ps r : List (List Int × Int)}, errJ ps ≠ 0 → errJ (ps ++ r) = errJ ps
  | [], r, h => absurd rfl h
  | q :: s, r, h => by
    rw [List.cons_append]
    unfold errJ at h ⊢
    by_cases c : q.2 = 0
    · rw [if_pos c] at h ⊢; rw [if_pos c]; exact errJ_pre h
    · rw [if_neg c, if_neg c]
theorem catJ_snoc (ps : List (List Int × Int)) (p : List Int × Int) : catJ (ps ++ [p]) = catJ ps ++ p.1 := by simp [catJ]
theorem list7 {x : List Int} (h : x.length = 7) : ∃ x0 x1 x2 x3 x4 x5 x6, x = [x0, x1, x2, x3, x4, x5, x6] := by
  match x, h with
  | [a, b, c, d, e, f, g], _ => exact ⟨a, b, c, d, e, f, g, rfl⟩
/-- What such an iterator hands over: a slice (where it lies, its room), its bytes, an error. -/
abbrev El17 := Option Addr × Nat × List Int × Int
def enc17 (x : El17) : Array Value := #[.slice x.1 x.2.2.1.length x.2.1, .int .i64 x.2.2.2]
def at17 (x : El17) (W : World) : Prop := Sl .u8 W x.1 x.2.2.1.length x.2.1 x.2.2.1 ∧ x.2.2.1.length ≤ 8000
set_option maxRecDepth 100000 in
set_option maxHeartbeats 2000000 in
theorem values_any (x0 x1 x2 x3 x4 x5 x6 : Int) (w : World) : Calls Try.prog 29 #[.agg #[.int .i64 x0, .int .i64 x1, .int .i64 x2, .int .i64 x3, .int .i64 x4, .int .i64 x5, .int .i64 x6]] w fun e w' => ∃ b, e = .returned (.slice (some ⟨b, 0, none⟩) 7 7) ∧ Sl .i64 w' (some ⟨b, 0, none⟩) 7 7 [x0, x1, x2, x3, x4, x5, x6] ∧ After w w' := by
  go_enter Try.func29, Try.ntmps29
  go_upto_region 0 with (fail)
  apply wp_region_seg0 (w := w) (S := [.al 1000, .q []]) (E := [.al ((fun p => .pointer (some ⟨p, 0, none⟩)), _) 1000, .q0 _]) rfl (by kernel_rfl) rfl rfl
  intro th hge hne
  refine Seg.step _ rfl ⟨by rfl, fun U hU => ?_⟩ ?_
  · go_simp; exact vp_alloc rfl rfl rfl
  refine ⟨_, by (simp only [Ent.val]; go_simp <;> exact rfl), ?_⟩
  refine Seg.step _ rfl (Or.inl ⟨by rfl, fun U hU => vp_quiet (by (go_simp <;> exact rfl))⟩) ⟨_, by (simp only [Ent.val]; go_simp <;> exact rfl), ?_⟩
  refine Seg.stop (fun U1 hU hk => ?_)
  have nb0 := hge 0 _ _ rfl
  have rb0 := (hk 0 _ _ rfl trivial).1.2 (by simp)
  clear hk hge hne
  generalize th (0 + 0) = p0_0 at *
  dsimp only at rb0
  have r_p0_0 := rb0
  clear rb0
  have n_p0_0 := nb0
  clear nb0
  have sz1 := hU.size
  have hB : Below w.heap.size w U1 := hU
  clear hU
  have z0 := held_cell r_p0_0 0 _ rfl
  have z1 := held_cell r_p0_0 1 _ rfl
  have z2 := held_cell r_p0_0 2 _ rfl
  have z3 := held_cell r_p0_0 3 _ rfl
  have z4 := held_cell r_p0_0 4 _ rfl
  have z5 := held_cell r_p0_0 5 _ rfl
  have z6 := held_cell r_p0_0 6 _ rfl
  have hS := hid (row_lit .i64 2 U1 [x0, x1, x2, x3, x4, x5, x6] #[.int .i64 x0, .int .i64 x1, .int .i64 x2, .int .i64 x3, .int .i64 x4, .int .i64 x5, .int .i64 x6] 7 U1.heap.size rfl rfl (by unfold maxLen; omega) rfl)
  have hB9 := hid (bthen hB (alloc_new U1 (.cells #[.int .i64 x0, .int .i64 x1, .int .i64 x2, .int .i64 x3, .int .i64 x4, .int .i64 x5, .int .i64 x6] 2)).2.1)
  clear hB r_p0_0
  go_wp2_with fail
  go_ret
  exact ⟨_, rfl, hS.out, hB9.out⟩

end Go.Proofs.Ytahjcbdofljfpaa
