/- The reference of package octet: Raw, U, I. -/
import Derived.Test.YtfcgeogooapmpaaOctet22
namespace Go.Proofs.Ytfcgeogooapmpaa
open Go.ChangeShapes Go.WideShapes Go.ChangeAt Go.RowKit Go.Shelf
set_option linter.unusedVariables false

def valU (zs : List Int) (bad : Bool) (n : Int) : Nat := if okU zs bad n then numB (zs.take n.toNat) n.toNat else 0
def valI (zs : List Int) (bad : Bool) (n : Int) : Int := if okU zs bad n then sgn n.toNat (numB (zs.take n.toNat) n.toNat) else 0
def bytesR (ok : Bool) (zs : List Int) (n : Int) : List Int := if ok then zs.take n.toNat else []
/-- What the reference's reader tells: what is left, and whether it failed. -/
def RestIs (a0 : Option Addr) (len0 cap0 : Nat) (zs : List Int) (n : Int) (ok : Bool) (a' : Option Addr) (l' c' : Nat) : Prop := ∀ U, Sl .u8 U a0 len0 cap0 zs → Sl .u8 U a' l' c' (gotR ok zs n)
def RawOk (w : World) (a0 : Option Addr) (len0 cap0 : Nat) (zs : List Int) (n : Int) (ok : Bool) (e : Ending) (w' : World) : Prop := ∃ a' l' c' a2 l2 c2, e = .returned (.tuple #[.agg #[.slice a' l' c', .bool (!ok)], .slice a2 l2 c2]) ∧ RestIs a0 len0 cap0 zs n ok a' l' c' ∧ Sl .u8 w' a2 l2 c2 (bytesR ok zs n) ∧ After w w'
def NumOk (w : World) (a0 : Option Addr) (len0 cap0 : Nat) (zs : List Int) (n : Int) (ok : Bool) (v : Value) (e : Ending) (w' : World) : Prop := ∃ a' l' c', e = .returned (.tuple #[.agg #[.slice a' l' c', .bool (!ok)], v]) ∧ RestIs a0 len0 cap0 zs n ok a' l' c' ∧ After w w'
theorem restis_no (a0 : Option Addr) (len0 cap0 : Nat) (zs : List Int) (n : Int) : RestIs a0 len0 cap0 zs n false none 0 0 := fun U _ => sl_nil _ _
theorem Kp.of_grown {N : Nat} {X : List Nat} {w w' : World} {row : Option Nat} (h : w.grownBy w' row) (hN : N ≤ w.heap.size) (hr : ∀ k, row = some k → N ≤ k) : Kp N X w w' :=
  ⟨h.os, h.tape, h.output, h.size, fun k hk _ => h.block k (by omega) (fun e => by have := hr k e.symm; omega)⟩

set_option maxHeartbeats 2000000 in
theorem rrawr_any (a0 : Option Addr) (len0 cap0 : Nat) (zs : List Int) (bad : Bool) (n : Int) (w : World) (h0 : Sl .u8 w a0 len0 cap0 zs) (hz : bad = true → zs = []) (hl0 : len0 ≤ 1000000) :
    Calls Try.prog 15 #[.agg #[.slice a0 len0 cap0, .bool bad], .int .i64 n] w (RawOk w a0 len0 cap0 zs n (okR zs bad n)) := by
  have hzl := h0.1
  obtain ⟨q0, q1, qz, qA⟩ := two_new w (.cells #[.slice a0 len0 cap0, .bool bad] 29) (.cells #[.slice none 0 0, .bool false] 29)
  obtain ⟨W1, hW⟩ : ∃ W1, (w.alloc (.cells #[.slice a0 len0 cap0, .bool bad] 29)).alloc (.cells #[.slice none 0 0, .bool false] 29) = W1 := ⟨_, rfl⟩
  rw [hW] at q0 q1 qz qA
  have c0 := held_cell q0 0 _ rfl
  have c1 := held_cell q0 1 _ rfl
  have d0 := held_cell q1 0 _ rfl
  have d1 := held_cell q1 1 _ rfl
  have f0 := held_free q1 0
  have f1 := held_free q1 1
  cases bad
  case true =>
    have hok := hid (show okR zs true n = false from rfl)
    obtain ⟨W2, hW2, x0, x1, xz, xB, xO⟩ := two_set (u0 := .slice none 0 0) (u1 := .bool true) q1
    have hA2 : After w W2 := Below.trans qA (xB.mono (show w.heap.size ≤ w.heap.size + 1 by omega))
    clear xB xO qA q0 q1 h0 hz
    go_enter Try.func15, Try.ntmps15
    go_wp2_with omega
    refine bodyPost_ret (v := .tuple #[.agg #[.slice none 0 0, .bool true], .slice none 0 0]) ?_ rfl ?_
    · simp [results, Try.results15, go_sem, x0, x1]
    · rw [hok.out]
      exact ⟨none, 0, 0, none, 0, 0, rfl, restis_no _ _ _ _ _, sl_nil _ _, hA2⟩
  by_cases cn : n < 0
  · have hok := hid (show okR zs false n = false by unfold okR; simp; omega)
    obtain ⟨W2, hW2, x0, x1, xz, xB, xO⟩ := two_set (u0 := .slice none 0 0) (u1 := .bool true) q1
    have hA2 : After w W2 := Below.trans qA (xB.mono (show w.heap.size ≤ w.heap.size + 1 by omega))
    clear xB xO qA q0 q1 h0 hz
    have b1 : decide (n < 0) = true := decide_eq_true cn
    go_enter Try.func15, Try.ntmps15
    go_wp2_with omega
    refine bodyPost_ret (v := .tuple #[.agg #[.slice none 0 0, .bool true], .slice none 0 0]) ?_ rfl ?_
    · simp [results, Try.results15, go_sem, x0, x1]
    · rw [hok.out]
      exact ⟨none, 0, 0, none, 0, 0, rfl, restis_no _ _ _ _ _, sl_nil _ _, hA2⟩
  by_cases cl : (len0 : Int) < n
  · have hok := hid (show okR zs false n = false by unfold okR; simp; omega)
    obtain ⟨W2, hW2, x0, x1, xz, xB, xO⟩ := two_set (u0 := .slice none 0 0) (u1 := .bool true) q1
    have hA2 : After w W2 := Below.trans qA (xB.mono (show w.heap.size ≤ w.heap.size + 1 by omega))
    clear xB xO qA q0 q1 h0 hz
    have b1 : decide (n < 0) = false := decide_eq_false cn
    have b2 : decide ((len0 : Int) < n) = true := decide_eq_true cl
    go_enter Try.func15, Try.ntmps15
    go_wp2_with omega
    refine bodyPost_ret (v := .tuple #[.agg #[.slice none 0 0, .bool true], .slice none 0 0]) ?_ rfl ?_
    · simp [results, Try.results15, go_sem, x0, x1]
    · rw [hok.out]
      exact ⟨none, 0, 0, none, 0, 0, rfl, restis_no _ _ _ _ _, sl_nil _ _, hA2⟩
  have hok := hid (show okR zs false n = true by unfold okR; simp; omega)
  have b1 : decide (n < 0) = false := decide_eq_false cn
  have b2 : decide ((len0 : Int) < n) = false := decide_eq_false cl
  obtain ⟨m, rfl⟩ : ∃ m : Nat, n = m := ⟨n.toNat, by omega⟩
  rw [hok.out]
  have hm : m ≤ len0 := by omega
  have hlc := h0.2.1
  have hcm := h0.2.2.1
  have hT := hid ((h0.take m hm).below qA)
  have hD : ∀ U, Sl .u8 U a0 len0 cap0 zs → Sl .u8 U (Option.map (fun x => x.add m) a0) (len0 - m) (cap0 - m) (zs.drop m) := fun U h => h.drop m hm
  have hE : cap0 = m → ∀ U, Sl .u8 U a0 len0 cap0 zs → Sl .u8 U a0 (len0 - m) 0 (zs.drop m) := fun hc U h => h.end m hm hc
  replace hD := hid hD
  replace hE := hid hE
  have htl : (zs.take m).length = m := by rw [List.length_take]; omega
  have g0 : (0 : Int) ≤ (m : Int) := by omega
  have g1 : ¬ ((len0 : Int) < (m : Int)) := by omega
  have g2 : (m : Int) ≤ len0 := by omega
  have g3 : (m : Int) ≤ cap0 := by omega
  have g4 : (len0 : Int) ≤ cap0 := by omega
  have hN1 : w.heap.size + 2 ≤ W1.heap.size := by omega
  clear h0 hz q0 hok
  by_cases hc : cap0 = m
  · subst hc
    have hs := hid (show ∀ U, Sl .u8 U a0 len0 cap0 zs → Sl .u8 U a0 0 0 (zs.drop cap0) from fun U h => by have := hE.out rfl U h; rwa [show len0 - cap0 = 0 by omega] at this)
    clear hD hE
    go_enter Try.func15, Try.ntmps15
    go_upto_region 3 with (omega)
    refine wp_region_K (N := w.heap.size + 2) (X := [w.heap.size + 1]) (by kernel_rfl) ?_
    refine wpAnyK_take 0 rfl (by kernel_rfl) (by kernel_rfl) (by kernel_rfl) (fun _ _ _ _ h => h) ⟨_, Or.inl ⟨by rfl, fun w' hb => by (go_simp; try with_reducible rfl)⟩, _, by (go_simp; try rfl), ?_⟩
    refine wpAnyK_take 1 rfl (by kernel_rfl) (by kernel_rfl) (by kernel_rfl) (fun _ _ _ _ h => h) ⟨_, Or.inl ⟨by rfl, fun w' hb => by (have hx := hb.cellB (show w.heap.size < w.heap.size + 2 by omega) (by simp) (show W1.drew.cell? _ = _ from c0); go_simp; try with_reducible rfl)⟩, _, by (go_simp; try rfl), ?_⟩
    refine wpAnyK_take 2 rfl (by kernel_rfl) (by kernel_rfl) (by kernel_rfl) (fun _ _ _ _ h => h) ⟨_, Or.inl ⟨by rfl, fun w' hb => by (go_simp; try with_reducible rfl)⟩, _, by (go_simp; try rfl), ?_⟩
    refine wpAnyK_take 3 rfl (by kernel_rfl) (by kernel_rfl) (by kernel_rfl) (fun _ _ _ _ h => h) ⟨_, Or.inl ⟨by rfl, fun w' hb => by (go_simp; try with_reducible rfl)⟩, _, by (go_simp; try rfl), ?_⟩
    refine wpAnyK_take 4 rfl (by kernel_rfl) (by kernel_rfl) (by kernel_rfl) (fun _ _ _ _ h => h) ⟨_, Or.inl ⟨by rfl, fun w' hb => by (go_simp; try with_reducible rfl)⟩, _, by (go_simp; try rfl), ?_⟩
    refine wpAnyK_take 6 rfl (by kernel_rfl) (by kernel_rfl) (by kernel_rfl) (fun _ _ _ _ h => h) ⟨_, Or.inl ⟨by rfl, fun w' hb => by (go_simp; try with_reducible rfl)⟩, _, by (go_simp; try rfl), ?_⟩
    refine wpAnyK_take 7 rfl (by kernel_rfl) (by kernel_rfl) (by kernel_rfl) (fun _ _ _ _ h => h) ⟨_, Or.inl ⟨by rfl, fun w' hb => by (have hx := hb.cellB (show w.heap.size < w.heap.size + 2 by omega) (by simp) (show W1.drew.cell? _ = _ from c0); go_simp; try with_reducible rfl)⟩, _, by (go_simp; try rfl), ?_⟩
    refine wpAnyK_take 8 rfl (by kernel_rfl) (by kernel_rfl) (by kernel_rfl) (fun _ _ _ _ h => h) ⟨_, Or.inl ⟨by rfl, fun w' hb => by (go_simp; try with_reducible rfl)⟩, _, by (go_simp; try rfl), ?_⟩
    refine wpAnyK_take 9 rfl (by kernel_rfl) (by kernel_rfl) (by kernel_rfl) (fun _ _ _ _ h => h) ⟨_, Or.inl ⟨by rfl, fun w' hb => by (go_simp; try with_reducible rfl)⟩, _, by (go_simp; try rfl), ?_⟩
    refine wpAnyK_only 5 rfl (by kernel_rfl) (by rfl) (fun K hK => ?_)
    go_simp
    refine hK _ _ ⟨Kp.of (aalloc W1.drew _) hN1, ?_⟩
    clear hK
    have q2 := World.alloc_heap_new W1.drew (.cells #[] 5)
    have a2 := aalloc W1.drew (.cells #[] 5)
    have a3 : After W1 (W1.drew.alloc (.cells #[] 5)) := Below.trans ((Below.refl _ W1).drew) a2
    have hO0 := Row.own (show Row .u8 5 _ W1.drew.heap.size [] from q2) (w.heap.size + 2) hN1 (by unfold maxLen; simp)
    rw [show W1.drew.heap.size = w.heap.size + 1 + 1 from qz] at hO0
    have hT2 := hT.out.below a3
    have hA2 : After w _ := Below.trans qA (a3.mono (show w.heap.size ≤ W1.heap.size by omega))
    have q3 := held_after a3 q1
    have hN2 : w.heap.size + 2 ≤ (W1.drew.alloc (.cells #[] 5)).heap.size := Nat.le_trans hN1 a3.size
    refine wpAnyK_only 10 rfl (by kernel_rfl) (by rfl) (fun K hK => ?_)
    refine wp_appK (.tmp 25) (.tmp 29) 22 rfl (w.heap.size + 2) 5 .u8 1 bytesOf _ [] rfl hO0 a0 cap0 cap0 (zs.take cap0) rfl hT2 (by simp; omega) (by decide) hN2 ?_
    intro a9 cap9 w9 hO9 hg9 hn9
    simp only [List.length_nil, Nat.zero_add, List.nil_append] at hO9 ⊢
    refine hK _ _ ⟨Kp.of_grown hg9 hN2 (fun k e => (World.ownsRow.lt hO0 k e).1), ?_⟩
    clear hK hn9
    have B9 := hO0.grew hg9 hA2 (by omega) (by omega)
    have q4 := held_grown q3 hg9 (own_ne hO0 q3 (by decide))
    clear hg9 hO0 hT2 hA2 q3 hN2 q2 a2 a3 hT qA q1 d0 d1 f0 f1 c0 c1
    have d0 := held_cell q4 0 _ rfl
    have d1 := held_cell q4 1 _ rfl
    have f0 := held_free q4 0
    have f1 := held_free q4 1
    obtain ⟨W5, hW5, x0, x1, xz, xB, xO⟩ := two_set (u0 := .slice a0 0 0) (u1 := .bool false) q4
    have hO5 := (hO9.oth q4 (by decide) 0 (.slice a0 0 0)).oth (held_set q4 0 _) (by decide) 1 (.bool false)
    rw [hW5] at hO5
    have hA5 : After w W5 := Below.trans B9 (xB.mono (show w.heap.size ≤ w.heap.size + 1 by omega))
    have hK5 : Kp (w.heap.size + 2) [w.heap.size + 1] w9 W5 := ⟨xB.os, xB.tape, xB.output, xB.size, fun k _ hx => xO k (fun e => hx (by simp [e]))⟩
    clear B9 q4 hO9 xB xO
    replace hO5 := hid hO5
    replace hA5 := hid hA5
    refine wpAnyK_only 11 rfl (by kernel_rfl) (by rfl) (fun K hK => ?_)
    go_simp
    refine hK _ _ ⟨hK5, ?_⟩
    clear hK hK5
    refine wpAnyK_only 12 rfl (by kernel_rfl) (by rfl) (fun K hK => ?_)
    go_simp
    refine hK _ _ ⟨Kp.refl _ _ _, wpAnyK_done (by kernel_rfl) ?_ _⟩
    clear hK
    go_wp2_with fail
    refine bodyPost_ret (v := .tuple #[.agg #[.slice a0 0 0, .bool false], .slice a9 cap0 cap9]) ?_ rfl ?_
    · simp [results, Try.results15, go_sem, x0, x1]
    · refine ⟨_, _, _, a9, cap0, cap9, rfl, hs.out, ?_, hA5.out⟩
      have hO6 := hO5.out
      have hO7 := Own.slf (zs := zs.take cap0) (n := (zs.take cap0).length) (by rw [htl]; exact hO6)
      rw [htl] at hO7
      exact hO7
  · have hc2 : (m : Int) < cap0 := by omega
    have hc3 : m < cap0 := by omega
    clear hE
    go_enter Try.func15, Try.ntmps15
    go_upto_region 3 with (omega)
    refine wp_region_K (N := w.heap.size + 2) (X := [w.heap.size + 1]) (by kernel_rfl) ?_
    refine wpAnyK_take 0 rfl (by kernel_rfl) (by kernel_rfl) (by kernel_rfl) (fun _ _ _ _ h => h) ⟨_, Or.inl ⟨by rfl, fun w' hb => by (go_simp; try with_reducible rfl)⟩, _, by (go_simp; try rfl), ?_⟩
    refine wpAnyK_take 1 rfl (by kernel_rfl) (by kernel_rfl) (by kernel_rfl) (fun _ _ _ _ h => h) ⟨_, Or.inl ⟨by rfl, fun w' hb => by (have hx := hb.cellB (show w.heap.size < w.heap.size + 2 by omega) (by simp) (show W1.drew.cell? _ = _ from c0); go_simp; try with_reducible rfl)⟩, _, by (go_simp; try rfl), ?_⟩
    refine wpAnyK_take 2 rfl (by kernel_rfl) (by kernel_rfl) (by kernel_rfl) (fun _ _ _ _ h => h) ⟨_, Or.inl ⟨by rfl, fun w' hb => by (go_simp; try with_reducible rfl)⟩, _, by (go_simp; try rfl), ?_⟩
    refine wpAnyK_take 3 rfl (by kernel_rfl) (by kernel_rfl) (by kernel_rfl) (fun _ _ _ _ h => h) ⟨_, Or.inl ⟨by rfl, fun w' hb => by (go_simp; try with_reducible rfl)⟩, _, by (go_simp; try rfl), ?_⟩
    refine wpAnyK_take 4 rfl (by kernel_rfl) (by kernel_rfl) (by kernel_rfl) (fun _ _ _ _ h => h) ⟨_, Or.inl ⟨by rfl, fun w' hb => by (go_simp; try with_reducible rfl)⟩, _, by (go_simp; try rfl), ?_⟩
    refine wpAnyK_take 6 rfl (by kernel_rfl) (by kernel_rfl) (by kernel_rfl) (fun _ _ _ _ h => h) ⟨_, Or.inl ⟨by rfl, fun w' hb => by (go_simp; try with_reducible rfl)⟩, _, by (go_simp; try rfl), ?_⟩
    refine wpAnyK_take 7 rfl (by kernel_rfl) (by kernel_rfl) (by kernel_rfl) (fun _ _ _ _ h => h) ⟨_, Or.inl ⟨by rfl, fun w' hb => by (have hx := hb.cellB (show w.heap.size < w.heap.size + 2 by omega) (by simp) (show W1.drew.cell? _ = _ from c0); go_simp; try with_reducible rfl)⟩, _, by (go_simp; try rfl), ?_⟩
    refine wpAnyK_take 8 rfl (by kernel_rfl) (by kernel_rfl) (by kernel_rfl) (fun _ _ _ _ h => h) ⟨_, Or.inl ⟨by rfl, fun w' hb => by (go_simp; try with_reducible rfl)⟩, _, by (go_simp; try rfl), ?_⟩
    refine wpAnyK_take 9 rfl (by kernel_rfl) (by kernel_rfl) (by kernel_rfl) (fun _ _ _ _ h => h) ⟨_, Or.inl ⟨by rfl, fun w' hb => by (go_simp; try with_reducible rfl)⟩, _, by (go_simp; try rfl), ?_⟩
    refine wpAnyK_only 5 rfl (by kernel_rfl) (by rfl) (fun K hK => ?_)
    go_simp
    refine hK _ _ ⟨Kp.of (aalloc W1.drew _) hN1, ?_⟩
    clear hK
    have q2 := World.alloc_heap_new W1.drew (.cells #[] 5)
    have a2 := aalloc W1.drew (.cells #[] 5)
    have a3 : After W1 (W1.drew.alloc (.cells #[] 5)) := Below.trans ((Below.refl _ W1).drew) a2
    have hO0 := Row.own (show Row .u8 5 _ W1.drew.heap.size [] from q2) (w.heap.size + 2) hN1 (by unfold maxLen; simp)
    rw [show W1.drew.heap.size = w.heap.size + 1 + 1 from qz] at hO0
    have hT2 := hT.out.below a3
    have hA2 : After w _ := Below.trans qA (a3.mono (show w.heap.size ≤ W1.heap.size by omega))
    have q3 := held_after a3 q1
    have hN2 : w.heap.size + 2 ≤ (W1.drew.alloc (.cells #[] 5)).heap.size := Nat.le_trans hN1 a3.size
    refine wpAnyK_only 10 rfl (by kernel_rfl) (by rfl) (fun K hK => ?_)
    refine wp_appK (.tmp 25) (.tmp 29) 22 rfl (w.heap.size + 2) 5 .u8 1 bytesOf _ [] rfl hO0 a0 m cap0 (zs.take m) rfl hT2 (by simp; omega) (by decide) hN2 ?_
    intro a9 cap9 w9 hO9 hg9 hn9
    simp only [List.length_nil, Nat.zero_add, List.nil_append] at hO9 ⊢
    refine hK _ _ ⟨Kp.of_grown hg9 hN2 (fun k e => (World.ownsRow.lt hO0 k e).1), ?_⟩
    clear hK hn9
    have B9 := hO0.grew hg9 hA2 (by omega) (by omega)
    have q4 := held_grown q3 hg9 (own_ne hO0 q3 (by decide))
    clear hg9 hO0 hT2 hA2 q3 hN2 q2 a2 a3 hT qA q1 d0 d1 f0 f1 c0 c1
    have d0 := held_cell q4 0 _ rfl
    have d1 := held_cell q4 1 _ rfl
    have f0 := held_free q4 0
    have f1 := held_free q4 1
    obtain ⟨W5, hW5, x0, x1, xz, xB, xO⟩ := two_set (u0 := .slice (Option.map (fun x => x.add m) a0) (len0 - m) (cap0 - m)) (u1 := .bool false) q4
    have hO5 := (hO9.oth q4 (by decide) 0 (.slice (Option.map (fun x => x.add m) a0) (len0 - m) (cap0 - m))).oth (held_set q4 0 _) (by decide) 1 (.bool false)
    rw [hW5] at hO5
    have hA5 : After w W5 := Below.trans B9 (xB.mono (show w.heap.size ≤ w.heap.size + 1 by omega))
    have hK5 : Kp (w.heap.size + 2) [w.heap.size + 1] w9 W5 := ⟨xB.os, xB.tape, xB.output, xB.size, fun k _ hx => xO k (fun e => hx (by simp [e]))⟩
    clear B9 q4 hO9 xB xO
    replace hO5 := hid hO5
    replace hA5 := hid hA5
    refine wpAnyK_only 11 rfl (by kernel_rfl) (by rfl) (fun K hK => ?_)
    go_simp
    refine hK _ _ ⟨hK5, ?_⟩
    clear hK hK5
    refine wpAnyK_only 12 rfl (by kernel_rfl) (by rfl) (fun K hK => ?_)
    go_simp
    refine hK _ _ ⟨Kp.refl _ _ _, wpAnyK_done (by kernel_rfl) ?_ _⟩
    clear hK
    go_wp2_with fail
    refine bodyPost_ret (v := .tuple #[.agg #[.slice (Option.map (fun x => x.add m) a0) (len0 - m) (cap0 - m), .bool false], .slice a9 m cap9]) ?_ rfl ?_
    · simp [results, Try.results15, go_sem, x0, x1]
    · refine ⟨_, _, _, a9, m, cap9, rfl, hD.out, ?_, hA5.out⟩
      have hO6 := hO5.out
      have hO7 := Own.slf (zs := zs.take m) (n := (zs.take m).length) (by rw [htl]; exact hO6)
      rw [htl] at hO7
      exact hO7

set_option maxHeartbeats 2000000 in
theorem rrawu_any (a0 : Option Addr) (len0 cap0 : Nat) (zs : List Int) (bad : Bool) (n : Int) (w : World) (h0 : Sl .u8 w a0 len0 cap0 zs) (hz : bad = true → zs = []) (hl0 : len0 ≤ 1000000) (hb : ∀ x ∈ zs, 0 ≤ x ∧ x ≤ 255) :
    Calls Try.prog 11 #[.agg #[.slice a0 len0 cap0, .bool bad], .int .i64 n] w (NumOk w a0 len0 cap0 zs n (okU zs bad n) (.int .u64 ((valU zs bad n : Nat) : Int))) := by
  have hzl := h0.1
  obtain ⟨q0, q1, qz, qA⟩ := two_new w (.cells #[.slice a0 len0 cap0, .bool bad] 29) (.cells #[.slice none 0 0, .bool false] 29)
  obtain ⟨W1, hW⟩ : ∃ W1, (w.alloc (.cells #[.slice a0 len0 cap0, .bool bad] 29)).alloc (.cells #[.slice none 0 0, .bool false] 29) = W1 := ⟨_, rfl⟩
  rw [hW] at q0 q1 qz qA
  have c0 := held_cell q0 0 _ rfl
  have c1 := held_cell q0 1 _ rfl
  have d0 := held_cell q1 0 _ rfl
  have d1 := held_cell q1 1 _ rfl
  have f0 := held_free q1 0
  have f1 := held_free q1 1
  by_cases cn : n < 1
  · have hok := hid (show okU zs bad n = false by unfold okU; simp; omega)
    have hv0 := hid (show valU zs bad n = 0 by unfold valU; rw [hok.out]; rfl)
    obtain ⟨W2, hW2, x0, x1, xz, xB, xO⟩ := two_set (u0 := .slice none 0 0) (u1 := .bool true) q1
    have hA2 : After w W2 := Below.trans qA (xB.mono (show w.heap.size ≤ w.heap.size + 1 by omega))
    clear xB xO qA q0 q1 h0 hz
    have b1 : decide (n < 1) = true := decide_eq_true cn
    go_enter Try.func11, Try.ntmps11
    go_wp2_with omega
    refine bodyPost_ret (v := .tuple #[.agg #[.slice none 0 0, .bool true], .int .u64 0]) ?_ rfl ?_
    · simp [results, Try.results11, go_sem, x0, x1]
    · rw [hok.out, hv0.out]
      exact ⟨none, 0, 0, rfl, restis_no _ _ _ _ _, hA2⟩
  by_cases cl : 8 < n
  · have hok := hid (show okU zs bad n = false by unfold okU; simp; omega)
    have hv0 := hid (show valU zs bad n = 0 by unfold valU; rw [hok.out]; rfl)
    obtain ⟨W2, hW2, x0, x1, xz, xB, xO⟩ := two_set (u0 := .slice none 0 0) (u1 := .bool true) q1
    have hA2 : After w W2 := Below.trans qA (xB.mono (show w.heap.size ≤ w.heap.size + 1 by omega))
    clear xB xO qA q0 q1 h0 hz
    have b1 : decide (n < 1) = false := decide_eq_false cn
    have b2 : decide ((8 : Int) < n) = true := decide_eq_true cl
    go_enter Try.func11, Try.ntmps11
    go_wp2_with omega
    refine bodyPost_ret (v := .tuple #[.agg #[.slice none 0 0, .bool true], .int .u64 0]) ?_ rfl ?_
    · simp [results, Try.results11, go_sem, x0, x1]
    · rw [hok.out, hv0.out]
      exact ⟨none, 0, 0, rfl, restis_no _ _ _ _ _, hA2⟩
  have b1 : decide (n < 1) = false := decide_eq_false cn
  have b2 : decide ((8 : Int) < n) = false := decide_eq_false cl
  have eok : okU zs bad n = okR zs bad n := by
    unfold okU okR
    congr 1
    simp only [decide_eq_decide]
    omega
  have hlr : (bytesR (okR zs bad n) zs n).length ≤ 8 := by
    unfold bytesR
    split
    · rw [List.length_take]; omega
    · simp
  have hbr : ∀ x ∈ bytesR (okR zs bad n) zs n, 0 ≤ x ∧ x ≤ 255 := by
    intro x hx
    unfold bytesR at hx
    split at hx
    · exact hb x (List.mem_of_mem_take hx)
    · cases hx
  have hnr : numR (bytesR (okR zs bad n) zs n) = valU zs bad n := by
    unfold bytesR valU
    rw [eok]
    by_cases c : okR zs bad n = true
    · rw [if_pos c, if_pos c, numR_all]
      have : (zs.take n.toNat).length = n.toNat := by
        unfold okR at c
        have := of_decide_eq_true (Bool.and_eq_true _ _ ▸ c).2
        rw [List.length_take]; omega
      rw [this]
    · rw [if_neg c, if_neg c]; rfl
  rw [eok]
  have kR := rrawr_any a0 len0 cap0 zs bad n W1 (h0.below qA) hz hl0
  replace hnr := hid hnr
  replace hbr := hid hbr
  replace hlr := hid hlr
  replace q1 := hid q1
  replace qA := hid qA
  clear eok q0 h0 hz
  go_enter Try.func11, Try.ntmps11
  go_wp2_with omega
  refine kR.mono ?_
  rintro e V ⟨a1, l1, p1, a2, l2, p2, rfl, hR, hs2, hA2⟩
  have hV1 := World.alloc_heap_new V (.cells #[.slice a1 l1 p1, .bool (!okR zs bad n)] 29)
  have hA3 : After V (V.alloc (.cells #[.slice a1 l1 p1, .bool (!okR zs bad n)] 29)) := aalloc _ _
  have q3 := held_after hA3 (held_after hA2 q1.out)
  have hs3 := hs2.below hA3
  have hA4 : After w _ := Below.trans qA.out ((hA2.mono (show w.heap.size ≤ W1.heap.size by omega)).trans (hA3.mono (Nat.le_trans (show w.heap.size ≤ W1.heap.size by omega) hA2.size)))
  have hl2 : l2 ≤ 8 := by have := hs2.1; have := hlr.out; omega
  have kN := fun U (h : After (V.alloc (.cells #[.slice a1 l1 p1, .bool (!okR zs bad n)] 29)) U) => rnumber_any a2 l2 p2 _ U (hs3.below h) hbr.out hl2
  rw [hnr.out] at kN
  obtain ⟨bd, ebd⟩ : ∃ bd, (!okR zs bad n) = bd := ⟨_, rfl⟩
  obtain ⟨val, eval⟩ : ∃ val : Nat, valU zs bad n = val := ⟨_, rfl⟩
  rw [ebd] at hV1 hA3 q3 hA4 kN
  rw [eval] at kN
  replace q3 := hid q3
  replace hV1 := hid hV1
  replace hA4 := hid hA4
  clear hs3 hA3 hs2 hA2 hlr hbr hnr qA q1 kR d0 d1 f0 f1 c0 c1
  replace ebd := hid ebd
  replace eval := hid eval
  rw [ebd.out, eval.out]
  go_upto_region 4 with (omega)
  obtain ⟨V1, eV1⟩ : ∃ V1, V.alloc (.cells #[.slice a1 l1 p1, .bool bd] 29) = V1 := ⟨_, rfl⟩
  rw [eV1] at kN hV1 hA4 q3 ⊢
  obtain ⟨P, eP⟩ : ∃ P, V.heap.size = P := ⟨_, rfl⟩
  rw [eP] at hV1 ⊢
  clear eV1 eP
  have e0 := held_cell hV1.out 0 _ rfl
  have e1 := held_cell hV1.out 1 _ rfl
  have d0 := held_cell q3.out 0 _ rfl
  have d1 := held_cell q3.out 1 _ rfl
  have f0 := held_free q3.out 0
  have f1 := held_free q3.out 1
  obtain ⟨W5, hW5, x0, x1, xz, xB, xO⟩ := two_set (u0 := .slice a1 l1 p1) (u1 := .bool bd) q3.out
  have hA5 : After w W5 := Below.trans hA4.out (xB.mono (show w.heap.size ≤ w.heap.size + 1 by omega))
  clear xB xO q3 hA4 hV1
  replace hA5 := hid hA5
  refine wp_region_T none 3 (by kernel_rfl) ?_
  refine wpAnyT_take 0 rfl (by kernel_rfl) (by kernel_rfl) (by kernel_rfl) (by kernel_rfl) (fun _ _ _ _ h => h) ⟨_, Or.inl ⟨by rfl, fun w2 hb2 => by (have hx0 := hb2.cell (show V1.drew.cell? _ = _ from e0) (by simp); have hx1 := hb2.cell (show V1.drew.cell? _ = _ from e1) (by simp); go_simp; try with_reducible rfl)⟩, _, by (go_simp; try rfl), ?_⟩
  refine wpAnyT_takeP 1 rfl (by kernel_rfl) (by kernel_rfl) (by kernel_rfl) (fun _ _ _ _ h => h) ⟨_, Or.inl ⟨by rfl, fun w2 _ => by (go_simp; try with_reducible rfl)⟩, _, by (go_simp; try rfl), ?_⟩
  refine wpAnyT_only 2 rfl (by kernel_rfl) (by rfl) (fun K hK => ?_)
  go_simp
  refine (kN _ ((Below.refl _ V1).drew)).mono ?_
  rintro e V5 ⟨rfl, rfl⟩
  refine hK _ _ ⟨fun _ => RX.refl _ _, ?_⟩
  clear hK
  refine wpAnyT_only 3 rfl (by kernel_rfl) (by rfl) (fun K hK => ?_)
  go_simp
  refine hK _ _ ⟨fun h => (h rfl).elim, ?_⟩
  clear hK
  refine wpAnyT_only 4 rfl (by kernel_rfl) (by rfl) (fun K hK => ?_)
  go_simp
  refine hK _ _ ⟨fun _ => RX.refl _ _, wpAnyT_done (by kernel_rfl) ?_ _⟩
  clear hK
  go_wp2_with fail
  refine bodyPost_ret (v := .tuple #[.agg #[.slice a1 l1 p1, .bool bd], .int .u64 (val : Int)]) ?_ rfl ?_
  · simp [results, Try.results11, go_sem, x0, x1]
  · exact ⟨a1, l1, p1, by rw [ebd.out, eval.out], hR, hA5.out.drew⟩

set_option maxHeartbeats 2000000 in
theorem rrawi_any (a0 : Option Addr) (len0 cap0 : Nat) (zs : List Int) (bad : Bool) (n : Int) (w : World) (h0 : Sl .u8 w a0 len0 cap0 zs) (hz : bad = true → zs = []) (hl0 : len0 ≤ 1000000) (hb : ∀ x ∈ zs, 0 ≤ x ∧ x ≤ 255) :
    Calls Try.prog 13 #[.agg #[.slice a0 len0 cap0, .bool bad], .int .i64 n] w (NumOk w a0 len0 cap0 zs n (okU zs bad n) (.int .i64 (valI zs bad n))) := by
  have hzl := h0.1
  obtain ⟨q0, q1, qz, qA⟩ := two_new w (.cells #[.slice a0 len0 cap0, .bool bad] 29) (.cells #[.slice none 0 0, .bool false] 29)
  obtain ⟨W1, hW⟩ : ∃ W1, (w.alloc (.cells #[.slice a0 len0 cap0, .bool bad] 29)).alloc (.cells #[.slice none 0 0, .bool false] 29) = W1 := ⟨_, rfl⟩
  rw [hW] at q0 q1 qz qA
  have c0 := held_cell q0 0 _ rfl
  have c1 := held_cell q0 1 _ rfl
  have d0 := held_cell q1 0 _ rfl
  have d1 := held_cell q1 1 _ rfl
  have f0 := held_free q1 0
  have f1 := held_free q1 1
  have kU := rrawu_any a0 len0 cap0 zs bad n W1 (h0.below qA) hz hl0 hb
  have hvu := hid (show okU zs bad n = true → 1 ≤ n ∧ n ≤ 8 ∧ valU zs bad n < 256 ^ n.toNat ∧ valI zs bad n = sgn n.toNat (valU zs bad n) from fun h => by
    have h2 := of_decide_eq_true (Bool.and_eq_true _ _ ▸ (show (!bad && decide (1 ≤ n ∧ n ≤ 8 ∧ n ≤ (zs.length : Int))) = true from h)).2
    unfold valU valI
    rw [if_pos h, if_pos h]
    refine ⟨h2.1, h2.2.1, ?_, rfl⟩
    have h3 := numR_lt (zs.take n.toNat) (fun x hx => hb x (List.mem_of_mem_take hx))
    have h4 : (zs.take n.toNat).length = n.toNat := by rw [List.length_take]; omega
    rw [numR_all, h4] at h3
    exact h3)
  have hvn := hid (show okU zs bad n = false → valI zs bad n = 0 from fun h => by unfold valI; rw [h]; rfl)
  replace q1 := hid q1
  replace qA := hid qA
  clear q0 h0 hz
  generalize okU zs bad n = ok at *
  generalize valU zs bad n = vu at *
  generalize valI zs bad n = vi at *
  go_enter Try.func13, Try.ntmps13
  go_wp2_with omega
  refine kU.mono ?_
  rintro e V ⟨a1, l1, p1, rfl, hR, hA2⟩
  have hV1 := World.alloc_heap_new V (.cells #[.slice a1 l1 p1, .bool (!ok)] 29)
  have hA3 : After V (V.alloc (.cells #[.slice a1 l1 p1, .bool (!ok)] 29)) := aalloc _ _
  have q3 := held_after hA3 (held_after hA2 q1.out)
  have hA4 : After w _ := Below.trans qA.out ((hA2.mono (show w.heap.size ≤ W1.heap.size by omega)).trans (hA3.mono (Nat.le_trans (show w.heap.size ≤ W1.heap.size by omega) hA2.size)))
  clear hA3 hA2 qA q1 kU d0 d1 f0 f1 c0 c1
  replace q3 := hid q3
  replace hV1 := hid hV1
  replace hA4 := hid hA4
  go_upto_region 2 with (omega)
  obtain ⟨V1, eV1⟩ : ∃ V1, V.alloc (.cells #[.slice a1 l1 p1, .bool (!ok)] 29) = V1 := ⟨_, rfl⟩
  rw [eV1] at hV1 hA4 q3 ⊢
  obtain ⟨P, eP⟩ : ∃ P, V.heap.size = P := ⟨_, rfl⟩
  rw [eP] at hV1 ⊢
  clear eV1 eP
  cases ok
  · replace hV1 : Go.RowKit.Hid (V1.heap[P]? = some (.cells #[.slice a1 l1 p1, .bool true] 29 (0, 0))) := hV1
    have e0 := held_cell hV1.out 0 _ rfl
    have e1 := held_cell hV1.out 1 _ rfl
    obtain rfl := hvn.out rfl
    have d0 := held_cell q3.out 0 _ rfl
    have d1 := held_cell q3.out 1 _ rfl
    have f0 := held_free q3.out 0
    have f1 := held_free q3.out 1
    obtain ⟨W5, hW5, x0, x1, xz, xB, xO⟩ := two_set (u0 := .slice a1 l1 p1) (u1 := .bool true) q3.out
    have hA5 : After w W5 := Below.trans hA4.out (xB.mono (show w.heap.size ≤ w.heap.size + 1 by omega))
    clear xB xO q3 hA4 hV1 hvn hvu
    replace hA5 := hid hA5
    go_wp2_with omega
    refine bodyPost_ret (v := .tuple #[.agg #[.slice a1 l1 p1, .bool true], .int .i64 0]) ?_ rfl ?_
    · simp [results, Try.results13, go_sem, x0, x1]
    · exact ⟨a1, l1, p1, rfl, hR, hA5.out⟩
  replace hV1 : Go.RowKit.Hid (V1.heap[P]? = some (.cells #[.slice a1 l1 p1, .bool false] 29 (0, 0))) := hV1
  obtain ⟨hn1, hn8, hlt, hvs⟩ := hvu.out rfl
  obtain ⟨m, rfl⟩ : ∃ m : Nat, n = m := ⟨n.toNat, by omega⟩
  rw [Int.toNat_natCast] at hlt hvs
  have kN := fun U => rsigned_any m (by omega) (by omega) vu hlt U
  rw [← hvs] at kN
  clear hvu hvn hvs hlt
  have e0 := held_cell hV1.out 0 _ rfl
  have e1 := held_cell hV1.out 1 _ rfl
  have d0 := held_cell q3.out 0 _ rfl
  have d1 := held_cell q3.out 1 _ rfl
  have f0 := held_free q3.out 0
  have f1 := held_free q3.out 1
  obtain ⟨W5, hW5, x0, x1, xz, xB, xO⟩ := two_set (u0 := .slice a1 l1 p1) (u1 := .bool false) q3.out
  have hA5 : After w W5 := Below.trans hA4.out (xB.mono (show w.heap.size ≤ w.heap.size + 1 by omega))
  clear xB xO q3 hA4 hV1
  replace hA5 := hid hA5
  go_upto_region 4 with (omega)
  refine wp_region_T none 4 (by kernel_rfl) ?_
  refine wpAnyT_take 0 rfl (by kernel_rfl) (by kernel_rfl) (by kernel_rfl) (by kernel_rfl) (fun _ _ _ _ h => h) ⟨_, Or.inl ⟨by rfl, fun w2 hb2 => by (have hx0 := hb2.cell (show V1.drew.cell? _ = _ from e0) (by simp); have hx1 := hb2.cell (show V1.drew.cell? _ = _ from e1) (by simp); go_simp; try with_reducible rfl)⟩, _, by (go_simp; try rfl), ?_⟩
  refine wpAnyT_takeP 1 rfl (by kernel_rfl) (by kernel_rfl) (by kernel_rfl) (fun _ _ _ _ h => h) ⟨_, Or.inl ⟨by rfl, fun w2 _ => by (go_simp; try with_reducible rfl)⟩, _, by (go_simp; try rfl), ?_⟩
  refine wpAnyT_takeP 2 rfl (by kernel_rfl) (by kernel_rfl) (by kernel_rfl) (fun _ _ _ _ h => h) ⟨_, Or.inl ⟨by rfl, fun w2 _ => by (go_simp; try with_reducible rfl)⟩, _, by (go_simp; try rfl), ?_⟩
  refine wpAnyT_only 3 rfl (by kernel_rfl) (by rfl) (fun K hK => ?_)
  go_simp
  refine (kN V1.drew).mono ?_
  rintro e V5 ⟨rfl, rfl⟩
  refine hK _ _ ⟨fun _ => RX.refl _ _, ?_⟩
  clear hK
  refine wpAnyT_only 4 rfl (by kernel_rfl) (by rfl) (fun K hK => ?_)
  go_simp
  refine hK _ _ ⟨fun h => (h rfl).elim, ?_⟩
  clear hK
  refine wpAnyT_only 5 rfl (by kernel_rfl) (by rfl) (fun K hK => ?_)
  go_simp
  refine hK _ _ ⟨fun _ => RX.refl _ _, wpAnyT_done (by kernel_rfl) ?_ _⟩
  clear hK
  go_wp2_with fail
  refine bodyPost_ret (v := .tuple #[.agg #[.slice a1 l1 p1, .bool false], .int .i64 vi]) ?_ rfl ?_
  · simp [results, Try.results13, go_sem, x0, x1]
  · exact ⟨a1, l1, p1, rfl, hR, hA5.out.drew⟩

end Go.Proofs.Ytfcgeogooapmpaa
