/- Package sats: Used. -/
import Derived.Test.YtahjcbdofljfpaaSats6
import Derived.Laws.StructEq
import Derived.Deep.DeepCutAuto
namespace Go.Proofs.Ytahjcbdofljfpaa
open Go.ChangeShapes Go.WideShapes Go.ChangeAt Go.RowKit
set_option linter.unusedVariables false
set_option linter.unusedSimpArgs false

set_option maxRecDepth 100000 in
set_option maxHeartbeats 4000000 in
theorem used_any (tow : Int) (a : Option Addr) (ca : Nat) (l : List (List Int)) (w : World) (hA : Els w 7 a l.length ca (satsV l)) (h100 : l.length ≤ 100) (hl7 : ∀ x ∈ l, x.length = 7) : Calls Try.prog 9 #[.agg #[.int .i64 tow, .slice a l.length ca]] w fun e w' => e = .returned (.tuple #[.int .i64 (usedS l).1, .int .i64 (usedS l).2]) ∧ After w w' := by
  have h40i : (l.length : Int) ≤ 100 := by omega
  have hall := hid (show usedS (l.take l.length) = usedS l from by rw [List.take_length])
  obtain ⟨⟨gn, gb⟩, hg⟩ : ∃ g, usedS l = g := ⟨_, rfl⟩
  rw [hg]
  rw [hg] at hall
  dsimp only
  clear hg
  replace hA := hid hA
  go_enter Try.func9, Try.ntmps9
  go_upto_region 0 with (fail)
  apply wp_region_seg0 (w := w) (S := [.al 1000, .q [], .q []]) (E := [.al ((fun p => .pointer (some ⟨p, 0, none⟩)), _) 1000, .q0 _, .q0 _]) rfl (by kernel_rfl) rfl rfl
  intro th hge hne
  refine Seg.step _ rfl ⟨by rfl, fun U hU => ?_⟩ ?_
  · go_simp; exact vp_alloc rfl rfl rfl
  refine ⟨_, by (simp only [Ent.val]; go_simp <;> exact rfl), ?_⟩
  refine Seg.step _ rfl (Or.inl ⟨by rfl, fun U hU => vp_quiet (by (go_simp <;> exact rfl))⟩) ⟨_, by (simp only [Ent.val]; go_simp <;> exact rfl), ?_⟩
  refine Seg.step _ rfl (Or.inl ⟨by rfl, fun U hU => vp_quiet (by (go_simp <;> exact rfl))⟩) ⟨_, by (simp only [Ent.val]; go_simp <;> exact rfl), ?_⟩
  refine Seg.stop (fun U1 hU hk => ?_)
  have nb0 := hge 0 _ _ rfl
  have rb0 := (hk 0 _ _ rfl trivial).1.2 (by simp)
  clear hk hge hne
  generalize th (0 + 0) = p0_0 at *
  dsimp only at rb0
  have r_p0_0 := rb0
  clear rb0
  have n_p0_0 := nb0
  clear nb0
  have sz1 := hU.size
  have hB : Below w.heap.size w U1 := hU
  clear hU
  go_upto_region 1 with (fail)
  apply wp_region_seg0 (w := U1) (S := [.al 1000]) (E := [.al ((fun p => .pointer (some ⟨p, 0, none⟩)), _) 1000]) rfl (by kernel_rfl) rfl rfl
  intro th hge hne
  refine Seg.step _ rfl ⟨by rfl, fun U hU => ?_⟩ ?_
  · go_simp; exact vp_alloc rfl rfl rfl
  refine ⟨_, by (simp only [Ent.val]; go_simp <;> exact rfl), ?_⟩
  refine Seg.stop (fun U2 hU hk => ?_)
  have nb0 := hge 0 _ _ rfl
  have rb0 := (hk 0 _ _ rfl trivial).1.2 (by simp)
  clear hk hge hne
  generalize th (0 + 0) = p1_0 at *
  dsimp only at rb0
  replace r_p0_0 := held_after hU r_p0_0
  have r_p1_0 := rb0
  clear rb0
  have n_p1_0 := nb0
  clear nb0
  have sz2 := hU.size
  replace hB := bthen hB hU
  clear hU
  have np : w.heap.size ≤ p1_0 := by have := sz1; have := n_p1_0; omega
  have z0 := held_cell r_p0_0 0 _ rfl
  have z1 := held_cell r_p0_0 1 _ rfl
  have hB0 := hid hB
  have rt0 := hid r_p1_0
  clear hB r_p1_0 r_p0_0
  go_wp2_with fail
  clear z0 z1
  go_loopw [10] (fun ix wr => ∃ (k : Nat) (n b : Int), k ≤ l.length ∧ ix = .int .i64 k ∧ Hid (usedS (l.take k) = (n, b)) ∧ wr.heap[p1_0]? = some (.cells #[.int .i64 n, .int .i64 b] 51 (0, 0)) ∧ Below w.heap.size w wr) (fun ix _ => l.length - (intOf ix).toNat)
  case atStart => exact ⟨0, 0, 0, by omega, rfl, hid rfl, rt0.out, hB0.out⟩
  case round =>
    clear rt0 hB0
    obtain ⟨k, n, b, hk, rfl, hd, rt, hB⟩ := hrel
    by_cases hlt : (k : Int) < l.length
    case neg =>
      obtain rfl : k = l.length := by omega
      have hf := hall.out.symm.trans hd.out
      obtain rfl : gn = n := congrArg Prod.fst hf
      obtain rfl : gb = b := congrArg Prod.snd hf
      have c0 := held_cell rt 0 _ rfl
      have c1 := held_cell rt 1 _ rfl
      replace hB := hid hB
      clear hf hd hall rt
      go_wp2_with fail
      go_quiet (fail)
      go_wp2_with fail
      go_ret2
      exact ⟨rfl, below_drewN hB.out _⟩
    obtain ⟨x, hx⟩ : ∃ x, l[k]? = some x := ⟨_, List.getElem?_eq_getElem (show k < l.length by omega)⟩
    have hnx := usedS_at hx
    rw [hd.out] at hnx
    have hiv := usedS_inv (l.take k) (0, 0) (by simp) (by simp)
    change 0 ≤ (usedS (l.take k)).1 ∧ (usedS (l.take k)).1 ≤ 0 + ((l.take k).length : Int) ∧ ((usedS (l.take k)).1 = 0 → (usedS (l.take k)).2 = 0) at hiv
    rw [hd.out, List.length_take] at hiv
    dsimp only at hiv
    have hn0 := hiv.1
    have hn1 : n ≤ 100 := by have := hiv.2.1; omega
    have hnb := hid hiv.2.2
    clear hiv
    obtain ⟨x0, x1, x2, x3, x4, x5, x6, rfl⟩ := list7 (hl7 x (List.mem_of_getElem? hx))
    change usedS (l.take (k + 1)) = if x6 / 8 % 2 = 1 then (n + 1, if n = 0 ∨ b < x2 then x2 else b) else (n, b) at hnx
    obtain ⟨ba, oa, rfl, a0, a1, a2, a3, a4, a5, a6⟩ := (hA.out.below hB).at7 (satsV_at hx)
    have kz : (0 : Int) ≤ k := by omega
    have wk : IntKind.i64.wrap ((k : Int) + 1) = (k : Int) + 1 := by rw [IntKind.wrap_i64]; omega
    have wn : IntKind.i64.wrap (n + 1) = n + 1 := by rw [IntKind.wrap_i64]; omega
    have hk1 := hid (show k + 1 ≤ l.length by omega)
    have nw := alloc_new wr (.cells #[.int .i64 x0, .int .i64 x1, .int .i64 x2, .int .i64 x3, .int .i64 x4, .int .i64 x5, .int .i64 x6] 49)
    have q1 := held_after nw.2.1 rt
    have q2 := nw.2.2
    have hB2 := hid (bthen hB nw.2.1)
    clear nw hx hk hd rt hB
    go_upto_region 5 with (fail)
    obtain ⟨U3, hU3⟩ : ∃ X, wr.alloc (.cells #[.int .i64 x0, .int .i64 x1, .int .i64 x2, .int .i64 x3, .int .i64 x4, .int .i64 x5, .int .i64 x6] 49) = X := ⟨_, rfl⟩
    rw [hU3] at q1 q2 hB2 ⊢
    clear hU3 a0 a1 a2 a3 a4 a5 a6
    have g2 := held_cell q2 2 _ rfl
    have g6 := held_cell q2 6 _ rfl
    have c0 := held_cell q1 0 _ rfl
    have c1 := held_cell q1 1 _ rfl
    have f0 := held_free q1 0
    have f1 := held_free q1 1
    have dne : p1_0 ≠ wr.heap.size := fun e => by subst e; rw [q1] at q2; cases q2
    replace q1 := hid q1
    clear q2
    generalize wr.heap.size = pw at *
    by_cases hf : x6 / 8 % 2 = 1
    · rw [if_pos hf] at hnx
      by_cases hn : n = 0
      · rw [if_pos (Or.inl hn)] at hnx
        obtain rfl : b = 0 := hnb.out hn
        subst hn
        have hq : (bits .and .i64 x6 8 == 0) = false := by rw [and8_i64]; simp [hf]
        replace hnx := hid hnx
        clear hf
        go_wp2_with fail
        go_roundw
        case rel => exact ⟨k + 1, _, _, hk1.out, by simp, hid hnx.out, held_set (held_set q1.out 1 _) 0 _, (hB2.out.setCell (p := ⟨p1_0, 1, none⟩) np _).setCell (p := ⟨p1_0, 0, none⟩) np _⟩
        case measure => simp [intOf]; omega
      · have hnn : (n == 0) = false := by simp [hn]
        by_cases hb2 : b < x2
        · rw [if_pos (Or.inr hb2)] at hnx
          have hq : (bits .and .i64 x6 8 == 0) = false := by rw [and8_i64]; simp [hf]
          clear hn
          replace hnx := hid hnx
          clear hf
          go_wp2_with fail
          go_roundw
          case rel => exact ⟨k + 1, _, _, hk1.out, by simp, hid hnx.out, held_set (held_set q1.out 1 _) 0 _, (hB2.out.setCell (p := ⟨p1_0, 1, none⟩) np _).setCell (p := ⟨p1_0, 0, none⟩) np _⟩
          case measure => simp [intOf]; omega
        · rw [if_neg (by omega)] at hnx
          have hq : (bits .and .i64 x6 8 == 0) = false := by rw [and8_i64]; simp [hf]
          clear hn
          replace hnx := hid hnx
          clear hf
          go_wp2_with fail
          go_roundw
          case rel => exact ⟨k + 1, _, _, hk1.out, by simp, hid hnx.out, held_set q1.out 0 _, hB2.out.setCell (p := ⟨p1_0, 0, none⟩) np _⟩
          case measure => simp [intOf]; omega
    · rw [if_neg hf] at hnx
      have hq : (bits .and .i64 x6 8 == 0) = true := by rw [and8_i64]; simp; omega
      replace hnx := hid hnx
      clear hf
      go_wp2_with fail
      go_roundw
      case rel => exact ⟨k + 1, _, _, hk1.out, by simp, hid hnx.out, q1.out, hB2.out⟩
      case measure => simp [intOf]; omega

end Go.Proofs.Ytahjcbdofljfpaa
