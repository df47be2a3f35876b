/- Package sats: Used. -/
import Derived.Test.YtahjcbdofljfpaaSats2
import Derived.Laws.StructEq
import Derived.Deep.DeepCutAuto
namespace Go.Proofs.Ytahjcbdofljfpaa
open Go.ChangeShapes Go.WideShapes Go.ChangeAt Go.RowKit
set_option linter.unusedVariables false
set_option linter.unusedSimpArgs false

theorem and1_i64 (n : Int) : bits .and .i64 n 1 = n % 2 := by
  have h1 : (BitVec.ofInt 64 1).toNat = 2 ^ 1 - 1 := by decide
  have key : (BitVec.ofInt 64 n &&& BitVec.ofInt 64 1).toNat = (n % ((2 ^ 64 : Nat) : Int)).toNat % 2 ^ 1 := by
    rw [BitVec.toNat_and, BitVec.toNat_ofInt, h1, Nat.and_two_pow_sub_one_eq_mod]
  show IntKind.i64.wrap ((BitVec.ofInt 64 n &&& BitVec.ofInt 64 1).toNat : Nat) = n % 2
  rw [key, IntKind.wrap_i64]
  omega
theorem nat_and8 (u : Nat) : u &&& 8 = 8 * (u / 8 % 2) := by
  show u &&& 2 ^ 3 = 2 ^ 3 * (u / 2 ^ 3 % 2 ^ 1)
  apply Nat.eq_of_testBit_eq
  intro i
  rw [Nat.testBit_and, Nat.testBit_two_pow, Nat.testBit_two_pow_mul, Nat.testBit_mod_two_pow, Nat.testBit_div_two_pow]
  by_cases h : 3 = i
  · subst h; simp
  · rw [decide_eq_false h, Bool.and_false]
    symm
    by_cases h2 : 3 ≤ i
    · rw [decide_eq_false (show ¬ i - 3 < 1 by omega)]; simp
    · rw [decide_eq_false (show ¬ i ≥ 3 by omega)]; rfl
theorem and8_i64 (n : Int) : bits .and .i64 n 8 = 8 * (n / 8 % 2) := by
  have h1 : (BitVec.ofInt 64 8).toNat = 8 := by decide
  have key : (BitVec.ofInt 64 n &&& BitVec.ofInt 64 8).toNat = 8 * ((n % ((2 ^ 64 : Nat) : Int)).toNat / 8 % 2) := by
    rw [BitVec.toNat_and, BitVec.toNat_ofInt, h1, nat_and8]
  show IntKind.i64.wrap ((BitVec.ofInt 64 n &&& BitVec.ofInt 64 8).toNat : Nat) = 8 * (n / 8 % 2)
  rw [key, IntKind.wrap_i64]
  omega
def us1 (s : Int × Int) (x : List Int) : Int × Int := if x.getD 6 0 / 8 % 2 = 1 then (s.1 + 1, if s.1 = 0 ∨ s.2 < x.getD 2 0 then x.getD 2 0 else s.2) else s
def usedS (l : List (List Int)) : Int × Int := l.foldl us1 (0, 0)
theorem usedS_at {l : List (List Int)} {k : Nat} {x : List Int} (hx : l[k]? = some x) : usedS (l.take (k + 1)) = us1 (usedS (l.take k)) x := by
  obtain ⟨h, rfl⟩ := List.getElem?_eq_some_iff.1 hx
  unfold usedS
  rw [List.take_succ_eq_append_getElem h, List.foldl_append]
  rfl
theorem usedS_inv (l : List (List Int)) : ∀ s : Int × Int, 0 ≤ s.1 → (s.1 = 0 → s.2 = 0) → 0 ≤ (l.foldl us1 s).1 ∧ (l.foldl us1 s).1 ≤ s.1 + l.length ∧ ((l.foldl us1 s).1 = 0 → (l.foldl us1 s).2 = 0) := by
  induction l with
  | nil => intro s h1 h2; exact ⟨h1, by simp, h2⟩
  | cons x l ih =>
    intro s h1 h2
    rw [List.foldl_cons, List.length_cons]
    have h3 : 0 ≤ (us1 s x).1 ∧ (us1 s x).1 ≤ s.1 + 1 ∧ ((us1 s x).1 = 0 → (us1 s x).2 = 0) := by
      unfold us1
      split
      · exact ⟨by dsimp only; omega, by dsimp only; omega, fun h => by dsimp only at h; omega⟩
      · exact ⟨h1, by omega, h2⟩
    have := ih (us1 s x) h3.1 h3.2.2
    exact ⟨this.1, by omega, this.2.2⟩
set_option maxRecDepth 100000 in
set_option maxHeartbeats 4000000 in
theorem rused_any (tow : Int) (a : Option Addr) (ca : Nat) (l : List (List Int)) (w : World) (hA : Els w 7 a l.length ca (satsV l)) (h100 : l.length ≤ 100) (hl7 : ∀ x ∈ l, x.length = 7) : Calls Try.prog 10 #[.agg #[.int .i64 tow, .slice a l.length ca]] w fun e w' => e = .returned (.tuple #[.int .i64 (usedS l).1, .int .i64 (usedS l).2]) ∧ After w w' := by
  have h40i : (l.length : Int) ≤ 100 := by omega
  have hall := hid (show usedS (l.take l.length) = usedS l from by rw [List.take_length])
  obtain ⟨⟨gn, gb⟩, hg⟩ : ∃ g, usedS l = g := ⟨_, rfl⟩
  rw [hg]
  rw [hg] at hall
  dsimp only
  clear hg
  replace hA := hid hA
  go_enter Try.func10, Try.ntmps10
  go_upto_region 0 with (fail)
  apply wp_region_seg0 (w := w) (S := [.al 1000, .q [], .q []]) (E := [.al ((fun p => .pointer (some ⟨p, 0, none⟩)), _) 1000, .q0 _, .q0 _]) rfl (by kernel_rfl) rfl rfl
  intro th hge hne
  refine Seg.step _ rfl ⟨by rfl, fun U hU => ?_⟩ ?_
  · go_simp; exact vp_alloc rfl rfl rfl
  refine ⟨_, by (simp only [Ent.val]; go_simp <;> exact rfl), ?_⟩
  refine Seg.step _ rfl (Or.inl ⟨by rfl, fun U hU => vp_quiet (by (go_simp <;> exact rfl))⟩) ⟨_, by (simp only [Ent.val]; go_simp <;> exact rfl), ?_⟩
  refine Seg.step _ rfl (Or.inl ⟨by rfl, fun U hU => vp_quiet (by (go_simp <;> exact rfl))⟩) ⟨_, by (simp only [Ent.val]; go_simp <;> exact rfl), ?_⟩
  refine Seg.stop (fun U1 hU hk => ?_)
  have nb0 := hge 0 _ _ rfl
  have rb0 := (hk 0 _ _ rfl trivial).1.2 (by simp)
  clear hk hge hne
  generalize th (0 + 0) = p0_0 at *
  dsimp only at rb0
  have r_p0_0 := rb0
  clear rb0
  have n_p0_0 := nb0
  clear nb0
  have sz1 := hU.size
  have hB : Below w.heap.size w U1 := hU
  clear hU
  replace hA := hid (hA.out.below hB)
  replace hB := hid hB
  have z0 := held_cell r_p0_0 0 _ rfl
  have z1 := held_cell r_p0_0 1 _ rfl
  replace r_p0_0 := hid r_p0_0
  go_wp2_with fail
  clear z0 z1
  go_loopw [4, 5, 6] (fun nv bv ix wr => ∃ (k : Nat) (n b : Int), k ≤ l.length ∧ ix = .int .i64 k ∧ nv = .int .i64 n ∧ bv = .int .i64 b ∧ Hid (usedS (l.take k) = (n, b)) ∧ After U1 wr) (fun _ _ ix _ => l.length - (intOf ix).toNat)
  case atStart => exact ⟨0, 0, 0, by omega, rfl, rfl, rfl, hid rfl, After.refl _⟩
  case round =>
    obtain ⟨k, n, b, hk, rfl, rfl, rfl, hd, hT⟩ := hrel
    have r0 := held_after hT r_p0_0.out
    have z1 := held_cell r0 1 _ rfl
    have hB2 := hid (bthen hB.out hT)
    by_cases hlt : (k : Int) < l.length
    case neg =>
      obtain rfl : k = l.length := by omega
      have hf := hall.out.symm.trans hd.out
      obtain rfl : gn = n := congrArg Prod.fst hf
      obtain rfl : gb = b := congrArg Prod.snd hf
      clear hf hd hall
      go_wp2_with fail
      go_ret2
      exact ⟨rfl, hB2.out⟩
    obtain ⟨x, hx⟩ : ∃ x, l[k]? = some x := ⟨_, List.getElem?_eq_getElem (show k < l.length by omega)⟩
    have hnx := usedS_at hx
    rw [hd.out] at hnx
    have hiv := usedS_inv (l.take k) (0, 0) (by simp) (by simp)
    change 0 ≤ (usedS (l.take k)).1 ∧ (usedS (l.take k)).1 ≤ 0 + ((l.take k).length : Int) ∧ _ at hiv
    rw [hd.out, List.length_take] at hiv
    dsimp only at hiv
    have hn0 := hiv.1
    have hn1 : n ≤ 100 := by have := hiv.2.1; omega
    clear hiv
    obtain ⟨x0, x1, x2, x3, x4, x5, x6, rfl⟩ := list7 (hl7 x (List.mem_of_getElem? hx))
    change usedS (l.take (k + 1)) = if x6 / 8 % 2 = 1 then (n + 1, if n = 0 ∨ b < x2 then x2 else b) else (n, b) at hnx
    obtain ⟨ba, oa, rfl, a0, a1, a2, a3, a4, a5, a6⟩ := (hA.out.below hT).at7 (satsV_at hx)
    have kz : (0 : Int) ≤ k := by omega
    have wk : IntKind.i64.wrap ((k : Int) + 1) = (k : Int) + 1 := by rw [IntKind.wrap_i64]; omega
    have wn : IntKind.i64.wrap (n + 1) = n + 1 := by rw [IntKind.wrap_i64]; omega
    have hk1 := hid (show k + 1 ≤ l.length by omega)
    have hTa := hid (balloc hT (Nat.le_refl _) (.cells #[.int .i64 x0, .int .i64 x1, .int .i64 x2, .int .i64 x3, .int .i64 x4, .int .i64 x5, .int .i64 x6] 49))
    clear hx hk hd hT
    replace r0 := hid r0
    by_cases hf : x6 / 8 % 2 = 1
    · rw [if_pos hf] at hnx
      by_cases hn : n = 0
      · rw [if_pos (Or.inl hn)] at hnx
        subst hn
        have hq : (bits .and .i64 (x6 / 8) 1 == 1) = true := by rw [and1_i64]; simp [hf]
        replace hnx := hid hnx
        clear hf
        go_wp2_with fail
        go_roundw
        case rel => exact ⟨k + 1, _, _, hk1.out, by simp, rfl, rfl, hid hnx.out, hTa.out⟩
        case measure => simp [intOf]; omega
      · by_cases hb2 : b < x2
        · rw [if_pos (Or.inr hb2)] at hnx
          have hq : (bits .and .i64 (x6 / 8) 1 == 1) = true := by rw [and1_i64]; simp [hf]
          have hnn : (n == 0) = false := by simp [hn]
          clear hn
          replace hnx := hid hnx
          clear hf
          go_wp2_with fail
          go_roundw
          case rel => exact ⟨k + 1, _, _, hk1.out, by simp, rfl, rfl, hid hnx.out, hTa.out⟩
          case measure => simp [intOf]; omega
        · rw [if_neg (by omega)] at hnx
          have hq : (bits .and .i64 (x6 / 8) 1 == 1) = true := by rw [and1_i64]; simp [hf]
          have hnn : (n == 0) = false := by simp [hn]
          clear hn
          replace hnx := hid hnx
          clear hf
          go_wp2_with fail
          go_roundw
          case rel => exact ⟨k + 1, _, _, hk1.out, by simp, rfl, rfl, hid hnx.out, hTa.out⟩
          case measure => simp [intOf]; omega
    · rw [if_neg hf] at hnx
      have hq : (bits .and .i64 (x6 / 8) 1 == 1) = false := by rw [and1_i64]; simp [hf]
      replace hnx := hid hnx
      clear hf
      go_wp2_with fail
      go_roundw
      case rel => exact ⟨k + 1, _, _, hk1.out, by simp, rfl, rfl, hid hnx.out, hTa.out⟩
      case measure => simp [intOf]; omega

end Go.Proofs.Ytahjcbdofljfpaa
