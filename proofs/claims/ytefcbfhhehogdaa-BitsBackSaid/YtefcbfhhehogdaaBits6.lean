/- Package bits and its reference: Split of the reference, Join, Same. -/
import Derived.Test.YtefcbfhhehogdaaBits5
namespace Go.Proofs.Ytefcbfhhehogdaa
open Go.ChangeShapes Go.WideShapes Go.ChangeAt Go.RowKit
set_option linter.unusedVariables false

set_option maxHeartbeats 1000000 in
theorem rsplit_any (x : Nat) (ad : Option Addr) (len cap : Nat) (zs : List Int) (w : World) (hx : x < 4294967296) (hsl : Sl .i64 w ad len cap zs) (hwf : ∀ n ∈ zs, (Lit.int .i64 n).wf = true) (hlen : len ≤ 100000) :
    Calls Try.prog 16 #[.int .u32 x, .slice ad len cap] w (IsSplit x zs w) := by
  have hR := rright_any ad len cap zs w hsl hwf hlen
  obtain ⟨hl0, hlc, hcm, hn, hrd0⟩ := hsl
  by_cases c : rightB zs = true
  case neg =>
    have c := Bool.not_eq_true _ ▸ c
    have e := hid (show splitL x zs = [] by unfold splitL; rw [c]; rfl)
    have hc := hid c
    clear c
    subst hl0
    go_enter Try.func16, Try.ntmps16
    go_wp2_with fail
    refine hR.mono ?_
    rintro e w2 ⟨rfl, rfl⟩
    rw [hc.out]
    go_wp2_with fail
    go_ret2
    exact ⟨none, 0, 0, by rw [hc.out]; rfl, by rw [e.out]; exact sl_nil _ _, Below.refl _ _⟩
  have hP : rightP zs := of_decide_eq_true c
  have e := hid (show splitL x zs = parts x zs zs.length by unfold splitL; rw [if_pos c])
  have hl32 := right_len hP
  replace hP := hid hP
  subst hl0
  go_enter Try.func16, Try.ntmps16
  go_wp2_with fail
  refine hR.mono ?_
  rintro e w2 ⟨rfl, rfl⟩
  rw [c]
  have hc := hid c
  clear c
  have hrd := hid hrd0
  clear hrd0
  go_wp2_with fail
  go_loopw [6, 7, 8] (fun l v i wr => ∃ (k : Nat) (a : Option Addr) (cp : Nat), k ≤ zs.length ∧ i = .int .i64 k ∧ v = .int .i64 (leftAt zs k) ∧ l = .slice a k cp ∧ Below w2.heap.size w2 wr ∧ Own .u32 22 wr w2.heap.size (.slice a k cp) (parts x zs k)) (fun _ _ i _ => zs.length - (intOf i).toNat)
  case atStart => exact ⟨0, none, 0, by omega, rfl, by rfl, rfl, Below.refl _ _, Own.nil _ _ _ _⟩
  case round =>
    obtain ⟨k, a, cp, hk, rfl, rfl, rfl, hbr, hown⟩ := hrel
    have hrdr := hrd.out.below hbr
    have hsz := hbr.size
    by_cases hlt : (k : Int) < zs.length
    · have hlt2 : k < zs.length := by omega
      obtain ⟨b, off, rfl, hc⟩ := hrdr k hlt2
      have hbd := left_bd zs hP.out k hlt2
      have hps := hid (parts_succ x zs k)
      have hpl := hid (parts_len x zs k)
      have hpa := hid (show partAt x zs k = ((getS x (leftAt zs (k + 1)) (zs.getD k 0) : Nat) : Int) from rfl)
      obtain ⟨z, hz0⟩ : ∃ z, zs.getD k 0 = z := ⟨_, rfl⟩
      obtain ⟨L, hL0⟩ : ∃ L, leftAt zs k = L := ⟨_, rfl⟩
      obtain ⟨M, hM0⟩ : ∃ M, leftAt zs (k + 1) = M := ⟨_, rfl⟩
      rw [hz0, hM0] at hpa
      rw [hz0] at hc
      rw [hz0, hL0, hM0] at hbd
      have hMM := hid hM0
      have hLL := hid hL0
      rw [hL0]
      clear hz0 hL0 hM0 hrdr
      obtain rfl : L - z = M := by omega
      generalize parts x zs k = ys at *
      generalize partAt x zs k = y at *
      have hyl : ys.length = k := hpl.out
      go_wp2_with fail
      refine (rget_any x _ _ _ hx (by omega) (by omega) (by omega) (by omega)).mono ?_
      rintro e w7 ⟨rfl, m, rfl⟩
      rw [← hpa.out]
      have own2 := hown.drewN m
      have hbr2 := bdrewN hbr m
      have hsz2 : w2.heap.size ≤ (wr.drewN m).heap.size := hsz
      subst hyl
      go_wp2_with (first
        | (at_builtin; refine wpList_app1 (wr.drewN m) w2 rfl (.tmp 24) (.tmp 32) 31 rfl w2.heap.size w2.heap.size 22 .u32 4 u32s (.slice a ys.length cp) ys rfl own2 y rfl (by omega) (by decide) hbr2 (Nat.le_refl _) hsz2 ?_))
      intro a' cap' w8 own8 hb8
      go_wp2_with fail
      go_roundw
      case rel => exact ⟨ys.length + 1, a', cap', by omega, by simp, by rw [hMM.out], rfl, hb8, by rw [hps.out]; exact own8⟩
      case measure => simp [intOf]; omega
    · obtain rfl : k = zs.length := by omega
      obtain ⟨a2, c2, hv, hs⟩ := hown.sl
      rw [parts_len] at hv hs
      cases hv
      go_wp2_with fail
      go_ret2
      exact ⟨_, _, _, by rw [hc.out]; rfl, by rw [e.out]; exact hs, hbr⟩

def sameP (a b : List Int) : Bool := decide (a = b)
theorem getD_ext {a b : List Int} (h : a.length = b.length) (k : ∀ i, i < a.length → a.getD i 0 = b.getD i 0) : a = b := by
  apply List.ext_getElem h
  intro i h1 h2
  have := k i h1
  simpa [h1, h2] using this
set_option maxHeartbeats 1000000 in
theorem same_any (a b : Option Addr) (la lb ca cb : Nat) (xs ys : List Int) (w : World) (ha : Sl .u32 w a la ca xs) (hb : Sl .u32 w b lb cb ys) (h1 : la ≤ 100000) (h2 : lb ≤ 100000) :
    Calls Try.prog 19 #[.slice a la ca, .slice b lb cb] w fun e w' => e = .returned (.bool (sameP xs ys)) ∧ ∃ m, w' = w.drewN m := by
  obtain ⟨rfl, -, -, -, hra⟩ := ha
  obtain ⟨rfl, -, -, -, hrb⟩ := hb
  by_cases hl : xs.length = ys.length
  case neg =>
    have e := hid (show sameP xs ys = false from decide_eq_false (fun h => hl (by rw [h])))
    have hl2 : ¬ ((xs.length : Int) = ys.length) := by omega
    go_enter Try.func19, Try.ntmps19
    go_wp2_with fail
    go_ret
    exact ⟨ret_bool (by rw [e.out]), 0, rfl⟩
  go_enter Try.func19, Try.ntmps19
  go_wp2_with fail
  go_loopw [5] (fun i wr => ∃ (k m : Nat), k ≤ xs.length ∧ i = .int .i64 k ∧ wr = w.drewN m ∧ ∀ j, j < k → xs.getD j 0 = ys.getD j 0) (fun i _ => xs.length - (intOf i).toNat)
  case atStart => exact ⟨0, 0, by omega, rfl, rfl, fun j hj => by omega⟩
  case round =>
    obtain ⟨k, m, hk, rfl, rfl, hall⟩ := hrel
    by_cases hlt : (k : Int) < xs.length
    · have hlt2 : k < xs.length := by omega
      have hlt3 : (k : Int) < ys.length := by omega
      obtain ⟨b1, o1, rfl, hc1⟩ := hra k hlt2
      obtain ⟨b2, o2, rfl, hc2⟩ := hrb k (by omega)
      have hA := hid hall
      clear hall hra hrb
      obtain ⟨x, hx0⟩ : ∃ x, xs.getD k 0 = x := ⟨_, rfl⟩
      obtain ⟨y, hy0⟩ : ∃ y, ys.getD k 0 = y := ⟨_, rfl⟩
      rw [hx0] at hc1
      rw [hy0] at hc2
      have hX := hid hx0
      have hY := hid hy0
      clear hx0 hy0
      by_cases hxy : x = y
      · subst hxy
        go_wp2_with fail
        go_quiet (fail)
        go_wp2_with fail
        go_roundw
        case rel => exact ⟨k + 1, m + nq, by omega, by simp, by first | rfl | simp [World.drewN_drewN], fun j hj => by
          by_cases e : j = k
          · subst e; rw [hX.out, hY.out]
          · exact hA.out j (by omega)⟩
        case measure => simp [intOf]; omega
      · have e := hid (show sameP xs ys = false from decide_eq_false (fun h => hxy (by rw [← hX.out, ← hY.out, h])))
        go_wp2_with fail
        go_quiet (fail)
        go_wp2_with fail
        go_ret
        exact ⟨ret_bool (by rw [e.out]), m + nq, by first | rfl | simp [World.drewN_drewN]⟩
    · obtain rfl : k = xs.length := by omega
      go_wp2_with fail
      go_ret
      exact ⟨ret_bool (decide_eq_true (getD_ext hl hall)).symm, m, rfl⟩

end Go.Proofs.Ytefcbfhhehogdaa
