/- Package bits and its reference: Split of the reference, Join, Same. -/
import Derived.Test.YtnabfimammojhaaBits5
namespace Go.Proofs.Ytnabfimammojhaa
open Go.ChangeShapes Go.WideShapes Go.ChangeAt Go.RowKit
set_option linter.unusedVariables false

set_option maxHeartbeats 1000000 in
theorem rsplit_any (x : Nat) (ad : Option Addr) (len cap : Nat) (zs : List Int) (w : World) (hx : x < 4294967296) (hsl : Sl .i64 w ad len cap zs) (hwf : ∀ n ∈ zs, (Lit.int .i64 n).wf = true) (hlen : len ≤ 100000) :
    Calls Try.prog 27 #[.int .u32 x, .slice ad len cap] w (IsSplit x zs w) := by
  have hR := rright_any ad len cap zs w hsl hwf hlen
  obtain ⟨hl0, hlc, hcm, hn, hrd0⟩ := hsl
  by_cases c : rightB zs = true
  case neg =>
    have c := Bool.not_eq_true _ ▸ c
    have e := hid (show splitL x zs = [] by unfold splitL; rw [c]; rfl)
    have hc := hid c
    clear c
    subst hl0
    go_enter Try.func27, Try.ntmps27
    go_wp2_with fail
    refine hR.mono ?_
    rintro e w2 ⟨rfl, rfl⟩
    rw [hc.out]
    go_wp2_with fail
    go_ret2
    exact ⟨none, 0, 0, by rw [hc.out]; rfl, by rw [e.out]; exact sl_nil _ _, Below.refl _ _⟩
  have hP : rightP zs := of_decide_eq_true c
  have e := hid (show splitL x zs = parts x zs zs.length by unfold splitL; rw [if_pos c])
  have hl32 := right_len hP
  replace hP := hid hP
  subst hl0
  go_enter Try.func27, Try.ntmps27
  go_wp2_with fail
  refine hR.mono ?_
  rintro e w2 ⟨rfl, rfl⟩
  rw [c]
  have hc := hid c
  clear c
  have hrd := hid hrd0
  clear hrd0
  go_wp2_with fail
  go_loopw [6, 7, 8] (fun l v i wr => ∃ (k : Nat) (a : Option Addr) (cp : Nat), k ≤ zs.length ∧ i = .int .i64 k ∧ v = .int .i64 (leftAt zs k) ∧ l = .slice a k cp ∧ Below w2.heap.size w2 wr ∧ Own .u32 24 wr w2.heap.size (.slice a k cp) (parts x zs k)) (fun _ _ i _ => zs.length - (intOf i).toNat)
  case atStart => exact ⟨0, none, 0, by omega, rfl, by rfl, rfl, Below.refl _ _, Own.nil _ _ _ _⟩
  case round =>
    obtain ⟨k, a, cp, hk, rfl, rfl, rfl, hbr, hown⟩ := hrel
    have hrdr := hrd.out.below hbr
    have hsz := hbr.size
    by_cases hlt : (k : Int) < zs.length
    · have hlt2 : k < zs.length := by omega
      obtain ⟨b, off, rfl, hc⟩ := hrdr k hlt2
      have hbd := left_bd zs hP.out k hlt2
      have hps := hid (parts_succ x zs k)
      have hpl := hid (parts_len x zs k)
      have hpa := hid (show partAt x zs k = ((getS x (leftAt zs (k + 1)) (zs.getD k 0) : Nat) : Int) from rfl)
      obtain ⟨z, hz0⟩ : ∃ z, zs.getD k 0 = z := ⟨_, rfl⟩
      obtain ⟨L, hL0⟩ : ∃ L, leftAt zs k = L := ⟨_, rfl⟩
      obtain ⟨M, hM0⟩ : ∃ M, leftAt zs (k + 1) = M := ⟨_, rfl⟩
      rw [hz0, hM0] at hpa
      rw [hz0] at hc
      rw [hz0, hL0, hM0] at hbd
      have hMM := hid hM0
      have hLL := hid hL0
      rw [hL0]
      clear hz0 hL0 hM0 hrdr
      obtain rfl : L - z = M := by omega
      generalize parts x zs k = ys at *
      generalize partAt x zs k = y at *
      have hyl : ys.length = k := hpl.out
      go_wp2_with fail
      refine (rget_any x _ _ _ hx (by omega) (by omega) (by omega) (by omega)).mono ?_
      rintro e w7 ⟨rfl, m, rfl⟩
      rw [← hpa.out]
      have own2 := hown.drewN m
      have hbr2 := bdrewN hbr m
      have hsz2 : w2.heap.size ≤ (wr.drewN m).heap.size := hsz
      subst hyl
      go_wp2_with (first
        | (at_builtin; refine wpList_app1 (wr.drewN m) w2 rfl (.tmp 24) (.tmp 32) 37 rfl w2.heap.size w2.heap.size 24 .u32 4 u32s (.slice a ys.length cp) ys rfl own2 y rfl (by omega) (by decide) hbr2 (Nat.le_refl _) hsz2 ?_))
      intro a' cap' w8 own8 hb8
      go_wp2_with fail
      go_roundw
      case rel => exact ⟨ys.length + 1, a', cap', by omega, by simp, by rw [hMM.out], rfl, hb8, by rw [hps.out]; exact own8⟩
      case measure => simp [intOf]; omega
    · obtain rfl : k = zs.length := by omega
      obtain ⟨a2, c2, hv, hs⟩ := hown.sl
      rw [parts_len] at hv hs
      cases hv
      go_wp2_with fail
      go_ret2
      exact ⟨_, _, _, by rw [hc.out]; rfl, by rw [e.out]; exact hs, hbr⟩

def sameP (a b : List Int) : Bool := decide (a = b)
theorem getD_ext {a b : List Int} (h : a.length = b.length) (k : ∀ i, i < a.length → a.getD i 0 = b.getD i 0) : a = b := by
  apply List.ext_getElem h
  intro i h1 h2
  have := k i h1
  simpa [h1, h2] using this
end Go.Proofs.Ytnabfimammojhaa
