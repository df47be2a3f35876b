/- Package bits and its reference: widths, parts. -/
import Derived.Test.YtnabfimammojhaaBits4
namespace Go.Proofs.Ytnabfimammojhaa
open Go.ChangeShapes Go.WideShapes Go.ChangeAt Go.RowKit
set_option linter.unusedVariables false

theorem rright_any (ad : Option Addr) (len cap : Nat) (zs : List Int) (w : World) (hsl : Sl .i64 w ad len cap zs) (hwf : ∀ n ∈ zs, (Lit.int .i64 n).wf = true) (hlen : len ≤ 100000) :
    Calls Try.prog 37 #[.slice ad len cap] w fun e w' => e = .returned (.bool (rightB zs)) ∧ w' = w := by
  obtain ⟨rfl, hlc, hcm, hn, hrd⟩ := hsl
  unfold maxLen at hcm
  go_enter Try.func37, Try.ntmps37
  go_wp2_with fail
  go_loopw [3, 4] (fun s i wr => ∃ (k : Nat), wr = w ∧ k ≤ zs.length ∧ i = .int .i64 k ∧ s = .int .i64 (zs.take k).sum ∧ ∀ j, j < k → 1 ≤ zs.getD j 0 ∧ zs.getD j 0 ≤ 32) (fun _ i _ => zs.length - (intOf i).toNat)
  case atStart => exact ⟨0, rfl, by omega, rfl, by simp, fun j hj => by omega⟩
  case round =>
    obtain ⟨k, rfl, hk, rfl, rfl, hall⟩ := hrel
    have hsum := sum_le zs k hk hall
    by_cases hlt : (k : Int) < zs.length
    · have hlt2 : k < zs.length := by omega
      obtain ⟨b, off, rfl, hc⟩ := hrd k hlt2
      have hz := bounds_i64 (hwf (zs.getD k 0) (by simp [hlt2]))
      have hss := hid (take_succ_sum zs k hlt2)
      have hno := hid (fun h => right_no (zs := zs) (i := k) hlt2 h)
      have hov := hid (fun h => right_over (zs := zs) (i := k) hk h)
      have hallH := hid hall
      clear hall
      obtain ⟨z, hz0⟩ : ∃ z, zs.getD k 0 = z := ⟨_, rfl⟩
      rw [hz0] at hc hz hss hno
      have hzz := hid hz0
      clear hz0
      generalize (zs.take k).sum = S at *
      by_cases c1 : z < 1
      · go_wp2_with fail
        go_ret
        exact ⟨ret_bool (by rw [hno.out (by omega)]), rfl⟩
      by_cases c2 : z ≤ 32
      case neg =>
        go_wp2_with fail
        all_goals (first | omega | skip)
        go_ret
        exact ⟨ret_bool (by rw [hno.out (by omega)]), rfl⟩
      by_cases c3 : S ≤ 32
      case neg =>
        go_wp2_with fail
        all_goals (first | omega | skip)
        go_ret
        exact ⟨ret_bool (by rw [hov.out (by omega)]), rfl⟩
      go_wp2_with fail
      all_goals (first | omega | skip)
      go_roundw
      case rel => exact ⟨k + 1, trivial, by omega, by simp, by rw [hss.out], fun j hj => by
          by_cases e : j = k
          · subst e; rw [hzz.out]; omega
          · exact hallH.out j (by omega)⟩
      case measure => simp [intOf]; omega
    · go_wp2_with fail
      go_ret
      obtain rfl : k = zs.length := by omega
      exact ⟨ret_bool (by rw [right_all hall, List.take_length]), rfl⟩

/-- What is left below the first k parts. -/
def leftAt (zs : List Int) (k : Nat) : Int := 32 - (zs.take k).sum
theorem left_succ (zs : List Int) (k : Nat) (h : k < zs.length) : leftAt zs (k + 1) = leftAt zs k - zs.getD k 0 := by
  unfold leftAt; rw [take_succ_sum zs k h]; omega
theorem left_bd (zs : List Int) (hr : rightP zs) (k : Nat) (h : k < zs.length) : 0 ≤ leftAt zs (k + 1) ∧ leftAt zs (k + 1) + zs.getD k 0 = leftAt zs k ∧ leftAt zs k ≤ 32 ∧ 1 ≤ zs.getD k 0 ∧ zs.getD k 0 ≤ 32 := by
  have h1 := sum_mono zs hr.1 (k + 1) (zs.length - (k + 1)) (by omega)
  have h2 := sum_mono zs hr.1 0 k (by omega)
  rw [show k + 1 + (zs.length - (k + 1)) = zs.length from by omega, List.take_length, hr.2] at h1
  simp at h2
  have h3 := left_succ zs k h
  have h4 := hr.1 k h
  unfold leftAt at *
  omega
theorem right_len {zs : List Int} (hr : rightP zs) : zs.length ≤ 32 := by
  have h2 := sum_mono zs hr.1 0 zs.length (by omega)
  rw [Nat.zero_add, List.take_length, hr.2] at h2
  simp at h2
  omega
def partAt (x : Nat) (zs : List Int) (k : Nat) : Int := (getS x (leftAt zs (k + 1)) (zs.getD k 0) : Nat)
def parts (x : Nat) (zs : List Int) (k : Nat) : List Int := (List.range k).map (partAt x zs)
theorem parts_len (x : Nat) (zs : List Int) (k : Nat) : (parts x zs k).length = k := by simp [parts]
theorem parts_succ (x : Nat) (zs : List Int) (k : Nat) : parts x zs (k + 1) = parts x zs k ++ [partAt x zs k] := by simp [parts, List.range_succ]
theorem parts_set (x : Nat) (zs : List Int) (k m : Nat) : (parts x zs k ++ List.replicate (m + 1) 0).set k (partAt x zs k) = parts x zs (k + 1) ++ List.replicate m 0 := by
  rw [List.set_append_right _ _ (by rw [parts_len]; exact Nat.le_refl _), parts_len, Nat.sub_self, List.replicate_succ, List.set_cons_zero, parts_succ, List.append_assoc]; rfl

/-- What Split tells. -/
def splitL (x : Nat) (zs : List Int) : List Int := if rightB zs then parts x zs zs.length else []
def IsSplit (x : Nat) (zs : List Int) (w : World) (e : Ending) (w' : World) : Prop :=
  ∃ a len cap, e = .returned (.tuple #[.slice a len cap, .bool (rightB zs)]) ∧ Sl .u32 w' a len cap (splitL x zs) ∧ Below w.heap.size w w'

theorem Row.other {k : IntKind} {E : TypeId} {w : World} {g : Nat} {zs : List Int} (h : Row k E w g zs) {p : Addr} (hp : g ≠ p.block) (v : Value) : Row k E (w.setCell p v) g zs := by
  unfold Row at *; rw [Below.heap_setCell w p v g hp]; exact h
theorem u32s : IntsOf Try.prog 37 24 .u32 4 := ⟨Try.underlying37, by kernel_rfl⟩
theorem sl_nil (k : IntKind) (w : World) : Sl k w none 0 0 [] := ⟨rfl, by omega, by unfold maxLen; omega, fun _ => rfl, Rd.nil _ _ _⟩

set_option maxHeartbeats 1000000 in
theorem split_any (x : Nat) (ad : Option Addr) (len cap : Nat) (zs : List Int) (w : World) (hx : x < 4294967296) (hsl : Sl .i64 w ad len cap zs) (hwf : ∀ n ∈ zs, (Lit.int .i64 n).wf = true) (hlen : len ≤ 100000) :
    Calls Try.prog 23 #[.int .u32 x, .slice ad len cap] w (IsSplit x zs w) := by
  have hR := right_any ad len cap zs w hsl hwf hlen
  obtain ⟨hl0, hlc, hcm, hn, hrd0⟩ := hsl
  by_cases c : rightB zs = true
  case neg =>
    have c := Bool.not_eq_true _ ▸ c
    have e := hid (show splitL x zs = [] by unfold splitL; rw [c]; rfl)
    have hc := hid c
    clear c
    subst hl0
    go_enter Try.func23, Try.ntmps23
    go_wp2_with fail
    refine hR.mono ?_
    rintro e w2 ⟨rfl, rfl⟩
    rw [hc.out]
    go_wp2_with fail
    go_ret2
    exact ⟨none, 0, 0, by rw [hc.out]; rfl, by rw [e.out]; exact sl_nil _ _, Below.refl _ _⟩
  have hP : rightP zs := of_decide_eq_true c
  have e := hid (show splitL x zs = parts x zs zs.length by unfold splitL; rw [if_pos c])
  have hl32 := right_len hP
  replace hP := hid hP
  subst hl0
  go_enter Try.func23, Try.ntmps23
  go_wp2_with fail
  refine hR.mono ?_
  rintro e w2 ⟨rfl, rfl⟩
  rw [c]
  have hc := hid c
  clear c
  have hrd := hid hrd0
  clear hrd0
  go_wp2_with (first | (at_make; refine wpList_make w2 w2 rfl (.tmp 14) (.tmp 14) 37 rfl w2.heap.size 24 .u32 4 u32s zs.length rfl rfl (by omega) (by unfold maxLen; omega) (Below.refl _ _) (Nat.le_refl _) ?_))
  intro w3 hrow hb3
  have hg3 := hrow.lt
  go_wp2_with fail
  refine (down_any _).mono ?_
  rintro e w4 ⟨rfl, rfl⟩
  have hrow4 := hrow.below ((Below.refl _ w3).alloc (Nat.le_refl _) (.cells #[.int .i64 32] 3))
  have hb4 := hb3.alloc (by omega) (.cells #[.int .i64 32] 3)
  have hlt4 := hid hg3
  generalize hB : w3.heap.size = B at *
  have hc4 : (w3.alloc (.cells #[.int .i64 32] 3)).cell? ⟨B, 0, none⟩ = some (.int .i64 32) := by rw [← hB]; simp
  have hf4 : (w3.alloc (.cells #[.int .i64 32] 3)).frozen? ⟨B, 0, none⟩ = false := by rw [← hB]; simp
  clear hB hb3 hrow
  generalize w3.alloc (.cells #[.int .i64 32] 3) = w4 at *
  replace hc4 := hid hc4
  replace hf4 := hid hf4
  go_wp2_with fail
  go_loopw [19] (fun i wr => ∃ (k : Nat), k ≤ zs.length ∧ i = .int .i64 k ∧ Below w2.heap.size w2 wr ∧ Row .u32 24 wr w2.heap.size (parts x zs k ++ List.replicate (zs.length - k) 0) ∧ wr.cell? ⟨B, 0, none⟩ = some (.int .i64 (leftAt zs k)) ∧ wr.frozen? ⟨B, 0, none⟩ = false) (fun i _ => zs.length - (intOf i).toNat)
  case atStart => exact ⟨0, by omega, rfl, hb4, hrow4, by rw [hc4.out]; rfl, hf4.out⟩
  case round =>
    obtain ⟨k, hk, rfl, hbr, hrowr, hcr, hfr⟩ := hrel
    have hrdr := hrd.out.below hbr
    by_cases hlt : (k : Int) < zs.length
    · have hlt2 : k < zs.length := by omega
      obtain ⟨b, off, rfl, hc⟩ := hrdr k hlt2
      have hbd := left_bd zs hP.out k hlt2
      have hset := hid (parts_set x zs k (zs.length - (k + 1)))
      have hpa := hid (show partAt x zs k = ((getS x (leftAt zs (k + 1)) (zs.getD k 0) : Nat) : Int) from rfl)
      have hrep : zs.length - k = zs.length - (k + 1) + 1 := by omega
      rw [hrep] at hrowr
      have hlen5 : (parts x zs k ++ List.replicate (zs.length - (k + 1) + 1) 0).length = zs.length := by rw [List.length_append, parts_len, List.length_replicate]; omega
      clear hrep
      obtain ⟨z, hz0⟩ : ∃ z, zs.getD k 0 = z := ⟨_, rfl⟩
      obtain ⟨L, hL0⟩ : ∃ L, leftAt zs k = L := ⟨_, rfl⟩
      obtain ⟨M, hM0⟩ : ∃ M, leftAt zs (k + 1) = M := ⟨_, rfl⟩
      rw [hz0, hM0] at hpa
      rw [hz0] at hc
      rw [hL0] at hcr
      rw [hz0, hL0, hM0] at hbd
      have hMM := hid hM0
      clear hz0 hL0 hM0 hrdr
      obtain rfl : L - z = M := by omega
      have hgB : w2.heap.size ≠ B := by have := hlt4.out; omega
      have hrow5 := ((hrowr.other (p := ⟨B, 0, none⟩) hgB (.int .i64 (L - z))))
      have hkl : k < (parts x zs k ++ List.replicate (zs.length - (k + 1) + 1) 0).length := by omega
      have hcf := hrow5.free k
      have hcc := hrow5.cellAt k hkl
      have hwr := hbr.setCell (p := ⟨B, 0, none⟩) (by show _ ≤ B; have := hlt4.out; omega) (.int .i64 (L - z))
      have hB1 : (wr.setCell ⟨B, 0, none⟩ (.int .i64 (L - z))).cell? ⟨B, 0, none⟩ = some (.int .i64 (L - z)) := by rw [World.cell?_setCell_same _ _ _ hcr]
      have hB2 : (wr.setCell ⟨B, 0, none⟩ (.int .i64 (L - z))).frozen? ⟨B, 0, none⟩ = false := by rw [World.frozen?_setCell]; exact hfr
      have hd1 := hid (down1_any z L B wr hcr hfr (by omega) (by omega) (by omega))
      generalize wr.setCell ⟨B, 0, none⟩ (.int .i64 (L - z)) = w5 at *
      clear hcr hfr hrowr
      go_wp2_with fail
      refine hd1.out.mono ?_
      rintro e w6 ⟨rfl, rfl⟩
      go_wp2_with fail
      refine (get_any x _ _ _ hx (by omega) (by omega) (by omega) (by omega)).mono ?_
      rintro e w7 ⟨rfl, m, rfl⟩
      rw [← hpa]
      have hkl2 : (k : Int) < zs.length := hlt
      go_wp2_with fail
      go_roundw
      case rel => 
        have hr9 := (hrow5.drewN m).set k (partAt x zs k)
        rw [hset.out] at hr9
        refine ⟨k + 1, by omega, by simp, ?_, ?_, ?_, ?_⟩
        · exact (bdrewN hwr m).setCell (Nat.le_refl _) _
        · exact hr9
        · rw [World.cell?_setCell_other _ _ _ _ (fun h => hgB (congrArg Addr.block h))]
          rw [hMM.out]
          exact hB1
        · rw [World.frozen?_setCell]
          exact hB2
      case measure => simp [intOf]; omega
    · go_wp2_with fail
      go_ret2
      obtain rfl : k = zs.length := by omega
      rw [Nat.sub_self, List.replicate_zero, List.append_nil] at hrowr
      have := hrowr.sl (by rw [parts_len]; unfold maxLen; omega)
      rw [parts_len] at this
      exact ⟨_, _, _, by rw [hc.out]; rfl, by rw [e.out]; exact this, hbr⟩

end Go.Proofs.Ytnabfimammojhaa
