/- Package bits and its reference: Join. -/
import Derived.Test.YtnabfimammojhaaBits6
namespace Go.Proofs.Ytnabfimammojhaa
open Go.ChangeShapes Go.WideShapes Go.ChangeAt Go.RowKit
set_option linter.unusedVariables false

/-- The word of the first k parts. -/
def joinR (zs ys : List Int) : Nat → Nat
  | 0 => 0
  | k + 1 => joinR zs ys k * 2 ^ (zs.getD k 0).toNat + (ys.getD k 0).toNat
def fitsJ (zs ys : List Int) (k : Nat) : Prop := ∀ i, i < k → (ys.getD i 0).toNat < 2 ^ (zs.getD i 0).toNat
instance (zs ys : List Int) (k : Nat) : Decidable (fitsJ zs ys k) := by unfold fitsJ; infer_instance
def joinP (zs ys : List Int) : Prop := rightP zs ∧ ys.length = zs.length ∧ fitsJ zs ys zs.length
instance (zs ys : List Int) : Decidable (joinP zs ys) := by unfold joinP; infer_instance
def joinOk (zs ys : List Int) : Bool := decide (joinP zs ys)
def joinV (zs ys : List Int) : Nat := if joinP zs ys then joinR zs ys zs.length else 0
theorem join_no {zs ys : List Int} (h : ¬ joinP zs ys) : joinV zs ys = 0 ∧ joinOk zs ys = false := ⟨if_neg h, decide_eq_false h⟩
theorem join_yes {zs ys : List Int} (h : joinP zs ys) : joinV zs ys = joinR zs ys zs.length ∧ joinOk zs ys = true := ⟨if_pos h, decide_eq_true h⟩

theorem put_join (R a n v : Nat) : R * 2 ^ (a + n) / 2 ^ (a + n) * 2 ^ (a + n) + v * 2 ^ a + R * 2 ^ (a + n) % 2 ^ a = (R * 2 ^ n + v) * 2 ^ a := by
  rw [Nat.mul_div_cancel _ (Nat.two_pow_pos _), show R * 2 ^ (a + n) % 2 ^ a = 0 from by rw [Nat.pow_add, Nat.mul_comm (2 ^ a), ← Nat.mul_assoc]; exact Nat.mul_mod_left _ _, Nat.add_mul, Nat.pow_add, Nat.mul_comm (2 ^ a), ← Nat.mul_assoc]; rfl

theorem joinR_lt {zs ys : List Int} (hr : rightP zs) : ∀ k, k ≤ zs.length → fitsJ zs ys k → joinR zs ys k * 2 ^ (leftAt zs k).toNat < 2 ^ 32
  | 0, _, _ => by simp [joinR]
  | k + 1, hk, h => by
    have ih := joinR_lt hr k (by omega) (fun i hi => h i (by omega))
    have hv := h k (by omega)
    have hb := left_bd zs hr k (by omega)
    obtain ⟨a, ha⟩ := Int.eq_ofNat_of_zero_le hb.1
    obtain ⟨n, hn⟩ := Int.eq_ofNat_of_zero_le (show 0 ≤ zs.getD k 0 by omega)
    have hL : leftAt zs k = ((a + n : Nat) : Int) := by omega
    simp only [joinR]
    rw [hn] at hv ⊢
    rw [hL] at ih
    rw [ha]
    simp only [Int.toNat_natCast] at *
    have hlt := put_lt (joinR zs ys k * 2 ^ (a + n)) a n (ys.getD k 0).toNat ih (by omega) hv
    rw [put_join] at hlt
    exact hlt

def hidNat (n : Nat) : Prop := True

set_option maxHeartbeats 2000000 in
theorem join_any (ad bd : Option Addr) (len cap lb cb : Nat) (zs ys : List Int) (w : World) (hsl : Sl .i64 w ad len cap zs) (hwf : ∀ n ∈ zs, (Lit.int .i64 n).wf = true) (hlen : len ≤ 100000) (hys : Sl .u32 w bd lb cb ys) (hyf : ∀ n ∈ ys, (Lit.int .u32 n).wf = true) (hlb : lb ≤ 100000) :
    Calls Try.prog 19 #[.slice ad len cap, .slice bd lb cb] w fun e w' => e = .returned (.tuple #[.int .u32 (joinV zs ys), .bool (joinOk zs ys)]) ∧ Below w.heap.size w w' := by
  have hR := right_any ad len cap zs w hsl hwf hlen
  obtain ⟨hl0, hlc, hcm, hn, hrd0⟩ := hsl
  obtain ⟨hl1, hlc1, hcm1, hn1, hrd1⟩ := hys
  by_cases c : rightB zs = true
  case neg =>
    have c := Bool.not_eq_true _ ▸ c
    have e := hid (join_no (zs := zs) (ys := ys) (fun h => by rw [show rightB zs = true from decide_eq_true h.1] at c; cases c))
    have hc := hid c
    clear c
    subst hl0 hl1
    go_enter Try.func19, Try.ntmps19
    go_wp2_with fail
    refine hR.mono ?_
    rintro e w2 ⟨rfl, rfl⟩
    rw [hc.out]
    go_wp2_with fail
    go_ret2
    rw [e.out.1, e.out.2]
    exact ⟨rfl, Below.refl _ _⟩
  by_cases cl : ys.length = zs.length
  case neg =>
    have e := hid (join_no (zs := zs) (ys := ys) (fun h => cl h.2.1))
    have cl2 : ¬ ((ys.length : Int) = zs.length) := by omega
    have hc := hid c
    clear c
    subst hl0 hl1
    go_enter Try.func19, Try.ntmps19
    go_wp2_with fail
    refine hR.mono ?_
    rintro e w2 ⟨rfl, rfl⟩
    rw [hc.out]
    go_wp2_with fail
    go_ret2
    rw [e.out.1, e.out.2]
    exact ⟨rfl, Below.refl _ _⟩
  have hP : rightP zs := of_decide_eq_true c
  have hl32 := right_len hP
  replace hP := hid hP
  have hrd := hid hrd0
  have hrdy := hid hrd1
  have hyn := hid hyf
  clear hrd0 hrd1 hyf
  subst hl0 hl1
  have hleq := hid cl
  have hlq : (ys.length : Int) = zs.length := by omega
  go_enter Try.func19, Try.ntmps19
  go_wp2_with fail
  refine hR.mono ?_
  rintro e w2 ⟨rfl, rfl⟩
  rw [c]
  have hc := hid c
  clear c
  go_wp2_with fail
  refine (down_any _).mono ?_
  rintro e w4 ⟨rfl, rfl⟩
  clear hlq
  have hlq : ys.length = zs.length := cl
  clear cl
  have hb4 : Below w2.heap.size w2 (w2.alloc (.cells #[.int .i64 32] 3)) := (Below.refl _ w2).alloc (Nat.le_refl _) (.cells #[.int .i64 32] 3)
  have hc4 : (w2.alloc (.cells #[.int .i64 32] 3)).cell? ⟨w2.heap.size, 0, none⟩ = some (.int .i64 32) := by simp
  have hf4 : (w2.alloc (.cells #[.int .i64 32] 3)).frozen? ⟨w2.heap.size, 0, none⟩ = false := by simp
  generalize w2.alloc (.cells #[.int .i64 32] 3) = w4 at *
  replace hc4 := hid hc4
  replace hf4 := hid hf4
  replace hlq := hid hlq
  go_wp2_with fail
  go_loopw [6, 25] (fun x i wr => ∃ (k : Nat), k ≤ zs.length ∧ i = .int .i64 k ∧ Below w2.heap.size w2 wr ∧ x = .int .u32 ((joinR zs ys k * 2 ^ (leftAt zs k).toNat : Nat) : Int) ∧ fitsJ zs ys k ∧ wr.cell? ⟨w2.heap.size, 0, none⟩ = some (.int .i64 (leftAt zs k)) ∧ wr.frozen? ⟨w2.heap.size, 0, none⟩ = false) (fun _ i _ => zs.length - (intOf i).toNat)
  case atStart => exact ⟨0, by omega, rfl, hb4, by simp [joinR], fun i hi => by omega, by rw [hc4.out]; rfl, hf4.out⟩
  case round =>
    obtain ⟨k, hk, rfl, hbr, rfl, hfit, hcr, hfr⟩ := hrel
    have hX := joinR_lt (ys := ys) hP.out k hk hfit
    have hrdr := hrd.out.below hbr
    have hrdyr := hrdy.out.below hbr
    have h32 : (2 : Nat) ^ 32 = 4294967296 := by decide
    rw [h32] at hX
    clear h32
    by_cases hlt : (k : Int) < zs.length
    · have hlt2 : k < zs.length := by omega
      have hlty : (k : Int) < ys.length := by have := hlq.out; omega
      have hlty2 : k < ys.length := by omega
      obtain ⟨b, off, rfl, hcz⟩ := hrdr k hlt2
      obtain ⟨b2, off2, rfl, hc⟩ := hrdyr k hlty2
      have hbl : b2 < w2.heap.size := by
        obtain ⟨b3, off3, e3, h3⟩ := hrdy.out k hlty2
        cases e3
        exact World.block_lt_of_cell? w2 _ h3
      have hbd := left_bd zs hP.out k hlt2
      have hyb := bounds_u32 (hyn.out (ys.getD k 0) (by simp [hlty2]))
      obtain ⟨yn, hy0⟩ := Int.eq_ofNat_of_zero_le hyb.1
      obtain ⟨z, hz0⟩ := Int.eq_ofNat_of_zero_le (show 0 ≤ zs.getD k 0 by omega)
      obtain ⟨M, hM0⟩ := Int.eq_ofNat_of_zero_le hbd.1
      have hL0 : leftAt zs k = ((M + z : Nat) : Int) := by omega
      have hJ : joinR zs ys (k + 1) = joinR zs ys k * 2 ^ z + yn := by simp only [joinR]; rw [hy0, hz0]; rfl
      have hFn : (∀ i, i < k + 1 → (ys.getD i 0).toNat < 2 ^ (zs.getD i 0).toNat) ↔ yn < 2 ^ z := by
        constructor
        · intro h; have := h k (by omega); rw [hy0, hz0] at this; exact this
        · intro h i hi
          by_cases e : i = k
          · subst e; rw [hy0, hz0]; exact h
          · exact hfit i (by omega)
      rw [hL0] at hcr hX ⊢
      simp only [Int.toNat_natCast] at *
      rw [hz0] at hcz hbd
      rw [hy0] at hc hyb
      rw [hM0, hL0] at hbd
      have hput : plP (M : Int) (z : Int) = true := by unfold plP; simp; omega
      have hpv0 : putP (M : Int) (z : Int) yn ↔ yn < 2 ^ z := ⟨fun h => h.2, fun h => ⟨hput, h⟩⟩
      have hMM := hid hM0
      clear hz0 hy0 hL0 hM0 hrdr hrdyr hput
      replace hfit := hid hfit
      have hpj := put_join (joinR zs ys k) M z yn
      obtain ⟨X, hX0⟩ : ∃ X, joinR zs ys k * 2 ^ (M + z) = X := ⟨_, rfl⟩
      rw [hX0] at hX hpj ⊢
      clear hX0
      have hd1 := hid (down1_any (z : Int) ((M + z : Nat) : Int) w2.heap.size wr.drew hcr hfr (by omega) (by omega) (by omega))
      have hsub : ((M + z : Nat) : Int) - (z : Int) = (M : Int) := by omega
      rw [hsub] at hd1
      have haf : Aft w2.heap.size wr.drew (wr.drew.setCell ⟨w2.heap.size, 0, none⟩ (.int .i64 (M : Int))) := Below.setCell (p := ⟨w2.heap.size, 0, none⟩) (Below.refl w2.heap.size wr.drew) (Nat.le_refl _) _
      have hbr5 : Below w2.heap.size w2 (wr.drew.setCell ⟨w2.heap.size, 0, none⟩ (.int .i64 (M : Int))) := hbr.drew.setCell (Nat.le_refl _) _
      have hc5 : (wr.drew.setCell ⟨w2.heap.size, 0, none⟩ (.int .i64 (M : Int))).cell? ⟨w2.heap.size, 0, none⟩ = some (.int .i64 (M : Int)) := World.cell?_setCell_same _ _ _ (show wr.drew.cell? ⟨w2.heap.size, 0, none⟩ = some (.int .i64 ((M + z : Nat) : Int)) from hcr)
      have hf5 : (wr.drew.setCell ⟨w2.heap.size, 0, none⟩ (.int .i64 (M : Int))).frozen? ⟨w2.heap.size, 0, none⟩ = false := by rw [World.frozen?_setCell]; exact hfr
      replace hc5 := hid hc5
      replace hf5 := hid hf5
      replace haf := hid haf
      generalize wr.drew.setCell ⟨w2.heap.size, 0, none⟩ (.int .i64 (M : Int)) = w5 at *
      by_cases cf : yn < 2 ^ z
      · have hpv := (put_yes (x := X) (hpv0.2 cf))
        rw [hpj, ← hJ] at hpv
        have hpo := hid hpv.2
        replace hpv := hid hpv.1
        replace hJ := hid hJ
        have hfn := hid (hFn.2 cf)
        clear hFn hpv0 hpj cf hcr hfr
        go_wp2_with fail
        refine wp_region_B (B := w2.heap.size) (by kernel_rfl) ?_
        refine wpAnyB_take 0 rfl (by kernel_rfl) (by kernel_rfl) (by kernel_rfl) (fun _ _ _ _ h => h) ?_
        apply Exists.intro
        refine ⟨Or.inl ⟨by rfl, fun w' hb => ?_⟩, ?_⟩
        · (go_simp; try with_reducible rfl)
        apply Exists.intro
        refine ⟨?_, ?_⟩
        · (go_simp; try rfl)
        refine wpAnyB_take 1 rfl (by kernel_rfl) (by kernel_rfl) (by kernel_rfl) (fun _ _ _ _ h => h) ?_
        apply Exists.intro
        refine ⟨Or.inl ⟨by rfl, fun w' hb => ?_⟩, ?_⟩
        · (go_simp; try with_reducible rfl)
        apply Exists.intro
        refine ⟨?_, ?_⟩
        · (go_simp; try rfl)
        refine wpAnyB_take 2 rfl (by kernel_rfl) (by kernel_rfl) (by kernel_rfl) (fun _ _ _ _ h => h) ?_
        apply Exists.intro
        refine ⟨Or.inl ⟨by rfl, fun w' hb => ?_⟩, ?_⟩
        · (go_simp; try with_reducible rfl)
        apply Exists.intro
        refine ⟨?_, ?_⟩
        · (go_simp; try rfl)
        refine wpAnyB_take 4 rfl (by kernel_rfl) (by kernel_rfl) (by kernel_rfl) (fun _ _ _ _ h => h) ?_
        apply Exists.intro
        refine ⟨Or.inl ⟨by rfl, fun w' hb => ?_⟩, ?_⟩
        · (go_simp; try with_reducible rfl)
        apply Exists.intro
        refine ⟨?_, ?_⟩
        · (go_simp; try rfl)
        refine wpAnyB_take 5 rfl (by kernel_rfl) (by kernel_rfl) (by kernel_rfl) (fun _ _ _ _ h => h) ?_
        apply Exists.intro
        refine ⟨Or.inl ⟨by rfl, fun w' hb => ?_⟩, ?_⟩
        · (go_simp; try with_reducible rfl)
        apply Exists.intro
        refine ⟨?_, ?_⟩
        · (go_simp; try rfl)
        refine wpAnyB_take 6 rfl (by kernel_rfl) (by kernel_rfl) (by kernel_rfl) (fun _ _ _ _ h => h) ?_
        apply Exists.intro
        refine ⟨Or.inl ⟨by rfl, fun w' hb => ?_⟩, ?_⟩
        · (go_simp; try with_reducible rfl)
        apply Exists.intro
        refine ⟨?_, ?_⟩
        · (go_simp; try rfl)
        refine wpAnyB_take 7 rfl (by kernel_rfl) (by kernel_rfl) (by kernel_rfl) (fun _ _ _ _ h => h) ?_
        apply Exists.intro
        refine ⟨Or.inl ⟨by rfl, fun w' hb => ?_⟩, ?_⟩
        · (go_simp; try with_reducible rfl)
        apply Exists.intro
        refine ⟨?_, ?_⟩
        · (go_simp; try rfl)
        refine wpAnyB_take 8 rfl (by kernel_rfl) (by kernel_rfl) (by kernel_rfl) (fun _ _ _ _ h => h) ?_
        apply Exists.intro
        refine ⟨Or.inl ⟨by rfl, fun w' hb => ?_⟩, ?_⟩
        · have hc' := Aft.cellB hb hbl hc
          go_simp
          try with_reducible rfl
        apply Exists.intro
        refine ⟨?_, ?_⟩
        · (go_simp; try rfl)
        refine wpAnyB_only 3 rfl (by kernel_rfl) (by rfl) (fun K hK => ?_)
        go_simp
        refine hd1.out.mono ?_
        rintro e w6 ⟨rfl, rfl⟩
        refine hK _ _ ?_
        refine ⟨haf, ?_⟩
        refine wpAnyB_only 9 rfl (by kernel_rfl) (by rfl) (fun K hK => ?_)
        go_simp
        refine (put_any X _ _ yn _ hX (by omega) (by omega) (by omega) (by omega) (by omega)).mono ?_
        rintro e w7 ⟨rfl, m7, rfl⟩
        rw [hpv.out, hpo.out]
        go_wp2_with fail
        refine ⟨bdrewN (Below.refl _ _) _, ?_⟩
        refine wpAnyB_take 10 rfl (by kernel_rfl) (by kernel_rfl) (by kernel_rfl) (fun _ _ _ _ h => h) ?_
        apply Exists.intro
        refine ⟨Or.inl ⟨by rfl, fun w' hb => ?_⟩, ?_⟩
        · (go_simp; try with_reducible rfl)
        apply Exists.intro
        refine ⟨?_, ?_⟩
        · (go_simp; try rfl)
        refine wpAnyB_take 11 rfl (by kernel_rfl) (by kernel_rfl) (by kernel_rfl) (fun _ _ _ _ h => h) ?_
        apply Exists.intro
        refine ⟨Or.inl ⟨by rfl, fun w' hb => ?_⟩, ?_⟩
        · (go_simp; try with_reducible rfl)
        apply Exists.intro
        refine ⟨?_, ?_⟩
        · (go_simp; try rfl)
        refine wpAnyB_take 12 rfl (by kernel_rfl) (by kernel_rfl) (by kernel_rfl) (fun _ _ _ _ h => h) ?_
        apply Exists.intro
        refine ⟨Or.inl ⟨by rfl, fun w' hb => ?_⟩, ?_⟩
        · (go_simp; try with_reducible rfl)
        apply Exists.intro
        refine ⟨?_, ?_⟩
        · (go_simp; try rfl)
        refine wpAnyB_take 13 rfl (by kernel_rfl) (by kernel_rfl) (by kernel_rfl) (fun _ _ _ _ h => h) ?_
        apply Exists.intro
        refine ⟨Or.inl ⟨by rfl, fun w' hb => ?_⟩, ?_⟩
        · (go_simp; try with_reducible rfl)
        apply Exists.intro
        refine ⟨?_, ?_⟩
        · (go_simp; try rfl)
        refine wpAnyB_take 14 rfl (by kernel_rfl) (by kernel_rfl) (by kernel_rfl) (fun _ _ _ _ h => h) ?_
        apply Exists.intro
        refine ⟨Or.inl ⟨by rfl, fun w' hb => ?_⟩, ?_⟩
        · (go_simp; try with_reducible rfl)
        apply Exists.intro
        refine ⟨?_, ?_⟩
        · (go_simp; try rfl)
        refine wpAnyB_done (by kernel_rfl) ?_ _
        go_wp2_with fail
        go_roundw
        case rel => exact ⟨k + 1, by omega, by simp, bdrewN hbr5 _, by rw [hMM.out]; exact congrArg (fun n : Nat => Value.int .u32 (n : Int)) (by rw [hJ.out]; rfl), hfn.out, by rw [hMM.out]; exact hc5.out, hf5.out⟩
        case measure => simp [intOf]; omega
      · have hpv := (put_no (x := X) (fun h => cf (hpv0.1 h)))
        have hpo := hid hpv.2
        replace hpv := hid hpv.1
        have hfn := hid (join_no (zs := zs) (ys := ys) (fun h => cf (hFn.1 (fun i hi => h.2.2 i (by omega)))))
        clear hFn hpv0 hpj cf hcr hfr hJ
        go_wp2_with fail
        refine wp_region_B (B := w2.heap.size) (by kernel_rfl) ?_
        refine wpAnyB_take 0 rfl (by kernel_rfl) (by kernel_rfl) (by kernel_rfl) (fun _ _ _ _ h => h) ?_
        apply Exists.intro
        refine ⟨Or.inl ⟨by rfl, fun w' hb => ?_⟩, ?_⟩
        · (go_simp; try with_reducible rfl)
        apply Exists.intro
        refine ⟨?_, ?_⟩
        · (go_simp; try rfl)
        refine wpAnyB_take 1 rfl (by kernel_rfl) (by kernel_rfl) (by kernel_rfl) (fun _ _ _ _ h => h) ?_
        apply Exists.intro
        refine ⟨Or.inl ⟨by rfl, fun w' hb => ?_⟩, ?_⟩
        · (go_simp; try with_reducible rfl)
        apply Exists.intro
        refine ⟨?_, ?_⟩
        · (go_simp; try rfl)
        refine wpAnyB_take 2 rfl (by kernel_rfl) (by kernel_rfl) (by kernel_rfl) (fun _ _ _ _ h => h) ?_
        apply Exists.intro
        refine ⟨Or.inl ⟨by rfl, fun w' hb => ?_⟩, ?_⟩
        · (go_simp; try with_reducible rfl)
        apply Exists.intro
        refine ⟨?_, ?_⟩
        · (go_simp; try rfl)
        refine wpAnyB_take 4 rfl (by kernel_rfl) (by kernel_rfl) (by kernel_rfl) (fun _ _ _ _ h => h) ?_
        apply Exists.intro
        refine ⟨Or.inl ⟨by rfl, fun w' hb => ?_⟩, ?_⟩
        · (go_simp; try with_reducible rfl)
        apply Exists.intro
        refine ⟨?_, ?_⟩
        · (go_simp; try rfl)
        refine wpAnyB_take 5 rfl (by kernel_rfl) (by kernel_rfl) (by kernel_rfl) (fun _ _ _ _ h => h) ?_
        apply Exists.intro
        refine ⟨Or.inl ⟨by rfl, fun w' hb => ?_⟩, ?_⟩
        · (go_simp; try with_reducible rfl)
        apply Exists.intro
        refine ⟨?_, ?_⟩
        · (go_simp; try rfl)
        refine wpAnyB_take 6 rfl (by kernel_rfl) (by kernel_rfl) (by kernel_rfl) (fun _ _ _ _ h => h) ?_
        apply Exists.intro
        refine ⟨Or.inl ⟨by rfl, fun w' hb => ?_⟩, ?_⟩
        · (go_simp; try with_reducible rfl)
        apply Exists.intro
        refine ⟨?_, ?_⟩
        · (go_simp; try rfl)
        refine wpAnyB_take 7 rfl (by kernel_rfl) (by kernel_rfl) (by kernel_rfl) (fun _ _ _ _ h => h) ?_
        apply Exists.intro
        refine ⟨Or.inl ⟨by rfl, fun w' hb => ?_⟩, ?_⟩
        · (go_simp; try with_reducible rfl)
        apply Exists.intro
        refine ⟨?_, ?_⟩
        · (go_simp; try rfl)
        refine wpAnyB_take 8 rfl (by kernel_rfl) (by kernel_rfl) (by kernel_rfl) (fun _ _ _ _ h => h) ?_
        apply Exists.intro
        refine ⟨Or.inl ⟨by rfl, fun w' hb => ?_⟩, ?_⟩
        · have hc' := Aft.cellB hb hbl hc
          go_simp
          try with_reducible rfl
        apply Exists.intro
        refine ⟨?_, ?_⟩
        · (go_simp; try rfl)
        refine wpAnyB_only 3 rfl (by kernel_rfl) (by rfl) (fun K hK => ?_)
        go_simp
        refine hd1.out.mono ?_
        rintro e w6 ⟨rfl, rfl⟩
        refine hK _ _ ?_
        refine ⟨haf, ?_⟩
        refine wpAnyB_only 9 rfl (by kernel_rfl) (by rfl) (fun K hK => ?_)
        go_simp
        refine (put_any X _ _ yn _ hX (by omega) (by omega) (by omega) (by omega) (by omega)).mono ?_
        rintro e w7 ⟨rfl, m7, rfl⟩
        rw [hpv.out, hpo.out]
        go_wp2_with fail
        refine ⟨bdrewN (Below.refl _ _) _, ?_⟩
        refine wpAnyB_take 10 rfl (by kernel_rfl) (by kernel_rfl) (by kernel_rfl) (fun _ _ _ _ h => h) ?_
        apply Exists.intro
        refine ⟨Or.inl ⟨by rfl, fun w' hb => ?_⟩, ?_⟩
        · (go_simp; try with_reducible rfl)
        apply Exists.intro
        refine ⟨?_, ?_⟩
        · (go_simp; try rfl)
        refine wpAnyB_take 11 rfl (by kernel_rfl) (by kernel_rfl) (by kernel_rfl) (fun _ _ _ _ h => h) ?_
        apply Exists.intro
        refine ⟨Or.inl ⟨by rfl, fun w' hb => ?_⟩, ?_⟩
        · (go_simp; try with_reducible rfl)
        apply Exists.intro
        refine ⟨?_, ?_⟩
        · (go_simp; try rfl)
        refine wpAnyB_take 12 rfl (by kernel_rfl) (by kernel_rfl) (by kernel_rfl) (fun _ _ _ _ h => h) ?_
        apply Exists.intro
        refine ⟨Or.inl ⟨by rfl, fun w' hb => ?_⟩, ?_⟩
        · (go_simp; try with_reducible rfl)
        apply Exists.intro
        refine ⟨?_, ?_⟩
        · (go_simp; try rfl)
        refine wpAnyB_take 13 rfl (by kernel_rfl) (by kernel_rfl) (by kernel_rfl) (fun _ _ _ _ h => h) ?_
        apply Exists.intro
        refine ⟨Or.inl ⟨by rfl, fun w' hb => ?_⟩, ?_⟩
        · (go_simp; try with_reducible rfl)
        apply Exists.intro
        refine ⟨?_, ?_⟩
        · (go_simp; try rfl)
        refine wpAnyB_take 14 rfl (by kernel_rfl) (by kernel_rfl) (by kernel_rfl) (fun _ _ _ _ h => h) ?_
        apply Exists.intro
        refine ⟨Or.inl ⟨by rfl, fun w' hb => ?_⟩, ?_⟩
        · (go_simp; try with_reducible rfl)
        apply Exists.intro
        refine ⟨?_, ?_⟩
        · (go_simp; try rfl)
        refine wpAnyB_done (by kernel_rfl) ?_ _
        go_wp2_with fail
        go_ret2
        rw [hfn.out.1, hfn.out.2]
        exact ⟨rfl, bdrewN hbr5 _⟩
    · go_wp2_with fail
      go_ret2
      obtain rfl : k = zs.length := by omega
      have hJ := join_yes (zs := zs) (ys := ys) ⟨hP.out, hlq.out, hfit⟩
      have hL : leftAt zs zs.length = 0 := by unfold leftAt; rw [List.take_length, hP.out.2]; rfl
      rw [hJ.1, hJ.2, hL]
      exact ⟨ret_tup (by simp) rfl, hbr⟩

end Go.Proofs.Ytnabfimammojhaa
