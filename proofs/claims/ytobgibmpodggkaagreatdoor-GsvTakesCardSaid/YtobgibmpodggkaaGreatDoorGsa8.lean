/- Rows whose slices lie below N: One, Digit. -/
import Derived.Test.YtobgibmpodggkaaGreatDoorRowN
import Derived.Test.YtobgibmpodggkaaGreatDoorGga2
import Derived.Test.YtobgibmpodggkaaGreatDoorMsg
import Derived.Laws.Tables
import Derived.Deep.DeepCutAuto
namespace Go.Proofs.YtobgibmpodggkaaGreatDoor
open Go.ChangeShapes Go.WideShapes Go.ChangeAt Go.RowKit
set_option linter.unusedVariables false
set_option linter.unusedSimpArgs false

theorem RowRN.offG {N : Nat} {w w' : World} {B p : Nat} {e : Int} {L : List ByteArray} {c : Array Value} {T : TypeId} (h : RowRN N w B e L) (k : Only p w w') (hne : p ≠ B) (hp : w.heap[p]? = some (.cells c T (0, 0))) (hns : ∀ (j : Nat) (s : ByteArray), c[j]? ≠ some (.string s)) : RowRN N w' B e L := by
  obtain ⟨F, a, cap, i, h1, h2, h3, h4, h5, h6⟩ := h
  exact ⟨F, a, cap, i, h1, h2, h3, (k.block B hne.symm).trans h4, els_offG h5 hp hns k, h6⟩
theorem RowRN.grown {N : Nat} {w w' : World} {B : Nat} {e : Int} {L : List ByteArray} {row : Option Nat} (h : RowRN N w B e L) (hg : w.grownBy w' row) (hB : some B ≠ row) (hr : ∀ r, row = some r → N ≤ r) : RowRN N w' B e L := by
  obtain ⟨F, a, cap, i, h1, h2, h3, h4, h5, h6⟩ := h
  refine ⟨F, a, cap, i, h1, h2, h3, held_grown h4 hg hB, ⟨h5.1, h5.2.1, h5.2.2.1, h5.2.2.2.1, fun i x hx => ?_⟩, h6⟩
  obtain ⟨g1, b, off, e, hc⟩ := h5.2.2.2.2 i x hx
  have h0 := (List.getElem?_eq_some_iff.1 hx).1
  rw [strV23_len] at h0
  have g2 := h6 _ e (by omega)
  refine ⟨g1, b, off, e, fun j v hj => (World.cell?_of_block (w := w) (a := ⟨b, off + i * 1 + j, none⟩) (hg.block b (World.block_lt_of_cell? w _ (hc j v hj)) (fun e2 => ?_))).trans (hc j v hj)⟩
  have := hr _ e2.symm
  dsimp only at g2
  omega
theorem rtextCN (N B : Nat) (e : Int) (s : ByteArray) (R : List ByteArray) (w : World) (hP : RowRN N w B e (s :: R)) : Calls Tryz.prog 42 #[.pointer (some ⟨B, 0, none⟩)] w fun r w' => r = .returned (.string s) ∧ RowRN N w' B e R ∧ Eff B w w' := rtaketextN_any N B e (s :: R) w hP
set_option maxRecDepth 100000 in
set_option maxHeartbeats 4000000 in
theorem rdigitN_any (N B : Nat) (e : Int) (s : ByteArray) (R : List ByteArray) (lo hi : Int) (w : World) (hP : RowRN N w B e (s :: R)) (hl : (s :: R).length ≤ 1000) : Calls Tryz.prog 25 #[.pointer (some ⟨B, 0, none⟩), .int .i64 lo, .int .i64 hi] w fun r w' => r = .returned (.int .i64 (dgS s lo hi).1) ∧ RowRN N w' B (kp e (dgS s lo hi).2) R ∧ Eff B w w' := by
  have k0 : kp e 0 = e := by unfold kp; split <;> omega
  have kx := hid (fun U h => rtextCN N B e s R U h)
  have kf := hid (fun U x h => rfirstRN_any N B e x R U h)
  clear hl
  by_cases c1 : s.size = 1
  case neg =>
    have hd : dgS s lo hi = (0, 3) := by unfold dgS; rw [if_neg (by omega)]
    rw [hd]
    dsimp only
    clear hd
    replace k0 := hid k0
    have b1 : ((s.size : Int) != 1) = true := by simp; omega
    have b2 : ((s.size : Int) == 1) = false := by simp; omega
    have hlt := hP.lt
    replace hP := hid hP
    have hef := hid (eff_refl24 B w)
    go_enter Tryz.func25, Tryz.ntmps25
    go_wp2_with fail
    refine (kx.out _ hP.out).mono ?_
    rintro r V1 ⟨rfl, hP2, hf2⟩
    replace hP := hid hP2
    clear hP2
    replace hef := hid (eff_trans24 hef.out hf2)
    clear hf2
    go_wp2_with fail
    refine (kf.out _ 3 hP.out).mono ?_
    rintro r V2 ⟨rfl, hP2, hf2⟩
    replace hP := hid hP2
    clear hP2
    replace hef := hid (eff_trans24 hef.out hf2)
    clear hf2
    go_wp2_with fail
    go_ret
    exact ⟨rfl, hP.out, hef.out⟩
  obtain ⟨c, hc⟩ : ∃ c, (sb s).getD 0 0 = c := ⟨_, rfl⟩
  have hix := fun W => tidx (P := Tryz.prog) 9 Tryz.underlying9 s 0 c (by omega) hc .i64 0 rfl W
  have hcb : c ≤ 255 := by rw [← hc, List.getD_eq_getElem?_getD, List.getElem?_eq_getElem (show 0 < (sb s).length by rw [sb_len]; omega)]; have := sb_lt s _ (List.getElem_mem (show 0 < (sb s).length by rw [sb_len]; omega)); simp only [Option.getD_some]; omega
  have b1 : ((s.size : Int) != 1) = false := by simp; omega
  have b2 : ((s.size : Int) == 1) = true := by simp; omega
  by_cases c2 : c < 48
  case pos =>
    have hd : dgS s lo hi = (0, 3) := by unfold dgS; rw [if_neg (by omega)]
    rw [hd]
    dsimp only
    clear hd
    replace k0 := hid k0
    have b3 : decide ((c : Int) < 48) = true := by simp; omega
    clear hc c1
    have hlt := hP.lt
    replace hP := hid hP
    have hef := hid (eff_refl24 B w)
    go_enter Tryz.func25, Tryz.ntmps25
    go_wp2_with fail
    refine (kx.out _ hP.out).mono ?_
    rintro r V1 ⟨rfl, hP2, hf2⟩
    replace hP := hid hP2
    clear hP2
    replace hef := hid (eff_trans24 hef.out hf2)
    clear hf2
    go_wp2_with fail
    refine (kf.out _ 3 hP.out).mono ?_
    rintro r V2 ⟨rfl, hP2, hf2⟩
    replace hP := hid hP2
    clear hP2
    replace hef := hid (eff_trans24 hef.out hf2)
    clear hf2
    go_wp2_with fail
    go_ret
    exact ⟨rfl, hP.out, hef.out⟩
  have b3 : decide ((c : Int) < 48) = false := by simp; omega
  by_cases c3 : 57 < c
  case pos =>
    have hd : dgS s lo hi = (0, 3) := by unfold dgS; rw [if_neg (by omega)]
    rw [hd]
    dsimp only
    clear hd
    replace k0 := hid k0
    have b4 : decide ((57 : Int) < (c : Int)) = true := by simp; omega
    clear hc c1
    have hlt := hP.lt
    replace hP := hid hP
    have hef := hid (eff_refl24 B w)
    go_enter Tryz.func25, Tryz.ntmps25
    go_wp2_with fail
    refine (kx.out _ hP.out).mono ?_
    rintro r V1 ⟨rfl, hP2, hf2⟩
    replace hP := hid hP2
    clear hP2
    replace hef := hid (eff_trans24 hef.out hf2)
    clear hf2
    go_wp2_with fail
    refine (kf.out _ 3 hP.out).mono ?_
    rintro r V2 ⟨rfl, hP2, hf2⟩
    replace hP := hid hP2
    clear hP2
    replace hef := hid (eff_trans24 hef.out hf2)
    clear hf2
    go_wp2_with fail
    go_ret
    exact ⟨rfl, hP.out, hef.out⟩
  have b4 : decide ((57 : Int) < (c : Int)) = false := by simp; omega
  have e1 : ((c : Int) - 48) % 256 = (c : Int) - 48 := by omega
  have e2 : IntKind.i64.wrap ((c : Int) - 48) = (c : Int) - 48 := by simp [IntKind.wrap, IntKind.bits, IntKind.signed]; omega
  by_cases c4 : (c : Int) - 48 < lo
  case pos =>
    have hd : dgS s lo hi = ((c : Int) - 48, 5) := by unfold dgS; rw [if_pos (by omega), hc, if_pos (by omega)]
    rw [hd]
    dsimp only
    clear hd
    replace k0 := hid k0
    have b5 : decide ((c : Int) - 48 < lo) = true := by simpa using c4
    clear hc c1 c2 c3 c4
    have hlt := hP.lt
    replace hP := hid hP
    have hef := hid (eff_refl24 B w)
    go_enter Tryz.func25, Tryz.ntmps25
    go_wp2_with fail
    refine (kx.out _ hP.out).mono ?_
    rintro r V1 ⟨rfl, hP2, hf2⟩
    replace hP := hid hP2
    clear hP2
    replace hef := hid (eff_trans24 hef.out hf2)
    clear hf2
    go_wp2_with fail
    refine (kf.out _ 5 hP.out).mono ?_
    rintro r V2 ⟨rfl, hP2, hf2⟩
    replace hP := hid hP2
    clear hP2
    replace hef := hid (eff_trans24 hef.out hf2)
    clear hf2
    go_wp2_with fail
    go_ret
    exact ⟨rfl, hP.out, hef.out⟩
  have b5 : decide ((c : Int) - 48 < lo) = false := by simpa using c4
  by_cases c5 : hi < (c : Int) - 48
  case pos =>
    have hd : dgS s lo hi = ((c : Int) - 48, 5) := by unfold dgS; rw [if_pos (by omega), hc, if_pos (by omega)]
    rw [hd]
    dsimp only
    clear hd
    replace k0 := hid k0
    have b6 : decide (hi < (c : Int) - 48) = true := by simpa using c5
    clear hc c1 c2 c3 c4 c5
    have hlt := hP.lt
    replace hP := hid hP
    have hef := hid (eff_refl24 B w)
    go_enter Tryz.func25, Tryz.ntmps25
    go_wp2_with fail
    refine (kx.out _ hP.out).mono ?_
    rintro r V1 ⟨rfl, hP2, hf2⟩
    replace hP := hid hP2
    clear hP2
    replace hef := hid (eff_trans24 hef.out hf2)
    clear hf2
    go_wp2_with fail
    refine (kf.out _ 5 hP.out).mono ?_
    rintro r V2 ⟨rfl, hP2, hf2⟩
    replace hP := hid hP2
    clear hP2
    replace hef := hid (eff_trans24 hef.out hf2)
    clear hf2
    go_wp2_with fail
    go_ret
    exact ⟨rfl, hP.out, hef.out⟩
  have hd : dgS s lo hi = ((c : Int) - 48, 0) := by unfold dgS; rw [if_pos (by omega), hc, if_neg (by omega)]
  rw [hd]
  dsimp only
  clear hd
  rw [k0]
  replace k0 := hid k0
  have b6 : decide (hi < (c : Int) - 48) = false := by simpa using c5
  clear hc c1 c2 c3 c4 c5
  have hlt := hP.lt
  replace hP := hid hP
  have hef := hid (eff_refl24 B w)
  go_enter Tryz.func25, Tryz.ntmps25
  go_wp2_with fail
  refine (kx.out _ hP.out).mono ?_
  rintro r V1 ⟨rfl, hP2, hf2⟩
  replace hP := hid hP2
  clear hP2
  replace hef := hid (eff_trans24 hef.out hf2)
  clear hf2
  go_wp2_with fail
  go_ret
  exact ⟨rfl, hP.out, hef.out⟩

end Go.Proofs.YtobgibmpodggkaaGreatDoor
