/- Package gga: the small functions that read. -/
import Derived.Test.YtobgibmpodggkaaGreatDoorGga
import Derived.Test.YtobgibmpodggkaaGreatDoorClock7
import Derived.Test.YtobgibmpodggkaaGreatDoorClock11
import Derived.Deep.DeepCutAuto
namespace Go.Proofs.YtobgibmpodggkaaGreatDoor
open Go.ChangeShapes Go.WideShapes Go.ChangeAt Go.RowKit
set_option linter.unusedVariables false
set_option linter.unusedSimpArgs false

theorem els_offG {w w' : World} {p : Nat} {a : Option Addr} {len cap : Nat} {F : List ByteArray} {c : Array Value} {T : TypeId} (h : Els w 1 a len cap (strV23 F)) (hp : w.heap[p]? = some (.cells c T (0, 0))) (hns : ∀ (j : Nat) (s : ByteArray), c[j]? ≠ some (.string s)) (k : Only p w w') : Els w' 1 a len cap (strV23 F) := by
  refine ⟨h.1, h.2.1, h.2.2.1, h.2.2.2.1, fun i x hx => ?_⟩
  obtain ⟨h1, b, off, e, hc⟩ := h.2.2.2.2 i x hx
  refine ⟨h1, b, off, e, fun j u hj => ?_⟩
  have hb : b ≠ p := by
    intro e2
    subst e2
    have hc2 := hc j u hj
    rw [cell_of_row w b (off + i * 1 + j) _ T (0, 0) hp] at hc2
    obtain ⟨f, -, rfl⟩ : ∃ f, f ∈ F ∧ strC23 f = x := by
      have := List.mem_of_getElem? hx
      exact List.mem_map.1 this
    have hu : u = .string f := by
      match j, hj with
      | 0, hj => simpa [strC23] using hj.symm
      | j + 1, hj => simp [strC23] at hj
    subst hu
    exact hns _ _ hc2
  exact (World.cell?_of_block (w := w) (a := ⟨b, off + i * 1 + j, none⟩) (k.block b hb)).trans (hc j u hj)
theorem EyeIn.off {w w' : World} {B p : Nat} {e : Int} {L : List ByteArray} {c : Array Value} {T : TypeId} (h : EyeIn w B e L) (k : Only p w w') (hne : p ≠ B) (hp : w.heap[p]? = some (.cells c T (0, 0))) (hns : ∀ (j : Nat) (s : ByteArray), c[j]? ≠ some (.string s)) : EyeIn w' B e L := by
  obtain ⟨a, cap, h1, h2, h3⟩ := h
  exact ⟨a, cap, (k.block B hne.symm).trans h1, els_offG h2 hp hns k, h3⟩
theorem RowR.offG {w w' : World} {B p : Nat} {e : Int} {L : List ByteArray} {c : Array Value} {T : TypeId} (h : RowR w B e L) (k : Only p w w') (hne : p ≠ B) (hp : w.heap[p]? = some (.cells c T (0, 0))) (hns : ∀ (j : Nat) (s : ByteArray), c[j]? ≠ some (.string s)) : RowR w' B e L := by
  obtain ⟨F, a, cap, i, h1, h2, h3, h4, h5, h6⟩ := h
  exact ⟨F, a, cap, i, h1, h2, h3, (k.block B hne.symm).trans h4, els_offG h5 hp hns k, h6⟩
theorem seqC (u : ByteArray) (l : List UInt8) : (u.toList == l) = decide (u = ⟨l.toArray⟩) := by
  rw [ByteArray.toList_eq]
  by_cases h : u = ⟨l.toArray⟩
  · subst h; simp
  · rw [decide_eq_false h]
    refine beq_false_of_ne fun e => h ?_
    subst e
    rfl
theorem enumC (B : Nat) (e : Int) (s : ByteArray) (R : List ByteArray) (W M F lo hi : Int) {i : Bool} {n x : Int} (htd : takD s W M F lo hi = (i, n, x)) (w : World) (hP : EyeIn w B e (s :: R)) (hl : (s :: R).length ≤ 1000) (hs : ∀ t ∈ s :: R, t.size ≤ 1000) (hlb : (-9223372036854775808 ≤ lo ∧ lo ≤ 9223372036854775807) ∧ (-9223372036854775808 ≤ hi ∧ hi ≤ 9223372036854775807)) : Calls Tryz.prog 17 #[.pointer (some ⟨B, 0, none⟩), .agg #[.int .i64 W, .int .i64 M, .int .i64 F, .int .i64 lo, .int .i64 hi]] w fun r w' => r = .returned (.agg #[.bool i, .int .i64 n]) ∧ EyeIn w' B (kp e x) R ∧ Eff B w w' := by
  have h : nmS e (s :: R) W M F lo hi = ((i, n), kp e x, R) := by unfold nmS; dsimp only [txS]; rw [htd]
  have k := enum_any B e (s :: R) W M F lo hi w hP hl hs hlb
  rw [h] at k
  exact k
theorem rtakenumC (B : Nat) (e : Int) (s : ByteArray) (R : List ByteArray) (W M F lo hi : Int) {i : Bool} {n x : Int} (htd : takD s W M F lo hi = (i, n, x)) (w : World) (hP : RowR w B e (s :: R)) (hs : ∀ t ∈ s :: R, t.size ≤ 1000) (hlb : (-9223372036854775808 ≤ lo ∧ lo ≤ 9223372036854775807) ∧ (-9223372036854775808 ≤ hi ∧ hi ≤ 9223372036854775807)) : Calls Tryz.prog 26 #[.pointer (some ⟨B, 0, none⟩), .agg #[.int .i64 W, .int .i64 M, .int .i64 F, .int .i64 lo, .int .i64 hi]] w fun r w' => r = .returned (.agg #[.bool i, .int .i64 n]) ∧ RowR w' B (kp e x) R ∧ Eff B w w' := by
  have h : nmS e (s :: R) W M F lo hi = ((i, n), kp e x, R) := by unfold nmS; dsimp only [txS]; rw [htd]
  have k := rtakenum_any B e (s :: R) W M F lo hi w hP hs hlb
  rw [h] at k
  exact k
set_option maxRecDepth 100000 in
set_option maxHeartbeats 4000000 in
theorem rdigit_any (B : Nat) (e : Int) (s : ByteArray) (R : List ByteArray) (lo hi : Int) (w : World) (hP : RowR w B e (s :: R)) (hl : (s :: R).length ≤ 1000) : Calls Tryz.prog 25 #[.pointer (some ⟨B, 0, none⟩), .int .i64 lo, .int .i64 hi] w fun r w' => r = .returned (.int .i64 (dgS s lo hi).1) ∧ RowR w' B (kp e (dgS s lo hi).2) R ∧ Eff B w w' := by
  have k0 : kp e 0 = e := by unfold kp; split <;> omega
  have kx := hid (fun U h => rtextC B e s R U h)
  have kf := hid (fun U x h => rfirstR_any B e x R U h)
  clear hl
  by_cases c1 : s.size = 1
  case neg =>
    have hd : dgS s lo hi = (0, 3) := by unfold dgS; rw [if_neg (by omega)]
    rw [hd]
    dsimp only
    clear hd
    replace k0 := hid k0
    have b1 : ((s.size : Int) != 1) = true := by simp; omega
    have b2 : ((s.size : Int) == 1) = false := by simp; omega
    have hlt := hP.lt
    replace hP := hid hP
    have hef := hid (eff_refl24 B w)
    go_enter Tryz.func25, Tryz.ntmps25
    go_wp2_with fail
    refine (kx.out _ hP.out).mono ?_
    rintro r V1 ⟨rfl, hP2, hf2⟩
    replace hP := hid hP2
    clear hP2
    replace hef := hid (eff_trans24 hef.out hf2)
    clear hf2
    go_wp2_with fail
    refine (kf.out _ 3 hP.out).mono ?_
    rintro r V2 ⟨rfl, hP2, hf2⟩
    replace hP := hid hP2
    clear hP2
    replace hef := hid (eff_trans24 hef.out hf2)
    clear hf2
    go_wp2_with fail
    go_ret
    exact ⟨rfl, hP.out, hef.out⟩
  obtain ⟨c, hc⟩ : ∃ c, (sb s).getD 0 0 = c := ⟨_, rfl⟩
  have hix := fun W => tidx (P := Tryz.prog) 9 Tryz.underlying9 s 0 c (by omega) hc .i64 0 rfl W
  have hcb : c ≤ 255 := by rw [← hc, List.getD_eq_getElem?_getD, List.getElem?_eq_getElem (show 0 < (sb s).length by rw [sb_len]; omega)]; have := sb_lt s _ (List.getElem_mem (show 0 < (sb s).length by rw [sb_len]; omega)); simp only [Option.getD_some]; omega
  have b1 : ((s.size : Int) != 1) = false := by simp; omega
  have b2 : ((s.size : Int) == 1) = true := by simp; omega
  by_cases c2 : c < 48
  case pos =>
    have hd : dgS s lo hi = (0, 3) := by unfold dgS; rw [if_neg (by omega)]
    rw [hd]
    dsimp only
    clear hd
    replace k0 := hid k0
    have b3 : decide ((c : Int) < 48) = true := by simp; omega
    clear hc c1
    have hlt := hP.lt
    replace hP := hid hP
    have hef := hid (eff_refl24 B w)
    go_enter Tryz.func25, Tryz.ntmps25
    go_wp2_with fail
    refine (kx.out _ hP.out).mono ?_
    rintro r V1 ⟨rfl, hP2, hf2⟩
    replace hP := hid hP2
    clear hP2
    replace hef := hid (eff_trans24 hef.out hf2)
    clear hf2
    go_wp2_with fail
    refine (kf.out _ 3 hP.out).mono ?_
    rintro r V2 ⟨rfl, hP2, hf2⟩
    replace hP := hid hP2
    clear hP2
    replace hef := hid (eff_trans24 hef.out hf2)
    clear hf2
    go_wp2_with fail
    go_ret
    exact ⟨rfl, hP.out, hef.out⟩
  have b3 : decide ((c : Int) < 48) = false := by simp; omega
  by_cases c3 : 57 < c
  case pos =>
    have hd : dgS s lo hi = (0, 3) := by unfold dgS; rw [if_neg (by omega)]
    rw [hd]
    dsimp only
    clear hd
    replace k0 := hid k0
    have b4 : decide ((57 : Int) < (c : Int)) = true := by simp; omega
    clear hc c1
    have hlt := hP.lt
    replace hP := hid hP
    have hef := hid (eff_refl24 B w)
    go_enter Tryz.func25, Tryz.ntmps25
    go_wp2_with fail
    refine (kx.out _ hP.out).mono ?_
    rintro r V1 ⟨rfl, hP2, hf2⟩
    replace hP := hid hP2
    clear hP2
    replace hef := hid (eff_trans24 hef.out hf2)
    clear hf2
    go_wp2_with fail
    refine (kf.out _ 3 hP.out).mono ?_
    rintro r V2 ⟨rfl, hP2, hf2⟩
    replace hP := hid hP2
    clear hP2
    replace hef := hid (eff_trans24 hef.out hf2)
    clear hf2
    go_wp2_with fail
    go_ret
    exact ⟨rfl, hP.out, hef.out⟩
  have b4 : decide ((57 : Int) < (c : Int)) = false := by simp; omega
  have e1 : ((c : Int) - 48) % 256 = (c : Int) - 48 := by omega
  have e2 : IntKind.i64.wrap ((c : Int) - 48) = (c : Int) - 48 := by simp [IntKind.wrap, IntKind.bits, IntKind.signed]; omega
  by_cases c4 : (c : Int) - 48 < lo
  case pos =>
    have hd : dgS s lo hi = ((c : Int) - 48, 5) := by unfold dgS; rw [if_pos (by omega), hc, if_pos (by omega)]
    rw [hd]
    dsimp only
    clear hd
    replace k0 := hid k0
    have b5 : decide ((c : Int) - 48 < lo) = true := by simpa using c4
    clear hc c1 c2 c3 c4
    have hlt := hP.lt
    replace hP := hid hP
    have hef := hid (eff_refl24 B w)
    go_enter Tryz.func25, Tryz.ntmps25
    go_wp2_with fail
    refine (kx.out _ hP.out).mono ?_
    rintro r V1 ⟨rfl, hP2, hf2⟩
    replace hP := hid hP2
    clear hP2
    replace hef := hid (eff_trans24 hef.out hf2)
    clear hf2
    go_wp2_with fail
    refine (kf.out _ 5 hP.out).mono ?_
    rintro r V2 ⟨rfl, hP2, hf2⟩
    replace hP := hid hP2
    clear hP2
    replace hef := hid (eff_trans24 hef.out hf2)
    clear hf2
    go_wp2_with fail
    go_ret
    exact ⟨rfl, hP.out, hef.out⟩
  have b5 : decide ((c : Int) - 48 < lo) = false := by simpa using c4
  by_cases c5 : hi < (c : Int) - 48
  case pos =>
    have hd : dgS s lo hi = ((c : Int) - 48, 5) := by unfold dgS; rw [if_pos (by omega), hc, if_pos (by omega)]
    rw [hd]
    dsimp only
    clear hd
    replace k0 := hid k0
    have b6 : decide (hi < (c : Int) - 48) = true := by simpa using c5
    clear hc c1 c2 c3 c4 c5
    have hlt := hP.lt
    replace hP := hid hP
    have hef := hid (eff_refl24 B w)
    go_enter Tryz.func25, Tryz.ntmps25
    go_wp2_with fail
    refine (kx.out _ hP.out).mono ?_
    rintro r V1 ⟨rfl, hP2, hf2⟩
    replace hP := hid hP2
    clear hP2
    replace hef := hid (eff_trans24 hef.out hf2)
    clear hf2
    go_wp2_with fail
    refine (kf.out _ 5 hP.out).mono ?_
    rintro r V2 ⟨rfl, hP2, hf2⟩
    replace hP := hid hP2
    clear hP2
    replace hef := hid (eff_trans24 hef.out hf2)
    clear hf2
    go_wp2_with fail
    go_ret
    exact ⟨rfl, hP.out, hef.out⟩
  have hd : dgS s lo hi = ((c : Int) - 48, 0) := by unfold dgS; rw [if_pos (by omega), hc, if_neg (by omega)]
  rw [hd]
  dsimp only
  clear hd
  rw [k0]
  replace k0 := hid k0
  have b6 : decide (hi < (c : Int) - 48) = false := by simpa using c5
  clear hc c1 c2 c3 c4 c5
  have hlt := hP.lt
  replace hP := hid hP
  have hef := hid (eff_refl24 B w)
  go_enter Tryz.func25, Tryz.ntmps25
  go_wp2_with fail
  refine (kx.out _ hP.out).mono ?_
  rintro r V1 ⟨rfl, hP2, hf2⟩
  replace hP := hid hP2
  clear hP2
  replace hef := hid (eff_trans24 hef.out hf2)
  clear hf2
  go_wp2_with fail
  go_ret
  exact ⟨rfl, hP.out, hef.out⟩
end Go.Proofs.YtobgibmpodggkaaGreatDoor
