/- Several texts in one: Rmc5, Rmc7. -/
import Derived.Test.YthnoomdhgbaecaaGreatDoorRB
import Derived.Test.YthnoomdhgbaecaaGreatDoorRA
import Derived.Laws.Tables
import Derived.Laws.Rows
import Derived.Deep.DeepCutAuto
import Derived.Test.YthnoomdhgbaecaaGreatDoorGR
import Derived.Laws.StructEq

/- Package rmc: Take, the papers'. -/
namespace Go.Proofs.YthnoomdhgbaecaaGreatDoor

open Go.ChangeShapes Go.WideShapes Go.ChangeAt Go.RowKit

set_option linter.unusedVariables false

set_option linter.unusedSimpArgs false

/-- A papers' row that is read, the message that is made, columns beside it. -/
structure USt (W0 : World) (B mb pc : Nat) (C : Array Value) (e : Int) (L : List ByteArray) (M : Array Value) (W : World) : Prop where
  row : RowR W B e L
  m : W.heap[mb]? = some (.cells M 29 (0, 0))
  c : W.heap[pc]? = some (.cells C 54 (0, 0))
  bel : After W0 W
  nm : mb ≠ B
  nc : pc ≠ B
  hb : W0.heap.size ≤ B
  hm : W0.heap.size ≤ mb
  ns : ∀ (j : Nat) (s : ByteArray), M[j]? ≠ some (.string s)
theorem USt.eff {W0 : World} {B mb pc : Nat} {C : Array Value} {e e' : Int} {L L' : List ByteArray} {M : Array Value} {W W' : World} (h : USt W0 B mb pc C e L M W) (hP : RowR W' B e' L') (hK : Eff B W W') : USt W0 B mb pc C e' L' M W' :=
  ⟨hP, eff_block24 hK h.m h.nm, eff_block24 hK h.c h.nc, eff_below24 h.bel hK h.hb h.bel.size, h.nm, h.nc, h.hb, h.hm, h.ns⟩
theorem USt.below {W0 : World} {B mb pc : Nat} {C : Array Value} {e : Int} {L : List ByteArray} {M : Array Value} {W W' : World} (h : USt W0 B mb pc C e L M W) (hA : After W W') : USt W0 B mb pc C e L M W' :=
  ⟨h.row.aft hA, held_after hA h.m, held_after hA h.c, bthen h.bel hA, h.nm, h.nc, h.hb, h.hm, h.ns⟩
theorem USt.s1 {W0 : World} {B mb pc : Nat} {C : Array Value} {e : Int} {L : List ByteArray} {M : Array Value} {W : World} (h : USt W0 B mb pc C e L M W) (j : Nat) (u : Value) (hu : noS u = true) : ∃ W2, W.setCell ⟨mb, j, none⟩ u = W2 ∧ USt W0 B mb pc C e L (M.setIfInBounds j u) W2 := by
  obtain ⟨W2, h1, h2, h3⟩ := set1 h.m j u
  exact ⟨W2, h1, h.row.offG h3 h.nm h.m h.ns, h2, (h3.block _ (heapT h.c h.m (by decide))).trans h.c, belowS h.bel h3 h.hm, h.nm, h.nc, h.hb, h.hm, ns_set h.ns j u hu⟩
theorem USt.s2 {W0 : World} {B mb pc : Nat} {C : Array Value} {e : Int} {L : List ByteArray} {M : Array Value} {W : World} (h : USt W0 B mb pc C e L M W) (j k : Nat) (u v : Value) (hu : noS u = true) (hv : noS v = true) : ∃ W2, (W.setCell ⟨mb, j, none⟩ u).setCell ⟨mb, k, none⟩ v = W2 ∧ USt W0 B mb pc C e L ((M.setIfInBounds j u).setIfInBounds k v) W2 := by
  obtain ⟨A, rfl, hA⟩ := h.s1 j u hu
  exact hA.s1 k v hv
theorem USt.s4 {W0 : World} {B mb pc : Nat} {C : Array Value} {e : Int} {L : List ByteArray} {M : Array Value} {W : World} (h : USt W0 B mb pc C e L M W) (j0 j1 j2 j3 : Nat) (u0 u1 u2 u3 : Value) (hu : noS u0 = true ∧ noS u1 = true ∧ noS u2 = true ∧ noS u3 = true) : ∃ W2, (((W.setCell ⟨mb, j0, none⟩ u0).setCell ⟨mb, j1, none⟩ u1).setCell ⟨mb, j2, none⟩ u2).setCell ⟨mb, j3, none⟩ u3 = W2 ∧ USt W0 B mb pc C e L ((((M.setIfInBounds j0 u0).setIfInBounds j1 u1).setIfInBounds j2 u2).setIfInBounds j3 u3) W2 := by
  obtain ⟨A, rfl, hA⟩ := h.s2 j0 j1 u0 u1 hu.1 hu.2.1
  exact hA.s2 j2 j3 u2 u3 hu.2.2.1 hu.2.2.2
theorem USt.s5 {W0 : World} {B mb pc : Nat} {C : Array Value} {e : Int} {L : List ByteArray} {M : Array Value} {W : World} (h : USt W0 B mb pc C e L M W) (j0 j1 j2 j3 j4 : Nat) (u0 u1 u2 u3 u4 : Value) (hu : (noS u0 = true ∧ noS u1 = true ∧ noS u2 = true ∧ noS u3 = true) ∧ noS u4 = true) : ∃ W2, ((((W.setCell ⟨mb, j0, none⟩ u0).setCell ⟨mb, j1, none⟩ u1).setCell ⟨mb, j2, none⟩ u2).setCell ⟨mb, j3, none⟩ u3).setCell ⟨mb, j4, none⟩ u4 = W2 ∧ USt W0 B mb pc C e L (((((M.setIfInBounds j0 u0).setIfInBounds j1 u1).setIfInBounds j2 u2).setIfInBounds j3 u3).setIfInBounds j4 u4) W2 := by
  obtain ⟨A, rfl, hA⟩ := h.s4 j0 j1 j2 j3 u0 u1 u2 u3 hu.1
  exact hA.s1 j4 u4 hu.2
theorem strEq {a b : List UInt8} (h : (a == b) = true) : a = b := eq_of_beq h
theorem strNe {a b : List UInt8} (h : (a == b) = false) : ¬ a = b := fun e => by rw [e] at h; simp at h
set_option maxRecDepth 100000 in
set_option maxHeartbeats 4000000 in
theorem rone_any (B : Nat) (e : Int) (s : ByteArray) (R : List ByteArray) (a b : ByteArray) (w : World) (hP : RowR w B e (s :: R)) : Calls Tryz.prog 66 #[.pointer (some ⟨B, 0, none⟩), .string a, .string b] w fun r w' => r = .returned (.bool (decide (s = a))) ∧ RowR w' B (kp e (onE s a b)) R ∧ Eff B w w' := by
  have k0 : ∀ e, kp e 0 = e := fun e => by unfold kp; split <;> omega
  have kx := hid (fun U h => rtextC B e s R U h)
  have kf := hid (fun U h => rfirstR_any B e 3 R U h)
  by_cases c1 : s = a
  case pos =>
    have q1 := ba_neT c1
    have q11 := q1.1
    have q12 := q1.2
    have hd : onE s a b = 0 := by unfold onE; rw [if_neg (fun h => h.1 c1)]
    have hv : (decide (s = a)) = true := by exact decide_eq_true c1
    rw [hd, hv]
    rw [k0]
    clear hd hv k0
    subst c1
    clear q1
    have hlt := hP.lt
    replace hP := hid hP
    have hef := hid (eff_refl24 B w)
    go_enter Tryz.func66, Tryz.ntmps66
    go_wp2_with fail
    refine (kx.out _ hP.out).mono ?_
    rintro r V1 ⟨rfl, hP2, hf2⟩
    replace hP := hid hP2
    clear hP2
    replace hef := hid (eff_trans24 hef.out hf2)
    clear hf2
    go_wp2_with fail
    go_ret
    exact ⟨by rfl, hP.out, hef.out⟩
  have q1 := ba_neF c1
  have q11 := q1.1
  have q12 := q1.2
  by_cases c2 : s = b
  case pos =>
    have q2 := ba_neT c2
    have q21 := q2.1
    have q22 := q2.2
    have hd : onE s a b = 0 := by unfold onE; rw [if_neg (fun h => h.2 c2)]
    have hv : (decide (s = a)) = false := by exact decide_eq_false c1
    rw [hd, hv]
    rw [k0]
    clear hd hv k0
    clear q1 q2 c1 c2
    have hlt := hP.lt
    replace hP := hid hP
    have hef := hid (eff_refl24 B w)
    go_enter Tryz.func66, Tryz.ntmps66
    go_wp2_with fail
    refine (kx.out _ hP.out).mono ?_
    rintro r V1 ⟨rfl, hP2, hf2⟩
    replace hP := hid hP2
    clear hP2
    replace hef := hid (eff_trans24 hef.out hf2)
    clear hf2
    go_wp2_with fail
    go_ret
    exact ⟨by rfl, hP.out, hef.out⟩
  have q2 := ba_neF c2
  have q21 := q2.1
  have q22 := q2.2
  have hd : onE s a b = 3 := by unfold onE; rw [if_pos ⟨c1, c2⟩]
  have hv : (decide (s = a)) = false := by exact decide_eq_false c1
  rw [hd, hv]
  clear hd hv k0
  clear q1 q2 c1 c2
  have hlt := hP.lt
  replace hP := hid hP
  have hef := hid (eff_refl24 B w)
  go_enter Tryz.func66, Tryz.ntmps66
  go_wp2_with fail
  refine (kx.out _ hP.out).mono ?_
  rintro r V1 ⟨rfl, hP2, hf2⟩
  replace hP := hid hP2
  clear hP2
  replace hef := hid (eff_trans24 hef.out hf2)
  clear hf2
  go_wp2_with fail
  refine (kf.out _ hP.out).mono ?_
  rintro r V2 ⟨rfl, hP2, hf2⟩
  replace hP := hid hP2
  clear hP2
  replace hef := hid (eff_trans24 hef.out hf2)
  clear hf2
  go_wp2_with fail
  go_ret
  exact ⟨by rfl, hP.out, hef.out⟩
set_option maxRecDepth 100000 in
set_option maxHeartbeats 32000000 in
theorem rrmtake_any (s0 s1 s2 s3 s4 s5 s6 s7 s8 s9 s10 : ByteArray) (R : List ByteArray) (hR : R.length ≤ 1) {b : Bool} {ho mi se ce k : Int} {ai : Bool} {an x1 : Int} {oi : Bool} {on x2 : Int} {pi : Bool} {pn x3 : Int} {ci : Bool} {cn x4 : Int} {db : Bool} {dd dm dy kd : Int} {vi : Bool} {vn x5 : Int} (hV : takeV (sb s0) = .tuple #[.agg #[.bool b, .int .i64 ho, .int .i64 mi, .int .i64 se, .int .i64 ce], .int .i64 k]) (h1 : tkaD s2 s3 true = (ai, an, x1)) (h2 : tkaD s4 s5 false = (oi, on, x2)) (h3 : takD s6 1 4 2 0 999999 = (pi, pn, x3)) (h4 : takD s7 1 3 2 0 36000 = (ci, cn, x4)) (hD : takeD (sb s8) = .tuple #[.agg #[.bool db, .int .i64 dd, .int .i64 dm, .int .i64 dy], .int .i64 kd]) (h5 : takD s9 1 3 1 0 1800 = (vi, vn, x5)) {E : Int} (hKE : moL (kp (kp (kp (kp (kp (kp (kp (kp (kp 0 k) (onE s1 ⟨#[65]⟩ ⟨#[86]⟩)) x1) x2) x3) x4) kd) x5) (sdE s10 vi)) R = E) (w : World) (a : Option Addr) (n cap : Nat) (hn : n = 11 + R.length) (hEl : Els w 1 a n cap (strV23 (s0 :: s1 :: s2 :: s3 :: s4 :: s5 :: s6 :: s7 :: s8 :: s9 :: s10 :: R))) (hs : ∀ s ∈ (s0 :: s1 :: s2 :: s3 :: s4 :: s5 :: s6 :: s7 :: s8 :: s9 :: s10 :: R), s.size ≤ 1000) : Calls Tryz.prog 15 #[.slice a n cap] w fun r w' => r = .returned (rmR E #[.bool b, .int .i64 ho, .int .i64 mi, .int .i64 se, .int .i64 ce, .bool (decide (s1 = ⟨#[65]⟩)), .bool ai, .int .i64 an, .bool oi, .int .i64 on, .bool pi, .int .i64 pn, .bool ci, .int .i64 cn, .bool vi, .int .i64 (sdN s10 vn), .bool db, .int .i64 dd, .int .i64 dm, .int .i64 dy]) ∧ After w w' := by
  have k0 : ∀ e, kp e 0 = e := fun e => by unfold kp; split <;> omega
  have hbv := takD_bd h5 (by decide)
  have hn12 : n = 11 ∨ n = 12 := by omega
  have hn1000 : n ≤ 1000 := by omega
  have hlen : (s0 :: s1 :: s2 :: s3 :: s4 :: s5 :: s6 :: s7 :: s8 :: s9 :: s10 :: R).length = n := by simp; omega
  have hRn : (n = 11 ∧ R = []) ∨ (n = 12 ∧ ∃ s, R = [s]) := by
    match R, hR, hn with
    | [], _, hn => exact .inl ⟨by simpa using hn, rfl⟩
    | [s], _, hn => exact .inr ⟨by simpa using hn, s, rfl⟩
  clear hn
  replace hKE := hid hKE
  replace hV := hid hV
  replace hD := hid hD
  replace h1 := hid h1
  replace h2 := hid h2
  replace h3 := hid h3
  replace h4 := hid h4
  replace h5 := hid h5
  replace hbv := hid hbv
  replace hEl := hid hEl
  replace hs := hid hs
  replace hlen := hid hlen
  replace hR := hid hR
  replace hRn := hid hRn
  have b12 : ((n : Int) != 11) = false ∨ (((n : Int) != 11) = true ∧ ((n : Int) != 12) = false) := by rcases hn12 with rfl | rfl <;> simp
  replace hn12 := hid hn12
  go_enter Tryz.func15, Tryz.ntmps15
  go_upto_region 0 with (fail)
  apply wp_region_seg0 (w := w) (S := [.al 1000, .q []]) (E := [.al ((fun p => .pointer (some ⟨p, 0, none⟩)), _) 1000, .q0 _]) rfl (by kernel_rfl) rfl rfl
  intro th hge hne
  refine Seg.step _ rfl ⟨by rfl, fun U hU => ?_⟩ ?_
  · go_simp; exact vp_alloc rfl rfl rfl
  refine Seg.sa ?_
  refine Seg.sq ?_
  refine Seg.stop (fun U1 hU hk => ?_)
  have nb0 := hge 0 _ _ rfl
  have rb0 := (hk 0 _ _ rfl trivial).1.2 (by simp)
  clear hk hge hne
  generalize th (0 + 0) = p0_0 at *
  dsimp only at rb0
  have r_p0_0 := rb0
  clear rb0
  have n_p0_0 := nb0
  clear nb0
  have sz1 := hU.size
  have hB : Below w.heap.size w U1 := hU
  clear hU
  have hl0 := held_lt r_p0_0
  replace r_p0_0 := hid r_p0_0
  replace hB := hid hB
  go_upto_region 1 with (fail)
  go_cut [18] (fun x wx => x = .bool false ∧ wx.heap[p0_0]? = some (.cells #[.bool false, .int .i64 0, .int .i64 0, .int .i64 0, .int .i64 0, .bool false, .bool false, .int .i64 0, .bool false, .int .i64 0, .bool false, .int .i64 0, .bool false, .int .i64 0, .bool false, .int .i64 0, .bool false, .int .i64 0, .int .i64 0, .int .i64 0] 29 (0, 0)) ∧ After w wx ∧ p0_0 < wx.heap.size)
  case first =>
    rcases b12 with q | ⟨q, q2⟩
    · go_wp2_with fail
      go_meet
      exact ⟨rfl, r_p0_0.out, hB.out, hl0⟩
    · go_wp2_with fail
      go_meet
      exact ⟨rfl, r_p0_0.out, hB.out, hl0⟩
  case rest =>
    clear b12 r_p0_0 hB hl0
    obtain ⟨rfl, r_0, hBw, hl0⟩ := hcut
    generalize hVV : wc = wb at *
    clear hVV
    have hEl1 := hEl.out.below hBw
    go_wp2_with fail
    refine (rcols26_any _).mono ?_
    rintro r V ⟨pc, rfl, r_pc, hB, hlC⟩
    replace hEl1 := hEl1.below hB
    have hlc := held_lt r_pc
    have s1w := hB.size
    go_upto_region 4 with (fail)
    apply wp_region_seg0 (w := V) (S := [.q [], .q [], .al 1000, .q [2]]) (E := [.q0 _, .q0 _, .al ((fun p => .pointer (some ⟨p, 0, none⟩)), _) 1000, .q1 2 (fun p => .pointer (some ⟨p, 0, none⟩))]) rfl (by kernel_rfl) rfl rfl
    intro th hge hne
    refine Seg.sq ?_
    refine Seg.sq ?_
    refine Seg.step _ rfl ⟨by rfl, fun U hU => ?_⟩ ?_
    · go_simp; exact vp_alloc rfl rfl rfl
    refine Seg.sa ?_
    refine Seg.sq ?_
    refine Seg.stop (fun U2 hU hk => ?_)
    have nb2 := hge 2 _ _ rfl
    have rb2 := (hk 2 _ _ rfl trivial).1.2 (by simp)
    clear hk hge hne
    generalize th (0 + 2) = p4_2 at *
    dsimp only at rb2
    replace r_pc := held_after hU r_pc
    replace hEl1 := hEl1.below hU
    have r_p4_2 := rb2
    clear rb2
    have n_p4_2 := nb2
    clear nb2
    have sz2 := hU.size
    replace hB := bthen hB hU
    clear hU
    have hnB : ∀ x, a = some x → x.block ≠ p4_2 := by
      intro x hx e2
      obtain ⟨-, b0, off0, e0, hc0⟩ := hEl.out.2.2.2.2 0 [.string s0] rfl
      have hb0 := World.block_lt_of_cell? w _ (hc0 0 (.string s0) rfl)
      rw [hx] at e0
      have e3 := Option.some.inj e0
      subst e3
      dsimp only at e2 hb0
      have := hBw.size
      omega
    have hP : RowR U2 p4_2 0 (s0 :: s1 :: s2 :: s3 :: s4 :: s5 :: s6 :: s7 :: s8 :: s9 :: s10 :: R) := ⟨(s0 :: s1 :: s2 :: s3 :: s4 :: s5 :: s6 :: s7 :: s8 :: s9 :: s10 :: R), a, cap, 0, rfl, Nat.zero_le _, by have := hlen.out; omega, by rw [hlen.out]; exact r_p4_2, by rw [hlen.out]; exact hEl1, hnB⟩
    clear hEl1 hnB r_p4_2
    obtain ⟨B, hBe⟩ : ∃ B, B = p4_2 := ⟨_, rfl⟩
    subst hBe
    have nec : pc ≠ B := by omega
    have hwB : wb.heap.size ≤ B := by omega
    have hlp := hP.lt
    have s2w := hB.size
    go_upto_region 5 with (fail)
    apply wp_region_seg0 (w := U2) (S := [.al 1000]) (E := [.al ((fun p => .pointer (some ⟨p, 0, none⟩)), _) 1000]) rfl (by kernel_rfl) rfl rfl
    intro th hge hne
    refine Seg.step _ rfl ⟨by rfl, fun U hU => ?_⟩ ?_
    · go_simp; exact vp_alloc rfl rfl rfl
    refine Seg.sa ?_
    refine Seg.stop (fun U3 hU hk => ?_)
    have nb0 := hge 0 _ _ rfl
    have rb0 := (hk 0 _ _ rfl trivial).1.2 (by simp)
    clear hk hge hne
    generalize th (0 + 0) = p5_0 at *
    dsimp only at rb0
    replace r_pc := held_after hU r_pc
    replace hP := hP.below hU
    have r_p5_0 := rb0
    clear rb0
    have n_p5_0 := nb0
    clear nb0
    have sz3 := hU.size
    replace hB := bthen hB hU
    clear hU
    have h : USt wb B p5_0 pc #[.int .i64 1, .int .i64 4, .int .i64 2, .int .i64 0, .int .i64 999999, .int .i64 1, .int .i64 3, .int .i64 2, .int .i64 0, .int .i64 36000, .int .i64 1, .int .i64 3, .int .i64 1, .int .i64 0, .int .i64 1800] 0 (s0 :: s1 :: s2 :: s3 :: s4 :: s5 :: s6 :: s7 :: s8 :: s9 :: s10 :: R) #[.bool false, .int .i64 0, .int .i64 0, .int .i64 0, .int .i64 0, .bool false, .bool false, .int .i64 0, .bool false, .int .i64 0, .bool false, .int .i64 0, .bool false, .int .i64 0, .bool false, .int .i64 0, .bool false, .int .i64 0, .int .i64 0, .int .i64 0] U3 := ⟨hP, r_p5_0, r_pc, hB, by omega, nec, hwB, by omega, (by intro j s h; match j, h with | 0, h => simp at h | 1, h => simp at h | 2, h => simp at h | 3, h => simp at h | 4, h => simp at h | 5, h => simp at h | 6, h => simp at h | 7, h => simp at h | 8, h => simp at h | 9, h => simp at h | 10, h => simp at h | 11, h => simp at h | 12, h => simp at h | 13, h => simp at h | 14, h => simp at h | 15, h => simp at h | 16, h => simp at h | 17, h => simp at h | 18, h => simp at h | 19, h => simp at h | j + 20, h => simp at h)⟩
    clear hP r_p5_0 r_pc hB n_p5_0 hlp hlc
    obtain ⟨mb, hmb⟩ : ∃ X, X = p5_0 := ⟨_, rfl⟩
    subst hmb
    have hl0c := hl0
    replace r_0 := hid r_0
    replace hBw := hid hBw
    go_upto_region 6 with (fail)
    have kt := hid (fun U hh => rtakeclock_any B 0 s0 (s1 :: s2 :: s3 :: s4 :: s5 :: s6 :: s7 :: s8 :: s9 :: s10 :: R) hV.out U hh (by have := hR.out; simp; omega) (hs.out s0 (by simp)))
    go_wp2_with fail
    refine (kt.out _ h.row).mono ?_
    clear kt
    rintro r Y1 ⟨rfl, hP2, hf2⟩
    replace h := h.eff hP2 hf2
    clear hP2 hf2
    obtain ⟨E1, hE1⟩ : ∃ E, kp 0 k = E := ⟨_, rfl⟩
    rw [hE1] at h
    replace hE1 := hid hE1
    have g0 := held_free h.m 0
    have g1 := held_free h.m 1
    have g2 := held_free h.m 2
    have g3 := held_free h.m 3
    have g4 := held_free h.m 4
    have b0 := held_cell h.m 0 _ rfl
    have b1 := held_cell h.m 1 _ rfl
    have b2 := held_cell h.m 2 _ rfl
    have b3 := held_cell h.m 3 _ rfl
    have b4 := held_cell h.m 4 _ rfl
    obtain ⟨S0, hS0, h9⟩ := h.s5 0 1 2 3 4 (.bool b) (.int .i64 ho) (.int .i64 mi) (.int .i64 se) (.int .i64 ce) ⟨⟨rfl, rfl, rfl, rfl⟩, rfl⟩
    clear h
    go_upto_region 7 with (fail)
    replace hS0 := hid hS0
    clear g0 b0 g1 b1 g2 b2 g3 b3 g4 b4
    have h : USt wb B mb pc #[.int .i64 1, .int .i64 4, .int .i64 2, .int .i64 0, .int .i64 999999, .int .i64 1, .int .i64 3, .int .i64 2, .int .i64 0, .int .i64 36000, .int .i64 1, .int .i64 3, .int .i64 1, .int .i64 0, .int .i64 1800] E1 (s1 :: s2 :: s3 :: s4 :: s5 :: s6 :: s7 :: s8 :: s9 :: s10 :: R) #[.bool b, .int .i64 ho, .int .i64 mi, .int .i64 se, .int .i64 ce, .bool false, .bool false, .int .i64 0, .bool false, .int .i64 0, .bool false, .int .i64 0, .bool false, .int .i64 0, .bool false, .int .i64 0, .bool false, .int .i64 0, .int .i64 0, .int .i64 0] S0 := h9
    clear h9
    have kt := hid (fun U hh => rone_any B E1 s1 (s2 :: s3 :: s4 :: s5 :: s6 :: s7 :: s8 :: s9 :: s10 :: R) ⟨#[65]⟩ ⟨#[86]⟩ U hh)
    go_wp2_with fail
    refine (kt.out _ h.row).mono ?_
    clear kt
    rintro r Y2 ⟨rfl, hP2, hf2⟩
    replace h := h.eff hP2 hf2
    clear hP2 hf2
    obtain ⟨E2, hE2⟩ : ∃ E, kp E1 (onE s1 ⟨#[65]⟩ ⟨#[86]⟩) = E := ⟨_, rfl⟩
    rw [hE2] at h
    replace hE2 := hid hE2
    have g5 := held_free h.m 5
    have b5 := held_cell h.m 5 _ rfl
    obtain ⟨S5, hS5, h9⟩ := h.s1 5 (.bool (decide (s1 = ⟨#[65]⟩))) rfl
    clear h
    go_upto_region 8 with (fail)
    replace hS5 := hid hS5
    clear g5 b5
    have h : USt wb B mb pc #[.int .i64 1, .int .i64 4, .int .i64 2, .int .i64 0, .int .i64 999999, .int .i64 1, .int .i64 3, .int .i64 2, .int .i64 0, .int .i64 36000, .int .i64 1, .int .i64 3, .int .i64 1, .int .i64 0, .int .i64 1800] E2 (s2 :: s3 :: s4 :: s5 :: s6 :: s7 :: s8 :: s9 :: s10 :: R) #[.bool b, .int .i64 ho, .int .i64 mi, .int .i64 se, .int .i64 ce, .bool (decide (s1 = ⟨#[65]⟩)), .bool false, .int .i64 0, .bool false, .int .i64 0, .bool false, .int .i64 0, .bool false, .int .i64 0, .bool false, .int .i64 0, .bool false, .int .i64 0, .int .i64 0, .int .i64 0] S5 := h9
    clear h9
    have kt := hid (fun U hh => rtakeangC B E2 s2 s3 (s4 :: s5 :: s6 :: s7 :: s8 :: s9 :: s10 :: R) true h1.out U hh (szs hs.out 2 rfl))
    go_wp2_with fail
    refine (kt.out _ h.row).mono ?_
    clear kt
    rintro r Y3 ⟨rfl, hP2, hf2⟩
    replace h := h.eff hP2 hf2
    clear hP2 hf2
    obtain ⟨E3, hE3⟩ : ∃ E, kp E2 x1 = E := ⟨_, rfl⟩
    rw [hE3] at h
    replace hE3 := hid hE3
    have g6 := held_free h.m 6
    have g7 := held_free h.m 7
    have b6 := held_cell h.m 6 _ rfl
    have b7 := held_cell h.m 7 _ rfl
    obtain ⟨S6, hS6, h9⟩ := h.s2 6 7 (.bool ai) (.int .i64 an) rfl rfl
    clear h
    go_upto_region 9 with (fail)
    replace hS6 := hid hS6
    clear g6 b6 g7 b7
    have h : USt wb B mb pc #[.int .i64 1, .int .i64 4, .int .i64 2, .int .i64 0, .int .i64 999999, .int .i64 1, .int .i64 3, .int .i64 2, .int .i64 0, .int .i64 36000, .int .i64 1, .int .i64 3, .int .i64 1, .int .i64 0, .int .i64 1800] E3 (s4 :: s5 :: s6 :: s7 :: s8 :: s9 :: s10 :: R) #[.bool b, .int .i64 ho, .int .i64 mi, .int .i64 se, .int .i64 ce, .bool (decide (s1 = ⟨#[65]⟩)), .bool ai, .int .i64 an, .bool false, .int .i64 0, .bool false, .int .i64 0, .bool false, .int .i64 0, .bool false, .int .i64 0, .bool false, .int .i64 0, .int .i64 0, .int .i64 0] S6 := h9
    clear h9
    have kt := hid (fun U hh => rtakeangC B E3 s4 s5 (s6 :: s7 :: s8 :: s9 :: s10 :: R) false h2.out U hh (szs hs.out 4 rfl))
    go_wp2_with fail
    refine (kt.out _ h.row).mono ?_
    clear kt
    rintro r Y4 ⟨rfl, hP2, hf2⟩
    replace h := h.eff hP2 hf2
    clear hP2 hf2
    obtain ⟨E4, hE4⟩ : ∃ E, kp E3 x2 = E := ⟨_, rfl⟩
    rw [hE4] at h
    replace hE4 := hid hE4
    have g8 := held_free h.m 8
    have g9 := held_free h.m 9
    have b8 := held_cell h.m 8 _ rfl
    have b9 := held_cell h.m 9 _ rfl
    obtain ⟨S8, hS8, h9⟩ := h.s2 8 9 (.bool oi) (.int .i64 on) rfl rfl
    clear h
    go_upto_region 10 with (fail)
    replace hS8 := hid hS8
    clear g8 b8 g9 b9
    have h : USt wb B mb pc #[.int .i64 1, .int .i64 4, .int .i64 2, .int .i64 0, .int .i64 999999, .int .i64 1, .int .i64 3, .int .i64 2, .int .i64 0, .int .i64 36000, .int .i64 1, .int .i64 3, .int .i64 1, .int .i64 0, .int .i64 1800] E4 (s6 :: s7 :: s8 :: s9 :: s10 :: R) #[.bool b, .int .i64 ho, .int .i64 mi, .int .i64 se, .int .i64 ce, .bool (decide (s1 = ⟨#[65]⟩)), .bool ai, .int .i64 an, .bool oi, .int .i64 on, .bool false, .int .i64 0, .bool false, .int .i64 0, .bool false, .int .i64 0, .bool false, .int .i64 0, .int .i64 0, .int .i64 0] S8 := h9
    clear h9
    have cc0 := held_cell h.c 0 _ rfl
    have cc1 := held_cell h.c 1 _ rfl
    have cc2 := held_cell h.c 2 _ rfl
    have cc3 := held_cell h.c 3 _ rfl
    have cc4 := held_cell h.c 4 _ rfl
    have kt := hid (fun U hh => rtakenumC B E4 s6 (s7 :: s8 :: s9 :: s10 :: R) 1 4 2 0 999999 h3.out U hh (szs hs.out 6 rfl) (by decide))
    go_wp2_with fail
    refine (kt.out _ h.row).mono ?_
    clear kt cc0 cc1 cc2 cc3 cc4
    rintro r Y5 ⟨rfl, hP2, hf2⟩
    replace h := h.eff hP2 hf2
    clear hP2 hf2
    obtain ⟨E5, hE5⟩ : ∃ E, kp E4 x3 = E := ⟨_, rfl⟩
    rw [hE5] at h
    replace hE5 := hid hE5
    have g10 := held_free h.m 10
    have g11 := held_free h.m 11
    have b10 := held_cell h.m 10 _ rfl
    have b11 := held_cell h.m 11 _ rfl
    obtain ⟨S10, hS10, h9⟩ := h.s2 10 11 (.bool pi) (.int .i64 pn) rfl rfl
    clear h
    go_upto_region 11 with (fail)
    replace hS10 := hid hS10
    clear g10 b10 g11 b11
    have h : USt wb B mb pc #[.int .i64 1, .int .i64 4, .int .i64 2, .int .i64 0, .int .i64 999999, .int .i64 1, .int .i64 3, .int .i64 2, .int .i64 0, .int .i64 36000, .int .i64 1, .int .i64 3, .int .i64 1, .int .i64 0, .int .i64 1800] E5 (s7 :: s8 :: s9 :: s10 :: R) #[.bool b, .int .i64 ho, .int .i64 mi, .int .i64 se, .int .i64 ce, .bool (decide (s1 = ⟨#[65]⟩)), .bool ai, .int .i64 an, .bool oi, .int .i64 on, .bool pi, .int .i64 pn, .bool false, .int .i64 0, .bool false, .int .i64 0, .bool false, .int .i64 0, .int .i64 0, .int .i64 0] S10 := h9
    clear h9
    have cc0 := held_cell h.c 5 _ rfl
    have cc1 := held_cell h.c 6 _ rfl
    have cc2 := held_cell h.c 7 _ rfl
    have cc3 := held_cell h.c 8 _ rfl
    have cc4 := held_cell h.c 9 _ rfl
    have kt := hid (fun U hh => rtakenumC B E5 s7 (s8 :: s9 :: s10 :: R) 1 3 2 0 36000 h4.out U hh (szs hs.out 7 rfl) (by decide))
    go_wp2_with fail
    refine (kt.out _ h.row).mono ?_
    clear kt cc0 cc1 cc2 cc3 cc4
    rintro r Y6 ⟨rfl, hP2, hf2⟩
    replace h := h.eff hP2 hf2
    clear hP2 hf2
    obtain ⟨E6, hE6⟩ : ∃ E, kp E5 x4 = E := ⟨_, rfl⟩
    rw [hE6] at h
    replace hE6 := hid hE6
    have g12 := held_free h.m 12
    have g13 := held_free h.m 13
    have b12 := held_cell h.m 12 _ rfl
    have b13 := held_cell h.m 13 _ rfl
    obtain ⟨S12, hS12, h9⟩ := h.s2 12 13 (.bool ci) (.int .i64 cn) rfl rfl
    clear h
    go_upto_region 12 with (fail)
    replace hS12 := hid hS12
    clear g12 b12 g13 b13
    have h : USt wb B mb pc #[.int .i64 1, .int .i64 4, .int .i64 2, .int .i64 0, .int .i64 999999, .int .i64 1, .int .i64 3, .int .i64 2, .int .i64 0, .int .i64 36000, .int .i64 1, .int .i64 3, .int .i64 1, .int .i64 0, .int .i64 1800] E6 (s8 :: s9 :: s10 :: R) #[.bool b, .int .i64 ho, .int .i64 mi, .int .i64 se, .int .i64 ce, .bool (decide (s1 = ⟨#[65]⟩)), .bool ai, .int .i64 an, .bool oi, .int .i64 on, .bool pi, .int .i64 pn, .bool ci, .int .i64 cn, .bool false, .int .i64 0, .bool false, .int .i64 0, .int .i64 0, .int .i64 0] S12 := h9
    clear h9
    have kt := hid (fun U hh => rtextC B E6 s8 (s9 :: s10 :: R) U hh)
    go_wp2_with fail
    refine (kt.out _ h.row).mono ?_
    clear kt
    rintro r Y7 ⟨rfl, hP2, hf2⟩
    replace h := h.eff hP2 hf2
    clear hP2 hf2
    have kd := hid (fun U => hD.out ▸ rtaked_any s8 U (by have := hs.out s8 (by simp); omega))
    go_wp2_with fail
    refine (kd.out _).mono ?_
    rintro r D1 ⟨rfl, hA⟩
    replace h := h.below hA
    clear hA kd
    have nw := alloc_new D1 (.cells #[.bool db, .int .i64 dd, .int .i64 dm, .int .i64 dy] 27)
    have hlb := h.row.lt
    have hlm := held_lt h.m
    have hlc := held_lt h.c
    go_upto_region 13 with (fail)
    obtain ⟨D2, hD2⟩ : ∃ X, D1.alloc (.cells #[.bool db, .int .i64 dd, .int .i64 dm, .int .i64 dy] 27) = X := ⟨_, rfl⟩
    rw [hD2] at nw ⊢
    obtain ⟨pd, hpd⟩ : ∃ X, D1.heap.size = X := ⟨_, rfl⟩
    rw [hpd] at nw ⊢
    replace hD2 := hid hD2
    have hA := nw.2.1
    have rd := nw.2.2
    have ndB : pd ≠ B := by omega
    replace hpd := hid hpd
    clear nw hlb hlm hlc
    replace h := h.below hA
    clear hA
    have kf := hid (fun U hh => rfirstR_any B E6 kd (s9 :: s10 :: R) U hh)
    go_wp2_with fail
    refine (kf.out _ h.row).mono ?_
    rintro r D3 ⟨rfl, hP2, hf2⟩
    replace rd := eff_block24 hf2 rd ndB
    replace h := h.eff hP2 hf2
    clear hP2 hf2 kf
    obtain ⟨E7, hE7⟩ : ∃ E, kp E6 kd = E := ⟨_, rfl⟩
    rw [hE7] at h
    replace hE7 := hid hE7
    go_upto_region 14 with (fail)
    have e0 := held_cell rd 0 _ rfl
    have e1 := held_cell rd 1 _ rfl
    have e2 := held_cell rd 2 _ rfl
    have e3 := held_cell rd 3 _ rfl
    have g16 := held_free h.m 16
    have g17 := held_free h.m 17
    have g18 := held_free h.m 18
    have g19 := held_free h.m 19
    have b16 := held_cell h.m 16 _ rfl
    have b17 := held_cell h.m 17 _ rfl
    have b18 := held_cell h.m 18 _ rfl
    have b19 := held_cell h.m 19 _ rfl
    obtain ⟨S16, hS16, h9⟩ := h.s4 16 17 18 19 (.bool db) (.int .i64 dd) (.int .i64 dm) (.int .i64 dy) ⟨rfl, rfl, rfl, rfl⟩
    clear h
    go_upto_region 15 with (fail)
    replace hS16 := hid hS16
    clear g16 b16 g17 b17 g18 b18 g19 b19
    have h : USt wb B mb pc #[.int .i64 1, .int .i64 4, .int .i64 2, .int .i64 0, .int .i64 999999, .int .i64 1, .int .i64 3, .int .i64 2, .int .i64 0, .int .i64 36000, .int .i64 1, .int .i64 3, .int .i64 1, .int .i64 0, .int .i64 1800] E7 (s9 :: s10 :: R) #[.bool b, .int .i64 ho, .int .i64 mi, .int .i64 se, .int .i64 ce, .bool (decide (s1 = ⟨#[65]⟩)), .bool ai, .int .i64 an, .bool oi, .int .i64 on, .bool pi, .int .i64 pn, .bool ci, .int .i64 cn, .bool false, .int .i64 0, .bool db, .int .i64 dd, .int .i64 dm, .int .i64 dy] S16 := h9
    clear h9
    clear e0 e1 e2 e3 rd
    have cc0 := held_cell h.c 10 _ rfl
    have cc1 := held_cell h.c 11 _ rfl
    have cc2 := held_cell h.c 12 _ rfl
    have cc3 := held_cell h.c 13 _ rfl
    have cc4 := held_cell h.c 14 _ rfl
    have kt := hid (fun U hh => rtakenumC B E7 s9 (s10 :: R) 1 3 1 0 1800 h5.out U hh (szs hs.out 9 rfl) (by decide))
    go_wp2_with fail
    refine (kt.out _ h.row).mono ?_
    clear kt cc0 cc1 cc2 cc3 cc4
    rintro r Y8 ⟨rfl, hP2, hf2⟩
    replace h := h.eff hP2 hf2
    clear hP2 hf2
    obtain ⟨E8, hE8⟩ : ∃ E, kp E7 x5 = E := ⟨_, rfl⟩
    rw [hE8] at h
    replace hE8 := hid hE8
    have g14 := held_free h.m 14
    have g15 := held_free h.m 15
    have b14 := held_cell h.m 14 _ rfl
    have b15 := held_cell h.m 15 _ rfl
    obtain ⟨S14, hS14, h9⟩ := h.s2 14 15 (.bool vi) (.int .i64 vn) rfl rfl
    clear h
    go_upto_region 16 with (fail)
    replace hS14 := hid hS14
    clear g14 b14 g15 b15
    have h : USt wb B mb pc #[.int .i64 1, .int .i64 4, .int .i64 2, .int .i64 0, .int .i64 999999, .int .i64 1, .int .i64 3, .int .i64 2, .int .i64 0, .int .i64 36000, .int .i64 1, .int .i64 3, .int .i64 1, .int .i64 0, .int .i64 1800] E8 (s10 :: R) #[.bool b, .int .i64 ho, .int .i64 mi, .int .i64 se, .int .i64 ce, .bool (decide (s1 = ⟨#[65]⟩)), .bool ai, .int .i64 an, .bool oi, .int .i64 on, .bool pi, .int .i64 pn, .bool ci, .int .i64 cn, .bool vi, .int .i64 vn, .bool db, .int .i64 dd, .int .i64 dm, .int .i64 dy] S14 := h9
    clear h9
    have kt := hid (fun U hh => rtextC B E8 s10 R U hh)
    go_wp2_with fail
    refine (kt.out _ h.row).mono ?_
    clear kt
    rintro r Y9 ⟨rfl, hP2, hf2⟩
    replace h := h.eff hP2 hf2
    clear hP2 hf2
    have c14 := held_cell h.m 14 _ rfl
    have hE := seqC s10 [69]
    have hW := seqC s10 [87]
    have hZ := temp_iff s10
    go_upto_region 17 with (fail)
    go_cut [87] (fun x W0 => x = .bool (decide (sdE s10 vi ≠ 0)) ∧ USt wb B mb pc #[.int .i64 1, .int .i64 4, .int .i64 2, .int .i64 0, .int .i64 999999, .int .i64 1, .int .i64 3, .int .i64 2, .int .i64 0, .int .i64 36000, .int .i64 1, .int .i64 3, .int .i64 1, .int .i64 0, .int .i64 1800] E8 R #[.bool b, .int .i64 ho, .int .i64 mi, .int .i64 se, .int .i64 ce, .bool (decide (s1 = ⟨#[65]⟩)), .bool ai, .int .i64 an, .bool oi, .int .i64 on, .bool pi, .int .i64 pn, .bool ci, .int .i64 cn, .bool vi, .int .i64 vn, .bool db, .int .i64 dd, .int .i64 dm, .int .i64 dy] W0)
    case first =>
      cases vi
      case false =>
        by_cases cu : s10.size = 0
        case pos =>
          have q : s10.toList.isEmpty = true := by rw [hZ]; exact decide_eq_true cu
          have hs : sdE s10 false = 0 := by unfold sdE; rw [if_neg (by decide), if_neg (by omega)]
          replace hs := hid hs
          clear hE hW hZ cu
          go_wp2_with fail
          go_meet
          exact ⟨by rw [hs.out]; rfl, h⟩
        have q : s10.toList.isEmpty = false := by rw [hZ]; exact decide_eq_false cu
        have hs : sdE s10 false = 3 := by unfold sdE; rw [if_neg (by decide), if_pos (by omega)]
        replace hs := hid hs
        clear hE hW hZ cu
        go_wp2_with fail
        go_meet
        exact ⟨by rw [hs.out]; rfl, h⟩
      by_cases ce : s10 = ⟨#[69]⟩
      case pos =>
        have q := strEq (by rw [hE]; exact decide_eq_true ce)
        have hs : sdE s10 true = 0 := by unfold sdE; rw [if_pos rfl, if_neg (fun h => h.1 ce)]
        replace hs := hid hs
        clear hE hW hZ ce
        go_wp2_with fail
        go_meet
        exact ⟨by rw [hs.out]; rfl, h⟩
      have q := strNe (by rw [hE]; exact decide_eq_false ce)
      by_cases cw : s10 = ⟨#[87]⟩
      case pos =>
        have q2 := strEq (by rw [hW]; exact decide_eq_true cw)
        have hs : sdE s10 true = 0 := by unfold sdE; rw [if_pos rfl, if_neg (fun h => h.2 cw)]
        replace hs := hid hs
        clear hE hW hZ ce cw
        go_wp2_with fail
        go_meet
        exact ⟨by rw [hs.out]; rfl, h⟩
      have q2 := strNe (by rw [hW]; exact decide_eq_false cw)
      have hs : sdE s10 true = 3 := by unfold sdE; rw [if_pos rfl, if_pos ⟨ce, cw⟩]
      replace hs := hid hs
      clear hE hW hZ ce cw
      go_wp2_with fail
      go_meet
      exact ⟨by rw [hs.out]; rfl, h⟩
    case rest =>
      clear h c14 hE hZ
      obtain ⟨rfl, h⟩ := hcut
      replace hW := hid hW
      obtain ⟨X10, hX10⟩ : ∃ x, sdE s10 vi = x := ⟨_, rfl⟩
      have hX3 : X10 = 0 ∨ X10 = 3 := by rw [← hX10]; unfold sdE; split <;> split <;> simp
      obtain ⟨E9, hE9⟩ : ∃ E, kp E8 X10 = E := ⟨_, rfl⟩
      rw [hX10]
      replace hX10 := hid hX10
      replace hE9 := hid hE9
      go_upto_if 87 with (fail)
      go_cut [87] (fun _ W0 => USt wb B mb pc #[.int .i64 1, .int .i64 4, .int .i64 2, .int .i64 0, .int .i64 999999, .int .i64 1, .int .i64 3, .int .i64 2, .int .i64 0, .int .i64 36000, .int .i64 1, .int .i64 3, .int .i64 1, .int .i64 0, .int .i64 1800] E9 R #[.bool b, .int .i64 ho, .int .i64 mi, .int .i64 se, .int .i64 ce, .bool (decide (s1 = ⟨#[65]⟩)), .bool ai, .int .i64 an, .bool oi, .int .i64 on, .bool pi, .int .i64 pn, .bool ci, .int .i64 cn, .bool vi, .int .i64 vn, .bool db, .int .i64 dd, .int .i64 dm, .int .i64 dy] W0)
      case first =>
        rcases hX3 with rfl | rfl
        · go_wp2_with fail
          go_meet
          have e := hE9.out
          rw [k0] at e
          rw [← e]
          exact h
        · go_wp2_with fail
          refine (rfirstR_any B E8 3 R _ h.row).mono ?_
          rintro r Z1 ⟨rfl, hP2, hf2⟩
          replace h := h.eff hP2 hf2
          go_wp2_with fail
          go_meet
          rw [← hE9.out]
          exact h
      case rest =>
        clear h hX3
        have h := hcut
        clear hcut
        have hb15 := hbv.out
        have wn : IntKind.i64.wrap (-vn) = -vn := by simp [IntKind.wrap, IntKind.bits, IntKind.signed]; omega
        clear hb15
        go_upto_if 91 with (fail)
        go_cut [91] (fun _ W0 => USt wb B mb pc #[.int .i64 1, .int .i64 4, .int .i64 2, .int .i64 0, .int .i64 999999, .int .i64 1, .int .i64 3, .int .i64 2, .int .i64 0, .int .i64 36000, .int .i64 1, .int .i64 3, .int .i64 1, .int .i64 0, .int .i64 1800] E9 R #[.bool b, .int .i64 ho, .int .i64 mi, .int .i64 se, .int .i64 ce, .bool (decide (s1 = ⟨#[65]⟩)), .bool ai, .int .i64 an, .bool oi, .int .i64 on, .bool pi, .int .i64 pn, .bool ci, .int .i64 cn, .bool vi, .int .i64 (sdN s10 vn), .bool db, .int .i64 dd, .int .i64 dm, .int .i64 dy] W0)
        case first =>
          by_cases cw : s10 = ⟨#[87]⟩
          case neg =>
            have q : (s10.toList == [87]) = false := by rw [hW.out]; exact decide_eq_false cw
            rw [q]
            have hs : sdN s10 vn = vn := by unfold sdN; rw [if_neg cw]
            replace hs := hid hs
            clear cw wn
            go_wp2_with fail
            go_meet
            rw [hs.out]
            exact h
          have q : (s10.toList == [87]) = true := by rw [hW.out]; exact decide_eq_true cw
          rw [q]
          have hs : sdN s10 vn = -vn := by unfold sdN; rw [if_pos cw]
          replace hs := hid hs
          clear cw
          have c15 : wc.cell? ⟨mb, 15, none⟩ = some (.int .i64 vn) := held_cell h.m 15 _ rfl
          have f15 := held_free h.m 15
          obtain ⟨SW, hSW, h9⟩ := h.s1 15 (.int .i64 (-vn)) rfl
          clear h
          go_wp2_with fail
          go_meet
          rw [hs.out]
          exact h9
        case rest =>
          clear h hW wn
          have h := hcut
          clear hcut
          obtain ⟨EF, hEF⟩ : ∃ E, moL E9 R = E := ⟨_, rfl⟩
          replace hEF := hid hEF
          go_upto_if 100 with (fail)
          go_cut [100] (fun _ W0 => USt wb B mb pc #[.int .i64 1, .int .i64 4, .int .i64 2, .int .i64 0, .int .i64 999999, .int .i64 1, .int .i64 3, .int .i64 2, .int .i64 0, .int .i64 36000, .int .i64 1, .int .i64 3, .int .i64 1, .int .i64 0, .int .i64 1800] EF [] #[.bool b, .int .i64 ho, .int .i64 mi, .int .i64 se, .int .i64 ce, .bool (decide (s1 = ⟨#[65]⟩)), .bool ai, .int .i64 an, .bool oi, .int .i64 on, .bool pi, .int .i64 pn, .bool ci, .int .i64 cn, .bool vi, .int .i64 (sdN s10 vn), .bool db, .int .i64 dd, .int .i64 dm, .int .i64 dy] W0)
          case first =>
            rcases hRn.out with ⟨h11, hR0⟩ | ⟨h12, s, hR1⟩
            · subst h11 hR0
              have hEq := hid (show E9 = EF from hEF.out)
              go_wp2_with fail
              go_meet
              rw [← hEq.out]
              exact h
            · subst h12 hR1
              have hEq := hid (show kp E9 (moE s) = EF from hEF.out)
              go_wp2_with fail
              refine (rtextC B E9 s [] _ h.row).mono ?_
              rintro r Z1 ⟨rfl, hP2, hf2⟩
              replace h := h.eff hP2 hf2
              clear hP2 hf2
              have hZ := temp_iff s
              by_cases d0 : s.size = 0
              case pos =>
                have hd := hid (show moE s = 0 by unfold moE; rw [if_pos (.inl d0)])
                have q0 : s.toList.isEmpty = true := by rw [hZ]; exact decide_eq_true d0
                have q1 : decide ((1 : Int) < (s.size : Int)) = false := by simp; omega
                clear hZ d0
                go_wp2_with fail
                go_meet
                have e := hEq.out
                rw [hd.out, k0] at e
                rw [← e]
                exact h
              have q0 : s.toList.isEmpty = false := by rw [hZ]; exact decide_eq_false d0
              clear hZ
              by_cases d1 : s.size = 1
              case neg =>
                have hd := hid (show moE s = 3 by unfold moE; rw [if_neg (by omega)])
                have q1 : decide ((1 : Int) < (s.size : Int)) = true := by simp; omega
                clear d0 d1
                go_wp2_with fail
                refine (rfirstR_any B E9 3 [] _ h.row).mono ?_
                rintro r Z2 ⟨rfl, hP2, hf2⟩
                replace h := h.eff hP2 hf2
                go_wp2_with fail
                go_meet
                have e := hEq.out
                rw [hd.out] at e
                rw [← e]
                exact h
              obtain ⟨c, hc⟩ : ∃ c, (sb s).getD 0 0 = c := ⟨_, rfl⟩
              have hix := fun W => tidx (P := Tryz.prog) 9 Tryz.underlying9 s 0 c (by omega) hc .i64 0 rfl W
              have q1 : decide ((1 : Int) < (s.size : Int)) = false := by simp; omega
              by_cases d2 : c < 65
              case pos =>
                have hd := hid (show moE s = 3 by unfold moE; rw [if_neg (by omega)])
                have q2 : decide ((c : Int) < 65) = true := by simp; omega
                clear hc d0 d1
                go_wp2_with fail
                refine (rfirstR_any B E9 3 [] _ h.row).mono ?_
                rintro r Z2 ⟨rfl, hP2, hf2⟩
                replace h := h.eff hP2 hf2
                go_wp2_with fail
                go_meet
                have e := hEq.out
                rw [hd.out] at e
                rw [← e]
                exact h
              have q2 : decide ((c : Int) < 65) = false := by simp; omega
              by_cases d3 : 90 < c
              case pos =>
                have hd := hid (show moE s = 3 by unfold moE; rw [if_neg (by omega)])
                have q3 : decide ((90 : Int) < (c : Int)) = true := by simp; omega
                clear hc d0 d1
                go_wp2_with fail
                refine (rfirstR_any B E9 3 [] _ h.row).mono ?_
                rintro r Z2 ⟨rfl, hP2, hf2⟩
                replace h := h.eff hP2 hf2
                go_wp2_with fail
                go_meet
                have e := hEq.out
                rw [hd.out] at e
                rw [← e]
                exact h
              have q3 : decide ((90 : Int) < (c : Int)) = false := by simp; omega
              have hd := hid (show moE s = 0 by unfold moE; rw [if_pos (by omega)])
              clear hc d0 d1
              go_wp2_with fail
              go_meet
              have e := hEq.out
              rw [hd.out, k0] at e
              rw [← e]
              exact h
          case rest =>
            clear h
            have h := hcut
            clear hcut
            have hEE : E = EF := by
              rw [← hKE.out, ← hEF.out]
              have e1 : (kp (kp (kp (kp (kp (kp (kp (kp (kp 0 k) (onE s1 ⟨#[65]⟩ ⟨#[86]⟩)) x1) x2) x3) x4) kd) x5) X10) = E9 := by rw [hE1.out, hE2.out, hE3.out, hE4.out, hE5.out, hE6.out, hE7.out, hE8.out, hE9.out]
              rw [hX10.out, e1]
            subst hEE
            clear hEF hKE hs hEl hV hD h1 h2 h3 h4 h5 hX10
            have hBf := h.bel
            have r0f := held_after hBf r_0.out
            have hB2 := bthen hBw.out hBf
            have hme := h.m
            obtain ⟨F0, a0, cap0, i0, q1, q2, q3, q4, q5, q6⟩ := h.row
            have c9 := held_cell q4 2 _ rfl
            have hl4 := held_lt q4
            clear h q1 q2 q3 q5 q6 hRn hlen
            by_cases hE0 : E = 0
            case pos =>
              have t0 : (E != 0) = false := by simpa using hE0
              have hres : rmR E #[.bool b, .int .i64 ho, .int .i64 mi, .int .i64 se, .int .i64 ce, .bool (decide (s1 = ⟨#[65]⟩)), .bool ai, .int .i64 an, .bool oi, .int .i64 on, .bool pi, .int .i64 pn, .bool ci, .int .i64 cn, .bool vi, .int .i64 (sdN s10 vn), .bool db, .int .i64 dd, .int .i64 dm, .int .i64 dy] = .tuple #[.agg #[.bool b, .int .i64 ho, .int .i64 mi, .int .i64 se, .int .i64 ce, .bool (decide (s1 = ⟨#[65]⟩)), .bool ai, .int .i64 an, .bool oi, .int .i64 on, .bool pi, .int .i64 pn, .bool ci, .int .i64 cn, .bool vi, .int .i64 (sdN s10 vn), .bool db, .int .i64 dd, .int .i64 dm, .int .i64 dy], .int .i64 0] := by unfold rmR; rw [if_pos hE0]; rw [hE0]
              replace hres := hid hres
              have ya := setRow_heap wc p0_0 _ #[.bool b, .int .i64 ho, .int .i64 mi, .int .i64 se, .int .i64 ce, .bool (decide (s1 = ⟨#[65]⟩)), .bool ai, .int .i64 an, .bool oi, .int .i64 on, .bool pi, .int .i64 pn, .bool ci, .int .i64 cn, .bool vi, .int .i64 (sdN s10 vn), .bool db, .int .i64 dd, .int .i64 dm, .int .i64 dy] 29 (0, 0) r0f
              have yO : Only p0_0 wc (wc.setRow p0_0 #[.bool b, .int .i64 ho, .int .i64 mi, .int .i64 se, .int .i64 ce, .bool (decide (s1 = ⟨#[65]⟩)), .bool ai, .int .i64 an, .bool oi, .int .i64 on, .bool pi, .int .i64 pn, .bool ci, .int .i64 cn, .bool vi, .int .i64 (sdN s10 vn), .bool db, .int .i64 dd, .int .i64 dm, .int .i64 dy]) := ⟨rfl, rfl, rfl, by simp [World.setRow], fun k hk => setRow_other _ _ _ _ hk⟩
              obtain ⟨W9, hW9⟩ : ∃ X, wc.setRow p0_0 #[.bool b, .int .i64 ho, .int .i64 mi, .int .i64 se, .int .i64 ce, .bool (decide (s1 = ⟨#[65]⟩)), .bool ai, .int .i64 an, .bool oi, .int .i64 on, .bool pi, .int .i64 pn, .bool ci, .int .i64 cn, .bool vi, .int .i64 (sdN s10 vn), .bool db, .int .i64 dd, .int .i64 dm, .int .i64 dy] = X := ⟨_, rfl⟩
              rw [hW9] at ya yO
              have hB9 := hid (belowS hB2 yO (by omega))
              have hld := run_loadVar_row (P := Tryz.prog) W9 p0_0 29 29 #[.bool b, .int .i64 ho, .int .i64 mi, .int .i64 se, .int .i64 ce, .bool (decide (s1 = ⟨#[65]⟩)), .bool ai, .int .i64 an, .bool oi, .int .i64 on, .bool pi, .int .i64 pn, .bool ci, .int .i64 cn, .bool vi, .int .i64 (sdN s10 vn), .bool db, .int .i64 dd, .int .i64 dm, .int .i64 dy] (0, 0) _ ya Tryz.underlying29 rfl (by kernel_rfl)
              replace ya := hid ya
              clear yO
              go_wp2_with (first | (refine wpList_load_row rfl 29 (.tmp 6) rfl mb rfl 29 #[.bool b, .int .i64 ho, .int .i64 mi, .int .i64 se, .int .i64 ce, .bool (decide (s1 = ⟨#[65]⟩)), .bool ai, .int .i64 an, .bool oi, .int .i64 on, .bool pi, .int .i64 pn, .bool ci, .int .i64 cn, .bool vi, .int .i64 (sdN s10 vn), .bool db, .int .i64 dd, .int .i64 dm, .int .i64 dy] (0, 0) _ hme Tryz.underlying29 rfl (by kernel_rfl) ?_) | (refine wpList_store_row rfl 29 (.tmp 2) (.tmp 132) rfl p0_0 #[.bool b, .int .i64 ho, .int .i64 mi, .int .i64 se, .int .i64 ce, .bool (decide (s1 = ⟨#[65]⟩)), .bool ai, .int .i64 an, .bool oi, .int .i64 on, .bool pi, .int .i64 pn, .bool ci, .int .i64 cn, .bool vi, .int .i64 (sdN s10 vn), .bool db, .int .i64 dd, .int .i64 dm, .int .i64 dy] rfl rfl 29 _ r0f (by kernel_rfl) rfl (by simp [Value.oneCell']) ?_; rw [hW9]))
              refine bodyPost_ret (v := .tuple #[.agg #[.bool b, .int .i64 ho, .int .i64 mi, .int .i64 se, .int .i64 ce, .bool (decide (s1 = ⟨#[65]⟩)), .bool ai, .int .i64 an, .bool oi, .int .i64 on, .bool pi, .int .i64 pn, .bool ci, .int .i64 cn, .bool vi, .int .i64 (sdN s10 vn), .bool db, .int .i64 dd, .int .i64 dm, .int .i64 dy], .int .i64 0]) (by simp [results, Tryz.results15, asAddr, hld]) rfl ⟨by rw [hres.out], hB9.out⟩
            case neg =>
              have t0 : (E != 0) = true := by simpa using hE0
              have hres : rmR E #[.bool b, .int .i64 ho, .int .i64 mi, .int .i64 se, .int .i64 ce, .bool (decide (s1 = ⟨#[65]⟩)), .bool ai, .int .i64 an, .bool oi, .int .i64 on, .bool pi, .int .i64 pn, .bool ci, .int .i64 cn, .bool vi, .int .i64 (sdN s10 vn), .bool db, .int .i64 dd, .int .i64 dm, .int .i64 dy] = .tuple #[.agg #[.bool false, .int .i64 0, .int .i64 0, .int .i64 0, .int .i64 0, .bool false, .bool false, .int .i64 0, .bool false, .int .i64 0, .bool false, .int .i64 0, .bool false, .int .i64 0, .bool false, .int .i64 0, .bool false, .int .i64 0, .int .i64 0, .int .i64 0], .int .i64 E] := by unfold rmR; rw [if_neg hE0]
              replace hres := hid hres
              go_upto_region 26 with (fail)
              obtain ⟨QQ, hQQ⟩ : ∃ X, wc.drew = X := ⟨_, rfl⟩
              have rp0q : QQ.heap[p0_0]? = some (.cells #[.bool false, .int .i64 0, .int .i64 0, .int .i64 0, .int .i64 0, .bool false, .bool false, .int .i64 0, .bool false, .int .i64 0, .bool false, .int .i64 0, .bool false, .int .i64 0, .bool false, .int .i64 0, .bool false, .int .i64 0, .int .i64 0, .int .i64 0] 29 (0, 0)) := by rw [← hQQ]; exact r0f
              have c9q : QQ.cell? ⟨B, 2, none⟩ = some (.int .i64 E) := by rw [← hQQ]; exact c9
              have hBq : After w QQ := by rw [← hQQ]; exact hB2.drew
              have hlq : B < QQ.heap.size := by rw [← hQQ]; exact hl4
              have ya := setRow_heap QQ p0_0 _ #[.bool false, .int .i64 0, .int .i64 0, .int .i64 0, .int .i64 0, .bool false, .bool false, .int .i64 0, .bool false, .int .i64 0, .bool false, .int .i64 0, .bool false, .int .i64 0, .bool false, .int .i64 0, .bool false, .int .i64 0, .int .i64 0, .int .i64 0] 29 (0, 0) rp0q
              have yO : Only p0_0 QQ (QQ.setRow p0_0 #[.bool false, .int .i64 0, .int .i64 0, .int .i64 0, .int .i64 0, .bool false, .bool false, .int .i64 0, .bool false, .int .i64 0, .bool false, .int .i64 0, .bool false, .int .i64 0, .bool false, .int .i64 0, .bool false, .int .i64 0, .int .i64 0, .int .i64 0]) := ⟨rfl, rfl, rfl, by simp [World.setRow], fun k hk => setRow_other _ _ _ _ hk⟩
              obtain ⟨W9, hW9⟩ : ∃ X, QQ.setRow p0_0 #[.bool false, .int .i64 0, .int .i64 0, .int .i64 0, .int .i64 0, .bool false, .bool false, .int .i64 0, .bool false, .int .i64 0, .bool false, .int .i64 0, .bool false, .int .i64 0, .bool false, .int .i64 0, .bool false, .int .i64 0, .int .i64 0, .int .i64 0] = X := ⟨_, rfl⟩
              rw [hW9] at ya yO
              have hB9 := hid (belowS hBq yO (by omega))
              have hld := run_loadVar_row (P := Tryz.prog) W9 p0_0 29 29 #[.bool false, .int .i64 0, .int .i64 0, .int .i64 0, .int .i64 0, .bool false, .bool false, .int .i64 0, .bool false, .int .i64 0, .bool false, .int .i64 0, .bool false, .int .i64 0, .bool false, .int .i64 0, .bool false, .int .i64 0, .int .i64 0, .int .i64 0] (0, 0) _ ya Tryz.underlying29 rfl (by kernel_rfl)
              replace ya := hid ya
              clear yO
              refine wp_region_K (N := QQ.heap.size) (X := [p0_0]) (by kernel_rfl) ?_
              rw [hQQ]
              refine wpAnyK_take 0 rfl (by kernel_rfl) (by kernel_rfl) (by kernel_rfl) (fun _ _ _ _ h => h) ⟨_, Or.inl ⟨by rfl, fun w2 hb => by (go_simp; try with_reducible rfl)⟩, _, by (go_simp; try rfl), ?_⟩
              refine wpAnyK_take 1 rfl (by kernel_rfl) (by kernel_rfl) (by kernel_rfl) (fun _ _ _ _ h => h) ⟨_, Or.inl ⟨by rfl, fun w2 hb => by (go_simp; try with_reducible rfl)⟩, _, by (go_simp; try rfl), ?_⟩
              refine wpAnyK_take 2 rfl (by kernel_rfl) (by kernel_rfl) (by kernel_rfl) (fun _ _ _ _ h => h) ⟨_, Or.inl ⟨by rfl, fun w2 hb => by (go_simp; try with_reducible rfl)⟩, _, by (go_simp; try rfl), ?_⟩
              refine wpAnyK_take 3 rfl (by kernel_rfl) (by kernel_rfl) (by kernel_rfl) (fun _ _ _ _ h => h) ⟨_, Or.inl ⟨by rfl, fun w2 hb => by (go_simp; try with_reducible rfl)⟩, _, by (go_simp; try rfl), ?_⟩
              refine wpAnyK_take 4 rfl (by kernel_rfl) (by kernel_rfl) (by kernel_rfl) (fun _ _ _ _ h => h) ⟨_, Or.inl ⟨by rfl, fun w2 hb => by (have h0 := Kp.cellB hb (by simpa using hlq) (by simp; omega) c9q; go_simp; try with_reducible rfl)⟩, _, by (go_simp; try rfl), ?_⟩
              refine wpAnyK_only 5 rfl (by kernel_rfl) (by rfl) (fun K hK => ?_)
              refine wp_store_row 29 (.tmp 2) (.tmp 127) rfl p0_0 #[.bool false, .int .i64 0, .int .i64 0, .int .i64 0, .int .i64 0, .bool false, .bool false, .int .i64 0, .bool false, .int .i64 0, .bool false, .int .i64 0, .bool false, .int .i64 0, .bool false, .int .i64 0, .bool false, .int .i64 0, .int .i64 0, .int .i64 0] rfl rfl 29 _ rp0q (by kernel_rfl) rfl (by simp [Value.oneCell']) ?_
              refine hK _ _ ⟨⟨rfl, rfl, rfl, by simp [World.setRow], fun k h1 h2 => setRow_other _ _ _ _ (fun e => h2 (by simp [e]))⟩, ?_⟩
              clear hK
              rw [hW9]
              refine wpAnyK_take 6 rfl (by kernel_rfl) (by kernel_rfl) (by kernel_rfl) (fun _ _ _ _ h => h) ⟨_, Or.inl ⟨by rfl, fun w2 hb => by (go_simp; try with_reducible rfl)⟩, _, by (go_simp; try rfl), ?_⟩
              refine wpAnyK_done (by kernel_rfl) ?_ _
              go_wp2_with fail
              refine bodyPost_ret (v := .tuple #[.agg #[.bool false, .int .i64 0, .int .i64 0, .int .i64 0, .int .i64 0, .bool false, .bool false, .int .i64 0, .bool false, .int .i64 0, .bool false, .int .i64 0, .bool false, .int .i64 0, .bool false, .int .i64 0, .bool false, .int .i64 0, .int .i64 0, .int .i64 0], .int .i64 E]) (by simp [results, Tryz.results15, asAddr, hld]) rfl ⟨by rw [hres.out], hB9.out⟩

end Go.Proofs.YthnoomdhgbaecaaGreatDoor

/- Package rmc: == of messages, fields of another number, knows. -/
namespace Go.Proofs.YthnoomdhgbaecaaGreatDoor

open Go.ChangeShapes Go.WideShapes Go.ChangeAt Go.RowKit

set_option linter.unusedVariables false

set_option linter.unusedSimpArgs false

set_option maxRecDepth 100000 in
set_option maxHeartbeats 4000000 in
theorem eqK5 (b : Bool) (h m c2 c : Int) (w : World) : (Op.equalIn 9999 23 (.agg #[.bool b, .int .i64 h, .int .i64 m, .int .i64 c2, .int .i64 c]) (.agg #[.bool b, .int .i64 h, .int .i64 m, .int .i64 c2, .int .i64 c])).run Tryz.prog w = .ok true w := by
  rw [show (9999 : Nat) = 9998 + 1 from rfl, run_equalIn_agg w 9998 _ _ _ (by kernel_rfl) (by kernel_rfl)]
  go_simp
set_option maxRecDepth 100000 in
set_option maxHeartbeats 4000000 in
theorem eqM2 (i : Bool) (n : Int) (w : World) : (Op.equalIn 9999 25 (.agg #[.bool i, .int .i64 n]) (.agg #[.bool i, .int .i64 n])).run Tryz.prog w = .ok true w := by
  rw [show (9999 : Nat) = 9998 + 1 from rfl, run_equalIn_agg w 9998 _ _ _ (by kernel_rfl) (by kernel_rfl)]
  go_simp
set_option maxRecDepth 100000 in
set_option maxHeartbeats 4000000 in
theorem eqD4 (b : Bool) (d m y : Int) (w : World) : (Op.equalIn 9999 27 (.agg #[.bool b, .int .i64 d, .int .i64 m, .int .i64 y]) (.agg #[.bool b, .int .i64 d, .int .i64 m, .int .i64 y])).run Tryz.prog w = .ok true w := by
  rw [show (9999 : Nat) = 9998 + 1 from rfl, run_equalIn_agg w 9998 _ _ _ (by kernel_rfl) (by kernel_rfl)]
  go_simp
set_option maxRecDepth 100000 in
set_option maxHeartbeats 4000000 in
theorem eqR20 (tb : Bool) (tho : Int) (tmi : Int) (tse : Int) (tce : Int) (ac : Bool) (ai : Bool) (an : Int) (oi : Bool) (on : Int) (pi : Bool) (pn : Int) (ci : Bool) (cn : Int) (vi : Bool) (vn : Int) (db : Bool) (dd : Int) (dm : Int) (dy : Int) (w : World) : (Op.equalIn 10000 29 (.agg #[.bool tb, .int .i64 tho, .int .i64 tmi, .int .i64 tse, .int .i64 tce, .bool ac, .bool ai, .int .i64 an, .bool oi, .int .i64 on, .bool pi, .int .i64 pn, .bool ci, .int .i64 cn, .bool vi, .int .i64 vn, .bool db, .int .i64 dd, .int .i64 dm, .int .i64 dy]) (.agg #[.bool tb, .int .i64 tho, .int .i64 tmi, .int .i64 tse, .int .i64 tce, .bool ac, .bool ai, .int .i64 an, .bool oi, .int .i64 on, .bool pi, .int .i64 pn, .bool ci, .int .i64 cn, .bool vi, .int .i64 vn, .bool db, .int .i64 dd, .int .i64 dm, .int .i64 dy])).run Tryz.prog w = .ok true w := by
  have eC := fun W => eqK5 tb tho tmi tse tce W
  have eN := fun i n W => eqM2 i n W
  have eD := fun W => eqD4 db dd dm dy W
  rw [show (10000 : Nat) = 9999 + 1 from rfl, run_equalIn_agg w 9999 _ _ _ (by kernel_rfl) (by kernel_rfl)]
  go_simp
set_option maxRecDepth 100000 in
set_option maxHeartbeats 8000000 in
theorem rmtake_no (w : World) (a : Option Addr) (n cap : Nat) (hn : n ≠ 11 ∧ n ≠ 12) : Calls Tryz.prog 14 #[.slice a n cap] w fun r w' => r = .returned (.tuple #[.agg #[.bool false, .int .i64 0, .int .i64 0, .int .i64 0, .int .i64 0, .bool false, .bool false, .int .i64 0, .bool false, .int .i64 0, .bool false, .int .i64 0, .bool false, .int .i64 0, .bool false, .int .i64 0, .bool false, .int .i64 0, .int .i64 0, .int .i64 0], .int .i64 3]) ∧ After w w' := by
  have b1 : ((n : Int) != 11) = true := by simp; omega
  have b2 : ((n : Int) != 12) = true := by simp; omega
  have b3 : ((n : Int) == 11) = false := by simp; omega
  have b4 : ((n : Int) == 12) = false := by simp; omega
  clear hn
  go_enter Tryz.func14, Tryz.ntmps14
  go_upto_region 0 with (fail)
  apply wp_region_seg0 (w := w) (S := [.al 1000, .q []]) (E := [.al ((fun p => .pointer (some ⟨p, 0, none⟩)), _) 1000, .q0 _]) rfl (by kernel_rfl) rfl rfl
  intro th hge hne
  refine Seg.step _ rfl ⟨by rfl, fun U hU => ?_⟩ ?_
  · go_simp; exact vp_alloc rfl rfl rfl
  refine Seg.sa ?_
  refine Seg.sq ?_
  refine Seg.stop (fun U1 hU hk => ?_)
  have nb0 := hge 0 _ _ rfl
  have rb0 := (hk 0 _ _ rfl trivial).1.2 (by simp)
  clear hk hge hne
  generalize th (0 + 0) = p0_0 at *
  dsimp only at rb0
  have r_p0_0 := rb0
  clear rb0
  have n_p0_0 := nb0
  clear nb0
  have sz1 := hU.size
  have hB : Below w.heap.size w U1 := hU
  clear hU
  have ya := setRow_heap U1 p0_0 _ #[.bool false, .int .i64 0, .int .i64 0, .int .i64 0, .int .i64 0, .bool false, .bool false, .int .i64 0, .bool false, .int .i64 0, .bool false, .int .i64 0, .bool false, .int .i64 0, .bool false, .int .i64 0, .bool false, .int .i64 0, .int .i64 0, .int .i64 0] 29 (0, 0) r_p0_0
  have yO : Only p0_0 U1 (U1.setRow p0_0 #[.bool false, .int .i64 0, .int .i64 0, .int .i64 0, .int .i64 0, .bool false, .bool false, .int .i64 0, .bool false, .int .i64 0, .bool false, .int .i64 0, .bool false, .int .i64 0, .bool false, .int .i64 0, .bool false, .int .i64 0, .int .i64 0, .int .i64 0]) := ⟨rfl, rfl, rfl, by simp [World.setRow], fun k hk => setRow_other _ _ _ _ hk⟩
  obtain ⟨W9, hW9⟩ : ∃ X, U1.setRow p0_0 #[.bool false, .int .i64 0, .int .i64 0, .int .i64 0, .int .i64 0, .bool false, .bool false, .int .i64 0, .bool false, .int .i64 0, .bool false, .int .i64 0, .bool false, .int .i64 0, .bool false, .int .i64 0, .bool false, .int .i64 0, .int .i64 0, .int .i64 0] = X := ⟨_, rfl⟩
  rw [hW9] at ya yO
  have hB9 := hid (belowS hB yO (by omega))
  have hld := run_loadVar_row (P := Tryz.prog) W9 p0_0 29 29 #[.bool false, .int .i64 0, .int .i64 0, .int .i64 0, .int .i64 0, .bool false, .bool false, .int .i64 0, .bool false, .int .i64 0, .bool false, .int .i64 0, .bool false, .int .i64 0, .bool false, .int .i64 0, .bool false, .int .i64 0, .int .i64 0, .int .i64 0] (0, 0) _ ya Tryz.underlying29 rfl (by kernel_rfl)
  replace ya := hid ya
  clear yO
  go_wp2_with (first | (refine wpList_store_row rfl 29 (.tmp 2) (.tmp 15) rfl p0_0 #[.bool false, .int .i64 0, .int .i64 0, .int .i64 0, .int .i64 0, .bool false, .bool false, .int .i64 0, .bool false, .int .i64 0, .bool false, .int .i64 0, .bool false, .int .i64 0, .bool false, .int .i64 0, .bool false, .int .i64 0, .int .i64 0, .int .i64 0] rfl rfl 29 _ r_p0_0 (by kernel_rfl) rfl (by simp [Value.oneCell']) ?_; rw [hW9]))
  refine bodyPost_ret (v := .tuple #[.agg #[.bool false, .int .i64 0, .int .i64 0, .int .i64 0, .int .i64 0, .bool false, .bool false, .int .i64 0, .bool false, .int .i64 0, .bool false, .int .i64 0, .bool false, .int .i64 0, .bool false, .int .i64 0, .bool false, .int .i64 0, .int .i64 0, .int .i64 0], .int .i64 3]) (by simp [results, Tryz.results14, asAddr, hld]) rfl ⟨rfl, hB9.out⟩
set_option maxRecDepth 100000 in
set_option maxHeartbeats 8000000 in
theorem rrmtake_no (w : World) (a : Option Addr) (n cap : Nat) (hn : n ≠ 11 ∧ n ≠ 12) : Calls Tryz.prog 15 #[.slice a n cap] w fun r w' => r = .returned (.tuple #[.agg #[.bool false, .int .i64 0, .int .i64 0, .int .i64 0, .int .i64 0, .bool false, .bool false, .int .i64 0, .bool false, .int .i64 0, .bool false, .int .i64 0, .bool false, .int .i64 0, .bool false, .int .i64 0, .bool false, .int .i64 0, .int .i64 0, .int .i64 0], .int .i64 3]) ∧ After w w' := by
  have b1 : ((n : Int) != 11) = true := by simp; omega
  have b2 : ((n : Int) != 12) = true := by simp; omega
  have b3 : ((n : Int) == 11) = false := by simp; omega
  have b4 : ((n : Int) == 12) = false := by simp; omega
  clear hn
  go_enter Tryz.func15, Tryz.ntmps15
  go_upto_region 0 with (fail)
  apply wp_region_seg0 (w := w) (S := [.al 1000, .q []]) (E := [.al ((fun p => .pointer (some ⟨p, 0, none⟩)), _) 1000, .q0 _]) rfl (by kernel_rfl) rfl rfl
  intro th hge hne
  refine Seg.step _ rfl ⟨by rfl, fun U hU => ?_⟩ ?_
  · go_simp; exact vp_alloc rfl rfl rfl
  refine Seg.sa ?_
  refine Seg.sq ?_
  refine Seg.stop (fun U1 hU hk => ?_)
  have nb0 := hge 0 _ _ rfl
  have rb0 := (hk 0 _ _ rfl trivial).1.2 (by simp)
  clear hk hge hne
  generalize th (0 + 0) = p0_0 at *
  dsimp only at rb0
  have r_p0_0 := rb0
  clear rb0
  have n_p0_0 := nb0
  clear nb0
  have sz1 := hU.size
  have hB : Below w.heap.size w U1 := hU
  clear hU
  have ya := setRow_heap U1 p0_0 _ #[.bool false, .int .i64 0, .int .i64 0, .int .i64 0, .int .i64 0, .bool false, .bool false, .int .i64 0, .bool false, .int .i64 0, .bool false, .int .i64 0, .bool false, .int .i64 0, .bool false, .int .i64 0, .bool false, .int .i64 0, .int .i64 0, .int .i64 0] 29 (0, 0) r_p0_0
  have yO : Only p0_0 U1 (U1.setRow p0_0 #[.bool false, .int .i64 0, .int .i64 0, .int .i64 0, .int .i64 0, .bool false, .bool false, .int .i64 0, .bool false, .int .i64 0, .bool false, .int .i64 0, .bool false, .int .i64 0, .bool false, .int .i64 0, .bool false, .int .i64 0, .int .i64 0, .int .i64 0]) := ⟨rfl, rfl, rfl, by simp [World.setRow], fun k hk => setRow_other _ _ _ _ hk⟩
  obtain ⟨W9, hW9⟩ : ∃ X, U1.setRow p0_0 #[.bool false, .int .i64 0, .int .i64 0, .int .i64 0, .int .i64 0, .bool false, .bool false, .int .i64 0, .bool false, .int .i64 0, .bool false, .int .i64 0, .bool false, .int .i64 0, .bool false, .int .i64 0, .bool false, .int .i64 0, .int .i64 0, .int .i64 0] = X := ⟨_, rfl⟩
  rw [hW9] at ya yO
  have hB9 := hid (belowS hB yO (by omega))
  have hld := run_loadVar_row (P := Tryz.prog) W9 p0_0 29 29 #[.bool false, .int .i64 0, .int .i64 0, .int .i64 0, .int .i64 0, .bool false, .bool false, .int .i64 0, .bool false, .int .i64 0, .bool false, .int .i64 0, .bool false, .int .i64 0, .bool false, .int .i64 0, .bool false, .int .i64 0, .int .i64 0, .int .i64 0] (0, 0) _ ya Tryz.underlying29 rfl (by kernel_rfl)
  replace ya := hid ya
  clear yO
  go_wp2_with (first | (refine wpList_store_row rfl 29 (.tmp 2) (.tmp 19) rfl p0_0 #[.bool false, .int .i64 0, .int .i64 0, .int .i64 0, .int .i64 0, .bool false, .bool false, .int .i64 0, .bool false, .int .i64 0, .bool false, .int .i64 0, .bool false, .int .i64 0, .bool false, .int .i64 0, .bool false, .int .i64 0, .int .i64 0, .int .i64 0] rfl rfl 29 _ r_p0_0 (by kernel_rfl) rfl (by simp [Value.oneCell']) ?_; rw [hW9]))
  refine bodyPost_ret (v := .tuple #[.agg #[.bool false, .int .i64 0, .int .i64 0, .int .i64 0, .int .i64 0, .bool false, .bool false, .int .i64 0, .bool false, .int .i64 0, .bool false, .int .i64 0, .bool false, .int .i64 0, .bool false, .int .i64 0, .bool false, .int .i64 0, .int .i64 0, .int .i64 0], .int .i64 3]) (by simp [results, Tryz.results15, asAddr, hld]) rfl ⟨rfl, hB9.out⟩
theorem num26_any (n : Int) (w : World) : Calls Tryz.prog 11 #[.int .i64 n] w fun e w' => e = .returned (.int .i64 n) ∧ w' = w := by
  go_enter Tryz.func11, Tryz.ntmps11
  go_wp2_with fail
  go_ret
  exact ⟨rfl, rfl⟩
set_option maxRecDepth 100000 in
set_option maxHeartbeats 8000000 in
theorem ktake26 (w : World) (a : Option Addr) (hEl : Els w 1 a 11 11 (strV23 [⟨#[]⟩, ⟨#[86]⟩, ⟨#[]⟩, ⟨#[]⟩, ⟨#[]⟩, ⟨#[]⟩, ⟨#[]⟩, ⟨#[]⟩, ⟨#[]⟩, ⟨#[]⟩, ⟨#[]⟩])) : Calls Tryz.prog 14 #[.slice a 11 11] w fun r w' => r = .returned (.tuple #[.agg #[.bool false, .int .i64 0, .int .i64 0, .int .i64 0, .int .i64 0, .bool false, .bool false, .int .i64 0, .bool false, .int .i64 0, .bool false, .int .i64 0, .bool false, .int .i64 0, .bool false, .int .i64 0, .bool false, .int .i64 0, .int .i64 0, .int .i64 0], .int .i64 0]) ∧ After w w' := by
  have hV : takeV (sb ⟨#[]⟩) = .tuple #[.agg #[.bool false, .int .i64 0, .int .i64 0, .int .i64 0, .int .i64 0], .int .i64 0] := by rfl
  have hD : takeD (sb ⟨#[]⟩) = .tuple #[.agg #[.bool false, .int .i64 0, .int .i64 0, .int .i64 0], .int .i64 0] := by rfl
  have h1 : ∀ lat, tkaD ⟨#[]⟩ ⟨#[]⟩ lat = (false, 0, 0) := fun lat => rfl
  have hN : takD ⟨#[]⟩ 1 4 2 0 999999 = (false, 0, 0) ∧ takD ⟨#[]⟩ 1 3 2 0 36000 = (false, 0, 0) ∧ takD ⟨#[]⟩ 1 3 1 0 1800 = (false, 0, 0) := by decide +kernel
  obtain ⟨n1, n2, n3⟩ := hN
  have hE : moL (kp (kp (kp (kp (kp (kp (kp (kp 0 0) (onE ⟨#[86]⟩ ⟨#[65]⟩ ⟨#[86]⟩)) 0) 0) 0) 0) 0) (tvD (false, 0, 0) ⟨#[]⟩).2.2) [] = 0 := by decide +kernel
  have k1 := rmtake_any ⟨#[]⟩ ⟨#[86]⟩ ⟨#[]⟩ ⟨#[]⟩ ⟨#[]⟩ ⟨#[]⟩ ⟨#[]⟩ ⟨#[]⟩ ⟨#[]⟩ ⟨#[]⟩ ⟨#[]⟩ [] (by decide) hV (h1 _) (h1 _) n1 n2 hD n3 hE w a 11 11 rfl hEl (by decide +kernel)
  have hq : tvD (false, 0, 0) ⟨#[]⟩ = (false, 0, 0) := by decide +kernel
  have hac : decide ((⟨#[86]⟩ : ByteArray) = ⟨#[65]⟩) = false := by decide +kernel
  unfold rmR at k1
  rw [if_pos rfl, hq, hac] at k1
  exact k1
set_option maxRecDepth 100000 in
set_option maxHeartbeats 8000000 in
theorem kput26 (U : World) (h : Tab U) : Calls Tryz.prog 6 #[.agg #[.bool false, .int .i64 0, .int .i64 0, .int .i64 0, .int .i64 0, .bool true, .bool false, .int .i64 0, .bool false, .int .i64 0, .bool false, .int .i64 0, .bool false, .int .i64 0, .bool false, .int .i64 0, .bool false, .int .i64 0, .int .i64 0, .int .i64 0]] U fun r w' => DnOk U 0 [⟨#[]⟩, ⟨#[65]⟩, ⟨#[]⟩, ⟨#[]⟩, ⟨#[]⟩, ⟨#[]⟩, ⟨#[]⟩, ⟨#[]⟩, ⟨#[]⟩, ⟨#[]⟩, ⟨#[]⟩] r w' := by
  have hL : fL (rmI ⟨#[]⟩ 0 true false 0 false 0 false 0 false 0 false 0 ⟨#[]⟩ 0) = [⟨#[]⟩, ⟨#[65]⟩, ⟨#[]⟩, ⟨#[]⟩, ⟨#[]⟩, ⟨#[]⟩, ⟨#[]⟩, ⟨#[]⟩, ⟨#[]⟩, ⟨#[]⟩, ⟨#[]⟩] := by decide +kernel
  have hE0 : fE (rmI ⟨#[]⟩ 0 true false 0 false 0 false 0 false 0 false 0 ⟨#[]⟩ 0) = 0 := by decide +kernel
  have k2 := rmput_any false 0 0 0 0 true false 0 false 0 false 0 false 0 false 0 false 0 0 0 ⟨#[]⟩ 0 ⟨#[]⟩ 0 (by rfl) (by rfl) U (by decide) h
  rw [hL, hE0] at k2
  exact k2
set_option maxRecDepth 100000 in
set_option maxHeartbeats 8000000 in
theorem knows26_any (w : World) (hT : Tab w) : Calls Tryz.prog 12 #[] w fun e w' => e = .returned (.bool true) ∧ After w w' := by
  have k1 := hid (fun (U : World) p (h : U.heap[p]? = some (.cells #[.string ⟨#[]⟩, .string ⟨#[86]⟩, .string ⟨#[]⟩, .string ⟨#[]⟩, .string ⟨#[]⟩, .string ⟨#[]⟩, .string ⟨#[]⟩, .string ⟨#[]⟩, .string ⟨#[]⟩, .string ⟨#[]⟩, .string ⟨#[]⟩] 9 (0, 0))) => ktake26 U (some ⟨p, 0, none⟩) (els_row23 [⟨#[]⟩, ⟨#[86]⟩, ⟨#[]⟩, ⟨#[]⟩, ⟨#[]⟩, ⟨#[]⟩, ⟨#[]⟩, ⟨#[]⟩, ⟨#[]⟩, ⟨#[]⟩, ⟨#[]⟩] U p 11 _ rfl (by decide) rfl h))
  have k2 := hid (fun U (h : Tab U) => kput26 U h)
  replace hT := hid hT
  go_enter Tryz.func12, Tryz.ntmps12
  go_upto_region 0 with (fail)
  go_upto_region 1 with (fail)
  apply wp_region_seg0 (w := w) (S := [.al 1000, .q [], .q [], .q [], .q [], .al 6, .st 5 [], .q []]) (E := [.al ((fun p => .slice (some ⟨p, 0, none⟩) 11 11), _) 1000, .c0 _, .q0 _, .q0 _, .q0 _, .al ((fun p => .pointer (some ⟨p, 0, none⟩)), _) 6, .s0 5 (.cells _ _), .q0 _]) rfl (by kernel_rfl) rfl rfl
  intro th hge hne
  refine Seg.step _ rfl ⟨by rfl, fun U hU => ?_⟩ ?_
  · go_simp; exact vp_alloc rfl rfl rfl
  refine Seg.sa ?_
  refine Seg.step _ rfl (Or.inl ⟨by rfl, fun U hU => ?_⟩) ?_
  · go_simp
    refine vp_call (k1.out _ _ ((hU.2.1 0 _ _ rfl (by decide)).1.2 (by simp)))
  refine Seg.sa ?_
  iterate 3 refine Seg.sq ?_
  refine Seg.step _ rfl ⟨by rfl, fun U hU => ?_⟩ ?_
  · go_simp; exact vp_alloc rfl rfl rfl
  refine Seg.sa ?_
  refine Seg.step _ rfl ⟨by rfl, fun U z k hz hU hc => ?_⟩ ?_
  · have hz2 := Option.some.inj hz
    cases hz2; clear hz
    exact vp_store_agg _ _ _ rfl hc rfl rfl (by kernel_rfl) rfl (by rfl)
  refine Seg.sa ?_
  refine Seg.sq ?_
  refine Seg.stop (fun U1 hU hk => ?_)
  have nb0 := hge 0 _ _ rfl
  have rb0 := (hk 0 _ _ rfl trivial).1.2 (by simp)
  have nb5 := hge 5 _ _ rfl
  have rb5 := (hk 5 _ 6 rfl trivial).1.1 trivial _ (Nat.zero_le _) rfl
  have ne0_5 := hne 0 5 _ _ _ _ rfl rfl (by omega)
  clear hk hge hne
  generalize th (0 + 0) = p1_0 at *
  dsimp only at rb0
  generalize th (0 + 5) = p1_5 at *
  simp only [Ent.obj] at rb5
  have r_p1_0 := rb0
  clear rb0
  have n_p1_0 := nb0
  clear nb0
  have d_p1_0_p1_5 := ne0_5
  clear ne0_5
  have r_p1_5 := rb5
  clear rb5
  have n_p1_5 := nb5
  clear nb5
  have sz1 := hU.size
  have hB : Below w.heap.size w U1 := hU
  clear hU
  replace hT := hid (hT.out.on hB)
  have r1 := hid r_p1_5
  replace hB := hid hB
  clear r_p1_5 r_p1_0 n_p1_0 n_p1_5 d_p1_0_p1_5 k1
  go_wp2_with fail
  refine (k2.out _ hT.out).mono ?_
  rintro r V3 ⟨a9, c9, rfl, g1, -, hA2⟩
  replace r1 := hid (held_after hA2 r1.out)
  replace hB := hid (bthen hB.out hA2)
  clear hA2 hT k2
  simp only [if_true, List.length_cons, List.length_nil, Nat.zero_add, Nat.reduceAdd] at g1
  obtain ⟨b5, o5, rfl, d5⟩ := g1.at1 (i := 1) (v0 := .string ⟨#[65]⟩) rfl
  have hq := fun W => eqR20 false 0 0 0 0 false false 0 false 0 false 0 false 0 false 0 false 0 0 0 W
  clear g1
  try simp only [if_true, List.length_cons, List.length_nil, Nat.zero_add, Nat.reduceAdd]
  go_wp2_with (first | (refine wpList_load_row rfl 29 (.tmp 1) rfl p1_5 rfl 29 #[.bool false, .int .i64 0, .int .i64 0, .int .i64 0, .int .i64 0, .bool false, .bool false, .int .i64 0, .bool false, .int .i64 0, .bool false, .int .i64 0, .bool false, .int .i64 0, .bool false, .int .i64 0, .bool false, .int .i64 0, .int .i64 0, .int .i64 0] (0, 0) _ r1.out Tryz.underlying29 rfl (by kernel_rfl) ?_))
  refine (num26_any 0 _).mono ?_
  rintro r V ⟨rfl, hv⟩
  obtain rfl : V3 = V := hv.symm
  go_wp2_with fail
  refine (num26_any 0 _).mono ?_
  rintro r V ⟨rfl, hv⟩
  obtain rfl : V3 = V := hv.symm
  go_wp2_with fail
  go_ret
  exact ⟨ret_bool (by simp), hB.out⟩
theorem tv_err (e : Int) (i : Bool) (n x : Int) (u : ByteArray) : kp (kp e x) (sdE u i) = kp e (tvD (i, n, x) u).2.2 := by
  have h3 : sdE u i = 0 ∨ sdE u i = 3 := by unfold sdE; split <;> split <;> simp
  unfold tvD
  dsimp only
  by_cases hx : x = 0
  · subst hx
    rw [if_neg (fun h => h rfl)]
    rcases h3 with h | h
    · rw [h, if_neg (fun h => h rfl)]; unfold kp; split <;> simp_all
    · rw [h, if_pos (by decide)]; unfold kp; split <;> simp_all
  · rw [if_pos hx]
    unfold kp
    by_cases he : e = 0
    · subst he; rw [if_pos rfl, if_neg hx]
    · rw [if_neg he, if_neg he]
theorem moL_zero {e : Int} {R : List ByteArray} (h : moL e R = 0) : e = 0 := by
  cases R with
  | nil => exact h
  | cons s r => exact (kp_ok h).1
theorem tv_val {i : Bool} {n x : Int} {u : ByteArray} (h : (tvD (i, n, x) u).2.2 = 0) : x = 0 ∧ sdE u i = 0 ∧ (tvD (i, n, x) u).1 = i ∧ (tvD (i, n, x) u).2.1 = sdN u n := by
  unfold tvD at h ⊢
  dsimp only at h ⊢
  by_cases hx : x = 0
  · subst hx
    rw [if_neg (fun h => h rfl)] at h ⊢
    by_cases hs : sdE u i = 0
    · rw [hs, if_neg (fun h => h rfl)]; exact ⟨rfl, rfl, rfl, rfl⟩
    · rw [if_pos hs] at h; cases h
  · rw [if_pos hx] at h; exact absurd h hx
theorem list11 {F : List ByteArray} (h : F.length = 11 ∨ F.length = 12) : ∃ s0 s1 s2 s3 s4 s5 s6 s7 s8 s9 s10 R, R.length ≤ 1 ∧ F.length = 11 + R.length ∧ F = s0 :: s1 :: s2 :: s3 :: s4 :: s5 :: s6 :: s7 :: s8 :: s9 :: s10 :: R := by
  match F, h with
  | [s0, s1, s2, s3, s4, s5, s6, s7, s8, s9, s10], _ => exact ⟨s0, s1, s2, s3, s4, s5, s6, s7, s8, s9, s10, [], by simp, rfl, rfl⟩
  | [s0, s1, s2, s3, s4, s5, s6, s7, s8, s9, s10, s11], _ => exact ⟨s0, s1, s2, s3, s4, s5, s6, s7, s8, s9, s10, [s11], by simp, rfl, rfl⟩
set_option maxRecDepth 100000 in
set_option maxHeartbeats 8000000 in
theorem two26 (F : List ByteArray) (len : Nat) (hlen : F.length = len) (h100 : ∀ f ∈ F, f.size ≤ 100) : ∃ (b : Bool) (ho : Int) (mi : Int) (se : Int) (ce : Int) (ac : Bool) (ai : Bool) (an : Int) (oi : Bool) (on : Int) (pi : Bool) (pn : Int) (ci : Bool) (cn : Int) (vi : Bool) (vn : Int) (db : Bool) (dd : Int) (dm : Int) (dy : Int) (E : Int), (∀ U a cap, Els U 1 a len cap (strV23 F) → Calls Tryz.prog 14 #[.slice a len cap] U fun r w' => r = .returned (.tuple #[.agg #[.bool b, .int .i64 ho, .int .i64 mi, .int .i64 se, .int .i64 ce, .bool ac, .bool ai, .int .i64 an, .bool oi, .int .i64 on, .bool pi, .int .i64 pn, .bool ci, .int .i64 cn, .bool vi, .int .i64 vn, .bool db, .int .i64 dd, .int .i64 dm, .int .i64 dy], .int .i64 E]) ∧ After U w') ∧ (∀ U a cap, Els U 1 a len cap (strV23 F) → Calls Tryz.prog 15 #[.slice a len cap] U fun r w' => r = .returned (.tuple #[.agg #[.bool b, .int .i64 ho, .int .i64 mi, .int .i64 se, .int .i64 ce, .bool ac, .bool ai, .int .i64 an, .bool oi, .int .i64 on, .bool pi, .int .i64 pn, .bool ci, .int .i64 cn, .bool vi, .int .i64 vn, .bool db, .int .i64 dd, .int .i64 dm, .int .i64 dy], .int .i64 E]) ∧ After U w') := by
  by_cases hl : len = 11 ∨ len = 12
  case neg => exact ⟨false, 0, 0, 0, 0, false, false, 0, false, 0, false, 0, false, 0, false, 0, false, 0, 0, 0, 3, fun U a cap _ => rmtake_no U a len cap (by omega), fun U a cap _ => rrmtake_no U a len cap (by omega)⟩
  obtain ⟨s0, s1, s2, s3, s4, s5, s6, s7, s8, s9, s10, R, hR, hn, rfl⟩ := list11 (hlen ▸ hl)
  rw [hlen] at hn
  obtain ⟨b, ho, mi, se, ce, k, hV, -⟩ := takeV_form (sb s0)
  obtain ⟨⟨ai, an, x1⟩, h1⟩ : ∃ r, tkaD s2 s3 true = r := ⟨_, rfl⟩
  obtain ⟨⟨oi, on, x2⟩, h2⟩ : ∃ r, tkaD s4 s5 false = r := ⟨_, rfl⟩
  obtain ⟨⟨pi, pn, x3⟩, h3⟩ : ∃ r, takD s6 1 4 2 0 999999 = r := ⟨_, rfl⟩
  obtain ⟨⟨ci, cn, x4⟩, h4⟩ : ∃ r, takD s7 1 3 2 0 36000 = r := ⟨_, rfl⟩
  obtain ⟨db, dd, dm, dy, kd, hD⟩ := takeD_form26 (sb s8)
  obtain ⟨⟨vi, vn, x5⟩, h5⟩ : ∃ r, takD s9 1 3 1 0 1800 = r := ⟨_, rfl⟩
  obtain ⟨E, hE⟩ : ∃ E, moL (kp (kp (kp (kp (kp (kp (kp (kp 0 k) (onE s1 ⟨#[65]⟩ ⟨#[86]⟩)) x1) x2) x3) x4) kd) (tvD (vi, vn, x5) s10).2.2) R = E := ⟨_, rfl⟩
  have hE2 : moL (kp (kp (kp (kp (kp (kp (kp (kp (kp 0 k) (onE s1 ⟨#[65]⟩ ⟨#[86]⟩)) x1) x2) x3) x4) kd) x5) (sdE s10 vi)) R = E := by rw [← hE, tv_err _ vi vn]
  have h1000 : ∀ s ∈ (s0 :: s1 :: s2 :: s3 :: s4 :: s5 :: s6 :: s7 :: s8 :: s9 :: s10 :: R), s.size ≤ 1000 := fun s hs => Nat.le_trans (h100 s hs) (by decide)
  by_cases hE0 : E = 0
  · subst hE0
    have hq := tv_val (kp_ok (moL_zero hE)).2
    refine ⟨b, ho, mi, se, ce, decide (s1 = ⟨#[65]⟩), ai, an, oi, on, pi, pn, ci, cn, vi, (sdN s10 vn), db, dd, dm, dy, 0, fun U a cap hU => ?_, fun U a cap hU => rrmtake_any s0 s1 s2 s3 s4 s5 s6 s7 s8 s9 s10 R hR hV h1 h2 h3 h4 hD h5 hE2 U a len cap hn hU h1000⟩
    have k := rmtake_any s0 s1 s2 s3 s4 s5 s6 s7 s8 s9 s10 R hR hV h1 h2 h3 h4 hD h5 hE U a len cap hn hU h1000
    rw [hq.2.2.1, hq.2.2.2] at k
    exact k
  · refine ⟨false, 0, 0, 0, 0, false, false, 0, false, 0, false, 0, false, 0, false, 0, false, 0, 0, 0, E, fun U a cap hU => ?_, fun U a cap hU => ?_⟩
    · have k := rmtake_any s0 s1 s2 s3 s4 s5 s6 s7 s8 s9 s10 R hR hV h1 h2 h3 h4 hD h5 hE U a len cap hn hU h1000
      unfold rmR at k
      rw [if_neg hE0] at k
      exact k
    · have k := rrmtake_any s0 s1 s2 s3 s4 s5 s6 s7 s8 s9 s10 R hR hV h1 h2 h3 h4 hD h5 hE2 U a len cap hn hU h1000
      unfold rmR at k
      rw [if_neg hE0] at k
      exact k

end Go.Proofs.YthnoomdhgbaecaaGreatDoor
