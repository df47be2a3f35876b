/- Package vtg: Take, the papers'. -/
import Derived.Test.YtcacgejljbofjaaGreatDoorVtg5
import Derived.Test.YtcacgejljbofjaaGreatDoorGga6
import Derived.Laws.Tables
import Derived.Laws.Rows
import Derived.Deep.DeepCutAuto
namespace Go.Proofs.YtcacgejljbofjaaGreatDoor
open Go.ChangeShapes Go.WideShapes Go.ChangeAt Go.RowKit
set_option linter.unusedVariables false
set_option linter.unusedSimpArgs false

/-- A papers' row that is read, the message that is made. -/
structure VUt (W0 : World) (B mb : Nat) (e : Int) (L : List ByteArray) (M : Array Value) (W : World) : Prop where
  row : RowR W B e L
  m : W.heap[mb]? = some (.cells M 28 (0, 0))
  bel : After W0 W
  nm : mb ≠ B
  hb : W0.heap.size ≤ B
  hm : W0.heap.size ≤ mb
  ns : ∀ (j : Nat) (s : ByteArray), M[j]? ≠ some (.string s)
theorem VUt.eff {W0 : World} {B mb : Nat} {e e' : Int} {L L' : List ByteArray} {M : Array Value} {W W' : World} (h : VUt W0 B mb e L M W) (hP : RowR W' B e' L') (hK : Eff B W W') : VUt W0 B mb e' L' M W' :=
  ⟨hP, eff_block24 hK h.m h.nm, eff_below24 h.bel hK h.hb h.bel.size, h.nm, h.hb, h.hm, h.ns⟩
theorem VUt.below {W0 : World} {B mb : Nat} {e : Int} {L : List ByteArray} {M : Array Value} {W W' : World} (h : VUt W0 B mb e L M W) (hA : After W W') : VUt W0 B mb e L M W' :=
  ⟨h.row.aft hA, held_after hA h.m, bthen h.bel hA, h.nm, h.hb, h.hm, h.ns⟩
theorem VUt.s1 {W0 : World} {B mb : Nat} {e : Int} {L : List ByteArray} {M : Array Value} {W : World} (h : VUt W0 B mb e L M W) (j : Nat) (u : Value) (hu : noS u = true) : ∃ W2, W.setCell ⟨mb, j, none⟩ u = W2 ∧ VUt W0 B mb e L (M.setIfInBounds j u) W2 := by
  obtain ⟨W2, h1, h2, h3⟩ := set1 h.m j u
  exact ⟨W2, h1, h.row.offG h3 h.nm h.m h.ns, h2, belowS h.bel h3 h.hm, h.nm, h.hb, h.hm, ns_set h.ns j u hu⟩
theorem VUt.s2 {W0 : World} {B mb : Nat} {e : Int} {L : List ByteArray} {M : Array Value} {W : World} (h : VUt W0 B mb e L M W) (j k : Nat) (u v : Value) (hu : noS u = true) (hv : noS v = true) : ∃ W2, (W.setCell ⟨mb, j, none⟩ u).setCell ⟨mb, k, none⟩ v = W2 ∧ VUt W0 B mb e L ((M.setIfInBounds j u).setIfInBounds k v) W2 := by
  obtain ⟨A, rfl, hA⟩ := h.s1 j u hu
  exact hA.s1 k v hv
set_option maxRecDepth 100000 in
set_option maxHeartbeats 32000000 in
theorem rvtake_any (s0 s1 s2 s3 s4 s5 s6 s7 : ByteArray) (R : List ByteArray) (hR : R.length ≤ 1) {g0i : Bool} {g0n x0 : Int} {g1i : Bool} {g1n x1 : Int} {g2i : Bool} {g2n x2 : Int} {g3i : Bool} {g3n x3 : Int} (h0 : takD s0 1 3 2 0 36000 = (g0i, g0n, x0)) (h1 : takD s2 1 3 2 0 36000 = (g1i, g1n, x1)) (h2 : takD s4 1 4 2 0 999999 = (g2i, g2n, x2)) (h3 : takD s6 1 4 2 0 999999 = (g3i, g3n, x3)) {E : Int} (hKE : moL (kp (kp (kp (kp (kp (kp (kp (kp 0 x0) (unE s1 ⟨#[84]⟩ g0i)) x1) (unE s3 ⟨#[77]⟩ g1i)) x2) (unE s5 ⟨#[78]⟩ g2i)) x3) (unE s7 ⟨#[75]⟩ g3i)) R = E) (w : World) (a : Option Addr) (n cap : Nat) (hn : n = 8 + R.length) (hEl : Els w 1 a n cap (strV23 (s0 :: s1 :: s2 :: s3 :: s4 :: s5 :: s6 :: s7 :: R))) (hs : ∀ s ∈ (s0 :: s1 :: s2 :: s3 :: s4 :: s5 :: s6 :: s7 :: R), s.size ≤ 1000) : Calls Tryz.prog 7 #[.slice a n cap] w fun r w' => r = .returned (vmR E #[.bool g0i, .int .i64 g0n, .bool g1i, .int .i64 g1n, .bool g2i, .int .i64 g2n, .bool g3i, .int .i64 g3n]) ∧ After w w' := by
  have k0 : ∀ e, kp e 0 = e := fun e => by unfold kp; split <;> omega
  have hn12 : n = 8 ∨ n = 9 := by omega
  have hn1000 : n ≤ 1000 := by omega
  have hlen : (s0 :: s1 :: s2 :: s3 :: s4 :: s5 :: s6 :: s7 :: R).length = n := by simp; omega
  have hRn : (n = 8 ∧ R = []) ∨ (n = 9 ∧ ∃ s, R = [s]) := by
    match R, hR, hn with
    | [], _, hn => exact .inl ⟨by simpa using hn, rfl⟩
    | [s], _, hn => exact .inr ⟨by simpa using hn, s, rfl⟩
  clear hn
  replace hKE := hid hKE
  replace h0 := hid h0
  replace h1 := hid h1
  replace h2 := hid h2
  replace h3 := hid h3
  replace hEl := hid hEl
  replace hs := hid hs
  replace hlen := hid hlen
  replace hR := hid hR
  replace hRn := hid hRn
  have b12 : ((n : Int) != 8) = false ∨ (((n : Int) != 8) = true ∧ ((n : Int) != 9) = false) := by rcases hn12 with rfl | rfl <;> simp
  replace hn12 := hid hn12
  go_enter Tryz.func7, Tryz.ntmps7
  go_upto_region 0 with (fail)
  apply wp_region_seg0 (w := w) (S := [.al 1000, .q []]) (E := [.al ((fun p => .pointer (some ⟨p, 0, none⟩)), _) 1000, .q0 _]) rfl (by kernel_rfl) rfl rfl
  intro th hge hne
  refine Seg.step _ rfl ⟨by rfl, fun U hU => ?_⟩ ?_
  · go_simp; exact vp_alloc rfl rfl rfl
  refine Seg.sa ?_
  refine Seg.sq ?_
  refine Seg.stop (fun U1 hU hk => ?_)
  have nb0 := hge 0 _ _ rfl
  have rb0 := (hk 0 _ _ rfl trivial).1.2 (by simp)
  clear hk hge hne
  generalize th (0 + 0) = p0_0 at *
  dsimp only at rb0
  have r_p0_0 := rb0
  clear rb0
  have n_p0_0 := nb0
  clear nb0
  have sz1 := hU.size
  have hB : Below w.heap.size w U1 := hU
  clear hU
  have hl0 := held_lt r_p0_0
  replace r_p0_0 := hid r_p0_0
  replace hB := hid hB
  go_upto_region 1 with (fail)
  go_cut [14] (fun x wx => x = .bool false ∧ wx.heap[p0_0]? = some (.cells #[.bool false, .int .i64 0, .bool false, .int .i64 0, .bool false, .int .i64 0, .bool false, .int .i64 0] 28 (0, 0)) ∧ After w wx ∧ p0_0 < wx.heap.size)
  case first =>
    rcases b12 with q | ⟨q, q2⟩
    · go_wp2_with fail
      go_meet
      exact ⟨rfl, r_p0_0.out, hB.out, hl0⟩
    · go_wp2_with fail
      go_meet
      exact ⟨rfl, r_p0_0.out, hB.out, hl0⟩
  case rest =>
    clear b12 r_p0_0 hB hl0
    obtain ⟨rfl, r_0, hBw, hl0⟩ := hcut
    generalize hVV : wc = wb at *
    clear hVV
    have hEl1 := hEl.out.below hBw
    go_upto_region 3 with (fail)
    apply wp_region_seg0 (w := wb) (S := [.q [], .q [], .al 1000, .q [2]]) (E := [.q0 _, .q0 _, .al ((fun p => .pointer (some ⟨p, 0, none⟩)), _) 1000, .q1 2 (fun p => .pointer (some ⟨p, 0, none⟩))]) rfl (by kernel_rfl) rfl rfl
    intro th hge hne
    refine Seg.sq ?_
    refine Seg.sq ?_
    refine Seg.step _ rfl ⟨by rfl, fun U hU => ?_⟩ ?_
    · go_simp; exact vp_alloc rfl rfl rfl
    refine Seg.sa ?_
    refine Seg.sq ?_
    refine Seg.stop (fun U2 hU hk => ?_)
    have nb2 := hge 2 _ _ rfl
    have rb2 := (hk 2 _ _ rfl trivial).1.2 (by simp)
    clear hk hge hne
    generalize th (0 + 2) = p3_2 at *
    dsimp only at rb2
    replace hEl1 := hEl1.below hU
    have r_p3_2 := rb2
    clear rb2
    have n_p3_2 := nb2
    clear nb2
    have sz2 := hU.size
    have hB : Below wb.heap.size wb U2 := hU
    clear hU
    have hnB : ∀ x, a = some x → x.block ≠ p3_2 := by
      intro x hx e2
      obtain ⟨-, b0, off0, e0, hc0⟩ := hEl.out.2.2.2.2 0 [.string s0] rfl
      have hb0 := World.block_lt_of_cell? w _ (hc0 0 (.string s0) rfl)
      rw [hx] at e0
      have e3 := Option.some.inj e0
      subst e3
      dsimp only at e2 hb0
      have := hBw.size
      omega
    have hP : RowR U2 p3_2 0 (s0 :: s1 :: s2 :: s3 :: s4 :: s5 :: s6 :: s7 :: R) := ⟨(s0 :: s1 :: s2 :: s3 :: s4 :: s5 :: s6 :: s7 :: R), a, cap, 0, rfl, Nat.zero_le _, by have := hlen.out; omega, by rw [hlen.out]; exact r_p3_2, by rw [hlen.out]; exact hEl1, hnB⟩
    clear hEl1 hnB r_p3_2
    obtain ⟨B, hBe⟩ : ∃ B, B = p3_2 := ⟨_, rfl⟩
    subst hBe
    have hwB : wb.heap.size ≤ B := by omega
    have hlp := hP.lt
    have s2w := hB.size
    go_upto_region 4 with (fail)
    apply wp_region_seg0 (w := U2) (S := [.al 1000]) (E := [.al ((fun p => .pointer (some ⟨p, 0, none⟩)), _) 1000]) rfl (by kernel_rfl) rfl rfl
    intro th hge hne
    refine Seg.step _ rfl ⟨by rfl, fun U hU => ?_⟩ ?_
    · go_simp; exact vp_alloc rfl rfl rfl
    refine Seg.sa ?_
    refine Seg.stop (fun U3 hU hk => ?_)
    have nb0 := hge 0 _ _ rfl
    have rb0 := (hk 0 _ _ rfl trivial).1.2 (by simp)
    clear hk hge hne
    generalize th (0 + 0) = p4_0 at *
    dsimp only at rb0
    replace hP := hP.below hU
    have r_p4_0 := rb0
    clear rb0
    have n_p4_0 := nb0
    clear nb0
    have sz3 := hU.size
    replace hB := bthen hB hU
    clear hU
    have h : VUt wb B p4_0 0 (s0 :: s1 :: s2 :: s3 :: s4 :: s5 :: s6 :: s7 :: R) #[.bool false, .int .i64 0, .bool false, .int .i64 0, .bool false, .int .i64 0, .bool false, .int .i64 0] U3 := ⟨hP, r_p4_0, hB, by omega, hwB, by omega, (by intro j s h; match j, h with | 0, h => simp at h | 1, h => simp at h | 2, h => simp at h | 3, h => simp at h | 4, h => simp at h | 5, h => simp at h | 6, h => simp at h | 7, h => simp at h | j + 8, h => simp at h)⟩
    clear hP r_p4_0 hB n_p4_0 hlp
    obtain ⟨mb, hmb⟩ : ∃ X, X = p4_0 := ⟨_, rfl⟩
    subst hmb
    replace r_0 := hid r_0
    replace hBw := hid hBw
    go_upto_region 5 with (fail)
    go_wp2_with fail
    refine (r28courseCol_any _).mono ?_
    rintro r C0 ⟨rfl, hA⟩
    replace h := h.below hA
    clear hA
    have kt := hid (fun U hh => rtakenumC B 0 s0 (s1 :: s2 :: s3 :: s4 :: s5 :: s6 :: s7 :: R) 1 3 2 0 36000 h0.out U hh (szs hs.out 0 rfl) (by decide))
    go_wp2_with fail
    refine (kt.out _ h.row).mono ?_
    clear kt
    rintro r Y1 ⟨rfl, hP2, hf2⟩
    replace h := h.eff hP2 hf2
    clear hP2 hf2
    obtain ⟨E1, hE1⟩ : ∃ E, kp 0 x0 = E := ⟨_, rfl⟩
    rw [hE1] at h
    replace hE1 := hid hE1
    have g0 := held_free h.m 0
    have g1 := held_free h.m 1
    have b0 := held_cell h.m 0 _ rfl
    have b1 := held_cell h.m 1 _ rfl
    obtain ⟨S0, hS0, h9⟩ := h.s2 0 1 (.bool g0i) (.int .i64 g0n) rfl rfl
    clear h
    go_upto_region 6 with (fail)
    replace hS0 := hid hS0
    clear g0 b0 g1 b1
    have h : VUt wb B mb E1 (s1 :: s2 :: s3 :: s4 :: s5 :: s6 :: s7 :: R) #[.bool g0i, .int .i64 g0n, .bool false, .int .i64 0, .bool false, .int .i64 0, .bool false, .int .i64 0] S0 := h9
    clear h9
    have c0 : S0.cell? ⟨mb, 0, none⟩ = some (.bool g0i) := held_cell h.m 0 _ rfl
    have c1 : S0.cell? ⟨mb, 1, none⟩ = some (.int .i64 g0n) := held_cell h.m 1 _ rfl
    have kt := hid (fun U hh => rtakeunit_any B E1 s1 (s2 :: s3 :: s4 :: s5 :: s6 :: s7 :: R) ⟨#[84]⟩ g0i g0n U hh)
    go_wp2_with fail
    refine (kt.out _ h.row).mono ?_
    clear kt c0 c1
    rintro r Y2 ⟨rfl, hP2, hf2⟩
    replace h := h.eff hP2 hf2
    clear hP2 hf2
    obtain ⟨E2, hE2⟩ : ∃ E, kp E1 (unE s1 ⟨#[84]⟩ g0i) = E := ⟨_, rfl⟩
    rw [hE2] at h
    replace hE2 := hid hE2
    go_upto_region 7 with (fail)
    go_wp2_with fail
    refine (r28courseCol_any _).mono ?_
    rintro r C1 ⟨rfl, hA⟩
    replace h := h.below hA
    clear hA
    have kt := hid (fun U hh => rtakenumC B E2 s2 (s3 :: s4 :: s5 :: s6 :: s7 :: R) 1 3 2 0 36000 h1.out U hh (szs hs.out 2 rfl) (by decide))
    go_wp2_with fail
    refine (kt.out _ h.row).mono ?_
    clear kt
    rintro r Y3 ⟨rfl, hP2, hf2⟩
    replace h := h.eff hP2 hf2
    clear hP2 hf2
    obtain ⟨E3, hE3⟩ : ∃ E, kp E2 x1 = E := ⟨_, rfl⟩
    rw [hE3] at h
    replace hE3 := hid hE3
    have g2 := held_free h.m 2
    have g3 := held_free h.m 3
    have b2 := held_cell h.m 2 _ rfl
    have b3 := held_cell h.m 3 _ rfl
    obtain ⟨S1, hS1, h9⟩ := h.s2 2 3 (.bool g1i) (.int .i64 g1n) rfl rfl
    clear h
    go_upto_region 8 with (fail)
    replace hS1 := hid hS1
    clear g2 b2 g3 b3
    have h : VUt wb B mb E3 (s3 :: s4 :: s5 :: s6 :: s7 :: R) #[.bool g0i, .int .i64 g0n, .bool g1i, .int .i64 g1n, .bool false, .int .i64 0, .bool false, .int .i64 0] S1 := h9
    clear h9
    have c0 : S1.cell? ⟨mb, 2, none⟩ = some (.bool g1i) := held_cell h.m 2 _ rfl
    have c1 : S1.cell? ⟨mb, 3, none⟩ = some (.int .i64 g1n) := held_cell h.m 3 _ rfl
    have kt := hid (fun U hh => rtakeunit_any B E3 s3 (s4 :: s5 :: s6 :: s7 :: R) ⟨#[77]⟩ g1i g1n U hh)
    go_wp2_with fail
    refine (kt.out _ h.row).mono ?_
    clear kt c0 c1
    rintro r Y4 ⟨rfl, hP2, hf2⟩
    replace h := h.eff hP2 hf2
    clear hP2 hf2
    obtain ⟨E4, hE4⟩ : ∃ E, kp E3 (unE s3 ⟨#[77]⟩ g1i) = E := ⟨_, rfl⟩
    rw [hE4] at h
    replace hE4 := hid hE4
    go_upto_region 9 with (fail)
    go_wp2_with fail
    refine (r28speedCol_any _).mono ?_
    rintro r C2 ⟨rfl, hA⟩
    replace h := h.below hA
    clear hA
    have kt := hid (fun U hh => rtakenumC B E4 s4 (s5 :: s6 :: s7 :: R) 1 4 2 0 999999 h2.out U hh (szs hs.out 4 rfl) (by decide))
    go_wp2_with fail
    refine (kt.out _ h.row).mono ?_
    clear kt
    rintro r Y5 ⟨rfl, hP2, hf2⟩
    replace h := h.eff hP2 hf2
    clear hP2 hf2
    obtain ⟨E5, hE5⟩ : ∃ E, kp E4 x2 = E := ⟨_, rfl⟩
    rw [hE5] at h
    replace hE5 := hid hE5
    have g4 := held_free h.m 4
    have g5 := held_free h.m 5
    have b4 := held_cell h.m 4 _ rfl
    have b5 := held_cell h.m 5 _ rfl
    obtain ⟨S2, hS2, h9⟩ := h.s2 4 5 (.bool g2i) (.int .i64 g2n) rfl rfl
    clear h
    go_upto_region 10 with (fail)
    replace hS2 := hid hS2
    clear g4 b4 g5 b5
    have h : VUt wb B mb E5 (s5 :: s6 :: s7 :: R) #[.bool g0i, .int .i64 g0n, .bool g1i, .int .i64 g1n, .bool g2i, .int .i64 g2n, .bool false, .int .i64 0] S2 := h9
    clear h9
    have c0 : S2.cell? ⟨mb, 4, none⟩ = some (.bool g2i) := held_cell h.m 4 _ rfl
    have c1 : S2.cell? ⟨mb, 5, none⟩ = some (.int .i64 g2n) := held_cell h.m 5 _ rfl
    have kt := hid (fun U hh => rtakeunit_any B E5 s5 (s6 :: s7 :: R) ⟨#[78]⟩ g2i g2n U hh)
    go_wp2_with fail
    refine (kt.out _ h.row).mono ?_
    clear kt c0 c1
    rintro r Y6 ⟨rfl, hP2, hf2⟩
    replace h := h.eff hP2 hf2
    clear hP2 hf2
    obtain ⟨E6, hE6⟩ : ∃ E, kp E5 (unE s5 ⟨#[78]⟩ g2i) = E := ⟨_, rfl⟩
    rw [hE6] at h
    replace hE6 := hid hE6
    go_upto_region 11 with (fail)
    go_wp2_with fail
    refine (r28speedCol_any _).mono ?_
    rintro r C3 ⟨rfl, hA⟩
    replace h := h.below hA
    clear hA
    have kt := hid (fun U hh => rtakenumC B E6 s6 (s7 :: R) 1 4 2 0 999999 h3.out U hh (szs hs.out 6 rfl) (by decide))
    go_wp2_with fail
    refine (kt.out _ h.row).mono ?_
    clear kt
    rintro r Y7 ⟨rfl, hP2, hf2⟩
    replace h := h.eff hP2 hf2
    clear hP2 hf2
    obtain ⟨E7, hE7⟩ : ∃ E, kp E6 x3 = E := ⟨_, rfl⟩
    rw [hE7] at h
    replace hE7 := hid hE7
    have g6 := held_free h.m 6
    have g7 := held_free h.m 7
    have b6 := held_cell h.m 6 _ rfl
    have b7 := held_cell h.m 7 _ rfl
    obtain ⟨S3, hS3, h9⟩ := h.s2 6 7 (.bool g3i) (.int .i64 g3n) rfl rfl
    clear h
    go_upto_region 12 with (fail)
    replace hS3 := hid hS3
    clear g6 b6 g7 b7
    have h : VUt wb B mb E7 (s7 :: R) #[.bool g0i, .int .i64 g0n, .bool g1i, .int .i64 g1n, .bool g2i, .int .i64 g2n, .bool g3i, .int .i64 g3n] S3 := h9
    clear h9
    have c0 : S3.cell? ⟨mb, 6, none⟩ = some (.bool g3i) := held_cell h.m 6 _ rfl
    have c1 : S3.cell? ⟨mb, 7, none⟩ = some (.int .i64 g3n) := held_cell h.m 7 _ rfl
    have kt := hid (fun U hh => rtakeunit_any B E7 s7 R ⟨#[75]⟩ g3i g3n U hh)
    go_wp2_with fail
    refine (kt.out _ h.row).mono ?_
    clear kt c0 c1
    rintro r Y8 ⟨rfl, hP2, hf2⟩
    replace h := h.eff hP2 hf2
    clear hP2 hf2
    obtain ⟨E8, hE8⟩ : ∃ E, kp E7 (unE s7 ⟨#[75]⟩ g3i) = E := ⟨_, rfl⟩
    rw [hE8] at h
    replace hE8 := hid hE8
    go_upto_region 13 with (fail)
    obtain ⟨EF, hEF⟩ : ∃ E, moL E8 R = E := ⟨_, rfl⟩
    replace hEF := hid hEF
    go_upto_if 53 with (fail)
    go_cut [53] (fun _ W0 => VUt wb B mb EF [] #[.bool g0i, .int .i64 g0n, .bool g1i, .int .i64 g1n, .bool g2i, .int .i64 g2n, .bool g3i, .int .i64 g3n] W0)
    case first =>
      rcases hRn.out with ⟨h11, hR0⟩ | ⟨h12, s, hR1⟩
      · subst h11 hR0
        have hEq := hid (show E8 = EF from hEF.out)
        go_wp2_with fail
        go_meet
        rw [← hEq.out]
        exact h
      · subst h12 hR1
        have hEq := hid (show kp E8 (moE s) = EF from hEF.out)
        go_wp2_with fail
        refine (rtextC B E8 s [] _ h.row).mono ?_
        rintro r Z1 ⟨rfl, hP2, hf2⟩
        replace h := h.eff hP2 hf2
        clear hP2 hf2
        have hZ := temp_iff s
        by_cases d0 : s.size = 0
        case pos =>
          have hd := hid (show moE s = 0 by unfold moE; rw [if_pos (.inl d0)])
          have q0 : s.toList.isEmpty = true := by rw [hZ]; exact decide_eq_true d0
          have q1 : decide ((1 : Int) < (s.size : Int)) = false := by simp; omega
          clear hZ d0
          go_wp2_with fail
          go_meet
          have e := hEq.out
          rw [hd.out, k0] at e
          rw [← e]
          exact h
        have q0 : s.toList.isEmpty = false := by rw [hZ]; exact decide_eq_false d0
        clear hZ
        by_cases d1 : s.size = 1
        case neg =>
          have hd := hid (show moE s = 3 by unfold moE; rw [if_neg (by omega)])
          have q1 : decide ((1 : Int) < (s.size : Int)) = true := by simp; omega
          clear d0 d1
          go_wp2_with fail
          refine (rfirstR_any B E8 3 [] _ h.row).mono ?_
          rintro r Z2 ⟨rfl, hP2, hf2⟩
          replace h := h.eff hP2 hf2
          go_wp2_with fail
          go_meet
          have e := hEq.out
          rw [hd.out] at e
          rw [← e]
          exact h
        obtain ⟨c, hc⟩ : ∃ c, (sb s).getD 0 0 = c := ⟨_, rfl⟩
        have hix := fun W => tidx (P := Tryz.prog) 9 Tryz.underlying9 s 0 c (by omega) hc .i64 0 rfl W
        have q1 : decide ((1 : Int) < (s.size : Int)) = false := by simp; omega
        by_cases d2 : c < 65
        case pos =>
          have hd := hid (show moE s = 3 by unfold moE; rw [if_neg (by omega)])
          have q2 : decide ((c : Int) < 65) = true := by simp; omega
          clear hc d0 d1
          go_wp2_with fail
          refine (rfirstR_any B E8 3 [] _ h.row).mono ?_
          rintro r Z2 ⟨rfl, hP2, hf2⟩
          replace h := h.eff hP2 hf2
          go_wp2_with fail
          go_meet
          have e := hEq.out
          rw [hd.out] at e
          rw [← e]
          exact h
        have q2 : decide ((c : Int) < 65) = false := by simp; omega
        by_cases d3 : 90 < c
        case pos =>
          have hd := hid (show moE s = 3 by unfold moE; rw [if_neg (by omega)])
          have q3 : decide ((90 : Int) < (c : Int)) = true := by simp; omega
          clear hc d0 d1
          go_wp2_with fail
          refine (rfirstR_any B E8 3 [] _ h.row).mono ?_
          rintro r Z2 ⟨rfl, hP2, hf2⟩
          replace h := h.eff hP2 hf2
          go_wp2_with fail
          go_meet
          have e := hEq.out
          rw [hd.out] at e
          rw [← e]
          exact h
        have q3 : decide ((90 : Int) < (c : Int)) = false := by simp; omega
        have hd := hid (show moE s = 0 by unfold moE; rw [if_pos (by omega)])
        clear hc d0 d1
        go_wp2_with fail
        go_meet
        have e := hEq.out
        rw [hd.out, k0] at e
        rw [← e]
        exact h
    case rest =>
      clear h
      have h := hcut
      clear hcut
      have hEE : E = EF := by
        rw [← hKE.out, ← hEF.out]
        have e1 : (kp (kp (kp (kp (kp (kp (kp (kp 0 x0) (unE s1 ⟨#[84]⟩ g0i)) x1) (unE s3 ⟨#[77]⟩ g1i)) x2) (unE s5 ⟨#[78]⟩ g2i)) x3) (unE s7 ⟨#[75]⟩ g3i)) = E8 := by rw [hE1.out, hE2.out, hE3.out, hE4.out, hE5.out, hE6.out, hE7.out, hE8.out]
        rw [e1]
      subst hEE
      clear hEF hKE hs hEl h0 h1 h2 h3
      have hBf := h.bel
      have r0f := held_after hBf r_0.out
      have hB2 := bthen hBw.out hBf
      have hme := h.m
      obtain ⟨F0, a0, cap0, i0, q1, q2, q3, q4, q5, q6⟩ := h.row
      have c9 := held_cell q4 2 _ rfl
      have hl4 := held_lt q4
      clear h q1 q2 q3 q5 q6 hRn hlen
      by_cases hE0 : E = 0
      case pos =>
        have t0 : (E != 0) = false := by simpa using hE0
        have hres : vmR E #[.bool g0i, .int .i64 g0n, .bool g1i, .int .i64 g1n, .bool g2i, .int .i64 g2n, .bool g3i, .int .i64 g3n] = .tuple #[.agg #[.bool g0i, .int .i64 g0n, .bool g1i, .int .i64 g1n, .bool g2i, .int .i64 g2n, .bool g3i, .int .i64 g3n], .int .i64 0] := by unfold vmR; rw [if_pos hE0]; rw [hE0]
        replace hres := hid hres
        have ya := setRow_heap wc p0_0 _ #[.bool g0i, .int .i64 g0n, .bool g1i, .int .i64 g1n, .bool g2i, .int .i64 g2n, .bool g3i, .int .i64 g3n] 28 (0, 0) r0f
        have yO : Only p0_0 wc (wc.setRow p0_0 #[.bool g0i, .int .i64 g0n, .bool g1i, .int .i64 g1n, .bool g2i, .int .i64 g2n, .bool g3i, .int .i64 g3n]) := ⟨rfl, rfl, rfl, by simp [World.setRow], fun k hk => setRow_other _ _ _ _ hk⟩
        obtain ⟨W9, hW9⟩ : ∃ X, wc.setRow p0_0 #[.bool g0i, .int .i64 g0n, .bool g1i, .int .i64 g1n, .bool g2i, .int .i64 g2n, .bool g3i, .int .i64 g3n] = X := ⟨_, rfl⟩
        rw [hW9] at ya yO
        have hB9 := hid (belowS hB2 yO (by omega))
        have hld := run_loadVar_row (P := Tryz.prog) W9 p0_0 28 28 #[.bool g0i, .int .i64 g0n, .bool g1i, .int .i64 g1n, .bool g2i, .int .i64 g2n, .bool g3i, .int .i64 g3n] (0, 0) _ ya Tryz.underlying28 rfl (by kernel_rfl)
        replace ya := hid ya
        clear yO
        go_wp2_with (first | (refine wpList_load_row rfl 28 (.tmp 5) rfl mb rfl 28 #[.bool g0i, .int .i64 g0n, .bool g1i, .int .i64 g1n, .bool g2i, .int .i64 g2n, .bool g3i, .int .i64 g3n] (0, 0) _ hme Tryz.underlying28 rfl (by kernel_rfl) ?_) | (refine wpList_store_row rfl 28 (.tmp 2) (.tmp 85) rfl p0_0 #[.bool g0i, .int .i64 g0n, .bool g1i, .int .i64 g1n, .bool g2i, .int .i64 g2n, .bool g3i, .int .i64 g3n] rfl rfl 28 _ r0f (by kernel_rfl) rfl (by simp [Value.oneCell']) ?_; rw [hW9]))
        refine bodyPost_ret (v := .tuple #[.agg #[.bool g0i, .int .i64 g0n, .bool g1i, .int .i64 g1n, .bool g2i, .int .i64 g2n, .bool g3i, .int .i64 g3n], .int .i64 0]) (by simp [results, Tryz.results7, asAddr, hld]) rfl ⟨by rw [hres.out], hB9.out⟩
      case neg =>
        have t0 : (E != 0) = true := by simpa using hE0
        have hres : vmR E #[.bool g0i, .int .i64 g0n, .bool g1i, .int .i64 g1n, .bool g2i, .int .i64 g2n, .bool g3i, .int .i64 g3n] = .tuple #[.agg #[.bool false, .int .i64 0, .bool false, .int .i64 0, .bool false, .int .i64 0, .bool false, .int .i64 0], .int .i64 E] := by unfold vmR; rw [if_neg hE0]
        replace hres := hid hres
        go_upto_region 18 with (fail)
        obtain ⟨QQ, hQQ⟩ : ∃ X, wc.drew = X := ⟨_, rfl⟩
        have rp0q : QQ.heap[p0_0]? = some (.cells #[.bool false, .int .i64 0, .bool false, .int .i64 0, .bool false, .int .i64 0, .bool false, .int .i64 0] 28 (0, 0)) := by rw [← hQQ]; exact r0f
        have c9q : QQ.cell? ⟨B, 2, none⟩ = some (.int .i64 E) := by rw [← hQQ]; exact c9
        have hBq : After w QQ := by rw [← hQQ]; exact hB2.drew
        have hlq : B < QQ.heap.size := by rw [← hQQ]; exact hl4
        have ya := setRow_heap QQ p0_0 _ #[.bool false, .int .i64 0, .bool false, .int .i64 0, .bool false, .int .i64 0, .bool false, .int .i64 0] 28 (0, 0) rp0q
        have yO : Only p0_0 QQ (QQ.setRow p0_0 #[.bool false, .int .i64 0, .bool false, .int .i64 0, .bool false, .int .i64 0, .bool false, .int .i64 0]) := ⟨rfl, rfl, rfl, by simp [World.setRow], fun k hk => setRow_other _ _ _ _ hk⟩
        obtain ⟨W9, hW9⟩ : ∃ X, QQ.setRow p0_0 #[.bool false, .int .i64 0, .bool false, .int .i64 0, .bool false, .int .i64 0, .bool false, .int .i64 0] = X := ⟨_, rfl⟩
        rw [hW9] at ya yO
        have hB9 := hid (belowS hBq yO (by omega))
        have hld := run_loadVar_row (P := Tryz.prog) W9 p0_0 28 28 #[.bool false, .int .i64 0, .bool false, .int .i64 0, .bool false, .int .i64 0, .bool false, .int .i64 0] (0, 0) _ ya Tryz.underlying28 rfl (by kernel_rfl)
        replace ya := hid ya
        clear yO
        refine wp_region_K (N := QQ.heap.size) (X := [p0_0]) (by kernel_rfl) ?_
        rw [hQQ]
        refine wpAnyK_take 0 rfl (by kernel_rfl) (by kernel_rfl) (by kernel_rfl) (fun _ _ _ _ h => h) ⟨_, Or.inl ⟨by rfl, fun w2 hb => by (go_simp; try with_reducible rfl)⟩, _, by (go_simp; try rfl), ?_⟩
        refine wpAnyK_take 1 rfl (by kernel_rfl) (by kernel_rfl) (by kernel_rfl) (fun _ _ _ _ h => h) ⟨_, Or.inl ⟨by rfl, fun w2 hb => by (go_simp; try with_reducible rfl)⟩, _, by (go_simp; try rfl), ?_⟩
        refine wpAnyK_take 2 rfl (by kernel_rfl) (by kernel_rfl) (by kernel_rfl) (fun _ _ _ _ h => h) ⟨_, Or.inl ⟨by rfl, fun w2 hb => by (go_simp; try with_reducible rfl)⟩, _, by (go_simp; try rfl), ?_⟩
        refine wpAnyK_take 3 rfl (by kernel_rfl) (by kernel_rfl) (by kernel_rfl) (fun _ _ _ _ h => h) ⟨_, Or.inl ⟨by rfl, fun w2 hb => by (go_simp; try with_reducible rfl)⟩, _, by (go_simp; try rfl), ?_⟩
        refine wpAnyK_take 4 rfl (by kernel_rfl) (by kernel_rfl) (by kernel_rfl) (fun _ _ _ _ h => h) ⟨_, Or.inl ⟨by rfl, fun w2 hb => by (have h0 := Kp.cellB hb (by simpa using hlq) (by simp; omega) c9q; go_simp; try with_reducible rfl)⟩, _, by (go_simp; try rfl), ?_⟩
        refine wpAnyK_only 5 rfl (by kernel_rfl) (by rfl) (fun K hK => ?_)
        refine wp_store_row 28 (.tmp 2) (.tmp 80) rfl p0_0 #[.bool false, .int .i64 0, .bool false, .int .i64 0, .bool false, .int .i64 0, .bool false, .int .i64 0] rfl rfl 28 _ rp0q (by kernel_rfl) rfl (by simp [Value.oneCell']) ?_
        refine hK _ _ ⟨⟨rfl, rfl, rfl, by simp [World.setRow], fun k h1 h2 => setRow_other _ _ _ _ (fun e => h2 (by simp [e]))⟩, ?_⟩
        clear hK
        rw [hW9]
        refine wpAnyK_take 6 rfl (by kernel_rfl) (by kernel_rfl) (by kernel_rfl) (fun _ _ _ _ h => h) ⟨_, Or.inl ⟨by rfl, fun w2 hb => by (go_simp; try with_reducible rfl)⟩, _, by (go_simp; try rfl), ?_⟩
        refine wpAnyK_done (by kernel_rfl) ?_ _
        go_wp2_with fail
        refine bodyPost_ret (v := .tuple #[.agg #[.bool false, .int .i64 0, .bool false, .int .i64 0, .bool false, .int .i64 0, .bool false, .int .i64 0], .int .i64 E]) (by simp [results, Tryz.results7, asAddr, hld]) rfl ⟨by rw [hres.out], hB9.out⟩
set_option maxRecDepth 100000 in
set_option maxHeartbeats 8000000 in
theorem rvtake_no (w : World) (a : Option Addr) (n cap : Nat) (hn : n ≠ 8 ∧ n ≠ 9) : Calls Tryz.prog 7 #[.slice a n cap] w fun r w' => r = .returned (.tuple #[.agg #[.bool false, .int .i64 0, .bool false, .int .i64 0, .bool false, .int .i64 0, .bool false, .int .i64 0], .int .i64 3]) ∧ After w w' := by
  have b1 : ((n : Int) != 8) = true := by simp; omega
  have b2 : ((n : Int) != 9) = true := by simp; omega
  have b3 : ((n : Int) == 8) = false := by simp; omega
  have b4 : ((n : Int) == 9) = false := by simp; omega
  clear hn
  go_enter Tryz.func7, Tryz.ntmps7
  go_upto_region 0 with (fail)
  apply wp_region_seg0 (w := w) (S := [.al 1000, .q []]) (E := [.al ((fun p => .pointer (some ⟨p, 0, none⟩)), _) 1000, .q0 _]) rfl (by kernel_rfl) rfl rfl
  intro th hge hne
  refine Seg.step _ rfl ⟨by rfl, fun U hU => ?_⟩ ?_
  · go_simp; exact vp_alloc rfl rfl rfl
  refine Seg.sa ?_
  refine Seg.sq ?_
  refine Seg.stop (fun U1 hU hk => ?_)
  have nb0 := hge 0 _ _ rfl
  have rb0 := (hk 0 _ _ rfl trivial).1.2 (by simp)
  clear hk hge hne
  generalize th (0 + 0) = p0_0 at *
  dsimp only at rb0
  have r_p0_0 := rb0
  clear rb0
  have n_p0_0 := nb0
  clear nb0
  have sz1 := hU.size
  have hB : Below w.heap.size w U1 := hU
  clear hU
  have ya := setRow_heap U1 p0_0 _ #[.bool false, .int .i64 0, .bool false, .int .i64 0, .bool false, .int .i64 0, .bool false, .int .i64 0] 28 (0, 0) r_p0_0
  have yO : Only p0_0 U1 (U1.setRow p0_0 #[.bool false, .int .i64 0, .bool false, .int .i64 0, .bool false, .int .i64 0, .bool false, .int .i64 0]) := ⟨rfl, rfl, rfl, by simp [World.setRow], fun k hk => setRow_other _ _ _ _ hk⟩
  obtain ⟨W9, hW9⟩ : ∃ X, U1.setRow p0_0 #[.bool false, .int .i64 0, .bool false, .int .i64 0, .bool false, .int .i64 0, .bool false, .int .i64 0] = X := ⟨_, rfl⟩
  rw [hW9] at ya yO
  have hB9 := hid (belowS hB yO (by omega))
  have hld := run_loadVar_row (P := Tryz.prog) W9 p0_0 28 28 #[.bool false, .int .i64 0, .bool false, .int .i64 0, .bool false, .int .i64 0, .bool false, .int .i64 0] (0, 0) _ ya Tryz.underlying28 rfl (by kernel_rfl)
  replace ya := hid ya
  clear yO
  go_wp2_with (first | (refine wpList_store_row rfl 28 (.tmp 2) (.tmp 15) rfl p0_0 #[.bool false, .int .i64 0, .bool false, .int .i64 0, .bool false, .int .i64 0, .bool false, .int .i64 0] rfl rfl 28 _ r_p0_0 (by kernel_rfl) rfl (by simp [Value.oneCell']) ?_; rw [hW9]))
  refine bodyPost_ret (v := .tuple #[.agg #[.bool false, .int .i64 0, .bool false, .int .i64 0, .bool false, .int .i64 0, .bool false, .int .i64 0], .int .i64 3]) (by simp [results, Tryz.results7, asAddr, hld]) rfl ⟨rfl, hB9.out⟩
set_option maxRecDepth 100000 in
set_option maxHeartbeats 8000000 in
theorem two28 (F : List ByteArray) (len : Nat) (hlen : F.length = len) (h100 : ∀ f ∈ F, f.size ≤ 100) : ∃ (g0i : Bool) (g0n : Int) (g1i : Bool) (g1n : Int) (g2i : Bool) (g2n : Int) (g3i : Bool) (g3n : Int) (E : Int), (∀ U a cap, Els U 1 a len cap (strV23 F) → Calls Tryz.prog 6 #[.slice a len cap] U fun r w' => r = .returned (.tuple #[.agg #[.bool g0i, .int .i64 g0n, .bool g1i, .int .i64 g1n, .bool g2i, .int .i64 g2n, .bool g3i, .int .i64 g3n], .int .i64 E]) ∧ After U w') ∧ (∀ U a cap, Els U 1 a len cap (strV23 F) → Calls Tryz.prog 7 #[.slice a len cap] U fun r w' => r = .returned (.tuple #[.agg #[.bool g0i, .int .i64 g0n, .bool g1i, .int .i64 g1n, .bool g2i, .int .i64 g2n, .bool g3i, .int .i64 g3n], .int .i64 E]) ∧ After U w') := by
  by_cases hl : len = 8 ∨ len = 9
  case neg => exact ⟨false, 0, false, 0, false, 0, false, 0, 3, fun U a cap _ => vtake_no U a len cap (by omega), fun U a cap _ => rvtake_no U a len cap (by omega)⟩
  obtain ⟨s0, s1, s2, s3, s4, s5, s6, s7, R, hR, hn, rfl⟩ := list8 (hlen ▸ hl)
  rw [hlen] at hn
  obtain ⟨⟨g0i, g0n, x0⟩, h0⟩ : ∃ r, takD s0 1 3 2 0 36000 = r := ⟨_, rfl⟩
  obtain ⟨⟨g1i, g1n, x1⟩, h1⟩ : ∃ r, takD s2 1 3 2 0 36000 = r := ⟨_, rfl⟩
  obtain ⟨⟨g2i, g2n, x2⟩, h2⟩ : ∃ r, takD s4 1 4 2 0 999999 = r := ⟨_, rfl⟩
  obtain ⟨⟨g3i, g3n, x3⟩, h3⟩ : ∃ r, takD s6 1 4 2 0 999999 = r := ⟨_, rfl⟩
  obtain ⟨E, hE⟩ : ∃ E, moL (kp (kp (kp (kp (kp (kp (kp (kp 0 x0) (unE s1 ⟨#[84]⟩ g0i)) x1) (unE s3 ⟨#[77]⟩ g1i)) x2) (unE s5 ⟨#[78]⟩ g2i)) x3) (unE s7 ⟨#[75]⟩ g3i)) R = E := ⟨_, rfl⟩
  have h1000 : ∀ s ∈ (s0 :: s1 :: s2 :: s3 :: s4 :: s5 :: s6 :: s7 :: R), s.size ≤ 1000 := fun s hs => Nat.le_trans (h100 s hs) (by decide)
  by_cases hE0 : E = 0
  · subst hE0
    exact ⟨g0i, g0n, g1i, g1n, g2i, g2n, g3i, g3n, 0, fun U a cap hU => vtake_any s0 s1 s2 s3 s4 s5 s6 s7 R hR h0 h1 h2 h3 hE U a len cap hn hU h1000, fun U a cap hU => rvtake_any s0 s1 s2 s3 s4 s5 s6 s7 R hR h0 h1 h2 h3 hE U a len cap hn hU h1000⟩
  · refine ⟨false, 0, false, 0, false, 0, false, 0, E, fun U a cap hU => ?_, fun U a cap hU => ?_⟩
    · have k := vtake_any s0 s1 s2 s3 s4 s5 s6 s7 R hR h0 h1 h2 h3 hE U a len cap hn hU h1000
      unfold vmR at k
      rw [if_neg hE0] at k
      exact k
    · have k := rvtake_any s0 s1 s2 s3 s4 s5 s6 s7 R hR h0 h1 h2 h3 hE U a len cap hn hU h1000
      unfold vmR at k
      rw [if_neg hE0] at k
      exact k

end Go.Proofs.YtcacgejljbofjaaGreatDoor
