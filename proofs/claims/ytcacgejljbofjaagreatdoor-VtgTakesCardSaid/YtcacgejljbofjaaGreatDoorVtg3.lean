/- Package vtg: Take. -/
import Derived.Test.YtcacgejljbofjaaGreatDoorVtg2
import Derived.Laws.Tables
import Derived.Laws.Rows
import Derived.Laws.EntriesVeiled
import Derived.Deep.DeepCutAuto
namespace Go.Proofs.YtcacgejljbofjaaGreatDoor
open Go.ChangeShapes Go.WideShapes Go.ChangeAt Go.RowKit
set_option linter.unusedVariables false
set_option linter.unusedSimpArgs false

/-- An eye, the message that is made, the places' block, while fields are read. -/
structure VTt (W0 : World) (B mb eb qb : Nat) (Q : Array Value) (e : Int) (L : List ByteArray) (M : Array Value) (W : World) : Prop where
  eye : EyeIn W B e L
  m : W.heap[mb]? = some (.cells M 28 (0, 0))
  p : W.heap[eb]? = some (.cells #[.pointer (some ⟨B, 0, none⟩)] 37 (0, 0))
  q : W.heap[qb]? = some (.cells Q 41 (0, 0))
  bel : After W0 W
  nm : mb ≠ B
  np : eb ≠ B
  nq : qb ≠ B
  hb : W0.heap.size ≤ B
  hm : W0.heap.size ≤ mb
  ns : ∀ (j : Nat) (s : ByteArray), M[j]? ≠ some (.string s)
theorem VTt.eff {W0 : World} {B mb eb qb : Nat} {Q : Array Value} {e e' : Int} {L L' : List ByteArray} {M : Array Value} {W W' : World} (h : VTt W0 B mb eb qb Q e L M W) (hP : EyeIn W' B e' L') (hK : Eff B W W') : VTt W0 B mb eb qb Q e' L' M W' :=
  ⟨hP, eff_block24 hK h.m h.nm, eff_block24 hK h.p h.np, eff_block24 hK h.q h.nq, eff_below24 h.bel hK h.hb h.bel.size, h.nm, h.np, h.nq, h.hb, h.hm, h.ns⟩
theorem VTt.below {W0 : World} {B mb eb qb : Nat} {Q : Array Value} {e : Int} {L : List ByteArray} {M : Array Value} {W W' : World} (h : VTt W0 B mb eb qb Q e L M W) (hA : After W W') : VTt W0 B mb eb qb Q e L M W' :=
  ⟨h.eye.aft hA, held_after hA h.m, held_after hA h.p, held_after hA h.q, bthen h.bel hA, h.nm, h.np, h.nq, h.hb, h.hm, h.ns⟩
theorem VTt.s1 {W0 : World} {B mb eb qb : Nat} {Q : Array Value} {e : Int} {L : List ByteArray} {M : Array Value} {W : World} (h : VTt W0 B mb eb qb Q e L M W) (j : Nat) (u : Value) (hu : noS u = true) : ∃ W2, W.setCell ⟨mb, j, none⟩ u = W2 ∧ VTt W0 B mb eb qb Q e L (M.setIfInBounds j u) W2 ∧ Only mb W W2 := by
  obtain ⟨W2, h1, h2, h3⟩ := set1 h.m j u
  exact ⟨W2, h1, ⟨h.eye.off h3 h.nm h.m h.ns, h2, (h3.block _ (heapT h.p h.m (by decide))).trans h.p, (h3.block _ (heapT h.q h.m (by decide))).trans h.q, belowS h.bel h3 h.hm, h.nm, h.np, h.nq, h.hb, h.hm, ns_set h.ns j u hu⟩, h3⟩
theorem VTt.s2 {W0 : World} {B mb eb qb : Nat} {Q : Array Value} {e : Int} {L : List ByteArray} {M : Array Value} {W : World} (h : VTt W0 B mb eb qb Q e L M W) (j k : Nat) (u v : Value) (hu : noS u = true) (hv : noS v = true) : ∃ W2, (W.setCell ⟨mb, j, none⟩ u).setCell ⟨mb, k, none⟩ v = W2 ∧ VTt W0 B mb eb qb Q e L ((M.setIfInBounds j u).setIfInBounds k v) W2 ∧ Only mb W W2 := by
  obtain ⟨A, rfl, hA, o1⟩ := h.s1 j u hu
  obtain ⟨C, rfl, hC, o2⟩ := hA.s1 k v hv
  exact ⟨_, rfl, hC, o1.then o2⟩
theorem set2_at {M : Array Value} {j : Nat} {a u v : Value} (h : M[j]? = some a) : ((M.setIfInBounds j u).setIfInBounds (j + 1) v)[j]? = some u := by
  have hj := (Array.getElem?_eq_some_iff.1 h).1
  rw [Array.getElem?_setIfInBounds_ne (by omega), Array.getElem?_setIfInBounds_self_of_lt hj]
set_option maxRecDepth 100000 in
set_option maxHeartbeats 8000000 in
theorem vtake1_any {W0 : World} {B mb eb qb : Nat} {Q : Array Value} {e : Int} {M : Array Value} {W : World} (j : Nat) (a b : Value) (h0 : M[j]? = some a) (h1 : M[j + 1]? = some b) (s u : ByteArray) (R : List ByteArray) (Wc Mc Fc lo hi : Int) (l : ByteArray) {i : Bool} {n x : Int} (htd : takD s Wc Mc Fc lo hi = (i, n, x)) (hlb : (-9223372036854775808 ≤ lo ∧ lo ≤ 9223372036854775807) ∧ (-9223372036854775808 ≤ hi ∧ hi ≤ 9223372036854775807)) (hl : (s :: u :: R).length ≤ 1000) (hs : ∀ t ∈ s :: u :: R, t.size ≤ 1000) (h : VTt W0 B mb eb qb Q e (s :: u :: R) M W) : Calls Tryz.prog 14 #[.pointer (some ⟨mb, j, none⟩), .agg #[.int .i64 Wc, .int .i64 Mc, .int .i64 Fc, .int .i64 lo, .int .i64 hi, .string l], .pointer (some ⟨eb, 0, none⟩)] W fun r W' => r = .returned (.tuple #[]) ∧ VTt W0 B mb eb qb Q (kp (kp e x) (unE u l i)) R ((M.setIfInBounds j (.bool i)).setIfInBounds (j + 1) (.int .i64 n)) W' := by
  have k0 : ∀ e, kp e 0 = e := fun e => by unfold kp; split <;> omega
  have ka := hid (fun U hh => enumC B e s (u :: R) Wc Mc Fc lo hi htd U hh hl hs hlb)
  have kx := hid (fun U hh => etextC B (kp e x) u R U hh (by simp at hl ⊢; omega))
  have kf := hid (fun U hh => efail_any B (kp e x) 3 R U hh)
  have hZ := temp_iff u
  have hj9 := set2_at (u := .bool i) (v := .int .i64 n) h0
  clear htd hl hs hlb
  go_enter Tryz.func14, Tryz.ntmps14
  go_upto_region 0 with (fail)
  apply wp_region_seg0 (w := W) (S := [.al 1000]) (E := [.al ((fun p => .pointer (some ⟨p, 0, none⟩)), _) 1000]) rfl (by kernel_rfl) rfl rfl
  intro th hge hne
  refine Seg.step _ rfl ⟨by rfl, fun U hU => ?_⟩ ?_
  · go_simp; exact vp_alloc rfl rfl rfl
  refine Seg.sa ?_
  refine Seg.stop (fun U1 hU hk => ?_)
  have nb0 := hge 0 _ _ rfl
  have rb0 := (hk 0 _ _ rfl trivial).1.2 (by simp)
  clear hk hge hne
  generalize th (0 + 0) = p0_0 at *
  dsimp only at rb0
  replace h := h.below hU
  have r_p0_0 := rb0
  clear rb0
  have n_p0_0 := nb0
  clear nb0
  have sz1 := hU.size
  have hB : Below W.heap.size W U1 := hU
  clear hU
  clear hB sz1
  have nB : p0_0 ≠ B := by obtain ⟨a, c, q1, -⟩ := h.eye; exact heapT r_p0_0 q1 (by decide)
  have nM : p0_0 ≠ mb := heapT r_p0_0 h.m (by decide)
  have c0 := held_cell h.p 0 _ rfl
  have b0 := held_cell r_p0_0 0 _ rfl
  have b1 := held_cell r_p0_0 1 _ rfl
  have b2 := held_cell r_p0_0 2 _ rfl
  have b3 := held_cell r_p0_0 3 _ rfl
  have b4 := held_cell r_p0_0 4 _ rfl
  go_wp2_with fail
  refine (ka.out _ h.eye).mono ?_
  rintro r V1 ⟨rfl, hP2, hf2⟩
  replace r_p0_0 := eff_block24 hf2 r_p0_0 nB
  replace h := h.eff hP2 hf2
  clear hP2 hf2 c0 ka b0 b1 b2 b3 b4
  have g0 := held_free h.m j
  have g1 := held_free h.m (j + 1)
  have a0 := held_cell h.m j _ h0
  have a1 := held_cell h.m (j + 1) _ h1
  obtain ⟨S, hS, h2, o1⟩ := h.s2 j (j + 1) (.bool i) (.int .i64 n) rfl rfl
  replace r_p0_0 := (o1.block _ nM).trans r_p0_0
  clear h o1
  go_upto_region 2 with (fail)
  replace hS := hid hS
  clear g0 g1 a0 a1
  have h := h2
  clear h2
  have c0 := held_cell h.p 0 _ rfl
  go_wp2_with fail
  refine (kx.out _ h.eye).mono ?_
  rintro r V2 ⟨rfl, hP2, hf2⟩
  replace r_p0_0 := eff_block24 hf2 r_p0_0 nB
  replace h := h.eff hP2 hf2
  clear hP2 hf2 c0 kx
  have aj := held_cell h.m j _ hj9
  have b5 := held_cell r_p0_0 5 _ rfl
  have c0 := held_cell h.p 0 _ rfl
  by_cases c1 : u = l
  case pos =>
    have q1 := ba_neT c1
    have q11 := q1.1
    have q12 := q1.2
    have hu : unE u l i = 0 := by unfold unE; rw [if_neg (by first | exact ⟨c1, .inl c2⟩ | exact ⟨c1, .inr c3⟩ | exact fun h => h.1 c1 | exact fun h => h.2.elim (fun h => c2 h) (fun h => c3 h))]
    clear q1 hZ
    subst c1
    replace hu := hid hu
    go_wp2_with fail
    go_end0
    exact ⟨rfl, by rw [hu.out, k0]; exact h⟩
  have q1 := ba_neF c1
  have q11 := q1.1
  have q12 := q1.2
  by_cases c2 : u.size ≠ 0
  case pos =>
    have q2 : u.toList.isEmpty = false := by rw [hZ]; exact decide_eq_false c2
    have hu : unE u l i = 3 := by unfold unE; rw [if_pos (by first | exact ⟨c1, .inl c2⟩ | exact ⟨c1, .inr c3⟩ | exact fun h => h.1 c1 | exact fun h => h.2.elim (fun h => c2 h) (fun h => c3 h))]
    clear q1 hZ c1 c2
    replace hu := hid hu
    go_wp2_with fail
    refine (kf.out _ h.eye).mono ?_
    rintro r V3 ⟨rfl, hP2, hf2⟩
    replace h := h.eff hP2 hf2
    go_wp2_with fail
    go_end0
    exact ⟨rfl, by rw [hu.out]; exact h⟩
  have q2 : u.toList.isEmpty = true := by rw [hZ]; exact decide_eq_true (by omega)
  by_cases c3 : i = true
  case pos =>
    have hu : unE u l i = 3 := by unfold unE; rw [if_pos (by first | exact ⟨c1, .inl c2⟩ | exact ⟨c1, .inr c3⟩ | exact fun h => h.1 c1 | exact fun h => h.2.elim (fun h => c2 h) (fun h => c3 h))]
    subst c3
    clear q1 hZ c1 c2
    replace hu := hid hu
    go_wp2_with fail
    refine (kf.out _ h.eye).mono ?_
    rintro r V3 ⟨rfl, hP2, hf2⟩
    replace h := h.eff hP2 hf2
    go_wp2_with fail
    go_end0
    exact ⟨rfl, by rw [hu.out]; exact h⟩
  have hu : unE u l i = 0 := by unfold unE; rw [if_neg (by first | exact ⟨c1, .inl c2⟩ | exact ⟨c1, .inr c3⟩ | exact fun h => h.1 c1 | exact fun h => h.2.elim (fun h => c2 h) (fun h => c3 h))]
  have c4 : i = false := by simpa using c3
  subst c4
  clear q1 hZ c1 c2 c3
  replace hu := hid hu
  go_wp2_with fail
  go_end0
  exact ⟨rfl, by rw [hu.out, k0]; exact h⟩
set_option maxRecDepth 100000 in
set_option maxHeartbeats 8000000 in
theorem veacht_any (w : World) {B mb eb : Nat} {W0 : World} (s0 s1 s2 s3 s4 s5 s6 s7 : ByteArray) (R : List ByteArray) (hR : R.length ≤ 1) {g0i : Bool} {g0n x0 : Int} {g1i : Bool} {g1n x1 : Int} {g2i : Bool} {g2n x2 : Int} {g3i : Bool} {g3n x3 : Int} (h0 : takD s0 1 3 2 0 36000 = (g0i, g0n, x0)) (h1 : takD s2 1 3 2 0 36000 = (g1i, g1n, x1)) (h2 : takD s4 1 4 2 0 999999 = (g2i, g2n, x2)) (h3 : takD s6 1 4 2 0 999999 = (g3i, g3n, x3)) (hs : ∀ t ∈ (s0 :: s1 :: s2 :: s3 :: s4 :: s5 :: s6 :: s7 :: R), t.size ≤ 1000) (hl : (s0 :: s1 :: s2 :: s3 :: s4 :: s5 :: s6 :: s7 :: R).length ≤ 1000) (hP : EyeIn w B 0 (s0 :: s1 :: s2 :: s3 :: s4 :: s5 :: s6 :: s7 :: R)) (hm : w.heap[mb]? = some (.cells #[.bool false, .int .i64 0, .bool false, .int .i64 0, .bool false, .int .i64 0, .bool false, .int .i64 0] 28 (0, 0))) (hp : w.heap[eb]? = some (.cells #[.pointer (some ⟨B, 0, none⟩)] 37 (0, 0))) (hA0 : After W0 w) (nm : mb ≠ B) (np : eb ≠ B) (hb : W0.heap.size ≤ B) (hmb : W0.heap.size ≤ mb) : Calls Tryz.prog 13 #[.agg #[.pointer (some ⟨mb, 0, none⟩), .pointer (some ⟨mb, 2, none⟩), .pointer (some ⟨mb, 4, none⟩), .pointer (some ⟨mb, 6, none⟩)], .func (.func 14) #[] #[.pointer (some ⟨eb, 0, none⟩)]] w fun r w' => r = .returned (.tuple #[]) ∧ EyeIn w' B (kp (kp (kp (kp (kp (kp (kp (kp 0 x0) (unE s1 ⟨#[84]⟩ g0i)) x1) (unE s3 ⟨#[77]⟩ g1i)) x2) (unE s5 ⟨#[78]⟩ g2i)) x3) (unE s7 ⟨#[75]⟩ g3i)) R ∧ w'.heap[mb]? = some (.cells #[.bool g0i, .int .i64 g0n, .bool g1i, .int .i64 g1n, .bool g2i, .int .i64 g2n, .bool g3i, .int .i64 g3n] 28 (0, 0)) ∧ w'.heap[eb]? = some (.cells #[.pointer (some ⟨B, 0, none⟩)] 37 (0, 0)) ∧ After W0 w' := by
  replace h0 := hid h0
  replace h1 := hid h1
  replace h2 := hid h2
  replace h3 := hid h3
  replace hs := hid hs
  replace hl := hid hl
  have hpl := hP.lt
  go_enter Tryz.func13, Tryz.ntmps13
  go_upto_region 0 with (fail)
  apply wp_region_seg0 (w := w) (S := [.al 1000]) (E := [.al ((fun p => .pointer (some ⟨p, 0, none⟩)), _) 1000]) rfl (by kernel_rfl) rfl rfl
  intro th hge hne
  refine Seg.step _ rfl ⟨by rfl, fun U hU => ?_⟩ ?_
  · go_simp; exact vp_alloc rfl rfl rfl
  refine Seg.sa ?_
  refine Seg.stop (fun U1 hU hk => ?_)
  have nb0 := hge 0 _ _ rfl
  have rb0 := (hk 0 _ _ rfl trivial).1.2 (by simp)
  clear hk hge hne
  generalize th (0 + 0) = p0_0 at *
  dsimp only at rb0
  replace hm := held_after hU hm
  replace hp := held_after hU hp
  replace hP := hP.below hU
  have r_p0_0 := rb0
  clear rb0
  have n_p0_0 := nb0
  clear nb0
  have sz1 := hU.size
  have hB : Below w.heap.size w U1 := hU
  clear hU
  have hpl2 := hP.lt
  have h : VTt W0 B mb eb p0_0 #[.pointer (some ⟨mb, 0, none⟩), .pointer (some ⟨mb, 2, none⟩), .pointer (some ⟨mb, 4, none⟩), .pointer (some ⟨mb, 6, none⟩)] 0 (s0 :: s1 :: s2 :: s3 :: s4 :: s5 :: s6 :: s7 :: R) #[.bool false, .int .i64 0, .bool false, .int .i64 0, .bool false, .int .i64 0, .bool false, .int .i64 0] U1 := ⟨hP, hm, hp, r_p0_0, bthen hA0 hB, nm, np, by omega, hb, hmb, (by intro j s h; match j, h with | 0, h => simp at h | 1, h => simp at h | 2, h => simp at h | 3, h => simp at h | 4, h => simp at h | 5, h => simp at h | 6, h => simp at h | 7, h => simp at h | j + 8, h => simp at h)⟩
  clear hP hm hp r_p0_0 hB hpl hpl2 hA0
  go_upto_region 1 with (fail)
  apply wp_region_seg0 (w := U1) (S := [.q [], .q [], .q [], .q [], .q [], .q [], .q [], .q [], .q [], .al 10, .st 9 []]) (E := [.c0 _, .q0 _, .c0 _, .q0 _, .c0 _, .q0 _, .c0 _, .q0 _, .q0 _, .al ((fun p => .pointer (some ⟨p, 0, none⟩)), _) 10, .s0 9 (.cells _ _)]) rfl (by kernel_rfl) rfl rfl
  intro th hge hne
  refine Seg.step _ rfl (Or.inl ⟨by rfl, fun U hU => ?_⟩) ?_
  · go_simp
    refine vp_call (p28courseCol_any _)
  refine Seg.sa ?_
  refine Seg.sq ?_
  refine Seg.step _ rfl (Or.inl ⟨by rfl, fun U hU => ?_⟩) ?_
  · go_simp
    refine vp_call (p28courseCol_any _)
  refine Seg.sa ?_
  refine Seg.sq ?_
  refine Seg.step _ rfl (Or.inl ⟨by rfl, fun U hU => ?_⟩) ?_
  · go_simp
    refine vp_call (p28speedCol_any _)
  refine Seg.sa ?_
  refine Seg.sq ?_
  refine Seg.step _ rfl (Or.inl ⟨by rfl, fun U hU => ?_⟩) ?_
  · go_simp
    refine vp_call (p28speedCol_any _)
  refine Seg.sa ?_
  refine Seg.sq ?_
  refine Seg.sq ?_
  refine Seg.step _ rfl ⟨by rfl, fun U hU => ?_⟩ ?_
  · go_simp; exact vp_alloc rfl rfl rfl
  refine Seg.sa ?_
  refine Seg.step _ rfl ⟨by rfl, fun U z k hz hU hc => ?_⟩ ?_
  · have hz2 := Option.some.inj hz
    cases hz2; clear hz
    exact vp_store_agg _ _ _ rfl hc rfl rfl (by kernel_rfl) rfl (by rfl)
  refine Seg.sa ?_
  refine Seg.stop (fun U2 hU hk => ?_)
  have nb9 := hge 9 _ _ rfl
  have rb9 := (hk 9 _ 10 rfl trivial).1.1 trivial _ (Nat.zero_le _) rfl
  clear hk hge hne
  generalize th (0 + 9) = p1_9 at *
  simp only [Ent.obj] at rb9
  replace h := h.below hU
  have r_p1_9 := rb9
  clear rb9
  have n_p1_9 := nb9
  clear nb9
  have sz2 := hU.size
  have hB : Below U1.heap.size U1 U2 := hU
  clear hU
  clear hB
  have hr := row28
  go_upto_region 2 with (fail)
  go_wp2_with (first | (refine wpList_load_row rfl 72 (.tmp 4) rfl p1_9 rfl 72 #[.int .i64 1, .int .i64 3, .int .i64 2, .int .i64 0, .int .i64 36000, .string ⟨#[84]⟩, .int .i64 1, .int .i64 3, .int .i64 2, .int .i64 0, .int .i64 36000, .string ⟨#[77]⟩, .int .i64 1, .int .i64 4, .int .i64 2, .int .i64 0, .int .i64 999999, .string ⟨#[78]⟩, .int .i64 1, .int .i64 4, .int .i64 2, .int .i64 0, .int .i64 999999, .string ⟨#[75]⟩] (0, 0) _ r_p1_9 Tryz.underlying72 rfl (by kernel_rfl) ?_))
  clear r_p1_9
  go_loopw [17] (fun ix wr => (ix = .int .i64 0 ∧ VTt W0 B mb eb p0_0 #[.pointer (some ⟨mb, 0, none⟩), .pointer (some ⟨mb, 2, none⟩), .pointer (some ⟨mb, 4, none⟩), .pointer (some ⟨mb, 6, none⟩)] 0 (s0 :: s1 :: s2 :: s3 :: s4 :: s5 :: s6 :: s7 :: R) #[.bool false, .int .i64 0, .bool false, .int .i64 0, .bool false, .int .i64 0, .bool false, .int .i64 0] wr) ∨ (ix = .int .i64 1 ∧ VTt W0 B mb eb p0_0 #[.pointer (some ⟨mb, 0, none⟩), .pointer (some ⟨mb, 2, none⟩), .pointer (some ⟨mb, 4, none⟩), .pointer (some ⟨mb, 6, none⟩)] (kp (kp 0 x0) (unE s1 ⟨#[84]⟩ g0i)) (s2 :: s3 :: s4 :: s5 :: s6 :: s7 :: R) #[.bool g0i, .int .i64 g0n, .bool false, .int .i64 0, .bool false, .int .i64 0, .bool false, .int .i64 0] wr) ∨ (ix = .int .i64 2 ∧ VTt W0 B mb eb p0_0 #[.pointer (some ⟨mb, 0, none⟩), .pointer (some ⟨mb, 2, none⟩), .pointer (some ⟨mb, 4, none⟩), .pointer (some ⟨mb, 6, none⟩)] (kp (kp (kp (kp 0 x0) (unE s1 ⟨#[84]⟩ g0i)) x1) (unE s3 ⟨#[77]⟩ g1i)) (s4 :: s5 :: s6 :: s7 :: R) #[.bool g0i, .int .i64 g0n, .bool g1i, .int .i64 g1n, .bool false, .int .i64 0, .bool false, .int .i64 0] wr) ∨ (ix = .int .i64 3 ∧ VTt W0 B mb eb p0_0 #[.pointer (some ⟨mb, 0, none⟩), .pointer (some ⟨mb, 2, none⟩), .pointer (some ⟨mb, 4, none⟩), .pointer (some ⟨mb, 6, none⟩)] (kp (kp (kp (kp (kp (kp 0 x0) (unE s1 ⟨#[84]⟩ g0i)) x1) (unE s3 ⟨#[77]⟩ g1i)) x2) (unE s5 ⟨#[78]⟩ g2i)) (s6 :: s7 :: R) #[.bool g0i, .int .i64 g0n, .bool g1i, .int .i64 g1n, .bool g2i, .int .i64 g2n, .bool false, .int .i64 0] wr) ∨ (ix = .int .i64 4 ∧ VTt W0 B mb eb p0_0 #[.pointer (some ⟨mb, 0, none⟩), .pointer (some ⟨mb, 2, none⟩), .pointer (some ⟨mb, 4, none⟩), .pointer (some ⟨mb, 6, none⟩)] (kp (kp (kp (kp (kp (kp (kp (kp 0 x0) (unE s1 ⟨#[84]⟩ g0i)) x1) (unE s3 ⟨#[77]⟩ g1i)) x2) (unE s5 ⟨#[78]⟩ g2i)) x3) (unE s7 ⟨#[75]⟩ g3i)) R #[.bool g0i, .int .i64 g0n, .bool g1i, .int .i64 g1n, .bool g2i, .int .i64 g2n, .bool g3i, .int .i64 g3n] wr)) (fun ix _ => 4 - (intOf ix).toNat)
  case atStart => exact .inl ⟨rfl, h⟩
  case round =>
    clear h
    rcases hrel with ⟨rfl, h⟩ | ⟨rfl, h⟩ | ⟨rfl, h⟩ | ⟨rfl, h⟩ | ⟨rfl, h⟩
    · have hi := fun W => (hr W).1
      have hh := h
      have nw := alloc_new wr (.cells #[.int .i64 1, .int .i64 3, .int .i64 2, .int .i64 0, .int .i64 36000, .string ⟨#[84]⟩] 45)
      go_upto_region 5 with (fail)
      obtain ⟨Zw, hZ⟩ : ∃ X, wr.alloc (.cells #[.int .i64 1, .int .i64 3, .int .i64 2, .int .i64 0, .int .i64 36000, .string ⟨#[84]⟩] 45) = X := ⟨_, rfl⟩
      rw [hZ] at nw ⊢
      obtain ⟨pa, hpa⟩ : ∃ X, wr.heap.size = X := ⟨_, rfl⟩
      rw [hpa] at nw ⊢
      replace hZ := hid hZ
      replace hpa := hid hpa
      have ra := nw.2.2
      replace h := h.below nw.2.1
      have hq := h.q
      clear nw hh
      apply wp_region_part (w := Zw) (S := [.q [], .q [], .q [], .q [], .q []]) (E := [.q0 _, .q0 _, .q0 _, .q0 _, .q0 _]) 5 1 (by kernel_rfl) rfl (by kernel_rfl) rfl rfl rfl
      intro th hge hne
      iterate 3 refine Seg.sq ?_
      refine Seg.sq ?_ (ht := Or.inl ⟨by rfl, fun U hU => vp_quiet (by (have h7 := held_cell (held_after hU.1 hq) 0 _ rfl; go_simp <;> exact rfl))⟩)
      refine Seg.sq ?_ (ht := Or.inl ⟨by rfl, fun U hU => vp_quiet (by (have h0 := held_cell (held_after hU.1 ra) 0 _ rfl; have h1 := held_cell (held_after hU.1 ra) 1 _ rfl; have h2 := held_cell (held_after hU.1 ra) 2 _ rfl; have h3 := held_cell (held_after hU.1 ra) 3 _ rfl; have h4 := held_cell (held_after hU.1 ra) 4 _ rfl; have h5 := held_cell (held_after hU.1 ra) 5 _ rfl; go_simp <;> exact rfl))⟩)
      refine Seg.stop (fun U11 hU hk => ?_)
      clear hk hge hne
      replace ra := held_after hU ra
      replace hq := held_after hU hq
      replace h := h.below hU
      have sz11 := hU.size
      have hB : Below Zw.heap.size Zw U11 := hU
      clear hU hB ra hq
      refine Seg.only (m := 5) (k := 0) rfl (by kernel_rfl) (by rfl) (fun K hK => ?_)
      go_simp
      refine (vtake1_any 0 _ _ rfl rfl s0 s1 (s2 :: s3 :: s4 :: s5 :: s6 :: s7 :: R) 1 3 2 0 36000 ⟨#[84]⟩ h0.out (by decide) (by have := hl.out; simp at this ⊢; omega) (szs hs.out 0 rfl) h).mono ?_
      rintro r V ⟨rfl, h2⟩
      refine hK _ _ (Seg.finish ?_ _)
      clear hK h
      go_wp2_with fail
      go_roundw
      case rel => exact .inr (.inl ⟨rfl, h2⟩)
      case measure => simp [intOf]
    · have hi := fun W => (hr W).2.1
      have hh := h
      have nw := alloc_new wr (.cells #[.int .i64 1, .int .i64 3, .int .i64 2, .int .i64 0, .int .i64 36000, .string ⟨#[77]⟩] 45)
      go_upto_region 5 with (fail)
      obtain ⟨Zw, hZ⟩ : ∃ X, wr.alloc (.cells #[.int .i64 1, .int .i64 3, .int .i64 2, .int .i64 0, .int .i64 36000, .string ⟨#[77]⟩] 45) = X := ⟨_, rfl⟩
      rw [hZ] at nw ⊢
      obtain ⟨pa, hpa⟩ : ∃ X, wr.heap.size = X := ⟨_, rfl⟩
      rw [hpa] at nw ⊢
      replace hZ := hid hZ
      replace hpa := hid hpa
      have ra := nw.2.2
      replace h := h.below nw.2.1
      have hq := h.q
      clear nw hh
      apply wp_region_part (w := Zw) (S := [.q [], .q [], .q [], .q [], .q []]) (E := [.q0 _, .q0 _, .q0 _, .q0 _, .q0 _]) 5 1 (by kernel_rfl) rfl (by kernel_rfl) rfl rfl rfl
      intro th hge hne
      iterate 3 refine Seg.sq ?_
      refine Seg.sq ?_ (ht := Or.inl ⟨by rfl, fun U hU => vp_quiet (by (have h7 := held_cell (held_after hU.1 hq) 1 _ rfl; go_simp <;> exact rfl))⟩)
      refine Seg.sq ?_ (ht := Or.inl ⟨by rfl, fun U hU => vp_quiet (by (have h0 := held_cell (held_after hU.1 ra) 0 _ rfl; have h1 := held_cell (held_after hU.1 ra) 1 _ rfl; have h2 := held_cell (held_after hU.1 ra) 2 _ rfl; have h3 := held_cell (held_after hU.1 ra) 3 _ rfl; have h4 := held_cell (held_after hU.1 ra) 4 _ rfl; have h5 := held_cell (held_after hU.1 ra) 5 _ rfl; go_simp <;> exact rfl))⟩)
      refine Seg.stop (fun U21 hU hk => ?_)
      clear hk hge hne
      replace ra := held_after hU ra
      replace hq := held_after hU hq
      replace h := h.below hU
      have sz21 := hU.size
      have hB : Below Zw.heap.size Zw U21 := hU
      clear hU hB ra hq
      refine Seg.only (m := 5) (k := 0) rfl (by kernel_rfl) (by rfl) (fun K hK => ?_)
      go_simp
      refine (vtake1_any 2 _ _ rfl rfl s2 s3 (s4 :: s5 :: s6 :: s7 :: R) 1 3 2 0 36000 ⟨#[77]⟩ h1.out (by decide) (by have := hl.out; simp at this ⊢; omega) (szs hs.out 2 rfl) h).mono ?_
      rintro r V ⟨rfl, h2⟩
      refine hK _ _ (Seg.finish ?_ _)
      clear hK h
      go_wp2_with fail
      go_roundw
      case rel => exact .inr (.inr (.inl ⟨rfl, h2⟩))
      case measure => simp [intOf]
    · have hi := fun W => (hr W).2.2.1
      have hh := h
      have nw := alloc_new wr (.cells #[.int .i64 1, .int .i64 4, .int .i64 2, .int .i64 0, .int .i64 999999, .string ⟨#[78]⟩] 45)
      go_upto_region 5 with (fail)
      obtain ⟨Zw, hZ⟩ : ∃ X, wr.alloc (.cells #[.int .i64 1, .int .i64 4, .int .i64 2, .int .i64 0, .int .i64 999999, .string ⟨#[78]⟩] 45) = X := ⟨_, rfl⟩
      rw [hZ] at nw ⊢
      obtain ⟨pa, hpa⟩ : ∃ X, wr.heap.size = X := ⟨_, rfl⟩
      rw [hpa] at nw ⊢
      replace hZ := hid hZ
      replace hpa := hid hpa
      have ra := nw.2.2
      replace h := h.below nw.2.1
      have hq := h.q
      clear nw hh
      apply wp_region_part (w := Zw) (S := [.q [], .q [], .q [], .q [], .q []]) (E := [.q0 _, .q0 _, .q0 _, .q0 _, .q0 _]) 5 1 (by kernel_rfl) rfl (by kernel_rfl) rfl rfl rfl
      intro th hge hne
      iterate 3 refine Seg.sq ?_
      refine Seg.sq ?_ (ht := Or.inl ⟨by rfl, fun U hU => vp_quiet (by (have h7 := held_cell (held_after hU.1 hq) 2 _ rfl; go_simp <;> exact rfl))⟩)
      refine Seg.sq ?_ (ht := Or.inl ⟨by rfl, fun U hU => vp_quiet (by (have h0 := held_cell (held_after hU.1 ra) 0 _ rfl; have h1 := held_cell (held_after hU.1 ra) 1 _ rfl; have h2 := held_cell (held_after hU.1 ra) 2 _ rfl; have h3 := held_cell (held_after hU.1 ra) 3 _ rfl; have h4 := held_cell (held_after hU.1 ra) 4 _ rfl; have h5 := held_cell (held_after hU.1 ra) 5 _ rfl; go_simp <;> exact rfl))⟩)
      refine Seg.stop (fun U31 hU hk => ?_)
      clear hk hge hne
      replace ra := held_after hU ra
      replace hq := held_after hU hq
      replace h := h.below hU
      have sz31 := hU.size
      have hB : Below Zw.heap.size Zw U31 := hU
      clear hU hB ra hq
      refine Seg.only (m := 5) (k := 0) rfl (by kernel_rfl) (by rfl) (fun K hK => ?_)
      go_simp
      refine (vtake1_any 4 _ _ rfl rfl s4 s5 (s6 :: s7 :: R) 1 4 2 0 999999 ⟨#[78]⟩ h2.out (by decide) (by have := hl.out; simp at this ⊢; omega) (szs hs.out 4 rfl) h).mono ?_
      rintro r V ⟨rfl, h2⟩
      refine hK _ _ (Seg.finish ?_ _)
      clear hK h
      go_wp2_with fail
      go_roundw
      case rel => exact .inr (.inr (.inr (.inl ⟨rfl, h2⟩)))
      case measure => simp [intOf]
    · have hi := fun W => (hr W).2.2.2
      have hh := h
      have nw := alloc_new wr (.cells #[.int .i64 1, .int .i64 4, .int .i64 2, .int .i64 0, .int .i64 999999, .string ⟨#[75]⟩] 45)
      go_upto_region 5 with (fail)
      obtain ⟨Zw, hZ⟩ : ∃ X, wr.alloc (.cells #[.int .i64 1, .int .i64 4, .int .i64 2, .int .i64 0, .int .i64 999999, .string ⟨#[75]⟩] 45) = X := ⟨_, rfl⟩
      rw [hZ] at nw ⊢
      obtain ⟨pa, hpa⟩ : ∃ X, wr.heap.size = X := ⟨_, rfl⟩
      rw [hpa] at nw ⊢
      replace hZ := hid hZ
      replace hpa := hid hpa
      have ra := nw.2.2
      replace h := h.below nw.2.1
      have hq := h.q
      clear nw hh
      apply wp_region_part (w := Zw) (S := [.q [], .q [], .q [], .q [], .q []]) (E := [.q0 _, .q0 _, .q0 _, .q0 _, .q0 _]) 5 1 (by kernel_rfl) rfl (by kernel_rfl) rfl rfl rfl
      intro th hge hne
      iterate 3 refine Seg.sq ?_
      refine Seg.sq ?_ (ht := Or.inl ⟨by rfl, fun U hU => vp_quiet (by (have h7 := held_cell (held_after hU.1 hq) 3 _ rfl; go_simp <;> exact rfl))⟩)
      refine Seg.sq ?_ (ht := Or.inl ⟨by rfl, fun U hU => vp_quiet (by (have h0 := held_cell (held_after hU.1 ra) 0 _ rfl; have h1 := held_cell (held_after hU.1 ra) 1 _ rfl; have h2 := held_cell (held_after hU.1 ra) 2 _ rfl; have h3 := held_cell (held_after hU.1 ra) 3 _ rfl; have h4 := held_cell (held_after hU.1 ra) 4 _ rfl; have h5 := held_cell (held_after hU.1 ra) 5 _ rfl; go_simp <;> exact rfl))⟩)
      refine Seg.stop (fun U41 hU hk => ?_)
      clear hk hge hne
      replace ra := held_after hU ra
      replace hq := held_after hU hq
      replace h := h.below hU
      have sz41 := hU.size
      have hB : Below Zw.heap.size Zw U41 := hU
      clear hU hB ra hq
      refine Seg.only (m := 5) (k := 0) rfl (by kernel_rfl) (by rfl) (fun K hK => ?_)
      go_simp
      refine (vtake1_any 6 _ _ rfl rfl s6 s7 R 1 4 2 0 999999 ⟨#[75]⟩ h3.out (by decide) (by have := hl.out; simp at this ⊢; omega) (szs hs.out 6 rfl) h).mono ?_
      rintro r V ⟨rfl, h2⟩
      refine hK _ _ (Seg.finish ?_ _)
      clear hK h
      go_wp2_with fail
      go_roundw
      case rel => exact .inr (.inr (.inr (.inr (⟨rfl, h2⟩))))
      case measure => simp [intOf]
    · go_wp2_with fail
      go_end0
      exact ⟨rfl, h.eye, h.m, h.p, h.bel⟩
set_option maxRecDepth 100000 in
set_option maxHeartbeats 2000000 in
theorem mode28_any (s : ByteArray) (w : World) : Calls Tryz.prog 19 #[.string s] w fun r w' => r = .returned (.int .i64 (moE s)) ∧ w' = w := by
  have hZ := temp_iff s
  by_cases c0 : s.size = 0
  case pos =>
    have hd : moE s = 0 := by unfold moE; rw [if_pos (.inl c0)]
    rw [hd]
    have b0 : s.toList.isEmpty = true := by rw [hZ]; exact decide_eq_true c0
    clear hd hZ c0
    go_enter Tryz.func19, Tryz.ntmps19
    go_wp2_with fail
    go_ret
    exact ⟨rfl, rfl⟩
  have b0 : s.toList.isEmpty = false := by rw [hZ]; exact decide_eq_false c0
  clear hZ
  by_cases c1 : s.size = 1
  case neg =>
    have hd : moE s = 3 := by unfold moE; rw [if_neg (by omega)]
    rw [hd]
    have b1 : ((s.size : Int) == 1) = false := by simp; omega
    clear hd c0 c1
    go_enter Tryz.func19, Tryz.ntmps19
    go_wp2_with fail
    go_ret
    exact ⟨rfl, rfl⟩
  obtain ⟨c, hc⟩ : ∃ c, (sb s).getD 0 0 = c := ⟨_, rfl⟩
  have hix := fun W => tidx (P := Tryz.prog) 9 Tryz.underlying9 s 0 c (by omega) hc .i64 0 rfl W
  have b1 : ((s.size : Int) == 1) = true := by simp; omega
  have hcb : c ≤ 255 := by rw [← hc, List.getD_eq_getElem?_getD, List.getElem?_eq_getElem (show 0 < (sb s).length by rw [sb_len]; omega)]; have := sb_lt s _ (List.getElem_mem (show 0 < (sb s).length by rw [sb_len]; omega)); simp only [Option.getD_some]; omega
  by_cases c2 : 65 ≤ c
  case neg =>
    have hd : moE s = 3 := by unfold moE; rw [if_neg (by omega)]
    rw [hd]
    have b2 : decide ((65 : Int) ≤ (c : Int)) = false := by simp; omega
    clear hd hc c0 c1
    go_enter Tryz.func19, Tryz.ntmps19
    go_wp2_with fail
    go_ret
    exact ⟨rfl, rfl⟩
  have b2 : decide ((65 : Int) ≤ (c : Int)) = true := by simp; omega
  by_cases c3 : c ≤ 90
  case neg =>
    have hd : moE s = 3 := by unfold moE; rw [if_neg (by omega)]
    rw [hd]
    have b3 : decide ((c : Int) ≤ 90) = false := by simp; omega
    clear hd hc c0 c1
    go_enter Tryz.func19, Tryz.ntmps19
    go_wp2_with fail
    go_ret
    exact ⟨rfl, rfl⟩
  have b3 : decide ((c : Int) ≤ 90) = true := by simp; omega
  have hd : moE s = 0 := by unfold moE; rw [if_pos (by omega)]
  rw [hd]
  clear hd hc c0 c1
  go_enter Tryz.func19, Tryz.ntmps19
  go_wp2_with fail
  go_ret
  exact ⟨rfl, rfl⟩
def vmR (E : Int) (v : Array Value) : Value := .tuple #[if E = 0 then .agg v else .agg #[.bool false, .int .i64 0, .bool false, .int .i64 0, .bool false, .int .i64 0, .bool false, .int .i64 0], .int .i64 E]
set_option maxRecDepth 100000 in
set_option maxHeartbeats 32000000 in
theorem vtake_any (s0 s1 s2 s3 s4 s5 s6 s7 : ByteArray) (R : List ByteArray) (hR : R.length ≤ 1) {g0i : Bool} {g0n x0 : Int} {g1i : Bool} {g1n x1 : Int} {g2i : Bool} {g2n x2 : Int} {g3i : Bool} {g3n x3 : Int} (h0 : takD s0 1 3 2 0 36000 = (g0i, g0n, x0)) (h1 : takD s2 1 3 2 0 36000 = (g1i, g1n, x1)) (h2 : takD s4 1 4 2 0 999999 = (g2i, g2n, x2)) (h3 : takD s6 1 4 2 0 999999 = (g3i, g3n, x3)) {E : Int} (hKE : moL (kp (kp (kp (kp (kp (kp (kp (kp 0 x0) (unE s1 ⟨#[84]⟩ g0i)) x1) (unE s3 ⟨#[77]⟩ g1i)) x2) (unE s5 ⟨#[78]⟩ g2i)) x3) (unE s7 ⟨#[75]⟩ g3i)) R = E) (w : World) (a : Option Addr) (n cap : Nat) (hn : n = 8 + R.length) (hEl : Els w 1 a n cap (strV23 (s0 :: s1 :: s2 :: s3 :: s4 :: s5 :: s6 :: s7 :: R))) (hs : ∀ s ∈ (s0 :: s1 :: s2 :: s3 :: s4 :: s5 :: s6 :: s7 :: R), s.size ≤ 1000) : Calls Tryz.prog 6 #[.slice a n cap] w fun r w' => r = .returned (vmR E #[.bool g0i, .int .i64 g0n, .bool g1i, .int .i64 g1n, .bool g2i, .int .i64 g2n, .bool g3i, .int .i64 g3n]) ∧ After w w' := by
  have hn12 : n = 8 ∨ n = 9 := by omega
  have hn1000 : n ≤ 1000 := by omega
  have hlen : (s0 :: s1 :: s2 :: s3 :: s4 :: s5 :: s6 :: s7 :: R).length = n := by simp; omega
  have hL1000 : (s0 :: s1 :: s2 :: s3 :: s4 :: s5 :: s6 :: s7 :: R).length ≤ 1000 := by omega
  clear hn
  replace hKE := hid hKE
  replace h0 := hid h0
  replace h1 := hid h1
  replace h2 := hid h2
  replace h3 := hid h3
  replace hEl := hid hEl
  replace hs := hid hs
  replace hlen := hid hlen
  replace hL1000 := hid hL1000
  replace hR := hid hR
  have hmf : ∀ (fn : Fn) (first cap : Array Value) (w : World), (Instr.makeFunc fn first cap).run Tryz.prog w = .ok (.func fn first cap) w := fun _ _ _ _ => rfl
  have b12 : ((n : Int) != 8) = false ∨ (((n : Int) != 8) = true ∧ ((n : Int) != 9) = false) := by rcases hn12 with rfl | rfl <;> simp
  replace hn12 := hid hn12
  go_enter Tryz.func6, Tryz.ntmps6
  go_upto_region 0 with (fail)
  apply wp_region_seg0 (w := w) (S := [.al 1000, .q []]) (E := [.al ((fun p => .pointer (some ⟨p, 0, none⟩)), _) 1000, .q0 _]) rfl (by kernel_rfl) rfl rfl
  intro th hge hne
  refine Seg.step _ rfl ⟨by rfl, fun U hU => ?_⟩ ?_
  · go_simp; exact vp_alloc rfl rfl rfl
  refine Seg.sa ?_
  refine Seg.sq ?_
  refine Seg.stop (fun U1 hU hk => ?_)
  have nb0 := hge 0 _ _ rfl
  have rb0 := (hk 0 _ _ rfl trivial).1.2 (by simp)
  clear hk hge hne
  generalize th (0 + 0) = p0_0 at *
  dsimp only at rb0
  have r_p0_0 := rb0
  clear rb0
  have n_p0_0 := nb0
  clear nb0
  have sz1 := hU.size
  have hB : Below w.heap.size w U1 := hU
  clear hU
  have hl0 := held_lt r_p0_0
  replace r_p0_0 := hid r_p0_0
  replace hB := hid hB
  go_upto_region 1 with (fail)
  go_cut [13] (fun x wx => x = .bool false ∧ wx.heap[p0_0]? = some (.cells #[.bool false, .int .i64 0, .bool false, .int .i64 0, .bool false, .int .i64 0, .bool false, .int .i64 0] 28 (0, 0)) ∧ After w wx ∧ p0_0 < wx.heap.size)
  case first =>
    rcases b12 with q | ⟨q, q2⟩
    · go_wp2_with fail
      go_meet
      exact ⟨rfl, r_p0_0.out, hB.out, hl0⟩
    · go_wp2_with fail
      go_meet
      exact ⟨rfl, r_p0_0.out, hB.out, hl0⟩
  case rest =>
    clear b12 r_p0_0 hB hl0
    obtain ⟨rfl, r_0, hBw, hl0⟩ := hcut
    generalize hVV : wc = wb at *
    clear hVV
    have hEl1 := hEl.out.below hBw
    go_wp2_with fail
    refine (look_any a n cap (s0 :: s1 :: s2 :: s3 :: s4 :: s5 :: s6 :: s7 :: R) _ hlen.out hn1000 hEl1).mono ?_
    rintro r V ⟨B, rfl, hP, hB, hwB⟩
    clear hEl1
    have hlp := hP.lt
    have nw := alloc_new V (.cells #[.pointer (some ⟨B, 0, none⟩)] 37)
    go_upto_region 4 with (fail)
    obtain ⟨W1, hW1⟩ : ∃ X, V.alloc (.cells #[.pointer (some ⟨B, 0, none⟩)] 37) = X := ⟨_, rfl⟩
    rw [hW1] at nw ⊢
    obtain ⟨eb, hpp⟩ : ∃ X, V.heap.size = X := ⟨_, rfl⟩
    rw [hpp] at nw ⊢
    replace hW1 := hid hW1
    have hA := nw.2.1
    have r_eb := nw.2.2
    have nep : eb ≠ B := by omega
    replace hpp := hid hpp
    clear nw
    replace hB := bthen hB hA
    replace hP := hP.aft hA
    clear hA
    have hlp := hP.lt
    have s1w := hB.size
    apply wp_region_seg0 (w := W1) (S := [.al 1000]) (E := [.al ((fun p => .pointer (some ⟨p, 0, none⟩)), _) 1000]) rfl (by kernel_rfl) rfl rfl
    intro th hge hne
    refine Seg.step _ rfl ⟨by rfl, fun U hU => ?_⟩ ?_
    · go_simp; exact vp_alloc rfl rfl rfl
    refine Seg.sa ?_
    refine Seg.stop (fun U2 hU hk => ?_)
    have nb0 := hge 0 _ _ rfl
    have rb0 := (hk 0 _ _ rfl trivial).1.2 (by simp)
    clear hk hge hne
    generalize th (0 + 0) = p4_0 at *
    dsimp only at rb0
    replace r_eb := held_after hU r_eb
    replace hP := hP.below hU
    have r_p4_0 := rb0
    clear rb0
    have n_p4_0 := nb0
    clear nb0
    have sz2 := hU.size
    replace hB := bthen hB hU
    clear hU
    have nem : p4_0 ≠ B := by omega
    have hwm : wb.heap.size ≤ p4_0 := by omega
    have kA := hid (veacht_any U2 (W0 := wb) s0 s1 s2 s3 s4 s5 s6 s7 R hR.out h0.out h1.out h2.out h3.out hs.out hL1000.out hP r_p4_0 r_eb hB nem nep hwB hwm)
    clear hP r_p4_0 r_eb hB hlp
    replace r_0 := hid r_0
    replace hBw := hid hBw
    go_wp2_with fail
    refine kA.out.mono ?_
    rintro r V2 ⟨rfl, hey, hme, hpe, hbe⟩
    clear kA hmf hs hEl h0 h1 h2 h3
    have nMB := nem
    have c2 := held_cell hpe 0 _ rfl
    obtain ⟨EE, hEE⟩ : ∃ E, (kp (kp (kp (kp (kp (kp (kp (kp 0 x0) (unE s1 ⟨#[84]⟩ g0i)) x1) (unE s3 ⟨#[77]⟩ g1i)) x2) (unE s5 ⟨#[78]⟩ g2i)) x3) (unE s7 ⟨#[75]⟩ g3i)) = E := ⟨_, rfl⟩
    rw [hEE] at hey hKE
    clear hEE
    go_upto_region 6 with (fail)
    go_wp2_with fail
    refine (eleft_any B EE R _ hey).mono ?_
    rintro r V3 ⟨rfl, hv⟩
    obtain rfl : V2 = V3 := hv.symm
    go_upto_if 26 with (fail)
    go_cut [26] (fun _ W0 => EyeIn W0 B E [] ∧ W0.heap[p4_0]? = some (.cells #[.bool g0i, .int .i64 g0n, .bool g1i, .int .i64 g1n, .bool g2i, .int .i64 g2n, .bool g3i, .int .i64 g3n] 28 (0, 0)) ∧ W0.heap[eb]? = some (.cells #[.pointer (some ⟨B, 0, none⟩)] 37 (0, 0)) ∧ After wb W0)
    case first =>
      rcases (show R = [] ∨ ∃ s, R = [s] by have := hR.out; match R, this with | [], _ => exact .inl rfl | [s], _ => exact .inr ⟨s, rfl⟩) with rfl | ⟨s, rfl⟩
      · obtain rfl : EE = E := hKE.out
        clear hKE
        go_wp2_with fail
        go_meet
        exact ⟨hey, hme, hpe, hbe⟩
      · have hKE2 := hid (show kp EE (moE s) = E from hKE.out)
        clear hKE
        go_upto_region 7 with (fail)
        obtain ⟨QQ, hQQ⟩ : ∃ X, V2.drew = X := ⟨_, rfl⟩
        have hQA : After V2 QQ := by rw [← hQQ]; exact (Below.refl V2.heap.size V2).drew
        replace hey := hey.aft hQA
        replace hme := held_after hQA hme
        replace hpe := held_after hQA hpe
        replace hbe := bthen hbe hQA
        clear hQA
        have lp := held_lt hpe
        have qp := held_cell hpe 0 _ rfl
        have hq0 := Nat.le_refl QQ.heap.size
        have hpX : eb ∉ [B] := by simp; exact nep
        refine wp_region_K (N := QQ.heap.size) (X := [B]) (by kernel_rfl) ?_
        rw [hQQ]
        refine wpAnyK_take 0 rfl (by kernel_rfl) (by kernel_rfl) (by kernel_rfl) (fun _ _ _ _ h => h) ⟨_, Or.inl ⟨by rfl, fun w2 hb => by (have h0 := Kp.cellB hb (p := ⟨eb, 0, none⟩) (by exact lp) (by exact hpX) qp; go_simp; try with_reducible rfl)⟩, _, by (go_simp; try rfl), ?_⟩
        refine wpAnyK_take 1 rfl (by kernel_rfl) (by kernel_rfl) (by kernel_rfl) (fun _ _ _ _ h => h) ⟨_, Or.inl ⟨by rfl, fun w2 hb => by (have h0 := Kp.cellB hb (p := ⟨eb, 0, none⟩) (by exact lp) (by exact hpX) qp; go_simp; try with_reducible rfl)⟩, _, by (go_simp; try rfl), ?_⟩
        refine wpAnyK_only 2 rfl (by kernel_rfl) (by rfl) (fun K hK => ?_)
        go_simp
        refine (etextC B EE s [] _ hey (by simp)).mono ?_
        rintro r Y1 ⟨rfl, hP2, hf2⟩
        have kp2 : Kp QQ.heap.size [B] QQ Y1 := kpx_eff hf2 hq0 (by simp)
        have hq1 := Nat.le_trans hq0 hf2.size
        replace hme := eff_block24 hf2 hme nem
        replace hpe := eff_block24 hf2 hpe nep
        replace hbe := eff_below24 hbe hf2 hwB hbe.size
        clear hey
        have hey := hP2
        clear hP2 hf2
        refine hK _ _ ⟨kp2, ?_⟩
        clear hK
        clear kp2
        refine wpAnyK_only 3 rfl (by kernel_rfl) (by rfl) (fun K hK => ?_)
        go_simp
        refine (mode28_any s _).mono ?_
        rintro r Y2 ⟨rfl, hv⟩
        obtain rfl : Y1 = Y2 := hv.symm
        refine hK _ _ ⟨Kp.refl _ _ _, ?_⟩
        clear hK
        refine wpAnyK_only 4 rfl (by kernel_rfl) (by rfl) (fun K hK => ?_)
        go_simp
        refine (efail_any B EE (moE s) [] _ hey).mono ?_
        rintro r Y3 ⟨rfl, hP2, hf2⟩
        have kp4 : Kp QQ.heap.size [B] Y1 Y3 := kpx_eff hf2 hq1 (by simp)
        replace hme := eff_block24 hf2 hme nem
        replace hpe := eff_block24 hf2 hpe nep
        replace hbe := eff_below24 hbe hf2 hwB hbe.size
        clear hey
        have hey := hP2
        clear hP2 hf2
        refine hK _ _ ⟨kp4, ?_⟩
        clear hK
        clear kp4
        refine wpAnyK_done (by kernel_rfl) ?_ _
        clear hQQ
        rw [hKE2.out] at hey
        go_wp2_with fail
        go_meet
        exact ⟨hey, hme, hpe, hbe⟩
    case rest =>
      clear hey hme hpe hbe c2 hKE
      obtain ⟨hey, hme, hpe, hbe⟩ := hcut
      have c2 := held_cell hpe 0 _ rfl
      have c0 := held_after hbe r_0.out
      have hB2 := bthen hBw.out hbe
      replace hey := hid hey
      go_wp2_with fail
      refine (eerr_any B E [] _ hey.out).mono ?_
      rintro r V9 ⟨rfl, hv⟩
      obtain rfl : wc = V9 := hv.symm
      by_cases hE0 : E = 0
      case pos =>
        have t0 : (E != 0) = false := by simpa using hE0
        have hres : vmR E #[.bool g0i, .int .i64 g0n, .bool g1i, .int .i64 g1n, .bool g2i, .int .i64 g2n, .bool g3i, .int .i64 g3n] = .tuple #[.agg #[.bool g0i, .int .i64 g0n, .bool g1i, .int .i64 g1n, .bool g2i, .int .i64 g2n, .bool g3i, .int .i64 g3n], .int .i64 0] := by unfold vmR; rw [if_pos hE0]; rw [hE0]
        replace hres := hid hres
        have ya := setRow_heap wc p0_0 _ #[.bool g0i, .int .i64 g0n, .bool g1i, .int .i64 g1n, .bool g2i, .int .i64 g2n, .bool g3i, .int .i64 g3n] 28 (0, 0) c0
        have yO : Only p0_0 wc (wc.setRow p0_0 #[.bool g0i, .int .i64 g0n, .bool g1i, .int .i64 g1n, .bool g2i, .int .i64 g2n, .bool g3i, .int .i64 g3n]) := ⟨rfl, rfl, rfl, by simp [World.setRow], fun k hk => setRow_other _ _ _ _ hk⟩
        obtain ⟨W9, hW9⟩ : ∃ X, wc.setRow p0_0 #[.bool g0i, .int .i64 g0n, .bool g1i, .int .i64 g1n, .bool g2i, .int .i64 g2n, .bool g3i, .int .i64 g3n] = X := ⟨_, rfl⟩
        rw [hW9] at ya yO
        have hB9 := hid (belowS hB2 yO (by omega))
        have hld := run_loadVar_row (P := Tryz.prog) W9 p0_0 28 28 #[.bool g0i, .int .i64 g0n, .bool g1i, .int .i64 g1n, .bool g2i, .int .i64 g2n, .bool g3i, .int .i64 g3n] (0, 0) _ ya Tryz.underlying28 rfl (by kernel_rfl)
        replace ya := hid ya
        clear yO
        go_wp2_with (first | (refine wpList_load_row rfl 28 (.tmp 5) rfl p4_0 rfl 28 #[.bool g0i, .int .i64 g0n, .bool g1i, .int .i64 g1n, .bool g2i, .int .i64 g2n, .bool g3i, .int .i64 g3n] (0, 0) _ hme Tryz.underlying28 rfl (by kernel_rfl) ?_) | (refine wpList_store_row rfl 28 (.tmp 2) (.tmp 38) rfl p0_0 #[.bool g0i, .int .i64 g0n, .bool g1i, .int .i64 g1n, .bool g2i, .int .i64 g2n, .bool g3i, .int .i64 g3n] rfl rfl 28 _ c0 (by kernel_rfl) rfl (by simp [Value.oneCell']) ?_; rw [hW9]))
        refine bodyPost_ret (v := .tuple #[.agg #[.bool g0i, .int .i64 g0n, .bool g1i, .int .i64 g1n, .bool g2i, .int .i64 g2n, .bool g3i, .int .i64 g3n], .int .i64 0]) (by simp [results, Tryz.results6, asAddr, hld]) rfl ⟨by rw [hres.out], hB9.out⟩
      case neg =>
        have t0 : (E != 0) = true := by simpa using hE0
        have hres : vmR E #[.bool g0i, .int .i64 g0n, .bool g1i, .int .i64 g1n, .bool g2i, .int .i64 g2n, .bool g3i, .int .i64 g3n] = .tuple #[.agg #[.bool false, .int .i64 0, .bool false, .int .i64 0, .bool false, .int .i64 0, .bool false, .int .i64 0], .int .i64 E] := by unfold vmR; rw [if_neg hE0]
        replace hres := hid hres
        have ya := setRow_heap wc p0_0 _ #[.bool false, .int .i64 0, .bool false, .int .i64 0, .bool false, .int .i64 0, .bool false, .int .i64 0] 28 (0, 0) c0
        have yO : Only p0_0 wc (wc.setRow p0_0 #[.bool false, .int .i64 0, .bool false, .int .i64 0, .bool false, .int .i64 0, .bool false, .int .i64 0]) := ⟨rfl, rfl, rfl, by simp [World.setRow], fun k hk => setRow_other _ _ _ _ hk⟩
        obtain ⟨W9, hW9⟩ : ∃ X, wc.setRow p0_0 #[.bool false, .int .i64 0, .bool false, .int .i64 0, .bool false, .int .i64 0, .bool false, .int .i64 0] = X := ⟨_, rfl⟩
        rw [hW9] at ya yO
        have hB9 := hid (belowS hB2 yO (by omega))
        have hld := run_loadVar_row (P := Tryz.prog) W9 p0_0 28 28 #[.bool false, .int .i64 0, .bool false, .int .i64 0, .bool false, .int .i64 0, .bool false, .int .i64 0] (0, 0) _ ya Tryz.underlying28 rfl (by kernel_rfl)
        replace ya := hid ya
        clear yO
        go_wp2_with fail
        refine (eerr_any B E [] _ hey.out).mono ?_
        rintro r V9 ⟨rfl, hv⟩
        obtain rfl : wc = V9 := hv.symm
        go_wp2_with (first | (refine wpList_store_row rfl 28 (.tmp 2) (.tmp 35) rfl p0_0 #[.bool false, .int .i64 0, .bool false, .int .i64 0, .bool false, .int .i64 0, .bool false, .int .i64 0] rfl rfl 28 _ c0 (by kernel_rfl) rfl (by simp [Value.oneCell']) ?_; rw [hW9]))
        refine bodyPost_ret (v := .tuple #[.agg #[.bool false, .int .i64 0, .bool false, .int .i64 0, .bool false, .int .i64 0, .bool false, .int .i64 0], .int .i64 E]) (by simp [results, Tryz.results6, asAddr, hld]) rfl ⟨by rw [hres.out], hB9.out⟩

end Go.Proofs.YtcacgejljbofjaaGreatDoor
