/- Several texts in one: Rmc4, Rmc6. -/
import Derived.Test.YthnoomdhgbaecaaGreatDoorRA
import Derived.Test.YthnoomdhgbaecaaGreatDoorGga5
import Derived.Laws.Tables
import Derived.Laws.Rows
import Derived.Laws.EntriesVeiled
import Derived.Deep.DeepCutAuto

/- Package rmc: Take, its steps. -/
namespace Go.Proofs.YthnoomdhgbaecaaGreatDoor

open Go.ChangeShapes Go.WideShapes Go.ChangeAt Go.RowKit

set_option linter.unusedVariables false

set_option linter.unusedSimpArgs false

/-- A value that is no string. -/
def noS (v : Value) : Bool := match v with | .string _ => false | _ => true
theorem ns_set {c : Array Value} (h : ∀ (j : Nat) (s : ByteArray), c[j]? ≠ some (.string s)) (i : Nat) (u : Value) (hu : noS u = true) : ∀ (j : Nat) (s : ByteArray), (c.setIfInBounds i u)[j]? ≠ some (.string s) := by
  intro j s e
  rw [Array.getElem?_setIfInBounds] at e
  split at e
  · split at e
    · cases e; cases hu
    · cases e
  · exact h j s e
theorem kpx_after {N : Nat} {X : List Nat} {a b : World} (h : After a b) (hN : N ≤ a.heap.size) : Kp N X a b := ⟨h.os, h.tape, h.output, h.size, fun k hk _ => h.block k (by omega)⟩
theorem kpx_eff {N B : Nat} {X : List Nat} {a b : World} (h : Eff B a b) (hN : N ≤ a.heap.size) (hB : B ∈ X) : Kp N X a b := ⟨h.os, h.tape, h.output, h.size, fun k hk hx => h.block k (by omega) (fun e => hx (e ▸ hB))⟩
theorem kpx_only {N B : Nat} {X : List Nat} {a b : World} (h : Only B a b) (hB : B ∈ X) : Kp N X a b := ⟨h.os, h.tape, h.output, by rw [h.size]; exact Nat.le_refl _, fun k hk hx => h.block k (fun e => hx (e ▸ hB))⟩
/-- An eye, the message that is made, an error's variable and what else stands beside them. -/
structure TSt (W0 : World) (B mb xb eb rb : Nat) (ro : Array Value) (xv e : Int) (L : List ByteArray) (M : Array Value) (W : World) : Prop where
  eye : EyeIn W B e L
  m : W.heap[mb]? = some (.cells M 29 (0, 0))
  x : W.heap[xb]? = some (.cells #[.int .i64 xv] 31 (0, 0))
  p : W.heap[eb]? = some (.cells #[.pointer (some ⟨B, 0, none⟩)] 68 (0, 0))
  row : W.heap[rb]? = some (.cells ro 1 (0, 0))
  bel : After W0 W
  nm : mb ≠ B
  nx : xb ≠ B
  np : eb ≠ B
  nr : rb ≠ B
  hb : W0.heap.size ≤ B
  hm : W0.heap.size ≤ mb
  hx : W0.heap.size ≤ xb
  ns : ∀ (j : Nat) (s : ByteArray), M[j]? ≠ some (.string s)
theorem heapT {W : World} {p q : Nat} {c d : Array Value} {T U : TypeId} (hp : W.heap[p]? = some (.cells c T (0, 0))) (hq : W.heap[q]? = some (.cells d U (0, 0))) (h : T ≠ U) : p ≠ q := by
  intro e; subst e; rw [hp] at hq; cases hq; exact h rfl
theorem TSt.eff {W0 : World} {B mb xb eb rb : Nat} {ro : Array Value} {xv e e' : Int} {L L' : List ByteArray} {M : Array Value} {W W' : World} (h : TSt W0 B mb xb eb rb ro xv e L M W) (hP : EyeIn W' B e' L') (hK : Eff B W W') : TSt W0 B mb xb eb rb ro xv e' L' M W' :=
  ⟨hP, eff_block24 hK h.m h.nm, eff_block24 hK h.x h.nx, eff_block24 hK h.p h.np, eff_block24 hK h.row h.nr, eff_below24 h.bel hK h.hb h.bel.size, h.nm, h.nx, h.np, h.nr, h.hb, h.hm, h.hx, h.ns⟩
theorem TSt.below {W0 : World} {B mb xb eb rb : Nat} {ro : Array Value} {xv e : Int} {L : List ByteArray} {M : Array Value} {W W' : World} (h : TSt W0 B mb xb eb rb ro xv e L M W) (hA : After W W') : TSt W0 B mb xb eb rb ro xv e L M W' :=
  ⟨h.eye.aft hA, held_after hA h.m, held_after hA h.x, held_after hA h.p, held_after hA h.row, bthen h.bel hA, h.nm, h.nx, h.np, h.nr, h.hb, h.hm, h.hx, h.ns⟩
/-- A cell of the message is written. -/
theorem TSt.s1 {W0 : World} {B mb xb eb rb : Nat} {ro : Array Value} {xv e : Int} {L : List ByteArray} {M : Array Value} {W : World} (h : TSt W0 B mb xb eb rb ro xv e L M W) (j : Nat) (u : Value) (hu : noS u = true) : ∃ W2, W.setCell ⟨mb, j, none⟩ u = W2 ∧ TSt W0 B mb xb eb rb ro xv e L (M.setIfInBounds j u) W2 ∧ Only mb W W2 := by
  obtain ⟨W2, h1, h2, h3⟩ := set1 h.m j u
  exact ⟨W2, h1, ⟨h.eye.off h3 h.nm h.m h.ns, h2, (h3.block _ (heapT h.x h.m (by decide))).trans h.x, (h3.block _ (heapT h.p h.m (by decide))).trans h.p, (h3.block _ (heapT h.row h.m (by decide))).trans h.row, belowS h.bel h3 h.hm, h.nm, h.nx, h.np, h.nr, h.hb, h.hm, h.hx, ns_set h.ns j u hu⟩, h3⟩
theorem TSt.s2 {W0 : World} {B mb xb eb rb : Nat} {ro : Array Value} {xv e : Int} {L : List ByteArray} {M : Array Value} {W : World} (h : TSt W0 B mb xb eb rb ro xv e L M W) (j k : Nat) (u v : Value) (hu : noS u = true) (hv : noS v = true) : ∃ W2, (W.setCell ⟨mb, j, none⟩ u).setCell ⟨mb, k, none⟩ v = W2 ∧ TSt W0 B mb xb eb rb ro xv e L ((M.setIfInBounds j u).setIfInBounds k v) W2 ∧ Only mb W W2 := by
  obtain ⟨A, rfl, hA, o1⟩ := h.s1 j u hu
  obtain ⟨C, rfl, hC, o2⟩ := hA.s1 k v hv
  exact ⟨_, rfl, hC, o1.then o2⟩
theorem TSt.s4 {W0 : World} {B mb xb eb rb : Nat} {ro : Array Value} {xv e : Int} {L : List ByteArray} {M : Array Value} {W : World} (h : TSt W0 B mb xb eb rb ro xv e L M W) (j0 j1 j2 j3 : Nat) (u0 u1 u2 u3 : Value) (hu : noS u0 = true ∧ noS u1 = true ∧ noS u2 = true ∧ noS u3 = true) : ∃ W2, (((W.setCell ⟨mb, j0, none⟩ u0).setCell ⟨mb, j1, none⟩ u1).setCell ⟨mb, j2, none⟩ u2).setCell ⟨mb, j3, none⟩ u3 = W2 ∧ TSt W0 B mb xb eb rb ro xv e L ((((M.setIfInBounds j0 u0).setIfInBounds j1 u1).setIfInBounds j2 u2).setIfInBounds j3 u3) W2 ∧ Only mb W W2 := by
  obtain ⟨A, rfl, hA, o1⟩ := h.s2 j0 j1 u0 u1 hu.1 hu.2.1
  obtain ⟨C, rfl, hC, o2⟩ := hA.s2 j2 j3 u2 u3 hu.2.2.1 hu.2.2.2
  exact ⟨_, rfl, hC, o1.then o2⟩
theorem TSt.s5 {W0 : World} {B mb xb eb rb : Nat} {ro : Array Value} {xv e : Int} {L : List ByteArray} {M : Array Value} {W : World} (h : TSt W0 B mb xb eb rb ro xv e L M W) (j0 j1 j2 j3 j4 : Nat) (u0 u1 u2 u3 u4 : Value) (hu : (noS u0 = true ∧ noS u1 = true ∧ noS u2 = true ∧ noS u3 = true) ∧ noS u4 = true) : ∃ W2, ((((W.setCell ⟨mb, j0, none⟩ u0).setCell ⟨mb, j1, none⟩ u1).setCell ⟨mb, j2, none⟩ u2).setCell ⟨mb, j3, none⟩ u3).setCell ⟨mb, j4, none⟩ u4 = W2 ∧ TSt W0 B mb xb eb rb ro xv e L (((((M.setIfInBounds j0 u0).setIfInBounds j1 u1).setIfInBounds j2 u2).setIfInBounds j3 u3).setIfInBounds j4 u4) W2 ∧ Only mb W W2 := by
  obtain ⟨A, rfl, hA, o1⟩ := h.s4 j0 j1 j2 j3 u0 u1 u2 u3 hu.1
  obtain ⟨C, rfl, hC, o2⟩ := hA.s1 j4 u4 hu.2
  exact ⟨_, rfl, hC, o1.then o2⟩
theorem TSt.sx {W0 : World} {B mb xb eb rb : Nat} {ro : Array Value} {xv e : Int} {L : List ByteArray} {M : Array Value} {W : World} (h : TSt W0 B mb xb eb rb ro xv e L M W) (n : Int) : ∃ W2, W.setCell ⟨xb, 0, none⟩ (.int .i64 n) = W2 ∧ TSt W0 B mb xb eb rb ro n e L M W2 := by
  obtain ⟨W2, h1, h2, h3⟩ := set1 h.x 0 (.int .i64 n)
  exact ⟨W2, h1, h.eye.off h3 h.nx h.x (by intro j s e; match j, e with | 0, e => simp at e | j + 1, e => simp at e), (h3.block _ (heapT h.m h.x (by decide))).trans h.m, h2, (h3.block _ (heapT h.p h.x (by decide))).trans h.p, (h3.block _ (heapT h.row h.x (by decide))).trans h.row, belowS h.bel h3 h.hx, h.nm, h.nx, h.np, h.nr, h.hb, h.hm, h.hx, h.ns⟩
set_option maxRecDepth 100000 in
set_option maxHeartbeats 4000000 in
theorem take26_1 {W0 : World} {B mb xb eb rb : Nat} {ro : Array Value} {xv e : Int} {m0 m1 m2 m3 m4 m5 m6 m7 m8 m9 m10 m11 m12 m13 m14 m15 m16 m17 m18 m19 : Value} {W : World} (s : ByteArray) (R : List ByteArray) (hl : (s :: R).length ≤ 1000) (hs : s.size ≤ 1000) {b : Bool} {y1 y2 y3 y4 kk : Int} (hV : takeV (sb s) = .tuple #[.agg #[.bool b, .int .i64 y1, .int .i64 y2, .int .i64 y3, .int .i64 y4], .int .i64 kk]) (h : TSt W0 B mb xb eb rb ro xv e (s :: R) #[m0, m1, m2, m3, m4, m5, m6, m7, m8, m9, m10, m11, m12, m13, m14, m15, m16, m17, m18, m19] W) : Calls Tryz.prog 46 #[.pointer (some ⟨eb, 0, none⟩), .pointer (some ⟨mb, 0, none⟩), .pointer (some ⟨xb, 0, none⟩)] W fun r W' => r = .returned (.tuple #[]) ∧ TSt W0 B mb xb eb rb ro kk (kp e kk) R #[.bool b, .int .i64 y1, .int .i64 y2, .int .i64 y3, .int .i64 y4, m5, m6, m7, m8, m9, m10, m11, m12, m13, m14, m15, m16, m17, m18, m19] W' := by
  have c0 := held_cell h.p 0 _ rfl
  have kt := hid (fun U => hV ▸ take_any s U (by omega))
  clear hV
  go_enter Tryz.func46, Tryz.ntmps46
  go_upto_region 0 with (fail)
  go_wp2_with fail
  refine (etextC B e s R _ h.eye hl).mono ?_
  rintro r V1 ⟨rfl, hP2, hf2⟩
  replace h := h.eff hP2 hf2
  clear hP2 hf2
  go_wp2_with fail
  refine (kt.out _).mono ?_
  rintro r V2 ⟨rfl, hA⟩
  replace h := h.below hA
  clear hA c0 kt
  have g0 := held_free h.m 0
  have g1 := held_free h.m 1
  have g2 := held_free h.m 2
  have g3 := held_free h.m 3
  have g4 := held_free h.m 4
  have b0 := held_cell h.m 0 _ rfl
  have b1 := held_cell h.m 1 _ rfl
  have b2 := held_cell h.m 2 _ rfl
  have b3 := held_cell h.m 3 _ rfl
  have b4 := held_cell h.m 4 _ rfl
  obtain ⟨S, hS, h2, o1⟩ := h.s5 0 1 2 3 4 (.bool b) (.int .i64 y1) (.int .i64 y2) (.int .i64 y3) (.int .i64 y4) ⟨⟨rfl, rfl, rfl, rfl⟩, rfl⟩
  have gx := held_free h2.x 0
  have bx := held_cell h2.x 0 _ rfl
  obtain ⟨S2, hS2, h3⟩ := h2.sx kk
  clear o1
  clear h
  go_upto_region 1 with (fail)
  replace hS := hid hS
  replace hS2 := hid hS2
  clear h2
  clear g0 b0 g1 b1 g2 b2 g3 b3 g4 b4 gx bx
  have h := h3
  clear h3
  have c0 := held_cell h.p 0 _ rfl
  have c1 := held_cell h.x 0 _ rfl
  have kf := hid (fun U hh => efail_any B e kk R U hh)
  go_wp2_with fail
  refine (kf.out _ h.eye).mono ?_
  rintro r V3 ⟨rfl, hP2, hf2⟩
  replace h := h.eff hP2 hf2
  clear hP2 hf2
  go_wp2_with fail
  go_end0
  exact ⟨rfl, h⟩
set_option maxRecDepth 100000 in
set_option maxHeartbeats 4000000 in
theorem take26_7 {W0 : World} {B mb xb eb rb : Nat} {ro : Array Value} {xv e : Int} {m0 m1 m2 m3 m4 m5 m6 m7 m8 m9 m10 m11 m12 m13 m14 m15 m16 m17 m18 m19 : Value} {W : World} (s : ByteArray) (R : List ByteArray) (hl : (s :: R).length ≤ 1000) (hs : s.size ≤ 1000) {b : Bool} {y1 y2 y3 kk : Int} (hV : takeD (sb s) = .tuple #[.agg #[.bool b, .int .i64 y1, .int .i64 y2, .int .i64 y3], .int .i64 kk]) (h : TSt W0 B mb xb eb rb ro xv e (s :: R) #[m0, m1, m2, m3, m4, m5, m6, m7, m8, m9, m10, m11, m12, m13, m14, m15, m16, m17, m18, m19] W) : Calls Tryz.prog 57 #[.pointer (some ⟨eb, 0, none⟩), .pointer (some ⟨mb, 0, none⟩), .pointer (some ⟨xb, 0, none⟩)] W fun r W' => r = .returned (.tuple #[]) ∧ TSt W0 B mb xb eb rb ro kk (kp e kk) R #[m0, m1, m2, m3, m4, m5, m6, m7, m8, m9, m10, m11, m12, m13, m14, m15, .bool b, .int .i64 y1, .int .i64 y2, .int .i64 y3] W' := by
  have c0 := held_cell h.p 0 _ rfl
  have kt := hid (fun U => hV ▸ taked_any s U (by omega))
  clear hV
  go_enter Tryz.func57, Tryz.ntmps57
  go_upto_region 0 with (fail)
  go_wp2_with fail
  refine (etextC B e s R _ h.eye hl).mono ?_
  rintro r V1 ⟨rfl, hP2, hf2⟩
  replace h := h.eff hP2 hf2
  clear hP2 hf2
  go_wp2_with fail
  refine (kt.out _).mono ?_
  rintro r V2 ⟨rfl, hA⟩
  replace h := h.below hA
  clear hA c0 kt
  have g16 := held_free h.m 16
  have g17 := held_free h.m 17
  have g18 := held_free h.m 18
  have g19 := held_free h.m 19
  have b16 := held_cell h.m 16 _ rfl
  have b17 := held_cell h.m 17 _ rfl
  have b18 := held_cell h.m 18 _ rfl
  have b19 := held_cell h.m 19 _ rfl
  obtain ⟨S, hS, h2, o1⟩ := h.s4 16 17 18 19 (.bool b) (.int .i64 y1) (.int .i64 y2) (.int .i64 y3) ⟨rfl, rfl, rfl, rfl⟩
  have gx := held_free h2.x 0
  have bx := held_cell h2.x 0 _ rfl
  obtain ⟨S2, hS2, h3⟩ := h2.sx kk
  clear o1
  clear h
  go_upto_region 1 with (fail)
  replace hS := hid hS
  replace hS2 := hid hS2
  clear h2
  clear g16 b16 g17 b17 g18 b18 g19 b19 gx bx
  have h := h3
  clear h3
  have c0 := held_cell h.p 0 _ rfl
  have c1 := held_cell h.x 0 _ rfl
  have kf := hid (fun U hh => efail_any B e kk R U hh)
  go_wp2_with fail
  refine (kf.out _ h.eye).mono ?_
  rintro r V3 ⟨rfl, hP2, hf2⟩
  replace h := h.eff hP2 hf2
  clear hP2 hf2
  go_wp2_with fail
  go_end0
  exact ⟨rfl, h⟩
set_option maxRecDepth 100000 in
set_option maxHeartbeats 4000000 in
theorem take26_2 {W0 : World} {B mb xb eb rb : Nat} {ro : Array Value} {xv e : Int} {m0 m1 m2 m3 m4 m5 m6 m7 m8 m9 m10 m11 m12 m13 m14 m15 m16 m17 m18 m19 : Value} {W : World} (s : ByteArray) (R : List ByteArray) (hl : (s :: R).length ≤ 1000) (h : TSt W0 B mb xb eb rb ro xv e (s :: R) #[m0, m1, m2, m3, m4, m5, m6, m7, m8, m9, m10, m11, m12, m13, m14, m15, m16, m17, m18, m19] W) : Calls Tryz.prog 50 #[.pointer (some ⟨eb, 0, none⟩), .pointer (some ⟨mb, 0, none⟩)] W fun r W' => r = .returned (.tuple #[]) ∧ TSt W0 B mb xb eb rb ro xv (kp e (onE s ⟨#[65]⟩ ⟨#[86]⟩)) R #[m0, m1, m2, m3, m4, .bool (decide (s = ⟨#[65]⟩)), m6, m7, m8, m9, m10, m11, m12, m13, m14, m15, m16, m17, m18, m19] W' := by
  have k0 : ∀ e, kp e 0 = e := fun e => by unfold kp; split <;> omega
  have hA1 := seqC s [65]
  have hV1 := seqC s [86]
  by_cases c1 : s = ⟨#[65]⟩
  case pos =>
    have q1 : (s.toList == [65]) = true := by rw [hA1]; exact decide_eq_true c1
    have hd : onE s ⟨#[65]⟩ ⟨#[86]⟩ = 0 := by unfold onE; rw [if_neg (fun h => h.1 c1)]
    have hv : (decide (s = ⟨#[65]⟩)) = true := by exact decide_eq_true c1
    rw [hd, hv]
    rw [k0]
    clear hd hv k0
    clear hA1 hV1 c1
    have c0 := held_cell h.p 0 _ rfl
    go_enter Tryz.func50, Tryz.ntmps50
    go_upto_region 0 with (fail)
    go_wp2_with fail
    refine (etextC B e s R _ h.eye hl).mono ?_
    rintro r V1 ⟨rfl, hP2, hf2⟩
    replace h := h.eff hP2 hf2
    clear hP2 hf2
    clear c0
    have g5 := held_free h.m 5
    have b5 := held_cell h.m 5 _ rfl
    obtain ⟨S, hS, h2, o1⟩ := h.s1 5 (.bool true) rfl
    clear o1
    clear h
    go_upto_region 2 with (fail)
    replace hS := hid hS
    clear g5 b5
    have h := h2
    clear h2
    go_wp2_with fail
    go_end0
    exact ⟨rfl, h⟩
  have q1 : (s.toList == [65]) = false := by rw [hA1]; exact decide_eq_false c1
  by_cases c2 : s = ⟨#[86]⟩
  case pos =>
    have q2 : (s.toList == [86]) = true := by rw [hV1]; exact decide_eq_true c2
    have hd : onE s ⟨#[65]⟩ ⟨#[86]⟩ = 0 := by unfold onE; rw [if_neg (fun h => h.2 c2)]
    have hv : (decide (s = ⟨#[65]⟩)) = false := by exact decide_eq_false c1
    rw [hd, hv]
    rw [k0]
    clear hd hv k0
    clear hA1 hV1 c1 c2
    have c0 := held_cell h.p 0 _ rfl
    go_enter Tryz.func50, Tryz.ntmps50
    go_upto_region 0 with (fail)
    go_wp2_with fail
    refine (etextC B e s R _ h.eye hl).mono ?_
    rintro r V1 ⟨rfl, hP2, hf2⟩
    replace h := h.eff hP2 hf2
    clear hP2 hf2
    clear c0
    have g5 := held_free h.m 5
    have b5 := held_cell h.m 5 _ rfl
    obtain ⟨S, hS, h2, o1⟩ := h.s1 5 (.bool false) rfl
    clear o1
    clear h
    go_upto_region 2 with (fail)
    replace hS := hid hS
    clear g5 b5
    have h := h2
    clear h2
    go_wp2_with fail
    go_end0
    exact ⟨rfl, h⟩
  have q2 : (s.toList == [86]) = false := by rw [hV1]; exact decide_eq_false c2
  have hd : onE s ⟨#[65]⟩ ⟨#[86]⟩ = 3 := by unfold onE; rw [if_pos ⟨c1, c2⟩]
  have hv : (decide (s = ⟨#[65]⟩)) = false := by exact decide_eq_false c1
  rw [hd, hv]
  clear hd hv k0
  clear hA1 hV1 c1 c2
  have c0 := held_cell h.p 0 _ rfl
  go_enter Tryz.func50, Tryz.ntmps50
  go_upto_region 0 with (fail)
  go_wp2_with fail
  refine (etextC B e s R _ h.eye hl).mono ?_
  rintro r V1 ⟨rfl, hP2, hf2⟩
  replace h := h.eff hP2 hf2
  clear hP2 hf2
  clear c0
  have g5 := held_free h.m 5
  have b5 := held_cell h.m 5 _ rfl
  obtain ⟨S, hS, h2, o1⟩ := h.s1 5 (.bool false) rfl
  clear o1
  clear h
  go_upto_region 3 with (fail)
  replace hS := hid hS
  clear g5 b5
  have h := h2
  clear h2
  have c0 := held_cell h.p 0 _ rfl
  have kf := hid (fun U hh => efail_any B e 3 R U hh)
  go_wp2_with fail
  refine (kf.out _ h.eye).mono ?_
  rintro r V3 ⟨rfl, hP2, hf2⟩
  replace h := h.eff hP2 hf2
  clear hP2 hf2
  go_wp2_with fail
  go_end0
  exact ⟨rfl, h⟩
set_option maxRecDepth 100000 in
set_option maxHeartbeats 4000000 in
theorem take26_3 {W0 : World} {B mb xb eb rb : Nat} {ro : Array Value} {xv e : Int} {m0 m1 m2 m3 m4 m5 m6 m7 m8 m9 m10 m11 m12 m13 m14 m15 m16 m17 m18 m19 : Value} {W : World} (s t : ByteArray) (R : List ByteArray) {i : Bool} {n x : Int} (htd : tkaD s t true = (i, n, x)) (hl : (s :: t :: R).length ≤ 1000) (hs : ∀ u ∈ s :: t :: R, u.size ≤ 1000) (h : TSt W0 B mb xb eb rb ro xv e (s :: t :: R) #[m0, m1, m2, m3, m4, m5, m6, m7, m8, m9, m10, m11, m12, m13, m14, m15, m16, m17, m18, m19] W) : Calls Tryz.prog 51 #[.pointer (some ⟨eb, 0, none⟩), .pointer (some ⟨mb, 0, none⟩)] W fun r W' => r = .returned (.tuple #[]) ∧ TSt W0 B mb xb eb rb ro xv (kp e x) R #[m0, m1, m2, m3, m4, m5, .bool i, .int .i64 n, m8, m9, m10, m11, m12, m13, m14, m15, m16, m17, m18, m19] W' := by
  have c0 := held_cell h.p 0 _ rfl
  have ka := hid (fun U hh => eangC B e s t R true htd U hh hl hs)
  clear htd hl hs
  go_enter Tryz.func51, Tryz.ntmps51
  go_upto_region 0 with (fail)
  go_wp2_with fail
  refine (ka.out _ h.eye).mono ?_
  rintro r V1 ⟨rfl, hP2, hf2⟩
  replace h := h.eff hP2 hf2
  clear hP2 hf2
  clear c0 ka
  have g6 := held_free h.m 6
  have g7 := held_free h.m 7
  have b6 := held_cell h.m 6 _ rfl
  have b7 := held_cell h.m 7 _ rfl
  obtain ⟨S, hS, h2, o1⟩ := h.s2 6 7 (.bool i) (.int .i64 n) rfl rfl
  clear o1
  clear h
  go_wp2_with fail
  replace hS := hid hS
  go_end0
  exact ⟨rfl, h2⟩
set_option maxRecDepth 100000 in
set_option maxHeartbeats 4000000 in
theorem take26_4 {W0 : World} {B mb xb eb rb : Nat} {ro : Array Value} {xv e : Int} {m0 m1 m2 m3 m4 m5 m6 m7 m8 m9 m10 m11 m12 m13 m14 m15 m16 m17 m18 m19 : Value} {W : World} (s t : ByteArray) (R : List ByteArray) {i : Bool} {n x : Int} (htd : tkaD s t false = (i, n, x)) (hl : (s :: t :: R).length ≤ 1000) (hs : ∀ u ∈ s :: t :: R, u.size ≤ 1000) (h : TSt W0 B mb xb eb rb ro xv e (s :: t :: R) #[m0, m1, m2, m3, m4, m5, m6, m7, m8, m9, m10, m11, m12, m13, m14, m15, m16, m17, m18, m19] W) : Calls Tryz.prog 53 #[.pointer (some ⟨eb, 0, none⟩), .pointer (some ⟨mb, 0, none⟩)] W fun r W' => r = .returned (.tuple #[]) ∧ TSt W0 B mb xb eb rb ro xv (kp e x) R #[m0, m1, m2, m3, m4, m5, m6, m7, .bool i, .int .i64 n, m10, m11, m12, m13, m14, m15, m16, m17, m18, m19] W' := by
  have c0 := held_cell h.p 0 _ rfl
  have ka := hid (fun U hh => eangC B e s t R false htd U hh hl hs)
  clear htd hl hs
  go_enter Tryz.func53, Tryz.ntmps53
  go_upto_region 0 with (fail)
  go_wp2_with fail
  refine (ka.out _ h.eye).mono ?_
  rintro r V1 ⟨rfl, hP2, hf2⟩
  replace h := h.eff hP2 hf2
  clear hP2 hf2
  clear c0 ka
  have g8 := held_free h.m 8
  have g9 := held_free h.m 9
  have b8 := held_cell h.m 8 _ rfl
  have b9 := held_cell h.m 9 _ rfl
  obtain ⟨S, hS, h2, o1⟩ := h.s2 8 9 (.bool i) (.int .i64 n) rfl rfl
  clear o1
  clear h
  go_wp2_with fail
  replace hS := hid hS
  go_end0
  exact ⟨rfl, h2⟩
set_option maxRecDepth 100000 in
set_option maxHeartbeats 4000000 in
theorem take26_5 {W0 : World} {B mb xb eb rb : Nat} {ro : Array Value} {xv e : Int} {m0 m1 m2 m3 m4 m5 m6 m7 m8 m9 m10 m11 m12 m13 m14 m15 m16 m17 m18 m19 : Value} {W : World} (s : ByteArray) (R : List ByteArray) {i : Bool} {n x : Int} (htd : takD s 1 4 2 0 999999 = (i, n, x)) (hl : (s :: R).length ≤ 1000) (hs : ∀ u ∈ s :: R, u.size ≤ 1000) (h : TSt W0 B mb xb eb rb ro xv e (s :: R) #[m0, m1, m2, m3, m4, m5, m6, m7, m8, m9, m10, m11, m12, m13, m14, m15, m16, m17, m18, m19] W) : Calls Tryz.prog 54 #[.pointer (some ⟨eb, 0, none⟩), .pointer (some ⟨mb, 0, none⟩)] W fun r W' => r = .returned (.tuple #[]) ∧ TSt W0 B mb xb eb rb ro xv (kp e x) R #[m0, m1, m2, m3, m4, m5, m6, m7, m8, m9, .bool i, .int .i64 n, m12, m13, m14, m15, m16, m17, m18, m19] W' := by
  have ka := hid (fun U hh => enumC B e s R 1 4 2 0 999999 htd U hh hl hs (by decide))
  clear htd hl hs
  go_enter Tryz.func54, Tryz.ntmps54
  go_upto_region 0 with (fail)
  obtain ⟨QQ, hQQ⟩ : ∃ X, W.drew = X := ⟨_, rfl⟩
  replace h := h.below (show After W QQ from by rw [← hQQ]; exact (Below.refl W.heap.size W).drew)
  have lp := held_lt h.p
  have qp := held_cell h.p 0 _ rfl
  have hq0 := Nat.le_refl QQ.heap.size
  have hpX : eb ∉ [B, mb] := by simp; exact ⟨h.np, heapT h.p h.m (by decide)⟩
  refine wp_region_K (N := QQ.heap.size) (X := [B, mb]) (by kernel_rfl) ?_
  rw [hQQ]
  refine wpAnyK_take 0 rfl (by kernel_rfl) (by kernel_rfl) (by kernel_rfl) (fun _ _ _ _ h => h) ⟨_, Or.inl ⟨by rfl, fun w2 hb => by (have h0 := Kp.cellB hb (p := ⟨eb, 0, none⟩) (by exact lp) (by exact hpX) qp; go_simp; try with_reducible rfl)⟩, _, by (go_simp; try rfl), ?_⟩
  refine wpAnyK_only 1 rfl (by kernel_rfl) (by rfl) (fun K hK => ?_)
  go_simp
  refine (r26speedCol_any _).mono ?_
  rintro r Y1 ⟨rfl, hA⟩
  replace h := h.below hA
  have kp1 : Kp QQ.heap.size [B, mb] QQ Y1 := kpx_after hA hq0
  have hq1 := Nat.le_trans hq0 hA.size
  clear hA
  refine hK _ _ ⟨kp1, ?_⟩
  clear hK
  clear kp1
  refine wpAnyK_only 2 rfl (by kernel_rfl) (by rfl) (fun K hK => ?_)
  go_simp
  refine (ka.out _ h.eye).mono ?_
  rintro r Y2 ⟨rfl, hP2, hf2⟩
  have kp2 : Kp QQ.heap.size [B, mb] Y1 Y2 := kpx_eff hf2 hq1 (by simp)
  replace h := h.eff hP2 hf2
  clear hP2 hf2 ka
  refine hK _ _ ⟨kp2, ?_⟩
  clear hK
  clear kp2
  refine wpAnyK_take 3 rfl (by kernel_rfl) (by kernel_rfl) (by kernel_rfl) (fun _ _ _ _ h => h) ⟨_, Or.inl ⟨by rfl, fun w2 hb => by (go_simp; try with_reducible rfl)⟩, _, by (go_simp; try rfl), ?_⟩
  refine wpAnyK_only 4 rfl (by kernel_rfl) (by rfl) (fun K hK => ?_)
  have g10 := held_free h.m 10
  have g11 := held_free h.m 11
  have b10 := held_cell h.m 10 _ rfl
  have b11 := held_cell h.m 11 _ rfl
  obtain ⟨S, hS, h2, o1⟩ := h.s2 10 11 (.bool i) (.int .i64 n) rfl rfl
  go_simp
  have kp4 : Kp QQ.heap.size [B, mb] Y2 S := kpx_only o1 (by simp)
  refine hK _ _ ⟨kp4, ?_⟩
  clear hK
  clear kp4 o1
  refine wpAnyK_done (by kernel_rfl) ?_ _
  clear hQQ h
  go_wp2_with fail
  go_end0
  exact ⟨rfl, h2⟩
set_option maxRecDepth 100000 in
set_option maxHeartbeats 4000000 in
theorem take26_6 {W0 : World} {B mb xb eb rb : Nat} {ro : Array Value} {xv e : Int} {m0 m1 m2 m3 m4 m5 m6 m7 m8 m9 m10 m11 m12 m13 m14 m15 m16 m17 m18 m19 : Value} {W : World} (s : ByteArray) (R : List ByteArray) {i : Bool} {n x : Int} (htd : takD s 1 3 2 0 36000 = (i, n, x)) (hl : (s :: R).length ≤ 1000) (hs : ∀ u ∈ s :: R, u.size ≤ 1000) (h : TSt W0 B mb xb eb rb ro xv e (s :: R) #[m0, m1, m2, m3, m4, m5, m6, m7, m8, m9, m10, m11, m12, m13, m14, m15, m16, m17, m18, m19] W) : Calls Tryz.prog 56 #[.pointer (some ⟨eb, 0, none⟩), .pointer (some ⟨mb, 0, none⟩)] W fun r W' => r = .returned (.tuple #[]) ∧ TSt W0 B mb xb eb rb ro xv (kp e x) R #[m0, m1, m2, m3, m4, m5, m6, m7, m8, m9, m10, m11, .bool i, .int .i64 n, m14, m15, m16, m17, m18, m19] W' := by
  have ka := hid (fun U hh => enumC B e s R 1 3 2 0 36000 htd U hh hl hs (by decide))
  clear htd hl hs
  go_enter Tryz.func56, Tryz.ntmps56
  go_upto_region 0 with (fail)
  obtain ⟨QQ, hQQ⟩ : ∃ X, W.drew = X := ⟨_, rfl⟩
  replace h := h.below (show After W QQ from by rw [← hQQ]; exact (Below.refl W.heap.size W).drew)
  have lp := held_lt h.p
  have qp := held_cell h.p 0 _ rfl
  have hq0 := Nat.le_refl QQ.heap.size
  have hpX : eb ∉ [B, mb] := by simp; exact ⟨h.np, heapT h.p h.m (by decide)⟩
  refine wp_region_K (N := QQ.heap.size) (X := [B, mb]) (by kernel_rfl) ?_
  rw [hQQ]
  refine wpAnyK_take 0 rfl (by kernel_rfl) (by kernel_rfl) (by kernel_rfl) (fun _ _ _ _ h => h) ⟨_, Or.inl ⟨by rfl, fun w2 hb => by (have h0 := Kp.cellB hb (p := ⟨eb, 0, none⟩) (by exact lp) (by exact hpX) qp; go_simp; try with_reducible rfl)⟩, _, by (go_simp; try rfl), ?_⟩
  refine wpAnyK_only 1 rfl (by kernel_rfl) (by rfl) (fun K hK => ?_)
  go_simp
  refine (r26courseCol_any _).mono ?_
  rintro r Y1 ⟨rfl, hA⟩
  replace h := h.below hA
  have kp1 : Kp QQ.heap.size [B, mb] QQ Y1 := kpx_after hA hq0
  have hq1 := Nat.le_trans hq0 hA.size
  clear hA
  refine hK _ _ ⟨kp1, ?_⟩
  clear hK
  clear kp1
  refine wpAnyK_only 2 rfl (by kernel_rfl) (by rfl) (fun K hK => ?_)
  go_simp
  refine (ka.out _ h.eye).mono ?_
  rintro r Y2 ⟨rfl, hP2, hf2⟩
  have kp2 : Kp QQ.heap.size [B, mb] Y1 Y2 := kpx_eff hf2 hq1 (by simp)
  replace h := h.eff hP2 hf2
  clear hP2 hf2 ka
  refine hK _ _ ⟨kp2, ?_⟩
  clear hK
  clear kp2
  refine wpAnyK_take 3 rfl (by kernel_rfl) (by kernel_rfl) (by kernel_rfl) (fun _ _ _ _ h => h) ⟨_, Or.inl ⟨by rfl, fun w2 hb => by (go_simp; try with_reducible rfl)⟩, _, by (go_simp; try rfl), ?_⟩
  refine wpAnyK_only 4 rfl (by kernel_rfl) (by rfl) (fun K hK => ?_)
  have g12 := held_free h.m 12
  have g13 := held_free h.m 13
  have b12 := held_cell h.m 12 _ rfl
  have b13 := held_cell h.m 13 _ rfl
  obtain ⟨S, hS, h2, o1⟩ := h.s2 12 13 (.bool i) (.int .i64 n) rfl rfl
  go_simp
  have kp4 : Kp QQ.heap.size [B, mb] Y2 S := kpx_only o1 (by simp)
  refine hK _ _ ⟨kp4, ?_⟩
  clear hK
  clear kp4 o1
  refine wpAnyK_done (by kernel_rfl) ?_ _
  clear hQQ h
  go_wp2_with fail
  go_end0
  exact ⟨rfl, h2⟩
set_option maxRecDepth 100000 in
set_option maxHeartbeats 4000000 in
theorem take26_8 {W0 : World} {B mb xb eb rb : Nat} {ro : Array Value} {xv e : Int} {m0 m1 m2 m3 m4 m5 m6 m7 m8 m9 m10 m11 m12 m13 m14 m15 m16 m17 m18 m19 : Value} {W : World} (s u : ByteArray) (R : List ByteArray) {i : Bool} {n x : Int} (htd : takD s 1 3 1 0 1800 = (i, n, x)) (hz : i = false → n = 0) (hn : 0 ≤ n ∧ n ≤ 1800) (hl : (s :: u :: R).length ≤ 1000) (hs : s.size ≤ 1000) (h : TSt W0 B mb xb eb rb ro xv e (s :: u :: R) #[m0, m1, m2, m3, m4, m5, m6, m7, m8, m9, m10, m11, m12, m13, m14, m15, m16, m17, m18, m19] W) : Calls Tryz.prog 59 #[.pointer (some ⟨eb, 0, none⟩), .pointer (some ⟨mb, 0, none⟩), .pointer (some ⟨xb, 0, none⟩)] W fun r W' => r = .returned (.tuple #[]) ∧ TSt W0 B mb xb eb rb ro (tvD (i, n, x) u).2.2 (kp e (tvD (i, n, x) u).2.2) R #[m0, m1, m2, m3, m4, m5, m6, m7, m8, m9, m10, m11, m12, m13, .bool (tvD (i, n, x) u).1, .int .i64 (tvD (i, n, x) u).2.1, m16, m17, m18, m19] W' := by
  have c0 := held_cell h.p 0 _ rfl
  have kt := hid (fun U => takevar26_any s u i n x htd hz hn hs U)
  obtain ⟨⟨ti, tn, te⟩, ht⟩ : ∃ r, tvD (i, n, x) u = r := ⟨_, rfl⟩
  rw [ht] at kt
  rw [ht]
  dsimp only at kt ⊢
  clear ht htd hz hn hs
  have ks := hid (fun U hh => etextC B e s (u :: R) U hh hl)
  have ku := hid (fun U hh => etextC B e u R U hh (by simp at hl ⊢; omega))
  clear hl
  go_enter Tryz.func59, Tryz.ntmps59
  go_upto_region 0 with (fail)
  go_wp2_with fail
  refine (ks.out _ h.eye).mono ?_
  rintro r V1 ⟨rfl, hP2, hf2⟩
  replace h := h.eff hP2 hf2
  clear hP2 hf2
  clear c0
  have c0 := held_cell h.p 0 _ rfl
  go_wp2_with fail
  refine (ku.out _ h.eye).mono ?_
  rintro r V2 ⟨rfl, hP2, hf2⟩
  replace h := h.eff hP2 hf2
  clear hP2 hf2
  go_wp2_with fail
  refine (kt.out _).mono ?_
  rintro r V3 ⟨rfl, hA⟩
  replace h := h.below hA
  clear hA c0 kt ks ku
  have g14 := held_free h.m 14
  have g15 := held_free h.m 15
  have b14 := held_cell h.m 14 _ rfl
  have b15 := held_cell h.m 15 _ rfl
  obtain ⟨S, hS, h2, o1⟩ := h.s2 14 15 (.bool ti) (.int .i64 tn) rfl rfl
  have gx := held_free h2.x 0
  have bx := held_cell h2.x 0 _ rfl
  obtain ⟨S2, hS2, h3⟩ := h2.sx te
  clear o1
  clear h
  go_upto_region 2 with (fail)
  replace hS := hid hS
  replace hS2 := hid hS2
  clear h2
  clear g14 b14 g15 b15 gx bx
  have h := h3
  clear h3
  have c0 := held_cell h.p 0 _ rfl
  have c1 := held_cell h.x 0 _ rfl
  have kf := hid (fun U hh => efail_any B e te R U hh)
  go_wp2_with fail
  refine (kf.out _ h.eye).mono ?_
  rintro r V4 ⟨rfl, hP2, hf2⟩
  replace h := h.eff hP2 hf2
  clear hP2 hf2
  go_wp2_with fail
  go_end0
  exact ⟨rfl, h⟩
def moL (e : Int) : List ByteArray → Int
  | [] => e
  | s :: _ => kp e (moE s)
set_option maxRecDepth 100000 in
set_option maxHeartbeats 4000000 in
theorem take26_9 {W0 : World} {B mb xb eb rb : Nat} {ro : Array Value} {xv e : Int} {M : Array Value} {W : World} (R : List ByteArray) (hR : R.length ≤ 1) (h : TSt W0 B mb xb eb rb ro xv e R M W) : Calls Tryz.prog 61 #[.pointer (some ⟨eb, 0, none⟩)] W fun r W' => r = .returned (.tuple #[]) ∧ TSt W0 B mb xb eb rb ro xv (moL e R) [] M W' := by
  match R, hR with
  | [], _ =>
    have c0 := held_cell h.p 0 _ rfl
    go_enter Tryz.func61, Tryz.ntmps61
    go_upto_region 0 with (fail)
    go_wp2_with fail
    refine (eleft_any B e [] _ h.eye).mono ?_
    rintro r V1 ⟨rfl, hv⟩
    obtain rfl : W = V1 := hv.symm
    go_wp2_with fail
    go_end0
    exact ⟨rfl, h⟩
  | [s], _ =>
    have c0 := held_cell h.p 0 _ rfl
    go_enter Tryz.func61, Tryz.ntmps61
    go_upto_region 0 with (fail)
    go_wp2_with fail
    refine (eleft_any B e [s] _ h.eye).mono ?_
    rintro r V1 ⟨rfl, hv⟩
    obtain rfl : W = V1 := hv.symm
    clear c0
    go_upto_region 1 with (fail)
    obtain ⟨QQ, hQQ⟩ : ∃ X, W.drew = X := ⟨_, rfl⟩
    replace h := h.below (show After W QQ from by rw [← hQQ]; exact (Below.refl W.heap.size W).drew)
    have lp := held_lt h.p
    have qp := held_cell h.p 0 _ rfl
    have hq0 := Nat.le_refl QQ.heap.size
    have hpX : eb ∉ [B] := by simp; exact h.np
    refine wp_region_K (N := QQ.heap.size) (X := [B]) (by kernel_rfl) ?_
    rw [hQQ]
    refine wpAnyK_take 0 rfl (by kernel_rfl) (by kernel_rfl) (by kernel_rfl) (fun _ _ _ _ h => h) ⟨_, Or.inl ⟨by rfl, fun w2 hb => by (have h0 := Kp.cellB hb (p := ⟨eb, 0, none⟩) (by exact lp) (by exact hpX) qp; go_simp; try with_reducible rfl)⟩, _, by (go_simp; try rfl), ?_⟩
    refine wpAnyK_take 1 rfl (by kernel_rfl) (by kernel_rfl) (by kernel_rfl) (fun _ _ _ _ h => h) ⟨_, Or.inl ⟨by rfl, fun w2 hb => by (have h0 := Kp.cellB hb (p := ⟨eb, 0, none⟩) (by exact lp) (by exact hpX) qp; go_simp; try with_reducible rfl)⟩, _, by (go_simp; try rfl), ?_⟩
    refine wpAnyK_only 2 rfl (by kernel_rfl) (by rfl) (fun K hK => ?_)
    go_simp
    refine (etextC B e s [] _ h.eye (by simp)).mono ?_
    rintro r Y1 ⟨rfl, hP2, hf2⟩
    have kp2 : Kp QQ.heap.size [B] QQ Y1 := kpx_eff hf2 hq0 (by simp)
    have hq1 := Nat.le_trans hq0 hf2.size
    replace h := h.eff hP2 hf2
    clear hP2 hf2
    refine hK _ _ ⟨kp2, ?_⟩
    clear hK
    clear kp2
    refine wpAnyK_only 3 rfl (by kernel_rfl) (by rfl) (fun K hK => ?_)
    go_simp
    refine (mode26_any s _).mono ?_
    rintro r Y2 ⟨rfl, hv⟩
    obtain rfl : Y1 = Y2 := hv.symm
    refine hK _ _ ⟨Kp.refl _ _ _, ?_⟩
    clear hK
    refine wpAnyK_only 4 rfl (by kernel_rfl) (by rfl) (fun K hK => ?_)
    go_simp
    refine (efail_any B e (moE s) [] _ h.eye).mono ?_
    rintro r Y3 ⟨rfl, hP2, hf2⟩
    have kp4 : Kp QQ.heap.size [B] Y1 Y3 := kpx_eff hf2 hq1 (by simp)
    replace h := h.eff hP2 hf2
    clear hP2 hf2
    refine hK _ _ ⟨kp4, ?_⟩
    clear hK
    clear kp4
    refine wpAnyK_done (by kernel_rfl) ?_ _
    clear hQQ
    go_wp2_with fail
    go_end0
    exact ⟨rfl, h⟩

end Go.Proofs.YthnoomdhgbaecaaGreatDoor

/- Package rmc: Take. -/
namespace Go.Proofs.YthnoomdhgbaecaaGreatDoor

open Go.ChangeShapes Go.WideShapes Go.ChangeAt Go.RowKit

set_option linter.unusedVariables false

set_option linter.unusedSimpArgs false

set_option maxRecDepth 100000 in
set_option maxHeartbeats 8000000 in
theorem all26_9 (I0 I1 I2 I3 I4 I5 I6 I7 I8 I9 : World → Prop) (rb eb mb xb : Nat) {F0 F1 F2 F3 F4 F5 F6 F7 F8 : Value} (hF : F0 = .func (.func 46) #[] #[.pointer (some ⟨eb, 0, none⟩), .pointer (some ⟨mb, 0, none⟩), .pointer (some ⟨xb, 0, none⟩)] ∧ F1 = .func (.func 50) #[] #[.pointer (some ⟨eb, 0, none⟩), .pointer (some ⟨mb, 0, none⟩)] ∧ F2 = .func (.func 51) #[] #[.pointer (some ⟨eb, 0, none⟩), .pointer (some ⟨mb, 0, none⟩)] ∧ F3 = .func (.func 53) #[] #[.pointer (some ⟨eb, 0, none⟩), .pointer (some ⟨mb, 0, none⟩)] ∧ F4 = .func (.func 54) #[] #[.pointer (some ⟨eb, 0, none⟩), .pointer (some ⟨mb, 0, none⟩)] ∧ F5 = .func (.func 56) #[] #[.pointer (some ⟨eb, 0, none⟩), .pointer (some ⟨mb, 0, none⟩)] ∧ F6 = .func (.func 57) #[] #[.pointer (some ⟨eb, 0, none⟩), .pointer (some ⟨mb, 0, none⟩), .pointer (some ⟨xb, 0, none⟩)] ∧ F7 = .func (.func 59) #[] #[.pointer (some ⟨eb, 0, none⟩), .pointer (some ⟨mb, 0, none⟩), .pointer (some ⟨xb, 0, none⟩)] ∧ F8 = .func (.func 61) #[] #[.pointer (some ⟨eb, 0, none⟩)]) (r0 : ∀ W, I0 W → W.heap[rb]? = some (.cells #[F0, F1, F2, F3, F4, F5, F6, F7, F8] 1 (0, 0))) (r1 : ∀ W, I1 W → W.heap[rb]? = some (.cells #[F0, F1, F2, F3, F4, F5, F6, F7, F8] 1 (0, 0))) (r2 : ∀ W, I2 W → W.heap[rb]? = some (.cells #[F0, F1, F2, F3, F4, F5, F6, F7, F8] 1 (0, 0))) (r3 : ∀ W, I3 W → W.heap[rb]? = some (.cells #[F0, F1, F2, F3, F4, F5, F6, F7, F8] 1 (0, 0))) (r4 : ∀ W, I4 W → W.heap[rb]? = some (.cells #[F0, F1, F2, F3, F4, F5, F6, F7, F8] 1 (0, 0))) (r5 : ∀ W, I5 W → W.heap[rb]? = some (.cells #[F0, F1, F2, F3, F4, F5, F6, F7, F8] 1 (0, 0))) (r6 : ∀ W, I6 W → W.heap[rb]? = some (.cells #[F0, F1, F2, F3, F4, F5, F6, F7, F8] 1 (0, 0))) (r7 : ∀ W, I7 W → W.heap[rb]? = some (.cells #[F0, F1, F2, F3, F4, F5, F6, F7, F8] 1 (0, 0))) (r8 : ∀ W, I8 W → W.heap[rb]? = some (.cells #[F0, F1, F2, F3, F4, F5, F6, F7, F8] 1 (0, 0))) (h0 : ∀ W, I0 W → Calls Tryz.prog 46 #[.pointer (some ⟨eb, 0, none⟩), .pointer (some ⟨mb, 0, none⟩), .pointer (some ⟨xb, 0, none⟩)] W fun r W' => r = .returned (.tuple #[]) ∧ I1 W') (h1 : ∀ W, I1 W → Calls Tryz.prog 50 #[.pointer (some ⟨eb, 0, none⟩), .pointer (some ⟨mb, 0, none⟩)] W fun r W' => r = .returned (.tuple #[]) ∧ I2 W') (h2 : ∀ W, I2 W → Calls Tryz.prog 51 #[.pointer (some ⟨eb, 0, none⟩), .pointer (some ⟨mb, 0, none⟩)] W fun r W' => r = .returned (.tuple #[]) ∧ I3 W') (h3 : ∀ W, I3 W → Calls Tryz.prog 53 #[.pointer (some ⟨eb, 0, none⟩), .pointer (some ⟨mb, 0, none⟩)] W fun r W' => r = .returned (.tuple #[]) ∧ I4 W') (h4 : ∀ W, I4 W → Calls Tryz.prog 54 #[.pointer (some ⟨eb, 0, none⟩), .pointer (some ⟨mb, 0, none⟩)] W fun r W' => r = .returned (.tuple #[]) ∧ I5 W') (h5 : ∀ W, I5 W → Calls Tryz.prog 56 #[.pointer (some ⟨eb, 0, none⟩), .pointer (some ⟨mb, 0, none⟩)] W fun r W' => r = .returned (.tuple #[]) ∧ I6 W') (h6 : ∀ W, I6 W → Calls Tryz.prog 57 #[.pointer (some ⟨eb, 0, none⟩), .pointer (some ⟨mb, 0, none⟩), .pointer (some ⟨xb, 0, none⟩)] W fun r W' => r = .returned (.tuple #[]) ∧ I7 W') (h7 : ∀ W, I7 W → Calls Tryz.prog 59 #[.pointer (some ⟨eb, 0, none⟩), .pointer (some ⟨mb, 0, none⟩), .pointer (some ⟨xb, 0, none⟩)] W fun r W' => r = .returned (.tuple #[]) ∧ I8 W') (h8 : ∀ W, I8 W → Calls Tryz.prog 61 #[.pointer (some ⟨eb, 0, none⟩)] W fun r W' => r = .returned (.tuple #[]) ∧ I9 W') (w : World) (hI : I0 w) : Calls Tryz.prog 17 #[.slice (some ⟨rb, 0, none⟩) 9 9] w fun r w' => r = .returned (.tuple #[]) ∧ I9 w' := by
  obtain ⟨rfl, rfl, rfl, rfl, rfl, rfl, rfl, rfl, rfl⟩ := hF
  go_enter Tryz.func17, Tryz.ntmps17
  go_wp2_with fail
  go_loopw [5] (fun ix wr => (ix = .int .i64 0 ∧ I0 wr) ∨ (ix = .int .i64 1 ∧ I1 wr) ∨ (ix = .int .i64 2 ∧ I2 wr) ∨ (ix = .int .i64 3 ∧ I3 wr) ∨ (ix = .int .i64 4 ∧ I4 wr) ∨ (ix = .int .i64 5 ∧ I5 wr) ∨ (ix = .int .i64 6 ∧ I6 wr) ∨ (ix = .int .i64 7 ∧ I7 wr) ∨ (ix = .int .i64 8 ∧ I8 wr) ∨ (ix = .int .i64 9 ∧ I9 wr)) (fun ix _ => 9 - (intOf ix).toNat)
  case atStart => exact .inl ⟨rfl, hI⟩
  case round =>
    rcases hrel with ⟨rfl, hIk⟩ | ⟨rfl, hIk⟩ | ⟨rfl, hIk⟩ | ⟨rfl, hIk⟩ | ⟨rfl, hIk⟩ | ⟨rfl, hIk⟩ | ⟨rfl, hIk⟩ | ⟨rfl, hIk⟩ | ⟨rfl, hIk⟩ | ⟨rfl, hIk⟩
    · have hr := r0 _ hIk
      have c0 := held_cell hr 0 _ rfl
      clear hr
      go_wp2_with fail
      refine (h0 _ hIk).mono ?_
      rintro r V ⟨rfl, hI2⟩
      go_wp2_with fail
      go_roundw
      case rel => exact .inr (.inl ⟨rfl, hI2⟩)
      case measure => simp [intOf]
    · have hr := r1 _ hIk
      have c0 := held_cell hr 1 _ rfl
      clear hr
      go_wp2_with fail
      refine (h1 _ hIk).mono ?_
      rintro r V ⟨rfl, hI2⟩
      go_wp2_with fail
      go_roundw
      case rel => exact .inr (.inr (.inl ⟨rfl, hI2⟩))
      case measure => simp [intOf]
    · have hr := r2 _ hIk
      have c0 := held_cell hr 2 _ rfl
      clear hr
      go_wp2_with fail
      refine (h2 _ hIk).mono ?_
      rintro r V ⟨rfl, hI2⟩
      go_wp2_with fail
      go_roundw
      case rel => exact .inr (.inr (.inr (.inl ⟨rfl, hI2⟩)))
      case measure => simp [intOf]
    · have hr := r3 _ hIk
      have c0 := held_cell hr 3 _ rfl
      clear hr
      go_wp2_with fail
      refine (h3 _ hIk).mono ?_
      rintro r V ⟨rfl, hI2⟩
      go_wp2_with fail
      go_roundw
      case rel => exact .inr (.inr (.inr (.inr (.inl ⟨rfl, hI2⟩))))
      case measure => simp [intOf]
    · have hr := r4 _ hIk
      have c0 := held_cell hr 4 _ rfl
      clear hr
      go_wp2_with fail
      refine (h4 _ hIk).mono ?_
      rintro r V ⟨rfl, hI2⟩
      go_wp2_with fail
      go_roundw
      case rel => exact .inr (.inr (.inr (.inr (.inr (.inl ⟨rfl, hI2⟩)))))
      case measure => simp [intOf]
    · have hr := r5 _ hIk
      have c0 := held_cell hr 5 _ rfl
      clear hr
      go_wp2_with fail
      refine (h5 _ hIk).mono ?_
      rintro r V ⟨rfl, hI2⟩
      go_wp2_with fail
      go_roundw
      case rel => exact .inr (.inr (.inr (.inr (.inr (.inr (.inl ⟨rfl, hI2⟩))))))
      case measure => simp [intOf]
    · have hr := r6 _ hIk
      have c0 := held_cell hr 6 _ rfl
      clear hr
      go_wp2_with fail
      refine (h6 _ hIk).mono ?_
      rintro r V ⟨rfl, hI2⟩
      go_wp2_with fail
      go_roundw
      case rel => exact .inr (.inr (.inr (.inr (.inr (.inr (.inr (.inl ⟨rfl, hI2⟩)))))))
      case measure => simp [intOf]
    · have hr := r7 _ hIk
      have c0 := held_cell hr 7 _ rfl
      clear hr
      go_wp2_with fail
      refine (h7 _ hIk).mono ?_
      rintro r V ⟨rfl, hI2⟩
      go_wp2_with fail
      go_roundw
      case rel => exact .inr (.inr (.inr (.inr (.inr (.inr (.inr (.inr (.inl ⟨rfl, hI2⟩))))))))
      case measure => simp [intOf]
    · have hr := r8 _ hIk
      have c0 := held_cell hr 8 _ rfl
      clear hr
      go_wp2_with fail
      refine (h8 _ hIk).mono ?_
      rintro r V ⟨rfl, hI2⟩
      go_wp2_with fail
      go_roundw
      case rel => exact .inr (.inr (.inr (.inr (.inr (.inr (.inr (.inr (.inr (⟨rfl, hI2⟩)))))))))
      case measure => simp [intOf]
    · go_wp2_with fail
      go_end0
      exact ⟨rfl, hIk⟩
/-- The first error of a list. -/
def rmR (E : Int) (v : Array Value) : Value := .tuple #[if E = 0 then .agg v else .agg #[.bool false, .int .i64 0, .int .i64 0, .int .i64 0, .int .i64 0, .bool false, .bool false, .int .i64 0, .bool false, .int .i64 0, .bool false, .int .i64 0, .bool false, .int .i64 0, .bool false, .int .i64 0, .bool false, .int .i64 0, .int .i64 0, .int .i64 0], .int .i64 E]
theorem takD_bd {s : ByteArray} {W M F lo hi : Int} {i : Bool} {n x : Int} (h : takD s W M F lo hi = (i, n, x)) (h0 : lo ≤ 0 ∧ 0 ≤ hi) : (i = false → n = 0) ∧ lo ≤ n ∧ n ≤ hi := by
  unfold takD at h
  split at h
  · cases h; exact ⟨fun _ => rfl, h0.1, h0.2⟩
  · split at h
    · cases h; exact ⟨fun _ => rfl, h0.1, h0.2⟩
    · unfold takO at h
      split at h
      · cases h; exact ⟨fun _ => rfl, h0.1, h0.2⟩
      · split at h
        · cases h; exact ⟨fun _ => rfl, h0.1, h0.2⟩
        · cases h; exact ⟨fun h => (by cases h), by omega, by omega⟩
theorem szs {L M : List ByteArray} (h : ∀ x ∈ L, x.size ≤ 1000) (k : Nat) (e : M = L.drop k) : ∀ x ∈ M, x.size ≤ 1000 := fun x hx => h x (List.mem_of_mem_drop (e ▸ hx))
set_option maxRecDepth 100000 in
set_option maxHeartbeats 32000000 in
theorem rmtake_any (s0 s1 s2 s3 s4 s5 s6 s7 s8 s9 s10 : ByteArray) (R : List ByteArray) (hR : R.length ≤ 1) {b : Bool} {ho mi se ce k : Int} {ai : Bool} {an x1 : Int} {oi : Bool} {on x2 : Int} {pi : Bool} {pn x3 : Int} {ci : Bool} {cn x4 : Int} {db : Bool} {dd dm dy kd : Int} {vi : Bool} {vn x5 : Int} (hV : takeV (sb s0) = .tuple #[.agg #[.bool b, .int .i64 ho, .int .i64 mi, .int .i64 se, .int .i64 ce], .int .i64 k]) (h1 : tkaD s2 s3 true = (ai, an, x1)) (h2 : tkaD s4 s5 false = (oi, on, x2)) (h3 : takD s6 1 4 2 0 999999 = (pi, pn, x3)) (h4 : takD s7 1 3 2 0 36000 = (ci, cn, x4)) (hD : takeD (sb s8) = .tuple #[.agg #[.bool db, .int .i64 dd, .int .i64 dm, .int .i64 dy], .int .i64 kd]) (h5 : takD s9 1 3 1 0 1800 = (vi, vn, x5)) {E : Int} (hKE : moL (kp (kp (kp (kp (kp (kp (kp (kp 0 k) (onE s1 ⟨#[65]⟩ ⟨#[86]⟩)) x1) x2) x3) x4) kd) (tvD (vi, vn, x5) s10).2.2) R = E) (w : World) (a : Option Addr) (n cap : Nat) (hn : n = 11 + R.length) (hEl : Els w 1 a n cap (strV23 (s0 :: s1 :: s2 :: s3 :: s4 :: s5 :: s6 :: s7 :: s8 :: s9 :: s10 :: R))) (hs : ∀ s ∈ (s0 :: s1 :: s2 :: s3 :: s4 :: s5 :: s6 :: s7 :: s8 :: s9 :: s10 :: R), s.size ≤ 1000) : Calls Tryz.prog 14 #[.slice a n cap] w fun r w' => r = .returned (rmR E #[.bool b, .int .i64 ho, .int .i64 mi, .int .i64 se, .int .i64 ce, .bool (decide (s1 = ⟨#[65]⟩)), .bool ai, .int .i64 an, .bool oi, .int .i64 on, .bool pi, .int .i64 pn, .bool ci, .int .i64 cn, .bool (tvD (vi, vn, x5) s10).1, .int .i64 (tvD (vi, vn, x5) s10).2.1, .bool db, .int .i64 dd, .int .i64 dm, .int .i64 dy]) ∧ After w w' := by
  have hbv := takD_bd h5 (by decide)
  have hn12 : n = 11 ∨ n = 12 := by omega
  have hn1000 : n ≤ 1000 := by omega
  have hlen : (s0 :: s1 :: s2 :: s3 :: s4 :: s5 :: s6 :: s7 :: s8 :: s9 :: s10 :: R).length = n := by simp; omega
  have hL1000 : (s0 :: s1 :: s2 :: s3 :: s4 :: s5 :: s6 :: s7 :: s8 :: s9 :: s10 :: R).length ≤ 1000 := by omega
  clear hn
  replace hKE := hid hKE
  replace hV := hid hV
  replace hD := hid hD
  replace h1 := hid h1
  replace h2 := hid h2
  replace h3 := hid h3
  replace h4 := hid h4
  replace h5 := hid h5
  replace hbv := hid hbv
  replace hEl := hid hEl
  replace hs := hid hs
  replace hlen := hid hlen
  replace hL1000 := hid hL1000
  replace hR := hid hR
  have hmf : ∀ (fn : Fn) (first cap : Array Value) (w : World), (Instr.makeFunc fn first cap).run Tryz.prog w = .ok (.func fn first cap) w := fun _ _ _ _ => rfl
  have b12 : ((n : Int) != 11) = false ∨ (((n : Int) != 11) = true ∧ ((n : Int) != 12) = false) := by rcases hn12 with rfl | rfl <;> simp
  replace hn12 := hid hn12
  go_enter Tryz.func14, Tryz.ntmps14
  go_upto_region 0 with (fail)
  apply wp_region_seg0 (w := w) (S := [.al 1000, .q []]) (E := [.al ((fun p => .pointer (some ⟨p, 0, none⟩)), _) 1000, .q0 _]) rfl (by kernel_rfl) rfl rfl
  intro th hge hne
  refine Seg.step _ rfl ⟨by rfl, fun U hU => ?_⟩ ?_
  · go_simp; exact vp_alloc rfl rfl rfl
  refine Seg.sa ?_
  refine Seg.sq ?_
  refine Seg.stop (fun U1 hU hk => ?_)
  have nb0 := hge 0 _ _ rfl
  have rb0 := (hk 0 _ _ rfl trivial).1.2 (by simp)
  clear hk hge hne
  generalize th (0 + 0) = p0_0 at *
  dsimp only at rb0
  have r_p0_0 := rb0
  clear rb0
  have n_p0_0 := nb0
  clear nb0
  have sz1 := hU.size
  have hB : Below w.heap.size w U1 := hU
  clear hU
  have hEl1 := hid (hEl.out.below hB)
  have hl0 := held_lt r_p0_0
  replace r_p0_0 := hid r_p0_0
  replace hB := hid hB
  go_upto_region 1 with (fail)
  go_upto_region 1 with (fail)
  go_cut [14] (fun x wx => x = .bool false ∧ wx.heap[p0_0]? = some (.cells #[.bool false, .int .i64 0, .int .i64 0, .int .i64 0, .int .i64 0, .bool false, .bool false, .int .i64 0, .bool false, .int .i64 0, .bool false, .int .i64 0, .bool false, .int .i64 0, .bool false, .int .i64 0, .bool false, .int .i64 0, .int .i64 0, .int .i64 0] 29 (0, 0)) ∧ After w wx ∧ p0_0 < wx.heap.size)
  case first =>
    rcases b12 with q | ⟨q, q2⟩
    · go_wp2_with fail
      go_meet
      exact ⟨rfl, r_p0_0.out, hB.out, hl0⟩
    · go_wp2_with fail
      go_meet
      exact ⟨rfl, r_p0_0.out, hB.out, hl0⟩
  case rest =>
    clear b12 hEl1 r_p0_0 hB hl0
    obtain ⟨rfl, r_p0_0, hBw, hl0⟩ := hcut
    generalize hVV : wc = wb at *
    clear hVV
    have hEl1 := hEl.out.below hBw
    have r_0 := r_p0_0
    go_wp2_with fail
    refine (look_any a n cap (s0 :: s1 :: s2 :: s3 :: s4 :: s5 :: s6 :: s7 :: s8 :: s9 :: s10 :: R) _ hlen.out hn1000 hEl1).mono ?_
    rintro r V ⟨B, rfl, hP, hB, hwB⟩
    clear hEl1 r_p0_0
    have hlp := hP.lt
    have nw := alloc_new V (.cells #[.pointer (some ⟨B, 0, none⟩)] 68)
    go_upto_region 4 with (fail)
    obtain ⟨W1, hW1⟩ : ∃ X, V.alloc (.cells #[.pointer (some ⟨B, 0, none⟩)] 68) = X := ⟨_, rfl⟩
    rw [hW1] at nw ⊢
    obtain ⟨eb, hpp⟩ : ∃ X, V.heap.size = X := ⟨_, rfl⟩
    rw [hpp] at nw ⊢
    replace hW1 := hid hW1
    have hA := nw.2.1
    have r_eb := nw.2.2
    have nep : eb ≠ B := by omega
    replace hpp := hid hpp
    clear nw
    replace hB := bthen hB hA
    replace hP := hP.aft hA
    clear hA
    have hlp := hP.lt
    have s1w := hB.size
    apply wp_region_seg0 (w := W1) (S := [.al 1000]) (E := [.al ((fun p => .pointer (some ⟨p, 0, none⟩)), _) 1000]) rfl (by kernel_rfl) rfl rfl
    intro th hge hne
    refine Seg.step _ rfl ⟨by rfl, fun U hU => ?_⟩ ?_
    · go_simp; exact vp_alloc rfl rfl rfl
    refine Seg.sa ?_
    refine Seg.stop (fun U2 hU hk => ?_)
    have nb0 := hge 0 _ _ rfl
    have rb0 := (hk 0 _ _ rfl trivial).1.2 (by simp)
    clear hk hge hne
    generalize th (0 + 0) = p4_0 at *
    dsimp only at rb0
    replace r_eb := held_after hU r_eb
    replace hP := hP.below hU
    have r_p4_0 := rb0
    clear rb0
    have n_p4_0 := nb0
    clear nb0
    have sz2 := hU.size
    replace hB := bthen hB hU
    clear hU
    have hlp2 := hP.lt
    have nem : p4_0 ≠ B := by omega
    have hwm : wb.heap.size ≤ p4_0 := by omega
    have s2w := hB.size
    go_upto_region 5 with (fail)
    apply wp_region_seg0 (w := U2) (S := [.al 1000]) (E := [.al ((fun p => .pointer (some ⟨p, 0, none⟩)), _) 1000]) rfl (by kernel_rfl) rfl rfl
    intro th hge hne
    refine Seg.step _ rfl ⟨by rfl, fun U hU => ?_⟩ ?_
    · go_simp; exact vp_alloc rfl rfl rfl
    refine Seg.sa ?_
    refine Seg.stop (fun U3 hU hk => ?_)
    have nb0 := hge 0 _ _ rfl
    have rb0 := (hk 0 _ _ rfl trivial).1.2 (by simp)
    clear hk hge hne
    generalize th (0 + 0) = p5_0 at *
    dsimp only at rb0
    replace r_eb := held_after hU r_eb
    replace r_p4_0 := held_after hU r_p4_0
    replace hP := hP.below hU
    have r_p5_0 := rb0
    clear rb0
    have n_p5_0 := nb0
    clear nb0
    have sz3 := hU.size
    replace hB := bthen hB hU
    clear hU
    have nex : p5_0 ≠ B := by omega
    have hwx : wb.heap.size ≤ p5_0 := by omega
    have hl5 := hP.lt
    have nw := alloc_new U3 (.cells #[.func (.func 46) #[] #[.pointer (some ⟨eb, 0, none⟩), .pointer (some ⟨p4_0, 0, none⟩), .pointer (some ⟨p5_0, 0, none⟩)], .func (.func 50) #[] #[.pointer (some ⟨eb, 0, none⟩), .pointer (some ⟨p4_0, 0, none⟩)], .func (.func 51) #[] #[.pointer (some ⟨eb, 0, none⟩), .pointer (some ⟨p4_0, 0, none⟩)], .func (.func 53) #[] #[.pointer (some ⟨eb, 0, none⟩), .pointer (some ⟨p4_0, 0, none⟩)], .func (.func 54) #[] #[.pointer (some ⟨eb, 0, none⟩), .pointer (some ⟨p4_0, 0, none⟩)], .func (.func 56) #[] #[.pointer (some ⟨eb, 0, none⟩), .pointer (some ⟨p4_0, 0, none⟩)], .func (.func 57) #[] #[.pointer (some ⟨eb, 0, none⟩), .pointer (some ⟨p4_0, 0, none⟩), .pointer (some ⟨p5_0, 0, none⟩)], .func (.func 59) #[] #[.pointer (some ⟨eb, 0, none⟩), .pointer (some ⟨p4_0, 0, none⟩), .pointer (some ⟨p5_0, 0, none⟩)], .func (.func 61) #[] #[.pointer (some ⟨eb, 0, none⟩)]] 1)
    obtain ⟨rb, hrb⟩ : ∃ X, U3.heap.size = X := ⟨_, rfl⟩
    have hA := nw.2.1
    have r_rb := nw.2.2
    rw [hrb] at r_rb
    have ner : rb ≠ B := by omega
    clear nw
    have hS : TSt wb B p4_0 p5_0 eb rb #[.func (.func 46) #[] #[.pointer (some ⟨eb, 0, none⟩), .pointer (some ⟨p4_0, 0, none⟩), .pointer (some ⟨p5_0, 0, none⟩)], .func (.func 50) #[] #[.pointer (some ⟨eb, 0, none⟩), .pointer (some ⟨p4_0, 0, none⟩)], .func (.func 51) #[] #[.pointer (some ⟨eb, 0, none⟩), .pointer (some ⟨p4_0, 0, none⟩)], .func (.func 53) #[] #[.pointer (some ⟨eb, 0, none⟩), .pointer (some ⟨p4_0, 0, none⟩)], .func (.func 54) #[] #[.pointer (some ⟨eb, 0, none⟩), .pointer (some ⟨p4_0, 0, none⟩)], .func (.func 56) #[] #[.pointer (some ⟨eb, 0, none⟩), .pointer (some ⟨p4_0, 0, none⟩)], .func (.func 57) #[] #[.pointer (some ⟨eb, 0, none⟩), .pointer (some ⟨p4_0, 0, none⟩), .pointer (some ⟨p5_0, 0, none⟩)], .func (.func 59) #[] #[.pointer (some ⟨eb, 0, none⟩), .pointer (some ⟨p4_0, 0, none⟩), .pointer (some ⟨p5_0, 0, none⟩)], .func (.func 61) #[] #[.pointer (some ⟨eb, 0, none⟩)]] 0 0 (s0 :: s1 :: s2 :: s3 :: s4 :: s5 :: s6 :: s7 :: s8 :: s9 :: s10 :: R) #[.bool false, .int .i64 0, .int .i64 0, .int .i64 0, .int .i64 0, .bool false, .bool false, .int .i64 0, .bool false, .int .i64 0, .bool false, .int .i64 0, .bool false, .int .i64 0, .bool false, .int .i64 0, .bool false, .int .i64 0, .int .i64 0, .int .i64 0] (U3.alloc (.cells #[.func (.func 46) #[] #[.pointer (some ⟨eb, 0, none⟩), .pointer (some ⟨p4_0, 0, none⟩), .pointer (some ⟨p5_0, 0, none⟩)], .func (.func 50) #[] #[.pointer (some ⟨eb, 0, none⟩), .pointer (some ⟨p4_0, 0, none⟩)], .func (.func 51) #[] #[.pointer (some ⟨eb, 0, none⟩), .pointer (some ⟨p4_0, 0, none⟩)], .func (.func 53) #[] #[.pointer (some ⟨eb, 0, none⟩), .pointer (some ⟨p4_0, 0, none⟩)], .func (.func 54) #[] #[.pointer (some ⟨eb, 0, none⟩), .pointer (some ⟨p4_0, 0, none⟩)], .func (.func 56) #[] #[.pointer (some ⟨eb, 0, none⟩), .pointer (some ⟨p4_0, 0, none⟩)], .func (.func 57) #[] #[.pointer (some ⟨eb, 0, none⟩), .pointer (some ⟨p4_0, 0, none⟩), .pointer (some ⟨p5_0, 0, none⟩)], .func (.func 59) #[] #[.pointer (some ⟨eb, 0, none⟩), .pointer (some ⟨p4_0, 0, none⟩), .pointer (some ⟨p5_0, 0, none⟩)], .func (.func 61) #[] #[.pointer (some ⟨eb, 0, none⟩)]] 1)) := ⟨hP.aft hA, held_after hA r_p4_0, held_after hA r_p5_0, held_after hA r_eb, r_rb, bthen hB hA, nem, nex, nep, ner, hwB, hwm, hwx, (by intro j s h; match j, h with | 0, h => simp at h | 1, h => simp at h | 2, h => simp at h | 3, h => simp at h | 4, h => simp at h | 5, h => simp at h | 6, h => simp at h | 7, h => simp at h | 8, h => simp at h | 9, h => simp at h | 10, h => simp at h | 11, h => simp at h | 12, h => simp at h | 13, h => simp at h | 14, h => simp at h | 15, h => simp at h | 16, h => simp at h | 17, h => simp at h | 18, h => simp at h | 19, h => simp at h | j + 20, h => simp at h)⟩
    clear hP r_p4_0 r_p5_0 r_eb r_rb hA hB
    have kA := all26_9 (fun W => TSt wb B p4_0 p5_0 eb rb #[.func (.func 46) #[] #[.pointer (some ⟨eb, 0, none⟩), .pointer (some ⟨p4_0, 0, none⟩), .pointer (some ⟨p5_0, 0, none⟩)], .func (.func 50) #[] #[.pointer (some ⟨eb, 0, none⟩), .pointer (some ⟨p4_0, 0, none⟩)], .func (.func 51) #[] #[.pointer (some ⟨eb, 0, none⟩), .pointer (some ⟨p4_0, 0, none⟩)], .func (.func 53) #[] #[.pointer (some ⟨eb, 0, none⟩), .pointer (some ⟨p4_0, 0, none⟩)], .func (.func 54) #[] #[.pointer (some ⟨eb, 0, none⟩), .pointer (some ⟨p4_0, 0, none⟩)], .func (.func 56) #[] #[.pointer (some ⟨eb, 0, none⟩), .pointer (some ⟨p4_0, 0, none⟩)], .func (.func 57) #[] #[.pointer (some ⟨eb, 0, none⟩), .pointer (some ⟨p4_0, 0, none⟩), .pointer (some ⟨p5_0, 0, none⟩)], .func (.func 59) #[] #[.pointer (some ⟨eb, 0, none⟩), .pointer (some ⟨p4_0, 0, none⟩), .pointer (some ⟨p5_0, 0, none⟩)], .func (.func 61) #[] #[.pointer (some ⟨eb, 0, none⟩)]] 0 0 (s0 :: s1 :: s2 :: s3 :: s4 :: s5 :: s6 :: s7 :: s8 :: s9 :: s10 :: R) #[.bool false, .int .i64 0, .int .i64 0, .int .i64 0, .int .i64 0, .bool false, .bool false, .int .i64 0, .bool false, .int .i64 0, .bool false, .int .i64 0, .bool false, .int .i64 0, .bool false, .int .i64 0, .bool false, .int .i64 0, .int .i64 0, .int .i64 0] W) (fun W => TSt wb B p4_0 p5_0 eb rb #[.func (.func 46) #[] #[.pointer (some ⟨eb, 0, none⟩), .pointer (some ⟨p4_0, 0, none⟩), .pointer (some ⟨p5_0, 0, none⟩)], .func (.func 50) #[] #[.pointer (some ⟨eb, 0, none⟩), .pointer (some ⟨p4_0, 0, none⟩)], .func (.func 51) #[] #[.pointer (some ⟨eb, 0, none⟩), .pointer (some ⟨p4_0, 0, none⟩)], .func (.func 53) #[] #[.pointer (some ⟨eb, 0, none⟩), .pointer (some ⟨p4_0, 0, none⟩)], .func (.func 54) #[] #[.pointer (some ⟨eb, 0, none⟩), .pointer (some ⟨p4_0, 0, none⟩)], .func (.func 56) #[] #[.pointer (some ⟨eb, 0, none⟩), .pointer (some ⟨p4_0, 0, none⟩)], .func (.func 57) #[] #[.pointer (some ⟨eb, 0, none⟩), .pointer (some ⟨p4_0, 0, none⟩), .pointer (some ⟨p5_0, 0, none⟩)], .func (.func 59) #[] #[.pointer (some ⟨eb, 0, none⟩), .pointer (some ⟨p4_0, 0, none⟩), .pointer (some ⟨p5_0, 0, none⟩)], .func (.func 61) #[] #[.pointer (some ⟨eb, 0, none⟩)]] k (kp 0 k) (s1 :: s2 :: s3 :: s4 :: s5 :: s6 :: s7 :: s8 :: s9 :: s10 :: R) #[.bool b, .int .i64 ho, .int .i64 mi, .int .i64 se, .int .i64 ce, .bool false, .bool false, .int .i64 0, .bool false, .int .i64 0, .bool false, .int .i64 0, .bool false, .int .i64 0, .bool false, .int .i64 0, .bool false, .int .i64 0, .int .i64 0, .int .i64 0] W) (fun W => TSt wb B p4_0 p5_0 eb rb #[.func (.func 46) #[] #[.pointer (some ⟨eb, 0, none⟩), .pointer (some ⟨p4_0, 0, none⟩), .pointer (some ⟨p5_0, 0, none⟩)], .func (.func 50) #[] #[.pointer (some ⟨eb, 0, none⟩), .pointer (some ⟨p4_0, 0, none⟩)], .func (.func 51) #[] #[.pointer (some ⟨eb, 0, none⟩), .pointer (some ⟨p4_0, 0, none⟩)], .func (.func 53) #[] #[.pointer (some ⟨eb, 0, none⟩), .pointer (some ⟨p4_0, 0, none⟩)], .func (.func 54) #[] #[.pointer (some ⟨eb, 0, none⟩), .pointer (some ⟨p4_0, 0, none⟩)], .func (.func 56) #[] #[.pointer (some ⟨eb, 0, none⟩), .pointer (some ⟨p4_0, 0, none⟩)], .func (.func 57) #[] #[.pointer (some ⟨eb, 0, none⟩), .pointer (some ⟨p4_0, 0, none⟩), .pointer (some ⟨p5_0, 0, none⟩)], .func (.func 59) #[] #[.pointer (some ⟨eb, 0, none⟩), .pointer (some ⟨p4_0, 0, none⟩), .pointer (some ⟨p5_0, 0, none⟩)], .func (.func 61) #[] #[.pointer (some ⟨eb, 0, none⟩)]] k (kp (kp 0 k) (onE s1 ⟨#[65]⟩ ⟨#[86]⟩)) (s2 :: s3 :: s4 :: s5 :: s6 :: s7 :: s8 :: s9 :: s10 :: R) #[.bool b, .int .i64 ho, .int .i64 mi, .int .i64 se, .int .i64 ce, .bool (decide (s1 = ⟨#[65]⟩)), .bool false, .int .i64 0, .bool false, .int .i64 0, .bool false, .int .i64 0, .bool false, .int .i64 0, .bool false, .int .i64 0, .bool false, .int .i64 0, .int .i64 0, .int .i64 0] W) (fun W => TSt wb B p4_0 p5_0 eb rb #[.func (.func 46) #[] #[.pointer (some ⟨eb, 0, none⟩), .pointer (some ⟨p4_0, 0, none⟩), .pointer (some ⟨p5_0, 0, none⟩)], .func (.func 50) #[] #[.pointer (some ⟨eb, 0, none⟩), .pointer (some ⟨p4_0, 0, none⟩)], .func (.func 51) #[] #[.pointer (some ⟨eb, 0, none⟩), .pointer (some ⟨p4_0, 0, none⟩)], .func (.func 53) #[] #[.pointer (some ⟨eb, 0, none⟩), .pointer (some ⟨p4_0, 0, none⟩)], .func (.func 54) #[] #[.pointer (some ⟨eb, 0, none⟩), .pointer (some ⟨p4_0, 0, none⟩)], .func (.func 56) #[] #[.pointer (some ⟨eb, 0, none⟩), .pointer (some ⟨p4_0, 0, none⟩)], .func (.func 57) #[] #[.pointer (some ⟨eb, 0, none⟩), .pointer (some ⟨p4_0, 0, none⟩), .pointer (some ⟨p5_0, 0, none⟩)], .func (.func 59) #[] #[.pointer (some ⟨eb, 0, none⟩), .pointer (some ⟨p4_0, 0, none⟩), .pointer (some ⟨p5_0, 0, none⟩)], .func (.func 61) #[] #[.pointer (some ⟨eb, 0, none⟩)]] k (kp (kp (kp 0 k) (onE s1 ⟨#[65]⟩ ⟨#[86]⟩)) x1) (s4 :: s5 :: s6 :: s7 :: s8 :: s9 :: s10 :: R) #[.bool b, .int .i64 ho, .int .i64 mi, .int .i64 se, .int .i64 ce, .bool (decide (s1 = ⟨#[65]⟩)), .bool ai, .int .i64 an, .bool false, .int .i64 0, .bool false, .int .i64 0, .bool false, .int .i64 0, .bool false, .int .i64 0, .bool false, .int .i64 0, .int .i64 0, .int .i64 0] W) (fun W => TSt wb B p4_0 p5_0 eb rb #[.func (.func 46) #[] #[.pointer (some ⟨eb, 0, none⟩), .pointer (some ⟨p4_0, 0, none⟩), .pointer (some ⟨p5_0, 0, none⟩)], .func (.func 50) #[] #[.pointer (some ⟨eb, 0, none⟩), .pointer (some ⟨p4_0, 0, none⟩)], .func (.func 51) #[] #[.pointer (some ⟨eb, 0, none⟩), .pointer (some ⟨p4_0, 0, none⟩)], .func (.func 53) #[] #[.pointer (some ⟨eb, 0, none⟩), .pointer (some ⟨p4_0, 0, none⟩)], .func (.func 54) #[] #[.pointer (some ⟨eb, 0, none⟩), .pointer (some ⟨p4_0, 0, none⟩)], .func (.func 56) #[] #[.pointer (some ⟨eb, 0, none⟩), .pointer (some ⟨p4_0, 0, none⟩)], .func (.func 57) #[] #[.pointer (some ⟨eb, 0, none⟩), .pointer (some ⟨p4_0, 0, none⟩), .pointer (some ⟨p5_0, 0, none⟩)], .func (.func 59) #[] #[.pointer (some ⟨eb, 0, none⟩), .pointer (some ⟨p4_0, 0, none⟩), .pointer (some ⟨p5_0, 0, none⟩)], .func (.func 61) #[] #[.pointer (some ⟨eb, 0, none⟩)]] k (kp (kp (kp (kp 0 k) (onE s1 ⟨#[65]⟩ ⟨#[86]⟩)) x1) x2) (s6 :: s7 :: s8 :: s9 :: s10 :: R) #[.bool b, .int .i64 ho, .int .i64 mi, .int .i64 se, .int .i64 ce, .bool (decide (s1 = ⟨#[65]⟩)), .bool ai, .int .i64 an, .bool oi, .int .i64 on, .bool false, .int .i64 0, .bool false, .int .i64 0, .bool false, .int .i64 0, .bool false, .int .i64 0, .int .i64 0, .int .i64 0] W) (fun W => TSt wb B p4_0 p5_0 eb rb #[.func (.func 46) #[] #[.pointer (some ⟨eb, 0, none⟩), .pointer (some ⟨p4_0, 0, none⟩), .pointer (some ⟨p5_0, 0, none⟩)], .func (.func 50) #[] #[.pointer (some ⟨eb, 0, none⟩), .pointer (some ⟨p4_0, 0, none⟩)], .func (.func 51) #[] #[.pointer (some ⟨eb, 0, none⟩), .pointer (some ⟨p4_0, 0, none⟩)], .func (.func 53) #[] #[.pointer (some ⟨eb, 0, none⟩), .pointer (some ⟨p4_0, 0, none⟩)], .func (.func 54) #[] #[.pointer (some ⟨eb, 0, none⟩), .pointer (some ⟨p4_0, 0, none⟩)], .func (.func 56) #[] #[.pointer (some ⟨eb, 0, none⟩), .pointer (some ⟨p4_0, 0, none⟩)], .func (.func 57) #[] #[.pointer (some ⟨eb, 0, none⟩), .pointer (some ⟨p4_0, 0, none⟩), .pointer (some ⟨p5_0, 0, none⟩)], .func (.func 59) #[] #[.pointer (some ⟨eb, 0, none⟩), .pointer (some ⟨p4_0, 0, none⟩), .pointer (some ⟨p5_0, 0, none⟩)], .func (.func 61) #[] #[.pointer (some ⟨eb, 0, none⟩)]] k (kp (kp (kp (kp (kp 0 k) (onE s1 ⟨#[65]⟩ ⟨#[86]⟩)) x1) x2) x3) (s7 :: s8 :: s9 :: s10 :: R) #[.bool b, .int .i64 ho, .int .i64 mi, .int .i64 se, .int .i64 ce, .bool (decide (s1 = ⟨#[65]⟩)), .bool ai, .int .i64 an, .bool oi, .int .i64 on, .bool pi, .int .i64 pn, .bool false, .int .i64 0, .bool false, .int .i64 0, .bool false, .int .i64 0, .int .i64 0, .int .i64 0] W) (fun W => TSt wb B p4_0 p5_0 eb rb #[.func (.func 46) #[] #[.pointer (some ⟨eb, 0, none⟩), .pointer (some ⟨p4_0, 0, none⟩), .pointer (some ⟨p5_0, 0, none⟩)], .func (.func 50) #[] #[.pointer (some ⟨eb, 0, none⟩), .pointer (some ⟨p4_0, 0, none⟩)], .func (.func 51) #[] #[.pointer (some ⟨eb, 0, none⟩), .pointer (some ⟨p4_0, 0, none⟩)], .func (.func 53) #[] #[.pointer (some ⟨eb, 0, none⟩), .pointer (some ⟨p4_0, 0, none⟩)], .func (.func 54) #[] #[.pointer (some ⟨eb, 0, none⟩), .pointer (some ⟨p4_0, 0, none⟩)], .func (.func 56) #[] #[.pointer (some ⟨eb, 0, none⟩), .pointer (some ⟨p4_0, 0, none⟩)], .func (.func 57) #[] #[.pointer (some ⟨eb, 0, none⟩), .pointer (some ⟨p4_0, 0, none⟩), .pointer (some ⟨p5_0, 0, none⟩)], .func (.func 59) #[] #[.pointer (some ⟨eb, 0, none⟩), .pointer (some ⟨p4_0, 0, none⟩), .pointer (some ⟨p5_0, 0, none⟩)], .func (.func 61) #[] #[.pointer (some ⟨eb, 0, none⟩)]] k (kp (kp (kp (kp (kp (kp 0 k) (onE s1 ⟨#[65]⟩ ⟨#[86]⟩)) x1) x2) x3) x4) (s8 :: s9 :: s10 :: R) #[.bool b, .int .i64 ho, .int .i64 mi, .int .i64 se, .int .i64 ce, .bool (decide (s1 = ⟨#[65]⟩)), .bool ai, .int .i64 an, .bool oi, .int .i64 on, .bool pi, .int .i64 pn, .bool ci, .int .i64 cn, .bool false, .int .i64 0, .bool false, .int .i64 0, .int .i64 0, .int .i64 0] W) (fun W => TSt wb B p4_0 p5_0 eb rb #[.func (.func 46) #[] #[.pointer (some ⟨eb, 0, none⟩), .pointer (some ⟨p4_0, 0, none⟩), .pointer (some ⟨p5_0, 0, none⟩)], .func (.func 50) #[] #[.pointer (some ⟨eb, 0, none⟩), .pointer (some ⟨p4_0, 0, none⟩)], .func (.func 51) #[] #[.pointer (some ⟨eb, 0, none⟩), .pointer (some ⟨p4_0, 0, none⟩)], .func (.func 53) #[] #[.pointer (some ⟨eb, 0, none⟩), .pointer (some ⟨p4_0, 0, none⟩)], .func (.func 54) #[] #[.pointer (some ⟨eb, 0, none⟩), .pointer (some ⟨p4_0, 0, none⟩)], .func (.func 56) #[] #[.pointer (some ⟨eb, 0, none⟩), .pointer (some ⟨p4_0, 0, none⟩)], .func (.func 57) #[] #[.pointer (some ⟨eb, 0, none⟩), .pointer (some ⟨p4_0, 0, none⟩), .pointer (some ⟨p5_0, 0, none⟩)], .func (.func 59) #[] #[.pointer (some ⟨eb, 0, none⟩), .pointer (some ⟨p4_0, 0, none⟩), .pointer (some ⟨p5_0, 0, none⟩)], .func (.func 61) #[] #[.pointer (some ⟨eb, 0, none⟩)]] kd (kp (kp (kp (kp (kp (kp (kp 0 k) (onE s1 ⟨#[65]⟩ ⟨#[86]⟩)) x1) x2) x3) x4) kd) (s9 :: s10 :: R) #[.bool b, .int .i64 ho, .int .i64 mi, .int .i64 se, .int .i64 ce, .bool (decide (s1 = ⟨#[65]⟩)), .bool ai, .int .i64 an, .bool oi, .int .i64 on, .bool pi, .int .i64 pn, .bool ci, .int .i64 cn, .bool false, .int .i64 0, .bool db, .int .i64 dd, .int .i64 dm, .int .i64 dy] W) (fun W => TSt wb B p4_0 p5_0 eb rb #[.func (.func 46) #[] #[.pointer (some ⟨eb, 0, none⟩), .pointer (some ⟨p4_0, 0, none⟩), .pointer (some ⟨p5_0, 0, none⟩)], .func (.func 50) #[] #[.pointer (some ⟨eb, 0, none⟩), .pointer (some ⟨p4_0, 0, none⟩)], .func (.func 51) #[] #[.pointer (some ⟨eb, 0, none⟩), .pointer (some ⟨p4_0, 0, none⟩)], .func (.func 53) #[] #[.pointer (some ⟨eb, 0, none⟩), .pointer (some ⟨p4_0, 0, none⟩)], .func (.func 54) #[] #[.pointer (some ⟨eb, 0, none⟩), .pointer (some ⟨p4_0, 0, none⟩)], .func (.func 56) #[] #[.pointer (some ⟨eb, 0, none⟩), .pointer (some ⟨p4_0, 0, none⟩)], .func (.func 57) #[] #[.pointer (some ⟨eb, 0, none⟩), .pointer (some ⟨p4_0, 0, none⟩), .pointer (some ⟨p5_0, 0, none⟩)], .func (.func 59) #[] #[.pointer (some ⟨eb, 0, none⟩), .pointer (some ⟨p4_0, 0, none⟩), .pointer (some ⟨p5_0, 0, none⟩)], .func (.func 61) #[] #[.pointer (some ⟨eb, 0, none⟩)]] (tvD (vi, vn, x5) s10).2.2 (kp (kp (kp (kp (kp (kp (kp (kp 0 k) (onE s1 ⟨#[65]⟩ ⟨#[86]⟩)) x1) x2) x3) x4) kd) (tvD (vi, vn, x5) s10).2.2) R #[.bool b, .int .i64 ho, .int .i64 mi, .int .i64 se, .int .i64 ce, .bool (decide (s1 = ⟨#[65]⟩)), .bool ai, .int .i64 an, .bool oi, .int .i64 on, .bool pi, .int .i64 pn, .bool ci, .int .i64 cn, .bool (tvD (vi, vn, x5) s10).1, .int .i64 (tvD (vi, vn, x5) s10).2.1, .bool db, .int .i64 dd, .int .i64 dm, .int .i64 dy] W) (fun W => TSt wb B p4_0 p5_0 eb rb #[.func (.func 46) #[] #[.pointer (some ⟨eb, 0, none⟩), .pointer (some ⟨p4_0, 0, none⟩), .pointer (some ⟨p5_0, 0, none⟩)], .func (.func 50) #[] #[.pointer (some ⟨eb, 0, none⟩), .pointer (some ⟨p4_0, 0, none⟩)], .func (.func 51) #[] #[.pointer (some ⟨eb, 0, none⟩), .pointer (some ⟨p4_0, 0, none⟩)], .func (.func 53) #[] #[.pointer (some ⟨eb, 0, none⟩), .pointer (some ⟨p4_0, 0, none⟩)], .func (.func 54) #[] #[.pointer (some ⟨eb, 0, none⟩), .pointer (some ⟨p4_0, 0, none⟩)], .func (.func 56) #[] #[.pointer (some ⟨eb, 0, none⟩), .pointer (some ⟨p4_0, 0, none⟩)], .func (.func 57) #[] #[.pointer (some ⟨eb, 0, none⟩), .pointer (some ⟨p4_0, 0, none⟩), .pointer (some ⟨p5_0, 0, none⟩)], .func (.func 59) #[] #[.pointer (some ⟨eb, 0, none⟩), .pointer (some ⟨p4_0, 0, none⟩), .pointer (some ⟨p5_0, 0, none⟩)], .func (.func 61) #[] #[.pointer (some ⟨eb, 0, none⟩)]] (tvD (vi, vn, x5) s10).2.2 (moL (kp (kp (kp (kp (kp (kp (kp (kp 0 k) (onE s1 ⟨#[65]⟩ ⟨#[86]⟩)) x1) x2) x3) x4) kd) (tvD (vi, vn, x5) s10).2.2) R) [] #[.bool b, .int .i64 ho, .int .i64 mi, .int .i64 se, .int .i64 ce, .bool (decide (s1 = ⟨#[65]⟩)), .bool ai, .int .i64 an, .bool oi, .int .i64 on, .bool pi, .int .i64 pn, .bool ci, .int .i64 cn, .bool (tvD (vi, vn, x5) s10).1, .int .i64 (tvD (vi, vn, x5) s10).2.1, .bool db, .int .i64 dd, .int .i64 dm, .int .i64 dy] W) rb eb p4_0 p5_0 ⟨rfl, rfl, rfl, rfl, rfl, rfl, rfl, rfl, rfl⟩ (fun W h => h.row) (fun W h => h.row) (fun W h => h.row) (fun W h => h.row) (fun W h => h.row) (fun W h => h.row) (fun W h => h.row) (fun W h => h.row) (fun W h => h.row) (fun W h => (take26_1 s0 (s1 :: s2 :: s3 :: s4 :: s5 :: s6 :: s7 :: s8 :: s9 :: s10 :: R) (by have := hR.out; simp; omega) (hs.out s0 (by simp)) hV.out h).mono (fun r W2 h2 => ⟨h2.1, h2.2⟩)) (fun W h => (take26_2 s1 (s2 :: s3 :: s4 :: s5 :: s6 :: s7 :: s8 :: s9 :: s10 :: R) (by have := hR.out; simp; omega) h).mono (fun r W2 h2 => ⟨h2.1, h2.2⟩)) (fun W h => (take26_3 s2 s3 (s4 :: s5 :: s6 :: s7 :: s8 :: s9 :: s10 :: R) h1.out (by have := hR.out; simp; omega) (szs hs.out 2 rfl) h).mono (fun r W2 h2 => ⟨h2.1, h2.2⟩)) (fun W h => (take26_4 s4 s5 (s6 :: s7 :: s8 :: s9 :: s10 :: R) h2.out (by have := hR.out; simp; omega) (szs hs.out 4 rfl) h).mono (fun r W2 h2 => ⟨h2.1, h2.2⟩)) (fun W h => (take26_5 s6 (s7 :: s8 :: s9 :: s10 :: R) h3.out (by have := hR.out; simp; omega) (szs hs.out 6 rfl) h).mono (fun r W2 h2 => ⟨h2.1, h2.2⟩)) (fun W h => (take26_6 s7 (s8 :: s9 :: s10 :: R) h4.out (by have := hR.out; simp; omega) (szs hs.out 7 rfl) h).mono (fun r W2 h2 => ⟨h2.1, h2.2⟩)) (fun W h => (take26_7 s8 (s9 :: s10 :: R) (by have := hR.out; simp; omega) (hs.out s8 (by simp)) hD.out h).mono (fun r W2 h2 => ⟨h2.1, h2.2⟩)) (fun W h => (take26_8 s9 s10 R h5.out hbv.out.1 hbv.out.2 (by have := hR.out; simp; omega) (hs.out s9 (by simp)) h).mono (fun r W2 h2 => ⟨h2.1, h2.2⟩)) (fun W h => (take26_9 R hR.out h).mono (fun r W2 h2 => ⟨h2.1, h2.2⟩))
    replace kA := hid kA
    replace hS := hid hS
    replace r_0 := hid r_0
    replace hBw := hid hBw
    subst hrb
    go_wp2_with fail
    refine (kA.out _ hS.out).mono ?_
    rintro r V2 ⟨rfl, hS2⟩
    rw [hKE.out] at hS2
    clear hS kA hmf hs hEl hV hD h1 h2 h3 h4 h5
    have cq2 := held_cell hS2.p 0 _ rfl
    have c0 := held_after hS2.bel r_0.out
    have hB2 := bthen hBw.out hS2.bel
    have hme := hS2.m
    have hey := hid hS2.eye
    clear hS2
    go_wp2_with fail
    refine (eerr_any B E [] _ hey.out).mono ?_
    rintro r V9 ⟨rfl, hv⟩
    obtain rfl : V2 = V9 := hv.symm
    by_cases hE0 : E = 0
    case pos =>
      have t0 : (E != 0) = false := by simpa using hE0
      have hres : rmR E #[.bool b, .int .i64 ho, .int .i64 mi, .int .i64 se, .int .i64 ce, .bool (decide (s1 = ⟨#[65]⟩)), .bool ai, .int .i64 an, .bool oi, .int .i64 on, .bool pi, .int .i64 pn, .bool ci, .int .i64 cn, .bool (tvD (vi, vn, x5) s10).1, .int .i64 (tvD (vi, vn, x5) s10).2.1, .bool db, .int .i64 dd, .int .i64 dm, .int .i64 dy] = .tuple #[.agg #[.bool b, .int .i64 ho, .int .i64 mi, .int .i64 se, .int .i64 ce, .bool (decide (s1 = ⟨#[65]⟩)), .bool ai, .int .i64 an, .bool oi, .int .i64 on, .bool pi, .int .i64 pn, .bool ci, .int .i64 cn, .bool (tvD (vi, vn, x5) s10).1, .int .i64 (tvD (vi, vn, x5) s10).2.1, .bool db, .int .i64 dd, .int .i64 dm, .int .i64 dy], .int .i64 0] := by unfold rmR; rw [if_pos hE0]; rw [hE0]
      replace hres := hid hres
      have ya := setRow_heap V2 p0_0 _ #[.bool b, .int .i64 ho, .int .i64 mi, .int .i64 se, .int .i64 ce, .bool (decide (s1 = ⟨#[65]⟩)), .bool ai, .int .i64 an, .bool oi, .int .i64 on, .bool pi, .int .i64 pn, .bool ci, .int .i64 cn, .bool (tvD (vi, vn, x5) s10).1, .int .i64 (tvD (vi, vn, x5) s10).2.1, .bool db, .int .i64 dd, .int .i64 dm, .int .i64 dy] 29 (0, 0) c0
      have yO : Only p0_0 V2 (V2.setRow p0_0 #[.bool b, .int .i64 ho, .int .i64 mi, .int .i64 se, .int .i64 ce, .bool (decide (s1 = ⟨#[65]⟩)), .bool ai, .int .i64 an, .bool oi, .int .i64 on, .bool pi, .int .i64 pn, .bool ci, .int .i64 cn, .bool (tvD (vi, vn, x5) s10).1, .int .i64 (tvD (vi, vn, x5) s10).2.1, .bool db, .int .i64 dd, .int .i64 dm, .int .i64 dy]) := ⟨rfl, rfl, rfl, by simp [World.setRow], fun k hk => setRow_other _ _ _ _ hk⟩
      obtain ⟨W9, hW9⟩ : ∃ X, V2.setRow p0_0 #[.bool b, .int .i64 ho, .int .i64 mi, .int .i64 se, .int .i64 ce, .bool (decide (s1 = ⟨#[65]⟩)), .bool ai, .int .i64 an, .bool oi, .int .i64 on, .bool pi, .int .i64 pn, .bool ci, .int .i64 cn, .bool (tvD (vi, vn, x5) s10).1, .int .i64 (tvD (vi, vn, x5) s10).2.1, .bool db, .int .i64 dd, .int .i64 dm, .int .i64 dy] = X := ⟨_, rfl⟩
      rw [hW9] at ya yO
      have hB9 := hid (belowS hB2 yO (by omega))
      have hld := run_loadVar_row (P := Tryz.prog) W9 p0_0 29 29 #[.bool b, .int .i64 ho, .int .i64 mi, .int .i64 se, .int .i64 ce, .bool (decide (s1 = ⟨#[65]⟩)), .bool ai, .int .i64 an, .bool oi, .int .i64 on, .bool pi, .int .i64 pn, .bool ci, .int .i64 cn, .bool (tvD (vi, vn, x5) s10).1, .int .i64 (tvD (vi, vn, x5) s10).2.1, .bool db, .int .i64 dd, .int .i64 dm, .int .i64 dy] (0, 0) _ ya Tryz.underlying29 rfl (by kernel_rfl)
      replace ya := hid ya
      clear yO
      go_wp2_with (first | (refine wpList_load_row rfl 29 (.tmp 5) rfl p4_0 rfl 29 #[.bool b, .int .i64 ho, .int .i64 mi, .int .i64 se, .int .i64 ce, .bool (decide (s1 = ⟨#[65]⟩)), .bool ai, .int .i64 an, .bool oi, .int .i64 on, .bool pi, .int .i64 pn, .bool ci, .int .i64 cn, .bool (tvD (vi, vn, x5) s10).1, .int .i64 (tvD (vi, vn, x5) s10).2.1, .bool db, .int .i64 dd, .int .i64 dm, .int .i64 dy] (0, 0) _ hme Tryz.underlying29 rfl (by kernel_rfl) ?_) | (refine wpList_store_row rfl 29 (.tmp 2) (.tmp 35) rfl p0_0 #[.bool b, .int .i64 ho, .int .i64 mi, .int .i64 se, .int .i64 ce, .bool (decide (s1 = ⟨#[65]⟩)), .bool ai, .int .i64 an, .bool oi, .int .i64 on, .bool pi, .int .i64 pn, .bool ci, .int .i64 cn, .bool (tvD (vi, vn, x5) s10).1, .int .i64 (tvD (vi, vn, x5) s10).2.1, .bool db, .int .i64 dd, .int .i64 dm, .int .i64 dy] rfl rfl 29 _ c0 (by kernel_rfl) rfl (by simp [Value.oneCell']) ?_; rw [hW9]))
      refine bodyPost_ret (v := .tuple #[.agg #[.bool b, .int .i64 ho, .int .i64 mi, .int .i64 se, .int .i64 ce, .bool (decide (s1 = ⟨#[65]⟩)), .bool ai, .int .i64 an, .bool oi, .int .i64 on, .bool pi, .int .i64 pn, .bool ci, .int .i64 cn, .bool (tvD (vi, vn, x5) s10).1, .int .i64 (tvD (vi, vn, x5) s10).2.1, .bool db, .int .i64 dd, .int .i64 dm, .int .i64 dy], .int .i64 0]) (by simp [results, Tryz.results14, asAddr, hld]) rfl ⟨by rw [hres.out], hB9.out⟩
    case neg =>
      have t0 : (E != 0) = true := by simpa using hE0
      have hres : rmR E #[.bool b, .int .i64 ho, .int .i64 mi, .int .i64 se, .int .i64 ce, .bool (decide (s1 = ⟨#[65]⟩)), .bool ai, .int .i64 an, .bool oi, .int .i64 on, .bool pi, .int .i64 pn, .bool ci, .int .i64 cn, .bool (tvD (vi, vn, x5) s10).1, .int .i64 (tvD (vi, vn, x5) s10).2.1, .bool db, .int .i64 dd, .int .i64 dm, .int .i64 dy] = .tuple #[.agg #[.bool false, .int .i64 0, .int .i64 0, .int .i64 0, .int .i64 0, .bool false, .bool false, .int .i64 0, .bool false, .int .i64 0, .bool false, .int .i64 0, .bool false, .int .i64 0, .bool false, .int .i64 0, .bool false, .int .i64 0, .int .i64 0, .int .i64 0], .int .i64 E] := by unfold rmR; rw [if_neg hE0]
      replace hres := hid hres
      have ya := setRow_heap V2 p0_0 _ #[.bool false, .int .i64 0, .int .i64 0, .int .i64 0, .int .i64 0, .bool false, .bool false, .int .i64 0, .bool false, .int .i64 0, .bool false, .int .i64 0, .bool false, .int .i64 0, .bool false, .int .i64 0, .bool false, .int .i64 0, .int .i64 0, .int .i64 0] 29 (0, 0) c0
      have yO : Only p0_0 V2 (V2.setRow p0_0 #[.bool false, .int .i64 0, .int .i64 0, .int .i64 0, .int .i64 0, .bool false, .bool false, .int .i64 0, .bool false, .int .i64 0, .bool false, .int .i64 0, .bool false, .int .i64 0, .bool false, .int .i64 0, .bool false, .int .i64 0, .int .i64 0, .int .i64 0]) := ⟨rfl, rfl, rfl, by simp [World.setRow], fun k hk => setRow_other _ _ _ _ hk⟩
      obtain ⟨W9, hW9⟩ : ∃ X, V2.setRow p0_0 #[.bool false, .int .i64 0, .int .i64 0, .int .i64 0, .int .i64 0, .bool false, .bool false, .int .i64 0, .bool false, .int .i64 0, .bool false, .int .i64 0, .bool false, .int .i64 0, .bool false, .int .i64 0, .bool false, .int .i64 0, .int .i64 0, .int .i64 0] = X := ⟨_, rfl⟩
      rw [hW9] at ya yO
      have hB9 := hid (belowS hB2 yO (by omega))
      have hld := run_loadVar_row (P := Tryz.prog) W9 p0_0 29 29 #[.bool false, .int .i64 0, .int .i64 0, .int .i64 0, .int .i64 0, .bool false, .bool false, .int .i64 0, .bool false, .int .i64 0, .bool false, .int .i64 0, .bool false, .int .i64 0, .bool false, .int .i64 0, .bool false, .int .i64 0, .int .i64 0, .int .i64 0] (0, 0) _ ya Tryz.underlying29 rfl (by kernel_rfl)
      replace ya := hid ya
      clear yO
      go_wp2_with fail
      refine (eerr_any B E [] _ hey.out).mono ?_
      rintro r V9 ⟨rfl, hv⟩
      obtain rfl : V2 = V9 := hv.symm
      go_wp2_with (first | (refine wpList_store_row rfl 29 (.tmp 2) (.tmp 32) rfl p0_0 #[.bool false, .int .i64 0, .int .i64 0, .int .i64 0, .int .i64 0, .bool false, .bool false, .int .i64 0, .bool false, .int .i64 0, .bool false, .int .i64 0, .bool false, .int .i64 0, .bool false, .int .i64 0, .bool false, .int .i64 0, .int .i64 0, .int .i64 0] rfl rfl 29 _ c0 (by kernel_rfl) rfl (by simp [Value.oneCell']) ?_; rw [hW9]))
      refine bodyPost_ret (v := .tuple #[.agg #[.bool false, .int .i64 0, .int .i64 0, .int .i64 0, .int .i64 0, .bool false, .bool false, .int .i64 0, .bool false, .int .i64 0, .bool false, .int .i64 0, .bool false, .int .i64 0, .bool false, .int .i64 0, .bool false, .int .i64 0, .int .i64 0, .int .i64 0], .int .i64 E]) (by simp [results, Tryz.results14, asAddr, hld]) rfl ⟨by rw [hres.out], hB9.out⟩

end Go.Proofs.YthnoomdhgbaecaaGreatDoor
