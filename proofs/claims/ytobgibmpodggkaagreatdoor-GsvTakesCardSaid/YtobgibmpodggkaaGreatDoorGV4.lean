/- Several texts in one: GsvB, Gsv3. -/
import Derived.Test.YtobgibmpodggkaaGreatDoorGV2
import Derived.Test.YtobgibmpodggkaaGreatDoorDecB
import Derived.Deep.DeepCutAuto
import Derived.Test.YtobgibmpodggkaaGreatDoorGV1
import Derived.Test.YtobgibmpodggkaaGreatDoorGS
import Derived.Laws.Tables

/- Stage 29: what is put is taken, what is taken is put. -/
namespace Go.Proofs.YtobgibmpodggkaaGreatDoor
open Go.ChangeShapes Go.WideShapes Go.ChangeAt Go.RowKit
set_option linter.unusedVariables false
set_option linter.unusedSimpArgs false

theorem gE9_all {l : List (List ByteArray × Int)} : ∀ {e : Int}, gE9 e l = 0 → e = 0 ∧ ∀ x ∈ l, x.2 = 0 := by
  induction l with
  | nil => intro e h; exact ⟨h, fun x hx => by cases hx⟩
  | cons y l ih =>
    intro e h
    obtain ⟨h1, h2⟩ := ih (show gE9 (kp e y.2) l = 0 from h)
    obtain ⟨h3, h4⟩ := kp_ok h1
    refine ⟨h3, fun x hx => ?_⟩
    rcases List.mem_cons.1 hx with rfl | hx
    · exact h4
    · exact h2 x hx
theorem gE9_of {l : List (List ByteArray × Int)} (h : ∀ x ∈ l, x.2 = 0) : gE9 0 l = 0 := by
  induction l with
  | nil => rfl
  | cons x l ih =>
    show gE9 (kp 0 x.2) l = 0
    rw [h x (List.mem_cons_self ..)]
    exact ih fun y hy => h y (List.mem_cons_of_mem _ hy)
theorem put_all29 {is : Bool} {n W M F lo hi : Int} (h : (putD is n W M F lo hi).2 = 0) : takD (nb (putD is n W M F lo hi).1) W M F lo hi = (is, n, 0) ∧ (nb (putD is n W M F lo hi).1).size ≤ 1000 := put_all (L := (putD is n W M F lo hi).1) (e := (putD is n W M F lo hi).2) rfl h
theorem dg_back29 {n hi : Int} (hh : hi ≤ 9) (h : (dgV n hi).2 = 0) : fxV (nb (dgV n hi).1) hi = (n, 0) ∧ (nb (dgV n hi).1).size ≤ 1000 ∧ 1 ≤ n ∧ n ≤ hi := by
  rw [dgV_P hh] at h ⊢
  unfold dgP at h ⊢
  split at h
  · simp at h
  · rename_i h1
    rw [if_neg h1]
    dsimp only
    have hs : sb (nb [48 + n.toNat]) = [48 + n.toNat] := sb_nb (by intro c hc; simp at hc; omega)
    have hz : (nb [48 + n.toNat]).size = 1 := by rw [nb_size]; rfl
    refine ⟨?_, by omega, by omega, by omega⟩
    have hd : dgS (nb [48 + n.toNat]) 1 hi = (n, 0) := by
      unfold dgS
      rw [hs, hz]
      have e : ([48 + n.toNat] : List Nat).getD 0 0 = 48 + n.toNat := rfl
      rw [e, if_pos (by omega), if_neg (by omega)]
      have : ((48 + n.toNat : Nat) : Int) - 48 = n := by omega
      rw [this]
    unfold fxV
    rw [hd]
    rfl
theorem dg_forth29 {s : ByteArray} {hi : Int} (hh : hi ≤ 9) (h : (fxV s hi).2 = 0) : (dgV (fxV s hi).1 hi).2 = 0 ∧ (nb (dgV (fxV s hi).1 hi).1).size ≤ s.size ∧ (fxV s hi).1 ≤ 9 := by
  have h0 : (dgS s 1 hi).2 = 0 := by
    unfold fxV at h
    split at h
    · rename_i h1; exact h1
    · exact h
  have h1 : fxV s hi = dgS s 1 hi := by unfold fxV; rw [if_pos h0]
  rw [h1, dgV_P hh]
  unfold dgS at h0 ⊢
  split at h0
  · rename_i h2
    rw [if_pos h2]
    dsimp only at h0 ⊢
    split at h0
    · cases h0
    · rename_i h3
      unfold dgP
      rw [if_neg h3]
      refine ⟨rfl, ?_, by omega⟩
      rw [nb_size]
      show 1 ≤ s.size
      omega
  · cases h0
theorem nm_put29 {is : Bool} {n W M F lo hi : Int} {T : List ByteArray} (h : (putD is n W M F lo hi).2 = 0) : nmS 0 (nb (putD is n W M F lo hi).1 :: T) W M F lo hi = ((is, n), 0, T) := by
  unfold nmS
  rw [show txS 0 (nb (putD is n W M F lo hi).1 :: T) = (nb (putD is n W M F lo hi).1, 0, T) from rfl]
  dsimp only
  rw [(put_all29 h).1]
  rfl
theorem vw1_put {v : V4} {T : List ByteArray} (h : ∀ x ∈ vwI v, x.2 = 0) : vw1 0 (fL (vwI v) ++ T) = (v, 0, T) := by
  obtain ⟨⟨i0, m0⟩, ⟨i1, m1⟩, ⟨i2, m2⟩, i3, m3⟩ := v
  have h0 : (putD i0 m0 1 3 0 1 255).2 = 0 := h (nuT (i0, m0) 1 3 0 1 255) (by simp [vwI])
  have h1 : (putD i1 m1 1 2 0 0 90).2 = 0 := h (nuT (i1, m1) 1 2 0 0 90) (by simp [vwI])
  have h2 : (putD i2 m2 1 3 0 0 359).2 = 0 := h (nuT (i2, m2) 1 3 0 0 359) (by simp [vwI])
  have h3 : (putD i3 m3 1 2 0 0 99).2 = 0 := h (nuT (i3, m3) 1 2 0 0 99) (by simp [vwI])
  show vw1 0 (nb (putD i0 m0 1 3 0 1 255).1 :: nb (putD i1 m1 1 2 0 0 90).1 :: nb (putD i2 m2 1 3 0 0 359).1 :: nb (putD i3 m3 1 2 0 0 99).1 :: T) = _
  unfold vw1
  rw [nm_put29 h0]
  dsimp only
  rw [nm_put29 h1]
  dsimp only
  rw [nm_put29 h2]
  dsimp only
  rw [nm_put29 h3]
theorem vwS_put (vs : List V4) (h : ∀ x ∈ vs.flatMap vwI, x.2 = 0) : ∀ (k : Nat), k ≤ vs.length → ∀ T, vwS 0 (fL ((vs.take k).flatMap vwI) ++ T) k = (vs.take k, 0, T)
  | 0, _, T => by simp [vwS, fL]
  | k + 1, hk, T => by
    obtain ⟨v, hv⟩ : ∃ v, vs[k]? = some v := ⟨_, List.getElem?_eq_getElem (by omega)⟩
    have ht : vs.take (k + 1) = vs.take k ++ [v] := by rw [List.take_add_one, hv]; rfl
    have ih := vwS_put vs h k (by omega) (fL (vwI v) ++ T)
    have h1 := vw1_put (v := v) (T := T) (fun x hx => h x (List.mem_flatMap.2 ⟨v, List.mem_of_getElem? hv, hx⟩))
    rw [ht, List.flatMap_append, fL9_app, List.append_assoc, show ([v] : List V4).flatMap vwI = vwI v from by simp]
    unfold vwS
    rw [ih]
    dsimp only
    rw [h1]
theorem vws_sz {vs : List V4} (h : ∀ x ∈ vs.flatMap vwI, x.2 = 0) : ∀ s ∈ fL (vs.flatMap vwI), s.size ≤ 1000 := by
  intro s hs
  obtain ⟨x, hx, hsx⟩ := List.mem_flatMap.1 (show s ∈ (vs.flatMap vwI).flatMap (·.1) from hs)
  have h0 := h x hx
  obtain ⟨v, -, hxv⟩ := List.mem_flatMap.1 hx
  simp only [vwI, List.mem_cons, List.not_mem_nil, or_false] at hxv
  rcases hxv with rfl | rfl | rfl | rfl <;> (obtain rfl := List.mem_singleton.1 hsx; exact (put_all29 h0).2)
/-- What is put is taken as it was. -/
theorem gback1 (tt no sn : Int) (vs : List V4) (h0 : gvE tt no sn vs = 0) : vs.length ≤ 4 ∧ ∃ s0 s1 s2 R, fL (gvI tt no sn vs) = s0 :: s1 :: s2 :: R ∧ R.length = 4 * vs.length ∧ (∀ s ∈ s0 :: s1 :: s2 :: R, s.size ≤ 1000) ∧ gvR s0 s1 s2 R vs.length = ⟨tt, no, sn, vs, 0⟩ := by
  unfold gvE at h0
  split at h0
  · exact absurd h0 (by decide)
  rename_i hz
  obtain ⟨-, hN⟩ := gE9_all h0
  have hA : ∀ x ∈ hdI tt no sn, x.2 = 0 := fun x hx => hN x (by unfold gvI; exact List.mem_append_left _ hx)
  have hP : ∀ x ∈ vs.flatMap vwI, x.2 = 0 := fun x hx => hN x (by unfold gvI; exact List.mem_append_right _ hx)
  have a0 : (dgV tt 9).2 = 0 := hA ([nb (dgV tt 9).1], (dgV tt 9).2) (by simp [hdI])
  have a1 : (dgV no tt).2 = 0 := hA ([nb (dgV no tt).1], (dgV no tt).2) (by simp [hdI])
  have a2 : (putD true sn 1 2 0 0 99).2 = 0 := hA (nuT (true, sn) 1 2 0 0 99) (by simp [hdI])
  obtain ⟨f1, f2, f3, f4⟩ := dg_back29 (Int.le_refl 9) a0
  obtain ⟨g1, g2, g3, g4⟩ := dg_back29 f4 a1
  have p1 := nm_put29 (T := fL (vs.flatMap vwI)) a2
  refine ⟨by omega, nb (dgV tt 9).1, nb (dgV no tt).1, nb (putD true sn 1 2 0 0 99).1, fL (vs.flatMap vwI), ?_, vw_len vs, ?_, ?_⟩
  · unfold gvI
    rw [fL9_app]
    rfl
  · intro s hs
    simp only [List.mem_cons] at hs
    rcases hs with rfl | rfl | rfl | hs
    · exact f2
    · exact g2
    · exact (put_all29 a2).2
    · exact vws_sz hP s hs
  · have hI := vwS_put vs hP vs.length (Nat.le_refl _) []
    rw [List.take_of_length_le (Nat.le_refl _), List.append_nil] at hI
    unfold gvR
    rw [f1]
    dsimp only
    rw [g1, show kp (kp 0 0) 0 = 0 from rfl]
    dsimp only
    rw [p1]
    dsimp only
    rw [if_pos rfl, hI]
/-- Texts that are not longer, one by one. -/
inductive LeL : List ByteArray → List ByteArray → Prop
  | nil : LeL [] []
  | cons {s t : ByteArray} {a b : List ByteArray} (h : s.size ≤ t.size) (h2 : LeL a b) : LeL (s :: a) (t :: b)
theorem LeL.app {a b c d : List ByteArray} (h : LeL a b) (h2 : LeL c d) : LeL (a ++ c) (b ++ d) := by
  induction h with
  | nil => exact h2
  | cons h _ ih => exact .cons h ih
theorem LeL.at {a b : List ByteArray} (h : LeL a b) : ∀ {i : Nat} {s t : ByteArray}, a[i]? = some s → b[i]? = some t → s.size ≤ t.size := by
  induction h with
  | nil => intro i s t h1; simp at h1
  | cons h _ ih =>
    intro i s t h1 h2
    cases i with
    | zero => simp at h1 h2; subst h1 h2; exact h
    | succ i => simp at h1 h2; exact ih h1 h2
theorem LeL.len {a b : List ByteArray} (h : LeL a b) : a.length = b.length := by
  induction h with
  | nil => rfl
  | cons h _ ih => rw [List.length_cons, List.length_cons, ih]
theorem nm_ok29 {e M F lo hi : Int} {L : List ByteArray} (hlb : (-9223372036854775808 ≤ lo ∧ lo ≤ 9223372036854775807) ∧ (-9223372036854775808 ≤ hi ∧ hi ≤ 9223372036854775807)) (h : (nmS e L 1 M F lo hi).2.1 = 0) :
    e = 0 ∧ ∃ s, L = s :: (nmS e L 1 M F lo hi).2.2 ∧ (putD (nmS e L 1 M F lo hi).1.1 (nmS e L 1 M F lo hi).1.2 1 M F lo hi).2 = 0 ∧ (-9223372036854775808 ≤ (nmS e L 1 M F lo hi).1.2 ∧ (nmS e L 1 M F lo hi).1.2 ≤ 9223372036854775807) ∧ (nb (putD (nmS e L 1 M F lo hi).1.1 (nmS e L 1 M F lo hi).1.2 1 M F lo hi).1).size ≤ s.size := by
  obtain ⟨h1, h2⟩ := kp_ok (show kp (txS e L).2.1 (takD (txS e L).1 1 M F lo hi).2.2 = 0 from h)
  match L, h1, h2 with
  | [], h1, _ => exact absurd (kp_ok (show kp e 3 = 0 from h1)).2 (by decide)
  | s :: r, h1, h2 =>
    have h3 : takD s 1 M F lo hi = ((nmS e (s :: r) 1 M F lo hi).1.1, (nmS e (s :: r) 1 M F lo hi).1.2, 0) := Prod.ext rfl (Prod.ext rfl h2)
    obtain ⟨P, p1, p2, p3⟩ := tak_all h3 rfl hlb
    exact ⟨h1, s, rfl, by rw [p1], p2, by rw [p1]; exact p3 rfl⟩
theorem vw1_back {e : Int} {L : List ByteArray} (h : (vw1 e L).2.1 = 0) : e = 0 ∧ (∀ x ∈ vwI (vw1 e L).1, x.2 = 0) ∧ okV (vw1 e L).1 ∧ ∃ T, L = T ++ (vw1 e L).2.2 ∧ T.length = 4 ∧ LeL (fL (vwI (vw1 e L).1)) T := by
  unfold vw1 at h ⊢
  dsimp only at h ⊢
  obtain ⟨h3, s3, d1, d2, d3, d4⟩ := nm_ok29 (by decide) h
  obtain ⟨h2, s2, c1, c2, c3, c4⟩ := nm_ok29 (by decide) h3
  obtain ⟨h1, s1, b1, b2, b3, b4⟩ := nm_ok29 (by decide) h2
  obtain ⟨h0, s0, a1, a2, a3, a4⟩ := nm_ok29 (by decide) h1
  refine ⟨h0, ?_, ⟨a3, b3, c3, d3⟩, [s0, s1, s2, s3], ?_, rfl, ?_⟩
  · intro x hx
    simp only [vwI, List.mem_cons, List.not_mem_nil, or_false] at hx
    rcases hx with rfl | rfl | rfl | rfl
    · exact a2
    · exact b2
    · exact c2
    · exact d2
  · rw [List.cons_append, List.cons_append, List.cons_append, List.cons_append, List.nil_append, ← d1, ← c1, ← b1]
    exact a1
  · exact .cons a4 (.cons b4 (.cons c4 (.cons d4 .nil)))
theorem vwS_back {e : Int} {L : List ByteArray} : ∀ k, (vwS e L k).2.1 = 0 → e = 0 ∧ (∀ x ∈ (vwS e L k).1.flatMap vwI, x.2 = 0) ∧ (∀ v ∈ (vwS e L k).1, okV v) ∧ ∃ T, L = T ++ (vwS e L k).2.2 ∧ T.length = 4 * k ∧ LeL (fL ((vwS e L k).1.flatMap vwI)) T
  | 0, h => ⟨h, (fun x hx => by cases hx), (fun v hv => by cases hv), [], rfl, rfl, .nil⟩
  | k + 1, h => by
    obtain ⟨h1, b2, b3, T2, b4, b5, b6⟩ := vw1_back (show (vw1 (vwS e L k).2.1 (vwS e L k).2.2).2.1 = 0 from h)
    obtain ⟨g1, g2, g3, T, g4, g5, g6⟩ := vwS_back k h1
    unfold vwS
    dsimp only
    generalize vw1 (vwS e L k).2.1 (vwS e L k).2.2 = Z at *
    generalize vwS e L k = Y at *
    refine ⟨g1, ?_, ?_, T ++ T2, ?_, ?_, ?_⟩
    · intro x hx
      rw [List.flatMap_append] at hx
      rcases List.mem_append.1 hx with hx | hx
      · exact g2 x hx
      · exact b2 x (by simpa using hx)
    · intro v hv
      rcases List.mem_append.1 hv with hv | hv
      · exact g3 v hv
      · obtain rfl := List.mem_singleton.1 hv
        exact b3
    · rw [List.append_assoc, ← b4]; exact g4
    · rw [List.length_append, g5, b5]; omega
    · rw [List.flatMap_append, fL9_app]
      refine g6.app ?_
      simpa using b6
/-- What is taken is put as that, and is not longer. -/
theorem gback2 (s0 s1 s2 : ByteArray) (R : List ByteArray) (k : Nat) (hk : k ≤ 4) (hR : R.length = 4 * k) (g : GvR) (hg : gvR s0 s1 s2 R k = g) (h0 : g.e = 0) : gvE g.tt g.no g.sn g.vs = 0 ∧ (-9223372036854775808 ≤ g.sn ∧ g.sn ≤ 9223372036854775807) ∧ (∀ v ∈ g.vs, okV v) ∧ g.vs.length = k ∧ LeL (fL (gvI g.tt g.no g.sn g.vs)) (s0 :: s1 :: s2 :: R) := by
  obtain ⟨E4, hE4⟩ : ∃ x, (if (nmS (kp (kp 0 (fxV s0 9).2) (fxV s1 (fxV s0 9).1).2) (s2 :: R) 1 2 0 0 99).1.1 = true then (nmS (kp (kp 0 (fxV s0 9).2) (fxV s1 (fxV s0 9).1).2) (s2 :: R) 1 2 0 0 99).2.1 else kp (nmS (kp (kp 0 (fxV s0 9).2) (fxV s1 (fxV s0 9).1).2) (s2 :: R) 1 2 0 0 99).2.1 3) = x := ⟨_, rfl⟩
  have hg2 : gvR s0 s1 s2 R k = ⟨(fxV s0 9).1, (fxV s1 (fxV s0 9).1).1, (nmS (kp (kp 0 (fxV s0 9).2) (fxV s1 (fxV s0 9).1).2) (s2 :: R) 1 2 0 0 99).1.2, (vwS E4 R k).1, (vwS E4 R k).2.1⟩ := by unfold gvR; dsimp only; rw [hE4]
  rw [hg2] at hg
  subst hg
  dsimp only at h0 ⊢
  obtain ⟨hE0, v1, v2, T, v3, v4, v5⟩ := vwS_back k h0
  rw [hE0] at hE4
  have hT : T = R := by
    have h1 := congrArg List.length v3
    rw [List.length_append, v4, hR] at h1
    have h2 : (vwS E4 R k).2.2 = [] := List.eq_nil_of_length_eq_zero (by omega)
    rw [h2, List.append_nil] at v3
    exact v3.symm
  subst hT
  have hvl := vwS_len E4 T k
  generalize vwS E4 T k = Y at *
  have hs : (nmS (kp (kp 0 (fxV s0 9).2) (fxV s1 (fxV s0 9).1).2) (s2 :: T) 1 2 0 0 99).1.1 = true ∧ (nmS (kp (kp 0 (fxV s0 9).2) (fxV s1 (fxV s0 9).1).2) (s2 :: T) 1 2 0 0 99).2.1 = 0 := by
    split at hE4
    · rename_i h1; exact ⟨h1, hE4⟩
    · exact absurd (kp_ok hE4).2 (by decide)
  obtain ⟨n1, s, n2, n3, n4, n5⟩ := nm_ok29 (by decide) hs.2
  rw [hs.1] at n3 n5
  obtain ⟨q1, q2⟩ := kp_ok n1
  obtain ⟨-, q3⟩ := kp_ok q1
  obtain ⟨f1, f2, f3⟩ := dg_forth29 (Int.le_refl 9) q3
  obtain ⟨g1, g2, -⟩ := dg_forth29 f3 q2
  have hs2 : s = s2 := (List.cons.inj n2).1.symm
  subst hs2
  generalize (nmS (kp (kp 0 (fxV s0 9).2) (fxV s1 (fxV s0 9).1).2) (s :: T) 1 2 0 0 99).1.2 = sn at *
  generalize (fxV s1 (fxV s0 9).1).1 = no at *
  generalize (fxV s0 9).1 = tt at *
  refine ⟨?_, n4, v2, hvl, ?_⟩
  · unfold gvE
    rw [if_neg (by omega)]
    refine gE9_of fun x hx => ?_
    unfold gvI at hx
    rcases List.mem_append.1 hx with hx | hx
    · simp only [hdI, List.mem_cons, List.not_mem_nil, or_false] at hx
      rcases hx with rfl | rfl | rfl
      · exact f1
      · exact g1
      · exact n3
    · exact v1 x hx
  · unfold gvI
    rw [fL9_app]
    exact .cons f2 (.cons g2 (.cons n5 v5))

end Go.Proofs.YtobgibmpodggkaaGreatDoor

/- Package gsv: what is put, the papers'. -/
namespace Go.Proofs.YtobgibmpodggkaaGreatDoor
open Go.ChangeShapes Go.WideShapes Go.ChangeAt Go.RowKit
set_option linter.unusedVariables false
set_option linter.unusedSimpArgs false

/-- A papers' row that is written, the message and the columns beside it. -/
structure RGv (W0 : World) (B mb pc : Nat) (M C : Array Value) (e : Int) (L : List ByteArray) (W : World) : Prop where
  pen : RowW W W0.heap.size B e L
  m : W.heap[mb]? = some (.cells M 27 (0, 0))
  c : W.heap[pc]? = some (.cells C 49 (0, 0))
  bel : After W0 W
  nm : mb ≠ B
  nc : pc ≠ B
  hb : W0.heap.size ≤ B
theorem RGv.eff {W0 : World} {B mb pc : Nat} {M C : Array Value} {e e' : Int} {L L' : List ByteArray} {W W' : World} (h : RGv W0 B mb pc M C e L W) (hP : RowW W' W0.heap.size B e' L') (hK : PEff W0.heap.size B 0 W W') : RGv W0 B mb pc M C e' L' W' :=
  ⟨hP, h.pen.besides hK h.m h.nm (by decide), h.pen.besides hK h.c h.nc (by decide), (show Below W0.heap.size W0 W from h.bel).trans hK.below, h.nm, h.nc, h.hb⟩
theorem RGv.below {W0 : World} {B mb pc : Nat} {M C : Array Value} {e : Int} {L : List ByteArray} {W W' : World} (h : RGv W0 B mb pc M C e L W) (hA : After W W') : RGv W0 B mb pc M C e L W' :=
  ⟨h.pen.aft hA, held_after hA h.m, held_after hA h.c, bthen h.bel hA, h.nm, h.nc, h.hb⟩
theorem els8_at {w : World} {b off len cap i : Nat} {xs : List (List Value)} {v0 v1 v2 v3 v4 v5 v6 v7 : Value} (h : Els w 8 (some ⟨b, off, none⟩) len cap xs) (hx : xs[i]? = some [v0, v1, v2, v3, v4, v5, v6, v7]) : w.cell? ⟨b, off + i * 8, none⟩ = some v0 ∧ w.cell? ⟨b, off + i * 8 + 1, none⟩ = some v1 ∧ w.cell? ⟨b, off + i * 8 + 2, none⟩ = some v2 ∧ w.cell? ⟨b, off + i * 8 + 3, none⟩ = some v3 ∧ w.cell? ⟨b, off + i * 8 + 4, none⟩ = some v4 ∧ w.cell? ⟨b, off + i * 8 + 5, none⟩ = some v5 ∧ w.cell? ⟨b, off + i * 8 + 6, none⟩ = some v6 ∧ w.cell? ⟨b, off + i * 8 + 7, none⟩ = some v7 := by
  obtain ⟨b2, off2, e, hr⟩ := h.at8 hx
  cases e
  exact hr
theorem dg_two (tt no : Int) : kp (kp 0 (dgV tt 9).2) (dgP no 1 (max (min tt 9) 0)).2 = kp (kp 0 (dgV tt 9).2) (dgV no tt).2 ∧ (kp (kp 0 (dgV tt 9).2) (dgV no tt).2 = 0 → dgP no 1 (max (min tt 9) 0) = dgV no tt) := by
  by_cases c : tt < 1 ∨ 9 < tt
  · have h : (dgV tt 9).2 = 5 := by unfold dgV; rw [if_pos c]
    rw [h]
    exact ⟨rfl, fun h0 => absurd (show (5 : Int) = 0 from h0) (by decide)⟩
  · have h : max (min tt 9) 0 = tt := by omega
    rw [h, dgV_P (show tt ≤ 9 by omega)]
    exact ⟨rfl, fun _ => rfl⟩
theorem gE9_zero {l : List (List ByteArray × Int)} : ∀ {e : Int}, gE9 e l = 0 → e = 0 := by
  induction l with
  | nil => intro e h; exact h
  | cons y l ih => intro e h; exact (kp_ok (ih (e := kp e y.2) h)).1
set_option maxRecDepth 100000 in
set_option maxHeartbeats 8000000 in
theorem rcols29_any (w : World) : Calls Tryz.prog 24 #[] w fun r w' => ∃ C, r = .returned (.slice (some ⟨C, 0, none⟩) 5 5) ∧ w'.heap[C]? = some (.cells #[.int .i64 1, .int .i64 2, .int .i64 0, .int .i64 0, .int .i64 99, .int .i64 1, .int .i64 3, .int .i64 0, .int .i64 1, .int .i64 255, .int .i64 1, .int .i64 2, .int .i64 0, .int .i64 0, .int .i64 90, .int .i64 1, .int .i64 3, .int .i64 0, .int .i64 0, .int .i64 359, .int .i64 1, .int .i64 2, .int .i64 0, .int .i64 0, .int .i64 99] 49 (0, 0)) ∧ After w w' ∧ w.heap.size ≤ C := by
  go_enter Tryz.func24, Tryz.ntmps24
  go_upto_region 0 with (fail)
  go_upto_region 1 with (fail)
  apply wp_region_seg0 (w := w) (S := [.q [], .q [], .q [], .q [], .q [], .al 1000, .q [5]]) (E := [.q0 _, .q0 _, .q0 _, .q0 _, .q0 _, .al ((fun p => .slice (some ⟨p, 0, none⟩) 5 5), _) 1000, .q1 5 (fun p => .slice (some ⟨p, 0, none⟩) 5 5)]) rfl (by kernel_rfl) rfl rfl
  intro th hge hne
  iterate 5 refine Seg.sq ?_
  refine Seg.step _ rfl ⟨by rfl, fun U hU => ?_⟩ ?_
  · go_simp; exact vp_alloc rfl rfl rfl
  refine Seg.sa ?_
  refine Seg.sq ?_
  refine Seg.stop (fun U1 hU hk => ?_)
  have nb5 := hge 5 _ _ rfl
  have rb5 := (hk 5 _ _ rfl trivial).1.2 (by simp)
  clear hk hge hne
  generalize th (0 + 5) = p1_5 at *
  dsimp only at rb5
  have r_p1_5 := rb5
  clear rb5
  have n_p1_5 := nb5
  clear nb5
  have sz1 := hU.size
  have hB : Below w.heap.size w U1 := hU
  clear hU
  replace r_p1_5 := hid r_p1_5
  go_wp2_with fail
  go_ret
  exact ⟨_, rfl, r_p1_5.out, hB, n_p1_5⟩
end Go.Proofs.YtobgibmpodggkaaGreatDoor
