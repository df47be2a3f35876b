/- What the loop of DecimRows keeps. -/
import Derived.Test.YtelffhelelbfiaaGreatDoorRowF
import Derived.Test.YtelffhelelbfiaaGreatDoorLaw23
import Derived.Deep.DeepCutAuto
namespace Go.Proofs.YtelffhelelbfiaaGreatDoor
open Go.ChangeShapes Go.WideShapes Go.ChangeAt Go.RowKit
set_option linter.unusedVariables false
set_option linter.unusedSimpArgs false

theorem num23b_any (n : Int) (w : World) : Calls Tryz.prog 23 #[.int .i64 n] w fun e w' => e = .returned (.int .i64 n) ∧ w' = w := by
  go_enter Tryz.func23, Tryz.ntmps23
  go_wp2_with fail
  go_ret
  exact ⟨rfl, rfl⟩
theorem PenN.besides {N : Nat} {w w2 : World} {base B D : Nat} {e : Int} {L : List ByteArray} {c : Array Value} {T : TypeId} (h : PenN N w base B e L) (hK : PEff base B 2 w w2) (hD : w.heap[D]? = some (.cells c T (0, 0))) (hne : D ≠ B) (hT : T ≠ 9) : w2.heap[D]? = some (.cells c T (0, 0)) := by
  obtain ⟨a, cap, h1, h2⟩ := h
  rw [hK.owp.block D (held_lt hD) hne (by rw [wown_at h1 (j := 2) rfl]; exact fun e => h2.ne hD hT e.symm)]
  exact hD
theorem RowWN.besides {N : Nat} {w w2 : World} {base B D : Nat} {e : Int} {L : List ByteArray} {c : Array Value} {T : TypeId} (h : RowWN N w base B e L) (hK : PEff base B 0 w w2) (hD : w.heap[D]? = some (.cells c T (0, 0))) (hne : D ≠ B) (hT : T ≠ 9) : w2.heap[D]? = some (.cells c T (0, 0)) := by
  obtain ⟨a, cap, h1, h2⟩ := h
  rw [hK.owp.block D (held_lt hD) hne (by rw [wown_at h1 (j := 0) rfl]; exact fun e => h2.ne hD hT e.symm)]
  exact hD
theorem strV23_at {F : List ByteArray} {k : Nat} {f : ByteArray} (h : F[k]? = some f) : (strV23 F)[k]? = some [.string f] := by
  unfold strV23; rw [List.getElem?_map, h]; rfl
theorem strV23_of (l : List (List Value)) : (∀ x ∈ l, ∃ c : ByteArray, x = [.string c]) → ∃ F, l = strV23 F := by
  induction l with
  | nil => exact fun _ => ⟨[], rfl⟩
  | cons x l ih =>
    intro h
    obtain ⟨F, rfl⟩ := ih (fun y hy => h y (List.mem_cons_of_mem _ hy))
    obtain ⟨c, rfl⟩ := h x (by simp)
    exact ⟨c :: F, rfl⟩
theorem nmS_left {e : Int} {L : List ByteArray} {W M F lo hi : Int} (h : ∀ s ∈ L, s.size ≤ 1000) : (∀ s ∈ (nmS e L W M F lo hi).2.2, s.size ≤ 1000) ∧ (nmS e L W M F lo hi).2.2.length ≤ L.length := by
  have := txS_size (e := e) h
  exact ⟨this.2.1, this.2.2⟩
theorem agS_left {e : Int} {L : List ByteArray} {lat : Bool} (h : ∀ s ∈ L, s.size ≤ 1000) : (∀ s ∈ (agS e L lat).2.2, s.size ≤ 1000) ∧ (agS e L lat).2.2.length ≤ L.length := by
  have h1 := txS_size (e := e) h
  have h2 := txS_size (e := (txS e L).2.1) h1.2.1
  exact ⟨h2.2.1, Nat.le_trans h2.2.2 h1.2.2⟩
/-- As Four, the eye and the papers' row that reads not yet the same: between two reads. -/
structure Pc (M Bp Br Bq Bs N : Nat) (w : World) (e : Int) (LP : List ByteArray) (er : Int) (LR : List ByteArray) (er2 : Int) (LR2 : List ByteArray) : Prop where
  hp : PenN N w M Bp e LP
  hq : RowWN N w M Bq e LP
  hr : EyeN Br w Br er LR
  hs : RowRN M w Bs er2 LR2
  apart : ∀ g, wown Bp 2 w = some g → wown Bq 0 w ≠ some g
  hn : N ≤ w.heap.size
theorem PenN.ownT {N M B : Nat} {w : World} {e : Int} {L : List ByteArray} (h : PenN N w M B e L) : ∀ g, wown B 2 w = some g → ∃ cur, w.heap[g]? = some (.cells cur 9 (0, 0)) := by
  obtain ⟨a, cap, h1, h2⟩ := h
  intro g hg
  rw [wown_at h1 (j := 2) rfl] at hg
  exact (h2.lt g hg).2.2
theorem RowWN.ownT {N M B : Nat} {w : World} {e : Int} {L : List ByteArray} (h : RowWN N w M B e L) : ∀ g, wown B 0 w = some g → ∃ cur, w.heap[g]? = some (.cells cur 9 (0, 0)) := by
  obtain ⟨a, cap, h1, h2⟩ := h
  intro g hg
  rw [wown_at h1 (j := 0) rfl] at hg
  exact (h2.lt g hg).2.2
section
variable {M Bp Br Bq Bs N p : Nat} {w w2 : World} {e er er2 er3 : Int} {LP LR LR2 LR3 : List ByteArray}
theorem Four.pc (h : Four M Bp Br Bq Bs N w e LP er LR) : Pc M Bp Br Bq Bs N w e LP er LR er LR := ⟨h.hp, h.hq, h.hr, h.hs, h.apart, h.hn⟩
theorem Pc.four (h : Pc M Bp Br Bq Bs N w e LP er LR er LR) : Four M Bp Br Bq Bs N w e LP er LR := ⟨h.hp, h.hq, h.hr, h.hs, h.apart, h.hn⟩
theorem Pc.aft (h : Pc M Bp Br Bq Bs N w e LP er LR er2 LR2) (hA : After w w2) : Pc M Bp Br Bq Bs N w2 e LP er LR er2 LR2 :=
  ⟨h.hp.aft hA, h.hq.aft hA, h.hr.aft hA, h.hs.aft hA, by rw [wown_same (hA.block Bp h.hp.lt), wown_same (hA.block Bq h.hq.lt)]; exact h.apart, Nat.le_trans h.hn hA.size⟩
theorem Pc.only (h : Pc M Bp Br Bq Bs N w e LP er LR er2 LR2) {c : Array Value} {T : TypeId} (k : Only p w w2) (hp : w.heap[p]? = some (.cells c T (0, 0))) (hT : T ≠ 9) (hns : ∀ (j : Nat) (s : ByteArray), c[j]? ≠ some (.string s)) (h1 : p ≠ Bp) (h2 : p ≠ Br) (h3 : p ≠ Bq) (h4 : p ≠ Bs) (hN : Br ≤ N ∧ M ≤ N) : Pc M Bp Br Bq Bs N w2 e LP er LR er2 LR2 := by
  have hne : ∀ g, (∃ cur, w.heap[g]? = some (.cells cur 9 (0, 0))) → g ≠ p := by
    rintro g ⟨cur, hg⟩ e
    subst e
    rw [hp] at hg
    cases hg
    exact hT rfl
  obtain ⟨q1, q2⟩ := h.hp.stay (k.block Bp h1.symm) (fun g hg => k.block g (hne g (h.hp.ownT g hg)))
  obtain ⟨q3, q4⟩ := h.hq.stay (k.block Bq h3.symm) (fun g hg => k.block g (hne g (h.hq.ownT g hg)))
  exact ⟨q1, q3, h.hr.stay (k.block Br h2.symm) (N := N) hN.1 hp hns (fun b _ hb _ => k.block b hb), h.hs.stay (k.block Bs h4.symm) (N := N) hN.2 hp hns (fun b _ hb _ => k.block b hb), by rw [q2, q4]; exact h.apart, by rw [k.size]; exact h.hn⟩
theorem Pc.eye (P : Plc M Bp Br Bq Bs N) (h : Pc M Bp Br Bq Bs N w e LP er LR er2 LR2) (k : Eff Br w w2) (hr2 : EyeN Br w2 Br er3 LR3) : Pc M Bp Br Bq Bs N w2 e LP er3 LR3 er2 LR2 := by
  obtain ⟨p1, p2, p3, p4, p5, p6, p7⟩ := P
  obtain ⟨a, cap, c1, -⟩ := h.hr
  obtain ⟨q1, q2⟩ := h.hp.stay (k.block Bp h.hp.lt (by omega)) (fun g hg => k.block g (h.hp.own g hg).2 (by have := (h.hp.own g hg).1; omega))
  obtain ⟨q3, q4⟩ := h.hq.stay (k.block Bq h.hq.lt (by omega)) (fun g hg => k.block g (h.hq.own g hg).2 (by have := (h.hq.own g hg).1; omega))
  exact ⟨q1, q3, hr2, h.hs.stay (k.block Bs h.hs.lt (by omega)) (N := N) (by omega) c1 (noStr3 _ _ _ _ _) (fun b h1 h2 _ => k.block b h1 h2), by rw [q2, q4]; exact h.apart, Nat.le_trans h.hn k.size⟩
theorem Pc.rd (P : Plc M Bp Br Bq Bs N) (h : Pc M Bp Br Bq Bs N w e LP er LR er2 LR2) (k : Eff Bs w w2) (hs2 : RowRN M w2 Bs er3 LR3) : Pc M Bp Br Bq Bs N w2 e LP er LR er3 LR3 := by
  obtain ⟨p1, p2, p3, p4, p5, p6, p7⟩ := P
  have hs := h.hs
  obtain ⟨F, a, cap, i, -, -, -, c1, -, -⟩ := hs
  obtain ⟨q1, q2⟩ := h.hp.stay (k.block Bp h.hp.lt (by omega)) (fun g hg => k.block g (h.hp.own g hg).2 (by have := (h.hp.own g hg).1; omega))
  obtain ⟨q3, q4⟩ := h.hq.stay (k.block Bq h.hq.lt (by omega)) (fun g hg => k.block g (h.hq.own g hg).2 (by have := (h.hq.own g hg).1; omega))
  exact ⟨q1, q3, h.hr.stay (k.block Br h.hr.lt (by omega)) (N := N) (by omega) c1 (noStr3r _ _ _ _ _) (fun b h1 h2 _ => k.block b h1 h2), hs2, by rw [q2, q4]; exact h.apart, Nat.le_trans h.hn k.size⟩
end
theorem els_lt23 {w : World} {x : Addr} {len cap : Nat} {F : List ByteArray} (h : Els w 1 (some x) len cap (strV23 F)) (h0 : 0 < F.length) : x.block < w.heap.size := by
  obtain ⟨f, hf⟩ : ∃ f, F[0]? = some f := ⟨_, List.getElem?_eq_getElem h0⟩
  obtain ⟨-, b, off, e, hc⟩ := h.2.2.2.2 0 _ (strV23_at hf)
  cases e
  exact World.block_lt_of_cell? w _ (hc 0 _ rfl)
/-- All that is known in the loop. -/
structure Rnd (Bp Br Bq Bs N : Nat) (W : World) (k : Nat) (w : World) (e : Int) (LP : List ByteArray) (er : Int) (LR : List ByteArray) : Prop where
  four : Four W.heap.size Bp Br Bq Bs N w e LP er LR
  below : Below W.heap.size W w
  lp : LP.length ≤ 2 * k
  lr : LR.length ≤ 1000
  sz : ∀ s ∈ LR, s.size ≤ 1000
section
variable {Bp Br Bq Bs N k : Nat} {W w w1 w2 : World} {e e2 er er2 : Int} {LP LP2 LR LR2 : List ByteArray}
theorem Rnd.aft (h : Rnd Bp Br Bq Bs N W k w e LP er LR) (hA : After w w2) : Rnd Bp Br Bq Bs N W k w2 e LP er LR := ⟨h.four.aft hA, h.below.trans (hA.mono h.below.size), h.lp, h.lr, h.sz⟩
/-- The pen and the papers' row write the same. -/
theorem Rnd.wr (P : Plc W.heap.size Bp Br Bq Bs N) (h : Rnd Bp Br Bq Bs N W k w e LP er LR) (k1 : PEff W.heap.size Bp 2 w w1) (hp : PenN N w1 W.heap.size Bp e2 LP2) (k2 : PEff W.heap.size Bq 0 w1 w2) (hq : RowWN N w2 W.heap.size Bq e2 LP2) (hl : LP2.length ≤ 2 * (k + 1)) : Rnd Bp Br Bq Bs N W (k + 1) w2 e2 LP2 er LR := by
  obtain ⟨q1, q2, q3, q4, q5⟩ := h.four.pen P k1 hp
  exact ⟨Four.row P hp q1 q2 q3 q4 q5 k2 hq, (h.below.trans k1.below).trans k2.below, hl, h.lr, h.sz⟩
/-- The eye and the papers' row read the same. -/
theorem Rnd.rd (P : Plc W.heap.size Bp Br Bq Bs N) (h : Rnd Bp Br Bq Bs N W k w e LP er LR) (k1 : Eff Br w w1) (hr : EyeN Br w1 Br er2 LR2) (k2 : Eff Bs w1 w2) (hs : RowRN W.heap.size w2 Bs er2 LR2) (hl : LR2.length ≤ 1000) (hz : ∀ s ∈ LR2, s.size ≤ 1000) : Rnd Bp Br Bq Bs N W k w2 e LP er2 LR2 := by
  obtain ⟨q1, q2, q3, q4, q5⟩ := h.four.eye P k1
  obtain ⟨p1, p2, p3, p4, p5, p6, p7⟩ := P
  have b1 := eff_below24 h.below k1 (by omega) h.below.size
  exact ⟨Four.rd ⟨p1, p2, p3, p4, p5, p6, p7⟩ q1 q2 hr q3 q4 q5 k2 hs, eff_below24 b1 k2 (by omega) b1.size, h.lp, hl, hz⟩
theorem Rnd.row1 (P : Plc W.heap.size Bp Br Bq Bs N) (h : Rnd Bp Br Bq Bs N W k w e LP er LR) (k1 : PEff W.heap.size Bp 2 w w1) (hp : PenN N w1 W.heap.size Bp e2 LP2) : RowWN N w1 W.heap.size Bq e LP ∧ N ≤ w1.heap.size ∧ Below W.heap.size W w1 := by
  obtain ⟨q1, q2, q3, q4, q5⟩ := h.four.pen P k1 hp
  exact ⟨q1, q5, h.below.trans k1.below⟩
theorem Rnd.rd1 (P : Plc W.heap.size Bp Br Bq Bs N) (h : Rnd Bp Br Bq Bs N W k w e LP er LR) (k1 : Eff Br w w1) : RowRN W.heap.size w1 Bs er LR := (h.four.eye P k1).2.2.1
end

end Go.Proofs.YtelffhelelbfiaaGreatDoor
