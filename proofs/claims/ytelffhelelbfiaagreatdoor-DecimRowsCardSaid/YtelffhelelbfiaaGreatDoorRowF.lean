/- Four objects side by side. -/
import Derived.Test.YtelffhelelbfiaaGreatDoorRowM
import Derived.Deep.DeepCutAuto
namespace Go.Proofs.YtelffhelelbfiaaGreatDoor
open Go.ChangeShapes Go.WideShapes Go.ChangeAt Go.RowKit
set_option linter.unusedVariables false
set_option linter.unusedSimpArgs false

set_option maxRecDepth 100000 in
set_option maxHeartbeats 2000000 in
theorem prowN_any (w : World) : Calls Tryz.prog 5 #[] w fun r w' => ∃ B, r = .returned (.pointer (some ⟨B, 0, none⟩)) ∧ w'.heap[B]? = some (.cells #[.bool true, .int .i64 0, .slice none 0 0] 59 (0, 0)) ∧ After w w' ∧ w.heap.size ≤ B := by
  have nw := alloc_new w (.cells #[.bool false, .int .i64 0, .slice none 0 0] 59)
  obtain ⟨S1, hS1, s1, o1⟩ := st1 nw.2.2 0 (.bool true)
  have z1 := held_cell nw.2.2 0 _ rfl
  have z2 := held_free nw.2.2 0
  have hfin := s1
  have hB : After w S1 := belowS nw.2.1 o1 (Nat.le_refl _)
  replace hfin := hid hfin
  replace hB := hid hB
  clear s1 o1 nw
  go_enter Tryz.func5, Tryz.ntmps5
  go_wp2_with fail
  go_ret
  exact ⟨_, rfl, hfin.out, hB.out, Nat.le_refl _⟩
set_option maxRecDepth 100000 in
set_option maxHeartbeats 2000000 in
theorem lookN_any (a : Option Addr) (len cap : Nat) (L : List ByteArray) (w : World) (hlen : L.length = len) (hl : len ≤ 1000) (hE : Els w 1 a len cap (strV23 L)) : Calls Tryz.prog 6 #[.slice a len cap] w fun r w' => ∃ B, r = .returned (.pointer (some ⟨B, 0, none⟩)) ∧ EyeN B w' B 0 L ∧ After w w' ∧ w.heap.size ≤ B := by
  have kc := hid (clone23_any a len cap L w hl hE)
  replace hlen := hid hlen
  clear hE
  go_enter Tryz.func6, Tryz.ntmps6
  go_wp2_with fail
  refine (kc.out).mono ?_
  rintro r V ⟨a', cap', rfl, h1, h2, h3⟩
  have nw := alloc_new V (.cells #[.bool false, .int .i64 0, .slice a' len cap'] 61)
  obtain ⟨S1, hS1, s1, o1⟩ := st1 nw.2.2 0 (.bool true)
  have z1 := held_cell nw.2.2 0 _ rfl
  have z2 := held_free nw.2.2 0
  have hE1 := h1.below nw.2.1
  have hne : ∀ x, a' = some x → x.block < V.heap.size ∧ V.heap.size ≤ V.heap.size := fun x hx => ⟨h2 x hx, Nat.le_refl _⟩
  have hfin : EyeN V.heap.size S1 V.heap.size 0 L := ⟨a', cap', by rw [hlen.out]; exact s1, by rw [hlen.out]; exact els_eff24 hE1 (eff_only24 o1) (neN hne), hne⟩
  have hB : After w S1 := bthen h3 (belowS nw.2.1 o1 (Nat.le_refl _))
  have hsz := h3.size
  replace hfin := hid hfin
  replace hB := hid hB
  clear s1 o1 nw hE1 hne h1 h2 h3
  go_wp2_with fail
  go_ret
  exact ⟨_, rfl, hfin.out, hB.out, hsz⟩
/-- Texts stay where all blocks below N but one without any stay. -/
theorem els_keepN {w w2 : World} {N p : Nat} {a : Option Addr} {len cap : Nat} {F : List ByteArray} {c : Array Value} {T : TypeId} (h : Els w 1 a len cap (strV23 F)) (hp : w.heap[p]? = some (.cells c T (0, 0))) (hns : ∀ (j : Nat) (s : ByteArray), c[j]? ≠ some (.string s)) (ha : ∀ x, a = some x → 0 < F.length → x.block < N) (hk : ∀ b, b < w.heap.size → b ≠ p → b < N → w2.heap[b]? = w.heap[b]?) : Els w2 1 a len cap (strV23 F) := by
  refine ⟨h.1, h.2.1, h.2.2.1, h.2.2.2.1, fun i x hx => ?_⟩
  obtain ⟨h1, b, off, e, hc⟩ := h.2.2.2.2 i x hx
  refine ⟨h1, b, off, e, fun j u hj => ?_⟩
  have hlt := World.block_lt_of_cell? w _ (hc j u hj)
  have hi0 := (List.getElem?_eq_some_iff.1 hx).1
  rw [strV23_len] at hi0
  have hb : b ≠ p := by
    intro e2
    subst e2
    have hc2 := hc j u hj
    rw [cell_of_row w b (off + i * 1 + j) _ T (0, 0) hp] at hc2
    obtain ⟨f, -, rfl⟩ : ∃ f, f ∈ F ∧ strC23 f = x := by
      have := List.mem_of_getElem? hx
      exact List.mem_map.1 this
    have hu : u = .string f := by
      match j, hj with
      | 0, hj => simpa [strC23] using hj.symm
      | j + 1, hj => simp [strC23] at hj
    subst hu
    exact hns _ _ hc2
  exact (World.cell?_of_block (w := w) (a := ⟨b, off + i * 1 + j, none⟩) (hk b hlt hb (ha _ e (by omega)))).trans (hc j u hj)
theorem noStr3 (b : Bool) (e : Int) (a : Option Addr) (n c : Nat) : ∀ (j : Nat) (s : ByteArray), (#[Value.bool b, .int .i64 e, .slice a n c] : Array Value)[j]? ≠ some (.string s) := by
  intro j s h
  match j, h with
  | 0, h => simp at h
  | 1, h => simp at h
  | 2, h => simp at h
  | j + 3, h => simp at h
theorem noStr3r (a : Option Addr) (n c : Nat) (i e : Int) : ∀ (j : Nat) (s : ByteArray), (#[Value.slice a n c, .int .i64 i, .int .i64 e] : Array Value)[j]? ≠ some (.string s) := by
  intro j s h
  match j, h with
  | 0, h => simp at h
  | 1, h => simp at h
  | 2, h => simp at h
  | j + 3, h => simp at h
/-- Where the four objects lie: made one behind the other, from M on; N is where their own slices begin. -/
structure Plc (M Bp Br Bq Bs N : Nat) : Prop where
  mp : M ≤ Bp
  pr : Bp < Br
  rq : Br < Bq
  rs : Br < Bs
  qs : Bq ≠ Bs
  qn : Bq < N
  sn : Bs < N
/-- A pen, a row of the papers' that plays the same, an eye, a row of the papers' that plays the same. -/
structure Four (M Bp Br Bq Bs N : Nat) (w : World) (e : Int) (LP : List ByteArray) (er : Int) (LR : List ByteArray) : Prop where
  hp : PenN N w M Bp e LP
  hq : RowWN N w M Bq e LP
  hr : EyeN Br w Br er LR
  hs : RowRN M w Bs er LR
  apart : ∀ g, wown Bp 2 w = some g → wown Bq 0 w ≠ some g
  hn : N ≤ w.heap.size
theorem PenN.own {N M B : Nat} {w : World} {e : Int} {L : List ByteArray} (h : PenN N w M B e L) : ∀ g, wown B 2 w = some g → N ≤ g ∧ g < w.heap.size := by
  obtain ⟨a, cap, h1, h2⟩ := h
  intro g hg
  rw [wown_at h1 (j := 2) rfl] at hg
  exact ⟨(h2.lt g hg).1, (h2.lt g hg).2.1⟩
theorem RowWN.own {N M B : Nat} {w : World} {e : Int} {L : List ByteArray} (h : RowWN N w M B e L) : ∀ g, wown B 0 w = some g → N ≤ g ∧ g < w.heap.size := by
  obtain ⟨a, cap, h1, h2⟩ := h
  intro g hg
  rw [wown_at h1 (j := 0) rfl] at hg
  exact ⟨(h2.lt g hg).1, (h2.lt g hg).2.1⟩
/-- What a pen is stays where its block and its slice's stay. -/
theorem PenN.stay {N M B : Nat} {w w2 : World} {e : Int} {L : List ByteArray} (h : PenN N w M B e L) (hB : w2.heap[B]? = w.heap[B]?) (ho : ∀ g, wown B 2 w = some g → w2.heap[g]? = w.heap[g]?) : PenN N w2 M B e L ∧ wown B 2 w2 = wown B 2 w := by
  obtain ⟨a, cap, h1, h2⟩ := h
  exact ⟨⟨a, cap, hB.trans h1, h2.kept (fun g hg => ho g (by rw [wown_at h1 (j := 2) rfl]; exact hg))⟩, wown_same hB⟩
theorem RowWN.stay {N M B : Nat} {w w2 : World} {e : Int} {L : List ByteArray} (h : RowWN N w M B e L) (hB : w2.heap[B]? = w.heap[B]?) (ho : ∀ g, wown B 0 w = some g → w2.heap[g]? = w.heap[g]?) : RowWN N w2 M B e L ∧ wown B 0 w2 = wown B 0 w := by
  obtain ⟨a, cap, h1, h2⟩ := h
  exact ⟨⟨a, cap, hB.trans h1, h2.kept (fun g hg => ho g (by rw [wown_at h1 (j := 0) rfl]; exact hg))⟩, wown_same hB⟩
theorem EyeN.stay {N0 N B p : Nat} {w w2 : World} {e : Int} {L : List ByteArray} {c : Array Value} {T : TypeId} (h : EyeN N0 w B e L) (hB : w2.heap[B]? = w.heap[B]?) (hN : N0 ≤ N) (hp : w.heap[p]? = some (.cells c T (0, 0))) (hns : ∀ (j : Nat) (s : ByteArray), c[j]? ≠ some (.string s)) (hk : ∀ b, b < w.heap.size → b ≠ p → b < N → w2.heap[b]? = w.heap[b]?) : EyeN N0 w2 B e L := by
  obtain ⟨a, cap, h1, h2, h3⟩ := h
  exact ⟨a, cap, hB.trans h1, els_keepN h2 hp hns (fun x hx _ => Nat.lt_of_lt_of_le (h3 x hx).1 hN) hk, h3⟩
theorem RowRN.stay {N0 N B p : Nat} {w w2 : World} {e : Int} {L : List ByteArray} {c : Array Value} {T : TypeId} (h : RowRN N0 w B e L) (hB : w2.heap[B]? = w.heap[B]?) (hN : N0 ≤ N) (hp : w.heap[p]? = some (.cells c T (0, 0))) (hns : ∀ (j : Nat) (s : ByteArray), c[j]? ≠ some (.string s)) (hk : ∀ b, b < w.heap.size → b ≠ p → b < N → w2.heap[b]? = w.heap[b]?) : RowRN N0 w2 B e L := by
  obtain ⟨F, a, cap, i, g1, g2, g3, h1, h2, h3⟩ := h
  exact ⟨F, a, cap, i, g1, g2, g3, hB.trans h1, els_keepN h2 hp hns (fun x hx h0 => Nat.lt_of_lt_of_le (h3 x hx h0).1 hN) hk, h3⟩
section
variable {M Bp Br Bq Bs N : Nat} {w w2 : World} {e er : Int} {LP LR : List ByteArray}
theorem Four.aft (h : Four M Bp Br Bq Bs N w e LP er LR) (hA : After w w2) : Four M Bp Br Bq Bs N w2 e LP er LR :=
  ⟨h.hp.aft hA, h.hq.aft hA, h.hr.aft hA, h.hs.aft hA, by rw [wown_same (hA.block Bp h.hp.lt), wown_same (hA.block Bq h.hq.lt)]; exact h.apart, Nat.le_trans h.hn hA.size⟩
theorem Four.pen (P : Plc M Bp Br Bq Bs N) (h : Four M Bp Br Bq Bs N w e LP er LR) (k : PEff M Bp 2 w w2) {e2 : Int} {LP2 : List ByteArray} (hp2 : PenN N w2 M Bp e2 LP2) :
    RowWN N w2 M Bq e LP ∧ EyeN Br w2 Br er LR ∧ RowRN M w2 Bs er LR ∧ (∀ g, wown Bp 2 w2 = some g → wown Bq 0 w2 ≠ some g) ∧ N ≤ w2.heap.size := by
  obtain ⟨p1, p2, p3, p4, p5, p6, p7⟩ := P
  have ho := h.hp.own
  have low : ∀ b, b < w.heap.size → b ≠ Bp → b < N → w2.heap[b]? = w.heap[b]? := fun b h1 h2 h3 => k.owp.block b h1 h2 (fun e => by have := (ho b e.symm).1; omega)
  obtain ⟨a, cap, c1, -⟩ := h.hp
  obtain ⟨q1, q2⟩ := h.hq.stay (low Bq h.hq.lt (by omega) (by omega)) (fun g hg => k.owp.block g (h.hq.own g hg).2 (by have := (h.hq.own g hg).1; omega) (fun e => h.apart g e.symm hg))
  refine ⟨q1, h.hr.stay (low Br h.hr.lt (by omega) (by omega)) (N := N) (by omega) c1 (noStr3 _ _ _ _ _) low, h.hs.stay (low Bs h.hs.lt (by omega) (by omega)) (N := N) (by omega) c1 (noStr3 _ _ _ _ _) low, fun g hg => ?_, Nat.le_trans h.hn k.below.size⟩
  rw [q2]
  rcases k.owp.own g hg with h3 | h3
  · exact h.apart g h3
  · intro h4; have := (h.hq.own g h4).2; omega
theorem Four.row (P : Plc M Bp Br Bq Bs N) {e2 : Int} {LP2 : List ByteArray} (hp : PenN N w M Bp e2 LP2) (hq : RowWN N w M Bq e LP) (hr : EyeN Br w Br er LR) (hs : RowRN M w Bs er LR) (ap : ∀ g, wown Bp 2 w = some g → wown Bq 0 w ≠ some g) (hn : N ≤ w.heap.size) (k : PEff M Bq 0 w w2) (hq2 : RowWN N w2 M Bq e2 LP2) : Four M Bp Br Bq Bs N w2 e2 LP2 er LR := by
  obtain ⟨p1, p2, p3, p4, p5, p6, p7⟩ := P
  have ho := hq.own
  have low : ∀ b, b < w.heap.size → b ≠ Bq → b < N → w2.heap[b]? = w.heap[b]? := fun b h1 h2 h3 => k.owp.block b h1 h2 (fun e => by have := (ho b e.symm).1; omega)
  obtain ⟨a, cap, c1, -⟩ := hq
  obtain ⟨q1, q2⟩ := hp.stay (low Bp hp.lt (by omega) (by omega)) (fun g hg => k.owp.block g (hp.own g hg).2 (by have := (hp.own g hg).1; omega) (fun e => ap g hg e.symm))
  refine ⟨q1, hq2, hr.stay (low Br hr.lt (by omega) (by omega)) (N := N) (by omega) c1 (noStr3r _ _ _ _ _) low, hs.stay (low Bs hs.lt (by omega) (by omega)) (N := N) (by omega) c1 (noStr3r _ _ _ _ _) low, fun g hg => ?_, Nat.le_trans hn k.below.size⟩
  rw [q2] at hg
  intro h4
  rcases k.owp.own g h4 with h3 | h3
  · exact ap g hg h3
  · have := (hp.own g hg).2; omega
theorem Four.eye (P : Plc M Bp Br Bq Bs N) (h : Four M Bp Br Bq Bs N w e LP er LR) (k : Eff Br w w2) : PenN N w2 M Bp e LP ∧ RowWN N w2 M Bq e LP ∧ RowRN M w2 Bs er LR ∧ (∀ g, wown Bp 2 w2 = some g → wown Bq 0 w2 ≠ some g) ∧ N ≤ w2.heap.size := by
  obtain ⟨p1, p2, p3, p4, p5, p6, p7⟩ := P
  obtain ⟨a, cap, c1, -⟩ := h.hr
  obtain ⟨q1, q2⟩ := h.hp.stay (k.block Bp h.hp.lt (by omega)) (fun g hg => k.block g (h.hp.own g hg).2 (by have := (h.hp.own g hg).1; omega))
  obtain ⟨q3, q4⟩ := h.hq.stay (k.block Bq h.hq.lt (by omega)) (fun g hg => k.block g (h.hq.own g hg).2 (by have := (h.hq.own g hg).1; omega))
  exact ⟨q1, q3, h.hs.stay (k.block Bs h.hs.lt (by omega)) (N := N) (by omega) c1 (noStr3 _ _ _ _ _) (fun b h1 h2 _ => k.block b h1 h2), by rw [q2, q4]; exact h.apart, Nat.le_trans h.hn k.size⟩
theorem Four.rd (P : Plc M Bp Br Bq Bs N) {er2 : Int} {LR2 : List ByteArray} (hp : PenN N w M Bp e LP) (hq : RowWN N w M Bq e LP) (hr : EyeN Br w Br er2 LR2) (hs : RowRN M w Bs er LR) (ap : ∀ g, wown Bp 2 w = some g → wown Bq 0 w ≠ some g) (hn : N ≤ w.heap.size) (k : Eff Bs w w2) (hs2 : RowRN M w2 Bs er2 LR2) : Four M Bp Br Bq Bs N w2 e LP er2 LR2 := by
  obtain ⟨p1, p2, p3, p4, p5, p6, p7⟩ := P
  obtain ⟨F, a, cap, i, -, -, -, c1, -, -⟩ := hs
  obtain ⟨q1, q2⟩ := hp.stay (k.block Bp hp.lt (by omega)) (fun g hg => k.block g (hp.own g hg).2 (by have := (hp.own g hg).1; omega))
  obtain ⟨q3, q4⟩ := hq.stay (k.block Bq hq.lt (by omega)) (fun g hg => k.block g (hq.own g hg).2 (by have := (hq.own g hg).1; omega))
  exact ⟨q1, q3, hr.stay (k.block Br hr.lt (by omega)) (N := N) (by omega) c1 (noStr3r _ _ _ _ _) (fun b h1 h2 _ => k.block b h1 h2), hs2, by rw [q2, q4]; exact ap, Nat.le_trans hn k.size⟩
end

end Go.Proofs.YtelffhelelbfiaaGreatDoor
