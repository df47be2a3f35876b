/- Package pvt: each, with Values' closure. -/
import Derived.Test.YtfihdgichmocmaaPvt2
import Derived.Deep.DeepCutAuto
namespace Go.Proofs.Ytfihdgichmocmaa
open Go.ChangeShapes Go.WideShapes Go.ChangeAt Go.RowKit
set_option linter.unusedVariables false
set_option linter.unusedSimpArgs false

/-- The places, as each names them. -/
def qA : List (Option Nat) := [some 0, some 1, some 2, some 3, some 4, some 5, some 6, some 7, some 8, some 9]
def qB : List (Option Nat) := [some 10, some 11, some 12, some 13, some 14, some 15, some 16, some 17]
def qC : List (Option Nat) := [some 18, some 19, some 20, some 21, some 22, some 23, some 24]
def qD : List (Option Nat) := [some 25, some 26, some 27, some 28, none, some 29, some 30, some 31]
/-- What stands there. -/
def vlO (xs : List Int) : Option Nat → Int
  | some j => xs.getD j 0
  | none => 0
/-- The numbers, in their order. -/
def outV (xs : List Int) : List Int := qA.map (vlO xs) ++ qB.map (vlO xs) ++ qC.map (vlO xs) ++ qD.map (vlO xs)
theorem ptrs_cell {w : World} {Q : Nat} {T : TypeId} {P N : Nat} {q : List (Option Nat)} (h : w.heap[Q]? = some (.cells (q.map fun o => Value.pointer (some (plc P N o))).toArray T (0, 0))) (i : Nat) (hi : i < q.length) : w.cell? ⟨Q, i, none⟩ = some (.pointer (q[i]?.map (plc P N))) := by
  refine held_cell h i _ ?_
  rw [List.getElem?_toArray, List.getElem?_map, List.getElem?_eq_getElem hi]
  rfl
theorem vals_at16 {w : World} {P N G V : Nat} {xs : List Int} {q : List (Option Nat)} (hP : Row .i64 23 w P xs) (hN : Row .i64 2 w N [0]) (hq : ∀ (i j : Nat), q[i]? = some (some j) → j < xs.length) (d : (P ≠ G ∧ P ≠ V) ∧ N ≠ G ∧ N ≠ V) (i : Nat) (p : Addr) (h : (q.map (plc P N))[i]? = some p) : w.cell? p = some (.int .i64 ((q.map (vlO xs)).getD i 0)) ∧ p.block ≠ G ∧ p.block ≠ V := by
  rw [List.getElem?_map] at h
  obtain ⟨o, ho, rfl⟩ := Option.map_eq_some_iff.1 h
  rw [List.getD_eq_getElem?_getD, List.getElem?_map, ho]
  cases o with
  | some j => exact ⟨hP.cellAt j (hq i j ho), d.1.1, d.1.2⟩
  | none => exact ⟨hN.cellAt 0 (by simp), d.2.1, d.2.2⟩
theorem laid_on {A zs us : List Int} {n : Nat} (hA : A.length = n) (h : n + us.length ≤ zs.length) : laid (A ++ zs.drop n) n us = (A ++ us) ++ zs.drop (n + us.length) := by
  unfold laid
  rw [List.take_left' hA, List.drop_append, hA, List.drop_eq_nil_of_le (by omega), List.nil_append, List.drop_drop, show n + (n + us.length - n) = n + us.length by omega, List.append_assoc]
theorem rx_after {X : Option Nat} {W U : World} (h : After W U) : RX X W U := ⟨h.size, fun k hk _ => h.block k hk⟩
theorem after_drews {a b : World} (h : After a b) : After a.drew b.drew := ⟨h.os, h.tape, h.output, h.size, fun k hk => h.block k hk⟩
theorem eff_two {g h : Nat} {a b c : World} (k : Eff h a b) (e : Eff2 g h b c) (hg : a.heap.size ≤ g) : Eff h a c := ⟨e.os.trans k.os, e.tape.trans k.tape, e.output.trans k.output, Nat.le_trans k.size e.size, fun j h1 h2 => (e.block j (Nat.lt_of_lt_of_le h1 k.size) (by omega) h2).trans (k.block j h1 h2)⟩
theorem eff_three {g h k : Nat} {a b c : World} (x : Eff h a b) (e : Eff3 g h k b c) (hg : a.heap.size ≤ g) (hk : a.heap.size ≤ k) : Eff h a c := ⟨e.os.trans x.os, e.tape.trans x.tape, e.output.trans x.output, Nat.le_trans x.size e.size, fun j h1 h2 => (e.block j (Nat.lt_of_lt_of_le h1 x.size) (by omega) h2 (by omega)).trans (x.block j h1 h2)⟩
theorem Row.eff2 {k : IntKind} {E : TypeId} {w U : World} {g h b : Nat} {zs : List Int} (r : Row k E w b zs) (e : Eff2 g h w U) (h1 : b ≠ g) (h2 : b ≠ h) : Row k E U b zs := (e.block b (Array.getElem?_eq_some_iff.1 r).1 h1 h2).trans r
theorem eff_trans16 {g : Nat} {a b c : World} (h : Eff g a b) (k : Eff g b c) : Eff g a c := ⟨k.os.trans h.os, k.tape.trans h.tape, k.output.trans h.output, Nat.le_trans h.size k.size, fun j h1 h2 => (k.block j (Nat.lt_of_lt_of_le h1 h.size) h2).trans (h.block j h1 h2)⟩
theorem eff_after16 {g : Nat} {a b : World} (h : After a b) : Eff g a b := ⟨h.os, h.tape, h.output, h.size, fun j h1 _ => h.block j h1⟩
theorem qA_lt : ∀ (i j : Nat), qA[i]? = some (some j) → j < 32 := by
  intro i j h
  have hm := List.mem_of_getElem? h
  simp [qA] at hm
  omega
theorem qB_lt : ∀ (i j : Nat), qB[i]? = some (some j) → j < 32 := by
  intro i j h
  have hm := List.mem_of_getElem? h
  simp [qB] at hm
  omega
theorem qC_lt : ∀ (i j : Nat), qC[i]? = some (some j) → j < 32 := by
  intro i j h
  have hm := List.mem_of_getElem? h
  simp [qC] at hm
  omega
theorem qD_lt : ∀ (i j : Nat), qD[i]? = some (some j) → j < 32 := by
  intro i j h
  have hm := List.mem_of_getElem? h
  simp [qD] at hm
  omega
set_option maxRecDepth 100000 in
set_option maxHeartbeats 8000000 in
theorem eachV_any (P T V : Nat) (xs zs : List Int) (w : World) (hP : Row .i64 23 w P xs) (hl : xs.length = 32) (hT : w.cell? ⟨T, 0, none⟩ = some (.slice (some ⟨V, 0, none⟩) 33 33)) (hV : Row .i64 2 w V zs) (hz : zs.length = 33) (dP : P ≠ V) (dT : T ≠ V) : Calls Try.prog 24 #[.pointer (some ⟨P, 0, none⟩), .func (.func 26) #[] #[.pointer (some ⟨T, 0, none⟩)]] w fun e w' => e = .returned (.tuple #[]) ∧ Row .i64 2 w' V (outV xs) ∧ Eff V w w' := by
  have hmf : ∀ (fn : Fn) (first cap : Array Value) (w : World), (Instr.makeFunc fn first cap).run Try.prog w = .ok (.func fn first cap) w := fun _ _ _ _ => rfl
  have hB := hid (Below.refl w.heap.size w)
  have lP := hP.lt
  have lT : T < w.heap.size := World.block_lt_of_cell? w _ hT
  have lV := hV.lt
  replace hP := hid hP
  replace hT := hid hT
  replace hV := hid hV
  replace hz := hid hz
  replace hl := hid hl
  go_enter Try.func24, Try.ntmps24
  have nw := alloc_new w (.cells #[.func (.func 26) #[] #[.pointer (some ⟨T, 0, none⟩)]] 53)
  have hA := nw.2.1
  have rD := nw.2.2
  clear nw
  go_upto_region 1 with (fail)
  obtain ⟨W1, hW1⟩ : ∃ X, w.alloc (.cells #[.func (.func 26) #[] #[.pointer (some ⟨T, 0, none⟩)]] 53) = X := ⟨_, rfl⟩
  have z1 : W1.heap.size = w.heap.size + 1 := by rw [← hW1]; exact Array.size_push _
  rw [hW1] at hA rD ⊢
  obtain ⟨D, hD⟩ : ∃ X, w.heap.size = X := ⟨_, rfl⟩
  rw [hD] at rD z1 ⊢
  replace hW1 := hid hW1
  replace hD := hid hD
  replace z1 := hid z1
  replace hP := hid (hP.out.below hA)
  replace hV := hid (hV.out.below hA)
  replace hT := hid ((Below.cell hA (World.block_lt_of_cell? _ _ hT.out)).trans hT.out)
  replace rD := hid rD
  replace hB := hid (bthen hB.out hA)
  clear hA
  have nw := alloc_new W1 (.cells #[.int .i64 0] 2)
  have hA := nw.2.1
  have rN := nw.2.2
  clear nw
  go_upto_region 2 with (fail)
  obtain ⟨W2, hW2⟩ : ∃ X, W1.alloc (.cells #[.int .i64 0] 2) = X := ⟨_, rfl⟩
  have z2 : W2.heap.size = W1.heap.size + 1 := by rw [← hW2]; exact Array.size_push _
  rw [hW2] at hA rN ⊢
  obtain ⟨N, hN⟩ : ∃ X, W1.heap.size = X := ⟨_, rfl⟩
  rw [hN] at rN z2 ⊢
  replace hW2 := hid hW2
  replace hN := hid hN
  replace z2 := hid z2
  replace hP := hid (hP.out.below hA)
  replace hV := hid (hV.out.below hA)
  replace hT := hid ((Below.cell hA (World.block_lt_of_cell? _ _ hT.out)).trans hT.out)
  replace rD := hid (held_after hA rD.out)
  replace rN := hid rN
  replace hB := hid (bthen hB.out hA)
  clear hA
  have nw := alloc_new W2 (.cells #[.int .i64 0] 3)
  have hA := nw.2.1
  have rG := nw.2.2
  clear nw
  go_upto_region 3 with (fail)
  obtain ⟨W3, hW3⟩ : ∃ X, W2.alloc (.cells #[.int .i64 0] 3) = X := ⟨_, rfl⟩
  have z3 : W3.heap.size = W2.heap.size + 1 := by rw [← hW3]; exact Array.size_push _
  rw [hW3] at hA rG ⊢
  obtain ⟨G, hG⟩ : ∃ X, W2.heap.size = X := ⟨_, rfl⟩
  rw [hG] at rG z3 ⊢
  replace hW3 := hid hW3
  replace hG := hid hG
  replace z3 := hid z3
  replace hP := hid (hP.out.below hA)
  replace hV := hid (hV.out.below hA)
  replace hT := hid ((Below.cell hA (World.block_lt_of_cell? _ _ hT.out)).trans hT.out)
  replace rD := hid (held_after hA rD.out)
  replace rN := hid (held_after hA rN.out)
  replace rG := hid rG
  replace hB := hid (bthen hB.out hA)
  clear hA
  replace hD := hD.out
  replace hN := hN.out
  replace hG := hG.out
  replace z1 := z1.out
  replace z2 := z2.out
  replace z3 := z3.out
  have dD : D ≠ G ∧ D ≠ V := by omega
  have dTT : T ≠ G ∧ T ≠ V := by omega
  have dGV : G ≠ V := by omega
  have dPN : (P ≠ G ∧ P ≠ V) ∧ N ≠ G ∧ N ≠ V := by omega
  have gG : w.heap.size ≤ G := by omega
  have lG : G < W3.heap.size := by omega
  have lN : N < W3.heap.size := by omega
  have lD : D < W3.heap.size := by omega
  have lP3 : P < W3.heap.size := by omega
  have lT3 : T < W3.heap.size := by omega
  have lV3 : V < W3.heap.size := by omega
  replace hD := hid hD
  replace hN := hid hN
  replace hG := hid hG
  replace z1 := hid z1
  replace z2 := hid z2
  replace z3 := hid z3
  have hE := hid (eff_after16 (g := V) hB.out)
  clear hB
  have hNr := hid (show Row .i64 2 W3 N [0] from rN.out)
  have hGr := hid (show W3.heap[G]? = some (.cells #[.int .i64 ((0 : Nat) : Int)] 3 (0, 0)) from rG.out)
  have hDc := hid (held_cell rD.out 0 _ rfl)
  have hVr := hid (show Row .i64 2 W3 V ([] ++ zs.drop 0) from hV.out)
  clear rN rG rD hV
  go_upto_region 4 with (fail)
  refine wp_region_T none 32 (by kernel_rfl) ?_
  refine wpAnyT_take 0 rfl (by kernel_rfl) (by kernel_rfl) (by kernel_rfl) (by kernel_rfl) (fun _ _ _ _ h => h) ⟨_, Or.inl ⟨by rfl, fun w2 hb2 => by (go_simp; try with_reducible rfl)⟩, _, by (go_simp; try rfl), ?_⟩
  refine wpAnyT_takeP 1 rfl (by kernel_rfl) (by kernel_rfl) (by kernel_rfl) (fun _ _ _ _ h => h) ⟨_, Or.inl ⟨by rfl, fun w2 _ => by (go_simp; try with_reducible rfl)⟩, _, by (go_simp; try rfl), ?_⟩
  refine wpAnyT_takeP 2 rfl (by kernel_rfl) (by kernel_rfl) (by kernel_rfl) (fun _ _ _ _ h => h) ⟨_, Or.inl ⟨by rfl, fun w2 _ => by (go_simp; try with_reducible rfl)⟩, _, by (go_simp; try rfl), ?_⟩
  refine wpAnyT_takeP 3 rfl (by kernel_rfl) (by kernel_rfl) (by kernel_rfl) (fun _ _ _ _ h => h) ⟨_, Or.inl ⟨by rfl, fun w2 _ => by (go_simp; try with_reducible rfl)⟩, _, by (go_simp; try rfl), ?_⟩
  refine wpAnyT_takeP 4 rfl (by kernel_rfl) (by kernel_rfl) (by kernel_rfl) (fun _ _ _ _ h => h) ⟨_, Or.inl ⟨by rfl, fun w2 _ => by (go_simp; try with_reducible rfl)⟩, _, by (go_simp; try rfl), ?_⟩
  refine wpAnyT_takeP 5 rfl (by kernel_rfl) (by kernel_rfl) (by kernel_rfl) (fun _ _ _ _ h => h) ⟨_, Or.inl ⟨by rfl, fun w2 _ => by (go_simp; try with_reducible rfl)⟩, _, by (go_simp; try rfl), ?_⟩
  refine wpAnyT_takeP 6 rfl (by kernel_rfl) (by kernel_rfl) (by kernel_rfl) (fun _ _ _ _ h => h) ⟨_, Or.inl ⟨by rfl, fun w2 _ => by (go_simp; try with_reducible rfl)⟩, _, by (go_simp; try rfl), ?_⟩
  refine wpAnyT_takeP 7 rfl (by kernel_rfl) (by kernel_rfl) (by kernel_rfl) (fun _ _ _ _ h => h) ⟨_, Or.inl ⟨by rfl, fun w2 _ => by (go_simp; try with_reducible rfl)⟩, _, by (go_simp; try rfl), ?_⟩
  refine wpAnyT_takeP 8 rfl (by kernel_rfl) (by kernel_rfl) (by kernel_rfl) (fun _ _ _ _ h => h) ⟨_, Or.inl ⟨by rfl, fun w2 _ => by (go_simp; try with_reducible rfl)⟩, _, by (go_simp; try rfl), ?_⟩
  refine wpAnyT_takeP 9 rfl (by kernel_rfl) (by kernel_rfl) (by kernel_rfl) (fun _ _ _ _ h => h) ⟨_, Or.inl ⟨by rfl, fun w2 _ => by (go_simp; try with_reducible rfl)⟩, _, by (go_simp; try rfl), ?_⟩
  refine wpAnyT_takeP 10 rfl (by kernel_rfl) (by kernel_rfl) (by kernel_rfl) (fun _ _ _ _ h => h) ⟨_, Or.inl ⟨by rfl, fun w2 _ => by (go_simp; try with_reducible rfl)⟩, _, by (go_simp; try rfl), ?_⟩
  refine wpAnyT_takeP 11 rfl (by kernel_rfl) (by kernel_rfl) (by kernel_rfl) (fun _ _ _ _ h => h) ⟨_, Or.inl ⟨by rfl, fun w2 _ => by (go_simp; try with_reducible rfl)⟩, _, by (go_simp; try rfl), ?_⟩
  refine wpAnyT_takeP 12 rfl (by kernel_rfl) (by kernel_rfl) (by kernel_rfl) (fun _ _ _ _ h => h) ⟨_, Or.inl ⟨by rfl, fun w2 _ => by (go_simp; try with_reducible rfl)⟩, _, by (go_simp; try rfl), ?_⟩
  refine wpAnyT_takeP 13 rfl (by kernel_rfl) (by kernel_rfl) (by kernel_rfl) (fun _ _ _ _ h => h) ⟨_, Or.inl ⟨by rfl, fun w2 _ => by (go_simp; try with_reducible rfl)⟩, _, by (go_simp; try rfl), ?_⟩
  refine wpAnyT_takeP 14 rfl (by kernel_rfl) (by kernel_rfl) (by kernel_rfl) (fun _ _ _ _ h => h) ⟨_, Or.inl ⟨by rfl, fun w2 _ => by (go_simp; try with_reducible rfl)⟩, _, by (go_simp; try rfl), ?_⟩
  refine wpAnyT_takeP 15 rfl (by kernel_rfl) (by kernel_rfl) (by kernel_rfl) (fun _ _ _ _ h => h) ⟨_, Or.inl ⟨by rfl, fun w2 _ => by (go_simp; try with_reducible rfl)⟩, _, by (go_simp; try rfl), ?_⟩
  refine wpAnyT_takeP 16 rfl (by kernel_rfl) (by kernel_rfl) (by kernel_rfl) (fun _ _ _ _ h => h) ⟨_, Or.inl ⟨by rfl, fun w2 _ => by (go_simp; try with_reducible rfl)⟩, _, by (go_simp; try rfl), ?_⟩
  refine wpAnyT_takeP 17 rfl (by kernel_rfl) (by kernel_rfl) (by kernel_rfl) (fun _ _ _ _ h => h) ⟨_, Or.inl ⟨by rfl, fun w2 _ => by (go_simp; try with_reducible rfl)⟩, _, by (go_simp; try rfl), ?_⟩
  refine wpAnyT_takeP 18 rfl (by kernel_rfl) (by kernel_rfl) (by kernel_rfl) (fun _ _ _ _ h => h) ⟨_, Or.inl ⟨by rfl, fun w2 _ => by (go_simp; try with_reducible rfl)⟩, _, by (go_simp; try rfl), ?_⟩
  refine wpAnyT_takeP 19 rfl (by kernel_rfl) (by kernel_rfl) (by kernel_rfl) (fun _ _ _ _ h => h) ⟨_, Or.inl ⟨by rfl, fun w2 _ => by (go_simp; try with_reducible rfl)⟩, _, by (go_simp; try rfl), ?_⟩
  refine wpAnyT_takeP 20 rfl (by kernel_rfl) (by kernel_rfl) (by kernel_rfl) (fun _ _ _ _ h => h) ⟨_, Or.inl ⟨by rfl, fun w2 _ => by (go_simp; try with_reducible rfl)⟩, _, by (go_simp; try rfl), ?_⟩
  refine wpAnyT_takeP 21 rfl (by kernel_rfl) (by kernel_rfl) (by kernel_rfl) (fun _ _ _ _ h => h) ⟨_, Or.inl ⟨by rfl, fun w2 _ => by (go_simp; try with_reducible rfl)⟩, _, by (go_simp; try rfl), ?_⟩
  refine wpAnyT_takeP 22 rfl (by kernel_rfl) (by kernel_rfl) (by kernel_rfl) (fun _ _ _ _ h => h) ⟨_, Or.inl ⟨by rfl, fun w2 _ => by (go_simp; try with_reducible rfl)⟩, _, by (go_simp; try rfl), ?_⟩
  refine wpAnyT_takeP 23 rfl (by kernel_rfl) (by kernel_rfl) (by kernel_rfl) (fun _ _ _ _ h => h) ⟨_, Or.inl ⟨by rfl, fun w2 _ => by (go_simp; try with_reducible rfl)⟩, _, by (go_simp; try rfl), ?_⟩
  refine wpAnyT_takeP 24 rfl (by kernel_rfl) (by kernel_rfl) (by kernel_rfl) (fun _ _ _ _ h => h) ⟨_, Or.inl ⟨by rfl, fun w2 _ => by (go_simp; try with_reducible rfl)⟩, _, by (go_simp; try rfl), ?_⟩
  refine wpAnyT_takeP 25 rfl (by kernel_rfl) (by kernel_rfl) (by kernel_rfl) (fun _ _ _ _ h => h) ⟨_, Or.inl ⟨by rfl, fun w2 _ => by (go_simp; try with_reducible rfl)⟩, _, by (go_simp; try rfl), ?_⟩
  refine wpAnyT_takeP 26 rfl (by kernel_rfl) (by kernel_rfl) (by kernel_rfl) (fun _ _ _ _ h => h) ⟨_, Or.inl ⟨by rfl, fun w2 _ => by (go_simp; try with_reducible rfl)⟩, _, by (go_simp; try rfl), ?_⟩
  refine wpAnyT_takeP 27 rfl (by kernel_rfl) (by kernel_rfl) (by kernel_rfl) (fun _ _ _ _ h => h) ⟨_, Or.inl ⟨by rfl, fun w2 _ => by (go_simp; try with_reducible rfl)⟩, _, by (go_simp; try rfl), ?_⟩
  refine wpAnyT_takeP 28 rfl (by kernel_rfl) (by kernel_rfl) (by kernel_rfl) (fun _ _ _ _ h => h) ⟨_, Or.inl ⟨by rfl, fun w2 _ => by (go_simp; try with_reducible rfl)⟩, _, by (go_simp; try rfl), ?_⟩
  refine wpAnyT_takeP 29 rfl (by kernel_rfl) (by kernel_rfl) (by kernel_rfl) (fun _ _ _ _ h => h) ⟨_, Or.inl ⟨by rfl, fun w2 _ => by (go_simp; try with_reducible rfl)⟩, _, by (go_simp; try rfl), ?_⟩
  refine wpAnyT_takeP 30 rfl (by kernel_rfl) (by kernel_rfl) (by kernel_rfl) (fun _ _ _ _ h => h) ⟨_, Or.inl ⟨by rfl, fun w2 _ => by (go_simp; try with_reducible rfl)⟩, _, by (go_simp; try rfl), ?_⟩
  refine wpAnyT_only 31 rfl (by kernel_rfl) (by rfl) (fun K hK => ?_)
  go_simp
  have nQ := alloc_new W3 (.cells #[.pointer (some ⟨P, 0, none⟩), .pointer (some ⟨P, 1, none⟩), .pointer (some ⟨P, 2, none⟩), .pointer (some ⟨P, 3, none⟩), .pointer (some ⟨P, 4, none⟩), .pointer (some ⟨P, 5, none⟩), .pointer (some ⟨P, 6, none⟩), .pointer (some ⟨P, 7, none⟩), .pointer (some ⟨P, 8, none⟩), .pointer (some ⟨P, 9, none⟩)] 52)
  have hAQ : After W3.drew (W3.alloc (.cells #[.pointer (some ⟨P, 0, none⟩), .pointer (some ⟨P, 1, none⟩), .pointer (some ⟨P, 2, none⟩), .pointer (some ⟨P, 3, none⟩), .pointer (some ⟨P, 4, none⟩), .pointer (some ⟨P, 5, none⟩), .pointer (some ⟨P, 6, none⟩), .pointer (some ⟨P, 7, none⟩), .pointer (some ⟨P, 8, none⟩), .pointer (some ⟨P, 9, none⟩)] 52)).drew := after_drews nQ.2.1
  have hQh : (W3.alloc (.cells #[.pointer (some ⟨P, 0, none⟩), .pointer (some ⟨P, 1, none⟩), .pointer (some ⟨P, 2, none⟩), .pointer (some ⟨P, 3, none⟩), .pointer (some ⟨P, 4, none⟩), .pointer (some ⟨P, 5, none⟩), .pointer (some ⟨P, 6, none⟩), .pointer (some ⟨P, 7, none⟩), .pointer (some ⟨P, 8, none⟩), .pointer (some ⟨P, 9, none⟩)] 52)).drew.heap[W3.heap.size]? = _ := nQ.2.2
  refine hK _ _ ⟨fun _ => rx_after hAQ, ?_⟩
  clear hK
  obtain ⟨X0, hX0⟩ : ∃ X, (W3.alloc (.cells #[.pointer (some ⟨P, 0, none⟩), .pointer (some ⟨P, 1, none⟩), .pointer (some ⟨P, 2, none⟩), .pointer (some ⟨P, 3, none⟩), .pointer (some ⟨P, 4, none⟩), .pointer (some ⟨P, 5, none⟩), .pointer (some ⟨P, 6, none⟩), .pointer (some ⟨P, 7, none⟩), .pointer (some ⟨P, 8, none⟩), .pointer (some ⟨P, 9, none⟩)] 52)).drew = X := ⟨_, rfl⟩
  obtain ⟨Q0, hQ0⟩ : ∃ X, W3.heap.size = X := ⟨_, rfl⟩
  rw [hX0] at hAQ hQh
  rw [hQ0] at hQh
  try rw [hX0]
  try rw [hQ0]
  have dQ : Q0 ≠ G ∧ Q0 ≠ V := by omega
  clear nQ
  replace hX0 := hid hX0
  replace hQ0 := hid hQ0
  have hA := hid (show After W3 X0 from bthen (Below.refl _ W3).drew hAQ)
  clear hAQ
  refine wpAnyT_only 32 rfl (by kernel_rfl) (by rfl) (fun K hK => ?_)
  go_simp
  refine (nxt1_any D G T V Q0 10 0 (qA.map (plc P N)) (qA.map (vlO xs)) (([] : List Int) ++ zs.drop 0) _ ((Below.cell hA.out (World.block_lt_of_cell? _ _ hDc.out)).trans hDc.out) (held_after hA.out hGr.out) ((Below.cell hA.out (World.block_lt_of_cell? _ _ hT.out)).trans hT.out) (hVr.out.below hA.out) (by have := hz.out; simp [qA, qB, qC, this]) (by omega) rfl rfl (fun i hi => by rw [List.getElem?_map]; exact ptrs_cell (P := P) (N := N) (q := qA) (T := 52) hQh i hi) (vals_at16 (hP.out.below hA.out) (hNr.out.below hA.out) (by rw [hl.out]; exact qA_lt) dPN) dD dTT dQ dGV).mono ?_
  rintro e Y1 ⟨rfl, hG9, hV9, hE9⟩
  go_simp
  refine hK _ _ ⟨fun h => (h rfl).elim, ?_⟩
  clear hK
  replace hP := hid ((hP.out.below hA.out).eff2 hE9 dPN.1.1 dPN.1.2)
  replace hNr := hid ((hNr.out.below hA.out).eff2 hE9 dPN.2.1 dPN.2.2)
  replace hDc := hid (hE9.cell ((Below.cell hA.out (World.block_lt_of_cell? _ _ hDc.out)).trans hDc.out) dD.1 dD.2)
  replace hT := hid (hE9.cell ((Below.cell hA.out (World.block_lt_of_cell? _ _ hT.out)).trans hT.out) dTT.1 dTT.2)
  replace hGr := hid hG9
  have hV8 := hid hV9
  have lY0 : G < Y1.heap.size ∧ V < Y1.heap.size ∧ W3.heap.size ≤ Y1.heap.size := by have h1 := hA.out.size; have h2 := hE9.size; omega
  replace hE := hid (eff_two (eff_trans16 hE.out (eff_after16 hA.out)) hE9 gG)
  rw [laid_on (by rfl) (by rw [hz.out]; simp [qA])] at hV9
  replace hVr := hid hV9
  clear hV8 hG9 hE9 hA hV9 hQh dQ
  refine wpAnyT_done (by kernel_rfl) ?_ _
  go_upto_region 5 with (fail)
  refine wp_region_T none 26 (by kernel_rfl) ?_
  refine wpAnyT_take 0 rfl (by kernel_rfl) (by kernel_rfl) (by kernel_rfl) (by kernel_rfl) (fun _ _ _ _ h => h) ⟨_, Or.inl ⟨by rfl, fun w2 hb2 => by (go_simp; try with_reducible rfl)⟩, _, by (go_simp; try rfl), ?_⟩
  refine wpAnyT_takeP 1 rfl (by kernel_rfl) (by kernel_rfl) (by kernel_rfl) (fun _ _ _ _ h => h) ⟨_, Or.inl ⟨by rfl, fun w2 _ => by (go_simp; try with_reducible rfl)⟩, _, by (go_simp; try rfl), ?_⟩
  refine wpAnyT_takeP 2 rfl (by kernel_rfl) (by kernel_rfl) (by kernel_rfl) (fun _ _ _ _ h => h) ⟨_, Or.inl ⟨by rfl, fun w2 _ => by (go_simp; try with_reducible rfl)⟩, _, by (go_simp; try rfl), ?_⟩
  refine wpAnyT_takeP 3 rfl (by kernel_rfl) (by kernel_rfl) (by kernel_rfl) (fun _ _ _ _ h => h) ⟨_, Or.inl ⟨by rfl, fun w2 _ => by (go_simp; try with_reducible rfl)⟩, _, by (go_simp; try rfl), ?_⟩
  refine wpAnyT_takeP 4 rfl (by kernel_rfl) (by kernel_rfl) (by kernel_rfl) (fun _ _ _ _ h => h) ⟨_, Or.inl ⟨by rfl, fun w2 _ => by (go_simp; try with_reducible rfl)⟩, _, by (go_simp; try rfl), ?_⟩
  refine wpAnyT_takeP 5 rfl (by kernel_rfl) (by kernel_rfl) (by kernel_rfl) (fun _ _ _ _ h => h) ⟨_, Or.inl ⟨by rfl, fun w2 _ => by (go_simp; try with_reducible rfl)⟩, _, by (go_simp; try rfl), ?_⟩
  refine wpAnyT_takeP 6 rfl (by kernel_rfl) (by kernel_rfl) (by kernel_rfl) (fun _ _ _ _ h => h) ⟨_, Or.inl ⟨by rfl, fun w2 _ => by (go_simp; try with_reducible rfl)⟩, _, by (go_simp; try rfl), ?_⟩
  refine wpAnyT_takeP 7 rfl (by kernel_rfl) (by kernel_rfl) (by kernel_rfl) (fun _ _ _ _ h => h) ⟨_, Or.inl ⟨by rfl, fun w2 _ => by (go_simp; try with_reducible rfl)⟩, _, by (go_simp; try rfl), ?_⟩
  refine wpAnyT_takeP 8 rfl (by kernel_rfl) (by kernel_rfl) (by kernel_rfl) (fun _ _ _ _ h => h) ⟨_, Or.inl ⟨by rfl, fun w2 _ => by (go_simp; try with_reducible rfl)⟩, _, by (go_simp; try rfl), ?_⟩
  refine wpAnyT_takeP 9 rfl (by kernel_rfl) (by kernel_rfl) (by kernel_rfl) (fun _ _ _ _ h => h) ⟨_, Or.inl ⟨by rfl, fun w2 _ => by (go_simp; try with_reducible rfl)⟩, _, by (go_simp; try rfl), ?_⟩
  refine wpAnyT_takeP 10 rfl (by kernel_rfl) (by kernel_rfl) (by kernel_rfl) (fun _ _ _ _ h => h) ⟨_, Or.inl ⟨by rfl, fun w2 _ => by (go_simp; try with_reducible rfl)⟩, _, by (go_simp; try rfl), ?_⟩
  refine wpAnyT_takeP 11 rfl (by kernel_rfl) (by kernel_rfl) (by kernel_rfl) (fun _ _ _ _ h => h) ⟨_, Or.inl ⟨by rfl, fun w2 _ => by (go_simp; try with_reducible rfl)⟩, _, by (go_simp; try rfl), ?_⟩
  refine wpAnyT_takeP 12 rfl (by kernel_rfl) (by kernel_rfl) (by kernel_rfl) (fun _ _ _ _ h => h) ⟨_, Or.inl ⟨by rfl, fun w2 _ => by (go_simp; try with_reducible rfl)⟩, _, by (go_simp; try rfl), ?_⟩
  refine wpAnyT_takeP 13 rfl (by kernel_rfl) (by kernel_rfl) (by kernel_rfl) (fun _ _ _ _ h => h) ⟨_, Or.inl ⟨by rfl, fun w2 _ => by (go_simp; try with_reducible rfl)⟩, _, by (go_simp; try rfl), ?_⟩
  refine wpAnyT_takeP 14 rfl (by kernel_rfl) (by kernel_rfl) (by kernel_rfl) (fun _ _ _ _ h => h) ⟨_, Or.inl ⟨by rfl, fun w2 _ => by (go_simp; try with_reducible rfl)⟩, _, by (go_simp; try rfl), ?_⟩
  refine wpAnyT_takeP 15 rfl (by kernel_rfl) (by kernel_rfl) (by kernel_rfl) (fun _ _ _ _ h => h) ⟨_, Or.inl ⟨by rfl, fun w2 _ => by (go_simp; try with_reducible rfl)⟩, _, by (go_simp; try rfl), ?_⟩
  refine wpAnyT_takeP 16 rfl (by kernel_rfl) (by kernel_rfl) (by kernel_rfl) (fun _ _ _ _ h => h) ⟨_, Or.inl ⟨by rfl, fun w2 _ => by (go_simp; try with_reducible rfl)⟩, _, by (go_simp; try rfl), ?_⟩
  refine wpAnyT_takeP 17 rfl (by kernel_rfl) (by kernel_rfl) (by kernel_rfl) (fun _ _ _ _ h => h) ⟨_, Or.inl ⟨by rfl, fun w2 _ => by (go_simp; try with_reducible rfl)⟩, _, by (go_simp; try rfl), ?_⟩
  refine wpAnyT_takeP 18 rfl (by kernel_rfl) (by kernel_rfl) (by kernel_rfl) (fun _ _ _ _ h => h) ⟨_, Or.inl ⟨by rfl, fun w2 _ => by (go_simp; try with_reducible rfl)⟩, _, by (go_simp; try rfl), ?_⟩
  refine wpAnyT_takeP 19 rfl (by kernel_rfl) (by kernel_rfl) (by kernel_rfl) (fun _ _ _ _ h => h) ⟨_, Or.inl ⟨by rfl, fun w2 _ => by (go_simp; try with_reducible rfl)⟩, _, by (go_simp; try rfl), ?_⟩
  refine wpAnyT_takeP 20 rfl (by kernel_rfl) (by kernel_rfl) (by kernel_rfl) (fun _ _ _ _ h => h) ⟨_, Or.inl ⟨by rfl, fun w2 _ => by (go_simp; try with_reducible rfl)⟩, _, by (go_simp; try rfl), ?_⟩
  refine wpAnyT_takeP 21 rfl (by kernel_rfl) (by kernel_rfl) (by kernel_rfl) (fun _ _ _ _ h => h) ⟨_, Or.inl ⟨by rfl, fun w2 _ => by (go_simp; try with_reducible rfl)⟩, _, by (go_simp; try rfl), ?_⟩
  refine wpAnyT_takeP 22 rfl (by kernel_rfl) (by kernel_rfl) (by kernel_rfl) (fun _ _ _ _ h => h) ⟨_, Or.inl ⟨by rfl, fun w2 _ => by (go_simp; try with_reducible rfl)⟩, _, by (go_simp; try rfl), ?_⟩
  refine wpAnyT_takeP 23 rfl (by kernel_rfl) (by kernel_rfl) (by kernel_rfl) (fun _ _ _ _ h => h) ⟨_, Or.inl ⟨by rfl, fun w2 _ => by (go_simp; try with_reducible rfl)⟩, _, by (go_simp; try rfl), ?_⟩
  refine wpAnyT_takeP 24 rfl (by kernel_rfl) (by kernel_rfl) (by kernel_rfl) (fun _ _ _ _ h => h) ⟨_, Or.inl ⟨by rfl, fun w2 _ => by (go_simp; try with_reducible rfl)⟩, _, by (go_simp; try rfl), ?_⟩
  refine wpAnyT_only 25 rfl (by kernel_rfl) (by rfl) (fun K hK => ?_)
  go_simp
  have nQ := alloc_new Y1 (.cells #[.pointer (some ⟨P, 10, none⟩), .pointer (some ⟨P, 11, none⟩), .pointer (some ⟨P, 12, none⟩), .pointer (some ⟨P, 13, none⟩), .pointer (some ⟨P, 14, none⟩), .pointer (some ⟨P, 15, none⟩), .pointer (some ⟨P, 16, none⟩), .pointer (some ⟨P, 17, none⟩)] 52)
  have hAQ : After Y1.drew (Y1.alloc (.cells #[.pointer (some ⟨P, 10, none⟩), .pointer (some ⟨P, 11, none⟩), .pointer (some ⟨P, 12, none⟩), .pointer (some ⟨P, 13, none⟩), .pointer (some ⟨P, 14, none⟩), .pointer (some ⟨P, 15, none⟩), .pointer (some ⟨P, 16, none⟩), .pointer (some ⟨P, 17, none⟩)] 52)).drew := after_drews nQ.2.1
  have hQh : (Y1.alloc (.cells #[.pointer (some ⟨P, 10, none⟩), .pointer (some ⟨P, 11, none⟩), .pointer (some ⟨P, 12, none⟩), .pointer (some ⟨P, 13, none⟩), .pointer (some ⟨P, 14, none⟩), .pointer (some ⟨P, 15, none⟩), .pointer (some ⟨P, 16, none⟩), .pointer (some ⟨P, 17, none⟩)] 52)).drew.heap[Y1.heap.size]? = _ := nQ.2.2
  refine hK _ _ ⟨fun _ => rx_after hAQ, ?_⟩
  clear hK
  obtain ⟨X1, hX1⟩ : ∃ X, (Y1.alloc (.cells #[.pointer (some ⟨P, 10, none⟩), .pointer (some ⟨P, 11, none⟩), .pointer (some ⟨P, 12, none⟩), .pointer (some ⟨P, 13, none⟩), .pointer (some ⟨P, 14, none⟩), .pointer (some ⟨P, 15, none⟩), .pointer (some ⟨P, 16, none⟩), .pointer (some ⟨P, 17, none⟩)] 52)).drew = X := ⟨_, rfl⟩
  obtain ⟨Q1, hQ1⟩ : ∃ X, Y1.heap.size = X := ⟨_, rfl⟩
  rw [hX1] at hAQ hQh
  rw [hQ1] at hQh
  try rw [hX1]
  try rw [hQ1]
  have dQ : Q1 ≠ G ∧ Q1 ≠ V := by omega
  clear nQ
  replace hX1 := hid hX1
  replace hQ1 := hid hQ1
  have hA := hid (show After Y1 X1 from bthen (Below.refl _ Y1).drew hAQ)
  clear hAQ
  refine wpAnyT_only 26 rfl (by kernel_rfl) (by rfl) (fun K hK => ?_)
  go_simp
  refine (nxt1_any D G T V Q1 8 10 (qB.map (plc P N)) (qB.map (vlO xs)) ((([] : List Int) ++ qA.map (vlO xs)) ++ zs.drop 10) _ ((Below.cell hA.out (World.block_lt_of_cell? _ _ hDc.out)).trans hDc.out) (held_after hA.out hGr.out) ((Below.cell hA.out (World.block_lt_of_cell? _ _ hT.out)).trans hT.out) (hVr.out.below hA.out) (by have := hz.out; simp [qA, qB, qC, this]) (by omega) rfl rfl (fun i hi => by rw [List.getElem?_map]; exact ptrs_cell (P := P) (N := N) (q := qB) (T := 52) hQh i hi) (vals_at16 (hP.out.below hA.out) (hNr.out.below hA.out) (by rw [hl.out]; exact qB_lt) dPN) dD dTT dQ dGV).mono ?_
  rintro e Y2 ⟨rfl, hG9, hV9, hE9⟩
  go_simp
  refine hK _ _ ⟨fun h => (h rfl).elim, ?_⟩
  clear hK
  replace hP := hid ((hP.out.below hA.out).eff2 hE9 dPN.1.1 dPN.1.2)
  replace hNr := hid ((hNr.out.below hA.out).eff2 hE9 dPN.2.1 dPN.2.2)
  replace hDc := hid (hE9.cell ((Below.cell hA.out (World.block_lt_of_cell? _ _ hDc.out)).trans hDc.out) dD.1 dD.2)
  replace hT := hid (hE9.cell ((Below.cell hA.out (World.block_lt_of_cell? _ _ hT.out)).trans hT.out) dTT.1 dTT.2)
  replace hGr := hid hG9
  have hV8 := hid hV9
  have lY1 : G < Y2.heap.size ∧ V < Y2.heap.size ∧ Y1.heap.size ≤ Y2.heap.size := by have h1 := hA.out.size; have h2 := hE9.size; omega
  replace hE := hid (eff_two (eff_trans16 hE.out (eff_after16 hA.out)) hE9 gG)
  rw [laid_on (by rfl) (by rw [hz.out]; simp [qB])] at hV9
  replace hVr := hid hV9
  clear hV8 hG9 hE9 hA hV9 hQh dQ
  refine wpAnyT_done (by kernel_rfl) ?_ _
  go_upto_region 6 with (fail)
  refine wp_region_T none 23 (by kernel_rfl) ?_
  refine wpAnyT_take 0 rfl (by kernel_rfl) (by kernel_rfl) (by kernel_rfl) (by kernel_rfl) (fun _ _ _ _ h => h) ⟨_, Or.inl ⟨by rfl, fun w2 hb2 => by (go_simp; try with_reducible rfl)⟩, _, by (go_simp; try rfl), ?_⟩
  refine wpAnyT_takeP 1 rfl (by kernel_rfl) (by kernel_rfl) (by kernel_rfl) (fun _ _ _ _ h => h) ⟨_, Or.inl ⟨by rfl, fun w2 _ => by (go_simp; try with_reducible rfl)⟩, _, by (go_simp; try rfl), ?_⟩
  refine wpAnyT_takeP 2 rfl (by kernel_rfl) (by kernel_rfl) (by kernel_rfl) (fun _ _ _ _ h => h) ⟨_, Or.inl ⟨by rfl, fun w2 _ => by (go_simp; try with_reducible rfl)⟩, _, by (go_simp; try rfl), ?_⟩
  refine wpAnyT_takeP 3 rfl (by kernel_rfl) (by kernel_rfl) (by kernel_rfl) (fun _ _ _ _ h => h) ⟨_, Or.inl ⟨by rfl, fun w2 _ => by (go_simp; try with_reducible rfl)⟩, _, by (go_simp; try rfl), ?_⟩
  refine wpAnyT_takeP 4 rfl (by kernel_rfl) (by kernel_rfl) (by kernel_rfl) (fun _ _ _ _ h => h) ⟨_, Or.inl ⟨by rfl, fun w2 _ => by (go_simp; try with_reducible rfl)⟩, _, by (go_simp; try rfl), ?_⟩
  refine wpAnyT_takeP 5 rfl (by kernel_rfl) (by kernel_rfl) (by kernel_rfl) (fun _ _ _ _ h => h) ⟨_, Or.inl ⟨by rfl, fun w2 _ => by (go_simp; try with_reducible rfl)⟩, _, by (go_simp; try rfl), ?_⟩
  refine wpAnyT_takeP 6 rfl (by kernel_rfl) (by kernel_rfl) (by kernel_rfl) (fun _ _ _ _ h => h) ⟨_, Or.inl ⟨by rfl, fun w2 _ => by (go_simp; try with_reducible rfl)⟩, _, by (go_simp; try rfl), ?_⟩
  refine wpAnyT_takeP 7 rfl (by kernel_rfl) (by kernel_rfl) (by kernel_rfl) (fun _ _ _ _ h => h) ⟨_, Or.inl ⟨by rfl, fun w2 _ => by (go_simp; try with_reducible rfl)⟩, _, by (go_simp; try rfl), ?_⟩
  refine wpAnyT_takeP 8 rfl (by kernel_rfl) (by kernel_rfl) (by kernel_rfl) (fun _ _ _ _ h => h) ⟨_, Or.inl ⟨by rfl, fun w2 _ => by (go_simp; try with_reducible rfl)⟩, _, by (go_simp; try rfl), ?_⟩
  refine wpAnyT_takeP 9 rfl (by kernel_rfl) (by kernel_rfl) (by kernel_rfl) (fun _ _ _ _ h => h) ⟨_, Or.inl ⟨by rfl, fun w2 _ => by (go_simp; try with_reducible rfl)⟩, _, by (go_simp; try rfl), ?_⟩
  refine wpAnyT_takeP 10 rfl (by kernel_rfl) (by kernel_rfl) (by kernel_rfl) (fun _ _ _ _ h => h) ⟨_, Or.inl ⟨by rfl, fun w2 _ => by (go_simp; try with_reducible rfl)⟩, _, by (go_simp; try rfl), ?_⟩
  refine wpAnyT_takeP 11 rfl (by kernel_rfl) (by kernel_rfl) (by kernel_rfl) (fun _ _ _ _ h => h) ⟨_, Or.inl ⟨by rfl, fun w2 _ => by (go_simp; try with_reducible rfl)⟩, _, by (go_simp; try rfl), ?_⟩
  refine wpAnyT_takeP 12 rfl (by kernel_rfl) (by kernel_rfl) (by kernel_rfl) (fun _ _ _ _ h => h) ⟨_, Or.inl ⟨by rfl, fun w2 _ => by (go_simp; try with_reducible rfl)⟩, _, by (go_simp; try rfl), ?_⟩
  refine wpAnyT_takeP 13 rfl (by kernel_rfl) (by kernel_rfl) (by kernel_rfl) (fun _ _ _ _ h => h) ⟨_, Or.inl ⟨by rfl, fun w2 _ => by (go_simp; try with_reducible rfl)⟩, _, by (go_simp; try rfl), ?_⟩
  refine wpAnyT_takeP 14 rfl (by kernel_rfl) (by kernel_rfl) (by kernel_rfl) (fun _ _ _ _ h => h) ⟨_, Or.inl ⟨by rfl, fun w2 _ => by (go_simp; try with_reducible rfl)⟩, _, by (go_simp; try rfl), ?_⟩
  refine wpAnyT_takeP 15 rfl (by kernel_rfl) (by kernel_rfl) (by kernel_rfl) (fun _ _ _ _ h => h) ⟨_, Or.inl ⟨by rfl, fun w2 _ => by (go_simp; try with_reducible rfl)⟩, _, by (go_simp; try rfl), ?_⟩
  refine wpAnyT_takeP 16 rfl (by kernel_rfl) (by kernel_rfl) (by kernel_rfl) (fun _ _ _ _ h => h) ⟨_, Or.inl ⟨by rfl, fun w2 _ => by (go_simp; try with_reducible rfl)⟩, _, by (go_simp; try rfl), ?_⟩
  refine wpAnyT_takeP 17 rfl (by kernel_rfl) (by kernel_rfl) (by kernel_rfl) (fun _ _ _ _ h => h) ⟨_, Or.inl ⟨by rfl, fun w2 _ => by (go_simp; try with_reducible rfl)⟩, _, by (go_simp; try rfl), ?_⟩
  refine wpAnyT_takeP 18 rfl (by kernel_rfl) (by kernel_rfl) (by kernel_rfl) (fun _ _ _ _ h => h) ⟨_, Or.inl ⟨by rfl, fun w2 _ => by (go_simp; try with_reducible rfl)⟩, _, by (go_simp; try rfl), ?_⟩
  refine wpAnyT_takeP 19 rfl (by kernel_rfl) (by kernel_rfl) (by kernel_rfl) (fun _ _ _ _ h => h) ⟨_, Or.inl ⟨by rfl, fun w2 _ => by (go_simp; try with_reducible rfl)⟩, _, by (go_simp; try rfl), ?_⟩
  refine wpAnyT_takeP 20 rfl (by kernel_rfl) (by kernel_rfl) (by kernel_rfl) (fun _ _ _ _ h => h) ⟨_, Or.inl ⟨by rfl, fun w2 _ => by (go_simp; try with_reducible rfl)⟩, _, by (go_simp; try rfl), ?_⟩
  refine wpAnyT_takeP 21 rfl (by kernel_rfl) (by kernel_rfl) (by kernel_rfl) (fun _ _ _ _ h => h) ⟨_, Or.inl ⟨by rfl, fun w2 _ => by (go_simp; try with_reducible rfl)⟩, _, by (go_simp; try rfl), ?_⟩
  refine wpAnyT_only 22 rfl (by kernel_rfl) (by rfl) (fun K hK => ?_)
  go_simp
  have nQ := alloc_new Y2 (.cells #[.pointer (some ⟨P, 18, none⟩), .pointer (some ⟨P, 19, none⟩), .pointer (some ⟨P, 20, none⟩), .pointer (some ⟨P, 21, none⟩), .pointer (some ⟨P, 22, none⟩), .pointer (some ⟨P, 23, none⟩), .pointer (some ⟨P, 24, none⟩)] 52)
  have hAQ : After Y2.drew (Y2.alloc (.cells #[.pointer (some ⟨P, 18, none⟩), .pointer (some ⟨P, 19, none⟩), .pointer (some ⟨P, 20, none⟩), .pointer (some ⟨P, 21, none⟩), .pointer (some ⟨P, 22, none⟩), .pointer (some ⟨P, 23, none⟩), .pointer (some ⟨P, 24, none⟩)] 52)).drew := after_drews nQ.2.1
  have hQh : (Y2.alloc (.cells #[.pointer (some ⟨P, 18, none⟩), .pointer (some ⟨P, 19, none⟩), .pointer (some ⟨P, 20, none⟩), .pointer (some ⟨P, 21, none⟩), .pointer (some ⟨P, 22, none⟩), .pointer (some ⟨P, 23, none⟩), .pointer (some ⟨P, 24, none⟩)] 52)).drew.heap[Y2.heap.size]? = _ := nQ.2.2
  refine hK _ _ ⟨fun _ => rx_after hAQ, ?_⟩
  clear hK
  obtain ⟨X2, hX2⟩ : ∃ X, (Y2.alloc (.cells #[.pointer (some ⟨P, 18, none⟩), .pointer (some ⟨P, 19, none⟩), .pointer (some ⟨P, 20, none⟩), .pointer (some ⟨P, 21, none⟩), .pointer (some ⟨P, 22, none⟩), .pointer (some ⟨P, 23, none⟩), .pointer (some ⟨P, 24, none⟩)] 52)).drew = X := ⟨_, rfl⟩
  obtain ⟨Q2, hQ2⟩ : ∃ X, Y2.heap.size = X := ⟨_, rfl⟩
  rw [hX2] at hAQ hQh
  rw [hQ2] at hQh
  try rw [hX2]
  try rw [hQ2]
  have dQ : Q2 ≠ G ∧ Q2 ≠ V := by omega
  clear nQ
  replace hX2 := hid hX2
  replace hQ2 := hid hQ2
  have hA := hid (show After Y2 X2 from bthen (Below.refl _ Y2).drew hAQ)
  clear hAQ
  refine wpAnyT_only 23 rfl (by kernel_rfl) (by rfl) (fun K hK => ?_)
  go_simp
  refine (nxt1_any D G T V Q2 7 18 (qC.map (plc P N)) (qC.map (vlO xs)) (((([] : List Int) ++ qA.map (vlO xs)) ++ qB.map (vlO xs)) ++ zs.drop 18) _ ((Below.cell hA.out (World.block_lt_of_cell? _ _ hDc.out)).trans hDc.out) (held_after hA.out hGr.out) ((Below.cell hA.out (World.block_lt_of_cell? _ _ hT.out)).trans hT.out) (hVr.out.below hA.out) (by have := hz.out; simp [qA, qB, qC, this]) (by omega) rfl rfl (fun i hi => by rw [List.getElem?_map]; exact ptrs_cell (P := P) (N := N) (q := qC) (T := 52) hQh i hi) (vals_at16 (hP.out.below hA.out) (hNr.out.below hA.out) (by rw [hl.out]; exact qC_lt) dPN) dD dTT dQ dGV).mono ?_
  rintro e Y3 ⟨rfl, hG9, hV9, hE9⟩
  go_simp
  refine hK _ _ ⟨fun h => (h rfl).elim, ?_⟩
  clear hK
  replace hP := hid ((hP.out.below hA.out).eff2 hE9 dPN.1.1 dPN.1.2)
  replace hNr := hid ((hNr.out.below hA.out).eff2 hE9 dPN.2.1 dPN.2.2)
  replace hDc := hid (hE9.cell ((Below.cell hA.out (World.block_lt_of_cell? _ _ hDc.out)).trans hDc.out) dD.1 dD.2)
  replace hT := hid (hE9.cell ((Below.cell hA.out (World.block_lt_of_cell? _ _ hT.out)).trans hT.out) dTT.1 dTT.2)
  replace hGr := hid hG9
  have hV8 := hid hV9
  have lY2 : G < Y3.heap.size ∧ V < Y3.heap.size ∧ Y2.heap.size ≤ Y3.heap.size := by have h1 := hA.out.size; have h2 := hE9.size; omega
  replace hE := hid (eff_two (eff_trans16 hE.out (eff_after16 hA.out)) hE9 gG)
  rw [laid_on (by rfl) (by rw [hz.out]; simp [qC])] at hV9
  replace hVr := hid hV9
  clear hV8 hG9 hE9 hA hV9 hQh dQ
  refine wpAnyT_done (by kernel_rfl) ?_ _
  go_upto_region 7 with (fail)
  refine wp_region_T none 23 (by kernel_rfl) ?_
  refine wpAnyT_take 0 rfl (by kernel_rfl) (by kernel_rfl) (by kernel_rfl) (by kernel_rfl) (fun _ _ _ _ h => h) ⟨_, Or.inl ⟨by rfl, fun w2 hb2 => by (go_simp; try with_reducible rfl)⟩, _, by (go_simp; try rfl), ?_⟩
  refine wpAnyT_takeP 1 rfl (by kernel_rfl) (by kernel_rfl) (by kernel_rfl) (fun _ _ _ _ h => h) ⟨_, Or.inl ⟨by rfl, fun w2 _ => by (go_simp; try with_reducible rfl)⟩, _, by (go_simp; try rfl), ?_⟩
  refine wpAnyT_takeP 2 rfl (by kernel_rfl) (by kernel_rfl) (by kernel_rfl) (fun _ _ _ _ h => h) ⟨_, Or.inl ⟨by rfl, fun w2 _ => by (go_simp; try with_reducible rfl)⟩, _, by (go_simp; try rfl), ?_⟩
  refine wpAnyT_takeP 3 rfl (by kernel_rfl) (by kernel_rfl) (by kernel_rfl) (fun _ _ _ _ h => h) ⟨_, Or.inl ⟨by rfl, fun w2 _ => by (go_simp; try with_reducible rfl)⟩, _, by (go_simp; try rfl), ?_⟩
  refine wpAnyT_takeP 4 rfl (by kernel_rfl) (by kernel_rfl) (by kernel_rfl) (fun _ _ _ _ h => h) ⟨_, Or.inl ⟨by rfl, fun w2 _ => by (go_simp; try with_reducible rfl)⟩, _, by (go_simp; try rfl), ?_⟩
  refine wpAnyT_takeP 5 rfl (by kernel_rfl) (by kernel_rfl) (by kernel_rfl) (fun _ _ _ _ h => h) ⟨_, Or.inl ⟨by rfl, fun w2 _ => by (go_simp; try with_reducible rfl)⟩, _, by (go_simp; try rfl), ?_⟩
  refine wpAnyT_takeP 6 rfl (by kernel_rfl) (by kernel_rfl) (by kernel_rfl) (fun _ _ _ _ h => h) ⟨_, Or.inl ⟨by rfl, fun w2 _ => by (go_simp; try with_reducible rfl)⟩, _, by (go_simp; try rfl), ?_⟩
  refine wpAnyT_takeP 7 rfl (by kernel_rfl) (by kernel_rfl) (by kernel_rfl) (fun _ _ _ _ h => h) ⟨_, Or.inl ⟨by rfl, fun w2 _ => by (go_simp; try with_reducible rfl)⟩, _, by (go_simp; try rfl), ?_⟩
  refine wpAnyT_takeP 8 rfl (by kernel_rfl) (by kernel_rfl) (by kernel_rfl) (fun _ _ _ _ h => h) ⟨_, Or.inl ⟨by rfl, fun w2 _ => by (go_simp; try with_reducible rfl)⟩, _, by (go_simp; try rfl), ?_⟩
  refine wpAnyT_takeP 9 rfl (by kernel_rfl) (by kernel_rfl) (by kernel_rfl) (fun _ _ _ _ h => h) ⟨_, Or.inl ⟨by rfl, fun w2 _ => by (go_simp; try with_reducible rfl)⟩, _, by (go_simp; try rfl), ?_⟩
  refine wpAnyT_takeP 10 rfl (by kernel_rfl) (by kernel_rfl) (by kernel_rfl) (fun _ _ _ _ h => h) ⟨_, Or.inl ⟨by rfl, fun w2 _ => by (go_simp; try with_reducible rfl)⟩, _, by (go_simp; try rfl), ?_⟩
  refine wpAnyT_takeP 11 rfl (by kernel_rfl) (by kernel_rfl) (by kernel_rfl) (fun _ _ _ _ h => h) ⟨_, Or.inl ⟨by rfl, fun w2 _ => by (go_simp; try with_reducible rfl)⟩, _, by (go_simp; try rfl), ?_⟩
  refine wpAnyT_takeP 12 rfl (by kernel_rfl) (by kernel_rfl) (by kernel_rfl) (fun _ _ _ _ h => h) ⟨_, Or.inl ⟨by rfl, fun w2 _ => by (go_simp; try with_reducible rfl)⟩, _, by (go_simp; try rfl), ?_⟩
  refine wpAnyT_takeP 13 rfl (by kernel_rfl) (by kernel_rfl) (by kernel_rfl) (fun _ _ _ _ h => h) ⟨_, Or.inl ⟨by rfl, fun w2 _ => by (go_simp; try with_reducible rfl)⟩, _, by (go_simp; try rfl), ?_⟩
  refine wpAnyT_takeP 14 rfl (by kernel_rfl) (by kernel_rfl) (by kernel_rfl) (fun _ _ _ _ h => h) ⟨_, Or.inl ⟨by rfl, fun w2 _ => by (go_simp; try with_reducible rfl)⟩, _, by (go_simp; try rfl), ?_⟩
  refine wpAnyT_takeP 15 rfl (by kernel_rfl) (by kernel_rfl) (by kernel_rfl) (fun _ _ _ _ h => h) ⟨_, Or.inl ⟨by rfl, fun w2 _ => by (go_simp; try with_reducible rfl)⟩, _, by (go_simp; try rfl), ?_⟩
  refine wpAnyT_takeP 16 rfl (by kernel_rfl) (by kernel_rfl) (by kernel_rfl) (fun _ _ _ _ h => h) ⟨_, Or.inl ⟨by rfl, fun w2 _ => by (go_simp; try with_reducible rfl)⟩, _, by (go_simp; try rfl), ?_⟩
  refine wpAnyT_takeP 17 rfl (by kernel_rfl) (by kernel_rfl) (by kernel_rfl) (fun _ _ _ _ h => h) ⟨_, Or.inl ⟨by rfl, fun w2 _ => by (go_simp; try with_reducible rfl)⟩, _, by (go_simp; try rfl), ?_⟩
  refine wpAnyT_takeP 18 rfl (by kernel_rfl) (by kernel_rfl) (by kernel_rfl) (fun _ _ _ _ h => h) ⟨_, Or.inl ⟨by rfl, fun w2 _ => by (go_simp; try with_reducible rfl)⟩, _, by (go_simp; try rfl), ?_⟩
  refine wpAnyT_takeP 19 rfl (by kernel_rfl) (by kernel_rfl) (by kernel_rfl) (fun _ _ _ _ h => h) ⟨_, Or.inl ⟨by rfl, fun w2 _ => by (go_simp; try with_reducible rfl)⟩, _, by (go_simp; try rfl), ?_⟩
  refine wpAnyT_takeP 20 rfl (by kernel_rfl) (by kernel_rfl) (by kernel_rfl) (fun _ _ _ _ h => h) ⟨_, Or.inl ⟨by rfl, fun w2 _ => by (go_simp; try with_reducible rfl)⟩, _, by (go_simp; try rfl), ?_⟩
  refine wpAnyT_takeP 21 rfl (by kernel_rfl) (by kernel_rfl) (by kernel_rfl) (fun _ _ _ _ h => h) ⟨_, Or.inl ⟨by rfl, fun w2 _ => by (go_simp; try with_reducible rfl)⟩, _, by (go_simp; try rfl), ?_⟩
  refine wpAnyT_only 22 rfl (by kernel_rfl) (by rfl) (fun K hK => ?_)
  go_simp
  have nQ := alloc_new Y3 (.cells #[.pointer (some ⟨P, 25, none⟩), .pointer (some ⟨P, 26, none⟩), .pointer (some ⟨P, 27, none⟩), .pointer (some ⟨P, 28, none⟩), .pointer (some ⟨N, 0, none⟩), .pointer (some ⟨P, 29, none⟩), .pointer (some ⟨P, 30, none⟩), .pointer (some ⟨P, 31, none⟩)] 52)
  have hAQ : After Y3.drew (Y3.alloc (.cells #[.pointer (some ⟨P, 25, none⟩), .pointer (some ⟨P, 26, none⟩), .pointer (some ⟨P, 27, none⟩), .pointer (some ⟨P, 28, none⟩), .pointer (some ⟨N, 0, none⟩), .pointer (some ⟨P, 29, none⟩), .pointer (some ⟨P, 30, none⟩), .pointer (some ⟨P, 31, none⟩)] 52)).drew := after_drews nQ.2.1
  have hQh : (Y3.alloc (.cells #[.pointer (some ⟨P, 25, none⟩), .pointer (some ⟨P, 26, none⟩), .pointer (some ⟨P, 27, none⟩), .pointer (some ⟨P, 28, none⟩), .pointer (some ⟨N, 0, none⟩), .pointer (some ⟨P, 29, none⟩), .pointer (some ⟨P, 30, none⟩), .pointer (some ⟨P, 31, none⟩)] 52)).drew.heap[Y3.heap.size]? = _ := nQ.2.2
  refine hK _ _ ⟨fun _ => rx_after hAQ, ?_⟩
  clear hK
  obtain ⟨X3, hX3⟩ : ∃ X, (Y3.alloc (.cells #[.pointer (some ⟨P, 25, none⟩), .pointer (some ⟨P, 26, none⟩), .pointer (some ⟨P, 27, none⟩), .pointer (some ⟨P, 28, none⟩), .pointer (some ⟨N, 0, none⟩), .pointer (some ⟨P, 29, none⟩), .pointer (some ⟨P, 30, none⟩), .pointer (some ⟨P, 31, none⟩)] 52)).drew = X := ⟨_, rfl⟩
  obtain ⟨Q3, hQ3⟩ : ∃ X, Y3.heap.size = X := ⟨_, rfl⟩
  rw [hX3] at hAQ hQh
  rw [hQ3] at hQh
  try rw [hX3]
  try rw [hQ3]
  have dQ : Q3 ≠ G ∧ Q3 ≠ V := by omega
  clear nQ
  replace hX3 := hid hX3
  replace hQ3 := hid hQ3
  have hA := hid (show After Y3 X3 from bthen (Below.refl _ Y3).drew hAQ)
  clear hAQ
  refine wpAnyT_only 23 rfl (by kernel_rfl) (by rfl) (fun K hK => ?_)
  go_simp
  refine (nxt1_any D G T V Q3 8 25 (qD.map (plc P N)) (qD.map (vlO xs)) ((((([] : List Int) ++ qA.map (vlO xs)) ++ qB.map (vlO xs)) ++ qC.map (vlO xs)) ++ zs.drop 25) _ ((Below.cell hA.out (World.block_lt_of_cell? _ _ hDc.out)).trans hDc.out) (held_after hA.out hGr.out) ((Below.cell hA.out (World.block_lt_of_cell? _ _ hT.out)).trans hT.out) (hVr.out.below hA.out) (by have := hz.out; simp [qA, qB, qC, this]) (by omega) rfl rfl (fun i hi => by rw [List.getElem?_map]; exact ptrs_cell (P := P) (N := N) (q := qD) (T := 52) hQh i hi) (vals_at16 (hP.out.below hA.out) (hNr.out.below hA.out) (by rw [hl.out]; exact qD_lt) dPN) dD dTT dQ dGV).mono ?_
  rintro e Y4 ⟨rfl, hG9, hV9, hE9⟩
  go_simp
  refine hK _ _ ⟨fun h => (h rfl).elim, ?_⟩
  clear hK
  replace hP := hid ((hP.out.below hA.out).eff2 hE9 dPN.1.1 dPN.1.2)
  replace hNr := hid ((hNr.out.below hA.out).eff2 hE9 dPN.2.1 dPN.2.2)
  replace hDc := hid (hE9.cell ((Below.cell hA.out (World.block_lt_of_cell? _ _ hDc.out)).trans hDc.out) dD.1 dD.2)
  replace hT := hid (hE9.cell ((Below.cell hA.out (World.block_lt_of_cell? _ _ hT.out)).trans hT.out) dTT.1 dTT.2)
  replace hGr := hid hG9
  have hV8 := hid hV9
  have lY3 : G < Y4.heap.size ∧ V < Y4.heap.size ∧ Y3.heap.size ≤ Y4.heap.size := by have h1 := hA.out.size; have h2 := hE9.size; omega
  replace hE := hid (eff_two (eff_trans16 hE.out (eff_after16 hA.out)) hE9 gG)
  rw [laid_on (by rfl) (by rw [hz.out]; simp [qD])] at hV9
  replace hVr := hid hV9
  clear hV8 hG9 hE9 hA hV9 hQh dQ
  refine wpAnyT_done (by kernel_rfl) ?_ _
  go_wp2_with fail
  go_end0
  have h9 := hVr.out
  rw [List.nil_append, List.drop_eq_nil_of_le (by rw [hz.out]; simp [qA, qB, qC, qD]), List.append_nil] at h9
  exact ⟨rfl, h9, hE.out⟩


end Go.Proofs.Ytfihdgichmocmaa
