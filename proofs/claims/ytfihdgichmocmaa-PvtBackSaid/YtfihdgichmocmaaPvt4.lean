/- Package pvt: each, with Of's closure. -/
import Derived.Test.YtfihdgichmocmaaPvt3
import Derived.Deep.DeepCutAuto
namespace Go.Proofs.Ytfihdgichmocmaa
open Go.ChangeShapes Go.WideShapes Go.ChangeAt Go.RowKit
set_option linter.unusedVariables false
set_option linter.unusedSimpArgs false

/-- The message's fields out of the numbers. -/
def inP (vs ys : List Int) : List Int := stP qD (vs.drop 25) (stP qC (vs.drop 18) (stP qB (vs.drop 10) (stP qA (vs.drop 0) ys)))
theorem sl_lt16 {k : IntKind} {w : World} {a : Option Addr} {len cap : Nat} {zs : List Int} (h : Sl k w a len cap zs) (h0 : 0 < len) : ∀ p, a = some p → p.block < w.heap.size := by
  intro p e
  obtain ⟨b, off, e2, hc⟩ := h.2.2.2.2 0 (by have := h.1; omega)
  rw [e] at e2; cases e2
  exact World.block_lt_of_cell? w _ hc
set_option maxRecDepth 100000 in
set_option maxHeartbeats 8000000 in
theorem eachO_any (P T : Nat) (a : Option Addr) (c : Nat) (vs ys : List Int) (w : World) (hP : Row .i64 23 w P ys) (hl : ys.length = 32) (hT : w.cell? ⟨T, 0, none⟩ = some (.slice a 33 c)) (hV : Sl .i64 w a 33 c vs) (dP : T ≠ P) (dV : ∀ p, a = some p → p.block ≠ P) : Calls Try.prog 24 #[.pointer (some ⟨P, 0, none⟩), .func (.func 25) #[] #[.pointer (some ⟨T, 0, none⟩)]] w fun e w' => e = .returned (.tuple #[]) ∧ Row .i64 23 w' P (inP vs ys) ∧ Eff P w w' := by
  have hmf : ∀ (fn : Fn) (first cap : Array Value) (w : World), (Instr.makeFunc fn first cap).run Try.prog w = .ok (.func fn first cap) w := fun _ _ _ _ => rfl
  have hB := hid (Below.refl w.heap.size w)
  have lP := hP.lt
  have lT : T < w.heap.size := World.block_lt_of_cell? w _ hT
  have lV := sl_lt16 hV (by omega)
  replace hP := hid hP
  replace hT := hid hT
  replace hV := hid hV
  replace hl := hid hl
  go_enter Try.func24, Try.ntmps24
  have nw := alloc_new w (.cells #[.func (.func 25) #[] #[.pointer (some ⟨T, 0, none⟩)]] 53)
  have hA := nw.2.1
  have rD := nw.2.2
  clear nw
  go_upto_region 1 with (fail)
  obtain ⟨W1, hW1⟩ : ∃ X, w.alloc (.cells #[.func (.func 25) #[] #[.pointer (some ⟨T, 0, none⟩)]] 53) = X := ⟨_, rfl⟩
  have z1 : W1.heap.size = w.heap.size + 1 := by rw [← hW1]; exact Array.size_push _
  rw [hW1] at hA rD ⊢
  obtain ⟨D, hD⟩ : ∃ X, w.heap.size = X := ⟨_, rfl⟩
  rw [hD] at rD z1 ⊢
  replace hW1 := hid hW1
  replace hD := hid hD
  replace z1 := hid z1
  replace hP := hid (hP.out.below hA)
  replace hV := hid (hV.out.below hA)
  replace hT := hid ((Below.cell hA (World.block_lt_of_cell? _ _ hT.out)).trans hT.out)
  replace rD := hid rD
  replace hB := hid (bthen hB.out hA)
  clear hA
  have nw := alloc_new W1 (.cells #[.int .i64 0] 2)
  have hA := nw.2.1
  have rN := nw.2.2
  clear nw
  go_upto_region 2 with (fail)
  obtain ⟨W2, hW2⟩ : ∃ X, W1.alloc (.cells #[.int .i64 0] 2) = X := ⟨_, rfl⟩
  have z2 : W2.heap.size = W1.heap.size + 1 := by rw [← hW2]; exact Array.size_push _
  rw [hW2] at hA rN ⊢
  obtain ⟨N, hN⟩ : ∃ X, W1.heap.size = X := ⟨_, rfl⟩
  rw [hN] at rN z2 ⊢
  replace hW2 := hid hW2
  replace hN := hid hN
  replace z2 := hid z2
  replace hP := hid (hP.out.below hA)
  replace hV := hid (hV.out.below hA)
  replace hT := hid ((Below.cell hA (World.block_lt_of_cell? _ _ hT.out)).trans hT.out)
  replace rD := hid (held_after hA rD.out)
  replace rN := hid rN
  replace hB := hid (bthen hB.out hA)
  clear hA
  have nw := alloc_new W2 (.cells #[.int .i64 0] 3)
  have hA := nw.2.1
  have rG := nw.2.2
  clear nw
  go_upto_region 3 with (fail)
  obtain ⟨W3, hW3⟩ : ∃ X, W2.alloc (.cells #[.int .i64 0] 3) = X := ⟨_, rfl⟩
  have z3 : W3.heap.size = W2.heap.size + 1 := by rw [← hW3]; exact Array.size_push _
  rw [hW3] at hA rG ⊢
  obtain ⟨G, hG⟩ : ∃ X, W2.heap.size = X := ⟨_, rfl⟩
  rw [hG] at rG z3 ⊢
  replace hW3 := hid hW3
  replace hG := hid hG
  replace z3 := hid z3
  replace hP := hid (hP.out.below hA)
  replace hV := hid (hV.out.below hA)
  replace hT := hid ((Below.cell hA (World.block_lt_of_cell? _ _ hT.out)).trans hT.out)
  replace rD := hid (held_after hA rD.out)
  replace rN := hid (held_after hA rN.out)
  replace rG := hid rG
  replace hB := hid (bthen hB.out hA)
  clear hA
  replace hD := hD.out
  replace hN := hN.out
  replace hG := hG.out
  replace z1 := z1.out
  replace z2 := z2.out
  replace z3 := z3.out
  have dD : D ≠ G ∧ D ≠ P ∧ D ≠ N := by omega
  have dTT : T ≠ G ∧ T ≠ P ∧ T ≠ N := by omega
  have dGV : G ≠ P ∧ G ≠ N ∧ P ≠ N := by omega
  have dVV := hid (fun (_ : 0 < 33) (p : Addr) (e : a = some p) => show p.block ≠ G ∧ p.block ≠ P ∧ p.block ≠ N by have h1 := lV p e; have h2 := dV p e; omega)
  have gG : w.heap.size ≤ G := by omega
  have gN : w.heap.size ≤ N := by omega
  have lG : G < W3.heap.size := by omega
  have lN : N < W3.heap.size := by omega
  have lP3 : P < W3.heap.size := by omega
  replace hD := hid hD
  replace hN := hid hN
  replace hG := hid hG
  replace z1 := hid z1
  replace z2 := hid z2
  replace z3 := hid z3
  have hE := hid (eff_after16 (g := P) hB.out)
  clear hB lV dV
  have hNr := hid (show Row .i64 2 W3 N [0] from rN.out)
  have hGr := hid (show W3.heap[G]? = some (.cells #[.int .i64 ((0 : Nat) : Int)] 3 (0, 0)) from rG.out)
  have hDc := hid (held_cell rD.out 0 _ rfl)
  clear rN rG rD
  go_upto_region 4 with (fail)
  refine wp_region_T none 32 (by kernel_rfl) ?_
  refine wpAnyT_take 0 rfl (by kernel_rfl) (by kernel_rfl) (by kernel_rfl) (by kernel_rfl) (fun _ _ _ _ h => h) ⟨_, Or.inl ⟨by rfl, fun w2 hb2 => by (go_simp; try with_reducible rfl)⟩, _, by (go_simp; try rfl), ?_⟩
  refine wpAnyT_takeP 1 rfl (by kernel_rfl) (by kernel_rfl) (by kernel_rfl) (fun _ _ _ _ h => h) ⟨_, Or.inl ⟨by rfl, fun w2 _ => by (go_simp; try with_reducible rfl)⟩, _, by (go_simp; try rfl), ?_⟩
  refine wpAnyT_takeP 2 rfl (by kernel_rfl) (by kernel_rfl) (by kernel_rfl) (fun _ _ _ _ h => h) ⟨_, Or.inl ⟨by rfl, fun w2 _ => by (go_simp; try with_reducible rfl)⟩, _, by (go_simp; try rfl), ?_⟩
  refine wpAnyT_takeP 3 rfl (by kernel_rfl) (by kernel_rfl) (by kernel_rfl) (fun _ _ _ _ h => h) ⟨_, Or.inl ⟨by rfl, fun w2 _ => by (go_simp; try with_reducible rfl)⟩, _, by (go_simp; try rfl), ?_⟩
  refine wpAnyT_takeP 4 rfl (by kernel_rfl) (by kernel_rfl) (by kernel_rfl) (fun _ _ _ _ h => h) ⟨_, Or.inl ⟨by rfl, fun w2 _ => by (go_simp; try with_reducible rfl)⟩, _, by (go_simp; try rfl), ?_⟩
  refine wpAnyT_takeP 5 rfl (by kernel_rfl) (by kernel_rfl) (by kernel_rfl) (fun _ _ _ _ h => h) ⟨_, Or.inl ⟨by rfl, fun w2 _ => by (go_simp; try with_reducible rfl)⟩, _, by (go_simp; try rfl), ?_⟩
  refine wpAnyT_takeP 6 rfl (by kernel_rfl) (by kernel_rfl) (by kernel_rfl) (fun _ _ _ _ h => h) ⟨_, Or.inl ⟨by rfl, fun w2 _ => by (go_simp; try with_reducible rfl)⟩, _, by (go_simp; try rfl), ?_⟩
  refine wpAnyT_takeP 7 rfl (by kernel_rfl) (by kernel_rfl) (by kernel_rfl) (fun _ _ _ _ h => h) ⟨_, Or.inl ⟨by rfl, fun w2 _ => by (go_simp; try with_reducible rfl)⟩, _, by (go_simp; try rfl), ?_⟩
  refine wpAnyT_takeP 8 rfl (by kernel_rfl) (by kernel_rfl) (by kernel_rfl) (fun _ _ _ _ h => h) ⟨_, Or.inl ⟨by rfl, fun w2 _ => by (go_simp; try with_reducible rfl)⟩, _, by (go_simp; try rfl), ?_⟩
  refine wpAnyT_takeP 9 rfl (by kernel_rfl) (by kernel_rfl) (by kernel_rfl) (fun _ _ _ _ h => h) ⟨_, Or.inl ⟨by rfl, fun w2 _ => by (go_simp; try with_reducible rfl)⟩, _, by (go_simp; try rfl), ?_⟩
  refine wpAnyT_takeP 10 rfl (by kernel_rfl) (by kernel_rfl) (by kernel_rfl) (fun _ _ _ _ h => h) ⟨_, Or.inl ⟨by rfl, fun w2 _ => by (go_simp; try with_reducible rfl)⟩, _, by (go_simp; try rfl), ?_⟩
  refine wpAnyT_takeP 11 rfl (by kernel_rfl) (by kernel_rfl) (by kernel_rfl) (fun _ _ _ _ h => h) ⟨_, Or.inl ⟨by rfl, fun w2 _ => by (go_simp; try with_reducible rfl)⟩, _, by (go_simp; try rfl), ?_⟩
  refine wpAnyT_takeP 12 rfl (by kernel_rfl) (by kernel_rfl) (by kernel_rfl) (fun _ _ _ _ h => h) ⟨_, Or.inl ⟨by rfl, fun w2 _ => by (go_simp; try with_reducible rfl)⟩, _, by (go_simp; try rfl), ?_⟩
  refine wpAnyT_takeP 13 rfl (by kernel_rfl) (by kernel_rfl) (by kernel_rfl) (fun _ _ _ _ h => h) ⟨_, Or.inl ⟨by rfl, fun w2 _ => by (go_simp; try with_reducible rfl)⟩, _, by (go_simp; try rfl), ?_⟩
  refine wpAnyT_takeP 14 rfl (by kernel_rfl) (by kernel_rfl) (by kernel_rfl) (fun _ _ _ _ h => h) ⟨_, Or.inl ⟨by rfl, fun w2 _ => by (go_simp; try with_reducible rfl)⟩, _, by (go_simp; try rfl), ?_⟩
  refine wpAnyT_takeP 15 rfl (by kernel_rfl) (by kernel_rfl) (by kernel_rfl) (fun _ _ _ _ h => h) ⟨_, Or.inl ⟨by rfl, fun w2 _ => by (go_simp; try with_reducible rfl)⟩, _, by (go_simp; try rfl), ?_⟩
  refine wpAnyT_takeP 16 rfl (by kernel_rfl) (by kernel_rfl) (by kernel_rfl) (fun _ _ _ _ h => h) ⟨_, Or.inl ⟨by rfl, fun w2 _ => by (go_simp; try with_reducible rfl)⟩, _, by (go_simp; try rfl), ?_⟩
  refine wpAnyT_takeP 17 rfl (by kernel_rfl) (by kernel_rfl) (by kernel_rfl) (fun _ _ _ _ h => h) ⟨_, Or.inl ⟨by rfl, fun w2 _ => by (go_simp; try with_reducible rfl)⟩, _, by (go_simp; try rfl), ?_⟩
  refine wpAnyT_takeP 18 rfl (by kernel_rfl) (by kernel_rfl) (by kernel_rfl) (fun _ _ _ _ h => h) ⟨_, Or.inl ⟨by rfl, fun w2 _ => by (go_simp; try with_reducible rfl)⟩, _, by (go_simp; try rfl), ?_⟩
  refine wpAnyT_takeP 19 rfl (by kernel_rfl) (by kernel_rfl) (by kernel_rfl) (fun _ _ _ _ h => h) ⟨_, Or.inl ⟨by rfl, fun w2 _ => by (go_simp; try with_reducible rfl)⟩, _, by (go_simp; try rfl), ?_⟩
  refine wpAnyT_takeP 20 rfl (by kernel_rfl) (by kernel_rfl) (by kernel_rfl) (fun _ _ _ _ h => h) ⟨_, Or.inl ⟨by rfl, fun w2 _ => by (go_simp; try with_reducible rfl)⟩, _, by (go_simp; try rfl), ?_⟩
  refine wpAnyT_takeP 21 rfl (by kernel_rfl) (by kernel_rfl) (by kernel_rfl) (fun _ _ _ _ h => h) ⟨_, Or.inl ⟨by rfl, fun w2 _ => by (go_simp; try with_reducible rfl)⟩, _, by (go_simp; try rfl), ?_⟩
  refine wpAnyT_takeP 22 rfl (by kernel_rfl) (by kernel_rfl) (by kernel_rfl) (fun _ _ _ _ h => h) ⟨_, Or.inl ⟨by rfl, fun w2 _ => by (go_simp; try with_reducible rfl)⟩, _, by (go_simp; try rfl), ?_⟩
  refine wpAnyT_takeP 23 rfl (by kernel_rfl) (by kernel_rfl) (by kernel_rfl) (fun _ _ _ _ h => h) ⟨_, Or.inl ⟨by rfl, fun w2 _ => by (go_simp; try with_reducible rfl)⟩, _, by (go_simp; try rfl), ?_⟩
  refine wpAnyT_takeP 24 rfl (by kernel_rfl) (by kernel_rfl) (by kernel_rfl) (fun _ _ _ _ h => h) ⟨_, Or.inl ⟨by rfl, fun w2 _ => by (go_simp; try with_reducible rfl)⟩, _, by (go_simp; try rfl), ?_⟩
  refine wpAnyT_takeP 25 rfl (by kernel_rfl) (by kernel_rfl) (by kernel_rfl) (fun _ _ _ _ h => h) ⟨_, Or.inl ⟨by rfl, fun w2 _ => by (go_simp; try with_reducible rfl)⟩, _, by (go_simp; try rfl), ?_⟩
  refine wpAnyT_takeP 26 rfl (by kernel_rfl) (by kernel_rfl) (by kernel_rfl) (fun _ _ _ _ h => h) ⟨_, Or.inl ⟨by rfl, fun w2 _ => by (go_simp; try with_reducible rfl)⟩, _, by (go_simp; try rfl), ?_⟩
  refine wpAnyT_takeP 27 rfl (by kernel_rfl) (by kernel_rfl) (by kernel_rfl) (fun _ _ _ _ h => h) ⟨_, Or.inl ⟨by rfl, fun w2 _ => by (go_simp; try with_reducible rfl)⟩, _, by (go_simp; try rfl), ?_⟩
  refine wpAnyT_takeP 28 rfl (by kernel_rfl) (by kernel_rfl) (by kernel_rfl) (fun _ _ _ _ h => h) ⟨_, Or.inl ⟨by rfl, fun w2 _ => by (go_simp; try with_reducible rfl)⟩, _, by (go_simp; try rfl), ?_⟩
  refine wpAnyT_takeP 29 rfl (by kernel_rfl) (by kernel_rfl) (by kernel_rfl) (fun _ _ _ _ h => h) ⟨_, Or.inl ⟨by rfl, fun w2 _ => by (go_simp; try with_reducible rfl)⟩, _, by (go_simp; try rfl), ?_⟩
  refine wpAnyT_takeP 30 rfl (by kernel_rfl) (by kernel_rfl) (by kernel_rfl) (fun _ _ _ _ h => h) ⟨_, Or.inl ⟨by rfl, fun w2 _ => by (go_simp; try with_reducible rfl)⟩, _, by (go_simp; try rfl), ?_⟩
  refine wpAnyT_only 31 rfl (by kernel_rfl) (by rfl) (fun K hK => ?_)
  go_simp
  have nQ := alloc_new W3 (.cells #[.pointer (some ⟨P, 0, none⟩), .pointer (some ⟨P, 1, none⟩), .pointer (some ⟨P, 2, none⟩), .pointer (some ⟨P, 3, none⟩), .pointer (some ⟨P, 4, none⟩), .pointer (some ⟨P, 5, none⟩), .pointer (some ⟨P, 6, none⟩), .pointer (some ⟨P, 7, none⟩), .pointer (some ⟨P, 8, none⟩), .pointer (some ⟨P, 9, none⟩)] 52)
  have hAQ : After W3.drew (W3.alloc (.cells #[.pointer (some ⟨P, 0, none⟩), .pointer (some ⟨P, 1, none⟩), .pointer (some ⟨P, 2, none⟩), .pointer (some ⟨P, 3, none⟩), .pointer (some ⟨P, 4, none⟩), .pointer (some ⟨P, 5, none⟩), .pointer (some ⟨P, 6, none⟩), .pointer (some ⟨P, 7, none⟩), .pointer (some ⟨P, 8, none⟩), .pointer (some ⟨P, 9, none⟩)] 52)).drew := after_drews nQ.2.1
  have hQh : (W3.alloc (.cells #[.pointer (some ⟨P, 0, none⟩), .pointer (some ⟨P, 1, none⟩), .pointer (some ⟨P, 2, none⟩), .pointer (some ⟨P, 3, none⟩), .pointer (some ⟨P, 4, none⟩), .pointer (some ⟨P, 5, none⟩), .pointer (some ⟨P, 6, none⟩), .pointer (some ⟨P, 7, none⟩), .pointer (some ⟨P, 8, none⟩), .pointer (some ⟨P, 9, none⟩)] 52)).drew.heap[W3.heap.size]? = _ := nQ.2.2
  refine hK _ _ ⟨fun _ => rx_after hAQ, ?_⟩
  clear hK
  obtain ⟨X0, hX0⟩ : ∃ X, (W3.alloc (.cells #[.pointer (some ⟨P, 0, none⟩), .pointer (some ⟨P, 1, none⟩), .pointer (some ⟨P, 2, none⟩), .pointer (some ⟨P, 3, none⟩), .pointer (some ⟨P, 4, none⟩), .pointer (some ⟨P, 5, none⟩), .pointer (some ⟨P, 6, none⟩), .pointer (some ⟨P, 7, none⟩), .pointer (some ⟨P, 8, none⟩), .pointer (some ⟨P, 9, none⟩)] 52)).drew = X := ⟨_, rfl⟩
  obtain ⟨Q0, hQ0⟩ : ∃ X, W3.heap.size = X := ⟨_, rfl⟩
  rw [hX0] at hAQ hQh
  rw [hQ0] at hQh
  try rw [hX0]
  try rw [hQ0]
  have dQ : Q0 ≠ G ∧ Q0 ≠ P ∧ Q0 ≠ N := by omega
  clear nQ
  replace hX0 := hid hX0
  replace hQ0 := hid hQ0
  have hA := hid (show After W3 X0 from bthen (Below.refl _ W3).drew hAQ)
  clear hAQ
  refine wpAnyT_only 32 rfl (by kernel_rfl) (by rfl) (fun K hK => ?_)
  go_simp
  refine (nxt2_any D G T P N Q0 10 0 a 33 c qA vs ys 0 _ ((Below.cell hA.out (World.block_lt_of_cell? _ _ hDc.out)).trans hDc.out) (held_after hA.out hGr.out) ((Below.cell hA.out (World.block_lt_of_cell? _ _ hT.out)).trans hT.out) (hV.out.below hA.out) (by omega) (by omega) (hP.out.below hA.out) (hNr.out.below hA.out) rfl (by (try simp only [stP_len]); rw [hl.out]; exact qA_lt) (ptrs_cell (P := P) (N := N) (q := qA) (T := 52) hQh) dD dTT dQ dVV.out dGV).mono ?_
  rintro e Y1 ⟨rfl, hG9, hP9, hN9, hE9⟩
  go_simp
  refine hK _ _ ⟨fun h => (h rfl).elim, ?_⟩
  clear hK
  replace hV := hid (sl_eff3 (hV.out.below hA.out) hE9 dVV.out)
  replace hP := hid hP9
  replace hNr := hid hN9
  replace hDc := hid (hE9.cell ((Below.cell hA.out (World.block_lt_of_cell? _ _ hDc.out)).trans hDc.out) dD.1 dD.2.1 dD.2.2)
  replace hT := hid (hE9.cell ((Below.cell hA.out (World.block_lt_of_cell? _ _ hT.out)).trans hT.out) dTT.1 dTT.2.1 dTT.2.2)
  replace hGr := hid hG9
  have lY0 : G < Y1.heap.size ∧ N < Y1.heap.size ∧ P < Y1.heap.size ∧ W3.heap.size ≤ Y1.heap.size := by have h1 := hA.out.size; have h2 := hE9.size; omega
  replace hE := hid (eff_three (eff_trans16 hE.out (eff_after16 hA.out)) hE9 gG gN)
  clear hG9 hP9 hN9 hE9 hA hQh dQ
  refine wpAnyT_done (by kernel_rfl) ?_ _
  go_upto_region 5 with (fail)
  refine wp_region_T none 26 (by kernel_rfl) ?_
  refine wpAnyT_take 0 rfl (by kernel_rfl) (by kernel_rfl) (by kernel_rfl) (by kernel_rfl) (fun _ _ _ _ h => h) ⟨_, Or.inl ⟨by rfl, fun w2 hb2 => by (go_simp; try with_reducible rfl)⟩, _, by (go_simp; try rfl), ?_⟩
  refine wpAnyT_takeP 1 rfl (by kernel_rfl) (by kernel_rfl) (by kernel_rfl) (fun _ _ _ _ h => h) ⟨_, Or.inl ⟨by rfl, fun w2 _ => by (go_simp; try with_reducible rfl)⟩, _, by (go_simp; try rfl), ?_⟩
  refine wpAnyT_takeP 2 rfl (by kernel_rfl) (by kernel_rfl) (by kernel_rfl) (fun _ _ _ _ h => h) ⟨_, Or.inl ⟨by rfl, fun w2 _ => by (go_simp; try with_reducible rfl)⟩, _, by (go_simp; try rfl), ?_⟩
  refine wpAnyT_takeP 3 rfl (by kernel_rfl) (by kernel_rfl) (by kernel_rfl) (fun _ _ _ _ h => h) ⟨_, Or.inl ⟨by rfl, fun w2 _ => by (go_simp; try with_reducible rfl)⟩, _, by (go_simp; try rfl), ?_⟩
  refine wpAnyT_takeP 4 rfl (by kernel_rfl) (by kernel_rfl) (by kernel_rfl) (fun _ _ _ _ h => h) ⟨_, Or.inl ⟨by rfl, fun w2 _ => by (go_simp; try with_reducible rfl)⟩, _, by (go_simp; try rfl), ?_⟩
  refine wpAnyT_takeP 5 rfl (by kernel_rfl) (by kernel_rfl) (by kernel_rfl) (fun _ _ _ _ h => h) ⟨_, Or.inl ⟨by rfl, fun w2 _ => by (go_simp; try with_reducible rfl)⟩, _, by (go_simp; try rfl), ?_⟩
  refine wpAnyT_takeP 6 rfl (by kernel_rfl) (by kernel_rfl) (by kernel_rfl) (fun _ _ _ _ h => h) ⟨_, Or.inl ⟨by rfl, fun w2 _ => by (go_simp; try with_reducible rfl)⟩, _, by (go_simp; try rfl), ?_⟩
  refine wpAnyT_takeP 7 rfl (by kernel_rfl) (by kernel_rfl) (by kernel_rfl) (fun _ _ _ _ h => h) ⟨_, Or.inl ⟨by rfl, fun w2 _ => by (go_simp; try with_reducible rfl)⟩, _, by (go_simp; try rfl), ?_⟩
  refine wpAnyT_takeP 8 rfl (by kernel_rfl) (by kernel_rfl) (by kernel_rfl) (fun _ _ _ _ h => h) ⟨_, Or.inl ⟨by rfl, fun w2 _ => by (go_simp; try with_reducible rfl)⟩, _, by (go_simp; try rfl), ?_⟩
  refine wpAnyT_takeP 9 rfl (by kernel_rfl) (by kernel_rfl) (by kernel_rfl) (fun _ _ _ _ h => h) ⟨_, Or.inl ⟨by rfl, fun w2 _ => by (go_simp; try with_reducible rfl)⟩, _, by (go_simp; try rfl), ?_⟩
  refine wpAnyT_takeP 10 rfl (by kernel_rfl) (by kernel_rfl) (by kernel_rfl) (fun _ _ _ _ h => h) ⟨_, Or.inl ⟨by rfl, fun w2 _ => by (go_simp; try with_reducible rfl)⟩, _, by (go_simp; try rfl), ?_⟩
  refine wpAnyT_takeP 11 rfl (by kernel_rfl) (by kernel_rfl) (by kernel_rfl) (fun _ _ _ _ h => h) ⟨_, Or.inl ⟨by rfl, fun w2 _ => by (go_simp; try with_reducible rfl)⟩, _, by (go_simp; try rfl), ?_⟩
  refine wpAnyT_takeP 12 rfl (by kernel_rfl) (by kernel_rfl) (by kernel_rfl) (fun _ _ _ _ h => h) ⟨_, Or.inl ⟨by rfl, fun w2 _ => by (go_simp; try with_reducible rfl)⟩, _, by (go_simp; try rfl), ?_⟩
  refine wpAnyT_takeP 13 rfl (by kernel_rfl) (by kernel_rfl) (by kernel_rfl) (fun _ _ _ _ h => h) ⟨_, Or.inl ⟨by rfl, fun w2 _ => by (go_simp; try with_reducible rfl)⟩, _, by (go_simp; try rfl), ?_⟩
  refine wpAnyT_takeP 14 rfl (by kernel_rfl) (by kernel_rfl) (by kernel_rfl) (fun _ _ _ _ h => h) ⟨_, Or.inl ⟨by rfl, fun w2 _ => by (go_simp; try with_reducible rfl)⟩, _, by (go_simp; try rfl), ?_⟩
  refine wpAnyT_takeP 15 rfl (by kernel_rfl) (by kernel_rfl) (by kernel_rfl) (fun _ _ _ _ h => h) ⟨_, Or.inl ⟨by rfl, fun w2 _ => by (go_simp; try with_reducible rfl)⟩, _, by (go_simp; try rfl), ?_⟩
  refine wpAnyT_takeP 16 rfl (by kernel_rfl) (by kernel_rfl) (by kernel_rfl) (fun _ _ _ _ h => h) ⟨_, Or.inl ⟨by rfl, fun w2 _ => by (go_simp; try with_reducible rfl)⟩, _, by (go_simp; try rfl), ?_⟩
  refine wpAnyT_takeP 17 rfl (by kernel_rfl) (by kernel_rfl) (by kernel_rfl) (fun _ _ _ _ h => h) ⟨_, Or.inl ⟨by rfl, fun w2 _ => by (go_simp; try with_reducible rfl)⟩, _, by (go_simp; try rfl), ?_⟩
  refine wpAnyT_takeP 18 rfl (by kernel_rfl) (by kernel_rfl) (by kernel_rfl) (fun _ _ _ _ h => h) ⟨_, Or.inl ⟨by rfl, fun w2 _ => by (go_simp; try with_reducible rfl)⟩, _, by (go_simp; try rfl), ?_⟩
  refine wpAnyT_takeP 19 rfl (by kernel_rfl) (by kernel_rfl) (by kernel_rfl) (fun _ _ _ _ h => h) ⟨_, Or.inl ⟨by rfl, fun w2 _ => by (go_simp; try with_reducible rfl)⟩, _, by (go_simp; try rfl), ?_⟩
  refine wpAnyT_takeP 20 rfl (by kernel_rfl) (by kernel_rfl) (by kernel_rfl) (fun _ _ _ _ h => h) ⟨_, Or.inl ⟨by rfl, fun w2 _ => by (go_simp; try with_reducible rfl)⟩, _, by (go_simp; try rfl), ?_⟩
  refine wpAnyT_takeP 21 rfl (by kernel_rfl) (by kernel_rfl) (by kernel_rfl) (fun _ _ _ _ h => h) ⟨_, Or.inl ⟨by rfl, fun w2 _ => by (go_simp; try with_reducible rfl)⟩, _, by (go_simp; try rfl), ?_⟩
  refine wpAnyT_takeP 22 rfl (by kernel_rfl) (by kernel_rfl) (by kernel_rfl) (fun _ _ _ _ h => h) ⟨_, Or.inl ⟨by rfl, fun w2 _ => by (go_simp; try with_reducible rfl)⟩, _, by (go_simp; try rfl), ?_⟩
  refine wpAnyT_takeP 23 rfl (by kernel_rfl) (by kernel_rfl) (by kernel_rfl) (fun _ _ _ _ h => h) ⟨_, Or.inl ⟨by rfl, fun w2 _ => by (go_simp; try with_reducible rfl)⟩, _, by (go_simp; try rfl), ?_⟩
  refine wpAnyT_takeP 24 rfl (by kernel_rfl) (by kernel_rfl) (by kernel_rfl) (fun _ _ _ _ h => h) ⟨_, Or.inl ⟨by rfl, fun w2 _ => by (go_simp; try with_reducible rfl)⟩, _, by (go_simp; try rfl), ?_⟩
  refine wpAnyT_only 25 rfl (by kernel_rfl) (by rfl) (fun K hK => ?_)
  go_simp
  have nQ := alloc_new Y1 (.cells #[.pointer (some ⟨P, 10, none⟩), .pointer (some ⟨P, 11, none⟩), .pointer (some ⟨P, 12, none⟩), .pointer (some ⟨P, 13, none⟩), .pointer (some ⟨P, 14, none⟩), .pointer (some ⟨P, 15, none⟩), .pointer (some ⟨P, 16, none⟩), .pointer (some ⟨P, 17, none⟩)] 52)
  have hAQ : After Y1.drew (Y1.alloc (.cells #[.pointer (some ⟨P, 10, none⟩), .pointer (some ⟨P, 11, none⟩), .pointer (some ⟨P, 12, none⟩), .pointer (some ⟨P, 13, none⟩), .pointer (some ⟨P, 14, none⟩), .pointer (some ⟨P, 15, none⟩), .pointer (some ⟨P, 16, none⟩), .pointer (some ⟨P, 17, none⟩)] 52)).drew := after_drews nQ.2.1
  have hQh : (Y1.alloc (.cells #[.pointer (some ⟨P, 10, none⟩), .pointer (some ⟨P, 11, none⟩), .pointer (some ⟨P, 12, none⟩), .pointer (some ⟨P, 13, none⟩), .pointer (some ⟨P, 14, none⟩), .pointer (some ⟨P, 15, none⟩), .pointer (some ⟨P, 16, none⟩), .pointer (some ⟨P, 17, none⟩)] 52)).drew.heap[Y1.heap.size]? = _ := nQ.2.2
  refine hK _ _ ⟨fun _ => rx_after hAQ, ?_⟩
  clear hK
  obtain ⟨X1, hX1⟩ : ∃ X, (Y1.alloc (.cells #[.pointer (some ⟨P, 10, none⟩), .pointer (some ⟨P, 11, none⟩), .pointer (some ⟨P, 12, none⟩), .pointer (some ⟨P, 13, none⟩), .pointer (some ⟨P, 14, none⟩), .pointer (some ⟨P, 15, none⟩), .pointer (some ⟨P, 16, none⟩), .pointer (some ⟨P, 17, none⟩)] 52)).drew = X := ⟨_, rfl⟩
  obtain ⟨Q1, hQ1⟩ : ∃ X, Y1.heap.size = X := ⟨_, rfl⟩
  rw [hX1] at hAQ hQh
  rw [hQ1] at hQh
  try rw [hX1]
  try rw [hQ1]
  have dQ : Q1 ≠ G ∧ Q1 ≠ P ∧ Q1 ≠ N := by omega
  clear nQ
  replace hX1 := hid hX1
  replace hQ1 := hid hQ1
  have hA := hid (show After Y1 X1 from bthen (Below.refl _ Y1).drew hAQ)
  clear hAQ
  refine wpAnyT_only 26 rfl (by kernel_rfl) (by rfl) (fun K hK => ?_)
  go_simp
  refine (nxt2_any D G T P N Q1 8 10 a 33 c qB vs (stP qA (vs.drop 0) ys) (stN qA (vs.drop 0) 0) _ ((Below.cell hA.out (World.block_lt_of_cell? _ _ hDc.out)).trans hDc.out) (held_after hA.out hGr.out) ((Below.cell hA.out (World.block_lt_of_cell? _ _ hT.out)).trans hT.out) (hV.out.below hA.out) (by omega) (by omega) (hP.out.below hA.out) (hNr.out.below hA.out) rfl (by (try simp only [stP_len]); rw [hl.out]; exact qB_lt) (ptrs_cell (P := P) (N := N) (q := qB) (T := 52) hQh) dD dTT dQ dVV.out dGV).mono ?_
  rintro e Y2 ⟨rfl, hG9, hP9, hN9, hE9⟩
  go_simp
  refine hK _ _ ⟨fun h => (h rfl).elim, ?_⟩
  clear hK
  replace hV := hid (sl_eff3 (hV.out.below hA.out) hE9 dVV.out)
  replace hP := hid hP9
  replace hNr := hid hN9
  replace hDc := hid (hE9.cell ((Below.cell hA.out (World.block_lt_of_cell? _ _ hDc.out)).trans hDc.out) dD.1 dD.2.1 dD.2.2)
  replace hT := hid (hE9.cell ((Below.cell hA.out (World.block_lt_of_cell? _ _ hT.out)).trans hT.out) dTT.1 dTT.2.1 dTT.2.2)
  replace hGr := hid hG9
  have lY1 : G < Y2.heap.size ∧ N < Y2.heap.size ∧ P < Y2.heap.size ∧ Y1.heap.size ≤ Y2.heap.size := by have h1 := hA.out.size; have h2 := hE9.size; omega
  replace hE := hid (eff_three (eff_trans16 hE.out (eff_after16 hA.out)) hE9 gG gN)
  clear hG9 hP9 hN9 hE9 hA hQh dQ
  refine wpAnyT_done (by kernel_rfl) ?_ _
  go_upto_region 6 with (fail)
  refine wp_region_T none 23 (by kernel_rfl) ?_
  refine wpAnyT_take 0 rfl (by kernel_rfl) (by kernel_rfl) (by kernel_rfl) (by kernel_rfl) (fun _ _ _ _ h => h) ⟨_, Or.inl ⟨by rfl, fun w2 hb2 => by (go_simp; try with_reducible rfl)⟩, _, by (go_simp; try rfl), ?_⟩
  refine wpAnyT_takeP 1 rfl (by kernel_rfl) (by kernel_rfl) (by kernel_rfl) (fun _ _ _ _ h => h) ⟨_, Or.inl ⟨by rfl, fun w2 _ => by (go_simp; try with_reducible rfl)⟩, _, by (go_simp; try rfl), ?_⟩
  refine wpAnyT_takeP 2 rfl (by kernel_rfl) (by kernel_rfl) (by kernel_rfl) (fun _ _ _ _ h => h) ⟨_, Or.inl ⟨by rfl, fun w2 _ => by (go_simp; try with_reducible rfl)⟩, _, by (go_simp; try rfl), ?_⟩
  refine wpAnyT_takeP 3 rfl (by kernel_rfl) (by kernel_rfl) (by kernel_rfl) (fun _ _ _ _ h => h) ⟨_, Or.inl ⟨by rfl, fun w2 _ => by (go_simp; try with_reducible rfl)⟩, _, by (go_simp; try rfl), ?_⟩
  refine wpAnyT_takeP 4 rfl (by kernel_rfl) (by kernel_rfl) (by kernel_rfl) (fun _ _ _ _ h => h) ⟨_, Or.inl ⟨by rfl, fun w2 _ => by (go_simp; try with_reducible rfl)⟩, _, by (go_simp; try rfl), ?_⟩
  refine wpAnyT_takeP 5 rfl (by kernel_rfl) (by kernel_rfl) (by kernel_rfl) (fun _ _ _ _ h => h) ⟨_, Or.inl ⟨by rfl, fun w2 _ => by (go_simp; try with_reducible rfl)⟩, _, by (go_simp; try rfl), ?_⟩
  refine wpAnyT_takeP 6 rfl (by kernel_rfl) (by kernel_rfl) (by kernel_rfl) (fun _ _ _ _ h => h) ⟨_, Or.inl ⟨by rfl, fun w2 _ => by (go_simp; try with_reducible rfl)⟩, _, by (go_simp; try rfl), ?_⟩
  refine wpAnyT_takeP 7 rfl (by kernel_rfl) (by kernel_rfl) (by kernel_rfl) (fun _ _ _ _ h => h) ⟨_, Or.inl ⟨by rfl, fun w2 _ => by (go_simp; try with_reducible rfl)⟩, _, by (go_simp; try rfl), ?_⟩
  refine wpAnyT_takeP 8 rfl (by kernel_rfl) (by kernel_rfl) (by kernel_rfl) (fun _ _ _ _ h => h) ⟨_, Or.inl ⟨by rfl, fun w2 _ => by (go_simp; try with_reducible rfl)⟩, _, by (go_simp; try rfl), ?_⟩
  refine wpAnyT_takeP 9 rfl (by kernel_rfl) (by kernel_rfl) (by kernel_rfl) (fun _ _ _ _ h => h) ⟨_, Or.inl ⟨by rfl, fun w2 _ => by (go_simp; try with_reducible rfl)⟩, _, by (go_simp; try rfl), ?_⟩
  refine wpAnyT_takeP 10 rfl (by kernel_rfl) (by kernel_rfl) (by kernel_rfl) (fun _ _ _ _ h => h) ⟨_, Or.inl ⟨by rfl, fun w2 _ => by (go_simp; try with_reducible rfl)⟩, _, by (go_simp; try rfl), ?_⟩
  refine wpAnyT_takeP 11 rfl (by kernel_rfl) (by kernel_rfl) (by kernel_rfl) (fun _ _ _ _ h => h) ⟨_, Or.inl ⟨by rfl, fun w2 _ => by (go_simp; try with_reducible rfl)⟩, _, by (go_simp; try rfl), ?_⟩
  refine wpAnyT_takeP 12 rfl (by kernel_rfl) (by kernel_rfl) (by kernel_rfl) (fun _ _ _ _ h => h) ⟨_, Or.inl ⟨by rfl, fun w2 _ => by (go_simp; try with_reducible rfl)⟩, _, by (go_simp; try rfl), ?_⟩
  refine wpAnyT_takeP 13 rfl (by kernel_rfl) (by kernel_rfl) (by kernel_rfl) (fun _ _ _ _ h => h) ⟨_, Or.inl ⟨by rfl, fun w2 _ => by (go_simp; try with_reducible rfl)⟩, _, by (go_simp; try rfl), ?_⟩
  refine wpAnyT_takeP 14 rfl (by kernel_rfl) (by kernel_rfl) (by kernel_rfl) (fun _ _ _ _ h => h) ⟨_, Or.inl ⟨by rfl, fun w2 _ => by (go_simp; try with_reducible rfl)⟩, _, by (go_simp; try rfl), ?_⟩
  refine wpAnyT_takeP 15 rfl (by kernel_rfl) (by kernel_rfl) (by kernel_rfl) (fun _ _ _ _ h => h) ⟨_, Or.inl ⟨by rfl, fun w2 _ => by (go_simp; try with_reducible rfl)⟩, _, by (go_simp; try rfl), ?_⟩
  refine wpAnyT_takeP 16 rfl (by kernel_rfl) (by kernel_rfl) (by kernel_rfl) (fun _ _ _ _ h => h) ⟨_, Or.inl ⟨by rfl, fun w2 _ => by (go_simp; try with_reducible rfl)⟩, _, by (go_simp; try rfl), ?_⟩
  refine wpAnyT_takeP 17 rfl (by kernel_rfl) (by kernel_rfl) (by kernel_rfl) (fun _ _ _ _ h => h) ⟨_, Or.inl ⟨by rfl, fun w2 _ => by (go_simp; try with_reducible rfl)⟩, _, by (go_simp; try rfl), ?_⟩
  refine wpAnyT_takeP 18 rfl (by kernel_rfl) (by kernel_rfl) (by kernel_rfl) (fun _ _ _ _ h => h) ⟨_, Or.inl ⟨by rfl, fun w2 _ => by (go_simp; try with_reducible rfl)⟩, _, by (go_simp; try rfl), ?_⟩
  refine wpAnyT_takeP 19 rfl (by kernel_rfl) (by kernel_rfl) (by kernel_rfl) (fun _ _ _ _ h => h) ⟨_, Or.inl ⟨by rfl, fun w2 _ => by (go_simp; try with_reducible rfl)⟩, _, by (go_simp; try rfl), ?_⟩
  refine wpAnyT_takeP 20 rfl (by kernel_rfl) (by kernel_rfl) (by kernel_rfl) (fun _ _ _ _ h => h) ⟨_, Or.inl ⟨by rfl, fun w2 _ => by (go_simp; try with_reducible rfl)⟩, _, by (go_simp; try rfl), ?_⟩
  refine wpAnyT_takeP 21 rfl (by kernel_rfl) (by kernel_rfl) (by kernel_rfl) (fun _ _ _ _ h => h) ⟨_, Or.inl ⟨by rfl, fun w2 _ => by (go_simp; try with_reducible rfl)⟩, _, by (go_simp; try rfl), ?_⟩
  refine wpAnyT_only 22 rfl (by kernel_rfl) (by rfl) (fun K hK => ?_)
  go_simp
  have nQ := alloc_new Y2 (.cells #[.pointer (some ⟨P, 18, none⟩), .pointer (some ⟨P, 19, none⟩), .pointer (some ⟨P, 20, none⟩), .pointer (some ⟨P, 21, none⟩), .pointer (some ⟨P, 22, none⟩), .pointer (some ⟨P, 23, none⟩), .pointer (some ⟨P, 24, none⟩)] 52)
  have hAQ : After Y2.drew (Y2.alloc (.cells #[.pointer (some ⟨P, 18, none⟩), .pointer (some ⟨P, 19, none⟩), .pointer (some ⟨P, 20, none⟩), .pointer (some ⟨P, 21, none⟩), .pointer (some ⟨P, 22, none⟩), .pointer (some ⟨P, 23, none⟩), .pointer (some ⟨P, 24, none⟩)] 52)).drew := after_drews nQ.2.1
  have hQh : (Y2.alloc (.cells #[.pointer (some ⟨P, 18, none⟩), .pointer (some ⟨P, 19, none⟩), .pointer (some ⟨P, 20, none⟩), .pointer (some ⟨P, 21, none⟩), .pointer (some ⟨P, 22, none⟩), .pointer (some ⟨P, 23, none⟩), .pointer (some ⟨P, 24, none⟩)] 52)).drew.heap[Y2.heap.size]? = _ := nQ.2.2
  refine hK _ _ ⟨fun _ => rx_after hAQ, ?_⟩
  clear hK
  obtain ⟨X2, hX2⟩ : ∃ X, (Y2.alloc (.cells #[.pointer (some ⟨P, 18, none⟩), .pointer (some ⟨P, 19, none⟩), .pointer (some ⟨P, 20, none⟩), .pointer (some ⟨P, 21, none⟩), .pointer (some ⟨P, 22, none⟩), .pointer (some ⟨P, 23, none⟩), .pointer (some ⟨P, 24, none⟩)] 52)).drew = X := ⟨_, rfl⟩
  obtain ⟨Q2, hQ2⟩ : ∃ X, Y2.heap.size = X := ⟨_, rfl⟩
  rw [hX2] at hAQ hQh
  rw [hQ2] at hQh
  try rw [hX2]
  try rw [hQ2]
  have dQ : Q2 ≠ G ∧ Q2 ≠ P ∧ Q2 ≠ N := by omega
  clear nQ
  replace hX2 := hid hX2
  replace hQ2 := hid hQ2
  have hA := hid (show After Y2 X2 from bthen (Below.refl _ Y2).drew hAQ)
  clear hAQ
  refine wpAnyT_only 23 rfl (by kernel_rfl) (by rfl) (fun K hK => ?_)
  go_simp
  refine (nxt2_any D G T P N Q2 7 18 a 33 c qC vs (stP qB (vs.drop 10) (stP qA (vs.drop 0) ys)) (stN qB (vs.drop 10) (stN qA (vs.drop 0) 0)) _ ((Below.cell hA.out (World.block_lt_of_cell? _ _ hDc.out)).trans hDc.out) (held_after hA.out hGr.out) ((Below.cell hA.out (World.block_lt_of_cell? _ _ hT.out)).trans hT.out) (hV.out.below hA.out) (by omega) (by omega) (hP.out.below hA.out) (hNr.out.below hA.out) rfl (by (try simp only [stP_len]); rw [hl.out]; exact qC_lt) (ptrs_cell (P := P) (N := N) (q := qC) (T := 52) hQh) dD dTT dQ dVV.out dGV).mono ?_
  rintro e Y3 ⟨rfl, hG9, hP9, hN9, hE9⟩
  go_simp
  refine hK _ _ ⟨fun h => (h rfl).elim, ?_⟩
  clear hK
  replace hV := hid (sl_eff3 (hV.out.below hA.out) hE9 dVV.out)
  replace hP := hid hP9
  replace hNr := hid hN9
  replace hDc := hid (hE9.cell ((Below.cell hA.out (World.block_lt_of_cell? _ _ hDc.out)).trans hDc.out) dD.1 dD.2.1 dD.2.2)
  replace hT := hid (hE9.cell ((Below.cell hA.out (World.block_lt_of_cell? _ _ hT.out)).trans hT.out) dTT.1 dTT.2.1 dTT.2.2)
  replace hGr := hid hG9
  have lY2 : G < Y3.heap.size ∧ N < Y3.heap.size ∧ P < Y3.heap.size ∧ Y2.heap.size ≤ Y3.heap.size := by have h1 := hA.out.size; have h2 := hE9.size; omega
  replace hE := hid (eff_three (eff_trans16 hE.out (eff_after16 hA.out)) hE9 gG gN)
  clear hG9 hP9 hN9 hE9 hA hQh dQ
  refine wpAnyT_done (by kernel_rfl) ?_ _
  go_upto_region 7 with (fail)
  refine wp_region_T none 23 (by kernel_rfl) ?_
  refine wpAnyT_take 0 rfl (by kernel_rfl) (by kernel_rfl) (by kernel_rfl) (by kernel_rfl) (fun _ _ _ _ h => h) ⟨_, Or.inl ⟨by rfl, fun w2 hb2 => by (go_simp; try with_reducible rfl)⟩, _, by (go_simp; try rfl), ?_⟩
  refine wpAnyT_takeP 1 rfl (by kernel_rfl) (by kernel_rfl) (by kernel_rfl) (fun _ _ _ _ h => h) ⟨_, Or.inl ⟨by rfl, fun w2 _ => by (go_simp; try with_reducible rfl)⟩, _, by (go_simp; try rfl), ?_⟩
  refine wpAnyT_takeP 2 rfl (by kernel_rfl) (by kernel_rfl) (by kernel_rfl) (fun _ _ _ _ h => h) ⟨_, Or.inl ⟨by rfl, fun w2 _ => by (go_simp; try with_reducible rfl)⟩, _, by (go_simp; try rfl), ?_⟩
  refine wpAnyT_takeP 3 rfl (by kernel_rfl) (by kernel_rfl) (by kernel_rfl) (fun _ _ _ _ h => h) ⟨_, Or.inl ⟨by rfl, fun w2 _ => by (go_simp; try with_reducible rfl)⟩, _, by (go_simp; try rfl), ?_⟩
  refine wpAnyT_takeP 4 rfl (by kernel_rfl) (by kernel_rfl) (by kernel_rfl) (fun _ _ _ _ h => h) ⟨_, Or.inl ⟨by rfl, fun w2 _ => by (go_simp; try with_reducible rfl)⟩, _, by (go_simp; try rfl), ?_⟩
  refine wpAnyT_takeP 5 rfl (by kernel_rfl) (by kernel_rfl) (by kernel_rfl) (fun _ _ _ _ h => h) ⟨_, Or.inl ⟨by rfl, fun w2 _ => by (go_simp; try with_reducible rfl)⟩, _, by (go_simp; try rfl), ?_⟩
  refine wpAnyT_takeP 6 rfl (by kernel_rfl) (by kernel_rfl) (by kernel_rfl) (fun _ _ _ _ h => h) ⟨_, Or.inl ⟨by rfl, fun w2 _ => by (go_simp; try with_reducible rfl)⟩, _, by (go_simp; try rfl), ?_⟩
  refine wpAnyT_takeP 7 rfl (by kernel_rfl) (by kernel_rfl) (by kernel_rfl) (fun _ _ _ _ h => h) ⟨_, Or.inl ⟨by rfl, fun w2 _ => by (go_simp; try with_reducible rfl)⟩, _, by (go_simp; try rfl), ?_⟩
  refine wpAnyT_takeP 8 rfl (by kernel_rfl) (by kernel_rfl) (by kernel_rfl) (fun _ _ _ _ h => h) ⟨_, Or.inl ⟨by rfl, fun w2 _ => by (go_simp; try with_reducible rfl)⟩, _, by (go_simp; try rfl), ?_⟩
  refine wpAnyT_takeP 9 rfl (by kernel_rfl) (by kernel_rfl) (by kernel_rfl) (fun _ _ _ _ h => h) ⟨_, Or.inl ⟨by rfl, fun w2 _ => by (go_simp; try with_reducible rfl)⟩, _, by (go_simp; try rfl), ?_⟩
  refine wpAnyT_takeP 10 rfl (by kernel_rfl) (by kernel_rfl) (by kernel_rfl) (fun _ _ _ _ h => h) ⟨_, Or.inl ⟨by rfl, fun w2 _ => by (go_simp; try with_reducible rfl)⟩, _, by (go_simp; try rfl), ?_⟩
  refine wpAnyT_takeP 11 rfl (by kernel_rfl) (by kernel_rfl) (by kernel_rfl) (fun _ _ _ _ h => h) ⟨_, Or.inl ⟨by rfl, fun w2 _ => by (go_simp; try with_reducible rfl)⟩, _, by (go_simp; try rfl), ?_⟩
  refine wpAnyT_takeP 12 rfl (by kernel_rfl) (by kernel_rfl) (by kernel_rfl) (fun _ _ _ _ h => h) ⟨_, Or.inl ⟨by rfl, fun w2 _ => by (go_simp; try with_reducible rfl)⟩, _, by (go_simp; try rfl), ?_⟩
  refine wpAnyT_takeP 13 rfl (by kernel_rfl) (by kernel_rfl) (by kernel_rfl) (fun _ _ _ _ h => h) ⟨_, Or.inl ⟨by rfl, fun w2 _ => by (go_simp; try with_reducible rfl)⟩, _, by (go_simp; try rfl), ?_⟩
  refine wpAnyT_takeP 14 rfl (by kernel_rfl) (by kernel_rfl) (by kernel_rfl) (fun _ _ _ _ h => h) ⟨_, Or.inl ⟨by rfl, fun w2 _ => by (go_simp; try with_reducible rfl)⟩, _, by (go_simp; try rfl), ?_⟩
  refine wpAnyT_takeP 15 rfl (by kernel_rfl) (by kernel_rfl) (by kernel_rfl) (fun _ _ _ _ h => h) ⟨_, Or.inl ⟨by rfl, fun w2 _ => by (go_simp; try with_reducible rfl)⟩, _, by (go_simp; try rfl), ?_⟩
  refine wpAnyT_takeP 16 rfl (by kernel_rfl) (by kernel_rfl) (by kernel_rfl) (fun _ _ _ _ h => h) ⟨_, Or.inl ⟨by rfl, fun w2 _ => by (go_simp; try with_reducible rfl)⟩, _, by (go_simp; try rfl), ?_⟩
  refine wpAnyT_takeP 17 rfl (by kernel_rfl) (by kernel_rfl) (by kernel_rfl) (fun _ _ _ _ h => h) ⟨_, Or.inl ⟨by rfl, fun w2 _ => by (go_simp; try with_reducible rfl)⟩, _, by (go_simp; try rfl), ?_⟩
  refine wpAnyT_takeP 18 rfl (by kernel_rfl) (by kernel_rfl) (by kernel_rfl) (fun _ _ _ _ h => h) ⟨_, Or.inl ⟨by rfl, fun w2 _ => by (go_simp; try with_reducible rfl)⟩, _, by (go_simp; try rfl), ?_⟩
  refine wpAnyT_takeP 19 rfl (by kernel_rfl) (by kernel_rfl) (by kernel_rfl) (fun _ _ _ _ h => h) ⟨_, Or.inl ⟨by rfl, fun w2 _ => by (go_simp; try with_reducible rfl)⟩, _, by (go_simp; try rfl), ?_⟩
  refine wpAnyT_takeP 20 rfl (by kernel_rfl) (by kernel_rfl) (by kernel_rfl) (fun _ _ _ _ h => h) ⟨_, Or.inl ⟨by rfl, fun w2 _ => by (go_simp; try with_reducible rfl)⟩, _, by (go_simp; try rfl), ?_⟩
  refine wpAnyT_takeP 21 rfl (by kernel_rfl) (by kernel_rfl) (by kernel_rfl) (fun _ _ _ _ h => h) ⟨_, Or.inl ⟨by rfl, fun w2 _ => by (go_simp; try with_reducible rfl)⟩, _, by (go_simp; try rfl), ?_⟩
  refine wpAnyT_only 22 rfl (by kernel_rfl) (by rfl) (fun K hK => ?_)
  go_simp
  have nQ := alloc_new Y3 (.cells #[.pointer (some ⟨P, 25, none⟩), .pointer (some ⟨P, 26, none⟩), .pointer (some ⟨P, 27, none⟩), .pointer (some ⟨P, 28, none⟩), .pointer (some ⟨N, 0, none⟩), .pointer (some ⟨P, 29, none⟩), .pointer (some ⟨P, 30, none⟩), .pointer (some ⟨P, 31, none⟩)] 52)
  have hAQ : After Y3.drew (Y3.alloc (.cells #[.pointer (some ⟨P, 25, none⟩), .pointer (some ⟨P, 26, none⟩), .pointer (some ⟨P, 27, none⟩), .pointer (some ⟨P, 28, none⟩), .pointer (some ⟨N, 0, none⟩), .pointer (some ⟨P, 29, none⟩), .pointer (some ⟨P, 30, none⟩), .pointer (some ⟨P, 31, none⟩)] 52)).drew := after_drews nQ.2.1
  have hQh : (Y3.alloc (.cells #[.pointer (some ⟨P, 25, none⟩), .pointer (some ⟨P, 26, none⟩), .pointer (some ⟨P, 27, none⟩), .pointer (some ⟨P, 28, none⟩), .pointer (some ⟨N, 0, none⟩), .pointer (some ⟨P, 29, none⟩), .pointer (some ⟨P, 30, none⟩), .pointer (some ⟨P, 31, none⟩)] 52)).drew.heap[Y3.heap.size]? = _ := nQ.2.2
  refine hK _ _ ⟨fun _ => rx_after hAQ, ?_⟩
  clear hK
  obtain ⟨X3, hX3⟩ : ∃ X, (Y3.alloc (.cells #[.pointer (some ⟨P, 25, none⟩), .pointer (some ⟨P, 26, none⟩), .pointer (some ⟨P, 27, none⟩), .pointer (some ⟨P, 28, none⟩), .pointer (some ⟨N, 0, none⟩), .pointer (some ⟨P, 29, none⟩), .pointer (some ⟨P, 30, none⟩), .pointer (some ⟨P, 31, none⟩)] 52)).drew = X := ⟨_, rfl⟩
  obtain ⟨Q3, hQ3⟩ : ∃ X, Y3.heap.size = X := ⟨_, rfl⟩
  rw [hX3] at hAQ hQh
  rw [hQ3] at hQh
  try rw [hX3]
  try rw [hQ3]
  have dQ : Q3 ≠ G ∧ Q3 ≠ P ∧ Q3 ≠ N := by omega
  clear nQ
  replace hX3 := hid hX3
  replace hQ3 := hid hQ3
  have hA := hid (show After Y3 X3 from bthen (Below.refl _ Y3).drew hAQ)
  clear hAQ
  refine wpAnyT_only 23 rfl (by kernel_rfl) (by rfl) (fun K hK => ?_)
  go_simp
  refine (nxt2_any D G T P N Q3 8 25 a 33 c qD vs (stP qC (vs.drop 18) (stP qB (vs.drop 10) (stP qA (vs.drop 0) ys))) (stN qC (vs.drop 18) (stN qB (vs.drop 10) (stN qA (vs.drop 0) 0))) _ ((Below.cell hA.out (World.block_lt_of_cell? _ _ hDc.out)).trans hDc.out) (held_after hA.out hGr.out) ((Below.cell hA.out (World.block_lt_of_cell? _ _ hT.out)).trans hT.out) (hV.out.below hA.out) (by omega) (by omega) (hP.out.below hA.out) (hNr.out.below hA.out) rfl (by (try simp only [stP_len]); rw [hl.out]; exact qD_lt) (ptrs_cell (P := P) (N := N) (q := qD) (T := 52) hQh) dD dTT dQ dVV.out dGV).mono ?_
  rintro e Y4 ⟨rfl, hG9, hP9, hN9, hE9⟩
  go_simp
  refine hK _ _ ⟨fun h => (h rfl).elim, ?_⟩
  clear hK
  replace hV := hid (sl_eff3 (hV.out.below hA.out) hE9 dVV.out)
  replace hP := hid hP9
  replace hNr := hid hN9
  replace hDc := hid (hE9.cell ((Below.cell hA.out (World.block_lt_of_cell? _ _ hDc.out)).trans hDc.out) dD.1 dD.2.1 dD.2.2)
  replace hT := hid (hE9.cell ((Below.cell hA.out (World.block_lt_of_cell? _ _ hT.out)).trans hT.out) dTT.1 dTT.2.1 dTT.2.2)
  replace hGr := hid hG9
  have lY3 : G < Y4.heap.size ∧ N < Y4.heap.size ∧ P < Y4.heap.size ∧ Y3.heap.size ≤ Y4.heap.size := by have h1 := hA.out.size; have h2 := hE9.size; omega
  replace hE := hid (eff_three (eff_trans16 hE.out (eff_after16 hA.out)) hE9 gG gN)
  clear hG9 hP9 hN9 hE9 hA hQh dQ
  refine wpAnyT_done (by kernel_rfl) ?_ _
  go_wp2_with fail
  go_end0
  exact ⟨rfl, hP.out, hE.out⟩


end Go.Proofs.Ytfihdgichmocmaa
