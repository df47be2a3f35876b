/- Package pvt: the closures of Values and Of. -/
import Derived.Test.YtfihdgichmocmaaKB
import Derived.Test.YtfihdgichmocmaaKA
import Derived.Deep.DeepCutAuto
namespace Go.Proofs.Ytfihdgichmocmaa
open Go.ChangeShapes Go.WideShapes Go.ChangeAt Go.RowKit
set_option linter.unusedVariables false
set_option linter.unusedSimpArgs false

theorem cell_eff {g : Nat} {w U : World} {p : Addr} {v : Value} (h : w.cell? p = some v) (hE : Eff g w U) (hn : p.block ≠ g) : U.cell? p = some v :=
  (World.cell?_of_block (w := w) (hE.block p.block (World.block_lt_of_cell? w _ h) hn)).trans h
theorem eff_setp {p : Addr} (w : World) (v : Value) : Eff p.block w (w.setCell p v) := ⟨rfl, rfl, rfl, by simp [World.setCell], fun k _ h => Below.heap_setCell w p v k h⟩
theorem eff_draw {g : Nat} {w U : World} (h : Eff g w.drew U) : Eff g w U := ⟨h.os, h.tape, h.output, h.size, h.block⟩
set_option maxRecDepth 100000 in
set_option maxHeartbeats 4000000 in
theorem val1_any (T V k : Nat) (p : Addr) (x : Int) (zs : List Int) (w : World) (hT : w.cell? ⟨T, 0, none⟩ = some (.slice (some ⟨V, 0, none⟩) 33 33)) (hV : Row .i64 2 w V zs) (hz : zs.length = 33) (hk : k < 33) (hp : w.cell? p = some (.int .i64 x)) : Calls Try.prog 26 #[.int .i64 k, .pointer (some p), .pointer (some ⟨T, 0, none⟩)] w fun e w' => e = .returned (.tuple #[]) ∧ Row .i64 2 w' V (zs.set k x) ∧ Eff V w w' := by
  have c1 := show w.drew.cell? ⟨V, k, none⟩ = _ from hV.cellAt k (by omega)
  have f1 := show w.drew.frozen? ⟨V, k, none⟩ = false from hV.free k
  have hR := hid (show Row .i64 2 (w.drew.setCell ⟨V, k, none⟩ (.int .i64 x)) V (zs.set k x) from Row.set (w := w.drew) hV k x)
  have hE := hid (eff_draw (eff_setp (p := ⟨V, k, none⟩) w.drew (.int .i64 x)))
  have k0 : (0 : Int) ≤ k := by omega
  have k33 : (k : Int) < 33 := by omega
  have k33n : k < 33 := hk
  obtain ⟨pb, po, ps⟩ := p
  clear hV hz
  go_enter Try.func26, Try.ntmps26
  go_upto_region 0 with (fail)
  refine wp_region_T none 6 (by kernel_rfl) ?_
  refine wpAnyT_take 0 rfl (by kernel_rfl) (by kernel_rfl) (by kernel_rfl) (by kernel_rfl) (fun _ _ _ _ h => h) ⟨_, Or.inl ⟨by rfl, fun w2 hb2 => by (have hx := hb2.cell (show w.drew.cell? _ = _ from hT) (by simp); go_simp; try with_reducible rfl)⟩, _, by (go_simp; try rfl), ?_⟩
  refine wpAnyT_take 1 rfl (by kernel_rfl) (by kernel_rfl) (by kernel_rfl) (by kernel_rfl) (fun _ _ _ _ h => h) ⟨_, Or.inl ⟨by rfl, fun w2 hb2 => by (go_simp; try with_reducible rfl)⟩, _, by (go_simp; try rfl), ?_⟩
  refine wpAnyT_take 2 rfl (by kernel_rfl) (by kernel_rfl) (by kernel_rfl) (by kernel_rfl) (fun _ _ _ _ h => h) ⟨_, Or.inl ⟨by rfl, fun w2 hb2 => by (go_simp; try with_reducible rfl)⟩, _, by (go_simp; try rfl), ?_⟩
  refine wpAnyT_take 3 rfl (by kernel_rfl) (by kernel_rfl) (by kernel_rfl) (by kernel_rfl) (fun _ _ _ _ h => h) ⟨_, Or.inl ⟨by rfl, fun w2 hb2 => by (go_simp; try with_reducible rfl)⟩, _, by (go_simp; try rfl), ?_⟩
  refine wpAnyT_take 4 rfl (by kernel_rfl) (by kernel_rfl) (by kernel_rfl) (by kernel_rfl) (fun _ _ _ _ h => h) ⟨_, Or.inl ⟨by rfl, fun w2 hb2 => by (have hx := hb2.cell (show w.drew.cell? _ = _ from hp) (by simp); go_simp; try with_reducible rfl)⟩, _, by (go_simp; try rfl), ?_⟩
  refine wpAnyT_take 5 rfl (by kernel_rfl) (by kernel_rfl) (by kernel_rfl) (by kernel_rfl) (fun _ _ _ _ h => h) ⟨_, Or.inl ⟨by rfl, fun w2 hb2 => by (go_simp; try with_reducible rfl)⟩, _, by (go_simp; try rfl), ?_⟩
  refine wpAnyT_only 6 rfl (by kernel_rfl) (by rfl) (fun K hK => ?_)
  go_simp
  refine hK _ _ ⟨fun h => (h rfl).elim, ?_⟩
  clear hK
  refine wpAnyT_done (by kernel_rfl) ?_ _
  go_wp2_with fail
  go_end0
  exact ⟨rfl, hR.out, hE.out⟩
set_option maxRecDepth 100000 in
set_option maxHeartbeats 4000000 in
theorem of1_any (T k : Nat) (p : Addr) (a : Option Addr) (n c : Nat) (x y : Int) (vs : List Int) (w : World) (hT : w.cell? ⟨T, 0, none⟩ = some (.slice a n c)) (hV : Sl .i64 w a n c vs) (hk : k < n) (hx : vs.getD k 0 = x) (hp : w.cell? p = some (.int .i64 y)) (hf : w.frozen? p = false) : Calls Try.prog 25 #[.int .i64 k, .pointer (some p), .pointer (some ⟨T, 0, none⟩)] w fun e w' => e = .returned (.tuple #[]) ∧ w' = w.setCell p (.int .i64 x) := by
  obtain ⟨b, off, rfl, hc⟩ := hV.2.2.2.2 k (by have := hV.1; omega)
  rw [hx] at hc
  have k0 : (0 : Int) ≤ k := by omega
  have kn : (k : Int) < n := by omega
  obtain ⟨pb, po, ps⟩ := p
  clear hV hx
  go_enter Try.func25, Try.ntmps25
  go_wp2_with fail
  go_end0
  exact ⟨rfl, rfl⟩
/-- All blocks stay but two. -/
structure Eff2 (g h : Nat) (w w' : World) : Prop where
  os : w'.os = w.os
  tape : w'.tape = w.tape
  output : w'.output = w.output
  size : w.heap.size ≤ w'.heap.size
  block : ∀ j, j < w.heap.size → j ≠ g → j ≠ h → w'.heap[j]? = w.heap[j]?
theorem Eff2.refl (g h : Nat) (w : World) : Eff2 g h w w := ⟨rfl, rfl, rfl, Nat.le_refl _, fun _ _ _ _ => rfl⟩
theorem Eff2.fst {g h : Nat} {a b c : World} (k : Eff2 g h a b) (e : Eff g b c) : Eff2 g h a c := ⟨e.os.trans k.os, e.tape.trans k.tape, e.output.trans k.output, Nat.le_trans k.size e.size, fun j h1 h2 h3 => (e.block j (Nat.lt_of_lt_of_le h1 k.size) h2).trans (k.block j h1 h2 h3)⟩
theorem Eff2.snd {g h : Nat} {a b c : World} (k : Eff2 g h a b) (e : Eff h b c) : Eff2 g h a c := ⟨e.os.trans k.os, e.tape.trans k.tape, e.output.trans k.output, Nat.le_trans k.size e.size, fun j h1 h2 h3 => (e.block j (Nat.lt_of_lt_of_le h1 k.size) h3).trans (k.block j h1 h2 h3)⟩
theorem Eff2.cell {g h : Nat} {w U : World} {p : Addr} {v : Value} (k : Eff2 g h w U) (hc : w.cell? p = some v) (h1 : p.block ≠ g) (h2 : p.block ≠ h) : U.cell? p = some v :=
  (World.cell?_of_block (w := w) (k.block p.block (World.block_lt_of_cell? w _ hc) h1 h2)).trans hc
theorem held_effP {g b : Nat} {w U : World} {o : Obj} (h : w.heap[b]? = some o) (hE : Eff g w U) (hn : b ≠ g) : U.heap[b]? = some o := (hE.block b (Array.getElem?_eq_some_iff.1 h).1 hn).trans h
theorem laid_step {zs xs : List Int} {k i : Nat} (hk : k + xs.length ≤ zs.length) (hi : i < xs.length) : (laid zs k (xs.take i)).set (k + i) (xs.getD i 0) = laid zs k (xs.take (i + 1)) := by
  unfold laid
  have l1 : (zs.take k).length = k := by rw [List.length_take]; omega
  have l2 : (xs.take i).length = i := by rw [List.length_take]; omega
  have l3 : (xs.take (i + 1)).length = i + 1 := by rw [List.length_take]; omega
  rw [l2, l3, List.set_append_right _ _ (by omega), l1, List.set_append_right _ _ (by omega), l2, show k + i - k - i = 0 by omega]
  have hd : zs.drop (k + i) = zs.getD (k + i) 0 :: zs.drop (k + (i + 1)) := by
    rw [List.drop_eq_getElem_cons (by omega), List.getD_eq_getElem?_getD, List.getElem?_eq_getElem (by omega)]; rfl
  have hg : xs.getD i 0 = xs[i] := by rw [List.getD_eq_getElem?_getD, List.getElem?_eq_getElem hi]; rfl
  rw [hd, List.set_cons_zero, hg, List.take_add_one, List.getElem?_eq_getElem hi, Option.toList_some, List.append_assoc]
  rfl
theorem laid_zero {zs : List Int} {k : Nat} : laid zs k [] = zs := by simp [laid]
theorem laid_llen {zs xs : List Int} {k : Nat} (h : k + xs.length ≤ zs.length) : (laid zs k xs).length = zs.length := by
  unfold laid
  rw [List.length_append, List.length_append, List.length_take, List.length_drop]; omega
theorem Row.oth1' {k : IntKind} {E : TypeId} {w : World} {g g' j : Nat} {zs : List Int} (h : Row k E w g zs) (hg : g ≠ g') (a : Value) : Row k E (w.setCell ⟨g', j, none⟩ a) g zs := by
  unfold Row at *
  rw [Below.heap_setCell w ⟨g', j, none⟩ a g hg]; exact h
set_option maxRecDepth 100000 in
set_option maxHeartbeats 4000000 in
theorem nxt1_any (D G T V Q n k : Nat) (ps : List Addr) (xs zs : List Int) (w : World) (hD : w.cell? ⟨D, 0, none⟩ = some (.func (.func 26) #[] #[.pointer (some ⟨T, 0, none⟩)])) (hG : w.heap[G]? = some (.cells #[.int .i64 k] 3 (0, 0))) (hT : w.cell? ⟨T, 0, none⟩ = some (.slice (some ⟨V, 0, none⟩) 33 33)) (hV : Row .i64 2 w V zs) (hz : zs.length = 33) (hn : k + n ≤ 33) (hl : ps.length = n) (hxl : xs.length = n) (hQ : ∀ i, i < n → w.cell? ⟨Q, i, none⟩ = some (.pointer ps[i]?)) (hp : ∀ i p, ps[i]? = some p → w.cell? p = some (.int .i64 (xs.getD i 0)) ∧ p.block ≠ G ∧ p.block ≠ V) (dD : D ≠ G ∧ D ≠ V) (dT : T ≠ G ∧ T ≠ V) (dQ : Q ≠ G ∧ Q ≠ V) (dG : G ≠ V) : Calls Try.prog 44 #[.slice (some ⟨Q, 0, none⟩) n n, .pointer (some ⟨D, 0, none⟩), .pointer (some ⟨G, 0, none⟩)] w fun e w' => e = .returned (.tuple #[]) ∧ w'.heap[G]? = some (.cells #[.int .i64 ((k + n : Nat) : Int)] 3 (0, 0)) ∧ Row .i64 2 w' V (laid zs k xs) ∧ Eff2 G V w w' := by
  replace hD := hid hD
  replace hT := hid hT
  replace hz := hid hz
  replace hl := hid hl
  replace hxl := hid hxl
  replace hQ := hid hQ
  replace hp := hid hp
  replace hG := hid hG
  replace hV := hid hV
  go_enter Try.func44, Try.ntmps44
  go_wp2_with fail
  go_loopw [8] (fun ix wr => ∃ i : Nat, ix = .int .i64 i ∧ i ≤ n ∧ wr.heap[G]? = some (.cells #[.int .i64 ((k + i : Nat) : Int)] 3 (0, 0)) ∧ Row .i64 2 wr V (laid zs k (xs.take i)) ∧ Eff2 G V w wr) (fun ix _ => n - (intOf ix).toNat)
  case atStart => exact ⟨0, rfl, by omega, hG.out, by rw [List.take_zero, laid_zero]; exact hV.out, Eff2.refl _ _ _⟩
  case round =>
    obtain ⟨i, rfl, hi, hGr, hVr, hE⟩ := hrel
    by_cases hlt : (i : Int) < n
    case neg =>
      obtain rfl : i = n := by omega
      rw [← hxl.out, List.take_length] at hVr
      replace hGr := hid hGr
      replace hVr := hid hVr
      replace hE := hid hE
      go_wp2_with fail
      go_end0
      exact ⟨rfl, hGr.out, hVr.out, hE.out⟩
    obtain ⟨p, gp⟩ : ∃ p, ps[i]? = some p := ⟨_, List.getElem?_eq_getElem (show i < ps.length by have := hl.out; omega)⟩
    obtain ⟨h1, h2, h3⟩ := hp.out i p gp
    have cQ := hE.cell (hQ.out i (by omega)) dQ.1 dQ.2
    rw [gp] at cQ
    have cD := hE.cell hD.out dD.1 dD.2
    have cT := hid (hE.cell hT.out dT.1 dT.2)
    have cp := hid (hE.cell h1 h2 h3)
    have cG := held_cell hGr 0 _ rfl
    obtain ⟨x, hx⟩ : ∃ x, xs.getD i 0 = x := ⟨_, rfl⟩
    rw [hx] at cp
    have hst := hid (laid_step (zs := zs) (xs := xs) (k := k) (i := i) (by have := hz.out; have := hxl.out; omega) (by have := hxl.out; omega))
    have hll := hid (laid_llen (zs := zs) (xs := xs.take i) (k := k) (by rw [List.length_take]; have := hz.out; have := hxl.out; omega))
    rw [hx] at hst
    obtain ⟨j, hj⟩ : ∃ j, k + i = j := ⟨_, rfl⟩
    rw [hj] at hGr hst cG
    have hj33 : j < 33 := by omega
    have iz : (0 : Int) ≤ i := by omega
    have wj : IntKind.i64.wrap ((j : Int) + 1) = ((j + 1 : Nat) : Int) := by rw [IntKind.wrap_i64]; omega
    have wi : IntKind.i64.wrap ((i : Int) + 1) = (i : Int) + 1 := by rw [IntKind.wrap_i64]; omega
    have hi1 := hid (show i + 1 ≤ n by omega)
    have hji := hid (show k + (i + 1) = j + 1 by omega)
    replace hE := hid hE
    replace hVr := hid hVr
    replace hGr := hid hGr
    clear gp h1 h2 h3 hx hj hi
    go_wp2_with fail
    refine (val1_any T V j p x _ wr cT.out hVr.out (by rw [hll.out]; exact hz.out) hj33 cp.out).mono ?_
    rintro e w2 ⟨rfl, hV2, hE2⟩
    rw [hst.out] at hV2
    have hG2 := held_effP hGr.out hE2 dG
    have cG2 := held_cell hG2 0 _ rfl
    have fG2 := held_free hG2 0
    have s2 := held_set hG2 0 (.int .i64 ((j + 1 : Nat) : Int))
    have hE3 := hid ((hE.out.snd hE2).fst (eff_setp (p := ⟨G, 0, none⟩) w2 (.int .i64 ((j + 1 : Nat) : Int))))
    have hV3 := hid (Row.oth1' (j := 0) hV2 dG.symm (.int .i64 ((j + 1 : Nat) : Int)))
    replace s2 := hid s2
    clear hV2 hE2 hG2 hE hVr hGr cQ cD cG
    go_wp2_with fail
    go_roundw
    case rel => exact ⟨i + 1, by simp, hi1.out, by rw [hji.out]; exact s2.out, hV3.out, hE3.out⟩
    case measure => simp [intOf]; omega

end Go.Proofs.Ytfihdgichmocmaa
