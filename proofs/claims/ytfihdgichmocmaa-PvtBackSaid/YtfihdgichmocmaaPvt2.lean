/- Package pvt: next, with Of's closure. -/
import Derived.Test.YtfihdgichmocmaaPvt
import Derived.Deep.DeepCutAuto
namespace Go.Proofs.Ytfihdgichmocmaa
open Go.ChangeShapes Go.WideShapes Go.ChangeAt Go.RowKit
set_option linter.unusedVariables false
set_option linter.unusedSimpArgs false

/-- Places in the message's block, or the one that has no name. -/
def plc (P N : Nat) : Option Nat → Addr
  | some j => ⟨P, j, none⟩
  | none => ⟨N, 0, none⟩
/-- What is written there. -/
def stP : List (Option Nat) → List Int → List Int → List Int
  | some j :: q, v :: vs, ys => stP q vs (ys.set j v)
  | none :: q, _ :: vs, ys => stP q vs ys
  | _, _, ys => ys
def stN : List (Option Nat) → List Int → Int → Int
  | some _ :: q, _ :: vs, z => stN q vs z
  | none :: q, v :: vs, _ => stN q vs v
  | _, _, z => z
theorem stP_len : ∀ (q : List (Option Nat)) (vs ys : List Int), (stP q vs ys).length = ys.length
  | [], _, _ => by simp [stP]
  | none :: _, [], _ => by simp [stP]
  | some _ :: _, [], _ => by simp [stP]
  | some j :: q, v :: vs, ys => by simp [stP, stP_len q vs]
  | none :: q, v :: vs, ys => by simp [stP, stP_len q vs]
theorem stP_step : ∀ (q : List (Option Nat)) (vs ys : List Int) (i : Nat), i < q.length → q.length ≤ vs.length →
    stP (q.take (i + 1)) (vs.take (i + 1)) ys = (match q[i]? with | some (some j) => (stP (q.take i) (vs.take i) ys).set j (vs.getD i 0) | _ => stP (q.take i) (vs.take i) ys)
  | [], _, _, i, h, _ => by simp at h
  | _ :: _, [], _, _, _, h => by simp at h
  | some j :: q, v :: vs, ys, 0, _, _ => by simp [stP]
  | none :: q, v :: vs, ys, 0, _, _ => by simp [stP]
  | some j :: q, v :: vs, ys, i + 1, h, h2 => by
    have := stP_step q vs (ys.set j v) i (by simpa using h) (by simpa using h2)
    simpa [stP] using this
  | none :: q, v :: vs, ys, i + 1, h, h2 => by
    have := stP_step q vs ys i (by simpa using h) (by simpa using h2)
    simpa [stP] using this
theorem stN_step : ∀ (q : List (Option Nat)) (vs : List Int) (z : Int) (i : Nat), i < q.length → q.length ≤ vs.length →
    stN (q.take (i + 1)) (vs.take (i + 1)) z = (match q[i]? with | some none => vs.getD i 0 | _ => stN (q.take i) (vs.take i) z)
  | [], _, _, i, h, _ => by simp at h
  | _ :: _, [], _, _, _, h => by simp at h
  | some j :: q, v :: vs, z, 0, _, _ => by simp [stN]
  | none :: q, v :: vs, z, 0, _, _ => by simp [stN]
  | some j :: q, v :: vs, z, i + 1, h, h2 => by
    have := stN_step q vs z i (by simpa using h) (by simpa using h2)
    simpa [stN] using this
  | none :: q, v :: vs, z, i + 1, h, h2 => by
    have := stN_step q vs v i (by simpa using h) (by simpa using h2)
    simpa [stN] using this
theorem stP_take : ∀ (q : List (Option Nat)) (us ys : List Int), stP q us ys = stP q (us.take q.length) ys
  | [], _, _ => by simp [stP]
  | none :: _, [], _ => by simp [stP]
  | some _ :: _, [], _ => by simp [stP]
  | some j :: q, v :: vs, ys => by simp only [stP, List.length_cons, List.take_succ_cons]; exact stP_take q vs _
  | none :: q, v :: vs, ys => by simp only [stP, List.length_cons, List.take_succ_cons]; exact stP_take q vs _
theorem stN_take : ∀ (q : List (Option Nat)) (us : List Int) (z : Int), stN q us z = stN q (us.take q.length) z
  | [], _, _ => by simp [stN]
  | none :: _, [], _ => by simp [stN]
  | some _ :: _, [], _ => by simp [stN]
  | some j :: q, v :: vs, z => by simp only [stN, List.length_cons, List.take_succ_cons]; exact stN_take q vs _
  | none :: q, v :: vs, z => by simp only [stN, List.length_cons, List.take_succ_cons]; exact stN_take q vs _
/-- All blocks stay but three. -/
structure Eff3 (g h k : Nat) (w w' : World) : Prop where
  os : w'.os = w.os
  tape : w'.tape = w.tape
  output : w'.output = w.output
  size : w.heap.size ≤ w'.heap.size
  block : ∀ j, j < w.heap.size → j ≠ g → j ≠ h → j ≠ k → w'.heap[j]? = w.heap[j]?
theorem Eff3.refl (g h k : Nat) (w : World) : Eff3 g h k w w := ⟨rfl, rfl, rfl, Nat.le_refl _, fun _ _ _ _ _ => rfl⟩
theorem Eff3.on {g h k b : Nat} {a c d : World} (x : Eff3 g h k a c) (e : Eff b c d) (hb : b = g ∨ b = h ∨ b = k) : Eff3 g h k a d := ⟨e.os.trans x.os, e.tape.trans x.tape, e.output.trans x.output, Nat.le_trans x.size e.size, fun j h1 h2 h3 h4 => (e.block j (Nat.lt_of_lt_of_le h1 x.size) (by rcases hb with rfl | rfl | rfl <;> assumption)).trans (x.block j h1 h2 h3 h4)⟩
theorem Eff3.cell {g h k : Nat} {w U : World} {p : Addr} {v : Value} (x : Eff3 g h k w U) (hc : w.cell? p = some v) (h1 : p.block ≠ g) (h2 : p.block ≠ h) (h3 : p.block ≠ k) : U.cell? p = some v :=
  (World.cell?_of_block (w := w) (x.block p.block (World.block_lt_of_cell? w _ hc) h1 h2 h3)).trans hc
theorem sl_eff3 {t : IntKind} {g h k : Nat} {w U : World} {a : Option Addr} {n c : Nat} {zs : List Int} (hs : Sl t w a n c zs) (x : Eff3 g h k w U) (hn : 0 < n → ∀ p, a = some p → p.block ≠ g ∧ p.block ≠ h ∧ p.block ≠ k) : Sl t U a n c zs := by
  refine ⟨hs.1, hs.2.1, hs.2.2.1, hs.2.2.2.1, fun i hi => ?_⟩
  obtain ⟨b, off, e, hc⟩ := hs.2.2.2.2 i hi
  obtain ⟨d1, d2, d3⟩ := hn (by have := hs.1; omega) _ e
  exact ⟨b, off, e, x.cell hc d1 d2 d3⟩
set_option maxRecDepth 100000 in
set_option maxHeartbeats 4000000 in
theorem nxt2_any (D G T P N Q n k : Nat) (a : Option Addr) (m c : Nat) (q : List (Option Nat)) (vs ys : List Int) (z : Int) (w : World) (hD : w.cell? ⟨D, 0, none⟩ = some (.func (.func 25) #[] #[.pointer (some ⟨T, 0, none⟩)])) (hG : w.heap[G]? = some (.cells #[.int .i64 k] 3 (0, 0))) (hT : w.cell? ⟨T, 0, none⟩ = some (.slice a m c)) (hV : Sl .i64 w a m c vs) (hkn : k + n ≤ m) (hm : m ≤ 33) (hP : Row .i64 23 w P ys) (hN : Row .i64 2 w N [z]) (hl : q.length = n) (hq : ∀ (i j : Nat), q[i]? = some (some j) → j < ys.length) (hQ : ∀ i, i < n → w.cell? ⟨Q, i, none⟩ = some (.pointer (q[i]?.map (plc P N)))) (dD : D ≠ G ∧ D ≠ P ∧ D ≠ N) (dT : T ≠ G ∧ T ≠ P ∧ T ≠ N) (dQ : Q ≠ G ∧ Q ≠ P ∧ Q ≠ N) (dV : 0 < m → ∀ p, a = some p → p.block ≠ G ∧ p.block ≠ P ∧ p.block ≠ N) (dG : G ≠ P ∧ G ≠ N ∧ P ≠ N) : Calls Try.prog 44 #[.slice (some ⟨Q, 0, none⟩) n n, .pointer (some ⟨D, 0, none⟩), .pointer (some ⟨G, 0, none⟩)] w fun e w' => e = .returned (.tuple #[]) ∧ w'.heap[G]? = some (.cells #[.int .i64 ((k + n : Nat) : Int)] 3 (0, 0)) ∧ Row .i64 23 w' P (stP q (vs.drop k) ys) ∧ Row .i64 2 w' N [stN q (vs.drop k) z] ∧ Eff3 G P N w w' := by
  have hvl := hid hV.1
  replace hD := hid hD
  replace hT := hid hT
  replace hl := hid hl
  replace hQ := hid hQ
  replace hG := hid hG
  replace hV := hid hV
  replace hP := hid hP
  replace hN := hid hN
  replace dV := hid dV
  replace hq := hid hq
  obtain ⟨us, hus⟩ : ∃ us, vs.drop k = us := ⟨_, rfl⟩
  rw [hus]
  have hul := hid (show n ≤ us.length by rw [← hus, List.length_drop, hvl.out]; omega)
  have hget := hid (show ∀ i, us.getD i 0 = vs.getD (k + i) 0 from fun i => by rw [← hus, List.getD_eq_getElem?_getD, List.getElem?_drop, ← List.getD_eq_getElem?_getD])
  clear hus
  go_enter Try.func44, Try.ntmps44
  go_wp2_with fail
  go_loopw [8] (fun ix wr => ∃ i : Nat, ix = .int .i64 i ∧ i ≤ n ∧ wr.heap[G]? = some (.cells #[.int .i64 ((k + i : Nat) : Int)] 3 (0, 0)) ∧ Row .i64 23 wr P (stP (q.take i) (us.take i) ys) ∧ Row .i64 2 wr N [stN (q.take i) (us.take i) z] ∧ Eff3 G P N w wr) (fun ix _ => n - (intOf ix).toNat)
  case atStart => exact ⟨0, rfl, by omega, hG.out, by simpa [stP] using hP.out, by simpa [stN] using hN.out, Eff3.refl _ _ _ _⟩
  case round =>
    obtain ⟨i, rfl, hi, hGr, hPr, hNr, hE⟩ := hrel
    by_cases hlt : (i : Int) < n
    case neg =>
      have hin : i = n := by omega
      subst hin
      have eP : stP (q.take i) (us.take i) ys = stP q us ys := by
        rw [← hl.out, List.take_length]
        exact (stP_take q us ys).symm
      have eN : stN (q.take i) (us.take i) z = stN q us z := by
        rw [← hl.out, List.take_length]
        exact (stN_take q us z).symm
      rw [eP] at hPr
      rw [eN] at hNr
      replace hGr := hid hGr
      replace hPr := hid hPr
      replace hNr := hid hNr
      replace hE := hid hE
      clear eP eN
      go_wp2_with fail
      go_end0
      exact ⟨rfl, hGr.out, hPr.out, hNr.out, hE.out⟩
    obtain ⟨o, go⟩ : ∃ o, q[i]? = some o := ⟨_, List.getElem?_eq_getElem (show i < q.length by have := hl.out; omega)⟩
    have cQ := hE.cell (hQ.out i (by omega)) dQ.1 dQ.2.1 dQ.2.2
    rw [go, Option.map_some] at cQ
    have cD := hE.cell hD.out dD.1 dD.2.1 dD.2.2
    have cT := hid (hE.cell hT.out dT.1 dT.2.1 dT.2.2)
    have sV := hid (sl_eff3 hV.out hE dV.out)
    have cG := held_cell hGr 0 _ rfl
    have hsP := stP_step q us ys i (by have := hl.out; omega) (by have := hl.out; have := hul.out; omega)
    have hsN := stN_step q us z i (by have := hl.out; omega) (by have := hl.out; have := hul.out; omega)
    rw [go] at hsP hsN
    obtain ⟨x, hx⟩ : ∃ x, us.getD i 0 = x := ⟨_, rfl⟩
    rw [hx] at hsP hsN
    have hxv := (hget.out i).symm.trans hx
    have hlP := stP_len (q.take i) (us.take i) ys
    obtain ⟨Y, hY⟩ : ∃ Y, stP (q.take i) (us.take i) ys = Y := ⟨_, rfl⟩
    obtain ⟨Z, hZ⟩ : ∃ Z, stN (q.take i) (us.take i) z = Z := ⟨_, rfl⟩
    rw [hY] at hPr hsP hlP
    rw [hZ] at hNr hsN
    have hjb := hid (fun (j : Nat) (e : o = some j) => show j < Y.length by rw [hlP]; exact hq.out i j (by rw [go, e]))
    obtain ⟨j, hj⟩ : ∃ j, k + i = j := ⟨_, rfl⟩
    rw [hj] at hGr cG hxv
    have hjm : j < m := by omega
    have hj33 : j < 33 := by omega
    have iz : (0 : Int) ≤ i := by omega
    have wj : IntKind.i64.wrap ((j : Int) + 1) = ((j + 1 : Nat) : Int) := by rw [IntKind.wrap_i64]; omega
    have wi : IntKind.i64.wrap ((i : Int) + 1) = (i : Int) + 1 := by rw [IntKind.wrap_i64]; omega
    have hi1 := hid (show i + 1 ≤ n by omega)
    have hji := hid (show k + (i + 1) = j + 1 by omega)
    replace hxv := hid hxv
    obtain ⟨d1, d2, d3⟩ := dG
    cases o with
    | some jj =>
      have hjj := hjb.out jj rfl
      simp only at hsP hsN
      have cp := hPr.cellAt jj hjj
      have fp := hPr.free jj
      have hP3 := Row.set hPr jj x
      rw [← hsP] at hP3
      have hN3 := Row.oth1' (j := jj) hNr d3.symm (.int .i64 x)
      rw [← hsN] at hN3
      have hE1 := hE.on (eff_setp (p := ⟨P, jj, none⟩) wr (.int .i64 x)) (.inr (.inl rfl))
      have hG2 := held_effP hGr (eff_setp (p := ⟨P, jj, none⟩) wr (.int .i64 x)) d1
      change wr.cell? ⟨Q, i, none⟩ = some (.pointer (some ⟨P, jj, none⟩)) at cQ
      obtain ⟨w2, hw2⟩ : ∃ w2, wr.setCell ⟨P, jj, none⟩ (.int .i64 x) = w2 := ⟨_, rfl⟩
      rw [hw2] at hP3 hN3 hE1 hG2
      have cG2 := held_cell hG2 0 _ rfl
      have fG2 := held_free hG2 0
      have s2 := hid (held_set hG2 0 (.int .i64 ((j + 1 : Nat) : Int)))
      have hE3 := hid (hE1.on (eff_setp (p := ⟨G, 0, none⟩) w2 (.int .i64 ((j + 1 : Nat) : Int))) (.inl rfl))
      have hP4 := hid (Row.oth1' (j := 0) hP3 d1.symm (.int .i64 ((j + 1 : Nat) : Int)))
      have hN4 := hid (Row.oth1' (j := 0) hN3 d2.symm (.int .i64 ((j + 1 : Nat) : Int)))
      replace cp := hid cp
      replace fp := hid fp
      replace hw2 := hid hw2
      clear hP3 hN3 hE1 hG2 hE hPr hNr hGr hsP hsN hY hZ hlP go hx hjb hi
      go_wp2_with fail
      refine (of1_any T j ⟨P, jj, none⟩ a m c x _ vs wr cT.out sV.out hjm hxv.out cp.out fp.out).mono ?_
      rintro e w3 ⟨rfl, hv⟩
      rw [hw2.out] at hv
      obtain rfl : w2 = w3 := hv.symm
      clear cQ cD cG hv
      go_wp2_with fail
      go_roundw
      case rel => exact ⟨i + 1, by simp, hi1.out, by rw [hji.out]; exact s2.out, hP4.out, hN4.out, hE3.out⟩
      case measure => simp [intOf]; omega
    | none =>
      simp only at hsP hsN
      have cp := hNr.cellAt 0 (by simp)
      have fp := hNr.free 0
      have hN3 : Row .i64 2 (wr.setCell ⟨N, 0, none⟩ (.int .i64 x)) N [stN (q.take (i + 1)) (us.take (i + 1)) z] := by rw [hsN]; exact Row.set hNr 0 x
      have hP3 := Row.oth1' (j := 0) hPr d3 (.int .i64 x)
      rw [← hsP] at hP3
      have hE1 := hE.on (eff_setp (p := ⟨N, 0, none⟩) wr (.int .i64 x)) (.inr (.inr rfl))
      have hG2 := held_effP hGr (eff_setp (p := ⟨N, 0, none⟩) wr (.int .i64 x)) d2
      change wr.cell? ⟨Q, i, none⟩ = some (.pointer (some ⟨N, 0, none⟩)) at cQ
      obtain ⟨w2, hw2⟩ : ∃ w2, wr.setCell ⟨N, 0, none⟩ (.int .i64 x) = w2 := ⟨_, rfl⟩
      rw [hw2] at hP3 hN3 hE1 hG2
      have cG2 := held_cell hG2 0 _ rfl
      have fG2 := held_free hG2 0
      have s2 := hid (held_set hG2 0 (.int .i64 ((j + 1 : Nat) : Int)))
      have hE3 := hid (hE1.on (eff_setp (p := ⟨G, 0, none⟩) w2 (.int .i64 ((j + 1 : Nat) : Int))) (.inl rfl))
      have hP4 := hid (Row.oth1' (j := 0) hP3 d1.symm (.int .i64 ((j + 1 : Nat) : Int)))
      have hN4 := hid (Row.oth1' (j := 0) hN3 d2.symm (.int .i64 ((j + 1 : Nat) : Int)))
      replace cp := hid cp
      replace fp := hid fp
      replace hw2 := hid hw2
      clear hP3 hN3 hE1 hG2 hE hPr hNr hGr hsP hsN hY hZ hlP go hx hjb hi
      go_wp2_with fail
      refine (of1_any T j ⟨N, 0, none⟩ a m c x _ vs wr cT.out sV.out hjm hxv.out cp.out fp.out).mono ?_
      rintro e w3 ⟨rfl, hv⟩
      rw [hw2.out] at hv
      obtain rfl : w2 = w3 := hv.symm
      clear cQ cD cG hv
      go_wp2_with fail
      go_roundw
      case rel => exact ⟨i + 1, by simp, hi1.out, by rw [hji.out]; exact s2.out, hP4.out, hN4.out, hE3.out⟩
      case measure => simp [intOf]; omega

end Go.Proofs.Ytfihdgichmocmaa
