/- Several texts in one: Gsv4, Gsv5, Gsv6, Gsv7, RegionG. -/
import Derived.Test.YtobgibmpodggkaaDoorGV1
import Derived.Laws.Tables
import Derived.Deep.DeepCutAuto
import Derived.Lib.SliceRun
import Derived.Test.YtobgibmpodggkaaDoorRowN
import Derived.Test.YtobgibmpodggkaaDoorKA

/- Package gsv: a book: New, right, Wait. -/
namespace Go.Proofs.YtobgibmpodggkaaDoor
open Go.ChangeShapes Go.WideShapes Go.ChangeAt Go.RowKit
set_option linter.unusedVariables false
set_option linter.unusedSimpArgs false

/-- A message that may be added. -/
def rgB (tt no : Int) (vn : Nat) : Bool := decide (1 ≤ tt ∧ tt ≤ 9 ∧ 1 ≤ no ∧ no ≤ tt ∧ vn ≤ 4)
theorem bnew29_any (w : World) : Calls Tryd.prog 16 #[] w fun r w' => r = .returned (.pointer (some ⟨w.heap.size, 0, none⟩)) ∧ w' = w.alloc (.cells #[.bool true, .int .i64 0, .int .i64 0, .slice none 0 0] 56) := by
  go_enter Tryd.func16, Tryd.ntmps16
  go_wp2_with fail
  go_ret
  exact ⟨rfl, rfl⟩
set_option maxRecDepth 100000 in
set_option maxHeartbeats 4000000 in
theorem right29_any (tt no sn : Int) (va : Option Addr) (vn vc : Nat) (w : World) : Calls Tryd.prog 41 #[.agg #[.int .i64 tt, .int .i64 no, .int .i64 sn, .slice va vn vc]] w fun r w' => r = .returned (.bool (rgB tt no vn)) ∧ After w w' := by
  by_cases c0 : 1 ≤ tt
  case neg =>
    have b0 : decide (1 ≤ tt) = false := by simpa using c0
    have hv := hid (show rgB tt no vn = false by unfold rgB; exact decide_eq_false (fun h => c0 (by omega)))
    rw [hv.out]
    clear hv
    go_enter Tryd.func41, Tryd.ntmps41
    go_upto_region 0 with (fail)
    apply wp_region_seg0 (w := w) (S := [.al 1000, .q []]) (E := [.al ((fun p => .pointer (some ⟨p, 0, none⟩)), _) 1000, .q0 _]) rfl (by kernel_rfl) rfl rfl
    intro th hge hne
    refine Seg.step _ rfl ⟨by rfl, fun U hU => ?_⟩ ?_
    · go_simp; exact vp_alloc rfl rfl rfl
    refine Seg.sa ?_
    refine Seg.sq ?_
    refine Seg.stop (fun U1 hU hk => ?_)
    have nb0 := hge 0 _ _ rfl
    have rb0 := (hk 0 _ _ rfl trivial).1.2 (by simp)
    clear hk hge hne
    generalize th (0 + 0) = p0_0 at *
    dsimp only at rb0
    have r_p0_0 := rb0
    clear rb0
    have n_p0_0 := nb0
    clear nb0
    have sz1 := hU.size
    have hB : Below w.heap.size w U1 := hU
    clear hU
    have z0 := held_cell r_p0_0 0 _ rfl
    have z1 := held_cell r_p0_0 1 _ rfl
    have z3 := held_cell r_p0_0 3 _ rfl
    go_wp2_with fail
    go_ret
    exact ⟨rfl, hB⟩
  have b0 : decide (1 ≤ tt) = true := by simpa using c0
  by_cases c1 : tt ≤ 9
  case neg =>
    have b1 : decide (tt ≤ 9) = false := by simpa using c1
    have hv := hid (show rgB tt no vn = false by unfold rgB; exact decide_eq_false (fun h => c1 (by omega)))
    rw [hv.out]
    clear hv
    go_enter Tryd.func41, Tryd.ntmps41
    go_upto_region 0 with (fail)
    apply wp_region_seg0 (w := w) (S := [.al 1000, .q []]) (E := [.al ((fun p => .pointer (some ⟨p, 0, none⟩)), _) 1000, .q0 _]) rfl (by kernel_rfl) rfl rfl
    intro th hge hne
    refine Seg.step _ rfl ⟨by rfl, fun U hU => ?_⟩ ?_
    · go_simp; exact vp_alloc rfl rfl rfl
    refine Seg.sa ?_
    refine Seg.sq ?_
    refine Seg.stop (fun U1 hU hk => ?_)
    have nb0 := hge 0 _ _ rfl
    have rb0 := (hk 0 _ _ rfl trivial).1.2 (by simp)
    clear hk hge hne
    generalize th (0 + 0) = p0_0 at *
    dsimp only at rb0
    have r_p0_0 := rb0
    clear rb0
    have n_p0_0 := nb0
    clear nb0
    have sz1 := hU.size
    have hB : Below w.heap.size w U1 := hU
    clear hU
    have z0 := held_cell r_p0_0 0 _ rfl
    have z1 := held_cell r_p0_0 1 _ rfl
    have z3 := held_cell r_p0_0 3 _ rfl
    go_wp2_with fail
    go_ret
    exact ⟨rfl, hB⟩
  have b1 : decide (tt ≤ 9) = true := by simpa using c1
  by_cases c2 : 1 ≤ no
  case neg =>
    have b2 : decide (1 ≤ no) = false := by simpa using c2
    have hv := hid (show rgB tt no vn = false by unfold rgB; exact decide_eq_false (fun h => c2 (by omega)))
    rw [hv.out]
    clear hv
    go_enter Tryd.func41, Tryd.ntmps41
    go_upto_region 0 with (fail)
    apply wp_region_seg0 (w := w) (S := [.al 1000, .q []]) (E := [.al ((fun p => .pointer (some ⟨p, 0, none⟩)), _) 1000, .q0 _]) rfl (by kernel_rfl) rfl rfl
    intro th hge hne
    refine Seg.step _ rfl ⟨by rfl, fun U hU => ?_⟩ ?_
    · go_simp; exact vp_alloc rfl rfl rfl
    refine Seg.sa ?_
    refine Seg.sq ?_
    refine Seg.stop (fun U1 hU hk => ?_)
    have nb0 := hge 0 _ _ rfl
    have rb0 := (hk 0 _ _ rfl trivial).1.2 (by simp)
    clear hk hge hne
    generalize th (0 + 0) = p0_0 at *
    dsimp only at rb0
    have r_p0_0 := rb0
    clear rb0
    have n_p0_0 := nb0
    clear nb0
    have sz1 := hU.size
    have hB : Below w.heap.size w U1 := hU
    clear hU
    have z0 := held_cell r_p0_0 0 _ rfl
    have z1 := held_cell r_p0_0 1 _ rfl
    have z3 := held_cell r_p0_0 3 _ rfl
    go_wp2_with fail
    go_ret
    exact ⟨rfl, hB⟩
  have b2 : decide (1 ≤ no) = true := by simpa using c2
  by_cases c3 : no ≤ tt
  case neg =>
    have b3 : decide (no ≤ tt) = false := by simpa using c3
    have hv := hid (show rgB tt no vn = false by unfold rgB; exact decide_eq_false (fun h => c3 (by omega)))
    rw [hv.out]
    clear hv
    go_enter Tryd.func41, Tryd.ntmps41
    go_upto_region 0 with (fail)
    apply wp_region_seg0 (w := w) (S := [.al 1000, .q []]) (E := [.al ((fun p => .pointer (some ⟨p, 0, none⟩)), _) 1000, .q0 _]) rfl (by kernel_rfl) rfl rfl
    intro th hge hne
    refine Seg.step _ rfl ⟨by rfl, fun U hU => ?_⟩ ?_
    · go_simp; exact vp_alloc rfl rfl rfl
    refine Seg.sa ?_
    refine Seg.sq ?_
    refine Seg.stop (fun U1 hU hk => ?_)
    have nb0 := hge 0 _ _ rfl
    have rb0 := (hk 0 _ _ rfl trivial).1.2 (by simp)
    clear hk hge hne
    generalize th (0 + 0) = p0_0 at *
    dsimp only at rb0
    have r_p0_0 := rb0
    clear rb0
    have n_p0_0 := nb0
    clear nb0
    have sz1 := hU.size
    have hB : Below w.heap.size w U1 := hU
    clear hU
    have z0 := held_cell r_p0_0 0 _ rfl
    have z1 := held_cell r_p0_0 1 _ rfl
    have z3 := held_cell r_p0_0 3 _ rfl
    go_wp2_with fail
    go_ret
    exact ⟨rfl, hB⟩
  have b3 : decide (no ≤ tt) = true := by simpa using c3
  by_cases c4 : vn ≤ 4
  case neg =>
    have b4 : decide ((vn : Int) ≤ 4) = false := by simp; omega
    have hv := hid (show rgB tt no vn = false by unfold rgB; exact decide_eq_false (fun h => c4 (by omega)))
    rw [hv.out]
    clear hv
    go_enter Tryd.func41, Tryd.ntmps41
    go_upto_region 0 with (fail)
    apply wp_region_seg0 (w := w) (S := [.al 1000, .q []]) (E := [.al ((fun p => .pointer (some ⟨p, 0, none⟩)), _) 1000, .q0 _]) rfl (by kernel_rfl) rfl rfl
    intro th hge hne
    refine Seg.step _ rfl ⟨by rfl, fun U hU => ?_⟩ ?_
    · go_simp; exact vp_alloc rfl rfl rfl
    refine Seg.sa ?_
    refine Seg.sq ?_
    refine Seg.stop (fun U1 hU hk => ?_)
    have nb0 := hge 0 _ _ rfl
    have rb0 := (hk 0 _ _ rfl trivial).1.2 (by simp)
    clear hk hge hne
    generalize th (0 + 0) = p0_0 at *
    dsimp only at rb0
    have r_p0_0 := rb0
    clear rb0
    have n_p0_0 := nb0
    clear nb0
    have sz1 := hU.size
    have hB : Below w.heap.size w U1 := hU
    clear hU
    have z0 := held_cell r_p0_0 0 _ rfl
    have z1 := held_cell r_p0_0 1 _ rfl
    have z3 := held_cell r_p0_0 3 _ rfl
    go_wp2_with fail
    go_ret
    exact ⟨rfl, hB⟩
  have b4 : decide ((vn : Int) ≤ 4) = true := by simp; omega
  have hv := hid (show rgB tt no vn = true by unfold rgB; exact decide_eq_true ⟨c0, c1, c2, c3, c4⟩)
  rw [hv.out]
  clear hv
  go_enter Tryd.func41, Tryd.ntmps41
  go_upto_region 0 with (fail)
  apply wp_region_seg0 (w := w) (S := [.al 1000, .q []]) (E := [.al ((fun p => .pointer (some ⟨p, 0, none⟩)), _) 1000, .q0 _]) rfl (by kernel_rfl) rfl rfl
  intro th hge hne
  refine Seg.step _ rfl ⟨by rfl, fun U hU => ?_⟩ ?_
  · go_simp; exact vp_alloc rfl rfl rfl
  refine Seg.sa ?_
  refine Seg.sq ?_
  refine Seg.stop (fun U1 hU hk => ?_)
  have nb0 := hge 0 _ _ rfl
  have rb0 := (hk 0 _ _ rfl trivial).1.2 (by simp)
  clear hk hge hne
  generalize th (0 + 0) = p0_0 at *
  dsimp only at rb0
  have r_p0_0 := rb0
  clear rb0
  have n_p0_0 := nb0
  clear nb0
  have sz1 := hU.size
  have hB : Below w.heap.size w U1 := hU
  clear hU
  have z0 := held_cell r_p0_0 0 _ rfl
  have z1 := held_cell r_p0_0 1 _ rfl
  have z3 := held_cell r_p0_0 3 _ rfl
  go_wp2_with fail
  go_ret
  exact ⟨rfl, hB⟩
set_option maxRecDepth 100000 in
set_option maxHeartbeats 4000000 in
theorem bwait29_any (B : Nat) (t n : Int) (v : Value) (w : World) (hb : w.heap[B]? = some (.cells #[.bool true, .int .i64 t, .int .i64 n, v] 56 (0, 0))) : Calls Tryd.prog 19 #[.pointer (some ⟨B, 0, none⟩)] w fun r w' => r = .returned (.tuple #[.int .i64 t, .int .i64 n]) ∧ After w w' := by
  have z0 := held_cell hb 0 _ rfl
  go_enter Tryd.func19, Tryd.ntmps19
  go_upto_region 3 with (fail)
  clear z0
  apply wp_region_seg (w := w) (S := [.q [], .q [], .q [], .q [], .q [], .q [], .q [], .q [], .q [], .q [], .q [], .q []]) (E := [.q0 _, .q0 _, .q0 _, .q0 _, .q0 _, .q0 _, .q0 _, .q0 _, .q0 _, .q0 _, .q0 _, .q0 _]) (by kernel_rfl) rfl (by kernel_rfl) rfl rfl
  intro th hge hne
  iterate 4 refine Seg.sq ?_
  refine Seg.sq ?_ (ht := Or.inl ⟨by rfl, fun U hU => vp_quiet (by (have h40 := held_cell (held_after hU.1 hb) 1 _ rfl; go_simp <;> exact rfl))⟩)
  iterate 4 refine Seg.sq ?_
  refine Seg.sq ?_ (ht := Or.inl ⟨by rfl, fun U hU => vp_quiet (by (have h41 := held_cell (held_after hU.1 hb) 2 _ rfl; go_simp <;> exact rfl))⟩)
  refine Seg.sq ?_
  refine Seg.sq ?_
  refine Seg.stop (fun U1 hU hk => ?_)
  clear hk hge hne
  replace hb := held_after hU hb
  have sz1 := hU.size
  have hB : Below w.heap.size w U1 := hU
  go_wp2_with fail
  go_ret2
  exact ⟨rfl, hU⟩

end Go.Proofs.YtobgibmpodggkaaDoor

/- Clear of a slice of structs. -/
namespace Go.Proofs.YtobgibmpodggkaaDoor
open Go.ChangeShapes Go.WideShapes Go.ChangeAt Go.RowKit
set_option linter.unusedVariables false
set_option linter.unusedSimpArgs false

open Go.Lib in
theorem run_clear_cells {P : Program} (w : World) (t e ty : TypeId) (z : Value) (ht : P.underlying t = some (.slice e)) (hv : ∀ w, (zeroValue e).run P w = .ok z w) (b o n c : Nat) (hn : 0 < n)
    (hc : ∀ j, j < (Builtin.zeroCells z.cells n).size → (w.cell? ⟨b, o + j, none⟩).isSome = true) (hf : ∀ j, j < (Builtin.zeroCells z.cells n).size → w.frozen? ⟨b, o + j, none⟩ = false) (h1 : ∀ v ∈ (Builtin.zeroCells z.cells n).toList, v.oneCell' = true) :
    (Builtin.clear_ #[t] ty #[.slice (some ⟨b, o, none⟩) n c]).run P w = .ok (.tuple #[]) (w.setCells b o (Builtin.zeroCells z.cells n).toList) := by
  have hst := run_storeCells_cells (P := P) b o (Builtin.zeroCells z.cells n).toList 0 w (by simpa using hc) (by simpa using hf) h1
  simp only [Nat.add_zero] at hst
  obtain ⟨m, rfl⟩ : ∃ m, n = m + 1 := ⟨n - 1, by omega⟩
  simp [Builtin.clear_, run_underlying ht, hv, hst]
theorem sets_only (g : Nat) : ∀ (l : List Value) (o : Nat) (w : World), Only g w (w.setCells g o l)
  | [], o, w => ⟨rfl, rfl, rfl, rfl, fun _ _ => rfl⟩
  | v :: l, o, w => (Only.set g o v w).then (sets_only g l (o + 1) _)
theorem sets_held {g : Nat} {E : TypeId} : ∀ (l : List Value) (o : Nat) (w : World) (C : Array Value), w.heap[g]? = some (.cells C E (0, 0)) → ∃ C', (w.setCells g o l).heap[g]? = some (.cells C' E (0, 0)) ∧ C'.size = C.size
  | [], o, w, C, h => ⟨C, h, rfl⟩
  | v :: l, o, w, C, h => by
    obtain ⟨C', h1, h2⟩ := sets_held l (o + 1) (w.setCell ⟨g, o, none⟩ v) _ (held_set h o v)
    exact ⟨C', h1, by rw [h2]; simp⟩
/-- A slice's cells are cleared: no other block changes, and cut to nothing it stands as one's own. -/
structure ClrW (E : TypeId) (base m : Nat) (ad : Option Addr) (n c : Nat) (w w' : World) : Prop where
  own : OwnE E w' base m (.slice ad 0 c) 0 []
  os : w'.os = w.os
  tape : w'.tape = w.tape
  output : w'.output = w.output
  size : w'.heap.size = w.heap.size
  block : ∀ k, some k ≠ (Value.slice ad n c).ownBlock → w'.heap[k]? = w.heap[k]?
theorem wp_clearC {P : Program} {w : World} {o : Oper} {a : Act} {K : Act → World → Prop} {Q : Exit → Act → World → Prop} (d : Operand) (t : TypeId)
    (ho : o.op = .call { callee := .builtin .clear, args := #[d], argTypes := #[t] }) (E : TypeId) (z : Value) (m : Nat) (hT : P.underlying t = some (.slice E)) (hv : ∀ w, (zeroValue E).run P w = .ok z w)
    (hz : ∀ n, (Builtin.zeroCells z.cells n).size = n * m) (h1 : ∀ n, ∀ v ∈ (Builtin.zeroCells z.cells n).toList, v.oneCell' = true)
    (base : Nat) (ad : Option Addr) (n c : Nat) (xs : List Value) (hO : OwnE E w base m (.slice ad n c) n xs) (hd : a.eval d = .slice ad n c)
    (h : ∀ w', ClrW E base m ad n c w w' → K (a.put o.dst (.tuple #[])) w') : o.wp P a w K Q := by
  obtain ⟨-, h2⟩ := hO
  rcases Nat.eq_zero_or_pos n with rfl | hn
  · have hw : ClrW E base m ad 0 c w w := by
      refine ⟨⟨by simp, ?_⟩, rfl, rfl, rfl, rfl, fun _ _ => rfl⟩
      rcases h2 with ⟨e, _⟩ | ⟨g, cap, cur, e, r1, r2, r3, r4, r5, -⟩
      · exact .inl ⟨e, rfl⟩
      · exact .inr ⟨g, cap, cur, e, r1, r2, r3, r4, r5, by simp⟩
    unfold Oper.wp
    cases ad with
    | none =>
      simp [execOp, ho, resolve, invoke, builtin, hd, Builtin.clear_, run_underlying hT, Result.andThen]
      exact h w hw
    | some x =>
      simp [execOp, ho, resolve, invoke, builtin, hd, Builtin.clear_, run_underlying hT, Result.andThen]
      exact h w hw
  · rcases h2 with ⟨-, e⟩ | ⟨g, cap, cur, e, r1, r2, r3, r4, r5, -⟩
    · omega
    · injection e with e1 e2 e3
      subst e1 e3
      have hle : n * m ≤ cur.size := Nat.le_trans (Nat.mul_le_mul_right m r3) r5
      have hrun := run_clear_cells (P := P) w t E o.type z hT hv g 0 n c hn (fun j hj => by
        rw [hz] at hj
        rw [Nat.zero_add, held_cell r2 j (cur[j]'(by omega)) (Array.getElem?_eq_getElem (by omega))]; rfl) (fun j _ => held_free r2 (0 + j)) (h1 n)
      have k1 := sets_only g (Builtin.zeroCells z.cells n).toList 0 w
      obtain ⟨C', k2, k3⟩ := sets_held (Builtin.zeroCells z.cells n).toList 0 w cur r2
      unfold Oper.wp
      simp [execOp, ho, resolve, invoke, builtin, hd, hrun, Result.andThen]
      exact h _ ⟨⟨by simp, .inr ⟨g, c, C', rfl, r1, k2, Nat.zero_le _, r4, by rw [k3]; exact r5, by simp⟩⟩, k1.os, k1.tape, k1.output, k1.size, fun k hk => k1.block k (fun e => hk (by subst e; rfl))⟩
theorem wpList_clearC {P : Program} (w : World) {ops : Array Oper} {rest : List Oper} {o : Oper} {a : Act} {Q : Exit → Act → World → Prop} (hgd : o.guard = none) (d : Operand) (t : TypeId)
    (ho : o.op = .call { callee := .builtin .clear, args := #[d], argTypes := #[t] }) (E : TypeId) (z : Value) (m : Nat) (hT : P.underlying t = some (.slice E)) (hv : ∀ w, (zeroValue E).run P w = .ok z w)
    (hz : ∀ n, (Builtin.zeroCells z.cells n).size = n * m) (h1 : ∀ n, ∀ v ∈ (Builtin.zeroCells z.cells n).toList, v.oneCell' = true)
    (base : Nat) (ad : Option Addr) (n c : Nat) (xs : List Value) (hO : OwnE E w base m (.slice ad n c) n xs) (hd : a.eval d = .slice ad n c)
    (h : ∀ w', ClrW E base m ad n c w w' → wpList P ops Q rest (a.put o.dst (.tuple #[])) w') : wpList P ops Q (o :: rest) a w :=
  wpList_plain hgd fun _ hK => wp_clearC d t ho E z m hT hv hz h1 base ad n c xs hO hd fun w' h1 => hK _ _ (h w' h1)

end Go.Proofs.YtobgibmpodggkaaDoor

/- A book's none. -/
namespace Go.Proofs.YtobgibmpodggkaaDoor
open Go.ChangeShapes Go.WideShapes Go.ChangeAt Go.RowKit
set_option linter.unusedVariables false
set_option linter.unusedSimpArgs false

theorem set2_29 {U : World} {p : Nat} {C : Array Value} {T : TypeId} (h : U.heap[p]? = some (.cells C T (0, 0))) (i j : Nat) (a b : Value) : ∃ W2, (U.setCell ⟨p, i, none⟩ a).setCell ⟨p, j, none⟩ b = W2 ∧ W2.heap[p]? = some (.cells ((C.setIfInBounds i a).setIfInBounds j b) T (0, 0)) ∧ Only p U W2 :=
  ⟨_, rfl, held_set (held_set h i a) j b, (Only.set p i a U).then (Only.set p j b _)⟩
theorem ownE_only {E T : TypeId} {w w' : World} {base m p : Nat} {v : Value} {n : Nat} {xs : List Value} {c : Array Value} (h : OwnE E w base m v n xs) (hp : w.heap[p]? = some (.cells c T (0, 0))) (hT : T ≠ E) (k : Only p w w') : OwnE E w' base m v n xs :=
  h.kept fun g hg => k.block g (fun e => h.ne hp hT (by rw [hg, e]))
def zv29 : Value := .agg #[.bool false, .int .i64 0, .bool false, .int .i64 0, .bool false, .int .i64 0, .bool false, .int .i64 0]
theorem zv29_size (n : Nat) : (Builtin.zeroCells zv29.cells n).size = n * 8 := by
  simp [Builtin.zeroCells, zv29, Value.cells]
theorem zv29_one (n : Nat) : ∀ v ∈ (Builtin.zeroCells zv29.cells n).toList, v.oneCell' = true := by
  intro v hv
  have h8 : ∀ k, k < 8 → (zv29.cells[k]!).oneCell' = true := by decide
  unfold Builtin.zeroCells at hv
  rw [Array.toList_map, List.mem_map] at hv
  obtain ⟨i, -, rfl⟩ := hv
  exact h8 _ (Nat.mod_lt i (show 0 < zv29.cells.size by decide))
theorem zv29_zero (w : World) : (zeroValue 69).run Tryd.prog w = .ok zv29 w := by
  unfold zv29
  go_simp <;> rfl
set_option maxRecDepth 100000 in
set_option maxHeartbeats 4000000 in
theorem bnone29_any (N B : Nat) (t n : Int) (a : Option Addr) (len cap : Nat) (xs : List Value) (w : World) (hb : w.heap[B]? = some (.cells #[.bool true, .int .i64 t, .int .i64 n, .slice a len cap] 56 (0, 0))) (hO : OwnE 69 w N 8 (.slice a len cap) len xs) (hN : N ≤ B) : Calls Tryd.prog 42 #[.pointer (some ⟨B, 0, none⟩)] w fun r w' => r = .returned (.tuple #[]) ∧ w'.heap[B]? = some (.cells #[.bool true, .int .i64 0, .int .i64 0, .slice a 0 cap] 56 (0, 0)) ∧ OwnE 69 w' N 8 (.slice a 0 cap) 0 [] ∧ PEff N B 3 w w' := by
  have z3 := held_cell hb 3 _ rfl
  have hne := hO.ne hb (by decide)
  have hO1 := hid hO
  have hb1 := hid hb
  clear hO hb
  go_enter Tryd.func42, Tryd.ntmps42
  go_wp2_with (first | (refine wpList_clearC w rfl (.tmp 5) 22 rfl 69 zv29 8 Tryd.underlying22 zv29_zero zv29_size zv29_one N a len cap xs hO1.out rfl ?_))
  intro W1 hC
  have hb2 := (hC.block B (fun e => hne e.symm)).trans hb1.out
  have hO2 := hid hC.own
  have hC2 := hid hC
  clear hC hne z3
  have z3 := held_cell hb2 3 _ rfl
  have f3 := held_free hb2 3
  obtain ⟨S1, hS1, y1, o1⟩ := st1 hb2 3 (.slice a 0 cap)
  have y2 : S1.heap[B]? = some (.cells #[.bool true, .int .i64 t, .int .i64 n, .slice a 0 cap] 56 (0, 0)) := y1
  have f1 := held_free y2 1
  have f2 := held_free y2 2
  have x1 := held_cell y2 1 _ rfl
  have x2 := held_cell y2 2 _ rfl
  obtain ⟨S2, hS2, y3, o2⟩ := set2_29 y2 1 2 (.int .i64 0) (.int .i64 0)
  have hO3 := hid (ownE_only (ownE_only hO2.out hb2 (by decide) o1) y2 (by decide) o2)
  have hq := hO1.out.2
  have c := hC2.out
  have w1 : wown B 3 w = (Value.slice a len cap).ownBlock := wown_at hb1.out rfl
  have w2 : wown B 3 S2 = (Value.slice a 0 cap).ownBlock := wown_at y3 rfl
  have wO : ∀ k, (Value.slice a len cap).ownBlock = some k → N ≤ k := fun k e => (hO1.out.lt k e).1
  have wE : (Value.slice a 0 cap).ownBlock = (Value.slice a len cap).ownBlock := by cases a <;> rfl
  have sz : S2.heap.size = w.heap.size := o2.size.trans (o1.size.trans c.size)
  have hfin : S2.heap[B]? = some (.cells #[.bool true, .int .i64 0, .int .i64 0, .slice a 0 cap] 56 (0, 0)) ∧ OwnE 69 S2 N 8 (.slice a 0 cap) 0 [] ∧ PEff N B 3 w S2 := ⟨y3, hO3.out, ⟨o2.os.trans (o1.os.trans c.os), o2.tape.trans (o1.tape.trans c.tape), o2.output.trans (o1.output.trans c.output), by rw [sz]; exact Nat.le_refl _, fun k hk => (o2.block k (by omega)).trans ((o1.block k (by omega)).trans (c.block k (fun e => by have := wO k e.symm; omega)))⟩, ⟨by rw [sz]; exact Nat.le_refl _, fun k _ h2 h3 => (o2.block k h2).trans ((o1.block k h2).trans (c.block k (by rw [w1] at h3; exact h3))), fun k hk => .inl (by rw [w1, ← wE, ← w2]; exact hk)⟩⟩
  replace hfin := hid hfin
  clear y1 y2 y3 o1 o2 hO3 hO2 c w1 w2 wO wE sz
  rcases hq with ⟨e, -⟩ | ⟨g, cp, cur, e, -, -, hle, hmx, -⟩
  · injection e with e1 e2 e3
    subst e1 e2 e3
    go_wp2_with fail
    go_end0
    exact ⟨rfl, hfin.out⟩
  · injection e with e1 e2 e3
    subst e1 e3
    go_wp2_with fail
    go_end0
    exact ⟨rfl, hfin.out⟩

end Go.Proofs.YtobgibmpodggkaaDoor

/- What is read of a message's fields. -/
namespace Go.Proofs.YtobgibmpodggkaaDoor
open Go.ChangeShapes Go.WideShapes Go.ChangeAt Go.RowKit
set_option linter.unusedVariables false
set_option linter.unusedSimpArgs false

/-- A view that is read. -/
def vw1 (e : Int) (L : List ByteArray) : V4 × Int × List ByteArray :=
  let a := nmS e L 1 3 0 1 255
  let b := nmS a.2.1 a.2.2 1 2 0 0 90
  let c := nmS b.2.1 b.2.2 1 3 0 0 359
  let d := nmS c.2.1 c.2.2 1 2 0 0 99
  ((a.1, b.1, c.1, d.1), d.2.1, d.2.2)
/-- Some views that are read. -/
def vwS (e : Int) (L : List ByteArray) : Nat → List V4 × Int × List ByteArray
  | 0 => ([], e, L)
  | k + 1 => ((vwS e L k).1 ++ [(vw1 (vwS e L k).2.1 (vwS e L k).2.2).1], (vw1 (vwS e L k).2.1 (vwS e L k).2.2).2)
/-- What is read of the fields of a message, and why there is none. -/
structure GvR where
  tt : Int
  no : Int
  sn : Int
  vs : List V4
  e : Int
def gvR (s0 s1 s2 : ByteArray) (R : List ByteArray) (k : Nat) : GvR :=
  let e2 := kp (kp 0 (fxV s0 9).2) (fxV s1 (fxV s0 9).1).2
  let a := nmS e2 (s2 :: R) 1 2 0 0 99
  let i := vwS (if a.1.1 = true then a.2.1 else kp a.2.1 3) R k
  ⟨(fxV s0 9).1, (fxV s1 (fxV s0 9).1).1, a.1.2, i.1, i.2.1⟩
/-- How such a message is answered. -/
def GvOk (w : World) (g : GvR) (r : Ending) (w' : World) : Prop := After w w' ∧
  ((g.e ≠ 0 ∧ r = .returned (.tuple #[.agg #[.int .i64 0, .int .i64 0, .int .i64 0, .slice none 0 0], .int .i64 g.e])) ∨
   (g.e = 0 ∧ ∃ (a : Option Addr) (n c : Nat), r = .returned (.tuple #[.agg #[.int .i64 g.tt, .int .i64 g.no, .int .i64 g.sn, .slice a n c], .int .i64 0]) ∧ Els w' 8 a n c (g.vs.map enV)))
theorem vwS_len (e : Int) (L : List ByteArray) : ∀ k, (vwS e L k).1.length = k
  | 0 => rfl
  | k + 1 => by
    show ((vwS e L k).1 ++ [_]).length = _
    rw [List.length_append, vwS_len e L k]; rfl
theorem nmS_size {e W M F lo hi : Int} {L : List ByteArray} (h : ∀ s ∈ L, s.size ≤ 1000) : (∀ s ∈ (nmS e L W M F lo hi).2.2, s.size ≤ 1000) ∧ (nmS e L W M F lo hi).2.2.length ≤ L.length := (txS_size (e := e) h).2
theorem vw1_size {e : Int} {L : List ByteArray} (h : ∀ s ∈ L, s.size ≤ 1000) : (∀ s ∈ (vw1 e L).2.2, s.size ≤ 1000) ∧ (vw1 e L).2.2.length ≤ L.length := by
  unfold vw1
  dsimp only
  have h1 := nmS_size (e := e) (W := 1) (M := 3) (F := 0) (lo := 1) (hi := 255) h
  generalize nmS e L 1 3 0 1 255 = a at *
  have h2 := nmS_size (e := a.2.1) (W := 1) (M := 2) (F := 0) (lo := 0) (hi := 90) h1.1
  generalize nmS a.2.1 a.2.2 1 2 0 0 90 = b at *
  have h3 := nmS_size (e := b.2.1) (W := 1) (M := 3) (F := 0) (lo := 0) (hi := 359) h2.1
  generalize nmS b.2.1 b.2.2 1 3 0 0 359 = c at *
  have h4 := nmS_size (e := c.2.1) (W := 1) (M := 2) (F := 0) (lo := 0) (hi := 99) h3.1
  exact ⟨h4.1, by omega⟩
theorem vwS_size {e : Int} {L : List ByteArray} (h : ∀ s ∈ L, s.size ≤ 1000) : ∀ k, (∀ s ∈ (vwS e L k).2.2, s.size ≤ 1000) ∧ (vwS e L k).2.2.length ≤ L.length
  | 0 => ⟨h, Nat.le_refl _⟩
  | k + 1 => by
    have h1 := vwS_size (e := e) h k
    have h2 := vw1_size (e := (vwS e L k).2.1) h1.1
    exact ⟨h2.1, Nat.le_trans h2.2 h1.2⟩

end Go.Proofs.YtobgibmpodggkaaDoor

/- As XRegionT, over whatever relation of the worlds, which the very last operation (it waits for all others) need not keep: p.f = append(p.f, x). -/
namespace Go.Proofs.YtobgibmpodggkaaDoor
open Go.RowKit
set_option maxRecDepth 100000

/-- A relation of worlds that may be laid behind itself. -/
structure PreO (Rl : World → World → Prop) : Prop where
  refl : ∀ w, Rl w w
  trans : ∀ {a b c : World}, Rl a b → Rl b c → Rl a c

section
variable {P : Program} {ops : Array Oper} {Q : Exit → Act → World → Prop} {md : Region.Mode} {Rl : World → World → Prop} {last : Nat}

def wpAnyG (P : Program) (md : Region.Mode) (Rl : World → World → Prop) (last : Nat) (ops : Array Oper) (Q : Exit → Act → World → Prop) : Nat → Array Bool → Act → World → Prop
  | 0, listed, a, w => Region.ready md ops listed = [] ∧ Q .normal a w
  | n + 1, listed, a, w => (Region.ready md ops listed = [] → Q .normal a w) ∧
      ∀ i ∈ Region.ready md ops listed, wpOp P ops Q i (fun a' w' => (i ≠ last → Rl w w') ∧ wpAnyG P md Rl last ops Q n (listed.setIfInBounds i true) a' w') a w

theorem wpAny_of_G : ∀ (n : Nat) (listed : Array Bool) (a : Act) (w : World), wpAnyG P md Rl last ops Q n listed a w → wpAny P md ops Q n listed a w
  | 0, _, _, _, h => h
  | n + 1, _, _, _, h => ⟨h.1, fun i hi => wpOp_mono (fun a' w' k => wpAny_of_G n _ a' w' k.2) (h.2 i hi)⟩

theorem YieldsIf.laterG (ho : PreO Rl) {o : Oper} {v : Value} {a : Act} {w w' : World} (h : YieldsIf P ops (Rl w) o v a) (hw : Rl w w') : YieldsIf P ops (Rl w') o v a :=
  h.imp (fun ⟨h1, h2⟩ => ⟨h1, fun u hu => h2 u (ho.trans hw hu)⟩) id

/-- The last operation waits for number i. -/
def waitsG (md : Region.Mode) (ops : Array Oper) (last i : Nat) : Bool := match ops[last]? with | some o => o.after.any fun e => Region.binds md e && e.on == i | none => false
theorem waitsG_spec {i : Nat} (h : waitsG md ops last i = true) : ∃ ol, ops[last]? = some ol ∧ ∃ e ∈ ol.after, Region.binds md e = true ∧ e.on = i := by
  unfold waitsG at h
  cases hl : ops[last]? with
  | none => rw [hl] at h; cases h
  | some ol =>
    rw [hl] at h
    simp only [Array.any_eq_true, Bool.and_eq_true, beq_iff_eq] at h
    obtain ⟨k, hk, h1, h2⟩ := h
    exact ⟨ol, rfl, ol.after[k], Array.getElem_mem hk, h1, h2⟩

theorem wpAnyG_first (ho : PreO Rl) {i : Nat} {oi : Oper} {v : Value} (hi : ops[i]? = some oi) (hl : waitsG md ops last i = true) (hsel : ∀ (j : Nat) (o : Oper) cs b, ops[j]? = some o → o.op ≠ .select cs b)
    (hQ : ∀ c a w, Q (.panic c) (a.put oi.dst v) w → Q (.panic c) a w) (n : Nat) : ∀ (listed : Array Bool) (a : Act) (w : World),
      (∀ j oj, ops[j]? = some oj → j ≠ i → listed.getD j true = false → (∀ e ∈ oj.after, Region.binds md e = true → e.on ≠ i) → oi.apart ops oj = true) →
      i ∈ Region.ready md ops listed → YieldsIf P ops (Rl w) oi v a →
      wpAnyG P md Rl last ops Q n (listed.setIfInBounds i true) (a.put oi.dst v) w → wpAnyG P md Rl last ops Q (n + 1) listed a w := by
  obtain ⟨ol, hol, e0, he0, hb0, hon0⟩ := waitsG_spec hl
  induction n with
  | zero =>
    intro listed a w _ hr hy H
    constructor
    · intro h; rw [h] at hr; cases hr
    · intro j hj
      by_cases hji : j = i
      · subst hji; exact hy.wpOp hi (ho.refl w) ⟨fun _ => ho.refl w, H⟩
      · have := ready_mono hj hji
        rw [H.1] at this; cases this
  | succ n ih =>
    intro listed a w hap hr hy H
    constructor
    · intro h; rw [h] at hr; cases hr
    · intro j hj
      by_cases hji : j = i
      · subst hji; exact hy.wpOp hi (ho.refl w) ⟨fun _ => ho.refl w, H⟩
      · obtain ⟨hun, oj, hoj, hall⟩ := mem_ready.1 hj
        have hno : ∀ e ∈ oj.after, Region.binds md e = true → e.on ≠ i := by
          intro e he hb heq
          have k1 := hall e he hb
          have k0 := (mem_ready.1 hr).1
          rw [heq] at k1
          by_cases hs : i < listed.size
          · simp [hs] at k0 k1; rw [k0] at k1; cases k1
          · rw [Array.getD_eq_getD_getElem?, Array.getElem?_eq_none (by omega)] at k1; cases k1
        have hjl : j ≠ last := by
          intro e
          subst e
          rw [hol] at hoj; cases hoj
          exact hno e0 he0 hb0 hon0
        have step := wpOp_putIf hoj (hap j oj hoj hji hun hno) (fun cs b => hsel i oi cs b hi) (fun cs b => hsel j oj cs b hoj) hQ hy (H.2 j (ready_mono hj hji))
        refine wpOp_mono (fun a' w' k => ⟨k.2.1, ih _ a' w' ?_ (ready_mono hr (Ne.symm hji)) (YieldsIf.laterG ho k.1 (k.2.1 hjl)) ?_⟩) step
        · intro m om hom hmi hmu hmn
          refine hap m om hom hmi ?_ hmn
          by_cases hjm : j = m
          · subst hjm; exact hun
          · rwa [getD_set_ne true hjm] at hmu
        · rw [Array.setIfInBounds_comm _ _ hji]; exact k.2.2

/-- As wpAnyG_first, of what yields the same in every world. -/
theorem wpAnyG_firstP (ho : PreO Rl) {i : Nat} {oi : Oper} {v : Value} (hi : ops[i]? = some oi) (hsel : ∀ (j : Nat) (o : Oper) cs b, ops[j]? = some o → o.op ≠ .select cs b)
    (hQ : ∀ c a w, Q (.panic c) (a.put oi.dst v) w → Q (.panic c) a w) (n : Nat) : ∀ (listed : Array Bool) (a : Act) (w : World),
      (∀ j oj, ops[j]? = some oj → j ≠ i → listed.getD j true = false → (∀ e ∈ oj.after, Region.binds md e = true → e.on ≠ i) → oi.apart ops oj = true) →
      i ∈ Region.ready md ops listed → YieldsIf P ops (fun _ => True) oi v a →
      wpAnyG P md Rl last ops Q n (listed.setIfInBounds i true) (a.put oi.dst v) w → wpAnyG P md Rl last ops Q (n + 1) listed a w := by
  induction n with
  | zero =>
    intro listed a w _ hr hy H
    constructor
    · intro h; rw [h] at hr; cases hr
    · intro j hj
      by_cases hji : j = i
      · subst hji; exact hy.wpOp hi trivial ⟨fun _ => ho.refl w, H⟩
      · have := ready_mono hj hji
        rw [H.1] at this; cases this
  | succ n ih =>
    intro listed a w hap hr hy H
    constructor
    · intro h; rw [h] at hr; cases hr
    · intro j hj
      by_cases hji : j = i
      · subst hji; exact hy.wpOp hi trivial ⟨fun _ => ho.refl w, H⟩
      · obtain ⟨hun, oj, hoj, hall⟩ := mem_ready.1 hj
        have hno : ∀ e ∈ oj.after, Region.binds md e = true → e.on ≠ i := by
          intro e he hb heq
          have k1 := hall e he hb
          have k0 := (mem_ready.1 hr).1
          rw [heq] at k1
          by_cases hs : i < listed.size
          · simp [hs] at k0 k1; rw [k0] at k1; cases k1
          · rw [Array.getD_eq_getD_getElem?, Array.getElem?_eq_none (by omega)] at k1; cases k1
        have step := wpOp_putIf hoj (hap j oj hoj hji hun hno) (fun cs b => hsel i oi cs b hi) (fun cs b => hsel j oj cs b hoj) hQ hy (H.2 j (ready_mono hj hji))
        refine wpOp_mono (fun a' w' k => ⟨k.2.1, ih _ a' w' ?_ (ready_mono hr (Ne.symm hji)) k.1 ?_⟩) step
        · intro m om hom hmi hmu hmn
          refine hap m om hom hmi ?_ hmn
          by_cases hjm : j = m
          · subst hjm; exact hun
          · rwa [getD_set_ne true hjm] at hmu
        · rw [Array.setIfInBounds_comm _ _ hji]; exact k.2.2
theorem wpAnyG_takeP (ho : PreO Rl) {oi : Oper} {n : Nat} {listed : Array Bool} {a : Act} {w : World} (i : Nat) (hi : ops[i]? = some oi) (hs : Region.noSelect ops = true) (hf : Region.free md ops listed i = true)
    (hr : (Region.ready md ops listed).contains i = true) (hQ : ∀ v c a w, Q (.panic c) (a.put oi.dst v) w → Q (.panic c) a w)
    (h : ∃ v, YieldsIf P ops (fun _ => True) oi v a ∧ ∃ a', a.put oi.dst v = a' ∧ wpAnyG P md Rl last ops Q n (listed.setIfInBounds i true) a' w) : wpAnyG P md Rl last ops Q (n + 1) listed a w := by
  obtain ⟨v, hy, _, rfl, h⟩ := h
  exact wpAnyG_firstP ho hi (Region.noSelect_spec hs) (hQ v) n listed a w (Region.free_spec hi hf) (by simpa using hr) hy h

theorem wpAnyG_take (ho : PreO Rl) {oi : Oper} {n : Nat} {listed : Array Bool} {a : Act} {w : World} (i : Nat) (hi : ops[i]? = some oi) (hl : waitsG md ops last i = true) (hs : Region.noSelect ops = true) (hf : Region.free md ops listed i = true)
    (hr : (Region.ready md ops listed).contains i = true) (hQ : ∀ v c a w, Q (.panic c) (a.put oi.dst v) w → Q (.panic c) a w)
    (h : ∃ v, YieldsIf P ops (Rl w) oi v a ∧ ∃ a', a.put oi.dst v = a' ∧ wpAnyG P md Rl last ops Q n (listed.setIfInBounds i true) a' w) : wpAnyG P md Rl last ops Q (n + 1) listed a w := by
  obtain ⟨v, hy, _, rfl, h⟩ := h
  exact wpAnyG_first ho hi hl (Region.noSelect_spec hs) (hQ v) n listed a w (Region.free_spec hi hf) (by simpa using hr) hy h

theorem wpAnyG_only {oi : Oper} {n : Nat} {listed : Array Bool} {a : Act} {w : World} (i : Nat) (hi : ops[i]? = some oi) (hr : Region.ready md ops listed = [i]) (hw : Region.wanted oi (yielded ops a.tmps) = true)
    (h : ∀ K : Act → World → Prop, (∀ a' w', (i ≠ last → Rl w w') ∧ wpAnyG P md Rl last ops Q n (listed.setIfInBounds i true) a' w' → K a' w') → oi.wp P a w K Q) : wpAnyG P md Rl last ops Q (n + 1) listed a w := by
  refine ⟨(fun h0 => by rw [hr] at h0; cases h0), fun j hj => ?_⟩
  rw [hr] at hj
  obtain rfl := List.mem_singleton.1 hj
  unfold wpOp
  simp only [hi, hw, if_true]
  exact .inl (h _ fun _ _ k => k)

theorem wpAnyG_done {listed : Array Bool} {a : Act} {w : World} (hr : Region.ready md ops listed = []) (h : Q .normal a w) : ∀ n, wpAnyG P md Rl last ops Q n listed a w
  | 0 => ⟨hr, h⟩
  | n + 1 => ⟨fun _ => h, fun i hi => by rw [hr] at hi; cases hi⟩
theorem wp_region_G {id : Nat} {a : Act} {w : World} (Rl : World → World → Prop) (last : Nat) (hm : P.follows .mixedOrders = true) (h : wpAnyG P .any Rl last ops Q ops.size (Array.replicate ops.size false) a w.drew) : (Code.region id ops true).wp P Q a w :=
  wp_region_any hm (wpAny_of_G _ _ _ _ h)
end

end Go.Proofs.YtobgibmpodggkaaDoor
