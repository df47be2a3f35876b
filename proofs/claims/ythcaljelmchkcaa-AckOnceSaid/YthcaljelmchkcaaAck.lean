/- Package ack: its book. -/
import Derived.Test.YthcaljelmchkcaaKB
import Derived.Deep.DeepCutAuto
namespace Go.Proofs.Ythcaljelmchkcaa
open Go.ChangeShapes Go.WideShapes Go.ChangeAt Go.RowKit Go.Shelf
set_option linter.unusedVariables false

theorem effq_refl (p : Nat) (w : World) : Eff p w w := ⟨rfl, rfl, rfl, Nat.le_refl _, fun _ _ _ => rfl⟩
theorem effq_set (p j : Nat) (v : Value) (w : World) : Eff p w (w.setCell ⟨p, j, none⟩ v) := ⟨rfl, rfl, rfl, by simp, fun k hk hn => Below.heap_setCell w ⟨p, j, none⟩ v k hn⟩
theorem effq_then {p : Nat} {a b c : World} (h : Eff p a b) (k : Eff p b c) : Eff p a c := ⟨k.os.trans h.os, k.tape.trans h.tape, k.output.trans h.output, Nat.le_trans h.size k.size, fun i hi hn => (k.block i (Nat.lt_of_lt_of_le hi h.size) hn).trans (h.block i hi hn)⟩
theorem effq_below {p : Nat} {a b : World} (h : Below a.heap.size a b) : Eff p a b := ⟨h.os, h.tape, h.output, h.size, fun k hk _ => h.block k hk⟩
theorem below_effq {C p : Nat} {w a b : World} (h : Below C w a) (e : Eff p a b) (hp : C ≤ p) (hC : C ≤ a.heap.size) : Below C w b := h.trans ⟨e.os, e.tape, e.output, e.size, fun k hk => e.block k (by omega) (by omega)⟩
theorem held_onq {w w' : World} {p : Nat} {o : Obj} (h : w.heap[p]? = some o) (hb : Below w.heap.size w w') : w'.heap[p]? = some o := by rw [hb.block p (held_lt h)]; exact h
theorem effq_drew (p : Nat) (w : World) : Eff p w w.drew := ⟨rfl, rfl, rfl, Nat.le_refl _, fun _ _ _ => rfl⟩
theorem held_two {V : World} {p : Nat} {o : Obj} (h : V.heap[p]? = some o) (X Y : Obj) : ((V.alloc X).alloc Y).heap[p]? = some o := held_after (((Below.refl _ V).alloc (Nat.le_refl _) X).alloc (by simp) Y) h
theorem two_top (V : World) (X Y : Obj) : ((V.alloc X).alloc Y).heap[V.heap.size + 1]? = some Y := by
  have h := World.alloc_heap_new (V.alloc X) Y
  rwa [World.size_alloc] at h
theorem setq1 {U : World} {p : Nat} {c : Array Value} {T : TypeId} (h : U.heap[p]? = some (.cells c T (0, 0))) (j : Nat) (v : Value) : ∃ W2, U.setCell ⟨p, j, none⟩ v = W2 ∧ W2.heap[p]? = some (.cells (c.setIfInBounds j v) T (0, 0)) ∧ Eff p U W2 ∧ W2.heap.size = U.heap.size := ⟨_, rfl, held_set h j v, effq_set p j v U, by simp⟩
theorem heldq {w w' : World} {p q : Nat} {o : Obj} (e : Eff p w w') (hn : q ≠ p) (h : w.heap[q]? = some o) : w'.heap[q]? = some o := by rw [e.block q (held_lt h) hn]; exact h
theorem right_nil (w : World) : Calls Try.prog 28 #[.pointer none] w fun e w' => e = .returned (.bool false) ∧ w' = w := by
  go_enter Try.func28, Try.ntmps28
  go_wp2_with fail
  go_ret
  exact ⟨rfl, rfl⟩
theorem right_at (p : Nat) (m : Bool) (sl : Value) (y n o : Int) (w : World) (h : w.heap[p]? = some (.cells #[.bool m, sl, .int .i64 y, .int .i64 n, .int .i64 o] 53 (0, 0))) : Calls Try.prog 28 #[.pointer (some ⟨p, 0, none⟩)] w fun e w' => e = .returned (.bool m) ∧ w' = w := by
  have c0 := held_cell h 0 _ rfl
  have c1 := held_cell h 1 _ rfl
  have c2 := held_cell h 2 _ rfl
  have c3 := held_cell h 3 _ rfl
  have c4 := held_cell h 4 _ rfl
  clear h
  go_enter Try.func28, Try.ntmps28
  go_wp2_with fail
  go_ret
  exact ⟨rfl, rfl⟩
theorem counts_nil (w : World) : Calls Try.prog 18 #[.pointer none] w fun e w' => e = .returned (.tuple #[.int .i64 0, .int .i64 0, .int .i64 0]) ∧ Below w.heap.size w w' := by
  go_enter Try.func18, Try.ntmps18
  go_wp2_with fail
  refine (right_nil _).mono ?_
  rintro e V ⟨rfl, rfl⟩
  go_wp2_with fail
  exact bodyPost_ret (v := .tuple #[.int .i64 0, .int .i64 0, .int .i64 0]) (by simp [results, Try.results18, go_sem]) rfl ⟨rfl, Below.refl _ _⟩
theorem ask_nil (c i : Int) (w : World) : Calls Try.prog 14 #[.pointer none, .int .i64 c, .int .i64 i] w fun e w' => e = .returned (.bool false) ∧ Below w.heap.size w w' := by
  go_enter Try.func14, Try.ntmps14
  go_wp2_with fail
  refine (right_nil _).mono ?_
  rintro e V ⟨rfl, rfl⟩
  go_wp2_with fail
  go_ret
  exact ⟨rfl, by first | exact Below.refl _ _ | exact (Below.refl _ _).alloc (Nat.le_refl _) _⟩
theorem hear_nil (b : Bool) (c i : Int) (w : World) : Calls Try.prog 16 #[.pointer none, .agg #[.bool b, .int .i64 c, .int .i64 i]] w fun e w' => e = .returned (.bool false) ∧ Below w.heap.size w w' := by
  go_enter Try.func16, Try.ntmps16
  go_wp2_with fail
  refine (right_nil _).mono ?_
  rintro e V ⟨rfl, rfl⟩
  go_wp2_with fail
  go_ret
  exact ⟨rfl, by first | exact Below.refl _ _ | exact (Below.refl _ _).alloc (Nat.le_refl _) _⟩
theorem open_nil (w : World) : Calls Try.prog 20 #[.pointer none] w fun e w' => e = .returned (.slice none 0 0) ∧ Below w.heap.size w w' := by
  go_enter Try.func20, Try.ntmps20
  go_wp2_with fail
  refine (right_nil _).mono ?_
  rintro e V ⟨rfl, rfl⟩
  go_wp2_with fail
  go_ret
  exact ⟨rfl, by first | exact Below.refl _ _ | exact (Below.refl _ _).alloc (Nat.le_refl _) _⟩
theorem counts_off (p : Nat) (sl : Value) (y n o : Int) (w : World) (h : w.heap[p]? = some (.cells #[.bool false, sl, .int .i64 y, .int .i64 n, .int .i64 o] 53 (0, 0))) : Calls Try.prog 18 #[.pointer (some ⟨p, 0, none⟩)] w fun e w' => e = .returned (.tuple #[.int .i64 0, .int .i64 0, .int .i64 0]) ∧ Below w.heap.size w w' := by
  go_enter Try.func18, Try.ntmps18
  go_wp2_with fail
  refine (right_at p false sl y n o _ (by first | exact h | exact held_onq h ((Below.refl _ _).alloc (Nat.le_refl _) _))).mono ?_
  rintro e V ⟨rfl, rfl⟩
  go_wp2_with fail
  exact bodyPost_ret (v := .tuple #[.int .i64 0, .int .i64 0, .int .i64 0]) (by simp [results, Try.results18, go_sem]) rfl ⟨rfl, Below.refl _ _⟩
theorem ask_off (c i : Int) (p : Nat) (sl : Value) (y n o : Int) (w : World) (h : w.heap[p]? = some (.cells #[.bool false, sl, .int .i64 y, .int .i64 n, .int .i64 o] 53 (0, 0))) : Calls Try.prog 14 #[.pointer (some ⟨p, 0, none⟩), .int .i64 c, .int .i64 i] w fun e w' => e = .returned (.bool false) ∧ Below w.heap.size w w' := by
  go_enter Try.func14, Try.ntmps14
  go_wp2_with fail
  refine (right_at p false sl y n o _ (by first | exact h | exact held_onq h ((Below.refl _ _).alloc (Nat.le_refl _) _))).mono ?_
  rintro e V ⟨rfl, rfl⟩
  go_wp2_with fail
  go_ret
  exact ⟨rfl, by first | exact Below.refl _ _ | exact (Below.refl _ _).alloc (Nat.le_refl _) _⟩
theorem hear_off (b : Bool) (c i : Int) (p : Nat) (sl : Value) (y n o : Int) (w : World) (h : w.heap[p]? = some (.cells #[.bool false, sl, .int .i64 y, .int .i64 n, .int .i64 o] 53 (0, 0))) : Calls Try.prog 16 #[.pointer (some ⟨p, 0, none⟩), .agg #[.bool b, .int .i64 c, .int .i64 i]] w fun e w' => e = .returned (.bool false) ∧ Below w.heap.size w w' := by
  go_enter Try.func16, Try.ntmps16
  go_wp2_with fail
  refine (right_at p false sl y n o _ (by first | exact h | exact held_onq h ((Below.refl _ _).alloc (Nat.le_refl _) _))).mono ?_
  rintro e V ⟨rfl, rfl⟩
  go_wp2_with fail
  go_ret
  exact ⟨rfl, by first | exact Below.refl _ _ | exact (Below.refl _ _).alloc (Nat.le_refl _) _⟩
theorem open_off (p : Nat) (sl : Value) (y n o : Int) (w : World) (h : w.heap[p]? = some (.cells #[.bool false, sl, .int .i64 y, .int .i64 n, .int .i64 o] 53 (0, 0))) : Calls Try.prog 20 #[.pointer (some ⟨p, 0, none⟩)] w fun e w' => e = .returned (.slice none 0 0) ∧ Below w.heap.size w w' := by
  go_enter Try.func20, Try.ntmps20
  go_wp2_with fail
  refine (right_at p false sl y n o _ (by first | exact h | exact held_onq h ((Below.refl _ _).alloc (Nat.le_refl _) _))).mono ?_
  rintro e V ⟨rfl, rfl⟩
  go_wp2_with fail
  go_ret
  exact ⟨rfl, by first | exact Below.refl _ _ | exact (Below.refl _ _).alloc (Nat.le_refl _) _⟩
theorem counts_at (p : Nat) (sl : Value) (y n o : Int) (w : World) (h : w.heap[p]? = some (.cells #[.bool true, sl, .int .i64 y, .int .i64 n, .int .i64 o] 53 (0, 0))) : Calls Try.prog 18 #[.pointer (some ⟨p, 0, none⟩)] w fun e w' => e = .returned (.tuple #[.int .i64 y, .int .i64 n, .int .i64 o]) ∧ Below w.heap.size w w' := by
  have c0 := held_cell h 0 _ rfl
  have c1 := held_cell h 1 _ rfl
  have c2 := held_cell h 2 _ rfl
  have c3 := held_cell h 3 _ rfl
  have c4 := held_cell h 4 _ rfl
  go_enter Try.func18, Try.ntmps18
  go_wp2_with fail
  refine (right_at p true sl y n o _ h).mono ?_
  rintro e V ⟨rfl, rfl⟩
  clear h
  go_wp2_with fail
  go_region
  go_wp2_with fail
  exact bodyPost_ret (v := .tuple #[.int .i64 y, .int .i64 n, .int .i64 o]) (by simp [results, Try.results18, go_sem]) rfl ⟨rfl, below_drewN (Below.refl _ _) 1⟩
theorem nack_any (w : World) : Calls Try.prog 13 #[] w fun e w' => e = .returned (.pointer (some ⟨w.heap.size, 0, none⟩)) ∧ w' = w.alloc (.cells #[.bool true, .slice none 0 0, .int .i64 0, .int .i64 0, .int .i64 0] 53) := by
  go_enter Try.func13, Try.ntmps13
  go_wp2_with fail
  go_ret
  exact ⟨rfl, rfl⟩
theorem isbyte_in (n : Int) (w : World) (h0 : 0 ≤ n) (h1 : n ≤ 255) : Calls Try.prog 29 #[.int .i64 n] w fun e w' => e = .returned (.bool true) ∧ w' = w := by
  go_enter Try.func29, Try.ntmps29
  go_wp2_with fail
  all_goals go_ret
  all_goals exact ⟨rfl, rfl⟩
theorem ackinfo : ∃ i : TypeInfo, Try.prog.info? 23 = some i ∧ i.zero = some (.agg #[.bool false, .int .i64 0, .int .i64 0]) ∧ i.size = 3 ∧ i.bytes ≤ 1000 := by
  have h : (Try.prog.info? 23).map (fun i => (i.zero, i.size, decide (i.bytes ≤ 1000))) = some (some (.agg #[.bool false, .int .i64 0, .int .i64 0]), 3, true) := by kernel_rfl
  cases hi : Try.prog.info? 23 with
  | none => rw [hi] at h; cases h
  | some i =>
    rw [hi] at h
    simp at h
    exact ⟨i, rfl, h.1, h.2.1, h.2.2⟩
set_option maxRecDepth 100000 in
set_option maxHeartbeats 2000000 in
theorem ask_first (p : Nat) (w : World) (h : w.heap[p]? = some (.cells #[.bool true, .slice none 0 0, .int .i64 0, .int .i64 0, .int .i64 0] 53 (0, 0))) : Calls Try.prog 14 #[.pointer (some ⟨p, 0, none⟩), .int .i64 6, .int .i64 1] w fun e w' => e = .returned (.bool true) ∧ Eff p w w' ∧ ∃ (g cap : Nat) (r : Array Value), w.heap.size ≤ g ∧ 1 ≤ cap ∧ w'.heap[p]? = some (.cells #[.bool true, .slice (some ⟨g, 0, none⟩) 1 cap, .int .i64 0, .int .i64 0, .int .i64 0] 53 (0, 0)) ∧ w'.heap[g]? = some (.cells (#[.bool false, .int .i64 6, .int .i64 1] ++ r) 23 (0, 0)) := by
  have c0 := held_cell h 0 _ rfl
  have c1 := held_cell h 1 _ rfl
  have c2 := held_cell h 2 _ rfl
  have c3 := held_cell h 3 _ rfl
  have c4 := held_cell h 4 _ rfl
  have f1 := held_free h 1
  go_enter Try.func14, Try.ntmps14
  go_wp2_with fail
  refine (right_at p true _ 0 0 0 _ h).mono ?_
  rintro e V ⟨rfl, rfl⟩
  go_wp2_with fail
  refine (isbyte_in 6 _ (by omega) (by omega)).mono ?_
  rintro e V ⟨rfl, rfl⟩
  go_wp2_with fail
  refine (isbyte_in 1 _ (by omega) (by omega)).mono ?_
  rintro e V ⟨rfl, rfl⟩
  have q1 : ∀ X Y : Obj, ((V.alloc X).alloc Y).cell? ⟨p, 1, none⟩ = some (.slice none 0 0) := fun X Y => held_cell (held_two h X Y) 1 _ rfl
  have q2 : ∀ X Y : Obj, ((V.alloc X).alloc Y).frozen? ⟨p, 1, none⟩ = false := fun X Y => held_free (held_two h X Y) 1
  have q3 : ¬ (281474976710656 < Builtin.nextslicecap 1 0 * Try.t23.bytes) := by decide +kernel
  replace h := hid h
  go_wp2_with fail
  go_ret
  refine ⟨rfl, ?_, V.heap.size + 1, _, _, by omega, grownCap_ge (V.alloc (.cells #[.bool false, .int .i64 6, .int .i64 1] 23)) 1 0 23, held_set (held_two h.out _ _) 1 _, held_oth ?_ (two_top V _ _)⟩
  · exact effq_then (effq_below ((((Below.refl _ V).alloc (Nat.le_refl _) _).alloc (by simp) _).drew)) (effq_set p 1 _ _)
  · have := held_lt h.out; omega
set_option maxRecDepth 100000 in
set_option maxHeartbeats 2000000 in
theorem place_first (b : Bool) (p g cap : Nat) (r : Array Value) (y n o : Int) (w : World) (hp : w.heap[p]? = some (.cells #[.bool true, .slice (some ⟨g, 0, none⟩) 1 cap, .int .i64 y, .int .i64 n, .int .i64 o] 53 (0, 0))) (hg : w.heap[g]? = some (.cells (#[.bool false, .int .i64 6, .int .i64 1] ++ r) 23 (0, 0))) : Calls Try.prog 31 #[.pointer (some ⟨p, 0, none⟩), .agg #[.bool b, .int .i64 6, .int .i64 1]] w fun e w' => e = .returned (.int .i64 0) ∧ Below w.heap.size w w' := by
  go_enter Try.func31, Try.ntmps31
  go_upto_region 0 with (fail)
  apply wp_region_seg0 (w := w) (S := [.al 1000, .q []]) (E := [.al ((fun p => .pointer (some ⟨p, 0, none⟩)), _) 1000, .q0 _]) rfl (by kernel_rfl) rfl rfl
  intro th hge hne
  refine Seg.step _ rfl ⟨by rfl, fun U hU => ?_⟩ ?_
  · go_simp; exact vp_alloc rfl rfl rfl
  refine ⟨_, by (simp only [Ent.val]; go_simp <;> exact rfl), ?_⟩
  refine Seg.step _ rfl (Or.inl ⟨by rfl, fun U hU => vp_quiet (by (go_simp <;> exact rfl))⟩) ⟨_, by (simp only [Ent.val]; go_simp <;> exact rfl), ?_⟩
  refine Seg.stop (fun U1 hU hk => ?_)
  have nb0 := hge 0 _ _ rfl
  have rb0 := (hk 0 _ _ rfl trivial).1.2 (by simp)
  clear hk hge hne
  generalize th (0 + 0) = p0_0 at *
  dsimp only at rb0
  replace hp := held_after hU hp
  replace hg := held_after hU hg
  have r_p0_0 := rb0
  clear rb0
  have n_p0_0 := nb0
  clear nb0
  have sz1 := hU.size
  have hB : Below w.heap.size w U1 := hU
  clear hU
  go_upto_region 1 with (fail)
  apply wp_region_seg0 (w := U1) (S := [.q [], .q [], .q [], .q [], .q [], .al 6, .st 5 []]) (E := [.q0 _, .q0 _, .q0 _, .q0 _, .q0 _, .al ((fun p => .pointer (some ⟨p, 0, none⟩)), _) 6, .s0 5 (.cells _ _)]) rfl (by kernel_rfl) rfl rfl
  intro th hge hne
  refine Seg.step _ rfl (Or.inl ⟨by rfl, fun U hU => vp_quiet (by (go_simp <;> exact rfl))⟩) ⟨_, by (simp only [Ent.val]; go_simp <;> exact rfl), ?_⟩
  refine Seg.step _ rfl (Or.inl ⟨by rfl, fun U hU => vp_quiet (by (have h0 := held_cell (held_after hU.1 r_p0_0) 1 _ rfl; go_simp <;> exact rfl))⟩) ⟨_, by (simp only [Ent.val]; go_simp <;> exact rfl), ?_⟩
  refine Seg.step _ rfl (Or.inl ⟨by rfl, fun U hU => vp_quiet (by (go_simp <;> exact rfl))⟩) ⟨_, by (simp only [Ent.val]; go_simp <;> exact rfl), ?_⟩
  refine Seg.step _ rfl (Or.inl ⟨by rfl, fun U hU => vp_quiet (by (have h0 := held_cell (held_after hU.1 r_p0_0) 2 _ rfl; go_simp <;> exact rfl))⟩) ⟨_, by (simp only [Ent.val]; go_simp <;> exact rfl), ?_⟩
  refine Seg.step _ rfl (Or.inl ⟨by rfl, fun U hU => vp_quiet (by (go_simp <;> exact rfl))⟩) ⟨_, by (simp only [Ent.val]; go_simp <;> exact rfl), ?_⟩
  refine Seg.step _ rfl ⟨by rfl, fun U hU => ?_⟩ ?_
  · go_simp; exact vp_alloc rfl rfl rfl
  refine ⟨_, by (simp only [Ent.val]; go_simp <;> exact rfl), ?_⟩
  refine Seg.step _ rfl ⟨by rfl, fun U z k hz hU hc => ?_⟩ ?_
  · have hz2 := Option.some.inj hz
    cases hz2; clear hz
    exact vp_store_agg _ _ _ rfl hc rfl rfl (by kernel_rfl) rfl (by rfl)
  refine ⟨_, by (simp only [Ent.val]; go_simp <;> exact rfl), ?_⟩
  refine Seg.stop (fun U2 hU hk => ?_)
  have nb5 := hge 5 _ _ rfl
  have rb5 := (hk 5 _ 6 rfl trivial).1.1 trivial _ (Nat.zero_le _) rfl
  clear hk hge hne
  generalize th (0 + 5) = p1_5 at *
  simp only [Ent.obj] at rb5
  replace hp := held_after hU hp
  replace hg := held_after hU hg
  replace r_p0_0 := held_after hU r_p0_0
  have r_p1_5 := rb5
  clear rb5
  have n_p1_5 := nb5
  clear nb5
  have sz2 := hU.size
  replace hB := bthen hB hU
  clear hU
  have c0 := held_cell hp 0 _ rfl
  have c1 := held_cell hp 1 _ rfl
  have c2 := held_cell hp 2 _ rfl
  have c3 := held_cell hp 3 _ rfl
  have c4 := held_cell hp 4 _ rfl
  have x0 := held_cell r_p1_5 0 _ rfl
  have x1 := held_cell r_p1_5 1 _ rfl
  have x2 := held_cell r_p1_5 2 _ rfl
  have g0 := held_cell hg 0 (.bool false) (by rw [Array.getElem?_append_left (by simp)]; rfl)
  have g1 := held_cell hg 1 (.int .i64 6) (by rw [Array.getElem?_append_left (by simp)]; rfl)
  have g2 := held_cell hg 2 (.int .i64 1) (by rw [Array.getElem?_append_left (by simp)]; rfl)
  have lt5 := held_lt r_p1_5
  replace hp := hid hp
  replace r_p1_5 := hid r_p1_5
  replace hg := hid hg
  replace hB := hid hB
  go_wp2_with fail
  go_loopw [18] (fun i wr => i = .int .i64 0 ∧ wr = U2) (fun _ _ => 0)
  case atStart => exact ⟨rfl, rfl⟩
  case round =>
    obtain ⟨rfl, rfl⟩ := hrel
    have z0 : ∀ X : Obj, (wr.alloc X).cell? ⟨p1_5, 0, none⟩ = some (.bool false) := fun X => held_cell (held_after ((Below.refl _ wr).alloc (Nat.le_refl _) X) r_p1_5.out) 0 _ rfl
    have z1 : ∀ X : Obj, (wr.alloc X).cell? ⟨p1_5, 1, none⟩ = some (.int .i64 6) := fun X => held_cell (held_after ((Below.refl _ wr).alloc (Nat.le_refl _) X) r_p1_5.out) 1 _ rfl
    have z2 : ∀ X : Obj, (wr.alloc X).cell? ⟨p1_5, 2, none⟩ = some (.int .i64 1) := fun X => held_cell (held_after ((Below.refl _ wr).alloc (Nat.le_refl _) X) r_p1_5.out) 2 _ rfl
    go_wp2_with fail
    go_ret
    exact ⟨rfl, by first | exact hB.out | exact balloc hB.out (Nat.le_refl _) _⟩
set_option maxRecDepth 100000 in
set_option maxHeartbeats 2000000 in
theorem place_none (b : Bool) (p g cap : Nat) (r : Array Value) (y n o : Int) (w : World) (hp : w.heap[p]? = some (.cells #[.bool true, .slice (some ⟨g, 0, none⟩) 0 0, .int .i64 y, .int .i64 n, .int .i64 o] 53 (0, 0))) : Calls Try.prog 31 #[.pointer (some ⟨p, 0, none⟩), .agg #[.bool b, .int .i64 6, .int .i64 1]] w fun e w' => e = .returned (.int .i64 (-1)) ∧ Below w.heap.size w w' := by
  go_enter Try.func31, Try.ntmps31
  go_upto_region 0 with (fail)
  apply wp_region_seg0 (w := w) (S := [.al 1000, .q []]) (E := [.al ((fun p => .pointer (some ⟨p, 0, none⟩)), _) 1000, .q0 _]) rfl (by kernel_rfl) rfl rfl
  intro th hge hne
  refine Seg.step _ rfl ⟨by rfl, fun U hU => ?_⟩ ?_
  · go_simp; exact vp_alloc rfl rfl rfl
  refine ⟨_, by (simp only [Ent.val]; go_simp <;> exact rfl), ?_⟩
  refine Seg.step _ rfl (Or.inl ⟨by rfl, fun U hU => vp_quiet (by (go_simp <;> exact rfl))⟩) ⟨_, by (simp only [Ent.val]; go_simp <;> exact rfl), ?_⟩
  refine Seg.stop (fun U1 hU hk => ?_)
  have nb0 := hge 0 _ _ rfl
  have rb0 := (hk 0 _ _ rfl trivial).1.2 (by simp)
  clear hk hge hne
  generalize th (0 + 0) = p0_0 at *
  dsimp only at rb0
  replace hp := held_after hU hp
  have r_p0_0 := rb0
  clear rb0
  have n_p0_0 := nb0
  clear nb0
  have sz1 := hU.size
  have hB : Below w.heap.size w U1 := hU
  clear hU
  go_upto_region 1 with (fail)
  apply wp_region_seg0 (w := U1) (S := [.q [], .q [], .q [], .q [], .q [], .al 6, .st 5 []]) (E := [.q0 _, .q0 _, .q0 _, .q0 _, .q0 _, .al ((fun p => .pointer (some ⟨p, 0, none⟩)), _) 6, .s0 5 (.cells _ _)]) rfl (by kernel_rfl) rfl rfl
  intro th hge hne
  refine Seg.step _ rfl (Or.inl ⟨by rfl, fun U hU => vp_quiet (by (go_simp <;> exact rfl))⟩) ⟨_, by (simp only [Ent.val]; go_simp <;> exact rfl), ?_⟩
  refine Seg.step _ rfl (Or.inl ⟨by rfl, fun U hU => vp_quiet (by (have h0 := held_cell (held_after hU.1 r_p0_0) 1 _ rfl; go_simp <;> exact rfl))⟩) ⟨_, by (simp only [Ent.val]; go_simp <;> exact rfl), ?_⟩
  refine Seg.step _ rfl (Or.inl ⟨by rfl, fun U hU => vp_quiet (by (go_simp <;> exact rfl))⟩) ⟨_, by (simp only [Ent.val]; go_simp <;> exact rfl), ?_⟩
  refine Seg.step _ rfl (Or.inl ⟨by rfl, fun U hU => vp_quiet (by (have h0 := held_cell (held_after hU.1 r_p0_0) 2 _ rfl; go_simp <;> exact rfl))⟩) ⟨_, by (simp only [Ent.val]; go_simp <;> exact rfl), ?_⟩
  refine Seg.step _ rfl (Or.inl ⟨by rfl, fun U hU => vp_quiet (by (go_simp <;> exact rfl))⟩) ⟨_, by (simp only [Ent.val]; go_simp <;> exact rfl), ?_⟩
  refine Seg.step _ rfl ⟨by rfl, fun U hU => ?_⟩ ?_
  · go_simp; exact vp_alloc rfl rfl rfl
  refine ⟨_, by (simp only [Ent.val]; go_simp <;> exact rfl), ?_⟩
  refine Seg.step _ rfl ⟨by rfl, fun U z k hz hU hc => ?_⟩ ?_
  · have hz2 := Option.some.inj hz
    cases hz2; clear hz
    exact vp_store_agg _ _ _ rfl hc rfl rfl (by kernel_rfl) rfl (by rfl)
  refine ⟨_, by (simp only [Ent.val]; go_simp <;> exact rfl), ?_⟩
  refine Seg.stop (fun U2 hU hk => ?_)
  have nb5 := hge 5 _ _ rfl
  have rb5 := (hk 5 _ 6 rfl trivial).1.1 trivial _ (Nat.zero_le _) rfl
  clear hk hge hne
  generalize th (0 + 5) = p1_5 at *
  simp only [Ent.obj] at rb5
  replace hp := held_after hU hp
  replace r_p0_0 := held_after hU r_p0_0
  have r_p1_5 := rb5
  clear rb5
  have n_p1_5 := nb5
  clear nb5
  have sz2 := hU.size
  replace hB := bthen hB hU
  clear hU
  have c0 := held_cell hp 0 _ rfl
  have c1 := held_cell hp 1 _ rfl
  have c2 := held_cell hp 2 _ rfl
  have c3 := held_cell hp 3 _ rfl
  have c4 := held_cell hp 4 _ rfl
  have x0 := held_cell r_p1_5 0 _ rfl
  have x1 := held_cell r_p1_5 1 _ rfl
  have x2 := held_cell r_p1_5 2 _ rfl
  have lt5 := held_lt r_p1_5
  replace hp := hid hp
  replace r_p1_5 := hid r_p1_5
  replace hB := hid hB
  go_wp2_with fail
  go_loopw [18] (fun i wr => i = .int .i64 0 ∧ wr = U2) (fun _ _ => 0)
  case atStart => exact ⟨rfl, rfl⟩
  case round =>
    obtain ⟨rfl, rfl⟩ := hrel
    go_wp2_with fail
    go_ret
    exact ⟨rfl, by first | exact hB.out | exact balloc hB.out (Nat.le_refl _) _⟩
set_option maxRecDepth 100000 in
set_option maxHeartbeats 1000000 in
theorem app_none (g : Nat) (a : Addr) (c : Nat) (W : World) : (Builtin.append_ #[36, 36] 36 #[.slice (some ⟨g, 0, none⟩) 0 0, .slice (some a) 0 c]).run Try.prog W = .ok (.slice (some ⟨g, 0, none⟩) 0 0) W := by
  obtain ⟨i, hi, hz, hsz, hb⟩ := ackinfo
  have ht := Try.underlying36
  have h := run_append_room_cells (P := Try.prog) W 36 36 23 i ht hi g 0 0 0 a 0 c [] (by simp) (by simp) (by simp) (by omega) (by simp) (by simp)
  rw [h]; rfl
set_option maxRecDepth 100000 in
set_option maxHeartbeats 4000000 in
theorem hear_first (p g cap : Nat) (r : Array Value) (w : World) (hp : w.heap[p]? = some (.cells #[.bool true, .slice (some ⟨g, 0, none⟩) 1 cap, .int .i64 0, .int .i64 0, .int .i64 0] 53 (0, 0))) (hg : w.heap[g]? = some (.cells (#[.bool false, .int .i64 6, .int .i64 1] ++ r) 23 (0, 0))) (hc : 1 ≤ cap) : Calls Try.prog 16 #[.pointer (some ⟨p, 0, none⟩), .agg #[.bool true, .int .i64 6, .int .i64 1]] w fun e w' => e = .returned (.bool true) ∧ Eff p w w' ∧ w'.heap[p]? = some (.cells #[.bool true, .slice (some ⟨g, 0, none⟩) 0 0, .int .i64 1, .int .i64 0, .int .i64 0] 53 (0, 0)) := by
  have lp := held_lt hp
  go_enter Try.func16, Try.ntmps16
  go_upto_region 0 with (fail)
  apply wp_region_seg0 (w := w) (S := [.al 1000, .q []]) (E := [.al ((fun p => .pointer (some ⟨p, 0, none⟩)), _) 1000, .q0 _]) rfl (by kernel_rfl) rfl rfl
  intro th hge hne
  refine Seg.step _ rfl ⟨by rfl, fun U hU => ?_⟩ ?_
  · go_simp; exact vp_alloc rfl rfl rfl
  refine ⟨_, by (simp only [Ent.val]; go_simp <;> exact rfl), ?_⟩
  refine Seg.step _ rfl (Or.inl ⟨by rfl, fun U hU => vp_quiet (by (go_simp <;> exact rfl))⟩) ⟨_, by (simp only [Ent.val]; go_simp <;> exact rfl), ?_⟩
  refine Seg.stop (fun U1 hU hk => ?_)
  have nb0 := hge 0 _ _ rfl
  have rb0 := (hk 0 _ _ rfl trivial).1.2 (by simp)
  clear hk hge hne
  generalize th (0 + 0) = p0_0 at *
  dsimp only at rb0
  have df_p_p0_0 : p ≠ p0_0 := by have := held_lt hp; omega
  have df_g_p0_0 : g ≠ p0_0 := by have := held_lt hg; omega
  replace hp := held_after hU hp
  replace hg := held_after hU hg
  have r_p0_0 := rb0
  clear rb0
  have n_p0_0 := nb0
  clear nb0
  have sz1 := hU.size
  have hB : Below w.heap.size w U1 := hU
  clear hU
  have dp : p0_0 ≠ p := by have := n_p0_0; omega
  go_wp2_with fail
  refine (right_at p true _ 0 0 0 _ hp).mono ?_
  rintro e V0 ⟨rfl, hv⟩
  obtain rfl : U1 = V0 := hv.symm
  clear hv
  have b0 := held_cell r_p0_0 0 _ rfl
  have b1 := held_cell r_p0_0 1 _ rfl
  have b2 := held_cell r_p0_0 2 _ rfl
  go_wp2_with fail
  refine (place_first true p g cap r 0 0 0 _ hp hg).mono ?_
  rintro e V ⟨rfl, hst⟩
  replace hp := held_onq hp hst
  replace r_p0_0 := held_onq r_p0_0 hst
  have e1 : Eff p w V := effq_then (effq_below hB) (effq_below hst)
  clear hB hst hg b0 b1 b2
  have c0 := held_cell hp 0 _ rfl
  have c1 := held_cell hp 1 _ rfl
  have c2 := held_cell hp 2 _ rfl
  have c3 := held_cell hp 3 _ rfl
  have c4 := held_cell hp 4 _ rfl
  have f1 := held_free hp 1
  obtain ⟨S1, hS1, s1, o1, -⟩ := setq1 hp 1 (.slice (some ⟨g, 0, none⟩) 0 0)
  have r1 := heldq o1 dp r_p0_0
  have d0 := held_cell s1 0 _ rfl
  have d1 := held_cell s1 1 _ rfl
  have d2 := held_cell s1 2 _ rfl
  have d3 := held_cell s1 3 _ rfl
  have d4 := held_cell s1 4 _ rfl
  have y0 := held_cell r1 0 _ rfl
  have y1 := held_free s1 2
  obtain ⟨S2, hS2, s2, o2, -⟩ := setq1 s1 2 (.int .i64 1)
  have e2 := effq_then (effq_then e1 o1) o2
  replace hp := hid hp
  replace e2 := hid e2
  replace s2 := hid s2
  clear o1 o2 e1 r1 s1 r_p0_0
  have hci : (1 : Int) ≤ cap := by omega
  have hap := fun (ad : Addr) (c : Nat) (W : World) => app_none g ad c W
  go_upto_region 7 with (fail)
  by_cases hcap : cap = 1
  · subst hcap
    go_region
    go_wp2_with fail
    go_ret
    exact ⟨rfl, effq_then e2.out (effq_drew p S2), s2.out⟩
  go_region
  go_wp2_with fail
  go_ret
  exact ⟨rfl, effq_then e2.out (effq_drew p S2), s2.out⟩
set_option maxRecDepth 100000 in
set_option maxHeartbeats 4000000 in
theorem hear_second (p g : Nat) (w : World) (hp : w.heap[p]? = some (.cells #[.bool true, .slice (some ⟨g, 0, none⟩) 0 0, .int .i64 1, .int .i64 0, .int .i64 0] 53 (0, 0))) : Calls Try.prog 16 #[.pointer (some ⟨p, 0, none⟩), .agg #[.bool false, .int .i64 6, .int .i64 1]] w fun e w' => e = .returned (.bool false) ∧ Eff p w w' ∧ w'.heap[p]? = some (.cells #[.bool true, .slice (some ⟨g, 0, none⟩) 0 0, .int .i64 1, .int .i64 0, .int .i64 1] 53 (0, 0)) := by
  go_enter Try.func16, Try.ntmps16
  go_upto_region 0 with (fail)
  apply wp_region_seg0 (w := w) (S := [.al 1000, .q []]) (E := [.al ((fun p => .pointer (some ⟨p, 0, none⟩)), _) 1000, .q0 _]) rfl (by kernel_rfl) rfl rfl
  intro th hge hne
  refine Seg.step _ rfl ⟨by rfl, fun U hU => ?_⟩ ?_
  · go_simp; exact vp_alloc rfl rfl rfl
  refine ⟨_, by (simp only [Ent.val]; go_simp <;> exact rfl), ?_⟩
  refine Seg.step _ rfl (Or.inl ⟨by rfl, fun U hU => vp_quiet (by (go_simp <;> exact rfl))⟩) ⟨_, by (simp only [Ent.val]; go_simp <;> exact rfl), ?_⟩
  refine Seg.stop (fun U1 hU hk => ?_)
  have nb0 := hge 0 _ _ rfl
  have rb0 := (hk 0 _ _ rfl trivial).1.2 (by simp)
  clear hk hge hne
  generalize th (0 + 0) = p0_0 at *
  dsimp only at rb0
  replace hp := held_after hU hp
  have r_p0_0 := rb0
  clear rb0
  have n_p0_0 := nb0
  clear nb0
  have sz1 := hU.size
  have hB : Below w.heap.size w U1 := hU
  clear hU
  go_wp2_with fail
  refine (right_at p true _ 1 0 0 _ hp).mono ?_
  rintro e V0 ⟨rfl, hv⟩
  obtain rfl : U1 = V0 := hv.symm
  clear hv
  have b0 := held_cell r_p0_0 0 _ rfl
  have b1 := held_cell r_p0_0 1 _ rfl
  have b2 := held_cell r_p0_0 2 _ rfl
  go_wp2_with fail
  refine (place_none false p g 0 #[] 1 0 0 _ hp).mono ?_
  rintro e V ⟨rfl, hst⟩
  replace hp := held_onq hp hst
  have e1 : Eff p w V := effq_then (effq_below hB) (effq_below hst)
  clear hB hst b0 b1 b2
  have c0 := held_cell hp 0 _ rfl
  have c1 := held_cell hp 1 _ rfl
  have c2 := held_cell hp 2 _ rfl
  have c3 := held_cell hp 3 _ rfl
  have c4 := held_cell hp 4 _ rfl
  have f1 := held_free hp 4
  obtain ⟨S1, hS1, s1, o1, -⟩ := setq1 hp 4 (.int .i64 1)
  have e2 := hid (effq_then e1 o1)
  replace s1 := hid s1
  replace hp := hid hp
  clear o1 e1
  go_wp2_with fail
  go_ret
  exact ⟨rfl, e2.out, s1.out⟩

end Go.Proofs.Ythcaljelmchkcaa
