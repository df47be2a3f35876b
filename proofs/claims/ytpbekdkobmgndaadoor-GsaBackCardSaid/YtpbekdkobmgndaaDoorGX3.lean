/- Several texts in one: Gsa5, Gsa6, SamF, Gsa7. -/
import Derived.Test.YtpbekdkobmgndaaDoorGX1
import Derived.Laws.Tables
import Derived.Deep.DeepCutAuto
import Derived.Laws.Rows
import Derived.Laws.EntriesVeiled
import Derived.Test.YtpbekdkobmgndaaDoorKA
import Derived.Test.YtpbekdkobmgndaaDoorGR
import Derived.Laws.StructEq

/- Package gsa: ids and its iterator, which reads an eye. -/
namespace Go.Proofs.YtpbekdkobmgndaaDoor
open Go.ChangeShapes Go.WideShapes Go.ChangeAt Go.RowKit
set_option linter.unusedVariables false
set_option linter.unusedSimpArgs false

theorem takD_id {s : ByteArray} {W M F : Int} {i : Bool} {n x : Int} (h : takD s W M F 1 255 = (i, n, x)) : 0 ≤ n ∧ n ≤ 255 ∧ (i = true → 1 ≤ n) ∧ (i = false → n = 0) := by
  unfold takD at h
  split at h
  · cases h; exact ⟨by omega, by omega, fun h => (by cases h), fun _ => rfl⟩
  · split at h
    · cases h; exact ⟨by omega, by omega, fun h => (by cases h), fun _ => rfl⟩
    · unfold takO at h
      split at h
      · cases h; exact ⟨by omega, by omega, fun h => (by cases h), fun _ => rfl⟩
      · split at h
        · cases h; exact ⟨by omega, by omega, fun h => (by cases h), fun _ => rfl⟩
        · cases h; exact ⟨by omega, by omega, fun _ => by omega, fun h => (by cases h)⟩
/-- Ids are read, k places: they, and what the eye is then. -/
def idsS (e : Int) (L : List ByteArray) : Nat → List Int × Int × List ByteArray
  | 0 => ([], e, L)
  | k + 1 => (if (nmS (idsS e L k).2.1 (idsS e L k).2.2 1 3 0 1 255).1.1 = true then (idsS e L k).1 ++ [(nmS (idsS e L k).2.1 (idsS e L k).2.2 1 3 0 1 255).1.2] else (idsS e L k).1,
      (nmS (idsS e L k).2.1 (idsS e L k).2.2 1 3 0 1 255).2.1, (nmS (idsS e L k).2.1 (idsS e L k).2.2 1 3 0 1 255).2.2)
theorem idsS_ok {e : Int} {L : List ByteArray} (hl : L.length ≤ 1000) (hs : ∀ s ∈ L, s.size ≤ 1000) : ∀ k, (idsS e L k).2.2.length ≤ 1000 ∧ (∀ s ∈ (idsS e L k).2.2, s.size ≤ 1000) ∧ (idsS e L k).1.length ≤ k ∧ (∀ x ∈ (idsS e L k).1, 1 ≤ x ∧ x ≤ 255)
  | 0 => ⟨hl, hs, Nat.le_refl _, fun x hx => by cases hx⟩
  | k + 1 => by
    obtain ⟨h1, h2, h3, h4⟩ := idsS_ok (e := e) hl hs k
    have ht := txS_size (e := (idsS e L k).2.1) h2
    have hb : ∀ {i n x}, takD (txS (idsS e L k).2.1 (idsS e L k).2.2).1 1 3 0 1 255 = (i, n, x) → _ := fun h => takD_id h
    refine ⟨Nat.le_trans ht.2.2 h1, ht.2.1, ?_, ?_⟩
    · unfold idsS; dsimp only; split
      · rw [List.length_append]; exact Nat.succ_le_succ h3
      · omega
    · unfold idsS; dsimp only; split
      · rename_i hc
        intro x hx
        rcases List.mem_append.1 hx with hx | hx
        · exact h4 x hx
        · obtain rfl := List.mem_singleton.1 hx
          have := hb rfl
          exact ⟨this.2.2.1 hc, this.2.1⟩
      · exact h4
set_option maxRecDepth 100000 in
set_option maxHeartbeats 8000000 in
theorem enum_raw (B : Nat) (e : Int) (L : List ByteArray) (W M F lo hi : Int) (a : Option Addr) (cap : Nat) (hl : L.length ≤ 1000) (hs : ∀ s ∈ L, s.size ≤ 1000) (hlb : (-9223372036854775808 ≤ lo ∧ lo ≤ 9223372036854775807) ∧ (-9223372036854775808 ≤ hi ∧ hi ≤ 9223372036854775807)) (hcap : L.length ≤ cap) (hnB : ∀ x, a = some x → x.block ≠ B) : ∃ (a2 : Option Addr) (cap2 : Nat), (∀ w : World, w.heap[B]? = some (.cells #[.bool true, .int .i64 e, .slice a L.length cap] 76 (0, 0)) → Els w 1 a L.length cap (strV23 L) → Calls Tryd.prog 25 #[.pointer (some ⟨B, 0, none⟩), .agg #[.int .i64 W, .int .i64 M, .int .i64 F, .int .i64 lo, .int .i64 hi]] w fun r w' => r = .returned (.agg #[.bool (nmS e L W M F lo hi).1.1, .int .i64 (nmS e L W M F lo hi).1.2]) ∧ Eff B w w' ∧ w'.heap[B]? = some (.cells #[.bool true, .int .i64 (nmS e L W M F lo hi).2.1, .slice a2 (nmS e L W M F lo hi).2.2.length cap2] 76 (0, 0))) ∧ (∀ U : World, Els U 1 a L.length cap (strV23 L) → Els U 1 a2 (nmS e L W M F lo hi).2.2.length cap2 (strV23 (nmS e L W M F lo hi).2.2)) ∧ (∀ x, a2 = some x → x.block ≠ B) := by
  have hsz := (txS_size (e := e) hs).1
  obtain ⟨a2, cap2, h1, h2, h3, h4⟩ := etext_raw B e L a cap hl hcap hnB
  have kr := hid (fun W h => e23right B true (.int .i64 e) (.slice a L.length cap) W h)
  obtain ⟨⟨s, e1, R⟩, htx⟩ : ∃ r, txS e L = r := ⟨_, rfl⟩
  obtain ⟨⟨ti, tn, x⟩, htd⟩ : ∃ r, takD s W M F lo hi = r := ⟨_, rfl⟩
  have hnm : nmS e L W M F lo hi = ((ti, tn), kp e1 x, R) := by unfold nmS; rw [htx]; dsimp only; rw [htd]
  rw [hnm]
  rw [htx] at h1 h2 h4 hsz
  dsimp only at h1 h2 h4 hsz ⊢
  have kT := hid (fun U => htd ▸ take23_any s W M F lo hi U hsz hlb)
  dsimp only at kT
  have kk := hid (fun W h => keep23_any 0 B 76 (.bool true) (.slice a2 R.length cap2) e1 x W h (Nat.zero_le _))
  clear hnm htx htd hs
  generalize L.length = ln at *
  obtain ⟨rn, hrn⟩ : ∃ n, R.length = n := ⟨_, rfl⟩
  rw [hrn] at h1 h2 h4 kk ⊢
  replace hrn := hid hrn
  refine ⟨a2, cap2, ?_, fun U hU => h2 _ hU, h3⟩
  intro w hp hE
  have hlt := held_lt hp
  have hE0 := hid hE
  replace h1 := hid h1
  replace h2 := hid h2
  replace h3 := hid h3
  replace hnB := hid hnB
  replace h4 := hid h4
  go_enter Tryd.func25, Tryd.ntmps25
  go_upto_region 0 with (fail)
  apply wp_region_seg0 (w := w) (S := [.al 1000, .al 1000]) (E := [.al ((fun p => .pointer (some ⟨p, 0, none⟩)), _) 1000, .al ((fun p => .pointer (some ⟨p, 0, none⟩)), _) 1000]) rfl (by kernel_rfl) rfl rfl
  intro th hge hne
  refine Seg.step _ rfl ⟨by rfl, fun U hU => ?_⟩ ?_
  · go_simp; exact vp_alloc rfl rfl rfl
  refine Seg.sa ?_
  refine Seg.step _ rfl ⟨by rfl, fun U hU => ?_⟩ ?_
  · go_simp; exact vp_alloc rfl rfl rfl
  refine Seg.sa ?_
  refine Seg.stop (fun U1 hU hk => ?_)
  have nb0 := hge 0 _ _ rfl
  have rb0 := (hk 0 _ _ rfl trivial).1.2 (by simp)
  have nb1 := hge 1 _ _ rfl
  have rb1 := (hk 1 _ _ rfl trivial).1.2 (by simp)
  have ne0_1 := hne 0 1 _ _ _ _ rfl rfl (by omega)
  clear hk hge hne
  generalize th (0 + 0) = p0_0 at *
  dsimp only at rb0
  generalize th (0 + 1) = p0_1 at *
  dsimp only at rb1
  replace hp := held_after hU hp
  have r_p0_0 := rb0
  clear rb0
  have n_p0_0 := nb0
  clear nb0
  have d_p0_0_p0_1 := ne0_1
  clear ne0_1
  have r_p0_1 := rb1
  clear rb1
  have n_p0_1 := nb1
  clear nb1
  have sz1 := hU.size
  have hB : Below w.heap.size w U1 := hU
  clear hU
  have hE1 := hid (hE.below hB)
  clear hE
  have hef := hid (eff_after24 (g := B) hB)
  clear hB
  replace hp := hid hp
  have rp0 := hid r_p0_0
  have rp1 := hid r_p0_1
  clear r_p0_0 r_p0_1
  go_wp2_with fail
  refine (kr.out _ hp.out).mono ?_
  rintro r V ⟨rfl, hv⟩
  obtain rfl : U1 = V := hv.symm
  go_upto_region 3 with (fail)
  replace hp := hp.out
  have r_p0_0 := rp0.out
  have r_p0_1 := rp1.out
  clear rp0 rp1
  apply wp_region_segX (w := U1) (S := [.q [], .ef 0 none, .q [], .q [], .q [], .q [], .q [], .al 8, .st 7 [], .q []]) (E := [.q0 _, .ef 0 none _ _, .q0 _, .c0 _, .q0 _, .q0 _, .q0 _, .al ((fun p => .pointer (some ⟨p, 0, none⟩)), _) 8, .s0 7 (.cells _ _), .q0 _]) [(B, _)] (by kernel_rfl) rfl (by kernel_rfl) rfl (x1_w hp) x1_d (x1_e (S := [.q [], .ef 0 none, .q [], .q [], .q [], .q [], .q [], .al 8, .st 7 [], .q []]) rfl rfl)
  intro th hge hne
  refine Seg.sq ?_
  refine Seg.step _ rfl ⟨by rfl, fun U g0 o0 o1 hx hc hU hg => ?_⟩ ?_
  · have hx2 := Option.some.inj hx
    cases hx2
    have hc2 := Option.some.inj hc
    cases hc2
    clear hx hc
    go_simp
    exact vp_eff (h1.out _ hg (els_keep1 hE1.out hU.1 hnB.out))
  refine Seg.sa ?_
  refine Seg.sq ?_ (ht := Or.inl ⟨by rfl, fun U hU => vp_quiet (by (have h0 := held_cell (keep1 hU.1 (by omega) r_p0_0) 0 _ rfl; have h1 := held_cell (keep1 hU.1 (by omega) r_p0_0) 1 _ rfl; have h2 := held_cell (keep1 hU.1 (by omega) r_p0_0) 2 _ rfl; have h3 := held_cell (keep1 hU.1 (by omega) r_p0_0) 3 _ rfl; have h4 := held_cell (keep1 hU.1 (by omega) r_p0_0) 4 _ rfl; go_simp <;> exact rfl))⟩)
  refine Seg.step _ rfl (Or.inl ⟨by rfl, fun U hU => ?_⟩) ?_
  · go_simp
    refine vp_call (kT.out _)
  refine Seg.sa ?_
  iterate 3 refine Seg.sq ?_
  refine Seg.step _ rfl ⟨by rfl, fun U hU => ?_⟩ ?_
  · go_simp; exact vp_alloc rfl rfl rfl
  refine Seg.sa ?_
  refine Seg.step _ rfl ⟨by rfl, fun U z k hz hU hc => ?_⟩ ?_
  · have hz2 := Option.some.inj hz
    cases hz2; clear hz
    exact vp_store_agg _ _ _ rfl hc rfl rfl (by kernel_rfl) rfl (by rfl)
  refine Seg.sa ?_
  refine Seg.sq ?_
  refine Seg.stop (fun U2 hU hk hX => ?_)
  have nb7 := hge 7 _ _ rfl
  have rb7 := (hk 7 _ 8 rfl trivial).1.1 trivial _ (Nat.zero_le _) rfl
  have rx := Seg.end1 hX (S := [.q [], .ef 0 none, .q [], .q [], .q [], .q [], .q [], .al 8, .st 7 [], .q []]) rfl 0 1 (by rfl) rfl rfl
  clear hX
  clear hk hge hne
  generalize th (0 + 7) = p3_7 at *
  simp only [Ent.obj] at rb7
  clear hp
  have hp := rx
  clear rx
  replace r_p0_0 := keep1 hU (by omega) r_p0_0
  replace r_p0_1 := keep1 hU (by omega) r_p0_1
  have r_p3_7 := rb7
  clear rb7
  have n_p3_7 := nb7
  clear nb7
  have sz2 := keep1_size hU
  have hE5 := eff_base1 hU
  have hef2 := hid (eff_trans24 hef.out hE5)
  clear hE5 hU hef hE1
  have hb0 : p0_1 ≠ B := by omega
  have hb1 : p3_7 ≠ B := by omega
  replace hp := hid hp
  have rp1 := hid r_p0_1
  have rp7 := hid r_p3_7
  clear r_p0_0 r_p0_1 r_p3_7
  go_wp2_with fail
  refine (kk.out _ hp.out).mono ?_
  rintro r V ⟨rfl, hq, hK, hN⟩
  have hef3 := hid (eff_trans24 hef2.out (eff_only24 hN))
  have q1 := (hN.block _ hb0).trans rp1.out
  have q7 := (hN.block _ hb1).trans rp7.out
  clear hK hN hef2 rp1 rp7 hp
  replace hq := hid hq
  have x0 := held_cell q7 0 _ rfl
  have x1 := held_cell q7 1 _ rfl
  have z0 := held_cell q1 0 _ rfl
  have z1 := held_cell q1 1 _ rfl
  have g0 := held_free q1 0
  have g1 := held_free q1 1
  obtain ⟨W9, hW9, ya, yO⟩ := st2 q1 (.bool ti) (.int .i64 tn)
  have hef4 := hid (eff_new24 hef3.out yO (by omega))
  have hp9 := hid ((yO.block B (by omega)).trans hq.out)
  have ez0 := held_cell ya 0 _ rfl
  have ez1 := held_cell ya 1 _ rfl
  clear ya yO q1 q7 hq hef3
  go_wp2_with fail
  refine bodyPost_ret (v := .agg #[.bool ti, .int .i64 tn]) (by simp [results, Tryd.results25, go_sem, ez0, ez1]) rfl ⟨rfl, hef4.out, ?_⟩
  exact hp9.out
/-- What a round keeps for the iterator: the eye, and the block that points to it. -/
def KpE (B Bx : Nat) (W W' : World) : Prop := W.heap.size ≤ W'.heap.size ∧ W'.heap[Bx]? = W.heap[Bx]? ∧ ∀ e L, EyeIn W B e L → EyeIn W' B e L
theorem kpE_t {B Bx : Nat} {a b c : World} (h : KpE B Bx a b) (k : KpE B Bx b c) : KpE B Bx a c := ⟨Nat.le_trans h.1 k.1, k.2.1.trans h.2.1, fun e L hE => k.2.2 e L (h.2.2 e L hE)⟩
theorem els_put5 {W : World} {m D : Nat} {a : Option Addr} {len cap : Nat} {xs : List (List Value)} {o0 : Obj} (h : Els W m a len cap xs) (hD : W.heap[D]? = some o0) (h0 : o0.isCells = false) (o : Obj) : Els (W.putObj D o) m a len cap xs := by
  refine ⟨h.1, h.2.1, h.2.2.1, h.2.2.2.1, fun i x hx => ?_⟩
  obtain ⟨h1, b, off, e, hc⟩ := h.2.2.2.2 i x hx
  refine ⟨h1, b, off, e, fun j v hj => ?_⟩
  have hc := hc j v hj
  have hne : b ≠ D := fun e => by
    unfold World.cell? at hc
    simp only [e, hD] at hc
    cases o0 <;> simp_all [Obj.isCells]
  exact (World.cell?_of_block (w := W) (World.putObj_heap_other hne)).trans hc
theorem eye_put {W : World} {B D : Nat} {e : Int} {L : List ByteArray} {o0 : Obj} (h : EyeIn W B e L) (hD : W.heap[D]? = some o0) (h0 : o0.isCells = false) (o : Obj) : EyeIn (W.putObj D o) B e L := by
  obtain ⟨a, cap, h1, h2, h3⟩ := h
  have hne : B ≠ D := fun e => by subst e; rw [h1] at hD; cases hD; cases h0
  exact ⟨a, cap, (World.putObj_heap_other hne).trans h1, els_put5 h2 hD h0 o, h3⟩
theorem els_keep5 {W W' : World} {row : Option Nat} {B m : Nat} {a : Option Addr} {len cap : Nat} {xs : List (List Value)} (h : Els W m a len cap xs) (hg : W.grownBy W' row) (hr : ∀ r, row = some r → B ≤ r ∧ ∃ o : Obj, W.heap[r]? = some o ∧ o.isCells = false) : Els W' m a len cap xs := by
  refine ⟨h.1, h.2.1, h.2.2.1, h.2.2.2.1, fun i x hx => ?_⟩
  obtain ⟨h1, b, off, e, hc⟩ := h.2.2.2.2 i x hx
  refine ⟨h1, b, off, e, fun j v hj => ?_⟩
  have hc := hc j v hj
  have hlt := World.block_lt_of_cell? (w := W) _ hc
  refine (World.cell?_of_block (w := W) (hg.block _ hlt fun e2 => ?_)).trans hc
  obtain ⟨_, o, ho, hcl⟩ := hr _ e2.symm
  unfold World.cell? at hc
  rw [ho] at hc
  cases o <;> simp_all [Obj.isCells]
theorem eye_keep5 {W W' : World} {row : Option Nat} {M B : Nat} {e : Int} {L : List ByteArray} (h : EyeIn W B e L) (hg : W.grownBy W' row) (hr : ∀ r, row = some r → M ≤ r ∧ ∃ o : Obj, W.heap[r]? = some o ∧ o.isCells = false) : EyeIn W' B e L := by
  obtain ⟨a, cap, h1, h2, h3⟩ := h
  exact ⟨a, cap, keeps_row h1 rfl hg hr, els_keep5 h2 hg hr, h3⟩
theorem ids_any (B : Nat) (w : World) : Calls Tryd.prog 24 #[.pointer (some ⟨B, 0, none⟩)] w fun e w' => e = .returned (.func (.func 35) #[] #[.pointer (some ⟨w.heap.size, 0, none⟩)]) ∧ w' = w.alloc (.cells #[.pointer (some ⟨B, 0, none⟩)] 52) := by
  have hmf : ∀ (fn : Fn) (first cap : Array Value) (w : World), (Instr.makeFunc fn first cap).run Tryd.prog w = .ok (.func fn first cap) w := fun _ _ _ _ => rfl
  go_enter Tryd.func24, Tryd.ntmps24
  go_wp2_with fail
  go_ret
  exact ⟨rfl, rfl⟩
def encI (x : Int) : Array Value := #[.int .i64 x]
attribute [local go_sem] Oper.semAt_some
set_option maxRecDepth 100000 in
set_option maxHeartbeats 16000000 in
theorem ids_tells (B Bx : Nat) (e : Int) (L : List ByteArray) (w0 : World) (hE : EyeIn w0 B e L) (hx : w0.heap[Bx]? = some (.cells #[.pointer (some ⟨B, 0, none⟩)] 52 (0, 0))) (hn : Bx ≠ B) (hl : L.length ≤ 1000) (hs : ∀ s ∈ L, s.size ≤ 1000) :
    TellsB Tryd.prog 35 #[.pointer (some ⟨Bx, 0, none⟩)] encI (fun x => 1 ≤ x ∧ x ≤ 255) B (KpE B Bx) (fun xs W => xs = (idsS e L 12).1 ∧ EyeIn W B (idsS e L 12).2.1 (idsS e L 12).2.2) 12 w0 := by
  intro ly J W hW hst hY h0
  have hE0 := hE.aft hW
  have hx0 := held_after hW hx
  have hok := hid (fun k => idsS_ok (e := e) hl hs k)
  refine callsIn_of_wp Tryd.func35 rfl trivial ?_ rfl
  simp only [Tryd.ntmps35, List.size_toArray, List.length_cons, List.length_nil, Nat.reduceAdd, Nat.reduceSub, Array.replicate_succ, Array.replicate_zero, List.push_toArray, List.append_toArray, List.nil_append, List.cons_append]
  have b0 := held_cell hx0 0 _ rfl
  clear hE hx hW hl hs
  replace hst := hid hst
  replace hY := hid hY
  replace hn := hid hn
  replace hE0 := hid hE0
  replace hx0 := hid hx0
  gi_wp2
  gi_loopw [4] (fun ix wr => ∃ k : Nat, ix = .int .i64 k ∧ k ≤ 12 ∧ J (idsS e L k).1 wr ∧ EyeIn wr B (idsS e L k).2.1 (idsS e L k).2.2 ∧ wr.heap[Bx]? = some (.cells #[.pointer (some ⟨B, 0, none⟩)] 52 (0, 0))) (fun ix _ => 12 - (intOf ix).toNat)
  case atStart => exact ⟨0, rfl, by omega, h0, hE0.out, hx0.out⟩
  case round =>
    clear h0 hE0 hx0 b0
    obtain ⟨k, rfl, hk, hJ, hE1, rb⟩ := hrel
    by_cases hlt : (k : Int) < 12
    case neg =>
      obtain rfl : k = 12 := by omega
      replace hE1 := hid hE1
      clear hk rb
      gi_wp2
      go_end0
      exact ⟨⟨_, rfl⟩, _, ⟨rfl, hE1.out⟩, hJ⟩
    have wk : IntKind.i64.wrap ((k : Int) + 1) = (k : Int) + 1 := by rw [IntKind.wrap_i64]; omega
    have hk1 := hid (show k + 1 ≤ 12 by omega)
    have hkk := hok.out k
    have hkl := hid (show (idsS e L k).1.length < 12 by omega)
    obtain ⟨xs1, hxs⟩ : ∃ X, idsS e L k = X := ⟨_, rfl⟩
    obtain ⟨xs, e1, R⟩ := xs1
    have hnx : idsS e L (k + 1) = (if (nmS e1 R 1 3 0 1 255).1.1 = true then xs ++ [(nmS e1 R 1 3 0 1 255).1.2] else xs, (nmS e1 R 1 3 0 1 255).2.1, (nmS e1 R 1 3 0 1 255).2.2) := by show (if (nmS (idsS e L k).2.1 (idsS e L k).2.2 1 3 0 1 255).1.1 = true then _ else _, _, _) = _; rw [hxs]
    have hb := hid (show 0 ≤ (nmS e1 R 1 3 0 1 255).1.2 ∧ (nmS e1 R 1 3 0 1 255).1.2 ≤ 255 ∧ ((nmS e1 R 1 3 0 1 255).1.1 = true → 1 ≤ (nmS e1 R 1 3 0 1 255).1.2) ∧ ((nmS e1 R 1 3 0 1 255).1.1 = false → (nmS e1 R 1 3 0 1 255).1.2 = 0) from takD_id (s := (txS e1 R).1) (W := 1) (M := 3) (F := 0) (x := (takD (txS e1 R).1 1 3 0 1 255).2.2) rfl)
    rw [hxs] at hJ hE1 hkk hkl
    dsimp only at hJ hE1 hkk hkl
    obtain ⟨a, cap, hp, hEl, hnB⟩ := hE1
    obtain ⟨a2, cap2, h1, h2, h3⟩ := enum_raw B e1 R 1 3 0 1 255 a cap hkk.1 hkk.2.1 (by decide) hEl.2.1 hnB
    generalize nmS e1 R 1 3 0 1 255 = Z at *
    obtain ⟨⟨zi, zn⟩, e2, R2⟩ := Z
    dsimp only at h1 h2 h3 hnx hb
    replace h1 := hid h1
    replace h2 := hid h2
    replace h3 := hid h3
    replace hnB := hid hnB
    have hE2 := hid hEl
    replace hnx := hid hnx
    clear hEl hkk hxs
    have hlB := held_lt hp
    have hBx := held_cell rb 0 _ rfl
    gi_wp2
    refine wpIn_wide.2 ?_
    have nBx := hn.out
    apply wp_region_segX (w := wr) (S := [.q [], .q [], .ef 0 none, .al 4, .st 3 []]) (E := [.q0 _, .c0 _, .ef 0 none _ _, .al ((fun p => .pointer (some ⟨p, 0, none⟩)), _) 4, .s0 3 (.cells _ _)]) [(B, _)] (by kernel_rfl) rfl (by kernel_rfl) rfl (x1_w hp) x1_d (x1_e (S := [.q [], .q [], .ef 0 none, .al 4, .st 3 []]) rfl rfl)
    intro th hge hne
    refine Seg.sq ?_ (ht := Or.inl ⟨by rfl, fun U hU => vp_quiet (by (have h0 := held_cell (keep1 hU.1 (by omega) rb) 0 _ rfl; go_simp <;> exact rfl))⟩)
    refine Seg.step _ rfl (Or.inl ⟨by rfl, fun U hU => ?_⟩) ?_
    · go_simp
      refine vp_call (p27idCol_any _)
    refine Seg.sa ?_
    refine Seg.step _ rfl ⟨by rfl, fun U g0 o0 o1 hx hc hU hg => ?_⟩ ?_
    · have hx2 := Option.some.inj hx
      cases hx2
      have hc2 := Option.some.inj hc
      cases hc2
      clear hx hc
      go_simp
      exact vp_eff (h1.out _ hg (els_keep1 hE2.out hU.1 hnB.out))
    refine Seg.sa ?_
    refine Seg.step _ rfl ⟨by rfl, fun U hU => ?_⟩ ?_
    · go_simp; exact vp_alloc rfl rfl rfl
    refine Seg.sa ?_
    refine Seg.step _ rfl ⟨by rfl, fun U z k hz hU hc => ?_⟩ ?_
    · have hz2 := Option.some.inj hz
      cases hz2; clear hz
      exact vp_store_agg _ _ _ rfl hc rfl rfl (by kernel_rfl) rfl (by rfl)
    refine Seg.sa ?_
    refine Seg.stop (fun U21 hU hk hX => ?_)
    have nb3 := hge 3 _ _ rfl
    have rb3 := (hk 3 _ 4 rfl trivial).1.1 trivial _ (Nat.zero_le _) rfl
    have rx := Seg.end1 hX (S := [.q [], .q [], .ef 0 none, .al 4, .st 3 []]) rfl 0 2 (by rfl) rfl rfl
    clear hX
    clear hk hge hne
    generalize th (0 + 3) = p2_3 at *
    simp only [Ent.obj] at rb3
    have df_B_p2_3 : B ≠ p2_3 := by have := held_lt hp; omega
    have df_Bx_p2_3 : Bx ≠ p2_3 := by have := held_lt rb; omega
    clear hp
    have hp := rx
    clear rx
    replace rb := keep1 hU (by omega) rb
    have r_p2_3 := rb3
    clear rb3
    have n_p2_3 := nb3
    clear nb3
    have sz21 := keep1_size hU
    have hef := hid (eff_base1 hU)
    clear hU
    have hEy : EyeIn U21 B e2 R2 := ⟨a2, cap2, hp, h2.out _ (els_eff24 hE2.out hef.out hnB.out), h3.out⟩
    have hJ2 := hid (hst.out _ _ _ hJ hef.out)
    clear hp h1 h2 hE2 hnB hJ hBx
    replace hEy := hid hEy
    have x0 := held_cell r_p2_3 0 _ rfl
    have x1 := held_cell r_p2_3 1 _ rfl
    replace rb := hid rb
    clear r_p2_3
    cases zi
    case false =>
      have hnx2 := hnx.out
      rw [if_neg (by simp)] at hnx2
      replace hnx2 := hid hnx2
      gi_wp2
      refine ⟨fun _ h => (by cases h), ?_⟩
      gi_wp2
      go_roundw
      case rel => exact ⟨k + 1, by simp, hk1.out, by rw [hnx2.out]; exact hJ2.out, by rw [hnx2.out]; exact hEy.out, rb.out⟩
      case measure => simp [intOf]; omega
    case true =>
      have hnx2 := hnx.out
      rw [if_pos rfl] at hnx2
      replace hnx2 := hid hnx2
      have hbd : 1 ≤ zn ∧ zn ≤ 255 := ⟨hb.out.2.2.1 rfl, hb.out.2.1⟩
      obtain ⟨fn, tmps, assign, body, hy, hR⟩ := hY.out _ zn U21 hJ2.out hbd hkl.out
      replace hy : (Instr.yield ly #[.int .i64 zn]).run Tryd.prog U21 = .ok (.round ly fn tmps assign body) U21 := hy
      gi_wp2
      refine hR.mono ?_
      rintro e9 W4 ⟨rfl, hJ4, hk4⟩
      have rb4 := hid (hk4.2.1.trans rb.out)
      have hE4 := hid (hk4.2.2 _ _ hEy.out)
      clear hk4
      gi_wp2
      go_roundw
      case rel => exact ⟨k + 1, by simp, hk1.out, by rw [hnx2.out]; exact hJ4, by rw [hnx2.out]; exact hE4.out, rb4.out⟩
      case measure => simp [intOf]; omega

end Go.Proofs.YtpbekdkobmgndaaDoor

/- Package gsa: Take. -/
namespace Go.Proofs.YtpbekdkobmgndaaDoor
open Go.ChangeShapes Go.WideShapes Go.ChangeAt Go.RowKit
set_option linter.unusedVariables false
set_option linter.unusedSimpArgs false

/-- What is read of the fields of a message, and why there is none. -/
structure GsR where
  b : Bool
  f : Int
  xs : List Int
  p : Bool × Int
  h : Bool × Int
  v : Bool × Int
  e : Int
def gsR (s0 s1 : ByteArray) (R : List ByteArray) : GsR :=
  let e2 := kp (kp 0 (onE s0 ⟨#[65]⟩ ⟨#[77]⟩)) (fxS s1).2
  let i := idsS e2 R 12
  let a := nmS i.2.1 i.2.2 1 3 2 0 99999
  let c := nmS a.2.1 a.2.2 1 3 2 0 99999
  let d := nmS c.2.1 c.2.2 1 3 2 0 99999
  ⟨decide (s0 = ⟨#[65]⟩), (fxS s1).1, i.1, a.1, c.1, d.1, d.2.1⟩
/-- How such a message is answered. -/
def GsOk (w : World) (g : GsR) (r : Ending) (w' : World) : Prop := After w w' ∧
  ((g.e ≠ 0 ∧ r = .returned (.tuple #[.agg #[.bool false, .int .i64 0, .slice none 0 0, .bool false, .int .i64 0, .bool false, .int .i64 0, .bool false, .int .i64 0], .int .i64 g.e])) ∨
   (g.e = 0 ∧ ∃ (a : Option Addr) (n c : Nat), r = .returned (.tuple #[.agg #[.bool g.b, .int .i64 g.f, .slice a n c, .bool g.p.1, .int .i64 g.p.2, .bool g.h.1, .int .i64 g.h.2, .bool g.v.1, .int .i64 g.v.2], .int .i64 0]) ∧ Sl .i64 w' a n c g.xs))
theorem put_app {xs : List Int} {x : Int} (h : xs.length < 12) : ((xs ++ List.replicate (12 - xs.length) 0).set xs.length x) = (xs ++ [x]) ++ List.replicate (12 - (xs ++ [x]).length) 0 := by
  rw [List.set_append_right _ _ (Nat.le_refl _), Nat.sub_self, List.length_append, List.length_singleton, List.append_assoc]
  congr 1
  rw [show 12 - xs.length = (12 - (xs.length + 1)) + 1 from by omega, List.replicate_succ]
  rfl
theorem room_at {W : World} {p : Nat} {T : TypeId} {xs : List Int} (h : W.heap[p]? = some (.cells (xs.map (Value.int .i64)).toArray T (0, 0))) {j : Nat} (hj : j < xs.length) : W.cell? ⟨p, j, none⟩ = some (.int .i64 (xs.getD j 0)) := by
  refine held_cell h j _ ?_
  rw [List.getElem?_toArray, List.getElem?_map, List.getElem?_eq_getElem hj, List.getD_eq_getElem?_getD, List.getElem?_eq_getElem hj]; rfl
theorem room_set {W : World} {p : Nat} {T : TypeId} {xs : List Int} (h : W.heap[p]? = some (.cells (xs.map (Value.int .i64)).toArray T (0, 0))) (j : Nat) (x : Int) : (W.setCell ⟨p, j, none⟩ (.int .i64 x)).heap[p]? = some (.cells ((xs.set j x).map (Value.int .i64)).toArray T (0, 0)) := by
  have := held_set h j (.int .i64 x)
  rw [this]; simp [List.map_set]
theorem set2_27 {U : World} {p : Nat} {C : Array Value} {T : TypeId} (h : U.heap[p]? = some (.cells C T (0, 0))) (i j : Nat) (a b : Value) : ∃ W2, (U.setCell ⟨p, i, none⟩ a).setCell ⟨p, j, none⟩ b = W2 ∧ W2.heap[p]? = some (.cells ((C.setIfInBounds i a).setIfInBounds j b) T (0, 0)) ∧ Only p U W2 :=
  ⟨_, rfl, held_set (held_set h i a) j b, (Only.set p i a U).then (Only.set p j b _)⟩
theorem ko_only {p : Nat} {W W' : World} {o : Obj} (h : Only p W W') (hp : W.heap[p]? = some o) (hc : o.isCells = true) : KeepsOthers W W' := ⟨by rw [h.size]; exact Nat.le_refl _, fun k o2 hk ho => by
  rw [h.block k (fun e => by subst e; rw [hp] at hk; cases hk; rw [hc] at ho; cases ho)]; exact hk⟩
theorem sl12 (q n : Nat) (hn : n ≤ 12) (W : World) : (Instr.sliceAt 60 (.pointer (some ⟨q, 0, none⟩)) none (some (.int .i64 n)) (some (.int .i64 n))).run Tryd.prog W = .ok (.slice (some ⟨q, 0, none⟩) n n) W := by
  have h0 : (0 : Int) ≤ n := by omega
  have h1 : (n : Int) ≤ 12 := by omega
  by_cases c : n = 0
  · subst c; go_simp
  · go_simp <;> simp [Addr.add, c]
theorem put_cell5 {W : World} {D : Nat} {o0 : Obj} {a : Addr} {v : Value} (h : W.cell? a = some v) (hD : W.heap[D]? = some o0) (h0 : o0.isCells = false) (o : Obj) : (W.putObj D o).cell? a = some v := by
  have hne : a.block ≠ D := fun e => by
    have hc := h
    unfold World.cell? at hc
    rw [e, hD] at hc
    cases o0 <;> simp_all [Obj.isCells]
  exact (World.cell?_of_block (w := W) (World.putObj_heap_other hne)).trans h
attribute [local go_sem] Oper.semAt_some
set_option maxRecDepth 100000 in
set_option maxHeartbeats 32000000 in
theorem gstake_any (s0 s1 : ByteArray) (R : List ByteArray) (hR : R.length = 15) (w : World) (a : Option Addr) (n cap : Nat) (hn : n = 17) (hEl : Els w 1 a n cap (strV23 (s0 :: s1 :: R))) (hs : ∀ s ∈ s0 :: s1 :: R, s.size ≤ 1000) : Calls Tryd.prog 8 #[.slice a n cap] w fun r w' => GsOk w (gsR s0 s1 R) r w' := by
  subst hn
  have hlen : (s0 :: s1 :: R).length = 17 := by simp; omega
  have hok := hid (fun e => idsS_ok (e := e) (L := R) (by omega) (fun s h => hs s (by simp [h])) 12)
  have hs2 := hid (fun s (h : s ∈ R) => hs s (by simp [h]))
  replace hs := hid hs
  replace hEl := hid hEl
  replace hlen := hid hlen
  replace hR := hid hR
  have hmf : ∀ (fn : Fn) (first cap : Array Value) (w : World), (Instr.makeFunc fn first cap).run Tryd.prog w = .ok (.func fn first cap) w := fun _ _ _ _ => rfl
  have hdo : (-9223372036854775808 ≤ (0 : Int) ∧ (0 : Int) ≤ 9223372036854775807) ∧ (-9223372036854775808 ≤ (99999 : Int) ∧ (99999 : Int) ≤ 9223372036854775807) := by decide
  refine calls_of_marks Tryd.func8 rfl ?_
  simp only [Tryd.ntmps8, List.size_toArray, List.length_cons, List.length_nil, Nat.reduceAdd, Nat.reduceSub, Array.replicate_succ, Array.replicate_zero, List.push_toArray, List.append_toArray, List.nil_append, List.cons_append]
  go_upto_region 0 with (fail)
  apply wp_region_seg0 (w := w) (S := [.al 1000, .q []]) (E := [.al ((fun p => .pointer (some ⟨p, 0, none⟩)), _) 1000, .q0 _]) rfl (by kernel_rfl) rfl rfl
  intro th hge hne
  refine Seg.step _ rfl ⟨by rfl, fun U hU => ?_⟩ ?_
  · go_simp; exact vp_alloc rfl rfl rfl
  refine Seg.sa ?_
  refine Seg.sq ?_
  refine Seg.stop (fun U1 hU hk => ?_)
  have nb0 := hge 0 _ _ rfl
  have rb0 := (hk 0 _ _ rfl trivial).1.2 (by simp)
  clear hk hge hne
  generalize th (0 + 0) = p0_0 at *
  dsimp only at rb0
  have r_p0_0 := rb0
  clear rb0
  have n_p0_0 := nb0
  clear nb0
  have sz1 := hU.size
  have hB : Below w.heap.size w U1 := hU
  clear hU
  have hl0 := held_lt r_p0_0
  have hEl1 := hEl.out.below hB
  replace r_p0_0 := hid r_p0_0
  replace hB := hid hB
  go_wp2_with fail
  refine (look_any a 17 cap (s0 :: s1 :: R) _ hlen.out (by omega) hEl1).mono ?_
  rintro r V ⟨B, rfl, hey, hA, hwB⟩
  clear hEl1
  have hr := held_after hA r_p0_0.out
  have hB2 := bthen hB.out hA
  have nr : p0_0 ≠ B := by omega
  have hbB : w.heap.size ≤ B := Nat.le_trans hB.out.size hwB
  have hbr : w.heap.size ≤ p0_0 := n_p0_0
  clear hB hA r_p0_0 n_p0_0 hl0 hwB sz1
  have hlp := hey.lt
  have hlr0 := held_lt hr
  have nw := alloc_new V (.cells #[.bool false, .int .i64 0, .slice none 0 0, .bool false, .int .i64 0, .bool false, .int .i64 0, .bool false, .int .i64 0] 26)
  go_upto_region 6 with (fail)
  obtain ⟨W1, hW1⟩ : ∃ X, V.alloc (.cells #[.bool false, .int .i64 0, .slice none 0 0, .bool false, .int .i64 0, .bool false, .int .i64 0, .bool false, .int .i64 0] 26) = X := ⟨_, rfl⟩
  rw [hW1] at nw ⊢
  obtain ⟨mb, hmb⟩ : ∃ X, V.heap.size = X := ⟨_, rfl⟩
  rw [hmb] at nw ⊢
  replace hW1 := hid hW1
  have hm := nw.2.2
  replace hr := held_after nw.2.1 hr
  replace hey := hey.aft nw.2.1
  have hbm : w.heap.size ≤ mb := by rw [← hmb]; exact hB2.size
  have nm : mb ≠ B := by omega
  have nmr : mb ≠ p0_0 := by rw [hmb] at hlr0; omega
  replace hB2 := bthen hB2 nw.2.1
  replace hmb := hid hmb
  clear nw hlp
  go_wp2_with fail
  refine (etextC B 0 s0 (s1 :: R) _ hey (by rw [hlen.out]; decide)).mono ?_
  rintro r V2 ⟨rfl, hey2, hf2⟩
  replace hm := eff_block24 hf2 hm nm
  replace hr := eff_block24 hf2 hr nr
  replace hB2 := eff_below24 hB2 hf2 hbB hB2.size
  clear hey hf2
  have hey := hey2
  clear hey2
  go_wp2_with fail
  refine (takemode27_any s0 _).mono ?_
  rintro r V3 ⟨rfl, hv⟩
  obtain rfl : V2 = V3 := hv.symm
  have x0 := held_cell hm 0 _ rfl
  have g0 := held_free hm 0
  obtain ⟨S4, hS4, ym, oM⟩ := st1 hm 0 (.bool (decide (s0 = ⟨#[65]⟩)))
  have hey2 := hey.off oM nm hm ((by intro j s h; match j, h with | 0, h => simp at h | 1, h => simp at h | 2, h => simp at h | 3, h => simp at h | 4, h => simp at h | 5, h => simp at h | 6, h => simp at h | 7, h => simp at h | 8, h => simp at h | j + 9, h => simp at h))
  have hr2 := (oM.block _ (Ne.symm nmr)).trans hr
  have hB3 := belowS hB2 oM hbm
  go_upto_region 7 with (fail)
  clear hey hr hB2 hm oM hS4 x0 g0
  have hm : S4.heap[mb]? = some (.cells #[.bool (decide (s0 = ⟨#[65]⟩)), .int .i64 0, .slice none 0 0, .bool false, .int .i64 0, .bool false, .int .i64 0, .bool false, .int .i64 0] 26 (0, 0)) := ym
  have hey := hey2
  have hr := hr2
  have hB2 := hB3
  clear ym hey2 hr2 hB3
  go_wp2_with fail
  refine (efail_any B 0 (onE s0 ⟨#[65]⟩ ⟨#[77]⟩) (s1 :: R) _ hey).mono ?_
  rintro r V5 ⟨rfl, hey2, hf2⟩
  replace hm := eff_block24 hf2 hm nm
  replace hr := eff_block24 hf2 hr nr
  replace hB2 := eff_below24 hB2 hf2 hbB hB2.size
  clear hey hf2
  have hey := hey2
  clear hey2
  obtain ⟨E1, hE1⟩ : ∃ X, (kp 0 (onE s0 ⟨#[65]⟩ ⟨#[77]⟩)) = X := ⟨_, rfl⟩
  rw [hE1] at hey
  go_wp2_with fail
  refine (etextC B E1 s1 R _ hey (by have := hR.out; simp; omega)).mono ?_
  rintro r V6 ⟨rfl, hey2, hf2⟩
  replace hm := eff_block24 hf2 hm nm
  replace hr := eff_block24 hf2 hr nr
  replace hB2 := eff_below24 hB2 hf2 hbB hB2.size
  clear hey hf2
  have hey := hey2
  clear hey2
  go_wp2_with fail
  refine (takefix27_any s1 _).mono ?_
  rintro r V7 ⟨rfl, hv⟩
  obtain rfl : V6 = V7 := hv.symm
  have x1 := held_cell hm 1 _ rfl
  have g1 := held_free hm 1
  obtain ⟨S8, hS8, ym, oM⟩ := st1 hm 1 (.int .i64 (fxS s1).1)
  have hey2 := hey.off oM nm hm ((by intro j s h; match j, h with | 0, h => simp at h | 1, h => simp at h | 2, h => simp at h | 3, h => simp at h | 4, h => simp at h | 5, h => simp at h | 6, h => simp at h | 7, h => simp at h | 8, h => simp at h | j + 9, h => simp at h))
  have hr2 := (oM.block _ (Ne.symm nmr)).trans hr
  have hB3 := belowS hB2 oM hbm
  go_upto_region 9 with (fail)
  clear hey hr hB2 hm oM hS8 x1 g1
  have hm : S8.heap[mb]? = some (.cells #[.bool (decide (s0 = ⟨#[65]⟩)), .int .i64 (fxS s1).1, .slice none 0 0, .bool false, .int .i64 0, .bool false, .int .i64 0, .bool false, .int .i64 0] 26 (0, 0)) := ym
  have hey := hey2
  have hr := hr2
  have hB2 := hB3
  clear ym hey2 hr2 hB3
  go_wp2_with fail
  refine (efail_any B E1 (fxS s1).2 R _ hey).mono ?_
  rintro r V9 ⟨rfl, hey2, hf2⟩
  replace hm := eff_block24 hf2 hm nm
  replace hr := eff_block24 hf2 hr nr
  replace hB2 := eff_below24 hB2 hf2 hbB hB2.size
  clear hey hf2
  have hey := hey2
  clear hey2
  obtain ⟨E2, hE2⟩ : ∃ X, kp E1 (fxS s1).2 = X := ⟨_, rfl⟩
  rw [hE2] at hey
  go_upto_region 10 with (fail)
  have hlm := held_lt hm
  have hlr := held_lt hr
  have hlB := hey.lt
  have nw := alloc_new V9 (.cells #[.int .i64 0, .int .i64 0, .int .i64 0, .int .i64 0, .int .i64 0, .int .i64 0, .int .i64 0, .int .i64 0, .int .i64 0, .int .i64 0, .int .i64 0, .int .i64 0] 60)
  go_upto_region 11 with (fail)
  obtain ⟨S10, hS10⟩ : ∃ X, V9.alloc (.cells #[.int .i64 0, .int .i64 0, .int .i64 0, .int .i64 0, .int .i64 0, .int .i64 0, .int .i64 0, .int .i64 0, .int .i64 0, .int .i64 0, .int .i64 0, .int .i64 0] 60) = X := ⟨_, rfl⟩
  rw [hS10] at nw ⊢
  obtain ⟨q, hq⟩ : ∃ X, V9.heap.size = X := ⟨_, rfl⟩
  rw [hq] at nw ⊢
  replace hS10 := hid hS10
  have r_q := nw.2.2
  replace hm := held_after nw.2.1 hm
  replace hr := held_after nw.2.1 hr
  replace hey := hey.aft nw.2.1
  have hb_q : w.heap.size ≤ q := by rw [← hq]; exact hB2.size
  have lt_q : q < S10.heap.size := held_lt r_q
  replace hB2 := bthen hB2 nw.2.1
  have nqm : q ≠ mb := by rw [← hq]; omega
  have nqB : q ≠ B := by rw [← hq]; omega
  have nqr : q ≠ p0_0 := by rw [← hq]; omega
  replace hq := hid hq
  clear nw hlm hlr hlB
  have hlm := held_lt hm
  have hlr := held_lt hr
  have hlB := hey.lt
  have nw := alloc_new S10 (.cells #[.int .i64 0] 3)
  go_upto_region 12 with (fail)
  obtain ⟨S11, hS11⟩ : ∃ X, S10.alloc (.cells #[.int .i64 0] 3) = X := ⟨_, rfl⟩
  rw [hS11] at nw ⊢
  obtain ⟨c, hc⟩ : ∃ X, S10.heap.size = X := ⟨_, rfl⟩
  rw [hc] at nw ⊢
  replace hS11 := hid hS11
  have r_c := nw.2.2
  replace hm := held_after nw.2.1 hm
  replace hr := held_after nw.2.1 hr
  replace hey := hey.aft nw.2.1
  have hb_c : w.heap.size ≤ c := by rw [← hc]; exact hB2.size
  have lt_c : c < S11.heap.size := held_lt r_c
  replace hB2 := bthen hB2 nw.2.1
  replace r_q := held_after nw.2.1 r_q
  have ncm : c ≠ mb := by rw [← hc]; omega
  have ncB : c ≠ B := by rw [← hc]; omega
  have ncr : c ≠ p0_0 := by rw [← hc]; omega
  have ncq : c ≠ q := by rw [← hc]; omega
  replace hc := hid hc
  clear nw
  go_wp2_with fail
  refine (ids_any B _).mono ?_
  rintro r V9 ⟨rfl, rfl⟩
  have hlm := held_lt hm
  have hlr := held_lt hr
  have hlB := hey.lt
  have hlq := held_lt r_q
  have hlc := held_lt r_c
  have aX := alloc_new S11 (.cells #[.pointer (some ⟨B, 0, none⟩)] 52)
  obtain ⟨W4, hW4⟩ : ∃ X, S11.alloc (.cells #[.pointer (some ⟨B, 0, none⟩)] 52) = X := ⟨_, rfl⟩
  obtain ⟨Bx, hBx⟩ : ∃ X, S11.heap.size = X := ⟨_, rfl⟩
  rw [hW4, hBx] at aX ⊢
  replace hW4 := hid hW4
  have rbx := aX.2.2
  replace hm := held_after aX.2.1 hm
  replace hr := held_after aX.2.1 hr
  replace r_q := held_after aX.2.1 r_q
  replace r_c := held_after aX.2.1 r_c
  replace hey := hey.aft aX.2.1
  replace hB2 := bthen hB2 aX.2.1
  have nxB : Bx ≠ B := by rw [← hBx]; omega
  have nxq : Bx ≠ q := by rw [← hBx]; omega
  have nxc : Bx ≠ c := by rw [← hBx]; omega
  replace hBx := hid hBx
  clear aX
  obtain ⟨⟨xs9, e3, R3⟩, hI⟩ : ∃ r, idsS E2 R 12 = r := ⟨_, rfl⟩
  have hOK := hok.out E2
  have hPl0 := ids_tells B Bx E2 R W4 hey rbx nxB (by have := hR.out; omega) hs2.out
  rw [hI] at hOK hPl0
  dsimp only at hOK hPl0
  have hPl := hid hPl0
  clear hPl0
  obtain ⟨n9, hn9⟩ : ∃ n, xs9.length = n := ⟨_, rfl⟩
  have hn12 := hid (show n9 ≤ 12 by omega)
  have hn9x := hid hn9
  have hl3 := hOK.1
  have hs3 := hOK.2.1
  have hz := txS_size (e := e3) hs3
  have hrf : (txS e3 R3).2.2 = (nmS e3 R3 1 3 2 0 99999).2.2 := rfl
  have kP0 := fun U hh => enum_any B e3 R3 1 3 2 0 99999 U hh hl3 hs3 hdo
  obtain ⟨⟨⟨pi, pn⟩, e4, R4⟩, hpN⟩ : ∃ r, nmS e3 R3 1 3 2 0 99999 = r := ⟨_, rfl⟩
  rw [hpN] at kP0 hrf
  dsimp only at kP0 hrf
  have kP := hid kP0
  rw [hrf] at hz
  have hl4 : R4.length ≤ 1000 := by omega
  have hs4 := hz.2.1
  clear kP0 hrf hz
  have hz := txS_size (e := e4) hs4
  have hrf : (txS e4 R4).2.2 = (nmS e4 R4 1 3 2 0 99999).2.2 := rfl
  have kH0 := fun U hh => enum_any B e4 R4 1 3 2 0 99999 U hh hl4 hs4 hdo
  obtain ⟨⟨⟨ki, kn⟩, e5, R5⟩, hkN⟩ : ∃ r, nmS e4 R4 1 3 2 0 99999 = r := ⟨_, rfl⟩
  rw [hkN] at kH0 hrf
  dsimp only at kH0 hrf
  have kH := hid kH0
  rw [hrf] at hz
  have hl5 : R5.length ≤ 1000 := by omega
  have hs5 := hz.2.1
  clear kH0 hrf hz
  have hz := txS_size (e := e5) hs5
  have hrf : (txS e5 R5).2.2 = (nmS e5 R5 1 3 2 0 99999).2.2 := rfl
  have kV0 := fun U hh => enum_any B e5 R5 1 3 2 0 99999 U hh hl5 hs5 hdo
  obtain ⟨⟨⟨vi, vn⟩, e6, R6⟩, hvN⟩ : ∃ r, nmS e5 R5 1 3 2 0 99999 = r := ⟨_, rfl⟩
  rw [hvN] at kV0 hrf
  dsimp only at kV0 hrf
  have kV := hid kV0
  rw [hrf] at hz
  have hl6 : R6.length ≤ 1000 := by omega
  have hs6 := hz.2.1
  clear kV0 hrf hz
  have hG := hid (show gsR s0 s1 R = ⟨decide (s0 = ⟨#[65]⟩), (fxS s1).1, xs9, (pi, pn), (ki, kn), (vi, vn), e6⟩ by unfold gsR; simp only [hE1, hE2, hI, hpN, hkN, hvN])
  clear hI hpN hkN hvN hl3 hl4 hl5 hl6 hs3 hs4 hs5 hs6 hE1 hE2 hOK
  have hU4 := hid hB2.size
  have lB := hey.lt
  have lm4 := held_lt hm
  have lr4 := held_lt hr
  have lq4 := held_lt r_q
  replace hn9 := hn9
  go_wp2_with fail
  refine wp_rangeFunc_eye (gf := 35) (lb := #[.pointer (some ⟨Bx, 0, none⟩)]) rfl (enters_of Tryd.func35 (by kernel_rfl) rfl) hPl.out (fun h k => kpE_t h k) (fun W l o o2 h h1 h2 => ⟨by simp, World.putObj_heap_other (by have := held_lt rbx; omega), fun e L hE => eye_put hE h1 h2 o2⟩)
    (fun pre W W2 row h hg hr => ⟨h.1, eye_keep5 h.2 hg hr⟩) lB (fun _ => rfl) (fun pre W => W.heap[mb]? = some (.cells #[.bool (decide (s0 = ⟨#[65]⟩)), .int .i64 (fxS s1).1, .slice none 0 0, .bool false, .int .i64 0, .bool false, .int .i64 0, .bool false, .int .i64 0] 26 (0, 0)) ∧ W.heap[p0_0]? = some (.cells #[.bool false, .int .i64 0, .slice none 0 0, .bool false, .int .i64 0, .bool false, .int .i64 0, .bool false, .int .i64 0] 26 (0, 0)) ∧ W.heap[q]? = some (.cells (((pre ++ List.replicate (12 - pre.length) 0).map (Value.int .i64)).toArray) 60 (0, 0)) ∧ W.heap[c]? = some (.cells #[.int .i64 (pre.length : Int)] 3 (0, 0)) ∧ Below w.heap.size w W ∧ W4.heap.size ≤ W.heap.size)
    ?own ?stays ?start ?a1 ?assign ?body ?done
  case assign =>
    intro l9 i W K hK
    unfold encI
    gi_wp2
    exact hK
  case own =>
    rintro pre A B9 row ⟨k1, k2, k3, k4, k5, k6⟩ hg hr
    exact ⟨keeps_row k1 rfl hg hr, keeps_row k2 rfl hg hr, keeps_row k3 rfl hg hr, keeps_row k4 rfl hg hr, keeps_below k5 hU4.out (Nat.le_trans hU4.out k6) hg hr, Nat.le_trans k6 hg.size⟩
  case stays =>
    rintro pre A A2 ⟨k1, k2, k3, k4, k5, k6⟩ e
    exact ⟨eff_block24 e k1 nm, eff_block24 e k2 nr, eff_block24 e k3 nqB, eff_block24 e k4 ncB, eff_below24 k5 e hbB (Nat.le_trans hU4.out k6), Nat.le_trans k6 e.size⟩
  case start => exact ⟨hm, hr, r_q, r_c, hB2, Nat.le_refl _⟩
  case body =>
    rintro l pre x W ⟨k1, k2, k3, k4, k5, k6⟩ hx hlen2
    have wn : IntKind.i64.wrap ((pre.length : Int) + 1) = (pre.length : Int) + 1 := by rw [IntKind.wrap_i64]; omega
    have n0 : (0 : Int) ≤ (pre.length : Int) := by omega
    have n1 : (pre.length : Int) < 12 := by omega
    have c0 := held_cell k4 0 _ rfl
    have cq := room_at k3 (j := pre.length) (by simp; omega)
    have fq := held_free k3 pre.length
    have y1 := room_set k3 pre.length x
    rw [put_app hlen2] at y1
    obtain ⟨S1, hS1⟩ : ∃ X, W.setCell ⟨q, pre.length, none⟩ (.int .i64 x) = X := ⟨_, rfl⟩
    have o1 := Only.set q pre.length (.int .i64 x) W
    rw [hS1] at y1 o1
    have k4b := (o1.block _ ncq).trans k4
    have c1 := held_cell k4b 0 _ rfl
    have f1 := held_free k4b 0
    obtain ⟨S2, hS2, y2, o2⟩ := st1 k4b 0 (.int .i64 ((pre.length : Int) + 1))
    have hfin : KeepsOthers W S2 ∧ KpE B Bx W S2 ∧ (S2.heap[mb]? = some (.cells #[.bool (decide (s0 = ⟨#[65]⟩)), .int .i64 (fxS s1).1, .slice none 0 0, .bool false, .int .i64 0, .bool false, .int .i64 0, .bool false, .int .i64 0] 26 (0, 0)) ∧ S2.heap[p0_0]? = some (.cells #[.bool false, .int .i64 0, .slice none 0 0, .bool false, .int .i64 0, .bool false, .int .i64 0, .bool false, .int .i64 0] 26 (0, 0)) ∧ S2.heap[q]? = some (.cells ((((pre ++ [x]) ++ List.replicate (12 - (pre ++ [x]).length) 0).map (Value.int .i64)).toArray) 60 (0, 0)) ∧ S2.heap[c]? = some (.cells #[.int .i64 ((pre ++ [x]).length : Int)] 3 (0, 0)) ∧ Below w.heap.size w S2 ∧ W4.heap.size ≤ S2.heap.size) := by
      refine ⟨(ko_only o1 k3 rfl).trans (ko_only o2 k4b rfl), ⟨by rw [o2.size, o1.size]; exact Nat.le_refl _, (o2.block _ nxc).trans (o1.block _ nxq), fun e L hE => (hE.off o1 nqB k3 (fun j s h => by rw [List.getElem?_toArray, List.getElem?_map] at h; cases hh : (pre ++ List.replicate (12 - pre.length) (0 : Int))[j]? with | none => rw [hh] at h; cases h | some y => rw [hh] at h; cases h)).off o2 ncB k4b (by intro j s h; match j, h with | 0, h => simp at h | j + 1, h => simp at h)⟩, ?_⟩
      exact ⟨(o2.block _ (Ne.symm ncm)).trans ((o1.block _ (Ne.symm nqm)).trans k1), (o2.block _ (Ne.symm ncr)).trans ((o1.block _ (Ne.symm nqr)).trans k2), (o2.block _ (Ne.symm ncq)).trans y1, by rw [List.length_append]; exact y2, belowS (belowS k5 o1 hb_q) o2 hb_c, by rw [o2.size, o1.size]; exact k6⟩
    replace hfin := hid hfin
    clear k1 k2 k3 k4 k5 k6 y1 y2 o1 o2 k4b
    gi_wp2
    exact hfin.out
  case done =>
    rintro D xs0 W hD ⟨hxe, hey⟩ ⟨hm, hr, r_q, r_c, hB2, hM⟩ hK0
    obtain rfl : xs9 = xs0 := hxe.symm
    rw [hn9] at r_c
    have hDB : D ≠ B := by omega
    have hDm : D ≠ mb := by omega
    have hDr : D ≠ p0_0 := by omega
    have hDq : D ≠ q := by omega
    skip
    have cc := held_cell r_c 0 _ rfl
    have hsl := fun W => sl12 q n9 hn12.out W
    have x2 := held_cell hm 2 _ rfl
    have g2 := held_free hm 2
    obtain ⟨S12, hS12, ym, oM⟩ := st1 hm 2 (.slice (some ⟨q, 0, none⟩) n9 n9)
    have hey2 := hey.off oM nm hm ((by intro j s h; match j, h with | 0, h => simp at h | 1, h => simp at h | 2, h => simp at h | 3, h => simp at h | 4, h => simp at h | 5, h => simp at h | 6, h => simp at h | 7, h => simp at h | 8, h => simp at h | j + 9, h => simp at h))
    have hr2 := (oM.block _ (Ne.symm nmr)).trans hr
    have rq2 := (oM.block _ nqm).trans r_q
    have hK2 := (oM.block _ hDm).trans hK0
    have hB3 := belowS hB2 oM hbm
    go_upto_region 17 with (fail)
    clear hey hr hB2 hm oM r_q hK0 hS12 x2 g2
    have hm : S12.heap[mb]? = some (.cells #[.bool (decide (s0 = ⟨#[65]⟩)), .int .i64 (fxS s1).1, .slice (some ⟨q, 0, none⟩) n9 n9, .bool false, .int .i64 0, .bool false, .int .i64 0, .bool false, .int .i64 0] 26 (0, 0)) := ym
    have hey := hey2
    have hr := hr2
    have hB2 := hB3
    have r_q := rq2
    have hK0 := hK2
    clear ym hey2 hr2 hB3 rq2 hK2
    clear cc hsl r_c
    go_wp2_with fail
    refine (p27dopCol_any _).mono ?_
    rintro r A0 ⟨rfl, hA⟩
    replace hm := held_after hA hm
    replace hr := held_after hA hr
    replace r_q := held_after hA r_q
    replace hK0 := held_after hA hK0
    replace hey := hey.aft hA
    replace hB2 := bthen hB2 hA
    clear hA
    go_wp2_with fail
    refine (kP.out _ hey).mono ?_
    rintro r Z0 ⟨rfl, hey2, hf2⟩
    replace hm := eff_block24 hf2 hm nm
    replace hr := eff_block24 hf2 hr nr
    replace r_q := eff_block24 hf2 r_q nqB
    replace hK0 := eff_block24 hf2 hK0 hDB
    replace hB2 := eff_below24 hB2 hf2 hbB hB2.size
    clear hey hf2
    have hey := hey2
    clear hey2
    have x3 := held_cell hm 3 _ rfl
    have g3 := held_free hm 3
    have x4 := held_cell hm 4 _ rfl
    have g4 := held_free hm 4
    obtain ⟨S13, hS13, ym, oM⟩ := set2_27 hm 3 4 (.bool pi) (.int .i64 pn)
    have hey2 := hey.off oM nm hm ((by intro j s h; match j, h with | 0, h => simp at h | 1, h => simp at h | 2, h => simp at h | 3, h => simp at h | 4, h => simp at h | 5, h => simp at h | 6, h => simp at h | 7, h => simp at h | 8, h => simp at h | j + 9, h => simp at h))
    have hr2 := (oM.block _ (Ne.symm nmr)).trans hr
    have rq2 := (oM.block _ nqm).trans r_q
    have hK2 := (oM.block _ hDm).trans hK0
    have hB3 := belowS hB2 oM hbm
    go_upto_region 18 with (fail)
    clear hey hr hB2 hm oM r_q hK0 hS13 x3 g3 x4 g4
    have hm : S13.heap[mb]? = some (.cells #[.bool (decide (s0 = ⟨#[65]⟩)), .int .i64 (fxS s1).1, .slice (some ⟨q, 0, none⟩) n9 n9, .bool pi, .int .i64 pn, .bool false, .int .i64 0, .bool false, .int .i64 0] 26 (0, 0)) := ym
    have hey := hey2
    have hr := hr2
    have hB2 := hB3
    have r_q := rq2
    have hK0 := hK2
    clear ym hey2 hr2 hB3 rq2 hK2
    go_wp2_with fail
    refine (p27dopCol_any _).mono ?_
    rintro r A1 ⟨rfl, hA⟩
    replace hm := held_after hA hm
    replace hr := held_after hA hr
    replace r_q := held_after hA r_q
    replace hK0 := held_after hA hK0
    replace hey := hey.aft hA
    replace hB2 := bthen hB2 hA
    clear hA
    go_wp2_with fail
    refine (kH.out _ hey).mono ?_
    rintro r Z1 ⟨rfl, hey2, hf2⟩
    replace hm := eff_block24 hf2 hm nm
    replace hr := eff_block24 hf2 hr nr
    replace r_q := eff_block24 hf2 r_q nqB
    replace hK0 := eff_block24 hf2 hK0 hDB
    replace hB2 := eff_below24 hB2 hf2 hbB hB2.size
    clear hey hf2
    have hey := hey2
    clear hey2
    have x5 := held_cell hm 5 _ rfl
    have g5 := held_free hm 5
    have x6 := held_cell hm 6 _ rfl
    have g6 := held_free hm 6
    obtain ⟨S14, hS14, ym, oM⟩ := set2_27 hm 5 6 (.bool ki) (.int .i64 kn)
    have hey2 := hey.off oM nm hm ((by intro j s h; match j, h with | 0, h => simp at h | 1, h => simp at h | 2, h => simp at h | 3, h => simp at h | 4, h => simp at h | 5, h => simp at h | 6, h => simp at h | 7, h => simp at h | 8, h => simp at h | j + 9, h => simp at h))
    have hr2 := (oM.block _ (Ne.symm nmr)).trans hr
    have rq2 := (oM.block _ nqm).trans r_q
    have hK2 := (oM.block _ hDm).trans hK0
    have hB3 := belowS hB2 oM hbm
    go_upto_region 19 with (fail)
    clear hey hr hB2 hm oM r_q hK0 hS14 x5 g5 x6 g6
    have hm : S14.heap[mb]? = some (.cells #[.bool (decide (s0 = ⟨#[65]⟩)), .int .i64 (fxS s1).1, .slice (some ⟨q, 0, none⟩) n9 n9, .bool pi, .int .i64 pn, .bool ki, .int .i64 kn, .bool false, .int .i64 0] 26 (0, 0)) := ym
    have hey := hey2
    have hr := hr2
    have hB2 := hB3
    have r_q := rq2
    have hK0 := hK2
    clear ym hey2 hr2 hB3 rq2 hK2
    go_wp2_with fail
    refine (p27dopCol_any _).mono ?_
    rintro r A2 ⟨rfl, hA⟩
    replace hm := held_after hA hm
    replace hr := held_after hA hr
    replace r_q := held_after hA r_q
    replace hK0 := held_after hA hK0
    replace hey := hey.aft hA
    replace hB2 := bthen hB2 hA
    clear hA
    go_wp2_with fail
    refine (kV.out _ hey).mono ?_
    rintro r Z2 ⟨rfl, hey2, hf2⟩
    replace hm := eff_block24 hf2 hm nm
    replace hr := eff_block24 hf2 hr nr
    replace r_q := eff_block24 hf2 r_q nqB
    replace hK0 := eff_block24 hf2 hK0 hDB
    replace hB2 := eff_below24 hB2 hf2 hbB hB2.size
    clear hey hf2
    have hey := hey2
    clear hey2
    have x7 := held_cell hm 7 _ rfl
    have g7 := held_free hm 7
    have x8 := held_cell hm 8 _ rfl
    have g8 := held_free hm 8
    obtain ⟨S15, hS15, ym, oM⟩ := set2_27 hm 7 8 (.bool vi) (.int .i64 vn)
    have hey2 := hey.off oM nm hm ((by intro j s h; match j, h with | 0, h => simp at h | 1, h => simp at h | 2, h => simp at h | 3, h => simp at h | 4, h => simp at h | 5, h => simp at h | 6, h => simp at h | 7, h => simp at h | 8, h => simp at h | j + 9, h => simp at h))
    have hr2 := (oM.block _ (Ne.symm nmr)).trans hr
    have rq2 := (oM.block _ nqm).trans r_q
    have hK2 := (oM.block _ hDm).trans hK0
    have hB3 := belowS hB2 oM hbm
    go_upto_region 20 with (fail)
    clear hey hr hB2 hm oM r_q hK0 hS15 x7 g7 x8 g8
    have hm : S15.heap[mb]? = some (.cells #[.bool (decide (s0 = ⟨#[65]⟩)), .int .i64 (fxS s1).1, .slice (some ⟨q, 0, none⟩) n9 n9, .bool pi, .int .i64 pn, .bool ki, .int .i64 kn, .bool vi, .int .i64 vn] 26 (0, 0)) := ym
    have hey := hey2
    have hr := hr2
    have hB2 := hB3
    have r_q := rq2
    have hK0 := hK2
    clear ym hey2 hr2 hB3 rq2 hK2
    replace hey := hid hey
    go_wp2_with fail
    refine (eerr_any B e6 R6 _ hey.out).mono ?_
    rintro r V9 ⟨rfl, hv⟩
    obtain rfl : S15 = V9 := hv.symm
    by_cases hE0 : e6 = 0
    case pos =>
      have t0 : (e6 != 0) = false := by simpa using hE0
      have ya := setRow_heap S15 p0_0 _ #[.bool (decide (s0 = ⟨#[65]⟩)), .int .i64 (fxS s1).1, .slice (some ⟨q, 0, none⟩) n9 n9, .bool pi, .int .i64 pn, .bool ki, .int .i64 kn, .bool vi, .int .i64 vn] 26 (0, 0) hr
      have yO : Only p0_0 S15 (S15.setRow p0_0 #[.bool (decide (s0 = ⟨#[65]⟩)), .int .i64 (fxS s1).1, .slice (some ⟨q, 0, none⟩) n9 n9, .bool pi, .int .i64 pn, .bool ki, .int .i64 kn, .bool vi, .int .i64 vn]) := ⟨rfl, rfl, rfl, by simp [World.setRow], fun k hk => setRow_other _ _ _ _ hk⟩
      obtain ⟨W9, hW9⟩ : ∃ X, S15.setRow p0_0 #[.bool (decide (s0 = ⟨#[65]⟩)), .int .i64 (fxS s1).1, .slice (some ⟨q, 0, none⟩) n9 n9, .bool pi, .int .i64 pn, .bool ki, .int .i64 kn, .bool vi, .int .i64 vn] = X := ⟨_, rfl⟩
      rw [hW9] at ya yO
      have hK9 := (yO.block D hDr).trans hK0
      have rq9 := (yO.block q nqr).trans r_q
      have hB9 := hid (below_mark (W0 := W4) (belowS hB2 yO hbr) hU4.out hD hK9)
      have yb : (W9.putObj D (.deferred none)).heap[p0_0]? = some (.cells #[.bool (decide (s0 = ⟨#[65]⟩)), .int .i64 (fxS s1).1, .slice (some ⟨q, 0, none⟩) n9 n9, .bool pi, .int .i64 pn, .bool ki, .int .i64 kn, .bool vi, .int .i64 vn] 26 (0, 0)) := (World.putObj_heap_other (Ne.symm hDr)).trans ya
      have hld := run_loadVar_row (P := Tryd.prog) (W9.putObj D (.deferred none)) p0_0 26 26 #[.bool (decide (s0 = ⟨#[65]⟩)), .int .i64 (fxS s1).1, .slice (some ⟨q, 0, none⟩) n9 n9, .bool pi, .int .i64 pn, .bool ki, .int .i64 kn, .bool vi, .int .i64 vn] (0, 0) _ yb Tryd.underlying26 rfl (by kernel_rfl)
      have hcell : ∀ i, i < xs9.length → W9.cell? ⟨q, i, none⟩ = some (.int .i64 (xs9.getD i 0)) := fun i hi => by
        have h9 := room_at rq9 (j := i) (by rw [List.length_append]; omega)
        rw [List.getD_eq_getElem?_getD, List.getElem?_append_left hi, ← List.getD_eq_getElem?_getD] at h9
        exact h9
      have hsl9 : Sl .i64 (W9.putObj D (.deferred none)) (some ⟨q, 0, none⟩) n9 n9 xs9 := ⟨hn9x.out, Nat.le_refl _, by have := hn12.out; unfold maxLen; omega, (fun h => by cases h), fun i hi => ⟨q, 0, rfl, put_cell5 (by rw [Nat.zero_add]; exact hcell i hi) hK9 rfl _⟩⟩
      replace hsl9 := hid hsl9
      clear hcell
      have hfin : GsOk w (gsR s0 s1 R) (.returned (.tuple #[.agg #[.bool (decide (s0 = ⟨#[65]⟩)), .int .i64 (fxS s1).1, .slice (some ⟨q, 0, none⟩) n9 n9, .bool pi, .int .i64 pn, .bool ki, .int .i64 kn, .bool vi, .int .i64 vn], .int .i64 0])) (W9.putObj D (.deferred none)) := by rw [hG.out]; exact ⟨hB9.out, .inr ⟨hE0, some ⟨q, 0, none⟩, n9, n9, rfl, hsl9.out⟩⟩
      replace hfin := hid hfin
      replace ya := hid ya
      replace hK9 := hid hK9
      clear yO yb rq9 r_q hK0
      go_wp2_with (first | (refine wpList_load_row rfl 26 (.tmp 5) rfl mb rfl 26 #[.bool (decide (s0 = ⟨#[65]⟩)), .int .i64 (fxS s1).1, .slice (some ⟨q, 0, none⟩) n9 n9, .bool pi, .int .i64 pn, .bool ki, .int .i64 kn, .bool vi, .int .i64 vn] (0, 0) _ hm Tryd.underlying26 rfl (by kernel_rfl) ?_) | (refine wpList_store_row rfl 26 (.tmp 2) (.tmp 66) rfl p0_0 #[.bool (decide (s0 = ⟨#[65]⟩)), .int .i64 (fxS s1).1, .slice (some ⟨q, 0, none⟩) n9 n9, .bool pi, .int .i64 pn, .bool ki, .int .i64 kn, .bool vi, .int .i64 vn] rfl rfl 26 _ hr (by kernel_rfl) rfl (by simp [Value.oneCell']) ?_; rw [hW9]))
      refine marks_ret1 (v := .tuple #[.agg #[.bool (decide (s0 = ⟨#[65]⟩)), .int .i64 (fxS s1).1, .slice (some ⟨q, 0, none⟩) n9 n9, .bool pi, .int .i64 pn, .bool ki, .int .i64 kn, .bool vi, .int .i64 vn], .int .i64 0]) hK9.out ?_ hfin.out
      simp [results, Tryd.results8, asAddr, hld]
    case neg =>
      have t0 : (e6 != 0) = true := by simpa using hE0
      have ya := setRow_heap S15 p0_0 _ #[.bool false, .int .i64 0, .slice none 0 0, .bool false, .int .i64 0, .bool false, .int .i64 0, .bool false, .int .i64 0] 26 (0, 0) hr
      have yO : Only p0_0 S15 (S15.setRow p0_0 #[.bool false, .int .i64 0, .slice none 0 0, .bool false, .int .i64 0, .bool false, .int .i64 0, .bool false, .int .i64 0]) := ⟨rfl, rfl, rfl, by simp [World.setRow], fun k hk => setRow_other _ _ _ _ hk⟩
      obtain ⟨W9, hW9⟩ : ∃ X, S15.setRow p0_0 #[.bool false, .int .i64 0, .slice none 0 0, .bool false, .int .i64 0, .bool false, .int .i64 0, .bool false, .int .i64 0] = X := ⟨_, rfl⟩
      rw [hW9] at ya yO
      have hK9 := (yO.block D hDr).trans hK0
      have rq9 := (yO.block q nqr).trans r_q
      have hB9 := hid (below_mark (W0 := W4) (belowS hB2 yO hbr) hU4.out hD hK9)
      have yb : (W9.putObj D (.deferred none)).heap[p0_0]? = some (.cells #[.bool false, .int .i64 0, .slice none 0 0, .bool false, .int .i64 0, .bool false, .int .i64 0, .bool false, .int .i64 0] 26 (0, 0)) := (World.putObj_heap_other (Ne.symm hDr)).trans ya
      have hld := run_loadVar_row (P := Tryd.prog) (W9.putObj D (.deferred none)) p0_0 26 26 #[.bool false, .int .i64 0, .slice none 0 0, .bool false, .int .i64 0, .bool false, .int .i64 0, .bool false, .int .i64 0] (0, 0) _ yb Tryd.underlying26 rfl (by kernel_rfl)
      have hfin : GsOk w (gsR s0 s1 R) (.returned (.tuple #[.agg #[.bool false, .int .i64 0, .slice none 0 0, .bool false, .int .i64 0, .bool false, .int .i64 0, .bool false, .int .i64 0], .int .i64 e6])) (W9.putObj D (.deferred none)) := by rw [hG.out]; exact ⟨hB9.out, .inl ⟨hE0, rfl⟩⟩
      replace hfin := hid hfin
      replace ya := hid ya
      replace hK9 := hid hK9
      clear yO yb rq9 r_q hK0
      go_wp2_with fail
      refine (eerr_any B e6 R6 _ hey.out).mono ?_
      rintro r V9 ⟨rfl, hv⟩
      obtain rfl : S15 = V9 := hv.symm
      go_wp2_with (first | (refine wpList_store_row rfl 26 (.tmp 2) (.tmp 63) rfl p0_0 #[.bool false, .int .i64 0, .slice none 0 0, .bool false, .int .i64 0, .bool false, .int .i64 0, .bool false, .int .i64 0] rfl rfl 26 _ hr (by kernel_rfl) rfl (by simp [Value.oneCell']) ?_; rw [hW9]))
      refine marks_ret1 (v := .tuple #[.agg #[.bool false, .int .i64 0, .slice none 0 0, .bool false, .int .i64 0, .bool false, .int .i64 0, .bool false, .int .i64 0], .int .i64 e6]) hK9.out ?_ hfin.out
      simp [results, Tryd.results8, asAddr, hld]

end Go.Proofs.YtpbekdkobmgndaaDoor

/- Are two slices of numbers the same? -/
namespace Go.Proofs.YtpbekdkobmgndaaDoor
open Go.ChangeShapes Go.WideShapes Go.ChangeAt Go.RowKit
set_option linter.unusedVariables false

theorem drew2s (w : World) (a b : Nat) : ∃ k, (w.drewN a).drewN b = w.drewN k := ⟨a + b, World.drewN_drewN w a b⟩

set_option maxHeartbeats 1000000 in
theorem same64_any (a b : Option Addr) (la ca lb cb : Nat) (xs ys : List Int) (w : World) (h1 : Sl .i64 w a la ca xs) (h2 : Sl .i64 w b lb cb ys) (hb1 : la ≤ 1000000) (hb2 : lb ≤ 1000000) :
    Calls Tryd.prog 27 #[.slice a la ca, .slice b lb cb] w fun e w' => e = .returned (.bool (decide (xs = ys))) ∧ ∃ k, w' = w.drewN k := by
  obtain ⟨rfl, -, -, -, hr1⟩ := h1
  obtain ⟨rfl, -, -, -, hr2⟩ := h2
  by_cases hl : xs.length = ys.length
  · have hlz : ((xs.length : Int) != ys.length) = false := by simp [hl]
    go_enter Tryd.func27, Tryd.ntmps27
    go_wp2_with fail
    go_loopw [5] (fun i wr => ∃ (k nq : Nat), k ≤ xs.length ∧ i = .int .i64 k ∧ wr = w.drewN nq ∧ xs.take k = ys.take k) (fun i _ => xs.length - (intOf i).toNat)
    case atStart => exact ⟨0, 0, Nat.zero_le _, rfl, rfl, by simp⟩
    case round =>
      obtain ⟨k, nq, hk, rfl, rfl, he⟩ := hrel
      have HE := hid he
      clear he
      have HL := hid hl
      have hl1 : xs.length ≤ ys.length := by omega
      have hl2 : ys.length ≤ xs.length := by omega
      clear hl
      by_cases hlt : k < xs.length
      · obtain ⟨b1, o1, rfl, hc1⟩ := hr1 k hlt
        obtain ⟨b2, o2, rfl, hc2⟩ := hr2 k (by omega)
        have e1 : xs.getD k 0 = xs[k] := by simp [hlt]
        have e2 : ys.getD k 0 = ys[k] := by simp [show k < ys.length from by omega]
        have hlt2 : k < ys.length := by omega
        have t1 := hid (List.take_succ_eq_append_getElem hlt)
        have t2 := hid (List.take_succ_eq_append_getElem hlt2)
        have E1 := hid e1
        have E2 := hid e2
        generalize xs.getD k 0 = x at *
        generalize ys.getD k 0 = y at *
        clear hr1 hr2 e1 e2
        by_cases hxy : x = y
        · have hxz : (x != y) = false := by simp [hxy]
          have HX := hid hxy
          clear hxy
          go_wp2_with fail
          go_quiet (fail)
          go_wp2_with fail
          go_roundw
          case rel => exact ⟨k + 1, _, by omega, by go_num, rfl, by rw [t1.out, t2.out, HE.out, ← E1.out, ← E2.out, HX.out]⟩
          case measure => simp [intOf]; omega
        · have hxz : (x != y) = true := by simp [hxy]
          have hd : Go.RowKit.Hid (decide (xs = ys) = false) := hid (decide_eq_false (fun h => hxy (by rw [E1.out, E2.out]; simp [h])))
          clear hxy
          go_wp2_with fail
          go_quiet (fail)
          go_wp2_with fail
          go_ret
          exact ⟨ret_bool hd.out.symm, drew2s _ _ _⟩
      · have hd : Go.RowKit.Hid (decide (xs = ys) = true) := hid (decide_eq_true (by
          have h := HE.out
          rw [List.take_of_length_le (by omega), List.take_of_length_le (by omega)] at h
          exact h))
        go_wp2_with fail
        go_ret
        exact ⟨ret_bool hd.out.symm, _, rfl⟩
  · have hlz : ((xs.length : Int) != ys.length) = true := by simp; omega
    have hd : Go.RowKit.Hid (decide (xs = ys) = false) := hid (decide_eq_false (fun h => hl (by rw [h])))
    go_enter Tryd.func27, Tryd.ntmps27
    go_wp2_with fail
    go_ret
    exact ⟨ret_bool hd.out.symm, 0, rfl⟩


end Go.Proofs.YtpbekdkobmgndaaDoor

/- Stage 27: Same, num, fields of another number, knows. -/
namespace Go.Proofs.YtpbekdkobmgndaaDoor
open Go.ChangeShapes Go.WideShapes Go.ChangeAt Go.RowKit
set_option linter.unusedVariables false
set_option linter.unusedSimpArgs false

theorem num27_any (n : Int) (w : World) : Calls Tryd.prog 7 #[.int .i64 n] w fun e w' => e = .returned (.int .i64 n) ∧ After w w' := by
  go_enter Tryd.func7, Tryd.ntmps7
  go_wp2_with fail
  go_ret
  exact ⟨rfl, After.refl _⟩
set_option maxRecDepth 100000 in
theorem eqN27 (i : Bool) (n : Int) (w : World) : (Op.equalIn 10000 24 (.agg #[.bool i, .int .i64 n]) (.agg #[.bool i, .int .i64 n])).run Tryd.prog w = .ok true w := by
  rw [show (10000 : Nat) = 9999 + 1 from rfl, run_equalIn_agg w 9999 _ _ _ (by kernel_rfl) (by kernel_rfl)]
  go_simp
theorem vp_calldN {P : Program} {f : FuncId} {args : Array Value} {U : World} {v : Value} (h : Calls P f args U (fun e U' => e = .returned v ∧ ∃ n, U' = U.drewN n)) : Calls P f args U (fun e U' => e = .returned v ∧ After U U') :=
  h.mono fun e U' ⟨he, n, hU⟩ => ⟨he, by subst hU; exact ⟨rfl, rfl, rfl, Nat.le_refl _, fun _ _ => rfl⟩⟩
set_option maxRecDepth 100000 in
set_option maxHeartbeats 8000000 in
theorem same27_any (b : Bool) (f : Int) (pi : Bool) (pn : Int) (ki : Bool) (kn : Int) (vi : Bool) (vn : Int) (a1 a2 : Option Addr) (n1 c1 n2 c2 : Nat) (xs : List Int) (w : World) (h1 : Sl .i64 w a1 n1 c1 xs) (h2 : Sl .i64 w a2 n2 c2 xs) (hb1 : n1 ≤ 1000000) (hb2 : n2 ≤ 1000000) : Calls Tryd.prog 9 #[.agg #[.bool b, .int .i64 f, .slice a1 n1 c1, .bool pi, .int .i64 pn, .bool ki, .int .i64 kn, .bool vi, .int .i64 vn], .agg #[.bool b, .int .i64 f, .slice a2 n2 c2, .bool pi, .int .i64 pn, .bool ki, .int .i64 kn, .bool vi, .int .i64 vn]] w fun e w' => e = .returned (.bool true) ∧ After w w' := by
  have kS := hid (fun U (hA : After w U) => (decide_eq_true (rfl : xs = xs)) ▸ vp_calldN (same64_any a1 a2 n1 c1 n2 c2 xs xs U (h1.below hA) (h2.below hA) hb1 hb2))
  have eN := fun i n W => eqN27 i n W
  have q1 : (b == b) = true := beq_self_eq_true b
  have q2 : (f == f) = true := beq_self_eq_true f
  clear h1 h2 hb1 hb2
  go_enter Tryd.func9, Tryd.ntmps9
  go_upto_region 0 with (fail)
  apply wp_region_seg0 (w := w) (S := [.al 1000, .al 1000, .q []]) (E := [.al ((fun p => .pointer (some ⟨p, 0, none⟩)), _) 1000, .al ((fun p => .pointer (some ⟨p, 0, none⟩)), _) 1000, .q0 _]) rfl (by kernel_rfl) rfl rfl
  intro th hge hne
  refine Seg.step _ rfl ⟨by rfl, fun U hU => ?_⟩ ?_
  · go_simp; exact vp_alloc rfl rfl rfl
  refine Seg.sa ?_
  refine Seg.step _ rfl ⟨by rfl, fun U hU => ?_⟩ ?_
  · go_simp; exact vp_alloc rfl rfl rfl
  refine Seg.sa ?_
  refine Seg.sq ?_
  refine Seg.stop (fun U1 hU hk => ?_)
  have nb0 := hge 0 _ _ rfl
  have rb0 := (hk 0 _ _ rfl trivial).1.2 (by simp)
  have nb1 := hge 1 _ _ rfl
  have rb1 := (hk 1 _ _ rfl trivial).1.2 (by simp)
  have ne0_1 := hne 0 1 _ _ _ _ rfl rfl (by omega)
  clear hk hge hne
  generalize th (0 + 0) = p0_0 at *
  dsimp only at rb0
  generalize th (0 + 1) = p0_1 at *
  dsimp only at rb1
  have r_p0_0 := rb0
  clear rb0
  have n_p0_0 := nb0
  clear nb0
  have d_p0_0_p0_1 := ne0_1
  clear ne0_1
  have r_p0_1 := rb1
  clear rb1
  have n_p0_1 := nb1
  clear nb1
  have sz1 := hU.size
  have hB : Below w.heap.size w U1 := hU
  clear hU
  go_upto_region 1 with (fail)
  replace kS := hid (fun U (hA : After U1 U) => kS.out U (bthen hB hA))
  apply wp_region_seg0 (w := U1) (S := (.q [] :: .q [] :: .q [] :: .q [] :: .q [] :: .q [] :: .q [] :: .q [] :: .q [] :: .q [] :: .q [] :: .q [] :: .q [] :: .q [] :: .q [] :: .q [] :: .q [] :: .q [] :: .q [] :: .q [] :: .q [] :: .q [] :: .q [] :: .q [] :: .q [] :: .q [] :: .q [] :: .q [] :: .q [] :: .q [] :: .q [] :: .q [] :: .q [] :: .q [] :: .q [] :: .q [] :: .q [] :: .q [] :: .q [] :: .q [] :: .q [] :: [])) (E := (.q0 _ :: .q0 _ :: .q0 _ :: .q0 _ :: .q0 _ :: .q0 _ :: .q0 _ :: .q0 _ :: .q0 _ :: .q0 _ :: .q0 _ :: .q0 _ :: .q0 _ :: .q0 _ :: .q0 _ :: .q0 _ :: .q0 _ :: .c0 _ :: .q0 _ :: .q0 _ :: .q0 _ :: .q0 _ :: .q0 _ :: .q0 _ :: .q0 _ :: .q0 _ :: .q0 _ :: .q0 _ :: .q0 _ :: .q0 _ :: .q0 _ :: .q0 _ :: .q0 _ :: .q0 _ :: .q0 _ :: .q0 _ :: .q0 _ :: .q0 _ :: .q0 _ :: .q0 _ :: .q0 _ :: [])) rfl (by kernel_rfl) rfl rfl
  intro th hge hne
  refine Seg.sq ?_
  refine Seg.sq ?_ (ht := Or.inl ⟨by rfl, fun U hU => vp_quiet (by (have h0 := held_cell (held_after hU.1 r_p0_0) 0 _ rfl; go_simp <;> exact rfl))⟩)
  refine Seg.sq ?_
  refine Seg.sq ?_ (ht := Or.inl ⟨by rfl, fun U hU => vp_quiet (by (have h0 := held_cell (held_after hU.1 r_p0_1) 0 _ rfl; go_simp <;> exact rfl))⟩)
  iterate 3 refine Seg.sq ?_
  refine Seg.sq ?_ (ht := Or.inl ⟨by rfl, fun U hU => vp_quiet (by (have h0 := held_cell (held_after hU.1 r_p0_0) 1 _ rfl; go_simp <;> exact rfl))⟩)
  refine Seg.sq ?_
  refine Seg.sq ?_ (ht := Or.inl ⟨by rfl, fun U hU => vp_quiet (by (have h0 := held_cell (held_after hU.1 r_p0_1) 1 _ rfl; go_simp <;> exact rfl))⟩)
  iterate 4 refine Seg.sq ?_
  refine Seg.sq ?_ (ht := Or.inl ⟨by rfl, fun U hU => vp_quiet (by (have h0 := held_cell (held_after hU.1 r_p0_0) 2 _ rfl; go_simp <;> exact rfl))⟩)
  refine Seg.sq ?_
  refine Seg.sq ?_ (ht := Or.inl ⟨by rfl, fun U hU => vp_quiet (by (have h0 := held_cell (held_after hU.1 r_p0_1) 2 _ rfl; go_simp <;> exact rfl))⟩)
  refine Seg.step _ rfl (Or.inl ⟨by rfl, fun U hU => ?_⟩) ?_
  · go_simp
    refine vp_call (kS.out _ hU.1)
  refine Seg.sa ?_
  iterate 3 refine Seg.sq ?_
  refine Seg.sq ?_ (ht := Or.inl ⟨by rfl, fun U hU => vp_quiet (by (have h0 := held_cell (held_after hU.1 r_p0_0) 3 _ rfl; have h1 := held_cell (held_after hU.1 r_p0_0) 4 _ rfl; go_simp <;> exact rfl))⟩)
  refine Seg.sq ?_
  refine Seg.sq ?_ (ht := Or.inl ⟨by rfl, fun U hU => vp_quiet (by (have h0 := held_cell (held_after hU.1 r_p0_1) 3 _ rfl; have h1 := held_cell (held_after hU.1 r_p0_1) 4 _ rfl; go_simp <;> exact rfl))⟩)
  iterate 4 refine Seg.sq ?_
  refine Seg.sq ?_ (ht := Or.inl ⟨by rfl, fun U hU => vp_quiet (by (have h0 := held_cell (held_after hU.1 r_p0_0) 5 _ rfl; have h1 := held_cell (held_after hU.1 r_p0_0) 6 _ rfl; go_simp <;> exact rfl))⟩)
  refine Seg.sq ?_
  refine Seg.sq ?_ (ht := Or.inl ⟨by rfl, fun U hU => vp_quiet (by (have h0 := held_cell (held_after hU.1 r_p0_1) 5 _ rfl; have h1 := held_cell (held_after hU.1 r_p0_1) 6 _ rfl; go_simp <;> exact rfl))⟩)
  iterate 4 refine Seg.sq ?_
  refine Seg.sq ?_ (ht := Or.inl ⟨by rfl, fun U hU => vp_quiet (by (have h0 := held_cell (held_after hU.1 r_p0_0) 7 _ rfl; have h1 := held_cell (held_after hU.1 r_p0_0) 8 _ rfl; go_simp <;> exact rfl))⟩)
  refine Seg.sq ?_
  refine Seg.sq ?_ (ht := Or.inl ⟨by rfl, fun U hU => vp_quiet (by (have h0 := held_cell (held_after hU.1 r_p0_1) 7 _ rfl; have h1 := held_cell (held_after hU.1 r_p0_1) 8 _ rfl; go_simp <;> exact rfl))⟩)
  iterate 3 refine Seg.sq ?_
  refine Seg.stop (fun U2 hU hk => ?_)
  clear hk hge hne
  replace r_p0_0 := held_after hU r_p0_0
  replace r_p0_1 := held_after hU r_p0_1
  have sz2 := hU.size
  replace hB := bthen hB hU
  clear hU
  go_wp2_with fail
  go_ret
  exact ⟨rfl, hB⟩
set_option maxRecDepth 100000 in
set_option maxHeartbeats 8000000 in
theorem gstake_no (w : World) (a : Option Addr) (n cap : Nat) (hn : n ≠ 17) : Calls Tryd.prog 8 #[.slice a n cap] w fun r w' => r = .returned (.tuple #[.agg #[.bool false, .int .i64 0, .slice none 0 0, .bool false, .int .i64 0, .bool false, .int .i64 0, .bool false, .int .i64 0], .int .i64 3]) ∧ After w w' := by
  have b1 : ((n : Int) != 17) = true := by simp; omega
  clear hn
  refine calls_of_marks Tryd.func8 rfl ?_
  simp only [Tryd.ntmps8, List.size_toArray, List.length_cons, List.length_nil, Nat.reduceAdd, Nat.reduceSub, Array.replicate_succ, Array.replicate_zero, List.push_toArray, List.append_toArray, List.nil_append, List.cons_append]
  go_upto_region 0 with (fail)
  apply wp_region_seg0 (w := w) (S := [.al 1000, .q []]) (E := [.al ((fun p => .pointer (some ⟨p, 0, none⟩)), _) 1000, .q0 _]) rfl (by kernel_rfl) rfl rfl
  intro th hge hne
  refine Seg.step _ rfl ⟨by rfl, fun U hU => ?_⟩ ?_
  · go_simp; exact vp_alloc rfl rfl rfl
  refine Seg.sa ?_
  refine Seg.sq ?_
  refine Seg.stop (fun U1 hU hk => ?_)
  have nb0 := hge 0 _ _ rfl
  have rb0 := (hk 0 _ _ rfl trivial).1.2 (by simp)
  clear hk hge hne
  generalize th (0 + 0) = p0_0 at *
  dsimp only at rb0
  have r_p0_0 := rb0
  clear rb0
  have n_p0_0 := nb0
  clear nb0
  have sz1 := hU.size
  have hB : Below w.heap.size w U1 := hU
  clear hU
  have ya := setRow_heap U1 p0_0 _ #[.bool false, .int .i64 0, .slice none 0 0, .bool false, .int .i64 0, .bool false, .int .i64 0, .bool false, .int .i64 0] 26 (0, 0) r_p0_0
  have yO : Only p0_0 U1 (U1.setRow p0_0 #[.bool false, .int .i64 0, .slice none 0 0, .bool false, .int .i64 0, .bool false, .int .i64 0, .bool false, .int .i64 0]) := ⟨rfl, rfl, rfl, by simp [World.setRow], fun k hk => setRow_other _ _ _ _ hk⟩
  obtain ⟨W9, hW9⟩ : ∃ X, U1.setRow p0_0 #[.bool false, .int .i64 0, .slice none 0 0, .bool false, .int .i64 0, .bool false, .int .i64 0, .bool false, .int .i64 0] = X := ⟨_, rfl⟩
  rw [hW9] at ya yO
  have hB9 := hid (belowS hB yO (by omega))
  have hld := run_loadVar_row (P := Tryd.prog) W9 p0_0 26 26 #[.bool false, .int .i64 0, .slice none 0 0, .bool false, .int .i64 0, .bool false, .int .i64 0, .bool false, .int .i64 0] (0, 0) _ ya Tryd.underlying26 rfl (by kernel_rfl)
  replace ya := hid ya
  clear yO
  go_wp2_with (first | (refine wpList_store_row rfl 26 (.tmp 2) (.tmp 13) rfl p0_0 #[.bool false, .int .i64 0, .slice none 0 0, .bool false, .int .i64 0, .bool false, .int .i64 0, .bool false, .int .i64 0] rfl rfl 26 _ r_p0_0 (by kernel_rfl) rfl (by simp [Value.oneCell']) ?_; rw [hW9]))
  refine marks_ret0 (v := .tuple #[.agg #[.bool false, .int .i64 0, .slice none 0 0, .bool false, .int .i64 0, .bool false, .int .i64 0, .bool false, .int .i64 0], .int .i64 3]) ?_ ⟨rfl, hB9.out⟩
  simp [results, Tryd.results8, asAddr, hld]
/-- The fields of the chapter's example. -/
def kL27 (i : Nat) : List ByteArray := ⟨#[65]⟩ :: ⟨#[49]⟩ :: List.replicate i ⟨#[]⟩
theorem kL27_len (i : Nat) : (kL27 i).length = 2 + i := by simp [kL27]; omega
theorem kL27_next (i : Nat) : (strV23 (kL27 i)).flatten ++ strC23 ⟨#[]⟩ = (strV23 (kL27 (i + 1))).flatten := by
  rw [show kL27 (i + 1) = kL27 i ++ [⟨#[]⟩] from by simp [kL27, List.replicate_succ'], strV23_app]; rfl
theorem kL27_size (i : Nat) : ∀ s ∈ kL27 i, s.size ≤ 1000 := by
  intro s hs
  simp only [kL27, List.mem_cons, List.mem_replicate] at hs
  rcases hs with rfl | rfl | ⟨-, rfl⟩ <;> decide
theorem kR27 : gsR ⟨#[65]⟩ ⟨#[49]⟩ (List.replicate 15 ⟨#[]⟩) = ⟨true, 1, [], (false, 0), (false, 0), (false, 0), 0⟩ := by kernel_rfl
set_option maxRecDepth 100000 in
set_option maxHeartbeats 16000000 in
theorem knows27_any (w : World) : Calls Tryd.prog 5 #[] w fun e w' => e = .returned (.bool true) ∧ After w w' := by
  go_enter Tryd.func5, Tryd.ntmps5
  go_upto_region 0 with (fail)
  apply wp_region_seg0 (w := w) (S := [.q []]) (E := [.q0 _]) rfl (by kernel_rfl) rfl rfl
  intro th hge hne
  refine Seg.sq ?_
  refine Seg.stop (fun U1 hU hk => ?_)
  clear hk hge hne
  have sz1 := hU.size
  have hB : Below w.heap.size w U1 := hU
  clear hU
  go_upto_region 1 with (fail)
  apply wp_region_seg0 (w := U1) (S := [.al 1000, .q [0]]) (E := [.al ((fun p => .slice (some ⟨p, 0, none⟩) 2 2), _) 1000, .q1 0 (fun p => .slice (some ⟨p, 0, none⟩) 2 2)]) rfl (by kernel_rfl) rfl rfl
  intro th hge hne
  refine Seg.step _ rfl ⟨by rfl, fun U hU => ?_⟩ ?_
  · go_simp; exact vp_alloc rfl rfl rfl
  refine Seg.sa ?_
  refine Seg.sq ?_
  refine Seg.stop (fun U2 hU hk => ?_)
  have nb0 := hge 0 _ _ rfl
  have rb0 := (hk 0 _ _ rfl trivial).1.2 (by simp)
  clear hk hge hne
  generalize th (0 + 0) = p1_0 at *
  dsimp only at rb0
  have r_p1_0 := rb0
  clear rb0
  have n_p1_0 := nb0
  clear nb0
  have sz2 := hU.size
  replace hB := bthen hB hU
  clear hU
  have hO0 : OwnE 9 U2 w.heap.size 1 (.slice (some ⟨p1_0, 0, none⟩) 2 2) 2 (strV23 (kL27 0)).flatten := ⟨rfl, .inr ⟨p1_0, 2, _, rfl, by omega, r_p1_0, Nat.le_refl _, by decide, by decide, rfl⟩⟩
  clear r_p1_0 n_p1_0
  replace hO0 := hid hO0
  go_wp2_with fail
  go_loopw [1, 2] (fun s ix wr => ∃ (i : Nat) (a : Option Addr) (cap : Nat), ix = .int .i64 i ∧ i ≤ 15 ∧ s = .slice a (2 + i) cap ∧ OwnE 9 wr w.heap.size 1 (.slice a (2 + i) cap) (2 + i) (strV23 (kL27 i)).flatten ∧ After w wr) (fun _ ix _ => 15 - (intOf ix).toNat)
  case atStart => exact ⟨0, _, _, rfl, by omega, rfl, hO0.out, hB⟩
  case round =>
    clear hO0 hB
    obtain ⟨i, a, cap, rfl, hi, rfl, hO, hB⟩ := hrel
    by_cases hlt : (i : Int) < 15
    case neg =>
      obtain rfl : i = 15 := by omega
      have hE := hO.els (by rw [strV23_len, kL27_len]) (strV23_m _)
      have k1 := hid (fun U hh => gstake_any ⟨#[65]⟩ ⟨#[49]⟩ (List.replicate 15 ⟨#[]⟩) (by simp) U a 17 cap rfl hh (kL27_size 15))
      replace hE := hid hE
      clear hO hi
      go_wp2_with fail
      refine (k1.out _ hE.out).mono ?_
      rw [kR27]
      rintro r V ⟨hA, hr⟩
      rcases hr with ⟨h0, -⟩ | ⟨-, a9, n9, c9, rfl, hsl⟩
      · exact absurd rfl h0
      have hB2 := bthen hB hA
      have hn9 : n9 = 0 := hsl.1.symm
      subst hn9
      clear hA hE k1 hB
      have kS := hid (fun U (hA : After V U) => same27_any true 1 false 0 false 0 false 0 a9 none 0 c9 0 0 [] U (hsl.below hA) ⟨rfl, Nat.le_refl _, by unfold maxLen; omega, fun _ => rfl, fun i hi => by cases hi⟩ (by decide) (by decide))
      clear hsl
      skip
      have hB := hB2
      clear hB2
      skip
      have nw := alloc_new V (.cells #[.bool true, .int .i64 1, .slice a9 0 c9, .bool false, .int .i64 0, .bool false, .int .i64 0, .bool false, .int .i64 0] 26)
      go_upto_region 7 with (fail)
      obtain ⟨V2, hV2⟩ : ∃ X, V.alloc (.cells #[.bool true, .int .i64 1, .slice a9 0 c9, .bool false, .int .i64 0, .bool false, .int .i64 0, .bool false, .int .i64 0] 26) = X := ⟨_, rfl⟩
      rw [hV2] at nw ⊢
      obtain ⟨pm, hpm⟩ : ∃ X, V.heap.size = X := ⟨_, rfl⟩
      rw [hpm] at nw ⊢
      replace hV2 := hid hV2
      replace hpm := hid hpm
      have rm := nw.2.2
      have hA2 := hid nw.2.1
      replace hB := hid (bthen hB nw.2.1)
      clear nw
      go_wp2_with (first | (refine wpList_load_row rfl 26 (.tmp 3) rfl pm rfl 26 #[.bool true, .int .i64 1, .slice a9 0 c9, .bool false, .int .i64 0, .bool false, .int .i64 0, .bool false, .int .i64 0] (0, 0) _ rm Tryd.underlying26 rfl (by kernel_rfl) ?_))
      refine (kS.out _ hA2.out).mono ?_
      rintro r V3 ⟨rfl, hA⟩
      replace hB := hid (bthen hB.out hA)
      clear hA
      go_wp2_with fail
      refine (num27_any 0 _).mono ?_
      rintro r V4 ⟨rfl, hA⟩
      replace hB := hid (bthen hB.out hA)
      clear hA
      go_wp2_with fail
      go_ret
      exact ⟨ret_bool (by simp), hB.out⟩
    have wi : IntKind.i64.wrap ((i : Int) + 1) = (i : Int) + 1 := by rw [IntKind.wrap_i64]; omega
    have hi1 := hid (show i + 1 ≤ 15 by omega)
    have nx := hid (kL27_next i)
    have hEl := els_one wr #[.string ⟨#[]⟩] 9 1 rfl
    have aw := alloc_new wr (.cells #[.string ⟨#[]⟩] 9)
    obtain ⟨X1, hX⟩ : ∃ X, wr.alloc (.cells #[.string ⟨#[]⟩] 9) = X := ⟨_, rfl⟩
    rw [hX] at aw hEl
    have hO2 := hid (hO.below aw.2.1)
    have hB2 := hid (bthen hB aw.2.1)
    have hbs : w.heap.size ≤ X1.heap.size := (bthen hB aw.2.1).size
    replace hEl := hid hEl
    clear aw hO hB
    go_wp2_with (first | (at_builtin; refine wpList_appE rfl (.tmp 10) (.tmp 11) 27 rfl w.heap.size 9 1 16 strO23 (by decide) (.slice a (2 + i) cap) (2 + i) (strV23 (kL27 i)).flatten rfl hO2.out (some ⟨_, 0, none⟩) 1 1 [strC23 ⟨#[]⟩] rfl hEl.out (by intro y hy u hu; obtain rfl := List.mem_singleton.1 hy; obtain rfl := List.mem_singleton.1 hu; rfl) (by unfold maxLen; omega) (by omega) hbs ?_))
    intro a' cap' W9 hO9 hG hN
    rw [nx.out] at hO9
    have hB9 := hB2.out.grown hG hbs (fun k e => (hO2.out.lt k e).1)
    replace hO9 := hid hO9
    replace hB9 := hid hB9
    clear hG hN
    go_wp2_with fail
    go_roundw
    case rel => exact ⟨i + 1, a', cap', by simp, hi1.out, rfl, hO9.out, hB9.out⟩
    case measure => simp [intOf]; omega

end Go.Proofs.YtpbekdkobmgndaaDoor
