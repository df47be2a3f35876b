/- Package block: Put. -/
import Derived.Test.YtkpncailoekjpaaBlk6
import Derived.Test.YtkpncailoekjpaaRec8
import Derived.Deep.DeepCutAuto
namespace Go.Proofs.Ytkpncailoekjpaa
open Go.ChangeShapes Go.WideShapes Go.ChangeAt Go.RowKit
set_option linter.unusedVariables false
set_option linter.unusedSimpArgs false

theorem bytesL1 (n : Int) : bytesL n 1 = [n % 256] := by
  show [n / 2 ^ (8 * 0) % 256] = [n % 256]
  simp
theorem fit1 {t : Int} (h0 : 0 ≤ t) (h1 : t ≤ 255) : fitU 1 t = true := by
  unfold fitU
  exact decide_eq_true ⟨by omega, by omega, by show t < 256 ^ 1; omega⟩
/-- A block's bytes ahead of its entries. -/
def hdr (no n : Int) : List Int := 76 :: n % 256 :: bytesL no 4
theorem hdr_len (no n : Int) : (hdr no n).length = 6 := by rw [hdr, List.length_cons, List.length_cons, bytesL_len]
theorem hdr_parts (no n : Int) : (bytesL 76 1 ++ bytesL n 1) ++ bytesL no 4 = hdr no n := by
  rw [bytesL1, bytesL1]; rfl
def keyed : List En → Bool
  | [] => false
  | x :: _ => x.1
def blockB (no : Int) (l : List En) : List Int := crcSeal (fill (hdr no l.length ++ entS (0, zer12) l))
def putB (no : Int) (l : List En) : List Int × Int :=
  if keyed l then if 248 < (entS (0, zer12) l).length then ([], 8) else (blockB no l, 0) else ([], 1)
def BpOk (w : World) (r : List Int × Int) (e : Ending) (w' : World) : Prop := ∃ a cap, e = .returned (.tuple #[.slice a r.1.length cap, .int .i64 r.2]) ∧ Own .u8 5 w' w.heap.size (.slice a r.1.length cap) r.1 ∧ After w w'
theorem bp_none {w w' : World} (n : Int) (h : After w w') : BpOk w ([], n) (.returned (.tuple #[.slice none 0 0, .int .i64 n])) w' := ⟨none, 0, rfl, Own.nil _ _ _ _, h⟩
theorem keyV_wf (t : Int) (v : List Int) : ∀ y ∈ keyV t v, (Lit.int .u8 y).wf = true := by
  intro y hy
  unfold keyV keyF at hy
  rw [List.mem_append] at hy
  rcases hy with hy | hy
  · exact byte_wf (bytesL_bd _ _ _ hy).1 (bytesL_bd _ _ _ hy).2
  · obtain ⟨x, hx, hy⟩ := List.mem_flatMap.1 hy
    exact byte_wf (bytesL_bd _ _ _ hy).1 (bytesL_bd _ _ _ hy).2
theorem deltaV_wf {t u : Int} {a b : List Int} (ha : ∀ j, -2147483648 ≤ a.getD j 0 ∧ a.getD j 0 ≤ 2147483647) (hb : ∀ j, -2147483648 ≤ b.getD j 0 ∧ b.getD j 0 ≤ 2147483647) : ∀ y ∈ deltaV t u a b, (Lit.int .u8 y).wf = true := by
  intro y hy
  unfold deltaV at hy
  rw [List.mem_append, List.mem_append] at hy
  have e9 : (128 : Nat) ^ (9 + 1) = 1180591620717411303424 := by decide
  rcases hy with (hy | hy) | hy
  · have hL := late_bd t u
    have := vpF_wf 9 (lateV t u) (by omega) y hy
    exact byte_wf this.1 this.2
  · have hm := mskF_lt a b 12
    have e2 : (2 : Nat) ^ 12 = 4096 := by decide
    have := vpF_wf 9 (mskF a b 12) (by omega) y hy
    exact byte_wf this.1 this.2
  · refine ints_wf _ ?_ y hy
    intro x hx
    obtain ⟨z, hz, rfl⟩ := List.mem_map.1 hx
    have := (chgF_bd ha hb 12 z hz).2.1
    omega
theorem hdr_wf (no n : Int) : ∀ y ∈ hdr no n, (Lit.int .u8 y).wf = true := by
  intro y hy
  rw [hdr, List.mem_cons, List.mem_cons] at hy
  rcases hy with rfl | rfl | hy
  · rfl
  · exact byte_wf (by omega) (by omega)
  · exact byte_wf (bytesL_bd _ _ _ hy).1 (bytesL_bd _ _ _ hy).2
theorem layS_wf {st : Int × List Int} {x : En} (h1 : ∀ y ∈ st.2, -2147483648 ≤ y ∧ y ≤ 2147483647) (hx : EnOk x) : ∀ y ∈ layS st x, (Lit.int .u8 y).wf = true := by
  intro y hy
  unfold layS at hy
  split at hy
  · rw [List.mem_cons] at hy
    rcases hy with rfl | hy
    · rfl
    · exact keyV_wf _ _ _ hy
  · rw [List.mem_cons] at hy
    rcases hy with rfl | hy
    · rfl
    · exact deltaV_wf (get_bd h1) (get_bd hx.2.2) y hy
theorem entS_wf : ∀ (l : List En) (st : Int × List Int), (∀ y ∈ st.2, -2147483648 ≤ y ∧ y ≤ 2147483647) → (∀ x ∈ l, EnOk x) → ∀ y ∈ entS st l, (Lit.int .u8 y).wf = true
  | [], _, _, _, y, hy => by simp [entS] at hy
  | x :: l, st, h1, hx, y, hy => by
    rw [entS, List.mem_append] at hy
    have hx0 := hx x (by simp)
    rcases hy with hy | hy
    · exact layS_wf h1 hx0 y hy
    · exact entS_wf l x.2 hx0.2.2 (fun z hz => hx z (by simp [hz])) y hy
theorem Wr.lt {B base : Nat} {w : World} {zs : List Int} (h : Wr B base w zs) : B < w.heap.size := by
  obtain ⟨_, _, h1, _⟩ := h
  exact held_lt h1
theorem Wr.kept2 {B base p : Nat} {w W : World} {zs : List Int} {c : Array Value} {T : TypeId} {f : Nat × Nat} (h : Wr B base w zs) (hp : w.heap[p]? = some (.cells c T f)) (hne : p ≠ B) (hT : T ≠ 5) (ho : Only p w W) : Wr B base W zs := by
  obtain ⟨a, cap, h1, h2⟩ := h
  exact ⟨a, cap, by rw [ho.block B (fun e => hne e.symm)]; exact h1, h2.kept2 hp hT ho⟩
theorem bkey_at {w : World} {a : Option Addr} {m cap : Nat} {l : List En} (hm : l.length = m) (h : Els w 14 a m cap (entsV l)) : (m = 0 → keyed l = false) ∧ (m ≠ 0 → ∃ b off, a = some ⟨b, off, none⟩ ∧ w.cell? ⟨b, off, none⟩ = some (.bool (keyed l))) := by
  cases l with
  | nil => exact ⟨fun _ => rfl, fun e => absurd hm.symm e⟩
  | cons x r =>
    refine ⟨fun e => by rw [← hm] at e; simp at e, fun _ => ?_⟩
    obtain ⟨_, b, off, e, hc⟩ := h.2.2.2.2 0 (entC x) rfl
    exact ⟨b, off, e, by have h1 := hc 0 _ rfl; simpa [keyed] using h1⟩
set_option maxRecDepth 100000 in
set_option maxHeartbeats 8000000 in
theorem bput_any (no : Int) (a : Option Addr) (m cap : Nat) (l : List En) (w : World) (hno : 0 ≤ no ∧ no ≤ 4294967295) (hm : l.length = m) (hE : Els w 14 a m cap (entsV l)) (h255 : m ≤ 255) (hl : ∀ x ∈ l, EnOk x) : Calls Try.prog 31 #[.agg #[.int .u32 no, .slice a m cap]] w (BpOk w (putB no l)) := by
  have kS := fun U (hU : Els U 14 a m cap (entsV l)) => size_any a cap l U (by rw [hm]; exact hU) (by omega) hl
  rw [hm] at kS
  replace kS := hid kS
  obtain ⟨r, hr⟩ : ∃ r, putB no l = r := ⟨_, rfl⟩
  rw [hr]
  have hewf := entS_wf l (0, zer12) (by intro y hy; simp [zer12] at hy; subst hy; decide) hl
  replace hewf := hid hewf
  have hall := hid (show entS (0, zer12) (l.take m) = entS (0, zer12) l from by rw [← hm, List.take_length])
  replace hl := hid hl
  replace hE := hid hE
  obtain ⟨S, hS⟩ : ∃ S, entS (0, zer12) l = S := ⟨_, rfl⟩
  rw [hS] at hall kS hewf
  obtain ⟨K, hK0⟩ : ∃ K, keyed l = K := ⟨_, rfl⟩
  have hr1 : r = if K then if 248 < S.length then ([], 8) else (crcSeal (fill (hdr no m ++ S)), 0) else ([], 1) := by rw [← hr, putB, hK0, hS, blockB, hm, hS]
  clear hr hS
  replace hr1 := hid hr1
  have hk := fun U (hU : Els U 14 a m cap (entsV l)) => bkey_at hm hU
  rw [hK0] at hk
  clear hK0
  replace hm := hid hm
  go_enter Try.func31, Try.ntmps31
  go_upto_region 0 with (fail)
  apply wp_region_seg0 (w := w) (S := [.al 1000, .q [], .q []]) (E := [.al ((fun p => .pointer (some ⟨p, 0, none⟩)), _) 1000, .q0 _, .q0 _]) rfl (by kernel_rfl) rfl rfl
  intro th hge hne
  refine Seg.step _ rfl ⟨by rfl, fun U hU => ?_⟩ ?_
  · go_simp; exact vp_alloc rfl rfl rfl
  refine ⟨_, by (simp only [Ent.val]; go_simp <;> exact rfl), ?_⟩
  refine Seg.step _ rfl (Or.inl ⟨by rfl, fun U hU => vp_quiet (by (go_simp <;> exact rfl))⟩) ⟨_, by (simp only [Ent.val]; go_simp <;> exact rfl), ?_⟩
  refine Seg.step _ rfl (Or.inl ⟨by rfl, fun U hU => vp_quiet (by (go_simp <;> exact rfl))⟩) ⟨_, by (simp only [Ent.val]; go_simp <;> exact rfl), ?_⟩
  refine Seg.stop (fun U1 hU hk => ?_)
  have nb0 := hge 0 _ _ rfl
  have rb0 := (hk 0 _ _ rfl trivial).1.2 (by simp)
  clear hk hge hne
  generalize th (0 + 0) = p0_0 at *
  dsimp only at rb0
  have r_p0_0 := rb0
  clear rb0
  have n_p0_0 := nb0
  clear nb0
  have sz1 := hU.size
  have hB : Below w.heap.size w U1 := hU
  clear hU
  go_upto_region 1 with (fail)
  have c0 := held_cell r_p0_0 0 _ rfl
  have c1 := held_cell r_p0_0 1 _ rfl
  have sB := hB.size
  have hE1 := hE.out.below hB
  replace hB := hid hB
  by_cases hm0 : m = 0
  case pos =>
    have hf := (hk w hE.out).1 hm0
    subst hf
    have q0 : ((m : Int) == 0) = true := by rw [hm0]; rfl
    clear hk
    go_wp2_with fail
    go_ret2
    rw [hr1.out]
    exact bp_none 1 hB.out
  obtain ⟨b, off, ha, cK⟩ := (hk _ hE1).2 hm0
  clear hk
  subst ha
  have q0 : ((m : Int) == 0) = false := by simpa using hm0
  have qm : 0 < m := by omega
  have qm2 : (0 : Int) < (m : Int) := by omega
  cases K
  case false =>
    go_wp2_with fail
    go_ret2
    rw [hr1.out]
    exact bp_none 1 hB.out
  go_upto_region 3 with (fail)
  go_wp2_with fail
  refine (kS.out _ hE1).mono ?_
  rintro e V1 ⟨rfl, hA⟩
  have r1 := held_after hA r_p0_0
  have hB1 := bthen hB.out hA
  clear hA hB r_p0_0 c0 c1 cK q0 qm qm2 hm0 kS hE1
  replace hB1 := hid hB1
  by_cases h248 : 248 < S.length
  case pos =>
    have q8 : (248 : Int) < (S.length : Int) := by omega
    go_wp2_with fail
    go_ret2
    rw [show r = ([], 8) from hr1.out.trans (by simp [h248])]
    exact bp_none 8 hB1.out
  have hr2 : r = (crcSeal (fill (hdr no m ++ S)), 0) := hr1.out.trans (by simp [h248])
  replace hr2 := hid hr2
  clear hr1
  have q8 : ¬ (248 : Int) < (S.length : Int) := by omega
  have c0 := held_cell r1 0 _ rfl
  have c1 := held_cell r1 1 _ rfl
  have hlt0 := held_lt r1
  have s1 := hB1.out.size
  replace r1 := hid r1
  go_wp2_with fail
  refine (make_any _).mono ?_
  rintro e V2 ⟨rfl, hmk, hA⟩
  have r2 := held_after hA r1.out
  have hB2 := hid (bthen hB1.out hA)
  have hne : p0_0 ≠ V1.heap.size := by omega
  have hBw : w.heap.size ≤ V1.heap.size := s1
  have lt1 := held_lt hmk
  have hW : Wr V1.heap.size w.heap.size V2 [] := ⟨none, 0, hmk, Own.nil _ _ _ _⟩
  obtain ⟨Q, hQ⟩ : ∃ Q, V1.heap.size = Q := ⟨_, rfl⟩
  rw [hQ] at hW hne hBw lt1 ⊢
  clear hA hmk hB1 r1 c0 c1 hQ s1
  have s2 := hB2.out.size
  replace hW := hid hW
  have c0 := held_cell r2 0 _ rfl
  have c1 := held_cell r2 1 _ rfl
  have wm : IntKind.u64.wrap (m : Int) = (m : Int) := by rw [IntKind.wrap_u64]; omega
  have wno : IntKind.u64.wrap no = no := by rw [IntKind.wrap_u64]; omega
  go_wp2_with fail
  refine (wu_any Q w.heap.size w.heap.size ([]) 1 76 (by omega) (by omega) _ hW.out (by simp [bytesL_len]) hBw (Nat.le_refl _) (by omega)).mono ?_
  rintro e V3 ⟨rfl, hV, hK⟩
  rw [fit1 (by omega) (by omega)] at hV
  have hW3 : Wr Q w.heap.size V3 (bytesL 76 1) := hV
  have r3 := hW.out.besides hK.2 r2 hne (by decide)
  have hB3 := hid (hB2.out.trans hK.1)
  have s3 := hB3.out.size
  replace hW3 := hid hW3
  clear hV hK hW r2 hB2 c0 c1 s2
  have c0 := held_cell r3 0 _ rfl
  have c1 := held_cell r3 1 _ rfl
  go_wp2_with fail
  refine (wu_any Q w.heap.size w.heap.size (bytesL 76 1) 1 (m : Int) (by omega) (by omega) _ hW3.out (by simp [bytesL_len]) hBw (Nat.le_refl _) (by omega)).mono ?_
  rintro e V4 ⟨rfl, hV, hK⟩
  rw [fit1 (by omega) (by omega)] at hV
  have hW4 : Wr Q w.heap.size V4 ((bytesL 76 1) ++ bytesL (m : Int) 1) := hV
  have r4 := hW3.out.besides hK.2 r3 hne (by decide)
  have hB4 := hid (hB3.out.trans hK.1)
  have s4 := hB4.out.size
  replace hW4 := hid hW4
  clear hV hK hW3 r3 hB3 c0 c1 s3
  have c0 := held_cell r4 0 _ rfl
  have c1 := held_cell r4 1 _ rfl
  go_wp2_with fail
  refine (wu_any Q w.heap.size w.heap.size ((bytesL 76 1) ++ bytesL (m : Int) 1) 4 no hno.1 (by omega) _ hW4.out (by simp [bytesL_len]) hBw (Nat.le_refl _) (by omega)).mono ?_
  rintro e V5 ⟨rfl, hV, hK⟩
  rw [fit4 hno.1 hno.2] at hV
  have hW5 : Wr Q w.heap.size V5 (((bytesL 76 1) ++ bytesL (m : Int) 1) ++ bytesL no 4) := hV
  have r5 := hW4.out.besides hK.2 r4 hne (by decide)
  have hB5 := hid (hB4.out.trans hK.1)
  have s5 := hB5.out.size
  replace hW5 := hid hW5
  clear hV hK hW4 r4 hB4 c0 c1 s4
  have c0 := held_cell r5 0 _ rfl
  have c1 := held_cell r5 1 _ rfl
  have hH : Hid (Wr Q w.heap.size V5 (hdr no m)) := hid (by rw [← hdr_parts]; exact hW5.out)
  have hHl := hdr_len no m
  have hHw := hid (hdr_wf no m)
  obtain ⟨H, hHe⟩ : ∃ H, hdr no m = H := ⟨_, rfl⟩
  rw [hHe] at hH hHl hr2 hHw
  clear hHe hW5
  replace hHl := hid hHl
  have nA := alloc_new V5 (.cells (recC 0 zer12) 33)
  have hA := nA.2.1
  have ra := nA.2.2
  have hHa := hid (hH.out.aft hA)
  have rb := held_after hA r5
  have hBa := hid (bthen hB5.out hA)
  have lQ5 := hH.out.lt
  have d9 : V5.heap.size ≠ Q := by omega
  clear lQ5
  have np : w.heap.size ≤ V5.heap.size := s5
  clear nA hA hH r5 hB5 c0 c1
  go_upto_region 10 with (fail)
  obtain ⟨W1, hW1⟩ : ∃ X, V5.alloc (.cells (recC 0 zer12) 33) = X := ⟨_, rfl⟩
  have hW1b : V5.alloc (.cells #[.int .u32 0, .int .i32 0, .int .i32 0, .int .i32 0, .int .i32 0, .int .i32 0, .int .i32 0, .int .i32 0, .int .i32 0, .int .i32 0, .int .i32 0, .int .i32 0, .int .i32 0] 33) = W1 := hW1
  try rw [hW1b]
  rw [hW1] at ra rb hHa hBa
  obtain ⟨pw, hpw⟩ : ∃ X, V5.heap.size = X := ⟨_, rfl⟩
  rw [hpw] at ra d9 np ⊢
  clear hW1 hW1b hpw s5
  have c0 := held_cell rb 0 _ rfl
  have c1 := held_cell rb 1 _ rfl
  replace rb := hid rb
  replace ra := hid ra
  go_wp2_with fail
  go_loopw [41] (fun ix wr => ∃ (k : Nat) (L : List Int) (T : Int) (v : List Int), k ≤ m ∧ ix = .int .i64 k ∧ Wr Q w.heap.size wr (H ++ L) ∧ Hid (entS (0, zer12) (l.take k) = L) ∧ L.length ≤ 68 * k ∧ Hid (lastR (0, zer12) (l.take k) = (T, v)) ∧ (0 ≤ T ∧ T ≤ 4294967295) ∧ Hid (v.length = 12 ∧ ∀ y ∈ v, -2147483648 ≤ y ∧ y ≤ 2147483647) ∧ wr.heap[pw]? = some (.cells (recC T v) 33 (0, 0)) ∧ Below w.heap.size w wr) (fun ix _ => m - (intOf ix).toNat)
  case atStart => exact ⟨0, [], 0, zer12, by omega, rfl, by rw [List.append_nil]; exact hHa.out, hid rfl, by simp, hid rfl, by omega, hid ⟨rfl, by intro y hy; simp [zer12] at hy; subst hy; decide⟩, ra.out, hBa.out⟩
  case round =>
    clear ra rb hHa hBa c0 c1
    obtain ⟨k, L, T, v, hk, rfl, hW, hn, hn68, hla, hT, hv, r0, hB⟩ := hrel
    have hzl : (H ++ L).length ≤ 1000000 := by rw [List.length_append, hHl.out]; omega
    replace hW := hid hW
    by_cases hlt : (k : Int) < m
    case neg =>
      obtain rfl : k = m := by omega
      have e : L = S := by rw [← hn.out, hall.out]
      subst e
      clear hn hall hla hv r0
      have sB := hB.size
      replace hB := hid hB
      have hHL := hid (show (H ++ L).length ≤ 254 by rw [List.length_append, hHl.out]; omega)
      have hwf := hid (show ∀ y ∈ H ++ L, (Lit.int .u8 y).wf = true from fun y hy => (List.mem_append.1 hy).elim (hHw.out y) (hewf.out y))
      obtain ⟨Z, hZ⟩ : ∃ Z, H ++ L = Z := ⟨_, rfl⟩
      rw [hZ] at hW hzl hHL hwf hr2
      clear hZ hewf hHw
      go_wp2_with fail
      refine (wbytes_good Q w.heap.size Z _ hzl hW.out).mono ?_
      rintro e V9 ⟨a9, c9, rfl, hO, hA⟩
      have hB9 := hid (bthen hB.out hA)
      have sl9 := hid hO.slf
      have s9 := hB9.out.size
      clear hO hA hB hW
      obtain ⟨zn, hzn⟩ : ∃ zn, Z.length = zn := ⟨_, rfl⟩
      rw [hzn] at sl9 hHL ⊢
      go_wp2_with fail
      refine (sealed_any a9 zn c9 Z _ hzn hHL.out sl9.out hwf.out).mono ?_
      rintro e V8 ⟨a8, c8, rfl, hO, hA⟩
      have hB8 := hid (bthen hB9.out hA)
      have hO8 := hid (hO.base s9)
      clear hO hA hB9
      obtain ⟨Y, hY⟩ : ∃ Y, crcSeal (fill Z) = Y := ⟨_, rfl⟩
      rw [hY] at hO8 hr2 ⊢
      clear hY
      go_wp2_with fail
      go_ret2
      rw [hr2.out]
      exact ⟨a8, c8, rfl, hO8.out, hB8.out⟩
    obtain ⟨x, hx⟩ : ∃ x, l[k]? = some x := ⟨_, List.getElem?_eq_getElem (show k < l.length by have := hm.out; omega)⟩
    have hxo := hl.out x (List.mem_of_getElem? hx)
    have hsn := hid (entS_snoc (0, zer12) (l.take k) x)
    have hls := hid (lastR_snoc (0, zer12) (l.take k) x)
    rw [← take_snocE hx] at hsn hls
    rw [hla.out, hn.out] at hsn
    have hll := layS_len (st := (T, v)) (x := x) hv.out.2 hxo
    obtain ⟨kb, u, bl⟩ := x
    obtain ⟨hu, hbl, hbb⟩ := hxo
    dsimp only at hu hbl hbb
    obtain ⟨b0, b1, b2, b3, b4, b5, b6, b7, b8, b9, b10, b11, rfl⟩ := list12 hbl
    obtain ⟨hvl, hvb⟩ := hv.out
    obtain ⟨a0, a1, a2, a3, a4, a5, a6, a7, a8, a9, a10, a11, rfl⟩ := list12 hvl
    have kL := hid (fun U => lay_any T u a0 a1 a2 a3 a4 a5 a6 a7 a8 a9 a10 a11 b0 b1 b2 b3 b4 b5 b6 b7 b8 b9 b10 b11 kb U hT hu hvb hbb)
    obtain ⟨bb, of2, hab, g0, g1, g2, g3, g4, g5, g6, g7, g8, g9, g10, g11, g12, g13⟩ := (hE.out.below hB).at14 (entsV_at hx)
    cases hab
    obtain ⟨LY, hLY⟩ : ∃ y, layS (T, [a0, a1, a2, a3, a4, a5, a6, a7, a8, a9, a10, a11]) (kb, u, [b0, b1, b2, b3, b4, b5, b6, b7, b8, b9, b10, b11]) = y := ⟨_, rfl⟩
    rw [hLY] at hsn hll kL
    clear hLY
    have hbo := hid (And.intro hbl hbb)
    have hn8 := hid (show (L ++ LY).length ≤ 68 * (k + 1) by rw [List.length_append]; omega)
    clear hvl hvb hbl hbb hla hv hn hx
    replace kL := hid kL
    have kz : (0 : Int) ≤ k := by omega
    have wk : IntKind.i64.wrap ((k : Int) + 1) = (k : Int) + 1 := by rw [IntKind.wrap_i64]; omega
    have hk1 := hid (show k + 1 ≤ m by omega)
    have sB := hB.size
    have l0 := held_lt r0
    have lQ := hW.out.lt
    have nA := alloc_new wr (.cells #[.bool kb, .int .u32 u, .int .i32 b0, .int .i32 b1, .int .i32 b2, .int .i32 b3, .int .i32 b4, .int .i32 b5, .int .i32 b6, .int .i32 b7, .int .i32 b8, .int .i32 b9, .int .i32 b10, .int .i32 b11] 57)
    have hA := nA.2.1
    have rx := nA.2.2
    have d7 : wr.heap.size ≠ Q := by omega
    have r1 : _ := held_after hA (show wr.heap[pw]? = some (.cells #[.int .u32 T, .int .i32 a0, .int .i32 a1, .int .i32 a2, .int .i32 a3, .int .i32 a4, .int .i32 a5, .int .i32 a6, .int .i32 a7, .int .i32 a8, .int .i32 a9, .int .i32 a10, .int .i32 a11] 33 (0, 0)) from r0)
    have hB1 := hid (bthen hB hA)
    have hW1 := hid (hW.out.aft hA)
    have d8 : pw ≠ wr.heap.size := by omega
    clear nA hA r0 hB hk hW
    go_upto_region 13 with (fail)
    obtain ⟨W1, hWe⟩ : ∃ X, wr.alloc (.cells #[.bool kb, .int .u32 u, .int .i32 b0, .int .i32 b1, .int .i32 b2, .int .i32 b3, .int .i32 b4, .int .i32 b5, .int .i32 b6, .int .i32 b7, .int .i32 b8, .int .i32 b9, .int .i32 b10, .int .i32 b11] 57) = X := ⟨_, rfl⟩
    obtain ⟨px, hpx⟩ : ∃ X, wr.heap.size = X := ⟨_, rfl⟩
    rw [hWe] at rx r1 hB1 hW1 ⊢
    rw [hpx] at rx d7 d8 ⊢
    clear hWe hpx l0 sB lQ g0 g1 g2 g3 g4 g5 g6 g7 g8 g9 g10 g11 g12 g13
    have c0 := held_cell r1 0 _ rfl
    have c1 := held_cell r1 1 _ rfl
    have c2 := held_cell r1 2 _ rfl
    have c3 := held_cell r1 3 _ rfl
    have c4 := held_cell r1 4 _ rfl
    have c5 := held_cell r1 5 _ rfl
    have c6 := held_cell r1 6 _ rfl
    have c7 := held_cell r1 7 _ rfl
    have c8 := held_cell r1 8 _ rfl
    have c9 := held_cell r1 9 _ rfl
    have c10 := held_cell r1 10 _ rfl
    have c11 := held_cell r1 11 _ rfl
    have c12 := held_cell r1 12 _ rfl
    have x0 := held_cell rx 0 _ rfl
    have x1 := held_cell rx 1 _ rfl
    have x2 := held_cell rx 2 _ rfl
    have x3 := held_cell rx 3 _ rfl
    have x4 := held_cell rx 4 _ rfl
    have x5 := held_cell rx 5 _ rfl
    have x6 := held_cell rx 6 _ rfl
    have x7 := held_cell rx 7 _ rfl
    have x8 := held_cell rx 8 _ rfl
    have x9 := held_cell rx 9 _ rfl
    have x10 := held_cell rx 10 _ rfl
    have x11 := held_cell rx 11 _ rfl
    have x12 := held_cell rx 12 _ rfl
    have x13 := held_cell rx 13 _ rfl
    replace r1 := hid r1
    replace rx := hid rx
    go_wp2_with fail
    refine (kL.out _).mono ?_
    rintro e V ⟨qa, qc, rfl, hO, hA⟩
    have r2 := held_after hA r1.out
    have rx2 := held_after hA rx.out
    have hB2 := hid (bthen hB1.out hA)
    have hW2 := hid (hW1.out.aft hA)
    have hS2 := hid hO.slf
    have s2 := hB2.out.size
    clear hO hA hB1 hW1 r1 rx kL c0 c1 c2 c3 c4 c5 c6 c7 c8 c9 c10 c11 c12 x0 x1 x2 x3 x4 x5 x6 x7 x8 x9 x10 x11 x12 x13
    replace r2 := hid r2
    replace rx2 := hid rx2
    obtain ⟨yn, hyn⟩ : ∃ yn, LY.length = yn := ⟨_, rfl⟩
    rw [hyn] at hS2 hll ⊢
    replace hyn := hid hyn
    go_wp2_with fail
    refine (wraw_good Q w.heap.size w.heap.size (H ++ L) LY qa yn qc _ hW2.out hzl hS2.out (by omega) hBw (Nat.le_refl _) s2).mono ?_
    rintro e V7 ⟨rfl, hW7, hK⟩
    have r7 := hW2.out.besides hK.2 r2.out d9 (by decide)
    have rx7 := hW2.out.besides hK.2 rx2.out d7 (by decide)
    have hB7 := hid (hB2.out.trans hK.1)
    clear hK hW2 hB2 r2 rx2 hS2 s2
    rw [List.append_assoc] at hW7
    obtain ⟨L2, hL2⟩ : ∃ z, L ++ LY = z := ⟨_, rfl⟩
    have hsn2 := hsn.out
    have hn82 := hn8.out
    rw [hL2] at hW7 hsn2 hn82
    replace hW7 := hid hW7
    clear hsn hn8 hL2
    have x0 := held_cell rx7 0 _ rfl
    have x1 := held_cell rx7 1 _ rfl
    have x2 := held_cell rx7 2 _ rfl
    have x3 := held_cell rx7 3 _ rfl
    have x4 := held_cell rx7 4 _ rfl
    have x5 := held_cell rx7 5 _ rfl
    have x6 := held_cell rx7 6 _ rfl
    have x7 := held_cell rx7 7 _ rfl
    have x8 := held_cell rx7 8 _ rfl
    have x9 := held_cell rx7 9 _ rfl
    have x10 := held_cell rx7 10 _ rfl
    have x11 := held_cell rx7 11 _ rfl
    have x12 := held_cell rx7 12 _ rfl
    have x13 := held_cell rx7 13 _ rfl
    have y0 := held_cell r7 0 _ rfl
    have y1 := held_cell r7 1 _ rfl
    have y2 := held_cell r7 2 _ rfl
    have y3 := held_cell r7 3 _ rfl
    have y4 := held_cell r7 4 _ rfl
    have y5 := held_cell r7 5 _ rfl
    have y6 := held_cell r7 6 _ rfl
    have y7 := held_cell r7 7 _ rfl
    have y8 := held_cell r7 8 _ rfl
    have y9 := held_cell r7 9 _ rfl
    have y10 := held_cell r7 10 _ rfl
    have y11 := held_cell r7 11 _ rfl
    have y12 := held_cell r7 12 _ rfl
    have f0 := held_free r7 0
    have f1 := held_free r7 1
    have f2 := held_free r7 2
    have f3 := held_free r7 3
    have f4 := held_free r7 4
    have f5 := held_free r7 5
    have f6 := held_free r7 6
    have f7 := held_free r7 7
    have f8 := held_free r7 8
    have f9 := held_free r7 9
    have f10 := held_free r7 10
    have f11 := held_free r7 11
    have f12 := held_free r7 12
    obtain ⟨W4, hW4, ya, yO⟩ := st13 r7 (.int .u32 u) (.int .i32 b0) (.int .i32 b1) (.int .i32 b2) (.int .i32 b3) (.int .i32 b4) (.int .i32 b5) (.int .i32 b6) (.int .i32 b7) (.int .i32 b8) (.int .i32 b9) (.int .i32 b10) (.int .i32 b11)
    have ya2 := hid (show W4.heap[pw]? = some (.cells (recC u [b0, b1, b2, b3, b4, b5, b6, b7, b8, b9, b10, b11]) 33 (0, 0)) from ya)
    have hB4 := hid (belowS hB7.out yO np)
    have hW4b := hid (hW7.out.kept2 r7 d9 (by decide) yO)
    clear ya yO r7 rx7 hB7 hW7
    replace hsn2 := hid hsn2
    replace hn82 := hid hn82
    go_wp2_with fail
    go_roundw
    case rel => exact ⟨k + 1, L2, u, [b0, b1, b2, b3, b4, b5, b6, b7, b8, b9, b10, b11], hk1.out, by simp, hW4b.out, hsn2, hn82.out, hls, hu, hbo, ya2.out, hB4.out⟩
    case measure => simp [intOf]; omega

end Go.Proofs.Ytkpncailoekjpaa
