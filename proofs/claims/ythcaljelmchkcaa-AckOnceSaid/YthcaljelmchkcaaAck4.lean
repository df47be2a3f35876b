/- Package ack's book: place, Hear. -/
import Derived.Test.YthcaljelmchkcaaAck3
import Derived.Test.YthcaljelmchkcaaKA
import Derived.Laws.OwnMore
import Derived.Deep.DeepCutAuto
namespace Go.Proofs.Ythcaljelmchkcaa
open Go.ChangeShapes Go.WideShapes Go.ChangeAt Go.RowKit
set_option linter.unusedVariables false
set_option linter.unusedSimpArgs false

theorem flat_take {m : Nat} : ∀ (l : List (List Value)) (k : Nat), (∀ x ∈ l, x.length = m) → l.flatten.take (k * m) = (l.take k).flatten
  | [], k, _ => by simp
  | x :: l, 0, _ => by simp
  | x :: l, k + 1, h => by
    have hx := h x (by simp)
    rw [List.flatten_cons, List.take_succ_cons, List.flatten_cons, List.take_append, hx, List.take_of_length_le (by rw [hx, Nat.add_mul]; omega), show (k + 1) * m - m = k * m from by rw [Nat.add_mul]; omega, flat_take l k (fun y hy => h y (by simp [hy]))]
/-- The first k of a slice of one's own, with no more room than that. -/
theorem OwnE.pre {E : TypeId} {w : World} {base m : Nat} {g n cap : Nat} {xs : List (List Value)} (h : OwnE E w base m (.slice (some ⟨g, 0, none⟩) n cap) n xs.flatten) (hm : ∀ x ∈ xs, x.length = m) (hn : xs.length = n) (k : Nat) (hk : k ≤ n) : OwnE E w base m (.slice (some ⟨g, 0, none⟩) k k) k (xs.take k).flatten := by
  rcases h.2 with ⟨h1, _⟩ | ⟨g', cap', cur, h1, h2, h3, h4, h5, h6, h7⟩
  · cases h1
  · cases h1
    refine ⟨?_, .inr ⟨g, k, cur, rfl, h2, h3, Nat.le_refl _, by omega, Nat.le_trans (Nat.mul_le_mul_right _ (by omega)) h6, ?_⟩⟩
    · rw [← flat_take xs k hm, List.length_take, h.1]
      exact Nat.min_eq_left (Nat.mul_le_mul_right _ hk)
    · rw [← flat_take xs k hm, ← h7, List.take_take, Nat.min_eq_left (Nat.mul_le_mul_right _ hk)]
theorem rx_grew {w w' : World} {r : Option Nat} (h : w.grownBy w' r) : RX r w w' := ⟨h.size, fun k h1 h2 => h.block k h1 h2⟩
def plS (l : List (Int × Int)) (c i : Int) : Int := if placeS l c i < l.length then (placeS l c i : Int) else -1
set_option maxRecDepth 100000 in
set_option maxHeartbeats 4000000 in
theorem place_any (base p : Nat) (l : List (Int × Int)) (y n o : Int) (b : Bool) (c i : Int) (w : World) (hk : BookAt w base p l y n o) (hl : l.length ≤ 16) : Calls Try.prog 31 #[.pointer (some ⟨p, 0, none⟩), .agg #[.bool b, .int .i64 c, .int .i64 i]] w fun e w' => e = .returned (.int .i64 (plS l c i)) ∧ After w w' := by
  obtain ⟨a, cap, hp, hO⟩ := hk
  have hE := hid (hO.els (by simp [acksV]) (acksV_m l))
  clear hO
  go_enter Try.func31, Try.ntmps31
  go_upto_region 0 with (fail)
  apply wp_region_seg0 (w := w) (S := [.al 1000, .q []]) (E := [.al ((fun p => .pointer (some ⟨p, 0, none⟩)), _) 1000, .q0 _]) rfl (by kernel_rfl) rfl rfl
  intro th hge hne
  refine Seg.step _ rfl ⟨by rfl, fun U hU => ?_⟩ ?_
  · go_simp; exact vp_alloc rfl rfl rfl
  refine ⟨_, by (simp only [Ent.val]; go_simp <;> exact rfl), ?_⟩
  refine Seg.step _ rfl (Or.inl ⟨by rfl, fun U hU => vp_quiet (by (go_simp <;> exact rfl))⟩) ⟨_, by (simp only [Ent.val]; go_simp <;> exact rfl), ?_⟩
  refine Seg.stop (fun U1 hU hk => ?_)
  have nb0 := hge 0 _ _ rfl
  have rb0 := (hk 0 _ _ rfl trivial).1.2 (by simp)
  clear hk hge hne
  generalize th (0 + 0) = p0_0 at *
  dsimp only at rb0
  replace hp := held_after hU hp
  have r_p0_0 := rb0
  clear rb0
  have n_p0_0 := nb0
  clear nb0
  have sz1 := hU.size
  have hB : Below w.heap.size w U1 := hU
  clear hU
  go_upto_region 1 with (fail)
  apply wp_region_seg0 (w := U1) (S := [.q [], .q [], .q [], .q [], .q [], .al 6, .st 5 []]) (E := [.q0 _, .q0 _, .q0 _, .q0 _, .q0 _, .al ((fun p => .pointer (some ⟨p, 0, none⟩)), _) 6, .s0 5 (.cells _ _)]) rfl (by kernel_rfl) rfl rfl
  intro th hge hne
  refine Seg.step _ rfl (Or.inl ⟨by rfl, fun U hU => vp_quiet (by (go_simp <;> exact rfl))⟩) ⟨_, by (simp only [Ent.val]; go_simp <;> exact rfl), ?_⟩
  refine Seg.step _ rfl (Or.inl ⟨by rfl, fun U hU => vp_quiet (by (have h0 := held_cell (held_after hU.1 r_p0_0) 1 _ rfl; go_simp <;> exact rfl))⟩) ⟨_, by (simp only [Ent.val]; go_simp <;> exact rfl), ?_⟩
  refine Seg.step _ rfl (Or.inl ⟨by rfl, fun U hU => vp_quiet (by (go_simp <;> exact rfl))⟩) ⟨_, by (simp only [Ent.val]; go_simp <;> exact rfl), ?_⟩
  refine Seg.step _ rfl (Or.inl ⟨by rfl, fun U hU => vp_quiet (by (have h0 := held_cell (held_after hU.1 r_p0_0) 2 _ rfl; go_simp <;> exact rfl))⟩) ⟨_, by (simp only [Ent.val]; go_simp <;> exact rfl), ?_⟩
  refine Seg.step _ rfl (Or.inl ⟨by rfl, fun U hU => vp_quiet (by (go_simp <;> exact rfl))⟩) ⟨_, by (simp only [Ent.val]; go_simp <;> exact rfl), ?_⟩
  refine Seg.step _ rfl ⟨by rfl, fun U hU => ?_⟩ ?_
  · go_simp; exact vp_alloc rfl rfl rfl
  refine ⟨_, by (simp only [Ent.val]; go_simp <;> exact rfl), ?_⟩
  refine Seg.step _ rfl ⟨by rfl, fun U z k hz hU hc => ?_⟩ ?_
  · have hz2 := Option.some.inj hz
    cases hz2; clear hz
    exact vp_store_agg _ _ _ rfl hc rfl rfl (by kernel_rfl) rfl (by rfl)
  refine ⟨_, by (simp only [Ent.val]; go_simp <;> exact rfl), ?_⟩
  refine Seg.stop (fun U2 hU hk => ?_)
  have nb5 := hge 5 _ _ rfl
  have rb5 := (hk 5 _ 6 rfl trivial).1.1 trivial _ (Nat.zero_le _) rfl
  clear hk hge hne
  generalize th (0 + 5) = p1_5 at *
  simp only [Ent.obj] at rb5
  replace hp := held_after hU hp
  replace r_p0_0 := held_after hU r_p0_0
  have r_p1_5 := rb5
  clear rb5
  have n_p1_5 := nb5
  clear nb5
  have sz2 := hU.size
  replace hB := bthen hB hU
  clear hU
  have c0 := held_cell hp 0 _ rfl
  have c1 := held_cell hp 1 _ rfl
  have c2 := held_cell hp 2 _ rfl
  have c3 := held_cell hp 3 _ rfl
  have c4 := held_cell hp 4 _ rfl
  have lt5 := held_lt r_p1_5
  replace hE := hid (hE.out.below hB)
  replace hp := hid hp
  replace r_p1_5 := hid r_p1_5
  replace hB := hid hB
  have hl2 : (l.length : Int) ≤ 16 := by omega
  clear r_p0_0 n_p0_0 n_p1_5
  go_wp2_with fail
  go_loopw [18] (fun ix wr => ∃ k : Nat, k ≤ placeS l c i ∧ ix = .int .i64 k ∧ After U2 wr) (fun ix _ => l.length - (intOf ix).toNat)
  case atStart => exact ⟨0, by omega, rfl, After.refl _⟩
  case round =>
    obtain ⟨k, hk, rfl, hA⟩ := hrel
    have hpl := placeS_le l c i
    have hkl : k ≤ l.length := by omega
    have r5 := hid (held_after hA r_p1_5.out)
    have hB2 := hid (bthen hB.out hA)
    have hE2 := hid (hE.out.below hA)
    have lt6 := held_lt r5.out
    clear hE hB r_p1_5
    by_cases hlt : (k : Int) < l.length
    case neg =>
      have ek : plS l c i = -1 := by unfold plS; rw [if_neg (by omega)]
      replace ek := hid ek
      clear hk hpl
      go_wp2_with fail
      go_ret
      exact ⟨by rw [ek.out]; rfl, hB2.out⟩
    obtain ⟨x, hx⟩ : ∃ x, l[k]? = some x := ⟨_, List.getElem?_eq_getElem (show k < l.length by omega)⟩
    obtain ⟨bb, off, rfl, g0, g1, g2⟩ := hE2.out.at3 (acksV_at hx)
    have kz : (0 : Int) ≤ k := by omega
    have z0 : ∀ X : Obj, (wr.alloc X).cell? ⟨p1_5, 0, none⟩ = some (.bool false) := fun X => held_cell (held_after ((Below.refl _ wr).alloc (Nat.le_refl _) X) r5.out) 0 _ rfl
    have z1 : ∀ X : Obj, (wr.alloc X).cell? ⟨p1_5, 1, none⟩ = some (.int .i64 c) := fun X => held_cell (held_after ((Below.refl _ wr).alloc (Nat.le_refl _) X) r5.out) 1 _ rfl
    have z2 : ∀ X : Obj, (wr.alloc X).cell? ⟨p1_5, 2, none⟩ = some (.int .i64 i) := fun X => held_cell (held_after ((Below.refl _ wr).alloc (Nat.le_refl _) X) r5.out) 2 _ rfl
    have hb3 := fun X : Obj => (show After w (wr.alloc X) from balloc hB2.out (Nat.le_refl _) X)
    replace hb3 := hid hb3
    by_cases hkp : k = placeS l c i
    · have hxx := placeS_yes (hkp ▸ hx)
      have ek : plS l c i = k := by unfold plS; rw [if_pos (by omega), ← hkp]
      replace ek := hid ek
      have q1 : (x.1 == c) = true := by simp [hxx.1]
      have q2 : (x.2 == i) = true := by simp [hxx.2]
      obtain ⟨x1, x2⟩ := x
      dsimp only at g1 g2 q1 q2
      clear hxx hk hpl hkp hx
      go_wp2_with fail
      go_ret
      exact ⟨by rw [ek.out]; rfl, hb3.out _⟩
    · have hxx := placeS_no (show k < placeS l c i by omega) hx
      have hk1 : k + 1 ≤ placeS l c i := by omega
      replace hk1 := hid hk1
      obtain ⟨x1, x2⟩ := x
      dsimp only at g1 g2 hxx
      clear hk hpl hkp hx
      cases q1 : (x1 == c)
      · go_wp2_with fail
        go_roundw
        case rel => exact ⟨k + 1, hk1.out, by simp, balloc hA (Nat.le_refl _) _⟩
        case measure => simp [intOf]; omega
      · have q2 : (x2 == i) = false := by rw [q1] at hxx; simpa using hxx
        clear hxx
        go_wp2_with fail
        go_roundw
        case rel => exact ⟨k + 1, hk1.out, by simp, balloc hA (Nat.le_refl _) _⟩
        case measure => simp [intOf]; omega
set_option maxRecDepth 100000 in
set_option maxHeartbeats 8000000 in
theorem hear_any (base p : Nat) (s : St) (b : Bool) (c i : Int) (w : World) (hk : BookAt w base p s.l s.y s.n s.o) (hl : s.l.length ≤ 16) (hb : base ≤ p) (hc : 0 ≤ s.y ∧ s.y ≤ 1000 ∧ 0 ≤ s.n ∧ s.n ≤ 1000 ∧ 0 ≤ s.o ∧ s.o ≤ 1000) : Calls Try.prog 16 #[.pointer (some ⟨p, 0, none⟩), .agg #[.bool b, .int .i64 c, .int .i64 i]] w fun e w' => e = .returned (.bool (hearS s b c i).2) ∧ BookAt w' base p (hearS s b c i).1.l (hearS s b c i).1.y (hearS s b c i).1.n (hearS s b c i).1.o ∧ BookEff base p w w' := by
  obtain ⟨l, y, n, o⟩ := s
  dsimp only at hk hl hc
  obtain ⟨y1, y2, n1, n2, o1, o2⟩ := hc
  have hk0 := hid hk
  obtain ⟨a, cap, hp, hO⟩ := hk
  have lp := held_lt hp
  have hgw := hid (fun g e => (hO.lt g e).2.1)
  replace hO := hid hO
  have kr := hid (fun W h => right_at p true (.slice a l.length cap) y n o W h)
  have kp := hid (fun W h => place_any base p l y n o b c i W h hl)
  have hl2 : (l.length : Int) ≤ 16 := by omega
  have bs : base ≤ w.heap.size := by omega
  go_enter Try.func16, Try.ntmps16
  go_upto_region 0 with (fail)
  apply wp_region_seg0 (w := w) (S := [.al 1000, .q []]) (E := [.al ((fun p => .pointer (some ⟨p, 0, none⟩)), _) 1000, .q0 _]) rfl (by kernel_rfl) rfl rfl
  intro th hge hne
  refine Seg.step _ rfl ⟨by rfl, fun U hU => ?_⟩ ?_
  · go_simp; exact vp_alloc rfl rfl rfl
  refine ⟨_, by (simp only [Ent.val]; go_simp <;> exact rfl), ?_⟩
  refine Seg.step _ rfl (Or.inl ⟨by rfl, fun U hU => vp_quiet (by (go_simp <;> exact rfl))⟩) ⟨_, by (simp only [Ent.val]; go_simp <;> exact rfl), ?_⟩
  refine Seg.stop (fun U1 hU hk => ?_)
  have nb0 := hge 0 _ _ rfl
  have rb0 := (hk 0 _ _ rfl trivial).1.2 (by simp)
  clear hk hge hne
  generalize th (0 + 0) = p0_0 at *
  dsimp only at rb0
  have df_p_p0_0 : p ≠ p0_0 := by have := held_lt hp; omega
  replace hp := held_after hU hp
  have r_p0_0 := rb0
  clear rb0
  have n_p0_0 := nb0
  clear nb0
  have sz1 := hU.size
  have hB : Below w.heap.size w U1 := hU
  clear hU
  have dp : p0_0 ≠ p := fun e => df_p_p0_0 e.symm
  have hk1 := hid (show BookAt U1 base p l y n o from ⟨a, cap, hp, hO.out.below hB⟩)
  have hO1 := hid (hO.out.below hB)
  have ef1 := hid (BookEff.after (base := base) (p := p) bs lp hB)
  clear hO hk0
  replace hp := hid hp
  have sB := hB.size
  clear hB
  go_wp2_with fail
  refine (kr.out _ hp.out).mono ?_
  rintro e V0 ⟨rfl, hv⟩
  obtain rfl : U1 = V0 := hv.symm
  clear hv
  have b0 := held_cell r_p0_0 0 _ rfl
  have b1 := held_cell r_p0_0 1 _ rfl
  have b2 := held_cell r_p0_0 2 _ rfl
  go_wp2_with fail
  refine (kp.out _ hk1.out).mono ?_
  rintro e V ⟨rfl, hst⟩
  have hp2 := held_onq hp.out hst
  have r2 := held_onq r_p0_0 hst
  have hO2 := hid (hO1.out.below hst)
  have ef2 := hid (ef1.out.trans (BookEff.after (base := base) (p := p) (by omega) (held_lt hp.out) hst))
  have sV := hst.size
  clear hO1 hk1 hst b0 b1 b2 hp ef1 r_p0_0
  have lp2 := held_lt hp2
  have c0 := held_cell hp2 0 _ rfl
  have c1 := held_cell hp2 1 _ rfl
  have c2 := held_cell hp2 2 _ rfl
  have c3 := held_cell hp2 3 _ rfl
  have c4 := held_cell hp2 4 _ rfl
  by_cases hpl : placeS l c i < l.length
  case neg =>
    have e : hearS ⟨l, y, n, o⟩ b c i = (⟨l, y, n, o + 1⟩, false) := by unfold hearS; rw [if_neg hpl]
    replace e := hid e
    have ek : plS l c i = -1 := by unfold plS; rw [if_neg hpl]
    rw [ek]
    clear ek
    have f4 := held_free hp2 4
    have w4 : IntKind.i64.wrap (o + 1) = o + 1 := by rw [IntKind.wrap_i64]; omega
    obtain ⟨S1, hS1, s1, q1⟩ := st1 hp2 4 (.int .i64 (o + 1))
    have hfin : BookAt S1 base p l y n (o + 1) := ⟨a, cap, s1, hO2.out.kept (fun g hg => q1.block g (fun e => by subst e; exact (hO2.out.ne hp2 (by decide)) hg))⟩
    have hef : BookEff base p w S1 := ef2.out.trans ⟨⟨q1.os, q1.tape, q1.output, by rw [q1.size]; exact Nat.le_refl _, fun k hk => q1.block k (by omega)⟩, by rw [← hS1]; exact Owp.cell hp2 (by decide) (by simp)⟩
    replace hfin := hid hfin
    replace hef := hid hef
    clear q1 s1 ef2 hO2 r2
    replace hp2 := hid hp2
    go_wp2_with fail
    go_ret
    rw [e.out]
    exact ⟨rfl, hfin.out, hef.out⟩
  obtain ⟨k, hkk⟩ : ∃ k, placeS l c i = k := ⟨_, rfl⟩
  rw [hkk] at hpl
  have e : hearS ⟨l, y, n, o⟩ b c i = (⟨l.eraseIdx k, if b then y + 1 else y, if b then n else n + 1, o⟩, true) := by unfold hearS; dsimp only; rw [hkk, if_pos hpl]
  replace e := hid e
  have ek : plS l c i = k := by unfold plS; rw [hkk, if_pos hpl]
  rw [ek]
  clear ek hkk
  obtain ⟨g, rfl⟩ : ∃ g, a = some ⟨g, 0, none⟩ := by
    rcases hO2.out.2 with ⟨h1, h2⟩ | ⟨g, c9, cur, h1, _⟩
    · omega
    · cases h1; exact ⟨g, rfl⟩
  have hgl : g < p0_0 := Nat.lt_of_lt_of_le (hgw.out g rfl) n_p0_0
  have hgp : g ≠ p := fun e => by subst e; exact hO2.out.ne hp2 (by decide) rfl
  have hg0 : base ≤ g := (hO2.out.lt g rfl).1
  have hE2 := hO2.out.els (by simp [acksV]) (acksV_m l)
  have hcap := hE2.2.1
  have hcm := hE2.2.2.1
  have hmm : maxLen ≤ 9223372036854775807 := by decide
  have hpre := hid ((hO2.out.pre (acksV_m l) (by simp [acksV]) k (by omega)).drewN 1)
  have hdr := hid ((hE2.drop (k + 1) (by omega)).drewN 1)
  clear hE2
  have kz : (0 : Int) ≤ k := by omega
  have kz1 : (0 : Int) ≤ (k : Int) + 1 := by omega
  have w5 : IntKind.i64.wrap ((k : Int) + 1) = (k : Int) + 1 := by rw [IntKind.wrap_i64]; omega
  have t5 : ((k : Int) + 1).toNat = k + 1 := by omega
  have k5 : (k : Int) + 1 ≤ l.length := by omega
  have k6 : (k : Int) ≤ cap := by omega
  have k8 : (k : Int) ≤ (k : Int) + 1 := by omega
  have k7 : (k : Int) < l.length := by omega
  go_wp2_with fail
  have rq := (show V.drew.heap[p]? = _ from hp2)
  have r3 := (show V.drew.heap[p0_0]? = _ from r2)
  have hpre2 := hid (show OwnE _ V.drew _ _ _ _ _ from hpre.out)
  have hdr2 := hid (show Els V.drew _ _ _ _ _ from hdr.out)
  have sq := (show V.drew.heap.size = V.heap.size from rfl)
  have ef3 := hid (ef2.out.trans (⟨(Below.refl _ _).drew, Owp.drew⟩ : BookEff base p V V.drew))
  have lpq := held_lt rq
  have l3q := held_lt r3
  clear hpre hdr hp2 r2 ef2 c0 c1 c2 c3 c4 hO2
  have hgne : some p ≠ some g := fun e => hgp (Option.some.inj e).symm
  by_cases hce : cap = k + 1
  · subst hce
    have hys : Els V.drew 3 (some ⟨g, 0, none⟩) 0 0 ((acksV l).drop (k + 1)) := by
      have h1 : (acksV l).drop (k + 1) = [] := List.drop_of_length_le (by simp [acksV]; omega)
      rw [h1]; exact ⟨by simp, by omega, by omega, (fun e => by cases e), fun i x hx => by simp at hx⟩
    replace hys := hid hys
    replace hdr2 := hys
    refine wp_region_T (some g) 18 (by kernel_rfl) ?_
    refine wpAnyT_take 0 rfl (by kernel_rfl) (by kernel_rfl) (by kernel_rfl) (by kernel_rfl) (fun _ _ _ _ h => h) ⟨_, Or.inl ⟨by rfl, fun w2 hb2 => by (go_simp; try with_reducible rfl)⟩, _, by (go_simp; try rfl), ?_⟩
    refine wpAnyT_take 1 rfl (by kernel_rfl) (by kernel_rfl) (by kernel_rfl) (by kernel_rfl) (fun _ _ _ _ h => h) ⟨_, Or.inl ⟨by rfl, fun w2 hb2 => by (go_simp; try with_reducible rfl)⟩, _, by (go_simp; try rfl), ?_⟩
    refine wpAnyT_take 2 rfl (by kernel_rfl) (by kernel_rfl) (by kernel_rfl) (by kernel_rfl) (fun _ _ _ _ h => h) ⟨_, Or.inl ⟨by rfl, fun w2 hb2 => by (go_simp; try with_reducible rfl)⟩, _, by (go_simp; try rfl), ?_⟩
    refine wpAnyT_take 3 rfl (by kernel_rfl) (by kernel_rfl) (by kernel_rfl) (by kernel_rfl) (fun _ _ _ _ h => h) ⟨_, Or.inl ⟨by rfl, fun w2 hb2 => by (go_simp; try with_reducible rfl)⟩, _, by (go_simp; try rfl), ?_⟩
    refine wpAnyT_take 4 rfl (by kernel_rfl) (by kernel_rfl) (by kernel_rfl) (by kernel_rfl) (fun _ _ _ _ h => h) ⟨_, Or.inl ⟨by rfl, fun w2 hb2 => by (have hx := held_cell (hb2.held rq hgne) 1 _ rfl; go_simp; try with_reducible rfl)⟩, _, by (go_simp; try rfl), ?_⟩
    refine wpAnyT_take 5 rfl (by kernel_rfl) (by kernel_rfl) (by kernel_rfl) (by kernel_rfl) (fun _ _ _ _ h => h) ⟨_, Or.inl ⟨by rfl, fun w2 hb2 => by (go_simp; try with_reducible rfl)⟩, _, by (go_simp; try rfl), ?_⟩
    refine wpAnyT_take 6 rfl (by kernel_rfl) (by kernel_rfl) (by kernel_rfl) (by kernel_rfl) (fun _ _ _ _ h => h) ⟨_, Or.inl ⟨by rfl, fun w2 hb2 => by (go_simp; try with_reducible rfl)⟩, _, by (go_simp; try rfl), ?_⟩
    refine wpAnyT_take 7 rfl (by kernel_rfl) (by kernel_rfl) (by kernel_rfl) (by kernel_rfl) (fun _ _ _ _ h => h) ⟨_, Or.inl ⟨by rfl, fun w2 hb2 => by (go_simp; try with_reducible rfl)⟩, _, by (go_simp; try rfl), ?_⟩
    refine wpAnyT_take 8 rfl (by kernel_rfl) (by kernel_rfl) (by kernel_rfl) (by kernel_rfl) (fun _ _ _ _ h => h) ⟨_, Or.inl ⟨by rfl, fun w2 hb2 => by (go_simp; try with_reducible rfl)⟩, _, by (go_simp; try rfl), ?_⟩
    refine wpAnyT_take 9 rfl (by kernel_rfl) (by kernel_rfl) (by kernel_rfl) (by kernel_rfl) (fun _ _ _ _ h => h) ⟨_, Or.inl ⟨by rfl, fun w2 hb2 => by (go_simp; try with_reducible rfl)⟩, _, by (go_simp; try rfl), ?_⟩
    refine wpAnyT_take 10 rfl (by kernel_rfl) (by kernel_rfl) (by kernel_rfl) (by kernel_rfl) (fun _ _ _ _ h => h) ⟨_, Or.inl ⟨by rfl, fun w2 hb2 => by (go_simp; try with_reducible rfl)⟩, _, by (go_simp; try rfl), ?_⟩
    refine wpAnyT_take 11 rfl (by kernel_rfl) (by kernel_rfl) (by kernel_rfl) (by kernel_rfl) (fun _ _ _ _ h => h) ⟨_, Or.inl ⟨by rfl, fun w2 hb2 => by (have hx := held_cell (hb2.held rq hgne) 1 _ rfl; go_simp; try with_reducible rfl)⟩, _, by (go_simp; try rfl), ?_⟩
    refine wpAnyT_take 12 rfl (by kernel_rfl) (by kernel_rfl) (by kernel_rfl) (by kernel_rfl) (fun _ _ _ _ h => h) ⟨_, Or.inl ⟨by rfl, fun w2 hb2 => by (go_simp; try with_reducible rfl)⟩, _, by (go_simp; try rfl), ?_⟩
    refine wpAnyT_take 13 rfl (by kernel_rfl) (by kernel_rfl) (by kernel_rfl) (by kernel_rfl) (fun _ _ _ _ h => h) ⟨_, Or.inl ⟨by rfl, fun w2 hb2 => by (go_simp; try with_reducible rfl)⟩, _, by (go_simp; try rfl), ?_⟩
    refine wpAnyT_take 14 rfl (by kernel_rfl) (by kernel_rfl) (by kernel_rfl) (by kernel_rfl) (fun _ _ _ _ h => h) ⟨_, Or.inl ⟨by rfl, fun w2 hb2 => by (go_simp; try with_reducible rfl)⟩, _, by (go_simp; try rfl), ?_⟩
    refine wpAnyT_only 15 rfl (by kernel_rfl) (by rfl) (fun K hK => ?_)
    refine wp_appE (.tmp 28) (.tmp 35) 36 rfl base 23 3 24 ackO (by decide) (.slice (some ⟨g, 0, none⟩) k k) k ((acksV l).take k).flatten rfl hpre2.out _ 0 _ ((acksV l).drop (k + 1)) rfl hdr2.out (fun y hy => acksV_1 l y (List.mem_of_mem_drop hy)) (by unfold maxLen; omega) (by omega) (by omega) ?_
    intro a9 c9 W9 hO9 hG9 hN9
    replace hO9 : OwnE _ W9 base 3 (.slice a9 k c9) k _ := hO9
    refine hK _ _ ⟨fun _ => rx_grew hG9, ?_⟩
    clear hK
    have hp9 := (hG9.block p lpq (fun e => hgne e)).trans rq
    have r9 := (hG9.block p0_0 l3q (fun e => by have e2 : p0_0 = g := Option.some.inj e; omega)).trans r3
    have z0 := held_cell hp9 1 _ rfl
    have z1 := held_free hp9 1
    obtain ⟨S1, hS1, s1, q1⟩ := st1 hp9 1 (.slice a9 k c9)
    refine wpAnyT_takeP 16 rfl (by kernel_rfl) (by kernel_rfl) (by kernel_rfl) (fun _ _ _ _ h => h) ⟨_, Or.inl ⟨by rfl, fun w2 _ => by (go_simp; try with_reducible rfl)⟩, _, by (go_simp; try rfl), ?_⟩
    refine wpAnyT_take 17 rfl (by kernel_rfl) (by kernel_rfl) (by kernel_rfl) (by kernel_rfl) (fun _ _ _ _ h => h) ⟨_, Or.inl ⟨by rfl, fun w2 hb2 => by (go_simp; try with_reducible rfl)⟩, _, by (go_simp; try rfl), ?_⟩
    refine wpAnyT_only 18 rfl (by kernel_rfl) (by rfl) (fun K hK => ?_)
    go_simp
    refine hK _ _ ⟨fun h => (h rfl).elim, ?_⟩
    clear hK
    refine wpAnyT_done (by kernel_rfl) ?_ _
    obtain ⟨l2, hl9⟩ : ∃ l2, l.eraseIdx k = l2 := ⟨_, rfl⟩
    have hcs : ((acksV l).take k).flatten ++ ((acksV l).drop (k + 1)).flatten = (acksV l2).flatten := by rw [← hl9, ← List.flatten_append]; congr 1; simp [acksV, List.eraseIdx_eq_take_drop_succ, List.map_take, List.map_drop]
    rw [hcs] at hO9
    have hle := hid (show k = l2.length by rw [← hl9, List.length_eraseIdx]; split <;> omega)
    replace hl9 := hid hl9
    have hw0 := wown_at rq (j := 1) (v := .slice (some ⟨g, 0, none⟩) l.length (k + 1)) rfl
    have hO10 : OwnE 23 S1 base 3 (.slice a9 k c9) k (acksV l2).flatten := hO9.kept (fun g2 hg2 => q1.block g2 (fun e => by subst e; exact (hO9.ne hp9 (by decide)) hg2))
    have hef := hid (ef3.out.trans ⟨((Below.refl _ _).grown hG9 (by omega) (fun k2 e => (by cases e; exact hg0))).trans ⟨q1.os, q1.tape, q1.output, by rw [q1.size]; exact Nat.le_refl _, fun k2 hk2 => q1.block k2 (by omega)⟩, by rw [← hS1]; exact Owp.set hp9 (by simp) hG9 (fun k2 e => by rw [hw0]; exact e) (fun k2 e => by rw [hw0]; exact hN9 k2 e)⟩)
    have r10 := (q1.block p0_0 dp).trans r9
    have y0 := held_cell r10 0 _ rfl
    have x0 := held_cell s1 0 _ rfl
    have x1 := held_cell s1 1 _ rfl
    have x2 := held_cell s1 2 _ rfl
    have x3 := held_cell s1 3 _ rfl
    have x4 := held_cell s1 4 _ rfl
    have s1h := hid s1
    clear hO9 hG9 hN9 hp9 z0 z1 q1 ef3 r3 r9 rq hpre2 hdr2 hys hw0
    have wy : IntKind.i64.wrap (y + 1) = y + 1 := by rw [IntKind.wrap_i64]; omega
    have wn : IntKind.i64.wrap (n + 1) = n + 1 := by rw [IntKind.wrap_i64]; omega
    cases b
    · have ff := held_free s1 3
      obtain ⟨S2, hS2, s2, q2⟩ := st1 s1 3 (.int .i64 (n + 1))
      have hfin : BookAt S2 base p l2 y (n + 1) o := by
        have h1 := hO10.kept (w' := S2) (fun g2 hg2 => q2.block g2 (fun e => by subst e; exact (hO10.ne s1 (by decide)) hg2))
        rw [hle.out] at h1 s2
        exact ⟨a9, c9, s2, h1⟩
      have hef2 : BookEff base p w S2 := hef.out.trans ⟨⟨q2.os, q2.tape, q2.output, by rw [q2.size]; exact Nat.le_refl _, fun k hk => q2.block k (by omega)⟩, by rw [← hS2]; exact Owp.cell s1 (by decide) (by simp)⟩
      clear s1 s2 q2 hO10 r10
      replace hfin := hid hfin
      replace hef2 := hid hef2
      go_wp2_with fail
      go_ret
      rw [e.out, hl9.out]
      exact ⟨rfl, hfin.out, hef2.out⟩
    · have ff := held_free s1 2
      obtain ⟨S2, hS2, s2, q2⟩ := st1 s1 2 (.int .i64 (y + 1))
      have hfin : BookAt S2 base p l2 (y + 1) n o := by
        have h1 := hO10.kept (w' := S2) (fun g2 hg2 => q2.block g2 (fun e => by subst e; exact (hO10.ne s1 (by decide)) hg2))
        rw [hle.out] at h1 s2
        exact ⟨a9, c9, s2, h1⟩
      have hef2 : BookEff base p w S2 := hef.out.trans ⟨⟨q2.os, q2.tape, q2.output, by rw [q2.size]; exact Nat.le_refl _, fun k hk => q2.block k (by omega)⟩, by rw [← hS2]; exact Owp.cell s1 (by decide) (by simp)⟩
      clear s1 s2 q2 hO10 r10
      replace hfin := hid hfin
      replace hef2 := hid hef2
      go_wp2_with fail
      go_ret
      rw [e.out, hl9.out]
      exact ⟨rfl, hfin.out, hef2.out⟩
  · have hys := hdr2.out
    rw [show (Option.map (fun x : Addr => x.add ((k + 1) * 3)) (some ⟨g, 0, none⟩)) = some ⟨g, (k + 1) * 3, none⟩ from by simp [Addr.add]] at hys
    have hce2 : (0 : Int) < (cap : Int) - (k + 1) := by omega
    replace hys := hid hys
    replace hdr2 := hys
    refine wp_region_T (some g) 18 (by kernel_rfl) ?_
    refine wpAnyT_take 0 rfl (by kernel_rfl) (by kernel_rfl) (by kernel_rfl) (by kernel_rfl) (fun _ _ _ _ h => h) ⟨_, Or.inl ⟨by rfl, fun w2 hb2 => by (go_simp; try with_reducible rfl)⟩, _, by (go_simp; try rfl), ?_⟩
    refine wpAnyT_take 1 rfl (by kernel_rfl) (by kernel_rfl) (by kernel_rfl) (by kernel_rfl) (fun _ _ _ _ h => h) ⟨_, Or.inl ⟨by rfl, fun w2 hb2 => by (go_simp; try with_reducible rfl)⟩, _, by (go_simp; try rfl), ?_⟩
    refine wpAnyT_take 2 rfl (by kernel_rfl) (by kernel_rfl) (by kernel_rfl) (by kernel_rfl) (fun _ _ _ _ h => h) ⟨_, Or.inl ⟨by rfl, fun w2 hb2 => by (go_simp; try with_reducible rfl)⟩, _, by (go_simp; try rfl), ?_⟩
    refine wpAnyT_take 3 rfl (by kernel_rfl) (by kernel_rfl) (by kernel_rfl) (by kernel_rfl) (fun _ _ _ _ h => h) ⟨_, Or.inl ⟨by rfl, fun w2 hb2 => by (go_simp; try with_reducible rfl)⟩, _, by (go_simp; try rfl), ?_⟩
    refine wpAnyT_take 4 rfl (by kernel_rfl) (by kernel_rfl) (by kernel_rfl) (by kernel_rfl) (fun _ _ _ _ h => h) ⟨_, Or.inl ⟨by rfl, fun w2 hb2 => by (have hx := held_cell (hb2.held rq hgne) 1 _ rfl; go_simp; try with_reducible rfl)⟩, _, by (go_simp; try rfl), ?_⟩
    refine wpAnyT_take 5 rfl (by kernel_rfl) (by kernel_rfl) (by kernel_rfl) (by kernel_rfl) (fun _ _ _ _ h => h) ⟨_, Or.inl ⟨by rfl, fun w2 hb2 => by (go_simp; try with_reducible rfl)⟩, _, by (go_simp; try rfl), ?_⟩
    refine wpAnyT_take 6 rfl (by kernel_rfl) (by kernel_rfl) (by kernel_rfl) (by kernel_rfl) (fun _ _ _ _ h => h) ⟨_, Or.inl ⟨by rfl, fun w2 hb2 => by (go_simp; try with_reducible rfl)⟩, _, by (go_simp; try rfl), ?_⟩
    refine wpAnyT_take 7 rfl (by kernel_rfl) (by kernel_rfl) (by kernel_rfl) (by kernel_rfl) (fun _ _ _ _ h => h) ⟨_, Or.inl ⟨by rfl, fun w2 hb2 => by (go_simp; try with_reducible rfl)⟩, _, by (go_simp; try rfl), ?_⟩
    refine wpAnyT_take 8 rfl (by kernel_rfl) (by kernel_rfl) (by kernel_rfl) (by kernel_rfl) (fun _ _ _ _ h => h) ⟨_, Or.inl ⟨by rfl, fun w2 hb2 => by (go_simp; try with_reducible rfl)⟩, _, by (go_simp; try rfl), ?_⟩
    refine wpAnyT_take 9 rfl (by kernel_rfl) (by kernel_rfl) (by kernel_rfl) (by kernel_rfl) (fun _ _ _ _ h => h) ⟨_, Or.inl ⟨by rfl, fun w2 hb2 => by (go_simp; try with_reducible rfl)⟩, _, by (go_simp; try rfl), ?_⟩
    refine wpAnyT_take 10 rfl (by kernel_rfl) (by kernel_rfl) (by kernel_rfl) (by kernel_rfl) (fun _ _ _ _ h => h) ⟨_, Or.inl ⟨by rfl, fun w2 hb2 => by (go_simp; try with_reducible rfl)⟩, _, by (go_simp; try rfl), ?_⟩
    refine wpAnyT_take 11 rfl (by kernel_rfl) (by kernel_rfl) (by kernel_rfl) (by kernel_rfl) (fun _ _ _ _ h => h) ⟨_, Or.inl ⟨by rfl, fun w2 hb2 => by (have hx := held_cell (hb2.held rq hgne) 1 _ rfl; go_simp; try with_reducible rfl)⟩, _, by (go_simp; try rfl), ?_⟩
    refine wpAnyT_take 12 rfl (by kernel_rfl) (by kernel_rfl) (by kernel_rfl) (by kernel_rfl) (fun _ _ _ _ h => h) ⟨_, Or.inl ⟨by rfl, fun w2 hb2 => by (go_simp; try with_reducible rfl)⟩, _, by (go_simp; try rfl), ?_⟩
    refine wpAnyT_take 13 rfl (by kernel_rfl) (by kernel_rfl) (by kernel_rfl) (by kernel_rfl) (fun _ _ _ _ h => h) ⟨_, Or.inl ⟨by rfl, fun w2 hb2 => by (go_simp; try with_reducible rfl)⟩, _, by (go_simp; try rfl), ?_⟩
    refine wpAnyT_take 14 rfl (by kernel_rfl) (by kernel_rfl) (by kernel_rfl) (by kernel_rfl) (fun _ _ _ _ h => h) ⟨_, Or.inl ⟨by rfl, fun w2 hb2 => by (go_simp; try with_reducible rfl)⟩, _, by (go_simp; try rfl), ?_⟩
    refine wpAnyT_only 15 rfl (by kernel_rfl) (by rfl) (fun K hK => ?_)
    refine wp_appE (.tmp 28) (.tmp 35) 36 rfl base 23 3 24 ackO (by decide) (.slice (some ⟨g, 0, none⟩) k k) k ((acksV l).take k).flatten rfl hpre2.out _ (l.length - (k + 1)) _ ((acksV l).drop (k + 1)) rfl hdr2.out (fun y hy => acksV_1 l y (List.mem_of_mem_drop hy)) (by unfold maxLen; omega) (by omega) (by omega) ?_
    intro a9 c9 W9 hO9 hG9 hN9
    replace hO9 : OwnE _ W9 base 3 (.slice a9 (k + (l.length - (k + 1))) c9) (k + (l.length - (k + 1))) _ := hO9
    refine hK _ _ ⟨fun _ => rx_grew hG9, ?_⟩
    clear hK
    have hp9 := (hG9.block p lpq (fun e => hgne e)).trans rq
    have r9 := (hG9.block p0_0 l3q (fun e => by have e2 : p0_0 = g := Option.some.inj e; omega)).trans r3
    have z0 := held_cell hp9 1 _ rfl
    have z1 := held_free hp9 1
    obtain ⟨S1, hS1, s1, q1⟩ := st1 hp9 1 (.slice a9 (k + (l.length - (k + 1))) c9)
    refine wpAnyT_takeP 16 rfl (by kernel_rfl) (by kernel_rfl) (by kernel_rfl) (fun _ _ _ _ h => h) ⟨_, Or.inl ⟨by rfl, fun w2 _ => by (go_simp; try with_reducible rfl)⟩, _, by (go_simp; try rfl), ?_⟩
    refine wpAnyT_take 17 rfl (by kernel_rfl) (by kernel_rfl) (by kernel_rfl) (by kernel_rfl) (fun _ _ _ _ h => h) ⟨_, Or.inl ⟨by rfl, fun w2 hb2 => by (go_simp; try with_reducible rfl)⟩, _, by (go_simp; try rfl), ?_⟩
    refine wpAnyT_only 18 rfl (by kernel_rfl) (by rfl) (fun K hK => ?_)
    go_simp
    refine hK _ _ ⟨fun h => (h rfl).elim, ?_⟩
    clear hK
    refine wpAnyT_done (by kernel_rfl) ?_ _
    obtain ⟨l2, hl9⟩ : ∃ l2, l.eraseIdx k = l2 := ⟨_, rfl⟩
    have hcs : ((acksV l).take k).flatten ++ ((acksV l).drop (k + 1)).flatten = (acksV l2).flatten := by rw [← hl9, ← List.flatten_append]; congr 1; simp [acksV, List.eraseIdx_eq_take_drop_succ, List.map_take, List.map_drop]
    rw [hcs] at hO9
    have hle := hid (show (k + (l.length - (k + 1))) = l2.length by rw [← hl9, List.length_eraseIdx]; split <;> omega)
    replace hl9 := hid hl9
    have hw0 := wown_at rq (j := 1) (v := .slice (some ⟨g, 0, none⟩) l.length cap) rfl
    have hO10 : OwnE 23 S1 base 3 (.slice a9 (k + (l.length - (k + 1))) c9) (k + (l.length - (k + 1))) (acksV l2).flatten := hO9.kept (fun g2 hg2 => q1.block g2 (fun e => by subst e; exact (hO9.ne hp9 (by decide)) hg2))
    have hef := hid (ef3.out.trans ⟨((Below.refl _ _).grown hG9 (by omega) (fun k2 e => (by cases e; exact hg0))).trans ⟨q1.os, q1.tape, q1.output, by rw [q1.size]; exact Nat.le_refl _, fun k2 hk2 => q1.block k2 (by omega)⟩, by rw [← hS1]; exact Owp.set hp9 (by simp) hG9 (fun k2 e => by rw [hw0]; exact e) (fun k2 e => by rw [hw0]; exact hN9 k2 e)⟩)
    have r10 := (q1.block p0_0 dp).trans r9
    have y0 := held_cell r10 0 _ rfl
    have x0 := held_cell s1 0 _ rfl
    have x1 := held_cell s1 1 _ rfl
    have x2 := held_cell s1 2 _ rfl
    have x3 := held_cell s1 3 _ rfl
    have x4 := held_cell s1 4 _ rfl
    have s1h := hid s1
    clear hO9 hG9 hN9 hp9 z0 z1 q1 ef3 r3 r9 rq hpre2 hdr2 hys hw0
    have wy : IntKind.i64.wrap (y + 1) = y + 1 := by rw [IntKind.wrap_i64]; omega
    have wn : IntKind.i64.wrap (n + 1) = n + 1 := by rw [IntKind.wrap_i64]; omega
    cases b
    · have ff := held_free s1 3
      obtain ⟨S2, hS2, s2, q2⟩ := st1 s1 3 (.int .i64 (n + 1))
      have hfin : BookAt S2 base p l2 y (n + 1) o := by
        have h1 := hO10.kept (w' := S2) (fun g2 hg2 => q2.block g2 (fun e => by subst e; exact (hO10.ne s1 (by decide)) hg2))
        rw [hle.out] at h1 s2
        exact ⟨a9, c9, s2, h1⟩
      have hef2 : BookEff base p w S2 := hef.out.trans ⟨⟨q2.os, q2.tape, q2.output, by rw [q2.size]; exact Nat.le_refl _, fun k hk => q2.block k (by omega)⟩, by rw [← hS2]; exact Owp.cell s1 (by decide) (by simp)⟩
      clear s1 s2 q2 hO10 r10
      replace hfin := hid hfin
      replace hef2 := hid hef2
      go_wp2_with fail
      go_ret
      rw [e.out, hl9.out]
      exact ⟨rfl, hfin.out, hef2.out⟩
    · have ff := held_free s1 2
      obtain ⟨S2, hS2, s2, q2⟩ := st1 s1 2 (.int .i64 (y + 1))
      have hfin : BookAt S2 base p l2 (y + 1) n o := by
        have h1 := hO10.kept (w' := S2) (fun g2 hg2 => q2.block g2 (fun e => by subst e; exact (hO10.ne s1 (by decide)) hg2))
        rw [hle.out] at h1 s2
        exact ⟨a9, c9, s2, h1⟩
      have hef2 : BookEff base p w S2 := hef.out.trans ⟨⟨q2.os, q2.tape, q2.output, by rw [q2.size]; exact Nat.le_refl _, fun k hk => q2.block k (by omega)⟩, by rw [← hS2]; exact Owp.cell s1 (by decide) (by simp)⟩
      clear s1 s2 q2 hO10 r10
      replace hfin := hid hfin
      replace hef2 := hid hef2
      go_wp2_with fail
      go_ret
      rw [e.out, hl9.out]
      exact ⟨rfl, hfin.out, hef2.out⟩

end Go.Proofs.Ythcaljelmchkcaa
