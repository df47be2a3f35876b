/- Package gaps: Hear. -/
import Derived.Test.YtjeiclfdhdcfnaaGap2
import Derived.WideLaws
import Derived.Laws.Tables
import Derived.Deep.DeepCutAuto
namespace Go.Proofs.Ytjeiclfdhdcfnaa
open Go.ChangeShapes Go.WideShapes Go.ChangeAt Go.RowKit
set_option linter.unusedVariables false
set_option linter.unusedSimpArgs false

theorem eff_refl33 (g : Nat) (w : World) : Eff g w w := ⟨rfl, rfl, rfl, Nat.le_refl _, fun _ _ _ => rfl⟩
theorem upd_at {w : World} {m : Nat} {L : List Ln} (h : MapAt w m L) (x : Ln) : ∃ W9, (Instr.mapUpdate 45 (.map (some m)) (kyG x.y x.c) (vlG x.q x.h x.l)).run Try.prog w = .ok () W9 ∧ MapAt W9 m (putG x L) ∧ Only m w W9 :=
  ⟨_, upd33 h x, setB_at _ _ _ h.lt, setB_only _ _ _⟩
theorem effB_after {g : Nat} {a b c : World} (h : After a b) (k : Eff g b c) : Eff g a c := ⟨k.os.trans h.os, k.tape.trans h.tape, k.output.trans h.output, Nat.le_trans h.size k.size, fun j h1 h2 => (k.block j (Nat.lt_of_lt_of_le h1 h.size) h2).trans (h.block j h1)⟩
theorem eff_only33 {g : Nat} {a b : World} (h : Only g a b) : Eff g a b := ⟨h.os, h.tape, h.output, by rw [h.size]; exact Nat.le_refl _, fun j _ h2 => h.block j h2⟩
set_option maxRecDepth 100000 in
set_option maxHeartbeats 16000000 in
theorem hear_any (B m : Nat) (L : List Ln) (q y c : Int) (w : World) (hb : w.heap[B]? = some (.cells #[.map (some m)] 47 (0, 0))) (hm : MapAt w m L) (hL : LnOk L) : Calls Try.prog 8 #[.pointer (some ⟨B, 0, none⟩), .int .i64 q, .int .i64 y, .int .i64 c] w fun r w' => r = .returned (.tuple #[.int .i64 (hearS L q y c).2.1, .bool (hearS L q y c).2.2]) ∧ MapAt w' m (hearS L q y c).1 ∧ Eff m w w' := by
  have kR := hid (gright_any B m w hb)
  have nBm : B ≠ m := by
    intro e
    subst e
    rw [hm] at hb
    cases hb
  have eno := hear_no (L := L) (q := q) (y := y) (c := c)
  have ene := hear_new (L := L) (q := q) (y := y) (c := c)
  have eol := fun r => hear_old (L := L) (q := q) (y := y) (c := c) (r := r)
  obtain ⟨R, hR⟩ : ∃ R, hearS L q y c = R := ⟨_, rfl⟩
  rw [hR] at eno ene
  simp only [hR] at eol
  rw [hR]
  clear hR
  replace eno := hid eno
  replace ene := hid ene
  replace eol := hid eol
  have z0 := hid (held_cell hb 0 _ rfl)
  replace hb := hid hb
  replace hm := hid hm
  replace hL := hid hL
  have k1 := hid (fun U => isbyte_any q U)
  have k2 := hid (fun U => isbyte_any y U)
  have k3 := hid (fun U => isbyte_any c U)
  obtain ⟨iq, hq⟩ : ∃ b, isB q = b := ⟨_, rfl⟩
  obtain ⟨iy, hy⟩ : ∃ b, isB y = b := ⟨_, rfl⟩
  obtain ⟨ic, hc⟩ : ∃ b, isB c = b := ⟨_, rfl⟩
  rw [hq] at k1
  rw [hy] at k2
  rw [hc] at k3
  replace hq := hid hq
  replace hy := hid hy
  replace hc := hid hc
  go_enter Try.func8, Try.ntmps8
  go_wp2_with fail
  refine kR.out.mono ?_
  rintro r V ⟨rfl, hv⟩
  obtain rfl : w = V := hv.symm
  clear hv
  go_wp2_with fail
  refine (k1.out _).mono ?_
  rintro r V ⟨rfl, hv⟩
  obtain rfl : w = V := hv.symm
  clear hv
  cases iq
  case false =>
    have e0 := eno.out (fun h => by have := h.1; rw [hq.out] at this; cases this)
    subst e0
    go_wp2_with fail
    go_ret2
    exact ⟨rfl, hm.out, eff_refl33 _ _⟩
  go_wp2_with fail
  refine (k2.out _).mono ?_
  rintro r V ⟨rfl, hv⟩
  obtain rfl : w = V := hv.symm
  clear hv
  cases iy
  case false =>
    have e0 := eno.out (fun h => by have := h.2.1; rw [hy.out] at this; cases this)
    subst e0
    go_wp2_with fail
    go_ret2
    exact ⟨rfl, hm.out, eff_refl33 _ _⟩
  go_wp2_with fail
  refine (k3.out _).mono ?_
  rintro r V ⟨rfl, hv⟩
  obtain rfl : w = V := hv.symm
  clear hv
  cases ic
  case false =>
    have e0 := eno.out (fun h => by have := h.2.2; rw [hc.out] at this; cases this)
    subst e0
    go_wp2_with fail
    go_ret2
    exact ⟨rfl, hm.out, eff_refl33 _ _⟩
  clear k1 k2 k3
  have hbyte := hid (show isB q = true ∧ isB y = true ∧ isB c = true from ⟨hq.out, hy.out, hc.out⟩)
  have hqb : 0 ≤ q ∧ q ≤ 255 := of_decide_eq_true hq.out
  have nw := alloc_new w (.cells #[.int .i64 y, .int .i64 c] 51)
  go_upto_region 4 with (fail)
  obtain ⟨W1, hW1⟩ : ∃ X, w.alloc (.cells #[.int .i64 y, .int .i64 c] 51) = X := ⟨_, rfl⟩
  rw [hW1] at nw ⊢
  obtain ⟨pw, hpw⟩ : ∃ X, w.heap.size = X := ⟨_, rfl⟩
  have ltB := held_lt hb.out
  have ltm := hm.out.lt
  rw [hpw] at nw ltB ltm ⊢
  replace hW1 := hid hW1
  have hwh := nw.2.2
  have hA1 := nw.2.1
  have hA0 := hid (show After w W1 from hA1)
  replace hb := hid (held_after hA0.out hb.out)
  replace hm := hid (hm.out.aft hA0.out)
  replace hpw := hid hpw
  have nwB : pw ≠ B := by omega
  have nwm : pw ≠ m := by omega
  clear nw hA1 z0 eno
  have hb1 := hb.out
  have hlk := hid (fun (U : World) (h : MapAt U m L) => look33 h y c true)
  cases hp : posG y c L 0 with
  | none =>
    replace hlk := hid (fun (U : World) (h : MapAt U m L) => (show (Instr.lookup 45 (.map (some m)) (.agg #[.int .i64 y, .int .i64 c]) true).run Try.prog U = .ok (.tuple #[.agg #[.int .i64 0, .int .i64 0, .int .i64 0], .bool false]) U from by have := hlk.out U h; rw [hp] at this; exact this))
    have hpx := hid hp
    clear hp
    apply wp_region_seg (w := W1) (S := [.q [], .q [], .q [], .q [], .q [], .q [], .q [], .q [], .q [], .al 10, .st 9 [], .q []]) (E := [.q0 _, .q0 _, .q0 _, .q0 _, .q0 _, .q0 _, .q0 _, .q0 _, .q0 _, .al ((fun p => .pointer (some ⟨p, 0, none⟩)), _) 10, .s0 9 (.cells _ _), .q0 _]) (by kernel_rfl) rfl (by kernel_rfl) rfl rfl
    intro th hge hne
    iterate 3 refine Seg.sq ?_
    refine Seg.sq ?_ (ht := Or.inl ⟨by rfl, fun U hU => vp_quiet (by (have h0 := held_cell (held_after hU.1 hb1) 0 _ rfl; go_simp <;> exact rfl))⟩)
    refine Seg.sq ?_ (ht := Or.inl ⟨by rfl, fun U hU => vp_quiet (by (have h0 := held_cell (held_after hU.1 hwh) 0 _ rfl; have h1 := held_cell (held_after hU.1 hwh) 1 _ rfl; go_simp <;> exact rfl))⟩)
    refine Seg.sq ?_ (ht := Or.inl ⟨by rfl, fun U hU => vp_quiet (by (have h5 := hlk.out _ (hm.out.aft hU.1); go_simp <;> exact rfl))⟩)
    iterate 3 refine Seg.sq ?_
    refine Seg.step _ rfl ⟨by rfl, fun U hU => ?_⟩ ?_
    · go_simp; exact vp_alloc rfl rfl rfl
    refine Seg.sa ?_
    refine Seg.step _ rfl ⟨by rfl, fun U z k hz hU hc => ?_⟩ ?_
    · have hz2 := Option.some.inj hz
      cases hz2; clear hz
      exact vp_store_agg _ _ _ rfl hc rfl rfl (by kernel_rfl) rfl (by rfl)
    refine Seg.sa ?_
    refine Seg.sq ?_
    refine Seg.stop (fun U41 hU hk => ?_)
    have nb9 := hge 9 _ _ rfl
    have rb9 := (hk 9 _ 10 rfl trivial).1.1 trivial _ (Nat.zero_le _) rfl
    clear hk hge hne
    generalize th (0 + 9) = p4_9 at *
    simp only [Ent.obj] at rb9
    have df_pw_p4_9 : pw ≠ p4_9 := by have := held_lt hwh; omega
    have df_B_p4_9 : B ≠ p4_9 := by have := held_lt hb1; omega
    replace hwh := held_after hU hwh
    replace hb1 := held_after hU hb1
    have r_p4_9 := rb9
    clear rb9
    have n_p4_9 := nb9
    clear nb9
    have sz41 := hU.size
    have hB : Below W1.heap.size W1 U41 := hU
    replace hb := hid (held_after hU hb.out)
    replace hm := hid (hm.out.aft hU)
    replace hA0 := hid (bthen hA0.out hU)
    have hwas := r_p4_9
    clear hU r_p4_9 hb1
    clear eol
    have hr := ene.out hbyte.out hpx.out
    clear ene
    have hb2 := held_cell hb.out 0 _ rfl
    have hln := fun ty => run_len_map (P := Try.prog) (w := U41) 45 ty m _ _ Try.underlying45 hm.out
    have hsz : (enM 0 L).toArray.size = L.length := by simp [enM_len]
    rw [hsz] at hln
    obtain ⟨n, hn⟩ : ∃ n, L.length = n := ⟨_, rfl⟩
    rw [hn] at hln hr
    replace hn := hid hn
    by_cases c16 : n = 16
    case pos =>
      have b16 : ((n : Int) == 16) = true := by simp; omega
      rw [if_pos c16] at hr
      subst hr
      replace c16 := hid c16
      go_wp2_with fail
      go_ret2
      exact ⟨rfl, hm.out, effB_after hA0.out (eff_refl33 _ _)⟩
    have b16 : ((n : Int) == 16) = false := by simp; omega
    rw [if_neg c16] at hr
    subst hr
    replace c16 := hid c16
    go_upto_region 8 with (fail)
    clear hb2
    have bQ := hid (show U41.drew.heap[B]? = _ from hb.out)
    have wQ := hid (show U41.drew.heap[pw]? = _ from hwh)
    have mQ := hid (show MapAt U41.drew m L from hm.out)
    have hAQ := hid (show After w U41.drew from hA0.out.drew)
    obtain ⟨QQ, hQQ⟩ : ∃ X, U41.drew = X := ⟨_, rfl⟩
    rw [hQQ] at bQ wQ mQ hAQ
    clear hwh hb hm hA0
    obtain ⟨W9, hup, hm9, hO9⟩ := upd_at mQ.out (⟨y, c, q, 1, 0⟩)
    have hE9 := hid (effB_after hAQ.out (eff_only33 hO9))
    replace hm9 := hid hm9
    clear hO9
    unfold kyG vlG at hup
    dsimp only at hup
    refine wp_region_T none 7 (by kernel_rfl) ?_
    rw [hQQ]
    refine wpAnyT_take 0 rfl (by kernel_rfl) (by kernel_rfl) (by kernel_rfl) (by kernel_rfl) (fun _ _ _ _ h => h) ⟨_, Or.inl ⟨by rfl, fun w2 hb2 => by (go_simp; try with_reducible rfl)⟩, _, by (go_simp; try rfl), ?_⟩
    refine wpAnyT_take 1 rfl (by kernel_rfl) (by kernel_rfl) (by kernel_rfl) (by kernel_rfl) (fun _ _ _ _ h => h) ⟨_, Or.inl ⟨by rfl, fun w2 hb2 => by (go_simp; try with_reducible rfl)⟩, _, by (go_simp; try rfl), ?_⟩
    refine wpAnyT_take 2 rfl (by kernel_rfl) (by kernel_rfl) (by kernel_rfl) (by kernel_rfl) (fun _ _ _ _ h => h) ⟨_, Or.inl ⟨by rfl, fun w2 hb2 => by (go_simp; try with_reducible rfl)⟩, _, by (go_simp; try rfl), ?_⟩
    refine wpAnyT_take 3 rfl (by kernel_rfl) (by kernel_rfl) (by kernel_rfl) (by kernel_rfl) (fun _ _ _ _ h => h) ⟨_, Or.inl ⟨by rfl, fun w2 hb2 => by (have h0 := hb2.cell (held_cell bQ.out 0 _ rfl) (by simp); go_simp; try with_reducible rfl)⟩, _, by (go_simp; try rfl), ?_⟩
    refine wpAnyT_take 4 rfl (by kernel_rfl) (by kernel_rfl) (by kernel_rfl) (by kernel_rfl) (fun _ _ _ _ h => h) ⟨_, Or.inl ⟨by rfl, fun w2 hb2 => by (have h0 := hb2.cell (held_cell wQ.out 0 _ rfl) (by simp); have h1 := hb2.cell (held_cell wQ.out 1 _ rfl) (by simp); go_simp; try with_reducible rfl)⟩, _, by (go_simp; try rfl), ?_⟩
    refine wpAnyT_take 5 rfl (by kernel_rfl) (by kernel_rfl) (by kernel_rfl) (by kernel_rfl) (fun _ _ _ _ h => h) ⟨_, Or.inl ⟨by rfl, fun w2 hb2 => by (go_simp; try with_reducible rfl)⟩, _, by (go_simp; try rfl), ?_⟩
    refine wpAnyT_take 6 rfl (by kernel_rfl) (by kernel_rfl) (by kernel_rfl) (by kernel_rfl) (fun _ _ _ _ h => h) ⟨_, Or.inl ⟨by rfl, fun w2 hb2 => by (go_simp; try with_reducible rfl)⟩, _, by (go_simp; try rfl), ?_⟩
    refine wpAnyT_only 7 rfl (by kernel_rfl) (by rfl) (fun K hK => ?_)
    go_simp
    refine hK _ _ ⟨fun h => (h rfl).elim, ?_⟩
    clear hK
    refine wpAnyT_done (by kernel_rfl) ?_ _
    clear hup
    go_wp2_with fail
    go_ret2
    exact ⟨rfl, hm9.out, hE9.out⟩
  | some r =>
    replace hlk := hid (fun (U : World) (h : MapAt U m L) => (show (Instr.lookup 45 (.map (some m)) (.agg #[.int .i64 y, .int .i64 c]) true).run Try.prog U = .ok (.tuple #[.agg #[.int .i64 r.2.q, .int .i64 r.2.h, .int .i64 r.2.l], .bool true]) U from by have := hlk.out U h; rw [hp] at this; exact this))
    have hpx := hid hp
    clear hp
    obtain ⟨-, hr1, hr2, hr3⟩ := posG_at hpx.out
    rw [Nat.sub_zero] at hr1
    obtain ⟨⟨u1, u2⟩, ⟨u3, u4⟩, u5, u6⟩ := hL.out r.2 (List.mem_of_getElem? hr1)
    clear hr1 hr2 hr3
    apply wp_region_seg (w := W1) (S := [.q [], .q [], .q [], .q [], .q [], .q [], .q [], .q [], .q [], .al 10, .st 9 [], .q []]) (E := [.q0 _, .q0 _, .q0 _, .q0 _, .q0 _, .q0 _, .q0 _, .q0 _, .q0 _, .al ((fun p => .pointer (some ⟨p, 0, none⟩)), _) 10, .s0 9 (.cells _ _), .q0 _]) (by kernel_rfl) rfl (by kernel_rfl) rfl rfl
    intro th hge hne
    iterate 3 refine Seg.sq ?_
    refine Seg.sq ?_ (ht := Or.inl ⟨by rfl, fun U hU => vp_quiet (by (have h0 := held_cell (held_after hU.1 hb1) 0 _ rfl; go_simp <;> exact rfl))⟩)
    refine Seg.sq ?_ (ht := Or.inl ⟨by rfl, fun U hU => vp_quiet (by (have h0 := held_cell (held_after hU.1 hwh) 0 _ rfl; have h1 := held_cell (held_after hU.1 hwh) 1 _ rfl; go_simp <;> exact rfl))⟩)
    refine Seg.sq ?_ (ht := Or.inl ⟨by rfl, fun U hU => vp_quiet (by (have h5 := hlk.out _ (hm.out.aft hU.1); go_simp <;> exact rfl))⟩)
    iterate 3 refine Seg.sq ?_
    refine Seg.step _ rfl ⟨by rfl, fun U hU => ?_⟩ ?_
    · go_simp; exact vp_alloc rfl rfl rfl
    refine Seg.sa ?_
    refine Seg.step _ rfl ⟨by rfl, fun U z k hz hU hc => ?_⟩ ?_
    · have hz2 := Option.some.inj hz
      cases hz2; clear hz
      exact vp_store_agg _ _ _ rfl hc rfl rfl (by kernel_rfl) rfl (by rfl)
    refine Seg.sa ?_
    refine Seg.sq ?_
    refine Seg.stop (fun U41 hU hk => ?_)
    have nb9 := hge 9 _ _ rfl
    have rb9 := (hk 9 _ 10 rfl trivial).1.1 trivial _ (Nat.zero_le _) rfl
    clear hk hge hne
    generalize th (0 + 9) = p4_9 at *
    simp only [Ent.obj] at rb9
    have df_pw_p4_9 : pw ≠ p4_9 := by have := held_lt hwh; omega
    have df_B_p4_9 : B ≠ p4_9 := by have := held_lt hb1; omega
    replace hwh := held_after hU hwh
    replace hb1 := held_after hU hb1
    have r_p4_9 := rb9
    clear rb9
    have n_p4_9 := nb9
    clear nb9
    have sz41 := hU.size
    have hB : Below W1.heap.size W1 U41 := hU
    replace hb := hid (held_after hU hb.out)
    replace hm := hid (hm.out.aft hU)
    replace hA0 := hid (bthen hA0.out hU)
    have hwas := r_p4_9
    clear hU r_p4_9 hb1
    clear ene
    have hr := eol.out r hbyte.out hpx.out
    clear eol
    have hb2 := held_cell hb.out 0 _ rfl
    have s0 := held_cell hwas 0 _ rfl
    have s1 := held_cell hwas 1 _ rfl
    have s2 := held_cell hwas 2 _ rfl
    obtain ⟨lost, hlost⟩ : ∃ z, (q - r.2.q - 1 + 512) % 256 = z := ⟨_, rfl⟩
    have lb : 0 ≤ lost ∧ lost ≤ 255 := by omega
    rw [hlost] at hr
    subst hr
    skip
    have e1 : IntKind.i64.wrap (q - r.2.q) = q - r.2.q := by rw [IntKind.wrap_i64]; omega
    have e2 : IntKind.i64.wrap (q - r.2.q - 1) = q - r.2.q - 1 := by rw [IntKind.wrap_i64]; omega
    have e3 : IntKind.i64.wrap (q - r.2.q - 1 + 512) = q - r.2.q - 1 + 512 := by rw [IntKind.wrap_i64]; omega
    have e4 : (q - r.2.q - 1 + 512).tmod 256 = lost := by rw [Int.tmod_eq_emod_of_nonneg (by omega)]; exact hlost
    have e5 : IntKind.i64.wrap (r.2.h + 1) = r.2.h + 1 := by rw [IntKind.wrap_i64]; omega
    have e6 : IntKind.i64.wrap (r.2.l + lost) = r.2.l + lost := by rw [IntKind.wrap_i64]; omega
    replace hlost := hid hlost
    go_upto_region 11 with (fail)
    clear s0 s1 s2 e1 e2 e3 e4
    clear hb2
    have bQ := hid (show U41.drew.heap[B]? = _ from hb.out)
    have wQ := hid (show U41.drew.heap[pw]? = _ from hwh)
    have sQ := hid (show U41.drew.heap[p4_9]? = _ from hwas)
    have mQ := hid (show MapAt U41.drew m L from hm.out)
    have hAQ := hid (show After w U41.drew from hA0.out.drew)
    obtain ⟨QQ, hQQ⟩ : ∃ X, U41.drew = X := ⟨_, rfl⟩
    rw [hQQ] at bQ wQ mQ hAQ sQ
    clear hwh hb hm hA0
    obtain ⟨W9, hup, hm9, hO9⟩ := upd_at mQ.out (⟨y, c, q, r.2.h + 1, r.2.l + lost⟩)
    have hE9 := hid (effB_after hAQ.out (eff_only33 hO9))
    replace hm9 := hid hm9
    clear hO9
    unfold kyG vlG at hup
    dsimp only at hup
    refine wp_region_T none 14 (by kernel_rfl) ?_
    rw [hQQ]
    refine wpAnyT_take 0 rfl (by kernel_rfl) (by kernel_rfl) (by kernel_rfl) (by kernel_rfl) (fun _ _ _ _ h => h) ⟨_, Or.inl ⟨by rfl, fun w2 hb2 => by (go_simp; try with_reducible rfl)⟩, _, by (go_simp; try rfl), ?_⟩
    refine wpAnyT_take 1 rfl (by kernel_rfl) (by kernel_rfl) (by kernel_rfl) (by kernel_rfl) (fun _ _ _ _ h => h) ⟨_, Or.inl ⟨by rfl, fun w2 hb2 => by (go_simp; try with_reducible rfl)⟩, _, by (go_simp; try rfl), ?_⟩
    refine wpAnyT_take 2 rfl (by kernel_rfl) (by kernel_rfl) (by kernel_rfl) (by kernel_rfl) (fun _ _ _ _ h => h) ⟨_, Or.inl ⟨by rfl, fun w2 hb2 => by (go_simp; try with_reducible rfl)⟩, _, by (go_simp; try rfl), ?_⟩
    refine wpAnyT_take 3 rfl (by kernel_rfl) (by kernel_rfl) (by kernel_rfl) (by kernel_rfl) (fun _ _ _ _ h => h) ⟨_, Or.inl ⟨by rfl, fun w2 hb2 => by (have h0 := hb2.cell (held_cell bQ.out 0 _ rfl) (by simp); go_simp; try with_reducible rfl)⟩, _, by (go_simp; try rfl), ?_⟩
    refine wpAnyT_take 4 rfl (by kernel_rfl) (by kernel_rfl) (by kernel_rfl) (by kernel_rfl) (fun _ _ _ _ h => h) ⟨_, Or.inl ⟨by rfl, fun w2 hb2 => by (have h0 := hb2.cell (held_cell wQ.out 0 _ rfl) (by simp); have h1 := hb2.cell (held_cell wQ.out 1 _ rfl) (by simp); go_simp; try with_reducible rfl)⟩, _, by (go_simp; try rfl), ?_⟩
    refine wpAnyT_take 5 rfl (by kernel_rfl) (by kernel_rfl) (by kernel_rfl) (by kernel_rfl) (fun _ _ _ _ h => h) ⟨_, Or.inl ⟨by rfl, fun w2 hb2 => by (go_simp; try with_reducible rfl)⟩, _, by (go_simp; try rfl), ?_⟩
    refine wpAnyT_take 6 rfl (by kernel_rfl) (by kernel_rfl) (by kernel_rfl) (by kernel_rfl) (fun _ _ _ _ h => h) ⟨_, Or.inl ⟨by rfl, fun w2 hb2 => by (go_simp; try with_reducible rfl)⟩, _, by (go_simp; try rfl), ?_⟩
    refine wpAnyT_take 7 rfl (by kernel_rfl) (by kernel_rfl) (by kernel_rfl) (by kernel_rfl) (fun _ _ _ _ h => h) ⟨_, Or.inl ⟨by rfl, fun w2 hb2 => by (have h1 := hb2.cell (held_cell sQ.out 1 _ rfl) (by simp); go_simp; try with_reducible rfl)⟩, _, by (go_simp; try rfl), ?_⟩
    refine wpAnyT_take 8 rfl (by kernel_rfl) (by kernel_rfl) (by kernel_rfl) (by kernel_rfl) (fun _ _ _ _ h => h) ⟨_, Or.inl ⟨by rfl, fun w2 hb2 => by (go_simp; try with_reducible rfl)⟩, _, by (go_simp; try rfl), ?_⟩
    refine wpAnyT_take 9 rfl (by kernel_rfl) (by kernel_rfl) (by kernel_rfl) (by kernel_rfl) (fun _ _ _ _ h => h) ⟨_, Or.inl ⟨by rfl, fun w2 hb2 => by (go_simp; try with_reducible rfl)⟩, _, by (go_simp; try rfl), ?_⟩
    refine wpAnyT_take 10 rfl (by kernel_rfl) (by kernel_rfl) (by kernel_rfl) (by kernel_rfl) (fun _ _ _ _ h => h) ⟨_, Or.inl ⟨by rfl, fun w2 hb2 => by (have h2 := hb2.cell (held_cell sQ.out 2 _ rfl) (by simp); go_simp; try with_reducible rfl)⟩, _, by (go_simp; try rfl), ?_⟩
    refine wpAnyT_take 11 rfl (by kernel_rfl) (by kernel_rfl) (by kernel_rfl) (by kernel_rfl) (fun _ _ _ _ h => h) ⟨_, Or.inl ⟨by rfl, fun w2 hb2 => by (go_simp; try with_reducible rfl)⟩, _, by (go_simp; try rfl), ?_⟩
    refine wpAnyT_take 12 rfl (by kernel_rfl) (by kernel_rfl) (by kernel_rfl) (by kernel_rfl) (fun _ _ _ _ h => h) ⟨_, Or.inl ⟨by rfl, fun w2 hb2 => by (go_simp; try with_reducible rfl)⟩, _, by (go_simp; try rfl), ?_⟩
    refine wpAnyT_take 13 rfl (by kernel_rfl) (by kernel_rfl) (by kernel_rfl) (by kernel_rfl) (fun _ _ _ _ h => h) ⟨_, Or.inl ⟨by rfl, fun w2 hb2 => by (go_simp; try with_reducible rfl)⟩, _, by (go_simp; try rfl), ?_⟩
    refine wpAnyT_only 14 rfl (by kernel_rfl) (by rfl) (fun K hK => ?_)
    go_simp
    refine hK _ _ ⟨fun h => (h rfl).elim, ?_⟩
    clear hK
    refine wpAnyT_done (by kernel_rfl) ?_ _
    clear hup
    go_wp2_with fail
    go_ret2
    exact ⟨rfl, hm9.out, hE9.out⟩

end Go.Proofs.Ytjeiclfdhdcfnaa
