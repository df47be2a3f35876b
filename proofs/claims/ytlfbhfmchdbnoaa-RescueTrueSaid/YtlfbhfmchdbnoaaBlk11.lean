/- Package block: the papers' Take. -/
import Derived.Test.YtlfbhfmchdbnoaaBlk10
import Derived.Deep.DeepCutAuto
namespace Go.Proofs.Ytlfbhfmchdbnoaa
open Go.ChangeShapes Go.WideShapes Go.ChangeAt Go.RowKit
set_option linter.unusedVariables false
set_option linter.unusedSimpArgs false

set_option maxRecDepth 100000 in
theorem cut26 (a : Option Addr) (cap : Nat) (hc : 254 ≤ cap) : ∃ a2 : Option Addr, (∀ W : World, (Instr.slice 22 (.slice a 254 cap) (some (.int .i64 2)) (some (.int .i64 6)) none).run Try.prog W = .ok (.slice a2 4 (cap - 2)) W) ∧ (∀ (U : World) (zs : List Int), Sl .u8 U a 254 cap zs → Sl .u8 U a2 4 (cap - 2) ((zs.drop 2).take 4)) := by
  refine ⟨a.map (·.add 2), ?_, ?_⟩
  · intro W
    rw [run_slice_lh W 22 a 254 cap (by rfl) .i64 .i64 2 6 (by omega) (by omega) (by omega)]
    have e : ¬ cap = 2 := by omega
    go_simp <;> simp [sliced, e]
  · intro U zs h
    exact (h.drop 2 (by omega)).take 4 (by omega)
theorem drop_cons {b : List Int} {p : Nat} (h : p < b.length) : b.drop p = b.getD p 0 :: b.drop (p + 1) := by
  rw [List.drop_eq_getElem_cons h]; simp [h]
theorem take_getD {b : List Int} {p i : Nat} : (b.drop p).getD i 0 = b.getD (p + i) 0 := by simp [List.getD_eq_getElem?_getD]
set_option maxRecDepth 100000 in
set_option maxHeartbeats 32000000 in
theorem rbtake_et (ba : Option Addr) (bl bc : Nat) (zs : List Int) (w : World) (hS : Sl .u8 w ba bl bc zs) (hz : ∀ x ∈ zs, (Lit.int .u8 x).wf = true) (hbl : bl ≤ 100000) : Calls Try.prog 23 #[.slice ba bl bc] w (TkE w (takB zs)) := by
  obtain ⟨r, hr⟩ : ∃ r, takB zs = r := ⟨_, rfl⟩
  rw [hr]
  have hcc := hS.2.1
  have hl := hS.1
  replace hz := hid hz
  go_enter Try.func23, Try.ntmps23
  go_upto_region 0 with (fail)
  apply wp_region_seg0 (w := w) (S := [.al 1000, .q []]) (E := [.al ((fun p => .pointer (some ⟨p, 0, none⟩)), _) 1000, .q0 _]) rfl (by kernel_rfl) rfl rfl
  intro th hge hne
  refine Seg.step _ rfl ⟨by rfl, fun U hU => ?_⟩ ?_
  · go_simp; exact vp_alloc rfl rfl rfl
  refine ⟨_, by (simp only [Ent.val]; go_simp <;> exact rfl), ?_⟩
  refine Seg.step _ rfl (Or.inl ⟨by rfl, fun U hU => vp_quiet (by (go_simp <;> exact rfl))⟩) ⟨_, by (simp only [Ent.val]; go_simp <;> exact rfl), ?_⟩
  refine Seg.stop (fun U1 hU hk => ?_)
  have nb0 := hge 0 _ _ rfl
  have rb0 := (hk 0 _ _ rfl trivial).1.2 (by simp)
  clear hk hge hne
  generalize th (0 + 0) = p0_0 at *
  dsimp only at rb0
  have r_p0_0 := rb0
  clear rb0
  have n_p0_0 := nb0
  clear nb0
  have sz1 := hU.size
  have hB : Below w.heap.size w U1 := hU
  clear hU
  have np := n_p0_0
  by_cases h1 : bl < 256
  case pos =>
    replace hr : r = (0, [], 2) := hr.symm.trans (takB_short (by omega))
    replace hr := hid hr
    have q1 : (bl : Int) < 256 := by omega
    have z0 := held_cell r_p0_0 0 _ rfl
    have z1 := held_cell r_p0_0 1 _ rfl
    have g0 := held_free r_p0_0 0
    have g1 := held_free r_p0_0 1
    obtain ⟨W9, hW9, ya, yO⟩ := st2 r_p0_0 (.int .u32 0) (.slice none 0 0)
    have hB9 := hid (belowS hB yO np)
    have ez0 := held_cell ya 0 _ rfl
    have ez1 := held_cell ya 1 _ rfl
    clear yO ya
    go_wp2_with fail
    refine bodyPost_ret (v := .tuple #[.agg #[.int .u32 0, .slice none 0 0], .int .i64 2]) (by simp [results, Try.results23, go_sem, ez0, ez1]) rfl ?_
    rw [hr.out]
    exact tkE_nil 2 hB9.out
  have q1 : ¬ (bl : Int) < 256 := by omega
  by_cases h2 : 256 < bl
  case pos =>
    replace hr : r = (0, [], 7) := hr.symm.trans (takB_long (by omega))
    replace hr := hid hr
    have q2 : (256 : Int) < bl := by omega
    have z0 := held_cell r_p0_0 0 _ rfl
    have z1 := held_cell r_p0_0 1 _ rfl
    have g0 := held_free r_p0_0 0
    have g1 := held_free r_p0_0 1
    obtain ⟨W9, hW9, ya, yO⟩ := st2 r_p0_0 (.int .u32 0) (.slice none 0 0)
    have hB9 := hid (belowS hB yO np)
    have ez0 := held_cell ya 0 _ rfl
    have ez1 := held_cell ya 1 _ rfl
    clear yO ya
    go_wp2_with fail
    refine bodyPost_ret (v := .tuple #[.agg #[.int .u32 0, .slice none 0 0], .int .i64 7]) (by simp [results, Try.results23, go_sem, ez0, ez1]) rfl ?_
    rw [hr.out]
    exact tkE_nil 7 hB9.out
  have q2 : ¬ (256 : Int) < bl := by omega
  have hl2 : zs.length = 256 := by omega
  have hS1 := hS.below hB
  clear hS
  have kO := ropen_any ba bl bc zs U1 hbl hS1 hz.out
  replace hr := hid hr
  replace hl := hid hl
  go_wp2_with fail
  refine kO.mono ?_
  rintro e V1 ⟨ia, ic, rfl, hO, hA⟩
  have r1 := held_after hA r_p0_0
  have hB1 := bthen hB hA
  clear hA hB r_p0_0 kO hS1
  cases hop : crcOpen zs with
  | none =>
    replace hr : r = (0, [], 4) := hr.out.symm.trans (takB_sum hl2 hop)
    replace hr := hid hr
    replace hO := hid hO
    clear hop
    have z0 := held_cell r1 0 _ rfl
    have z1 := held_cell r1 1 _ rfl
    have g0 := held_free r1 0
    have g1 := held_free r1 1
    obtain ⟨W9, hW9, ya, yO⟩ := st2 r1 (.int .u32 0) (.slice none 0 0)
    have hB9 := hid (belowS hB1 yO np)
    have ez0 := held_cell ya 0 _ rfl
    have ez1 := held_cell ya 1 _ rfl
    clear yO ya
    go_wp2_with fail
    refine bodyPost_ret (v := .tuple #[.agg #[.int .u32 0, .slice none 0 0], .int .i64 4]) (by simp [results, Try.results23, go_sem, ez0, ez1]) rfl ?_
    rw [hr.out]
    exact tkE_nil 4 hB9.out
  | some b =>
    rw [hop] at hO
    obtain ⟨eb1, eb2, eb3⟩ := opened hl2 hop
    have hbw : ∀ x ∈ b, (Lit.int .u8 x).wf = true := fun x hx => hz.out x (by rw [eb1] at hx; exact List.mem_of_mem_take hx)
    have hsb := hO.slf
    replace hsb : Sl .u8 V1 ia b.length ic b := hsb
    clear hO
    rw [eb3] at hsb
    have hopl : (Option.getD (some b) []).length = 254 := eb3
    have hsome : (Option.isSome (some b)) = true := rfl
    have sV := hB1.size
    have np1 : p0_0 < V1.heap.size := held_lt r1
    have f1 := takB_form hl2 hop
    have f2 := takB_part hl2 hop
    have f3 := fun l q => takB_full (l := l) (r := q) hl2 hop
    clear hop
    rw [hr.out] at f1 f2 f3
    clear hr
    obtain ⟨ib, io, rfl, -⟩ := hsb.2.2.2.2 0 (by omega)
    have hat := hid (fun (U : World) (hU : Below V1.heap.size V1 U) (j : Nat) (hj : j < 254) => (show U.cell? ⟨ib, io + j, none⟩ = some (.int .u8 (b.getD j 0)) from by obtain ⟨b9, o9, e9, h9⟩ := (hsb.below hU).2.2.2.2 j (by omega); cases e9; exact h9))
    replace hsb := hid hsb
    replace eb3 := hid eb3
    replace hbw := hid hbw
    replace hopl := hid hopl
    clear eb1 eb2
    have hb := bytes_bd hbw.out
    have hat0 := hat.out V1 (Below.refl _ _) 0 (by decide)
    have hat1 := hat.out V1 (Below.refl _ _) 1 (by decide)
    have hc1f := hid (fun (U : World) (hU : Below V1.heap.size V1 U) => hat.out U hU 1 (by decide))
    obtain ⟨c0, hc0⟩ : ∃ c, b.getD 0 0 = c := ⟨_, rfl⟩
    obtain ⟨c1, hc1⟩ : ∃ c, b.getD 1 0 = c := ⟨_, rfl⟩
    have k0 := getD_bd hb 0
    have k1 := getD_bd hb 1
    obtain ⟨no, hno⟩ : ∃ n, numB ((b.drop 2).take 4) 4 = n := ⟨_, rfl⟩
    have kno := numB4 ((b.drop 2).take 4) (fun x hx => hbw.out x (List.mem_of_mem_drop (List.mem_of_mem_take hx)))
    rw [hc0] at k0 f1 f3 hat0
    rw [hc1] at k1 f1 f2 f3 hat1 hc1f
    rw [hno] at kno f3
    rw [Nat.add_zero] at hat0
    have hnr : numR ((b.drop 2).take 4) = no := by rw [numR_all, List.length_take, List.length_drop, eb3.out]; exact hno
    replace hnr := hid hnr
    clear hc0 hc1 hno
    replace f1 := hid f1
    replace f2 := hid f2
    replace f3 := hid f3
    have wc1 : IntKind.i64.wrap c1 = c1 := by rw [IntKind.wrap_i64]; omega
    have wno : IntKind.u32.wrap (no : Int) = (no : Int) := by rw [IntKind.wrap_u32]; omega
    try rw [hopl.out]
    replace hb := hid hb
    by_cases hform : c0 ≠ 76 ∨ c1 = 0
    case pos =>
      have hr := hid (f1.out hform)
      by_cases h76 : c0 = 76
      case pos =>
        have q8 : (c1 == 0) = true := by have : c1 = 0 := hform.resolve_left (fun h => h h76); simp [this]
        subst h76
        have z0 := held_cell r1 0 _ rfl
        have z1 := held_cell r1 1 _ rfl
        have g0 := held_free r1 0
        have g1 := held_free r1 1
        obtain ⟨W9, hW9, ya, yO⟩ := st2 r1 (.int .u32 0) (.slice none 0 0)
        have hB9 := hid (belowS hB1 yO np)
        have ez0 := held_cell ya 0 _ rfl
        have ez1 := held_cell ya 1 _ rfl
        clear yO ya
        go_wp2_with fail
        refine bodyPost_ret (v := .tuple #[.agg #[.int .u32 0, .slice none 0 0], .int .i64 3]) (by simp [results, Try.results23, go_sem, ez0, ez1]) rfl ?_
        rw [hr.out]
        exact tkE_nil 3 hB9.out
      have q7 : (c0 != 76) = true := by simpa using h76
      have z0 := held_cell r1 0 _ rfl
      have z1 := held_cell r1 1 _ rfl
      have g0 := held_free r1 0
      have g1 := held_free r1 1
      obtain ⟨W9, hW9, ya, yO⟩ := st2 r1 (.int .u32 0) (.slice none 0 0)
      have hB9 := hid (belowS hB1 yO np)
      have ez0 := held_cell ya 0 _ rfl
      have ez1 := held_cell ya 1 _ rfl
      clear yO ya
      go_wp2_with fail
      refine bodyPost_ret (v := .tuple #[.agg #[.int .u32 0, .slice none 0 0], .int .i64 3]) (by simp [results, Try.results23, go_sem, ez0, ez1]) rfl ?_
      rw [hr.out]
      exact tkE_nil 3 hB9.out
    obtain ⟨rfl, hc1⟩ : c0 = 76 ∧ c1 ≠ 0 := by omega
    have q8 : (c1 == 0) = false := by simpa using hc1
    replace f3 := hid (fun l q => f3.out l q hform)
    clear f1 hform
    obtain ⟨m, hm⟩ : ∃ m : Nat, c1 = m := ⟨c1.toNat, by omega⟩
    subst hm
    rw [Int.toNat_natCast] at f2 f3
    have hm0 : 0 < m := by omega
    have hm255 : m ≤ 255 := by omega
    clear hc1 k0 k1
    obtain ⟨na, hcutn, hcsn⟩ := cut26 (some ⟨ib, io, none⟩) ic hsb.out.2.1
    have hsn := hid (hcsn V1 b hsb.out)
    clear hcsn
    have hcap := hsb.out.2.1
    have hcap2 : (6 : Int) ≤ ic := by omega
    obtain ⟨nc, hnc⟩ : ∃ c, ic - 2 = c := ⟨_, rfl⟩
    rw [hnc] at hcutn hsn
    replace hcap := hid hcap
    replace hB1 := hid hB1
    replace r1 := hid r1
    go_wp2_with fail
    refine (rnumber_any na 4 nc ((b.drop 2).take 4) _ hsn.out (fun x hx => hb.out x (List.mem_of_mem_drop (List.mem_of_mem_take hx))) (by decide)).mono ?_
    rintro e V ⟨rfl, hv⟩
    obtain rfl : V1 = V := hv.symm
    rw [hnr.out]
    clear hv hsn hcutn hnc hat0 hat1
    have nA := alloc_new V1 (.cells #[.int .u32 (no : Int), .slice none 0 0] 26)
    have hB6 := nA.2.1
    have rb := nA.2.2
    clear nA
    go_upto_region 11 with (fail)
    obtain ⟨W1, hW1⟩ : ∃ X, V1.alloc (.cells #[.int .u32 (no : Int), .slice none 0 0] 26) = X := ⟨_, rfl⟩
    rw [hW1] at rb hB6
    try rw [hW1]
    obtain ⟨pb, hpb⟩ : ∃ X, V1.heap.size = X := ⟨_, rfl⟩
    have s5 : V1.heap.size ≤ pb := by omega
    rw [hpb] at rb
    try rw [hpb]
    clear hW1 hpb
    have nA := alloc_new W1 (.cells (recC 0 zer12) 65)
    have hA := nA.2.1
    have rw0 := nA.2.2
    have hB7 := bthen hB6 hA
    have rb7 := held_after hA rb
    have s6 := hB6.size
    have dbw : pb ≠ W1.heap.size := by have := held_lt rb; omega
    clear nA hA rb hB6
    go_upto_region 12 with (fail)
    obtain ⟨W2, hW2⟩ : ∃ X, W1.alloc (.cells (recC 0 zer12) 65) = X := ⟨_, rfl⟩
    have hW2b : W1.alloc (.cells #[.int .u32 0, .int .i32 0, .int .i32 0, .int .i32 0, .int .i32 0, .int .i32 0, .int .i32 0, .int .i32 0, .int .i32 0, .int .i32 0, .int .i32 0, .int .i32 0, .int .i32 0] 65) = W2 := hW2
    try rw [hW2b]
    rw [hW2] at rw0 rb7 hB7
    obtain ⟨pw, hpw⟩ : ∃ X, W1.heap.size = X := ⟨_, rfl⟩
    rw [hpw] at rw0 dbw s6
    try rw [hpw]
    clear hW2 hW2b hpw
    replace rw0 := hid rw0
    replace rb7 := hid rb7
    replace hB7 := hid hB7
    go_wp2_with fail
    go_loopw [8, 9, 10, 11, 12, 13] (fun av ix _ _ _ _ wr => ∃ (k : Nat) (l : List En) (p : Nat) (ma : Option Addr) (mc : Nat) (T : Int) (v : List Int), k ≤ m ∧ ix = .int .i64 k ∧ av = .int .i64 p ∧ 6 ≤ p ∧ p ≤ 254 ∧ Hid (tkB (b.drop 6) k = some (l, b.drop p)) ∧ Hid (l.length = k) ∧ Hid (∀ x ∈ l, EnOk x) ∧ wr.heap[pb]? = some (.cells #[.int .u32 (no : Int), .slice ma k mc] 26 (0, 0)) ∧ OwnE 71 wr V1.heap.size 14 (.slice ma k mc) k (entsV l).flatten ∧ Hid (lastR (0, zer12) l = (T, v)) ∧ Hid (StK (T, v)) ∧ wr.heap[pw]? = some (.cells (recC T v) 65 (0, 0)) ∧ Below V1.heap.size V1 wr) (fun _ ix _ _ _ _ _ => m - (intOf ix).toNat)
    case atStart => exact ⟨0, [], 6, none, 0, 0, zer12, by omega, rfl, rfl, by omega, by omega, hid rfl, hid rfl, hid (fun x hx => by simp at hx), rb7.out, OwnE.nil _ _ _ _, hid rfl, hid stK0, rw0.out, hB7.out⟩
    case round =>
      clear rw0 rb7 hB7
      obtain ⟨k, l, p, ma, mc, T, v, hk, rfl, rfl, hp6, hp, htk, hlk, hlo, rb, hOE, hla, hst, rwd, hB⟩ := hrel
      have r6 := held_after hB r1.out
      have hBw := hid (hB1.out.trans (hB.mono sV))
      have hv1 := hc1f.out wr hB
      by_cases hlt : (k : Int) < m
      case neg =>
        obtain rfl : k = m := by omega
        have f4 := f3.out l (b.drop p) htk.out
        clear f3 f2
        have f3 := hid f4
        clear f4
        clear rwd hla hst htk
        have hatW := hid (fun j hj => hat.out wr hB j hj)
        replace hOE := hid hOE
        replace hB := hid hB
        have hql : (b.drop p).length = 254 - p := by rw [List.length_drop, eb3.out]
        replace hql := hid hql
        go_wp2_with fail
        go_loopw [14] (fun jv wz => ∃ i : Nat, jv = .int .i64 ((p + i : Nat) : Int) ∧ p + i ≤ 254 ∧ wz = wr ∧ Hid (∀ x ∈ (b.drop p).take i, x = 0)) (fun jv _ => 254 - (intOf jv).toNat)
        case atStart => exact ⟨0, rfl, by omega, rfl, hid (by simp)⟩
        case round =>
          obtain ⟨i, rfl, hi, rfl, hz0⟩ := hrel
          obtain ⟨j, hj⟩ : ∃ j, p + i = j := ⟨_, rfl⟩
          rw [hj] at hi ⊢
          by_cases hjl : (j : Int) < 254
          case neg =>
            have he : emptyV (b.drop p) = true := emptyV_true (fun x hx => hz0.out x (by rw [List.take_of_length_le (by rw [hql.out]; omega)]; exact hx))
            have f4 := f3.out
            rw [he] at f4
            have hr : r = ((no : Int), l, 0) := f4
            clear f4 f3 he hz0
            replace hr := hid hr
            have x0 := held_cell rb 0 _ rfl
            have x1 := held_cell rb 1 _ rfl
            have z0 := held_cell r6 0 _ rfl
            have z1 := held_cell r6 1 _ rfl
            have g0 := held_free r6 0
            have g1 := held_free r6 1
            obtain ⟨W9, hW9, ya, yO⟩ := st2 r6 (.int .u32 (no : Int)) (.slice ma k mc)
            have hB9 := hid (belowS hBw.out yO np)
            have hO9 := hid (show OwnE 71 W9 _ 14 _ _ _ from hOE.out.kept (fun g hg => yO.block g (fun e2 => by subst e2; have := (hOE.out.lt _ hg).1; omega)))
            have hE9 := hid (show Els W9 14 ma k mc (entsV l) from hO9.out.els (by rw [entsV_len]; exact hlk.out) (entsV_m hlo.out))
            have ez0 := held_cell ya 0 _ rfl
            have ez1 := held_cell ya 1 _ rfl
            clear yO ya
            go_wp2_with fail
            refine bodyPost_ret (v := .tuple #[.agg #[.int .u32 (no : Int), .slice ma k mc], .int .i64 0]) (by simp [results, Try.results23, go_sem, ez0, ez1]) rfl ?_
            rw [hr.out]
            have hlk2 := hlk.out
            subst hlk2
            exact ⟨ma, mc, rfl, hE9.out, hB9.out, eTy_own hO9.out⟩
          have hj2 : j < 254 := by omega
          have cj := hatW.out j hj2
          have a0 := hid (all0 (zs := b.drop p) (k := i) hz0.out (by rw [hql.out]; omega))
          have a1 := hid (emptyV_false (zs := b.drop p) (k := i) (by rw [hql.out]; omega))
          have eg : (b.drop p).getD i 0 = b.getD j 0 := by rw [take_getD, hj]
          rw [eg] at a0 a1
          clear eg hz0
          have jz : (0 : Int) ≤ j := by omega
          have wj : IntKind.i64.wrap ((j : Int) + 1) = (j : Int) + 1 := by rw [IntKind.wrap_i64]; omega
          have hj3 := hid (show p + (i + 1) = j + 1 ∧ j + 1 ≤ 254 by omega)
          have hms := hid (show 254 - (j + 1) < 254 - j by omega)
          clear hj
          generalize b.getD j 0 = x at *
          by_cases hx : x = 0
          case pos =>
            have h9 := hid (a0.out hx)
            have hq : (x != 0) = false := by simp [hx]
            clear a0 a1 hx
            go_wp2_with fail
            go_roundw
            case rel => exact ⟨i + 1, by rw [hj3.out.1]; simp, by rw [hj3.out.1]; exact hj3.out.2, trivial, h9⟩
            case measure => simp [intOf]; omega
          have he := a1.out hx
          have hq : (x != 0) = true := by simp [hx]
          have f4 := f3.out
          rw [he] at f4
          have hr : Hid (r = (0, [], 3)) := hid f4
          clear f4 f3 he a0 a1 hx
          have z0 := held_cell r6 0 _ rfl
          have z1 := held_cell r6 1 _ rfl
          have g0 := held_free r6 0
          have g1 := held_free r6 1
          obtain ⟨W9, hW9, ya, yO⟩ := st2 r6 (.int .u32 0) (.slice none 0 0)
          have hB9 := hid (belowS hBw.out yO np)
          have ez0 := held_cell ya 0 _ rfl
          have ez1 := held_cell ya 1 _ rfl
          clear yO ya
          go_wp2_with fail
          refine bodyPost_ret (v := .tuple #[.agg #[.int .u32 0, .slice none 0 0], .int .i64 3]) (by simp [results, Try.results23, go_sem, ez0, ez1]) rfl ?_
          rw [hr.out]
          exact tkE_nil 3 hB9.out
      obtain ⟨hT, hvl, hvb⟩ := hst.out
      dsimp only at hT hvl hvb
      obtain ⟨a0, a1, a2, a3, a4, a5, a6, a7, a8, a9, a10, a11, rfl⟩ := list12 hvl
      have hyes := tkB_yes htk.out
      have hno := tkB_no htk.out
      have hqw : ∀ x ∈ b.drop p, (Lit.int .u8 x).wf = true := fun x hx => hbw.out x (List.mem_of_mem_drop hx)
      have hbk := entD_back (first := decide (k = 0)) hst.out hqw
      rw [hla.out] at hyes hno
      have hql : (b.drop p).length = 254 - p := by rw [List.length_drop, eb3.out]
      have kz : (0 : Int) ≤ k := by omega
      have pz : (0 : Int) ≤ p := by omega
      have wk : IntKind.i64.wrap ((k : Int) + 1) = (k : Int) + 1 := by rw [IntKind.wrap_i64]; omega
      have wp : IntKind.i64.wrap ((p : Int) + 1) = (p : Int) + 1 := by rw [IntKind.wrap_i64]; omega
      have hk1 := hid (show k + 1 ≤ m by omega)
      replace rwd := hid rwd
      replace rb := hid rb
      replace hOE := hid hOE
      replace hvb := hid hvb
      by_cases hp4 : p = 254
      case pos =>
        have hnil : b.drop p = [] := List.drop_of_length_le (by rw [eb3.out]; omega)
        rw [hnil] at hno
        have hr := hid (f2.out (tkB_none2 (hno rfl) hk1.out))
        have qp : ¬ (p : Int) < 254 := by omega
        have qp2 : (254 : Int) ≤ p := by omega
        clear hyes hno hbk hnil
        have z0 := held_cell r6 0 _ rfl
        have z1 := held_cell r6 1 _ rfl
        have g0 := held_free r6 0
        have g1 := held_free r6 1
        obtain ⟨W9, hW9, ya, yO⟩ := st2 r6 (.int .u32 0) (.slice none 0 0)
        have hB9 := hid (belowS hBw.out yO np)
        have ez0 := held_cell ya 0 _ rfl
        have ez1 := held_cell ya 1 _ rfl
        clear yO ya
        go_wp2_with fail
        refine bodyPost_ret (v := .tuple #[.agg #[.int .u32 0, .slice none 0 0], .int .i64 3]) (by simp [results, Try.results23, go_sem, ez0, ez1]) rfl ?_
        rw [hr.out]
        exact tkE_nil 3 hB9.out
      have hp5 : p < 254 := by omega
      have qp : ¬ (254 : Int) ≤ p := by omega
      have qp3 : (p : Int) < 254 := by omega
      have cp := hat.out wr hB p hp5
      have hqe : b.drop p = b.getD p 0 :: b.drop (p + 1) := drop_cons (by rw [eb3.out]; omega)
      have hdd := fun N : Nat => (List.drop_drop (i := N) (j := p) (l := b))
      rw [hqe] at hyes hno hbk hqw
      simp only [hqe] at hdd
      obtain ⟨c, hc⟩ : ∃ c, b.getD p 0 = c := ⟨_, rfl⟩
      rw [hc] at hyes hno hbk cp hqw
      simp only [hc] at hdd
      have hq1 := hid (fun x (hx : x ∈ b.drop (p + 1)) => hqw x (List.mem_cons_of_mem _ hx))
      clear hqw
      obtain ⟨qa2, hcut0, hcs0⟩ := cutSl (some ⟨ib, io, none⟩) 254 ic (p + 1) hsb.out.2.1 (by omega)
      have hcutp : ∀ W : World, (Instr.slice 22 (.slice (some ⟨ib, io, none⟩) 254 ic) (some (.int .i64 ((p : Int) + 1))) none none).run Try.prog W = .ok (.slice qa2 (254 - (p + 1)) (ic - (p + 1))) W := fun W => by rw [show (p : Int) + 1 = ((p + 1 : Nat) : Int) by omega]; exact hcut0 W
      clear hcut0
      have hq2 := hid (hcs0 V1 b hsb.out)
      clear hcs0
      obtain ⟨ql, hqle⟩ : ∃ z, 254 - (p + 1) = z := ⟨_, rfl⟩
      obtain ⟨qc, hqce⟩ : ∃ z, ic - (p + 1) = z := ⟨_, rfl⟩
      rw [hqle] at hcutp hq2
      rw [hqce] at hcutp hq2
      have hql9 : ql ≤ 100000 := by omega
      have hqln : (b.drop (p + 1)).length + 1 + p = 254 := by rw [List.length_drop, eb3.out]; omega
      clear hqle hqce hqe hc hql
      obtain ⟨q, hqd⟩ : ∃ z, b.drop (p + 1) = z := ⟨_, rfl⟩
      rw [hqd] at hyes hno hbk hq1 hq2 hqln
      simp only [hqd] at hdd
      clear hqd
      replace hdd := hid hdd
      by_cases c75 : c = 75
      case pos =>
        subst c75
        have e75 := fun f => (entD_cons (T, [a0, a1, a2, a3, a4, a5, a6, a7, a8, a9, a10, a11]) f 75 q).trans (if_pos rfl)
        rw [e75] at hyes hno hbk
        clear e75
        have kK := fun U h => rtakeKey_any qa2 ql qc q U h hq1.out hql9
        have kl := takK_len q
        have kn := takK_nl q
        dsimp only at hyes hno hbk
        obtain ⟨⟨⟨T2, v2⟩, n, er⟩, hq⟩ : ∃ z, takK q = z := ⟨_, rfl⟩
        rw [hq] at kK kl kn hyes hno hbk
        clear hq
        dsimp only at kK kl kn hyes hno hbk
        obtain ⟨y0, y1, y2, y3, y4, y5, y6, y7, y8, y9, y10, y11, rfl⟩ := list12 kl
        have kr : recA T2 [y0, y1, y2, y3, y4, y5, y6, y7, y8, y9, y10, y11] = .agg #[.int .u32 T2, .int .i32 y0, .int .i32 y1, .int .i32 y2, .int .i32 y3, .int .i32 y4, .int .i32 y5, .int .i32 y6, .int .i32 y7, .int .i32 y8, .int .i32 y9, .int .i32 y10, .int .i32 y11] := rfl
        rw [kr] at kK
        clear kr kl
        replace kK := hid kK
        replace hyes := hid hyes
        replace hno := hid hno
        replace hbk := hid hbk
        have kn1 := kn.1
        have kn2 := kn.2
        clear kn
        have nA := alloc_new wr (.cells (recC 0 zer12) 65)
        have hA := nA.2.1
        have rp0 := nA.2.2
        have sB0 := hB.size
        have hB7 := bthen hB hA
        have rb7 := held_after hA rb.out
        have rw7 := held_after hA rwd.out
        have hOE7 := hid (hOE.out.below hA)
        have dpb : pb ≠ wr.heap.size := by have := held_lt rb.out; omega
        have dpw : pw ≠ wr.heap.size := by have := held_lt rwd.out; omega
        have r67 := held_after hA r6
        clear nA hA
        go_upto_region 22 with (fail)
        obtain ⟨W3, hW3⟩ : ∃ X, wr.alloc (.cells (recC 0 zer12) 65) = X := ⟨_, rfl⟩
        have hW3b : wr.alloc (.cells #[.int .u32 0, .int .i32 0, .int .i32 0, .int .i32 0, .int .i32 0, .int .i32 0, .int .i32 0, .int .i32 0, .int .i32 0, .int .i32 0, .int .i32 0, .int .i32 0, .int .i32 0] 65) = W3 := hW3
        try rw [hW3b]
        rw [hW3] at rp0 rb7 rw7 hOE7 hB7 r67
        obtain ⟨pr, hpr⟩ : ∃ X, wr.heap.size = X := ⟨_, rfl⟩
        rw [hpr] at rp0 dpb dpw sB0
        try rw [hpr]
        clear hW3 hW3b hpr hOE rb rwd r6 hB hv1 cp hBw
        have hV3 := hc1f.out W3 hB7
        have cp3 := hat.out W3 hB7 p hp5
        replace rb7 := hid rb7
        replace rw7 := hid rw7
        replace r67 := hid r67
        replace rp0 := hid (show W3.heap[pr]? = some (.cells #[.int .u32 0, .int .i32 0, .int .i32 0, .int .i32 0, .int .i32 0, .int .i32 0, .int .i32 0, .int .i32 0, .int .i32 0, .int .i32 0, .int .i32 0, .int .i32 0, .int .i32 0] 65 (0, 0)) from rp0)
        go_wp2_with fail
        refine (kK.out _ (hq2.out.below hB7)).mono ?_
        rintro e V6 ⟨rfl, hA⟩
        have rp6 := held_after hA rp0.out
        have rb6 := held_after hA rb7.out
        have rw6 := held_after hA rw7.out
        have r66 := held_after hA r67.out
        have hOE6 := hid (hOE7.out.below hA)
        have hB6 := bthen hB7 hA
        clear hA rp0 rb7 rw7 r67 hOE7 hB7 kK hV3 cp3
        have y_0 := held_cell rp6 0 _ rfl
        have y_1 := held_cell rp6 1 _ rfl
        have y_2 := held_cell rp6 2 _ rfl
        have y_3 := held_cell rp6 3 _ rfl
        have y_4 := held_cell rp6 4 _ rfl
        have y_5 := held_cell rp6 5 _ rfl
        have y_6 := held_cell rp6 6 _ rfl
        have y_7 := held_cell rp6 7 _ rfl
        have y_8 := held_cell rp6 8 _ rfl
        have y_9 := held_cell rp6 9 _ rfl
        have y_10 := held_cell rp6 10 _ rfl
        have y_11 := held_cell rp6 11 _ rfl
        have y_12 := held_cell rp6 12 _ rfl
        have f_0 := held_free rp6 0
        have f_1 := held_free rp6 1
        have f_2 := held_free rp6 2
        have f_3 := held_free rp6 3
        have f_4 := held_free rp6 4
        have f_5 := held_free rp6 5
        have f_6 := held_free rp6 6
        have f_7 := held_free rp6 7
        have f_8 := held_free rp6 8
        have f_9 := held_free rp6 9
        have f_10 := held_free rp6 10
        have f_11 := held_free rp6 11
        have f_12 := held_free rp6 12
        obtain ⟨W5, hW5, ya, yO⟩ := st13 rp6 (.int .u32 T2) (.int .i32 y0) (.int .i32 y1) (.int .i32 y2) (.int .i32 y3) (.int .i32 y4) (.int .i32 y5) (.int .i32 y6) (.int .i32 y7) (.int .i32 y8) (.int .i32 y9) (.int .i32 y10) (.int .i32 y11)
        have rb5 := held_only yO dpb rb6
        have rw5 := held_only yO dpw rw6
        have r65 := held_only yO (show p0_0 ≠ pr by omega) r66
        have hO5 := hid (hOE6.out.kept (fun g hg => yO.block g (fun e2 => by subst e2; exact (hOE6.out.ne rp6 (by decide)) hg)))
        have hB5 := belowS hB6 yO (by omega)
        have rp5 := hid (show W5.heap[pr]? = some (.cells #[.int .u32 T2, .int .i32 y0, .int .i32 y1, .int .i32 y2, .int .i32 y3, .int .i32 y4, .int .i32 y5, .int .i32 y6, .int .i32 y7, .int .i32 y8, .int .i32 y9, .int .i32 y10, .int .i32 y11] 65 (0, 0)) from ya)
        clear ya yO rp6 rb6 rw6 r66 hOE6 hB6
        go_upto_region 25 with (fail)
        replace rb5 := hid rb5
        replace rw5 := hid rw5
        replace hB5 := hid hB5
        by_cases hey : er = 0
        case neg =>
          have qe : (er != 0) = true := by simp [hey]
          have hr := hid (f2.out (tkB_none2 (hno.out (by simpa using hey)) hk1.out))
          have hBw := hid (hB1.out.trans (hB5.out.mono sV))
          have z0 := held_cell r65 0 _ rfl
          have z1 := held_cell r65 1 _ rfl
          have g0 := held_free r65 0
          have g1 := held_free r65 1
          obtain ⟨W9, hW9, ya, yO⟩ := st2 r65 (.int .u32 0) (.slice none 0 0)
          have hB9 := hid (belowS hBw.out yO np)
          have ez0 := held_cell ya 0 _ rfl
          have ez1 := held_cell ya 1 _ rfl
          clear yO ya
          go_wp2_with fail
          refine bodyPost_ret (v := .tuple #[.agg #[.int .u32 0, .slice none 0 0], .int .i64 3]) (by simp [results, Try.results23, go_sem, ez0, ez1]) rfl ?_
          rw [hr.out]
          exact tkE_nil 3 hB9.out
        subst hey
        obtain ⟨N, hN1, hN2, hNl, -, hxo, -⟩ := hbk.out rfl
        have hy2 := hyes.out rfl
        rw [hN1, Int.toNat_natCast, hdd.out N] at hy2
        replace hyes := hid hy2
        clear hy2 hno hbk r65
        rw [List.length_cons] at hNl
        obtain ⟨p2, hp2⟩ : ∃ z, p + N = z := ⟨_, rfl⟩
        rw [hp2] at hyes
        have hp26 : 6 ≤ p2 := by omega
        have hp27 : p2 ≤ 254 := by omega
        have wn : IntKind.i64.wrap ((p : Int) + 1 + n) = (p2 : Int) := by rw [IntKind.wrap_i64]; omega
        clear hN1 hp2 hNl hN2
        have x0 := held_cell rp5.out 0 _ rfl
        have x1 := held_cell rp5.out 1 _ rfl
        have x2 := held_cell rp5.out 2 _ rfl
        have x3 := held_cell rp5.out 3 _ rfl
        have x4 := held_cell rp5.out 4 _ rfl
        have x5 := held_cell rp5.out 5 _ rfl
        have x6 := held_cell rp5.out 6 _ rfl
        have x7 := held_cell rp5.out 7 _ rfl
        have x8 := held_cell rp5.out 8 _ rfl
        have x9 := held_cell rp5.out 9 _ rfl
        have x10 := held_cell rp5.out 10 _ rfl
        have x11 := held_cell rp5.out 11 _ rfl
        have x12 := held_cell rp5.out 12 _ rfl
        have b0 := held_cell rb5.out 0 _ rfl
        have b1 := held_cell rb5.out 1 _ rfl
        have nC := alloc_new W5 (.cells #[.bool true, .int .u32 T2, .int .i32 y0, .int .i32 y1, .int .i32 y2, .int .i32 y3, .int .i32 y4, .int .i32 y5, .int .i32 y6, .int .i32 y7, .int .i32 y8, .int .i32 y9, .int .i32 y10, .int .i32 y11] 71)
        have hAC := nC.2.1
        have rC := nC.2.2
        have hEe := hid (els_blk (m := 14) rC rfl)
        have rb8 := held_after hAC rb5.out
        have rw8 := held_after hAC rw5.out
        have rx8 := held_after hAC rp5.out
        have hOE8 := hid (hO5.out.below hAC)
        have s7 := hB5.out.size
        have hB8 := bthen hB5.out hAC
        have s8 := hB8.size
        clear nC hAC rb5 rw5 rp5 hO5 hB5
        obtain ⟨W4, hW4⟩ : ∃ X, W5.alloc (.cells #[.bool true, .int .u32 T2, .int .i32 y0, .int .i32 y1, .int .i32 y2, .int .i32 y3, .int .i32 y4, .int .i32 y5, .int .i32 y6, .int .i32 y7, .int .i32 y8, .int .i32 y9, .int .i32 y10, .int .i32 y11] 71) = X := ⟨_, rfl⟩
        rw [hW4] at rC hEe rb8 rw8 rx8 hOE8 hB8 s8
        obtain ⟨pc, hpc⟩ : ∃ X, W5.heap.size = X := ⟨_, rfl⟩
        rw [hpc] at hEe s7
        clear rC
        have hEe2 : Els W4 14 (some ⟨pc, 0, none⟩) 1 1 [entC (true, T2, [y0, y1, y2, y3, y4, y5, y6, y7, y8, y9, y10, y11])] := hEe.out
        replace hEe := hid hEe2
        clear hEe2
        replace rb8 := hid rb8
        replace rw8 := hid rw8
        replace rx8 := hid rx8
        replace hB8 := hid hB8
        go_wp2_with (first | (at_builtin; refine wpList_appE rfl (.tmp 109) (.tmp 113) 24 rfl V1.heap.size 71 14 56 entO (by decide) (.slice ma k mc) k (entsV l).flatten rfl hOE8.out (some ⟨pc, 0, none⟩) 1 1 [entC (true, T2, [y0, y1, y2, y3, y4, y5, y6, y7, y8, y9, y10, y11])] rfl hEe.out (entC_one _) (by unfold maxLen; omega) (by omega) s8 ?_))
        intro a9 c9 W9 hO9 hG9 hN9
        have rb9 := (hG9.block pb (held_lt rb8.out) (fun e2 => hOE8.out.ne rb8.out (by decide) e2.symm)).trans rb8.out
        have rw9 := (hG9.block pw (held_lt rw8.out) (fun e2 => hOE8.out.ne rw8.out (by decide) e2.symm)).trans rw8.out
        have rx9 := (hG9.block pr (held_lt rx8.out) (fun e2 => hOE8.out.ne rx8.out (by decide) e2.symm)).trans rx8.out
        have hB9 := hB8.out.grown hG9 s8 (fun k2 e2 => (hOE8.out.lt k2 e2).1)
        clear rb8 rw8 rx8 hOE8 hB8 s8 hEe hG9 hN9
        have z1 := held_cell rb9 1 _ rfl
        have f1 := held_free rb9 1
        obtain ⟨S1, hS1, s1, o1⟩ := st1 rb9 1 (.slice a9 (k + 1) c9)
        have hOS := hid (show OwnE 71 S1 V1.heap.size 14 (.slice a9 (k + 1) c9) (k + 1) (entsV (l ++ [(true, T2, [y0, y1, y2, y3, y4, y5, y6, y7, y8, y9, y10, y11])])).flatten from by rw [entsV_snoc]; exact hO9.kept (fun g hg => o1.block g (fun e2 => by subst e2; exact (hO9.ne rb9 (by decide)) hg)))
        have rwS := held_only o1 (show pw ≠ pb from fun e => dbw e.symm) rw9
        have rxS := held_only o1 (show pr ≠ pb from fun e => dpb e.symm) rx9
        have hBS := belowS hB9 o1 (by omega)
        have s1b := hid (show S1.heap[pb]? = some (.cells #[.int .u32 (no : Int), .slice a9 (k + 1) c9] 26 (0, 0)) from s1)
        clear s1 o1 hO9 rb9 rw9 rx9 hB9 b0 b1 x0 x1 x2 x3 x4 x5 x6 x7 x8 x9 x10 x11 x12
        have x0 := held_cell rxS 0 _ rfl
        have x1 := held_cell rxS 1 _ rfl
        have x2 := held_cell rxS 2 _ rfl
        have x3 := held_cell rxS 3 _ rfl
        have x4 := held_cell rxS 4 _ rfl
        have x5 := held_cell rxS 5 _ rfl
        have x6 := held_cell rxS 6 _ rfl
        have x7 := held_cell rxS 7 _ rfl
        have x8 := held_cell rxS 8 _ rfl
        have x9 := held_cell rxS 9 _ rfl
        have x10 := held_cell rxS 10 _ rfl
        have x11 := held_cell rxS 11 _ rfl
        have x12 := held_cell rxS 12 _ rfl
        have y_0 := held_cell rwS 0 _ rfl
        have y_1 := held_cell rwS 1 _ rfl
        have y_2 := held_cell rwS 2 _ rfl
        have y_3 := held_cell rwS 3 _ rfl
        have y_4 := held_cell rwS 4 _ rfl
        have y_5 := held_cell rwS 5 _ rfl
        have y_6 := held_cell rwS 6 _ rfl
        have y_7 := held_cell rwS 7 _ rfl
        have y_8 := held_cell rwS 8 _ rfl
        have y_9 := held_cell rwS 9 _ rfl
        have y_10 := held_cell rwS 10 _ rfl
        have y_11 := held_cell rwS 11 _ rfl
        have y_12 := held_cell rwS 12 _ rfl
        have f_0 := held_free rwS 0
        have f_1 := held_free rwS 1
        have f_2 := held_free rwS 2
        have f_3 := held_free rwS 3
        have f_4 := held_free rwS 4
        have f_5 := held_free rwS 5
        have f_6 := held_free rwS 6
        have f_7 := held_free rwS 7
        have f_8 := held_free rwS 8
        have f_9 := held_free rwS 9
        have f_10 := held_free rwS 10
        have f_11 := held_free rwS 11
        have f_12 := held_free rwS 12
        obtain ⟨W6, hW6, ya, yO⟩ := st13 rwS (.int .u32 T2) (.int .i32 y0) (.int .i32 y1) (.int .i32 y2) (.int .i32 y3) (.int .i32 y4) (.int .i32 y5) (.int .i32 y6) (.int .i32 y7) (.int .i32 y8) (.int .i32 y9) (.int .i32 y10) (.int .i32 y11)
        have ya2 := hid (show W6.heap[pw]? = some (.cells (recC T2 [y0, y1, y2, y3, y4, y5, y6, y7, y8, y9, y10, y11]) 65 (0, 0)) from ya)
        have hB6 := hid (belowS hBS yO (by omega))
        have hO6 := hid (hOS.out.kept (fun g hg => yO.block g (fun e2 => by subst e2; exact (hOS.out.ne rwS (by decide)) hg)))
        have rb6 := hid (held_only yO dbw s1b.out)
        clear ya yO rwS rxS hBS hOS s1b
        have hxo2 := hid (show ∀ x ∈ l ++ [((true, T2, [y0, y1, y2, y3, y4, y5, y6, y7, y8, y9, y10, y11]) : En)], EnOk x from fun x hx => (List.mem_append.1 hx).elim (hlo.out x) (fun h => by rw [List.mem_singleton] at h; subst h; exact hxo))
        have hst2 := hid (show StK (T2, [y0, y1, y2, y3, y4, y5, y6, y7, y8, y9, y10, y11]) from ⟨hxo.1, hxo.2.1, hxo.2.2⟩)
        have hlk3 := hid (show (l ++ [((true, T2, [y0, y1, y2, y3, y4, y5, y6, y7, y8, y9, y10, y11]) : En)]).length = k + 1 by rw [List.length_append, hlk.out]; rfl)
        have hla3 := hid (lastR_snoc (0, zer12) l (true, T2, [y0, y1, y2, y3, y4, y5, y6, y7, y8, y9, y10, y11]))
        clear hxo hlo hlk hst
        go_wp2_with fail
        go_roundw
        case rel => exact ⟨k + 1, l ++ [(true, T2, [y0, y1, y2, y3, y4, y5, y6, y7, y8, y9, y10, y11])], p2, a9, c9, T2, [y0, y1, y2, y3, y4, y5, y6, y7, y8, y9, y10, y11], hk1.out, by simp, rfl, hp26, hp27, hyes, hlk3, hxo2, rb6.out, hO6.out, hla3, hst2, ya2.out, hB6.out⟩
        case measure => simp [intOf]; omega
      have q75 : (c != 75) = true := by simpa using c75
      by_cases hd : c = 68 ∧ k ≠ 0
      case pos =>
        obtain ⟨rfl, hk0⟩ := hd
        have qk : ((k : Int) == 0) = false := by rw [int_zero]; simpa using hk0
        have e75 := (entD_cons (T, [a0, a1, a2, a3, a4, a5, a6, a7, a8, a9, a10, a11]) (decide (k = 0)) 68 q).trans ((if_neg c75).trans (if_pos ⟨rfl, by simpa using hk0⟩))
        rw [e75] at hyes hno hbk
        clear e75
        have kK := fun U h => rtakeDelta_any T a0 a1 a2 a3 a4 a5 a6 a7 a8 a9 a10 a11 qa2 ql qc q U h hq1.out hql9 hT hvb.out
        have kl := takD_len T (a := [a0, a1, a2, a3, a4, a5, a6, a7, a8, a9, a10, a11]) rfl q
        have kn := takD_n T [a0, a1, a2, a3, a4, a5, a6, a7, a8, a9, a10, a11] hq1.out
        dsimp only at hyes hno hbk
        obtain ⟨⟨⟨T2, v2⟩, n, er⟩, hq⟩ : ∃ z, takD T [a0, a1, a2, a3, a4, a5, a6, a7, a8, a9, a10, a11] q = z := ⟨_, rfl⟩
        rw [hq] at kK kl kn hyes hno hbk
        clear hq
        dsimp only at kK kl kn hyes hno hbk
        obtain ⟨y0, y1, y2, y3, y4, y5, y6, y7, y8, y9, y10, y11, rfl⟩ := list12 kl
        have kr : recA T2 [y0, y1, y2, y3, y4, y5, y6, y7, y8, y9, y10, y11] = .agg #[.int .u32 T2, .int .i32 y0, .int .i32 y1, .int .i32 y2, .int .i32 y3, .int .i32 y4, .int .i32 y5, .int .i32 y6, .int .i32 y7, .int .i32 y8, .int .i32 y9, .int .i32 y10, .int .i32 y11] := rfl
        rw [kr] at kK
        clear kr kl
        replace kK := hid kK
        replace hyes := hid hyes
        replace hno := hid hno
        replace hbk := hid hbk
        have kn1 := kn.1
        have kn2 := kn.2
        clear kn
        have nA := alloc_new wr (.cells (recC 0 zer12) 65)
        have hA := nA.2.1
        have rp0 := nA.2.2
        have sB0 := hB.size
        have hB7 := bthen hB hA
        have rb7 := held_after hA rb.out
        have rw7 := held_after hA rwd.out
        have hOE7 := hid (hOE.out.below hA)
        have dpb : pb ≠ wr.heap.size := by have := held_lt rb.out; omega
        have dpw : pw ≠ wr.heap.size := by have := held_lt rwd.out; omega
        have r67 := held_after hA r6
        clear nA hA
        go_upto_region 22 with (fail)
        obtain ⟨W3, hW3⟩ : ∃ X, wr.alloc (.cells (recC 0 zer12) 65) = X := ⟨_, rfl⟩
        have hW3b : wr.alloc (.cells #[.int .u32 0, .int .i32 0, .int .i32 0, .int .i32 0, .int .i32 0, .int .i32 0, .int .i32 0, .int .i32 0, .int .i32 0, .int .i32 0, .int .i32 0, .int .i32 0, .int .i32 0] 65) = W3 := hW3
        try rw [hW3b]
        rw [hW3] at rp0 rb7 rw7 hOE7 hB7 r67
        obtain ⟨pr, hpr⟩ : ∃ X, wr.heap.size = X := ⟨_, rfl⟩
        rw [hpr] at rp0 dpb dpw sB0
        try rw [hpr]
        clear hW3 hW3b hpr hOE rb rwd r6 hB hv1 cp hBw
        have hV3 := hc1f.out W3 hB7
        have cp3 := hat.out W3 hB7 p hp5
        replace rb7 := hid rb7
        replace rw7 := hid rw7
        replace r67 := hid r67
        replace rp0 := hid (show W3.heap[pr]? = some (.cells #[.int .u32 0, .int .i32 0, .int .i32 0, .int .i32 0, .int .i32 0, .int .i32 0, .int .i32 0, .int .i32 0, .int .i32 0, .int .i32 0, .int .i32 0, .int .i32 0, .int .i32 0] 65 (0, 0)) from rp0)
        go_upto_region 24 with (fail)
        obtain ⟨QQ, hQQ⟩ : ∃ X, W3.drew = X := ⟨_, rfl⟩
        have wQ := (show W3.drew.heap[pw]? = some (.cells #[.int .u32 T, .int .i32 a0, .int .i32 a1, .int .i32 a2, .int .i32 a3, .int .i32 a4, .int .i32 a5, .int .i32 a6, .int .i32 a7, .int .i32 a8, .int .i32 a9, .int .i32 a10, .int .i32 a11] 65 (0, 0)) from rw7.out)
        have pQ := (show W3.drew.heap[pr]? = _ from rp0.out)
        have bQ := (show W3.drew.heap[pb]? = _ from rb7.out)
        have zQ := (show W3.drew.heap[p0_0]? = _ from r67.out)
        have oQ := (show OwnE _ W3.drew _ _ _ _ _ from hOE7.out)
        have hBQ := hB7.drew
        rw [hQQ] at wQ pQ bQ zQ oQ hBQ
        have hq4 := hid (hq2.out.below hBQ)
        clear rp0 rb7 rw7 r67 hOE7 hV3 cp3
        have lra := held_lt wQ
        refine wp_region_K (N := QQ.heap.size) (X := [pr]) (by kernel_rfl) ?_
        rw [hQQ]
        refine wpAnyK_take 0 rfl (by kernel_rfl) (by kernel_rfl) (by kernel_rfl) (fun _ _ _ _ h => h) ⟨_, Or.inl ⟨by rfl, fun w2 hb => by (have g0 := hb.cellB (p := ⟨pw, 0, none⟩) (by show pw < _; exact lra) (by simp; exact dpw) (held_cell wQ 0 _ rfl); have g1 := hb.cellB (p := ⟨pw, 1, none⟩) (by show pw < _; exact lra) (by simp; exact dpw) (held_cell wQ 1 _ rfl); have g2 := hb.cellB (p := ⟨pw, 2, none⟩) (by show pw < _; exact lra) (by simp; exact dpw) (held_cell wQ 2 _ rfl); have g3 := hb.cellB (p := ⟨pw, 3, none⟩) (by show pw < _; exact lra) (by simp; exact dpw) (held_cell wQ 3 _ rfl); have g4 := hb.cellB (p := ⟨pw, 4, none⟩) (by show pw < _; exact lra) (by simp; exact dpw) (held_cell wQ 4 _ rfl); have g5 := hb.cellB (p := ⟨pw, 5, none⟩) (by show pw < _; exact lra) (by simp; exact dpw) (held_cell wQ 5 _ rfl); have g6 := hb.cellB (p := ⟨pw, 6, none⟩) (by show pw < _; exact lra) (by simp; exact dpw) (held_cell wQ 6 _ rfl); have g7 := hb.cellB (p := ⟨pw, 7, none⟩) (by show pw < _; exact lra) (by simp; exact dpw) (held_cell wQ 7 _ rfl); have g8 := hb.cellB (p := ⟨pw, 8, none⟩) (by show pw < _; exact lra) (by simp; exact dpw) (held_cell wQ 8 _ rfl); have g9 := hb.cellB (p := ⟨pw, 9, none⟩) (by show pw < _; exact lra) (by simp; exact dpw) (held_cell wQ 9 _ rfl); have g10 := hb.cellB (p := ⟨pw, 10, none⟩) (by show pw < _; exact lra) (by simp; exact dpw) (held_cell wQ 10 _ rfl); have g11 := hb.cellB (p := ⟨pw, 11, none⟩) (by show pw < _; exact lra) (by simp; exact dpw) (held_cell wQ 11 _ rfl); have g12 := hb.cellB (p := ⟨pw, 12, none⟩) (by show pw < _; exact lra) (by simp; exact dpw) (held_cell wQ 12 _ rfl); go_simp; try with_reducible rfl)⟩, _, by (go_simp; try rfl), ?_⟩
        refine wpAnyK_take 1 rfl (by kernel_rfl) (by kernel_rfl) (by kernel_rfl) (fun _ _ _ _ h => h) ⟨_, Or.inl ⟨by rfl, fun w2 hb => by (go_simp; try with_reducible rfl)⟩, _, by (go_simp; try rfl), ?_⟩
        refine wpAnyK_take 2 rfl (by kernel_rfl) (by kernel_rfl) (by kernel_rfl) (fun _ _ _ _ h => h) ⟨_, Or.inl ⟨by rfl, fun w2 hb => by (go_simp; try with_reducible rfl)⟩, _, by (go_simp; try rfl), ?_⟩
        refine wpAnyK_take 3 rfl (by kernel_rfl) (by kernel_rfl) (by kernel_rfl) (fun _ _ _ _ h => h) ⟨_, Or.inl ⟨by rfl, fun w2 hb => by (go_simp; try with_reducible rfl)⟩, _, by (go_simp; try rfl), ?_⟩
        refine wpAnyK_take 4 rfl (by kernel_rfl) (by kernel_rfl) (by kernel_rfl) (fun _ _ _ _ h => h) ⟨_, Or.inl ⟨by rfl, fun w2 hb => by (go_simp; try with_reducible rfl)⟩, _, by (go_simp; try rfl), ?_⟩
        refine wpAnyK_only 5 rfl (by kernel_rfl) (by rfl) (fun K hK => ?_)
        go_simp
        refine (kK.out _ hq4.out).mono ?_
        rintro e V6 ⟨rfl, hA⟩
        have kp := Kp.of (X := [pr]) hA (Nat.le_refl _)
        have rp6 := held_after hA pQ
        have rb6 := held_after hA bQ
        have rw6 := held_after hA wQ
        have r66 := held_after hA zQ
        have hOE6 := hid (oQ.below hA)
        have hB6 := bthen hBQ hA
        clear hA
        go_simp
        refine hK _ _ ⟨kp, ?_⟩
        clear hK
        clear kp
        refine wpAnyK_take 6 rfl (by kernel_rfl) (by kernel_rfl) (by kernel_rfl) (fun _ _ _ _ h => h) ⟨_, Or.inl ⟨by rfl, fun w2 hb => by (go_simp; try with_reducible rfl)⟩, _, by (go_simp; try rfl), ?_⟩
        refine wpAnyK_take 7 rfl (by kernel_rfl) (by kernel_rfl) (by kernel_rfl) (fun _ _ _ _ h => h) ⟨_, Or.inl ⟨by rfl, fun w2 hb => by (go_simp; try with_reducible rfl)⟩, _, by (go_simp; try rfl), ?_⟩
        refine wpAnyK_take 8 rfl (by kernel_rfl) (by kernel_rfl) (by kernel_rfl) (fun _ _ _ _ h => h) ⟨_, Or.inl ⟨by rfl, fun w2 hb => by (go_simp; try with_reducible rfl)⟩, _, by (go_simp; try rfl), ?_⟩
        refine wpAnyK_take 9 rfl (by kernel_rfl) (by kernel_rfl) (by kernel_rfl) (fun _ _ _ _ h => h) ⟨_, Or.inl ⟨by rfl, fun w2 hb => by (go_simp; try with_reducible rfl)⟩, _, by (go_simp; try rfl), ?_⟩
        refine wpAnyK_only 10 rfl (by kernel_rfl) (by rfl) (fun K hK => ?_)
        have y_0 := held_cell rp6 0 _ rfl
        have y_1 := held_cell rp6 1 _ rfl
        have y_2 := held_cell rp6 2 _ rfl
        have y_3 := held_cell rp6 3 _ rfl
        have y_4 := held_cell rp6 4 _ rfl
        have y_5 := held_cell rp6 5 _ rfl
        have y_6 := held_cell rp6 6 _ rfl
        have y_7 := held_cell rp6 7 _ rfl
        have y_8 := held_cell rp6 8 _ rfl
        have y_9 := held_cell rp6 9 _ rfl
        have y_10 := held_cell rp6 10 _ rfl
        have y_11 := held_cell rp6 11 _ rfl
        have y_12 := held_cell rp6 12 _ rfl
        have f_0 := held_free rp6 0
        have f_1 := held_free rp6 1
        have f_2 := held_free rp6 2
        have f_3 := held_free rp6 3
        have f_4 := held_free rp6 4
        have f_5 := held_free rp6 5
        have f_6 := held_free rp6 6
        have f_7 := held_free rp6 7
        have f_8 := held_free rp6 8
        have f_9 := held_free rp6 9
        have f_10 := held_free rp6 10
        have f_11 := held_free rp6 11
        have f_12 := held_free rp6 12
        obtain ⟨W5, hW5, ya, yO⟩ := st13 rp6 (.int .u32 T2) (.int .i32 y0) (.int .i32 y1) (.int .i32 y2) (.int .i32 y3) (.int .i32 y4) (.int .i32 y5) (.int .i32 y6) (.int .i32 y7) (.int .i32 y8) (.int .i32 y9) (.int .i32 y10) (.int .i32 y11)
        have rb5 := held_only yO dpb rb6
        have rw5 := held_only yO dpw rw6
        have r65 := held_only yO (show p0_0 ≠ pr by omega) r66
        have hO5 := hid (hOE6.out.kept (fun g hg => yO.block g (fun e2 => by subst e2; exact (hOE6.out.ne rp6 (by decide)) hg)))
        have hB5 := belowS hB6 yO (by omega)
        have rp5 := hid (show W5.heap[pr]? = some (.cells #[.int .u32 T2, .int .i32 y0, .int .i32 y1, .int .i32 y2, .int .i32 y3, .int .i32 y4, .int .i32 y5, .int .i32 y6, .int .i32 y7, .int .i32 y8, .int .i32 y9, .int .i32 y10, .int .i32 y11] 65 (0, 0)) from ya)
        have kp : Kp QQ.heap.size [pr] V6 W5 := ⟨yO.os, yO.tape, yO.output, Nat.le_of_eq yO.size.symm, fun k _ hk => yO.block k (fun e => hk (by rw [e]; simp))⟩
        clear yO ya rp6 rb6 rw6 r66 hOE6 hB6
        go_simp
        refine hK _ _ ⟨kp, ?_⟩
        clear hK
        clear kp
        refine wpAnyK_take 11 rfl (by kernel_rfl) (by kernel_rfl) (by kernel_rfl) (fun _ _ _ _ h => h) ⟨_, Or.inl ⟨by rfl, fun w2 hb => by (go_simp; try with_reducible rfl)⟩, _, by (go_simp; try rfl), ?_⟩
        refine wpAnyK_take 12 rfl (by kernel_rfl) (by kernel_rfl) (by kernel_rfl) (fun _ _ _ _ h => h) ⟨_, Or.inl ⟨by rfl, fun w2 hb => by (go_simp; try with_reducible rfl)⟩, _, by (go_simp; try rfl), ?_⟩
        refine wpAnyK_done (by kernel_rfl) ?_ _
        clear wQ pQ bQ zQ oQ hBQ hQQ hq4 kK
        go_upto_region 25 with (fail)
        replace rb5 := hid rb5
        replace rw5 := hid rw5
        replace hB5 := hid hB5
        by_cases hey : er = 0
        case neg =>
          have qe : (er != 0) = true := by simp [hey]
          have hr := hid (f2.out (tkB_none2 (hno.out (by simpa using hey)) hk1.out))
          have hBw := hid (hB1.out.trans (hB5.out.mono sV))
          have z0 := held_cell r65 0 _ rfl
          have z1 := held_cell r65 1 _ rfl
          have g0 := held_free r65 0
          have g1 := held_free r65 1
          obtain ⟨W9, hW9, ya, yO⟩ := st2 r65 (.int .u32 0) (.slice none 0 0)
          have hB9 := hid (belowS hBw.out yO np)
          have ez0 := held_cell ya 0 _ rfl
          have ez1 := held_cell ya 1 _ rfl
          clear yO ya
          go_wp2_with fail
          refine bodyPost_ret (v := .tuple #[.agg #[.int .u32 0, .slice none 0 0], .int .i64 3]) (by simp [results, Try.results23, go_sem, ez0, ez1]) rfl ?_
          rw [hr.out]
          exact tkE_nil 3 hB9.out
        subst hey
        obtain ⟨N, hN1, hN2, hNl, -, hxo, -⟩ := hbk.out rfl
        have hy2 := hyes.out rfl
        rw [hN1, Int.toNat_natCast, hdd.out N] at hy2
        replace hyes := hid hy2
        clear hy2 hno hbk r65
        rw [List.length_cons] at hNl
        obtain ⟨p2, hp2⟩ : ∃ z, p + N = z := ⟨_, rfl⟩
        rw [hp2] at hyes
        have hp26 : 6 ≤ p2 := by omega
        have hp27 : p2 ≤ 254 := by omega
        have wn : IntKind.i64.wrap ((p : Int) + 1 + n) = (p2 : Int) := by rw [IntKind.wrap_i64]; omega
        clear hN1 hp2 hNl hN2
        have x0 := held_cell rp5.out 0 _ rfl
        have x1 := held_cell rp5.out 1 _ rfl
        have x2 := held_cell rp5.out 2 _ rfl
        have x3 := held_cell rp5.out 3 _ rfl
        have x4 := held_cell rp5.out 4 _ rfl
        have x5 := held_cell rp5.out 5 _ rfl
        have x6 := held_cell rp5.out 6 _ rfl
        have x7 := held_cell rp5.out 7 _ rfl
        have x8 := held_cell rp5.out 8 _ rfl
        have x9 := held_cell rp5.out 9 _ rfl
        have x10 := held_cell rp5.out 10 _ rfl
        have x11 := held_cell rp5.out 11 _ rfl
        have x12 := held_cell rp5.out 12 _ rfl
        have b0 := held_cell rb5.out 0 _ rfl
        have b1 := held_cell rb5.out 1 _ rfl
        have nC := alloc_new W5 (.cells #[.bool false, .int .u32 T2, .int .i32 y0, .int .i32 y1, .int .i32 y2, .int .i32 y3, .int .i32 y4, .int .i32 y5, .int .i32 y6, .int .i32 y7, .int .i32 y8, .int .i32 y9, .int .i32 y10, .int .i32 y11] 71)
        have hAC := nC.2.1
        have rC := nC.2.2
        have hEe := hid (els_blk (m := 14) rC rfl)
        have rb8 := held_after hAC rb5.out
        have rw8 := held_after hAC rw5.out
        have rx8 := held_after hAC rp5.out
        have hOE8 := hid (hO5.out.below hAC)
        have s7 := hB5.out.size
        have hB8 := bthen hB5.out hAC
        have s8 := hB8.size
        clear nC hAC rb5 rw5 rp5 hO5 hB5
        obtain ⟨W4, hW4⟩ : ∃ X, W5.alloc (.cells #[.bool false, .int .u32 T2, .int .i32 y0, .int .i32 y1, .int .i32 y2, .int .i32 y3, .int .i32 y4, .int .i32 y5, .int .i32 y6, .int .i32 y7, .int .i32 y8, .int .i32 y9, .int .i32 y10, .int .i32 y11] 71) = X := ⟨_, rfl⟩
        rw [hW4] at rC hEe rb8 rw8 rx8 hOE8 hB8 s8
        obtain ⟨pc, hpc⟩ : ∃ X, W5.heap.size = X := ⟨_, rfl⟩
        rw [hpc] at hEe s7
        clear rC
        have hEe2 : Els W4 14 (some ⟨pc, 0, none⟩) 1 1 [entC (false, T2, [y0, y1, y2, y3, y4, y5, y6, y7, y8, y9, y10, y11])] := hEe.out
        replace hEe := hid hEe2
        clear hEe2
        replace rb8 := hid rb8
        replace rw8 := hid rw8
        replace rx8 := hid rx8
        replace hB8 := hid hB8
        go_wp2_with (first | (at_builtin; refine wpList_appE rfl (.tmp 109) (.tmp 113) 24 rfl V1.heap.size 71 14 56 entO (by decide) (.slice ma k mc) k (entsV l).flatten rfl hOE8.out (some ⟨pc, 0, none⟩) 1 1 [entC (false, T2, [y0, y1, y2, y3, y4, y5, y6, y7, y8, y9, y10, y11])] rfl hEe.out (entC_one _) (by unfold maxLen; omega) (by omega) s8 ?_))
        intro a9 c9 W9 hO9 hG9 hN9
        have rb9 := (hG9.block pb (held_lt rb8.out) (fun e2 => hOE8.out.ne rb8.out (by decide) e2.symm)).trans rb8.out
        have rw9 := (hG9.block pw (held_lt rw8.out) (fun e2 => hOE8.out.ne rw8.out (by decide) e2.symm)).trans rw8.out
        have rx9 := (hG9.block pr (held_lt rx8.out) (fun e2 => hOE8.out.ne rx8.out (by decide) e2.symm)).trans rx8.out
        have hB9 := hB8.out.grown hG9 s8 (fun k2 e2 => (hOE8.out.lt k2 e2).1)
        clear rb8 rw8 rx8 hOE8 hB8 s8 hEe hG9 hN9
        have z1 := held_cell rb9 1 _ rfl
        have f1 := held_free rb9 1
        obtain ⟨S1, hS1, s1, o1⟩ := st1 rb9 1 (.slice a9 (k + 1) c9)
        have hOS := hid (show OwnE 71 S1 V1.heap.size 14 (.slice a9 (k + 1) c9) (k + 1) (entsV (l ++ [(false, T2, [y0, y1, y2, y3, y4, y5, y6, y7, y8, y9, y10, y11])])).flatten from by rw [entsV_snoc]; exact hO9.kept (fun g hg => o1.block g (fun e2 => by subst e2; exact (hO9.ne rb9 (by decide)) hg)))
        have rwS := held_only o1 (show pw ≠ pb from fun e => dbw e.symm) rw9
        have rxS := held_only o1 (show pr ≠ pb from fun e => dpb e.symm) rx9
        have hBS := belowS hB9 o1 (by omega)
        have s1b := hid (show S1.heap[pb]? = some (.cells #[.int .u32 (no : Int), .slice a9 (k + 1) c9] 26 (0, 0)) from s1)
        clear s1 o1 hO9 rb9 rw9 rx9 hB9 b0 b1 x0 x1 x2 x3 x4 x5 x6 x7 x8 x9 x10 x11 x12
        have x0 := held_cell rxS 0 _ rfl
        have x1 := held_cell rxS 1 _ rfl
        have x2 := held_cell rxS 2 _ rfl
        have x3 := held_cell rxS 3 _ rfl
        have x4 := held_cell rxS 4 _ rfl
        have x5 := held_cell rxS 5 _ rfl
        have x6 := held_cell rxS 6 _ rfl
        have x7 := held_cell rxS 7 _ rfl
        have x8 := held_cell rxS 8 _ rfl
        have x9 := held_cell rxS 9 _ rfl
        have x10 := held_cell rxS 10 _ rfl
        have x11 := held_cell rxS 11 _ rfl
        have x12 := held_cell rxS 12 _ rfl
        have y_0 := held_cell rwS 0 _ rfl
        have y_1 := held_cell rwS 1 _ rfl
        have y_2 := held_cell rwS 2 _ rfl
        have y_3 := held_cell rwS 3 _ rfl
        have y_4 := held_cell rwS 4 _ rfl
        have y_5 := held_cell rwS 5 _ rfl
        have y_6 := held_cell rwS 6 _ rfl
        have y_7 := held_cell rwS 7 _ rfl
        have y_8 := held_cell rwS 8 _ rfl
        have y_9 := held_cell rwS 9 _ rfl
        have y_10 := held_cell rwS 10 _ rfl
        have y_11 := held_cell rwS 11 _ rfl
        have y_12 := held_cell rwS 12 _ rfl
        have f_0 := held_free rwS 0
        have f_1 := held_free rwS 1
        have f_2 := held_free rwS 2
        have f_3 := held_free rwS 3
        have f_4 := held_free rwS 4
        have f_5 := held_free rwS 5
        have f_6 := held_free rwS 6
        have f_7 := held_free rwS 7
        have f_8 := held_free rwS 8
        have f_9 := held_free rwS 9
        have f_10 := held_free rwS 10
        have f_11 := held_free rwS 11
        have f_12 := held_free rwS 12
        obtain ⟨W6, hW6, ya, yO⟩ := st13 rwS (.int .u32 T2) (.int .i32 y0) (.int .i32 y1) (.int .i32 y2) (.int .i32 y3) (.int .i32 y4) (.int .i32 y5) (.int .i32 y6) (.int .i32 y7) (.int .i32 y8) (.int .i32 y9) (.int .i32 y10) (.int .i32 y11)
        have ya2 := hid (show W6.heap[pw]? = some (.cells (recC T2 [y0, y1, y2, y3, y4, y5, y6, y7, y8, y9, y10, y11]) 65 (0, 0)) from ya)
        have hB6 := hid (belowS hBS yO (by omega))
        have hO6 := hid (hOS.out.kept (fun g hg => yO.block g (fun e2 => by subst e2; exact (hOS.out.ne rwS (by decide)) hg)))
        have rb6 := hid (held_only yO dbw s1b.out)
        clear ya yO rwS rxS hBS hOS s1b
        have hxo2 := hid (show ∀ x ∈ l ++ [((false, T2, [y0, y1, y2, y3, y4, y5, y6, y7, y8, y9, y10, y11]) : En)], EnOk x from fun x hx => (List.mem_append.1 hx).elim (hlo.out x) (fun h => by rw [List.mem_singleton] at h; subst h; exact hxo))
        have hst2 := hid (show StK (T2, [y0, y1, y2, y3, y4, y5, y6, y7, y8, y9, y10, y11]) from ⟨hxo.1, hxo.2.1, hxo.2.2⟩)
        have hlk3 := hid (show (l ++ [((false, T2, [y0, y1, y2, y3, y4, y5, y6, y7, y8, y9, y10, y11]) : En)]).length = k + 1 by rw [List.length_append, hlk.out]; rfl)
        have hla3 := hid (lastR_snoc (0, zer12) l (false, T2, [y0, y1, y2, y3, y4, y5, y6, y7, y8, y9, y10, y11]))
        clear hxo hlo hlk hst
        go_wp2_with fail
        go_roundw
        case rel => exact ⟨k + 1, l ++ [(false, T2, [y0, y1, y2, y3, y4, y5, y6, y7, y8, y9, y10, y11])], p2, a9, c9, T2, [y0, y1, y2, y3, y4, y5, y6, y7, y8, y9, y10, y11], hk1.out, by simp, rfl, hp26, hp27, hyes, hlk3, hxo2, rb6.out, hO6.out, hla3, hst2, ya2.out, hB6.out⟩
        case measure => simp [intOf]; omega
      have e75 : entD (T, [a0, a1, a2, a3, a4, a5, a6, a7, a8, a9, a10, a11]) (decide (k = 0)) (c :: q) = (noE, 0, false) := (entD_cons _ _ _ _).trans ((if_neg c75).trans (if_neg (fun h => hd ⟨h.1, by simpa using h.2⟩)))
      rw [e75] at hno
      have hr := hid (f2.out (tkB_none2 (hno rfl) hk1.out))
      clear hyes hno hbk e75
      by_cases c68 : c = 68
      case pos =>
        have hk0 : k = 0 := by rcases Nat.eq_zero_or_pos k with h | h; exact h; exact absurd ⟨c68, by omega⟩ hd
        subst c68
        have qk : ((k : Int) == 0) = true := by rw [int_zero, hk0]; rfl
        have z0 := held_cell r6 0 _ rfl
        have z1 := held_cell r6 1 _ rfl
        have g0 := held_free r6 0
        have g1 := held_free r6 1
        obtain ⟨W9, hW9, ya, yO⟩ := st2 r6 (.int .u32 0) (.slice none 0 0)
        have hB9 := hid (belowS hBw.out yO np)
        have ez0 := held_cell ya 0 _ rfl
        have ez1 := held_cell ya 1 _ rfl
        clear yO ya
        go_wp2_with fail
        refine bodyPost_ret (v := .tuple #[.agg #[.int .u32 0, .slice none 0 0], .int .i64 3]) (by simp [results, Try.results23, go_sem, ez0, ez1]) rfl ?_
        rw [hr.out]
        exact tkE_nil 3 hB9.out
      have q68 : (c != 68) = true := by simpa using c68
      have z0 := held_cell r6 0 _ rfl
      have z1 := held_cell r6 1 _ rfl
      have g0 := held_free r6 0
      have g1 := held_free r6 1
      obtain ⟨W9, hW9, ya, yO⟩ := st2 r6 (.int .u32 0) (.slice none 0 0)
      have hB9 := hid (belowS hBw.out yO np)
      have ez0 := held_cell ya 0 _ rfl
      have ez1 := held_cell ya 1 _ rfl
      clear yO ya
      go_wp2_with fail
      refine bodyPost_ret (v := .tuple #[.agg #[.int .u32 0, .slice none 0 0], .int .i64 3]) (by simp [results, Try.results23, go_sem, ez0, ez1]) rfl ?_
      rw [hr.out]
      exact tkE_nil 3 hB9.out
theorem rbtake_any (ba : Option Addr) (bl bc : Nat) (zs : List Int) (w : World) (hS : Sl .u8 w ba bl bc zs) (hz : ∀ x ∈ zs, (Lit.int .u8 x).wf = true) (hbl : bl ≤ 100000) : Calls Try.prog 23 #[.slice ba bl bc] w (TkB w (takB zs)) := (rbtake_et ba bl bc zs w hS hz hbl).mono fun _ _ h => tkE_B h

end Go.Proofs.Ytlfbhfmchdbnoaa
