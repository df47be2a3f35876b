/- Package block: Take. -/
import Derived.Test.YtlfbhfmchdbnoaaBlkM
import Derived.Deep.DeepCutAuto
namespace Go.Proofs.Ytlfbhfmchdbnoaa
open Go.ChangeShapes Go.WideShapes Go.ChangeAt Go.RowKit
set_option linter.unusedVariables false
set_option linter.unusedSimpArgs false

theorem entO : CellsOf Try.prog 24 71 14 56 := ⟨Try.underlying24, by kernel_rfl⟩
theorem els_blk {w : World} {cs : Array Value} {E : TypeId} {p m : Nat} (h : w.heap[p]? = some (.cells cs E (0, 0))) (hm : cs.size = m) : Els w m (some ⟨p, 0, none⟩) 1 1 [cs.toList] := by
  refine ⟨rfl, Nat.le_refl _, by unfold maxLen; omega, (fun e => by cases e), fun i x hx => ?_⟩
  obtain rfl : i = 0 := by
    have := (List.getElem?_eq_some_iff.1 hx).1
    simp at this; exact this
  simp at hx
  subst hx
  refine ⟨by simpa using hm, _, 0, rfl, fun j v hj => ?_⟩
  rw [Nat.zero_mul, Nat.add_zero, Nat.zero_add]
  exact held_cell h _ v (by simpa using hj)
theorem entsV_m {l : List En} (h : ∀ x ∈ l, EnOk x) : ∀ x ∈ entsV l, x.length = 14 := fun x hx => by
  obtain ⟨y, hy, rfl⟩ := List.mem_map.1 hx
  have := (h y hy).2.1
  simp [entC, this]
theorem entC_one (x : En) : ∀ y ∈ [entC x], ∀ u ∈ y, u.oneCell' = true := by
  intro y hy u hu
  rw [List.mem_singleton] at hy; subst hy
  unfold entC at hu
  rw [List.mem_cons, List.mem_cons] at hu
  rcases hu with rfl | rfl | hu
  · rfl
  · rfl
  · obtain ⟨z, _, rfl⟩ := List.mem_map.1 hu; rfl
theorem entsV_snoc (l : List En) (x : En) : (entsV (l ++ [x])).flatten = (entsV l).flatten ++ [entC x].flatten := by simp [entsV]
theorem entsV_len (l : List En) : (entsV l).length = l.length := by simp [entsV]
theorem run1 (B B0 : Nat) (zs : List Int) (n : Nat) (h1 : 1 ≤ n) (h8 : n ≤ 8) (hn : n ≤ zs.length) (w : World) (hR : Rdr B w zs) (hz : ∀ x ∈ zs, (Lit.int .u8 x).wf = true) (hl : zs.length ≤ 1000000) (h0 : B0 ≤ B) :
    Calls Try.prog 46 #[.pointer (some ⟨B, 0, none⟩), .int .i64 (n : Int)] w fun e w' => e = .returned (.int .u64 ((numB (zs.take n) n : Nat) : Int)) ∧ Rdr B w' (zs.drop n) ∧ Br B B0 w w' := by
  have ho : okU zs false (n : Int) = true := by unfold okU; simp; omega
  refine (ru_st B B0 zs false (n : Int) w (by unfold RSt; rw [if_neg (by simp)]; exact hR) hz hl h0).mono ?_
  rintro e w' ⟨rfl, hV, hB⟩
  rw [ho] at hV ⊢
  unfold RSt gotR at hV
  simp only [Bool.not_true, Bool.false_eq_true, if_false, if_true, Int.toNat_natCast] at hV
  exact ⟨by simp, hV, hB⟩
theorem numB1 {zs : List Int} (h : 1 ≤ zs.length) (hb : ∀ x ∈ zs, 0 ≤ x ∧ x ≤ 255) : ((numB (zs.take 1) 1 : Nat) : Int) = zs.getD 0 0 := by
  match zs, h with
  | x :: r, _ =>
    have := hb x (by simp)
    simp [numB]; omega
def TkB (w : World) (r : Int × List En × Int) (e : Ending) (w' : World) : Prop := ∃ (a : Option Addr) (cap : Nat), e = .returned (.tuple #[.agg #[.int .u32 r.1, .slice a r.2.1.length cap], .int .i64 r.2.2]) ∧ Els w' 14 a r.2.1.length cap (entsV r.2.1) ∧ After w w'
def ETy (E : TypeId) (w : World) (a : Option Addr) : Prop := ∀ q, a = some q → ∃ cs, w.heap[q.block]? = some (.cells cs E (0, 0))
theorem eTy_own {E : TypeId} {w : World} {base m n c k : Nat} {a : Option Addr} {xs : List Value} (h : OwnE E w base m (.slice a n c) k xs) : ETy E w a := fun q e => by
  subst e
  obtain ⟨_, _, hc⟩ := h.lt q.block rfl
  exact hc
def TkE (w : World) (r : Int × List En × Int) (e : Ending) (w' : World) : Prop := ∃ (a : Option Addr) (cap : Nat), e = .returned (.tuple #[.agg #[.int .u32 r.1, .slice a r.2.1.length cap], .int .i64 r.2.2]) ∧ Els w' 14 a r.2.1.length cap (entsV r.2.1) ∧ After w w' ∧ ETy 71 w' a
theorem tkE_nil {w w' : World} (n : Int) (h : After w w') : TkE w (0, [], n) (.returned (.tuple #[.agg #[.int .u32 0, .slice none 0 0], .int .i64 n])) w' := ⟨none, 0, rfl, Els.nil _ _, h, fun q e => by cases e⟩
theorem tkE_B {w : World} {r : Int × List En × Int} {e : Ending} {w' : World} (h : TkE w r e w') : TkB w r e w' := by
  obtain ⟨a, cap, h1, h2, h3, _⟩ := h
  exact ⟨a, cap, h1, h2, h3⟩
theorem tkB_nil {w w' : World} (n : Int) (h : After w w') : TkB w (0, [], n) (.returned (.tuple #[.agg #[.int .u32 0, .slice none 0 0], .int .i64 n])) w' := ⟨none, 0, rfl, Els.nil _ _, h⟩
theorem takB_short {zs : List Int} (h : zs.length < 256) : takB zs = (0, [], 2) := if_pos h
theorem takB_long {zs : List Int} (h : 256 < zs.length) : takB zs = (0, [], 7) := by unfold takB; rw [if_neg (by omega), if_pos h]
theorem takB_sum {zs : List Int} (h : zs.length = 256) (hc : crcOpen zs = none) : takB zs = (0, [], 4) := by unfold takB; rw [if_neg (by omega), if_neg (by omega), hc]
theorem takB_form {zs b : List Int} (h : zs.length = 256) (hc : crcOpen zs = some b) (h1 : b.getD 0 0 ≠ 76 ∨ b.getD 1 0 = 0) : takB zs = (0, [], 3) := by unfold takB; rw [if_neg (by omega), if_neg (by omega), hc]; exact if_pos h1
theorem takB_part {zs b : List Int} (h : zs.length = 256) (hc : crcOpen zs = some b) (ht : tkB (b.drop 6) (b.getD 1 0).toNat = none) : takB zs = (0, [], 3) := by
  unfold takB; rw [if_neg (by omega), if_neg (by omega), hc]; dsimp only; split
  · rfl
  · rw [ht]
theorem takB_full {zs b : List Int} {l : List En} {r : List Int} (h : zs.length = 256) (hc : crcOpen zs = some b) (h1 : ¬ (b.getD 0 0 ≠ 76 ∨ b.getD 1 0 = 0)) (ht : tkB (b.drop 6) (b.getD 1 0).toNat = some (l, r)) : takB zs = if emptyV r then (((numB ((b.drop 2).take 4) 4 : Nat) : Int), l, 0) else (0, [], 3) := by
  unfold takB; rw [if_neg (by omega), if_neg (by omega), hc]; dsimp only; rw [if_neg h1, ht]
theorem int_zero (k : Nat) : ((k : Int) == 0) = decide (k = 0) := by
  by_cases h : k = 0
  · subst h; rfl
  · have e1 : ((k : Int) == 0) = false := by simpa using h
    rw [e1]; simp [h]
theorem entD_len (st : Int × List Int) (first : Bool) (bs : List Int) (h : st.2.length = 12) : (entD st first bs).1.2.2.length = 12 := by
  cases bs with
  | nil => rfl
  | cons c q =>
    rw [entD_cons]
    split
    · exact takK_len q
    · split
      · exact takD_len st.1 h q
      · rfl
set_option maxRecDepth 100000 in
set_option maxHeartbeats 16000000 in
theorem btake_et (ba : Option Addr) (bl bc : Nat) (zs : List Int) (w : World) (hS : Sl .u8 w ba bl bc zs) (hz : ∀ x ∈ zs, (Lit.int .u8 x).wf = true) (hbl : bl ≤ 100000) : Calls Try.prog 36 #[.slice ba bl bc] w (TkE w (takB zs)) := by
  obtain ⟨r, hr⟩ : ∃ r, takB zs = r := ⟨_, rfl⟩
  rw [hr]
  have hcc := hS.2.1
  have hl := hS.1
  replace hz := hid hz
  go_enter Try.func36, Try.ntmps36
  go_upto_region 0 with (fail)
  apply wp_region_seg0 (w := w) (S := [.al 1000, .q []]) (E := [.al ((fun p => .pointer (some ⟨p, 0, none⟩)), _) 1000, .q0 _]) rfl (by kernel_rfl) rfl rfl
  intro th hge hne
  refine Seg.step _ rfl ⟨by rfl, fun U hU => ?_⟩ ?_
  · go_simp; exact vp_alloc rfl rfl rfl
  refine ⟨_, by (simp only [Ent.val]; go_simp <;> exact rfl), ?_⟩
  refine Seg.step _ rfl (Or.inl ⟨by rfl, fun U hU => vp_quiet (by (go_simp <;> exact rfl))⟩) ⟨_, by (simp only [Ent.val]; go_simp <;> exact rfl), ?_⟩
  refine Seg.stop (fun U1 hU hk => ?_)
  have nb0 := hge 0 _ _ rfl
  have rb0 := (hk 0 _ _ rfl trivial).1.2 (by simp)
  clear hk hge hne
  generalize th (0 + 0) = p0_0 at *
  dsimp only at rb0
  have r_p0_0 := rb0
  clear rb0
  have n_p0_0 := nb0
  clear nb0
  have sz1 := hU.size
  have hB : Below w.heap.size w U1 := hU
  clear hU
  have np := n_p0_0
  by_cases h1 : bl < 256
  case pos =>
    replace hr : r = (0, [], 2) := hr.symm.trans (takB_short (by omega))
    replace hr := hid hr
    have q1 : (bl : Int) < 256 := by omega
    have z0 := held_cell r_p0_0 0 _ rfl
    have z1 := held_cell r_p0_0 1 _ rfl
    have g0 := held_free r_p0_0 0
    have g1 := held_free r_p0_0 1
    obtain ⟨W9, hW9, ya, yO⟩ := st2 r_p0_0 (.int .u32 0) (.slice none 0 0)
    have hB9 := hid (belowS hB yO np)
    have ez0 := held_cell ya 0 _ rfl
    have ez1 := held_cell ya 1 _ rfl
    clear yO ya
    go_wp2_with fail
    refine bodyPost_ret (v := .tuple #[.agg #[.int .u32 0, .slice none 0 0], .int .i64 2]) (by simp [results, Try.results36, go_sem, ez0, ez1]) rfl ?_
    rw [hr.out]
    exact tkE_nil 2 hB9.out
  have q1 : ¬ (bl : Int) < 256 := by omega
  by_cases h2 : 256 < bl
  case pos =>
    replace hr : r = (0, [], 7) := hr.symm.trans (takB_long (by omega))
    replace hr := hid hr
    have q2 : (256 : Int) < bl := by omega
    have z0 := held_cell r_p0_0 0 _ rfl
    have z1 := held_cell r_p0_0 1 _ rfl
    have g0 := held_free r_p0_0 0
    have g1 := held_free r_p0_0 1
    obtain ⟨W9, hW9, ya, yO⟩ := st2 r_p0_0 (.int .u32 0) (.slice none 0 0)
    have hB9 := hid (belowS hB yO np)
    have ez0 := held_cell ya 0 _ rfl
    have ez1 := held_cell ya 1 _ rfl
    clear yO ya
    go_wp2_with fail
    refine bodyPost_ret (v := .tuple #[.agg #[.int .u32 0, .slice none 0 0], .int .i64 7]) (by simp [results, Try.results36, go_sem, ez0, ez1]) rfl ?_
    rw [hr.out]
    exact tkE_nil 7 hB9.out
  have q2 : ¬ (256 : Int) < bl := by omega
  have hl2 : zs.length = 256 := by omega
  have hS1 := hS.below hB
  clear hS
  have kO := open_any ba bl bc zs U1 hbl hS1 hz.out
  replace hr := hid hr
  replace hl := hid hl
  go_wp2_with fail
  refine kO.mono ?_
  rintro e V1 ⟨ia, ic, rfl, hO, hA⟩
  have r1 := held_after hA r_p0_0
  have hB1 := bthen hB hA
  clear hA hB r_p0_0 kO hS1
  cases hop : crcOpen zs with
  | none =>
    replace hr : r = (0, [], 4) := hr.out.symm.trans (takB_sum hl2 hop)
    replace hr := hid hr
    replace hO := hid hO
    clear hop
    have z0 := held_cell r1 0 _ rfl
    have z1 := held_cell r1 1 _ rfl
    have g0 := held_free r1 0
    have g1 := held_free r1 1
    obtain ⟨W9, hW9, ya, yO⟩ := st2 r1 (.int .u32 0) (.slice none 0 0)
    have hB9 := hid (belowS hB1 yO np)
    have ez0 := held_cell ya 0 _ rfl
    have ez1 := held_cell ya 1 _ rfl
    clear yO ya
    go_wp2_with fail
    refine bodyPost_ret (v := .tuple #[.agg #[.int .u32 0, .slice none 0 0], .int .i64 4]) (by simp [results, Try.results36, go_sem, ez0, ez1]) rfl ?_
    rw [hr.out]
    exact tkE_nil 4 hB9.out
  | some b =>
    rw [hop] at hO
    obtain ⟨eb1, eb2, eb3⟩ := opened hl2 hop
    have hbw : ∀ x ∈ b, (Lit.int .u8 x).wf = true := fun x hx => hz.out x (by rw [eb1] at hx; exact List.mem_of_mem_take hx)
    have hsb := hO.slf
    replace hsb : Sl .u8 V1 ia b.length ic b := hsb
    clear hO
    rw [eb3] at hsb
    have hopl : (Option.getD (some b) []).length = 254 := eb3
    have hsome : (Option.isSome (some b)) = true := rfl
    have sV := hB1.size
    have np1 : p0_0 < V1.heap.size := held_lt r1
    have f1 := takB_form hl2 hop
    have f2 := takB_part hl2 hop
    have f3 := fun l q => takB_full (l := l) (r := q) hl2 hop
    clear hop
    rw [hr.out] at f1 f2 f3
    clear hr
    replace hsb := hid hsb
    replace eb3 := hid eb3
    replace hbw := hid hbw
    replace hopl := hid hopl
    clear eb1 eb2
    have hb := bytes_bd hbw.out
    obtain ⟨c0, hc0⟩ : ∃ c, b.getD 0 0 = c := ⟨_, rfl⟩
    obtain ⟨c1, hc1⟩ : ∃ c, b.getD 1 0 = c := ⟨_, rfl⟩
    have k0 := getD_bd hb 0
    have k1 := getD_bd hb 1
    obtain ⟨no, hno⟩ : ∃ n, numB ((b.drop 2).take 4) 4 = n := ⟨_, rfl⟩
    have kno := numB4 ((b.drop 2).take 4) (fun x hx => hbw.out x (List.mem_of_mem_drop (List.mem_of_mem_take hx)))
    rw [hc0] at k0 f1 f3
    rw [hc1] at k1 f1 f2 f3
    rw [hno] at kno f3
    have e0 : ((numB (b.take 1) 1 : Nat) : Int) = c0 := (numB1 (by have := eb3.out; omega) hb).trans hc0
    have e1 : ((numB ((b.drop 1).take 1) 1 : Nat) : Int) = c1 := (numB1 (by rw [List.length_drop, eb3.out]; decide) (fun x hx => hb x (List.mem_of_mem_drop hx))).trans (by rw [← hc1]; simp [List.getD_eq_getElem?_getD])
    clear hc0 hc1 hb
    replace e0 := hid e0
    replace e1 := hid e1
    replace hno := hid hno
    replace f1 := hid f1
    replace f2 := hid f2
    replace f3 := hid f3
    have wc1 : IntKind.i64.wrap c1 = c1 := by rw [IntKind.wrap_i64]; omega
    have wno : IntKind.u32.wrap (no : Int) = (no : Int) := by rw [IntKind.wrap_u32]; omega
    try rw [hopl.out]
    replace hB1 := hid hB1
    replace r1 := hid r1
    go_wp2_with fail
    refine (new_any ia 254 ic b _ (by omega) hsb.out).mono ?_
    rintro e V2 ⟨Q, rfl, hQ, hR, hA⟩
    have hB2 : Below V1.heap.size V1 V2 := hA
    have hlQ := hR.ltv
    clear hA
    replace hR := hid hR
    go_wp2_with fail
    refine (run1 Q V1.heap.size b 1 (by omega) (by omega) (by have := eb3.out; omega) _ hR.out hbw.out (by have := eb3.out; omega) hQ).mono ?_
    rintro e V3 ⟨rfl, hR3, hK⟩
    rw [e0.out]
    have hB3 := hB2.trans hK.1
    clear hK hR hB2
    replace hR3 := hid hR3
    go_wp2_with fail
    refine (run1 Q V1.heap.size (b.drop 1) 1 (by omega) (by omega) (by rw [List.length_drop]; have := eb3.out; omega) _ hR3.out (fun x hx => hbw.out x (List.mem_of_mem_drop hx)) (by rw [List.length_drop]; have := eb3.out; omega) hQ).mono ?_
    rintro e V4 ⟨rfl, hR4, hK⟩
    rw [e1.out]
    have hB4 := hB3.trans hK.1
    clear hK hR3 hB3
    rw [List.drop_drop] at hR4
    replace hR4 := hid hR4
    go_wp2_with fail
    refine (run1 Q V1.heap.size (b.drop 2) 4 (by omega) (by omega) (by rw [List.length_drop]; have := eb3.out; omega) _ hR4.out (fun x hx => hbw.out x (List.mem_of_mem_drop hx)) (by rw [List.length_drop]; have := eb3.out; omega) hQ).mono ?_
    rintro e V5 ⟨rfl, hR5, hK⟩
    rw [hno.out]
    have hB5 := hB4.trans hK.1
    clear hK hR4 hB4 hR5 e0 e1 hno
    have nA := alloc_new V5 (.cells #[.int .u32 (no : Int), .slice none 0 0] 26)
    have hA := nA.2.1
    have rb := nA.2.2
    have s5 := hB5.size
    have hB6 := bthen hB5 hA
    clear nA hA hB5
    go_upto_region 11 with (fail)
    obtain ⟨W1, hW1⟩ : ∃ X, V5.alloc (.cells #[.int .u32 (no : Int), .slice none 0 0] 26) = X := ⟨_, rfl⟩
    rw [hW1] at rb hB6
    try rw [hW1]
    obtain ⟨pb, hpb⟩ : ∃ X, V5.heap.size = X := ⟨_, rfl⟩
    rw [hpb] at rb s5
    try rw [hpb]
    clear hW1 hpb
    have r6 := held_after hB6 r1.out
    have hBw6 := hid (hB1.out.trans (hB6.mono sV))
    by_cases hform : c0 ≠ 76 ∨ c1 = 0
    case pos =>
      have hr := hid (f1.out hform)
      by_cases h76 : c0 = 76
      case pos =>
        have q8 : (c1 == 0) = true := by have : c1 = 0 := hform.resolve_left (fun h => h h76); simp [this]
        subst h76
        have z0 := held_cell r6 0 _ rfl
        have z1 := held_cell r6 1 _ rfl
        have g0 := held_free r6 0
        have g1 := held_free r6 1
        obtain ⟨W9, hW9, ya, yO⟩ := st2 r6 (.int .u32 0) (.slice none 0 0)
        have hB9 := hid (belowS hBw6.out yO np)
        have ez0 := held_cell ya 0 _ rfl
        have ez1 := held_cell ya 1 _ rfl
        clear yO ya
        go_wp2_with fail
        refine bodyPost_ret (v := .tuple #[.agg #[.int .u32 0, .slice none 0 0], .int .i64 3]) (by simp [results, Try.results36, go_sem, ez0, ez1]) rfl ?_
        rw [hr.out]
        exact tkE_nil 3 hB9.out
      have q7 : (c0 != 76) = true := by simpa using h76
      have z0 := held_cell r6 0 _ rfl
      have z1 := held_cell r6 1 _ rfl
      have g0 := held_free r6 0
      have g1 := held_free r6 1
      obtain ⟨W9, hW9, ya, yO⟩ := st2 r6 (.int .u32 0) (.slice none 0 0)
      have hB9 := hid (belowS hBw6.out yO np)
      have ez0 := held_cell ya 0 _ rfl
      have ez1 := held_cell ya 1 _ rfl
      clear yO ya
      go_wp2_with fail
      refine bodyPost_ret (v := .tuple #[.agg #[.int .u32 0, .slice none 0 0], .int .i64 3]) (by simp [results, Try.results36, go_sem, ez0, ez1]) rfl ?_
      rw [hr.out]
      exact tkE_nil 3 hB9.out
    obtain ⟨rfl, hc1⟩ : c0 = 76 ∧ c1 ≠ 0 := by omega
    have q8 : (c1 == 0) = false := by simpa using hc1
    replace f3 := hid (fun l q => f3.out l q hform)
    clear f1 hform
    obtain ⟨m, hm⟩ : ∃ m : Nat, c1 = m := ⟨c1.toNat, by omega⟩
    subst hm
    rw [Int.toNat_natCast] at f2 f3
    have hm0 : 0 < m := by omega
    have hm255 : m ≤ 255 := by omega
    clear hc1 k0 k1 wc1
    obtain ⟨la, hcut, hcs⟩ := cutSl ia 254 ic 6 (hsb.out.2.1) (by decide)
    replace hcut : ∀ W : World, (Instr.slice 22 (.slice ia 254 ic) (some (.int .i64 6)) none none).run Try.prog W = .ok (.slice la 248 (ic - 6)) W := hcut
    have hsl := hid (hcs V1 b hsb.out)
    have hdw := hid (fun x (hx : x ∈ b.drop 6) => hbw.out x (List.mem_of_mem_drop hx))
    clear hcs
    have hicm := hsb.out.2.2.1
    obtain ⟨lc, hlc⟩ : ∃ c, ic - 6 = c := ⟨_, rfl⟩
    rw [hlc] at hcut hsl
    obtain ⟨D, hD⟩ : ∃ d, b.drop 6 = d := ⟨_, rfl⟩
    rw [hD] at f2 f3 hsl hdw
    clear hD hlc hbw eb3 hopl
    have nA := alloc_new W1 (.cells (recC 0 zer12) 65)
    have hA := nA.2.1
    have rw0 := nA.2.2
    have hB7 := bthen hB6 hA
    have rb7 := held_after hA rb
    have s6 := hB6.size
    have dbw : pb ≠ W1.heap.size := by have := held_lt rb; omega
    clear nA hA rb hB6 r6 hBw6
    go_upto_region 15 with (fail)
    obtain ⟨W2, hW2⟩ : ∃ X, W1.alloc (.cells (recC 0 zer12) 65) = X := ⟨_, rfl⟩
    have hW2b : W1.alloc (.cells #[.int .u32 0, .int .i32 0, .int .i32 0, .int .i32 0, .int .i32 0, .int .i32 0, .int .i32 0, .int .i32 0, .int .i32 0, .int .i32 0, .int .i32 0, .int .i32 0, .int .i32 0] 65) = W2 := hW2
    try rw [hW2b]
    rw [hW2] at rw0 rb7 hB7
    obtain ⟨pw, hpw⟩ : ∃ X, W1.heap.size = X := ⟨_, rfl⟩
    rw [hpw] at rw0 dbw s6
    try rw [hpw]
    clear hW2 hW2b hpw
    replace rw0 := hid rw0
    replace rb7 := hid rb7
    replace hB7 := hid hB7
    replace hcut := hid hcut
    go_wp2_with fail
    go_loopw [10, 53] (fun lv ix wr => ∃ (k : Nat) (l : List En) (q : List Int) (qa : Option Addr) (ql qc : Nat) (ma : Option Addr) (mc : Nat) (T : Int) (v : List Int), k ≤ m ∧ ix = .int .i64 k ∧ lv = .slice qa ql qc ∧ Hid (Sl .u8 V1 qa ql qc q) ∧ ql ≤ 248 ∧ Hid (∀ x ∈ q, (Lit.int .u8 x).wf = true) ∧ Hid (tkB D k = some (l, q)) ∧ Hid (l.length = k) ∧ Hid (∀ x ∈ l, EnOk x) ∧ wr.heap[pb]? = some (.cells #[.int .u32 (no : Int), .slice ma k mc] 26 (0, 0)) ∧ OwnE 71 wr V1.heap.size 14 (.slice ma k mc) k (entsV l).flatten ∧ Hid (lastR (0, zer12) l = (T, v)) ∧ Hid (StK (T, v)) ∧ wr.heap[pw]? = some (.cells (recC T v) 65 (0, 0)) ∧ Below V1.heap.size V1 wr) (fun _ ix _ => m - (intOf ix).toNat)
    case atStart => exact ⟨0, [], D, la, 248, lc, none, 0, 0, zer12, by omega, rfl, rfl, hsl, by omega, hid hdw.out, hid rfl, hid rfl, hid (fun x hx => by simp at hx), rb7.out, OwnE.nil _ _ _ _, hid rfl, hid stK0, rw0.out, hB7.out⟩
    case round =>
      clear rw0 rb7 hB7
      obtain ⟨k, l, q, qa, ql, qc, ma, mc, T, v, hk, rfl, rfl, hq, hql, hqw, htk, hlk, hlo, rb, hOE, hla, hst, rwd, hB⟩ := hrel
      have r6 := held_after hB r1.out
      have hBw := hid (hB1.out.trans (hB.mono sV))
      by_cases hlt : (k : Int) < m
      case neg =>
        obtain rfl : k = m := by omega
        have f4 := f3.out l q htk.out
        clear f3
        have f3 := hid f4
        clear f4
        clear rwd hla hst htk
        replace hOE := hid hOE
        replace hB := hid hB
        have hq3 := hid (hq.out.below hB.out)
        go_wp2_with fail
        refine (empty_any qa ql qc q _ (by omega) hq3.out hqw.out).mono ?_
        rintro e V9 ⟨rfl, rfl⟩
        cases he : emptyV q with
        | false =>
          have f4 := f3.out
          rw [he] at f4
          have hr : Hid (r = (0, [], 3)) := hid f4
          clear f4
          clear f3 he hq hq3
          have z0 := held_cell r6 0 _ rfl
          have z1 := held_cell r6 1 _ rfl
          have g0 := held_free r6 0
          have g1 := held_free r6 1
          obtain ⟨W9, hW9, ya, yO⟩ := st2 r6 (.int .u32 0) (.slice none 0 0)
          have hB9 := hid (belowS hBw.out yO np)
          have ez0 := held_cell ya 0 _ rfl
          have ez1 := held_cell ya 1 _ rfl
          clear yO ya
          go_wp2_with fail
          refine bodyPost_ret (v := .tuple #[.agg #[.int .u32 0, .slice none 0 0], .int .i64 3]) (by simp [results, Try.results36, go_sem, ez0, ez1]) rfl ?_
          rw [hr.out]
          exact tkE_nil 3 hB9.out
        | true =>
          have f4 := f3.out
          rw [he] at f4
          have hr : r = ((no : Int), l, 0) := f4
          clear f4
          clear f3 he hq hq3
          replace hr := hid hr
          have x0 := held_cell rb 0 _ rfl
          have x1 := held_cell rb 1 _ rfl
          have z0 := held_cell r6 0 _ rfl
          have z1 := held_cell r6 1 _ rfl
          have g0 := held_free r6 0
          have g1 := held_free r6 1
          obtain ⟨W9, hW9, ya, yO⟩ := st2 r6 (.int .u32 (no : Int)) (.slice ma k mc)
          have hB9 := hid (belowS hBw.out yO np)
          have hO9 := hid (show OwnE 71 W9 _ 14 _ _ _ from hOE.out.kept (fun g hg => yO.block g (fun e2 => by subst e2; have := (hOE.out.lt _ hg).1; omega)))
          have hE9 := hid (show Els W9 14 ma k mc (entsV l) from hO9.out.els (by rw [entsV_len]; exact hlk.out) (entsV_m hlo.out))
          have ez0 := held_cell ya 0 _ rfl
          have ez1 := held_cell ya 1 _ rfl
          clear yO ya
          go_wp2_with fail
          refine bodyPost_ret (v := .tuple #[.agg #[.int .u32 (no : Int), .slice ma k mc], .int .i64 0]) (by simp [results, Try.results36, go_sem, ez0, ez1]) rfl ?_
          rw [hr.out]
          have hlk2 := hlk.out
          subst hlk2
          exact ⟨ma, mc, rfl, hE9.out, hB9.out, eTy_own hO9.out⟩
      obtain ⟨hT, hvl, hvb⟩ := hst.out
      dsimp only at hT hvl hvb
      obtain ⟨a0, a1, a2, a3, a4, a5, a6, a7, a8, a9, a10, a11, rfl⟩ := list12 hvl
      obtain ⟨F0, hF0⟩ : ∃ F, decide (k = 0) = F := ⟨_, rfl⟩
      have kE := fun U h => entry_any T a0 a1 a2 a3 a4 a5 a6 a7 a8 a9 a10 a11 qa ql qc F0 q U h hqw.out (by omega) hT hvb
      have hyes := tkB_yes htk.out
      have hno := tkB_no htk.out
      have hbk := entD_back (first := F0) hst.out hqw.out
      rw [hla.out, hF0] at hyes hno
      have qF : ((k : Int) == 0) = F0 := by rw [← hF0]; exact int_zero k
      clear hF0
      obtain ⟨⟨⟨kb, T2, v2⟩, n, ok⟩, hd⟩ : ∃ d, entD (T, [a0, a1, a2, a3, a4, a5, a6, a7, a8, a9, a10, a11]) F0 q = d := ⟨_, rfl⟩
      have hv2 := entD_len (T, [a0, a1, a2, a3, a4, a5, a6, a7, a8, a9, a10, a11]) F0 q rfl
      rw [hd] at kE hyes hno hbk hv2
      clear hd
      dsimp only at kE hyes hno hbk hv2
      obtain ⟨y0, y1, y2, y3, y4, y5, y6, y7, y8, y9, y10, y11, rfl⟩ := list12 hv2
      have kr : entA (kb, T2, [y0, y1, y2, y3, y4, y5, y6, y7, y8, y9, y10, y11]) = .agg #[.bool kb, .int .u32 T2, .int .i32 y0, .int .i32 y1, .int .i32 y2, .int .i32 y3, .int .i32 y4, .int .i32 y5, .int .i32 y6, .int .i32 y7, .int .i32 y8, .int .i32 y9, .int .i32 y10, .int .i32 y11] := rfl
      rw [kr] at kE
      clear kr hv2 hvl hla
      replace kE := hid kE
      replace hyes := hid hyes
      replace hno := hid hno
      replace hbk := hid hbk
      have rwl : wr.heap[pw]? = some (.cells #[.int .u32 T, .int .i32 a0, .int .i32 a1, .int .i32 a2, .int .i32 a3, .int .i32 a4, .int .i32 a5, .int .i32 a6, .int .i32 a7, .int .i32 a8, .int .i32 a9, .int .i32 a10, .int .i32 a11] 65 (0, 0)) := rwd
      have c0 := held_cell rwl 0 _ rfl
      have c1 := held_cell rwl 1 _ rfl
      have c2 := held_cell rwl 2 _ rfl
      have c3 := held_cell rwl 3 _ rfl
      have c4 := held_cell rwl 4 _ rfl
      have c5 := held_cell rwl 5 _ rfl
      have c6 := held_cell rwl 6 _ rfl
      have c7 := held_cell rwl 7 _ rfl
      have c8 := held_cell rwl 8 _ rfl
      have c9 := held_cell rwl 9 _ rfl
      have c10 := held_cell rwl 10 _ rfl
      have c11 := held_cell rwl 11 _ rfl
      have c12 := held_cell rwl 12 _ rfl
      clear rwd
      replace rwl := hid rwl
      replace rb := hid rb
      replace hOE := hid hOE
      replace hB := hid hB
      replace r6 := hid r6
      have kz : (0 : Int) ≤ k := by omega
      have wk : IntKind.i64.wrap ((k : Int) + 1) = (k : Int) + 1 := by rw [IntKind.wrap_i64]; omega
      have hk1 := hid (show k + 1 ≤ m by omega)
      clear hvb htk
      go_upto_region 18 with (fail)
      go_wp2_with fail
      refine (kE.out _ (hq.out.below hB.out)).mono ?_
      rintro e V6 ⟨rfl, hA⟩
      have rw6 := held_after hA rwl.out
      have rb6 := held_after hA rb.out
      have r66 := held_after hA r6.out
      have hOE6 := hid (hOE.out.below hA)
      have hB6 := bthen hB.out hA
      clear hA rwl rb r6 hOE hB kE hBw c0 c1 c2 c3 c4 c5 c6 c7 c8 c9 c10 c11 c12
      have nA := alloc_new V6 (.cells #[.bool kb, .int .u32 T2, .int .i32 y0, .int .i32 y1, .int .i32 y2, .int .i32 y3, .int .i32 y4, .int .i32 y5, .int .i32 y6, .int .i32 y7, .int .i32 y8, .int .i32 y9, .int .i32 y10, .int .i32 y11] 71)
      have hA := nA.2.1
      have rx := nA.2.2
      have dxw : pw ≠ V6.heap.size := by have := held_lt rw6; omega
      have dxb : pb ≠ V6.heap.size := by have := held_lt rb6; omega
      have rw7 := held_after hA rw6
      have rb7 := held_after hA rb6
      have r67 := held_after hA r66
      have hOE7 := hid (hOE6.out.below hA)
      have s6b := hB6.size
      have hfx := fun g (hg : (Value.slice ma k mc).ownBlock = some g) => (hOE6.out.lt g hg).2.1
      have hB7 := bthen hB6 hA
      clear nA hA rw6 rb6 r66 hOE6 hB6
      go_upto_region 19 with (fail)
      obtain ⟨W3, hW3⟩ : ∃ X, V6.alloc (.cells #[.bool kb, .int .u32 T2, .int .i32 y0, .int .i32 y1, .int .i32 y2, .int .i32 y3, .int .i32 y4, .int .i32 y5, .int .i32 y6, .int .i32 y7, .int .i32 y8, .int .i32 y9, .int .i32 y10, .int .i32 y11] 71) = X := ⟨_, rfl⟩
      rw [hW3] at rx rw7 rb7 r67 hOE7 hB7
      try rw [hW3]
      obtain ⟨px, hpx⟩ : ∃ X, V6.heap.size = X := ⟨_, rfl⟩
      rw [hpx] at rx dxw dxb s6b hfx
      replace hfx := hid hfx
      try rw [hpx]
      clear hW3 hpx
      cases ok
      case false =>
        have hr := hid (f2.out (tkB_none2 (hno.out rfl) hk1.out))
        have hBw := hid (hB1.out.trans (hB7.mono sV))
        clear rw7 rb7 rx
        have z0 := held_cell r67 0 _ rfl
        have z1 := held_cell r67 1 _ rfl
        have g0 := held_free r67 0
        have g1 := held_free r67 1
        obtain ⟨W9, hW9, ya, yO⟩ := st2 r67 (.int .u32 0) (.slice none 0 0)
        have hB9 := hid (belowS hBw.out yO np)
        have ez0 := held_cell ya 0 _ rfl
        have ez1 := held_cell ya 1 _ rfl
        clear yO ya
        go_wp2_with fail
        refine bodyPost_ret (v := .tuple #[.agg #[.int .u32 0, .slice none 0 0], .int .i64 3]) (by simp [results, Try.results36, go_sem, ez0, ez1]) rfl ?_
        rw [hr.out]
        exact tkE_nil 3 hB9.out
      obtain ⟨N, rfl, hN2, hNl, -, hxo, -⟩ := hbk.out rfl
      have hyes2 := hyes.out rfl
      rw [Int.toNat_natCast] at hyes2
      replace hyes := hid hyes2
      clear hyes2 hno hbk r67
      have hqn := hq.out.1
      obtain ⟨qa2, hcut2, hcs2⟩ := cutSl qa ql qc N hq.out.2.1 (by omega)
      have hcq := hid (hcs2 V1 q hq.out)
      have hqw2 := hid (fun x (hx : x ∈ q.drop N) => hqw.out x (List.mem_of_mem_drop hx))
      have hqlN : ql - N ≤ 248 := by omega
      have qN1 : (0 : Int) ≤ N := by omega
      have qN2 : (N : Int) ≤ ql := by omega
      clear hqw hcs2 hq
      obtain ⟨Q2, hQ2⟩ : ∃ z, q.drop N = z := ⟨_, rfl⟩
      rw [hQ2] at hcq hqw2 hyes
      clear hQ2
      obtain ⟨ql2, hl2e⟩ : ∃ z, ql - N = z := ⟨_, rfl⟩
      obtain ⟨qc2, hc2e⟩ : ∃ z, qc - N = z := ⟨_, rfl⟩
      rw [hl2e] at hcut2 hcq hqlN
      rw [hc2e] at hcut2 hcq
      clear hl2e hc2e hqn hNl
      have hlk2 := hlk.out
      have x0 := held_cell rx 0 _ rfl
      have x1 := held_cell rx 1 _ rfl
      have x2 := held_cell rx 2 _ rfl
      have x3 := held_cell rx 3 _ rfl
      have x4 := held_cell rx 4 _ rfl
      have x5 := held_cell rx 5 _ rfl
      have x6 := held_cell rx 6 _ rfl
      have x7 := held_cell rx 7 _ rfl
      have x8 := held_cell rx 8 _ rfl
      have x9 := held_cell rx 9 _ rfl
      have x10 := held_cell rx 10 _ rfl
      have x11 := held_cell rx 11 _ rfl
      have x12 := held_cell rx 12 _ rfl
      have x13 := held_cell rx 13 _ rfl
      have b0 := held_cell rb7 0 _ rfl
      have b1 := held_cell rb7 1 _ rfl
      have nC := alloc_new W3 (.cells #[.bool kb, .int .u32 T2, .int .i32 y0, .int .i32 y1, .int .i32 y2, .int .i32 y3, .int .i32 y4, .int .i32 y5, .int .i32 y6, .int .i32 y7, .int .i32 y8, .int .i32 y9, .int .i32 y10, .int .i32 y11] 71)
      have hAC := nC.2.1
      have rC := nC.2.2
      have hEe := hid (els_blk (m := 14) rC rfl)
      have rb8 := held_after hAC rb7
      have rw8 := held_after hAC rw7
      have rx8 := held_after hAC rx
      have hOE8 := hid (hOE7.out.below hAC)
      have s7 := hB7.size
      have hB8 := bthen hB7 hAC
      have s8 := hB8.size
      clear nC hAC rb7 rw7 rx hOE7 hB7
      obtain ⟨W4, hW4⟩ : ∃ X, W3.alloc (.cells #[.bool kb, .int .u32 T2, .int .i32 y0, .int .i32 y1, .int .i32 y2, .int .i32 y3, .int .i32 y4, .int .i32 y5, .int .i32 y6, .int .i32 y7, .int .i32 y8, .int .i32 y9, .int .i32 y10, .int .i32 y11] 71) = X := ⟨_, rfl⟩
      rw [hW4] at rC hEe rb8 rw8 rx8 hOE8 hB8 s8
      obtain ⟨pc, hpc⟩ : ∃ X, W3.heap.size = X := ⟨_, rfl⟩
      rw [hpc] at hEe s7
      clear rC
      have hEe2 : Els W4 14 (some ⟨pc, 0, none⟩) 1 1 [entC (kb, T2, [y0, y1, y2, y3, y4, y5, y6, y7, y8, y9, y10, y11])] := hEe.out
      replace hEe := hid hEe2
      clear hEe2 hlk2
      replace rb8 := hid rb8
      replace rw8 := hid rw8
      replace rx8 := hid rx8
      replace hB8 := hid hB8
      go_wp2_with (first | (at_builtin; refine wpList_appE rfl (.tmp 69) (.tmp 71) 24 rfl V1.heap.size 71 14 56 entO (by decide) (.slice ma k mc) k (entsV l).flatten rfl hOE8.out (some ⟨pc, 0, none⟩) 1 1 [entC (kb, T2, [y0, y1, y2, y3, y4, y5, y6, y7, y8, y9, y10, y11])] rfl hEe.out (entC_one _) (by unfold maxLen; omega) (by omega) s8 ?_))
      intro a9 c9 W9 hO9 hG9 hN9
      have rb9 := (hG9.block pb (held_lt rb8.out) (fun e2 => hOE8.out.ne rb8.out (by decide) e2.symm)).trans rb8.out
      have rw9 := (hG9.block pw (held_lt rw8.out) (fun e2 => hOE8.out.ne rw8.out (by decide) e2.symm)).trans rw8.out
      have rx9 := (hG9.block px (held_lt rx8.out) (fun e2 => by have := hfx.out px e2.symm; omega)).trans rx8.out
      have hB9 := hB8.out.grown hG9 s8 (fun k2 e2 => (hOE8.out.lt k2 e2).1)
      clear rb8 rw8 rx8 hOE8 hB8 s8 hEe hG9 hN9 hfx
      have z1 := held_cell rb9 1 _ rfl
      have f1 := held_free rb9 1
      obtain ⟨S1, hS1, s1, o1⟩ := st1 rb9 1 (.slice a9 (k + 1) c9)
      have hOS := hid (show OwnE 71 S1 V1.heap.size 14 (.slice a9 (k + 1) c9) (k + 1) (entsV (l ++ [(kb, T2, [y0, y1, y2, y3, y4, y5, y6, y7, y8, y9, y10, y11])])).flatten from by rw [entsV_snoc]; exact hO9.kept (fun g hg => o1.block g (fun e2 => by subst e2; exact (hO9.ne rb9 (by decide)) hg)))
      have rwS := held_only o1 (show pw ≠ pb from fun e => dbw e.symm) rw9
      have rxS := held_only o1 (show px ≠ pb from fun e => dxb e.symm) rx9
      have hBS := belowS hB9 o1 (by omega)
      have s1b := hid (show S1.heap[pb]? = some (.cells #[.int .u32 (no : Int), .slice a9 (k + 1) c9] 26 (0, 0)) from s1)
      clear s1 o1 hO9 rb9 rw9 rx9 hB9 b0 b1 x0 x1 x2 x3 x4 x5 x6 x7 x8 x9 x10 x11 x12 x13
      have x0 := held_cell rxS 0 _ rfl
      have x1 := held_cell rxS 1 _ rfl
      have x2 := held_cell rxS 2 _ rfl
      have x3 := held_cell rxS 3 _ rfl
      have x4 := held_cell rxS 4 _ rfl
      have x5 := held_cell rxS 5 _ rfl
      have x6 := held_cell rxS 6 _ rfl
      have x7 := held_cell rxS 7 _ rfl
      have x8 := held_cell rxS 8 _ rfl
      have x9 := held_cell rxS 9 _ rfl
      have x10 := held_cell rxS 10 _ rfl
      have x11 := held_cell rxS 11 _ rfl
      have x12 := held_cell rxS 12 _ rfl
      have x13 := held_cell rxS 13 _ rfl
      have y_0 := held_cell rwS 0 _ rfl
      have y_1 := held_cell rwS 1 _ rfl
      have y_2 := held_cell rwS 2 _ rfl
      have y_3 := held_cell rwS 3 _ rfl
      have y_4 := held_cell rwS 4 _ rfl
      have y_5 := held_cell rwS 5 _ rfl
      have y_6 := held_cell rwS 6 _ rfl
      have y_7 := held_cell rwS 7 _ rfl
      have y_8 := held_cell rwS 8 _ rfl
      have y_9 := held_cell rwS 9 _ rfl
      have y_10 := held_cell rwS 10 _ rfl
      have y_11 := held_cell rwS 11 _ rfl
      have y_12 := held_cell rwS 12 _ rfl
      have f_0 := held_free rwS 0
      have f_1 := held_free rwS 1
      have f_2 := held_free rwS 2
      have f_3 := held_free rwS 3
      have f_4 := held_free rwS 4
      have f_5 := held_free rwS 5
      have f_6 := held_free rwS 6
      have f_7 := held_free rwS 7
      have f_8 := held_free rwS 8
      have f_9 := held_free rwS 9
      have f_10 := held_free rwS 10
      have f_11 := held_free rwS 11
      have f_12 := held_free rwS 12
      obtain ⟨W5, hW5, ya, yO⟩ := st13 rwS (.int .u32 T2) (.int .i32 y0) (.int .i32 y1) (.int .i32 y2) (.int .i32 y3) (.int .i32 y4) (.int .i32 y5) (.int .i32 y6) (.int .i32 y7) (.int .i32 y8) (.int .i32 y9) (.int .i32 y10) (.int .i32 y11)
      have ya2 := hid (show W5.heap[pw]? = some (.cells (recC T2 [y0, y1, y2, y3, y4, y5, y6, y7, y8, y9, y10, y11]) 65 (0, 0)) from ya)
      have hB5 := hid (belowS hBS yO (by omega))
      have hO5 := hid (hOS.out.kept (fun g hg => yO.block g (fun e2 => by subst e2; exact (hOS.out.ne rwS (by decide)) hg)))
      have rb5 := hid (held_only yO dbw s1b.out)
      clear ya yO rwS rxS hBS hOS s1b
      have hxo2 := hid (show ∀ x ∈ l ++ [(kb, T2, [y0, y1, y2, y3, y4, y5, y6, y7, y8, y9, y10, y11])], EnOk x from fun x hx => (List.mem_append.1 hx).elim (hlo.out x) (fun h => by rw [List.mem_singleton] at h; subst h; exact hxo))
      have hst2 := hid (show StK (T2, [y0, y1, y2, y3, y4, y5, y6, y7, y8, y9, y10, y11]) from ⟨hxo.1, hxo.2.1, hxo.2.2⟩)
      have hlk3 := hid (show (l ++ [((kb, T2, [y0, y1, y2, y3, y4, y5, y6, y7, y8, y9, y10, y11]) : En)]).length = k + 1 by rw [List.length_append, hlk.out]; rfl)
      have hla3 := hid (lastR_snoc (0, zer12) l (kb, T2, [y0, y1, y2, y3, y4, y5, y6, y7, y8, y9, y10, y11]))
      clear hxo hlo hlk hst
      go_wp2_with fail
      go_roundw
      case rel => exact ⟨k + 1, l ++ [(kb, T2, [y0, y1, y2, y3, y4, y5, y6, y7, y8, y9, y10, y11])], Q2, qa2, ql2, qc2, a9, c9, T2, [y0, y1, y2, y3, y4, y5, y6, y7, y8, y9, y10, y11], hk1.out, by simp, rfl, hcq, hqlN, hqw2, hyes, hlk3, hxo2, rb5.out, hO5.out, hla3, hst2, ya2.out, hB5.out⟩
      case measure => simp [intOf]; omega
theorem btake_any (ba : Option Addr) (bl bc : Nat) (zs : List Int) (w : World) (hS : Sl .u8 w ba bl bc zs) (hz : ∀ x ∈ zs, (Lit.int .u8 x).wf = true) (hbl : bl ≤ 100000) : Calls Try.prog 36 #[.slice ba bl bc] w (TkB w (takB zs)) := (btake_et ba bl bc zs w hS hz hbl).mono fun _ _ h => tkE_B h

end Go.Proofs.Ytlfbhfmchdbnoaa
