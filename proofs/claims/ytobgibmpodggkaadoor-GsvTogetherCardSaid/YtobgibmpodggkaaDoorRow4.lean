/- Rows of fields: the papers', written. -/
import Derived.Test.YtobgibmpodggkaaDoorRow
import Derived.Test.YtobgibmpodggkaaDoorRow2
import Derived.Test.YtobgibmpodggkaaDoorDec2
import Derived.Test.YtobgibmpodggkaaDoorDec13
import Derived.Lib.LazyBuf
import Derived.Deep.DeepCutAuto
namespace Go.Proofs.YtobgibmpodggkaaDoor
open Go.ChangeShapes Go.WideShapes Go.ChangeAt Go.RowKit
set_option linter.unusedVariables false
set_option linter.unusedSimpArgs false

/-- A row of the papers' that is written. -/
def RowW (w : World) (base B : Nat) (e : Int) (L : List ByteArray) : Prop := ∃ a cap, w.heap[B]? = some (.cells #[.slice a L.length cap, .int .i64 0, .int .i64 e] 75 (0, 0)) ∧ OwnE 9 w base 1 (.slice a L.length cap) L.length (strV23 L).flatten
theorem RowW.aft {w w2 : World} {base B : Nat} {e : Int} {L : List ByteArray} (h : RowW w base B e L) (hA : After w w2) : RowW w2 base B e L := by
  obtain ⟨a, cap, h1, h2⟩ := h
  exact ⟨a, cap, held_after hA h1, h2.below hA⟩
theorem RowW.lt {w : World} {base B : Nat} {e : Int} {L : List ByteArray} (h : RowW w base B e L) : B < w.heap.size := by
  obtain ⟨_, _, h1, _⟩ := h
  exact held_lt h1
theorem RowW.besides {w w2 : World} {base B D : Nat} {e : Int} {L : List ByteArray} {c : Array Value} {T : TypeId} (h : RowW w base B e L) (hK : PEff base B 0 w w2) (hD : w.heap[D]? = some (.cells c T (0, 0))) (hne : D ≠ B) (hT : T ≠ 9) : w2.heap[D]? = some (.cells c T (0, 0)) := by
  obtain ⟨a, cap, h1, h2⟩ := h
  rw [hK.owp.block D (held_lt hD) hne (by rw [wown_at h1 (j := 0) rfl]; exact fun e => h2.ne hD hT e.symm)]
  exact hD
/-- A row of the papers' that is read: what is left. -/
def RowR (w : World) (B : Nat) (e : Int) (L : List ByteArray) : Prop := ∃ F a cap i, L = F.drop i ∧ i ≤ F.length ∧ F.length ≤ 1000 ∧ w.heap[B]? = some (.cells #[.slice a F.length cap, .int .i64 ((i : Nat) : Int), .int .i64 e] 75 (0, 0)) ∧ Els w 1 a F.length cap (strV23 F) ∧ ∀ x, a = some x → x.block ≠ B
theorem RowR.aft {w w2 : World} {B : Nat} {e : Int} {L : List ByteArray} (h : RowR w B e L) (hA : After w w2) : RowR w2 B e L := by
  obtain ⟨F, a, cap, i, h1, h2, h3, h4, h5, h6⟩ := h
  exact ⟨F, a, cap, i, h1, h2, h3, held_after hA h4, h5.below hA, h6⟩
theorem RowR.lt {w : World} {B : Nat} {e : Int} {L : List ByteArray} (h : RowR w B e L) : B < w.heap.size := by
  obtain ⟨_, _, _, _, _, _, _, h1, _⟩ := h
  exact held_lt h1
theorem els_two (w : World) (x y : Value) (E : TypeId) : Els (w.alloc (.cells #[x, y] E)) 1 (some ⟨w.heap.size, 0, none⟩) 2 2 [[x], [y]] := by
  refine ⟨rfl, Nat.le_refl _, by unfold maxLen; omega, (fun e => by cases e), fun i z hz => ?_⟩
  have hA := (alloc_new w (.cells #[x, y] E)).2.2
  match i, hz with
  | 0, hz => 
    simp at hz; subst hz
    refine ⟨rfl, _, 0, rfl, fun j v hj => ?_⟩
    match j, hj with
    | 0, hj => exact held_cell hA 0 v (by simpa using hj)
    | j + 1, hj => simp at hj
  | 1, hz =>
    simp at hz; subst hz
    refine ⟨rfl, _, 0, rfl, fun j v hj => ?_⟩
    match j, hj with
    | 0, hj => exact held_cell hA 1 v (by simpa using hj)
    | j + 1, hj => simp at hj
  | i + 2, hz => simp at hz
theorem rfirst_raw (base B : Nat) (T : TypeId) (v0 v1 : Value) (e x : Int) (w : World) (h : w.heap[B]? = some (.cells #[v0, v1, .int .i64 e] T (0, 0))) (hb : base ≤ B) : Calls Tryd.prog 48 #[.pointer (some ⟨B, 0, none⟩), .int .i64 x] w fun r w' => r = .returned (.tuple #[]) ∧ w'.heap[B]? = some (.cells #[v0, v1, .int .i64 (kp e x)] T (0, 0)) ∧ PEff base B 0 w w' ∧ Only B w w' := by
  have z1 := held_cell h 2 _ rfl
  have z2 := held_free h 2
  by_cases c : e = 0
  case neg =>
    have q : (e == 0) = false := by simpa using c
    have hk := hid (kp_no x c)
    replace h := hid h
    clear c
    go_enter Tryd.func48, Tryd.ntmps48
    go_wp2_with fail
    go_end0
    exact ⟨rfl, by rw [hk.out]; exact h.out, PEff.refl _ _ _ _, ⟨rfl, rfl, rfl, rfl, fun _ _ => rfl⟩⟩
  subst c
  obtain ⟨S1, hS1, s1, o1⟩ := st1 h 2 (.int .i64 x)
  have hp := hid (PEff.cell (base := base) (j := 0) hb h (by decide) (by simp) hS1 o1)
  have hs := hid s1
  have ho := hid o1
  clear h s1 o1
  go_enter Tryd.func48, Tryd.ntmps48
  go_wp2_with fail
  go_end0
  exact ⟨rfl, hs.out, hp.out, ho.out⟩
theorem rfirstR_any (B : Nat) (e x : Int) (L : List ByteArray) (w : World) (hP : RowR w B e L) : Calls Tryd.prog 48 #[.pointer (some ⟨B, 0, none⟩), .int .i64 x] w fun r w' => r = .returned (.tuple #[]) ∧ RowR w' B (kp e x) L ∧ Eff B w w' := by
  obtain ⟨F, a, cap, i, h1, h2, h3, h4, h5, h6⟩ := hP
  refine (rfirst_raw 0 B 75 (.slice a F.length cap) (.int .i64 ((i : Nat) : Int)) e x w h4 (Nat.zero_le _)).mono ?_
  rintro r V ⟨rfl, hq, hK, hN⟩
  exact ⟨rfl, ⟨F, a, cap, i, h1, h2, h3, hq, els_eff24 h5 (eff_only24 hN) h6, h6⟩, eff_only24 hN⟩
theorem rfirstW_any (base B : Nat) (e x : Int) (L : List ByteArray) (w : World) (hP : RowW w base B e L) (hb : base ≤ B) : Calls Tryd.prog 48 #[.pointer (some ⟨B, 0, none⟩), .int .i64 x] w fun r w' => r = .returned (.tuple #[]) ∧ RowW w' base B (kp e x) L ∧ PEff base B 0 w w' := by
  obtain ⟨a, cap, hp, hO⟩ := hP
  refine (rfirst_raw base B 75 (.slice a L.length cap) (.int .i64 0) e x w hp hb).mono ?_
  rintro r V ⟨rfl, hq, hK, hN⟩
  exact ⟨rfl, ⟨a, cap, hq, hO.kept (fun g hg => hN.block g (fun e => by subst e; exact (hO.ne hp (by decide)) hg))⟩, hK⟩
set_option maxRecDepth 100000 in
set_option maxHeartbeats 2000000 in
theorem rtext_any (base B : Nat) (e x : Int) (L : List ByteArray) (s : ByteArray) (w : World) (hP : RowW w base B e L) (hl : L.length ≤ 1000) (hb : base ≤ B) : Calls Tryd.prog 49 #[.pointer (some ⟨B, 0, none⟩), .string s, .int .i64 x] w fun r w' => r = .returned (.tuple #[]) ∧ RowW w' base B (kp e x) (L ++ [s]) ∧ PEff base B 0 w w' := by
  have kk := hid (fun W h => rfirstW_any base B e x L W h hb)
  replace hP := hid hP
  obtain ⟨n, hn⟩ : ∃ n, L.length = n := ⟨_, rfl⟩
  have hLn := hid (show (L ++ [s]).length = n + 1 by rw [List.length_append, hn]; rfl)
  rw [hn] at hl
  replace hn := hid hn
  generalize kp e x = E at *
  go_enter Tryd.func49, Tryd.ntmps49
  go_wp2_with fail
  refine (kk.out _ hP.out).mono ?_
  rintro r V ⟨rfl, hQ, hK⟩
  replace hQ := hid hQ
  replace hK := hid hK
  obtain ⟨a, cap, hq, hO2⟩ := hQ.out
  rw [hn.out] at hq hO2
  have z2 := held_cell hq 0 _ rfl
  have hA := (alloc_new V (.cells #[.string s] 9)).2.1
  have hO3 := hO2.below hA
  have hp3 := held_after hA hq
  have sA := hA.size
  have hltV : B < V.heap.size := held_lt hq
  have hbV : base ≤ V.heap.size := by omega
  have hbs : base ≤ (V.alloc (.cells #[.string s] 9)).heap.size := by omega
  have hE := els_one V #[.string s] 9 1 rfl
  have hne : (Value.slice a n cap).ownBlock ≠ some B := hO3.ne hp3 (by decide)
  have hef0 := hid (hK.out.trans (PEff.after (base := base) (p := B) (j := 0) hbV hltV hA))
  have hw0 := hid (wown_at hp3 (j := 0) (v := .slice a n cap) rfl)
  replace hne := hid hne
  replace hO3 := hid hO3
  replace hp3 := hid hp3
  replace hE := hid hE
  clear hA hq hO2 hQ hK
  go_wp2_with (first | (at_builtin; refine wpList_appE rfl (.tmp 13) (.tmp 15) 26 rfl base 9 1 16 strO23 (by decide) (.slice a n cap) n (strV23 L).flatten rfl hO3.out (some ⟨_, 0, none⟩) 1 1 (strV23 [s]) rfl hE.out (strV23_one [s]) (by unfold maxLen; omega) (by omega) hbs ?_))
  intro a' cap' W9 hO9 hG hN
  have hp9 := (hG.block B (by omega) (fun e => hne.out e.symm)).trans hp3.out
  have y0 := held_cell hp9 0 _ rfl
  have y1 := held_free hp9 0
  obtain ⟨S1, hS1, s1, o1⟩ := st1 hp9 0 (.slice a' (n + 1) cap')
  have hfin : RowW S1 base B E (L ++ [s]) := ⟨a', cap', (by rw [hLn.out]; exact s1), (by rw [hLn.out, strV23_app]; exact (hO9.kept (fun g hg => o1.block g (fun e => by subst e; exact (hO9.ne hp9 (by decide)) hg))))⟩
  have hef : PEff base B 0 w S1 := hef0.out.trans ⟨((Below.refl _ _).grown hG hbs (fun k e => (hO3.out.lt k e).1)).trans ⟨o1.os, o1.tape, o1.output, by rw [o1.size]; exact Nat.le_refl _, fun k hk => o1.block k (by omega)⟩, by rw [← hS1]; exact Owp.set hp9 (by simp) hG (fun k e => by rw [hw0.out]; exact e) (fun k e => by rw [hw0.out, World.size_alloc]; exact hN k e)⟩
  clear hO9 hp9 hG hN o1 s1
  replace hfin := hid hfin
  replace hef := hid hef
  go_wp2_with fail
  go_end0
  exact ⟨rfl, hfin.out, hef.out⟩
set_option maxRecDepth 100000 in
set_option maxHeartbeats 4000000 in
theorem rnum_any (base B : Nat) (e : Int) (L : List ByteArray) (is : Bool) (m W M F lo hi : Int) (w : World) (hP : RowW w base B e L) (hl : L.length ≤ 1000) (hb : base ≤ B) (hm : (-9223372036854775808 ≤ m ∧ m ≤ 9223372036854775807)) (hlb : (-9223372036854775808 ≤ lo ∧ lo ≤ 9223372036854775807) ∧ (-9223372036854775808 ≤ hi ∧ hi ≤ 9223372036854775807)) : Calls Tryd.prog 33 #[.pointer (some ⟨B, 0, none⟩), .agg #[.bool is, .int .i64 m], .agg #[.int .i64 W, .int .i64 M, .int .i64 F, .int .i64 lo, .int .i64 hi]] w fun r w' => r = .returned (.tuple #[]) ∧ RowW w' base B (kp e (putD is m W M F lo hi).2) (L ++ [nb (putD is m W M F lo hi).1]) ∧ PEff base B 0 w w' := by
  obtain ⟨⟨PL, x⟩, hpd⟩ : ∃ r, putD is m W M F lo hi = r := ⟨_, rfl⟩
  have kP := hid (fun U => hpd ▸ rput23_any is m W M F lo hi U hm hlb)
  rw [hpd]
  dsimp only at kP ⊢
  generalize nb PL = s at *
  clear hpd hm hlb
  have hlt := hP.lt
  have kk := hid (fun W h => rfirstW_any base B e x L W h hb)
  replace hP := hid hP
  have hbw : base ≤ w.heap.size := by omega
  obtain ⟨n, hn⟩ : ∃ n, L.length = n := ⟨_, rfl⟩
  have hLn := hid (show (L ++ [s]).length = n + 1 by rw [List.length_append, hn]; rfl)
  rw [hn] at hl
  replace hn := hid hn
  generalize kp e x = E at *
  go_enter Tryd.func33, Tryd.ntmps33
  go_upto_region 0 with (fail)
  apply wp_region_seg0 (w := w) (S := [.al 1000, .al 1000]) (E := [.al ((fun p => .pointer (some ⟨p, 0, none⟩)), _) 1000, .al ((fun p => .pointer (some ⟨p, 0, none⟩)), _) 1000]) rfl (by kernel_rfl) rfl rfl
  intro th hge hne
  refine Seg.step _ rfl ⟨by rfl, fun U hU => ?_⟩ ?_
  · go_simp; exact vp_alloc rfl rfl rfl
  refine Seg.sa ?_
  refine Seg.step _ rfl ⟨by rfl, fun U hU => ?_⟩ ?_
  · go_simp; exact vp_alloc rfl rfl rfl
  refine Seg.sa ?_
  refine Seg.stop (fun U1 hU hk => ?_)
  have nb0 := hge 0 _ _ rfl
  have rb0 := (hk 0 _ _ rfl trivial).1.2 (by simp)
  have nb1 := hge 1 _ _ rfl
  have rb1 := (hk 1 _ _ rfl trivial).1.2 (by simp)
  have ne0_1 := hne 0 1 _ _ _ _ rfl rfl (by omega)
  clear hk hge hne
  generalize th (0 + 0) = p0_0 at *
  dsimp only at rb0
  generalize th (0 + 1) = p0_1 at *
  dsimp only at rb1
  have r_p0_0 := rb0
  clear rb0
  have n_p0_0 := nb0
  clear nb0
  have d_p0_0_p0_1 := ne0_1
  clear ne0_1
  have r_p0_1 := rb1
  clear rb1
  have n_p0_1 := nb1
  clear nb1
  have sz1 := hU.size
  have hB : Below w.heap.size w U1 := hU
  clear hU
  replace hP := hid (hP.out.aft hB)
  have x0 := held_cell r_p0_0 0 _ rfl
  have x1 := held_cell r_p0_0 1 _ rfl
  have y0 := held_cell r_p0_1 0 _ rfl
  have y1 := held_cell r_p0_1 1 _ rfl
  have y2 := held_cell r_p0_1 2 _ rfl
  have y3 := held_cell r_p0_1 3 _ rfl
  have y4 := held_cell r_p0_1 4 _ rfl
  clear r_p0_0 r_p0_1 n_p0_0 n_p0_1 d_p0_0_p0_1
  replace hB := hid hB
  go_wp2_with fail
  refine (kP.out _).mono ?_
  rintro r V1 ⟨rfl, hA⟩
  replace hP := hid (hP.out.aft hA)
  replace hB := hid (bthen hB.out hA)
  clear hA x0 x1 y0 y1 y2 y3 y4
  go_wp2_with fail
  refine (kk.out _ hP.out).mono ?_
  rintro r V ⟨rfl, hQ, hE⟩
  replace hQ := hid hQ
  have hK := hid ((PEff.after (j := 0) hbw hlt hB.out).trans hE)
  clear hE
  obtain ⟨a, cap, hq, hO2⟩ := hQ.out
  rw [hn.out] at hq hO2
  have z2 := held_cell hq 0 _ rfl
  have hA := (alloc_new V (.cells #[.string s] 9)).2.1
  have hO3 := hO2.below hA
  have hp3 := held_after hA hq
  have sA := hA.size
  have hltV : B < V.heap.size := held_lt hq
  have hbV : base ≤ V.heap.size := by omega
  have hbs : base ≤ (V.alloc (.cells #[.string s] 9)).heap.size := by omega
  have hE := els_one V #[.string s] 9 1 rfl
  have hne : (Value.slice a n cap).ownBlock ≠ some B := hO3.ne hp3 (by decide)
  have hef0 := hid (hK.out.trans (PEff.after (base := base) (p := B) (j := 0) hbV hltV hA))
  have hw0 := hid (wown_at hp3 (j := 0) (v := .slice a n cap) rfl)
  replace hne := hid hne
  replace hO3 := hid hO3
  replace hp3 := hid hp3
  replace hE := hid hE
  clear hA hq hO2 hQ hK
  go_wp2_with (first | (at_builtin; refine wpList_appE rfl (.tmp 21) (.tmp 23) 26 rfl base 9 1 16 strO23 (by decide) (.slice a n cap) n (strV23 L).flatten rfl hO3.out (some ⟨_, 0, none⟩) 1 1 (strV23 [s]) rfl hE.out (strV23_one [s]) (by unfold maxLen; omega) (by omega) hbs ?_))
  intro a' cap' W9 hO9 hG hN
  have hp9 := (hG.block B (by omega) (fun e => hne.out e.symm)).trans hp3.out
  have y0 := held_cell hp9 0 _ rfl
  have y1 := held_free hp9 0
  obtain ⟨S1, hS1, s1, o1⟩ := st1 hp9 0 (.slice a' (n + 1) cap')
  have hfin : RowW S1 base B E (L ++ [s]) := ⟨a', cap', (by rw [hLn.out]; exact s1), (by rw [hLn.out, strV23_app]; exact (hO9.kept (fun g hg => o1.block g (fun e => by subst e; exact (hO9.ne hp9 (by decide)) hg))))⟩
  have hef : PEff base B 0 w S1 := hef0.out.trans ⟨((Below.refl _ _).grown hG hbs (fun k e => (hO3.out.lt k e).1)).trans ⟨o1.os, o1.tape, o1.output, by rw [o1.size]; exact Nat.le_refl _, fun k hk => o1.block k (by omega)⟩, by rw [← hS1]; exact Owp.set hp9 (by simp) hG (fun k e => by rw [hw0.out]; exact e) (fun k e => by rw [hw0.out, World.size_alloc]; exact hN k e)⟩
  clear hO9 hp9 hG hN o1 s1
  replace hfin := hid hfin
  replace hef := hid hef
  go_wp2_with fail
  go_end0
  exact ⟨rfl, hfin.out, hef.out⟩
set_option maxRecDepth 100000 in
set_option maxHeartbeats 2000000 in
theorem rdone_any (base B : Nat) (e : Int) (L : List ByteArray) (w : World) (hP : RowW w base B e L) (hl : L.length ≤ 1000) : Calls Tryd.prog 34 #[.pointer (some ⟨B, 0, none⟩)] w fun r w' => DnOk w e L r w' := by
  obtain ⟨a, cap, hp, hO⟩ := hP
  have hE := hO.els (strV23_len L) (strV23_m L)
  have z1 := held_cell hp 2 _ rfl
  have z2 := held_cell hp 0 _ rfl
  replace hp := hid hp
  clear hO
  by_cases c : e = 0
  case neg =>
    have q : (e != 0) = true := by simpa using c
    have hd2 := hid (fun (w2 : World) (hB : After w w2) => (⟨none, 0, by rw [if_neg c]; rfl, by rw [if_neg c]; exact Els.nil _ _, (fun x hx => by cases hx), hB⟩ : DnOk w e L (.returned (.tuple #[.slice none 0 0, .int .i64 e])) w2))
    replace hE := hid hE
    clear c
    go_enter Tryd.func34, Tryd.ntmps34
    go_upto_region 2 with (fail)
    apply wp_region_seg (w := w) (S := [.q [], .q [], .q [], .q [], .q [], .q []]) (E := [.q0 _, .q0 _, .q0 _, .q0 _, .q0 _, .q0 _]) (by kernel_rfl) rfl (by kernel_rfl) rfl rfl
    intro th hge hne
    iterate 3 refine Seg.sq ?_
    refine Seg.sq ?_ (ht := Or.inl ⟨by rfl, fun U hU => vp_quiet (by (have h0 := held_cell (held_after hU.1 hp.out) 2 _ rfl; go_simp <;> exact rfl))⟩)
    refine Seg.sq ?_
    refine Seg.sq ?_
    refine Seg.stop (fun U1 hU hk => ?_)
    clear hk hge hne
    have sz1 := hU.size
    have hB : Below w.heap.size w U1 := hU
    clear hU
    go_wp2_with fail
    go_ret2
    exact hd2.out _ hB
  subst c
  have hA := (alloc_new w (.cells #[] 9)).2.1
  have z3 := held_cell (held_after hA hp.out) 0 _ rfl
  have hO := OwnE.lit (E := 9) w #[] 0 w.heap.size 1 (Nat.le_refl _) (by unfold maxLen; omega) rfl
  have hE2 := hE.below hA
  have sA := hA.size
  have hm := strV23_m L
  have h1 := strV23_one L
  have hlx := strV23_len L
  obtain ⟨n, hn⟩ : ∃ n, L.length = n := ⟨_, rfl⟩
  rw [hn] at hE2 hE hlx hl z2 z3
  have hdn := hid (fun (a' : Option Addr) (cap' : Nat) (w2 : World) (g1 : Els w2 1 a' n cap' (strV23 L)) (g2 : ∀ x, a' = some x → x.block < w2.heap.size) (g3 : After w w2) => (⟨a', cap', by rw [if_pos rfl, hn], by rw [if_pos rfl, hn]; exact g1, g2, g3⟩ : DnOk w 0 L (.returned (.tuple #[.slice a' n cap', .int .i64 0])) w2))
  clear hn hp
  obtain ⟨xs, hxs⟩ : ∃ xs, strV23 L = xs := ⟨_, rfl⟩
  rw [hxs] at hE2 hE hm hlx h1 hdn
  clear hxs
  replace hE2 := hid hE2
  replace hE := hid hE
  replace hm := hid hm
  replace hlx := hid hlx
  replace hA := hid hA
  replace hO := hid hO
  replace h1 := hid h1
  go_enter Tryd.func34, Tryd.ntmps34
  go_wp2_with (first | (at_builtin; refine wpList_appE rfl (.tmp 13) (.tmp 17) 26 rfl w.heap.size 9 1 16 strO23 (by decide) (.slice (some ⟨w.heap.size, 0, none⟩) 0 0) 0 [] rfl hO.out a n cap xs rfl hE2.out h1.out (by unfold maxLen; omega) (by omega) sA ?_))
  try simp only [Nat.zero_add, List.nil_append]
  intro a' cap' W9 hO9 hG hN
  try simp only [Nat.zero_add, List.nil_append] at hO9 hN
  have hfin := hid (hO9.els hlx.out hm.out)
  have hB9 := hid (hA.out.grown hG sA (fun k e => (hO.out.lt k e).1))
  have hbk : ∀ x, a' = some x → x.block < W9.heap.size := fun x hx => by
    obtain ⟨a2, c2, e2, -, -, -, h6⟩ := hO9.sl
    have hb := hO9.lt x.block
    cases e2
    obtain ⟨q1, q2, -⟩ := h6 x hx
    refine (hb ?_).2.1
    subst hx
    obtain ⟨b, o, s⟩ := x
    dsimp only at q1 q2
    subst q1 q2
    rfl
  replace hbk := hid hbk
  clear hO9 hG hN
  go_wp2_with fail
  go_ret2
  try simp only [Nat.zero_add]
  exact hdn.out _ _ _ hfin.out hbk.out hB9.out

end Go.Proofs.YtobgibmpodggkaaDoor
