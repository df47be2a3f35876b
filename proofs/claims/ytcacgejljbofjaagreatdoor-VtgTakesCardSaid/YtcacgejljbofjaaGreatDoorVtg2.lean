/- Package vtg: what is put. -/
import Derived.Test.YtcacgejljbofjaaGreatDoorVtg
import Derived.Laws.EntriesVeiled
import Derived.Laws.Tables
import Derived.Laws.Rows
import Derived.Deep.DeepCutAuto
namespace Go.Proofs.YtcacgejljbofjaaGreatDoor
open Go.ChangeShapes Go.WideShapes Go.ChangeAt Go.RowKit
set_option linter.unusedVariables false
set_option linter.unusedSimpArgs false

/-- What a message's fields are. -/
def vtI (g0i : Bool) (g0n : Int) (g1i : Bool) (g1n : Int) (g2i : Bool) (g2n : Int) (g3i : Bool) (g3n : Int) : List (List ByteArray × Int) := [([nb (putD g0i g0n 1 3 2 0 36000).1, ulS g0i ⟨#[84]⟩], (putD g0i g0n 1 3 2 0 36000).2), ([nb (putD g1i g1n 1 3 2 0 36000).1, ulS g1i ⟨#[77]⟩], (putD g1i g1n 1 3 2 0 36000).2), ([nb (putD g2i g2n 1 4 2 0 999999).1, ulS g2i ⟨#[78]⟩], (putD g2i g2n 1 4 2 0 999999).2), ([nb (putD g3i g3n 1 4 2 0 999999).1, ulS g3i ⟨#[75]⟩], (putD g3i g3n 1 4 2 0 999999).2)]
/-- A pen and a block beside it while the fields are put. -/
structure VPt (W0 : World) (B pp qb : Nat) (Q : Array Value) (e : Int) (L : List ByteArray) (W : World) : Prop where
  pen : PenIn W W0.heap.size B e L
  p : W.heap[pp]? = some (.cells #[.pointer (some ⟨B, 0, none⟩)] 58 (0, 0))
  q : W.heap[qb]? = some (.cells Q 61 (0, 0))
  tab : Tab W0
  bel : After W0 W
  np : pp ≠ B
  nq : qb ≠ B
  hb : W0.heap.size ≤ B
theorem VPt.eff {W0 : World} {B pp qb : Nat} {Q : Array Value} {e e' : Int} {L L' : List ByteArray} {W W' : World} (h : VPt W0 B pp qb Q e L W) (hP : PenIn W' W0.heap.size B e' L') (hK : PEff W0.heap.size B 2 W W') : VPt W0 B pp qb Q e' L' W' :=
  ⟨hP, h.pen.besides hK h.p h.np (by decide), h.pen.besides hK h.q h.nq (by decide), h.tab, (show Below W0.heap.size W0 W from h.bel).trans hK.below, h.np, h.nq, h.hb⟩
theorem VPt.below {W0 : World} {B pp qb : Nat} {Q : Array Value} {e : Int} {L : List ByteArray} {W W' : World} (h : VPt W0 B pp qb Q e L W) (hA : After W W') : VPt W0 B pp qb Q e L W' :=
  ⟨h.pen.aft hA, held_after hA h.p, held_after hA h.q, h.tab, bthen h.bel hA, h.np, h.nq, h.hb⟩
theorem VPt.tb {W0 : World} {B pp qb : Nat} {Q : Array Value} {e : Int} {L : List ByteArray} {W : World} (h : VPt W0 B pp qb Q e L W) : Tab W := h.tab.on h.bel
theorem PenIn.only28 {W W' : World} {base B p : Nat} {e : Int} {L : List ByteArray} {c : Array Value} {T : TypeId} (h : PenIn W base B e L) (k : Only p W W') (h1 : p ≠ B) (hp : W.heap[p]? = some (.cells c T (0, 0))) (hT : T ≠ 9) : PenIn W' base B e L := by
  obtain ⟨a, cap, g1, g2⟩ := h
  exact ⟨a, cap, (k.block _ h1.symm).trans g1, g2.kept (fun g hg => k.block g (fun e => by subst e; exact g2.ne hp hT hg))⟩
theorem VPt.only {W0 : World} {B pp qb p : Nat} {Q c : Array Value} {T : TypeId} {e : Int} {L : List ByteArray} {W W' : World} (h : VPt W0 B pp qb Q e L W) (k : Only p W W') (h1 : p ≠ B) (hp : W.heap[p]? = some (.cells c T (0, 0))) (hw : W0.heap.size ≤ p) (hT : T ≠ 9) (hT2 : T ≠ 58) (hT3 : T ≠ 61) : VPt W0 B pp qb Q e L W' :=
  ⟨h.pen.only28 k h1 hp hT, (k.block _ (heapT h.p hp hT2.symm)).trans h.p, (k.block _ (heapT h.q hp hT3.symm)).trans h.q, h.tab, belowS h.bel k hw, h.np, h.nq, h.hb⟩
theorem VPt.ne {W0 : World} {B pp qb p : Nat} {Q c : Array Value} {T : TypeId} {e : Int} {L : List ByteArray} {W : World} (h : VPt W0 B pp qb Q e L W) (hp : W.heap[p]? = some (.cells c T (0, 0))) (hT : T ≠ 75) : p ≠ B := by
  obtain ⟨a, cap, g1, -⟩ := h.pen
  exact heapT hp g1 hT
set_option maxRecDepth 100000 in
set_option maxHeartbeats 4000000 in
theorem vput1_any {W0 : World} {B pp qb : Nat} {Q : Array Value} {e : Int} {L : List ByteArray} {W : World} (i : Bool) (n Wc M Fc lo hi : Int) (l : ByteArray) (hn : (-9223372036854775808 ≤ n ∧ n ≤ 9223372036854775807)) (hlb : (-9223372036854775808 ≤ lo ∧ lo ≤ 9223372036854775807) ∧ (-9223372036854775808 ≤ hi ∧ hi ≤ 9223372036854775807)) (hl : L.length ≤ 900) (h : VPt W0 B pp qb Q e L W) : Calls Tryz.prog 29 #[.agg #[.bool i, .int .i64 n], .agg #[.int .i64 Wc, .int .i64 M, .int .i64 Fc, .int .i64 lo, .int .i64 hi, .string l], .pointer (some ⟨pp, 0, none⟩)] W fun r W' => r = .returned (.tuple #[]) ∧ VPt W0 B pp qb Q (kp e (putD i n Wc M Fc lo hi).2) (L ++ [nb (putD i n Wc M Fc lo hi).1, ulS i l]) W' := by
  have k0 : ∀ e, kp e 0 = e := fun e => by unfold kp; split <;> omega
  have kn := hid (fun U hh ht => pnum_any W0.heap.size B e L i n Wc M Fc lo hi U hh (by omega) h.hb hn hlb ht)
  obtain ⟨⟨PL, x⟩, hx⟩ : ∃ r, putD i n Wc M Fc lo hi = r := ⟨_, rfl⟩
  rw [hx] at kn
  rw [hx]
  dsimp only at kn ⊢
  obtain ⟨T8, hT8⟩ : ∃ T, nb PL = T := ⟨_, rfl⟩
  rw [hT8] at kn ⊢
  clear hx hT8
  have hbs := h.bel.size
  go_enter Tryz.func29, Tryz.ntmps29
  go_upto_region 0 with (fail)
  apply wp_region_seg0 (w := W) (S := [.al 1000, .al 1000]) (E := [.al ((fun p => .pointer (some ⟨p, 0, none⟩)), _) 1000, .al ((fun p => .pointer (some ⟨p, 0, none⟩)), _) 1000]) rfl (by kernel_rfl) rfl rfl
  intro th hge hne
  refine Seg.step _ rfl ⟨by rfl, fun U hU => ?_⟩ ?_
  · go_simp; exact vp_alloc rfl rfl rfl
  refine Seg.sa ?_
  refine Seg.step _ rfl ⟨by rfl, fun U hU => ?_⟩ ?_
  · go_simp; exact vp_alloc rfl rfl rfl
  refine Seg.sa ?_
  refine Seg.stop (fun U1 hU hk => ?_)
  have nb0 := hge 0 _ _ rfl
  have rb0 := (hk 0 _ _ rfl trivial).1.2 (by simp)
  have nb1 := hge 1 _ _ rfl
  have rb1 := (hk 1 _ _ rfl trivial).1.2 (by simp)
  have ne0_1 := hne 0 1 _ _ _ _ rfl rfl (by omega)
  clear hk hge hne
  generalize th (0 + 0) = p0_0 at *
  dsimp only at rb0
  generalize th (0 + 1) = p0_1 at *
  dsimp only at rb1
  replace h := h.below hU
  have r_p0_0 := rb0
  clear rb0
  have n_p0_0 := nb0
  clear nb0
  have d_p0_0_p0_1 := ne0_1
  clear ne0_1
  have r_p0_1 := rb1
  clear rb1
  have n_p0_1 := nb1
  clear nb1
  have sz1 := hU.size
  have hB : Below W.heap.size W U1 := hU
  clear hU
  have hw1 : W0.heap.size ≤ p0_1 := by omega
  clear hB n_p0_0 n_p0_1 sz1 hbs
  have nB0 := h.ne r_p0_0 (by decide)
  have nB1 := h.ne r_p0_1 (by decide)
  have c0 := held_cell h.p 0 _ rfl
  have a0 := held_cell r_p0_0 0 _ rfl
  have a1 := held_cell r_p0_0 1 _ rfl
  have b0 := held_cell r_p0_1 0 _ rfl
  have b1 := held_cell r_p0_1 1 _ rfl
  have b2 := held_cell r_p0_1 2 _ rfl
  have b3 := held_cell r_p0_1 3 _ rfl
  have b4 := held_cell r_p0_1 4 _ rfl
  have b5 := held_cell r_p0_1 5 _ rfl
  go_wp2_with fail
  refine (kn.out _ h.pen h.tb).mono ?_
  rintro r V ⟨rfl, hP2, hf2⟩
  replace r_p0_0 := h.pen.besides hf2 r_p0_0 nB0 (by decide)
  replace r_p0_1 := h.pen.besides hf2 r_p0_1 nB1 (by decide)
  replace h := h.eff hP2 hf2
  clear hP2 hf2 kn c0 a0 a1 b0 b1 b2 b3 b4 b5
  have c0 := held_cell h.p 0 _ rfl
  have a0 := held_cell r_p0_0 0 _ rfl
  have b5 := held_cell r_p0_1 5 _ rfl
  have f5 := held_free r_p0_1 5
  cases i
  case false =>
    obtain ⟨S, hS, s1, o1⟩ := set1 r_p0_1 5 (.string ⟨#[]⟩)
    have h3 := h.only o1 nB1 r_p0_1 hw1 (by decide) (by decide) (by decide)
    have s5 : S.cell? ⟨p0_1, 5, none⟩ = some (.string ⟨#[]⟩) := held_cell s1 5 _ rfl
    have c3 := held_cell h3.p 0 _ rfl
    clear h o1 r_p0_0 s1
    have h := h3
    clear h3
    have kt := hid (fun U hh => ptext_any W0.heap.size B (kp e x) 0 (L ++ [T8]) ⟨#[]⟩ U hh (by simp; omega) h.hb)
    go_wp2_with fail
    refine (kt.out _ h.pen).mono ?_
    rintro r V2 ⟨rfl, hP2, hf2⟩
    replace h := h.eff hP2 hf2
    rw [k0, List.append_assoc] at h
    go_wp2_with fail
    go_end0
    exact ⟨rfl, h⟩
  have kt := hid (fun U hh => ptext_any W0.heap.size B (kp e x) 0 (L ++ [T8]) l U hh (by simp; omega) h.hb)
  go_wp2_with fail
  refine (kt.out _ h.pen).mono ?_
  rintro r V2 ⟨rfl, hP2, hf2⟩
  replace h := h.eff hP2 hf2
  rw [k0, List.append_assoc] at h
  go_wp2_with fail
  go_end0
  exact ⟨rfl, h⟩
set_option maxRecDepth 100000 in
set_option maxHeartbeats 4000000 in
theorem row28 : ∀ W : World, (Instr.index 72 (.agg #[.int .i64 1, .int .i64 3, .int .i64 2, .int .i64 0, .int .i64 36000, .string ⟨#[84]⟩, .int .i64 1, .int .i64 3, .int .i64 2, .int .i64 0, .int .i64 36000, .string ⟨#[77]⟩, .int .i64 1, .int .i64 4, .int .i64 2, .int .i64 0, .int .i64 999999, .string ⟨#[78]⟩, .int .i64 1, .int .i64 4, .int .i64 2, .int .i64 0, .int .i64 999999, .string ⟨#[75]⟩]) (.int .i64 0)).run Tryz.prog W = .ok (.agg #[.int .i64 1, .int .i64 3, .int .i64 2, .int .i64 0, .int .i64 36000, .string ⟨#[84]⟩]) W ∧ (Instr.index 72 (.agg #[.int .i64 1, .int .i64 3, .int .i64 2, .int .i64 0, .int .i64 36000, .string ⟨#[84]⟩, .int .i64 1, .int .i64 3, .int .i64 2, .int .i64 0, .int .i64 36000, .string ⟨#[77]⟩, .int .i64 1, .int .i64 4, .int .i64 2, .int .i64 0, .int .i64 999999, .string ⟨#[78]⟩, .int .i64 1, .int .i64 4, .int .i64 2, .int .i64 0, .int .i64 999999, .string ⟨#[75]⟩]) (.int .i64 1)).run Tryz.prog W = .ok (.agg #[.int .i64 1, .int .i64 3, .int .i64 2, .int .i64 0, .int .i64 36000, .string ⟨#[77]⟩]) W ∧ (Instr.index 72 (.agg #[.int .i64 1, .int .i64 3, .int .i64 2, .int .i64 0, .int .i64 36000, .string ⟨#[84]⟩, .int .i64 1, .int .i64 3, .int .i64 2, .int .i64 0, .int .i64 36000, .string ⟨#[77]⟩, .int .i64 1, .int .i64 4, .int .i64 2, .int .i64 0, .int .i64 999999, .string ⟨#[78]⟩, .int .i64 1, .int .i64 4, .int .i64 2, .int .i64 0, .int .i64 999999, .string ⟨#[75]⟩]) (.int .i64 2)).run Tryz.prog W = .ok (.agg #[.int .i64 1, .int .i64 4, .int .i64 2, .int .i64 0, .int .i64 999999, .string ⟨#[78]⟩]) W ∧ (Instr.index 72 (.agg #[.int .i64 1, .int .i64 3, .int .i64 2, .int .i64 0, .int .i64 36000, .string ⟨#[84]⟩, .int .i64 1, .int .i64 3, .int .i64 2, .int .i64 0, .int .i64 36000, .string ⟨#[77]⟩, .int .i64 1, .int .i64 4, .int .i64 2, .int .i64 0, .int .i64 999999, .string ⟨#[78]⟩, .int .i64 1, .int .i64 4, .int .i64 2, .int .i64 0, .int .i64 999999, .string ⟨#[75]⟩]) (.int .i64 3)).run Tryz.prog W = .ok (.agg #[.int .i64 1, .int .i64 4, .int .i64 2, .int .i64 0, .int .i64 999999, .string ⟨#[75]⟩]) W := by
  intro W
  exact ⟨rfl, rfl, rfl, rfl⟩
set_option maxRecDepth 100000 in
set_option maxHeartbeats 8000000 in
theorem veachp_any (w : World) {B pp : Nat} {W0 : World} (g0i : Bool) (g0n : Int) (g1i : Bool) (g1n : Int) (g2i : Bool) (g2n : Int) (g3i : Bool) (g3n : Int) (bb : (-9223372036854775808 ≤ g0n ∧ g0n ≤ 9223372036854775807) ∧ (-9223372036854775808 ≤ g1n ∧ g1n ≤ 9223372036854775807) ∧ (-9223372036854775808 ≤ g2n ∧ g2n ≤ 9223372036854775807) ∧ (-9223372036854775808 ≤ g3n ∧ g3n ≤ 9223372036854775807)) (hP : PenIn w W0.heap.size B 0 []) (hp : w.heap[pp]? = some (.cells #[.pointer (some ⟨B, 0, none⟩)] 58 (0, 0))) (hT : Tab W0) (hA0 : After W0 w) (np : pp ≠ B) (hb : W0.heap.size ≤ B) : Calls Tryz.prog 28 #[.agg #[.bool g0i, .int .i64 g0n, .bool g1i, .int .i64 g1n, .bool g2i, .int .i64 g2n, .bool g3i, .int .i64 g3n], .func (.func 29) #[] #[.pointer (some ⟨pp, 0, none⟩)]] w fun r w' => r = .returned (.tuple #[]) ∧ PenIn w' W0.heap.size B (fE (vtI g0i g0n g1i g1n g2i g2n g3i g3n)) (fL (vtI g0i g0n g1i g1n g2i g2n g3i g3n)) ∧ w'.heap[pp]? = some (.cells #[.pointer (some ⟨B, 0, none⟩)] 58 (0, 0)) ∧ After W0 w' := by
  obtain ⟨bg0n, bg1n, bg2n, bg3n⟩ := bb
  replace bg0n := hid bg0n
  replace bg1n := hid bg1n
  replace bg2n := hid bg2n
  replace bg3n := hid bg3n
  obtain ⟨⟨P0, x0⟩, h0⟩ : ∃ r, putD g0i g0n 1 3 2 0 36000 = r := ⟨_, rfl⟩
  obtain ⟨N0, hN0⟩ : ∃ S, nb P0 = S := ⟨_, rfl⟩
  obtain ⟨u0, hu0⟩ : ∃ S, ulS g0i ⟨#[84]⟩ = S := ⟨_, rfl⟩
  obtain ⟨⟨P1, x1⟩, h1⟩ : ∃ r, putD g1i g1n 1 3 2 0 36000 = r := ⟨_, rfl⟩
  obtain ⟨N1, hN1⟩ : ∃ S, nb P1 = S := ⟨_, rfl⟩
  obtain ⟨u1, hu1⟩ : ∃ S, ulS g1i ⟨#[77]⟩ = S := ⟨_, rfl⟩
  obtain ⟨⟨P2, x2⟩, h2⟩ : ∃ r, putD g2i g2n 1 4 2 0 999999 = r := ⟨_, rfl⟩
  obtain ⟨N2, hN2⟩ : ∃ S, nb P2 = S := ⟨_, rfl⟩
  obtain ⟨u2, hu2⟩ : ∃ S, ulS g2i ⟨#[78]⟩ = S := ⟨_, rfl⟩
  obtain ⟨⟨P3, x3⟩, h3⟩ : ∃ r, putD g3i g3n 1 4 2 0 999999 = r := ⟨_, rfl⟩
  obtain ⟨N3, hN3⟩ : ∃ S, nb P3 = S := ⟨_, rfl⟩
  obtain ⟨u3, hu3⟩ : ∃ S, ulS g3i ⟨#[75]⟩ = S := ⟨_, rfl⟩
  have hI : vtI g0i g0n g1i g1n g2i g2n g3i g3n = [([N0, u0], x0), ([N1, u1], x1), ([N2, u2], x2), ([N3, u3], x3)] := by unfold vtI; rw [h0, h1, h2, h3, hN0, hN1, hN2, hN3, hu0, hu1, hu2, hu3]
  rw [hI]
  clear hI
  replace h0 := hid h0
  replace hN0 := hid hN0
  replace hu0 := hid hu0
  replace h1 := hid h1
  replace hN1 := hid hN1
  replace hu1 := hid hu1
  replace h2 := hid h2
  replace hN2 := hid hN2
  replace hu2 := hid hu2
  replace h3 := hid h3
  replace hN3 := hid hN3
  replace hu3 := hid hu3
  replace hT := hid hT
  have hpl := hP.lt
  go_enter Tryz.func28, Tryz.ntmps28
  go_upto_region 0 with (fail)
  apply wp_region_seg0 (w := w) (S := [.al 1000]) (E := [.al ((fun p => .pointer (some ⟨p, 0, none⟩)), _) 1000]) rfl (by kernel_rfl) rfl rfl
  intro th hge hne
  refine Seg.step _ rfl ⟨by rfl, fun U hU => ?_⟩ ?_
  · go_simp; exact vp_alloc rfl rfl rfl
  refine Seg.sa ?_
  refine Seg.stop (fun U1 hU hk => ?_)
  have nb0 := hge 0 _ _ rfl
  have rb0 := (hk 0 _ _ rfl trivial).1.2 (by simp)
  clear hk hge hne
  generalize th (0 + 0) = p0_0 at *
  dsimp only at rb0
  replace hp := held_after hU hp
  replace hP := hP.below hU
  have r_p0_0 := rb0
  clear rb0
  have n_p0_0 := nb0
  clear nb0
  have sz1 := hU.size
  have hB : Below w.heap.size w U1 := hU
  clear hU
  have hpl2 := hP.lt
  have h : VPt W0 B pp p0_0 #[.bool g0i, .int .i64 g0n, .bool g1i, .int .i64 g1n, .bool g2i, .int .i64 g2n, .bool g3i, .int .i64 g3n] 0 [] U1 := ⟨hP, hp, r_p0_0, hT.out, bthen hA0 hB, np, by omega, hb⟩
  clear hP hp r_p0_0 hB hpl hpl2 hA0
  go_upto_region 1 with (fail)
  apply wp_region_seg0 (w := U1) (S := [.q [], .q [], .q [], .q [], .q [], .q [], .q [], .q [], .q [], .al 10, .st 9 []]) (E := [.c0 _, .q0 _, .c0 _, .q0 _, .c0 _, .q0 _, .c0 _, .q0 _, .q0 _, .al ((fun p => .pointer (some ⟨p, 0, none⟩)), _) 10, .s0 9 (.cells _ _)]) rfl (by kernel_rfl) rfl rfl
  intro th hge hne
  refine Seg.step _ rfl (Or.inl ⟨by rfl, fun U hU => ?_⟩) ?_
  · go_simp
    refine vp_call (p28courseCol_any _)
  refine Seg.sa ?_
  refine Seg.sq ?_
  refine Seg.step _ rfl (Or.inl ⟨by rfl, fun U hU => ?_⟩) ?_
  · go_simp
    refine vp_call (p28courseCol_any _)
  refine Seg.sa ?_
  refine Seg.sq ?_
  refine Seg.step _ rfl (Or.inl ⟨by rfl, fun U hU => ?_⟩) ?_
  · go_simp
    refine vp_call (p28speedCol_any _)
  refine Seg.sa ?_
  refine Seg.sq ?_
  refine Seg.step _ rfl (Or.inl ⟨by rfl, fun U hU => ?_⟩) ?_
  · go_simp
    refine vp_call (p28speedCol_any _)
  refine Seg.sa ?_
  refine Seg.sq ?_
  refine Seg.sq ?_
  refine Seg.step _ rfl ⟨by rfl, fun U hU => ?_⟩ ?_
  · go_simp; exact vp_alloc rfl rfl rfl
  refine Seg.sa ?_
  refine Seg.step _ rfl ⟨by rfl, fun U z k hz hU hc => ?_⟩ ?_
  · have hz2 := Option.some.inj hz
    cases hz2; clear hz
    exact vp_store_agg _ _ _ rfl hc rfl rfl (by kernel_rfl) rfl (by rfl)
  refine Seg.sa ?_
  refine Seg.stop (fun U2 hU hk => ?_)
  have nb9 := hge 9 _ _ rfl
  have rb9 := (hk 9 _ 10 rfl trivial).1.1 trivial _ (Nat.zero_le _) rfl
  clear hk hge hne
  generalize th (0 + 9) = p1_9 at *
  simp only [Ent.obj] at rb9
  replace h := h.below hU
  have r_p1_9 := rb9
  clear rb9
  have n_p1_9 := nb9
  clear nb9
  have sz2 := hU.size
  have hB : Below U1.heap.size U1 U2 := hU
  clear hU
  clear hB
  have hr := row28
  go_upto_region 2 with (fail)
  go_wp2_with (first | (refine wpList_load_row rfl 72 (.tmp 4) rfl p1_9 rfl 72 #[.int .i64 1, .int .i64 3, .int .i64 2, .int .i64 0, .int .i64 36000, .string ⟨#[84]⟩, .int .i64 1, .int .i64 3, .int .i64 2, .int .i64 0, .int .i64 36000, .string ⟨#[77]⟩, .int .i64 1, .int .i64 4, .int .i64 2, .int .i64 0, .int .i64 999999, .string ⟨#[78]⟩, .int .i64 1, .int .i64 4, .int .i64 2, .int .i64 0, .int .i64 999999, .string ⟨#[75]⟩] (0, 0) _ r_p1_9 Tryz.underlying72 rfl (by kernel_rfl) ?_))
  clear r_p1_9
  go_loopw [17] (fun ix wr => (ix = .int .i64 0 ∧ VPt W0 B pp p0_0 #[.bool g0i, .int .i64 g0n, .bool g1i, .int .i64 g1n, .bool g2i, .int .i64 g2n, .bool g3i, .int .i64 g3n] 0 [] wr) ∨ (ix = .int .i64 1 ∧ VPt W0 B pp p0_0 #[.bool g0i, .int .i64 g0n, .bool g1i, .int .i64 g1n, .bool g2i, .int .i64 g2n, .bool g3i, .int .i64 g3n] (kp 0 x0) [N0, u0] wr) ∨ (ix = .int .i64 2 ∧ VPt W0 B pp p0_0 #[.bool g0i, .int .i64 g0n, .bool g1i, .int .i64 g1n, .bool g2i, .int .i64 g2n, .bool g3i, .int .i64 g3n] (kp (kp 0 x0) x1) [N0, u0, N1, u1] wr) ∨ (ix = .int .i64 3 ∧ VPt W0 B pp p0_0 #[.bool g0i, .int .i64 g0n, .bool g1i, .int .i64 g1n, .bool g2i, .int .i64 g2n, .bool g3i, .int .i64 g3n] (kp (kp (kp 0 x0) x1) x2) [N0, u0, N1, u1, N2, u2] wr) ∨ (ix = .int .i64 4 ∧ VPt W0 B pp p0_0 #[.bool g0i, .int .i64 g0n, .bool g1i, .int .i64 g1n, .bool g2i, .int .i64 g2n, .bool g3i, .int .i64 g3n] (kp (kp (kp (kp 0 x0) x1) x2) x3) [N0, u0, N1, u1, N2, u2, N3, u3] wr)) (fun ix _ => 4 - (intOf ix).toNat)
  case atStart => exact .inl ⟨rfl, h⟩
  case round =>
    clear h
    rcases hrel with ⟨rfl, h⟩ | ⟨rfl, h⟩ | ⟨rfl, h⟩ | ⟨rfl, h⟩ | ⟨rfl, h⟩
    · have hi := fun W => (hr W).1
      have kt := hid (fun (U : World) (hh : VPt W0 B pp p0_0 #[.bool g0i, .int .i64 g0n, .bool g1i, .int .i64 g1n, .bool g2i, .int .i64 g2n, .bool g3i, .int .i64 g3n] 0 [] U) => vput1_any (W := U) g0i g0n 1 3 2 0 36000 ⟨#[84]⟩ bg0n.out (by decide) (show ([] : List ByteArray).length ≤ 900 by simp) hh)
      rw [h0.out, hu0.out] at kt
      dsimp only at kt
      rw [hN0.out] at kt
      have nw := alloc_new wr (.cells #[.int .i64 1, .int .i64 3, .int .i64 2, .int .i64 0, .int .i64 36000, .string ⟨#[84]⟩] 45)
      go_upto_region 5 with (fail)
      obtain ⟨Z, hZ⟩ : ∃ X, wr.alloc (.cells #[.int .i64 1, .int .i64 3, .int .i64 2, .int .i64 0, .int .i64 36000, .string ⟨#[84]⟩] 45) = X := ⟨_, rfl⟩
      rw [hZ] at nw ⊢
      obtain ⟨pa, hpa⟩ : ∃ X, wr.heap.size = X := ⟨_, rfl⟩
      rw [hpa] at nw ⊢
      replace hZ := hid hZ
      replace hpa := hid hpa
      have ra := nw.2.2
      replace h := h.below nw.2.1
      have hq := h.q
      clear nw
      apply wp_region_part (w := Z) (S := [.q [], .q [], .q [], .q [], .q []]) (E := [.q0 _, .q0 _, .q0 _, .q0 _, .q0 _]) 5 1 (by kernel_rfl) rfl (by kernel_rfl) rfl rfl rfl
      intro th hge hne
      iterate 3 refine Seg.sq ?_
      refine Seg.sq ?_ (ht := Or.inl ⟨by rfl, fun U hU => vp_quiet (by (have h50 := held_cell (held_after hU.1 hq) 0 _ rfl; have h51 := held_cell (held_after hU.1 hq) 1 _ rfl; go_simp <;> exact rfl))⟩)
      refine Seg.sq ?_ (ht := Or.inl ⟨by rfl, fun U hU => vp_quiet (by (have h0 := held_cell (held_after hU.1 ra) 0 _ rfl; have h1 := held_cell (held_after hU.1 ra) 1 _ rfl; have h2 := held_cell (held_after hU.1 ra) 2 _ rfl; have h3 := held_cell (held_after hU.1 ra) 3 _ rfl; have h4 := held_cell (held_after hU.1 ra) 4 _ rfl; have h5 := held_cell (held_after hU.1 ra) 5 _ rfl; go_simp <;> exact rfl))⟩)
      refine Seg.stop (fun U11 hU hk => ?_)
      clear hk hge hne
      replace ra := held_after hU ra
      replace hq := held_after hU hq
      replace h := h.below hU
      have sz11 := hU.size
      have hB : Below Z.heap.size Z U11 := hU
      clear hU hB ra hq
      refine Seg.only (m := 5) (k := 0) rfl (by kernel_rfl) (by rfl) (fun K hK => ?_)
      go_simp
      refine (kt.out _ h).mono ?_
      rintro r V ⟨rfl, h9⟩
      refine hK _ _ (Seg.finish ?_ _)
      clear hK h kt
      replace h9 : VPt W0 B pp p0_0 #[.bool g0i, .int .i64 g0n, .bool g1i, .int .i64 g1n, .bool g2i, .int .i64 g2n, .bool g3i, .int .i64 g3n] (kp 0 x0) [N0, u0] V := h9
      go_wp2_with fail
      go_roundw
      case rel => exact .inr (.inl ⟨rfl, h9⟩)
      case measure => simp [intOf]
    · have hi := fun W => (hr W).2.1
      have kt := hid (fun (U : World) (hh : VPt W0 B pp p0_0 #[.bool g0i, .int .i64 g0n, .bool g1i, .int .i64 g1n, .bool g2i, .int .i64 g2n, .bool g3i, .int .i64 g3n] (kp 0 x0) [N0, u0] U) => vput1_any (W := U) g1i g1n 1 3 2 0 36000 ⟨#[77]⟩ bg1n.out (by decide) (show ([N0, u0] : List ByteArray).length ≤ 900 by simp) hh)
      rw [h1.out, hu1.out] at kt
      dsimp only at kt
      rw [hN1.out] at kt
      have nw := alloc_new wr (.cells #[.int .i64 1, .int .i64 3, .int .i64 2, .int .i64 0, .int .i64 36000, .string ⟨#[77]⟩] 45)
      go_upto_region 5 with (fail)
      obtain ⟨Z, hZ⟩ : ∃ X, wr.alloc (.cells #[.int .i64 1, .int .i64 3, .int .i64 2, .int .i64 0, .int .i64 36000, .string ⟨#[77]⟩] 45) = X := ⟨_, rfl⟩
      rw [hZ] at nw ⊢
      obtain ⟨pa, hpa⟩ : ∃ X, wr.heap.size = X := ⟨_, rfl⟩
      rw [hpa] at nw ⊢
      replace hZ := hid hZ
      replace hpa := hid hpa
      have ra := nw.2.2
      replace h := h.below nw.2.1
      have hq := h.q
      clear nw
      apply wp_region_part (w := Z) (S := [.q [], .q [], .q [], .q [], .q []]) (E := [.q0 _, .q0 _, .q0 _, .q0 _, .q0 _]) 5 1 (by kernel_rfl) rfl (by kernel_rfl) rfl rfl rfl
      intro th hge hne
      iterate 3 refine Seg.sq ?_
      refine Seg.sq ?_ (ht := Or.inl ⟨by rfl, fun U hU => vp_quiet (by (have h50 := held_cell (held_after hU.1 hq) 2 _ rfl; have h51 := held_cell (held_after hU.1 hq) 3 _ rfl; go_simp <;> exact rfl))⟩)
      refine Seg.sq ?_ (ht := Or.inl ⟨by rfl, fun U hU => vp_quiet (by (have h0 := held_cell (held_after hU.1 ra) 0 _ rfl; have h1 := held_cell (held_after hU.1 ra) 1 _ rfl; have h2 := held_cell (held_after hU.1 ra) 2 _ rfl; have h3 := held_cell (held_after hU.1 ra) 3 _ rfl; have h4 := held_cell (held_after hU.1 ra) 4 _ rfl; have h5 := held_cell (held_after hU.1 ra) 5 _ rfl; go_simp <;> exact rfl))⟩)
      refine Seg.stop (fun U21 hU hk => ?_)
      clear hk hge hne
      replace ra := held_after hU ra
      replace hq := held_after hU hq
      replace h := h.below hU
      have sz21 := hU.size
      have hB : Below Z.heap.size Z U21 := hU
      clear hU hB ra hq
      refine Seg.only (m := 5) (k := 0) rfl (by kernel_rfl) (by rfl) (fun K hK => ?_)
      go_simp
      refine (kt.out _ h).mono ?_
      rintro r V ⟨rfl, h9⟩
      refine hK _ _ (Seg.finish ?_ _)
      clear hK h kt
      replace h9 : VPt W0 B pp p0_0 #[.bool g0i, .int .i64 g0n, .bool g1i, .int .i64 g1n, .bool g2i, .int .i64 g2n, .bool g3i, .int .i64 g3n] (kp (kp 0 x0) x1) [N0, u0, N1, u1] V := h9
      go_wp2_with fail
      go_roundw
      case rel => exact .inr (.inr (.inl ⟨rfl, h9⟩))
      case measure => simp [intOf]
    · have hi := fun W => (hr W).2.2.1
      have kt := hid (fun (U : World) (hh : VPt W0 B pp p0_0 #[.bool g0i, .int .i64 g0n, .bool g1i, .int .i64 g1n, .bool g2i, .int .i64 g2n, .bool g3i, .int .i64 g3n] (kp (kp 0 x0) x1) [N0, u0, N1, u1] U) => vput1_any (W := U) g2i g2n 1 4 2 0 999999 ⟨#[78]⟩ bg2n.out (by decide) (show ([N0, u0, N1, u1] : List ByteArray).length ≤ 900 by simp) hh)
      rw [h2.out, hu2.out] at kt
      dsimp only at kt
      rw [hN2.out] at kt
      have nw := alloc_new wr (.cells #[.int .i64 1, .int .i64 4, .int .i64 2, .int .i64 0, .int .i64 999999, .string ⟨#[78]⟩] 45)
      go_upto_region 5 with (fail)
      obtain ⟨Z, hZ⟩ : ∃ X, wr.alloc (.cells #[.int .i64 1, .int .i64 4, .int .i64 2, .int .i64 0, .int .i64 999999, .string ⟨#[78]⟩] 45) = X := ⟨_, rfl⟩
      rw [hZ] at nw ⊢
      obtain ⟨pa, hpa⟩ : ∃ X, wr.heap.size = X := ⟨_, rfl⟩
      rw [hpa] at nw ⊢
      replace hZ := hid hZ
      replace hpa := hid hpa
      have ra := nw.2.2
      replace h := h.below nw.2.1
      have hq := h.q
      clear nw
      apply wp_region_part (w := Z) (S := [.q [], .q [], .q [], .q [], .q []]) (E := [.q0 _, .q0 _, .q0 _, .q0 _, .q0 _]) 5 1 (by kernel_rfl) rfl (by kernel_rfl) rfl rfl rfl
      intro th hge hne
      iterate 3 refine Seg.sq ?_
      refine Seg.sq ?_ (ht := Or.inl ⟨by rfl, fun U hU => vp_quiet (by (have h50 := held_cell (held_after hU.1 hq) 4 _ rfl; have h51 := held_cell (held_after hU.1 hq) 5 _ rfl; go_simp <;> exact rfl))⟩)
      refine Seg.sq ?_ (ht := Or.inl ⟨by rfl, fun U hU => vp_quiet (by (have h0 := held_cell (held_after hU.1 ra) 0 _ rfl; have h1 := held_cell (held_after hU.1 ra) 1 _ rfl; have h2 := held_cell (held_after hU.1 ra) 2 _ rfl; have h3 := held_cell (held_after hU.1 ra) 3 _ rfl; have h4 := held_cell (held_after hU.1 ra) 4 _ rfl; have h5 := held_cell (held_after hU.1 ra) 5 _ rfl; go_simp <;> exact rfl))⟩)
      refine Seg.stop (fun U31 hU hk => ?_)
      clear hk hge hne
      replace ra := held_after hU ra
      replace hq := held_after hU hq
      replace h := h.below hU
      have sz31 := hU.size
      have hB : Below Z.heap.size Z U31 := hU
      clear hU hB ra hq
      refine Seg.only (m := 5) (k := 0) rfl (by kernel_rfl) (by rfl) (fun K hK => ?_)
      go_simp
      refine (kt.out _ h).mono ?_
      rintro r V ⟨rfl, h9⟩
      refine hK _ _ (Seg.finish ?_ _)
      clear hK h kt
      replace h9 : VPt W0 B pp p0_0 #[.bool g0i, .int .i64 g0n, .bool g1i, .int .i64 g1n, .bool g2i, .int .i64 g2n, .bool g3i, .int .i64 g3n] (kp (kp (kp 0 x0) x1) x2) [N0, u0, N1, u1, N2, u2] V := h9
      go_wp2_with fail
      go_roundw
      case rel => exact .inr (.inr (.inr (.inl ⟨rfl, h9⟩)))
      case measure => simp [intOf]
    · have hi := fun W => (hr W).2.2.2
      have kt := hid (fun (U : World) (hh : VPt W0 B pp p0_0 #[.bool g0i, .int .i64 g0n, .bool g1i, .int .i64 g1n, .bool g2i, .int .i64 g2n, .bool g3i, .int .i64 g3n] (kp (kp (kp 0 x0) x1) x2) [N0, u0, N1, u1, N2, u2] U) => vput1_any (W := U) g3i g3n 1 4 2 0 999999 ⟨#[75]⟩ bg3n.out (by decide) (show ([N0, u0, N1, u1, N2, u2] : List ByteArray).length ≤ 900 by simp) hh)
      rw [h3.out, hu3.out] at kt
      dsimp only at kt
      rw [hN3.out] at kt
      have nw := alloc_new wr (.cells #[.int .i64 1, .int .i64 4, .int .i64 2, .int .i64 0, .int .i64 999999, .string ⟨#[75]⟩] 45)
      go_upto_region 5 with (fail)
      obtain ⟨Z, hZ⟩ : ∃ X, wr.alloc (.cells #[.int .i64 1, .int .i64 4, .int .i64 2, .int .i64 0, .int .i64 999999, .string ⟨#[75]⟩] 45) = X := ⟨_, rfl⟩
      rw [hZ] at nw ⊢
      obtain ⟨pa, hpa⟩ : ∃ X, wr.heap.size = X := ⟨_, rfl⟩
      rw [hpa] at nw ⊢
      replace hZ := hid hZ
      replace hpa := hid hpa
      have ra := nw.2.2
      replace h := h.below nw.2.1
      have hq := h.q
      clear nw
      apply wp_region_part (w := Z) (S := [.q [], .q [], .q [], .q [], .q []]) (E := [.q0 _, .q0 _, .q0 _, .q0 _, .q0 _]) 5 1 (by kernel_rfl) rfl (by kernel_rfl) rfl rfl rfl
      intro th hge hne
      iterate 3 refine Seg.sq ?_
      refine Seg.sq ?_ (ht := Or.inl ⟨by rfl, fun U hU => vp_quiet (by (have h50 := held_cell (held_after hU.1 hq) 6 _ rfl; have h51 := held_cell (held_after hU.1 hq) 7 _ rfl; go_simp <;> exact rfl))⟩)
      refine Seg.sq ?_ (ht := Or.inl ⟨by rfl, fun U hU => vp_quiet (by (have h0 := held_cell (held_after hU.1 ra) 0 _ rfl; have h1 := held_cell (held_after hU.1 ra) 1 _ rfl; have h2 := held_cell (held_after hU.1 ra) 2 _ rfl; have h3 := held_cell (held_after hU.1 ra) 3 _ rfl; have h4 := held_cell (held_after hU.1 ra) 4 _ rfl; have h5 := held_cell (held_after hU.1 ra) 5 _ rfl; go_simp <;> exact rfl))⟩)
      refine Seg.stop (fun U41 hU hk => ?_)
      clear hk hge hne
      replace ra := held_after hU ra
      replace hq := held_after hU hq
      replace h := h.below hU
      have sz41 := hU.size
      have hB : Below Z.heap.size Z U41 := hU
      clear hU hB ra hq
      refine Seg.only (m := 5) (k := 0) rfl (by kernel_rfl) (by rfl) (fun K hK => ?_)
      go_simp
      refine (kt.out _ h).mono ?_
      rintro r V ⟨rfl, h9⟩
      refine hK _ _ (Seg.finish ?_ _)
      clear hK h kt
      replace h9 : VPt W0 B pp p0_0 #[.bool g0i, .int .i64 g0n, .bool g1i, .int .i64 g1n, .bool g2i, .int .i64 g2n, .bool g3i, .int .i64 g3n] (kp (kp (kp (kp 0 x0) x1) x2) x3) [N0, u0, N1, u1, N2, u2, N3, u3] V := h9
      go_wp2_with fail
      go_roundw
      case rel => exact .inr (.inr (.inr (.inr (⟨rfl, h9⟩))))
      case measure => simp [intOf]
    · go_wp2_with fail
      go_end0
      exact ⟨rfl, h.pen, h.p, h.bel⟩
set_option maxRecDepth 100000 in
set_option maxHeartbeats 8000000 in
theorem vtput_any (g0i : Bool) (g0n : Int) (g1i : Bool) (g1n : Int) (g2i : Bool) (g2n : Int) (g3i : Bool) (g3n : Int) (w : World) (bb : (-9223372036854775808 ≤ g0n ∧ g0n ≤ 9223372036854775807) ∧ (-9223372036854775808 ≤ g1n ∧ g1n ≤ 9223372036854775807) ∧ (-9223372036854775808 ≤ g2n ∧ g2n ≤ 9223372036854775807) ∧ (-9223372036854775808 ≤ g3n ∧ g3n ≤ 9223372036854775807)) (hT : Tab w) : Calls Tryz.prog 9 #[.agg #[.bool g0i, .int .i64 g0n, .bool g1i, .int .i64 g1n, .bool g2i, .int .i64 g2n, .bool g3i, .int .i64 g3n]] w fun r w' => DnOk w (fE (vtI g0i g0n g1i g1n g2i g2n g3i g3n)) (fL (vtI g0i g0n g1i g1n g2i g2n g3i g3n)) r w' := by
  replace bb := hid bb
  have hmf : ∀ (fn : Fn) (first cap : Array Value) (w : World), (Instr.makeFunc fn first cap).run Tryz.prog w = .ok (.func fn first cap) w := fun _ _ _ _ => rfl
  replace hT := hid hT
  go_enter Tryz.func9, Tryz.ntmps9
  go_upto_region 0 with (fail)
  apply wp_region_seg0 (w := w) (S := [.al 1000, .q [], .q []]) (E := [.al ((fun p => .pointer (some ⟨p, 0, none⟩)), _) 1000, .q0 _, .q0 _]) rfl (by kernel_rfl) rfl rfl
  intro th hge hne
  refine Seg.step _ rfl ⟨by rfl, fun U hU => ?_⟩ ?_
  · go_simp; exact vp_alloc rfl rfl rfl
  refine Seg.sa ?_
  refine Seg.sq ?_
  refine Seg.sq ?_
  refine Seg.stop (fun U1 hU hk => ?_)
  have nb0 := hge 0 _ _ rfl
  have rb0 := (hk 0 _ _ rfl trivial).1.2 (by simp)
  clear hk hge hne
  generalize th (0 + 0) = p0_0 at *
  dsimp only at rb0
  have r_p0_0 := rb0
  clear rb0
  have n_p0_0 := nb0
  clear nb0
  have sz1 := hU.size
  have hB : Below w.heap.size w U1 := hU
  clear hU
  replace hT := hid (hT.out.on hB)
  have hlg := held_lt r_p0_0
  go_wp2_with fail
  refine (prow_any U1.heap.size _ (Nat.le_refl _)).mono ?_
  rintro r V ⟨B, rfl, hP, hA, hlB⟩
  have hE := hA
  replace r_p0_0 := held_after hA r_p0_0
  clear hA
  have nw := alloc_new V (.cells #[.pointer (some ⟨B, 0, none⟩)] 58)
  have hlp := hP.lt
  go_upto_region 2 with (fail)
  obtain ⟨W1, hW1⟩ : ∃ X, V.alloc (.cells #[.pointer (some ⟨B, 0, none⟩)] 58) = X := ⟨_, rfl⟩
  rw [hW1] at nw ⊢
  obtain ⟨pp, hpp⟩ : ∃ X, V.heap.size = X := ⟨_, rfl⟩
  rw [hpp] at nw ⊢
  replace hW1 := hid hW1
  have hA := nw.2.1
  have r_pp := nw.2.2
  have nep : pp ≠ B := by omega
  replace hpp := hid hpp
  clear nw
  replace hE := bthen hE hA
  replace r_p0_0 := held_after hA r_p0_0
  replace hP := hP.aft hA
  clear hA
  have c0 := held_cell r_p0_0 0 _ rfl
  have c1 := held_cell r_p0_0 1 _ rfl
  have c2 := held_cell r_p0_0 2 _ rfl
  have c3 := held_cell r_p0_0 3 _ rfl
  have c4 := held_cell r_p0_0 4 _ rfl
  have c5 := held_cell r_p0_0 5 _ rfl
  have c6 := held_cell r_p0_0 6 _ rfl
  have c7 := held_cell r_p0_0 7 _ rfl
  have kA := hid (veachp_any W1 (W0 := U1) g0i g0n g1i g1n g2i g2n g3i g3n bb.out hP r_pp hT.out hE nep hlB)
  clear hP r_pp r_p0_0 hE hlp hlg
  replace hB := hid hB
  go_wp2_with fail
  refine kA.out.mono ?_
  rintro r V2 ⟨rfl, hpen, hpp2, hbe⟩
  have cq := held_cell hpp2 0 _ rfl
  have hbel := hid (bthen hB.out hbe)
  replace hpen := hid hpen
  clear kA hmf hB hbe hpp2 c0 c1 c2 c3 c4 c5 c6 c7
  obtain ⟨EP, hEP⟩ : ∃ X, fE (vtI g0i g0n g1i g1n g2i g2n g3i g3n) = X := ⟨_, rfl⟩
  obtain ⟨LP, hLP⟩ : ∃ X, fL (vtI g0i g0n g1i g1n g2i g2n g3i g3n) = X := ⟨_, rfl⟩
  have hl8 : LP.length ≤ 1000 := by rw [← hLP]; simp [vtI, fL]
  rw [hEP, hLP] at hpen
  go_wp2_with fail
  refine (pdone_any U1.heap.size B EP LP _ hpen.out hl8).mono ?_
  rintro r V9 ⟨a9, c9, rfl, g1, g2, g3⟩
  have hD9 : DnOk w EP LP (.returned (.tuple #[.slice a9 (if EP = 0 then LP else []).length c9, .int .i64 EP])) V9 := ⟨a9, c9, rfl, g1, g2, bthen hbel.out g3⟩
  obtain ⟨n9, hn9⟩ : ∃ n, (if EP = 0 then LP else []).length = n := ⟨_, rfl⟩
  rw [hn9] at hD9 ⊢
  clear hn9 g1 g2 g3
  replace hD9 := hid hD9
  go_wp2_with fail
  go_ret2
  rw [hEP, hLP]
  exact hD9.out
end Go.Proofs.YtcacgejljbofjaaGreatDoor
