/- Several texts in one: Gsa2, Gsa4. -/
import Derived.Test.YtpbekdkobmgndaaDoorGX1
import Derived.Test.YtpbekdkobmgndaaDoorGS
import Derived.Laws.Tables
import Derived.Deep.DeepCutAuto

/- Package gsa: what is put. -/
namespace Go.Proofs.YtpbekdkobmgndaaDoor
open Go.ChangeShapes Go.WideShapes Go.ChangeAt Go.RowKit
set_option linter.unusedVariables false
set_option linter.unusedSimpArgs false

def plT (x : Bool × Int) : List ByteArray × Int := ([nb (putD x.1 x.2 1 3 0 1 255).1], (putD x.1 x.2 1 3 0 1 255).2)
def gE (e : Int) (l : List (List ByteArray × Int)) : Int := l.foldl (fun e x => kp e x.2) e
def dpT (i : Bool) (n : Int) : List ByteArray × Int := ([nb (putD i n 1 3 2 0 99999).1], (putD i n 1 3 2 0 99999).2)
/-- What a message's fields are. -/
def gsI (au : Bool) (fx : Int) (zs : List Int) (pi : Bool) (pn : Int) (hi : Bool) (hn : Int) (vi : Bool) (vn : Int) : List (List ByteArray × Int) := ([mdS au], 0) :: ([nb (dgP fx 1 3).1], (dgP fx 1 3).2) :: ((plN zs).map plT ++ [dpT pi pn, dpT hi hn, dpT vi vn])
def gsE (au : Bool) (fx : Int) (zs : List Int) (pi : Bool) (pn : Int) (hi : Bool) (hn : Int) (vi : Bool) (vn : Int) : Int := if 12 < zs.length then 7 else fE (gsI au fx zs pi pn hi hn vi vn)
theorem gE_app (e : Int) (a b : List (List ByteArray × Int)) : gE e (a ++ b) = gE (gE e a) b := by simp [gE]
theorem fL_app (a b : List (List ByteArray × Int)) : fL (a ++ b) = fL a ++ fL b := by simp [fL]
theorem plT_len (l : List (Bool × Int)) : (fL (l.map plT)).length = l.length := by
  induction l with
  | nil => rfl
  | cons x l ih => rw [List.map_cons]; show (fL ([plT x] ++ l.map plT)).length = _; rw [fL_app, List.length_append, ih]; show 1 + l.length = _; simp; omega
theorem fL2 (s t : ByteArray) (u v : Int) (l : List (List ByteArray × Int)) : fL (([s], u) :: ([t], v) :: l) = [s, t] ++ fL l := rfl
theorem fL3 (s t r : ByteArray) (u v w : Int) : fL [([s], u), ([t], v), ([r], w)] = [s, t, r] := rfl
theorem gsI_E (au : Bool) (fx : Int) (zs : List Int) (pi : Bool) (pn : Int) (hi : Bool) (hn : Int) (vi : Bool) (vn : Int) : fE (gsI au fx zs pi pn hi hn vi vn) = kp (kp (kp (gE (kp 0 (dgP fx 1 3).2) ((plN zs).map plT)) (putD pi pn 1 3 2 0 99999).2) (putD hi hn 1 3 2 0 99999).2) (putD vi vn 1 3 2 0 99999).2 := by
  have h : fE (gsI au fx zs pi pn hi hn vi vn) = gE (kp (kp 0 0) (dgP fx 1 3).2) ((plN zs).map plT ++ [dpT pi pn, dpT hi hn, dpT vi vn]) := rfl
  rw [h, gE_app]
  rfl
theorem gsI_L (au : Bool) (fx : Int) (zs : List Int) (pi : Bool) (pn : Int) (hi : Bool) (hn : Int) (vi : Bool) (vn : Int) : fL (gsI au fx zs pi pn hi hn vi vn) = [mdS au, nb (dgP fx 1 3).1] ++ fL ((plN zs).map plT) ++ [nb (putD pi pn 1 3 2 0 99999).1, nb (putD hi hn 1 3 2 0 99999).1, nb (putD vi vn 1 3 2 0 99999).1] := by
  unfold gsI
  rw [fL2, fL_app]
  unfold dpT
  rw [fL3, ← List.append_assoc]
theorem dn_long (w w' : World) (L : List ByteArray) (h : After w w') : DnOk w 7 L (.returned (.tuple #[.slice none 0 0, .int .i64 7])) w' := ⟨none, 0, rfl, Els.nil _ _, (fun x hx => by cases hx), h⟩
theorem gE_zero {l : List (List ByteArray × Int)} : ∀ {e : Int}, gE e l = 0 → e = 0 := by
  induction l with
  | nil => intro e h; exact h
  | cons y l ih => intro e h; exact (kp_ok (ih (e := kp e y.2) h)).1
end Go.Proofs.YtpbekdkobmgndaaDoor

/- Package gsa: Put. -/
namespace Go.Proofs.YtpbekdkobmgndaaDoor
open Go.ChangeShapes Go.WideShapes Go.ChangeAt Go.RowKit
set_option linter.unusedVariables false
set_option linter.unusedSimpArgs false

/-- A row that is written, the message and the row's variable beside it. -/
structure PGt (W0 : World) (B qb mb : Nat) (M : Array Value) (e : Int) (L : List ByteArray) (W : World) : Prop where
  pen : PenIn W W0.heap.size B e L
  q : W.heap[qb]? = some (.cells #[.pointer (some ⟨B, 0, none⟩)] 38 (0, 0))
  m : W.heap[mb]? = some (.cells M 26 (0, 0))
  tab : Tab W
  bel : After W0 W
  nq : qb ≠ B
  nm : mb ≠ B
  hb : W0.heap.size ≤ B
theorem PGt.below {W0 : World} {B qb mb : Nat} {M : Array Value} {e : Int} {L : List ByteArray} {W W' : World} (h : PGt W0 B qb mb M e L W) (hA : After W W') : PGt W0 B qb mb M e L W' :=
  ⟨h.pen.aft hA, held_after hA h.q, held_after hA h.m, h.tab.on hA, bthen h.bel hA, h.nq, h.nm, h.hb⟩
theorem PGt.eff {W0 : World} {B qb mb : Nat} {M : Array Value} {e e' : Int} {L L' : List ByteArray} {W W' : World} (h : PGt W0 B qb mb M e L W) (hT0 : Tab W0) (hP : PenIn W' W0.heap.size B e' L') (hK : PEff W0.heap.size B 2 W W') : PGt W0 B qb mb M e' L' W' :=
  have hA : After W0 W' := (show Below W0.heap.size W0 W from h.bel).trans hK.below
  ⟨hP, h.pen.besides hK h.q h.nq (by decide), h.pen.besides hK h.m h.nm (by decide), hT0.on hA, hA, h.nq, h.nm, h.hb⟩
theorem PGt.keeps {W0 : World} {B qb mb D : Nat} {M : Array Value} {e : Int} {L : List ByteArray} {W W' : World} {row : Option Nat} (h : PGt W0 B qb mb M e L W) (hT0 : Tab W0) (hb : W0.heap.size ≤ D) (hg : W.grownBy W' row) (hr : ∀ r, row = some r → D ≤ r ∧ ∃ o : Obj, W.heap[r]? = some o ∧ o.isCells = false) : PGt W0 B qb mb M e L W' := by
  obtain ⟨a, cap, k1, k2⟩ := h.pen
  have hA : After W0 W' := keeps_below h.bel hb h.bel.size hg hr
  exact ⟨⟨a, cap, keeps_row k1 rfl hg hr, keeps_ownE k2 hg hr⟩, keeps_row h.q rfl hg hr, keeps_row h.m rfl hg hr, hT0.on hA, hA, h.nq, h.nm, h.hb⟩
theorem pen_oth {w w2 : World} {base B : Nat} {e : Int} {L : List ByteArray} (h : PenIn w base B e L) (hK : PEff base B 2 w w2) : KeepsOthers w w2 := ⟨hK.below.size, fun k o hk ho => by
  obtain ⟨a, cap, h1, h2⟩ := h
  have hne : k ≠ B := fun e => by rw [e, h1] at hk; cases hk; cases ho
  rw [hK.owp.block k (held_lt hk) hne (by rw [wown_at h1 (j := 2) rfl]; exact fun e => by obtain ⟨_, _, cur, hc⟩ := h2.lt k e.symm; rw [hc] at hk; cases hk; cases ho)]
  exact hk⟩
/-- A collected deferral's block. -/
structure Dfr (D : Nat) (W : World) : Prop where
  it : W.heap[D]? = some (.deferred (some []))
theorem Dfr.below {D : Nat} {W W' : World} (h : Dfr D W) (hA : After W W') : Dfr D W' := ⟨held_after hA h.it⟩
theorem pen_dfr {w w2 : World} {base B D : Nat} {e : Int} {L : List ByteArray} (h : PenIn w base B e L) (hK : PEff base B 2 w w2) (hD : Dfr D w) : Dfr D w2 := by
  obtain ⟨a, cap, h1, h2⟩ := h
  have hD := hD.it
  have hne : D ≠ B := fun e => by rw [e, h1] at hD; cases hD
  refine ⟨?_⟩
  rw [hK.owp.block D (held_lt hD) hne (by rw [wown_at h1 (j := 2) rfl]; exact fun e => by obtain ⟨_, _, cur, hc⟩ := h2.lt D e.symm; rw [hc] at hD; cases hD)]
  exact hD
theorem els_put27 {W : World} {m D : Nat} {a : Option Addr} {len cap : Nat} {xs : List (List Value)} (h : Els W m a len cap xs) (hD : W.heap[D]? = some (.deferred (some []))) (o : Obj) : Els (W.putObj D o) m a len cap xs := by
  refine ⟨h.1, h.2.1, h.2.2.1, h.2.2.2.1, fun i x hx => ?_⟩
  obtain ⟨h1, b, off, e, hc⟩ := h.2.2.2.2 i x hx
  refine ⟨h1, b, off, e, fun j v hj => ?_⟩
  have hc := hc j v hj
  have hne : b ≠ D := fun e => by
    unfold World.cell? at hc
    simp only [e, hD] at hc
    cases hc
  exact (World.cell?_of_block (w := W) (World.putObj_heap_other hne)).trans hc
attribute [local go_sem] Oper.semAt_some
set_option maxRecDepth 100000 in
set_option maxHeartbeats 16000000 in
theorem gsput_any (au : Bool) (fx : Int) (za : Option Addr) (zn zc : Nat) (zs : List Int) (pi : Bool) (pn : Int) (hi : Bool) (hn : Int) (vi : Bool) (vn : Int) (hz : ∀ x ∈ zs, -9223372036854775808 ≤ x ∧ x ≤ 9223372036854775807) (w : World) (bb : (-9223372036854775808 ≤ pn ∧ pn ≤ 9223372036854775807) ∧ (-9223372036854775808 ≤ hn ∧ hn ≤ 9223372036854775807) ∧ (-9223372036854775808 ≤ vn ∧ vn ≤ 9223372036854775807)) (hS : Sl .i64 w za zn zc zs) (hT : Tab w) : Calls Tryd.prog 6 #[.agg #[.bool au, .int .i64 fx, .slice za zn zc, .bool pi, .int .i64 pn, .bool hi, .int .i64 hn, .bool vi, .int .i64 vn]] w fun r w' => DnOk w (gsE au fx zs pi pn hi hn vi vn) (fL (gsI au fx zs pi pn hi hn vi vn)) r w' := by
  have k0 : ∀ e, kp e 0 = e := fun e => by unfold kp; split <;> omega
  obtain ⟨bpn, bhn, bvn⟩ := bb
  replace bpn := hid bpn
  replace bhn := hid bhn
  replace bvn := hid bvn
  replace hT := hid hT
  have hzl := hS.1
  have hznm := hS.2.2.1
  have hmm : maxLen ≤ 9223372036854775807 := by decide
  by_cases hlong : 12 < zn
  case pos =>
    have hE : gsE au fx zs pi pn hi hn vi vn = 7 := by unfold gsE; rw [if_pos (by omega)]
    have b1 : decide ((12 : Int) < (zn : Int)) = true := by simp; omega
    rw [hE]
    clear hE hzl hlong
    replace hS := hid hS
    go_enter Tryd.func6, Tryd.ntmps6
    go_upto_region 0 with (fail)
    apply wp_region_seg0 (w := w) (S := [.al 1000, .q [], .q []]) (E := [.al ((fun p => .pointer (some ⟨p, 0, none⟩)), _) 1000, .q0 _, .q0 _]) rfl (by kernel_rfl) rfl rfl
    intro th hge hne
    refine Seg.step _ rfl ⟨by rfl, fun U hU => ?_⟩ ?_
    · go_simp; exact vp_alloc rfl rfl rfl
    refine Seg.sa ?_
    refine Seg.sq ?_
    refine Seg.sq ?_
    refine Seg.stop (fun U1 hU hk => ?_)
    have nb0 := hge 0 _ _ rfl
    have rb0 := (hk 0 _ _ rfl trivial).1.2 (by simp)
    clear hk hge hne
    generalize th (0 + 0) = p0_0 at *
    dsimp only at rb0
    have r_p0_0 := rb0
    clear rb0
    have n_p0_0 := nb0
    clear nb0
    have sz1 := hU.size
    have hB : Below w.heap.size w U1 := hU
    clear hU
    have c2 := held_cell r_p0_0 2 _ rfl
    clear r_p0_0
    go_wp2_with fail
    go_ret2
    exact dn_long _ _ _ hB
  have hEq : gsE au fx zs pi pn hi hn vi vn = fE (gsI au fx zs pi pn hi hn vi vn) := by unfold gsE; rw [if_neg (by omega)]
  have b1 : decide ((12 : Int) < (zn : Int)) = false := by simp; omega
  rw [hEq]
  clear hEq
  replace hS := hid hS
  replace hz := hid hz
  replace hzl := hid hzl
  refine calls_of_marks Tryd.func6 rfl ?_
  simp only [Tryd.ntmps6, List.size_toArray, List.length_cons, List.length_nil, Nat.reduceAdd, Nat.reduceSub, Array.replicate_succ, Array.replicate_zero, List.push_toArray, List.append_toArray, List.nil_append, List.cons_append]
  go_upto_region 0 with (fail)
  apply wp_region_seg0 (w := w) (S := [.al 1000, .q [], .q []]) (E := [.al ((fun p => .pointer (some ⟨p, 0, none⟩)), _) 1000, .q0 _, .q0 _]) rfl (by kernel_rfl) rfl rfl
  intro th hge hne
  refine Seg.step _ rfl ⟨by rfl, fun U hU => ?_⟩ ?_
  · go_simp; exact vp_alloc rfl rfl rfl
  refine Seg.sa ?_
  refine Seg.sq ?_
  refine Seg.sq ?_
  refine Seg.stop (fun U1 hU hk => ?_)
  have nb0 := hge 0 _ _ rfl
  have rb0 := (hk 0 _ _ rfl trivial).1.2 (by simp)
  clear hk hge hne
  generalize th (0 + 0) = p0_0 at *
  dsimp only at rb0
  have r_p0_0 := rb0
  clear rb0
  have n_p0_0 := nb0
  clear nb0
  have sz1 := hU.size
  have hB : Below w.heap.size w U1 := hU
  clear hU
  replace hT := hid (hT.out.on hB)
  have hlg := held_lt r_p0_0
  have c2 := held_cell r_p0_0 2 _ rfl
  have hBU := hid hB
  clear hB
  go_wp2_with fail
  refine (prow_any U1.heap.size _ (Nat.le_refl _)).mono ?_
  rintro r V ⟨B, rfl, hP, hA, hlB⟩
  have hE := hA
  replace r_p0_0 := held_after hA r_p0_0
  clear hA c2
  have nw := alloc_new V (.cells #[.pointer (some ⟨B, 0, none⟩)] 38)
  have hlp := hP.lt
  go_upto_region 4 with (fail)
  obtain ⟨W1, hW1⟩ : ∃ X, V.alloc (.cells #[.pointer (some ⟨B, 0, none⟩)] 38) = X := ⟨_, rfl⟩
  rw [hW1] at nw ⊢
  obtain ⟨pp, hpp⟩ : ∃ X, V.heap.size = X := ⟨_, rfl⟩
  rw [hpp] at nw ⊢
  replace hW1 := hid hW1
  have h : PGt U1 B pp p0_0 #[.bool au, .int .i64 fx, .slice za zn zc, .bool pi, .int .i64 pn, .bool hi, .int .i64 hn, .bool vi, .int .i64 vn] 0 [] W1 := ⟨hP.aft nw.2.1, nw.2.2, held_after nw.2.1 r_p0_0, hT.out.on (bthen hE nw.2.1), bthen hE nw.2.1, by omega, by omega, hlB⟩
  replace hpp := hid hpp
  clear nw hP r_p0_0 hE hlp hlg hlB
  have hq := h.q
  have hm := h.m
  go_upto_region 4 with (fail)
  apply wp_region_part (w := W1) (S := [.q [], .q [], .q [], .q []]) (E := [.q0 _, .q0 _, .q0 _, .c0 _]) 4 1 (by kernel_rfl) rfl (by kernel_rfl) rfl rfl rfl
  intro th hge hne
  refine Seg.sq ?_ (ht := Or.inl ⟨by rfl, fun U hU => vp_quiet (by (have h0 := held_cell (held_after hU.1 hq) 0 _ rfl; go_simp <;> exact rfl))⟩)
  refine Seg.sq ?_
  refine Seg.sq ?_ (ht := Or.inl ⟨by rfl, fun U hU => vp_quiet (by (have h0 := held_cell (held_after hU.1 hm) 0 _ rfl; go_simp <;> exact rfl))⟩)
  refine Seg.step _ rfl (Or.inl ⟨by rfl, fun U hU => ?_⟩) ?_
  · go_simp
    refine vp_calls (mode27_any _ _)
  refine Seg.sa ?_
  refine Seg.stop (fun U11 hU hk => ?_)
  clear hk hge hne
  replace hq := held_after hU hq
  replace hm := held_after hU hm
  replace h := h.below hU
  have sz11 := hU.size
  have hB : Below W1.heap.size W1 U11 := hU
  clear hq hm hU hB
  have kt := hid (fun U hh => ptext_any U1.heap.size B 0 0 [] (mdS au) U hh (by simp) h.hb)
  refine Seg.only (m := 4) (k := 0) rfl (by kernel_rfl) (by rfl) (fun K hK => ?_)
  go_simp
  refine (kt.out _ h.pen).mono ?_
  rintro r W2 ⟨rfl, hP2, hf2⟩
  replace h := h.eff hT.out hP2 hf2
  clear hP2 hf2
  refine hK _ _ (Seg.finish ?_ _)
  clear hK kt
  rw [k0] at h
  have hq := h.q
  have hm := h.m
  go_upto_region 5 with (fail)
  apply wp_region_part (w := W2) (S := [.q [], .q [], .q [], .q [], .q [], .q []]) (E := [.q0 _, .q0 _, .q0 _, .c0 _, .q0 _, .q0 _]) 6 1 (by kernel_rfl) rfl (by kernel_rfl) rfl rfl rfl
  intro th hge hne
  refine Seg.sq ?_ (ht := Or.inl ⟨by rfl, fun U hU => vp_quiet (by (have h0 := held_cell (held_after hU.1 hq) 0 _ rfl; go_simp <;> exact rfl))⟩)
  refine Seg.sq ?_
  refine Seg.sq ?_ (ht := Or.inl ⟨by rfl, fun U hU => vp_quiet (by (have h0 := held_cell (held_after hU.1 hm) 1 _ rfl; go_simp <;> exact rfl))⟩)
  refine Seg.step _ rfl (Or.inl ⟨by rfl, fun U hU => ?_⟩) ?_
  · go_simp
    refine vp_call (putfix27_any _ _)
  refine Seg.sa ?_
  refine Seg.sq ?_
  refine Seg.sq ?_
  refine Seg.stop (fun U21 hU hk => ?_)
  clear hk hge hne
  replace hq := held_after hU hq
  replace hm := held_after hU hm
  replace h := h.below hU
  have sz21 := hU.size
  have hB : Below W2.heap.size W2 U21 := hU
  clear hq hm hU hB
  have kt := hid (fun U hh => ptext_any U1.heap.size B 0 (dgP fx 1 3).2 ([] ++ [mdS au]) (nb (dgP fx 1 3).1) U hh (by simp) h.hb)
  refine Seg.only (m := 6) (k := 0) rfl (by kernel_rfl) (by rfl) (fun K hK => ?_)
  go_simp
  refine (kt.out _ h.pen).mono ?_
  rintro r W3 ⟨rfl, hP2, hf2⟩
  replace h := h.eff hT.out hP2 hf2
  clear hP2 hf2
  refine hK _ _ (Seg.finish ?_ _)
  clear hK kt
  obtain ⟨E1, hE1⟩ : ∃ E, kp 0 (dgP fx 1 3).2 = E := ⟨_, rfl⟩
  obtain ⟨L1, hL1⟩ : ∃ L, ([] ++ [mdS au]) ++ [nb (dgP fx 1 3).1] = L := ⟨_, rfl⟩
  rw [hE1, hL1] at h
  have hl1 : L1.length = 2 := by rw [← hL1]; rfl
  replace hE1 := hid hE1
  replace hL1 := hid hL1
  have mc := held_cell h.m 2 _ rfl
  have hbk : ∀ b off, za = some ⟨b, off, none⟩ → 0 < zn → b < w.heap.size := by
    intro b off e h
    obtain ⟨b2, o2, e2, g⟩ := hS.out.2.2.2.2 0 (by rw [hS.out.1]; exact h)
    rw [e] at e2
    cases e2
    exact World.block_lt_of_cell? w _ g
  replace hbk := hid hbk
  have aX := alloc_new W3 (.cells #[.slice za zn zc] 22)
  obtain ⟨W4, hW4⟩ : ∃ X, W3.alloc (.cells #[.slice za zn zc] 22) = X := ⟨_, rfl⟩
  replace hW4 := hid hW4
  obtain ⟨Bx, hBx⟩ : ∃ X, W3.heap.size = X := ⟨_, rfl⟩
  replace hBx := hid hBx
  rw [hW4.out, hBx.out] at aX
  have hb4 := bthen (bthen hBU.out h.bel) aX.2.1
  have hMw := hid hb4.size
  have lB := held_lt aX.2.2
  have hBB := hid (show Bx ≠ B by have := h.pen.lt; rw [← hBx.out]; omega)
  have hPl := hid (places_tells za zn zc zs w.heap.size Bx W4 hMw.out lB aX.2.2 (hS.out.below hb4) hbk.out hz.out)
  replace h := h.below aX.2.1
  have hU4 := hid h.bel.size
  have rbx := aX.2.2
  clear aX hb4
  go_wp2_with fail
  refine (places_any za zn zc _).mono ?_
  rintro r V9 ⟨rfl, rfl⟩
  rw [hW4.out, hBx.out]
  go_wp2_with fail
  refine wp_rangeFunc_box (gf := 31) (lb := #[.pointer (some ⟨Bx, 0, none⟩)]) rfl (enters_of Tryd.func31 (by kernel_rfl) rfl) hPl.out (fun h k => kpW_t h k) (fun W l o h => kpW_b hMw.out lB W l o h) ?el (fun _ => rfl)
    (fun pre W => PGt U1 B pp p0_0 #[.bool au, .int .i64 fx, .slice za zn zc, .bool pi, .int .i64 pn, .bool hi, .int .i64 hn, .bool vi, .int .i64 vn] (gE E1 (pre.map plT)) (L1 ++ fL (pre.map plT)) W ∧ W.heap[Bx]? = some (.cells #[.slice za zn zc] 22 (0, 0)) ∧ W4.heap.size ≤ W.heap.size)
    (fun pre W => False)
    ?own ?ownx ?stays ?start (fun x => #[.bool x.1, .int .i64 x.2]) 24 ?a1 ?ela ?kp ?assign ?body ?done ?stop
  case assign =>
    intro l9 i W K p W2 hp hW2 hK
    have e1 := hp.symm
    have e2 := hW2.symm
    clear hp hW2
    unfold encN
    gi_wp2
    exact hK
  case el =>
    intro x A B row h1 hg hr
    exact h1
  case ela =>
    intro x A A2 h1 hA
    exact h1
  case kp =>
    rintro pre A A2 ⟨_, _, k8⟩ h
    exact kpW_after h (Nat.le_trans hMw.out k8) (Nat.lt_of_lt_of_le lB k8)
  case own =>
    rintro pre A B row ⟨h1, k2, k8⟩ hg hr
    exact ⟨h1.keeps hT.out hU4.out hg hr, keeps_row k2 rfl hg hr, Nat.le_trans k8 hg.size⟩
  case ownx =>
    intro pre A B row h
    exact h.elim
  case stays =>
    rintro pre A A2 ⟨h1, k2, k8⟩ e
    exact ⟨h1.below e, held_after e k2, Nat.le_trans k8 e.size⟩
  case start => exact ⟨by simpa [gE, fL] using h, rbx, Nat.le_refl _⟩
  case stop =>
    intro D pre W hD hp h
    exact h.elim
  case done =>
    intro D xs W hD hx
    subst hx
    rintro ⟨h, rb, hM⟩ hK0
    have hK : Dfr D W := ⟨hK0⟩
    clear rb hK0
    have hlL : (L1 ++ fL ((plN zs).map plT)).length = 14 := by rw [List.length_append, plT_len, plN_len, hl1]
    have hI := hid (gsI_E au fx zs pi pn hi hn vi vn)
    have hJ := hid (gsI_L au fx zs pi pn hi hn vi vn)
    rw [hE1.out] at hI
    obtain ⟨E2, hE2⟩ : ∃ E, gE E1 ((plN zs).map plT) = E := ⟨_, rfl⟩
    obtain ⟨L2, hL2⟩ : ∃ L, L1 ++ fL ((plN zs).map plT) = L := ⟨_, rfl⟩
    rw [hE2, hL2] at h
    rw [hL2] at hlL
    rw [hE2] at hI
    replace hJ := hid (hJ.out.trans (show _ = L2 ++ [nb (putD pi pn 1 3 2 0 99999).1, nb (putD hi hn 1 3 2 0 99999).1, nb (putD vi vn 1 3 2 0 99999).1] by rw [← hL2, ← hL1.out]; rfl))
    replace hE2 := hid hE2
    replace hL2 := hid hL2
    have hq := h.q
    have hm := h.m
    go_upto_region 9 with (fail)
    apply wp_region_part (w := W) (S := [.q [], .q [], .q [], .q []]) (E := [.q0 _, .q0 _, .q0 _, .c0 _]) 4 1 (by kernel_rfl) rfl (by kernel_rfl) rfl rfl rfl
    intro th hge hne
    refine Seg.sq ?_ (ht := Or.inl ⟨by rfl, fun U hU => vp_quiet (by (have h0 := held_cell (held_after hU.1 hq) 0 _ rfl; go_simp <;> exact rfl))⟩)
    refine Seg.sq ?_
    refine Seg.sq ?_ (ht := Or.inl ⟨by rfl, fun U hU => vp_quiet (by (have h0 := held_cell (held_after hU.1 hm) 3 _ rfl; have h1 := held_cell (held_after hU.1 hm) 4 _ rfl; go_simp <;> exact rfl))⟩)
    refine Seg.step _ rfl (Or.inl ⟨by rfl, fun U hU => ?_⟩) ?_
    · go_simp
      refine vp_call (p27dopCol_any _)
    refine Seg.sa ?_
    refine Seg.stop (fun U31 hU hk => ?_)
    clear hk hge hne
    replace hq := held_after hU hq
    replace hm := held_after hU hm
    replace h := h.below hU
    replace hK := hK.below hU
    have sz31 := hU.size
    have hB : Below W.heap.size W U31 := hU
    clear hq hm hU hB
    have kt := hid (fun U hh ht => pnum_any U1.heap.size B E2 (L2) pi pn 1 3 2 0 99999 U hh (by first | omega | (simp; omega)) h.hb bpn.out (by decide) ht)
    refine Seg.only (m := 4) (k := 0) rfl (by kernel_rfl) (by rfl) (fun K hK9 => ?_)
    go_simp
    refine (kt.out _ h.pen h.tab).mono ?_
    rintro r D1 ⟨rfl, hP2, hf2⟩
    replace hK := pen_dfr h.pen hf2 hK
    replace h := h.eff hT.out hP2 hf2
    clear hP2 hf2
    refine hK9 _ _ (Seg.finish ?_ _)
    clear hK9 kt
    have hq := h.q
    have hm := h.m
    go_upto_region 10 with (fail)
    apply wp_region_part (w := D1) (S := [.q [], .q [], .q [], .q []]) (E := [.q0 _, .q0 _, .q0 _, .c0 _]) 4 1 (by kernel_rfl) rfl (by kernel_rfl) rfl rfl rfl
    intro th hge hne
    refine Seg.sq ?_ (ht := Or.inl ⟨by rfl, fun U hU => vp_quiet (by (have h0 := held_cell (held_after hU.1 hq) 0 _ rfl; go_simp <;> exact rfl))⟩)
    refine Seg.sq ?_
    refine Seg.sq ?_ (ht := Or.inl ⟨by rfl, fun U hU => vp_quiet (by (have h0 := held_cell (held_after hU.1 hm) 5 _ rfl; have h1 := held_cell (held_after hU.1 hm) 6 _ rfl; go_simp <;> exact rfl))⟩)
    refine Seg.step _ rfl (Or.inl ⟨by rfl, fun U hU => ?_⟩) ?_
    · go_simp
      refine vp_call (p27dopCol_any _)
    refine Seg.sa ?_
    refine Seg.stop (fun U41 hU hk => ?_)
    clear hk hge hne
    replace hq := held_after hU hq
    replace hm := held_after hU hm
    replace h := h.below hU
    replace hK := hK.below hU
    have sz41 := hU.size
    have hB : Below D1.heap.size D1 U41 := hU
    clear hq hm hU hB
    have kt := hid (fun U hh ht => pnum_any U1.heap.size B (kp E2 (putD pi pn 1 3 2 0 99999).2) (L2 ++ [nb (putD pi pn 1 3 2 0 99999).1]) hi hn 1 3 2 0 99999 U hh (by first | omega | (simp; omega)) h.hb bhn.out (by decide) ht)
    refine Seg.only (m := 4) (k := 0) rfl (by kernel_rfl) (by rfl) (fun K hK9 => ?_)
    go_simp
    refine (kt.out _ h.pen h.tab).mono ?_
    rintro r D2 ⟨rfl, hP2, hf2⟩
    replace hK := pen_dfr h.pen hf2 hK
    replace h := h.eff hT.out hP2 hf2
    clear hP2 hf2
    refine hK9 _ _ (Seg.finish ?_ _)
    clear hK9 kt
    have hq := h.q
    have hm := h.m
    go_upto_region 11 with (fail)
    apply wp_region_part (w := D2) (S := [.q [], .q [], .q [], .q []]) (E := [.q0 _, .q0 _, .q0 _, .c0 _]) 4 1 (by kernel_rfl) rfl (by kernel_rfl) rfl rfl rfl
    intro th hge hne
    refine Seg.sq ?_ (ht := Or.inl ⟨by rfl, fun U hU => vp_quiet (by (have h0 := held_cell (held_after hU.1 hq) 0 _ rfl; go_simp <;> exact rfl))⟩)
    refine Seg.sq ?_
    refine Seg.sq ?_ (ht := Or.inl ⟨by rfl, fun U hU => vp_quiet (by (have h0 := held_cell (held_after hU.1 hm) 7 _ rfl; have h1 := held_cell (held_after hU.1 hm) 8 _ rfl; go_simp <;> exact rfl))⟩)
    refine Seg.step _ rfl (Or.inl ⟨by rfl, fun U hU => ?_⟩) ?_
    · go_simp
      refine vp_call (p27dopCol_any _)
    refine Seg.sa ?_
    refine Seg.stop (fun U51 hU hk => ?_)
    clear hk hge hne
    replace hq := held_after hU hq
    replace hm := held_after hU hm
    replace h := h.below hU
    replace hK := hK.below hU
    have sz51 := hU.size
    have hB : Below D2.heap.size D2 U51 := hU
    clear hq hm hU hB
    have kt := hid (fun U hh ht => pnum_any U1.heap.size B (kp (kp E2 (putD pi pn 1 3 2 0 99999).2) (putD hi hn 1 3 2 0 99999).2) (L2 ++ [nb (putD pi pn 1 3 2 0 99999).1] ++ [nb (putD hi hn 1 3 2 0 99999).1]) vi vn 1 3 2 0 99999 U hh (by first | omega | (simp; omega)) h.hb bvn.out (by decide) ht)
    refine Seg.only (m := 4) (k := 0) rfl (by kernel_rfl) (by rfl) (fun K hK9 => ?_)
    go_simp
    refine (kt.out _ h.pen h.tab).mono ?_
    rintro r D3 ⟨rfl, hP2, hf2⟩
    replace hK := pen_dfr h.pen hf2 hK
    replace h := h.eff hT.out hP2 hf2
    clear hP2 hf2
    refine hK9 _ _ (Seg.finish ?_ _)
    clear hK9 kt
    rw [List.append_assoc, List.append_assoc] at h
    simp only [List.cons_append, List.nil_append] at h
    rw [← hJ.out, ← hI.out] at h
    obtain ⟨EP, hEP⟩ : ∃ X, fE (gsI au fx zs pi pn hi hn vi vn) = X := ⟨_, rfl⟩
    obtain ⟨LP, hLP⟩ : ∃ X, fL (gsI au fx zs pi pn hi hn vi vn) = X := ⟨_, rfl⟩
    have hl8 : LP.length ≤ 1000 := by rw [← hLP, hJ.out, List.length_append, hlL]; simp
    rw [hEP, hLP] at h
    have cq := held_cell h.q 0 _ rfl
    go_wp2_with fail
    refine (pdone_any U1.heap.size B EP LP _ h.pen hl8).mono ?_
    rintro r V9 ⟨a9, c9, rfl, g1, g2, g3⟩
    have hKd := (hK.below g3).it
    have hB9 := below_mark (W0 := W4) (bthen hBU.out (bthen h.bel g3)) hMw.out hD hKd
    have hD9 : DnOk w EP LP (.returned (.tuple #[.slice a9 (if EP = 0 then LP else []).length c9, .int .i64 EP])) (V9.putObj D (.deferred none)) := ⟨a9, c9, rfl, els_put27 g1 hKd _, fun x e => by have := g2 x e; simpa using this, hB9⟩
    obtain ⟨n9, hn9⟩ : ∃ n, (if EP = 0 then LP else []).length = n := ⟨_, rfl⟩
    rw [hn9] at hD9 ⊢
    clear hn9 g1 g2 g3 hB9 hK h
    replace hD9 := hid hD9
    replace hKd := hid hKd
    go_wp2_with fail
    refine marks_ret1 (v := .tuple #[.slice a9 n9 c9, .int .i64 EP]) hKd.out ?_ (by rw [hEP, hLP]; exact hD9.out)
    simp [results, Tryd.results6, go_sem]
  case body =>
    rintro fl pre ⟨i, n⟩ p W ⟨h, rb, hM⟩ hx hp rp hlen
    dsimp only at rp ⊢
    apply wpIn_block
    have hx2 : -9223372036854775808 ≤ n ∧ n ≤ 9223372036854775807 := hx
    clear hx
    have hnx := hid (show gE E1 ((pre ++ [(i, n)]).map plT) = kp (gE E1 (pre.map plT)) (putD i n 1 3 0 1 255).2 ∧ L1 ++ fL ((pre ++ [(i, n)]).map plT) = (L1 ++ fL (pre.map plT)) ++ [nb (putD i n 1 3 0 1 255).1] from by rw [List.map_append, gE_app, fL_app, ← List.append_assoc, List.map_singleton]; exact ⟨rfl, rfl⟩)
    have hle : (L1 ++ fL (pre.map plT)).length ≤ 14 := by rw [List.length_append, plT_len, hl1]; omega
    obtain ⟨E3, hE3⟩ : ∃ E, gE E1 (pre.map plT) = E := ⟨_, rfl⟩
    obtain ⟨L3, hL3⟩ : ∃ L, L1 ++ fL (pre.map plT) = L := ⟨_, rfl⟩
    rw [hE3, hL3] at h hnx
    rw [hL3] at hle
    clear hE3 hL3 hlen
    have hq := h.q
    replace hx2 := hid hx2
    apply wpIn_region_part (w := W) (S := [.q [], .q [], .q []]) (E := [.q0 _, .q0 _, .c0 _]) 3 1 (by kernel_rfl) (fun ⟨_, _, h⟩ => h) (by kernel_rfl) rfl (by kernel_rfl) rfl rfl rfl
    intro th hge hne
    refine Seg.sq ?_ (ht := Or.inl ⟨by rfl, fun U hU => vp_quiet (by (have h0 := held_cell (held_after hU.1 hq) 0 _ rfl; go_simp <;> exact rfl))⟩)
    refine Seg.sq ?_ (ht := Or.inl ⟨by rfl, fun U hU => vp_quiet (by (have h0 := held_cell (held_after hU.1 rp) 0 _ rfl; have h1 := held_cell (held_after hU.1 rp) 1 _ rfl; go_simp <;> exact rfl))⟩)
    refine Seg.step _ rfl (Or.inl ⟨by rfl, fun U hU => ?_⟩) ?_
    · go_simp
      refine vp_call (p27idCol_any _)
    refine Seg.sa ?_
    refine Seg.stop (fun U71 hU hk => ?_)
    clear hk hge hne
    replace hq := held_after hU hq
    replace rp := held_after hU rp
    replace h := h.below hU
    have sz71 := hU.size
    have hB : Below W.heap.size W U71 := hU
    have kt := hid (fun U hh ht => pnum_any U1.heap.size B E3 L3 i n 1 3 0 1 255 U hh (by omega) h.hb hx2.out (by decide) ht)
    refine Seg.only (m := 3) (k := 0) rfl (by kernel_rfl) (by rfl) (fun K hK => ?_)
    go_simp
    refine (kt.out _ h.pen h.tab).mono ?_
    rintro r V ⟨rfl, hP2, hf2⟩
    have rb2 := held_after hU rb
    have kA := hid ((keepsOthers_after hU).trans (pen_oth h.pen hf2))
    have rb3 := h.pen.besides hf2 rb2 hBB.out (by decide)
    have kZ : KpW w.heap.size Bx W V := ⟨Nat.le_trans hU.size hf2.below.size, fun k hk => by
      rcases hk with hk | rfl
      · exact (hf2.below.block k (Nat.lt_of_lt_of_le hk hBU.out.size)).trans (hU.block k (Nat.lt_of_lt_of_le hk (Nat.le_trans hMw.out hM)))
      · rw [rb3, rb]⟩
    have sz := hid (Nat.le_trans hM kZ.1)
    replace kZ := hid kZ
    replace h := h.eff hT.out hP2 hf2
    rw [← hnx.out.1, ← hnx.out.2] at h
    clear hP2 hf2 rb rb2 hq rp
    refine hK _ _ (Seg.finish ?_ _)
    clear hK kt
    gi_wp2
    exact ⟨kA.out, kZ.out, h, rb3, sz.out⟩

end Go.Proofs.YtpbekdkobmgndaaDoor
