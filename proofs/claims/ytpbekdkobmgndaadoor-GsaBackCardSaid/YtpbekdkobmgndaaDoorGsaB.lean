/- Stage 27: what is put is taken, what is taken is put. -/
import Derived.Test.YtpbekdkobmgndaaDoorGX3
import Derived.Test.YtpbekdkobmgndaaDoorGX2
import Derived.Test.YtpbekdkobmgndaaDoorDecB
import Derived.Deep.DeepCutAuto
namespace Go.Proofs.YtpbekdkobmgndaaDoor
open Go.ChangeShapes Go.WideShapes Go.ChangeAt Go.RowKit
set_option linter.unusedVariables false
set_option linter.unusedSimpArgs false

theorem gsI_len (au : Bool) (fx : Int) (zs : List Int) (pi : Bool) (pn : Int) (hi : Bool) (hn : Int) (vi : Bool) (vn : Int) : (fL (gsI au fx zs pi pn hi hn vi vn)).length ≤ 100 := by
  rw [gsI_L]
  simp only [List.length_append, plT_len, plN_len, List.length_cons, List.length_nil]
  omega
theorem fE_zero27 {l : List (List ByteArray × Int)} : ∀ {e : Int}, l.foldl (fun e x => kp e x.2) e = 0 → e = 0 ∧ ∀ x ∈ l, x.2 = 0 := by
  induction l with
  | nil => intro e h; exact ⟨h, fun x hx => by cases hx⟩
  | cons y l ih =>
    intro e h
    obtain ⟨h1, h2⟩ := ih h
    obtain ⟨h3, h4⟩ := kp_ok h1
    refine ⟨h3, fun x hx => ?_⟩
    rcases List.mem_cons.1 hx with rfl | hx
    · exact h4
    · exact h2 x hx
theorem put_all27 {is : Bool} {n W M F lo hi : Int} (h : (putD is n W M F lo hi).2 = 0) : takD (nb (putD is n W M F lo hi).1) W M F lo hi = (is, n, 0) ∧ (nb (putD is n W M F lo hi).1).size ≤ 1000 := put_all (L := (putD is n W M F lo hi).1) (e := (putD is n W M F lo hi).2) rfl h
theorem dg_back27 {n : Int} (h : (dgP n 1 3).2 = 0) : dgS (nb (dgP n 1 3).1) 1 3 = (n, 0) ∧ (nb (dgP n 1 3).1).size ≤ 1000 := by
  unfold dgP at h ⊢
  split at h
  · simp at h
  · rename_i h1
    rw [if_neg h1]
    dsimp only
    have hs : sb (nb [48 + n.toNat]) = [48 + n.toNat] := sb_nb (by intro c hc; simp at hc; omega)
    have hz : (nb [48 + n.toNat]).size = 1 := by rw [nb_size]; rfl
    refine ⟨?_, by omega⟩
    unfold dgS
    rw [hs, hz]
    have e : ([48 + n.toNat] : List Nat).getD 0 0 = 48 + n.toNat := rfl
    rw [e, if_pos (by omega), if_neg (by omega)]
    have : ((48 + n.toNat : Nat) : Int) - 48 = n := by omega
    rw [this]
theorem dg_forth27 {s : ByteArray} {q : Int} (h : dgS s 1 3 = (q, 0)) : (dgP q 1 3).2 = 0 ∧ (nb (dgP q 1 3).1).size ≤ s.size := by
  unfold dgS at h
  split at h
  · rename_i h1
    split at h
    · simp at h
    · rename_i h2
      obtain ⟨h5, -⟩ := Prod.mk.inj h
      subst h5
      unfold dgP
      rw [if_neg (by omega)]
      refine ⟨rfl, ?_⟩
      rw [nb_size]
      show 1 ≤ s.size
      omega
  · simp at h
theorem fx_dg {s : ByteArray} (h : (fxS s).2 = 0) : dgS s 1 3 = ((fxS s).1, 0) := by
  unfold fxS at h ⊢
  split at h
  · rename_i h1
    rw [if_pos h1]
    exact Prod.ext rfl h1
  · rename_i h1
    exact absurd h h1
theorem fx_of {s : ByteArray} {n : Int} (h : dgS s 1 3 = (n, 0)) : fxS s = (n, 0) := by
  unfold fxS
  rw [h]
  rfl
theorem md_put27 (b : Bool) : onE (mdS b) ⟨#[65]⟩ ⟨#[77]⟩ = 0 ∧ decide (mdS b = ⟨#[65]⟩) = b ∧ (mdS b).size = 1 := by cases b <;> exact ⟨by decide +kernel, by decide +kernel, by decide +kernel⟩
theorem md_back27 {s : ByteArray} (h : onE s ⟨#[65]⟩ ⟨#[77]⟩ = 0) (b : Bool) : (mdS b).size ≤ s.size := by
  rw [(md_put27 b).2.2]
  unfold onE at h
  by_cases c1 : s = ⟨#[65]⟩
  · rw [c1]; exact Nat.le_refl 1
  · by_cases c2 : s = ⟨#[77]⟩
    · rw [c2]; exact Nat.le_refl 1
    · rw [if_pos ⟨c1, c2⟩] at h; cases h
/-- An id's field. -/
def idF (x : Bool × Int) : ByteArray := nb (putD x.1 x.2 1 3 0 1 255).1
theorem plT_map (P : List (Bool × Int)) : fL (P.map plT) = P.map idF := by
  induction P with
  | nil => rfl
  | cons x P ih => rw [List.map_cons, List.map_cons]; show fL ([plT x] ++ P.map plT) = _; rw [fL_app, ih]; rfl
theorem idsS_put (P : List (Bool × Int)) (T : List ByteArray) (h : ∀ x ∈ P, (putD x.1 x.2 1 3 0 1 255).2 = 0) : ∀ k, k ≤ P.length → idsS 0 (P.map idF ++ T) k = (((P.take k).filter (·.1)).map (·.2), 0, (P.drop k).map idF ++ T)
  | 0, _ => by simp [idsS]
  | k + 1, hk => by
    have ih := idsS_put P T h k (by omega)
    obtain ⟨x, hx⟩ : ∃ x, P[k]? = some x := ⟨_, List.getElem?_eq_getElem (by omega)⟩
    have hd : P.drop k = x :: P.drop (k + 1) := by
      have h9 := (List.getElem?_eq_some_iff.1 hx)
      obtain ⟨h9, h8⟩ := h9
      rw [List.drop_eq_getElem_cons h9, h8]
    have ht : P.take (k + 1) = P.take k ++ [x] := by rw [List.take_add_one, hx]; rfl
    have hz := (put_all27 (h x (List.mem_of_getElem? hx))).1
    have hn : nmS 0 ((P.drop k).map idF ++ T) 1 3 0 1 255 = ((x.1, x.2), 0, (P.drop (k + 1)).map idF ++ T) := by
      rw [hd]
      show nmS 0 (idF x :: ((P.drop (k + 1)).map idF ++ T)) 1 3 0 1 255 = _
      unfold nmS
      have ht : txS 0 (idF x :: ((P.drop (k + 1)).map idF ++ T)) = (idF x, 0, (P.drop (k + 1)).map idF ++ T) := rfl
      rw [ht]
      dsimp only
      unfold idF at hz ⊢
      rw [hz]
      rfl
    unfold idsS
    rw [ih]
    dsimp only
    rw [hn, ht]
    dsimp only
    rw [List.filter_append, List.map_append]
    cases hx1 : x.1
    · simp [hx1]
    · simp [hx1]
theorem plN_take_f (zs : List Int) : ∀ k, k ≤ 12 → ((((plN zs).take k).filter (·.1)).map (·.2)) = zs.take k
  | 0, _ => by simp
  | k + 1, hk => by
    rw [plN_take zs (by omega), List.filter_append, List.map_append, plN_take_f zs k (by omega)]
    unfold plP
    by_cases c : k < zs.length
    · rw [List.take_add_one, List.getElem?_eq_getElem c]
      simp [c, List.getD_eq_getElem?_getD]
    · rw [List.take_of_length_le (by omega), List.take_of_length_le (show zs.length ≤ k + 1 by omega)]
      simp [c]
theorem plN_f {zs : List Int} (h : zs.length ≤ 12) : (((plN zs).filter (·.1)).map (·.2)) = zs := by
  have h1 := plN_take_f zs 12 (by omega)
  rw [List.take_of_length_le (by rw [plN_len]; exact Nat.le_refl _), List.take_of_length_le h] at h1
  exact h1
theorem gE_zero27 {l : List (List ByteArray × Int)} {e : Int} (h : gE e l = 0) : e = 0 ∧ ∀ x ∈ l, x.2 = 0 := fE_zero27 h
/-- What is put is taken as it was. -/
theorem gback1 (au : Bool) (fx : Int) (zs : List Int) (pi : Bool) (pn : Int) (hi : Bool) (hn : Int) (vi : Bool) (vn : Int) (h0 : gsE au fx zs pi pn hi hn vi vn = 0) : zs.length ≤ 12 ∧ ∃ s0 s1 R, fL (gsI au fx zs pi pn hi hn vi vn) = s0 :: s1 :: R ∧ R.length = 15 ∧ (∀ s ∈ s0 :: s1 :: R, s.size ≤ 1000) ∧ gsR s0 s1 R = ⟨au, fx, zs, (pi, pn), (hi, hn), (vi, vn), 0⟩ := by
  unfold gsE at h0
  split at h0
  · exact absurd h0 (by decide)
  rename_i hz
  have hz2 : zs.length ≤ 12 := by omega
  refine ⟨hz2, ?_⟩
  rw [gsI_E] at h0
  obtain ⟨h1, hv⟩ := kp_ok h0
  obtain ⟨h2, hh⟩ := kp_ok h1
  obtain ⟨h3, hp⟩ := kp_ok h2
  obtain ⟨h4, hN⟩ := gE_zero27 h3
  obtain ⟨-, hf⟩ := kp_ok h4
  have hP : ∀ x ∈ plN zs, (putD x.1 x.2 1 3 0 1 255).2 = 0 := fun x hx => hN (plT x) (List.mem_map_of_mem hx)
  obtain ⟨f1, f2⟩ := dg_back27 hf
  have p1 := put_all27 hp
  have p2 := put_all27 hh
  have p3 := put_all27 hv
  have hm := md_put27 au
  rw [gsI_L, plT_map]
  refine ⟨_, _, (plN zs).map idF ++ [nb (putD pi pn 1 3 2 0 99999).1, nb (putD hi hn 1 3 2 0 99999).1, nb (putD vi vn 1 3 2 0 99999).1], rfl, ?_, ?_, ?_⟩
  · rw [List.length_append, List.length_map, plN_len]; rfl
  · intro s hs
    simp only [List.mem_cons, List.mem_append, List.mem_map, List.not_mem_nil, or_false] at hs
    rcases hs with rfl | rfl | ⟨x, hx, rfl⟩ | rfl | rfl | rfl
    · rw [hm.2.2]; decide
    · exact f2
    · exact (put_all27 (hP x hx)).2
    · exact p1.2
    · exact p2.2
    · exact p3.2
  · have hI := idsS_put (plN zs) [nb (putD pi pn 1 3 2 0 99999).1, nb (putD hi hn 1 3 2 0 99999).1, nb (putD vi vn 1 3 2 0 99999).1] hP 12 (by rw [plN_len]; exact Nat.le_refl _)
    rw [List.take_of_length_le (by rw [plN_len]; exact Nat.le_refl _), plN_f hz2, List.drop_of_length_le (by rw [plN_len]; exact Nat.le_refl _)] at hI
    have hD : ∀ {i : Bool} {n : Int} {L : List ByteArray}, takD (nb (putD i n 1 3 2 0 99999).1) 1 3 2 0 99999 = (i, n, 0) → nmS 0 (nb (putD i n 1 3 2 0 99999).1 :: L) 1 3 2 0 99999 = ((i, n), 0, L) := by
      intro i n L h
      unfold nmS
      have ht : txS 0 (nb (putD i n 1 3 2 0 99999).1 :: L) = (nb (putD i n 1 3 2 0 99999).1, 0, L) := rfl
      rw [ht]
      dsimp only
      rw [h]
      rfl
    unfold gsR
    rw [hm.1, hm.2.1, fx_of f1]
    have k0 : kp (kp 0 0) 0 = 0 := rfl
    rw [k0]
    dsimp only
    rw [hI]
    dsimp only
    rw [List.map_nil, List.nil_append, hD p1.1]
    dsimp only
    rw [hD p2.1]
    dsimp only
    rw [hD p3.1]
def tot (L : List ByteArray) : Nat := (L.map ByteArray.size).sum
theorem tot_app (a b : List ByteArray) : tot (a ++ b) = tot a + tot b := by simp [tot]
theorem tot_cons (s : ByteArray) (b : List ByteArray) : tot (s :: b) = s.size + tot b := by simp [tot]
theorem nm_ok27 {e W M F lo hi : Int} {L : List ByteArray} (h : (nmS e L W M F lo hi).2.1 = 0) : e = 0 ∧ ∃ s r, L = s :: r ∧ takD s W M F lo hi = ((nmS e L W M F lo hi).1.1, (nmS e L W M F lo hi).1.2, 0) ∧ (nmS e L W M F lo hi).2.2 = r := by
  obtain ⟨h1, h2⟩ := kp_ok (show kp (txS e L).2.1 (takD (txS e L).1 W M F lo hi).2.2 = 0 from h)
  match L, h1, h2 with
  | [], h1, _ => exact absurd (kp_ok (show kp e 3 = 0 from h1)).2 (by decide)
  | s :: r, h1, h2 => exact ⟨h1, s, r, rfl, Prod.ext rfl (Prod.ext rfl h2), rfl⟩
theorem ids_back {e : Int} {L : List ByteArray} : ∀ k, (idsS e L k).2.1 = 0 → e = 0 ∧ (idsS e L k).2.2 = L.drop k ∧ (∀ x ∈ (idsS e L k).1, (putD true x 1 3 0 1 255).2 = 0 ∧ -9223372036854775808 ≤ x ∧ x ≤ 9223372036854775807) ∧ tot ((idsS e L k).1.map (fun x => idF (true, x))) + tot (L.drop k) ≤ tot L
  | 0, h => ⟨h, rfl, (fun x hx => absurd hx List.not_mem_nil), (by show tot [] + tot (L.drop 0) ≤ tot L; rw [List.drop_zero]; simp [tot])⟩
  | k + 1, h => by
    obtain ⟨h1, s, r, h2, h3, h4⟩ := nm_ok27 (show (nmS (idsS e L k).2.1 (idsS e L k).2.2 1 3 0 1 255).2.1 = 0 from h)
    obtain ⟨g1, g2, g3, g4⟩ := ids_back k h1
    rw [g2] at h2
    have hr : L.drop (k + 1) = r := by rw [← List.drop_drop, h2]; rfl
    rw [h2, tot_cons] at g4
    unfold idsS
    dsimp only
    rw [h4, hr]
    obtain ⟨P, p1, p2, p3⟩ := tak_all h3 rfl (by decide)
    generalize nmS (idsS e L k).2.1 (idsS e L k).2.2 1 3 0 1 255 = Z at *
    obtain ⟨⟨zi, zn⟩, z2, z3⟩ := Z
    dsimp only at h3 h4 p1 p2 p3 ⊢
    refine ⟨g1, rfl, ?_, ?_⟩
    · cases zi
      · rw [if_neg (by decide)]; exact g3
      · rw [if_pos rfl]
        intro x hx
        rcases List.mem_append.1 hx with hx | hx
        · exact g3 x hx
        · obtain rfl := List.mem_singleton.1 hx
          rw [p1]
          exact ⟨rfl, p2⟩
    · cases zi
      · rw [if_neg (by decide)]; omega
      · rw [if_pos rfl, List.map_append, tot_app]
        have h5 : tot ([zn].map (fun x => idF (true, x))) = (nb P).size := by
          show tot [idF (true, zn)] = _
          unfold idF
          dsimp only
          rw [p1]
          simp [tot]
        have := p3 rfl
        omega
theorem pl_cases (zs : List Int) (k : Nat) : (∃ x, zs[k]? = some x ∧ plP zs k = (true, x)) ∨ (zs.length ≤ k ∧ plP zs k = (false, 0)) := by
  unfold plP
  by_cases c : k < zs.length
  · refine .inl ⟨zs[k], List.getElem?_eq_getElem c, ?_⟩
    simp [c, List.getD_eq_getElem?_getD]
  · exact .inr ⟨by omega, by simp [c]⟩
theorem pl_tot (zs : List Int) : ∀ k, k ≤ 12 → tot (((plN zs).take k).map idF) = tot ((zs.take k).map (fun x => idF (true, x)))
  | 0, _ => by simp
  | k + 1, hk => by
    rw [plN_take zs (by omega), List.map_append, tot_app, pl_tot zs k (by omega)]
    rcases pl_cases zs k with ⟨x, h1, h2⟩ | ⟨h1, h2⟩
    · rw [h2, List.take_add_one, h1, List.map_append, tot_app]; rfl
    · rw [h2, List.take_of_length_le h1, List.take_of_length_le (show zs.length ≤ k + 1 by omega)]
      have h3 : tot ([((false, 0) : Bool × Int)].map idF) = 0 := by decide +kernel
      omega
theorem gE_of {l : List (List ByteArray × Int)} (h : ∀ x ∈ l, x.2 = 0) : gE 0 l = 0 := by
  induction l with
  | nil => rfl
  | cons x l ih =>
    show gE (kp 0 x.2) l = 0
    rw [h x (List.mem_cons_self ..)]
    exact ih fun y hy => h y (List.mem_cons_of_mem _ hy)
/-- What is taken is put as that, and is not longer. -/
theorem gback2 (s0 s1 : ByteArray) (R : List ByteArray) (hR : R.length = 15) (hs : ∀ s ∈ R, s.size ≤ 1000) (g : GsR) (hg : gsR s0 s1 R = g) (h0 : g.e = 0) : gsE g.b g.f g.xs g.p.1 g.p.2 g.h.1 g.h.2 g.v.1 g.v.2 = 0 ∧ (∀ x ∈ g.xs, -9223372036854775808 ≤ x ∧ x ≤ 9223372036854775807) ∧ ((-9223372036854775808 ≤ g.p.2 ∧ g.p.2 ≤ 9223372036854775807) ∧ (-9223372036854775808 ≤ g.h.2 ∧ g.h.2 ≤ 9223372036854775807) ∧ (-9223372036854775808 ≤ g.v.2 ∧ g.v.2 ≤ 9223372036854775807)) ∧ tot (fL (gsI g.b g.f g.xs g.p.1 g.p.2 g.h.1 g.h.2 g.v.1 g.v.2)) ≤ tot (s0 :: s1 :: R) := by
  obtain ⟨⟨zs, e3, R3⟩, hI⟩ : ∃ r, idsS (kp (kp 0 (onE s0 ⟨#[65]⟩ ⟨#[77]⟩)) (fxS s1).2) R 12 = r := ⟨_, rfl⟩
  have hok := (idsS_ok (e := kp (kp 0 (onE s0 ⟨#[65]⟩ ⟨#[77]⟩)) (fxS s1).2) (show R.length ≤ 1000 by omega) hs 12).2.2.1
  have hb := ids_back (e := kp (kp 0 (onE s0 ⟨#[65]⟩ ⟨#[77]⟩)) (fxS s1).2) (L := R) 12
  rw [hI] at hok hb
  dsimp only at hok hb
  obtain ⟨⟨⟨pi, pn⟩, e4, R4⟩, hP⟩ : ∃ r, nmS e3 R3 1 3 2 0 99999 = r := ⟨_, rfl⟩
  obtain ⟨⟨⟨hi, hn⟩, e5, R5⟩, hH⟩ : ∃ r, nmS e4 R4 1 3 2 0 99999 = r := ⟨_, rfl⟩
  obtain ⟨⟨⟨vi, vn⟩, e6, R6⟩, hV⟩ : ∃ r, nmS e5 R5 1 3 2 0 99999 = r := ⟨_, rfl⟩
  have hg2 : gsR s0 s1 R = ⟨decide (s0 = ⟨#[65]⟩), (fxS s1).1, zs, (pi, pn), (hi, hn), (vi, vn), e6⟩ := by unfold gsR; simp only [hI, hP, hH, hV]
  rw [hg2] at hg
  subst hg
  dsimp only at h0 ⊢
  subst h0
  have nV := nm_ok27 (show (nmS e5 R5 1 3 2 0 99999).2.1 = 0 by rw [hV])
  rw [hV] at nV
  obtain ⟨rfl, sv, rv, v1, v2, v3⟩ := nV
  have nH := nm_ok27 (show (nmS e4 R4 1 3 2 0 99999).2.1 = 0 by rw [hH])
  rw [hH] at nH
  obtain ⟨rfl, sh, rh, h1, h2, h3⟩ := nH
  have nP := nm_ok27 (show (nmS e3 R3 1 3 2 0 99999).2.1 = 0 by rw [hP])
  rw [hP] at nP
  obtain ⟨rfl, sp, rp, p1, p2, p3⟩ := nP
  obtain ⟨hE, hR3, hx, ht⟩ := hb rfl
  obtain ⟨hE1, hf⟩ := kp_ok hE
  have hm := (kp_ok hE1).2
  have fd := fx_dg hf
  obtain ⟨f1, f2⟩ := dg_forth27 fd
  obtain ⟨A, a1, a2, a3⟩ := tak_all p2 rfl (by decide)
  obtain ⟨B, b1, b2, b3⟩ := tak_all h2 rfl (by decide)
  obtain ⟨C, c1, c2, c3⟩ := tak_all v2 rfl (by decide)
  dsimp only at a1 a2 a3 b1 b2 b3 c1 c2 c3 p3 h3 v3
  subst p3 h3 v3
  rw [h1] at p1
  rw [v1] at p1
  have hpl : ∀ x ∈ (plN zs).map plT, x.2 = 0 := by
    intro x hx2
    obtain ⟨y, hy, rfl⟩ := List.mem_map.1 hx2
    obtain ⟨k, hk, rfl⟩ := List.mem_map.1 (show y ∈ (List.range 12).map (plP zs) from hy)
    rcases pl_cases zs k with ⟨x, q1, q2⟩ | ⟨-, q2⟩
    · rw [q2]; exact (hx x (List.mem_of_getElem? q1)).1
    · rw [q2]; decide +kernel
  have hmd := md_back27 hm (decide (s0 = ⟨#[65]⟩))
  refine ⟨?_, fun x h => (hx x h).2, ⟨a2, b2, c2⟩, ?_⟩
  · unfold gsE
    rw [if_neg (by omega), gsI_E, f1, a1, b1, c1, show kp 0 0 = 0 from rfl, gE_of hpl]
    rfl
  · have hpt := pl_tot zs 12 (Nat.le_refl _)
    rw [List.take_of_length_le (by rw [plN_len]; exact Nat.le_refl _), List.take_of_length_le hok] at hpt
    rw [gsI_L, plT_map, tot_app, tot_app, hpt, a1, b1, c1, tot_cons, tot_cons, tot_cons, tot_cons, tot_cons, tot_cons, tot_cons]
    rw [← hR3, p1, tot_cons, tot_cons, tot_cons] at ht
    dsimp only
    have := a3 rfl
    have := b3 rfl
    have := c3 rfl
    have h9 : tot [] = 0 := rfl
    omega

end Go.Proofs.YtpbekdkobmgndaaDoor
