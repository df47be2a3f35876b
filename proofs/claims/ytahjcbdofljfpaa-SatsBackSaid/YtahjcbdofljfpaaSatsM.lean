/- What package sats takes; what it puts, it takes as it was; and back. -/
import Derived.Test.YtahjcbdofljfpaaSats2
import Derived.Deep.DeepCutAuto
namespace Go.Proofs.Ytahjcbdofljfpaa
open Go.ChangeShapes Go.WideShapes Go.ChangeAt Go.RowKit
set_option linter.unusedVariables false
set_option linter.unusedSimpArgs false

/-- What is taken, satellite by satellite. -/
def tpc : Nat → List Int → List (List Int × Int)
  | 0, _ => []
  | n + 1, zs => takL SD17 (zs.take 12) :: tpc n (zs.drop 12)
theorem tpc_len : ∀ (n : Nat) (zs : List Int), (tpc n zs).length = n
  | 0, _ => rfl
  | n + 1, zs => by unfold tpc; rw [List.length_cons, tpc_len n]
theorem tpc_at : ∀ (n k : Nat) (zs : List Int), k < n → (tpc n zs)[k]? = some (takL SD17 ((zs.drop (12 * k)).take 12))
  | 0, k, zs, h => by omega
  | n + 1, 0, zs, _ => by unfold tpc; simp
  | n + 1, k + 1, zs, h => by
    unfold tpc
    rw [List.getElem?_cons_succ, tpc_at n k _ (by omega), List.drop_drop]
    congr 4
    omega
def nS17 (bs : List Int) : Nat := ((takL HD17 (bs.take 8)).1.getD 2 0).toNat
def takSS (bs : List Int) : Int × List (List Int) × Int :=
  if bs.length < 8 then (0, [], 2) else
  if (takL HD17 (bs.take 8)).2 ≠ 0 then (0, [], (takL HD17 (bs.take 8)).2) else
  if bs.length < 8 + 12 * nS17 bs then (0, [], 2) else
  if 8 + 12 * nS17 bs < bs.length then (0, [], 7) else
  if errJ (tpc (nS17 bs) (bs.drop 8)) = 0 then ((takL HD17 (bs.take 8)).1.getD 0 0, (tpc (nS17 bs) (bs.drop 8)).map Prod.fst, 0) else (0, [], errJ (tpc (nS17 bs) (bs.drop 8)))
theorem errJ_all : ∀ {ps : List (List Int × Int)}, errJ ps = 0 → ∀ p ∈ ps, p.2 = 0
  | [], _ => fun p hp => by cases hp
  | q :: r, h => by
    unfold errJ at h
    by_cases c : q.2 = 0
    · rw [if_pos c] at h
      intro p hp
      rcases List.mem_cons.1 hp with rfl | hp
      · exact c
      · exact errJ_all h p hp
    · rw [if_neg c] at h; exact absurd h c
theorem errJ_zero : ∀ {ps : List (List Int × Int)}, (∀ p ∈ ps, p.2 = 0) → errJ ps = 0
  | [], _ => rfl
  | q :: r, h => by
    unfold errJ
    rw [if_pos (h q (by simp))]
    exact errJ_zero (fun p hp => h p (List.mem_cons_of_mem _ hp))
theorem errJ_e : ∀ ps : List (List Int × Int), (∀ p ∈ ps, 0 ≤ p.2 ∧ p.2 ≤ 9) → 0 ≤ errJ ps ∧ errJ ps ≤ 9
  | [], _ => by simp [errJ]
  | p :: r, hp => by
    unfold errJ
    split
    · exact errJ_e r (fun q hq => hp q (List.mem_cons_of_mem _ hq))
    · exact hp p (by simp)
theorem widthH17 : widthS (fN HD17) (fS HD17) (fL HD17) (fH HD17) HD17.length = 8 := by decide +kernel
theorem widthS17 : widthS (fN SD17) (fS SD17) (fL SD17) (fH SD17) SD17.length = 12 := by decide +kernel
theorem put1_len {x b : List Int} (h : putL SD17 x = (b, 0)) : b.length = 12 ∧ takL SD17 b = (x, 0) := by
  obtain ⟨t1, t2⟩ := put_take h
  have := widthS17.symm.trans t2
  exact ⟨by omega, t1⟩
theorem puth_len {x b : List Int} (h : putL HD17 x = (b, 0)) : b.length = 8 ∧ takL HD17 b = (x, 0) := by
  obtain ⟨t1, t2⟩ := put_take h
  have := widthH17.symm.trans t2
  exact ⟨by omega, t1⟩
theorem tpc_put : ∀ (l : List (List Int)), (∀ p ∈ l.map (putL SD17), p.2 = 0) → tpc l.length (catJ (l.map (putL SD17))) = l.map (fun x => (x, 0)) ∧ (catJ (l.map (putL SD17))).length = 12 * l.length
  | [], _ => ⟨rfl, rfl⟩
  | x :: l, h => by
    obtain ⟨⟨b, e⟩, hb⟩ : ∃ r, putL SD17 x = r := ⟨_, rfl⟩
    obtain rfl : e = 0 := by have := h (putL SD17 x) (by simp); rw [hb] at this; exact this
    obtain ⟨h12, ht⟩ := put1_len hb
    obtain ⟨ih1, ih2⟩ := tpc_put l (fun p hp => h p (by rw [List.map_cons]; exact List.mem_cons_of_mem _ hp))
    have hc : catJ ((x :: l).map (putL SD17)) = b ++ catJ (l.map (putL SD17)) := by rw [List.map_cons, hb]; rfl
    rw [hc]
    refine ⟨?_, by rw [List.length_append, h12, ih2, List.length_cons]; omega⟩
    show takL SD17 _ :: tpc l.length _ = _
    rw [List.take_left' h12, List.drop_left' h12, ih1, ht]
    rfl
theorem tpc_take : ∀ (n : Nat) (zs : List Int), (∀ x ∈ zs, 0 ≤ x ∧ x ≤ 255) → zs.length = 12 * n → (∀ p ∈ tpc n zs, p.2 = 0) →
    (∀ p ∈ ((tpc n zs).map Prod.fst).map (putL SD17), p.2 = 0) ∧ catJ (((tpc n zs).map Prod.fst).map (putL SD17)) = zs ∧ ∀ x ∈ (tpc n zs).map Prod.fst, x.length = 7 ∧ ∀ y ∈ x, -9223372036854775808 ≤ y ∧ y ≤ 9223372036854775807
  | 0, zs, _, h, _ => ⟨fun p hp => (by cases hp), (by rw [List.length_eq_zero_iff.1 (show zs.length = 0 by omega)]; rfl), fun x hx => (by cases hx)⟩
  | n + 1, zs, hb, hl, h => by
    obtain ⟨⟨x, e⟩, hx⟩ : ∃ r, takL SD17 (zs.take 12) = r := ⟨_, rfl⟩
    have ht : tpc (n + 1) zs = (x, e) :: tpc n (zs.drop 12) := by rw [← hx]; rfl
    rw [ht] at h ⊢
    obtain rfl : e = 0 := h (x, e) (by simp)
    obtain ⟨i1, i2, i3⟩ := tpc_take n (zs.drop 12) (fun y hy => hb y (List.mem_of_mem_drop hy)) (by rw [List.length_drop]; omega) (fun p hp => h p (List.mem_cons_of_mem _ hp))
    have hp := take_put hx (fun y hy => hb y (List.mem_of_mem_take hy))
    have hp1 : putL SD17 x = (zs.take 12, 0) := hp.1
    have hbd := tak_bd hx
    rw [List.map_cons, List.map_cons, hp1]
    refine ⟨fun p hp => ?_, ?_, fun y hy => ?_⟩
    · rcases List.mem_cons.1 hp with rfl | hp
      · rfl
      · exact i1 p hp
    · show zs.take 12 ++ catJ _ = zs
      rw [i2, List.take_append_drop]
    · rcases List.mem_cons.1 hy with rfl | hy
      · exact ⟨hp.2, hbd⟩
      · exact i3 y hy
theorem catJ_bd : ∀ {ps : List (List Int × Int)}, (∀ p ∈ ps, ∀ x ∈ p.1, 0 ≤ x ∧ x ≤ 255) → ∀ x ∈ catJ ps, 0 ≤ x ∧ x ≤ 255 := by
  intro ps h x hx
  obtain ⟨p, hp, hx2⟩ := List.mem_flatMap.1 hx
  exact h p hp x hx2
theorem putSS_bd (tow : Int) (l : List (List Int)) : (putSS tow l).1.length ≤ 1000 ∧ ∀ x ∈ (putSS tow l).1, 0 ≤ x ∧ x ≤ 255 := by
  unfold putSS
  split
  · simp
  · rename_i hl
    split
    · rename_i c
      have ha := errJ_all c
      obtain ⟨⟨hb, he⟩, hr⟩ : ∃ r, hd17 tow l = r := ⟨_, rfl⟩
      have hp : pieces tow l = (hb, he) :: l.map (putL SD17) := by rw [← hr]; rfl
      rw [hp] at ha
      obtain rfl : he = 0 := ha (hb, he) (by simp)
      obtain ⟨h8, _⟩ := puth_len hr
      obtain ⟨_, hlen⟩ := tpc_put l (fun p hq => ha p (List.mem_cons_of_mem _ hq))
      rw [hp]
      refine ⟨?_, catJ_bd (fun p hp => ?_)⟩
      · show (hb ++ catJ _).length ≤ 1000
        rw [List.length_append, h8, hlen]
        omega
      · rcases List.mem_cons.1 hp with rfl | hp
        · exact (put_len (show putL HD17 [tow, 1, (l.length : Int), 0] = (hb, 0) from hr) (by decide)).2
        · obtain ⟨x, _, rfl⟩ := List.mem_map.1 hp
          exact (put_len (show putL SD17 x = ((putL SD17 x).1, (putL SD17 x).2) from rfl) (by decide)).2
    · simp
theorem putSS_bad {tow : Int} {l : List (List Int)} {s : List Int} {e : Int} (h : putSS tow l = (s, e)) (he : e ≠ 0) : s = [] := by
  unfold putSS at h
  split at h
  · exact (congrArg Prod.fst h).symm
  · split at h
    · exact absurd (congrArg Prod.snd h).symm he
    · exact (congrArg Prod.fst h).symm
theorem takSS_bad {bs : List Int} (h : (takSS bs).2.2 ≠ 0) : takSS bs = (0, [], (takSS bs).2.2) := by
  unfold takSS at *
  split
  · rfl
  · rename_i c1
    rw [if_neg c1] at h
    split
    · rfl
    · rename_i c2
      rw [if_neg c2] at h
      split
      · rfl
      · rename_i c3
        rw [if_neg c3] at h
        split
        · rfl
        · rename_i c4
          rw [if_neg c4] at h
          split
          · rename_i c5
            rw [if_pos c5] at h
            simp at h
          · rfl
theorem takSS_e (bs : List Int) : 0 ≤ (takSS bs).2.2 ∧ (takSS bs).2.2 ≤ 9 := by
  have h1 := takF_e (fN HD17) (fS HD17) (fL HD17) (fH HD17) HD17.length (bs.take 8)
  change 0 ≤ (takL HD17 (bs.take 8)).2 ∧ (takL HD17 (bs.take 8)).2 ≤ 9 at h1
  have h2 : ∀ n zs, ∀ p ∈ tpc n zs, 0 ≤ p.2 ∧ p.2 ≤ 9 := by
    intro n
    induction n with
    | zero => intro zs p hp; cases hp
    | succ n ih =>
      intro zs p hp
      rcases List.mem_cons.1 hp with rfl | hp
      · exact takF_e (fN SD17) (fS SD17) (fL SD17) (fH SD17) SD17.length _
      · exact ih _ p hp
  unfold takSS
  split
  · simp
  · split
    · exact h1
    · split
      · simp
      · split
        · simp
        · split
          · simp
          · exact errJ_e _ (h2 _ _)
/-- What the head holds. -/
theorem head17 {zs P : List Int} (h : takL HD17 zs = (P, 0)) : ∃ tow n : Int, P = [tow, 1, n, 0] ∧ (-9223372036854775808 ≤ tow ∧ tow ≤ 9223372036854775807) ∧ 0 ≤ n ∧ n ≤ 64 ∧ zs.length = 8 := by
  have hbd := tak_bd h
  obtain ⟨_, hs, hi, hPe⟩ := tak_spec h
  have i0 := inV_at hi (k := 0) (by decide)
  have i1 := inV_at hi (k := 1) (by decide)
  have i2 := inV_at hi (k := 2) (by decide)
  have i3 := inV_at hi (k := 3) (by decide)
  have hP : P = [numAt (fN HD17) (fS HD17) zs 0, numAt (fN HD17) (fS HD17) zs 1, numAt (fN HD17) (fS HD17) zs 2, numAt (fN HD17) (fS HD17) zs 3] := hPe
  have w8 : sumW (fN HD17) HD17.length = 8 := by decide +kernel
  generalize numAt (fN HD17) (fS HD17) zs 0 = p0 at *
  generalize numAt (fN HD17) (fS HD17) zs 1 = p1 at *
  generalize numAt (fN HD17) (fS HD17) zs 2 = p2 at *
  generalize numAt (fN HD17) (fS HD17) zs 3 = p3 at *
  obtain rfl : p1 = 1 := by have a : fL HD17 1 = 1 := rfl; have b : fH HD17 1 = 1 := rfl; omega
  obtain rfl : p3 = 0 := by have a : fL HD17 3 = 0 := rfl; have b : fH HD17 3 = 0 := rfl; omega
  have a2 : fL HD17 2 = 0 := rfl
  have b2 : fH HD17 2 = 64 := rfl
  rw [w8] at hs
  exact ⟨p0, p2, hP, hbd p0 (by rw [hP]; simp), by omega, by omega, by omega⟩
theorem put_takS {tow : Int} {l : List (List Int)} {s : List Int} (h : putSS tow l = (s, 0)) : takSS s = (tow, l, 0) ∧ s.length = 8 + 12 * l.length ∧ l.length ≤ 64 := by
  unfold putSS at h
  split at h
  · exact absurd (congrArg Prod.snd h) (by simp)
  · rename_i hl
    split at h
    · rename_i c
      have ha := errJ_all c
      obtain ⟨⟨hb, he⟩, hr⟩ : ∃ r, hd17 tow l = r := ⟨_, rfl⟩
      have hp : pieces tow l = (hb, he) :: l.map (putL SD17) := by rw [← hr]; rfl
      rw [hp] at ha h
      obtain rfl : he = 0 := ha (hb, he) (by simp)
      obtain ⟨h8, hd⟩ := puth_len hr
      obtain ⟨ht, hlen⟩ := tpc_put l (fun p hq => ha p (List.mem_cons_of_mem _ hq))
      obtain rfl : hb ++ catJ (l.map (putL SD17)) = s := congrArg Prod.fst h
      have e1 : (hb ++ catJ (l.map (putL SD17))).take 8 = hb := List.take_left' h8
      have e2 : (hb ++ catJ (l.map (putL SD17))).drop 8 = catJ (l.map (putL SD17)) := List.drop_left' h8
      have hn : nS17 (hb ++ catJ (l.map (putL SD17))) = l.length := by unfold nS17; rw [e1, hd]; simp
      have hL : (hb ++ catJ (l.map (putL SD17))).length = 8 + 12 * l.length := by rw [List.length_append, h8, hlen]
      refine ⟨?_, hL, by omega⟩
      unfold takSS
      rw [hn, e1, e2, hd, hL, ht, if_neg (by omega), if_neg (by simp), if_neg (by omega), if_neg (by omega), if_pos (errJ_zero (fun p hp => by obtain ⟨x, _, rfl⟩ := List.mem_map.1 hp; rfl)), List.map_map]
      have e3 : (Prod.fst ∘ fun x : List Int => (x, (0 : Int))) = id := rfl
      rw [e3, List.map_id]
      rfl
    · rename_i c; exact absurd (congrArg Prod.snd h) c
theorem take_putS {bs : List Int} (hb : ∀ x ∈ bs, 0 ≤ x ∧ x ≤ 255) {tow : Int} {l : List (List Int)} (h : takSS bs = (tow, l, 0)) : putSS tow l = (bs, 0) ∧ (-9223372036854775808 ≤ tow ∧ tow ≤ 9223372036854775807) ∧ l.length ≤ 64 ∧ ∀ x ∈ l, x.length = 7 ∧ ∀ y ∈ x, -9223372036854775808 ≤ y ∧ y ≤ 9223372036854775807 := by
  unfold takSS at h
  split at h
  · exact absurd (congrArg (fun r => r.2.2) h) (by simp)
  · rename_i c1
    obtain ⟨⟨P, pe⟩, hp⟩ : ∃ r, takL HD17 (bs.take 8) = r := ⟨_, rfl⟩
    have hnd : nS17 bs = (P.getD 2 0).toNat := by unfold nS17; rw [hp]
    rw [hp, hnd] at h
    dsimp only at h
    split at h
    · rename_i c2; exact absurd (congrArg (fun r => r.2.2) h) c2
    · rename_i c2
      obtain rfl : pe = 0 := Decidable.not_not.1 c2
      obtain ⟨tw, n, rfl, hbt, hn0, hn64, _⟩ := head17 hp
      obtain ⟨N, rfl⟩ : ∃ N : Nat, n = N := ⟨n.toNat, by omega⟩
      have hN : ([tw, 1, (N : Int), 0].getD 2 0).toNat = N := by simp
      rw [hN] at h
      split at h
      · exact absurd (congrArg (fun r => r.2.2) h) (by simp)
      · split at h
        · exact absurd (congrArg (fun r => r.2.2) h) (by simp)
        · split at h
          · rename_i c3 c4 c5
            obtain rfl : tw = tow := congrArg Prod.fst h
            obtain rfl : (tpc N (bs.drop 8)).map Prod.fst = l := congrArg (fun r => r.2.1) h
            obtain ⟨i1, i2, i3⟩ := tpc_take N (bs.drop 8) (fun x hx => hb x (List.mem_of_mem_drop hx)) (by rw [List.length_drop]; omega) (errJ_all c5)
            have hP := take_put hp (fun x hx => hb x (List.mem_of_mem_take hx))
            have hl : ((tpc N (bs.drop 8)).map Prod.fst).length = N := by rw [List.length_map, tpc_len]
            have h1 : hd17 tw ((tpc N (bs.drop 8)).map Prod.fst) = (bs.take 8, 0) := by unfold hd17; rw [hl]; exact hP.1
            refine ⟨?_, hbt, by omega, i3⟩
            unfold putSS pieces
            rw [hl, h1, if_neg (by omega), if_pos (errJ_zero (fun p hp => by
              rcases List.mem_cons.1 hp with rfl | hp
              · rfl
              · exact i1 p hp))]
            show (bs.take 8 ++ catJ _, (0 : Int)) = _
            rw [i2, List.take_append_drop]
          · rename_i c5; exact absurd (congrArg (fun r => r.2.2) h) c5

end Go.Proofs.Ytahjcbdofljfpaa
