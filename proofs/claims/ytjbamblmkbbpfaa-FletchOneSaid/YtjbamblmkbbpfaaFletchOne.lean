/- What one byte made another one, or two neighbours changed, does to the seal: plain numbers. -/
import Derived.Test.YtjbamblmkbbpfaaLaw06b
namespace Go.Proofs.Ytjbamblmkbbpfaa
open Go.RowKit

theorem sum1_set (l : List Int) : ∀ (i : Nat) (x : Int), i < l.length → sum1 (l.set i x) = sum1 l - l.getD i 0 + x := by
  induction l with
  | nil => intro i x h; simp at h
  | cons y r ih =>
    intro i x h
    cases i with
    | zero => simp [sum1]; omega
    | succ i => have := ih i x (by simpa using h); simp [sum1] at this ⊢; omega
theorem sum2_set (l : List Int) : ∀ (n : Int) (i : Nat) (x : Int), i < l.length → sum2 n (l.set i x) = sum2 n l + (n - i) * (x - l.getD i 0) := by
  induction l with
  | nil => intro n i x h; simp at h
  | cons y r ih =>
    intro n i x h
    cases i with
    | zero => simp [sum2, Int.mul_sub]; omega
    | succ i =>
      have := ih (n - 1) i x (by simpa using h)
      rw [List.set_cons_succ]
      show n * y + sum2 (n - 1) (r.set i x) = n * y + sum2 (n - 1) r + (n - ((i + 1 : Nat) : Int)) * (x - (y :: r).getD (i + 1) 0)
      rw [this, show n - ((i + 1 : Nat) : Int) = n - 1 - (i : Int) from by omega]
      simp; omega

theorem open_app (s : List Int) (p q : Int) : (openS (s ++ [p, q])).isSome = decide (flS 0 0 s = (p, q)) := by
  rw [open_is (s ++ [p, q]) s.length (by simp)]
  have e1 : (s ++ [p, q]).take s.length = s := by simp
  have e2 : (s ++ [p, q]).getD s.length 0 = p := by simp
  have e3 : (s ++ [p, q]).getD (s.length + 1) 0 = q := by simp
  rw [e1, e2, e3]
  by_cases h : flS 0 0 s = (p, q)
  · rw [if_pos h, decide_eq_true h]; rfl
  · rw [if_neg h, decide_eq_false h]; rfl

theorem open_seal (s : List Int) : openS (sealS s) = some s := by
  unfold sealS
  rw [open_is _ s.length (by simp)]
  have e1 : (s ++ [(flS 0 0 s).1, (flS 0 0 s).2]).take s.length = s := by simp
  have e2 : (s ++ [(flS 0 0 s).1, (flS 0 0 s).2]).getD s.length 0 = (flS 0 0 s).1 := by simp
  have e3 : (s ++ [(flS 0 0 s).1, (flS 0 0 s).2]).getD (s.length + 1) 0 = (flS 0 0 s).2 := by simp
  rw [e1, e2, e3, if_pos rfl]

theorem fl_zero (l : List Int) : flS 0 0 l = (sum1 l % 256, sum2 l.length l % 256) := by
  rw [flS_sums l 0 0 (by omega) (by omega)]; simp

/-- One byte made another one. -/
theorem one_byte (s : List Int) (hs : ∀ n ∈ s, 0 ≤ n ∧ n ≤ 255) (i : Nat) (hi : i < s.length + 2) (x : Int) (hx : 0 ≤ x ∧ x ≤ 255) :
    (openS ((sealS s).set i x)).isSome = decide (x = (sealS s).getD i 0) := by
  have hb := flS_bd s 0 0 (by omega) (by omega)
  unfold sealS
  generalize HR : flS 0 0 s = r at *
  obtain ⟨p, q⟩ := r
  have HR : flS 0 0 s = (p, q) := HR
  show (openS ((s ++ [p, q]).set i x)).isSome = decide (x = (s ++ [p, q]).getD i 0)
  by_cases h1 : i < s.length
  · have e1 : (s ++ [p, q]).set i x = s.set i x ++ [p, q] := List.set_append_left _ _ h1
    have e2 : (s ++ [p, q]).getD i 0 = s.getD i 0 := by simp [h1, List.getElem?_append_left]
    have hm := hs _ (List.getElem_mem h1)
    have he : s.getD i 0 = s[i] := by simp [h1]
    rw [← he] at hm
    rw [e1, e2, open_app, fl_zero, sum1_set s i x h1, List.length_set, sum2_set s _ i x h1]
    rw [fl_zero] at HR
    simp only [Prod.mk.injEq] at HR
    rw [decide_eq_decide]
    constructor
    · intro h; simp only [Prod.mk.injEq] at h; omega
    · intro h; subst h; rw [Int.sub_self, Int.mul_zero]; refine Prod.ext ?_ ?_
      · show _ = p; omega
      · show _ = q; omega
  · by_cases h2 : i = s.length
    · subst h2
      have e1 : (s ++ [p, q]).set s.length x = s ++ [x, q] := by rw [List.set_append_right _ _ (Nat.le_refl _)]; simp
      have e2 : (s ++ [p, q]).getD s.length 0 = p := by simp
      rw [e1, e2, open_app, HR, decide_eq_decide]
      constructor
      · intro h; simp only [Prod.mk.injEq] at h; exact h.1.symm
      · intro h; rw [h]
    · obtain rfl : i = s.length + 1 := by omega
      have e1 : (s ++ [p, q]).set (s.length + 1) x = s ++ [p, x] := by rw [List.set_append_right _ _ (Nat.le_succ _)]; simp
      have e2 : (s ++ [p, q]).getD (s.length + 1) 0 = q := by simp
      rw [e1, e2, open_app, HR, decide_eq_decide]
      constructor
      · intro h; simp only [Prod.mk.injEq] at h; exact h.2.symm
      · intro h; rw [h]

/-- Two neighbours changed. -/
theorem two_bytes (s : List Int) (hs : ∀ n ∈ s, 0 ≤ n ∧ n ≤ 255) (i : Nat) (hi : i + 1 < s.length + 2) :
    (openS (((sealS s).set i ((sealS s).getD (i + 1) 0)).set (i + 1) ((sealS s).getD i 0))).isSome = decide ((sealS s).getD i 0 = (sealS s).getD (i + 1) 0) := by
  have hb := flS_bd s 0 0 (by omega) (by omega)
  unfold sealS
  generalize HR : flS 0 0 s = r at *
  obtain ⟨p, q⟩ := r
  have HR : flS 0 0 s = (p, q) := HR
  show (openS (((s ++ [p, q]).set i ((s ++ [p, q]).getD (i + 1) 0)).set (i + 1) ((s ++ [p, q]).getD i 0))).isSome = decide ((s ++ [p, q]).getD i 0 = (s ++ [p, q]).getD (i + 1) 0)
  have HR2 := HR
  rw [fl_zero] at HR2
  simp only [Prod.mk.injEq] at HR2
  by_cases h1 : i + 1 < s.length
  · have e2 : (s ++ [p, q]).getD i 0 = s.getD i 0 := by simp [show i < s.length from by omega, List.getElem?_append_left]
    have e3 : (s ++ [p, q]).getD (i + 1) 0 = s.getD (i + 1) 0 := by simp [h1, List.getElem?_append_left]
    have hm := hs _ (List.getElem_mem (show i < s.length by omega))
    have he : s.getD i 0 = s[i] := by simp [show i < s.length from by omega]
    have hm2 := hs _ (List.getElem_mem h1)
    have he2 : s.getD (i + 1) 0 = s[i + 1] := by simp [h1]
    rw [← he] at hm
    rw [← he2] at hm2
    rw [e2, e3]
    generalize hx : s.getD i 0 = x at *
    generalize hy : s.getD (i + 1) 0 = y at *
    have e1 : ((s ++ [p, q]).set i y).set (i + 1) x = (s.set i y).set (i + 1) x ++ [p, q] := by
      rw [List.set_append_left _ _ (by omega), List.set_append_left _ _ (by simpa using h1)]
    have e4 : (s.set i y).getD (i + 1) 0 = y := by rw [← hy]; simp [List.getElem?_set_ne (show i ≠ i + 1 by omega)]
    rw [e1, open_app, fl_zero, sum1_set _ _ _ (by simpa using h1), sum1_set s i y (by omega), List.length_set, List.length_set, sum2_set _ _ _ _ (by simpa using h1), sum2_set s _ i y (by omega), e4, hx]
    have e5 : ((s.length : Int) - (i : Int)) * (y - x) + ((s.length : Int) - ((i + 1 : Nat) : Int)) * (x - y) = y - x := by
      have : ((s.length : Int) - ((i + 1 : Nat) : Int)) * (x - y) = -(((s.length : Int) - (i : Int)) * (y - x)) + (y - x) := by
        rw [show ((s.length : Int) - ((i + 1 : Nat) : Int)) = ((s.length : Int) - (i : Int)) - 1 from by omega, Int.sub_mul, Int.one_mul, show x - y = -(y - x) from by omega, Int.mul_neg]; omega
      omega
    rw [decide_eq_decide]
    constructor
    · intro h; simp only [Prod.mk.injEq] at h; omega
    · intro h; refine Prod.ext ?_ ?_
      · show _ = p; omega
      · show _ = q; omega
  · by_cases h2 : i + 1 = s.length
    · have e2 : (s ++ [p, q]).getD i 0 = s.getD i 0 := by simp [show i < s.length from by omega, List.getElem?_append_left]
      have e3 : (s ++ [p, q]).getD (i + 1) 0 = p := by rw [h2]; simp
      have hm := hs _ (List.getElem_mem (show i < s.length by omega))
      have he : s.getD i 0 = s[i] := by simp [show i < s.length from by omega]
      rw [← he] at hm
      rw [e2, e3]
      generalize hx : s.getD i 0 = x at *
      have e1 : ((s ++ [p, q]).set i p).set (i + 1) x = s.set i p ++ [x, q] := by
        rw [List.set_append_left _ _ (by omega), List.set_append_right _ _ (by simp; omega), h2]; simp
      rw [e1, open_app, fl_zero, sum1_set s i p (by omega), List.length_set, sum2_set s _ i p (by omega), hx]
      have e5 : ((s.length : Int) - (i : Int)) * (p - x) = p - x := by
        rw [show (s.length : Int) - (i : Int) = 1 from by omega, Int.one_mul]
      rw [e5, decide_eq_decide]
      constructor
      · intro h; simp only [Prod.mk.injEq] at h; omega
      · intro h; refine Prod.ext ?_ ?_
        · show _ = x; omega
        · show _ = q; omega
    · obtain rfl : i = s.length := by omega
      have e2 : (s ++ [p, q]).getD s.length 0 = p := by simp
      have e3 : (s ++ [p, q]).getD (s.length + 1) 0 = q := by simp
      have e1 : ((s ++ [p, q]).set s.length q).set (s.length + 1) p = s ++ [q, p] := by
        rw [List.set_append_right _ _ (Nat.le_refl _), List.set_append_right _ _ (by omega)]; simp
      rw [e2, e3, e1, open_app, HR, decide_eq_decide]
      constructor
      · intro h; simp only [Prod.mk.injEq] at h; exact h.1
      · intro h; rw [h]

theorem byte_wf {n : Int} (h1 : 0 ≤ n) (h2 : n ≤ 255) : (Lit.int .u8 n).wf = true := by
  have h3 : IntKind.u8.min = 0 := rfl
  have h4 : IntKind.u8.max = 255 := rfl
  simp [Lit.wf, h3, h4]; exact ⟨h1, h2⟩

end Go.Proofs.Ytjbamblmkbbpfaa
