/- Package decim: what is put is taken, without the program. -/
import Derived.Test.YtobgibmpodggkaaGreatDoorDec10
namespace Go.Proofs.YtobgibmpodggkaaGreatDoor
set_option linter.unusedVariables false
set_option linter.unusedSimpArgs false

theorem isD_dgt {k n c : Nat} (h : c ∈ dgt k n) : isD c = true := by
  have := dgt_bd k n c h
  exact decide_eq_true this
/-- Digits ahead of what does not begin with one. -/
theorem cnt_app : ∀ (l r : List Nat), (∀ c ∈ l, isD c = true) → cnt r = 0 → cnt (l ++ r) = l.length
  | [], r, _, h => h
  | c :: l, r, h, hr => by
    rw [List.cons_append, cnt, if_pos (h c (by simp)), cnt_app l r (fun d hd => h d (List.mem_cons_of_mem _ hd)) hr, List.length_cons]
theorem cnt_behV (k n : Nat) : cnt (behV k n) = 0 := by
  unfold behV
  split
  · rfl
  · rw [cnt, if_neg (by decide)]
theorem digV_isD {n d : Nat} : ∀ c ∈ digV n d, isD c = true := fun c h => isD_dgt h
theorem behN_isD {k n : Nat} : ∀ c ∈ behN k n, isD c = true := fun c h => decide_eq_true (behN_bd k n c h)
theorem valN_digV (n d : Nat) : valN 0 (digV n d) = n := by
  unfold digV
  rw [valN_dgt, Nat.zero_mul, Nat.zero_add]
  exact Nat.mod_eq_of_lt (Nat.lt_of_lt_of_le (lt_nd n) (Nat.pow_le_pow_right (by decide) (Nat.le_max_right _ _)))
/-- What the noughts at the end were worth comes back. -/
theorem behN_val : ∀ k n, n < 10 ^ k → valN 0 (behN k n) * 10 ^ (k - (behN k n).length) = n
  | 0, n, h => by
    have : n = 0 := by simpa using h
    subst this
    rfl
  | k + 1, n, h => by
    by_cases h0 : n % 10 = 0
    · rw [behN_step h0]
      have h1 := div_lt_pow h
      have h2 := behN_val k (n / 10) h1
      have h3 := behN_len k (n / 10)
      rw [show k + 1 - (behN k (n / 10)).length = (k - (behN k (n / 10)).length) + 1 by omega, Nat.pow_succ, ten_mul, h2]
      omega
    · rw [behN_stop h0, valN_dgt, dgt_len, Nat.zero_mul, Nat.zero_add, Nat.mod_eq_of_lt h, Nat.sub_self, Nat.pow_zero, Nat.mul_one]
theorem behN_pos : ∀ k n, n ≠ 0 → n < 10 ^ k → 1 ≤ (behN k n).length
  | 0, n, h, h1 => by
    have : n = 0 := by simpa using h1
    exact absurd this h
  | k + 1, n, h, h1 => by
    by_cases h0 : n % 10 = 0
    · rw [behN_step h0]; exact behN_pos k _ (by omega) (div_lt_pow h1)
    · rw [behN_stop h0, dgt_len]; omega
theorem behN_mul : ∀ k b v, b ≤ k → (behN k (v * 10 ^ (k - b))).length ≤ b
  | 0, b, v, h => by
    have : b = 0 := by omega
    subst this
    simp [behN]
  | k + 1, b, v, h => by
    by_cases hb : b = k + 1
    · subst hb; exact behN_len _ _
    · have e : v * 10 ^ (k + 1 - b) = 10 * (v * 10 ^ (k - b)) := by
        rw [show k + 1 - b = (k - b) + 1 by omega, Nat.pow_succ, ten_mul]
      rw [e, behN_step (by omega), Nat.mul_div_cancel_left _ (by decide)]
      exact behN_mul k b v (by omega)
theorem pow_split {k b : Nat} (h : b ≤ k) : 10 ^ k = 10 ^ b * 10 ^ (k - b) := by rw [← Nat.pow_add]; congr 1; omega
/-- Digits, and what stands behind the point, are read as they were written. -/
theorem fixP_num (pre D : List Nat) (X r F least most : Nat) (hD : ∀ c ∈ D, isD c = true) (hv : valN 0 D = X) (h1 : least ≤ D.length) (h2 : D.length ≤ most) (hr : r < 10 ^ F) :
    fixP (pre ++ (D ++ behV F r)) pre.length least most F = some (X * 10 ^ F + r) := by
  have hdrop : (pre ++ (D ++ behV F r)).drop pre.length = D ++ behV F r := by simp
  have hc : cntM ((pre ++ (D ++ behV F r)).drop pre.length) most = D.length := by
    rw [hdrop]
    unfold cntM
    rw [cnt_app D _ hD (cnt_behV F r)]
    omega
  have hn : valN 0 (((pre ++ (D ++ behV F r)).drop pre.length).take D.length) = X := by
    rw [hdrop, List.take_left, hv]
  by_cases h0 : r = 0
  · subst h0
    have hb : behV F 0 = [] := by unfold behV; rw [if_pos rfl]
    rw [fixP_no hc (by rw [hb]; simp) hn, if_pos ⟨h1, by rw [hb]; simp⟩, Nat.add_zero]
  · have hb : behV F r = 46 :: behN F r := by unfold behV; rw [if_neg h0]
    have hl := behN_len F r
    have hp := behN_pos F r h0 hr
    have hd : 0 < F ∧ pre.length + D.length < (pre ++ (D ++ behV F r)).length ∧ (pre ++ (D ++ behV F r)).getD (pre.length + D.length) 0 = 46 := by
      refine ⟨by omega, ?_, ?_⟩
      · rw [hb]; simp
      · rw [hb, List.getD_eq_getElem?_getD, List.getElem?_append_right (by omega), List.getElem?_append_right (by omega)]
        simp
    have hdr : (pre ++ (D ++ behV F r)).drop (pre.length + D.length + 1) = behN F r := by
      rw [hb, show pre ++ (D ++ 46 :: behN F r) = (pre ++ D ++ [46]) ++ behN F r by simp]
      rw [List.drop_left' (by simp; omega)]
    have hc2 : cntM ((pre ++ (D ++ behV F r)).drop (pre.length + D.length + 1)) F = (behN F r).length := by
      rw [hdr]
      unfold cntM
      have := cnt_app (behN F r) [] behN_isD rfl
      rw [List.append_nil] at this
      rw [this]
      omega
    have hn2 : valN 0 (((pre ++ (D ++ behV F r)).drop (pre.length + D.length + 1)).take (behN F r).length) = valN 0 (behN F r) := by rw [hdr, List.take_length]
    rw [fixP_dot hc hd hc2 hn hn2, if_pos ⟨h1, hp, by rw [hb]; simp; omega⟩, behN_val F r hr]
theorem fixP_is {zs : List Nat} {q least most frac n : Nat} (h : fixP zs q least most frac = some n) :
    ∃ a v r b, least ≤ a ∧ a ≤ most ∧ q + a ≤ zs.length ∧ v < 10 ^ a ∧ n = v * 10 ^ frac + r ∧ r < 10 ^ frac ∧ (r = 0 ∨ (b ≤ frac ∧ ∃ u, r = u * 10 ^ (frac - b)) ∧ q + a + 1 + b ≤ zs.length) := by
  have hl := cntM_le (zs.drop q) most
  have hv := cntM_val (zs.drop q) most
  rw [List.length_drop] at hl
  have hp : 0 < 10 ^ frac := Nat.pow_pos (by decide)
  unfold fixP at h
  generalize cntM (zs.drop q) most = a at *
  split at h
  · split at h
    · rename_i hd hc
      have hl2 := cntM_le (zs.drop (q + a + 1)) frac
      have hv2 := cntM_val (zs.drop (q + a + 1)) frac
      generalize cntM (zs.drop (q + a + 1)) frac = b at *
      have hn := Option.some.inj h
      refine ⟨a, _, _, b, hc.1, hl.1, by omega, hv, hn.symm, ?_, Or.inr ⟨⟨hl2.1, _, rfl⟩, by omega⟩⟩
      rw [pow_split hl2.1]
      exact Nat.mul_lt_mul_of_pos_right hv2 (Nat.pow_pos (by decide))
    · cases h
  · split at h
    · rename_i hd hc
      have hn := Option.some.inj h
      exact ⟨a, _, 0, 0, hc.1, hl.1, by omega, hv, by rw [← hn, Nat.add_zero], hp, Or.inl rfl⟩
    · cases h
theorem behV_le {F r b : Nat} (h : r = 0 ∨ (b ≤ F ∧ ∃ u, r = u * 10 ^ (F - b))) : (behV F r).length ≤ if r = 0 then 0 else b + 1 := by
  unfold behV
  split
  · simp
  · rename_i h0
    rcases h with h | ⟨hb, u, hu⟩
    · exact absurd h h0
    · rw [List.length_cons, hu]
      have := behN_mul F b u hb
      omega
/-- What is read, written, is not longer: at least so many digits. -/
theorem num_short {zs : List Nat} {q least most frac n : Nat} (h : fixP zs q least most frac = some n) (hl : 1 ≤ least) :
    (digV (n / 10 ^ frac) least ++ behV frac (n % 10 ^ frac)).length + q ≤ zs.length ∧ (digV (n / 10 ^ frac) least).length ≤ most := by
  obtain ⟨a, v, r, b, h1, h2, h3, hv, hn, hr, hb⟩ := fixP_is h
  have hp : 0 < 10 ^ frac := Nat.pow_pos (by decide)
  have e1 : n / 10 ^ frac = v := by rw [hn, Nat.mul_comm, Nat.mul_add_div hp, Nat.div_eq_of_lt hr, Nat.add_zero]
  have e2 : n % 10 ^ frac = r := by rw [hn, Nat.mul_comm, Nat.mul_add_mod, Nat.mod_eq_of_lt hr]
  rw [e1, e2, List.length_append, digV_len]
  have h4 := nd_le hv
  have h5 := behV_le (F := frac) (r := r) (b := b) (by rcases hb with hb | hb; exact Or.inl hb; exact Or.inr hb.1)
  split at h5
  · omega
  · rename_i h0
    rcases hb with hb | hb
    · exact absurd hb h0
    · omega

theorem sb_nb {l : List Nat} (h : ∀ c ∈ l, c < 256) : sb (nb l) = l := by
  unfold sb nb
  simp only [List.map_map]
  have : ∀ l : List Nat, (∀ c ∈ l, c < 256) → l.map (UInt8.toNat ∘ UInt8.ofNat) = l := by
    intro l
    induction l with
    | nil => intro _; rfl
    | cons a l ih => intro h; rw [List.map_cons, ih (fun c hc => h c (List.mem_cons_of_mem _ hc))]; simp only [Function.comp]; rw [ofNat_toNat (h a (by simp))]
  exact this l h
theorem behV_bd {k n c : Nat} (h : c ∈ behV k n) : c < 256 := by
  unfold behV at h
  split at h
  · cases h
  · rcases List.mem_cons.1 h with h | h
    · omega
    · have := behN_bd k n c h; omega
theorem digV_bd {n d c : Nat} (h : c ∈ digV n d) : c < 256 := by
  have := dgt_bd _ _ _ h; omega
theorem sgnV_bd {n : Int} {c : Nat} (h : c ∈ sgnV n) : c < 256 := by
  unfold sgnV at h
  split at h
  · simp at h; omega
  · cases h
theorem sgnV_len (n : Int) : (sgnV n).length = if n < 0 then 1 else 0 := by unfold sgnV; split <;> rfl
theorem abs_sgn (n : Int) : sgnI (sgnV n).length * (n.natAbs : Int) = n := by
  rw [sgnV_len]
  unfold sgnI
  split <;> simp <;> omega
theorem fixQ_put (n : Int) (D R : List Nat) (hD : ∀ c ∈ D, isD c = true) (hD1 : 1 ≤ D.length) (hb : ∀ c ∈ sgnV n ++ (D ++ R), c < 256) : fixQ true (nb (sgnV n ++ (D ++ R))) = (sgnV n).length := by
  rw [sgnV_len]
  unfold fixQ
  have e : ∀ h : hitB (nb (sgnV n ++ (D ++ R))) 0 45 = true, n < 0 := by
    intro h
    have h2 := (hitB_is.1 h).2
    rw [sb_nb hb] at h2
    refine Decidable.byContradiction fun hn => ?_
    unfold sgnV at h2
    rw [if_neg hn, List.nil_append] at h2
    cases D with
    | nil => simp at hD1
    | cons c D =>
      have h3 : c = 45 := by simpa using h2
      have h4 := hD c (by simp)
      rw [h3] at h4
      exact absurd h4 (by decide)
  by_cases hn : n < 0
  · rw [if_pos hn, if_pos]
    refine ⟨rfl, hitB_is.2 ⟨?_, ?_⟩⟩
    · rw [nb_size]; simp; omega
    · rw [sb_nb hb]; unfold sgnV; rw [if_pos hn]; rfl
  · rw [if_neg hn, if_neg]
    exact fun h => hn (e h.2)
theorem missE_is {is : Bool} {n lo hi : Int} (h : missE is n lo hi = 0) : (is = false ∧ n = 0) ∨ (is = true ∧ lo ≤ n ∧ n ≤ hi) := by
  unfold missE at h
  split at h
  · cases h
  · rename_i h1
    cases is <;> simp at h1 ⊢ <;> omega
theorem missE_no {is : Bool} {n lo hi : Int} (h : (is = false ∧ n = 0) ∨ (is = true ∧ lo ≤ n ∧ n ≤ hi)) : missE is n lo hi = 0 := by
  unfold missE
  rw [if_neg]
  rcases h with ⟨rfl, rfl⟩ | ⟨rfl, h⟩
  · simp
  · simp; omega
theorem putD_ok {is : Bool} {n W M F lo hi : Int} {L : List Nat} (h : putD is n W M F lo hi = (L, 0)) :
    rightC W M F lo hi = true ∧ missE is n lo hi = 0 ∧ L = if is = false then [] else sgnV n ++ numV n.natAbs W.toNat F.toNat := by
  unfold putD at h
  split at h
  · simp at h
  · rename_i h1
    split at h
    · simp at h
    · rename_i h2
      refine ⟨by simpa using h1, Decidable.byContradiction h2, ?_⟩
      split at h
      · rename_i h3; rw [if_pos h3]; exact (congrArg Prod.fst h).symm
      · rename_i h3; rw [if_neg h3]; exact (congrArg Prod.fst h).symm
theorem putD_go {is : Bool} {n W M F lo hi : Int} (h1 : rightC W M F lo hi = true) (h2 : missE is n lo hi = 0) :
    putD is n W M F lo hi = (if is = false then [] else sgnV n ++ numV n.natAbs W.toNat F.toNat, 0) := by
  unfold putD
  rw [if_neg (by rw [h1]; decide), if_neg (by rw [h2]; decide)]
  split <;> rfl
theorem abs_lt {n lo hi W M F : Int} (hr : rightC W M F lo hi = true) (h1 : lo ≤ n) (h2 : n ≤ hi) : n.natAbs < 10 ^ M.toNat * 10 ^ F.toNat := by
  have hr2 := rightC_is.1 hr
  obtain ⟨a1, a2, a3, a4, a5, a6, a7, a8⟩ := hr2
  have e : (M + F).toNat = M.toNat + F.toNat := by omega
  rw [e] at a7 a8
  rw [← Nat.pow_add]
  unfold p10 at a7 a8
  omega
/-- A number that is put is taken as it was. -/
theorem takD_putD {is : Bool} {n W M F lo hi : Int} {L : List Nat} (h : putD is n W M F lo hi = (L, 0)) : takD (nb L) W M F lo hi = (is, n, 0) := by
  obtain ⟨h1, h2, hL⟩ := putD_ok h
  unfold takD
  rw [if_neg (by rw [h1]; decide)]
  rcases missE_is h2 with ⟨rfl, rfl⟩ | ⟨rfl, hlo, hhi⟩
  · rw [if_pos rfl] at hL
    subst hL
    rfl
  · rw [if_neg (by decide)] at hL
    subst hL
    have hr := rightC_is.1 h1
    obtain ⟨a1, a2, a3, a4, a5, a6, a7, a8⟩ := hr
    have hab := abs_lt h1 hlo hhi
    have hp : 0 < 10 ^ F.toNat := Nat.pow_pos (by decide)
    have hX : n.natAbs / 10 ^ F.toNat < 10 ^ M.toNat := by
      rw [Nat.div_lt_iff_lt_mul hp]; exact hab
    have hl := digV_len (n.natAbs / 10 ^ F.toNat) W.toNat
    have hnd := nd_le hX
    unfold numV
    have hbd : ∀ c ∈ sgnV n ++ (digV (n.natAbs / 10 ^ F.toNat) W.toNat ++ behV F.toNat (n.natAbs % 10 ^ F.toNat)), c < 256 := by
      intro c hc
      rcases List.mem_append.1 hc with hc | hc
      · exact sgnV_bd hc
      · rcases List.mem_append.1 hc with hc | hc
        · exact digV_bd hc
        · exact behV_bd hc
    have hq := fixQ_put n _ (behV F.toNat (n.natAbs % 10 ^ F.toNat)) (digV_isD (n := n.natAbs / 10 ^ F.toNat) (d := W.toNat)) (by omega) hbd
    rw [if_neg (by rw [nb_size, List.length_append, List.length_append]; omega), hq, sb_nb hbd,
      fixP_num (sgnV n) _ _ _ F.toNat 1 M.toNat digV_isD (valN_digV _ _) (by omega) (by omega) (Nat.mod_lt _ hp), Nat.mul_comm, Nat.div_add_mod, takO_some, abs_sgn, if_neg (by omega)]
/-- What is taken can be put; it is not longer. -/
theorem putD_takD {s : ByteArray} {is : Bool} {n W M F lo hi : Int} (h : takD s W M F lo hi = (is, n, 0)) :
    (putD is n W M F lo hi).2 = 0 ∧ (W = 1 → (putD is n W M F lo hi).1.length ≤ s.size) := by
  unfold takD at h
  split at h
  · simp at h
  · rename_i h1
    have h1 : rightC W M F lo hi = true := by simpa using h1
    split at h
    · rename_i h0
      obtain ⟨rfl, rfl⟩ : is = false ∧ n = 0 := by
        have e1 := congrArg Prod.fst h
        have e2 := congrArg (fun x => x.2.1) h
        exact ⟨e1.symm, e2.symm⟩
      rw [putD_go h1 (missE_no (Or.inl ⟨rfl, rfl⟩))]
      exact ⟨rfl, fun _ => by simp⟩
    · rename_i h0
      cases hf : fixP (sb s) (fixQ true s) 1 M.toNat F.toNat with
      | none => rw [hf, takO_no] at h; simp at h
      | some m =>
        rw [hf, takO_some] at h
        split at h
        · simp at h
        · rename_i hr
          have e1 : true = is := congrArg Prod.fst h
          have e2 : sgnI (fixQ true s) * (m : Int) = n := congrArg (fun x => x.2.1) h
          subst e1
          rw [e2] at hr
          rw [putD_go h1 (missE_no (Or.inr ⟨rfl, by omega⟩))]
          refine ⟨rfl, fun hW => ?_⟩
          subst hW
          have hs := (num_short hf (Nat.le_refl 1)).1
          rw [sb_len] at hs
          have hq : fixQ true s ≤ 1 := by unfold fixQ; split <;> omega
          have ha : n.natAbs = m ∧ (n < 0 → fixQ true s = 1) := by
            unfold sgnI at e2
            split at e2
            · rename_i h1; refine ⟨by omega, fun _ => h1⟩
            · refine ⟨by omega, fun hn => by omega⟩
          rw [if_neg (by decide), ha.1, List.length_append, sgnV_len]
          unfold numV
          have e3 : (1 : Int).toNat = 1 := rfl
          rw [e3]
          split
          · rename_i hn; have := ha.2 hn; omega
          · omega

theorem farA_le (lat : Bool) : farA lat / 6000000 < 10 ^ wideA lat := by cases lat <;> decide
theorem angD_ok {is : Bool} {n : Int} {lat : Bool} {A B : List Nat} (h : angD is n lat = (A, B, 0)) :
    missE is n (-(farA lat : Int)) (farA lat) = 0 ∧ A = (if is = false then [] else angV n.natAbs lat) ∧ B = (if is = false then [] else [sideA lat (decide (n < 0))]) := by
  unfold angD at h
  split at h
  · simp at h
  · rename_i h2
    refine ⟨Decidable.byContradiction h2, ?_⟩
    split at h
    · rename_i h3; rw [if_pos h3, if_pos h3]; exact ⟨(congrArg Prod.fst h).symm, (congrArg (fun x => x.2.1) h).symm⟩
    · rename_i h3; rw [if_neg h3, if_neg h3]; exact ⟨(congrArg Prod.fst h).symm, (congrArg (fun x => x.2.1) h).symm⟩
theorem angD_go {is : Bool} {n : Int} {lat : Bool} (h2 : missE is n (-(farA lat : Int)) (farA lat) = 0) :
    angD is n lat = (if is = false then [] else angV n.natAbs lat, if is = false then [] else [sideA lat (decide (n < 0))], 0) := by
  unfold angD
  rw [if_neg (by rw [h2]; decide)]
  split <;> rfl
theorem ang_nums (a : Nat) : a / 6000000 * 100 + a % 6000000 / 100000 = a / 6000000 * 100 + a % 6000000 / 100000 ∧ a % 6000000 / 100000 < 60 ∧ a % 100000 < 100000 ∧
    ((a / 6000000 * 100 + a % 6000000 / 100000) * 100000 + a % 100000) % 10000000 = a % 6000000 ∧ ((a / 6000000 * 100 + a % 6000000 / 100000) * 100000 + a % 100000) / 10000000 = a / 6000000 := by omega
theorem tkaX_ang (a : Nat) : tkaX ((a / 6000000 * 100 + a % 6000000 / 100000) * 100000 + a % 100000) = a := by
  have h := ang_nums a
  unfold tkaX
  rw [h.2.2.2.1, h.2.2.2.2]
  omega
theorem wide_pos (lat : Bool) : 1 ≤ wideA lat := by cases lat <;> decide
/-- The digits of an angle. -/
theorem ang_dig {a : Nat} {lat : Bool} (h : a / 6000000 < 10 ^ wideA lat) : (digV (a / 6000000) (wideA lat) ++ digV (a % 6000000 / 100000) 2).length = wideA lat + 2 ∧
    valN 0 (digV (a / 6000000) (wideA lat) ++ digV (a % 6000000 / 100000) 2) = a / 6000000 * 100 + a % 6000000 / 100000 := by
  have h60 := (ang_nums a).2.1
  have n1 := nd_le h
  have n2 : nd (a % 6000000 / 100000) ≤ 2 := nd_le (by omega)
  constructor
  · rw [List.length_append, digV_len, digV_len]; omega
  · rw [valN_app, valN_digV, digV_eq (k := 2) (by omega), valN_dgt]
    have : a % 6000000 / 100000 % 10 ^ 2 = a % 6000000 / 100000 := Nat.mod_eq_of_lt (by omega)
    rw [this]
theorem angV_bd {a c : Nat} {lat : Bool} (h : c ∈ angV a lat) : c < 256 := by
  unfold angV at h
  rcases List.mem_append.1 h with h | h
  · rcases List.mem_append.1 h with h | h
    · exact digV_bd h
    · exact digV_bd h
  · exact behV_bd h
theorem fixP_ang {a : Nat} {lat : Bool} (h : a / 6000000 < 10 ^ wideA lat) : fixP (angV a lat) 0 (wideA lat + 2) (wideA lat + 2) 5 = some ((a / 6000000 * 100 + a % 6000000 / 100000) * 100000 + a % 100000) := by
  have hd := ang_dig h
  have := fixP_num [] (digV (a / 6000000) (wideA lat) ++ digV (a % 6000000 / 100000) 2) _ (a % 100000) 5 (wideA lat + 2) (wideA lat + 2) (by
    intro c hc
    rcases List.mem_append.1 hc with hc | hc
    · exact digV_isD c hc
    · exact digV_isD c hc) hd.2 (by omega) (by omega) (by omega)
  exact this
theorem side_bd (lat b : Bool) : sideA lat b < 256 := by cases lat <;> cases b <;> decide
theorem div_far {a : Nat} {lat : Bool} (h : a ≤ farA lat) : a / 6000000 < 10 ^ wideA lat := Nat.lt_of_le_of_lt (Nat.div_le_div_right h) (farA_le lat)
/-- An angle that is put is taken as it was. -/
theorem tang_ang {is : Bool} {n : Int} {lat : Bool} {A B : List Nat} (h : angD is n lat = (A, B, 0)) : tkaD (nb A) (nb B) lat = (is, n, 0) := by
  obtain ⟨h2, hA, hB⟩ := angD_ok h
  unfold tkaD
  rcases missE_is h2 with ⟨rfl, rfl⟩ | ⟨rfl, hlo, hhi⟩
  · rw [if_pos rfl] at hA hB
    subst hA hB
    rfl
  · rw [if_neg (by decide)] at hA hB
    subst hA hB
    have hab : n.natAbs ≤ farA lat := by omega
    rw [if_neg (by rw [nb_size, nb_size]; simp), sb_nb (fun c hc => angV_bd hc), fixP_ang (div_far hab), tkaO_some]
    have hs := side_ne lat
    have hx := tkaX_ang n.natAbs
    have hm := (ang_nums n.natAbs).2.2.2.1
    rw [hx, hm]
    by_cases hn : n < 0
    · rw [decide_eq_true hn, if_neg (by simp), if_neg (by omega), if_pos rfl]
      simp; omega
    · rw [decide_eq_false hn, if_neg (by simp), if_neg (by omega), if_neg hs]
      simp; omega
theorem tka_nums {m : Nat} (h : m % 10000000 < 6000000) : tkaX m / 6000000 = m / 10000000 ∧ tkaX m % 6000000 / 100000 = m % 10000000 / 100000 ∧ tkaX m % 100000 = m % 100000 ∧ m / 100000 = m / 10000000 * 100 + m % 10000000 / 100000 := by
  unfold tkaX
  omega
/-- What is taken as an angle can be put; it is not longer. -/
theorem ang_tang {s side : ByteArray} {is : Bool} {n : Int} {lat : Bool} (h : tkaD s side lat = (is, n, 0)) :
    (angD is n lat).2.2 = 0 ∧ (angD is n lat).1.length ≤ s.size ∧ (angD is n lat).2.1.length ≤ side.size := by
  unfold tkaD at h
  split at h
  · rename_i h0
    obtain ⟨rfl, rfl⟩ : is = false ∧ n = 0 := by
      have e1 := congrArg Prod.fst h
      have e2 := congrArg (fun x => x.2.1) h
      exact ⟨e1.symm, e2.symm⟩
    rw [angD_go (missE_no (Or.inl ⟨rfl, rfl⟩))]
    exact ⟨rfl, by simp, by simp⟩
  · rename_i h0
    cases hf : fixP (sb s) 0 (wideA lat + 2) (wideA lat + 2) 5 with
    | none => rw [hf, tkaO_no] at h; simp at h
    | some m =>
      rw [hf, tkaO_some] at h
      split at h
      · simp at h
      · rename_i hsd
        split at h
        · simp at h
        · rename_i hr
          have e1 : true = is := congrArg Prod.fst h
          have e2 : (if side = nb [sideA lat true] then -(tkaX m : Int) else (tkaX m : Int)) = n := congrArg (fun x => x.2.1) h
          subst e1
          have hm : m % 10000000 < 6000000 := by omega
          have hx : tkaX m ≤ farA lat := by omega
          have ha : n.natAbs = tkaX m := by split at e2 <;> omega
          rw [angD_go (missE_no (Or.inr ⟨rfl, by omega, by omega⟩))]
          have hs1 : side.size = 1 := by
            by_cases h1 : side = nb [sideA lat false]
            · rw [h1, nb_size]; rfl
            · by_cases h2 : side = nb [sideA lat true]
              · rw [h2, nb_size]; rfl
              · exact absurd ⟨h1, h2⟩ hsd
          refine ⟨rfl, ?_, by rw [if_neg (by decide), hs1]; exact Nat.le_refl 1⟩
          have hs := (num_short hf (by omega)).1
          rw [sb_len, List.length_append, digV_len, show (10 : Nat) ^ 5 = 100000 from rfl] at hs
          have hnum := tka_nums hm
          have hdl := (ang_dig (a := tkaX m) (lat := lat) (div_far hx)).1
          rw [if_neg (by decide), ha]
          unfold angV
          rw [List.length_append, hdl, hnum.2.2.1]
          omega
theorem tka_bad {s side : ByteArray} {lat : Bool} (h : (tkaD s side lat).2.2 ≠ 0) : (tkaD s side lat).1 = false ∧ (tkaD s side lat).2.1 = 0 := by
  unfold tkaD at h ⊢
  split at h
  · exact absurd rfl h
  · rename_i h0
    rw [if_neg h0]
    cases hf : fixP (sb s) 0 (wideA lat + 2) (wideA lat + 2) 5 with
    | none => exact ⟨rfl, rfl⟩
    | some m =>
      rw [hf, tkaO_some] at h
      rw [tkaO_some]
      split at h
      · rename_i h1; rw [if_pos h1]; exact ⟨rfl, rfl⟩
      · rename_i h1
        rw [if_neg h1]
        split at h
        · rename_i h2; rw [if_pos h2]; exact ⟨rfl, rfl⟩
        · exact absurd rfl h
theorem len_nb (l : List Nat) : (nb l).size = l.length := nb_size l

theorem putD_len {is : Bool} {n W M F lo hi : Int} {L : List Nat} (h : putD is n W M F lo hi = (L, 0)) : L.length ≤ 20 := by
  obtain ⟨h1, h2, hL⟩ := putD_ok h
  rcases missE_is h2 with ⟨rfl, rfl⟩ | ⟨rfl, hlo, hhi⟩
  · rw [if_pos rfl] at hL
    subst hL
    exact Nat.zero_le _
  · rw [if_neg (by decide)] at hL
    subst hL
    have hr := rightC_is.1 h1
    obtain ⟨a1, a2, a3, a4, a5, a6, a7, a8⟩ := hr
    have hab := abs_lt h1 hlo hhi
    have hp : 0 < 10 ^ F.toNat := Nat.pow_pos (by decide)
    have hX : n.natAbs / 10 ^ F.toNat < 10 ^ M.toNat := by
      rw [Nat.div_lt_iff_lt_mul hp]; exact hab
    have hl := digV_len (n.natAbs / 10 ^ F.toNat) W.toNat
    have hnd := nd_le hX
    have hv := behV_len F.toNat (n.natAbs % 10 ^ F.toNat)
    unfold numV
    rw [List.length_append, List.length_append, sgnV_len]
    split <;> omega
theorem angD_len {is : Bool} {n : Int} {lat : Bool} {A B : List Nat} (h : angD is n lat = (A, B, 0)) : A.length ≤ 20 := by
  obtain ⟨h2, hA, -⟩ := angD_ok h
  rcases missE_is h2 with ⟨rfl, rfl⟩ | ⟨rfl, hlo, hhi⟩
  · rw [if_pos rfl] at hA
    subst hA
    exact Nat.zero_le _
  · rw [if_neg (by decide)] at hA
    subst hA
    have hab : n.natAbs ≤ farA lat := by omega
    have hd := (ang_dig (div_far hab)).1
    have hv := behV_len 5 (n.natAbs % 100000)
    have hw : wideA lat ≤ 3 := by cases lat <;> decide
    unfold angV
    rw [List.length_append, hd]
    omega
/-- What is put, whole: the text, and that it is taken as it was. -/
theorem put_all {is : Bool} {n W M F lo hi : Int} {L : List Nat} {e : Int} (h : putD is n W M F lo hi = (L, e)) (he : e = 0) : takD (nb L) W M F lo hi = (is, n, 0) ∧ (nb L).size ≤ 1000 := by
  subst he
  have := putD_len h
  exact ⟨takD_putD h, by rw [nb_size]; omega⟩
theorem tak_all {s : ByteArray} {is : Bool} {n W M F lo hi e : Int} (h : takD s W M F lo hi = (is, n, e)) (he : e = 0) (hlb : (-9223372036854775808 ≤ lo ∧ lo ≤ 9223372036854775807) ∧ (-9223372036854775808 ≤ hi ∧ hi ≤ 9223372036854775807)) :
    ∃ L, putD is n W M F lo hi = (L, 0) ∧ (-9223372036854775808 ≤ n ∧ n ≤ 9223372036854775807) ∧ (W = 1 → (nb L).size ≤ s.size) := by
  subst he
  obtain ⟨h1, h2⟩ := putD_takD h
  obtain ⟨⟨L, e⟩, hL⟩ : ∃ r, putD is n W M F lo hi = r := ⟨_, rfl⟩
  rw [hL] at h1 h2
  dsimp only at h1 h2
  subst h1
  refine ⟨L, hL, ?_, by rw [nb_size]; exact h2⟩
  rcases missE_is (putD_ok hL).2.1 with ⟨_, h0⟩ | ⟨_, ha, hb⟩ <;> omega
theorem ang_all {is : Bool} {n : Int} {lat : Bool} {A B : List Nat} {e : Int} (h : angD is n lat = (A, B, e)) (he : e = 0) : tkaD (nb A) (nb B) lat = (is, n, 0) ∧ (nb A).size ≤ 1000 := by
  subst he
  have := angD_len h
  exact ⟨tang_ang h, by rw [nb_size]; omega⟩
theorem tka_all {s side : ByteArray} {is : Bool} {n : Int} {lat : Bool} {e : Int} (h : tkaD s side lat = (is, n, e)) (he : e = 0) :
    ∃ A B, angD is n lat = (A, B, 0) ∧ (-9223372036854775808 ≤ n ∧ n ≤ 9223372036854775807) ∧ (nb A).size ≤ s.size ∧ (nb B).size ≤ side.size := by
  subst he
  obtain ⟨h1, h2, h3⟩ := ang_tang h
  obtain ⟨⟨A, B, e⟩, hL⟩ : ∃ r, angD is n lat = r := ⟨_, rfl⟩
  rw [hL] at h1 h2 h3
  dsimp only at h1 h2 h3
  subst h1
  refine ⟨A, B, hL, ?_, by rw [nb_size]; exact h2, by rw [nb_size]; exact h3⟩
  have hf : farA lat ≤ 1080000000 := by cases lat <;> decide
  rcases missE_is (angD_ok hL).1 with ⟨_, h0⟩ | ⟨_, ha, hb⟩ <;> omega
theorem tka_none {s side : ByteArray} {is : Bool} {n : Int} {lat : Bool} {e : Int} (h : tkaD s side lat = (is, n, e)) (he : e ≠ 0) : is = false ∧ n = 0 := by
  have := tka_bad (s := s) (side := side) (lat := lat)
  rw [h] at this
  exact this he

end Go.Proofs.YtobgibmpodggkaaGreatDoor
