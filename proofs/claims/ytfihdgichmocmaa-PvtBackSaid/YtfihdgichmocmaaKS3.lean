/- Several texts in one: ShapeMath, Shape6. -/
import Derived.Test.YtfihdgichmocmaaKS2
import Derived.Test.YtfihdgichmocmaaKO5
import Derived.Laws.EntriesVeiled
import Derived.Deep.DeepCutAuto

/- Package shape: bytes of numbers by a shape, and back. -/
namespace Go.Proofs.Ytfihdgichmocmaa
open Go.ChangeShapes Go.WideShapes Go.ChangeAt Go.RowKit
set_option linter.unusedVariables false
set_option linter.unusedSimpArgs false

/-- Are the first k numbers within? -/
def inV (f2 f3 g : Nat → Int) : Nat → Bool
  | 0 => true
  | k + 1 => inV f2 f3 g k && (decide (f2 k ≤ g k) && decide (g k ≤ f3 k))
theorem inV_no {f2 f3 g : Nat → Int} {k : Nat} (h : ¬ (f2 k ≤ g k ∧ g k ≤ f3 k)) : ∀ m, k < m → inV f2 f3 g m = false
  | 0, hm => by omega
  | m + 1, hm => by
    by_cases c : k = m
    · subst c
      unfold inV
      by_cases a : f2 k ≤ g k
      · have b : ¬ g k ≤ f3 k := fun b => h ⟨a, b⟩
        simp [b]
      · simp [a]
    · unfold inV; rw [inV_no h m (by omega)]; rfl
theorem inV_yes {f2 f3 g : Nat → Int} {k : Nat} (h : inV f2 f3 g k = true) (h1 : f2 k ≤ g k) (h2 : g k ≤ f3 k) : inV f2 f3 g (k + 1) = true := by
  unfold inV; simp [h, h1, h2]
theorem inV_at {f2 f3 g : Nat → Int} {m k : Nat} (h : inV f2 f3 g m = true) (hk : k < m) : f2 k ≤ g k ∧ g k ≤ f3 k := by
  by_cases c : f2 k ≤ g k ∧ g k ≤ f3 k
  · exact c
  · rw [inV_no c m hk] at h; cases h
theorem inV_congr {f2 f3 g g' : Nat → Int} : ∀ m, (∀ k, k < m → g k = g' k) → inV f2 f3 g m = inV f2 f3 g' m
  | 0, _ => rfl
  | m + 1, h => by unfold inV; rw [inV_congr m (fun k hk => h k (by omega)), h m (by omega)]
/-- The bytes of the first k numbers. -/
def putB (f0 g : Nat → Int) : Nat → List Int
  | 0 => []
  | k + 1 => putB f0 g k ++ bytesL (wrapU (g k)) (f0 k).toNat
theorem putB_len {f0 g : Nat → Int} : ∀ k, (∀ i, i < k → 0 ≤ f0 i) → ((putB f0 g k).length : Int) = sumW f0 k
  | 0, _ => rfl
  | k + 1, h => by
    have h1 := putB_len (g := g) k (fun i hi => h i (by omega))
    have h2 := h k (by omega)
    unfold putB sumW
    rw [List.length_append, bytesL_len, Int.natCast_add, h1]
    omega
theorem putB_congr {f0 g g' : Nat → Int} : ∀ m, (∀ k, k < m → g k = g' k) → putB f0 g m = putB f0 g' m
  | 0, _ => rfl
  | m + 1, h => by unfold putB; rw [putB_congr m (fun k hk => h k (by omega)), h m (by omega)]
theorem putB_bd (f0 g : Nat → Int) : ∀ k, ∀ x ∈ putB f0 g k, 0 ≤ x ∧ x ≤ 255
  | 0 => by simp [putB]
  | k + 1 => by
    intro x hx
    unfold putB at hx
    rcases List.mem_append.1 hx with h | h
    · exact putB_bd f0 g k x h
    · exact bytesL_bd _ _ x h
/-- The number of a field's bytes. -/
def numF (sg : Bool) (n : Nat) (bs : List Int) : Int := if sg then sgn n (numB bs n) else IntKind.i64.wrap (numB bs n : Nat)
def pcs (f0 : Nat → Int) (bs : List Int) (k : Nat) : List Int := (bs.drop (sumW f0 k).toNat).take (f0 k).toNat
def numAt (f0 : Nat → Int) (f1 : Nat → Bool) (bs : List Int) (k : Nat) : Int := numF (f1 k) (f0 k).toNat (pcs f0 bs k)
theorem right_fit {n : Int} {sg : Bool} {lo hi x : Int} (h : rightS n sg lo hi = true) (h1 : lo ≤ x) (h2 : x ≤ hi) : if sg = true then fitI n x = true else 0 ≤ x ∧ fitU n x = true ∧ wrapU x = x := by
  obtain ⟨a, b, c, d, e⟩ := right_sz h
  clear h
  obtain rfl | rfl | rfl | rfl | rfl | rfl | rfl | rfl := n18 a b <;> cases sg <;> simp [hiS, loS, fitI, fitU, wrapU] at * <;> omega
theorem num_put {n : Int} {sg : Bool} {lo hi x : Int} (h : rightS n sg lo hi = true) (h1 : lo ≤ x) (h2 : x ≤ hi) : numF sg n.toNat (bytesL (wrapU x) n.toNat) = x := by
  have hf := right_fit h h1 h2
  have hs := right_sz h
  have hb := hiS_bd (n := n) sg hs.1 hs.2.1
  cases sg
  · obtain ⟨x0, hf, hw⟩ : 0 ≤ x ∧ fitU n x = true ∧ wrapU x = x := hf
    have := (read_u x n x0 hf []).1
    rw [List.append_nil, List.take_of_length_le (by rw [bytesL_len]; omega)] at this
    show IntKind.i64.wrap _ = x
    rw [hw, this, IntKind.wrap_i64]
    omega
  · have := (read_i x n hf []).1
    rw [List.append_nil, List.take_of_length_le (by rw [bytesL_len]; omega)] at this
    exact this
theorem numB_dig {bs : List Int} (h : ∀ j, (bs.getD j 0).toNat ≤ 255) : ∀ k i, i < k → numB bs k / 256 ^ i % 256 = (bs.getD i 0).toNat
  | 0, i, hi => by omega
  | k + 1, i, hi => by
    unfold numB
    by_cases c : i < k
    · have e : (bs.getD k 0).toNat * 256 ^ k = 256 ^ i * (256 * ((bs.getD k 0).toNat * 256 ^ (k - i - 1))) := by
        have : 256 ^ k = 256 ^ i * (256 * 256 ^ (k - i - 1)) := by
          rw [← Nat.pow_succ', ← Nat.pow_add]
          congr 1; omega
        rw [this]
        generalize 256 ^ i = p
        generalize 256 ^ (k - i - 1) = q
        generalize (bs.getD k 0).toNat = c
        grind
      rw [e, Nat.add_mul_div_left _ _ (Nat.pow_pos (by decide)), Nat.add_mul_mod_self_left]
      exact numB_dig h k i c
    · obtain rfl : i = k := by omega
      have h1 := numB_lt bs h i
      rw [Nat.add_mul_div_right _ _ (Nat.pow_pos (by decide)), Nat.div_eq_of_lt h1]
      have := h i
      omega
theorem dig_mod (X n i : Nat) (h : i < n) : X % 256 ^ n / 256 ^ i % 256 = X / 256 ^ i % 256 := by
  have e : 256 ^ n = 256 ^ i * 256 ^ (n - i) := by rw [← Nat.pow_add]; congr 1; omega
  rw [e, Nat.mod_mul_right_div_self, Nat.mod_mod_of_dvd]
  exact ⟨256 ^ (n - i - 1), by rw [← Nat.pow_succ']; congr 1; omega⟩
theorem wrap_num (sg : Bool) (n : Nat) (h1 : 1 ≤ n) (h8 : n ≤ 8) (u : Nat) (hu : u < 256 ^ n) : (wrapU (if sg then sgn n u else IntKind.i64.wrap (u : Nat))).toNat % 256 ^ n = u := by
  unfold wrapU sgn
  rw [IntKind.wrap_i64]
  obtain rfl | rfl | rfl | rfl | rfl | rfl | rfl | rfl : n = 1 ∨ n = 2 ∨ n = 3 ∨ n = 4 ∨ n = 5 ∨ n = 6 ∨ n = 7 ∨ n = 8 := by omega
  all_goals (simp only [Nat.reduceMul, Nat.reduceSub, Nat.reducePow, Int.reducePow, Int.reduceMul] at *; cases sg <;> simp only [Bool.false_eq_true, if_true, if_false] <;> (try split) <;> omega)
theorem put_num (sg : Bool) (n : Nat) (h1 : 1 ≤ n) (h8 : n ≤ 8) (bs : List Int) (hl : bs.length = n) (hb : ∀ x ∈ bs, 0 ≤ x ∧ x ≤ 255) : bytesL (wrapU (numF sg n bs)) n = bs := by
  have hg := fun i => getD_bd hb i
  have hg2 : ∀ i, (bs.getD i 0).toNat ≤ 255 := fun i => by have := hg i; omega
  have hw := wrap_num sg n h1 h8 _ (numB_lt bs hg2 n)
  have hbd := wrapU_b (numF sg n bs)
  have hn : (if sg then sgn n (numB bs n) else IntKind.i64.wrap (numB bs n : Nat)) = numF sg n bs := rfl
  rw [hn] at hw
  generalize wrapU (numF sg n bs) = X at *
  obtain ⟨Y, rfl⟩ := Int.eq_ofNat_of_zero_le hbd.1
  refine List.ext_getElem (by rw [bytesL_len, hl]) fun i hi1 hi2 => ?_
  rw [bytesL_len] at hi1
  have e1 := bytesL_get (Y : Int) n i hi1
  rw [List.getD_eq_getElem?_getD, List.getElem?_eq_getElem (by rw [bytesL_len]; exact hi1)] at e1
  simp only [Option.getD_some] at e1
  rw [e1]
  have e2 := numB_dig hg2 n i hi1
  rw [← hw] at e2
  simp only [Int.toNat_natCast] at e2
  rw [dig_mod Y n i hi1] at e2
  have e3 := hg i
  have e4 : bs.getD i 0 = bs[i] := by simp [hi2]
  rw [e4] at e2 e3
  have e5 : (2 : Int) ^ (8 * i) = ((256 ^ i : Nat) : Int) := by rw [Int.pow_mul]; simp
  rw [e5]
  have e6 : ((Y : Int) / ((256 ^ i : Nat) : Int) % 256) = ((Y / 256 ^ i % 256 : Nat) : Int) := by simp
  rw [e6, e2]
  omega
theorem pcs_len {f0 : Nat → Int} {bs : List Int} {k : Nat} (h0 : 0 ≤ sumW f0 k) (h1 : 0 ≤ f0 k) (h : sumW f0 (k + 1) ≤ bs.length) : (pcs f0 bs k).length = (f0 k).toNat := by
  have e : sumW f0 (k + 1) = sumW f0 k + f0 k := rfl
  unfold pcs
  rw [List.length_take, List.length_drop]
  omega
theorem pcs_bd {f0 : Nat → Int} {bs : List Int} {k : Nat} (hb : ∀ x ∈ bs, 0 ≤ x ∧ x ≤ 255) : ∀ x ∈ pcs f0 bs k, 0 ≤ x ∧ x ≤ 255 := fun x hx => hb x (List.mem_of_mem_drop (List.mem_of_mem_take hx))
theorem sumW_le {f0 : Nat → Int} {f1 : Nat → Bool} {f2 f3 : Nat → Int} {m : Nat} (h : allR f0 f1 f2 f3 m = true) : ∀ j k, k + j ≤ m → sumW f0 k ≤ sumW f0 (k + j)
  | 0, k, _ => Int.le_refl _
  | j + 1, k, hj => by
    have h1 := sumW_le h j k (by omega)
    have h2 := right_sz (allR_at h (show k + j < m by omega))
    have e : sumW f0 (k + (j + 1)) = sumW f0 (k + j) + f0 (k + j) := rfl
    omega
theorem put_back {f0 : Nat → Int} {f1 : Nat → Bool} {f2 f3 : Nat → Int} {m : Nat} (h : allR f0 f1 f2 f3 m = true) {bs : List Int} (hb : ∀ x ∈ bs, 0 ≤ x ∧ x ≤ 255) (hl : sumW f0 m ≤ bs.length) : ∀ k, k ≤ m → putB f0 (numAt f0 f1 bs) k = bs.take (sumW f0 k).toNat
  | 0, _ => by simp [putB, sumW]
  | k + 1, hk => by
    have h2 := right_sz (allR_at h (show k < m by omega))
    have h3 := (sumW_bd h k (by omega)).1
    have h4 := sumW_le h (m - (k + 1)) (k + 1) (by omega)
    rw [show k + 1 + (m - (k + 1)) = m by omega] at h4
    unfold putB
    rw [put_back h hb hl k (by omega)]
    have e : sumW f0 (k + 1) = sumW f0 k + f0 k := rfl
    have e1 : (sumW f0 (k + 1)).toNat = (sumW f0 k).toNat + (f0 k).toNat := by omega
    rw [e1, List.take_add]
    congr 1
    exact put_num (f1 k) (f0 k).toNat (by omega) (by omega) _ (pcs_len h3 (by omega) (by omega)) (pcs_bd hb)
theorem pcs_put {f0 g : Nat → Int} : ∀ m, (∀ i, i < m → 0 ≤ f0 i) → ∀ k, k < m → 0 ≤ sumW f0 k → pcs f0 (putB f0 g m) k = bytesL (wrapU (g k)) (f0 k).toNat
  | 0, _, k, hk, _ => by omega
  | m + 1, h, k, hk, h0 => by
    have hl := putB_len (g := g) m (fun i hi => h i (by omega))
    by_cases c : k < m
    · have ih := pcs_put (g := g) m (fun i hi => h i (by omega)) k c h0
      have hk1 := putB_len (g := g) (k + 1) (fun i hi => h i (by omega))
      have hle : ∀ j, k + 1 + j ≤ m → sumW f0 (k + 1) ≤ sumW f0 (k + 1 + j) := by
        intro j
        induction j with
        | zero => intro _; exact Int.le_refl _
        | succ j ih => 
          intro hj
          have := ih (by omega)
          have h2 := h (k + 1 + j) (by omega)
          have e : sumW f0 (k + 1 + (j + 1)) = sumW f0 (k + 1 + j) + f0 (k + 1 + j) := rfl
          omega
      have hm := hle (m - (k + 1)) (by omega)
      rw [show k + 1 + (m - (k + 1)) = m by omega] at hm
      have hk0 := h k (by omega)
      have e : sumW f0 (k + 1) = sumW f0 k + f0 k := rfl
      rw [← ih]
      have e9 : putB f0 g (m + 1) = putB f0 g m ++ bytesL (wrapU (g m)) (f0 m).toNat := rfl
      unfold pcs
      rw [e9, List.drop_append_of_le_length (by omega), List.take_append_of_le_length (by rw [List.length_drop]; omega)]
    · obtain rfl : k = m := by omega
      unfold pcs putB
      rw [List.drop_left' (by omega), List.take_of_length_le (by rw [bytesL_len]; omega)]
theorem num_back {f0 : Nat → Int} {f1 : Nat → Bool} {f2 f3 g : Nat → Int} {m : Nat} (h : allR f0 f1 f2 f3 m = true) (hi : inV f2 f3 g m = true) : ∀ k, k < m → numAt f0 f1 (putB f0 g m) k = g k := fun k hk => by
  have h2 := allR_at h hk
  have h3 := inV_at hi hk
  unfold numAt
  rw [pcs_put m (fun i hi => by have := right_sz (allR_at h hi); omega) k hk (sumW_bd h k (by omega)).1]
  exact num_put h2 h3.1 h3.2

end Go.Proofs.Ytfihdgichmocmaa

/- Package shape: within, wayOf, a desk's ways. -/
namespace Go.Proofs.Ytfihdgichmocmaa
open Go.ChangeShapes Go.WideShapes Go.ChangeAt Go.RowKit
set_option linter.unusedVariables false
set_option linter.unusedSimpArgs false

def withB (lo hi x : Int) : Bool := decide (lo ≤ x) && decide (x ≤ hi)
theorem within_any (n : Int) (sg : Bool) (lo hi x : Int) (w : World) : Calls Try.prog 39 #[.agg #[.int .i64 n, .bool sg, .int .i64 lo, .int .i64 hi], .int .i64 x] w fun e w' => e = .returned (.bool (withB lo hi x)) ∧ After w w' := by
  unfold withB
  by_cases c1 : lo ≤ x
  · by_cases c2 : x ≤ hi
    · go_enter Try.func39, Try.ntmps39
      go_wp2_with fail
      all_goals go_ret
      all_goals exact ⟨ret_bool (by first | (simp [c1, c2]; done) | (simp; omega)), (Below.refl _ _).alloc (Nat.le_refl _) _⟩
    · go_enter Try.func39, Try.ntmps39
      go_wp2_with fail
      all_goals go_ret
      all_goals exact ⟨ret_bool (by first | (simp [c1, c2]; done) | (simp; omega)), (Below.refl _ _).alloc (Nat.le_refl _) _⟩
  · go_enter Try.func39, Try.ntmps39
    go_wp2_with fail
    all_goals go_ret
    all_goals exact ⟨ret_bool (by first | (simp [c1]; done) | (simp; omega)), (Below.refl _ _).alloc (Nat.le_refl _) _⟩
theorem way_true (w : World) : Calls Try.prog 40 #[.bool true] w fun e w' => e = .returned (.agg #[.func (.func 56) #[] #[], .func (.func 57) #[] #[]]) ∧ After w w' := by
  go_enter Try.func40, Try.ntmps40
  go_upto_region 0 with (fail)
  apply wp_region_seg0 (w := w) (S := [.al 1000]) (E := [.al ((fun p => .pointer (some ⟨p, 0, none⟩)), _) 1000]) rfl (by kernel_rfl) rfl rfl
  intro th hge hne
  refine Seg.step _ rfl ⟨by rfl, fun U hU => ?_⟩ ?_
  · go_simp; exact vp_alloc rfl rfl rfl
  refine ⟨_, by (simp only [Ent.val]; go_simp <;> exact rfl), ?_⟩
  refine Seg.stop (fun U1 hU hk => ?_)
  have nb0 := hge 0 _ _ rfl
  have rb0 := (hk 0 _ _ rfl trivial).1.2 (by simp)
  clear hk hge hne
  generalize th (0 + 0) = p0_0 at *
  dsimp only at rb0
  have r_p0_0 := rb0
  clear rb0
  have n_p0_0 := nb0
  clear nb0
  have sz1 := hU.size
  have hB : Below w.heap.size w U1 := hU
  clear hU
  have nP : w.heap.size ≤ p0_0 := n_p0_0
  go_upto_region 2 with (fail)
  have z0 := held_cell r_p0_0 0 _ rfl
  have z1 := held_cell r_p0_0 1 _ rfl
  have g0 := held_free r_p0_0 0
  have g1 := held_free r_p0_0 1
  obtain ⟨W9, hW9, ya, yO⟩ := st2 r_p0_0 (.func (.func 56) #[] #[]) (.func (.func 57) #[] #[])
  replace hB := belowS hB yO nP
  have ez0 := held_cell ya 0 _ rfl
  have ez1 := held_cell ya 1 _ rfl
  clear yO ya
  replace hB := hid hB
  go_wp2_with fail
  refine bodyPost_ret (v := .agg #[.func (.func 56) #[] #[], .func (.func 57) #[] #[]]) (by simp [results, Try.results40, go_sem, ez0, ez1]) rfl ⟨rfl, hB.out⟩
theorem way_false (w : World) : Calls Try.prog 40 #[.bool false] w fun e w' => e = .returned (.agg #[.func (.func 58) #[] #[], .func (.func 59) #[] #[]]) ∧ After w w' := by
  go_enter Try.func40, Try.ntmps40
  go_upto_region 0 with (fail)
  apply wp_region_seg0 (w := w) (S := [.al 1000]) (E := [.al ((fun p => .pointer (some ⟨p, 0, none⟩)), _) 1000]) rfl (by kernel_rfl) rfl rfl
  intro th hge hne
  refine Seg.step _ rfl ⟨by rfl, fun U hU => ?_⟩ ?_
  · go_simp; exact vp_alloc rfl rfl rfl
  refine ⟨_, by (simp only [Ent.val]; go_simp <;> exact rfl), ?_⟩
  refine Seg.stop (fun U1 hU hk => ?_)
  have nb0 := hge 0 _ _ rfl
  have rb0 := (hk 0 _ _ rfl trivial).1.2 (by simp)
  clear hk hge hne
  generalize th (0 + 0) = p0_0 at *
  dsimp only at rb0
  have r_p0_0 := rb0
  clear rb0
  have n_p0_0 := nb0
  clear nb0
  have sz1 := hU.size
  have hB : Below w.heap.size w U1 := hU
  clear hU
  have nP : w.heap.size ≤ p0_0 := n_p0_0
  go_upto_region 3 with (fail)
  have z0 := held_cell r_p0_0 0 _ rfl
  have z1 := held_cell r_p0_0 1 _ rfl
  have g0 := held_free r_p0_0 0
  have g1 := held_free r_p0_0 1
  obtain ⟨W9, hW9, ya, yO⟩ := st2 r_p0_0 (.func (.func 58) #[] #[]) (.func (.func 59) #[] #[])
  replace hB := belowS hB yO nP
  have ez0 := held_cell ya 0 _ rfl
  have ez1 := held_cell ya 1 _ rfl
  clear yO ya
  replace hB := hid hB
  go_wp2_with fail
  refine bodyPost_ret (v := .agg #[.func (.func 58) #[] #[], .func (.func 59) #[] #[]]) (by simp [results, Try.results40, go_sem, ez0, ez1]) rfl ⟨rfl, hB.out⟩

end Go.Proofs.Ytfihdgichmocmaa
