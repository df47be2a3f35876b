/- Several texts in one: Octet17, Octet18, Octet19, Octet20, Octet21, Octet22, Octet23, Octet24. -/
import Derived.Test.YtfihdgichmocmaaKO4
import Derived.Test.YtfihdgichmocmaaKA

/- Stage 4: the calls that are given. -/
namespace Go.Proofs.Ytfihdgichmocmaa
open Go.ChangeShapes Go.WideShapes Go.ChangeAt Go.RowKit Go.Shelf
set_option linter.unusedVariables false

structure OpV where
  k : Int
  n : Int
  u : Int
  i : Int
  b : Option Addr
  l : Nat
  c : Nat
  z : List Int

structure OpIs (W : World) (v : Nat → Value) (o : OpV) : Prop where
  v0 : v 0 = .int .i64 o.k
  v1 : v 1 = .int .i64 o.n
  v2 : v 2 = .int .u64 o.u
  v3 : v 3 = .int .i64 o.i
  v4 : v 4 = .slice o.b o.l o.c
  hn : -9223372036854775808 ≤ o.n ∧ o.n ≤ 9223372036854775807
  hu : 0 ≤ o.u ∧ o.u ≤ 18446744073709551615
  hi : -9223372036854775808 ≤ o.i ∧ o.i ≤ 9223372036854775807
  sl : Sl .u8 W o.b o.l o.c o.z
  wf : ∀ x ∈ o.z, (Lit.int .u8 x).wf = true
theorem OpIs.below {W w : World} {v : Nat → Value} {o : OpV} (h : OpIs W v o) (hb : Below W.heap.size W w) : OpIs w v o := { h with sl := h.sl.below hb }

theorem ops_of {W : World} {len : Nat} {V : Nat → Nat → Value} (t : ∀ i, i < len → (∃ n, V i 0 = .int .i64 n ∧ (Lit.int .i64 n).wf = true) ∧ (∃ n, V i 1 = .int .i64 n ∧ (Lit.int .i64 n).wf = true) ∧ (∃ n, V i 2 = .int .u64 n ∧ (Lit.int .u64 n).wf = true) ∧ (∃ n, V i 3 = .int .i64 n ∧ (Lit.int .i64 n).wf = true) ∧ (∃ b l c zs, V i 4 = .slice b l c ∧ IsRow .u8 W b l c zs)) :
    ∃ f : Nat → OpV, ∀ i, i < len → OpIs W (V i) (f i) := by
  suffices h : ∀ i, ∃ o, i < len → OpIs W (V i) o from ⟨fun i => Classical.choose (h i), fun i => Classical.choose_spec (h i)⟩
  intro i
  by_cases hi : i < len
  · obtain ⟨⟨k, h0, _⟩, ⟨n, h1, hn⟩, ⟨u, h2, hu⟩, ⟨j, h3, hj⟩, b, l, c, zs, h4, hr⟩ := t i hi
    have hn' := bounds_i64 hn
    have hu' := bounds_u64 hu
    have hj' := bounds_i64 hj
    exact ⟨⟨k, n, u, j, b, l, c, zs.take l⟩, fun _ => ⟨h0, h1, h2, h3, h4, by dsimp only; omega, by dsimp only; omega, by dsimp only; omega, hr.sl.1, hr.sl.2⟩⟩
  · exact ⟨⟨0, 0, 0, 0, none, 0, 0, []⟩, fun h => absurd h hi⟩

def fewS (f : Nat → OpV) (len : Nat) : Bool := decide (len ≤ 60 ∧ ∀ i, i < len → (f i).l ≤ 100)
end Go.Proofs.Ytfihdgichmocmaa

/- Stage 4: what is written is read: the bytes of the calls. -/
namespace Go.Proofs.Ytfihdgichmocmaa
open Go.ChangeShapes Go.WideShapes Go.ChangeAt Go.RowKit Go.Shelf
set_option linter.unusedVariables false

/-- The bytes that a call writes, and whether it may. -/
def pc (o : OpV) : List Int := if o.k = 0 then bytesL o.u o.n.toNat else if o.k = 1 then bytesL (wrapU o.i) o.n.toNat else o.z
def okp (o : OpV) : Bool := if o.k = 0 then fitU o.n o.u else if o.k = 1 then fitI o.n o.i else true
def catP (f : Nat → OpV) : Nat → List Int
  | 0 => []
  | k + 1 => catP f k ++ pc (f k)
def okAll (f : Nat → OpV) : Nat → Bool
  | 0 => true
  | k + 1 => okAll f k && okp (f k)
def sufP (f : Nat → OpV) (k : Nat) : Nat → List Int
  | 0 => []
  | m + 1 => pc (f k) ++ sufP f (k + 1) m
/-- All that a writer has behind k calls. -/
def wst (f : Nat → OpV) (k : Nat) : List Int := if okAll f k then catP f k else []
theorem cat_suf (f : Nat → OpV) : ∀ m k, catP f k ++ sufP f k m = catP f (k + m)
  | 0, k => by simp [sufP]
  | m + 1, k => by
    have h := cat_suf f m (k + 1)
    unfold sufP
    rw [← List.append_assoc]
    show catP f (k + 1) ++ sufP f (k + 1) m = _
    rw [h]; congr 1; omega
theorem bytesL_len (u : Int) (n : Nat) : (bytesL u n).length = n := by simp [bytesL, lowL]
theorem bytesL_get (u : Int) (n i : Nat) (h : i < n) : (bytesL u n).getD i 0 = u / 2 ^ (8 * i) % 256 := by
  simp [bytesL, lowL, byteOf, byteAt, List.getD, h]
theorem bytesL_bd (u : Int) (n : Nat) : ∀ x ∈ bytesL u n, 0 ≤ x ∧ x ≤ 255 := by
  intro x hx
  obtain ⟨y, _, rfl⟩ := List.mem_map.1 hx
  exact y.2
theorem ok_len {o : OpV} (h : okp o = true) (hl : o.l ≤ 100) (hz : o.z.length = o.l) : (pc o).length ≤ 100 := by
  unfold okp at h
  unfold pc
  split
  · rename_i c
    rw [if_pos c] at h
    have := (of_decide_eq_true h).2.1
    rw [bytesL_len]; omega
  · rename_i c
    rw [if_neg c] at h
    split
    · rename_i c1
      rw [if_pos c1] at h
      have := (of_decide_eq_true h).2.1
      rw [bytesL_len]; omega
    · omega
theorem pc_wf {o : OpV} (hz : ∀ x ∈ o.z, (Lit.int .u8 x).wf = true) : ∀ x ∈ pc o, (Lit.int .u8 x).wf = true := by
  unfold pc
  split
  · exact bytes_wf (bytesL_bd _ _)
  · split
    · exact bytes_wf (bytesL_bd _ _)
    · exact hz
theorem cat_len (f : Nat → OpV) : ∀ k, okAll f k = true → (∀ i, i < k → (f i).l ≤ 100 ∧ (f i).z.length = (f i).l) → (catP f k).length ≤ 100 * k
  | 0, _, _ => by simp [catP]
  | k + 1, h, hl => by
    unfold okAll at h
    rw [Bool.and_eq_true] at h
    have h1 := cat_len f k h.1 (fun i hi => hl i (by omega))
    have h2 := ok_len h.2 (hl k (by omega)).1 (hl k (by omega)).2
    unfold catP
    rw [List.length_append]; omega
theorem suf_wf (f : Nat → OpV) : ∀ m k, (∀ i, i < k + m → ∀ x ∈ (f i).z, (Lit.int .u8 x).wf = true) → ∀ x ∈ sufP f k m, (Lit.int .u8 x).wf = true
  | 0, _, _ => by intro x hx; cases hx
  | m + 1, k, h => by
    intro x hx
    unfold sufP at hx
    rcases List.mem_append.1 hx with h1 | h1
    · exact pc_wf (h k (by omega)) x h1
    · exact suf_wf f m (k + 1) (fun i hi => h i (by omega)) x h1
theorem wst_len (f : Nat → OpV) (k : Nat) (hk : k ≤ 60) (hl : ∀ i, i < k → (f i).l ≤ 100 ∧ (f i).z.length = (f i).l) : (wst f k).length ≤ 6000 := by
  unfold wst
  split
  · rename_i c
    have := cat_len f k c hl
    omega
  · simp
theorem wst_next (f : Nat → OpV) (k : Nat) : gotW (okAll f k && okp (f k)) (wst f k) (pc (f k)) = wst f (k + 1) ∧ (okAll f k && okp (f k)) = okAll f (k + 1) := by
  refine ⟨?_, rfl⟩
  unfold gotW wst
  show _ = if (okAll f k && okp (f k)) = true then catP f k ++ pc (f k) else []
  cases h : okAll f k <;> cases h2 : okp (f k) <;> simp
/-- The first k bytes of a number. -/
theorem numB_low (u : Nat) (n : Nat) : ∀ k, k ≤ n → numB (bytesL (u : Int) n) k = u % 256 ^ k
  | 0, _ => by simp [numB, Nat.mod_one]
  | k + 1, h => by
    unfold numB
    rw [numB_low u n k (by omega), bytesL_get _ _ _ (by omega)]
    have e : ((u : Int) / 2 ^ (8 * k) % 256).toNat = u / 256 ^ k % 256 := by
      have e1 : (2 : Int) ^ (8 * k) = ((256 ^ k : Nat) : Int) := by
        rw [Int.pow_mul]; simp
      rw [e1]
      have : ((u : Int) / ((256 ^ k : Nat) : Int) % 256) = ((u / 256 ^ k % 256 : Nat) : Int) := by simp
      rw [this]; rfl
    rw [e, Nat.mod_pow_succ, Nat.mul_comm (256 ^ k)]
theorem read_u (u n : Int) (h0 : 0 ≤ u) (hf : fitU n u = true) (R : List Int) : ((numB ((bytesL u n.toNat ++ R).take n.toNat) n.toNat : Nat) : Int) = u ∧ (bytesL u n.toNat ++ R).drop n.toNat = R := by
  obtain ⟨v, rfl⟩ : ∃ v : Nat, u = v := ⟨u.toNat, by omega⟩
  obtain ⟨_, _, h3⟩ := of_decide_eq_true hf
  have e : (bytesL (v : Int) n.toNat ++ R).take n.toNat = bytesL v n.toNat := List.take_left' (bytesL_len _ _)
  rw [e, numB_low v _ _ (Nat.le_refl _)]
  refine ⟨?_, List.drop_left' (bytesL_len _ _)⟩
  have h4 : v < 256 ^ n.toNat := by
    have e2 : (256 : Int) ^ n.toNat = ((256 ^ n.toNat : Nat) : Int) := by simp
    omega
  rw [Nat.mod_eq_of_lt h4]
theorem sgn_wrap (n : Nat) (h1 : 1 ≤ n) (h8 : n ≤ 8) (i : Int) (ha : -(128 * 256 ^ (n - 1)) ≤ i) (hb : i < 128 * 256 ^ (n - 1)) : sgn n ((wrapU i).toNat % 256 ^ n) = i := by
  unfold sgn wrapU
  obtain rfl | rfl | rfl | rfl | rfl | rfl | rfl | rfl : n = 1 ∨ n = 2 ∨ n = 3 ∨ n = 4 ∨ n = 5 ∨ n = 6 ∨ n = 7 ∨ n = 8 := by omega
  all_goals (simp only [Nat.reduceMul, Nat.reduceSub, Nat.reducePow, Int.reducePow, Int.reduceMul, Int.reduceNeg] at *; split <;> omega)
theorem read_i (i n : Int) (hf : fitI n i = true) (R : List Int) : sgn n.toNat (numB ((bytesL (wrapU i) n.toNat ++ R).take n.toNat) n.toNat) = i ∧ (bytesL (wrapU i) n.toNat ++ R).drop n.toNat = R := by
  obtain ⟨h1, h2, h3, h4⟩ := of_decide_eq_true hf
  have hw := wrapU_b i
  have e : (bytesL (wrapU i) n.toNat ++ R).take n.toNat = bytesL (wrapU i) n.toNat := List.take_left' (bytesL_len _ _)
  have ev : wrapU i = (((wrapU i).toNat : Nat) : Int) := by omega
  refine ⟨?_, List.drop_left' (bytesL_len _ _)⟩
  rw [e]
  have e2 := numB_low (wrapU i).toNat n.toNat n.toNat (Nat.le_refl _)
  rw [← ev] at e2
  rw [e2]
  exact sgn_wrap n.toNat (by omega) (by omega) i h3 h4

end Go.Proofs.Ytfihdgichmocmaa

/- The reference of package octet: half, FitsU, FitsI, Bytes. -/
namespace Go.Proofs.Ytfihdgichmocmaa
open Go.ChangeShapes Go.WideShapes Go.ChangeAt Go.RowKit Go.Shelf
set_option linter.unusedVariables false

def hf (k : Nat) : Int := 128 * 256 ^ (k - 1)
theorem hf_up (k : Nat) (h : 1 ≤ k) : hf k * 256 = hf (k + 1) := by
  obtain ⟨j, rfl⟩ : ∃ j, k = j + 1 := ⟨k - 1, by omega⟩
  unfold hf
  simp only [Nat.add_sub_cancel]
  rw [Int.pow_succ, Int.mul_assoc]
theorem hf_le (k : Nat) (h : k ≤ 8) : 0 ≤ hf k ∧ hf k ≤ 9223372036854775808 := by
  obtain rfl | rfl | rfl | rfl | rfl | rfl | rfl | rfl | rfl : k = 0 ∨ k = 1 ∨ k = 2 ∨ k = 3 ∨ k = 4 ∨ k = 5 ∨ k = 6 ∨ k = 7 ∨ k = 8 := by omega
  all_goals decide +kernel
theorem hf_two (k : Nat) (h : 1 ≤ k) : 2 * hf k = 256 ^ k := by
  obtain ⟨j, rfl⟩ : ∃ j, k = j + 1 := ⟨k - 1, by omega⟩
  unfold hf
  rw [Int.pow_succ]
  simp only [Nat.add_sub_cancel]
  omega
theorem hf_7 (k : Nat) (h : k ≤ 7) : hf k ≤ 36028797018963968 := by
  obtain rfl | rfl | rfl | rfl | rfl | rfl | rfl | rfl : k = 0 ∨ k = 1 ∨ k = 2 ∨ k = 3 ∨ k = 4 ∨ k = 5 ∨ k = 6 ∨ k = 7 := by omega
  all_goals decide +kernel
set_option maxHeartbeats 1000000 in
theorem half_any (n : Nat) (h1 : 1 ≤ n) (h8 : n ≤ 8) (w : World) : Calls Try.prog 71 #[.int .i64 (n : Int)] w fun e w' => e = .returned (.int .u64 (hf n)) ∧ w' = w := by
  go_enter Try.func71, Try.ntmps71
  go_wp2_with fail
  go_loopw [3, 4] (fun h i wr => ∃ k : Nat, 1 ≤ k ∧ k ≤ n ∧ h = .int .u64 (hf k) ∧ i = .int .i64 k ∧ wr = w) (fun _ i _ => n - (intOf i).toNat)
  case atStart => exact ⟨1, by omega, h1, rfl, rfl, rfl⟩
  case round =>
    obtain ⟨k, hk1, hk, rfl, rfl, rfl⟩ := hrel
    by_cases hlt : (k : Int) < n
    case neg =>
      obtain rfl : k = n := by omega
      go_wp2_with fail
      go_ret
      exact ⟨rfl, rfl⟩
    have hu := hid (hf_up k hk1)
    have hb := hf_le (k + 1) (by omega)
    rw [← hu.out] at hb
    generalize hf k = p at *
    have hw : IntKind.u64.wrap (p * 256) = p * 256 := by simp [IntKind.wrap, IntKind.bits, IntKind.signed]; omega
    go_wp2_with omega
    go_roundw
    case rel => exact ⟨k + 1, by omega, by omega, by rw [hu.out], by simp, trivial⟩
    case measure => simp only [intOf]; omega

theorem bytesL_up (u : Int) (k : Nat) : bytesL u (k + 1) = bytesL u k ++ [u / 2 ^ (8 * k) % 256] := by
  unfold bytesL
  rw [lowL_next, List.map_append]; rfl
set_option maxHeartbeats 1000000 in
theorem rbytes_any (n : Nat) (hn : n ≤ 8) (u : Nat) (hu1 : u ≤ 18446744073709551615) (w : World) : Calls Try.prog 43 #[.int .i64 (n : Int), .int .u64 (u : Int)] w (BytesOk w (bytesL u n)) := by
  go_enter Try.func43, Try.ntmps43
  go_wp2_with fail
  go_loopw [1, 5, 6] (fun x v i wr => ∃ (m k : Nat) (a : Option Addr) (cap : Nat), k ≤ n ∧ i = .int .i64 k ∧ x = .int .u64 m ∧ m ≤ 18446744073709551615 ∧ Hid (m = u / 256 ^ k) ∧ v = .slice a (bytesL u k).length cap ∧ Own .u8 5 wr w.heap.size (.slice a (bytesL u k).length cap) (bytesL u k) ∧ Below w.heap.size w wr) (fun _ _ i _ => n - (intOf i).toNat)
  case atStart => exact ⟨u, 0, none, 0, by omega, rfl, rfl, hu1, hid (by simp), rfl, Own.nil _ _ _ _, Below.refl _ _⟩
  case round =>
    obtain ⟨m, k, a, cap, hk, rfl, rfl, hm, hmu, rfl, hO, hB⟩ := hrel
    by_cases hlt : (k : Int) < n
    case neg =>
      obtain rfl : k = n := by omega
      replace hO := hid hO
      go_wp2_with fail
      go_ret
      exact ⟨a, cap, rfl, hO.out, hB⟩
    have hup := hid (show bytesL u (k + 1) = bytesL u k ++ [(m : Int) % 256] by
      rw [bytesL_up, hmu.out]
      congr 2
      have e1 : (2 : Int) ^ (8 * k) = ((256 ^ k : Nat) : Int) := by
        rw [Int.pow_mul]; simp
      rw [e1]; simp)
    have hmu2 := hid (show m / 256 = u / 256 ^ (k + 1) by rw [hmu.out, Nat.div_div_eq_div_mul, Nat.pow_succ])
    have hlen := bytesL_len (u : Int) k
    have hsz := hB.size
    generalize bytesL (u : Int) k = ys at *
    clear hmu
    go_wp2_with (first
      | (at_builtin; refine wpList_app1 wr w rfl (.tmp 12) (.tmp 16) 24 rfl w.heap.size w.heap.size 5 .u8 1 bytesOf (.slice a ys.length cap) ys rfl hO ((m : Int) % 256) rfl (by omega) (by decide) hB (Nat.le_refl _) hsz ?_))
    intro a1 cap1 W1 own1 bel1
    clear hO hB hsz
    replace own1 := hid own1
    replace bel1 := hid bel1
    go_wp2_with fail
    go_roundw
    case rel => exact ⟨m / 256, k + 1, a1, cap1, by omega, by simp, by go_num, by omega, hmu2, by rw [hup.out, List.length_append, hlen]; rfl, by rw [hup.out, List.length_append, hlen]; exact own1.out, bel1.out⟩
    case measure => simp only [intOf]; omega

end Go.Proofs.Ytfihdgichmocmaa

/- The reference of package octet: PutRaw, PutU, PutI. -/
namespace Go.Proofs.Ytfihdgichmocmaa
open Go.ChangeShapes Go.WideShapes Go.ChangeAt Go.RowKit Go.Shelf
set_option linter.unusedVariables false

/-- What the reference tells: bytes, and whether it failed; they lie where they lay, or in a new block. -/
def PutOk (w : World) (a0 : Option Addr) (ok : Bool) (zs : List Int) (e : Ending) (w' : World) : Prop := ∃ a' len' cap', e = .returned (.agg #[.slice a' len' cap', .bool (!ok)]) ∧ Sl .u8 w' a' len' cap' zs ∧ After w w' ∧ ∀ p, a' = some p → a0 = some p ∨ w.heap.size ≤ p.block ∧ p.block < w'.heap.size

theorem rx_after {X : Option Nat} {W U : World} (h : After W U) : RX X W U := ⟨h.size, fun k hk _ => h.block k hk⟩
theorem two_new (V : World) (a b : Obj) : ((V.alloc a).alloc b).heap[V.heap.size]? = some a ∧ ((V.alloc a).alloc b).heap[V.heap.size + 1]? = some b ∧ ((V.alloc a).alloc b).heap.size = V.heap.size + 1 + 1 ∧ After V ((V.alloc a).alloc b) := by
  have h1 := World.alloc_heap_new V a
  have h2 := World.alloc_heap_new (V.alloc a) b
  simp only [World.size_alloc] at h2
  refine ⟨?_, h2, by simp only [World.size_alloc], ((Below.refl _ V).alloc (Nat.le_refl _) a).alloc (by simp) b⟩
  rw [Below.heap_alloc _ _ _ (by simp)]; exact h1
theorem own_where {k : IntKind} {E : TypeId} {w : World} {base : Nat} {a : Option Addr} {n cap : Nat} {zs : List Int} (h : Own k E w base (.slice a n cap) zs) : ∀ p, a = some p → base ≤ p.block ∧ p.block < w.heap.size := fun p e => World.ownsRow.lt h p.block (by rw [e]; rfl)

theorem two_set {U : World} {p : Nat} {v0 v1 u0 u1 : Value} {T : TypeId} (h : U.heap[p]? = some (.cells #[v0, v1] T (0, 0))) :
    ∃ W2, (U.setCell ⟨p, 0, none⟩ u0).setCell ⟨p, 1, none⟩ u1 = W2 ∧ W2.cell? ⟨p, 0, none⟩ = some u0 ∧ W2.cell? ⟨p, 1, none⟩ = some u1 ∧ W2.heap.size = U.heap.size ∧ Below p U W2 ∧ ∀ b, b ≠ p → W2.heap[b]? = U.heap[b]? := by
  have h1 := held_set h 0 u0
  have h2 := held_set h1 1 u1
  exact ⟨_, rfl, held_cell h2 0 _ rfl, held_cell h2 1 _ rfl, by simp [World.setCell], ((Below.refl p U).setCell (p := ⟨p, 0, none⟩) (Nat.le_refl _) u0).setCell (p := ⟨p, 1, none⟩) (Nat.le_refl _) u1, fun b hb => (Below.heap_setCell _ _ _ _ hb).trans (Below.heap_setCell _ _ _ _ hb)⟩

end Go.Proofs.Ytfihdgichmocmaa

/- Stage 4: the reference's writer beside the program's: who owns which block. -/
namespace Go.Proofs.Ytfihdgichmocmaa
open Go.ChangeShapes Go.WideShapes Go.ChangeAt Go.RowKit Go.Shelf
set_option linter.unusedVariables false

/-- What the reference has in block Q, beside an object in block B that owns a slice. -/
def QSt (T : TypeId) (B Q : Nat) (w : World) (zs : List Int) (bad : Bool) : Prop := ∃ a l c, w.heap[Q]? = some (.cells #[.slice a l c, .bool bad] T (0, 0)) ∧ Sl .u8 w a l c zs ∧ Q ≠ B ∧ some Q ≠ wown B 1 w ∧ (bad = true → zs = []) ∧ (bad = false → ∀ p, a = some p → p.block ≠ B ∧ some p.block ≠ wown B 1 w ∧ p.block < w.heap.size)
theorem Sl.kept {k : IntKind} {w w' : World} {a : Option Addr} {len cap : Nat} {zs : List Int} (h : Sl k w a len cap zs) (hw : ∀ p, a = some p → p.block < w.heap.size → w'.heap[p.block]? = w.heap[p.block]?) : Sl k w' a len cap zs := by
  obtain ⟨h1, h2, h3, h4, h5⟩ := h
  refine ⟨h1, h2, h3, h4, fun i hi => ?_⟩
  obtain ⟨b, off, e, hc⟩ := h5 i hi
  have hl := World.block_lt_of_cell? w _ hc
  exact ⟨b, off, e, (World.cell?_of_block (w := w) (a := ⟨b, off + i, none⟩) (hw ⟨b, off, none⟩ e hl)).trans hc⟩
theorem sl_no {k : IntKind} {w w' : World} {a : Option Addr} {len cap : Nat} (h : Sl k w a len cap []) : Sl k w' a len cap [] := ⟨h.1, h.2.1, h.2.2.1, h.2.2.2.1, fun i hi => by simp at hi⟩
theorem QSt.kp {T : TypeId} {B Q : Nat} {w w' : World} {zs : List Int} {bad : Bool} (h : QSt T B Q w zs bad) (hK : Owp B 1 w w') : QSt T B Q w' zs bad := by
  obtain ⟨a, l, c, h1, h2, h3, h4, h5, h6⟩ := h
  have hq := held_lt h1
  have hn : ∀ k, k < w.heap.size → some k ≠ wown B 1 w → some k ≠ wown B 1 w' := fun k hk hne e => by
    rcases hK.own k e.symm with h | h
    · exact hne h.symm
    · omega
  refine ⟨a, l, c, (hK.block Q hq h3 h4).trans h1, ?_, h3, hn Q hq h4, h5, fun hb p hp => ?_⟩
  · cases bad
    · exact h2.kept fun p hp hl => hK.block p.block hl (h6 rfl p hp).1 (h6 rfl p hp).2.1
    · have e := h5 rfl
      subst e
      exact sl_no h2
  · obtain ⟨g1, g2, g3⟩ := h6 hb p hp
    exact ⟨g1, hn _ g3 g2, Nat.lt_of_lt_of_le g3 hK.size⟩
theorem WSt.own_lt {B base : Nat} {w : World} {zs : List Int} {bad : Bool} (h : WSt B base w zs bad) : ∀ g, wown B 1 w = some g → g < w.heap.size := by
  obtain ⟨_, _, h⟩ := h
  intro g hg
  cases bad
  · obtain ⟨a, cap, hH, hO⟩ := h
    rw [wown_at hH rfl] at hg
    exact (World.ownsRow.lt hO g hg).2
  · rw [wown_at h.1 rfl] at hg
    cases hg
/-- Where only block Q changes, a writer stays. -/
theorem WSt.other {B base Q : Nat} {w w' : World} {zs : List Int} {bad : Bool} (h : WSt B base w zs bad) (hne : Q ≠ B) (ho : some Q ≠ wown B 1 w) (hg : w.grownBy w' (some Q)) : WSt B base w' zs bad := by
  obtain ⟨h1, h2, h⟩ := h
  have hb : w'.heap[B]? = w.heap[B]? := hg.block B h1 (fun e => hne (Option.some.inj e).symm)
  refine ⟨Nat.lt_of_lt_of_le h1 hg.size, Nat.le_trans h2 hg.size, ?_⟩
  cases bad
  · obtain ⟨a, cap, hH, hO⟩ := h
    rw [wown_at hH rfl] at ho
    exact ⟨a, cap, hb.trans hH, World.ownsRow.kept hO hg (.inr fun e => ho e.symm)⟩
  · exact ⟨hb.trans h.1, h.2⟩
theorem grown_two {U : World} {Q : Nat} (u0 u1 : Value) : U.grownBy ((U.setCell ⟨Q, 0, none⟩ u0).setCell ⟨Q, 1, none⟩ u1) (some Q) :=
  ⟨rfl, rfl, rfl, by simp [World.setCell], fun k _ hne => (Below.heap_setCell _ _ _ _ (fun e => hne (by rw [e]))).trans (Below.heap_setCell _ _ _ _ (fun e => hne (by rw [e])))⟩
/-- The reference's next state, laid into its block. -/
theorem QSt.next {T : TypeId} {B base Q : Nat} {w U : World} {zs zs' ws : List Int} {bad bad' wb : Bool} {a a' : Option Addr} {l c l' c' : Nat} (hW : WSt B base w ws wb) (h : QSt T B Q w zs bad) (hH : w.heap[Q]? = some (.cells #[.slice a l c, .bool bad] T (0, 0))) (hA : After w U)
    (hs : Sl .u8 U a' l' c' zs') (hw : ∀ p, a' = some p → a = some p ∨ w.heap.size ≤ p.block ∧ p.block < U.heap.size) (hb : bad' = false → bad = false) (hz : bad' = true → zs' = []) :
    QSt T B Q ((U.setCell ⟨Q, 0, none⟩ (.slice a' l' c')).setCell ⟨Q, 1, none⟩ (.bool bad')) zs' bad' ∧ WSt B base ((U.setCell ⟨Q, 0, none⟩ (.slice a' l' c')).setCell ⟨Q, 1, none⟩ (.bool bad')) ws wb := by
  obtain ⟨a2, l2, c2, h1, h2, h3, h4, h5, h6⟩ := h
  rw [hH] at h1
  simp at h1
  obtain ⟨rfl, rfl, rfl⟩ := h1
  have hBw := hW.1
  have hol := hW.own_lt
  have hU := held_after hA hH
  have hWU := hW.later hA
  have eU : wown B 1 U = wown B 1 w := wown_same (hA.block B hBw)
  have hg := grown_two (U := U) (Q := Q) (.slice a' l' c') (.bool bad')
  have e5 : wown B 1 ((U.setCell ⟨Q, 0, none⟩ (.slice a' l' c')).setCell ⟨Q, 1, none⟩ (.bool bad')) = wown B 1 w := by
    rw [wown_same (hg.block B hWU.1 (fun e => h3 (Option.some.inj e).symm)), eU]
  refine ⟨⟨a', l', c', held_set (held_set hU 0 _) 1 _, ?_, h3, by rw [e5]; exact h4, hz, fun hb' p hp => ?_⟩, hWU.other h3 (by rw [eU]; exact h4) hg⟩
  · exact hs.other hU no_int2 (fun b hne => (Below.heap_setCell _ _ _ _ hne).trans (Below.heap_setCell _ _ _ _ hne))
  · rw [e5]
    have hsz : ((U.setCell ⟨Q, 0, none⟩ (.slice a' l' c')).setCell ⟨Q, 1, none⟩ (.bool bad')).heap.size = U.heap.size := by simp [World.setCell]
    rw [hsz]
    rcases hw p hp with e | ⟨g1, g2⟩
    · obtain ⟨k1, k2, k3⟩ := h6 (hb hb') p e
      exact ⟨k1, k2, Nat.lt_of_lt_of_le k3 hA.size⟩
    · exact ⟨by omega, fun e => by have := hol _ e.symm; omega, g2⟩
/-- The reference's block, made. -/
theorem QSt.made {T : TypeId} {B base : Nat} {w : World} {ws : List Int} {wb : Bool} (hW : WSt B base w ws wb) : QSt T B w.heap.size (w.alloc (.cells #[.slice none 0 0, .bool false] T)) [] false := by
  have hA : After w (w.alloc (.cells #[.slice none 0 0, .bool false] T)) := (Below.refl _ w).alloc (Nat.le_refl _) _
  have hol := hW.own_lt
  refine ⟨none, 0, 0, World.alloc_heap_new w _, sl_nil _ _, by have := hW.1; omega, fun e => ?_, fun h => by (cases h), fun _ p hp => by (cases hp)⟩
  rw [wown_same (hA.block B hW.1)] at e
  have := hol _ e.symm
  omega

end Go.Proofs.Ytfihdgichmocmaa

/- The reference of package octet: Number, Signed, Raw, U, I. -/
namespace Go.Proofs.Ytfihdgichmocmaa
open Go.ChangeShapes Go.WideShapes Go.ChangeAt Go.RowKit Go.Shelf
set_option linter.unusedVariables false

def numR : List Int → Nat
  | [] => 0
  | c :: r => c.toNat + 256 * numR r
theorem dropc (l : List Int) (k : Nat) (h : k < l.length) : l.drop k = l.getD k 0 :: l.drop (k + 1) := by
  rw [List.drop_eq_getElem_cons h]; simp [h]
theorem numR_next (zs : List Int) (k : Nat) (h : k < zs.length) : numR (zs.drop k) = (zs.getD k 0).toNat + 256 * numR (zs.drop (k + 1)) := by
  rw [dropc zs k h]; rfl
theorem numB_numR (zs : List Int) : ∀ k, k ≤ zs.length → numB zs k + 256 ^ k * numR (zs.drop k) = numR zs
  | 0, _ => by simp [numB]
  | k + 1, h => by
    have h1 := numB_numR zs k (by omega)
    rw [numR_next zs k (by omega)] at h1
    rw [← h1]
    have e : numB zs (k + 1) = numB zs k + (zs.getD k 0).toNat * 256 ^ k := rfl
    rw [e, Nat.pow_succ]
    generalize 256 ^ k = p
    generalize numR (zs.drop (k + 1)) = R
    generalize (zs.getD k 0).toNat = c
    grind
theorem numR_all (zs : List Int) : numR zs = numB zs zs.length := by
  have h := numB_numR zs zs.length (Nat.le_refl _)
  rw [List.drop_length] at h
  simpa [numR] using h.symm
theorem numR_lt : ∀ zs : List Int, (∀ x ∈ zs, 0 ≤ x ∧ x ≤ 255) → numR zs < 256 ^ zs.length
  | [], _ => by simp [numR]
  | c :: r, h => by
    have h1 := numR_lt r (fun x hx => h x (List.mem_cons_of_mem _ hx))
    have h2 := h c (List.mem_cons_self ..)
    unfold numR
    rw [List.length_cons, Nat.pow_succ]
    omega

set_option maxHeartbeats 1000000 in
theorem rnumber_any (a : Option Addr) (len cap : Nat) (zs : List Int) (w : World) (hsl : Sl .u8 w a len cap zs) (hz : ∀ x ∈ zs, 0 ≤ x ∧ x ≤ 255) (h8 : len ≤ 8) :
    Calls Try.prog 63 #[.slice a len cap] w fun e w' => e = .returned (.int .u64 ((numR zs : Nat) : Int)) ∧ w' = w := by
  obtain ⟨hl, hlc, hcm, hnone, hrd⟩ := hsl
  have hcap : (cap : Int) ≤ 9223372036854775807 := by unfold maxLen at hcm; omega
  have hwl : IntKind.i64.wrap ((len : Int) - 1) = (len : Int) - 1 := by rw [IntKind.wrap_i64]; omega
  replace hrd := hid hrd
  replace hz := hid hz
  go_enter Try.func63, Try.ntmps63
  go_wp2_with omega
  go_loopw [3, 4] (fun u i wr => ∃ (k : Nat) (x : Int), k ≤ len ∧ i = .int .i64 x ∧ x = (k : Int) - 1 ∧ u = .int .u64 ((numR (zs.drop k) : Nat) : Int) ∧ wr = w) (fun _ i _ => (intOf i + 1).toNat)
  case atStart => exact ⟨len, (len : Int) - 1, Nat.le_refl _, rfl, rfl, by rw [← hl, List.drop_length]; rfl, rfl⟩
  case round =>
    obtain ⟨k, x, hk, rfl, hx, rfl, rfl⟩ := hrel
    cases k with
    | zero =>
      have hx2 : x < 0 := by omega
      clear hx
      go_wp2_with omega
      go_ret
      exact ⟨by rw [List.drop_zero]; rfl, rfl⟩
    | succ j =>
      obtain rfl : x = (j : Int) := by omega
      clear hx
      obtain ⟨bb, off, rfl, hc⟩ := hrd.out j (by omega)
      have hN := hid (numR_next zs j (by omega))
      have hlt := numR_lt (zs.drop j) (fun y hy => hz.out y (List.mem_of_mem_drop hy))
      have hcb := getD_bd hz.out j
      have hp : 256 ^ (zs.drop j).length ≤ 18446744073709551616 := by
        rw [show (18446744073709551616 : Nat) = 256 ^ 8 by decide]
        exact Nat.pow_le_pow_right (by decide) (by rw [List.length_drop]; omega)
      rw [hN.out] at hlt
      generalize 256 ^ (zs.drop j).length = pw at *
      generalize numR (zs.drop (j + 1)) = m at *
      generalize zs.getD j 0 = c at *
      obtain ⟨d, rfl⟩ : ∃ d : Nat, c = d := ⟨c.toNat, by omega⟩
      rw [Int.toNat_natCast] at hN hlt
      have hN2 := hid (show ((numR (zs.drop j) : Nat) : Int) = (m : Int) * 256 + d by rw [hN.out]; omega)
      have hw1 : IntKind.u64.wrap ((m : Int) * 256) = (m : Int) * 256 := by rw [wrapU_is]; unfold wrapU; omega
      have hw2 : IntKind.u64.wrap (d : Int) = (d : Int) := by rw [wrapU_is]; unfold wrapU; omega
      have hw3 : IntKind.u64.wrap ((m : Int) * 256 + d) = (m : Int) * 256 + d := by rw [wrapU_is]; unfold wrapU; omega
      have hw4 : IntKind.i64.wrap ((j : Int) - 1) = (j : Int) - 1 := by rw [IntKind.wrap_i64]; omega
      have hj2 : (j : Int) < len := by omega
      go_wp2_with omega
      go_roundw
      case rel => exact ⟨j, _, by omega, rfl, rfl, by rw [hN2.out], trivial⟩
      case measure => simp only [intOf]; omega

theorem sgn_half (n : Nat) (h1 : 1 ≤ n) (u : Nat) : sgn n u = if (u : Int) < hf n then (u : Int) else (u : Int) - 2 * hf n := by
  have e1 : (256 : Int) ^ n = 2 * hf n := (hf_two n h1).symm
  have e2 : hf n = ((128 * 256 ^ (n - 1) : Nat) : Int) := by unfold hf; simp
  unfold sgn
  rw [e1]
  by_cases c : u < 128 * 256 ^ (n - 1)
  · rw [if_pos c, if_pos (by rw [e2]; omega)]
  · rw [if_neg c, if_neg (by rw [e2]; omega)]
set_option maxHeartbeats 1000000 in
theorem rsigned_any (n : Nat) (h1 : 1 ≤ n) (h8 : n ≤ 8) (u : Nat) (hu : u < 256 ^ n) (w : World) : Calls Try.prog 64 #[.int .i64 (n : Int), .int .u64 (u : Int)] w fun e w' => e = .returned (.int .i64 (sgn n u)) ∧ w' = w := by
  have kh := half_any n h1 h8 w
  have hb := hf_le n h8
  have h2 := hf_two n h1
  have hs := hid (sgn_half n h1 u)
  have hp : 0 < hf n := by have : (0 : Int) < 256 ^ n := Int.pow_pos (by decide); omega
  have hu2 : (u : Int) < 2 * hf n := by rw [h2, show (256 : Int) ^ n = ((256 ^ n : Nat) : Int) by simp]; omega
  clear h2 hu
  generalize hf n = p at *
  by_cases c : (u : Int) < p
  · have e := hid (show sgn n u = u by rw [hs.out, if_pos c])
    have hw1 : IntKind.i64.wrap (u : Int) = u := by rw [IntKind.wrap_i64]; omega
    go_enter Try.func64, Try.ntmps64
    go_wp2_with fail
    refine kh.mono ?_
    rintro e w2 ⟨rfl, rfl⟩
    go_wp2_with fail
    go_ret
    exact ⟨by rw [e.out]; rfl, rfl⟩
  · have e := hid (show sgn n u = u - p - (p - 1) - 1 by rw [hs.out, if_neg c]; omega)
    have hw1 : IntKind.u64.wrap ((u : Int) - p) = (u : Int) - p := by rw [wrapU_is]; unfold wrapU; omega
    have hw2 : IntKind.i64.wrap ((u : Int) - p) = (u : Int) - p := by rw [IntKind.wrap_i64]; omega
    have hw3 : IntKind.u64.wrap (p - 1) = p - 1 := by rw [wrapU_is]; unfold wrapU; omega
    have hw4 : IntKind.i64.wrap (p - 1) = p - 1 := by rw [IntKind.wrap_i64]; omega
    have hw5 : IntKind.i64.wrap ((u : Int) - p - (p - 1)) = (u : Int) - p - (p - 1) := by rw [IntKind.wrap_i64]; omega
    have hw6 : IntKind.i64.wrap ((u : Int) - p - (p - 1) - 1) = (u : Int) - p - (p - 1) - 1 := by rw [IntKind.wrap_i64]; omega
    have c2 : p ≤ (u : Int) := by omega
    go_enter Try.func64, Try.ntmps64
    go_wp2_with fail
    refine kh.mono ?_
    rintro e w2 ⟨rfl, rfl⟩
    go_wp2_with fail
    go_ret
    exact ⟨by rw [e.out]; rfl, rfl⟩

end Go.Proofs.Ytfihdgichmocmaa

/- The reference of package octet: Raw, U, I. -/
namespace Go.Proofs.Ytfihdgichmocmaa
open Go.ChangeShapes Go.WideShapes Go.ChangeAt Go.RowKit Go.Shelf
set_option linter.unusedVariables false

def valU (zs : List Int) (bad : Bool) (n : Int) : Nat := if okU zs bad n then numB (zs.take n.toNat) n.toNat else 0
def valI (zs : List Int) (bad : Bool) (n : Int) : Int := if okU zs bad n then sgn n.toNat (numB (zs.take n.toNat) n.toNat) else 0
def bytesR (ok : Bool) (zs : List Int) (n : Int) : List Int := if ok then zs.take n.toNat else []
/-- What the reference's reader tells: what is left, and whether it failed. -/
def RestIs (a0 : Option Addr) (len0 cap0 : Nat) (zs : List Int) (n : Int) (ok : Bool) (a' : Option Addr) (l' c' : Nat) : Prop := ∀ U, Sl .u8 U a0 len0 cap0 zs → Sl .u8 U a' l' c' (gotR ok zs n)
def RawOk (w : World) (a0 : Option Addr) (len0 cap0 : Nat) (zs : List Int) (n : Int) (ok : Bool) (e : Ending) (w' : World) : Prop := ∃ a' l' c' a2 l2 c2, e = .returned (.tuple #[.agg #[.slice a' l' c', .bool (!ok)], .slice a2 l2 c2]) ∧ RestIs a0 len0 cap0 zs n ok a' l' c' ∧ Sl .u8 w' a2 l2 c2 (bytesR ok zs n) ∧ After w w'
def NumOk (w : World) (a0 : Option Addr) (len0 cap0 : Nat) (zs : List Int) (n : Int) (ok : Bool) (v : Value) (e : Ending) (w' : World) : Prop := ∃ a' l' c', e = .returned (.tuple #[.agg #[.slice a' l' c', .bool (!ok)], v]) ∧ RestIs a0 len0 cap0 zs n ok a' l' c' ∧ After w w'
theorem restis_no (a0 : Option Addr) (len0 cap0 : Nat) (zs : List Int) (n : Int) : RestIs a0 len0 cap0 zs n false none 0 0 := fun U _ => sl_nil _ _
theorem Kp.of_grown {N : Nat} {X : List Nat} {w w' : World} {row : Option Nat} (h : w.grownBy w' row) (hN : N ≤ w.heap.size) (hr : ∀ k, row = some k → N ≤ k) : Kp N X w w' :=
  ⟨h.os, h.tape, h.output, h.size, fun k hk _ => h.block k (by omega) (fun e => by have := hr k e.symm; omega)⟩

end Go.Proofs.Ytfihdgichmocmaa

/- Stage 4: the reference's reader beside the program's. -/
namespace Go.Proofs.Ytfihdgichmocmaa
open Go.ChangeShapes Go.WideShapes Go.ChangeAt Go.RowKit Go.Shelf
set_option linter.unusedVariables false

/-- Does a call get what it asks for? -/
def okO (zs : List Int) (bad : Bool) (o : OpV) : Bool := if o.k = 0 then okU zs bad o.n else if o.k = 1 then okU zs bad o.n else okR zs bad o.n
/-- What is left behind k calls, and whether one failed. -/
def rs (zs : List Int) (f : Nat → OpV) : Nat → List Int × Bool
  | 0 => (zs, false)
  | k + 1 => (gotR (okO (rs zs f k).1 (rs zs f k).2 (f k)) (rs zs f k).1 (f k).n, !okO (rs zs f k).1 (rs zs f k).2 (f k))
theorem rs_sub (zs : List Int) (f : Nat → OpV) : ∀ k, (rs zs f k).1.length ≤ zs.length ∧ ∀ x ∈ (rs zs f k).1, x ∈ zs
  | 0 => ⟨Nat.le_refl _, fun _ h => h⟩
  | k + 1 => by
    obtain ⟨h1, h2⟩ := rs_sub zs f k
    unfold rs gotR
    dsimp only
    split
    · exact ⟨by rw [List.length_drop]; omega, fun x hx => h2 x (List.mem_of_mem_drop hx)⟩
    · exact ⟨by simp, fun x hx => by cases hx⟩
theorem rs_bad (zs : List Int) (f : Nat → OpV) (k : Nat) (h : (rs zs f k).2 = true) : (rs zs f k).1 = [] := by
  cases k with
  | zero => cases h
  | succ k =>
    unfold rs at h ⊢
    dsimp only at h ⊢
    unfold gotR
    rw [if_neg (by simpa using h)]
theorem RSt.other {B Q : Nat} {w w' : World} {zs : List Int} {bad : Bool} {c : Array Value} {T : TypeId} (h : RSt B w zs bad) (hQ : w.heap[Q]? = some (.cells c T (0, 0))) (hv : ∀ (i : Nat) (x : Int), c[i]? ≠ some (.int .u8 x)) (hne : Q ≠ B) (hw : ∀ b, b ≠ Q → w'.heap[b]? = w.heap[b]?) : RSt B w' zs bad := by
  cases bad
  · obtain ⟨a, cap, h1, h2⟩ := h
    exact ⟨a, cap, (hw B (Ne.symm hne)).trans h1, h2.other hQ hv hw⟩
  · exact ⟨(hw B (Ne.symm hne)).trans h.1, h.2⟩
theorem ru_v (B B0 : Nat) (zs : List Int) (bad : Bool) (n : Int) (w : World) (hR : RSt B w zs bad) (hz : ∀ x ∈ zs, (Lit.int .u8 x).wf = true) (hl : zs.length ≤ 1000000) (h1 : B0 ≤ B) :
    Calls Try.prog 69 #[.pointer (some ⟨B, 0, none⟩), .int .i64 n] w fun e w' => e = .returned (.int .u64 ((valU zs bad n : Nat) : Int)) ∧ RSt B w' (gotR (okU zs bad n) zs n) (!okU zs bad n) ∧ Br B B0 w w' := ru_st B B0 zs bad n w hR hz hl h1
theorem ri_v (B B0 : Nat) (zs : List Int) (bad : Bool) (n : Int) (w : World) (hR : RSt B w zs bad) (hz : ∀ x ∈ zs, (Lit.int .u8 x).wf = true) (hl : zs.length ≤ 1000000) (h1 : B0 ≤ B) :
    Calls Try.prog 67 #[.pointer (some ⟨B, 0, none⟩), .int .i64 n] w fun e w' => e = .returned (.int .i64 (valI zs bad n)) ∧ RSt B w' (gotR (okU zs bad n) zs n) (!okU zs bad n) ∧ Br B B0 w w' := ri_st B B0 zs bad n w hR hz hl h1
/-- What the reference has in block Q; its bytes lie in what is given. -/
def QRd (T : TypeId) (W0 : World) (B Q : Nat) (w : World) (zs : List Int) (bad : Bool) : Prop := ∃ a l c, w.heap[Q]? = some (.cells #[.slice a l c, .bool bad] T (0, 0)) ∧ Sl .u8 W0 a l c zs ∧ Q ≠ B

end Go.Proofs.Ytfihdgichmocmaa
