/- The reference of package octet: PutRaw, PutU, PutI. -/
import Derived.Test.YtfcgeogooapmpaaOctet19
namespace Go.Proofs.Ytfcgeogooapmpaa
open Go.ChangeShapes Go.WideShapes Go.ChangeAt Go.RowKit Go.Shelf
set_option linter.unusedVariables false

/-- What the reference tells: bytes, and whether it failed; they lie where they lay, or in a new block. -/
def PutOk (w : World) (a0 : Option Addr) (ok : Bool) (zs : List Int) (e : Ending) (w' : World) : Prop := ∃ a' len' cap', e = .returned (.agg #[.slice a' len' cap', .bool (!ok)]) ∧ Sl .u8 w' a' len' cap' zs ∧ After w w' ∧ ∀ p, a' = some p → a0 = some p ∨ w.heap.size ≤ p.block ∧ p.block < w'.heap.size

theorem rx_after {X : Option Nat} {W U : World} (h : After W U) : RX X W U := ⟨h.size, fun k hk _ => h.block k hk⟩
theorem two_new (V : World) (a b : Obj) : ((V.alloc a).alloc b).heap[V.heap.size]? = some a ∧ ((V.alloc a).alloc b).heap[V.heap.size + 1]? = some b ∧ ((V.alloc a).alloc b).heap.size = V.heap.size + 1 + 1 ∧ After V ((V.alloc a).alloc b) := by
  have h1 := World.alloc_heap_new V a
  have h2 := World.alloc_heap_new (V.alloc a) b
  simp only [World.size_alloc] at h2
  refine ⟨?_, h2, by simp only [World.size_alloc], ((Below.refl _ V).alloc (Nat.le_refl _) a).alloc (by simp) b⟩
  rw [Below.heap_alloc _ _ _ (by simp)]; exact h1
theorem own_where {k : IntKind} {E : TypeId} {w : World} {base : Nat} {a : Option Addr} {n cap : Nat} {zs : List Int} (h : Own k E w base (.slice a n cap) zs) : ∀ p, a = some p → base ≤ p.block ∧ p.block < w.heap.size := fun p e => World.ownsRow.lt h p.block (by rw [e]; rfl)

theorem two_set {U : World} {p : Nat} {v0 v1 u0 u1 : Value} {T : TypeId} (h : U.heap[p]? = some (.cells #[v0, v1] T (0, 0))) :
    ∃ W2, (U.setCell ⟨p, 0, none⟩ u0).setCell ⟨p, 1, none⟩ u1 = W2 ∧ W2.cell? ⟨p, 0, none⟩ = some u0 ∧ W2.cell? ⟨p, 1, none⟩ = some u1 ∧ W2.heap.size = U.heap.size ∧ Below p U W2 ∧ ∀ b, b ≠ p → W2.heap[b]? = U.heap[b]? := by
  have h1 := held_set h 0 u0
  have h2 := held_set h1 1 u1
  exact ⟨_, rfl, held_cell h2 0 _ rfl, held_cell h2 1 _ rfl, by simp [World.setCell], ((Below.refl p U).setCell (p := ⟨p, 0, none⟩) (Nat.le_refl _) u0).setCell (p := ⟨p, 1, none⟩) (Nat.le_refl _) u1, fun b hb => (Below.heap_setCell _ _ _ _ hb).trans (Below.heap_setCell _ _ _ _ hb)⟩

set_option maxHeartbeats 1000000 in
theorem rputraw_any (a0 : Option Addr) (len0 cap0 : Nat) (zs ys : List Int) (bad : Bool) (ad : Option Addr) (len cap : Nat) (w : World) (h0 : Sl .u8 w a0 len0 cap0 zs) (hz : bad = true → zs = []) (hsl : Sl .u8 w ad len cap ys) (hl0 : len0 ≤ 1000000) (hl : len ≤ 1000000) :
    Calls Try.prog 24 #[.agg #[.slice a0 len0 cap0, .bool bad], .slice ad len cap] w (PutOk w a0 (!bad) (gotW (!bad) zs ys)) := by
  obtain ⟨q0, q1, qz, qA⟩ := two_new w (.cells #[.slice a0 len0 cap0, .bool bad] 46) (.cells #[.slice none 0 0, .bool false] 46)
  obtain ⟨W1, hW⟩ : ∃ W1, (w.alloc (.cells #[.slice a0 len0 cap0, .bool bad] 46)).alloc (.cells #[.slice none 0 0, .bool false] 46) = W1 := ⟨_, rfl⟩
  rw [hW] at q0 q1 qz qA
  cases bad
  case true =>
    have hzz := hid (hz rfl)
    have c0 := held_cell q0 0 _ rfl
    have c1 := held_cell q0 1 _ rfl
    have d0 := held_cell q1 0 _ rfl
    have d1 := held_cell q1 1 _ rfl
    have f0 := held_free q1 0
    have f1 := held_free q1 1
    obtain ⟨W2, hW2, x0, x1, xz, xB, xO⟩ := two_set (u0 := .slice a0 len0 cap0) (u1 := .bool true) q1
    have hA2 : After w W2 := Below.trans qA (xB.mono (show w.heap.size ≤ w.heap.size + 1 by omega))
    have h2 := hid (h0.below hA2)
    clear hsl hz q1 q0 h0 xB xO qA
    go_enter Try.func24, Try.ntmps24
    go_wp2_with fail
    refine bodyPost_ret (v := .agg #[.slice a0 len0 cap0, .bool true]) ?_ rfl ?_
    · simp [results, Try.results24, go_sem, x0, x1]
    · refine ⟨a0, len0, cap0, rfl, ?_, hA2, fun p h => .inl h⟩
      have e := hzz.out
      subst e
      exact h2.out
  case false =>
    have hly := hid hsl.1
    have hl0y := hid h0.1
    obtain ⟨W2, hW2⟩ : ∃ W2, W1.alloc (.cells #[] 5) = W2 := ⟨_, rfl⟩
    have q2 := World.alloc_heap_new W1 (.cells #[] 5)
    have a2 : After W1 (W1.alloc (.cells #[] 5)) := (Below.refl _ W1).alloc (Nat.le_refl _) _
    have z2 : W2.heap.size = W1.heap.size + 1 := by rw [← hW2]; simp
    rw [hW2] at q2 a2
    have hA : After w W2 := Below.trans qA (a2.mono (show w.heap.size ≤ W1.heap.size by omega))
    have hO0 := Row.own (show Row .u8 5 W2 W1.heap.size [] from q2) w.heap.size (by omega) (by unfold maxLen; simp)
    rw [qz] at hO0
    replace hO0 := hid hO0
    replace h0 := hid (h0.below hA)
    have hly2 := hsl.1
    replace hsl := hid hsl
    have c0 := held_cell (held_after a2 q0) 0 _ rfl
    have c1 := held_cell q0 1 _ rfl
    replace q1 := hid (held_after a2 q1)
    have hz2 : W2.heap.size = w.heap.size + 1 + 1 + 1 := by omega
    have hk : w.heap.size ≤ W2.heap.size := by omega
    clear q0 qA a2 q2 z2 hz
    replace hA := hid hA
    go_enter Try.func24, Try.ntmps24
    go_wp2_with (at_builtin; refine wpList_appK rfl (.tmp 8) (.tmp 10) 22 rfl w.heap.size 5 .u8 1 bytesOf _ [] rfl hO0.out a0 len0 cap0 zs rfl h0.out (by simp; omega) (by decide) hk ?_)
    intro a3 cap3 W3 hO3 hg3 hn3
    have B3 := hO0.out.grew hg3 hA.out (Nat.le_refl _) hk
    have q3 := held_grown q1.out hg3 (own_ne hO0.out q1.out (by decide))
    have s3 := hsl.out.below B3
    have hk3 : w.heap.size ≤ W3.heap.size := B3.size
    clear hg3 hn3 hO0 h0 hsl hA q1
    rw [← hl0y.out] at hO3 ⊢
    replace hO3 := hid hO3
    replace s3 := hid s3
    go_wp2_with (at_builtin; refine wpList_appK rfl (.tmp 11) (.tmp 12) 22 rfl w.heap.size 5 .u8 1 bytesOf _ zs rfl hO3.out ad len cap ys rfl s3.out (by have := hl0y.out; simp; omega) (by decide) hk3 ?_)
    intro a4 cap4 W4 hO4 hg4 hn4
    have B4 := hO3.out.grew hg4 B3 (Nat.le_refl _) hk3
    have q4 := held_grown q3 hg4 (own_ne hO3.out q3 (by decide))
    have d0 := held_cell q4 0 _ rfl
    have d1 := held_cell q4 1 _ rfl
    have f0 := held_free q4 0
    have f1 := held_free q4 1
    obtain ⟨W5, hW5, x0, x1, xz, xB, xO⟩ := two_set (u0 := .slice a4 (zs.length + len) cap4) (u1 := .bool false) q4
    have hO5 := (hO4.oth q4 (by decide) 0 (.slice a4 (zs.length + len) cap4)).oth (held_set q4 0 _) (by decide) 1 (.bool false)
    rw [hW5] at hO5
    have hA5 : After w W5 := Below.trans B4 (xB.mono (show w.heap.size ≤ w.heap.size + 1 by omega))
    clear hg4 hn4 B4 q4 B3 q3 hO3 s3 hO4 xB xO
    replace hO5 := hid hO5
    replace hA5 := hid hA5
    go_wp2_with fail
    refine bodyPost_ret (v := .agg #[.slice a4 (zs.length + len) cap4, .bool false]) ?_ rfl ?_
    · simp [results, Try.results24, go_sem, x0, x1]
    · refine ⟨a4, _, cap4, rfl, ?_, hA5.out, fun p h => .inr (own_where hO5.out p h)⟩
      have hO6 := hO5.out
      have hl5 : (zs ++ ys).length = zs.length + len := by rw [List.length_append, hly.out]
      rw [← hl5] at hO6 ⊢
      exact hO6.slf

set_option maxHeartbeats 2000000 in
theorem rputu_any (a0 : Option Addr) (len0 cap0 : Nat) (zs : List Int) (bad : Bool) (n u : Int) (hu0 : 0 ≤ u) (hu1 : u ≤ 18446744073709551615) (w : World) (h0 : Sl .u8 w a0 len0 cap0 zs) (hz : bad = true → zs = []) (hl0 : len0 ≤ 1000000) :
    Calls Try.prog 20 #[.agg #[.slice a0 len0 cap0, .bool bad], .int .i64 n, .int .u64 u] w (PutOk w a0 (!bad && fitU n u) (gotW (!bad && fitU n u) zs (bytesL u n.toNat))) := by
  obtain ⟨q0, q1, qz, qA⟩ := two_new w (.cells #[.slice a0 len0 cap0, .bool bad] 46) (.cells #[.slice none 0 0, .bool false] 46)
  obtain ⟨W1, hW⟩ : ∃ W1, (w.alloc (.cells #[.slice a0 len0 cap0, .bool bad] 46)).alloc (.cells #[.slice none 0 0, .bool false] 46) = W1 := ⟨_, rfl⟩
  rw [hW] at q0 q1 qz qA
  have kf := rfitu_any n u hu0 hu1 W1
  have c0 := held_cell q0 0 _ rfl
  have c1 := held_cell q0 1 _ rfl
  have d0 := held_cell q1 0 _ rfl
  have d1 := held_cell q1 1 _ rfl
  have f0 := held_free q1 0
  have f1 := held_free q1 1
  by_cases ck : (!bad && fitU n u) = true
  case neg =>
    have ck := Bool.eq_false_iff.2 ck
    rw [ck]
    obtain ⟨W2, hW2, x0, x1, xz, xB, xO⟩ := two_set (u0 := .slice none 0 0) (u1 := .bool true) q1
    have hA2 : After w W2 := Below.trans qA (xB.mono (show w.heap.size ≤ w.heap.size + 1 by omega))
    clear xB xO qA q0 q1 h0 hz
    cases bad
    case false =>
      rw [Bool.not_false, Bool.true_and] at ck
      rw [ck] at kf
      clear ck
      go_enter Try.func20, Try.ntmps20
      go_wp2_with fail
      refine kf.mono ?_
      rintro e w3 ⟨rfl, rfl⟩
      go_wp2_with fail
      refine bodyPost_ret (v := .agg #[.slice none 0 0, .bool true]) ?_ rfl ⟨none, 0, 0, rfl, sl_nil _ _, hA2, fun p h => by cases h⟩
      simp [results, Try.results20, go_sem, x0, x1]
    case true =>
      clear ck kf
      go_enter Try.func20, Try.ntmps20
      go_wp2_with fail
      refine bodyPost_ret (v := .agg #[.slice none 0 0, .bool true]) ?_ rfl ⟨none, 0, 0, rfl, sl_nil _ _, hA2, fun p h => by cases h⟩
      simp [results, Try.results20, go_sem, x0, x1]
  rw [ck]
  obtain ⟨rfl, cf⟩ : bad = false ∧ fitU n u = true := by simpa using ck
  clear ck
  rw [cf] at kf
  have hn := of_decide_eq_true cf
  clear hz cf
  obtain ⟨m, rfl⟩ : ∃ m : Nat, n = m := ⟨n.toNat, by omega⟩
  obtain ⟨v, rfl⟩ : ∃ v : Nat, u = v := ⟨u.toNat, by omega⟩
  have kB := fun (U : World) => rbytes_any m (by omega) v (by omega) U
  have hm8 : m ≤ 8 := by omega
  rw [Int.toNat_natCast]
  clear hn
  replace h0 := hid h0
  replace qA := hid qA
  replace q1 := hid q1
  replace q0 := hid q0
  go_enter Try.func20, Try.ntmps20
  go_wp2_with fail
  refine kf.mono ?_
  rintro e w3 ⟨rfl, rfl⟩
  go_upto_region 3 with (fail)
  refine wp_region_T none 5 (by kernel_rfl) ?_
  refine wpAnyT_take 0 rfl (by kernel_rfl) (by kernel_rfl) (by kernel_rfl) (by kernel_rfl) (fun _ _ _ _ h => h) ⟨_, Or.inl ⟨by rfl, fun w2 hb2 => by (have hx0 := hb2.cell (show w3.drew.cell? _ = _ from c0) (by simp); have hx1 := hb2.cell (show w3.drew.cell? _ = _ from c1) (by simp); go_simp; try with_reducible rfl)⟩, _, by (go_simp; try rfl), ?_⟩
  refine wpAnyT_takeP 1 rfl (by kernel_rfl) (by kernel_rfl) (by kernel_rfl) (fun _ _ _ _ h => h) ⟨_, Or.inl ⟨by rfl, fun w2 _ => by (go_simp; try with_reducible rfl)⟩, _, by (go_simp; try rfl), ?_⟩
  refine wpAnyT_takeP 2 rfl (by kernel_rfl) (by kernel_rfl) (by kernel_rfl) (fun _ _ _ _ h => h) ⟨_, Or.inl ⟨by rfl, fun w2 _ => by (go_simp; try with_reducible rfl)⟩, _, by (go_simp; try rfl), ?_⟩
  refine wpAnyT_only 3 rfl (by kernel_rfl) (by rfl) (fun K hK => ?_)
  go_simp
  refine (kB _).mono ?_
  rintro e V ⟨a7, cp7, rfl, hO7, hA7⟩
  refine hK _ _ ⟨fun _ => rx_after hA7, ?_⟩
  clear hK
  replace hA7 : After w3 V := Below.trans ((Below.refl _ w3).drew) hA7
  have hA8 : After w V := Below.trans qA.out (hA7.mono (show w.heap.size ≤ w3.heap.size by omega))
  have kP := rputraw_any a0 len0 cap0 zs _ false a7 _ cp7 V (h0.out.below hA8) (fun h => by cases h) hO7.slf hl0 (by rw [bytesL_len]; omega)
  have q3 := held_after hA7 q1.out
  clear hO7
  refine wpAnyT_only 4 rfl (by kernel_rfl) (by rfl) (fun K hK => ?_)
  go_simp
  refine kP.mono ?_
  rintro e V2 ⟨a8, l8, cp8, rfl, hs8, hA9, hw8⟩
  refine hK _ _ ⟨fun _ => rx_after hA9, ?_⟩
  clear hK kP
  have q4 := held_after hA9 q3
  have hA10 : After w V2 := Below.trans hA8 (hA9.mono hA8.size)
  clear d0 d1 f0 f1 c0 c1
  have d0 := held_cell q4 0 _ rfl
  have d1 := held_cell q4 1 _ rfl
  have f0 := held_free q4 0
  have f1 := held_free q4 1
  obtain ⟨W5, hW5, x0, x1, xz, xB, xO⟩ := two_set (u0 := .slice a8 l8 cp8) (u1 := .bool false) q4
  have hA5 : After w W5 := Below.trans hA10 (xB.mono (show w.heap.size ≤ w.heap.size + 1 by omega))
  have hw5 : ∀ p, a8 = some p → a0 = some p ∨ w.heap.size ≤ p.block ∧ p.block < W5.heap.size := fun p h => (hw8 p h).imp id (fun h => ⟨Nat.le_trans hA8.size h.1, by rw [xz]; exact h.2⟩)
  have hs5 := hs8.other q4 no_int2 xO
  clear hs8 xO q4 q3 xB hA10 hA9 hA8 hA7 hw8
  replace hs5 := hid hs5
  replace hA5 := hid hA5
  replace hw5 := hid hw5
  refine wpAnyT_only 5 rfl (by kernel_rfl) (by rfl) (fun K hK => ?_)
  go_simp
  refine hK _ _ ⟨fun h => (h rfl).elim, wpAnyT_done (by kernel_rfl) ?_ _⟩
  clear hK
  go_wp2_with fail
  refine bodyPost_ret (v := .agg #[.slice a8 l8 cp8, .bool false]) ?_ rfl ?_
  · simp [results, Try.results20, go_sem, x0, x1]
  · exact ⟨a8, l8, cp8, rfl, hs5.out, hA5.out, hw5.out⟩

set_option maxHeartbeats 2000000 in
theorem rputi_any (a0 : Option Addr) (len0 cap0 : Nat) (zs : List Int) (bad : Bool) (n i : Int) (hi0 : -9223372036854775808 ≤ i) (hi1 : i ≤ 9223372036854775807) (w : World) (h0 : Sl .u8 w a0 len0 cap0 zs) (hz : bad = true → zs = []) (hl0 : len0 ≤ 1000000) :
    Calls Try.prog 22 #[.agg #[.slice a0 len0 cap0, .bool bad], .int .i64 n, .int .i64 i] w (PutOk w a0 (!bad && fitI n i) (gotW (!bad && fitI n i) zs (bytesL (wrapU i) n.toNat))) := by
  obtain ⟨q0, q1, qz, qA⟩ := two_new w (.cells #[.slice a0 len0 cap0, .bool bad] 46) (.cells #[.slice none 0 0, .bool false] 46)
  obtain ⟨W1, hW⟩ : ∃ W1, (w.alloc (.cells #[.slice a0 len0 cap0, .bool bad] 46)).alloc (.cells #[.slice none 0 0, .bool false] 46) = W1 := ⟨_, rfl⟩
  rw [hW] at q0 q1 qz qA
  have kf := rfiti_any n i hi0 hi1 W1
  have c0 := held_cell q0 0 _ rfl
  have c1 := held_cell q0 1 _ rfl
  have d0 := held_cell q1 0 _ rfl
  have d1 := held_cell q1 1 _ rfl
  have f0 := held_free q1 0
  have f1 := held_free q1 1
  by_cases ck : (!bad && fitI n i) = true
  case neg =>
    have ck := Bool.eq_false_iff.2 ck
    rw [ck]
    obtain ⟨W2, hW2, x0, x1, xz, xB, xO⟩ := two_set (u0 := .slice none 0 0) (u1 := .bool true) q1
    have hA2 : After w W2 := Below.trans qA (xB.mono (show w.heap.size ≤ w.heap.size + 1 by omega))
    clear xB xO qA q0 q1 h0 hz
    cases bad
    case false =>
      rw [Bool.not_false, Bool.true_and] at ck
      rw [ck] at kf
      clear ck
      go_enter Try.func22, Try.ntmps22
      go_wp2_with fail
      refine kf.mono ?_
      rintro e w3 ⟨rfl, rfl⟩
      go_wp2_with fail
      refine bodyPost_ret (v := .agg #[.slice none 0 0, .bool true]) ?_ rfl ⟨none, 0, 0, rfl, sl_nil _ _, hA2, fun p h => by cases h⟩
      simp [results, Try.results22, go_sem, x0, x1]
    case true =>
      clear ck kf
      go_enter Try.func22, Try.ntmps22
      go_wp2_with fail
      refine bodyPost_ret (v := .agg #[.slice none 0 0, .bool true]) ?_ rfl ⟨none, 0, 0, rfl, sl_nil _ _, hA2, fun p h => by cases h⟩
      simp [results, Try.results22, go_sem, x0, x1]
  rw [ck]
  obtain ⟨rfl, cf⟩ : bad = false ∧ fitI n i = true := by simpa using ck
  clear ck
  rw [cf] at kf
  have hn := of_decide_eq_true cf
  clear hz cf
  obtain ⟨m, rfl⟩ : ∃ m : Nat, n = m := ⟨n.toNat, by omega⟩
  have hwb := wrapU_b i
  have hwu := wrapU_is i
  obtain ⟨v, hv⟩ : ∃ v : Nat, wrapU i = v := ⟨(wrapU i).toNat, by omega⟩
  rw [hv] at hwu hwb
  rw [hv]
  have kB := fun (U : World) => rbytes_any m (by omega) v (by omega) U
  have hm8 : m ≤ 8 := by omega
  rw [Int.toNat_natCast]
  clear hn
  replace h0 := hid h0
  replace qA := hid qA
  replace q1 := hid q1
  replace q0 := hid q0
  replace hv := hid hv
  clear hwb
  go_enter Try.func22, Try.ntmps22
  go_wp2_with fail
  refine kf.mono ?_
  rintro e w3 ⟨rfl, rfl⟩
  go_upto_region 3 with (fail)
  refine wp_region_T none 6 (by kernel_rfl) ?_
  refine wpAnyT_take 0 rfl (by kernel_rfl) (by kernel_rfl) (by kernel_rfl) (by kernel_rfl) (fun _ _ _ _ h => h) ⟨_, Or.inl ⟨by rfl, fun w2 hb2 => by (have hx0 := hb2.cell (show w3.drew.cell? _ = _ from c0) (by simp); have hx1 := hb2.cell (show w3.drew.cell? _ = _ from c1) (by simp); go_simp; try with_reducible rfl)⟩, _, by (go_simp; try rfl), ?_⟩
  refine wpAnyT_takeP 1 rfl (by kernel_rfl) (by kernel_rfl) (by kernel_rfl) (fun _ _ _ _ h => h) ⟨_, Or.inl ⟨by rfl, fun w2 _ => by (go_simp; try with_reducible rfl)⟩, _, by (go_simp; try rfl), ?_⟩
  refine wpAnyT_takeP 2 rfl (by kernel_rfl) (by kernel_rfl) (by kernel_rfl) (fun _ _ _ _ h => h) ⟨_, Or.inl ⟨by rfl, fun w2 _ => by (go_simp; try with_reducible rfl)⟩, _, by (go_simp; try rfl), ?_⟩
  refine wpAnyT_takeP 3 rfl (by kernel_rfl) (by kernel_rfl) (by kernel_rfl) (fun _ _ _ _ h => h) ⟨_, Or.inl ⟨by rfl, fun w2 _ => by (go_simp; try with_reducible rfl)⟩, _, by (go_simp; try rfl), ?_⟩
  refine wpAnyT_only 4 rfl (by kernel_rfl) (by rfl) (fun K hK => ?_)
  go_simp
  refine (kB _).mono ?_
  rintro e V ⟨a7, cp7, rfl, hO7, hA7⟩
  refine hK _ _ ⟨fun _ => rx_after hA7, ?_⟩
  clear hK
  replace hA7 : After w3 V := Below.trans ((Below.refl _ w3).drew) hA7
  have hA8 : After w V := Below.trans qA.out (hA7.mono (show w.heap.size ≤ w3.heap.size by omega))
  have kP := rputraw_any a0 len0 cap0 zs _ false a7 _ cp7 V (h0.out.below hA8) (fun h => by cases h) hO7.slf hl0 (by rw [bytesL_len]; omega)
  have q3 := held_after hA7 q1.out
  clear hO7
  refine wpAnyT_only 5 rfl (by kernel_rfl) (by rfl) (fun K hK => ?_)
  go_simp
  refine kP.mono ?_
  rintro e V2 ⟨a8, l8, cp8, rfl, hs8, hA9, hw8⟩
  refine hK _ _ ⟨fun _ => rx_after hA9, ?_⟩
  clear hK kP
  have q4 := held_after hA9 q3
  have hA10 : After w V2 := Below.trans hA8 (hA9.mono hA8.size)
  clear d0 d1 f0 f1 c0 c1
  have d0 := held_cell q4 0 _ rfl
  have d1 := held_cell q4 1 _ rfl
  have f0 := held_free q4 0
  have f1 := held_free q4 1
  obtain ⟨W5, hW5, x0, x1, xz, xB, xO⟩ := two_set (u0 := .slice a8 l8 cp8) (u1 := .bool false) q4
  have hA5 : After w W5 := Below.trans hA10 (xB.mono (show w.heap.size ≤ w.heap.size + 1 by omega))
  have hw5 : ∀ p, a8 = some p → a0 = some p ∨ w.heap.size ≤ p.block ∧ p.block < W5.heap.size := fun p h => (hw8 p h).imp id (fun h => ⟨Nat.le_trans hA8.size h.1, by rw [xz]; exact h.2⟩)
  have hs5 := hs8.other q4 no_int2 xO
  clear hs8 xO q4 q3 xB hA10 hA9 hA8 hA7 hw8
  replace hs5 := hid hs5
  replace hA5 := hid hA5
  replace hw5 := hid hw5
  refine wpAnyT_only 6 rfl (by kernel_rfl) (by rfl) (fun K hK => ?_)
  go_simp
  refine hK _ _ ⟨fun h => (h rfl).elim, wpAnyT_done (by kernel_rfl) ?_ _⟩
  clear hK
  go_wp2_with fail
  refine bodyPost_ret (v := .agg #[.slice a8 l8 cp8, .bool false]) ?_ rfl ?_
  · simp [results, Try.results22, go_sem, x0, x1]
  · exact ⟨a8, l8, cp8, rfl, hs5.out, hA5.out, hw5.out⟩

end Go.Proofs.Ytfcgeogooapmpaa
