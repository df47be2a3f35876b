/- Stage 4: what is not made. -/
import Derived.Test.YtfcgeogooapmpaaLaw04
namespace Go.Proofs.Ytfcgeogooapmpaa
open Go.ChangeShapes Go.WideShapes Go.ChangeAt Go.RowKit Go.Shelf
set_option linter.unusedVariables false

theorem two_new (V : World) (a b : Obj) : ((V.alloc a).alloc b).heap[V.heap.size]? = some a ∧ ((V.alloc a).alloc b).heap[V.heap.size + 1]? = some b ∧ After V ((V.alloc a).alloc b) := by
  have h1 := World.alloc_heap_new V a
  have h2 := World.alloc_heap_new (V.alloc a) b
  rw [World.size_alloc] at h2
  exact ⟨(Below.heap_alloc _ _ _ (by simp)).trans h1, h2, ((Below.refl _ V).alloc (Nat.le_refl _) a).alloc (by simp) b⟩
theorem wrap64_b (n : Int) : -9223372036854775808 ≤ IntKind.i64.wrap n ∧ IntKind.i64.wrap n ≤ 9223372036854775807 := by rw [IntKind.wrap_i64]; omega
set_option maxRecDepth 100000 in
set_option maxHeartbeats 4000000 in
theorem law_OctetNil (a0 : Int) (a1 : Int) (a2 : Option Addr) (len2 cap2 : Nat) (z2 : List Int) (W : World) (w0 : (Lit.int .i64 a0).wf = true) (w1 : (Lit.int .u64 a1).wf = true) (w2 : IsRow .u8 W a2 len2 cap2 z2) :
    Calls Try.prog 6 #[.int .i64 a0, .int .u64 a1, .slice a2 len2 cap2] W fun e w' => e = .returned (.bool true) ∧ Below W.heap.size W w' := by
  have hb := bounds_i64 w0
  have hu := bounds_u64 w1
  have hwb := wrap64_b a1
  obtain ⟨c9, hw9⟩ : ∃ c, IntKind.i64.wrap a1 = c := ⟨_, rfl⟩
  rw [hw9] at hwb
  clear w0 w1 w2
  by_cases hc : (1000 : Int) < len2
  · go_enter Try.func6, Try.ntmps6
    go_wp2_with omega
    refine (knows4_any _).mono ?_
    rintro e V ⟨rfl, hst⟩
    go_wp2_with fail
    go_ret
    exact ⟨rfl, hst⟩
  go_enter Try.func6, Try.ntmps6
  go_wp2_with omega
  go_loopw [7, 8, 9] (fun r w i wr => ∃ (k : Nat) (p q : Option Addr), k ≤ 2 ∧ i = .int .i64 k ∧ r = .pointer p ∧ w = .pointer q ∧ BadAt 59 p wr ∧ BadAt 60 q wr ∧ Below W.heap.size W wr) (fun r w i _ => 2 - (intOf i).toNat)
  case atStart => exact ⟨0, none, none, by omega, rfl, rfl, rfl, .inl rfl, .inl rfl, Below.refl _ _⟩
  case round =>
    obtain ⟨k, p, q, hk, rfl, rfl, rfl, hp, hq, hB⟩ := hrel
    replace hp := hid hp
    replace hq := hid hq
    replace hB := hid hB
    by_cases hlt : (k : Int) < 2
    case neg =>
      go_wp2_with fail
      refine (knows4_any _).mono ?_
      rintro e V ⟨rfl, hst⟩
      replace hB := bthen hB.out hst
      go_wp2_with fail
      go_ret
      exact ⟨rfl, hB⟩
    go_wp2_with fail
    refine (wu_bad q a0 a1 _ (by omega) (by omega) hq.out).mono ?_
    rintro e V1 ⟨rfl, hA⟩
    replace hp := hid (hp.out.later hA)
    replace hq := hid (hq.out.later hA)
    replace hB := hid (bthen hB.out hA)
    clear hA
    go_wp2_with fail
    refine (wi_bad q a0 c9 _ hwb.1 hwb.2 hq.out).mono ?_
    rintro e V2 ⟨rfl, hA⟩
    replace hp := hid (hp.out.later hA)
    replace hq := hid (hq.out.later hA)
    replace hB := hid (bthen hB.out hA)
    clear hA
    go_wp2_with fail
    refine (wraw_bad q _ _ hq.out).mono ?_
    rintro e V3 ⟨rfl, rfl⟩
    go_wp2_with fail
    refine (ru_bad p a0 _ hp.out).mono ?_
    rintro e V4 ⟨rfl, rfl⟩
    go_wp2_with fail
    refine (ri_bad p a0 _ hp.out).mono ?_
    rintro e V5 ⟨rfl, rfl⟩
    go_wp2_with fail
    refine (rraw_bad p a0 _ hp.out).mono ?_
    rintro e V6 ⟨ad, cp, rfl, hO, hA⟩
    replace hp := hid (hp.out.later hA)
    replace hq := hid (hq.out.later hA)
    replace hB := hid (bthen hB.out hA)
    clear hA hO
    go_wp2_with fail
    refine (rleft_bad p _ hp.out).mono ?_
    rintro e V7 ⟨rfl, rfl⟩
    go_wp2_with fail
    refine (rfail_bad p _ hp.out).mono ?_
    rintro e V8 ⟨rfl, rfl⟩
    go_wp2_with fail
    refine (wbytes_bad q _ hq.out).mono ?_
    rintro e V9 ⟨rfl, rfl⟩
    go_wp2_with fail
    refine (wfail_bad q _ hq.out).mono ?_
    rintro e V10 ⟨rfl, rfl⟩
    go_wp2_with fail
    go_roundw
    case rel =>
      obtain ⟨n1, n2, n3⟩ := two_new V10 (.cells #[.bool false, .slice none 0 0, .bool false] 59) (.cells #[.bool false, .slice none 0 0, .bool false] 60)
      have R : ∃ (k_1 : Nat) (p q : Option Addr), k_1 ≤ 2 ∧ Value.int .i64 ((k : Int) + 1) = .int .i64 (k_1 : Int) ∧ Value.pointer (some ⟨V10.heap.size, 0, none⟩) = .pointer p ∧ Value.pointer (some ⟨V10.heap.size + 1, 0, none⟩) = .pointer q ∧ BadAt 59 p ((V10.alloc (.cells #[.bool false, .slice none 0 0, .bool false] 59)).alloc (.cells #[.bool false, .slice none 0 0, .bool false] 60)) ∧ BadAt 60 q ((V10.alloc (.cells #[.bool false, .slice none 0 0, .bool false] 59)).alloc (.cells #[.bool false, .slice none 0 0, .bool false] 60)) ∧ Below W.heap.size W ((V10.alloc (.cells #[.bool false, .slice none 0 0, .bool false] 59)).alloc (.cells #[.bool false, .slice none 0 0, .bool false] 60)) :=
        ⟨k + 1, _, _, by omega, by simp, rfl, rfl, .inr ⟨V10.heap.size, rfl, n1⟩, .inr ⟨V10.heap.size + 1, rfl, n2⟩, bthen hB.out n3⟩
      first | exact R | ((repeat apply Exists.intro); exact ⟨R, rfl⟩)
    case measure => show 2 - ((k : Int) + 1).toNat < 2 - (k : Int).toNat; omega

end Go.Proofs.Ytfcgeogooapmpaa
