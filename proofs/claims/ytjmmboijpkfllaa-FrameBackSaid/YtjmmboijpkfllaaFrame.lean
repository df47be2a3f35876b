/- The functions of package frame: contracts. -/
import Derived.Test.YtjmmboijpkfllaaFletchB
import Derived.Test.YtjmmboijpkfllaaKO4
import Derived.Test.YtjmmboijpkfllaaGrow
import Derived.Test.YtjmmboijpkfllaaKA
import Derived.Deep.DeepCutAuto
namespace Go.Proofs.Ytjmmboijpkfllaa
open Go.ChangeShapes Go.WideShapes Go.ChangeAt Go.RowKit
set_option linter.unusedVariables false

theorem begin_any (w : World) : Calls Try.prog 19 #[] w fun e w' => e = .returned (.agg #[.int .u8 181, .int .u8 98]) ∧ After w w' := by
  go_enter Try.func19, Try.ntmps19
  go_wp2_with fail
  refine bodyPost_ret (v := .agg #[.int .u8 181, .int .u8 98]) (by simp [results, Try.results19, go_sem]) rfl ⟨rfl, (Below.refl _ _).alloc (Nat.le_refl _) _⟩
def isB (n : Int) : Bool := decide (0 ≤ n ∧ n ≤ 255)
theorem isbyte_any (n : Int) (w : World) : Calls Try.prog 15 #[.int .i64 n] w fun e w' => e = .returned (.bool (isB n)) ∧ w' = w := by
  unfold isB
  by_cases h : 0 ≤ n ∧ n ≤ 255
  · rw [decide_eq_true h]
    obtain ⟨h0, h1⟩ := h
    go_enter Try.func15, Try.ntmps15
    go_wp2_with fail
    go_ret
    exact ⟨rfl, rfl⟩
  · rw [decide_eq_false h]
    by_cases h0 : 0 ≤ n
    · have h1 : ¬ n ≤ 255 := fun x => h ⟨h0, x⟩
      go_enter Try.func15, Try.ntmps15
      go_wp2_with fail
      go_ret
      exact ⟨rfl, rfl⟩
    · go_enter Try.func15, Try.ntmps15
      go_wp2_with fail
      go_ret
      exact ⟨rfl, rfl⟩
def sizeS (n : Int) : Int := if 0 ≤ n ∧ n ≤ 1016 then n + 8 else 0
theorem fsize_any (n : Int) (w : World) : Calls Try.prog 11 #[.int .i64 n] w fun e w' => e = .returned (.int .i64 (sizeS n)) ∧ w' = w := by
  unfold sizeS
  by_cases h0 : 0 ≤ n <;> by_cases h1 : n ≤ 1016
  · rw [if_pos ⟨h0, h1⟩]
    have e1 : IntKind.i64.wrap (6 + n) = 6 + n := by simp [IntKind.wrap, IntKind.bits, IntKind.signed]; omega
    have e2 : IntKind.i64.wrap (6 + n + 2) = 6 + n + 2 := by simp [IntKind.wrap, IntKind.bits, IntKind.signed]; omega
    go_enter Try.func11, Try.ntmps11
    go_wp2_with fail
    go_ret
    exact ⟨by rw [show n + 8 = 6 + n + 2 by omega]; rfl, rfl⟩
  all_goals
    rw [if_neg (by omega)]
    go_enter Try.func11, Try.ntmps11
    go_wp2_with fail
    go_ret
    exact ⟨rfl, rfl⟩
theorem fit_of (n : Nat) (u : Int) (h1 : 1 ≤ n) (h8 : n ≤ 8) (h : u < 256 ^ n) : fitU n u = true := by
  unfold fitU; exact decide_eq_true ⟨by omega, by omega, by simpa using h⟩
theorem wu_fit (B base B0 : Nat) (zs : List Int) (n : Nat) (u : Int) (hu0 : 0 ≤ u) (hu1 : u ≤ 18446744073709551615) (h1 : 1 ≤ n) (h8 : n ≤ 8) (hf : u < 256 ^ n) (w : World) (hW : Wr B base w zs) (hl : zs.length ≤ 1000000) (hB1 : B0 ≤ B) (hB2 : B0 ≤ base) (hB3 : base ≤ w.heap.size) :
    Calls Try.prog 17 #[.pointer (some ⟨B, 0, none⟩), .int .i64 n, .int .u64 u] w fun e w' => e = .returned (.tuple #[]) ∧ Wr B base w' (zs ++ bytesL u n) ∧ Below B0 w w' := by
  refine (wu_any B base B0 zs n u hu0 hu1 w hW hl hB1 hB2 hB3).mono fun e w' h => ⟨h.1, ?_, h.2.2.1⟩
  have h2 := h.2.1
  rw [fit_of n u h1 h8 hf] at h2
  simpa [WAft] using h2
/-- The bytes of a frame, behind its mark. -/
def inFr (c i : Int) (zs : List Int) : List Int := [c, i, (zs.length : Int) % 256, (zs.length : Int) / 256] ++ zs
def putFr (c i : Int) (zs : List Int) : List Int × Int := if isB c && isB i then (if 1016 < zs.length then ([], 7) else ([181, 98] ++ sealS (inFr c i zs), 0)) else ([], 1)
def FrOk (w : World) (r : List Int × Int) (e : Ending) (w' : World) : Prop := ∃ a cap, e = .returned (.tuple #[.slice a r.1.length cap, .int .i64 r.2]) ∧ Own .u8 5 w' w.heap.size (.slice a r.1.length cap) r.1 ∧ After w w'
theorem bytesL_1 (u : Int) (h0 : 0 ≤ u) (h1 : u ≤ 255) : bytesL u 1 = [u] := by
  show [byteAt u 0] = [u]
  unfold byteAt
  rw [show (2 : Int) ^ (8 * 0) = 1 from by decide, show u / 1 % 256 = u by omega]
theorem bytesL_2 (u : Int) (h0 : 0 ≤ u) (h1 : u ≤ 65535) : bytesL u 2 = [u % 256, u / 256] := by
  show [byteAt u 0, byteAt u 1] = _
  unfold byteAt
  rw [show (2 : Int) ^ (8 * 0) = 1 from by decide, show (2 : Int) ^ (8 * 1) = 256 from by decide, show u / 1 % 256 = u % 256 by omega, show u / 256 % 256 = u / 256 by omega]
theorem inFr_wf {c i : Int} {zs : List Int} (hc : 0 ≤ c ∧ c ≤ 255) (hi : 0 ≤ i ∧ i ≤ 255) (hz : ∀ n ∈ zs, (Lit.int .u8 n).wf = true) (hl : zs.length ≤ 1016) : ∀ n ∈ inFr c i zs, (Lit.int .u8 n).wf = true := by
  intro n hn
  simp [inFr] at hn
  rcases hn with rfl | rfl | rfl | rfl | hn
  · exact byte_wf hc.1 hc.2
  · exact byte_wf hi.1 hi.2
  · exact byte_wf (by omega) (by omega)
  · exact byte_wf (by omega) (by omega)
  · exact hz n hn
set_option maxRecDepth 100000 in
set_option maxHeartbeats 4000000 in
theorem fput_any (c i : Int) (a : Option Addr) (len cap : Nat) (zs : List Int) (w : World) (hl : len ≤ 1000000) (hsl : Sl .u8 w a len cap zs) (hz : ∀ n ∈ zs, (Lit.int .u8 n).wf = true) :
    Calls Try.prog 8 #[.agg #[.int .i64 c, .int .i64 i, .slice a len cap]] w (FrOk w (putFr c i zs)) := by
  have hlen := hsl.1
  obtain ⟨W1, hW1⟩ : ∃ W1, w.alloc (.cells #[.int .i64 c, .int .i64 i, .slice a len cap] 24) = W1 := ⟨_, rfl⟩
  have hX := World.alloc_heap_new w (.cells #[.int .i64 c, .int .i64 i, .slice a len cap] 24)
  have hA : After w (w.alloc (.cells #[.int .i64 c, .int .i64 i, .slice a len cap] 24)) := (Below.refl _ _).alloc (Nat.le_refl _) _
  rw [hW1] at hX hA
  have d0 := held_cell hX 0 _ rfl
  have d1 := held_cell hX 1 _ rfl
  have d2 := held_cell hX 2 _ rfl
  have pl := held_lt hX
  have k1 := fun W => isbyte_any c W
  have k2 := fun W => isbyte_any i W
  have ez : zs.length = len := hlen
  unfold putFr
  cases hc : isB c with
  | false =>
    rw [hc] at k1
    simp only [Bool.false_and, Bool.false_eq_true, if_false]
    clear hX
    go_enter Try.func8, Try.ntmps8
    go_wp2_with fail
    refine (k1 _).mono ?_
    rintro e V ⟨rfl, rfl⟩
    go_wp2_with fail
    go_ret2
    exact ⟨none, 0, rfl, Own.nil _ _ _ _, hA⟩
  | true => cases hi : isB i with
  | false =>
    rw [hc] at k1
    rw [hi] at k2
    simp only [Bool.and_false, Bool.false_eq_true, if_false]
    clear hX
    go_enter Try.func8, Try.ntmps8
    go_wp2_with fail
    refine (k1 _).mono ?_
    rintro e V ⟨rfl, rfl⟩
    go_wp2_with fail
    refine (k2 _).mono ?_
    rintro e V ⟨rfl, rfl⟩
    go_wp2_with fail
    go_ret2
    exact ⟨none, 0, rfl, Own.nil _ _ _ _, hA⟩
  | true =>
    have bc := of_decide_eq_true hc
    have bi := of_decide_eq_true hi
    rw [hc] at k1
    rw [hi] at k2
    simp only [Bool.and_self, if_true]
    clear hc hi
    by_cases hbig : 1016 < zs.length
    · rw [if_pos hbig]
      have hb2 : (1016 : Int) < len := by omega
      clear hX hbig
      go_enter Try.func8, Try.ntmps8
      go_wp2_with fail
      refine (k1 _).mono ?_
      rintro e V ⟨rfl, rfl⟩
      go_wp2_with fail
      refine (k2 _).mono ?_
      rintro e V ⟨rfl, rfl⟩
      go_wp2_with fail
      go_ret2
      exact ⟨none, 0, rfl, Own.nil _ _ _ _, hA⟩
    rw [if_neg hbig]
    have hb2 : ¬ (1016 : Int) < len := by omega
    replace hlen := hid hlen
    clear hX hbig ez
    go_enter Try.func8, Try.ntmps8
    go_wp2_with fail
    refine (k1 _).mono ?_
    rintro e V ⟨rfl, rfl⟩
    go_wp2_with fail
    refine (k2 _).mono ?_
    rintro e V ⟨rfl, rfl⟩
    clear k1 k2 hW1
    go_wp2_with fail
    refine (make_any _).mono ?_
    rintro e V0 ⟨rfl, hw0, hA0⟩
    generalize hB : V.heap.size = B at *
    have hsz : w.heap.size ≤ B := by rw [← hB]; exact hA.size
    have W0 : Wr B B V0 [] := ⟨none, 0, hw0, Own.nil _ _ _ _⟩
    have szB : B ≤ V0.heap.size := by rw [← hB]; exact hA0.size
    replace d0 := hA0.cellB d0
    replace d1 := hA0.cellB d1
    replace d2 := hA0.cellB d2
    replace hA := bthen hA hA0
    replace hB := hid hB
    replace W0 := hid W0
    clear hw0 hA0
    go_wp2_with fail
    refine (wu_fit B B B [] 1 c (by omega) (by omega) (by decide) (by decide) (by omega) _ W0.out (by simp) (Nat.le_refl _) (Nat.le_refl _) szB).mono ?_
    rintro e V1 ⟨rfl, W1, hA0⟩
    rw [bytesL_1 c bc.1 bc.2, List.nil_append] at W1
    replace W1 := hid W1
    replace d0 := (Below.cell hA0 (show w.heap.size < B from pl)).trans d0
    replace d1 := (Below.cell hA0 (show w.heap.size < B from pl)).trans d1
    replace d2 := (Below.cell hA0 (show w.heap.size < B from pl)).trans d2
    replace szB := Nat.le_trans szB hA0.size
    replace hA := Below.trans hA (Below.mono hA0 hsz)
    clear hA0
    go_wp2_with fail
    refine (wu_fit B B B [c] 1 i (by omega) (by omega) (by decide) (by decide) (by omega) _ W1.out (by simp) (Nat.le_refl _) (Nat.le_refl _) szB).mono ?_
    rintro e V2 ⟨rfl, W2, hA1⟩
    rw [bytesL_1 i bi.1 bi.2] at W2
    replace W2 := hid W2
    replace d0 := (Below.cell hA1 (show w.heap.size < B from pl)).trans d0
    replace d1 := (Below.cell hA1 (show w.heap.size < B from pl)).trans d1
    replace d2 := (Below.cell hA1 (show w.heap.size < B from pl)).trans d2
    replace szB := Nat.le_trans szB hA1.size
    replace hA := Below.trans hA (Below.mono hA1 hsz)
    clear hA1
    go_wp2_with fail
    refine (wu_fit B B B ([c] ++ [i]) 2 (len : Int) (by omega) (by omega) (by decide) (by decide) (by omega) _ W2.out (by simp) (Nat.le_refl _) (Nat.le_refl _) szB).mono ?_
    rintro e V3 ⟨rfl, W3, hA2⟩
    rw [bytesL_2 (len : Int) (by omega) (by omega)] at W3
    replace W3 := hid W3
    replace d0 := (Below.cell hA2 (show w.heap.size < B from pl)).trans d0
    replace d1 := (Below.cell hA2 (show w.heap.size < B from pl)).trans d1
    replace d2 := (Below.cell hA2 (show w.heap.size < B from pl)).trans d2
    replace szB := Nat.le_trans szB hA2.size
    replace hA := Below.trans hA (Below.mono hA2 hsz)
    clear hA2
    go_wp2_with fail
    refine (wraw_good B B B ([c] ++ [i] ++ [(len : Int) % 256, (len : Int) / 256]) zs a len cap _ W3.out (by simp) (hsl.below hA) hl (Nat.le_refl _) (Nat.le_refl _) szB).mono ?_
    rintro e V4 ⟨rfl, W4, hA4, -⟩
    replace hA := Below.trans hA (Below.mono hA4 hsz)
    have eIn : ([c] ++ [i] ++ [(len : Int) % 256, (len : Int) / 256]) ++ zs = inFr c i zs := by unfold inFr; rw [hlen.out]; rfl
    rw [eIn] at W4
    clear hA4 eIn d0 d1 d2 W3 hsl
    have hzl : (inFr c i zs).length ≤ 2000 := by unfold inFr; simp; rw [hlen.out]; omega
    have hzw := hid (inFr_wf bc bi hz (by rw [hlen.out]; omega))
    replace W4 := hid W4
    go_wp2_with fail
    refine (begin_any _).mono ?_
    rintro e V5 ⟨rfl, hA5⟩
    replace hA := bthen hA hA5
    obtain ⟨V6, hV6⟩ : ∃ V6, V5.alloc (.cells #[.int .u8 181, .int .u8 98] 45) = V6 := ⟨_, rfl⟩
    have hA6 : After V5 (V5.alloc (.cells #[.int .u8 181, .int .u8 98] 45)) := (Below.refl _ _).alloc (Nat.le_refl _) _
    have sM := sl_two V5 181 98 45
    rw [hV6] at hA6 sM
    have WB : ∀ U, After V6 U → Wr B B U (inFr c i zs) := fun U h => by
      obtain ⟨a9, cap9, h1, h2⟩ := W4.out
      exact ⟨a9, cap9, held_after (bthen hA5 (bthen hA6 h)) h1, h2.below (bthen hA5 (bthen hA6 h))⟩
    replace hA := bthen hA hA6
    replace WB := hid WB
    replace sM := hid sM
    clear hA5 hA6 W4
    go_wp2_with fail
    refine wp_region_R (by kernel_rfl) ?_
    refine wpAnyR_take 0 rfl (by kernel_rfl) (by kernel_rfl) (by kernel_rfl) (fun _ _ _ _ h => h) ⟨_, Or.inl ⟨by rfl, fun w' hb => by (go_simp; try with_reducible rfl)⟩, _, by (go_simp; try rfl), ?_⟩
    refine wpAnyR_take 1 rfl (by kernel_rfl) (by kernel_rfl) (by kernel_rfl) (fun _ _ _ _ h => h) ⟨_, Or.inl ⟨by rfl, fun w' hb => by (go_simp; try with_reducible rfl)⟩, _, by (go_simp; try rfl), ?_⟩
    refine wpAnyR_only 2 rfl (by kernel_rfl) (by rfl) (fun K hK => ?_)
    go_simp
    refine (wbytes_good B B (inFr c i zs) _ (by omega) (WB.out _ (Below.refl _ _).drew)).mono ?_
    rintro e v1 ⟨a1, k1, rfl, own1, bel1⟩
    replace own1 := hid own1
    go_wp2_with fail
    refine ⟨bel1, ?_⟩
    refine wpAnyR_only 3 rfl (by kernel_rfl) (by rfl) (fun K hK => ?_)
    go_simp
    refine (seal_any a1 (inFr c i zs).length k1 (inFr c i zs) _ (by omega) own1.out.slf hzw).mono ?_
    rintro e v2 ⟨a2, k2, rfl, own2, bel2⟩
    replace own2 := hid own2
    go_wp2_with fail
    refine ⟨bel2, ?_⟩
    refine wpAnyR_only 4 rfl (by kernel_rfl) (by rfl) (fun K hK => ?_)
    go_simp
    have bel3 : After v2 (v2.alloc (.cells #[.slice (some ⟨V5.heap.size, 0, none⟩) 2 2, .slice a2 (sealS (inFr c i zs)).length k2] 22)) := (Below.refl _ _).alloc (Nat.le_refl _) _
    have r3 := World.alloc_heap_new v2 (.cells #[.slice (some ⟨V5.heap.size, 0, none⟩) 2 2, .slice a2 (sealS (inFr c i zs)).length k2] 22)
    refine hK _ _ ?_
    refine ⟨bel3, ?_⟩
    refine wpAnyR_only 5 rfl (by kernel_rfl) (by rfl) (fun K hK => ?_)
    go_simp
    refine (concat_two v2.heap.size _ _ _ _ _ _ [181, 98] (sealS (inFr c i zs)) _ r3 (sM.out.below (bthen (Below.refl _ _).drew (bthen bel1 (bthen bel2 bel3)))) (own2.out.slf.below bel3) (by omega) (by rw [sealS_len]; omega)).mono ?_
    rintro e v4 ⟨a4, k4, rfl, own4, bel4⟩
    replace own4 := hid own4
    go_wp2_with fail
    refine ⟨bel4, ?_⟩
    refine wpAnyR_take 6 rfl (by kernel_rfl) (by kernel_rfl) (by kernel_rfl) (fun _ _ _ _ h => h) ⟨_, Or.inl ⟨by rfl, fun w' hb => by (go_simp; try with_reducible rfl)⟩, _, by (go_simp; try rfl), ?_⟩
    refine wpAnyR_take 7 rfl (by kernel_rfl) (by kernel_rfl) (by kernel_rfl) (fun _ _ _ _ h => h) ⟨_, Or.inl ⟨by rfl, fun w' hb => by (go_simp; try with_reducible rfl)⟩, _, by (go_simp; try rfl), ?_⟩
    refine wpAnyR_done (by kernel_rfl) ?_ _
    go_wp2_with fail
    go_ret2
    have hAll := bthen (bthen (bthen (bthen hA.drew bel1) bel2) bel3) bel4
    exact ⟨a4, k4, rfl, own4.out.base (Nat.le_trans hA.size (Nat.le_trans bel1.size (Nat.le_trans bel2.size bel3.size))), hAll⟩

end Go.Proofs.Ytjmmboijpkfllaa
