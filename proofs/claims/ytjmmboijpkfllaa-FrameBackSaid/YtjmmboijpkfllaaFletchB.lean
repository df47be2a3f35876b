/- What each function of package fletch, and of the document's answers for layer 6, comes to: contracts, by walking their text. -/
import Derived.Test.YtjmmboijpkfllaaFletchMath
import Derived.Test.YtjmmboijpkfllaaKA
namespace Go.Proofs.Ytjmmboijpkfllaa
open Go.ChangeShapes Go.WideShapes Go.ChangeAt Go.RowKit
set_option linter.unusedVariables false


def pairV (p : Int × Int) : Value := .agg #[.int .u8 p.1, .int .u8 p.2]

set_option maxHeartbeats 1000000 in
theorem smore_any (x y : Int) (a : Option Addr) (len cap : Nat) (zs : List Int) (w : World) (hx : 0 ≤ x ∧ x ≤ 255) (hy : 0 ≤ y ∧ y ≤ 255) (hl : len ≤ 1000000) (hsl : Sl .u8 w a len cap zs) (hz : ∀ n ∈ zs, (Lit.int .u8 n).wf = true) :
    Calls Try.prog 35 #[.agg #[.int .u8 x, .int .u8 y], .slice a len cap] w fun e w' => e = .returned (pairV (flS x y zs)) ∧ After w w' := by
  obtain ⟨rfl, -, -, -, hr⟩ := hsl
  go_enter Try.func35, Try.ntmps35
  go_wp2_with fail
  go_loopw [9] (fun i wr => ∃ (k : Nat) (p q : Int), k ≤ zs.length ∧ i = .int .i64 k ∧ (0 ≤ p ∧ p ≤ 255) ∧ (0 ≤ q ∧ q ≤ 255) ∧ wr = (w.alloc (.cells #[.int .u8 p, .int .u8 q] 69)).alloc (.cells #[.int .u8 0, .int .u8 0] 69) ∧ flS p q (zs.drop k) = flS x y zs) (fun i _ => zs.length - (intOf i).toNat)
  case atStart => exact ⟨0, x, y, Nat.zero_le _, rfl, hx, hy, rfl, rfl⟩
  case round =>
    obtain ⟨k, p, q, hk, rfl, hp, hq, rfl, hs⟩ := hrel
    have HS := hid hs
    clear hs
    by_cases hlt : k < zs.length
    · obtain ⟨b, off, rfl, hc⟩ := hr k hlt
      have HD := hid (drop_step zs k hlt)
      have hb := bounds_u8 (hz _ (List.getElem_mem hlt))
      have he : zs.getD k 0 = zs[k] := by simp [hlt]
      rw [← he] at hb
      generalize zs.getD k 0 = c at *
      have hblk : b < w.heap.size := World.block_lt_of_cell? w _ hc
      clear he hr hz
      go_wp2_with fail
      go_roundw
      case rel => exact ⟨k + 1, (p + c) % 256, (q + (p + c)) % 256, by omega, by go_num, by omega, by omega, rfl, by rw [← HS.out, HD.out]; rfl⟩
      case measure => simp [intOf]; omega
    · have HV : Go.RowKit.Hid (flS x y zs = (p, q)) := hid (by rw [← HS.out, show k = zs.length from by omega, List.drop_length]; rfl)
      go_wp2_with fail
      refine bodyPost_ret (v := .agg #[.int .u8 p, .int .u8 q]) (by simp [results, Try.results35, go_sem]) rfl ⟨by unfold pairV; rw [HV.out], ?_⟩
      exact ((Below.refl _ _).alloc (Nat.le_refl _) _).alloc (by simp) _

set_option maxHeartbeats 1000000 in
theorem more_any (x y : Int) (a : Option Addr) (len cap : Nat) (zs : List Int) (w : World) (hx : 0 ≤ x ∧ x ≤ 255) (hy : 0 ≤ y ∧ y ≤ 255) (hl : len ≤ 1000000) (hsl : Sl .u8 w a len cap zs) (hz : ∀ n ∈ zs, (Lit.int .u8 n).wf = true) :
    Calls Try.prog 37 #[.int .u8 x, .int .u8 y, .slice a len cap] w fun e w' => e = .returned (.tuple #[.int .u8 (flS x y zs).1, .int .u8 (flS x y zs).2]) ∧ After w w' := by
  go_enter Try.func37, Try.ntmps37
  go_wp2_with fail
  refine (smore_any x y a len cap zs _ hx hy hl hsl hz).mono ?_
  rintro e w1 ⟨rfl, haf⟩
  generalize HR : flS x y zs = r at *
  have HV := hid HR
  clear HR
  obtain ⟨p, q⟩ := r
  unfold pairV
  go_wp2_with fail
  go_quiet (fail)
  go_wp2_with fail
  go_ret2
  exact ⟨by rw [HV.out]; rfl, bdrewN (Below.alloc haf haf.size _) _⟩

theorem of_any (a : Option Addr) (len cap : Nat) (zs : List Int) (w : World) (hl : len ≤ 1000000) (hsl : Sl .u8 w a len cap zs) (hz : ∀ n ∈ zs, (Lit.int .u8 n).wf = true) :
    Calls Try.prog 31 #[.slice a len cap] w fun e w' => e = .returned (.tuple #[.int .u8 (flS 0 0 zs).1, .int .u8 (flS 0 0 zs).2]) ∧ After w w' := by
  go_enter Try.func31, Try.ntmps31
  go_wp2_with fail
  refine (more_any 0 0 a len cap zs _ (by omega) (by omega) hl hsl hz).mono ?_
  rintro e w1 ⟨rfl, haf⟩
  go_wp2_with fail
  go_ret2
  exact ⟨rfl, haf⟩

set_option maxHeartbeats 1000000 in
theorem rmore_any (x y : Int) (a : Option Addr) (len cap : Nat) (zs : List Int) (w : World) (hx : 0 ≤ x ∧ x ≤ 255) (hy : 0 ≤ y ∧ y ≤ 255) (hl : len ≤ 1000000) (hsl : Sl .u8 w a len cap zs) (hz : ∀ n ∈ zs, (Lit.int .u8 n).wf = true) :
    Calls Try.prog 38 #[.int .u8 x, .int .u8 y, .slice a len cap] w fun e w' => e = .returned (.tuple #[.int .u8 (flS x y zs).1, .int .u8 (flS x y zs).2]) ∧ w' = w := by
  obtain ⟨rfl, -, -, -, hr⟩ := hsl
  go_enter Try.func38, Try.ntmps38
  go_wp2_with fail
  go_loop [0, 1, 8] (fun a0 b0 i => ∃ (k : Nat) (p q : Int), k ≤ zs.length ∧ i = .int .i64 k ∧ (0 ≤ p ∧ p ≤ 255) ∧ (0 ≤ q ∧ q ≤ 255) ∧ a0 = .int .u8 p ∧ b0 = .int .u8 q ∧ flS p q (zs.drop k) = flS x y zs) (fun _ _ i => zs.length - (intOf i).toNat)
  case atStart => exact ⟨0, x, y, Nat.zero_le _, rfl, hx, hy, rfl, rfl, rfl⟩
  case round =>
    obtain ⟨k, p, q, hk, rfl, hp, hq, rfl, rfl, hs⟩ := hrel
    have HS := hid hs
    clear hs
    by_cases hlt : k < zs.length
    · obtain ⟨b, off, rfl, hc⟩ := hr k hlt
      have HD := hid (drop_step zs k hlt)
      have hb := bounds_u8 (hz _ (List.getElem_mem hlt))
      have he : zs.getD k 0 = zs[k] := by simp [hlt]
      rw [← he] at hb
      generalize zs.getD k 0 = c at *
      clear he hr hz
      go_wp2_with fail
      go_round
      case rel => exact ⟨k + 1, (p + c) % 256, (q + (p + c)) % 256, by omega, by go_num, by omega, by omega, rfl, by go_num, by rw [← HS.out, HD.out]; rfl⟩
      case measure => simp [intOf]; omega
    · have HV : Go.RowKit.Hid (flS x y zs = (p, q)) := hid (by rw [← HS.out, show k = zs.length from by omega, List.drop_length]; rfl)
      go_wp2_with fail
      go_ret2
      exact ⟨by rw [HV.out]; rfl, rfl⟩

theorem rof_any (a : Option Addr) (len cap : Nat) (zs : List Int) (w : World) (hl : len ≤ 1000000) (hsl : Sl .u8 w a len cap zs) (hz : ∀ n ∈ zs, (Lit.int .u8 n).wf = true) :
    Calls Try.prog 33 #[.slice a len cap] w fun e w' => e = .returned (.tuple #[.int .u8 (flS 0 0 zs).1, .int .u8 (flS 0 0 zs).2]) ∧ w' = w := by
  go_enter Try.func33, Try.ntmps33
  go_wp2_with fail
  refine (rmore_any 0 0 a len cap zs _ (by omega) (by omega) hl hsl hz).mono ?_
  rintro e w1 ⟨rfl, rfl⟩
  go_wp2_with fail
  go_ret2
  exact ⟨rfl, rfl⟩

def sealS (zs : List Int) : List Int := zs ++ [(flS 0 0 zs).1, (flS 0 0 zs).2]
theorem sealS_len (zs : List Int) : (sealS zs).length = zs.length + 2 := by simp [sealS]


theorem seal_row (zs : List Int) (x y : Int) : ((zs ++ [0, 0]).set zs.length x).set (zs.length + 1) y = zs ++ [x, y] := by
  rw [List.set_append_right _ _ (Nat.le_refl _), List.set_append_right _ _ (Nat.le_succ _)]
  simp

set_option maxHeartbeats 1000000 in
theorem seal_any (a : Option Addr) (len cap : Nat) (zs : List Int) (w : World) (hl : len ≤ 1000000) (hsl : Sl .u8 w a len cap zs) (hz : ∀ n ∈ zs, (Lit.int .u8 n).wf = true) :
    Calls Try.prog 21 #[.slice a len cap] w (BytesOk w (sealS zs)) := by
  have hlen := hsl.1
  have hll := sealS_len zs
  go_enter Try.func21, Try.ntmps21
  go_wp2_with (first | (at_make; refine wpList_make w w rfl (.tmp 8) (.tmp 8) 22 rfl w.heap.size 5 .u8 1 bytesOf (len + 2) rfl rfl (by omega) (by unfold maxLen; omega) (Below.refl _ _) (Nat.le_refl _) ?_))
  intro w1 row1 bel1
  have sl1 := hsl.below bel1
  go_wp2_with (first | (refine wpList_copyI w1 w rfl (.tmp 10) (.tmp 11) 22 rfl w.heap.size 5 .u8 1 bytesOf w.heap.size 0 (len + 2) (len + 2) _ row1 rfl (by simp) a len cap zs rfl sl1 bel1 (Nat.le_refl _) ?_))
  intro w2 row2 bel2
  have e2 : laid (List.replicate (len + 2) 0) 0 (zs.take (len + 2)) = zs ++ [0, 0] := by
    rw [List.take_of_length_le (l := zs) (by omega), laid, List.take_zero, List.nil_append, Nat.zero_add, hlen, List.drop_replicate, show len + 2 - len = 2 from by omega]; rfl
  rw [e2] at row2
  clear e2 row1 sl1
  have sl2 := hsl.below bel2
  have hb := flS_bd zs 0 0 (by omega) (by omega)
  go_wp2_with fail
  refine (of_any a len cap zs _ hl sl2 hz).mono ?_
  rintro e w3 ⟨rfl, bel3⟩
  have row3 := row2.below bel3
  have bel4 := bthen bel2 bel3
  clear row2 bel2 bel3 bel1 sl2
  have HS : Go.RowKit.Hid (sealS zs = zs ++ [(flS 0 0 zs).1, (flS 0 0 zs).2]) := hid rfl
  generalize flS 0 0 zs = r at *
  obtain ⟨p, q⟩ := r
  have HS : Go.RowKit.Hid (sealS zs = zs ++ [p, q]) := HS
  have hl3 : (zs ++ [(0 : Int), 0]).length = len + 2 := by simp; omega
  have c1 : w3.cell? ⟨w.heap.size, len, none⟩ = some _ := row3.cellAt len (by omega)
  have f1 := row3.free len
  have row4 := row3.set len p
  have c2 : (w3.setCell ⟨w.heap.size, len, none⟩ (.int .u8 p)).cell? ⟨w.heap.size, len + 1, none⟩ = some _ := row4.cellAt (len + 1) (by simp; omega)
  have f2 := row4.free (len + 1)
  have row5 := row4.set (len + 1) q
  have e5 : ((zs ++ [(0 : Int), 0]).set len p).set (len + 1) q = sealS zs := by rw [HS.out, ← hlen]; exact seal_row zs p q
  rw [e5] at row5
  have R5 := hid row5
  have e6 : (sealS zs).length = len + 2 := by rw [hll, hlen]
  clear row3 row4 row5 e5 hl3
  go_wp2_with fail
  go_ret
  refine ⟨some ⟨w.heap.size, 0, none⟩, len + 2, by rw [e6]; rfl, ?_, ?_⟩
  · have := R5.out.own w.heap.size (Nat.le_refl _) (by unfold maxLen; omega)
    rw [e6] at this ⊢; exact this
  · exact (bel4.setCell (Nat.le_refl _) _).setCell (Nat.le_refl _) _

theorem Own.text {w : World} {base : Nat} {E : TypeId} {a : Option Addr} {cap : Nat} {zs : List Int} (h : Own .u8 E w base (.slice a zs.length cap) zs) :
    ∀ w', After w w' → (convert 22 9 (.slice a zs.length cap)).run Try.prog w' = .ok (.string (textOf zs)) w' :=
  h.textR 22 9 5 Try.underlying22 Try.underlying5 Try.underlying9

set_option maxHeartbeats 1000000 in
theorem rseal_any (a : Option Addr) (len cap : Nat) (zs : List Int) (w : World) (hl : len ≤ 1000000) (hsl : Sl .u8 w a len cap zs) (hz : ∀ n ∈ zs, (Lit.int .u8 n).wf = true) :
    Calls Try.prog 23 #[.slice a len cap] w (BytesOk w (sealS zs)) := by
  have hlen := hsl.1
  go_enter Try.func23, Try.ntmps23
  go_wp2_with fail
  refine (rof_any a len cap zs _ hl hsl hz).mono ?_
  rintro e w1 ⟨rfl, rfl⟩
  have HS : Go.RowKit.Hid (sealS zs = zs ++ [(flS 0 0 zs).1, (flS 0 0 zs).2]) := hid rfl
  generalize flS 0 0 zs = r at *
  obtain ⟨p, q⟩ := r
  have HS : Go.RowKit.Hid (sealS zs = zs ++ [p, q]) := HS
  have be3 : Below w1.heap.size w1 (w1.alloc (.cells #[] 5)) := (Below.refl _ _).alloc (Nat.le_refl _) _
  have ho := Own.lit .u8 5 w1 [] w1.heap.size (Nat.le_refl _) (by simp) #[] rfl
  have sl2 := hsl.below be3
  have sz3 := be3.size
  go_wp2_with (first
    | (at_builtin; refine wpList_appS _ w1 rfl (.tmp 10) (.tmp 11) 22 rfl w1.heap.size w1.heap.size 5 .u8 1 bytesOf (.slice (some ⟨w1.heap.size, 0, none⟩) 0 0) [] rfl ho a len cap zs rfl sl2 (by simp; omega) (by decide) be3 (Nat.le_refl _) sz3 ?_))
  intro a3 c3 w3 own3 bel3
  have bel3a : Below w1.heap.size w1 (w3.alloc (.cells #[.int .u8 p, .int .u8 q] 5)) := bel3.alloc bel3.size _
  have own3a := own3.alloc (.cells #[.int .u8 p, .int .u8 q] 5)
  have sl3 : Sl .u8 (w3.alloc (.cells #[.int .u8 p, .int .u8 q] 5)) (some ⟨w3.heap.size, 0, none⟩) 2 2 [p, q] := sl_two w3 p q _
  have sz4 := bel3a.size
  go_wp2_with (first
    | (at_builtin; refine wpList_appS _ w1 rfl (.tmp 12) (.tmp 15) 22 rfl w1.heap.size w1.heap.size 5 .u8 1 bytesOf (.slice a3 len c3) zs rfl own3a (some ⟨w3.heap.size, 0, none⟩) 2 2 [p, q] rfl sl3 (by simp; omega) (by decide) bel3a (Nat.le_refl _) sz4 ?_))
  intro a5 c5 w5 own5 bel5
  have e6 : zs ++ [p, q] = sealS zs := HS.out.symm
  have e7 : (sealS zs).length = len + 2 := by rw [← e6]; simp; omega
  rw [e6] at own5
  have HH := hid own5
  clear own3 own3a own5 bel3 bel3a sl3 sl2 be3 ho e6
  go_wp2_with fail
  go_ret
  refine ⟨a5, c5, by rw [e7]; rfl, ?_, bel5⟩
  rw [e7]; exact HH.out

def openS (zs : List Int) : Option (List Int) := if zs.length < 2 then none else if sealS (zs.take (zs.length - 2)) = zs then some (zs.take (zs.length - 2)) else none

theorem open_pair (zs : List Int) (n : Nat) (h : zs.length = n + 2) : (sealS (zs.take n) = zs) ↔ flS 0 0 (zs.take n) = (zs.getD n 0, zs.getD (n + 1) 0) := by
  have e : zs = zs.take n ++ [zs.getD n 0, zs.getD (n + 1) 0] := by
    have h1 := drop_step zs n (by omega)
    have h2 := drop_step zs (n + 1) (by omega)
    have h3 : zs.drop (n + 1 + 1) = [] := List.drop_of_length_le (by omega)
    rw [h2, h3] at h1
    rw [← h1]; exact (List.take_append_drop n zs).symm
  generalize zs.getD n 0 = x at *
  generalize zs.getD (n + 1) 0 = y at *
  generalize zs.take n = l at *
  subst e
  unfold sealS
  generalize flS 0 0 l = r
  obtain ⟨p, q⟩ := r
  simp

theorem open_no (zs : List Int) (h : zs.length < 2) : openS zs = none := if_pos h
theorem open_is (zs : List Int) (n : Nat) (h : zs.length = n + 2) : openS zs = if flS 0 0 (zs.take n) = (zs.getD n 0, zs.getD (n + 1) 0) then some (zs.take n) else none := by
  unfold openS
  rw [if_neg (by omega), show zs.length - 2 = n from by omega]
  by_cases hs : sealS (zs.take n) = zs
  · rw [if_pos hs, if_pos ((open_pair zs n h).1 hs)]
  · rw [if_neg hs, if_neg (fun hh => hs ((open_pair zs n h).2 hh))]

set_option maxRecDepth 100000 in
set_option maxHeartbeats 2000000 in
theorem open_any (a : Option Addr) (len cap : Nat) (zs : List Int) (w : World) (hl : len ≤ 1000000) (hsl : Sl .u8 w a len cap zs) (hz : ∀ n ∈ zs, (Lit.int .u8 n).wf = true) :
    Calls Try.prog 26 #[.slice a len cap] w (OpenOk w (openS zs)) := by
  have hlen := hsl.1
  by_cases hs : len < 2
  · have HV := hid (open_no zs (by omega))
    go_enter Try.func26, Try.ntmps26
    go_wp2_with fail
    go_ret2
    refine ⟨none, 0, by rw [HV.out]; rfl, ?_, After.refl _⟩
    rw [HV.out]; exact Own.nil _ _ _ _
  · obtain ⟨n, rfl⟩ : ∃ n, len = n + 2 := ⟨len - 2, by omega⟩
    have HV := hid (open_is zs n hlen)
    have hst := hsl.take n (by omega)
    have hzt : ∀ c ∈ zs.take n, (Lit.int .u8 c).wf = true := fun c hc => hz c (List.mem_of_mem_take hc)
    obtain ⟨b0, o0, ha0, hcn⟩ := hsl.2.2.2.2 n (by omega)
    obtain ⟨b1, o1, ha1, hcn1⟩ := hsl.2.2.2.2 (n + 1) (by omega)
    have hcap := hsl.2.1
    subst ha0
    cases ha1
    have hcap2 : n ≤ cap := by omega
    generalize zs.getD n 0 = c0 at *
    generalize zs.getD (n + 1) 0 = c1 at *
    generalize HR : flS 0 0 (zs.take n) = r at *
    have HQ := hid HR
    clear HR
    obtain ⟨p, q⟩ := r
    have hn0 : (0 : Int) ≤ (n : Int) := by omega
    have hn2 : ((n + 2 : Nat) : Int) - 2 = (n : Int) := by omega
    have hn3 : (n : Int) < (n : Int) + 2 := by omega
    have hn4 : (n : Int) + 1 < (n : Int) + 2 := by omega
    have hn5 : (0 : Int) ≤ (n : Int) + 1 := by omega
    have hn6 : IntKind.i64.wrap ((n : Int) + 1) = (n : Int) + 1 := IntWalk.i64_in _ (by omega)
    have hn7 : ((n : Int) + 1).toNat = n + 1 := by omega
    have hn8 : (n : Int) ≤ (cap : Int) := by omega
    by_cases hpq : (p, q) = (c0, c1)
    · have HO : Go.RowKit.Hid (openS zs = some (zs.take n)) := hid (by rw [HV.out, if_pos hpq])
      simp only [Prod.mk.injEq] at hpq
      obtain ⟨rfl, rfl⟩ := hpq
      go_enter Try.func26, Try.ntmps26
      go_wp2_with fail
      refine wp_region_R (by kernel_rfl) ?_
      refine wpAnyR_take 0 rfl (by kernel_rfl) (by kernel_rfl) (by kernel_rfl) (fun _ _ _ _ h => h) ?_
      apply Exists.intro
      refine ⟨Or.inl ⟨by rfl, fun w' hb => ?_⟩, ?_⟩
      · (go_simp; try with_reducible rfl)
      apply Exists.intro
      refine ⟨?_, ?_⟩
      · (go_simp; try rfl)
      refine wpAnyR_take 1 rfl (by kernel_rfl) (by kernel_rfl) (by kernel_rfl) (fun _ _ _ _ h => h) ?_
      apply Exists.intro
      refine ⟨Or.inl ⟨by rfl, fun w' hb => ?_⟩, ?_⟩
      · (go_simp; try with_reducible rfl)
      apply Exists.intro
      refine ⟨?_, ?_⟩
      · (go_simp; try rfl)
      refine wpAnyR_take 2 rfl (by kernel_rfl) (by kernel_rfl) (by kernel_rfl) (fun _ _ _ _ h => h) ?_
      apply Exists.intro
      refine ⟨Or.inl ⟨by rfl, fun w' hb => ?_⟩, ?_⟩
      · (go_simp; try with_reducible rfl)
      apply Exists.intro
      refine ⟨?_, ?_⟩
      · (go_simp; try rfl)
      refine wpAnyR_take 3 rfl (by kernel_rfl) (by kernel_rfl) (by kernel_rfl) (fun _ _ _ _ h => h) ?_
      apply Exists.intro
      refine ⟨Or.inl ⟨by rfl, fun w' hb => ?_⟩, ?_⟩
      · (go_simp; try with_reducible rfl)
      apply Exists.intro
      refine ⟨?_, ?_⟩
      · (go_simp; try rfl)
      refine wpAnyR_take 5 rfl (by kernel_rfl) (by kernel_rfl) (by kernel_rfl) (fun _ _ _ _ h => h) ?_
      apply Exists.intro
      refine ⟨Or.inl ⟨by rfl, fun w' hb => ?_⟩, ?_⟩
      · (go_simp; try with_reducible rfl)
      apply Exists.intro
      refine ⟨?_, ?_⟩
      · (go_simp; try rfl)
      refine wpAnyR_take 6 rfl (by kernel_rfl) (by kernel_rfl) (by kernel_rfl) (fun _ _ _ _ h => h) ?_
      apply Exists.intro
      refine ⟨Or.inl ⟨by rfl, fun w' hb => ?_⟩, ?_⟩
      · (go_simp; try with_reducible rfl)
      apply Exists.intro
      refine ⟨?_, ?_⟩
      · (go_simp; try rfl)
      refine wpAnyR_take 7 rfl (by kernel_rfl) (by kernel_rfl) (by kernel_rfl) (fun _ _ _ _ h => h) ?_
      apply Exists.intro
      refine ⟨Or.inl ⟨by rfl, fun w' hb => ?_⟩, ?_⟩
      · (go_simp; try with_reducible rfl)
      apply Exists.intro
      refine ⟨?_, ?_⟩
      · (go_simp; try rfl)
      refine wpAnyR_take 8 rfl (by kernel_rfl) (by kernel_rfl) (by kernel_rfl) (fun _ _ _ _ h => h) ?_
      apply Exists.intro
      refine ⟨Or.inl ⟨by rfl, fun w' hb => ?_⟩, ?_⟩
      · have hcx := hb.cellB hcn
        go_simp
        try with_reducible rfl
      apply Exists.intro
      refine ⟨?_, ?_⟩
      · (go_simp; try rfl)
      refine wpAnyR_take 9 rfl (by kernel_rfl) (by kernel_rfl) (by kernel_rfl) (fun _ _ _ _ h => h) ?_
      apply Exists.intro
      refine ⟨Or.inl ⟨by rfl, fun w' hb => ?_⟩, ?_⟩
      · (go_simp; try with_reducible rfl)
      apply Exists.intro
      refine ⟨?_, ?_⟩
      · (go_simp; try rfl)
      refine wpAnyR_take 10 rfl (by kernel_rfl) (by kernel_rfl) (by kernel_rfl) (fun _ _ _ _ h => h) ?_
      apply Exists.intro
      refine ⟨Or.inl ⟨by rfl, fun w' hb => ?_⟩, ?_⟩
      · (go_simp; try with_reducible rfl)
      apply Exists.intro
      refine ⟨?_, ?_⟩
      · (go_simp; try rfl)
      refine wpAnyR_take 11 rfl (by kernel_rfl) (by kernel_rfl) (by kernel_rfl) (fun _ _ _ _ h => h) ?_
      apply Exists.intro
      refine ⟨Or.inl ⟨by rfl, fun w' hb => ?_⟩, ?_⟩
      · (go_simp; try with_reducible rfl)
      apply Exists.intro
      refine ⟨?_, ?_⟩
      · (go_simp; try rfl)
      refine wpAnyR_take 12 rfl (by kernel_rfl) (by kernel_rfl) (by kernel_rfl) (fun _ _ _ _ h => h) ?_
      apply Exists.intro
      refine ⟨Or.inl ⟨by rfl, fun w' hb => ?_⟩, ?_⟩
      · (go_simp; try with_reducible rfl)
      apply Exists.intro
      refine ⟨?_, ?_⟩
      · (go_simp; try rfl)
      refine wpAnyR_take 13 rfl (by kernel_rfl) (by kernel_rfl) (by kernel_rfl) (fun _ _ _ _ h => h) ?_
      apply Exists.intro
      refine ⟨Or.inl ⟨by rfl, fun w' hb => ?_⟩, ?_⟩
      · have hcx := hb.cellB hcn1
        go_simp
        try with_reducible rfl
      apply Exists.intro
      refine ⟨?_, ?_⟩
      · (go_simp; try rfl)
      refine wpAnyR_take 14 rfl (by kernel_rfl) (by kernel_rfl) (by kernel_rfl) (fun _ _ _ _ h => h) ?_
      apply Exists.intro
      refine ⟨Or.inl ⟨by rfl, fun w' hb => ?_⟩, ?_⟩
      · (go_simp; try with_reducible rfl)
      apply Exists.intro
      refine ⟨?_, ?_⟩
      · (go_simp; try rfl)
      refine wpAnyR_only 4 rfl (by kernel_rfl) (by rfl) (fun K hK => ?_)
      go_simp
      refine (smore_any 0 0 _ _ _ (zs.take n) _ (by omega) (by omega) (by omega) (hst.below (Below.refl _ _).drew) hzt).mono ?_
      rintro e v1 ⟨rfl, bel1⟩
      rw [HQ.out]
      unfold pairV
      go_wp2_with fail
      refine ⟨bel1, ?_⟩
      refine wpAnyR_take 15 rfl (by kernel_rfl) (by kernel_rfl) (by kernel_rfl) (fun _ _ _ _ h => h) ?_
      apply Exists.intro
      refine ⟨Or.inl ⟨by rfl, fun w' hb => ?_⟩, ?_⟩
      · (go_simp; try with_reducible rfl)
      apply Exists.intro
      refine ⟨?_, ?_⟩
      · (go_simp; try rfl)
      refine wpAnyR_done (by kernel_rfl) ?_ _
      have bel2 : Below w.heap.size w v1 := After.trans (Below.refl _ _).drew bel1
      have sl2 := hsl.below bel2
      go_wp2_with (first | (at_make; refine wpList_make v1 w rfl (.tmp 27) (.tmp 27) 22 rfl w.heap.size 5 .u8 1 bytesOf n rfl rfl (by omega) (by unfold maxLen; omega) bel2 bel2.size ?_))
      intro w3 row3 bel3
      have sl3 := hsl.below bel3
      have sz2 := bel2.size
      go_wp2_with (first | (refine wpList_copyI w3 w rfl (.tmp 29) (.tmp 30) 22 rfl w.heap.size 5 .u8 1 bytesOf v1.heap.size 0 n n _ row3 rfl (by simp) _ (n + 2) cap zs rfl sl3 bel3 sz2 ?_))
      intro w4 row4 bel4
      have e4 : laid (List.replicate n 0) 0 (zs.take n) = zs.take n := by
        rw [laid, List.take_zero, List.nil_append, Nat.zero_add, List.length_take, Nat.min_eq_left (by omega), List.drop_of_length_le (by simp), List.append_nil]
      rw [e4] at row4
      have el : (zs.take n).length = n := by rw [List.length_take]; omega
      have R4 := hid row4
      clear row3 row4 bel1 sl2 sl3 e4 bel3
      go_wp2_with fail
      go_ret2
      refine ⟨some ⟨v1.heap.size, 0, none⟩, n, ?_, ?_, bel4⟩
      · rw [HO.out]; show _ = Ending.returned (.tuple #[.slice _ (zs.take n).length n, .bool true]); rw [el]; rfl
      · rw [HO.out]; show Own _ _ _ _ (.slice _ (zs.take n).length n) (zs.take n)
        have := R4.out.own w.heap.size sz2 (by rw [el]; unfold maxLen; omega)
        rw [el] at this ⊢; exact this
    · have HO : Go.RowKit.Hid (openS zs = none) := hid (by rw [HV.out, if_neg hpq])
      have hne : (p == c0) = false ∨ (p == c0) = true ∧ (q == c1) = false := by
        by_cases h1 : p = c0
        · right
          refine ⟨by simp [h1], ?_⟩
          have : ¬ q = c1 := fun h2 => hpq (by rw [h1, h2])
          simp [this]
        · left; simp [h1]
      clear hpq
      rcases hne with hne | ⟨hne1, hne2⟩
      all_goals
        go_enter Try.func26, Try.ntmps26
        go_wp2_with fail
        refine wp_region_R (by kernel_rfl) ?_
        refine wpAnyR_take 0 rfl (by kernel_rfl) (by kernel_rfl) (by kernel_rfl) (fun _ _ _ _ h => h) ?_
        apply Exists.intro
        refine ⟨Or.inl ⟨by rfl, fun w' hb => ?_⟩, ?_⟩
        · (go_simp; try with_reducible rfl)
        apply Exists.intro
        refine ⟨?_, ?_⟩
        · (go_simp; try rfl)
        refine wpAnyR_take 1 rfl (by kernel_rfl) (by kernel_rfl) (by kernel_rfl) (fun _ _ _ _ h => h) ?_
        apply Exists.intro
        refine ⟨Or.inl ⟨by rfl, fun w' hb => ?_⟩, ?_⟩
        · (go_simp; try with_reducible rfl)
        apply Exists.intro
        refine ⟨?_, ?_⟩
        · (go_simp; try rfl)
        refine wpAnyR_take 2 rfl (by kernel_rfl) (by kernel_rfl) (by kernel_rfl) (fun _ _ _ _ h => h) ?_
        apply Exists.intro
        refine ⟨Or.inl ⟨by rfl, fun w' hb => ?_⟩, ?_⟩
        · (go_simp; try with_reducible rfl)
        apply Exists.intro
        refine ⟨?_, ?_⟩
        · (go_simp; try rfl)
        refine wpAnyR_take 3 rfl (by kernel_rfl) (by kernel_rfl) (by kernel_rfl) (fun _ _ _ _ h => h) ?_
        apply Exists.intro
        refine ⟨Or.inl ⟨by rfl, fun w' hb => ?_⟩, ?_⟩
        · (go_simp; try with_reducible rfl)
        apply Exists.intro
        refine ⟨?_, ?_⟩
        · (go_simp; try rfl)
        refine wpAnyR_take 5 rfl (by kernel_rfl) (by kernel_rfl) (by kernel_rfl) (fun _ _ _ _ h => h) ?_
        apply Exists.intro
        refine ⟨Or.inl ⟨by rfl, fun w' hb => ?_⟩, ?_⟩
        · (go_simp; try with_reducible rfl)
        apply Exists.intro
        refine ⟨?_, ?_⟩
        · (go_simp; try rfl)
        refine wpAnyR_take 6 rfl (by kernel_rfl) (by kernel_rfl) (by kernel_rfl) (fun _ _ _ _ h => h) ?_
        apply Exists.intro
        refine ⟨Or.inl ⟨by rfl, fun w' hb => ?_⟩, ?_⟩
        · (go_simp; try with_reducible rfl)
        apply Exists.intro
        refine ⟨?_, ?_⟩
        · (go_simp; try rfl)
        refine wpAnyR_take 7 rfl (by kernel_rfl) (by kernel_rfl) (by kernel_rfl) (fun _ _ _ _ h => h) ?_
        apply Exists.intro
        refine ⟨Or.inl ⟨by rfl, fun w' hb => ?_⟩, ?_⟩
        · (go_simp; try with_reducible rfl)
        apply Exists.intro
        refine ⟨?_, ?_⟩
        · (go_simp; try rfl)
        refine wpAnyR_take 8 rfl (by kernel_rfl) (by kernel_rfl) (by kernel_rfl) (fun _ _ _ _ h => h) ?_
        apply Exists.intro
        refine ⟨Or.inl ⟨by rfl, fun w' hb => ?_⟩, ?_⟩
        · have hcx := hb.cellB hcn
          go_simp
          try with_reducible rfl
        apply Exists.intro
        refine ⟨?_, ?_⟩
        · (go_simp; try rfl)
        refine wpAnyR_take 9 rfl (by kernel_rfl) (by kernel_rfl) (by kernel_rfl) (fun _ _ _ _ h => h) ?_
        apply Exists.intro
        refine ⟨Or.inl ⟨by rfl, fun w' hb => ?_⟩, ?_⟩
        · (go_simp; try with_reducible rfl)
        apply Exists.intro
        refine ⟨?_, ?_⟩
        · (go_simp; try rfl)
        refine wpAnyR_take 10 rfl (by kernel_rfl) (by kernel_rfl) (by kernel_rfl) (fun _ _ _ _ h => h) ?_
        apply Exists.intro
        refine ⟨Or.inl ⟨by rfl, fun w' hb => ?_⟩, ?_⟩
        · (go_simp; try with_reducible rfl)
        apply Exists.intro
        refine ⟨?_, ?_⟩
        · (go_simp; try rfl)
        refine wpAnyR_take 11 rfl (by kernel_rfl) (by kernel_rfl) (by kernel_rfl) (fun _ _ _ _ h => h) ?_
        apply Exists.intro
        refine ⟨Or.inl ⟨by rfl, fun w' hb => ?_⟩, ?_⟩
        · (go_simp; try with_reducible rfl)
        apply Exists.intro
        refine ⟨?_, ?_⟩
        · (go_simp; try rfl)
        refine wpAnyR_take 12 rfl (by kernel_rfl) (by kernel_rfl) (by kernel_rfl) (fun _ _ _ _ h => h) ?_
        apply Exists.intro
        refine ⟨Or.inl ⟨by rfl, fun w' hb => ?_⟩, ?_⟩
        · (go_simp; try with_reducible rfl)
        apply Exists.intro
        refine ⟨?_, ?_⟩
        · (go_simp; try rfl)
        refine wpAnyR_take 13 rfl (by kernel_rfl) (by kernel_rfl) (by kernel_rfl) (fun _ _ _ _ h => h) ?_
        apply Exists.intro
        refine ⟨Or.inl ⟨by rfl, fun w' hb => ?_⟩, ?_⟩
        · have hcx := hb.cellB hcn1
          go_simp
          try with_reducible rfl
        apply Exists.intro
        refine ⟨?_, ?_⟩
        · (go_simp; try rfl)
        refine wpAnyR_take 14 rfl (by kernel_rfl) (by kernel_rfl) (by kernel_rfl) (fun _ _ _ _ h => h) ?_
        apply Exists.intro
        refine ⟨Or.inl ⟨by rfl, fun w' hb => ?_⟩, ?_⟩
        · (go_simp; try with_reducible rfl)
        apply Exists.intro
        refine ⟨?_, ?_⟩
        · (go_simp; try rfl)
        refine wpAnyR_only 4 rfl (by kernel_rfl) (by rfl) (fun K hK => ?_)
        go_simp
        refine (smore_any 0 0 _ _ _ (zs.take n) _ (by omega) (by omega) (by omega) (hst.below (Below.refl _ _).drew) hzt).mono ?_
        rintro e v1 ⟨rfl, bel1⟩
        rw [HQ.out]
        unfold pairV
        go_wp2_with fail
        refine ⟨bel1, ?_⟩
        refine wpAnyR_take 15 rfl (by kernel_rfl) (by kernel_rfl) (by kernel_rfl) (fun _ _ _ _ h => h) ?_
        apply Exists.intro
        refine ⟨Or.inl ⟨by rfl, fun w' hb => ?_⟩, ?_⟩
        · (go_simp; try with_reducible rfl)
        apply Exists.intro
        refine ⟨?_, ?_⟩
        · (go_simp; try rfl)
        refine wpAnyR_done (by kernel_rfl) ?_ _
        go_wp2_with fail
        go_ret2
        refine ⟨none, 0, by rw [HO.out]; rfl, ?_, After.trans (Below.refl _ _).drew bel1⟩
        rw [HO.out]; exact Own.nil _ _ _ _

end Go.Proofs.Ytjmmboijpkfllaa
