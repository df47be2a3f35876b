/- Package rescue: the laws' found and same. -/
import Derived.Test.YtlfbhfmchdbnoaaRes6
import Derived.Test.YtlfbhfmchdbnoaaBlk12
import Derived.Deep.DeepCutAuto
namespace Go.Proofs.Ytlfbhfmchdbnoaa
open Go.ChangeShapes Go.WideShapes Go.ChangeAt Go.RowKit
set_option linter.unusedVariables false
set_option linter.unusedSimpArgs false

theorem strip_len {xs : List E38} {l : List S37} (h : xs.map strip38 = l) : xs.length = l.length := by rw [← h, List.length_map]
set_option maxRecDepth 100000 in
set_option maxHeartbeats 8000000 in
theorem found37_any (a : Option Addr) (cap m : Nat) (xs : List E38) (w : World) (hm : xs.length = m) (hE : Els w 3 a m cap (vals38 xs)) (h1000 : m ≤ 100000) : Calls Try.prog 18 #[.slice a m cap] w fun e w' => ∃ (a2 : Option Addr) (c2 : Nat), e = .returned (.slice a2 m c2) ∧ OwnE 75 w' w.heap.size 3 (.slice a2 m c2) m (vals38 xs).flatten ∧ After w w' := by
  replace hE := hid hE
  have hall := hid (show xs.take m = xs by rw [← hm, List.take_length])
  replace hm := hid hm
  go_enter Try.func18, Try.ntmps18
  go_upto_region 0 with (fail)
  go_wp2_with fail
  go_loopw [3, 4] (fun ov ix wr => ∃ (k : Nat) (oa : Option Addr) (oc : Nat), ix = .int .i64 k ∧ ov = .slice oa k oc ∧ k ≤ m ∧ OwnE 75 wr w.heap.size 3 (.slice oa k oc) k (vals38 (xs.take k)).flatten ∧ After w wr) (fun _ ix _ => m - (intOf ix).toNat)
  case atStart => exact ⟨0, none, 0, rfl, rfl, by omega, OwnE.nil _ _ _ _, Below.refl _ _⟩
  case round =>
    obtain ⟨k, oa, oc, rfl, rfl, hk, hO, hA⟩ := hrel
    by_cases hlt : (k : Int) < m
    case neg =>
      obtain rfl : k = m := by omega
      rw [hall.out] at hO
      replace hO := hid hO
      replace hA := hid hA
      go_wp2_with fail
      go_ret
      exact ⟨oa, oc, rfl, hO.out, hA.out⟩
    obtain ⟨x, hx⟩ : ∃ x, xs[k]? = some x := ⟨_, List.getElem?_eq_getElem (show k < xs.length by have := hm.out; omega)⟩
    have htk := hid (show vals38 (xs.take (k + 1)) = vals38 (xs.take k ++ [x]) by rw [List.take_add_one, hx, Option.toList_some])
    obtain ⟨x1, x2, x3, x4, x5⟩ := x
    obtain ⟨pb, off, e9, c0, c1, c2⟩ := (hE.out.below hA).at3 (vals_at hx)
    cases e9
    dsimp only at c0 c1 c2
    have kz : (0 : Int) ≤ k := by omega
    have wk : IntKind.i64.wrap ((k : Int) + 1) = (k : Int) + 1 := by rw [IntKind.wrap_i64]; omega
    have hk1 := hid (show k + 1 ≤ m by omega)
    have kT := hid (show k ≤ 100000 by omega)
    clear hx hk
    have sB := hA.size
    go_upto_region 5 with (fail)
    refine (wpIn_wide (n := 9)).1 ?_
    refine wpIn_region_preR 13 2 (by simp only [List.extract_toArray, List.extract_eq_take_drop, Nat.sub_zero, List.drop_zero, List.take_succ_cons, List.take_zero]; rfl) (by kernel_rfl) rfl (by kernel_rfl) ?_
    refine wpAnyR_take 0 rfl (by kernel_rfl) (by kernel_rfl) (by kernel_rfl) (fun _ _ _ _ h => by cases h.1) ⟨_, Or.inl ⟨by rfl, fun w2 hb2 => by (go_simp; try with_reducible rfl)⟩, _, by (go_simp; try rfl), ?_⟩
    refine wpAnyR_take 1 rfl (by kernel_rfl) (by kernel_rfl) (by kernel_rfl) (fun _ _ _ _ h => by cases h.1) ⟨_, Or.inl ⟨by rfl, fun w2 hb2 => by (go_simp; try with_reducible rfl)⟩, _, by (go_simp; try rfl), ?_⟩
    refine wpAnyR_take 2 rfl (by kernel_rfl) (by kernel_rfl) (by kernel_rfl) (fun _ _ _ _ h => by cases h.1) ⟨_, Or.inl ⟨by rfl, fun w2 hb2 => by (go_simp; try with_reducible rfl)⟩, _, by (go_simp; try rfl), ?_⟩
    refine wpAnyR_take 3 rfl (by kernel_rfl) (by kernel_rfl) (by kernel_rfl) (fun _ _ _ _ h => by cases h.1) ⟨_, Or.inl ⟨by rfl, fun w2 hb2 => by (go_simp; try with_reducible rfl)⟩, _, by (go_simp; try rfl), ?_⟩
    refine wpAnyR_take 4 rfl (by kernel_rfl) (by kernel_rfl) (by kernel_rfl) (fun _ _ _ _ h => by cases h.1) ⟨_, Or.inl ⟨by rfl, fun w2 hb2 => by (go_simp; try with_reducible rfl)⟩, _, by (go_simp; try rfl), ?_⟩
    refine wpAnyR_take 5 rfl (by kernel_rfl) (by kernel_rfl) (by kernel_rfl) (fun _ _ _ _ h => by cases h.1) ⟨_, Or.inl ⟨by rfl, fun w2 hb2 => by (have hx := (Below.cell hb2 (World.block_lt_of_cell? wr _ c0)).trans c0; go_simp; try with_reducible rfl)⟩, _, by (go_simp; try rfl), ?_⟩
    refine wpAnyR_take 6 rfl (by kernel_rfl) (by kernel_rfl) (by kernel_rfl) (fun _ _ _ _ h => by cases h.1) ⟨_, Or.inl ⟨by rfl, fun w2 hb2 => by (go_simp; try with_reducible rfl)⟩, _, by (go_simp; try rfl), ?_⟩
    refine wpAnyR_take 7 rfl (by kernel_rfl) (by kernel_rfl) (by kernel_rfl) (fun _ _ _ _ h => by cases h.1) ⟨_, Or.inl ⟨by rfl, fun w2 hb2 => by (go_simp; try with_reducible rfl)⟩, _, by (go_simp; try rfl), ?_⟩
    refine wpAnyR_take 8 rfl (by kernel_rfl) (by kernel_rfl) (by kernel_rfl) (fun _ _ _ _ h => by cases h.1) ⟨_, Or.inl ⟨by rfl, fun w2 hb2 => by (go_simp; try with_reducible rfl)⟩, _, by (go_simp; try rfl), ?_⟩
    refine wpAnyR_take 9 rfl (by kernel_rfl) (by kernel_rfl) (by kernel_rfl) (fun _ _ _ _ h => by cases h.1) ⟨_, Or.inl ⟨by rfl, fun w2 hb2 => by (go_simp; try with_reducible rfl)⟩, _, by (go_simp; try rfl), ?_⟩
    refine wpAnyR_take 10 rfl (by kernel_rfl) (by kernel_rfl) (by kernel_rfl) (fun _ _ _ _ h => by cases h.1) ⟨_, Or.inl ⟨by rfl, fun w2 hb2 => by (have hx := (Below.cell hb2 (World.block_lt_of_cell? wr _ c1)).trans c1; have hy := (Below.cell hb2 (World.block_lt_of_cell? wr _ c2)).trans c2; go_simp; try with_reducible rfl)⟩, _, by (go_simp; try rfl), ?_⟩
    refine wpAnyR_take 11 rfl (by kernel_rfl) (by kernel_rfl) (by kernel_rfl) (fun _ _ _ _ h => by cases h.1) ⟨_, Or.inl ⟨by rfl, fun w2 hb2 => by (go_simp; try with_reducible rfl)⟩, _, by (go_simp; try rfl), ?_⟩
    refine wpAnyR_only 12 rfl (by kernel_rfl) (by rfl) (fun K hK => ?_)
    go_simp
    refine hK _ _ ⟨(alloc_new wr.drew (.cells #[.int .i64 x1, .int .u32 x2, .slice x3 x5.length x4] 75)).2.1, ?_⟩
    clear hK
    refine wpAnyR_done (by kernel_rfl) ?_ _
    refine ⟨rfl, ?_⟩
    have nE := alloc_new wr.drew (.cells #[.int .i64 x1, .int .u32 x2, .slice x3 x5.length x4] 75)
    have hE6 := hid (show Els (wr.drew.alloc (.cells #[.int .i64 x1, .int .u32 x2, .slice x3 x5.length x4] 75)) 3 (some ⟨wr.drew.heap.size, 0, none⟩) 1 1 [cel38 ((x1, x2, x3, x4, x5) : E38)] from els_blk (m := 3) nE.2.2 rfl)
    have hO2 := hid ((hO.below (Below.refl _ wr).drew).below nE.2.1)
    have hB2 := hid (bthen hA.drew nE.2.1)
    have s2 := hid hB2.out.size
    have k9 := kT.out
    clear nE hO hA kT
    refine Seg.onlyIn (m := 13) (k := 1) rfl (by kernel_rfl) (by rfl) (fun K hK => ?_)
    refine wpIn_of_false (Q1 := fun _ _ _ => False) (fun _ _ _ _ h => h) ?_
    refine wp_appE (.tmp 11) (.tmp 23) 39 rfl w.heap.size 75 3 40 rfndO (by decide) (.slice oa k oc) k (vals38 (xs.take k)).flatten rfl hO2.out (some ⟨_, 0, none⟩) 1 1 [cel38 ((x1, x2, x3, x4, x5) : E38)] rfl hE6.out (vals_one _) (by unfold maxLen; omega) (by omega) s2.out ?_
    intro a9 c9 W9 hO9 hG hN
    have hB9 := hid (hB2.out.grown hG s2.out (fun g e => (hO2.out.lt g e).1))
    first | rw [← vals_snoc, ← htk.out] at hO9 | rw [← vals_snoc2, ← htk.out] at hO9
    replace hO9 := hid hO9
    clear hG hN hE6 hO2 hB2
    refine hK _ _ ?_
    clear hK
    refine Seg.onlyIn (m := 14) (k := 0) rfl (by kernel_rfl) (by rfl) (fun K hK => ?_)
    refine wpIn_of_false (Q1 := fun _ _ _ => False) (fun _ _ _ _ h => h) ?_
    go_simp
    refine hK _ _ ?_
    clear hK
    refine Seg.finishIn ?_ _
    go_wp2_with fail
    go_roundw
    case rel => exact ⟨k + 1, a9, c9, by simp, rfl, hk1.out, hO9.out, hB9.out⟩
    case measure => simp [intOf]; omega
set_option maxRecDepth 100000 in
set_option maxHeartbeats 8000000 in
theorem same37_any (a1 a2 : Option Addr) (c1 c2 m : Nat) (xs ys : List E38) (w : World) (hm : xs.length = m) (hxy : xs.map strip38 = ys.map strip38) (h1 : Els w 3 a1 m c1 (vals38 xs)) (h2 : Els w 3 a2 m c2 (vals38 ys)) (hx : ∀ x ∈ xs, el38 x w) (hy : ∀ x ∈ ys, el38 x w) (h1000 : m ≤ 100000) (hok : ∀ x ∈ xs.map strip38, OkS x) : Calls Try.prog 17 #[.slice a1 m c1, .slice a2 m c2] w fun e w' => e = .returned (.bool true) ∧ After w w' := by
  have hlen : ys.length = m := by have := congrArg List.length hxy; simpa [hm] using this.symm
  have hex := hid (fun (k : Nat) (x y : E38) (h : xs[k]? = some x) (h2 : ys[k]? = some y) => show strip38 x = strip38 y by have e : (xs.map strip38)[k]? = (ys.map strip38)[k]? := (by rw [hxy]); rw [List.getElem?_map, List.getElem?_map, h, h2] at e; exact Option.some.inj e)
  replace h1 := hid h1
  replace h2 := hid h2
  replace hx := hid hx
  replace hy := hid hy
  replace hok := hid hok
  replace hm := hid hm
  replace hlen := hid hlen
  clear hxy
  go_enter Try.func17, Try.ntmps17
  go_upto_region 0 with (fail)
  go_wp2_with fail
  go_loopw [5] (fun ix wr => ∃ k : Nat, ix = .int .i64 k ∧ k ≤ m ∧ After w wr) (fun ix _ => m - (intOf ix).toNat)
  case atStart => exact ⟨0, rfl, by omega, Below.refl _ _⟩
  case round =>
    obtain ⟨k, rfl, hk, hA⟩ := hrel
    by_cases hlt : (k : Int) < m
    case neg =>
      replace hA := hid hA
      go_wp2_with fail
      go_ret
      exact ⟨rfl, hA.out⟩
    obtain ⟨x, gx⟩ : ∃ x, xs[k]? = some x := ⟨_, List.getElem?_eq_getElem (show k < xs.length by have := hm.out; omega)⟩
    obtain ⟨y, gy⟩ : ∃ y, ys[k]? = some y := ⟨_, List.getElem?_eq_getElem (show k < ys.length by have := hlen.out; omega)⟩
    have exy := hex.out k x y gx gy
    have ox := hok.out (strip38 x) (List.mem_map.2 ⟨x, List.mem_of_getElem? gx, rfl⟩)
    have lx := hx.out x (List.mem_of_getElem? gx)
    have ly := hy.out y (List.mem_of_getElem? gy)
    obtain ⟨x1, x2, x3, x4, x5⟩ := x
    obtain ⟨y1, y2, y3, y4, y5⟩ := y
    obtain ⟨pb, off, e9, g0, g1, g2⟩ := (h1.out.below hA).at3 (vals_at gx)
    obtain ⟨qb, qff, e8, d0, d1, d2⟩ := (h2.out.below hA).at3 (vals_at gy)
    cases e9
    cases e8
    unfold strip38 at exy ox
    dsimp only at exy ox g0 g1 g2 d0 d1 d2
    obtain ⟨rfl, rfl, rfl⟩ : x1 = y1 ∧ x2 = y2 ∧ x5 = y5 := by simpa using exy
    have le := hid (lx.1.below hA)
    have le2 := hid (ly.1.below hA)
    obtain ⟨-, -, o3, o4⟩ := ox
    dsimp only at o3 o4
    replace o4 := hid o4
    obtain ⟨n, hn⟩ : ∃ n, x5.length = n := ⟨_, rfl⟩
    dsimp only at le le2
    rw [hn] at le le2 g2 d2 o3
    replace hn := hid hn
    have kz : (0 : Int) ≤ k := by omega
    have wk : IntKind.i64.wrap ((k : Int) + 1) = (k : Int) + 1 := by rw [IntKind.wrap_i64]; omega
    have hk1 := hid (show k + 1 ≤ m by omega)
    have hAd := hid hA.drew
    clear gx gy exy lx ly hk hA
    go_upto_region 6 with (fail)
    refine wp_region_R (by kernel_rfl) ?_
    refine wpAnyR_take 0 rfl (by kernel_rfl) (by kernel_rfl) (by kernel_rfl) (fun _ _ _ _ h => h) ⟨_, Or.inl ⟨by rfl, fun w2 hb2 => by (go_simp; try with_reducible rfl)⟩, _, by (go_simp; try rfl), ?_⟩
    refine wpAnyR_take 1 rfl (by kernel_rfl) (by kernel_rfl) (by kernel_rfl) (fun _ _ _ _ h => h) ⟨_, Or.inl ⟨by rfl, fun w2 hb2 => by (go_simp; try with_reducible rfl)⟩, _, by (go_simp; try rfl), ?_⟩
    refine wpAnyR_take 2 rfl (by kernel_rfl) (by kernel_rfl) (by kernel_rfl) (fun _ _ _ _ h => h) ⟨_, Or.inl ⟨by rfl, fun w2 hb2 => by (go_simp; try with_reducible rfl)⟩, _, by (go_simp; try rfl), ?_⟩
    refine wpAnyR_take 3 rfl (by kernel_rfl) (by kernel_rfl) (by kernel_rfl) (fun _ _ _ _ h => h) ⟨_, Or.inl ⟨by rfl, fun w2 hb2 => by (go_simp; try with_reducible rfl)⟩, _, by (go_simp; try rfl), ?_⟩
    refine wpAnyR_take 4 rfl (by kernel_rfl) (by kernel_rfl) (by kernel_rfl) (fun _ _ _ _ h => h) ⟨_, Or.inl ⟨by rfl, fun w2 hb2 => by (have hx := (Below.cell hb2 (World.block_lt_of_cell? wr _ g0)).trans g0; go_simp; try with_reducible rfl)⟩, _, by (go_simp; try rfl), ?_⟩
    refine wpAnyR_take 5 rfl (by kernel_rfl) (by kernel_rfl) (by kernel_rfl) (fun _ _ _ _ h => h) ⟨_, Or.inl ⟨by rfl, fun w2 hb2 => by (go_simp; try with_reducible rfl)⟩, _, by (go_simp; try rfl), ?_⟩
    refine wpAnyR_take 6 rfl (by kernel_rfl) (by kernel_rfl) (by kernel_rfl) (fun _ _ _ _ h => h) ⟨_, Or.inl ⟨by rfl, fun w2 hb2 => by (go_simp; try with_reducible rfl)⟩, _, by (go_simp; try rfl), ?_⟩
    refine wpAnyR_take 7 rfl (by kernel_rfl) (by kernel_rfl) (by kernel_rfl) (fun _ _ _ _ h => h) ⟨_, Or.inl ⟨by rfl, fun w2 hb2 => by (go_simp; try with_reducible rfl)⟩, _, by (go_simp; try rfl), ?_⟩
    refine wpAnyR_take 8 rfl (by kernel_rfl) (by kernel_rfl) (by kernel_rfl) (fun _ _ _ _ h => h) ⟨_, Or.inl ⟨by rfl, fun w2 hb2 => by (go_simp; try with_reducible rfl)⟩, _, by (go_simp; try rfl), ?_⟩
    refine wpAnyR_take 9 rfl (by kernel_rfl) (by kernel_rfl) (by kernel_rfl) (fun _ _ _ _ h => h) ⟨_, Or.inl ⟨by rfl, fun w2 hb2 => by (have hx := (Below.cell hb2 (World.block_lt_of_cell? wr _ d0)).trans d0; go_simp; try with_reducible rfl)⟩, _, by (go_simp; try rfl), ?_⟩
    refine wpAnyR_take 10 rfl (by kernel_rfl) (by kernel_rfl) (by kernel_rfl) (fun _ _ _ _ h => h) ⟨_, Or.inl ⟨by rfl, fun w2 hb2 => by (go_simp; try with_reducible rfl)⟩, _, by (go_simp; try rfl), ?_⟩
    refine wpAnyR_take 11 rfl (by kernel_rfl) (by kernel_rfl) (by kernel_rfl) (fun _ _ _ _ h => h) ⟨_, Or.inl ⟨by rfl, fun w2 hb2 => by (go_simp; try with_reducible rfl)⟩, _, by (go_simp; try rfl), ?_⟩
    refine wpAnyR_take 12 rfl (by kernel_rfl) (by kernel_rfl) (by kernel_rfl) (fun _ _ _ _ h => h) ⟨_, Or.inl ⟨by rfl, fun w2 hb2 => by (go_simp; try with_reducible rfl)⟩, _, by (go_simp; try rfl), ?_⟩
    refine wpAnyR_take 13 rfl (by kernel_rfl) (by kernel_rfl) (by kernel_rfl) (fun _ _ _ _ h => h) ⟨_, Or.inl ⟨by rfl, fun w2 hb2 => by (go_simp; try with_reducible rfl)⟩, _, by (go_simp; try rfl), ?_⟩
    refine wpAnyR_take 14 rfl (by kernel_rfl) (by kernel_rfl) (by kernel_rfl) (fun _ _ _ _ h => h) ⟨_, Or.inl ⟨by rfl, fun w2 hb2 => by (go_simp; try with_reducible rfl)⟩, _, by (go_simp; try rfl), ?_⟩
    refine wpAnyR_take 15 rfl (by kernel_rfl) (by kernel_rfl) (by kernel_rfl) (fun _ _ _ _ h => h) ⟨_, Or.inl ⟨by rfl, fun w2 hb2 => by (go_simp; try with_reducible rfl)⟩, _, by (go_simp; try rfl), ?_⟩
    refine wpAnyR_take 16 rfl (by kernel_rfl) (by kernel_rfl) (by kernel_rfl) (fun _ _ _ _ h => h) ⟨_, Or.inl ⟨by rfl, fun w2 hb2 => by (have hx := (Below.cell hb2 (World.block_lt_of_cell? wr _ g1)).trans g1; have hy := (Below.cell hb2 (World.block_lt_of_cell? wr _ g2)).trans g2; go_simp; try with_reducible rfl)⟩, _, by (go_simp; try rfl), ?_⟩
    refine wpAnyR_take 17 rfl (by kernel_rfl) (by kernel_rfl) (by kernel_rfl) (fun _ _ _ _ h => h) ⟨_, Or.inl ⟨by rfl, fun w2 hb2 => by (go_simp; try with_reducible rfl)⟩, _, by (go_simp; try rfl), ?_⟩
    refine wpAnyR_take 18 rfl (by kernel_rfl) (by kernel_rfl) (by kernel_rfl) (fun _ _ _ _ h => h) ⟨_, Or.inl ⟨by rfl, fun w2 hb2 => by (go_simp; try with_reducible rfl)⟩, _, by (go_simp; try rfl), ?_⟩
    refine wpAnyR_take 19 rfl (by kernel_rfl) (by kernel_rfl) (by kernel_rfl) (fun _ _ _ _ h => h) ⟨_, Or.inl ⟨by rfl, fun w2 hb2 => by (go_simp; try with_reducible rfl)⟩, _, by (go_simp; try rfl), ?_⟩
    refine wpAnyR_take 20 rfl (by kernel_rfl) (by kernel_rfl) (by kernel_rfl) (fun _ _ _ _ h => h) ⟨_, Or.inl ⟨by rfl, fun w2 hb2 => by (go_simp; try with_reducible rfl)⟩, _, by (go_simp; try rfl), ?_⟩
    refine wpAnyR_take 21 rfl (by kernel_rfl) (by kernel_rfl) (by kernel_rfl) (fun _ _ _ _ h => h) ⟨_, Or.inl ⟨by rfl, fun w2 hb2 => by (have hx := (Below.cell hb2 (World.block_lt_of_cell? wr _ d1)).trans d1; have hy := (Below.cell hb2 (World.block_lt_of_cell? wr _ d2)).trans d2; go_simp; try with_reducible rfl)⟩, _, by (go_simp; try rfl), ?_⟩
    refine wpAnyR_only 22 rfl (by kernel_rfl) (by rfl) (fun K hK => ?_)
    go_simp
    refine (sameB_any x2 x3 y3 x4 y4 n x5 _ hn.out (le.out.below (Below.refl _ wr).drew) (le2.out.below (Below.refl _ wr).drew) (by omega) o4.out).mono ?_
    rintro e V5 ⟨rfl, hA5⟩
    go_simp
    refine hK _ _ ⟨hA5, ?_⟩
    clear hK
    have hB9 := hid (bthen hAd.out hA5)
    clear hA5
    refine wpAnyR_take 23 rfl (by kernel_rfl) (by kernel_rfl) (by kernel_rfl) (fun _ _ _ _ h => h) ⟨_, Or.inl ⟨by rfl, fun w2 hb2 => by (go_simp; try with_reducible rfl)⟩, _, by (go_simp; try rfl), ?_⟩
    refine wpAnyR_take 24 rfl (by kernel_rfl) (by kernel_rfl) (by kernel_rfl) (fun _ _ _ _ h => h) ⟨_, Or.inl ⟨by rfl, fun w2 hb2 => by (go_simp; try with_reducible rfl)⟩, _, by (go_simp; try rfl), ?_⟩
    refine wpAnyR_done (by kernel_rfl) ?_ _
    clear hAd
    go_wp2_with fail
    go_roundw
    case rel => exact ⟨k + 1, by simp, hk1.out, hB9.out⟩
    case measure => simp [intOf]; omega

end Go.Proofs.Ytlfbhfmchdbnoaa
