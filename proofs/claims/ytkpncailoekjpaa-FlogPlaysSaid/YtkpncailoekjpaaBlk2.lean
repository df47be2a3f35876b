/- Package block: Size. -/
import Derived.Test.YtkpncailoekjpaaBlk
import Derived.Deep.DeepCutAuto
namespace Go.Proofs.Ytkpncailoekjpaa
open Go.ChangeShapes Go.WideShapes Go.ChangeAt Go.RowKit
set_option linter.unusedVariables false
set_option linter.unusedSimpArgs false

def entC (x : En) : List Value := .bool x.1 :: .int .u32 x.2.1 :: x.2.2.map (Value.int .i32)
def entsV (l : List En) : List (List Value) := l.map entC
theorem entsV_at {l : List En} {k : Nat} {x : En} (h : l[k]? = some x) : (entsV l)[k]? = some (entC x) := by simp [entsV, h]
def EnOk (x : En) : Prop := (0 ≤ x.2.1 ∧ x.2.1 ≤ 4294967295) ∧ x.2.2.length = 12 ∧ ∀ y ∈ x.2.2, -2147483648 ≤ y ∧ y ≤ 2147483647
theorem Els.at14 {w : World} {a : Option Addr} {len cap k : Nat} {l : List (List Value)} {kb : Bool} {u b0 b1 b2 b3 b4 b5 b6 b7 b8 b9 b10 b11 : Int} (h : Els w 14 a len cap l) (hx : l[k]? = some (entC (kb, u, [b0, b1, b2, b3, b4, b5, b6, b7, b8, b9, b10, b11]))) : ∃ b off, a = some ⟨b, off, none⟩ ∧ w.cell? ⟨b, off + k * 14, none⟩ = some (.bool kb) ∧ w.cell? ⟨b, off + k * 14 + 1, none⟩ = some (.int .u32 u) ∧ w.cell? ⟨b, off + k * 14 + 2, none⟩ = some (.int .i32 b0) ∧ w.cell? ⟨b, off + k * 14 + 3, none⟩ = some (.int .i32 b1) ∧ w.cell? ⟨b, off + k * 14 + 4, none⟩ = some (.int .i32 b2) ∧ w.cell? ⟨b, off + k * 14 + 5, none⟩ = some (.int .i32 b3) ∧ w.cell? ⟨b, off + k * 14 + 6, none⟩ = some (.int .i32 b4) ∧ w.cell? ⟨b, off + k * 14 + 7, none⟩ = some (.int .i32 b5) ∧ w.cell? ⟨b, off + k * 14 + 8, none⟩ = some (.int .i32 b6) ∧ w.cell? ⟨b, off + k * 14 + 9, none⟩ = some (.int .i32 b7) ∧ w.cell? ⟨b, off + k * 14 + 10, none⟩ = some (.int .i32 b8) ∧ w.cell? ⟨b, off + k * 14 + 11, none⟩ = some (.int .i32 b9) ∧ w.cell? ⟨b, off + k * 14 + 12, none⟩ = some (.int .i32 b10) ∧ w.cell? ⟨b, off + k * 14 + 13, none⟩ = some (.int .i32 b11) := by
  obtain ⟨_, b, off, e, hc⟩ := h.2.2.2.2 k _ hx
  exact ⟨b, off, e, hc 0 _ rfl, hc 1 _ rfl, hc 2 _ rfl, hc 3 _ rfl, hc 4 _ rfl, hc 5 _ rfl, hc 6 _ rfl, hc 7 _ rfl, hc 8 _ rfl, hc 9 _ rfl, hc 10 _ rfl, hc 11 _ rfl, hc 12 _ rfl, hc 13 _ rfl⟩
theorem layS_len {st : Int × List Int} {x : En} (h1 : ∀ y ∈ st.2, -2147483648 ≤ y ∧ y ≤ 2147483647) (hx : EnOk x) : (layS st x).length ≤ 68 := by
  unfold layS
  split
  · rw [List.length_cons, keyV_len _ _ hx.2.1]; omega
  · have := (deltaV_len (t := st.1) (u := x.2.1) (get_bd h1) (get_bd hx.2.2)).2
    rw [List.length_cons]; omega
theorem take_snocE {l : List En} {k : Nat} {x : En} (hx : l[k]? = some x) : l.take (k + 1) = l.take k ++ [x] := by
  rw [List.take_add_one, hx]; rfl
set_option maxRecDepth 100000 in
set_option maxHeartbeats 8000000 in
theorem size_any (a : Option Addr) (cap : Nat) (l : List En) (w : World) (hE : Els w 14 a l.length cap (entsV l)) (h100 : l.length ≤ 1000) (hl : ∀ x ∈ l, EnOk x) : Calls Try.prog 41 #[.slice a l.length cap] w fun e w' => e = .returned (.int .i64 (((entS (0, zer12) l).length : Nat) : Int)) ∧ After w w' := by
  have hall := hid (show entS (0, zer12) (l.take l.length) = entS (0, zer12) l from by rw [List.take_length])
  obtain ⟨G, hG⟩ : ∃ g, (entS (0, zer12) l).length = g := ⟨_, rfl⟩
  rw [hG]
  replace hG := hid hG
  replace hl := hid hl
  replace hE := hid hE
  go_enter Try.func41, Try.ntmps41
  go_upto_region 2 with (fail)
  apply wp_region_seg0 (w := w) (S := [.al 1000]) (E := [.al ((fun p => .pointer (some ⟨p, 0, none⟩)), _) 1000]) rfl (by kernel_rfl) rfl rfl
  intro th hge hne
  refine Seg.step _ rfl ⟨by rfl, fun U hU => ?_⟩ ?_
  · go_simp; exact vp_alloc rfl rfl rfl
  refine ⟨_, by (simp only [Ent.val]; go_simp <;> exact rfl), ?_⟩
  refine Seg.stop (fun U1 hU hk => ?_)
  have nb0 := hge 0 _ _ rfl
  have rb0 := (hk 0 _ _ rfl trivial).1.2 (by simp)
  clear hk hge hne
  generalize th (0 + 0) = p2_0 at *
  dsimp only at rb0
  have r_p2_0 := rb0
  clear rb0
  have n_p2_0 := nb0
  clear nb0
  have sz1 := hU.size
  have hB : Below w.heap.size w U1 := hU
  clear hU
  have np := n_p2_0
  replace hB := hid hB
  have r0 := hid (show U1.heap[p2_0]? = some (.cells (recC 0 zer12) 33 (0, 0)) from r_p2_0)
  clear r_p2_0
  go_wp2_with fail
  go_loopw [3, 9] (fun nv ix wr => ∃ (k n : Nat) (T : Int) (v : List Int), k ≤ l.length ∧ ix = .int .i64 k ∧ nv = .int .i64 n ∧ Hid ((entS (0, zer12) (l.take k)).length = n) ∧ n ≤ 68 * k ∧ Hid (lastR (0, zer12) (l.take k) = (T, v)) ∧ (0 ≤ T ∧ T ≤ 4294967295) ∧ Hid (v.length = 12 ∧ ∀ y ∈ v, -2147483648 ≤ y ∧ y ≤ 2147483647) ∧ wr.heap[p2_0]? = some (.cells (recC T v) 33 (0, 0)) ∧ Below w.heap.size w wr) (fun _ ix _ => l.length - (intOf ix).toNat)
  case atStart => exact ⟨0, 0, 0, zer12, by omega, rfl, rfl, hid rfl, by omega, hid rfl, by omega, hid ⟨rfl, by intro y hy; simp [zer12] at hy; subst hy; decide⟩, r0.out, hB.out⟩
  case round =>
    clear r0 hB
    obtain ⟨k, n, T, v, hk, rfl, rfl, hn, hn68, hla, hT, hv, r0, hB⟩ := hrel
    by_cases hlt : (k : Int) < l.length
    case neg =>
      obtain rfl : k = l.length := by omega
      have e : G = n := by rw [← hG.out, ← hn.out, hall.out]
      subst e
      clear hn hall hG hla hv
      replace r0 := hid r0
      replace hB := hid hB
      go_wp2_with fail
      go_ret
      exact ⟨rfl, hB.out⟩
    obtain ⟨x, hx⟩ : ∃ x, l[k]? = some x := ⟨_, List.getElem?_eq_getElem (show k < l.length by omega)⟩
    have hxo := hl.out x (List.mem_of_getElem? hx)
    have hsn := hid (entS_snoc (0, zer12) (l.take k) x)
    have hls := hid (lastR_snoc (0, zer12) (l.take k) x)
    rw [← take_snocE hx] at hsn hls
    rw [hla.out] at hsn
    have hll := layS_len (st := (T, v)) (x := x) hv.out.2 hxo
    obtain ⟨kb, u, bl⟩ := x
    obtain ⟨hu, hbl, hbb⟩ := hxo
    dsimp only at hu hbl hbb
    obtain ⟨b0, b1, b2, b3, b4, b5, b6, b7, b8, b9, b10, b11, rfl⟩ := list12 hbl
    obtain ⟨hvl, hvb⟩ := hv.out
    obtain ⟨a0, a1, a2, a3, a4, a5, a6, a7, a8, a9, a10, a11, rfl⟩ := list12 hvl
    have kL := hid (fun U => lay_any T u a0 a1 a2 a3 a4 a5 a6 a7 a8 a9 a10 a11 b0 b1 b2 b3 b4 b5 b6 b7 b8 b9 b10 b11 kb U hT hu hvb hbb)
    obtain ⟨bb, off, hab, g0, g1, g2, g3, g4, g5, g6, g7, g8, g9, g10, g11, g12, g13⟩ := (hE.out.below hB).at14 (entsV_at hx)
    obtain ⟨LY, hLY⟩ : ∃ y, layS (T, [a0, a1, a2, a3, a4, a5, a6, a7, a8, a9, a10, a11]) (kb, u, [b0, b1, b2, b3, b4, b5, b6, b7, b8, b9, b10, b11]) = y := ⟨_, rfl⟩
    rw [hLY] at hsn hll kL
    clear hLY
    have hn9 : (entS (0, zer12) (l.take (k + 1))).length = n + LY.length := by rw [hsn.out, List.length_append, hn.out]
    replace hn9 := hid hn9
    obtain ⟨m, hm⟩ : ∃ m, LY.length = m := ⟨_, rfl⟩
    rw [hm] at hll
    have hn8 : n + m ≤ 68 * (k + 1) := by omega
    have hbo := hid (And.intro hbl hbb)
    replace hm := hid hm
    clear hsn hvl hvb hbl hbb hla hv hn
    replace kL := hid kL
    have kz : (0 : Int) ≤ k := by omega
    have wk : IntKind.i64.wrap ((k : Int) + 1) = (k : Int) + 1 := by rw [IntKind.wrap_i64]; omega
    have wn : IntKind.i64.wrap ((n : Int) + (m : Int)) = ((n : Int) + (m : Int)) := by rw [IntKind.wrap_i64]; omega
    have hk1 := hid (show k + 1 ≤ l.length by omega)
    have sB := hB.size
    have l0 := held_lt r0
    have nA := alloc_new wr (.cells #[.bool kb, .int .u32 u, .int .i32 b0, .int .i32 b1, .int .i32 b2, .int .i32 b3, .int .i32 b4, .int .i32 b5, .int .i32 b6, .int .i32 b7, .int .i32 b8, .int .i32 b9, .int .i32 b10, .int .i32 b11] 57)
    have hA := nA.2.1
    have rx := nA.2.2
    have d9 : p2_0 ≠ wr.heap.size := by omega
    have r1 : _ := held_after hA (show wr.heap[p2_0]? = some (.cells #[.int .u32 T, .int .i32 a0, .int .i32 a1, .int .i32 a2, .int .i32 a3, .int .i32 a4, .int .i32 a5, .int .i32 a6, .int .i32 a7, .int .i32 a8, .int .i32 a9, .int .i32 a10, .int .i32 a11] 33 (0, 0)) from r0)
    have hB1 := hid (bthen hB hA)
    clear nA hA r0 hB hk
    subst hab
    go_upto_region 6 with (fail)
    obtain ⟨W1, hW1⟩ : ∃ X, wr.alloc (.cells #[.bool kb, .int .u32 u, .int .i32 b0, .int .i32 b1, .int .i32 b2, .int .i32 b3, .int .i32 b4, .int .i32 b5, .int .i32 b6, .int .i32 b7, .int .i32 b8, .int .i32 b9, .int .i32 b10, .int .i32 b11] 57) = X := ⟨_, rfl⟩
    obtain ⟨px, hpx⟩ : ∃ X, wr.heap.size = X := ⟨_, rfl⟩
    rw [hW1] at rx r1 hB1 ⊢
    rw [hpx] at rx d9 ⊢
    clear hW1 hpx hx g0 g1 g2 g3 g4 g5 g6 g7 g8 g9 g10 g11 g12 g13
    have c0 := held_cell r1 0 _ rfl
    have c1 := held_cell r1 1 _ rfl
    have c2 := held_cell r1 2 _ rfl
    have c3 := held_cell r1 3 _ rfl
    have c4 := held_cell r1 4 _ rfl
    have c5 := held_cell r1 5 _ rfl
    have c6 := held_cell r1 6 _ rfl
    have c7 := held_cell r1 7 _ rfl
    have c8 := held_cell r1 8 _ rfl
    have c9 := held_cell r1 9 _ rfl
    have c10 := held_cell r1 10 _ rfl
    have c11 := held_cell r1 11 _ rfl
    have c12 := held_cell r1 12 _ rfl
    have x0 := held_cell rx 0 _ rfl
    have x1 := held_cell rx 1 _ rfl
    have x2 := held_cell rx 2 _ rfl
    have x3 := held_cell rx 3 _ rfl
    have x4 := held_cell rx 4 _ rfl
    have x5 := held_cell rx 5 _ rfl
    have x6 := held_cell rx 6 _ rfl
    have x7 := held_cell rx 7 _ rfl
    have x8 := held_cell rx 8 _ rfl
    have x9 := held_cell rx 9 _ rfl
    have x10 := held_cell rx 10 _ rfl
    have x11 := held_cell rx 11 _ rfl
    have x12 := held_cell rx 12 _ rfl
    have x13 := held_cell rx 13 _ rfl
    replace r1 := hid r1
    replace rx := hid rx
    go_wp2_with fail
    refine (kL.out _).mono ?_
    rintro e V ⟨qa, qc, rfl, hO, hA⟩
    rw [hm.out]
    have r2 := held_after hA r1.out
    have rx2 := held_after hA rx.out
    have hB2 := bthen hB1.out hA
    clear hO hA hB1 r1 rx kL c0 c1 c2 c3 c4 c5 c6 c7 c8 c9 c10 c11 c12 x0 x1 x2 x3 x4 x5 x6 x7 x8 x9 x10 x11 x12 x13
    have x0 := held_cell rx2 0 _ rfl
    have x1 := held_cell rx2 1 _ rfl
    have x2 := held_cell rx2 2 _ rfl
    have x3 := held_cell rx2 3 _ rfl
    have x4 := held_cell rx2 4 _ rfl
    have x5 := held_cell rx2 5 _ rfl
    have x6 := held_cell rx2 6 _ rfl
    have x7 := held_cell rx2 7 _ rfl
    have x8 := held_cell rx2 8 _ rfl
    have x9 := held_cell rx2 9 _ rfl
    have x10 := held_cell rx2 10 _ rfl
    have x11 := held_cell rx2 11 _ rfl
    have x12 := held_cell rx2 12 _ rfl
    have x13 := held_cell rx2 13 _ rfl
    have y0 := held_cell r2 0 _ rfl
    have y1 := held_cell r2 1 _ rfl
    have y2 := held_cell r2 2 _ rfl
    have y3 := held_cell r2 3 _ rfl
    have y4 := held_cell r2 4 _ rfl
    have y5 := held_cell r2 5 _ rfl
    have y6 := held_cell r2 6 _ rfl
    have y7 := held_cell r2 7 _ rfl
    have y8 := held_cell r2 8 _ rfl
    have y9 := held_cell r2 9 _ rfl
    have y10 := held_cell r2 10 _ rfl
    have y11 := held_cell r2 11 _ rfl
    have y12 := held_cell r2 12 _ rfl
    have f0 := held_free r2 0
    have f1 := held_free r2 1
    have f2 := held_free r2 2
    have f3 := held_free r2 3
    have f4 := held_free r2 4
    have f5 := held_free r2 5
    have f6 := held_free r2 6
    have f7 := held_free r2 7
    have f8 := held_free r2 8
    have f9 := held_free r2 9
    have f10 := held_free r2 10
    have f11 := held_free r2 11
    have f12 := held_free r2 12
    obtain ⟨W4, hW4, ya, yO⟩ := st13 r2 (.int .u32 u) (.int .i32 b0) (.int .i32 b1) (.int .i32 b2) (.int .i32 b3) (.int .i32 b4) (.int .i32 b5) (.int .i32 b6) (.int .i32 b7) (.int .i32 b8) (.int .i32 b9) (.int .i32 b10) (.int .i32 b11)
    have ya2 := hid (show W4.heap[p2_0]? = some (.cells (recC u [b0, b1, b2, b3, b4, b5, b6, b7, b8, b9, b10, b11]) 33 (0, 0)) from ya)
    have hB4 := hid (belowS hB2 yO np)
    clear ya yO r2 rx2 hB2
    go_wp2_with fail
    go_roundw
    case rel => exact ⟨k + 1, n + m, u, [b0, b1, b2, b3, b4, b5, b6, b7, b8, b9, b10, b11], hk1.out, by simp, by simp, hid (by rw [hn9.out, hm.out]), hn8, hls, hu, hbo, ya2.out, hB4.out⟩
    case measure => simp [intOf]; omega

end Go.Proofs.Ytkpncailoekjpaa
