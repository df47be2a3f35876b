/- Stage 33: Lines, Same. -/
import Derived.Test.YtjeiclfdhdcfnaaGap9
import Derived.Test.YtjeiclfdhdcfnaaGap8
import Derived.Test.YtjeiclfdhdcfnaaRegionG
import Derived.Laws.Tables
import Derived.Laws.StructEq
import Derived.Deep.DeepCutAuto
namespace Go.Proofs.Ytjeiclfdhdcfnaa
open Go.ChangeShapes Go.WideShapes Go.ChangeAt Go.RowKit
set_option linter.unusedVariables false
set_option linter.unusedSimpArgs false

theorem els5_at2 {w : World} {a : Option Addr} {len cap i : Nat} {xs : List (List Value)} {v0 v1 v2 v3 v4 : Value} (h : Els w 5 a len cap xs) (hx : xs[i]? = some [v0, v1, v2, v3, v4]) : ∃ b off, a = some ⟨b, off, none⟩ ∧ w.cell? ⟨b, off + i * 5, none⟩ = some v0 ∧ w.cell? ⟨b, off + i * 5 + 1, none⟩ = some v1 ∧ w.cell? ⟨b, off + i * 5 + 2, none⟩ = some v2 ∧ w.cell? ⟨b, off + i * 5 + 3, none⟩ = some v3 ∧ w.cell? ⟨b, off + i * 5 + 4, none⟩ = some v4 := by
  obtain ⟨-, b, off, e, hc⟩ := h.2.2.2.2 i _ hx
  exact ⟨b, off, e, hc 0 _ rfl, hc 1 _ rfl, hc 2 _ rfl, hc 3 _ rfl, hc 4 _ rfl⟩
theorem rlO : CellsOf Try.prog 26 38 5 40 := ⟨Try.underlying26, by kernel_rfl⟩
theorem enL_one (S : List Ln) : ∀ y ∈ S.map enL, ∀ u ∈ y, u.oneCell' = true := by
  intro y hy u hu
  obtain ⟨v, -, rfl⟩ := List.mem_map.1 hy
  simp only [enL, List.mem_cons, List.not_mem_nil, or_false] at hu
  rcases hu with rfl | rfl | rfl | rfl | rfl <;> rfl
theorem enL_m (S : List Ln) : ∀ x ∈ S.map enL, x.length = 5 := by
  intro y hy
  obtain ⟨v, -, rfl⟩ := List.mem_map.1 hy
  rfl
theorem preB33 (N : Nat) : PreO (Below N) := ⟨fun w => Below.refl _ w, fun h k => h.trans k⟩
theorem take_next33 {S : List Ln} {k : Nat} {x : Ln} (h : S[k]? = some x) : S.take (k + 1) = S.take k ++ [x] := by rw [List.take_add_one, h]; rfl
theorem ownE_grown33 {E : TypeId} {N m p : Nat} {w w' : World} {c : Array Value} {T : TypeId} {v : Value} {n : Nat} {xs : List Value} (hO : OwnE E w N m v n xs) (hp : w.heap[p]? = some (.cells c T (0, 0))) (hT : T ≠ E) (hg : w.grownBy w' v.ownBlock) : w'.heap[p]? = some (.cells c T (0, 0)) :=
  (hg.block p (held_lt33 hp) (fun e => hO.ne hp hT e.symm)).trans hp
theorem cellN33 {N : Nat} {w w' : World} (h : Below N w w') {p : Addr} {v : Value} (hp : p.block < N) (hc : w.cell? p = some v) : w'.cell? p = some v := (World.cell?_of_block (w := w) (h.block p.block hp)).trans hc
set_option maxRecDepth 100000 in
set_option maxHeartbeats 8000000 in
theorem lines_any (a : Option Addr) (n cap : Nat) (S : List Ln) (w : World) (hE : Els w 5 a n cap (S.map enL)) (hn : n ≤ 1000) : Calls Try.prog 11 #[.slice a n cap] w fun r w' => ∃ (a2 : Option Addr) (c2 : Nat), r = .returned (.slice a2 n c2) ∧ Els w' 5 a2 n c2 (S.map enL) ∧ After w w' := by
  have hSl := hid (show S.length = n from by have := hE.1; rw [List.length_map] at this; exact this)
  replace hE := hid hE
  have hO0 := hid (OwnE.nil 38 w w.heap.size 5)
  have hA0 := hid (Below.refl w.heap.size w)
  go_enter Try.func11, Try.ntmps11
  go_wp2_with fail
  go_loopw [3, 4] (fun sv ix wr => ∃ (k : Nat) (a2 : Option Addr) (c2 : Nat), ix = .int .i64 k ∧ sv = .slice a2 k c2 ∧ k ≤ n ∧ OwnE 38 wr w.heap.size 5 (.slice a2 k c2) k ((S.take k).map enL).flatten ∧ After w wr) (fun _ ix _ => n - (intOf ix).toNat)
  case atStart => exact ⟨0, none, 0, rfl, rfl, by omega, hO0.out, hA0.out⟩
  case round =>
    clear hO0 hA0
    obtain ⟨k, a2, cc2, rfl, rfl, hk, hO, hA⟩ := hrel
    by_cases hlt : (k : Int) < n
    case neg =>
      obtain rfl : k = n := by omega
      have e9 : S.take k = S := List.take_of_length_le (by have := hSl.out; omega)
      rw [e9] at hO
      have hEf := hid (hO.els (by rw [List.length_map]; exact hSl.out) (enL_m S))
      replace hA := hid hA
      clear hO e9
      go_wp2_with fail
      go_ret
      exact ⟨_, _, rfl, hEf.out, hA.out⟩
    obtain ⟨x, hx⟩ : ∃ x, S[k]? = some x := ⟨_, List.getElem?_eq_getElem (by have := hSl.out; omega)⟩
    have hxk : (S.map enL)[k]? = some (enL x) := by rw [List.getElem?_map, hx]; rfl
    have htn := hid (take_next33 hx)
    obtain ⟨b, o, rfl, g0, g1, g2, g3, g4⟩ := els5_at2 (hE.out.below hA) hxk
    have hbw : b < w.heap.size := by
      obtain ⟨b5, o5, e5, q0, -⟩ := els5_at2 hE.out hxk
      cases e5
      exact World.block_lt_of_cell? w _ q0
    have kz : (0 : Int) ≤ k := by omega
    have wk : IntKind.i64.wrap ((k : Int) + 1) = (k : Int) + 1 := by rw [IntKind.wrap_i64]; omega
    have hk1 := hid (show k + 1 ≤ n by omega)
    have hms := hid (show n - (k + 1) < n - k by omega)
    have hk16 : k ≤ 1000 := by omega
    replace hO := hid hO
    clear hx hxk hk
    go_upto_region 5 with (fail)
    have c0 := (show wr.drew.cell? _ = _ from g0)
    have c1 := (show wr.drew.cell? _ = _ from g1)
    have c2 := (show wr.drew.cell? _ = _ from g2)
    have c3 := (show wr.drew.cell? _ = _ from g3)
    have c4 := (show wr.drew.cell? _ = _ from g4)
    have oQ := hid (show OwnE _ wr.drew _ _ _ _ _ from hO.out)
    have hAQ := hid (show After w wr.drew from hA.drew)
    obtain ⟨QQ, hQQ⟩ : ∃ X, wr.drew = X := ⟨_, rfl⟩
    rw [hQQ] at oQ hAQ
    skip
    clear hO hA g0 g1 g2 g3 g4
    obtain ⟨xy, xc, xq, xh, xl⟩ := x
    have d0 : QQ.cell? ⟨b, o + k * 5, none⟩ = some (.int .i64 xy) := by rw [← hQQ]; exact c0
    have d1 : QQ.cell? ⟨b, o + k * 5 + 1, none⟩ = some (.int .i64 xc) := by rw [← hQQ]; exact c1
    have d2 : QQ.cell? ⟨b, o + k * 5 + 2, none⟩ = some (.int .i64 xq) := by rw [← hQQ]; exact c2
    have d3 : QQ.cell? ⟨b, o + k * 5 + 3, none⟩ = some (.int .i64 xh) := by rw [← hQQ]; exact c3
    have d4 : QQ.cell? ⟨b, o + k * 5 + 4, none⟩ = some (.int .i64 xl) := by rw [← hQQ]; exact c4
    clear c0 c1 c2 c3 c4
    refine wp_region_G (Below w.heap.size) 29 (by kernel_rfl) ?_
    rw [hQQ]
    refine wpAnyG_takeP (preB33 _) 0 rfl (by kernel_rfl) (by kernel_rfl) (by kernel_rfl) (fun _ _ _ _ h => h) ⟨_, Or.inl ⟨by rfl, fun w2 _ => by (go_simp; try with_reducible rfl)⟩, _, by (go_simp; try rfl), ?_⟩
    refine wpAnyG_takeP (preB33 _) 1 rfl (by kernel_rfl) (by kernel_rfl) (by kernel_rfl) (fun _ _ _ _ h => h) ⟨_, Or.inl ⟨by rfl, fun w2 _ => by (go_simp; try with_reducible rfl)⟩, _, by (go_simp; try rfl), ?_⟩
    refine wpAnyG_takeP (preB33 _) 2 rfl (by kernel_rfl) (by kernel_rfl) (by kernel_rfl) (fun _ _ _ _ h => h) ⟨_, Or.inl ⟨by rfl, fun w2 _ => by (go_simp; try with_reducible rfl)⟩, _, by (go_simp; try rfl), ?_⟩
    refine wpAnyG_takeP (preB33 _) 3 rfl (by kernel_rfl) (by kernel_rfl) (by kernel_rfl) (fun _ _ _ _ h => h) ⟨_, Or.inl ⟨by rfl, fun w2 _ => by (go_simp; try with_reducible rfl)⟩, _, by (go_simp; try rfl), ?_⟩
    refine wpAnyG_takeP (preB33 _) 4 rfl (by kernel_rfl) (by kernel_rfl) (by kernel_rfl) (fun _ _ _ _ h => h) ⟨_, Or.inl ⟨by rfl, fun w2 _ => by (go_simp; try with_reducible rfl)⟩, _, by (go_simp; try rfl), ?_⟩
    refine wpAnyG_take (preB33 _) 5 rfl (by kernel_rfl) (by kernel_rfl) (by kernel_rfl) (by kernel_rfl) (fun _ _ _ _ h => h) ⟨_, Or.inl ⟨by rfl, fun w2 hb2 => by (have h0 := (cellN33 hb2 hbw d0); go_simp; try with_reducible rfl)⟩, _, by (go_simp; try rfl), ?_⟩
    refine wpAnyG_takeP (preB33 _) 6 rfl (by kernel_rfl) (by kernel_rfl) (by kernel_rfl) (fun _ _ _ _ h => h) ⟨_, Or.inl ⟨by rfl, fun w2 _ => by (go_simp; try with_reducible rfl)⟩, _, by (go_simp; try rfl), ?_⟩
    refine wpAnyG_takeP (preB33 _) 7 rfl (by kernel_rfl) (by kernel_rfl) (by kernel_rfl) (fun _ _ _ _ h => h) ⟨_, Or.inl ⟨by rfl, fun w2 _ => by (go_simp; try with_reducible rfl)⟩, _, by (go_simp; try rfl), ?_⟩
    refine wpAnyG_takeP (preB33 _) 8 rfl (by kernel_rfl) (by kernel_rfl) (by kernel_rfl) (fun _ _ _ _ h => h) ⟨_, Or.inl ⟨by rfl, fun w2 _ => by (go_simp; try with_reducible rfl)⟩, _, by (go_simp; try rfl), ?_⟩
    refine wpAnyG_takeP (preB33 _) 9 rfl (by kernel_rfl) (by kernel_rfl) (by kernel_rfl) (fun _ _ _ _ h => h) ⟨_, Or.inl ⟨by rfl, fun w2 _ => by (go_simp; try with_reducible rfl)⟩, _, by (go_simp; try rfl), ?_⟩
    refine wpAnyG_take (preB33 _) 10 rfl (by kernel_rfl) (by kernel_rfl) (by kernel_rfl) (by kernel_rfl) (fun _ _ _ _ h => h) ⟨_, Or.inl ⟨by rfl, fun w2 hb2 => by (have h1 := (cellN33 hb2 hbw d1); go_simp; try with_reducible rfl)⟩, _, by (go_simp; try rfl), ?_⟩
    refine wpAnyG_takeP (preB33 _) 11 rfl (by kernel_rfl) (by kernel_rfl) (by kernel_rfl) (fun _ _ _ _ h => h) ⟨_, Or.inl ⟨by rfl, fun w2 _ => by (go_simp; try with_reducible rfl)⟩, _, by (go_simp; try rfl), ?_⟩
    refine wpAnyG_takeP (preB33 _) 12 rfl (by kernel_rfl) (by kernel_rfl) (by kernel_rfl) (fun _ _ _ _ h => h) ⟨_, Or.inl ⟨by rfl, fun w2 _ => by (go_simp; try with_reducible rfl)⟩, _, by (go_simp; try rfl), ?_⟩
    refine wpAnyG_takeP (preB33 _) 13 rfl (by kernel_rfl) (by kernel_rfl) (by kernel_rfl) (fun _ _ _ _ h => h) ⟨_, Or.inl ⟨by rfl, fun w2 _ => by (go_simp; try with_reducible rfl)⟩, _, by (go_simp; try rfl), ?_⟩
    refine wpAnyG_takeP (preB33 _) 14 rfl (by kernel_rfl) (by kernel_rfl) (by kernel_rfl) (fun _ _ _ _ h => h) ⟨_, Or.inl ⟨by rfl, fun w2 _ => by (go_simp; try with_reducible rfl)⟩, _, by (go_simp; try rfl), ?_⟩
    refine wpAnyG_take (preB33 _) 15 rfl (by kernel_rfl) (by kernel_rfl) (by kernel_rfl) (by kernel_rfl) (fun _ _ _ _ h => h) ⟨_, Or.inl ⟨by rfl, fun w2 hb2 => by (have h2 := (cellN33 hb2 hbw d2); go_simp; try with_reducible rfl)⟩, _, by (go_simp; try rfl), ?_⟩
    refine wpAnyG_takeP (preB33 _) 16 rfl (by kernel_rfl) (by kernel_rfl) (by kernel_rfl) (fun _ _ _ _ h => h) ⟨_, Or.inl ⟨by rfl, fun w2 _ => by (go_simp; try with_reducible rfl)⟩, _, by (go_simp; try rfl), ?_⟩
    refine wpAnyG_takeP (preB33 _) 17 rfl (by kernel_rfl) (by kernel_rfl) (by kernel_rfl) (fun _ _ _ _ h => h) ⟨_, Or.inl ⟨by rfl, fun w2 _ => by (go_simp; try with_reducible rfl)⟩, _, by (go_simp; try rfl), ?_⟩
    refine wpAnyG_takeP (preB33 _) 18 rfl (by kernel_rfl) (by kernel_rfl) (by kernel_rfl) (fun _ _ _ _ h => h) ⟨_, Or.inl ⟨by rfl, fun w2 _ => by (go_simp; try with_reducible rfl)⟩, _, by (go_simp; try rfl), ?_⟩
    refine wpAnyG_takeP (preB33 _) 19 rfl (by kernel_rfl) (by kernel_rfl) (by kernel_rfl) (fun _ _ _ _ h => h) ⟨_, Or.inl ⟨by rfl, fun w2 _ => by (go_simp; try with_reducible rfl)⟩, _, by (go_simp; try rfl), ?_⟩
    refine wpAnyG_take (preB33 _) 20 rfl (by kernel_rfl) (by kernel_rfl) (by kernel_rfl) (by kernel_rfl) (fun _ _ _ _ h => h) ⟨_, Or.inl ⟨by rfl, fun w2 hb2 => by (have h3 := (cellN33 hb2 hbw d3); go_simp; try with_reducible rfl)⟩, _, by (go_simp; try rfl), ?_⟩
    refine wpAnyG_takeP (preB33 _) 21 rfl (by kernel_rfl) (by kernel_rfl) (by kernel_rfl) (fun _ _ _ _ h => h) ⟨_, Or.inl ⟨by rfl, fun w2 _ => by (go_simp; try with_reducible rfl)⟩, _, by (go_simp; try rfl), ?_⟩
    refine wpAnyG_takeP (preB33 _) 22 rfl (by kernel_rfl) (by kernel_rfl) (by kernel_rfl) (fun _ _ _ _ h => h) ⟨_, Or.inl ⟨by rfl, fun w2 _ => by (go_simp; try with_reducible rfl)⟩, _, by (go_simp; try rfl), ?_⟩
    refine wpAnyG_takeP (preB33 _) 23 rfl (by kernel_rfl) (by kernel_rfl) (by kernel_rfl) (fun _ _ _ _ h => h) ⟨_, Or.inl ⟨by rfl, fun w2 _ => by (go_simp; try with_reducible rfl)⟩, _, by (go_simp; try rfl), ?_⟩
    refine wpAnyG_takeP (preB33 _) 24 rfl (by kernel_rfl) (by kernel_rfl) (by kernel_rfl) (fun _ _ _ _ h => h) ⟨_, Or.inl ⟨by rfl, fun w2 _ => by (go_simp; try with_reducible rfl)⟩, _, by (go_simp; try rfl), ?_⟩
    refine wpAnyG_take (preB33 _) 25 rfl (by kernel_rfl) (by kernel_rfl) (by kernel_rfl) (by kernel_rfl) (fun _ _ _ _ h => h) ⟨_, Or.inl ⟨by rfl, fun w2 hb2 => by (have h4 := (cellN33 hb2 hbw d4); go_simp; try with_reducible rfl)⟩, _, by (go_simp; try rfl), ?_⟩
    refine wpAnyG_takeP (preB33 _) 26 rfl (by kernel_rfl) (by kernel_rfl) (by kernel_rfl) (fun _ _ _ _ h => h) ⟨_, Or.inl ⟨by rfl, fun w2 _ => by (go_simp; try with_reducible rfl)⟩, _, by (go_simp; try rfl), ?_⟩
    refine wpAnyG_only 27 rfl (by kernel_rfl) (by rfl) (fun K hK => ?_)
    go_simp
    have hE2 : Els (QQ.alloc (.cells #[.int .i64 xy, .int .i64 xc, .int .i64 xq, .int .i64 xh, .int .i64 xl] 38)) 5 (some ⟨QQ.heap.size, 0, none⟩) 1 1 [enL ⟨xy, xc, xq, xh, xl⟩] := els_one QQ _ 38 5 rfl
    have hA1 := (alloc_new QQ (.cells #[.int .i64 xy, .int .i64 xc, .int .i64 xq, .int .i64 xh, .int .i64 xl] 38)).2.1
    obtain ⟨X6, hX6⟩ : ∃ X, QQ.alloc (.cells #[.int .i64 xy, .int .i64 xc, .int .i64 xq, .int .i64 xh, .int .i64 xl] 38) = X := ⟨_, rfl⟩
    rw [hX6] at hA1 hE2 ⊢
    obtain ⟨pq, hpq⟩ : ∃ X, QQ.heap.size = X := ⟨_, rfl⟩
    rw [hpq] at hE2 ⊢
    have o6 := hid (oQ.out.below hA1)
    have hAx := hid (bthen hAQ.out hA1)
    have hbx : Below w.heap.size QQ X6 := Below.mono hA1 hAQ.out.size
    replace hE2 := hid hE2
    clear hX6 hpq hA1
    refine hK _ _ ⟨fun _ => hbx, ?_⟩
    clear hK
    clear hbx
    refine wpAnyG_only 28 rfl (by kernel_rfl) (by rfl) (fun K hK => ?_)
    have hbs : w.heap.size ≤ X6.heap.size := hAx.out.size
    refine wp_appE (.tmp 11) (.tmp 38) 26 rfl w.heap.size 38 5 40 rlO (by decide) (.slice a2 k cc2) k ((S.take k).map enL).flatten rfl o6.out (some ⟨pq, 0, none⟩) 1 1 [enL ⟨xy, xc, xq, xh, xl⟩] rfl hE2.out (enL_one [⟨xy, xc, xq, xh, xl⟩]) (by unfold maxLen; omega) (by omega) hbs ?_
    intro a9 c9 W9 hO9 hG9 hN9
    have hby : Below w.heap.size X6 W9 := (Below.refl _ X6).grown hG9 hbs (fun g e => (o6.out.lt g e).1)
    have hA9 := hid (show After w W9 from (show Below w.heap.size w X6 from hAx.out).trans hby)
    have hO10 := hid (show OwnE 38 W9 w.heap.size 5 (.slice a9 (k + 1) c9) (k + 1) ((S.take (k + 1)).map enL).flatten from by rw [htn.out, List.map_append, List.flatten_append]; exact hO9)
    clear hO9 hG9 hN9 o6 hE2 hAx hbs
    refine hK _ _ ⟨fun _ => hby, ?_⟩
    clear hK
    clear hby
    refine wpAnyG_only 29 rfl (by kernel_rfl) (by rfl) (fun K hK => ?_)
    go_simp
    refine hK _ _ ⟨fun h => (h rfl).elim, ?_⟩
    clear hK
    refine wpAnyG_done (by kernel_rfl) ?_ _
    clear d0 d1 d2 d3 d4 hQQ oQ hAQ
    go_wp2_with fail
    go_roundw
    case rel => exact ⟨k + 1, a9, c9, by simp, rfl, hk1.out, hO10.out, hA9.out⟩
    case measure => simp [intOf]; have := hms.out; omega
set_option maxRecDepth 100000 in
set_option maxHeartbeats 4000000 in
theorem eqL33 (a b c d e : Int) (w : World) : (Op.equalIn 10000 38 (.agg #[.int .i64 a, .int .i64 b, .int .i64 c, .int .i64 d, .int .i64 e]) (.agg #[.int .i64 a, .int .i64 b, .int .i64 c, .int .i64 d, .int .i64 e])).run Try.prog w = .ok true w := by
  rw [show (10000 : Nat) = 9999 + 1 from rfl, run_equalIn_agg w 9999 _ _ _ (by kernel_rfl) (by kernel_rfl)]
  go_simp
set_option maxRecDepth 100000 in
set_option maxHeartbeats 8000000 in
theorem same33_any (a1 a2 : Option Addr) (c1 c2 m : Nat) (S : List Ln) (w : World) (hm : S.length = m) (h1 : Els w 5 a1 m c1 (S.map enL)) (h2 : Els w 5 a2 m c2 (S.map enL)) (hb : m ≤ 100000) : Calls Try.prog 10 #[.slice a1 m c1, .slice a2 m c2] w fun e w' => e = .returned (.bool true) ∧ After w w' := by
  replace h1 := hid h1
  replace h2 := hid h2
  replace hm := hid hm
  go_enter Try.func10, Try.ntmps10
  go_upto_region 0 with (fail)
  go_wp2_with fail
  go_loopw [5] (fun ix wr => ∃ k : Nat, k ≤ m ∧ ix = .int .i64 k ∧ After w wr) (fun ix _ => m - (intOf ix).toNat)
  case atStart => exact ⟨0, by omega, rfl, Below.refl _ _⟩
  case round =>
    obtain ⟨k, hk, rfl, hA⟩ := hrel
    by_cases hlt : (k : Int) < m
    case neg =>
      replace hA := hid hA
      go_wp2_with fail
      go_ret
      exact ⟨rfl, hA.out⟩
    obtain ⟨x, hx⟩ : ∃ x, S[k]? = some x := ⟨_, List.getElem?_eq_getElem (show k < S.length by have := hm.out; omega)⟩
    have hxk : (S.map enL)[k]? = some (enL x) := by rw [List.getElem?_map, hx]; rfl
    obtain ⟨xy, xc, xq, xh, xl⟩ := x
    obtain ⟨p1, o1, e1, g0, g1, g2, g3, g4⟩ := els5_at2 (h1.out.below hA) hxk
    obtain ⟨p2, o2, e2, q0, q1, q2, q3, q4⟩ := els5_at2 (h2.out.below hA) hxk
    cases e1
    cases e2
    have kz : (0 : Int) ≤ k := by omega
    have wk : IntKind.i64.wrap ((k : Int) + 1) = (k : Int) + 1 := by rw [IntKind.wrap_i64]; omega
    have hk1 := hid (show k + 1 ≤ m by omega)
    have eqx := fun W => eqL33 xy xc xq xh xl W
    have hA2 := hid hA.drew
    clear hx hxk hA hk
    go_upto_region 6 with (fail)
    refine wp_region_R (by kernel_rfl) ?_
    refine wpAnyR_take 0 rfl (by kernel_rfl) (by kernel_rfl) (by kernel_rfl) (fun _ _ _ _ h => h) ⟨_, Or.inl ⟨by rfl, fun w2 hb2 => by (go_simp; try with_reducible rfl)⟩, _, by (go_simp; try rfl), ?_⟩
    refine wpAnyR_take 1 rfl (by kernel_rfl) (by kernel_rfl) (by kernel_rfl) (fun _ _ _ _ h => h) ⟨_, Or.inl ⟨by rfl, fun w2 hb2 => by (go_simp; try with_reducible rfl)⟩, _, by (go_simp; try rfl), ?_⟩
    refine wpAnyR_take 2 rfl (by kernel_rfl) (by kernel_rfl) (by kernel_rfl) (fun _ _ _ _ h => h) ⟨_, Or.inl ⟨by rfl, fun w2 hb2 => by (go_simp; try with_reducible rfl)⟩, _, by (go_simp; try rfl), ?_⟩
    refine wpAnyR_take 3 rfl (by kernel_rfl) (by kernel_rfl) (by kernel_rfl) (fun _ _ _ _ h => h) ⟨_, Or.inl ⟨by rfl, fun w2 hb2 => by (have h0 := (Below.cell hb2 (World.block_lt_of_cell? wr _ g0)).trans g0; have h1 := (Below.cell hb2 (World.block_lt_of_cell? wr _ g1)).trans g1; have h2 := (Below.cell hb2 (World.block_lt_of_cell? wr _ g2)).trans g2; have h3 := (Below.cell hb2 (World.block_lt_of_cell? wr _ g3)).trans g3; have h4 := (Below.cell hb2 (World.block_lt_of_cell? wr _ g4)).trans g4; go_simp; try with_reducible rfl)⟩, _, by (go_simp; try rfl), ?_⟩
    refine wpAnyR_take 4 rfl (by kernel_rfl) (by kernel_rfl) (by kernel_rfl) (fun _ _ _ _ h => h) ⟨_, Or.inl ⟨by rfl, fun w2 hb2 => by (go_simp; try with_reducible rfl)⟩, _, by (go_simp; try rfl), ?_⟩
    refine wpAnyR_take 5 rfl (by kernel_rfl) (by kernel_rfl) (by kernel_rfl) (fun _ _ _ _ h => h) ⟨_, Or.inl ⟨by rfl, fun w2 hb2 => by (go_simp; try with_reducible rfl)⟩, _, by (go_simp; try rfl), ?_⟩
    refine wpAnyR_take 6 rfl (by kernel_rfl) (by kernel_rfl) (by kernel_rfl) (fun _ _ _ _ h => h) ⟨_, Or.inl ⟨by rfl, fun w2 hb2 => by (go_simp; try with_reducible rfl)⟩, _, by (go_simp; try rfl), ?_⟩
    refine wpAnyR_take 7 rfl (by kernel_rfl) (by kernel_rfl) (by kernel_rfl) (fun _ _ _ _ h => h) ⟨_, Or.inl ⟨by rfl, fun w2 hb2 => by (have h0 := (Below.cell hb2 (World.block_lt_of_cell? wr _ q0)).trans q0; have h1 := (Below.cell hb2 (World.block_lt_of_cell? wr _ q1)).trans q1; have h2 := (Below.cell hb2 (World.block_lt_of_cell? wr _ q2)).trans q2; have h3 := (Below.cell hb2 (World.block_lt_of_cell? wr _ q3)).trans q3; have h4 := (Below.cell hb2 (World.block_lt_of_cell? wr _ q4)).trans q4; go_simp; try with_reducible rfl)⟩, _, by (go_simp; try rfl), ?_⟩
    refine wpAnyR_take 8 rfl (by kernel_rfl) (by kernel_rfl) (by kernel_rfl) (fun _ _ _ _ h => h) ⟨_, Or.inl ⟨by rfl, fun w2 hb2 => by (go_simp; try with_reducible rfl)⟩, _, by (go_simp; try rfl), ?_⟩
    refine wpAnyR_done (by kernel_rfl) ?_ _
    clear eqx
    go_wp2_with fail
    go_roundw
    case rel => exact ⟨k + 1, hk1.out, by simp, hA2.out⟩
    case measure => simp [intOf]; omega

end Go.Proofs.Ytjeiclfdhdcfnaa
