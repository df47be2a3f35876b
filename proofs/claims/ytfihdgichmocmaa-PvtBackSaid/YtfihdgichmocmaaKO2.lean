/- Several texts in one: Octet4, Octet5, Octet7, Octet8. -/
import Derived.Test.YtfihdgichmocmaaOctet3
import Derived.Test.YtfihdgichmocmaaKB
import Derived.RegionTactic
import Derived.ChangeAlike
import Derived.Deep.DeepCutAuto
import Derived.Laws.BitsAllLaws
import Derived.Laws.ShiftsVarLaws

/- Package octet: writing numbers. -/
namespace Go.Proofs.Ytfihdgichmocmaa
open Go.ChangeShapes Go.WideShapes Go.ChangeAt Go.RowKit Go.Shelf
set_option linter.unusedVariables false

def bytesL (u : Int) (n : Nat) : List Int := (lowL u n).map (fun x => x.1)
theorem wfail_good (B : Nat) (v : Value) (w : World) (hB : w.heap[B]? = some (.cells #[.bool true, v, .bool false] 97 (0, 0))) : Calls Try.prog 60 #[.pointer (some ⟨B, 0, none⟩)] w fun e w' => e = .returned (.bool false) ∧ w' = w := by
  have h0 := held_cell hB 0 _ rfl
  have h2 := held_cell hB 2 _ rfl
  go_enter Try.func60, Try.ntmps60
  go_wp2_with fail
  go_ret
  exact ⟨rfl, rfl⟩
theorem rfail_good (B : Nat) (v : Value) (w : World) (hB : w.heap[B]? = some (.cells #[.bool true, v, .bool false] 101 (0, 0))) : Calls Try.prog 77 #[.pointer (some ⟨B, 0, none⟩)] w fun e w' => e = .returned (.bool false) ∧ w' = w := by
  have h0 := held_cell hB 0 _ rfl
  have h2 := held_cell hB 2 _ rfl
  go_enter Try.func77, Try.ntmps77
  go_wp2_with fail
  go_ret
  exact ⟨rfl, rfl⟩

theorem held_mark {W : World} {D g : Nat} {c : Array Value} {T : TypeId} {f : Nat × Nat} (h : W.heap[g]? = some (.cells c T f)) (hK : W.heap[D]? = some (.deferred (some []))) (o : Obj) : (W.putObj D o).heap[g]? = some (.cells c T f) := by
  rw [World.putObj_heap_other (fun e => by subst e; rw [h] at hK; cases hK)]; exact h
theorem RX.alloc (X : Option Nat) (w : World) (o : Obj) : RX X w (w.alloc o) := ⟨by simp, fun k hk _ => Below.heap_alloc _ _ _ hk⟩
theorem RX.of_grown {X : Option Nat} {w w2 : World} (h : w.grownBy w2 X) : RX X w w2 := ⟨h.size, fun k hk hne => h.block k hk hne⟩
theorem wpIn_region_T {P : Program} {ops : Array Oper} {Q : Exit → Act → World → Prop} {l n : Nat} {id : Nat} {a : Act} {w : World} (X : Option Nat) (last : Nat) (hd : noDefer ops = true) (hQ : ¬ LetsOut Q) (hm : P.follows .mixedOrders = true)
    (h : wpAnyT P .any X last ops Q ops.size (Array.replicate ops.size false) a w.drew) : (Code.region id ops true).wpIn (Fence.wide.inRound l) n P Q a w :=
  wpIn_region_any hm (wpAnyIn_of_plain hd hQ _ _ _ _ (wpAny_of_T _ _ _ _ h))

/-- Only this writer's blocks, and those from B0 on, are changed. -/
def Bw (B B0 : Nat) (w w' : World) : Prop := Below B0 w w' ∧ Owp B 1 w w'
/-- What a writer has: these bytes, in a slice of its own. -/
def Wr (B base : Nat) (w : World) (zs : List Int) : Prop := ∃ (a : Option Addr) (cap : Nat), w.heap[B]? = some (.cells #[.bool true, .slice a zs.length cap, .bool false] 97 (0, 0)) ∧ Own .u8 5 w base (.slice a zs.length cap) zs

attribute [local go_sem] Oper.semAt_some
set_option maxRecDepth 100000 in
set_option maxHeartbeats 4000000 in
theorem put_good (B base B0 : Nat) (zs : List Int) (n : Nat) (hn : n ≤ 8) (u : Int) (hu0 : 0 ≤ u) (hu1 : u ≤ 18446744073709551615) (w : World) (hW : Wr B base w zs) (hl : zs.length ≤ 1000000) (h1 : B0 ≤ B) (h2 : B0 ≤ base) (h3 : base ≤ w.heap.size) :
    Calls Try.prog 73 #[.pointer (some ⟨B, 0, none⟩), .int .i64 (n : Int), .int .u64 u, .bool true] w fun e w' => e = .returned (.tuple #[]) ∧ Wr B base w' (zs ++ bytesL u n) ∧ Bw B B0 w w' ∧ ∀ k, k < base → k ≠ B → w'.heap[k]? = w.heap[k]? := by
  obtain ⟨a0, cap0, hH, hO⟩ := hW
  refine calls_of_marks Try.func73 rfl ?_
  simp only [Try.ntmps73, List.size_toArray, List.length_cons, List.length_nil, Nat.reduceAdd, Nat.reduceSub, Array.replicate_succ, Array.replicate_zero, List.push_toArray, List.append_toArray, List.nil_append, List.cons_append]
  have hBl := held_lt hH
  have hA : After w (w.alloc (.cells #[.pointer (some ⟨B, 0, none⟩)] 66)) := (Below.refl _ w).alloc (Nat.le_refl _) _
  have kF := wfail_good B _ _ (held_after hA hH)
  replace hH := hid hH
  replace hO := hid hO
  go_wp2_with fail
  refine kF.mono ?_
  rintro e w1 ⟨rfl, rfl⟩
  go_wp2_with fail
  refine (low_any _ _ _).mono ?_
  rintro e w3 ⟨rfl, rfl⟩
  go_wp2_with fail
  clear kF hA
  obtain ⟨q4, qN, qU, qz, qA⟩ := three_new w (.cells #[.pointer (some ⟨B, 0, none⟩)] 66) (.cells #[.int .i64 (n : Int)] 3) (.cells #[.int .u64 u] 79)
  have hH0 := held_after qA hH.out
  have hO0 := hO.out.below qA
  have hB1 : Below B0 w _ := Below.mono qA (Nat.le_trans h2 h3)
  have hF0 : ∀ k, k < w.heap.size → _ := fun k hk => Below.block qA k hk
  have kp0 : Owp B 1 w _ := Owp.after hBl qA
  clear hH hO
  generalize hs : w.heap.size = g at *
  replace hs := hid hs
  generalize ((w.alloc (.cells #[.pointer (some ⟨B, 0, none⟩)] 66)).alloc (.cells #[.int .i64 (n : Int)] 3)).alloc (.cells #[.int .u64 u] 79) = W0 at *
  clear qA
  have hBg : g + 1 < W0.heap.size := by omega
  have hCg : g + 1 + 1 < W0.heap.size := by omega
  refine wp_rangeFunc_F (gf := 78) (lb := #[.pointer (some ⟨(g + 1), 0, none⟩), .pointer (some ⟨(g + 1 + 1), 0, none⟩)]) rfl (enters_of Try.func78 (by kernel_rfl) rfl) (low_stops 8 n hn u hu0 hu1 (g + 1) (g + 1 + 1) W0 hBg hCg (held_cell qN 0 _ rfl) (held_cell qU 0 _ rfl)) (fun h k => ⟨kpAt_t h.1 k.1, kpAt_t h.2 k.2⟩) (fun W l o o2 h1 h2 h3 h4 => ⟨kpAt_b hBg W l o o2 h1 h2 h3 h4, kpAt_b hCg W l o o2 h1 h2 h3 h4⟩) (Below.refl _ _) (fun _ => rfl)
    (fun pre W => ∃ (a : Option Addr) (cap : Nat), W.heap[B]? = some (.cells #[.bool true, .slice a (zs ++ pre.map (fun x => x.1)).length cap, .bool false] 97 (0, 0)) ∧ Own .u8 5 W base (.slice a (zs ++ pre.map (fun x => x.1)).length cap) (zs ++ pre.map (fun x => x.1)) ∧ W.heap[g]? = some (.cells #[.pointer (some ⟨B, 0, none⟩)] 66 (0, 0)) ∧ W.heap[g + 1]? = some (.cells #[.int .i64 (n : Int)] 3 (0, 0)) ∧ W.heap[g + 1 + 1]? = some (.cells #[.int .u64 u] 79 (0, 0)) ∧ Below B0 w W ∧ base ≤ W.heap.size ∧ (∀ k, k < base → k ≠ B → W.heap[k]? = w.heap[k]?) ∧ Owp B 1 w W) (fun _ _ _ => False) ?own ?ownx ?start (fun x => { tmps := #[.pointer (some ⟨B, 0, none⟩), .int .i64 (n : Int), .int .u64 u, .bool true, .pointer (some ⟨g, 0, none⟩), undef, undef, undef, .int .u8 x.1, .pointer (some ⟨B, 0, none⟩), .bool false, .bool true, .bool false, undef, undef, undef, undef, undef, undef, undef, undef, .int .i64 (n : Int), .int .u64 u, .func (.func 78) #[] #[.pointer (some ⟨(g + 1), 0, none⟩), .pointer (some ⟨(g + 1 + 1), 0, none⟩)], .int .u8 x.1, undef, undef, undef, undef, undef, undef, undef, undef, undef, undef, undef, undef], defers := [] }) ?assign ?body ?done ?stop
  case own =>
    rintro pre A C row ⟨ad, cap, k1, k2, k3, k4, k5, k6, k7, k8, k9⟩ hg hr
    exact ⟨ad, cap, keeps_row k1 rfl hg hr, keeps_own k2 hg hr, keeps_row k3 rfl hg hr, keeps_row k4 rfl hg hr, keeps_row k5 rfl hg hr, keeps_below k6 (by omega) (by omega) hg hr, Nat.le_trans k7 hg.size, fun k hk hne => (hg.block k (by omega) (fun e => by have := (hr k e.symm).1; omega)).trans (k8 k hk hne), Owp.row hg (held_lt k1) (fun k e => (hr k e).1) k9 (by omega) (by have := hs.out; omega)⟩
  case ownx => exact fun _ _ _ _ _ h _ _ => h
  case start => exact ⟨a0, cap0, by simpa using hH0, by simpa using hO0, q4, qN, qU, hB1, by omega, fun k hk _ => hF0 k (by omega), kp0⟩
  case assign =>
    intro l i W K hK
    gi_wp2
    exact hK
  case stop =>
    rintro D c pre W _ _ h _
    exact h.elim
  case body =>
    rintro l pre x W ⟨ad, cap, hH, hO, h4, hN, hU, hB, hb, hF, hP⟩ hlen
    dsimp only
    apply wpIn_block
    have hnx := hid (show zs ++ (pre ++ [x]).map (fun x => x.1) = (zs ++ pre.map (fun x => x.1)) ++ [x.1] by simp)
    have hzl : (zs ++ pre.map (fun x => x.1)).length + 1 ≤ 140737488355328 / 1 := by rw [List.length_append, List.length_map]; omega
    generalize zs ++ pre.map (fun x => x.1) = ys at *
    obtain ⟨c, hc⟩ : ∃ c, x.1 = c := ⟨_, rfl⟩
    rw [hc] at hnx ⊢
    have nB := own_ne hO hH (by decide)
    have n4 := own_ne hO h4 (by decide)
    have nN := own_ne hO hN (by decide)
    have nU := own_ne hO hU (by decide)
    have hN0 := hid hN
    have hU0 := hid hU
    have c4 := held_cell h4 0 _ rfl
    have cB := held_cell hH 1 _ rfl
    clear hc
    replace hB := hid hB
    replace hO := hid hO
    replace hN := hid hN
    replace hU := hid hU
    replace nN := hid nN
    replace nU := hid nU
    refine wpIn_region_T (Value.ownBlock (.slice ad ys.length cap)) 12 (by kernel_rfl) (fun ⟨_, _, h⟩ => h) (by kernel_rfl) ?_
    refine wpAnyT_take 0 rfl (by kernel_rfl) (by kernel_rfl) (by kernel_rfl) (by kernel_rfl) (fun _ _ _ _ h => h) ⟨_, Or.inl ⟨by rfl, fun w2 hb2 => by (have hx := hb2.cell (show W.drew.cell? _ = _ from c4) n4; go_simp; try with_reducible rfl)⟩, _, by (go_simp; try rfl), ?_⟩
    refine wpAnyT_take 1 rfl (by kernel_rfl) (by kernel_rfl) (by kernel_rfl) (by kernel_rfl) (fun _ _ _ _ h => h) ⟨_, Or.inl ⟨by rfl, fun w2 hb2 => by (have hx := hb2.cell (show W.drew.cell? _ = _ from c4) n4; go_simp; try with_reducible rfl)⟩, _, by (go_simp; try rfl), ?_⟩
    refine wpAnyT_takeP 2 rfl (by kernel_rfl) (by kernel_rfl) (by kernel_rfl) (fun _ _ _ _ h => h) ⟨_, Or.inl ⟨by rfl, fun w2 _ => by (go_simp; try with_reducible rfl)⟩, _, by (go_simp; try rfl), ?_⟩
    refine wpAnyT_takeP 3 rfl (by kernel_rfl) (by kernel_rfl) (by kernel_rfl) (fun _ _ _ _ h => h) ⟨_, Or.inl ⟨by rfl, fun w2 _ => by (go_simp; try with_reducible rfl)⟩, _, by (go_simp; try rfl), ?_⟩
    refine wpAnyT_takeP 4 rfl (by kernel_rfl) (by kernel_rfl) (by kernel_rfl) (fun _ _ _ _ h => h) ⟨_, Or.inl ⟨by rfl, fun w2 _ => by (go_simp; try with_reducible rfl)⟩, _, by (go_simp; try rfl), ?_⟩
    refine wpAnyT_take 5 rfl (by kernel_rfl) (by kernel_rfl) (by kernel_rfl) (by kernel_rfl) (fun _ _ _ _ h => h) ⟨_, Or.inl ⟨by rfl, fun w2 hb2 => by (have hx := hb2.cell (show W.drew.cell? _ = _ from cB) nB; go_simp; try with_reducible rfl)⟩, _, by (go_simp; try rfl), ?_⟩
    refine wpAnyT_takeP 6 rfl (by kernel_rfl) (by kernel_rfl) (by kernel_rfl) (fun _ _ _ _ h => h) ⟨_, Or.inl ⟨by rfl, fun w2 _ => by (go_simp; try with_reducible rfl)⟩, _, by (go_simp; try rfl), ?_⟩
    refine wpAnyT_only 7 rfl (by kernel_rfl) (by rfl) (fun K hK => ?_)
    go_simp
    refine hK _ _ ⟨fun _ => RX.alloc _ _ _, ?_⟩
    clear hK
    have hA : After W (W.drew.alloc (.cells #[.int .u8 c] 5)) := ((Below.refl _ W).drew).alloc (Nat.le_refl _) _
    have hq := World.alloc_heap_new W.drew (.cells #[.int .u8 c] 5)
    have hO2 := hO.out.below hA
    have kA := keepsOthers_after hA
    refine wpAnyT_only 8 rfl (by kernel_rfl) (by rfl) (fun K hK => ?_)
    refine wp_app1K (.tmp 30) (.tmp 32) 24 rfl base 5 .u8 1 bytesOf _ ys rfl hO2 W.drew.heap.size c _ rfl hq hzl (by omega) (Nat.le_trans hb hA.size) ?_
    intro a9 cap9 w9 hO9 hg9 hn9
    refine hK _ _ ⟨fun _ => RX.of_grown hg9, ?_⟩
    clear hK
    have hH9 := held_grown (held_after hA hH) hg9 nB
    have h49 := held_grown (held_after hA h4) hg9 n4
    have hN9 := held_grown (held_after hA hN.out) hg9 nN.out
    have hU9 := held_grown (held_after hA hU.out) hg9 nU.out
    have hB9 := hO2.grew hg9 (hB.out.trans (Below.mono hA (Nat.le_trans h2 hb))) h2 (Nat.le_trans (Nat.le_trans h2 hb) hA.size)
    have kA9 := kA.trans (KeepsOthers.of_grownBy hg9 (fun j ob e hj => own_cells hO2 e hj))
    have hF9 := hid (fun k (hk : k < base) (hne : k ≠ B) => ((hg9.block k (Nat.lt_of_lt_of_le hk (Nat.le_trans hb hA.size)) (fun e => by have := hO2.block k e.symm; omega)).trans (hA.block k (Nat.lt_of_lt_of_le hk hb))).trans (hF k hk hne))
    clear hF
    have hQ : Owp B 1 w (w9.setCell ⟨B, 1, none⟩ (.slice a9 (ys.length + 1) cap9)) := hP.trans ((Owp.after (held_lt hH) hA).trans (Owp.set hH9 (by simp) hg9 (fun k e => by rw [wown_at (held_after hA hH) rfl]; exact e) (fun k e => by rw [wown_at (held_after hA hH) rfl]; exact hn9 k e)))
    clear hP hn9
    have sz9 := Nat.le_trans hA.size hg9.size
    clear hA hq hO2 kA hg9 hO hB hN hU nN nU nB n4 c4 cB hH h4
    rw [show ys.length + 1 = (ys ++ [c]).length by simp] at hO9 ⊢
    replace hQ := hid hQ
    have c9 := held_cell hH9 1 _ rfl
    have f9 := held_free hH9 1
    replace hO9 := hid hO9
    replace hB9 := hid hB9
    replace hN9 := hid hN9
    replace hU9 := hid hU9
    replace h49 := hid h49
    refine wpAnyT_only 9 rfl (by kernel_rfl) (by rfl) (fun K hK => ?_)
    go_simp
    refine hK _ _ ⟨fun _ => RX.refl _ _, ?_⟩
    clear hK
    refine wpAnyT_only 10 rfl (by kernel_rfl) (by rfl) (fun K hK => ?_)
    go_simp
    refine hK _ _ ⟨fun _ => RX.refl _ _, ?_⟩
    clear hK
    refine wpAnyT_only 11 rfl (by kernel_rfl) (by rfl) (fun K hK => ?_)
    go_simp
    refine hK _ _ ⟨fun _ => RX.refl _ _, ?_⟩
    clear hK
    refine wpAnyT_only 12 rfl (by kernel_rfl) (by rfl) (fun K hK => ?_)
    go_simp
    refine hK _ _ ⟨fun h => (h rfl).elim, wpAnyT_done (by kernel_rfl) ?_ _⟩
    clear hK
    refine ⟨kA9.trans (KeepsOthers.setCell _ _ _), ⟨⟨?_, ?_⟩, ⟨?_, ?_⟩⟩, a9, cap9, ?_, ?_, held_oth (by omega) h49.out, held_oth (by omega) hN9.out, held_oth (by omega) hU9.out, hB9.out.setCell (p := ⟨B, 1, none⟩) h1 _, ?_, ?_, ?_⟩
    · have := sz9; simpa [World.setCell] using this
    · exact (held_oth (by omega) hN9.out).trans hN0.out.symm
    · have := sz9; simpa [World.setCell] using this
    · exact (held_oth (by omega) hU9.out).trans hU0.out.symm
    · rw [hnx.out, List.length_append]; exact held_set hH9 1 _
    · rw [hnx.out]; exact hO9.out.oth hH9 (by decide) 1 _
    · have := Nat.le_trans hb sz9; simpa [World.setCell] using this
    · exact fun k hk hne => (Below.heap_setCell _ _ _ _ hne).trans (hF9.out k hk hne)
    · exact hQ.out
  case done =>
    rintro D ys W hD rfl ⟨ad, cap, hH, hO, h4, hN, hU, hB, hb, hF, hP⟩ hK
    go_wp2_with fail
    exact marks_end1 hK (results_none rfl _ _ _) ⟨rfl, ⟨ad, cap, held_mark hH hK _, ownsRow_putObj hO _ hK rfl⟩, ⟨below_mark hB (by have := hs.out; omega) hD hK, hP.mark (by have := hs.out; omega) (by have := hs.out; omega)⟩, fun k hk hne => (World.putObj_heap_other (by omega)).trans (hF k hk hne)⟩

end Go.Proofs.Ytfihdgichmocmaa

/- Package octet: new readers and writers; the chapter's example. -/
namespace Go.Proofs.Ytfihdgichmocmaa
open Go.ChangeShapes Go.WideShapes Go.ChangeAt Go.RowKit Go.Shelf
set_option linter.unusedVariables false

theorem make_any (w : World) : Calls Try.prog 38 #[] w fun e w' => e = .returned (.pointer (some ⟨w.heap.size, 0, none⟩)) ∧ w'.heap[w.heap.size]? = some (.cells #[.bool true, .slice none 0 0, .bool false] 97 (0, 0)) ∧ After w w' := by
  go_enter Try.func38, Try.ntmps38
  go_wp2_with fail
  go_ret
  exact ⟨rfl, World.alloc_heap_new w _, (Below.refl _ w).alloc (Nat.le_refl _) _⟩

/-- What a reader has: these bytes. -/
def Rdr (B : Nat) (w : World) (zs : List Int) : Prop := ∃ (a : Option Addr) (cap : Nat), w.heap[B]? = some (.cells #[.bool true, .slice a zs.length cap, .bool false] 101 (0, 0)) ∧ Sl .u8 w a zs.length cap zs
theorem sl_set {w : World} {a : Option Addr} {len cap : Nat} {zs : List Int} (h : Sl .u8 w a len cap zs) {B : Nat} {m f : Bool} {v : Value} {T : TypeId} (hv : ∀ x, v ≠ .int .u8 x) (hB : w.heap[B]? = some (.cells #[.bool m, v, .bool f] T (0, 0))) (j : Nat) (u : Value) : Sl .u8 (w.setCell ⟨B, j, none⟩ u) a len cap zs := by
  obtain ⟨h1, h2, h3, h4, h5⟩ := h
  refine ⟨h1, h2, h3, h4, fun i hi => ?_⟩
  obtain ⟨b, off, e, hc⟩ := h5 i hi
  refine ⟨b, off, e, ?_⟩
  have hne : b ≠ B := by
    intro e2
    subst e2
    rw [cell_of_row w b (off + i) _ T (0, 0) hB] at hc
    match h9 : off + i with
    | 0 => rw [h9] at hc; cases hc
    | 1 => rw [h9] at hc; exact hv _ (Option.some.inj hc)
    | 2 => rw [h9] at hc; cases hc
    | k + 3 => rw [h9] at hc; simp at hc
  exact (World.cell?_of_block (w := w) (a := ⟨b, off + i, none⟩) (Below.heap_setCell w ⟨B, j, none⟩ u b hne)).trans hc

theorem new_any (a : Option Addr) (len cap : Nat) (zs : List Int) (w : World) (hl : len ≤ 1000000) (hsl : Sl .u8 w a len cap zs) :
    Calls Try.prog 48 #[.slice a len cap] w fun e w' => ∃ B, e = .returned (.pointer (some ⟨B, 0, none⟩)) ∧ w.heap.size ≤ B ∧ Rdr B w' zs ∧ After w w' := by
  have h0 := World.alloc_heap_new w (.cells #[.bool false, .slice none 0 0, .bool false] 101)
  have hA : After w (w.alloc (.cells #[.bool false, .slice none 0 0, .bool false] 101)) := (Below.refl _ w).alloc (Nat.le_refl _) _
  have kC := clone_any a len cap zs _ hl (hsl.below hA)
  go_enter Try.func48, Try.ntmps48
  go_wp2_with fail
  refine kC.mono ?_
  rintro e w2 ⟨a2, cap2, rfl, hO, hA2⟩
  have h2 := held_after hA2 h0
  have c0 := held_cell h2 0 _ rfl
  have c1 := held_cell h2 1 _ rfl
  have f0 := held_free h2 0
  have f1 := held_free h2 1
  replace h2 := hid h2
  replace hA2 := hid (bthen hA hA2)
  replace hO := hid hO.slf
  clear h0 hA
  go_wp2_with fail
  go_ret
  refine ⟨w.heap.size, rfl, Nat.le_refl _, ⟨a2, cap2, held_set (held_set h2.out 0 _) 1 _, ?_⟩, (hA2.out.setCell (p := ⟨w.heap.size, 0, none⟩) (Nat.le_refl _) _).setCell (p := ⟨w.heap.size, 1, none⟩) (Nat.le_refl _) _⟩
  exact sl_set (sl_set hO.out (fun x h => by cases h) h2.out 0 (.bool true)) (fun x h => by cases h) (held_set h2.out 0 (.bool true)) 1 _

theorem wbytes_good (B base : Nat) (zs : List Int) (w : World) (hl : zs.length ≤ 1000000) (h : Wr B base w zs) : Calls Try.prog 41 #[.pointer (some ⟨B, 0, none⟩)] w (BytesOk w zs) := by
  obtain ⟨a, cap, hH, hO⟩ := h
  have k := wfail_good B _ w hH
  have kC := clone_any a zs.length cap zs w hl hO.slf
  have c1 := held_cell hH 1 _ rfl
  clear hH hO
  go_enter Try.func41, Try.ntmps41
  go_wp2_with fail
  refine k.mono ?_
  rintro e w2 ⟨rfl, rfl⟩
  go_wp2_with fail
  refine kC.mono ?_
  rintro e w3 ⟨a2, cap2, rfl, hO, hA2⟩
  go_wp2_with fail
  go_ret
  exact ⟨a2, cap2, rfl, hO, hA2⟩

/-- The writer's part of the example. -/
theorem wu_513 (B base B0 : Nat) (w : World) (hW : Wr B base w []) (h1 : B0 ≤ B) (h2 : B0 ≤ base) (h3 : base ≤ w.heap.size) :
    Calls Try.prog 68 #[.pointer (some ⟨B, 0, none⟩), .int .i64 2, .int .u64 513] w fun e w' => e = .returned (.tuple #[]) ∧ Wr B base w' [1, 2] ∧ Below B0 w w' ∧ ∀ k, k < base → k ≠ B → w'.heap[k]? = w.heap[k]? := by
  have k1 := sized4_any 2 w
  have k2 := put_good B base B0 [] 2 (by omega) 513 (by omega) (by omega) w hW (by simp) h1 h2 h3
  have e : [] ++ bytesL 513 2 = [1, 2] := by decide
  rw [e] at k2
  have e2 : sizedS 2 = true := by decide
  rw [e2] at k1
  clear e e2
  go_enter Try.func68, Try.ntmps68
  go_wp2_with fail
  refine k1.mono ?_
  rintro e w2 ⟨rfl, rfl⟩
  go_wp2_with fail
  refine k2.mono ?_
  rintro e w2 ⟨rfl, hA1, hA2, hA3⟩
  go_wp2_with fail
  go_end0
  exact ⟨rfl, hA1, hA2.1, hA3⟩

end Go.Proofs.Ytfihdgichmocmaa

/- Package octet: what has failed. -/
namespace Go.Proofs.Ytfihdgichmocmaa
open Go.ChangeShapes Go.WideShapes Go.ChangeAt Go.RowKit Go.Shelf
set_option linter.unusedVariables false

/-- It has failed, and has nothing. -/
def Failed (T : TypeId) (B : Nat) (w : World) : Prop := w.heap[B]? = some (.cells #[.bool true, .slice none 0 0, .bool true] T (0, 0))
theorem Failed.later {T : TypeId} {B : Nat} {w w' : World} (h : Failed T B w) (hA : After w w') : Failed T B w' := held_after hA h

theorem rfail_failed (B : Nat) (w : World) (h : Failed 101 B w) : Calls Try.prog 77 #[.pointer (some ⟨B, 0, none⟩)] w fun e w' => e = .returned (.bool true) ∧ w' = w := by
  have h0 := held_cell h 0 _ rfl
  have h2 := held_cell h 2 _ rfl
  go_enter Try.func77, Try.ntmps77
  go_wp2_with fail
  go_ret
  exact ⟨rfl, rfl⟩
theorem wfail_failed (B : Nat) (w : World) (h : Failed 97 B w) : Calls Try.prog 60 #[.pointer (some ⟨B, 0, none⟩)] w fun e w' => e = .returned (.bool true) ∧ w' = w := by
  have h0 := held_cell h 0 _ rfl
  have h2 := held_cell h 2 _ rfl
  go_enter Try.func60, Try.ntmps60
  go_wp2_with fail
  go_ret
  exact ⟨rfl, rfl⟩
theorem wbytes_failed (B : Nat) (w : World) (h : Failed 97 B w) : Calls Try.prog 41 #[.pointer (some ⟨B, 0, none⟩)] w fun e w' => e = .returned (.slice none 0 0) ∧ w' = w := by
  have k := wfail_failed B w h
  go_enter Try.func41, Try.ntmps41
  go_wp2_with fail
  refine k.mono ?_
  rintro e w2 ⟨rfl, rfl⟩
  go_wp2_with fail
  go_ret
  exact ⟨rfl, rfl⟩
theorem next_failed (B : Nat) (n : Int) (b : Bool) (w : World) (h : Failed 101 B w) : Calls Try.prog 74 #[.pointer (some ⟨B, 0, none⟩), .int .i64 n, .bool b] w fun e w' => e = .returned (.tuple #[.slice none 0 0, .bool false]) ∧ w' = w := by
  have k := rfail_failed B w h
  go_enter Try.func74, Try.ntmps74
  go_wp2_with fail
  refine k.mono ?_
  rintro e w2 ⟨rfl, rfl⟩
  go_wp2_with fail
  go_ret2
  exact ⟨rfl, rfl⟩
theorem put_failed (B : Nat) (n u : Int) (b : Bool) (w : World) (h : Failed 97 B w) : Calls Try.prog 73 #[.pointer (some ⟨B, 0, none⟩), .int .i64 n, .int .u64 u, .bool b] w fun e w' => e = .returned (.tuple #[]) ∧ After w w' := by
  have hA : After w (w.alloc (.cells #[.pointer (some ⟨B, 0, none⟩)] 66)) := (Below.refl _ w).alloc (Nat.le_refl _) _
  have k := wfail_failed B _ (h.later hA)
  refine calls_of_marks Try.func73 rfl ?_
  simp only [Try.ntmps73, List.size_toArray, List.length_cons, List.length_nil, Nat.reduceAdd, Nat.reduceSub, Array.replicate_succ, Array.replicate_zero, List.push_toArray, List.append_toArray, List.nil_append, List.cons_append]
  go_wp2_with fail
  refine k.mono ?_
  rintro e w2 ⟨rfl, rfl⟩
  go_wp2_with fail
  exact marks_ret0 (results_none rfl _ _ _) ⟨rfl, hA⟩

/-- A number that does not fit: the writer fails. -/
theorem put_no (B B0 : Nat) (v : Value) (n u : Int) (w : World) (h1 : B0 ≤ B) (hH : w.heap[B]? = some (.cells #[.bool true, v, .bool false] 97 (0, 0))) :
    Calls Try.prog 73 #[.pointer (some ⟨B, 0, none⟩), .int .i64 n, .int .u64 u, .bool false] w fun e w' => e = .returned (.tuple #[]) ∧ Failed 97 B w' ∧ Bw B B0 w w' := by
  have hBl := held_lt hH
  have hA : After w (w.alloc (.cells #[.pointer (some ⟨B, 0, none⟩)] 66)) := (Below.refl _ w).alloc (Nat.le_refl _) _
  have hH2 := held_after hA hH
  have k := wfail_good B _ _ hH2
  have c1 := held_cell hH2 1 _ rfl
  have c2 := held_cell hH2 2 _ rfl
  have f1 := held_free hH2 1
  have f2 := held_free hH2 2
  have cb := held_cell (World.alloc_heap_new w (.cells #[.pointer (some ⟨B, 0, none⟩)] 66)) 0 _ rfl
  have hB := Below.mono hA (show B0 ≤ w.heap.size by omega)
  have d1 := held_cell hH 1 _ rfl
  have d2 := held_cell hH 2 _ rfl
  have e1 := held_free hH 1
  have e2 := held_free hH 2
  replace hH2 := hid hH
  replace hB := hid hB
  clear hH hA
  refine calls_of_marks Try.func73 rfl ?_
  simp only [Try.ntmps73, List.size_toArray, List.length_cons, List.length_nil, Nat.reduceAdd, Nat.reduceSub, Array.replicate_succ, Array.replicate_zero, List.push_toArray, List.append_toArray, List.nil_append, List.cons_append]
  go_wp2_with fail
  refine k.mono ?_
  rintro e w2 ⟨rfl, rfl⟩
  go_upto_region 3 with (fail)
  go_region
  have hF := held_set (held_set hH2.out 2 (.bool true)) 1 (.slice none 0 0)
  have hX := (((Below.refl B0 w).setCell (p := ⟨B, 2, none⟩) h1 (.bool true)).setCell (p := ⟨B, 1, none⟩) h1 (.slice none 0 0))
  have hz : ((w.setCell ⟨B, 2, none⟩ (.bool true)).setCell ⟨B, 1, none⟩ (.slice none 0 0)).heap.size = w.heap.size := by simp [World.setCell]
  have hk1 : Owp B 1 w (w.setCell ⟨B, 2, none⟩ (.bool true)) := Owp.cell hH2.out (by decide) (by simp)
  have hk2 : Owp B 1 (w.setCell ⟨B, 2, none⟩ (.bool true)) ((w.setCell ⟨B, 2, none⟩ (.bool true)).setCell ⟨B, 1, none⟩ (.slice none 0 0)) := Owp.set (q := none) (held_set hH2.out 2 (.bool true)) (by simp) ⟨rfl, rfl, rfl, Nat.le_refl _, fun _ _ _ => rfl⟩ (fun k e => by cases e) (fun k e => by simp [Value.ownBlock] at e)
  have hk3 := hk1.trans hk2
  clear hk1 hk2
  replace hF := hid hF
  replace hX := hid hX
  replace hk3 := hid hk3
  go_wp2_with fail
  refine marks_ret0 (results_none rfl _ _ _) ⟨rfl, ?_, ?_, ?_⟩
  · exact (Below.heap_alloc _ _ _ (by omega)).trans hF.out
  · exact (hX.out.alloc (by omega) _).drew
  · exact hk3.out.trans (Owp.after (by simp [World.setCell]; omega) (((Below.refl _ _).alloc (Nat.le_refl _) _).drew))

end Go.Proofs.Ytfihdgichmocmaa

/- Package octet: a writer's U, in whatever state. -/
namespace Go.Proofs.Ytfihdgichmocmaa
open Go.ChangeShapes Go.WideShapes Go.ChangeAt Go.RowKit Go.Shelf
set_option linter.unusedVariables false

/-- Does a number fit n bytes? -/
def fitU (n u : Int) : Bool := decide (1 ≤ n ∧ n ≤ 8 ∧ u < 256 ^ n.toNat)
/-- What a writer has behind a call: more, or it has failed. -/
def WAft (B base : Nat) (w : World) (zs : List Int) (ok : Bool) : Prop := if ok then Wr B base w zs else Failed 97 B w
theorem put_any (B base B0 : Nat) (zs : List Int) (n : Nat) (hn : n ≤ 8) (u : Int) (hu0 : 0 ≤ u) (hu1 : u ≤ 18446744073709551615) (b : Bool) (w : World) (hW : Wr B base w zs) (hl : zs.length ≤ 1000000) (h1 : B0 ≤ B) (h2 : B0 ≤ base) (h3 : base ≤ w.heap.size) :
    Calls Try.prog 73 #[.pointer (some ⟨B, 0, none⟩), .int .i64 (n : Int), .int .u64 u, .bool b] w fun e w' => e = .returned (.tuple #[]) ∧ WAft B base w' (zs ++ bytesL u n) b ∧ Bw B B0 w w' := by
  cases b
  · obtain ⟨a, cap, hH, hO⟩ := hW
    exact put_no B B0 _ n u w h1 hH
  · exact (put_good B base B0 zs n hn u hu0 hu1 w hW hl h1 h2 h3).mono fun e w' h => ⟨h.1, h.2.1, h.2.2.1⟩

set_option maxHeartbeats 2000000 in
theorem wu_any (B base B0 : Nat) (zs : List Int) (n u : Int) (hu0 : 0 ≤ u) (hu1 : u ≤ 18446744073709551615) (w : World) (hW : Wr B base w zs) (hl : zs.length ≤ 1000000) (h1 : B0 ≤ B) (h2 : B0 ≤ base) (h3 : base ≤ w.heap.size) :
    Calls Try.prog 68 #[.pointer (some ⟨B, 0, none⟩), .int .i64 n, .int .u64 u] w fun e w' => e = .returned (.tuple #[]) ∧ WAft B base w' (zs ++ bytesL u n.toNat) (fitU n u) ∧ Bw B B0 w w' := by
  have k1 := sized4_any n w
  by_cases c : sizedS n = true
  · rw [c] at k1
    obtain ⟨c1, c2⟩ := of_decide_eq_true c
    clear c
    obtain rfl | rfl | rfl | rfl | rfl | rfl | rfl | rfl : n = 1 ∨ n = 2 ∨ n = 3 ∨ n = 4 ∨ n = 5 ∨ n = 6 ∨ n = 7 ∨ n = 8 := by omega
    · have e256 : (256 : Int) ^ (1 : Int).toNat = 256 := by decide
      have k2 := fun b => put_any B base B0 zs 1 (by omega) u hu0 hu1 b w hW hl h1 h2 h3
      clear hW
      by_cases hf : u < 256
      · have eF := hid (show fitU 1 u = true from decide_eq_true ⟨by omega, by omega, by rw [e256]; exact hf⟩)
        have hq : u / 256 = 0 := by omega
        have hq2 : (u / 256 == 0) = true := by simpa using hq
        clear hq e256
        have k3 := k2 true
        clear k2
        go_enter Try.func68, Try.ntmps68
        go_wp2_with fail
        refine k1.mono ?_
        rintro e w2 ⟨rfl, rfl⟩
        go_wp2_with fail
        refine k3.mono ?_
        rintro e w3 ⟨rfl, hs, hB⟩
        replace hs := hid hs
        go_wp2_with fail
        go_end0
        refine ⟨rfl, ?_, hB⟩
        rw [eF.out]
        exact hs.out
      · have eF := hid (show fitU 1 u = false from decide_eq_false fun h => hf (by have := h.2.2; rw [e256] at this; exact this))
        have hq2 : (u / 256 == 0) = false := by simp; omega
        clear e256
        have k3 := k2 false
        clear k2
        go_enter Try.func68, Try.ntmps68
        go_wp2_with fail
        refine k1.mono ?_
        rintro e w2 ⟨rfl, rfl⟩
        go_wp2_with fail
        refine k3.mono ?_
        rintro e w3 ⟨rfl, hs, hB⟩
        replace hs := hid hs
        go_wp2_with fail
        go_end0
        refine ⟨rfl, ?_, hB⟩
        rw [eF.out]
        exact hs.out
    · have e256 : (256 : Int) ^ (2 : Int).toNat = 65536 := by decide
      have k2 := fun b => put_any B base B0 zs 2 (by omega) u hu0 hu1 b w hW hl h1 h2 h3
      clear hW
      by_cases hf : u < 65536
      · have eF := hid (show fitU 2 u = true from decide_eq_true ⟨by omega, by omega, by rw [e256]; exact hf⟩)
        have hq : u / 65536 = 0 := by omega
        have hq2 : (u / 65536 == 0) = true := by simpa using hq
        clear hq e256
        have k3 := k2 true
        clear k2
        go_enter Try.func68, Try.ntmps68
        go_wp2_with fail
        refine k1.mono ?_
        rintro e w2 ⟨rfl, rfl⟩
        go_wp2_with fail
        refine k3.mono ?_
        rintro e w3 ⟨rfl, hs, hB⟩
        replace hs := hid hs
        go_wp2_with fail
        go_end0
        refine ⟨rfl, ?_, hB⟩
        rw [eF.out]
        exact hs.out
      · have eF := hid (show fitU 2 u = false from decide_eq_false fun h => hf (by have := h.2.2; rw [e256] at this; exact this))
        have hq2 : (u / 65536 == 0) = false := by simp; omega
        clear e256
        have k3 := k2 false
        clear k2
        go_enter Try.func68, Try.ntmps68
        go_wp2_with fail
        refine k1.mono ?_
        rintro e w2 ⟨rfl, rfl⟩
        go_wp2_with fail
        refine k3.mono ?_
        rintro e w3 ⟨rfl, hs, hB⟩
        replace hs := hid hs
        go_wp2_with fail
        go_end0
        refine ⟨rfl, ?_, hB⟩
        rw [eF.out]
        exact hs.out
    · have e256 : (256 : Int) ^ (3 : Int).toNat = 16777216 := by decide
      have k2 := fun b => put_any B base B0 zs 3 (by omega) u hu0 hu1 b w hW hl h1 h2 h3
      clear hW
      by_cases hf : u < 16777216
      · have eF := hid (show fitU 3 u = true from decide_eq_true ⟨by omega, by omega, by rw [e256]; exact hf⟩)
        have hq : u / 16777216 = 0 := by omega
        have hq2 : (u / 16777216 == 0) = true := by simpa using hq
        clear hq e256
        have k3 := k2 true
        clear k2
        go_enter Try.func68, Try.ntmps68
        go_wp2_with fail
        refine k1.mono ?_
        rintro e w2 ⟨rfl, rfl⟩
        go_wp2_with fail
        refine k3.mono ?_
        rintro e w3 ⟨rfl, hs, hB⟩
        replace hs := hid hs
        go_wp2_with fail
        go_end0
        refine ⟨rfl, ?_, hB⟩
        rw [eF.out]
        exact hs.out
      · have eF := hid (show fitU 3 u = false from decide_eq_false fun h => hf (by have := h.2.2; rw [e256] at this; exact this))
        have hq2 : (u / 16777216 == 0) = false := by simp; omega
        clear e256
        have k3 := k2 false
        clear k2
        go_enter Try.func68, Try.ntmps68
        go_wp2_with fail
        refine k1.mono ?_
        rintro e w2 ⟨rfl, rfl⟩
        go_wp2_with fail
        refine k3.mono ?_
        rintro e w3 ⟨rfl, hs, hB⟩
        replace hs := hid hs
        go_wp2_with fail
        go_end0
        refine ⟨rfl, ?_, hB⟩
        rw [eF.out]
        exact hs.out
    · have e256 : (256 : Int) ^ (4 : Int).toNat = 4294967296 := by decide
      have k2 := fun b => put_any B base B0 zs 4 (by omega) u hu0 hu1 b w hW hl h1 h2 h3
      clear hW
      by_cases hf : u < 4294967296
      · have eF := hid (show fitU 4 u = true from decide_eq_true ⟨by omega, by omega, by rw [e256]; exact hf⟩)
        have hq : u / 4294967296 = 0 := by omega
        have hq2 : (u / 4294967296 == 0) = true := by simpa using hq
        clear hq e256
        have k3 := k2 true
        clear k2
        go_enter Try.func68, Try.ntmps68
        go_wp2_with fail
        refine k1.mono ?_
        rintro e w2 ⟨rfl, rfl⟩
        go_wp2_with fail
        refine k3.mono ?_
        rintro e w3 ⟨rfl, hs, hB⟩
        replace hs := hid hs
        go_wp2_with fail
        go_end0
        refine ⟨rfl, ?_, hB⟩
        rw [eF.out]
        exact hs.out
      · have eF := hid (show fitU 4 u = false from decide_eq_false fun h => hf (by have := h.2.2; rw [e256] at this; exact this))
        have hq2 : (u / 4294967296 == 0) = false := by simp; omega
        clear e256
        have k3 := k2 false
        clear k2
        go_enter Try.func68, Try.ntmps68
        go_wp2_with fail
        refine k1.mono ?_
        rintro e w2 ⟨rfl, rfl⟩
        go_wp2_with fail
        refine k3.mono ?_
        rintro e w3 ⟨rfl, hs, hB⟩
        replace hs := hid hs
        go_wp2_with fail
        go_end0
        refine ⟨rfl, ?_, hB⟩
        rw [eF.out]
        exact hs.out
    · have e256 : (256 : Int) ^ (5 : Int).toNat = 1099511627776 := by decide
      have k2 := fun b => put_any B base B0 zs 5 (by omega) u hu0 hu1 b w hW hl h1 h2 h3
      clear hW
      by_cases hf : u < 1099511627776
      · have eF := hid (show fitU 5 u = true from decide_eq_true ⟨by omega, by omega, by rw [e256]; exact hf⟩)
        have hq : u / 1099511627776 = 0 := by omega
        have hq2 : (u / 1099511627776 == 0) = true := by simpa using hq
        clear hq e256
        have k3 := k2 true
        clear k2
        go_enter Try.func68, Try.ntmps68
        go_wp2_with fail
        refine k1.mono ?_
        rintro e w2 ⟨rfl, rfl⟩
        go_wp2_with fail
        refine k3.mono ?_
        rintro e w3 ⟨rfl, hs, hB⟩
        replace hs := hid hs
        go_wp2_with fail
        go_end0
        refine ⟨rfl, ?_, hB⟩
        rw [eF.out]
        exact hs.out
      · have eF := hid (show fitU 5 u = false from decide_eq_false fun h => hf (by have := h.2.2; rw [e256] at this; exact this))
        have hq2 : (u / 1099511627776 == 0) = false := by simp; omega
        clear e256
        have k3 := k2 false
        clear k2
        go_enter Try.func68, Try.ntmps68
        go_wp2_with fail
        refine k1.mono ?_
        rintro e w2 ⟨rfl, rfl⟩
        go_wp2_with fail
        refine k3.mono ?_
        rintro e w3 ⟨rfl, hs, hB⟩
        replace hs := hid hs
        go_wp2_with fail
        go_end0
        refine ⟨rfl, ?_, hB⟩
        rw [eF.out]
        exact hs.out
    · have e256 : (256 : Int) ^ (6 : Int).toNat = 281474976710656 := by decide
      have k2 := fun b => put_any B base B0 zs 6 (by omega) u hu0 hu1 b w hW hl h1 h2 h3
      clear hW
      by_cases hf : u < 281474976710656
      · have eF := hid (show fitU 6 u = true from decide_eq_true ⟨by omega, by omega, by rw [e256]; exact hf⟩)
        have hq : u / 281474976710656 = 0 := by omega
        have hq2 : (u / 281474976710656 == 0) = true := by simpa using hq
        clear hq e256
        have k3 := k2 true
        clear k2
        go_enter Try.func68, Try.ntmps68
        go_wp2_with fail
        refine k1.mono ?_
        rintro e w2 ⟨rfl, rfl⟩
        go_wp2_with fail
        refine k3.mono ?_
        rintro e w3 ⟨rfl, hs, hB⟩
        replace hs := hid hs
        go_wp2_with fail
        go_end0
        refine ⟨rfl, ?_, hB⟩
        rw [eF.out]
        exact hs.out
      · have eF := hid (show fitU 6 u = false from decide_eq_false fun h => hf (by have := h.2.2; rw [e256] at this; exact this))
        have hq2 : (u / 281474976710656 == 0) = false := by simp; omega
        clear e256
        have k3 := k2 false
        clear k2
        go_enter Try.func68, Try.ntmps68
        go_wp2_with fail
        refine k1.mono ?_
        rintro e w2 ⟨rfl, rfl⟩
        go_wp2_with fail
        refine k3.mono ?_
        rintro e w3 ⟨rfl, hs, hB⟩
        replace hs := hid hs
        go_wp2_with fail
        go_end0
        refine ⟨rfl, ?_, hB⟩
        rw [eF.out]
        exact hs.out
    · have e256 : (256 : Int) ^ (7 : Int).toNat = 72057594037927936 := by decide
      have k2 := fun b => put_any B base B0 zs 7 (by omega) u hu0 hu1 b w hW hl h1 h2 h3
      clear hW
      by_cases hf : u < 72057594037927936
      · have eF := hid (show fitU 7 u = true from decide_eq_true ⟨by omega, by omega, by rw [e256]; exact hf⟩)
        have hq : u / 72057594037927936 = 0 := by omega
        have hq2 : (u / 72057594037927936 == 0) = true := by simpa using hq
        clear hq e256
        have k3 := k2 true
        clear k2
        go_enter Try.func68, Try.ntmps68
        go_wp2_with fail
        refine k1.mono ?_
        rintro e w2 ⟨rfl, rfl⟩
        go_wp2_with fail
        refine k3.mono ?_
        rintro e w3 ⟨rfl, hs, hB⟩
        replace hs := hid hs
        go_wp2_with fail
        go_end0
        refine ⟨rfl, ?_, hB⟩
        rw [eF.out]
        exact hs.out
      · have eF := hid (show fitU 7 u = false from decide_eq_false fun h => hf (by have := h.2.2; rw [e256] at this; exact this))
        have hq2 : (u / 72057594037927936 == 0) = false := by simp; omega
        clear e256
        have k3 := k2 false
        clear k2
        go_enter Try.func68, Try.ntmps68
        go_wp2_with fail
        refine k1.mono ?_
        rintro e w2 ⟨rfl, rfl⟩
        go_wp2_with fail
        refine k3.mono ?_
        rintro e w3 ⟨rfl, hs, hB⟩
        replace hs := hid hs
        go_wp2_with fail
        go_end0
        refine ⟨rfl, ?_, hB⟩
        rw [eF.out]
        exact hs.out
    · have e256 : (256 : Int) ^ (8 : Int).toNat = 18446744073709551616 := by decide
      have k2 := fun b => put_any B base B0 zs 8 (by omega) u hu0 hu1 b w hW hl h1 h2 h3
      clear hW
      by_cases hf : u < 18446744073709551616
      · have eF := hid (show fitU 8 u = true from decide_eq_true ⟨by omega, by omega, by rw [e256]; exact hf⟩)
        have hq : u / 18446744073709551616 = 0 := by omega
        have hq2 : (u / 18446744073709551616 == 0) = true := by simpa using hq
        clear hq e256
        have k3 := k2 true
        clear k2
        go_enter Try.func68, Try.ntmps68
        go_wp2_with fail
        refine k1.mono ?_
        rintro e w2 ⟨rfl, rfl⟩
        go_wp2_with fail
        refine k3.mono ?_
        rintro e w3 ⟨rfl, hs, hB⟩
        replace hs := hid hs
        go_wp2_with fail
        go_end0
        refine ⟨rfl, ?_, hB⟩
        rw [eF.out]
        exact hs.out
      · omega
  · have c2 := Bool.not_eq_true _ ▸ c
    rw [c2] at k1
    have eF := hid (show fitU n u = false from decide_eq_false fun h => c (decide_eq_true ⟨h.1, h.2.1⟩))
    obtain ⟨a, cap, hH, hO⟩ := hW
    have k3 := put_no B B0 _ n u w h1 hH
    clear c c2 hH hO
    go_enter Try.func68, Try.ntmps68
    go_wp2_with fail
    refine k1.mono ?_
    rintro e w2 ⟨rfl, rfl⟩
    go_wp2_with fail
    refine k3.mono ?_
    rintro e w3 ⟨rfl, hs, hB⟩
    replace hs := hid hs
    go_wp2_with fail
    go_end0
    refine ⟨rfl, ?_, hB⟩
    rw [eF.out]
    exact hs.out

end Go.Proofs.Ytfihdgichmocmaa
