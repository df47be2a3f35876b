/- Several texts in one: Gsv9, Gsv10. -/
import Derived.Test.YtobgibmpodggkaaGreatDoorGV3
import Derived.Test.YtobgibmpodggkaaGreatDoorGV2
import Derived.Laws.Tables
import Derived.Laws.Rows
import Derived.Deep.DeepCutAuto
import Derived.Test.YtobgibmpodggkaaGreatDoorGV4
import Derived.Test.YtobgibmpodggkaaGreatDoorGsa8
import Derived.Test.YtobgibmpodggkaaGreatDoorKA
import Derived.Deep.LoopGhost

/- Package gsv: Take. -/
namespace Go.Proofs.YtobgibmpodggkaaGreatDoor
open Go.ChangeShapes Go.WideShapes Go.ChangeAt Go.RowKit
set_option linter.unusedVariables false
set_option linter.unusedSimpArgs false

theorem EyeN.kept29 {N : Nat} {w w' : World} {B : Nat} {e : Int} {L : List ByteArray} (h : EyeN N w B e L) (hb : w'.heap[B]? = w.heap[B]?) (hk : ∀ k, k < N → w'.heap[k]? = w.heap[k]?) : EyeN N w' B e L := by
  obtain ⟨a, cap, h1, h2, h3⟩ := h
  exact ⟨a, cap, hb.trans h1, h2.kept29 (fun x hx _ => hk _ (h3 x hx).1), h3⟩
theorem EyeN.cells {N : Nat} {w : World} {B : Nat} {e : Int} {L : List ByteArray} (h : EyeN N w B e L) : ∃ c, w.heap[B]? = some (.cells c 79 (0, 0)) := by
  obtain ⟨a, cap, h1, h2, h3⟩ := h
  exact ⟨_, h1⟩
theorem EyeN.off29 {N : Nat} {w w' : World} {B p : Nat} {e : Int} {L : List ByteArray} (h : EyeN N w B e L) (k : Only p w w') (hne : p ≠ B) (hN : N ≤ p) : EyeN N w' B e L :=
  h.kept29 (k.block B hne.symm) (fun j hj => k.block j (by omega))
theorem ownE_eff {E T : TypeId} {w U : World} {base m g : Nat} {v : Value} {n : Nat} {xs : List Value} {c : Array Value} (h : OwnE E w base m v n xs) (hg : w.heap[g]? = some (.cells c T (0, 0))) (hT : T ≠ E) (hE : Eff g w U) : OwnE E U base m v n xs :=
  h.kept fun k hk => hE.block k (h.lt k hk).2.1 (fun e => h.ne hg hT (by rw [hk, e]))
theorem eyeN_grown {E : TypeId} {N m : Nat} {w w' : World} {B : Nat} {e : Int} {L : List ByteArray} {v : Value} {n : Nat} {xs : List Value} (h : EyeN N w B e L) (hN : N ≤ w.heap.size) (hO : OwnE E w N m v n xs) (hT : 79 ≠ E) (hg : w.grownBy w' v.ownBlock) : EyeN N w' B e L := by
  obtain ⟨c, hc⟩ := h.cells
  exact h.kept29 (hg.block B h.lt (fun e => hO.ne hc hT e.symm)) (fun k hk => hg.block k (by omega) (fun e => by have := (hO.lt k e.symm).1; omega))
theorem own_eye29 {E : TypeId} {N M m : Nat} {w U : World} {B : Nat} {e : Int} {L : List ByteArray} {v : Value} {n : Nat} {xs : List Value} (h : OwnE E w M m v n xs) (hy : EyeN N w B e L) (hT : 79 ≠ E) (hE : Eff B w U) : OwnE E U M m v n xs := by
  obtain ⟨c, hc⟩ := hy.cells
  exact ownE_eff h hc hT hE
theorem preO29 (mb : Nat) : PreO (fun U U' : World => U'.heap[mb]? = U.heap[mb]?) := ⟨fun _ => rfl, fun h k => k.trans h⟩
theorem vwS_next {e : Int} {L : List ByteArray} {k : Nat} {xs : List V4} {e1 : Int} {R1 : List ByteArray} (h : vwS e L k = (xs, e1, R1)) : vwS e L (k + 1) = (xs ++ [(vw1 e1 R1).1], (vw1 e1 R1).2) := by
  show ((vwS e L k).1 ++ [(vw1 (vwS e L k).2.1 (vwS e L k).2.2).1], (vw1 (vwS e L k).2.1 (vwS e L k).2.2).2) = _
  rw [h]
theorem quo29 {n k : Nat} (h : n = 3 + 4 * k) : ((n : Int) - 3).tdiv 4 = (k : Int) := by
  rw [Int.tdiv_eq_ediv_of_nonneg (by omega)]; omega
set_option maxRecDepth 100000 in
set_option maxHeartbeats 2000000 in
theorem look29_any (a : Option Addr) (len cap : Nat) (L : List ByteArray) (w : World) (hlen : L.length = len) (hl : len ≤ 1000) (hE : Els w 1 a len cap (strV23 L)) : Calls Tryz.prog 13 #[.slice a len cap] w fun r w' => ∃ B, r = .returned (.pointer (some ⟨B, 0, none⟩)) ∧ EyeN B w' B 0 L ∧ After w w' ∧ w.heap.size ≤ B := by
  have kc := hid (clone23_any a len cap L w hl hE)
  replace hlen := hid hlen
  clear hE
  go_enter Tryz.func13, Tryz.ntmps13
  go_wp2_with fail
  refine (kc.out).mono ?_
  rintro r V ⟨a', cap', rfl, h1, h2, h3⟩
  have nw := alloc_new V (.cells #[.bool false, .int .i64 0, .slice a' len cap'] 79)
  obtain ⟨S1, hS1, s1, o1⟩ := st1 nw.2.2 0 (.bool true)
  have z1 := held_cell nw.2.2 0 _ rfl
  have z2 := held_free nw.2.2 0
  have hE1 := h1.below nw.2.1
  have hne : ∀ x, a' = some x → x.block < V.heap.size ∧ V.heap.size ≤ V.heap.size := fun x hx => ⟨h2 x hx, Nat.le_refl _⟩
  have hfin : EyeN V.heap.size S1 V.heap.size 0 L := ⟨a', cap', by rw [hlen.out]; exact s1, by rw [hlen.out]; exact els_eff24 hE1 (eff_only24 o1) (neN hne), hne⟩
  have hB : After w S1 := bthen h3 (belowS nw.2.1 o1 (Nat.le_refl _))
  have hsz := h3.size
  replace hfin := hid hfin
  replace hB := hid hB
  clear s1 o1 nw hE1 hne h1 h2 h3
  go_wp2_with fail
  go_ret
  exact ⟨_, rfl, hfin.out, hB.out, hsz⟩
set_option maxRecDepth 100000 in
set_option maxHeartbeats 8000000 in
theorem gvtake_no (a : Option Addr) (n cap : Nat) (w : World) (hmx : n ≤ 1000) (hn : ∀ k, k ≤ 4 → n ≠ 3 + 4 * k) : Calls Tryz.prog 6 #[.slice a n cap] w fun r w' => r = .returned (.tuple #[.agg #[.int .i64 0, .int .i64 0, .int .i64 0, .slice none 0 0], .int .i64 3]) ∧ After w w' := by
  have e1 : IntKind.i64.wrap ((n : Int) - 3) = (n : Int) - 3 := by rw [IntKind.wrap_i64]; omega
  by_cases c1 : n < 3
  case pos =>
    have b1 : decide ((n : Int) < 3) = true := by simp; omega
    have e2 : ((n : Int) - 3).tdiv 4 = 0 := by
      have hh : n = 0 ∨ n = 1 ∨ n = 2 := by omega
      rcases hh with rfl | rfl | rfl <;> rfl
    clear hn c1
    go_enter Tryz.func6, Tryz.ntmps6
    go_upto_region 0 with (fail)
    apply wp_region_seg0 (w := w) (S := [.al 1000, .q []]) (E := [.al ((fun p => .pointer (some ⟨p, 0, none⟩)), _) 1000, .q0 _]) rfl (by kernel_rfl) rfl rfl
    intro th hge hne
    refine Seg.step _ rfl ⟨by rfl, fun U hU => ?_⟩ ?_
    · go_simp; exact vp_alloc rfl rfl rfl
    refine Seg.sa ?_
    refine Seg.sq ?_
    refine Seg.stop (fun U1 hU hk => ?_)
    have nb0 := hge 0 _ _ rfl
    have rb0 := (hk 0 _ _ rfl trivial).1.2 (by simp)
    clear hk hge hne
    generalize th (0 + 0) = p0_0 at *
    dsimp only at rb0
    have r_p0_0 := rb0
    clear rb0
    have n_p0_0 := nb0
    clear nb0
    have sz1 := hU.size
    have hB : Below w.heap.size w U1 := hU
    clear hU
    have x0 := held_cell r_p0_0 0 _ rfl
    have x1 := held_cell r_p0_0 1 _ rfl
    have x2 := held_cell r_p0_0 2 _ rfl
    have x3 := held_cell r_p0_0 3 _ rfl
    have g0 := held_free r_p0_0 0
    have g1 := held_free r_p0_0 1
    have g2 := held_free r_p0_0 2
    have g3 := held_free r_p0_0 3
    obtain ⟨W9, hW9, ya, yO⟩ := st4 r_p0_0 (.int .i64 0) (.int .i64 0) (.int .i64 0) (.slice none 0 0)
    have hB9 := hid (belowS hB yO (by omega))
    have ez0 := held_cell ya 0 _ rfl
    have ez1 := held_cell ya 1 _ rfl
    have ez2 := held_cell ya 2 _ rfl
    have ez3 := held_cell ya 3 _ rfl
    clear ya yO r_p0_0 hB
    go_wp2_with fail
    refine bodyPost_ret (v := .tuple #[.agg #[.int .i64 0, .int .i64 0, .int .i64 0, .slice none 0 0], .int .i64 3]) (by simp [results, Tryz.results6, go_sem, ez0, ez1, ez2, ez3]) rfl ⟨rfl, hB9.out⟩
  have b1 : decide ((n : Int) < 3) = false := by simp; omega
  obtain ⟨k, hk⟩ : ∃ k, (n - 3) / 4 = k := ⟨_, rfl⟩
  have e2 : ((n : Int) - 3).tdiv 4 = (k : Int) := by rw [Int.tdiv_eq_ediv_of_nonneg (by omega)]; omega
  have e3 : IntKind.i64.wrap (k : Int) = (k : Int) := by rw [IntKind.wrap_i64]; omega
  have e4 : IntKind.i64.wrap (4 * (k : Int)) = 4 * (k : Int) := by rw [IntKind.wrap_i64]; omega
  have e5 : IntKind.i64.wrap (3 + 4 * (k : Int)) = 3 + 4 * (k : Int) := by rw [IntKind.wrap_i64]; omega
  have hnk := hn k
  by_cases c2 : n = 3 + 4 * k
  case neg =>
    have b2 : ((n : Int) != 3 + 4 * (k : Int)) = true := by simp; omega
    clear hn hnk c1 c2 hk
    go_enter Tryz.func6, Tryz.ntmps6
    go_upto_region 0 with (fail)
    apply wp_region_seg0 (w := w) (S := [.al 1000, .q []]) (E := [.al ((fun p => .pointer (some ⟨p, 0, none⟩)), _) 1000, .q0 _]) rfl (by kernel_rfl) rfl rfl
    intro th hge hne
    refine Seg.step _ rfl ⟨by rfl, fun U hU => ?_⟩ ?_
    · go_simp; exact vp_alloc rfl rfl rfl
    refine Seg.sa ?_
    refine Seg.sq ?_
    refine Seg.stop (fun U1 hU hk => ?_)
    have nb0 := hge 0 _ _ rfl
    have rb0 := (hk 0 _ _ rfl trivial).1.2 (by simp)
    clear hk hge hne
    generalize th (0 + 0) = p0_0 at *
    dsimp only at rb0
    have r_p0_0 := rb0
    clear rb0
    have n_p0_0 := nb0
    clear nb0
    have sz1 := hU.size
    have hB : Below w.heap.size w U1 := hU
    clear hU
    have x0 := held_cell r_p0_0 0 _ rfl
    have x1 := held_cell r_p0_0 1 _ rfl
    have x2 := held_cell r_p0_0 2 _ rfl
    have x3 := held_cell r_p0_0 3 _ rfl
    have g0 := held_free r_p0_0 0
    have g1 := held_free r_p0_0 1
    have g2 := held_free r_p0_0 2
    have g3 := held_free r_p0_0 3
    obtain ⟨W9, hW9, ya, yO⟩ := st4 r_p0_0 (.int .i64 0) (.int .i64 0) (.int .i64 0) (.slice none 0 0)
    have hB9 := hid (belowS hB yO (by omega))
    have ez0 := held_cell ya 0 _ rfl
    have ez1 := held_cell ya 1 _ rfl
    have ez2 := held_cell ya 2 _ rfl
    have ez3 := held_cell ya 3 _ rfl
    clear ya yO r_p0_0 hB
    go_wp2_with fail
    refine bodyPost_ret (v := .tuple #[.agg #[.int .i64 0, .int .i64 0, .int .i64 0, .slice none 0 0], .int .i64 3]) (by simp [results, Tryz.results6, go_sem, ez0, ez1, ez2, ez3]) rfl ⟨rfl, hB9.out⟩
  have b2 : ((n : Int) != 3 + 4 * (k : Int)) = false := by simp; omega
  have b3 : decide ((4 : Int) < (k : Int)) = true := by have : ¬ k ≤ 4 := fun h => hnk h c2; simp; omega
  clear hn hnk c1 c2 hk
  go_enter Tryz.func6, Tryz.ntmps6
  go_upto_region 0 with (fail)
  apply wp_region_seg0 (w := w) (S := [.al 1000, .q []]) (E := [.al ((fun p => .pointer (some ⟨p, 0, none⟩)), _) 1000, .q0 _]) rfl (by kernel_rfl) rfl rfl
  intro th hge hne
  refine Seg.step _ rfl ⟨by rfl, fun U hU => ?_⟩ ?_
  · go_simp; exact vp_alloc rfl rfl rfl
  refine Seg.sa ?_
  refine Seg.sq ?_
  refine Seg.stop (fun U1 hU hk => ?_)
  have nb0 := hge 0 _ _ rfl
  have rb0 := (hk 0 _ _ rfl trivial).1.2 (by simp)
  clear hk hge hne
  generalize th (0 + 0) = p0_0 at *
  dsimp only at rb0
  have r_p0_0 := rb0
  clear rb0
  have n_p0_0 := nb0
  clear nb0
  have sz1 := hU.size
  have hB : Below w.heap.size w U1 := hU
  clear hU
  have x0 := held_cell r_p0_0 0 _ rfl
  have x1 := held_cell r_p0_0 1 _ rfl
  have x2 := held_cell r_p0_0 2 _ rfl
  have x3 := held_cell r_p0_0 3 _ rfl
  have g0 := held_free r_p0_0 0
  have g1 := held_free r_p0_0 1
  have g2 := held_free r_p0_0 2
  have g3 := held_free r_p0_0 3
  obtain ⟨W9, hW9, ya, yO⟩ := st4 r_p0_0 (.int .i64 0) (.int .i64 0) (.int .i64 0) (.slice none 0 0)
  have hB9 := hid (belowS hB yO (by omega))
  have ez0 := held_cell ya 0 _ rfl
  have ez1 := held_cell ya 1 _ rfl
  have ez2 := held_cell ya 2 _ rfl
  have ez3 := held_cell ya 3 _ rfl
  clear ya yO r_p0_0 hB
  go_wp2_with fail
  refine bodyPost_ret (v := .tuple #[.agg #[.int .i64 0, .int .i64 0, .int .i64 0, .slice none 0 0], .int .i64 3]) (by simp [results, Tryz.results6, go_sem, ez0, ez1, ez2, ez3]) rfl ⟨rfl, hB9.out⟩
set_option maxRecDepth 100000 in
set_option maxHeartbeats 32000000 in
theorem gvtake_any (s0 s1 s2 : ByteArray) (R : List ByteArray) (k : Nat) (hk4 : k ≤ 4) (hR : R.length = 4 * k) (w : World) (a : Option Addr) (n cap : Nat) (hn : n = 3 + 4 * k) (hEl : Els w 1 a n cap (strV23 (s0 :: s1 :: s2 :: R))) (hs : ∀ s ∈ s0 :: s1 :: s2 :: R, s.size ≤ 1000) : Calls Tryz.prog 6 #[.slice a n cap] w fun r w' => GvOk w (gvR s0 s1 s2 R k) r w' := by
  have e1 : IntKind.i64.wrap ((n : Int) - 3) = (n : Int) - 3 := by rw [IntKind.wrap_i64]; omega
  have e2 := quo29 hn
  have e3 : IntKind.i64.wrap (k : Int) = (k : Int) := by rw [IntKind.wrap_i64]; omega
  have e4 : IntKind.i64.wrap (4 * (k : Int)) = 4 * (k : Int) := by rw [IntKind.wrap_i64]; omega
  have e5 : IntKind.i64.wrap (3 + 4 * (k : Int)) = 3 + 4 * (k : Int) := by rw [IntKind.wrap_i64]; omega
  have b1 : decide ((n : Int) < 3) = false := by simp; omega
  have b2 : ((n : Int) != 3 + 4 * (k : Int)) = false := by simp; omega
  have b3 : decide ((4 : Int) < (k : Int)) = false := by simp; omega
  have hlen : (s0 :: s1 :: s2 :: R).length = n := by simp; omega
  have hn1000 : n ≤ 1000 := by omega
  have hsR := hid (fun s (h : s ∈ R) => hs s (by simp [h]))
  have hRl := hid (show R.length ≤ 1000 by omega)
  obtain ⟨g, hg⟩ : ∃ g, gvR s0 s1 s2 R k = g := ⟨_, rfl⟩
  rw [hg]
  replace hg := hid hg
  replace hs := hid hs
  replace hEl := hid hEl
  replace hlen := hid hlen
  replace hR := hid hR
  replace hn := hid hn
  go_enter Tryz.func6, Tryz.ntmps6
  go_upto_region 0 with (fail)
  apply wp_region_seg0 (w := w) (S := [.al 1000, .q []]) (E := [.al ((fun p => .pointer (some ⟨p, 0, none⟩)), _) 1000, .q0 _]) rfl (by kernel_rfl) rfl rfl
  intro th hge hne
  refine Seg.step _ rfl ⟨by rfl, fun U hU => ?_⟩ ?_
  · go_simp; exact vp_alloc rfl rfl rfl
  refine Seg.sa ?_
  refine Seg.sq ?_
  refine Seg.stop (fun U1 hU hk => ?_)
  have nb0 := hge 0 _ _ rfl
  have rb0 := (hk 0 _ _ rfl trivial).1.2 (by simp)
  clear hk hge hne
  generalize th (0 + 0) = p0_0 at *
  dsimp only at rb0
  have r_p0_0 := rb0
  clear rb0
  have n_p0_0 := nb0
  clear nb0
  have sz1 := hU.size
  have hB : Below w.heap.size w U1 := hU
  clear hU
  have hl0 := held_lt r_p0_0
  have hEl1 := hEl.out.below hB
  replace r_p0_0 := hid r_p0_0
  replace hB := hid hB
  go_wp2_with fail
  refine (look29_any a n cap (s0 :: s1 :: s2 :: R) _ hlen.out hn1000 hEl1).mono ?_
  rintro r V ⟨B, rfl, hey, hA, hwB⟩
  clear hEl1 b1 b2 b3 e1 e2 e3 e4 e5
  have hr := held_after hA r_p0_0.out
  have hB2 := bthen hB.out hA
  have nr : p0_0 ≠ B := by omega
  have hbB : w.heap.size ≤ B := Nat.le_trans hB.out.size hwB
  have hbr : w.heap.size ≤ p0_0 := n_p0_0
  clear hB hA r_p0_0 n_p0_0 hl0 hwB sz1
  have hlp := hey.lt
  have hlr0 := held_lt hr
  have nw := alloc_new V (.cells #[.int .i64 0, .int .i64 0, .int .i64 0, .slice none 0 0] 27)
  go_upto_region 6 with (fail)
  obtain ⟨W1, hW1⟩ : ∃ X, V.alloc (.cells #[.int .i64 0, .int .i64 0, .int .i64 0, .slice none 0 0] 27) = X := ⟨_, rfl⟩
  rw [hW1] at nw ⊢
  obtain ⟨mb, hmb⟩ : ∃ X, V.heap.size = X := ⟨_, rfl⟩
  rw [hmb] at nw ⊢
  replace hW1 := hid hW1
  have hm := nw.2.2
  replace hr := held_after nw.2.1 hr
  replace hey := hey.aft nw.2.1
  have nBm : B < mb := by omega
  have nm : mb ≠ B := by omega
  have hbm : w.heap.size ≤ mb := by omega
  have nmr : mb ≠ p0_0 := by rw [hmb] at hlr0; omega
  replace hB2 := bthen hB2 nw.2.1
  replace hmb := hid hmb
  clear nw hlp hlr0
  obtain ⟨⟨tt, x0⟩, hx0⟩ : ∃ r, fxV s0 9 = r := ⟨_, rfl⟩
  have kD := hid (fun U => hx0 ▸ takedigit29_any s0 9 U)
  replace hx0 := hid hx0
  go_wp2_with fail
  refine (etextN_any B B 0 (s0 :: s1 :: s2 :: R) _ hey (by rw [hlen.out]; exact hn1000)).mono ?_
  rintro r V2 ⟨rfl, hey2, hf2⟩
  replace hm := eff_block24 hf2 hm nm
  replace hr := eff_block24 hf2 hr nr
  replace hB2 := eff_below24 hB2 hf2 hbB hB2.size
  clear hey hf2
  have hey := hey2
  clear hey2
  go_wp2_with fail
  refine (kD.out _).mono ?_
  rintro r V3 ⟨rfl, hv⟩
  obtain rfl : V2 = V3 := hv.symm
  clear hv
  clear kD
  have x0 := held_cell hm 0 _ rfl
  have g0 := held_free hm 0
  obtain ⟨S2, hS2, ym, oM⟩ := st1 hm 0 (.int .i64 tt)
  have hey2 := hid (hey.off29 oM nm (by omega))
  have hr2 := (oM.block _ (Ne.symm nmr)).trans hr
  have hB3 := hid (belowS hB2 oM hbm)
  go_upto_region 8 with (fail)
  clear hey hr hB2 hm oM hS2 x0 g0
  have hm : S2.heap[mb]? = some (.cells #[.int .i64 tt, .int .i64 0, .int .i64 0, .slice none 0 0] 27 (0, 0)) := ym
  have hey := hey2.out
  have hr := hr2
  have hB2 := hB3.out
  clear ym hey2 hr2 hB3
  go_wp2_with fail
  refine (efailN_any B B 0 x0 (s1 :: s2 :: R) _ hey).mono ?_
  rintro r V4 ⟨rfl, hey2, hf2⟩
  replace hm := eff_block24 hf2 hm nm
  replace hr := eff_block24 hf2 hr nr
  replace hB2 := eff_below24 hB2 hf2 hbB hB2.size
  clear hey hf2
  have hey := hey2
  clear hey2
  obtain ⟨E1, hE1⟩ : ∃ X, kp 0 x0 = X := ⟨_, rfl⟩
  rw [hE1] at hey
  replace hE1 := hid hE1
  obtain ⟨⟨no, x1⟩, hx1⟩ : ∃ r, fxV s1 tt = r := ⟨_, rfl⟩
  have kD := hid (fun U => hx1 ▸ takedigit29_any s1 tt U)
  replace hx1 := hid hx1
  go_upto_region 9 with (fail)
  have hmQ := hid (show V4.drew.heap[mb]? = some (.cells #[.int .i64 tt, .int .i64 0, .int .i64 0, .slice none 0 0] 27 (0, 0)) from hm)
  replace hm := hmQ.out
  have hr9 := (show V4.drew.heap[p0_0]? = _ from hr)
  replace hr := hr9
  clear hr9
  replace hey := hey.aft (show After V4 V4.drew from (Below.refl _ _).drew)
  replace hB2 := bthen hB2 (show After V4 V4.drew from (Below.refl _ _).drew)
  obtain ⟨QQ, hQQ⟩ : ∃ X, V4.drew = X := ⟨_, rfl⟩
  rw [hQQ] at hmQ hm hr hey hB2
  refine wp_region_G (fun U U' : World => U'.heap[mb]? = U.heap[mb]?) 9 (by kernel_rfl) ?_
  rw [hQQ]
  refine wpAnyG_takeP (preO29 mb) 0 rfl (by kernel_rfl) (by kernel_rfl) (by kernel_rfl) (fun _ _ _ _ h => h) ⟨_, Or.inl ⟨by rfl, fun w2 _ => by (go_simp; try with_reducible rfl)⟩, _, by (go_simp; try rfl), ?_⟩
  refine wpAnyG_takeP (preO29 mb) 2 rfl (by kernel_rfl) (by kernel_rfl) (by kernel_rfl) (fun _ _ _ _ h => h) ⟨_, Or.inl ⟨by rfl, fun w2 _ => by (go_simp; try with_reducible rfl)⟩, _, by (go_simp; try rfl), ?_⟩
  refine wpAnyG_take (preO29 mb) 3 rfl (by kernel_rfl) (by kernel_rfl) (by kernel_rfl) (by kernel_rfl) (fun _ _ _ _ h => h) ⟨_, Or.inl ⟨by rfl, fun w2 hb2 => by (have h0 := held_cell (hb2.trans hmQ.out) 0 _ rfl; go_simp; try with_reducible rfl)⟩, _, by (go_simp; try rfl), ?_⟩
  refine wpAnyG_only 1 rfl (by kernel_rfl) (by rfl) (fun K hK => ?_)
  go_simp
  refine (etextN_any B B E1 (s1 :: s2 :: R) _ hey (by have := hlen.out; simp at this ⊢; omega)).mono ?_
  rintro r V5 ⟨rfl, hey2, hf2⟩
  replace hm := eff_block24 hf2 hm nm
  replace hr := eff_block24 hf2 hr nr
  replace hB2 := eff_below24 hB2 hf2 hbB hB2.size
  clear hey hf2
  have hey := hey2
  clear hey2
  go_simp
  refine hK _ _ ⟨fun _ => (hm.trans hmQ.out.symm), ?_⟩
  clear hK
  clear hmQ
  refine wpAnyG_only 4 rfl (by kernel_rfl) (by rfl) (fun K hK => ?_)
  go_simp
  refine (kD.out _).mono ?_
  rintro r V6 ⟨rfl, hv⟩
  obtain rfl : V5 = V6 := hv.symm
  clear hv
  go_simp
  refine hK _ _ ⟨fun _ => rfl, ?_⟩
  clear hK
  refine wpAnyG_takeP (preO29 mb) 5 rfl (by kernel_rfl) (by kernel_rfl) (by kernel_rfl) (fun _ _ _ _ h => h) ⟨_, Or.inl ⟨by rfl, fun w2 _ => by (go_simp; try with_reducible rfl)⟩, _, by (go_simp; try rfl), ?_⟩
  refine wpAnyG_takeP (preO29 mb) 6 rfl (by kernel_rfl) (by kernel_rfl) (by kernel_rfl) (fun _ _ _ _ h => h) ⟨_, Or.inl ⟨by rfl, fun w2 _ => by (go_simp; try with_reducible rfl)⟩, _, by (go_simp; try rfl), ?_⟩
  refine wpAnyG_takeP (preO29 mb) 7 rfl (by kernel_rfl) (by kernel_rfl) (by kernel_rfl) (fun _ _ _ _ h => h) ⟨_, Or.inl ⟨by rfl, fun w2 _ => by (go_simp; try with_reducible rfl)⟩, _, by (go_simp; try rfl), ?_⟩
  refine wpAnyG_takeP (preO29 mb) 8 rfl (by kernel_rfl) (by kernel_rfl) (by kernel_rfl) (fun _ _ _ _ h => h) ⟨_, Or.inl ⟨by rfl, fun w2 _ => by (go_simp; try with_reducible rfl)⟩, _, by (go_simp; try rfl), ?_⟩
  refine wpAnyG_only 9 rfl (by kernel_rfl) (by rfl) (fun K hK => ?_)
  have x1 := held_cell hm 1 _ rfl
  have g1 := held_free hm 1
  obtain ⟨S3, hS3, ym, oM⟩ := st1 hm 1 (.int .i64 no)
  have hey2 := hid (hey.off29 oM nm (by omega))
  have hr2 := (oM.block _ (Ne.symm nmr)).trans hr
  have hB3 := hid (belowS hB2 oM hbm)
  go_simp
  refine hK _ _ ⟨fun h => (h rfl).elim, ?_⟩
  clear hK
  clear hey hr hB2 hm oM hS3 x1 g1
  have hm : S3.heap[mb]? = some (.cells #[.int .i64 tt, .int .i64 no, .int .i64 0, .slice none 0 0] 27 (0, 0)) := ym
  have hey := hey2.out
  have hr := hr2
  have hB2 := hB3.out
  clear ym hey2 hr2 hB3
  refine wpAnyG_takeP (preO29 mb) 10 rfl (by kernel_rfl) (by kernel_rfl) (by kernel_rfl) (fun _ _ _ _ h => h) ⟨_, Or.inl ⟨by rfl, fun w2 _ => by (go_simp; try with_reducible rfl)⟩, _, by (go_simp; try rfl), ?_⟩
  refine wpAnyG_done (by kernel_rfl) ?_ _
  clear kD
  go_wp2_with fail
  refine (efailN_any B B E1 x1 (s2 :: R) _ hey).mono ?_
  rintro r V7 ⟨rfl, hey2, hf2⟩
  replace hm := eff_block24 hf2 hm nm
  replace hr := eff_block24 hf2 hr nr
  replace hB2 := eff_below24 hB2 hf2 hbB hB2.size
  clear hey hf2
  have hey := hey2
  clear hey2
  obtain ⟨E2, hE2⟩ : ∃ X, kp E1 x1 = X := ⟨_, rfl⟩
  rw [hE2] at hey
  replace hE2 := hid hE2
  have hz := txS_size (e := E2) (L := s2 :: R) (fun s h => hs.out s (List.mem_cons_of_mem _ (List.mem_cons_of_mem _ h)))
  have hrf : (nmS E2 (s2 :: R) 1 2 0 0 99).2.2 = R := rfl
  have kS0 := fun U hh => enumN_any B B E2 (s2 :: R) 1 2 0 0 99 U hh (by have := hlen.out; simp at this ⊢; omega) (fun s h => hs.out s (List.mem_cons_of_mem _ (List.mem_cons_of_mem _ h))) (show (-9223372036854775808 ≤ (0 : Int) ∧ (0 : Int) ≤ 9223372036854775807) ∧ (-9223372036854775808 ≤ (99 : Int) ∧ (99 : Int) ≤ 9223372036854775807) by decide)
  obtain ⟨⟨⟨si, sn⟩, e3, R3⟩, hS⟩ : ∃ r, nmS E2 (s2 :: R) 1 2 0 0 99 = r := ⟨_, rfl⟩
  rw [hS] at kS0 hrf
  dsimp only at kS0 hrf
  subst hrf
  have kS := hid kS0
  replace hS := hid hS
  clear kS0 hz
  go_wp2_with fail
  refine (p29seenCol_any _).mono ?_
  rintro r V8 ⟨rfl, hA⟩
  replace hm := held_after hA hm
  replace hr := held_after hA hr
  replace hey := hey.aft hA
  replace hB2 := bthen hB2 hA
  clear hA
  go_wp2_with fail
  refine (kS.out _ hey).mono ?_
  rintro r V9 ⟨rfl, hey2, hf2⟩
  replace hm := eff_block24 hf2 hm nm
  replace hr := eff_block24 hf2 hr nr
  replace hB2 := eff_below24 hB2 hf2 hbB hB2.size
  clear hey hf2
  have hey := hey2
  clear hey2
  clear kS
  have nw := alloc_new V9 (.cells #[.bool si, .int .i64 sn] 46)
  go_upto_region 12 with (fail)
  obtain ⟨S9, hS9⟩ : ∃ X, V9.alloc (.cells #[.bool si, .int .i64 sn] 46) = X := ⟨_, rfl⟩
  rw [hS9] at nw ⊢
  obtain ⟨ps, hps⟩ : ∃ X, V9.heap.size = X := ⟨_, rfl⟩
  rw [hps] at nw ⊢
  have nsB : ps ≠ B := by have := hey.lt; omega
  have hs9 := nw.2.2
  have hA := nw.2.1
  replace hS9 := hid hS9
  replace hps := hid hps
  clear nw
  replace hm := held_after hA hm
  replace hr := held_after hA hr
  replace hey := hey.aft hA
  replace hB2 := bthen hB2 hA
  clear hA
  have s0c := held_cell hs9 0 _ rfl
  obtain ⟨E4, hE4⟩ : ∃ X, (if si = true then e3 else kp e3 3) = X := ⟨_, rfl⟩
  have hgq := hid (show g = ⟨tt, no, sn, (vwS E4 R3 k).1, (vwS E4 R3 k).2.1⟩ by
    rw [← hg.out]
    unfold gvR
    rw [hx0.out]
    dsimp only
    rw [hx1.out, hE1.out, hE2.out, hS.out]
    dsimp only
    rw [hE4])
  clear hg hx0 hx1 hE1 hE2 hS
  go_upto_if 58 with (fail)
  clear s0c
  go_cut [] from 59 to 60 (fun wx => EyeN B wx B E4 R3 ∧ wx.heap[mb]? = some (.cells #[.int .i64 tt, .int .i64 no, .int .i64 0, .slice none 0 0] 27 (0, 0)) ∧ wx.heap[p0_0]? = some (.cells #[.int .i64 0, .int .i64 0, .int .i64 0, .slice none 0 0] 27 (0, 0)) ∧ wx.heap[ps]? = some (.cells #[.bool si, .int .i64 sn] 46 (0, 0)) ∧ Below w.heap.size w wx)
  case first =>
    cases si
    case true =>
      replace hey := hid hey
      replace hE4 := hid hE4
      go_wp2_with fail
      go_meet
      exact ⟨by rw [← hE4.out]; exact hey.out, hm, hr, hs9, hB2⟩
    case false =>
      rw [if_neg (by decide)] at hE4
      replace hE4 := hid hE4
      go_wp2_with fail
      refine (efailN_any B B e3 3 R3 _ hey).mono ?_
      rintro r V10 ⟨rfl, hey2, hf2⟩
      have hs10 := eff_block24 hf2 hs9 nsB
      have hm10 := eff_block24 hf2 hm nm
      have hr10 := eff_block24 hf2 hr nr
      have hB10 := eff_below24 hB2 hf2 hbB hB2.size
      rw [hE4.out] at hey2
      clear hf2
      go_wp2_with fail
      go_meet
      exact ⟨hey2, hm10, hr10, hs10, hB10⟩
  case rest =>
    clear hey hm hr hs9 hB2 hE4
    obtain ⟨hey, hm, hr, hs9, hB2⟩ := hcut
    have s1c := held_cell hs9 1 _ rfl
    have x2 := held_cell hm 2 _ rfl
    have g2 := held_free hm 2
    obtain ⟨S4, hS4, ym, oM⟩ := st1 hm 2 (.int .i64 sn)
    have hey2 := hid (hey.off29 oM nm (by omega))
    have hr2 := (oM.block _ (Ne.symm nmr)).trans hr
    have hB3 := hid (belowS hB2 oM hbm)
    go_upto_region 15 with (fail)
    clear hey hr hB2 hm oM hS4 x2 g2
    have hm : S4.heap[mb]? = some (.cells #[.int .i64 tt, .int .i64 no, .int .i64 sn, .slice none 0 0] 27 (0, 0)) := ym
    have hey := hey2.out
    have hr := hr2
    have hB2 := hB3.out
    clear ym hey2 hr2 hB3
    clear s1c hs9
    have hO0 := hid (OwnE.nil 52 S4 B 8)
    replace hey := hid hey
    replace hB2 := hid hB2
    go_wp2_with fail
    go_loopw [65] (fun ix wr => ∃ (j : Nat) (a2 : Option Addr) (c2 : Nat), ix = .int .i64 j ∧ j ≤ k ∧ OwnE 52 wr B 8 (.slice a2 j c2) j ((vwS E4 R3 j).1.map enV).flatten ∧ EyeN B wr B (vwS E4 R3 j).2.1 (vwS E4 R3 j).2.2 ∧ wr.heap[mb]? = some (.cells #[.int .i64 tt, .int .i64 no, .int .i64 sn, .slice a2 j c2] 27 (0, 0)) ∧ wr.heap[p0_0]? = some (.cells #[.int .i64 0, .int .i64 0, .int .i64 0, .slice none 0 0] 27 (0, 0)) ∧ Below w.heap.size w wr) (fun ix _ => k - (intOf ix).toNat)
    case atStart => exact ⟨0, none, 0, rfl, by omega, hO0.out, hey.out, hm, hr, hB2.out⟩
    case round =>
      clear hO0 hey hm hr hB2
      obtain ⟨j, a2, c2, rfl, hj, hO, hey, hm, hr, hB2⟩ := hrel
      have hsz := vwS_size (e := E4) hsR.out j
      have hvl := vwS_len E4 R3 j
      obtain ⟨⟨xs, e1, R1⟩, hxs⟩ : ∃ r, vwS E4 R3 j = r := ⟨_, rfl⟩
      have hnx := vwS_next hxs
      rw [hxs] at hsz hO hey hvl
      dsimp only at hsz hO hey hvl
      have hRl2 := hRl.out
      replace hvl := hid hvl
      replace hO := hid hO
      skip
      by_cases hlt : (j : Int) < k
      case neg =>
        obtain rfl : j = k := by omega
        have hG := hid (show g = ⟨tt, no, sn, xs, e1⟩ by rw [hgq.out, hxs])
        clear hnx hxs hj hgq hsz
        go_wp2_with fail
        refine (eerrN_any B B e1 R1 _ hey).mono ?_
        rintro r V20 ⟨rfl, hv⟩
        obtain rfl : wr = V20 := hv.symm
        clear hv
        by_cases hE0 : e1 = 0
        case pos =>
          have t0 : (e1 != 0) = false := by simpa using hE0
          have z0 := held_cell hm 0 _ rfl
          have z1 := held_cell hm 1 _ rfl
          have z2 := held_cell hm 2 _ rfl
          have z3 := held_cell hm 3 _ rfl
          have x0 := held_cell hr 0 _ rfl
          have x1 := held_cell hr 1 _ rfl
          have x2 := held_cell hr 2 _ rfl
          have x3 := held_cell hr 3 _ rfl
          have f0 := held_free hr 0
          have f1 := held_free hr 1
          have f2 := held_free hr 2
          have f3 := held_free hr 3
          obtain ⟨W9, hW9, ya, yO⟩ := st4 hr (.int .i64 tt) (.int .i64 no) (.int .i64 sn) (.slice a2 j c2)
          have hB9 := belowS hB2 yO hbr
          have hE9 := (ownE_only hO.out hr (by decide) yO).els (by rw [List.length_map]; exact hvl.out) (enV_m xs)
          have hfin : GvOk w g (.returned (.tuple #[.agg #[.int .i64 tt, .int .i64 no, .int .i64 sn, .slice a2 j c2], .int .i64 0])) W9 := by rw [hG.out]; exact ⟨hB9, .inr ⟨hE0, a2, j, c2, rfl, hE9⟩⟩
          replace hfin := hid hfin
          have ez0 := held_cell ya 0 _ rfl
          have ez1 := held_cell ya 1 _ rfl
          have ez2 := held_cell ya 2 _ rfl
          have ez3 := held_cell ya 3 _ rfl
          clear ya yO hB9 hey hB2 hO hm hr
          go_wp2_with fail
          refine bodyPost_ret (v := .tuple #[.agg #[.int .i64 tt, .int .i64 no, .int .i64 sn, .slice a2 j c2], .int .i64 0]) (by simp [results, Tryz.results6, go_sem, ez0, ez1, ez2, ez3]) rfl hfin.out
        case neg =>
          have t0 : (e1 != 0) = true := by simpa using hE0
          go_wp2_with fail
          refine (eerrN_any B B e1 R1 _ hey).mono ?_
          rintro r V21 ⟨rfl, hv⟩
          obtain rfl : wr = V21 := hv.symm
          clear hv
          have x0 := held_cell hr 0 _ rfl
          have x1 := held_cell hr 1 _ rfl
          have x2 := held_cell hr 2 _ rfl
          have x3 := held_cell hr 3 _ rfl
          have f0 := held_free hr 0
          have f1 := held_free hr 1
          have f2 := held_free hr 2
          have f3 := held_free hr 3
          obtain ⟨W9, hW9, ya, yO⟩ := st4 hr (.int .i64 0) (.int .i64 0) (.int .i64 0) (.slice none 0 0)
          have hB9 := belowS hB2 yO hbr
          have hfin : GvOk w g (.returned (.tuple #[.agg #[.int .i64 0, .int .i64 0, .int .i64 0, .slice none 0 0], .int .i64 e1])) W9 := by rw [hG.out]; exact ⟨hB9, .inl ⟨hE0, rfl⟩⟩
          replace hfin := hid hfin
          have ez0 := held_cell ya 0 _ rfl
          have ez1 := held_cell ya 1 _ rfl
          have ez2 := held_cell ya 2 _ rfl
          have ez3 := held_cell ya 3 _ rfl
          clear ya yO hB9 hey hB2 hO hm hr
          go_wp2_with fail
          refine bodyPost_ret (v := .tuple #[.agg #[.int .i64 0, .int .i64 0, .int .i64 0, .slice none 0 0], .int .i64 e1]) (by simp [results, Tryz.results6, go_sem, ez0, ez1, ez2, ez3]) rfl hfin.out
      have wj : IntKind.i64.wrap ((j : Int) + 1) = (j : Int) + 1 := by rw [IntKind.wrap_i64]; omega
      have hj1 := hid (show j + 1 ≤ k by omega)
      have hms := hid (show k - (j + 1) < k - j by omega)
      have hz0 := nmS_size (e := e1) (W := 1) (M := 3) (F := 0) (lo := 1) (hi := 255) hsz.1
      have kI0 := fun U hh => enumN_any B B e1 R1 1 3 0 1 255 U hh (by omega) hsz.1 (show (-9223372036854775808 ≤ (1 : Int) ∧ (1 : Int) ≤ 9223372036854775807) ∧ (-9223372036854775808 ≤ (255 : Int) ∧ (255 : Int) ≤ 9223372036854775807) by decide)
      obtain ⟨⟨⟨i0, m0⟩, f0, Q0⟩, hn0⟩ : ∃ r, nmS e1 R1 1 3 0 1 255 = r := ⟨_, rfl⟩
      rw [hn0] at hz0 kI0
      dsimp only at hz0 kI0
      have hz1 := nmS_size (e := f0) (W := 1) (M := 2) (F := 0) (lo := 0) (hi := 90) hz0.1
      have kI1 := fun U hh => enumN_any B B f0 Q0 1 2 0 0 90 U hh (by omega) hz0.1 (show (-9223372036854775808 ≤ (0 : Int) ∧ (0 : Int) ≤ 9223372036854775807) ∧ (-9223372036854775808 ≤ (90 : Int) ∧ (90 : Int) ≤ 9223372036854775807) by decide)
      obtain ⟨⟨⟨i1, m1⟩, f1, Q1⟩, hn1⟩ : ∃ r, nmS f0 Q0 1 2 0 0 90 = r := ⟨_, rfl⟩
      rw [hn1] at hz1 kI1
      dsimp only at hz1 kI1
      have hz2 := nmS_size (e := f1) (W := 1) (M := 3) (F := 0) (lo := 0) (hi := 359) hz1.1
      have kI2 := fun U hh => enumN_any B B f1 Q1 1 3 0 0 359 U hh (by omega) hz1.1 (show (-9223372036854775808 ≤ (0 : Int) ∧ (0 : Int) ≤ 9223372036854775807) ∧ (-9223372036854775808 ≤ (359 : Int) ∧ (359 : Int) ≤ 9223372036854775807) by decide)
      obtain ⟨⟨⟨i2, m2⟩, f2, Q2⟩, hn2⟩ : ∃ r, nmS f1 Q1 1 3 0 0 359 = r := ⟨_, rfl⟩
      rw [hn2] at hz2 kI2
      dsimp only at hz2 kI2
      have hz3 := nmS_size (e := f2) (W := 1) (M := 2) (F := 0) (lo := 0) (hi := 99) hz2.1
      have kI3 := fun U hh => enumN_any B B f2 Q2 1 2 0 0 99 U hh (by omega) hz2.1 (show (-9223372036854775808 ≤ (0 : Int) ∧ (0 : Int) ≤ 9223372036854775807) ∧ (-9223372036854775808 ≤ (99 : Int) ∧ (99 : Int) ≤ 9223372036854775807) by decide)
      obtain ⟨⟨⟨i3, m3⟩, f3, Q3⟩, hn3⟩ : ∃ r, nmS f2 Q2 1 2 0 0 99 = r := ⟨_, rfl⟩
      rw [hn3] at hz3 kI3
      dsimp only at hz3 kI3
      have hv1 : vw1 e1 R1 = (((i0, m0), (i1, m1), (i2, m2), i3, m3), f3, Q3) := by unfold vw1; rw [hn0]; dsimp only; rw [hn1]; dsimp only; rw [hn2]; dsimp only; rw [hn3]
      rw [hv1] at hnx
      replace hnx := hid hnx
      replace kI0 := hid kI0
      replace kI1 := hid kI1
      replace kI2 := hid kI2
      replace kI3 := hid kI3
      clear hv1 hn0 hn1 hn2 hn3 hz0 hz1 hz2 hz3 hsz hxs hgq hRl2
      replace hj := hid hj
      go_upto_region 17 with (fail)
      have hmQ := hid (show wr.drew.heap[mb]? = some (.cells #[.int .i64 tt, .int .i64 no, .int .i64 sn, .slice a2 j c2] 27 (0, 0)) from hm)
      have hA : After wr wr.drew := (Below.refl _ wr).drew
      obtain ⟨QQ, hQQ⟩ : ∃ X, wr.drew = X := ⟨_, rfl⟩
      rw [hQQ] at hmQ hA
      replace hm := held_after hA hm
      replace hr := held_after hA hr
      replace hey := hey.aft hA
      replace hB2 := bthen hB2 hA
      replace hO := hid (hO.out.below hA)
      clear hA
      refine wp_region_G (fun U U' : World => U'.heap[mb]? = U.heap[mb]?) 18 (by kernel_rfl) ?_
      rw [hQQ]
      refine wpAnyG_takeP (preO29 mb) 0 rfl (by kernel_rfl) (by kernel_rfl) (by kernel_rfl) (fun _ _ _ _ h => h) ⟨_, Or.inl ⟨by rfl, fun w2 _ => by (go_simp; try with_reducible rfl)⟩, _, by (go_simp; try rfl), ?_⟩
      refine wpAnyG_take (preO29 mb) 1 rfl (by kernel_rfl) (by kernel_rfl) (by kernel_rfl) (by kernel_rfl) (fun _ _ _ _ h => h) ⟨_, Or.inl ⟨by rfl, fun w2 hb2 => by (have h3 := held_cell (hb2.trans hmQ.out) 3 _ rfl; go_simp; try with_reducible rfl)⟩, _, by (go_simp; try rfl), ?_⟩
      refine wpAnyG_takeP (preO29 mb) 2 rfl (by kernel_rfl) (by kernel_rfl) (by kernel_rfl) (fun _ _ _ _ h => h) ⟨_, Or.inl ⟨by rfl, fun w2 _ => by (go_simp; try with_reducible rfl)⟩, _, by (go_simp; try rfl), ?_⟩
      refine wpAnyG_takeP (preO29 mb) 5 rfl (by kernel_rfl) (by kernel_rfl) (by kernel_rfl) (fun _ _ _ _ h => h) ⟨_, Or.inl ⟨by rfl, fun w2 _ => by (go_simp; try with_reducible rfl)⟩, _, by (go_simp; try rfl), ?_⟩
      refine wpAnyG_takeP (preO29 mb) 8 rfl (by kernel_rfl) (by kernel_rfl) (by kernel_rfl) (fun _ _ _ _ h => h) ⟨_, Or.inl ⟨by rfl, fun w2 _ => by (go_simp; try with_reducible rfl)⟩, _, by (go_simp; try rfl), ?_⟩
      refine wpAnyG_takeP (preO29 mb) 11 rfl (by kernel_rfl) (by kernel_rfl) (by kernel_rfl) (fun _ _ _ _ h => h) ⟨_, Or.inl ⟨by rfl, fun w2 _ => by (go_simp; try with_reducible rfl)⟩, _, by (go_simp; try rfl), ?_⟩
      refine wpAnyG_only 3 rfl (by kernel_rfl) (by rfl) (fun K hK => ?_)
      have hmp := hid hm
      go_simp
      refine (p29idCol_any _).mono ?_
      rintro r A0 ⟨rfl, hA⟩
      replace hm := held_after hA hm
      replace hr := held_after hA hr
      replace hey := hey.aft hA
      replace hB2 := bthen hB2 hA
      replace hO := hid (hO.out.below hA)
      clear hA
      go_simp
      refine hK _ _ ⟨fun _ => (hm.trans hmp.out.symm), ?_⟩
      clear hK
      clear hmp
      refine wpAnyG_only 4 rfl (by kernel_rfl) (by rfl) (fun K hK => ?_)
      have hmp := hid hm
      go_simp
      refine (kI0.out _ hey).mono ?_
      rintro r Z0 ⟨rfl, hey2, hf2⟩
      replace hm := eff_block24 hf2 hm nm
      replace hr := eff_block24 hf2 hr nr
      replace hB2 := eff_below24 hB2 hf2 hbB hB2.size
      replace hO := hid (own_eye29 hO.out hey (by decide) hf2)
      clear hey hf2
      have hey := hey2
      clear hey2
      go_simp
      refine hK _ _ ⟨fun _ => (hm.trans hmp.out.symm), ?_⟩
      clear hK
      clear hmp kI0
      refine wpAnyG_only 6 rfl (by kernel_rfl) (by rfl) (fun K hK => ?_)
      have hmp := hid hm
      go_simp
      refine (p29elevCol_any _).mono ?_
      rintro r A1 ⟨rfl, hA⟩
      replace hm := held_after hA hm
      replace hr := held_after hA hr
      replace hey := hey.aft hA
      replace hB2 := bthen hB2 hA
      replace hO := hid (hO.out.below hA)
      clear hA
      go_simp
      refine hK _ _ ⟨fun _ => (hm.trans hmp.out.symm), ?_⟩
      clear hK
      clear hmp
      refine wpAnyG_only 7 rfl (by kernel_rfl) (by rfl) (fun K hK => ?_)
      have hmp := hid hm
      go_simp
      refine (kI1.out _ hey).mono ?_
      rintro r Z1 ⟨rfl, hey2, hf2⟩
      replace hm := eff_block24 hf2 hm nm
      replace hr := eff_block24 hf2 hr nr
      replace hB2 := eff_below24 hB2 hf2 hbB hB2.size
      replace hO := hid (own_eye29 hO.out hey (by decide) hf2)
      clear hey hf2
      have hey := hey2
      clear hey2
      go_simp
      refine hK _ _ ⟨fun _ => (hm.trans hmp.out.symm), ?_⟩
      clear hK
      clear hmp kI1
      refine wpAnyG_only 9 rfl (by kernel_rfl) (by rfl) (fun K hK => ?_)
      have hmp := hid hm
      go_simp
      refine (p29azimCol_any _).mono ?_
      rintro r A2 ⟨rfl, hA⟩
      replace hm := held_after hA hm
      replace hr := held_after hA hr
      replace hey := hey.aft hA
      replace hB2 := bthen hB2 hA
      replace hO := hid (hO.out.below hA)
      clear hA
      go_simp
      refine hK _ _ ⟨fun _ => (hm.trans hmp.out.symm), ?_⟩
      clear hK
      clear hmp
      refine wpAnyG_only 10 rfl (by kernel_rfl) (by rfl) (fun K hK => ?_)
      have hmp := hid hm
      go_simp
      refine (kI2.out _ hey).mono ?_
      rintro r Z2 ⟨rfl, hey2, hf2⟩
      replace hm := eff_block24 hf2 hm nm
      replace hr := eff_block24 hf2 hr nr
      replace hB2 := eff_below24 hB2 hf2 hbB hB2.size
      replace hO := hid (own_eye29 hO.out hey (by decide) hf2)
      clear hey hf2
      have hey := hey2
      clear hey2
      go_simp
      refine hK _ _ ⟨fun _ => (hm.trans hmp.out.symm), ?_⟩
      clear hK
      clear hmp kI2
      refine wpAnyG_only 12 rfl (by kernel_rfl) (by rfl) (fun K hK => ?_)
      have hmp := hid hm
      go_simp
      refine (p29levelCol_any _).mono ?_
      rintro r A3 ⟨rfl, hA⟩
      replace hm := held_after hA hm
      replace hr := held_after hA hr
      replace hey := hey.aft hA
      replace hB2 := bthen hB2 hA
      replace hO := hid (hO.out.below hA)
      clear hA
      go_simp
      refine hK _ _ ⟨fun _ => (hm.trans hmp.out.symm), ?_⟩
      clear hK
      clear hmp
      refine wpAnyG_only 13 rfl (by kernel_rfl) (by rfl) (fun K hK => ?_)
      have hmp := hid hm
      go_simp
      refine (kI3.out _ hey).mono ?_
      rintro r Z3 ⟨rfl, hey2, hf2⟩
      replace hm := eff_block24 hf2 hm nm
      replace hr := eff_block24 hf2 hr nr
      replace hB2 := eff_below24 hB2 hf2 hbB hB2.size
      replace hO := hid (own_eye29 hO.out hey (by decide) hf2)
      clear hey hf2
      have hey := hey2
      clear hey2
      go_simp
      refine hK _ _ ⟨fun _ => (hm.trans hmp.out.symm), ?_⟩
      clear hK
      clear hmp kI3
      refine wpAnyG_takeP (preO29 mb) 14 rfl (by kernel_rfl) (by kernel_rfl) (by kernel_rfl) (fun _ _ _ _ h => h) ⟨_, Or.inl ⟨by rfl, fun w2 _ => by (go_simp; try with_reducible rfl)⟩, _, by (go_simp; try rfl), ?_⟩
      refine wpAnyG_only 15 rfl (by kernel_rfl) (by rfl) (fun K hK => ?_)
      have hmp := hid hm
      go_simp
      have hE2 : Els (Z3.alloc (.cells #[.bool i0, .int .i64 m0, .bool i1, .int .i64 m1, .bool i2, .int .i64 m2, .bool i3, .int .i64 m3] 52)) 8 (some ⟨Z3.heap.size, 0, none⟩) 1 1 [enV ((i0, m0), (i1, m1), (i2, m2), i3, m3)] := els_one Z3 _ 52 8 rfl
      have hA := (alloc_new Z3 (.cells #[.bool i0, .int .i64 m0, .bool i1, .int .i64 m1, .bool i2, .int .i64 m2, .bool i3, .int .i64 m3] 52)).2.1
      obtain ⟨X6, hX6⟩ : ∃ X, Z3.alloc (.cells #[.bool i0, .int .i64 m0, .bool i1, .int .i64 m1, .bool i2, .int .i64 m2, .bool i3, .int .i64 m3] 52) = X := ⟨_, rfl⟩
      rw [hX6] at hA hE2 ⊢
      obtain ⟨pc, hpc⟩ : ∃ X, Z3.heap.size = X := ⟨_, rfl⟩
      rw [hpc] at hE2 ⊢
      replace hm := held_after hA hm
      replace hr := held_after hA hr
      replace hey := hey.aft hA
      replace hB2 := bthen hB2 hA
      replace hO := hid (hO.out.below hA)
      clear hA
      replace hE2 := hid hE2
      clear hX6 hpc
      refine hK _ _ ⟨fun _ => (hm.trans hmp.out.symm), ?_⟩
      clear hK
      clear hmp
      refine wpAnyG_only 16 rfl (by kernel_rfl) (by rfl) (fun K hK => ?_)
      have hmp := hid hm
      have hXB := hey.lt
      refine wp_appE (.tmp 68) (.tmp 82) 25 rfl B 52 8 64 viO (by decide) (.slice a2 j c2) j (xs.map enV).flatten rfl hO.out (some ⟨pc, 0, none⟩) 1 1 [enV ((i0, m0), (i1, m1), (i2, m2), i3, m3)] rfl hE2.out (enV_one [((i0, m0), (i1, m1), (i2, m2), i3, m3)]) (by unfold maxLen; omega) (by omega) (by omega) ?_
      intro a9 c9 W9 hO9 hG9 hN9
      have hm9 := (hG9.block mb (held_lt hm) (fun e => hO.out.ne hm (by decide) e.symm)).trans hm
      have hr9 := (hG9.block p0_0 (held_lt hr) (fun e => hO.out.ne hr (by decide) e.symm)).trans hr
      have hey9 := hid (eyeN_grown hey (by omega) hO.out (by decide) hG9)
      have hB9 := hid (hB2.grown hG9 hB2.size (fun k e => by have := (hO.out.lt k e).1; omega))
      clear hm hr hey hB2 hO hE2 hG9 hN9
      have hm := hm9
      have hr := hr9
      have hey := hey9.out
      have hB2 := hB9.out
      have hO := hid hO9
      clear hm9 hr9 hey9 hB9 hO9
      refine hK _ _ ⟨fun _ => (hm.trans hmp.out.symm), ?_⟩
      clear hK
      clear hmp
      refine wpAnyG_takeP (preO29 mb) 17 rfl (by kernel_rfl) (by kernel_rfl) (by kernel_rfl) (fun _ _ _ _ h => h) ⟨_, Or.inl ⟨by rfl, fun w2 _ => by (go_simp; try with_reducible rfl)⟩, _, by (go_simp; try rfl), ?_⟩
      refine wpAnyG_only 18 rfl (by kernel_rfl) (by rfl) (fun K hK => ?_)
      have x3 := held_cell hm 3 _ rfl
      have g3 := held_free hm 3
      obtain ⟨S5, hS5, ym, oM⟩ := st1 hm 3 (.slice a9 (j + 1) c9)
      have hey2 := hid (hey.off29 oM nm (by omega))
      have hr2 := (oM.block _ (Ne.symm nmr)).trans hr
      have hB3 := hid (belowS hB2 oM hbm)
      replace hO := hid (ownE_only hO.out hm (by decide) oM)
      go_simp
      refine hK _ _ ⟨fun h => (h rfl).elim, ?_⟩
      clear hK
      clear hey hr hB2 hm oM hS5 x3 g3
      have hm : S5.heap[mb]? = some (.cells #[.int .i64 tt, .int .i64 no, .int .i64 sn, .slice a9 (j + 1) c9] 27 (0, 0)) := ym
      have hey := hey2.out
      have hr := hr2
      have hB2 := hB3.out
      clear ym hey2 hr2 hB3
      refine wpAnyG_done (by kernel_rfl) ?_ _
      replace hey := hid hey
      replace hB2 := hid hB2
      go_wp2_with fail
      go_roundw
      case rel =>
        refine ⟨j + 1, a9, c9, by simp, hj1.out, ?_⟩
        rw [hnx.out]
        refine ⟨?_, hey.out, hm, hr, hB2.out⟩
        show OwnE _ _ _ _ _ _ ((xs ++ [((i0, m0), (i1, m1), (i2, m2), i3, m3)]).map enV).flatten
        rw [List.map_append, List.flatten_append]
        exact hO.out
      case measure => simp [intOf]; have := hms.out; omega

end Go.Proofs.YtobgibmpodggkaaGreatDoor

/- Package landfallref29: Take. -/
namespace Go.Proofs.YtobgibmpodggkaaGreatDoor
open Go.ChangeShapes Go.WideShapes Go.ChangeAt Go.RowKit
set_option linter.unusedVariables false
set_option linter.unusedSimpArgs false

theorem RowRN.kept29 {N : Nat} {w w' : World} {B : Nat} {e : Int} {L : List ByteArray} (h : RowRN N w B e L) (hb : w'.heap[B]? = w.heap[B]?) (hk : ∀ k, k < N → w'.heap[k]? = w.heap[k]?) : RowRN N w' B e L := by
  obtain ⟨F, a, cap, i, h1, h2, h3, h4, h5, h6⟩ := h
  exact ⟨F, a, cap, i, h1, h2, h3, hb.trans h4, h5.kept29 (fun x hx h0 => hk _ (h6 x hx h0).1), h6⟩
theorem RowRN.cells29 {N : Nat} {w : World} {B : Nat} {e : Int} {L : List ByteArray} (h : RowRN N w B e L) : ∃ c, w.heap[B]? = some (.cells c 58 (0, 0)) := by
  obtain ⟨F, a, cap, i, h1, h2, h3, h4, h5, h6⟩ := h
  exact ⟨_, h4⟩
theorem RowRN.off29 {N : Nat} {w w' : World} {B p : Nat} {e : Int} {L : List ByteArray} (h : RowRN N w B e L) (k : Only p w w') (hne : p ≠ B) (hN : N ≤ p) : RowRN N w' B e L :=
  h.kept29 (k.block B hne.symm) (fun j hj => k.block j (by omega))
theorem own_row29 {E : TypeId} {N M m : Nat} {w U : World} {B : Nat} {e : Int} {L : List ByteArray} {v : Value} {n : Nat} {xs : List Value} (h : OwnE E w M m v n xs) (hy : RowRN N w B e L) (hT : 58 ≠ E) (hE : Eff B w U) : OwnE E U M m v n xs := by
  obtain ⟨c, hc⟩ := hy.cells29
  exact h.kept fun k hk => hE.block k (h.lt k hk).2.1 (fun e => h.ne hc hT (by rw [hk, e]))
theorem rowN_grown {E : TypeId} {N m : Nat} {w w' : World} {B : Nat} {e : Int} {L : List ByteArray} {v : Value} {n : Nat} {xs : List Value} (h : RowRN N w B e L) (hN : N ≤ w.heap.size) (hO : OwnE E w N m v n xs) (hT : 58 ≠ E) (hg : w.grownBy w' v.ownBlock) : RowRN N w' B e L := by
  obtain ⟨c, hc⟩ := h.cells29
  exact h.kept29 (hg.block B h.lt (fun e => hO.ne hc hT e.symm)) (fun k hk => hg.block k (by omega) (fun e => by have := (hO.lt k e.symm).1; omega))
theorem fx_same29 (s : ByteArray) (hi : Int) : (fxV s hi).2 = (dgS s 1 hi).2 := by unfold fxV; split <;> rfl
theorem fx_eq29 {s : ByteArray} {hi : Int} (h : (dgS s 1 hi).2 = 0) : dgS s 1 hi = fxV s hi := by unfold fxV; rw [if_pos h]
theorem fxV9 (s : ByteArray) : dgS s 1 9 = fxV s 9 := by
  by_cases h : (dgS s 1 9).2 = 0
  · exact fx_eq29 h
  · unfold fxV
    rw [if_neg h]
    unfold dgS at h ⊢
    split
    · rename_i h1
      rw [if_pos h1] at h
      dsimp only at h ⊢
      split at h
      · rename_i h2
        rw [if_pos h2]
        have : (((sb s).getD 0 0 : Nat) : Int) - 48 = 0 := by omega
        rw [this]
      · exact absurd rfl h
    · rfl
theorem nm_rest29 (e : Int) (L : List ByteArray) (W M F lo hi : Int) : (nmS e L W M F lo hi).2.2 = L.drop 1 := by cases L <;> rfl
theorem vw_rest29 (e : Int) (L : List ByteArray) : (vw1 e L).2.2 = L.drop 4 := by
  unfold vw1
  dsimp only
  rw [nm_rest29, nm_rest29, nm_rest29, nm_rest29, List.drop_drop, List.drop_drop, List.drop_drop]
theorem vwS_rest29 (e : Int) (L : List ByteArray) : ∀ k, (vwS e L k).2.2 = L.drop (4 * k)
  | 0 => rfl
  | k + 1 => by
    show (vw1 (vwS e L k).2.1 (vwS e L k).2.2).2.2 = _
    rw [vw_rest29, vwS_rest29 e L k, List.drop_drop]
    congr 1
theorem rem29 {n k : Nat} (h : n = 3 + 4 * k) : (n : Int).tmod 4 = 3 := by rw [Int.tmod_eq_emod_of_nonneg (by omega)]; omega
set_option maxRecDepth 100000 in
set_option maxHeartbeats 8000000 in
theorem rgvtake_no (a : Option Addr) (n cap : Nat) (w : World) (hmx : n ≤ 1000) (hn : ∀ k, k ≤ 4 → n ≠ 3 + 4 * k) : Calls Tryz.prog 7 #[.slice a n cap] w fun r w' => r = .returned (.tuple #[.agg #[.int .i64 0, .int .i64 0, .int .i64 0, .slice none 0 0], .int .i64 3]) ∧ After w w' := by
  have k0 := hn ((n - 3) / 4)
  by_cases c1 : n < 3
  case pos =>
    have b1 : decide ((n : Int) < 3) = true := by simp; omega
    clear hn c1 k0
    go_enter Tryz.func7, Tryz.ntmps7
    go_upto_region 0 with (fail)
    apply wp_region_seg0 (w := w) (S := [.al 1000, .q []]) (E := [.al ((fun p => .pointer (some ⟨p, 0, none⟩)), _) 1000, .q0 _]) rfl (by kernel_rfl) rfl rfl
    intro th hge hne
    refine Seg.step _ rfl ⟨by rfl, fun U hU => ?_⟩ ?_
    · go_simp; exact vp_alloc rfl rfl rfl
    refine Seg.sa ?_
    refine Seg.sq ?_
    refine Seg.stop (fun U1 hU hk => ?_)
    have nb0 := hge 0 _ _ rfl
    have rb0 := (hk 0 _ _ rfl trivial).1.2 (by simp)
    clear hk hge hne
    generalize th (0 + 0) = p0_0 at *
    dsimp only at rb0
    have r_p0_0 := rb0
    clear rb0
    have n_p0_0 := nb0
    clear nb0
    have sz1 := hU.size
    have hB : Below w.heap.size w U1 := hU
    clear hU
    have x0 := held_cell r_p0_0 0 _ rfl
    have x1 := held_cell r_p0_0 1 _ rfl
    have x2 := held_cell r_p0_0 2 _ rfl
    have x3 := held_cell r_p0_0 3 _ rfl
    have g0 := held_free r_p0_0 0
    have g1 := held_free r_p0_0 1
    have g2 := held_free r_p0_0 2
    have g3 := held_free r_p0_0 3
    obtain ⟨W9, hW9, ya, yO⟩ := st4 r_p0_0 (.int .i64 0) (.int .i64 0) (.int .i64 0) (.slice none 0 0)
    have hB9 := hid (belowS hB yO (by omega))
    have ez0 := held_cell ya 0 _ rfl
    have ez1 := held_cell ya 1 _ rfl
    have ez2 := held_cell ya 2 _ rfl
    have ez3 := held_cell ya 3 _ rfl
    clear ya yO r_p0_0 hB
    go_wp2_with fail
    refine bodyPost_ret (v := .tuple #[.agg #[.int .i64 0, .int .i64 0, .int .i64 0, .slice none 0 0], .int .i64 3]) (by simp [results, Tryz.results7, go_sem, ez0, ez1, ez2, ez3]) rfl ⟨rfl, hB9.out⟩
  have b1 : decide ((n : Int) < 3) = false := by simp; omega
  by_cases c2 : 19 < n
  case pos =>
    have b2 : decide ((19 : Int) < (n : Int)) = true := by simp; omega
    clear hn c1 c2 k0
    go_enter Tryz.func7, Tryz.ntmps7
    go_upto_region 0 with (fail)
    apply wp_region_seg0 (w := w) (S := [.al 1000, .q []]) (E := [.al ((fun p => .pointer (some ⟨p, 0, none⟩)), _) 1000, .q0 _]) rfl (by kernel_rfl) rfl rfl
    intro th hge hne
    refine Seg.step _ rfl ⟨by rfl, fun U hU => ?_⟩ ?_
    · go_simp; exact vp_alloc rfl rfl rfl
    refine Seg.sa ?_
    refine Seg.sq ?_
    refine Seg.stop (fun U1 hU hk => ?_)
    have nb0 := hge 0 _ _ rfl
    have rb0 := (hk 0 _ _ rfl trivial).1.2 (by simp)
    clear hk hge hne
    generalize th (0 + 0) = p0_0 at *
    dsimp only at rb0
    have r_p0_0 := rb0
    clear rb0
    have n_p0_0 := nb0
    clear nb0
    have sz1 := hU.size
    have hB : Below w.heap.size w U1 := hU
    clear hU
    have x0 := held_cell r_p0_0 0 _ rfl
    have x1 := held_cell r_p0_0 1 _ rfl
    have x2 := held_cell r_p0_0 2 _ rfl
    have x3 := held_cell r_p0_0 3 _ rfl
    have g0 := held_free r_p0_0 0
    have g1 := held_free r_p0_0 1
    have g2 := held_free r_p0_0 2
    have g3 := held_free r_p0_0 3
    obtain ⟨W9, hW9, ya, yO⟩ := st4 r_p0_0 (.int .i64 0) (.int .i64 0) (.int .i64 0) (.slice none 0 0)
    have hB9 := hid (belowS hB yO (by omega))
    have ez0 := held_cell ya 0 _ rfl
    have ez1 := held_cell ya 1 _ rfl
    have ez2 := held_cell ya 2 _ rfl
    have ez3 := held_cell ya 3 _ rfl
    clear ya yO r_p0_0 hB
    go_wp2_with fail
    refine bodyPost_ret (v := .tuple #[.agg #[.int .i64 0, .int .i64 0, .int .i64 0, .slice none 0 0], .int .i64 3]) (by simp [results, Tryz.results7, go_sem, ez0, ez1, ez2, ez3]) rfl ⟨rfl, hB9.out⟩
  have b2 : decide ((19 : Int) < (n : Int)) = false := by simp; omega
  have e1 : (n : Int).tmod 4 = ((n % 4 : Nat) : Int) := by rw [Int.tmod_eq_emod_of_nonneg (by omega)]; omega
  have b3 : (((n % 4 : Nat) : Int) != 3) = true := by simp; omega
  obtain ⟨m, hm⟩ : ∃ m : Nat, n % 4 = m := ⟨_, rfl⟩
  rw [hm] at e1 b3
  clear hn c1 c2 k0 hm
  go_enter Tryz.func7, Tryz.ntmps7
  go_upto_region 0 with (fail)
  apply wp_region_seg0 (w := w) (S := [.al 1000, .q []]) (E := [.al ((fun p => .pointer (some ⟨p, 0, none⟩)), _) 1000, .q0 _]) rfl (by kernel_rfl) rfl rfl
  intro th hge hne
  refine Seg.step _ rfl ⟨by rfl, fun U hU => ?_⟩ ?_
  · go_simp; exact vp_alloc rfl rfl rfl
  refine Seg.sa ?_
  refine Seg.sq ?_
  refine Seg.stop (fun U1 hU hk => ?_)
  have nb0 := hge 0 _ _ rfl
  have rb0 := (hk 0 _ _ rfl trivial).1.2 (by simp)
  clear hk hge hne
  generalize th (0 + 0) = p0_0 at *
  dsimp only at rb0
  have r_p0_0 := rb0
  clear rb0
  have n_p0_0 := nb0
  clear nb0
  have sz1 := hU.size
  have hB : Below w.heap.size w U1 := hU
  clear hU
  have x0 := held_cell r_p0_0 0 _ rfl
  have x1 := held_cell r_p0_0 1 _ rfl
  have x2 := held_cell r_p0_0 2 _ rfl
  have x3 := held_cell r_p0_0 3 _ rfl
  have g0 := held_free r_p0_0 0
  have g1 := held_free r_p0_0 1
  have g2 := held_free r_p0_0 2
  have g3 := held_free r_p0_0 3
  obtain ⟨W9, hW9, ya, yO⟩ := st4 r_p0_0 (.int .i64 0) (.int .i64 0) (.int .i64 0) (.slice none 0 0)
  have hB9 := hid (belowS hB yO (by omega))
  have ez0 := held_cell ya 0 _ rfl
  have ez1 := held_cell ya 1 _ rfl
  have ez2 := held_cell ya 2 _ rfl
  have ez3 := held_cell ya 3 _ rfl
  clear ya yO r_p0_0 hB
  go_wp2_with fail
  refine bodyPost_ret (v := .tuple #[.agg #[.int .i64 0, .int .i64 0, .int .i64 0, .slice none 0 0], .int .i64 3]) (by simp [results, Tryz.results7, go_sem, ez0, ez1, ez2, ez3]) rfl ⟨rfl, hB9.out⟩
set_option maxRecDepth 100000 in
set_option maxHeartbeats 32000000 in
theorem rgvtake_any (s0 s1 s2 : ByteArray) (R : List ByteArray) (k : Nat) (hk4 : k ≤ 4) (hR : R.length = 4 * k) (w : World) (a : Option Addr) (n cap : Nat) (hn : n = 3 + 4 * k) (hEl : Els w 1 a n cap (strV23 (s0 :: s1 :: s2 :: R))) (hs : ∀ s ∈ s0 :: s1 :: s2 :: R, s.size ≤ 1000) : Calls Tryz.prog 7 #[.slice a n cap] w fun r w' => GvOk w (gvR s0 s1 s2 R k) r w' := by
  have b1 : decide ((n : Int) < 3) = false := by simp; omega
  have b2 : decide ((19 : Int) < (n : Int)) = false := by simp; omega
  have b3 := rem29 hn
  have hlen : (s0 :: s1 :: s2 :: R).length = n := by simp; omega
  have hn1000 : n ≤ 1000 := by omega
  have hsR := hid (fun s (h : s ∈ R) => hs s (by simp [h]))
  have hRl := hid (show R.length ≤ 1000 by omega)
  obtain ⟨g, hg⟩ : ∃ g, gvR s0 s1 s2 R k = g := ⟨_, rfl⟩
  rw [hg]
  replace hg := hid hg
  replace hs := hid hs
  have hal := hid (els_lt29 hEl (by decide))
  replace hEl := hid hEl
  replace hlen := hid hlen
  replace hR := hid hR
  have hn0 : 0 < n := by omega
  replace hn := hid hn
  go_enter Tryz.func7, Tryz.ntmps7
  go_upto_region 0 with (fail)
  apply wp_region_seg0 (w := w) (S := [.al 1000, .q []]) (E := [.al ((fun p => .pointer (some ⟨p, 0, none⟩)), _) 1000, .q0 _]) rfl (by kernel_rfl) rfl rfl
  intro th hge hne
  refine Seg.step _ rfl ⟨by rfl, fun U hU => ?_⟩ ?_
  · go_simp; exact vp_alloc rfl rfl rfl
  refine Seg.sa ?_
  refine Seg.sq ?_
  refine Seg.stop (fun U1 hU hk => ?_)
  have nb0 := hge 0 _ _ rfl
  have rb0 := (hk 0 _ _ rfl trivial).1.2 (by simp)
  clear hk hge hne
  generalize th (0 + 0) = p0_0 at *
  dsimp only at rb0
  have r_p0_0 := rb0
  clear rb0
  have n_p0_0 := nb0
  clear nb0
  have sz1 := hU.size
  have hB : Below w.heap.size w U1 := hU
  clear hU
  have hl0 := held_lt r_p0_0
  have hEl1 := hid (hEl.out.below hB)
  have hr := hid r_p0_0
  have hB2 := hid hB
  clear r_p0_0 hB
  go_wp2_with fail
  refine (rcols29_any _).mono ?_
  rintro r V ⟨pc, rfl, rc, hA, hlC⟩
  replace hr := hid (held_after hA hr.out)
  replace hB2 := hid (bthen hB2.out hA)
  replace hEl1 := hid (hEl1.out.below hA)
  have hUV := hA.size
  have hlc := held_lt rc
  replace rc := hid rc
  clear hA b1 b2 b3
  have nw := alloc_new V (.cells #[.slice a n cap, .int .i64 0, .int .i64 0] 58)
  go_upto_region 5 with (fail)
  obtain ⟨W0, hW0⟩ : ∃ X, V.alloc (.cells #[.slice a n cap, .int .i64 0, .int .i64 0] 58) = X := ⟨_, rfl⟩
  rw [hW0] at nw ⊢
  obtain ⟨B, hBe⟩ : ∃ X, V.heap.size = X := ⟨_, rfl⟩
  rw [hBe] at nw ⊢
  replace hW0 := hid hW0
  have hbr0 := nw.2.2
  replace hr := hid (held_after nw.2.1 hr.out)
  replace rc := hid (held_after nw.2.1 rc.out)
  replace hB2 := hid (bthen hB2.out nw.2.1)
  replace hEl1 := hid (hEl1.out.below nw.2.1)
  have nr : p0_0 ≠ B := by omega
  have nc : pc ≠ B := by omega
  have hbB : w.heap.size ≤ B := by omega
  have hbr : w.heap.size ≤ p0_0 := n_p0_0
  have lB0 := held_lt hbr0
  have hey : RowRN w.heap.size W0 B 0 (s0 :: s1 :: s2 :: R) := ⟨s0 :: s1 :: s2 :: R, a, cap, 0, rfl, Nat.zero_le _, by rw [hlen.out]; exact hn1000, by rw [hlen.out]; exact hbr0, by rw [hlen.out]; exact hEl1.out, fun x hx _ => ⟨hal.out x hx hn0, hbB⟩⟩
  replace hBe := hid hBe
  clear nw hbr0 hEl1
  have nw := alloc_new W0 (.cells #[.int .i64 0, .int .i64 0, .int .i64 0, .slice none 0 0] 27)
  go_upto_region 6 with (fail)
  obtain ⟨W1, hW1⟩ : ∃ X, W0.alloc (.cells #[.int .i64 0, .int .i64 0, .int .i64 0, .slice none 0 0] 27) = X := ⟨_, rfl⟩
  rw [hW1] at nw ⊢
  obtain ⟨mb, hmb⟩ : ∃ X, W0.heap.size = X := ⟨_, rfl⟩
  have lr0 := held_lt hr.out
  have lc0 := held_lt rc.out
  rw [hmb] at nw lB0 lr0 lc0 ⊢
  replace hW1 := hid hW1
  have hm := nw.2.2
  replace hr := held_after nw.2.1 hr.out
  replace rc := hid (held_after nw.2.1 rc.out)
  replace hey := hey.aft nw.2.1
  have nm : mb ≠ B := by omega
  have hbm : w.heap.size ≤ mb := by omega
  have nmr : mb ≠ p0_0 := by omega
  have nmc : mb ≠ pc := by omega
  replace hB2 := bthen hB2.out nw.2.1
  replace hmb := hid hmb
  clear nw lB0 lr0 lc0 hl0 hlc hlC n_p0_0 sz1 hUV
  obtain ⟨⟨tt, x0⟩, hx0⟩ : ∃ r, fxV s0 9 = r := ⟨_, rfl⟩
  have kD0 := fun U hh => rdigitN_any w.heap.size B 0 s0 (s1 :: s2 :: R) 1 9 U hh (by rw [hlen.out]; exact hn1000)
  rw [fxV9, hx0] at kD0
  dsimp only at kD0
  have kD := hid kD0
  replace hx0 := hid hx0
  clear kD0
  go_wp2_with fail
  refine (kD.out _ hey).mono ?_
  rintro r V2 ⟨rfl, hey2, hf2⟩
  replace hm := eff_block24 hf2 hm nm
  replace hr := eff_block24 hf2 hr nr
  replace rc := hid (eff_block24 hf2 rc.out nc)
  replace hB2 := eff_below24 hB2 hf2 hbB hB2.size
  clear hey hf2
  have hey := hey2
  clear hey2
  obtain ⟨E1, hE1⟩ : ∃ X, kp 0 x0 = X := ⟨_, rfl⟩
  rw [hE1] at hey
  replace hE1 := hid hE1
  clear kD
  have x0 := held_cell hm 0 _ rfl
  have g0 := held_free hm 0
  obtain ⟨S2, hS2, ym, oM⟩ := st1 hm 0 (.int .i64 tt)
  have hey2 := hid (hey.off29 oM nm hbm)
  have hr2 := (oM.block _ (Ne.symm nmr)).trans hr
  have rc2 := hid ((oM.block _ (Ne.symm nmc)).trans rc.out)
  have hB3 := hid (belowS hB2 oM hbm)
  go_upto_region 7 with (fail)
  clear hey hr hB2 hm oM rc hS2 x0 g0
  have hm : S2.heap[mb]? = some (.cells #[.int .i64 tt, .int .i64 0, .int .i64 0, .slice none 0 0] 27 (0, 0)) := ym
  have hey := hey2.out
  have hr := hr2
  have rc := rc2
  have hB2 := hB3.out
  clear ym hey2 hr2 rc2 hB3
  obtain ⟨⟨nf, x1⟩, hx1⟩ : ∃ r, fxV s1 tt = r := ⟨_, rfl⟩
  obtain ⟨⟨nd, y1⟩, hd1⟩ : ∃ r, dgS s1 1 tt = r := ⟨_, rfl⟩
  have hxy := fx_same29 s1 tt
  rw [hx1, hd1] at hxy
  dsimp only at hxy
  subst hxy
  have hnn := hid (fun (h : x1 = 0) => (show nd = nf from by have h2 := fx_eq29 (s := s1) (hi := tt) (by rw [hd1]; exact h); rw [hd1, hx1] at h2; exact (Prod.mk.inj h2).1))
  have kD0 := fun U hh => rdigitN_any w.heap.size B E1 s1 (s2 :: R) 1 tt U hh (by have := hlen.out; simp at this ⊢; omega)
  rw [hd1] at kD0
  dsimp only at kD0
  have kD := hid kD0
  replace hx1 := hid hx1
  clear kD0 hd1
  have x0c := held_cell hm 0 _ rfl
  go_wp2_with fail
  refine (kD.out _ hey).mono ?_
  rintro r V3 ⟨rfl, hey2, hf2⟩
  replace hm := eff_block24 hf2 hm nm
  replace hr := eff_block24 hf2 hr nr
  replace rc := hid (eff_block24 hf2 rc.out nc)
  replace hB2 := eff_below24 hB2 hf2 hbB hB2.size
  clear hey hf2
  have hey := hey2
  clear hey2
  obtain ⟨E2, hE2⟩ : ∃ X, kp E1 x1 = X := ⟨_, rfl⟩
  rw [hE2] at hey
  replace hE2 := hid hE2
  clear kD x0c
  have x1 := held_cell hm 1 _ rfl
  have g1 := held_free hm 1
  obtain ⟨S3, hS3, ym, oM⟩ := st1 hm 1 (.int .i64 nd)
  have hey2 := hid (hey.off29 oM nm hbm)
  have hr2 := (oM.block _ (Ne.symm nmr)).trans hr
  have rc2 := hid ((oM.block _ (Ne.symm nmc)).trans rc.out)
  have hB3 := hid (belowS hB2 oM hbm)
  go_upto_region 8 with (fail)
  clear hey hr hB2 hm oM rc hS3 x1 g1
  have hm : S3.heap[mb]? = some (.cells #[.int .i64 tt, .int .i64 nd, .int .i64 0, .slice none 0 0] 27 (0, 0)) := ym
  have hey := hey2.out
  have hr := hr2
  have rc := rc2
  have hB2 := hB3.out
  clear ym hey2 hr2 rc2 hB3
  have hrf : (nmS E2 (s2 :: R) 1 2 0 0 99).2.2 = R := rfl
  have kS0 := fun U hh => rtakenumN_any w.heap.size B E2 (s2 :: R) 1 2 0 0 99 U hh (fun s h => hs.out s (List.mem_cons_of_mem _ (List.mem_cons_of_mem _ h))) (show (-9223372036854775808 ≤ (0 : Int) ∧ (0 : Int) ≤ 9223372036854775807) ∧ (-9223372036854775808 ≤ (99 : Int) ∧ (99 : Int) ≤ 9223372036854775807) by decide)
  obtain ⟨⟨⟨si, sn⟩, e3, R3⟩, hS⟩ : ∃ r, nmS E2 (s2 :: R) 1 2 0 0 99 = r := ⟨_, rfl⟩
  rw [hS] at kS0 hrf
  dsimp only at kS0 hrf
  subst hrf
  have kS := hid kS0
  replace hS := hid hS
  clear kS0
  have c0e := held_cell rc.out 0 _ rfl
  have c1e := held_cell rc.out 1 _ rfl
  have c2e := held_cell rc.out 2 _ rfl
  have c3e := held_cell rc.out 3 _ rfl
  have c4e := held_cell rc.out 4 _ rfl
  go_wp2_with fail
  refine (kS.out _ hey).mono ?_
  rintro r V9 ⟨rfl, hey2, hf2⟩
  replace hm := eff_block24 hf2 hm nm
  replace hr := eff_block24 hf2 hr nr
  replace rc := hid (eff_block24 hf2 rc.out nc)
  replace hB2 := eff_below24 hB2 hf2 hbB hB2.size
  clear hey hf2
  have hey := hey2
  clear hey2
  clear kS
  clear c0e c1e c2e c3e c4e
  have nw := alloc_new V9 (.cells #[.bool si, .int .i64 sn] 46)
  go_upto_region 9 with (fail)
  obtain ⟨S9, hS9⟩ : ∃ X, V9.alloc (.cells #[.bool si, .int .i64 sn] 46) = X := ⟨_, rfl⟩
  rw [hS9] at nw ⊢
  obtain ⟨ps, hps⟩ : ∃ X, V9.heap.size = X := ⟨_, rfl⟩
  rw [hps] at nw ⊢
  have nsB : ps ≠ B := by have := hey.lt; omega
  have hs9 := nw.2.2
  have hA := nw.2.1
  replace hS9 := hid hS9
  replace hps := hid hps
  clear nw
  replace hm := held_after hA hm
  replace hr := held_after hA hr
  replace rc := hid (held_after hA rc.out)
  replace hey := hey.aft hA
  replace hB2 := bthen hB2 hA
  clear hA
  have s0c := held_cell hs9 0 _ rfl
  obtain ⟨E4, hE4⟩ : ∃ X, (if si = true then e3 else kp e3 3) = X := ⟨_, rfl⟩
  have hgq := hid (show g = ⟨tt, nf, sn, (vwS E4 R3 k).1, (vwS E4 R3 k).2.1⟩ by
    rw [← hg.out]
    unfold gvR
    rw [hx0.out]
    dsimp only
    rw [hx1.out, hE1.out, hE2.out, hS.out]
    dsimp only
    rw [hE4])
  have hlast := hid (fun (h : E4 = 0) => (show nd = nf from by
    rw [← hE4] at h
    have h3 : e3 = 0 := by
      split at h
      · exact h
      · exact absurd (kp_ok h).2 (by decide)
    have h2 := (nm_ok29 (e := E2) (M := 2) (F := 0) (lo := 0) (hi := 99) (L := s2 :: R3) (by decide) (by rw [hS.out]; exact h3)).1
    rw [← hE2.out] at h2
    exact hnn.out (kp_ok h2).2))
  clear hg hx0 hx1 hE1 hE2 hS hnn
  go_upto_if 43 with (fail)
  clear s0c
  go_cut [] from 44 to 45 (fun wx => RowRN w.heap.size wx B E4 R3 ∧ wx.heap[mb]? = some (.cells #[.int .i64 tt, .int .i64 nd, .int .i64 0, .slice none 0 0] 27 (0, 0)) ∧ wx.heap[p0_0]? = some (.cells #[.int .i64 0, .int .i64 0, .int .i64 0, .slice none 0 0] 27 (0, 0)) ∧ wx.heap[pc]? = some (.cells #[.int .i64 1, .int .i64 2, .int .i64 0, .int .i64 0, .int .i64 99, .int .i64 1, .int .i64 3, .int .i64 0, .int .i64 1, .int .i64 255, .int .i64 1, .int .i64 2, .int .i64 0, .int .i64 0, .int .i64 90, .int .i64 1, .int .i64 3, .int .i64 0, .int .i64 0, .int .i64 359, .int .i64 1, .int .i64 2, .int .i64 0, .int .i64 0, .int .i64 99] 49 (0, 0)) ∧ wx.heap[ps]? = some (.cells #[.bool si, .int .i64 sn] 46 (0, 0)) ∧ Below w.heap.size w wx)
  case first =>
    cases si
    case true =>
      replace hey := hid hey
      replace hE4 := hid hE4
      go_wp2_with fail
      go_meet
      exact ⟨by rw [← hE4.out]; exact hey.out, hm, hr, rc.out, hs9, hB2⟩
    case false =>
      rw [if_neg (by decide)] at hE4
      replace hE4 := hid hE4
      go_wp2_with fail
      refine (rfirstRN_any w.heap.size B e3 3 R3 _ hey).mono ?_
      rintro r V10 ⟨rfl, hey2, hf2⟩
      have hs10 := eff_block24 hf2 hs9 nsB
      have hm10 := eff_block24 hf2 hm nm
      have hr10 := eff_block24 hf2 hr nr
      have rc10 := hid (eff_block24 hf2 rc.out nc)
      have hB10 := eff_below24 hB2 hf2 hbB hB2.size
      rw [hE4.out] at hey2
      clear hf2
      go_wp2_with fail
      go_meet
      exact ⟨hey2, hm10, hr10, rc10.out, hs10, hB10⟩
  case rest =>
    clear hey hm hr hs9 hB2 hE4 rc
    obtain ⟨hey, hm, hr, rc, hs9, hB2⟩ := hcut
    replace rc := hid rc
    have s1c := held_cell hs9 1 _ rfl
    have x2 := held_cell hm 2 _ rfl
    have g2 := held_free hm 2
    obtain ⟨S4, hS4, ym, oM⟩ := st1 hm 2 (.int .i64 sn)
    have hey2 := hid (hey.off29 oM nm hbm)
    have hr2 := (oM.block _ (Ne.symm nmr)).trans hr
    have rc2 := hid ((oM.block _ (Ne.symm nmc)).trans rc.out)
    have hB3 := hid (belowS hB2 oM hbm)
    go_wp2_with fail
    clear hey hr hB2 hm oM rc hS4 x2 g2
    have hm : S4.heap[mb]? = some (.cells #[.int .i64 tt, .int .i64 nd, .int .i64 sn, .slice none 0 0] 27 (0, 0)) := ym
    have hey := hey2.out
    have hr := hr2
    have rc := rc2
    have hB2 := hB3.out
    clear ym hey2 hr2 rc2 hB3
    clear s1c hs9
    have hO0 := hid (OwnE.nil 52 S4 w.heap.size 8)
    replace hey := hid hey
    replace hB2 := hid hB2
    go_loopg [] k (fun gk wr => ∃ (j : Nat) (a2 : Option Addr) (c2 : Nat), j ≤ k ∧ gk = k - j ∧ OwnE 52 wr w.heap.size 8 (.slice a2 j c2) j ((vwS E4 R3 j).1.map enV).flatten ∧ RowRN w.heap.size wr B (vwS E4 R3 j).2.1 (vwS E4 R3 j).2.2 ∧ wr.heap[mb]? = some (.cells #[.int .i64 tt, .int .i64 nd, .int .i64 sn, .slice a2 j c2] 27 (0, 0)) ∧ wr.heap[p0_0]? = some (.cells #[.int .i64 0, .int .i64 0, .int .i64 0, .slice none 0 0] 27 (0, 0)) ∧ wr.heap[pc]? = some (.cells #[.int .i64 1, .int .i64 2, .int .i64 0, .int .i64 0, .int .i64 99, .int .i64 1, .int .i64 3, .int .i64 0, .int .i64 1, .int .i64 255, .int .i64 1, .int .i64 2, .int .i64 0, .int .i64 0, .int .i64 90, .int .i64 1, .int .i64 3, .int .i64 0, .int .i64 0, .int .i64 359, .int .i64 1, .int .i64 2, .int .i64 0, .int .i64 0, .int .i64 99] 49 (0, 0)) ∧ Below w.heap.size w wr)
    case atStart => exact ⟨0, none, 0, by omega, rfl, hO0.out, hey.out, hm, hr, rc.out, hB2.out⟩
    case round =>
      clear hO0 hey hm hr hB2 rc
      obtain ⟨j, a2, c2, hj, hgk, hO, hey, hm, hr, rc, hB2⟩ := hrel
      replace hgk := hid hgk
      replace rc := hid rc
      have hsz := vwS_size (e := E4) hsR.out j
      have hvl := vwS_len E4 R3 j
      have hrs := vwS_rest29 E4 R3 j
      obtain ⟨⟨xs, e1, R1⟩, hxs⟩ : ∃ r, vwS E4 R3 j = r := ⟨_, rfl⟩
      have hnx := vwS_next hxs
      rw [hxs] at hsz hO hey hvl hrs
      dsimp only at hsz hO hey hvl hrs
      have hR1 : R1.length = 4 * (k - j) := by rw [hrs, List.length_drop, hR.out]; omega
      obtain ⟨m9, hm9⟩ : ∃ m, R1.length = m := ⟨_, rfl⟩
      clear hrs
      replace hvl := hid hvl
      replace hO := hid hO
      rw [hm9] at hR1
      replace hm9 := hid hm9
      have kLf := hid (fun U hh => rleftN_any w.heap.size B e1 R1 U hh)
      rw [hm9.out] at kLf
      replace hnx := hid hnx
      by_cases hlt : j < k
      case neg =>
        obtain rfl : j = k := by omega
        have hb0 : decide ((0 : Int) < (m9 : Int)) = false := by simp; omega
        have hb1 : ¬ 0 < m9 := by omega
        have hE4z := hid (fun (h : e1 = 0) => (vwS_back (e := E4) (L := R3) j (by rw [hxs]; exact h)).1)
        have hG := hid (show g = ⟨tt, nf, sn, xs, e1⟩ by rw [hgq.out, hxs])
        clear hnx hxs hj hgq hsz hR1
        go_wp2_with fail
        refine (kLf.out _ hey).mono ?_
        rintro r V20 ⟨rfl, hA⟩
        replace hm := held_after hA hm
        replace hr := held_after hA hr
        replace rc := hid (held_after hA rc.out)
        replace hey := hey.aft hA
        replace hB2 := bthen hB2 hA
        replace hO := hid (hO.out.below hA)
        clear hA
        obtain ⟨F0, a0, cap0, i0, q1, q2, q3, q4, q5, q6⟩ := hey
        have c9 := held_cell q4 2 _ rfl
        have hl4 := held_lt q4
        clear q1 q2 q3 q5 q6 kLf
        replace q4 := hid q4
        by_cases hE0 : e1 = 0
        case pos =>
          have t0 : (e1 != 0) = false := by simpa using hE0
          have hnd := hlast.out (hE4z.out hE0)
          subst hnd
          have z0 := held_cell hm 0 _ rfl
          have z1 := held_cell hm 1 _ rfl
          have z2 := held_cell hm 2 _ rfl
          have z3 := held_cell hm 3 _ rfl
          have x0 := held_cell hr 0 _ rfl
          have x1 := held_cell hr 1 _ rfl
          have x2 := held_cell hr 2 _ rfl
          have x3 := held_cell hr 3 _ rfl
          have f0 := held_free hr 0
          have f1 := held_free hr 1
          have f2 := held_free hr 2
          have f3 := held_free hr 3
          obtain ⟨W9, hW9, ya, yO⟩ := st4 hr (.int .i64 tt) (.int .i64 nd) (.int .i64 sn) (.slice a2 j c2)
          have hB9 := belowS hB2 yO hbr
          have hE9 := (ownE_only hO.out hr (by decide) yO).els (by rw [List.length_map]; exact hvl.out) (enV_m xs)
          have hfin : GvOk w g (.returned (.tuple #[.agg #[.int .i64 tt, .int .i64 nd, .int .i64 sn, .slice a2 j c2], .int .i64 0])) W9 := by rw [hG.out]; exact ⟨hB9, .inr ⟨hE0, a2, j, c2, rfl, hE9⟩⟩
          replace hfin := hid hfin
          have ez0 := held_cell ya 0 _ rfl
          have ez1 := held_cell ya 1 _ rfl
          have ez2 := held_cell ya 2 _ rfl
          have ez3 := held_cell ya 3 _ rfl
          clear ya yO hB9 hB2 hO hm hr
          go_wp2_with fail
          refine bodyPost_ret (v := .tuple #[.agg #[.int .i64 tt, .int .i64 nd, .int .i64 sn, .slice a2 j c2], .int .i64 0]) (by simp [results, Tryz.results7, go_sem, ez0, ez1, ez2, ez3]) rfl hfin.out
        case neg =>
          have t0 : (e1 != 0) = true := by simpa using hE0
          go_upto_region 20 with (fail)
          obtain ⟨QQ, hQQ⟩ : ∃ X, V20.drew = X := ⟨_, rfl⟩
          have rQ : QQ.heap[p0_0]? = some (.cells #[.int .i64 0, .int .i64 0, .int .i64 0, .slice none 0 0] 27 (0, 0)) := by rw [← hQQ]; exact hr
          have c9q : QQ.cell? ⟨B, 2, none⟩ = some (.int .i64 e1) := by rw [← hQQ]; exact c9
          have hBq : Below w.heap.size w QQ := by rw [← hQQ]; exact hB2.drew
          have hlq : B < QQ.heap.size := by rw [← hQQ]; exact hl4
          have x0 := held_cell rQ 0 _ rfl
          have x1 := held_cell rQ 1 _ rfl
          have x2 := held_cell rQ 2 _ rfl
          have x3 := held_cell rQ 3 _ rfl
          have f0 := held_free rQ 0
          have f1 := held_free rQ 1
          have f2 := held_free rQ 2
          have f3 := held_free rQ 3
          obtain ⟨W9, hW9, ya, yO⟩ := st4 rQ (.int .i64 0) (.int .i64 0) (.int .i64 0) (.slice none 0 0)
          have hB9 := belowS hBq yO hbr
          have hfin : GvOk w g (.returned (.tuple #[.agg #[.int .i64 0, .int .i64 0, .int .i64 0, .slice none 0 0], .int .i64 e1])) W9 := by rw [hG.out]; exact ⟨hB9, .inl ⟨hE0, rfl⟩⟩
          replace hfin := hid hfin
          have ez0 := held_cell ya 0 _ rfl
          have ez1 := held_cell ya 1 _ rfl
          have ez2 := held_cell ya 2 _ rfl
          have ez3 := held_cell ya 3 _ rfl
          have kpf := hid (show Kp QQ.heap.size [p0_0] QQ W9 from ⟨yO.os, yO.tape, yO.output, by rw [yO.size]; exact Nat.le_refl _, fun k h1 h2 => yO.block k (fun e => h2 (by simp [e]))⟩)
          clear ya yO hB9 hB2 hO hm hr
          refine wp_region_K (N := V20.drew.heap.size) (X := [p0_0]) (by kernel_rfl) ?_
          rw [hQQ]
          refine wpAnyK_take 0 rfl (by kernel_rfl) (by kernel_rfl) (by kernel_rfl) (fun _ _ _ _ h => h) ⟨_, Or.inl ⟨by rfl, fun w2 hb => by (go_simp; try with_reducible rfl)⟩, _, by (go_simp; try rfl), ?_⟩
          refine wpAnyK_take 1 rfl (by kernel_rfl) (by kernel_rfl) (by kernel_rfl) (fun _ _ _ _ h => h) ⟨_, Or.inl ⟨by rfl, fun w2 hb => by (go_simp; try with_reducible rfl)⟩, _, by (go_simp; try rfl), ?_⟩
          refine wpAnyK_take 2 rfl (by kernel_rfl) (by kernel_rfl) (by kernel_rfl) (fun _ _ _ _ h => h) ⟨_, Or.inl ⟨by rfl, fun w2 hb => by (go_simp; try with_reducible rfl)⟩, _, by (go_simp; try rfl), ?_⟩
          refine wpAnyK_take 3 rfl (by kernel_rfl) (by kernel_rfl) (by kernel_rfl) (fun _ _ _ _ h => h) ⟨_, Or.inl ⟨by rfl, fun w2 hb => by (go_simp; try with_reducible rfl)⟩, _, by (go_simp; try rfl), ?_⟩
          refine wpAnyK_take 4 rfl (by kernel_rfl) (by kernel_rfl) (by kernel_rfl) (fun _ _ _ _ h => h) ⟨_, Or.inl ⟨by rfl, fun w2 hb => by (have h0 := Kp.cellB hb (by simpa using hlq) (by simp; omega) c9q; go_simp; try with_reducible rfl)⟩, _, by (go_simp; try rfl), ?_⟩
          refine wpAnyK_only 5 rfl (by kernel_rfl) (by rfl) (fun K hK => ?_)
          go_simp
          refine hK _ _ ⟨kpf.out, ?_⟩
          clear hK
          refine wpAnyK_take 6 rfl (by kernel_rfl) (by kernel_rfl) (by kernel_rfl) (fun _ _ _ _ h => h) ⟨_, Or.inl ⟨by rfl, fun w2 hb => by (go_simp; try with_reducible rfl)⟩, _, by (go_simp; try rfl), ?_⟩
          refine wpAnyK_done (by kernel_rfl) ?_ _
          go_wp2_with fail
          refine bodyPost_ret (v := .tuple #[.agg #[.int .i64 0, .int .i64 0, .int .i64 0, .slice none 0 0], .int .i64 e1]) (by simp [results, Tryz.results7, go_sem, ez0, ez1, ez2, ez3]) rfl hfin.out
      have hb0 : decide ((0 : Int) < (m9 : Int)) = true := by simp; omega
      have hb1 : 0 < m9 := by omega
      have hj1 := hid (show j + 1 ≤ k by omega)
      have hms := hid (show k - (j + 1) < k - j by omega)
      have hRl2 := hRl.out
      have hz0 := nmS_size (e := e1) (W := 1) (M := 3) (F := 0) (lo := 1) (hi := 255) hsz.1
      have kI0 := fun U hh => rtakenumN_any w.heap.size B e1 R1 1 3 0 1 255 U hh hsz.1 (show (-9223372036854775808 ≤ (1 : Int) ∧ (1 : Int) ≤ 9223372036854775807) ∧ (-9223372036854775808 ≤ (255 : Int) ∧ (255 : Int) ≤ 9223372036854775807) by decide)
      obtain ⟨⟨⟨i0, m0⟩, f0, Q0⟩, hn0⟩ : ∃ r, nmS e1 R1 1 3 0 1 255 = r := ⟨_, rfl⟩
      rw [hn0] at hz0 kI0
      dsimp only at hz0 kI0
      have hz1 := nmS_size (e := f0) (W := 1) (M := 2) (F := 0) (lo := 0) (hi := 90) hz0.1
      have kI1 := fun U hh => rtakenumN_any w.heap.size B f0 Q0 1 2 0 0 90 U hh hz0.1 (show (-9223372036854775808 ≤ (0 : Int) ∧ (0 : Int) ≤ 9223372036854775807) ∧ (-9223372036854775808 ≤ (90 : Int) ∧ (90 : Int) ≤ 9223372036854775807) by decide)
      obtain ⟨⟨⟨i1, m1⟩, f1, Q1⟩, hn1⟩ : ∃ r, nmS f0 Q0 1 2 0 0 90 = r := ⟨_, rfl⟩
      rw [hn1] at hz1 kI1
      dsimp only at hz1 kI1
      have hz2 := nmS_size (e := f1) (W := 1) (M := 3) (F := 0) (lo := 0) (hi := 359) hz1.1
      have kI2 := fun U hh => rtakenumN_any w.heap.size B f1 Q1 1 3 0 0 359 U hh hz1.1 (show (-9223372036854775808 ≤ (0 : Int) ∧ (0 : Int) ≤ 9223372036854775807) ∧ (-9223372036854775808 ≤ (359 : Int) ∧ (359 : Int) ≤ 9223372036854775807) by decide)
      obtain ⟨⟨⟨i2, m2⟩, f2, Q2⟩, hn2⟩ : ∃ r, nmS f1 Q1 1 3 0 0 359 = r := ⟨_, rfl⟩
      rw [hn2] at hz2 kI2
      dsimp only at hz2 kI2
      have hz3 := nmS_size (e := f2) (W := 1) (M := 2) (F := 0) (lo := 0) (hi := 99) hz2.1
      have kI3 := fun U hh => rtakenumN_any w.heap.size B f2 Q2 1 2 0 0 99 U hh hz2.1 (show (-9223372036854775808 ≤ (0 : Int) ∧ (0 : Int) ≤ 9223372036854775807) ∧ (-9223372036854775808 ≤ (99 : Int) ∧ (99 : Int) ≤ 9223372036854775807) by decide)
      obtain ⟨⟨⟨i3, m3⟩, f3, Q3⟩, hn3⟩ : ∃ r, nmS f2 Q2 1 2 0 0 99 = r := ⟨_, rfl⟩
      rw [hn3] at hz3 kI3
      dsimp only at hz3 kI3
      have hv1 : vw1 e1 R1 = (((i0, m0), (i1, m1), (i2, m2), i3, m3), f3, Q3) := by unfold vw1; rw [hn0]; dsimp only; rw [hn1]; dsimp only; rw [hn2]; dsimp only; rw [hn3]
      have hnx2 := hnx.out
      rw [hv1] at hnx2
      replace hnx := hid hnx2
      replace kI0 := hid kI0
      replace kI1 := hid kI1
      replace kI2 := hid kI2
      replace kI3 := hid kI3
      clear hnx2 hv1 hn0 hn1 hn2 hn3 hz0 hz1 hz2 hz3 hsz hxs hgq hRl2 hR1
      go_wp2_with fail
      refine (kLf.out _ hey).mono ?_
      rintro r V20 ⟨rfl, hA⟩
      replace hm := held_after hA hm
      replace hr := held_after hA hr
      replace rc := hid (held_after hA rc.out)
      replace hey := hey.aft hA
      replace hB2 := bthen hB2 hA
      replace hO := hid (hO.out.below hA)
      clear hA
      clear kLf
      have lm0 := held_lt hm
      have lB0 := hey.lt
      have lc0 := held_lt rc.out
      have lr0 := held_lt hr
      have own0 := hid (fun g (hg : (Value.slice a2 j c2).ownBlock = some g) => (hO.out.lt g hg).2.1)
      have nw := alloc_new V20 (.cells #[.bool false, .int .i64 0, .bool false, .int .i64 0, .bool false, .int .i64 0, .bool false, .int .i64 0] 52)
      go_upto_region 14 with (fail)
      obtain ⟨S0, hS0⟩ : ∃ X, V20.alloc (.cells #[.bool false, .int .i64 0, .bool false, .int .i64 0, .bool false, .int .i64 0, .bool false, .int .i64 0] 52) = X := ⟨_, rfl⟩
      rw [hS0] at nw ⊢
      obtain ⟨pv, hpv⟩ : ∃ X, V20.heap.size = X := ⟨_, rfl⟩
      rw [hpv] at nw own0 lm0 lB0 lc0 lr0 ⊢
      have hv := hid nw.2.2
      have hA := nw.2.1
      have nvB : pv ≠ B := by omega
      have nvm : pv ≠ mb := by omega
      have nvc : pv ≠ pc := by omega
      have nvr : pv ≠ p0_0 := by omega
      have hbv : w.heap.size ≤ pv := by omega
      have hvo := hid (fun g (hg : (Value.slice a2 j c2).ownBlock = some g) => (show g ≠ pv from by have := own0.out g hg; omega))
      replace hS0 := hid hS0
      replace hpv := hid hpv
      clear nw lm0 lB0 lc0 lr0 own0
      replace hm := held_after hA hm
      replace hr := held_after hA hr
      replace rc := hid (held_after hA rc.out)
      replace hey := hey.aft hA
      replace hB2 := bthen hB2 hA
      replace hO := hid (hO.out.below hA)
      clear hA
      have c0e := held_cell rc.out 5 _ rfl
      have c1e := held_cell rc.out 6 _ rfl
      have c2e := held_cell rc.out 7 _ rfl
      have c3e := held_cell rc.out 8 _ rfl
      have c4e := held_cell rc.out 9 _ rfl
      go_wp2_with fail
      refine (kI0.out _ hey).mono ?_
      rintro r Z0 ⟨rfl, hey2, hf2⟩
      replace hm := eff_block24 hf2 hm nm
      replace hr := eff_block24 hf2 hr nr
      replace rc := hid (eff_block24 hf2 rc.out nc)
      replace hB2 := eff_below24 hB2 hf2 hbB hB2.size
      replace hO := hid (own_row29 hO.out hey (by decide) hf2)
      replace hv := hid (eff_block24 hf2 hv.out nvB)
      clear hey hf2
      have hey := hey2
      clear hey2
      clear c0e c1e c2e c3e c4e
      clear kI0
      have x0v := held_cell hv.out 0 _ rfl
      have x1v := held_cell hv.out 1 _ rfl
      have g0v := held_free hv.out 0
      have g1v := held_free hv.out 1
      obtain ⟨T0, hT0, ym, oM⟩ := set2_29 hv.out 0 1 (.bool i0) (.int .i64 m0)
      have hey2 := hid (hey.off29 oM nvB hbv)
      have hr2 := (oM.block _ (Ne.symm nvr)).trans hr
      have hm2 := (oM.block _ (Ne.symm nvm)).trans hm
      have rc2 := hid ((oM.block _ (Ne.symm nvc)).trans rc.out)
      have hB3 := hid (belowS hB2 oM hbv)
      replace hO := hid (hO.out.kept (fun g hg => oM.block g (hvo.out g hg)))
      go_upto_region 15 with (fail)
      clear hey hr hB2 hm oM rc hv hT0 x0v x1v g0v g1v
      have hv := hid (show T0.heap[pv]? = some (.cells #[.bool i0, .int .i64 m0, .bool false, .int .i64 0, .bool false, .int .i64 0, .bool false, .int .i64 0] 52 (0, 0)) from ym)
      have hm := hm2
      have hey := hey2.out
      have hr := hr2
      have rc := rc2
      have hB2 := hB3.out
      clear ym hey2 hr2 rc2 hB3 hm2
      have c0e := held_cell rc.out 10 _ rfl
      have c1e := held_cell rc.out 11 _ rfl
      have c2e := held_cell rc.out 12 _ rfl
      have c3e := held_cell rc.out 13 _ rfl
      have c4e := held_cell rc.out 14 _ rfl
      go_wp2_with fail
      refine (kI1.out _ hey).mono ?_
      rintro r Z1 ⟨rfl, hey2, hf2⟩
      replace hm := eff_block24 hf2 hm nm
      replace hr := eff_block24 hf2 hr nr
      replace rc := hid (eff_block24 hf2 rc.out nc)
      replace hB2 := eff_below24 hB2 hf2 hbB hB2.size
      replace hO := hid (own_row29 hO.out hey (by decide) hf2)
      replace hv := hid (eff_block24 hf2 hv.out nvB)
      clear hey hf2
      have hey := hey2
      clear hey2
      clear c0e c1e c2e c3e c4e
      clear kI1
      have x0v := held_cell hv.out 2 _ rfl
      have x1v := held_cell hv.out 3 _ rfl
      have g0v := held_free hv.out 2
      have g1v := held_free hv.out 3
      obtain ⟨T1, hT1, ym, oM⟩ := set2_29 hv.out 2 3 (.bool i1) (.int .i64 m1)
      have hey2 := hid (hey.off29 oM nvB hbv)
      have hr2 := (oM.block _ (Ne.symm nvr)).trans hr
      have hm2 := (oM.block _ (Ne.symm nvm)).trans hm
      have rc2 := hid ((oM.block _ (Ne.symm nvc)).trans rc.out)
      have hB3 := hid (belowS hB2 oM hbv)
      replace hO := hid (hO.out.kept (fun g hg => oM.block g (hvo.out g hg)))
      go_upto_region 16 with (fail)
      clear hey hr hB2 hm oM rc hv hT1 x0v x1v g0v g1v
      have hv := hid (show T1.heap[pv]? = some (.cells #[.bool i0, .int .i64 m0, .bool i1, .int .i64 m1, .bool false, .int .i64 0, .bool false, .int .i64 0] 52 (0, 0)) from ym)
      have hm := hm2
      have hey := hey2.out
      have hr := hr2
      have rc := rc2
      have hB2 := hB3.out
      clear ym hey2 hr2 rc2 hB3 hm2
      have c0e := held_cell rc.out 15 _ rfl
      have c1e := held_cell rc.out 16 _ rfl
      have c2e := held_cell rc.out 17 _ rfl
      have c3e := held_cell rc.out 18 _ rfl
      have c4e := held_cell rc.out 19 _ rfl
      go_wp2_with fail
      refine (kI2.out _ hey).mono ?_
      rintro r Z2 ⟨rfl, hey2, hf2⟩
      replace hm := eff_block24 hf2 hm nm
      replace hr := eff_block24 hf2 hr nr
      replace rc := hid (eff_block24 hf2 rc.out nc)
      replace hB2 := eff_below24 hB2 hf2 hbB hB2.size
      replace hO := hid (own_row29 hO.out hey (by decide) hf2)
      replace hv := hid (eff_block24 hf2 hv.out nvB)
      clear hey hf2
      have hey := hey2
      clear hey2
      clear c0e c1e c2e c3e c4e
      clear kI2
      have x0v := held_cell hv.out 4 _ rfl
      have x1v := held_cell hv.out 5 _ rfl
      have g0v := held_free hv.out 4
      have g1v := held_free hv.out 5
      obtain ⟨T2, hT2, ym, oM⟩ := set2_29 hv.out 4 5 (.bool i2) (.int .i64 m2)
      have hey2 := hid (hey.off29 oM nvB hbv)
      have hr2 := (oM.block _ (Ne.symm nvr)).trans hr
      have hm2 := (oM.block _ (Ne.symm nvm)).trans hm
      have rc2 := hid ((oM.block _ (Ne.symm nvc)).trans rc.out)
      have hB3 := hid (belowS hB2 oM hbv)
      replace hO := hid (hO.out.kept (fun g hg => oM.block g (hvo.out g hg)))
      go_upto_region 17 with (fail)
      clear hey hr hB2 hm oM rc hv hT2 x0v x1v g0v g1v
      have hv := hid (show T2.heap[pv]? = some (.cells #[.bool i0, .int .i64 m0, .bool i1, .int .i64 m1, .bool i2, .int .i64 m2, .bool false, .int .i64 0] 52 (0, 0)) from ym)
      have hm := hm2
      have hey := hey2.out
      have hr := hr2
      have rc := rc2
      have hB2 := hB3.out
      clear ym hey2 hr2 rc2 hB3 hm2
      have c0e := held_cell rc.out 20 _ rfl
      have c1e := held_cell rc.out 21 _ rfl
      have c2e := held_cell rc.out 22 _ rfl
      have c3e := held_cell rc.out 23 _ rfl
      have c4e := held_cell rc.out 24 _ rfl
      go_wp2_with fail
      refine (kI3.out _ hey).mono ?_
      rintro r Z3 ⟨rfl, hey2, hf2⟩
      replace hm := eff_block24 hf2 hm nm
      replace hr := eff_block24 hf2 hr nr
      replace rc := hid (eff_block24 hf2 rc.out nc)
      replace hB2 := eff_below24 hB2 hf2 hbB hB2.size
      replace hO := hid (own_row29 hO.out hey (by decide) hf2)
      replace hv := hid (eff_block24 hf2 hv.out nvB)
      clear hey hf2
      have hey := hey2
      clear hey2
      clear c0e c1e c2e c3e c4e
      clear kI3
      have x0v := held_cell hv.out 6 _ rfl
      have x1v := held_cell hv.out 7 _ rfl
      have g0v := held_free hv.out 6
      have g1v := held_free hv.out 7
      obtain ⟨T3, hT3, ym, oM⟩ := set2_29 hv.out 6 7 (.bool i3) (.int .i64 m3)
      have hey2 := hid (hey.off29 oM nvB hbv)
      have hr2 := (oM.block _ (Ne.symm nvr)).trans hr
      have hm2 := (oM.block _ (Ne.symm nvm)).trans hm
      have rc2 := hid ((oM.block _ (Ne.symm nvc)).trans rc.out)
      have hB3 := hid (belowS hB2 oM hbv)
      replace hO := hid (hO.out.kept (fun g hg => oM.block g (hvo.out g hg)))
      go_upto_region 18 with (fail)
      clear hey hr hB2 hm oM rc hv hT3 x0v x1v g0v g1v
      have hv := hid (show T3.heap[pv]? = some (.cells #[.bool i0, .int .i64 m0, .bool i1, .int .i64 m1, .bool i2, .int .i64 m2, .bool i3, .int .i64 m3] 52 (0, 0)) from ym)
      have hm := hm2
      have hey := hey2.out
      have hr := hr2
      have rc := rc2
      have hB2 := hB3.out
      clear ym hey2 hr2 rc2 hB3 hm2
      have v0c := held_cell hv.out 0 _ rfl
      have v1c := held_cell hv.out 1 _ rfl
      have v2c := held_cell hv.out 2 _ rfl
      have v3c := held_cell hv.out 3 _ rfl
      have v4c := held_cell hv.out 4 _ rfl
      have v5c := held_cell hv.out 5 _ rfl
      have v6c := held_cell hv.out 6 _ rfl
      have v7c := held_cell hv.out 7 _ rfl
      have l3c := held_cell hm 3 _ rfl
      have hE2 : Els (T3.alloc (.cells #[.bool i0, .int .i64 m0, .bool i1, .int .i64 m1, .bool i2, .int .i64 m2, .bool i3, .int .i64 m3] 52)) 8 (some ⟨T3.heap.size, 0, none⟩) 1 1 [enV ((i0, m0), (i1, m1), (i2, m2), i3, m3)] := els_one T3 _ 52 8 rfl
      have hA := (alloc_new T3 (.cells #[.bool i0, .int .i64 m0, .bool i1, .int .i64 m1, .bool i2, .int .i64 m2, .bool i3, .int .i64 m3] 52)).2.1
      obtain ⟨X6, hX6⟩ : ∃ X, T3.alloc (.cells #[.bool i0, .int .i64 m0, .bool i1, .int .i64 m1, .bool i2, .int .i64 m2, .bool i3, .int .i64 m3] 52) = X := ⟨_, rfl⟩
      rw [hX6] at hA hE2
      replace hE2 := hid hE2
      replace hm := held_after hA hm
      replace hr := held_after hA hr
      replace rc := hid (held_after hA rc.out)
      replace hey := hey.aft hA
      replace hB2 := bthen hB2 hA
      replace hO := hid (hO.out.below hA)
      replace hv := hid (held_after hA hv.out)
      clear hA
      have hXB := hey.lt
      have hbs : w.heap.size ≤ X6.heap.size := hB2.size
      replace hey := hid hey
      replace hB2 := hid hB2
      clear hv
      go_wp2_with (first | (at_builtin; refine wpList_appE rfl (.tmp 77) (.tmp 79) 25 rfl w.heap.size 52 8 64 viO (by decide) (.slice a2 j c2) j (xs.map enV).flatten rfl hO.out (some ⟨_, 0, none⟩) 1 1 [enV ((i0, m0), (i1, m1), (i2, m2), i3, m3)] rfl hE2.out (enV_one [((i0, m0), (i1, m1), (i2, m2), i3, m3)]) (by unfold maxLen; omega) (by omega) hbs ?_))
      intro a9 c9 W9 hO9 hG9 hN9
      have hm9 := (hG9.block mb (held_lt hm) (fun e => hO.out.ne hm (by decide) e.symm)).trans hm
      have hr9 := (hG9.block p0_0 (held_lt hr) (fun e => hO.out.ne hr (by decide) e.symm)).trans hr
      have rc9 := hid ((hG9.block pc (held_lt rc.out) (fun e => hO.out.ne rc.out (by decide) e.symm)).trans rc.out)
      have hey9 := hid (rowN_grown hey.out hbs hO.out (by decide) hG9)
      have hB9 := hB2.out.grown hG9 hbs (fun k e => (hO.out.lt k e).1)
      clear hr hey hB2 hO hE2 hG9 hN9 hm rc
      have y3 := held_cell hm9 3 _ rfl
      have g3 := held_free hm9 3
      obtain ⟨S9b, hS9b, ym, oM⟩ := st1 hm9 3 (.slice a9 (j + 1) c9)
      have q1 := hid (hey9.out.off29 oM nm hbm)
      have q2 := hid ((oM.block _ (Ne.symm nmr)).trans hr9)
      have q3 := hid ((oM.block _ (Ne.symm nmc)).trans rc9.out)
      have q4 := hid (belowS hB9 oM hbm)
      have q5 := hid (ownE_only hO9 hm9 (by decide) oM)
      replace ym := hid ym
      clear hm9 hr9 rc9 hey9 hB9 hO9 oM
      go_wp2_with fail
      go_roundg (k - (j + 1))
      case rel =>
        refine ⟨j + 1, a9, c9, hj1.out, rfl, ?_⟩
        rw [hnx.out]
        refine ⟨?_, q1.out, ym.out, q2.out, q3.out, q4.out⟩
        show OwnE _ _ _ _ _ _ ((xs ++ [((i0, m0), (i1, m1), (i2, m2), i3, m3)]).map enV).flatten
        rw [List.map_append, List.flatten_append]
        exact q5.out
      case measure => have := hms.out; have := hgk.out; omega

end Go.Proofs.YtobgibmpodggkaaGreatDoor
