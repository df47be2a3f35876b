/- The laws of layer 33: GapsTrue. -/
import Derived.Test.YtjeiclfdhdcfnaaGap9
import Derived.Test.YtjeiclfdhdcfnaaGap8
import Derived.Test.YtjeiclfdhdcfnaaGap4
import Derived.Laws.Tables
import Derived.Deep.DeepCutAuto
namespace Go.Proofs.Ytjeiclfdhdcfnaa
open Go.ChangeShapes Go.WideShapes Go.ChangeAt Go.RowKit
set_option linter.unusedVariables false
set_option linter.unusedSimpArgs false

/-- A book of which sender 7, 7 has this line. -/
def GS (N B m : Nat) (K s n t : Int) (W0 wr : World) : Prop := ∃ L, MapAt wr m L ∧ wr.heap[B]? = some (.cells #[.map (some m)] 47 (0, 0)) ∧ Dist L ∧ L.length ≤ 16 ∧ LnB K L ∧ fd 7 7 L = some ⟨7, 7, s, n, t⟩ ∧ Below N W0 wr
theorem els5_at {w : World} {a : Option Addr} {len cap i : Nat} {xs : List (List Value)} {v0 v1 v2 v3 v4 : Value} (h : Els w 5 a len cap xs) (hx : xs[i]? = some [v0, v1, v2, v3, v4]) : ∃ b off, a = some ⟨b, off, none⟩ ∧ w.cell? ⟨b, off + i * 5, none⟩ = some v0 ∧ w.cell? ⟨b, off + i * 5 + 1, none⟩ = some v1 ∧ w.cell? ⟨b, off + i * 5 + 2, none⟩ = some v2 ∧ w.cell? ⟨b, off + i * 5 + 3, none⟩ = some v3 ∧ w.cell? ⟨b, off + i * 5 + 4, none⟩ = some v4 := by
  obtain ⟨-, b, off, e, hc⟩ := h.2.2.2.2 i _ hx
  exact ⟨b, off, e, hc 0 _ rfl, hc 1 _ rfl, hc 2 _ rfl, hc 3 _ rfl, hc 4 _ rfl⟩
set_option maxRecDepth 100000 in
set_option maxHeartbeats 32000000 in
theorem law_GapsTrue (a0 : Int) (a1 : Option Addr) (len1 cap1 : Nat) (z1 : List Int) (a2 : Option Addr) (len2 cap2 : Nat) (x2 : List (List Value)) (W : World) (w0 : (Lit.int .u8 a0).wf = true) (w1 : IsRow .u8 W a1 len1 cap1 z1) (w2 : Els W 3 a2 len2 cap2 x2) (t2 : ∀ x ∈ x2, (∃ (c0 : Int) (c1 : Int) (c2 : Int), x = [.int .i64 c0, .int .i64 c1, .int .i64 c2] ∧ ((Lit.int .i64 c0).wf = true) ∧ ((Lit.int .i64 c1).wf = true) ∧ ((Lit.int .i64 c2).wf = true))) :
    Calls Try.prog 4 #[.int .u8 a0, .slice a1 len1 cap1, .slice a2 len2 cap2] W fun e w' => e = .returned (.bool true) ∧ Below W.heap.size W w' := by
  have hf := bounds_u8 w0
  obtain ⟨hS, hz⟩ := w1.sl
  obtain ⟨zs, hzs⟩ : ∃ z, z1.take len1 = z := ⟨_, rfl⟩
  rw [hzs] at hS hz
  have hzl := hid hS.1
  replace hS := hid hS
  replace hz := hid (fun n (h : n ∈ zs) => bounds_u8 (hz n h))
  have hEl := hid w2
  have hxl := hid w2.1
  replace t2 := hid t2
  clear w0 w1 w2 hzs
  have hBw := hid (Below.refl W.heap.size W)
  replace hf := hid hf
  by_cases l0 : 100 < len1
  case pos =>
    have d0 : decide ((100 : Int) < (len1 : Int)) = true := by simp; omega
    clear l0
    go_enter Try.func4, Try.ntmps4
    go_wp2_with fail
    refine (knows33_any _).mono ?_
    rintro e V ⟨rfl, hA⟩
    replace hBw := hid (bthen hBw.out hA)
    clear hA
    go_wp2_with fail
    go_ret
    exact ⟨rfl, hBw.out⟩
  have d0 : decide ((100 : Int) < (len1 : Int)) = false := by simp; omega
  by_cases l1 : 100 < len2
  case pos =>
    have d1 : decide ((100 : Int) < (len2 : Int)) = true := by simp; omega
    clear l1
    go_enter Try.func4, Try.ntmps4
    go_wp2_with fail
    refine (knows33_any _).mono ?_
    rintro e V ⟨rfl, hA⟩
    replace hBw := hid (bthen hBw.out hA)
    clear hA
    go_wp2_with fail
    go_ret
    exact ⟨rfl, hBw.out⟩
  have d1 : decide ((100 : Int) < (len2 : Int)) = false := by simp; omega
  have hl := hid (show len1 ≤ 100 by omega)
  clear l0 l1
  go_enter Try.func4, Try.ntmps4
  go_wp2_with fail
  refine (knows33_any _).mono ?_
  rintro e V0 ⟨rfl, hA⟩
  replace hBw := hid (bthen hBw.out hA)
  clear hA
  go_wp2_with fail
  refine (gnew_any _).mono ?_
  rintro r V ⟨B, m, rfl, hb, hm, hA, hwB, hwm⟩
  have hBm : B ≠ m := by
    intro e
    subst e
    rw [hm] at hb
    cases hb
  have hmW : W.heap.size ≤ m := by have := hBw.out.size; omega
  replace hBw := hid (bthen hBw.out hA)
  clear hA hwB hwm
  have hf2 := hf.out
  have e1 : hearS [] a0 7 7 = ([⟨7, 7, a0, 1, 0⟩], 0, true) := by
    have hg : isB a0 = true ∧ isB 7 = true ∧ isB 7 = true := ⟨decide_eq_true (by omega), by decide, by decide⟩
    rw [hear_new hg (show posG 7 7 [] 0 = none from rfl)]
    rfl
  have kH := hear_any B m [] a0 7 7 _ hb hm (fun x hx => by cases hx)
  rw [e1] at kH
  dsimp only at kH
  replace kH := hid kH
  have wc : IntKind.i64.wrap a0 = a0 := by rw [IntKind.wrap_i64]; omega
  replace hb := hid hb
  replace hm := hid hm
  clear e1 hf2
  go_wp2_with fail
  refine kH.out.mono ?_
  rintro r V2 ⟨rfl, hm2, hE⟩
  have hGS := hid (show GS W.heap.size B m 1 a0 1 0 W V2 from ⟨_, hm2, eff_at33 hE hb.out hBm, List.pairwise_singleton _ _, by show (1 : Nat) ≤ 16; omega, (fun x hx => by rw [List.mem_singleton.1 hx]; exact ⟨hf.out, ⟨by show (0 : Int) ≤ 1; omega, by show (1 : Int) ≤ 1; omega⟩, ⟨by show (0 : Int) ≤ 0; omega, by show (0 : Int) ≤ 256 * 1; omega⟩⟩), by unfold fd posG; rw [if_pos ⟨rfl, rfl⟩]; rfl, eff_below33 hBw.out hE hmW hBw.out.size⟩)
  clear hm2 hE hm hb kH hBw
  go_wp2_with fail
  go_loopw [8, 11, 12] (fun sv tv ix wr => ∃ (k : Nat) (s t : Int), ix = .int .i64 k ∧ sv = .int .i64 s ∧ tv = .int .i64 t ∧ k ≤ len1 ∧ (0 ≤ s ∧ s ≤ 255) ∧ (0 ≤ t ∧ t ≤ 256 * k) ∧ GS W.heap.size B m (1 + 2 * k) s (k + 1) t W wr) (fun _ _ ix _ => len1 - (intOf ix).toNat)
  case atStart => exact ⟨0, a0, 0, rfl, rfl, rfl, by omega, hf.out, by omega, hGS.out⟩
  case round =>
    clear hGS wc
    obtain ⟨k, s, t, rfl, rfl, rfl, hk, hs, ht, hGS⟩ := hrel
    by_cases hlt : (k : Int) < len1
    case neg =>
      obtain rfl : k = len1 := by omega
      obtain ⟨L, hm, hb, hd, h16, hL, hfd, hB⟩ := hGS
      have kA := hid (gall_any B m L wr hb hm hd h16)
      replace hd := hid hd
      replace hfd := hid hfd
      replace hB := hid hB
      clear hm hb h16 hL
      go_wp2_with fail
      refine kA.out.mono ?_
      rintro e V5 ⟨a, cap, S, rfl, hSp, -, hE, hA⟩
      replace hB := hid (bthen hB.out hA)
      clear hA kA
      obtain ⟨n, hn⟩ : ∃ n, L.length = n := ⟨_, rfl⟩
      rw [hn] at hE ⊢
      have hSl := hid (show S.length = n from hSp.length_eq.trans hn)
      obtain ⟨f1, -, -⟩ := fd_mem hfd.out
      have hin := hid (hSp.mem_iff.2 f1)
      have hone := hid (fun x (hx : x ∈ S) (h : ky x = (7, 7)) => (show x = ⟨7, 7, s, (k : Int) + 1, t⟩ from dist_one hd.out (hSp.mem_iff.1 hx) f1 h))
      replace hE := hid hE
      have hnb := hid hE.out.2.2.1
      clear hn hSp f1 hfd hd
      have wl : IntKind.i64.wrap ((k : Int) + 1) = (k : Int) + 1 := by rw [IntKind.wrap_i64]; have := hl.out; omega
      have hn9 := hid (show n ≤ 9223372036854775807 from by have := hE.out.2.1; have := hnb.out; have h9 : maxLen ≤ 9223372036854775807 := (by decide); omega)
      go_wp2_with fail
      go_loopw [17] (fun ix wq => ∃ j : Nat, ix = .int .i64 j ∧ j ≤ n ∧ (∀ i x, i < j → S[i]? = some x → ky x ≠ (7, 7)) ∧ After V5 wq) (fun ix _ => n - (intOf ix).toNat)
      case atStart => exact ⟨0, rfl, by omega, (fun i x h => by omega), Below.refl _ _⟩
      case round =>
        obtain ⟨j, rfl, hj, hno, hA⟩ := hrel
        by_cases hjt : (j : Int) < n
        case neg =>
          exfalso
          obtain ⟨i, hi, he⟩ := List.getElem_of_mem hin.out
          exact hno i _ (by have := hSl.out; omega) (List.getElem?_eq_getElem hi) (by rw [he]; rfl)
        obtain ⟨x, hx⟩ : ∃ x, S[j]? = some x := ⟨_, List.getElem?_eq_getElem (by have := hSl.out; omega)⟩
        have hx5 : (S.map enL)[j]? = some (enL x) := by rw [List.getElem?_map, hx]; rfl
        obtain ⟨b, o, rfl, g0, g1, g2, g3, g4⟩ := els5_at (hE.out.below hA) hx5
        have jz : (0 : Int) ≤ j := by omega
        have wj : IntKind.i64.wrap ((j : Int) + 1) = (j : Int) + 1 := by have := hn9.out; rw [IntKind.wrap_i64]; omega
        have hj1 := hid (show j + 1 ≤ n by omega)
        have hms := hid (show n - (j + 1) < n - j by omega)
        have hxm := hid (List.mem_of_getElem? hx)
        by_cases h7 : ky x = (7, 7)
        case pos =>
          obtain rfl := hone.out x hxm.out h7
          replace hB := hid (bthen hB.out hA)
          clear hx hx5 h7 hno hA hj
          dsimp only at g0 g1 g2 g3 g4
          have q1 : (t == t) = true := beq_self_eq_true t
          have q2 : ((k : Int) + 1 == (k : Int) + 1) = true := beq_self_eq_true _
          have q3 : (s == s) = true := beq_self_eq_true s
          go_wp2_with fail
          go_ret
          exact ⟨rfl, hB.out⟩
        have hno1 := hid (fun (i : Nat) (z : Ln) (h : i < j + 1) (hz : S[i]? = some z) => (show ky z ≠ (7, 7) from by
          by_cases hi : i < j
          · exact hno i z hi hz
          · obtain rfl : i = j := by omega
            rw [hx] at hz
            cases hz
            exact h7))
        replace hA := hid hA
        obtain ⟨xy, xc, xq, xh, xl⟩ := x
        dsimp only at g0 g1 g2 g3 g4
        clear hno hx hx5 hj
        by_cases hy : xy = 7
        case pos =>
          have hc : (xc == 7) = false := by simp; intro e; exact h7 (by show (xy, xc) = (7, 7); rw [hy, e])
          have hy1 : (xy == 7) = true := by simpa using hy
          replace hy := hid hy
          clear h7
          go_wp2_with fail
          go_roundw
          case rel => exact ⟨j + 1, by simp, hj1.out, hno1.out, hA.out⟩
          case measure => simp [intOf]; have := hms.out; omega
        have hy1 : (xy == 7) = false := by simpa using hy
        clear h7
        go_wp2_with fail
        go_roundw
        case rel => exact ⟨j + 1, by simp, hj1.out, hno1.out, hA.out⟩
        case measure => simp [intOf]; have := hms.out; omega
    have kz : (0 : Int) ≤ k := by omega
    have wk : IntKind.i64.wrap ((k : Int) + 1) = (k : Int) + 1 := by rw [IntKind.wrap_i64]; have := hl.out; omega
    have hk1 := hid (show k + 1 ≤ len1 by omega)
    have hms := hid (show len1 - (k + 1) < len1 - k by omega)
    have hkl := hid (show k ≤ 100 by have := hl.out; omega)
    skip
    replace hk := hid hk
    by_cases ho : (k : Int) < len2
    case neg =>
      have bo : decide ((k : Int) < (len2 : Int)) = false := by simpa using ho
      have bo2 : decide (k < len2) = false := by simp; omega
      obtain ⟨L, hm, hb, hd, h16, hL, hfd, hB⟩ := hGS
      obtain ⟨b1, o1, e1, hc1⟩ := (hS.out.below (show After W wr from hB)).2.2.2.2 k (by have := hzl.out; omega)
      obtain ⟨u, hu⟩ : ∃ u, zs.getD k 0 = u := ⟨_, rfl⟩
      rw [hu] at hc1
      have hub : 0 ≤ u ∧ u ≤ 255 := by
        rw [← hu, List.getD_eq_getElem?_getD, List.getElem?_eq_getElem (show k < zs.length by have := hzl.out; omega)]
        have := hz.out _ (List.getElem_mem (show k < zs.length by have := hzl.out; omega))
        simp only [Option.getD_some]
        omega
      subst e1
      obtain ⟨h7a, h7b⟩ := hear_seven hfd hs hub
      obtain ⟨k1, k2, k3⟩ := hear_keep (q := (s + u + 1) % 256) (y := 7) (c := 7) hd h16 hL (by omega)
      have kH := hear_any B m L ((s + u + 1) % 256) 7 7 _ hb hm (hL.ok (by have := hkl.out; omega))
      rw [h7a] at kH
      dsimp only at kH
      replace kH := hid kH
      have wc : IntKind.i64.wrap u = u := by rw [IntKind.wrap_i64]; omega
      have w1 : IntKind.i64.wrap (s + u) = s + u := by rw [IntKind.wrap_i64]; omega
      have w2 : IntKind.i64.wrap (s + u + 1) = s + u + 1 := by rw [IntKind.wrap_i64]; omega
      have w3 : (s + u + 1).tmod 256 = (s + u + 1) % 256 := Int.tmod_eq_emod_of_nonneg (by omega)
      have w4 : IntKind.i64.wrap (t + u) = t + u := by have := hkl.out; rw [IntKind.wrap_i64]; omega
      have hsb := hid (show 0 ≤ (s + u + 1) % 256 ∧ (s + u + 1) % 256 ≤ 255 by omega)
      have htb := hid (show 0 ≤ t + u ∧ t + u ≤ 256 * ((k + 1 : Nat) : Int) by omega)
      obtain ⟨s2, hs2⟩ : ∃ z, (s + u + 1) % 256 = z := ⟨_, rfl⟩
      rw [hs2] at kH h7b k1 k2 k3 w3 hsb
      have qu : (u != u) = false := bne_self_eq_false u
      have hfacts := hid (And.intro k1 (And.intro k2 (And.intro (k3.mono (show (1 + 2 * (k : Int)) + 1 ≤ 1 + 2 * ((k + 1 : Nat) : Int) by omega)) h7b)))
      replace hb := hid hb
      replace hB := hid hB
      clear hs2 h7a h7b k1 k2 k3 hd h16 hL hfd hm hu hub
      go_wp2_with fail
      refine kH.out.mono ?_
      rintro r V7 ⟨rfl, hm7, hE⟩
      have hGS2 := hid (show GS W.heap.size B m (1 + 2 * ((k + 1 : Nat) : Int)) s2 (((k + 1 : Nat) : Int) + 1) (t + u) W V7 from ⟨_, hm7, eff_at33 hE hb.out hBm, hfacts.out.1, hfacts.out.2.1, hfacts.out.2.2.1, by have := hfacts.out.2.2.2; rw [this]; congr 2 <;> omega, eff_below33 hB.out hE hmW hB.out.size⟩)
      clear hm7 hE kH hb hB hfacts
      go_wp2_with fail
      go_roundw
      case rel => exact ⟨k + 1, s2, t + u, by simp, rfl, rfl, hk1.out, hsb.out, htb.out, hGS2.out⟩
      case measure => simp [intOf]; have := hms.out; omega
    obtain ⟨x, hx⟩ : ∃ x, x2[k]? = some x := ⟨_, List.getElem?_eq_getElem (by have := hxl.out; omega)⟩
    obtain ⟨cq, cy, cc, rfl, -⟩ := t2.out x (List.mem_of_getElem? hx)
    have hBx : After W wr := by obtain ⟨L, -, -, -, -, -, -, hB⟩ := hGS; exact hB
    obtain ⟨b, o, rfl, g0, g1, g2⟩ := (hEl.out.below hBx).at3 hx
    have bo : decide ((k : Int) < (len2 : Int)) = true := by simpa using ho
    clear hx hBx
    by_cases hy : cy = 7
    case pos =>
      have by7 : (cy != 7) = false := by simp [hy]
      replace hy := hid hy
      go_upto_region 14 with (fail)
      obtain ⟨L, hm, hb, hd, h16, hL, hfd, hB⟩ := hGS
      obtain ⟨b1, o1, e1, hc1⟩ := (hS.out.below (show After W wr from hB)).2.2.2.2 k (by have := hzl.out; omega)
      obtain ⟨u, hu⟩ : ∃ u, zs.getD k 0 = u := ⟨_, rfl⟩
      rw [hu] at hc1
      have hub : 0 ≤ u ∧ u ≤ 255 := by
        rw [← hu, List.getD_eq_getElem?_getD, List.getElem?_eq_getElem (show k < zs.length by have := hzl.out; omega)]
        have := hz.out _ (List.getElem_mem (show k < zs.length by have := hzl.out; omega))
        simp only [Option.getD_some]
        omega
      subst e1
      obtain ⟨h7a, h7b⟩ := hear_seven hfd hs hub
      obtain ⟨k1, k2, k3⟩ := hear_keep (q := (s + u + 1) % 256) (y := 7) (c := 7) hd h16 hL (by omega)
      have kH := hear_any B m L ((s + u + 1) % 256) 7 7 _ hb hm (hL.ok (by have := hkl.out; omega))
      rw [h7a] at kH
      dsimp only at kH
      replace kH := hid kH
      have wc : IntKind.i64.wrap u = u := by rw [IntKind.wrap_i64]; omega
      have w1 : IntKind.i64.wrap (s + u) = s + u := by rw [IntKind.wrap_i64]; omega
      have w2 : IntKind.i64.wrap (s + u + 1) = s + u + 1 := by rw [IntKind.wrap_i64]; omega
      have w3 : (s + u + 1).tmod 256 = (s + u + 1) % 256 := Int.tmod_eq_emod_of_nonneg (by omega)
      have w4 : IntKind.i64.wrap (t + u) = t + u := by have := hkl.out; rw [IntKind.wrap_i64]; omega
      have hsb := hid (show 0 ≤ (s + u + 1) % 256 ∧ (s + u + 1) % 256 ≤ 255 by omega)
      have htb := hid (show 0 ≤ t + u ∧ t + u ≤ 256 * ((k + 1 : Nat) : Int) by omega)
      obtain ⟨s2, hs2⟩ : ∃ z, (s + u + 1) % 256 = z := ⟨_, rfl⟩
      rw [hs2] at kH h7b k1 k2 k3 w3 hsb
      have qu : (u != u) = false := bne_self_eq_false u
      have hfacts := hid (And.intro k1 (And.intro k2 (And.intro (k3.mono (show (1 + 2 * (k : Int)) + 1 ≤ 1 + 2 * ((k + 1 : Nat) : Int) by omega)) h7b)))
      replace hb := hid hb
      replace hB := hid hB
      clear hs2 h7a h7b k1 k2 k3 hd h16 hL hfd hm hu hub
      go_wp2_with fail
      refine kH.out.mono ?_
      rintro r V7 ⟨rfl, hm7, hE⟩
      have hGS2 := hid (show GS W.heap.size B m (1 + 2 * ((k + 1 : Nat) : Int)) s2 (((k + 1 : Nat) : Int) + 1) (t + u) W V7 from ⟨_, hm7, eff_at33 hE hb.out hBm, hfacts.out.1, hfacts.out.2.1, hfacts.out.2.2.1, by have := hfacts.out.2.2.2; rw [this]; congr 2 <;> omega, eff_below33 hB.out hE hmW hB.out.size⟩)
      clear hm7 hE kH hb hB hfacts
      go_wp2_with fail
      go_roundw
      case rel => exact ⟨k + 1, s2, t + u, by simp, rfl, rfl, hk1.out, hsb.out, htb.out, hGS2.out⟩
      case measure => simp [intOf]; have := hms.out; omega
    have by7 : (cy != 7) = true := by simpa using hy
    obtain ⟨L, hm, hb, hd, h16, hL, hfd, hB⟩ := hGS
    have ho7 := hear_other (L := L) (q := cq) (c := cc) hy
    obtain ⟨k1, k2, k3⟩ := hear_keep (q := cq) (y := cy) (c := cc) hd h16 hL (by omega)
    rw [← ho7] at hfd
    have kH0 := fun (U : World) hbU hmU => hear_any B m L cq cy cc U hbU hmU (hL.ok (by have := hkl.out; omega))
    replace kH0 := hid kH0
    have hfacts := hid (And.intro k1 (And.intro k2 (And.intro k3 hfd)))
    replace hy := hid hy
    clear ho7 hd h16 hL k1 k2 k3 hfd
    go_upto_region 13 with (fail)
    have bQ := hid (show wr.drew.heap[B]? = _ from hb)
    have mQ := hid (show MapAt wr.drew m L from hm)
    have c0 := (show wr.drew.cell? _ = _ from g0)
    have c1 := (show wr.drew.cell? _ = _ from g1)
    have c2 := (show wr.drew.cell? _ = _ from g2)
    have hBQ := hid (show Below W.heap.size W wr.drew from hB.drew)
    obtain ⟨QQ, hQQ⟩ : ∃ X, wr.drew = X := ⟨_, rfl⟩
    rw [hQQ] at bQ mQ c0 c1 c2 hBQ
    clear hb hm hB g0 g1 g2
    refine wp_region_T none 16 (by kernel_rfl) ?_
    rw [hQQ]
    refine wpAnyT_take 0 rfl (by kernel_rfl) (by kernel_rfl) (by kernel_rfl) (by kernel_rfl) (fun _ _ _ _ h => h) ⟨_, Or.inl ⟨by rfl, fun w2 hb2 => by (go_simp; try with_reducible rfl)⟩, _, by (go_simp; try rfl), ?_⟩
    refine wpAnyT_takeP 1 rfl (by kernel_rfl) (by kernel_rfl) (by kernel_rfl) (fun _ _ _ _ h => h) ⟨_, Or.inl ⟨by rfl, fun w2 _ => by (go_simp; try with_reducible rfl)⟩, _, by (go_simp; try rfl), ?_⟩
    refine wpAnyT_takeP 2 rfl (by kernel_rfl) (by kernel_rfl) (by kernel_rfl) (fun _ _ _ _ h => h) ⟨_, Or.inl ⟨by rfl, fun w2 _ => by (go_simp; try with_reducible rfl)⟩, _, by (go_simp; try rfl), ?_⟩
    refine wpAnyT_takeP 3 rfl (by kernel_rfl) (by kernel_rfl) (by kernel_rfl) (fun _ _ _ _ h => h) ⟨_, Or.inl ⟨by rfl, fun w2 _ => by (go_simp; try with_reducible rfl)⟩, _, by (go_simp; try rfl), ?_⟩
    refine wpAnyT_takeP 4 rfl (by kernel_rfl) (by kernel_rfl) (by kernel_rfl) (fun _ _ _ _ h => h) ⟨_, Or.inl ⟨by rfl, fun w2 _ => by (go_simp; try with_reducible rfl)⟩, _, by (go_simp; try rfl), ?_⟩
    refine wpAnyT_take 5 rfl (by kernel_rfl) (by kernel_rfl) (by kernel_rfl) (by kernel_rfl) (fun _ _ _ _ h => h) ⟨_, Or.inl ⟨by rfl, fun w2 hb2 => by (have h0 := hb2.cell c0 (by simp); go_simp; try with_reducible rfl)⟩, _, by (go_simp; try rfl), ?_⟩
    refine wpAnyT_takeP 6 rfl (by kernel_rfl) (by kernel_rfl) (by kernel_rfl) (fun _ _ _ _ h => h) ⟨_, Or.inl ⟨by rfl, fun w2 _ => by (go_simp; try with_reducible rfl)⟩, _, by (go_simp; try rfl), ?_⟩
    refine wpAnyT_takeP 7 rfl (by kernel_rfl) (by kernel_rfl) (by kernel_rfl) (fun _ _ _ _ h => h) ⟨_, Or.inl ⟨by rfl, fun w2 _ => by (go_simp; try with_reducible rfl)⟩, _, by (go_simp; try rfl), ?_⟩
    refine wpAnyT_takeP 8 rfl (by kernel_rfl) (by kernel_rfl) (by kernel_rfl) (fun _ _ _ _ h => h) ⟨_, Or.inl ⟨by rfl, fun w2 _ => by (go_simp; try with_reducible rfl)⟩, _, by (go_simp; try rfl), ?_⟩
    refine wpAnyT_takeP 9 rfl (by kernel_rfl) (by kernel_rfl) (by kernel_rfl) (fun _ _ _ _ h => h) ⟨_, Or.inl ⟨by rfl, fun w2 _ => by (go_simp; try with_reducible rfl)⟩, _, by (go_simp; try rfl), ?_⟩
    refine wpAnyT_take 10 rfl (by kernel_rfl) (by kernel_rfl) (by kernel_rfl) (by kernel_rfl) (fun _ _ _ _ h => h) ⟨_, Or.inl ⟨by rfl, fun w2 hb2 => by (have h1 := hb2.cell c1 (by simp); go_simp; try with_reducible rfl)⟩, _, by (go_simp; try rfl), ?_⟩
    refine wpAnyT_takeP 11 rfl (by kernel_rfl) (by kernel_rfl) (by kernel_rfl) (fun _ _ _ _ h => h) ⟨_, Or.inl ⟨by rfl, fun w2 _ => by (go_simp; try with_reducible rfl)⟩, _, by (go_simp; try rfl), ?_⟩
    refine wpAnyT_takeP 12 rfl (by kernel_rfl) (by kernel_rfl) (by kernel_rfl) (fun _ _ _ _ h => h) ⟨_, Or.inl ⟨by rfl, fun w2 _ => by (go_simp; try with_reducible rfl)⟩, _, by (go_simp; try rfl), ?_⟩
    refine wpAnyT_takeP 13 rfl (by kernel_rfl) (by kernel_rfl) (by kernel_rfl) (fun _ _ _ _ h => h) ⟨_, Or.inl ⟨by rfl, fun w2 _ => by (go_simp; try with_reducible rfl)⟩, _, by (go_simp; try rfl), ?_⟩
    refine wpAnyT_takeP 14 rfl (by kernel_rfl) (by kernel_rfl) (by kernel_rfl) (fun _ _ _ _ h => h) ⟨_, Or.inl ⟨by rfl, fun w2 _ => by (go_simp; try with_reducible rfl)⟩, _, by (go_simp; try rfl), ?_⟩
    refine wpAnyT_take 15 rfl (by kernel_rfl) (by kernel_rfl) (by kernel_rfl) (by kernel_rfl) (fun _ _ _ _ h => h) ⟨_, Or.inl ⟨by rfl, fun w2 hb2 => by (have h2 := hb2.cell c2 (by simp); go_simp; try with_reducible rfl)⟩, _, by (go_simp; try rfl), ?_⟩
    refine wpAnyT_only 16 rfl (by kernel_rfl) (by rfl) (fun K hK => ?_)
    go_simp
    refine (kH0.out _ bQ.out mQ.out).mono ?_
    rintro r V6 ⟨rfl, hm6, hE⟩
    have hGS := hid (show GS W.heap.size B m (1 + 2 * (k : Int) + 1) s ((k : Int) + 1) t W V6 from ⟨_, hm6, eff_at33 hE bQ.out hBm, hfacts.out.1, hfacts.out.2.1, hfacts.out.2.2.1, hfacts.out.2.2.2, eff_below33 hBQ.out hE hmW hBQ.out.size⟩)
    clear hm6 hE
    go_simp
    refine hK _ _ ⟨fun h => (h rfl).elim, ?_⟩
    clear hK
    refine wpAnyT_done (by kernel_rfl) ?_ _
    clear kH0 bQ mQ c0 c1 c2 hBQ hfacts hQQ
    replace hGS := hGS.out
    obtain ⟨L, hm, hb, hd, h16, hL, hfd, hB⟩ := hGS
    obtain ⟨b1, o1, e1, hc1⟩ := (hS.out.below (show After W V6 from hB)).2.2.2.2 k (by have := hzl.out; omega)
    obtain ⟨u, hu⟩ : ∃ u, zs.getD k 0 = u := ⟨_, rfl⟩
    rw [hu] at hc1
    have hub : 0 ≤ u ∧ u ≤ 255 := by
      rw [← hu, List.getD_eq_getElem?_getD, List.getElem?_eq_getElem (show k < zs.length by have := hzl.out; omega)]
      have := hz.out _ (List.getElem_mem (show k < zs.length by have := hzl.out; omega))
      simp only [Option.getD_some]
      omega
    subst e1
    obtain ⟨h7a, h7b⟩ := hear_seven hfd hs hub
    obtain ⟨k1, k2, k3⟩ := hear_keep (q := (s + u + 1) % 256) (y := 7) (c := 7) hd h16 hL (by omega)
    have kH := hear_any B m L ((s + u + 1) % 256) 7 7 _ hb hm (hL.ok (by have := hkl.out; omega))
    rw [h7a] at kH
    dsimp only at kH
    replace kH := hid kH
    have wc : IntKind.i64.wrap u = u := by rw [IntKind.wrap_i64]; omega
    have w1 : IntKind.i64.wrap (s + u) = s + u := by rw [IntKind.wrap_i64]; omega
    have w2 : IntKind.i64.wrap (s + u + 1) = s + u + 1 := by rw [IntKind.wrap_i64]; omega
    have w3 : (s + u + 1).tmod 256 = (s + u + 1) % 256 := Int.tmod_eq_emod_of_nonneg (by omega)
    have w4 : IntKind.i64.wrap (t + u) = t + u := by have := hkl.out; rw [IntKind.wrap_i64]; omega
    have hsb := hid (show 0 ≤ (s + u + 1) % 256 ∧ (s + u + 1) % 256 ≤ 255 by omega)
    have htb := hid (show 0 ≤ t + u ∧ t + u ≤ 256 * ((k + 1 : Nat) : Int) by omega)
    obtain ⟨s2, hs2⟩ : ∃ z, (s + u + 1) % 256 = z := ⟨_, rfl⟩
    rw [hs2] at kH h7b k1 k2 k3 w3 hsb
    have qu : (u != u) = false := bne_self_eq_false u
    have hfacts := hid (And.intro k1 (And.intro k2 (And.intro (k3.mono (show (1 + 2 * (k : Int) + 1) + 1 ≤ 1 + 2 * ((k + 1 : Nat) : Int) by omega)) h7b)))
    replace hb := hid hb
    replace hB := hid hB
    clear hs2 h7a h7b k1 k2 k3 hd h16 hL hfd hm hu hub
    go_wp2_with fail
    refine kH.out.mono ?_
    rintro r V7 ⟨rfl, hm7, hE⟩
    have hGS2 := hid (show GS W.heap.size B m (1 + 2 * ((k + 1 : Nat) : Int)) s2 (((k + 1 : Nat) : Int) + 1) (t + u) W V7 from ⟨_, hm7, eff_at33 hE hb.out hBm, hfacts.out.1, hfacts.out.2.1, hfacts.out.2.2.1, by have := hfacts.out.2.2.2; rw [this]; congr 2 <;> omega, eff_below33 hB.out hE hmW hB.out.size⟩)
    clear hm7 hE kH hb hB hfacts
    go_wp2_with fail
    go_roundw
    case rel => exact ⟨k + 1, s2, t + u, by simp, rfl, rfl, hk1.out, hsb.out, htb.out, hGS2.out⟩
    case measure => simp [intOf]; have := hms.out; omega

end Go.Proofs.Ytjeiclfdhdcfnaa
