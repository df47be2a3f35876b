/- Package rescue: blocks and its iterator; the papers' Scan. -/
import Derived.Test.YtlfbhfmchdbnoaaResM
import Derived.Test.YtlfbhfmchdbnoaaKG
import Derived.Test.YtlfbhfmchdbnoaaPre2
import Derived.Test.YtlfbhfmchdbnoaaKI
import Derived.Deep.DeepCutAuto
namespace Go.Proofs.Ytlfbhfmchdbnoaa
open Go.ChangeShapes Go.WideShapes Go.ChangeAt Go.RowKit
set_option linter.unusedVariables false
set_option linter.unusedSimpArgs false

/-- What blocks hands over: place, the block's number, where its entries lie, the entries. -/
abbrev E38 := Int × Int × Option Addr × Nat × List En
def strip38 (x : E38) : S37 := (x.1, x.2.1, x.2.2.2.2)
def cel38 (x : E38) : List Value := [.int .i64 x.1, .int .u32 x.2.1, .slice x.2.2.1 x.2.2.2.2.length x.2.2.2.1]
def enc38 (x : E38) : Array Value := #[.agg #[.int .i64 x.1, .int .u32 x.2.1, .slice x.2.2.1 x.2.2.2.2.length x.2.2.2.1]]
def vals38 (l : List E38) : List (List Value) := l.map cel38
def el38 (x : E38) (W : World) : Prop := Els W 14 x.2.2.1 x.2.2.2.2.length x.2.2.2.1 (entsV x.2.2.2.2) ∧ ETy 71 W x.2.2.1
theorem vals_len (l : List E38) : (vals38 l).length = l.length := by simp [vals38]
theorem vals_m (l : List E38) : ∀ x ∈ vals38 l, x.length = 3 := fun x hx => by
  obtain ⟨y, _, rfl⟩ := List.mem_map.1 hx; rfl
theorem vals_one (x : E38) : ∀ y ∈ [cel38 x], ∀ u ∈ y, u.oneCell' = true := by
  intro y hy u hu
  rw [List.mem_singleton] at hy; subst hy
  simp [cel38] at hu
  rcases hu with rfl | rfl | rfl <;> rfl
theorem vals_snoc (l : List E38) (x : E38) : (vals38 (l ++ [x])).flatten = (vals38 l).flatten ++ [cel38 x].flatten := by simp [vals38]
theorem vals_snoc2 (l : List E38) (x : E38) : (vals38 (l ++ [x])).flatten = (vals38 l).flatten ++ cel38 x := by simp [vals38]
theorem vals_at {l : List E38} {k : Nat} {x : E38} (h : l[k]? = some x) : (vals38 l)[k]? = some [.int .i64 x.1, .int .u32 x.2.1, .slice x.2.2.1 x.2.2.2.2.length x.2.2.2.1] := by
  unfold vals38
  rw [List.getElem?_map, h]; rfl
theorem eTy_aft {E : TypeId} {w w2 : World} {a : Option Addr} (h : ETy E w a) (hA : After w w2) : ETy E w2 a := fun q e => by
  obtain ⟨cs, hc⟩ := h q e
  exact ⟨cs, held_after hA hc⟩
theorem el38_aft {x : E38} {w w2 : World} (h : el38 x w) (hA : After w w2) : el38 x w2 := ⟨h.1.below hA, eTy_aft h.2 hA⟩
theorem el38_own {x : E38} {W W' : World} {row : Option Nat} {B : Nat} (h : el38 x W) (hg : W.grownBy W' row) (hr : ∀ r, row = some r → B ≤ r ∧ ∃ o : Obj, W.heap[r]? = some o ∧ o.isCells = false) : el38 x W' := by
  refine ⟨els_own h.1 hg hr, fun q e => ?_⟩
  obtain ⟨cs, hc⟩ := h.2 q e
  exact ⟨cs, keeps_row hc rfl hg hr⟩
/-- A slice of structs of another type grows. -/
theorem el38_grown {x : E38} {E : TypeId} {W w' : World} {b m n : Nat} {v : Value} {xs : List Value} (h : el38 x W) (hO : OwnE E W b m v n xs) (hG : W.grownBy w' v.ownBlock) (hT : 71 ≠ E) : el38 x w' := by
  have key : ∀ q, x.2.2.1 = some q → some q.block ≠ v.ownBlock := fun q e e2 => by
    obtain ⟨cs, hc⟩ := h.2 q e
    exact hO.ne hc hT e2.symm
  refine ⟨els_grown h.1 hG (fun b2 off e => key _ e), fun q e => ?_⟩
  obtain ⟨cs, hc⟩ := h.2 q e
  exact ⟨cs, (hG.block q.block (held_lt hc) (fun e2 => key q e e2)).trans hc⟩
theorem el38_set {x : E38} {W : World} {p j : Nat} {v : Value} {c : Array Value} {T : TypeId} (h : el38 x W) (hp : W.heap[p]? = some (.cells c T (0, 0))) (hT : 71 ≠ T) : el38 x (W.setCell ⟨p, j, none⟩ v) := by
  have key : ∀ q, x.2.2.1 = some q → q.block ≠ p := fun q e e2 => by
    obtain ⟨cs, hc⟩ := h.2 q e
    rw [e2, hp] at hc
    exact hT (by cases hc; rfl)
  refine ⟨⟨h.1.1, h.1.2.1, h.1.2.2.1, h.1.2.2.2.1, fun i y hy => ?_⟩, fun q e => ?_⟩
  · obtain ⟨h1, b, off, e, hc⟩ := h.1.2.2.2.2 i y hy
    refine ⟨h1, b, off, e, fun j2 v2 hj => ?_⟩
    exact (World.cell?_of_block (w := W) (Below.heap_setCell W ⟨p, j, none⟩ v b (key _ e))).trans (hc j2 v2 hj)
  · obtain ⟨cs, hc⟩ := h.2 q e
    exact ⟨cs, (Below.heap_setCell W ⟨p, j, none⟩ v q.block (key q e)).trans hc⟩
theorem fndO : CellsOf Try.prog 36 61 3 40 := ⟨Try.underlying36, by kernel_rfl⟩
theorem rfndO : CellsOf Try.prog 39 75 3 40 := ⟨Try.underlying39, by kernel_rfl⟩
/-- What a scan tells. -/
def ScOk (E : TypeId) (w : World) (l : List S37) (e : Ending) (w' : World) : Prop := ∃ (xs : List E38) (a : Option Addr) (cap : Nat), xs.map strip38 = l ∧ e = .returned (.slice a xs.length cap) ∧ OwnE E w' w.heap.size 3 (.slice a xs.length cap) xs.length (vals38 xs).flatten ∧ (∀ x ∈ xs, el38 x w') ∧ After w w'
theorem blocks_any (a : Option Addr) (len cap : Nat) (w : World) : Calls Try.prog 27 #[.slice a len cap] w fun e w' => e = .returned (.func (.func 37) #[] #[.pointer (some ⟨w.heap.size, 0, none⟩)]) ∧ w' = w.alloc (.cells #[.slice a len cap] 22) := by
  have hmf : ∀ (fn : Fn) (first cap : Array Value) (w : World), (Instr.makeFunc fn first cap).run Try.prog w = .ok (.func fn first cap) w := fun _ _ _ _ => rfl
  go_enter Try.func27, Try.ntmps27
  go_wp2_with fail
  go_ret
  exact ⟨rfl, rfl⟩
attribute [local go_sem] Oper.semAt_some
set_option maxRecDepth 100000 in
set_option maxHeartbeats 16000000 in
theorem blocks_tells (a : Option Addr) (len cap : Nat) (zs : List Int) (L B : Nat) (w0 : World) (hL : L ≤ w0.heap.size) (hB : B < w0.heap.size) (hc : w0.heap[B]? = some (.cells #[.slice a len cap] 22 (0, 0))) (hS : Sl .u8 w0 a len cap zs) (hSb : ∀ b off, a = some ⟨b, off, none⟩ → 0 < len → b < L) (hz : ∀ x ∈ zs, (Lit.int .u8 x).wf = true) (hl : len ≤ 100000) :
    TellsE Try.prog 37 #[.pointer (some ⟨B, 0, none⟩)] enc38 el38 (KpZ L B) (fun xs => xs.map strip38 = scanS zs) (fun _ => True) len w0 := by
  intro ly J Jx W hW hst hY h0
  have hc0 := (hW.block B hB).trans hc
  refine callsIn_of_wp Try.func37 rfl trivial ?_ rfl
  simp only [Try.ntmps37, List.size_toArray, List.length_cons, List.length_nil, Nat.reduceAdd, Nat.reduceSub, Array.replicate_succ, Array.replicate_zero, List.push_toArray, List.append_toArray, List.nil_append, List.cons_append]
  have hS0 := hS.below hW
  have hWM := hW.size
  have hcc := hS.2.1
  have hzl := hid hS.1
  have hMB : B < W.heap.size := by omega
  have hML : L ≤ W.heap.size := by omega
  have b0 := held_cell hc0 0 _ rfl
  clear hS hc hW hL hB hWM
  replace hst := hid hst
  replace hY := hid hY
  replace hz := hid hz
  replace hSb := hid hSb
  replace hS0 := hid hS0
  replace hc0 := hid hc0
  gi_wp2
  gi_loopw [3] (fun ix wr => ∃ (p f : Nat) (pre : List E38), ix = .int .i64 p ∧ p ≤ len ∧ len + 1 ≤ f + p ∧ 256 * pre.length ≤ p ∧ Hid (pre.map strip38 ++ scanF zs f p = scanS zs) ∧ J pre wr ∧ Sl .u8 wr a len cap zs ∧ wr.heap[B]? = some (.cells #[.slice a len cap] 22 (0, 0)) ∧ W.heap.size ≤ wr.heap.size) (fun ix _ => len + 1 - (intOf ix).toNat)
  case atStart => exact ⟨0, len + 1, [], rfl, by omega, by omega, by simp, hid (by unfold scanS; rw [hzl.out]; rfl), h0, hS0.out, hc0.out, Nat.le_refl _⟩
  case round =>
    clear h0 hS0 hc0 b0
    obtain ⟨p, f, pre, rfl, hp, hf, hpn, hac, hJ, hS1, rb, hMr⟩ := hrel
    have bx := held_cell rb 0 _ rfl
    obtain ⟨q, hq⟩ : ∃ q, p + 256 = q := ⟨_, rfl⟩
    have wq : IntKind.i64.wrap ((p : Int) + 256) = (q : Int) := by rw [IntKind.wrap_i64]; omega
    by_cases hlt : (q : Int) ≤ len
    case neg =>
      have hend := hid (show pre.map strip38 = scanS zs by rw [← hac.out, scanF_end (by rw [hzl.out]; omega), List.append_nil])
      replace hS1 := hid hS1
      replace hMr := hid hMr
      clear hp hf hpn
      replace hq := hid hq
      gi_wp2
      go_end0
      exact ⟨⟨_, rfl⟩, .inl ⟨_, hend.out, hJ⟩⟩
    have kz : (0 : Int) ≤ p := by omega
    have klt : (p : Int) < len := by omega
    have wp : IntKind.i64.wrap ((p : Int) + 1) = (p : Int) + 1 := by rw [IntKind.wrap_i64]; omega
    have hp1 := hid (show p + 1 ≤ len by omega)
    have hq1 := hid (show q ≤ len by omega)
    obtain ⟨f2, rfl⟩ : ∃ f2, f = f2 + 1 := ⟨f - 1, by omega⟩
    have hf1 := hid (show len + 1 ≤ f2 + (p + 1) by omega)
    have hf2 := hid (show len + 1 ≤ f2 + q by omega)
    have hpn1 := hid (show 256 * pre.length ≤ p + 1 by omega)
    have hpn2 := hid (show ∀ x : E38, 256 * (pre ++ [x]).length ≤ q from fun x => by rw [List.length_append, List.length_singleton]; omega)
    have hlen := hid (show pre.length < len by omega)
    have hp256 : p + 256 ≤ zs.length := by rw [hzl.out]; omega
    have hmiss := fun h : (takB (chAt zs p)).2.2 ≠ 0 => show pre.map strip38 ++ scanF zs f2 (p + 1) = scanS zs by rw [← hac.out, scanF_miss hp256 h]
    have hhit := fun (xa : Option Addr) (xc : Nat) (h : (takB (chAt zs p)).2.2 = 0) => show (pre ++ [(((p : Int), (takB (chAt zs p)).1, xa, xc, (takB (chAt zs p)).2.1) : E38)]).map strip38 ++ scanF zs f2 q = scanS zs by rw [← hac.out, scanF_hit hp256 h, hq]; simp [strip38]
    have h76 := fun h : zs.getD p 0 ≠ 76 => hmiss (takB_76 hp256 h)
    have hqp : q - p = 256 := by omega
    obtain ⟨ca, hcut, hcs⟩ := cutLH37 a len cap p q hcc (by omega) (by omega)
    have hch := hcs wr zs hS1
    clear hcs
    rw [hqp] at hcut hch
    replace hch : Sl .u8 wr ca 256 (cap - p) (chAt zs p) := hch
    have hcw := chAt_wf hz.out p
    have htl := takB_l hcw
    obtain ⟨c2, hc2⟩ : ∃ z, cap - p = z := ⟨_, rfl⟩
    rw [hc2] at hcut hch
    clear hc2
    have kT := fun U h => btake_et ca 256 c2 (chAt zs p) U h hcw (by omega)
    obtain ⟨b, off, hae, hcb⟩ := hS1.2.2.2.2 p (by omega)
    subst hae
    obtain ⟨⟨no, l, ee⟩, ht⟩ : ∃ r, takB (chAt zs p) = r := ⟨_, rfl⟩
    rw [ht] at kT htl
    simp only [ht] at hhit hmiss
    obtain ⟨Z, hZ⟩ : ∃ Z, zs.getD p 0 = Z := ⟨_, rfl⟩
    rw [hZ] at h76 hcb
    dsimp only at htl
    obtain ⟨hl82, hlo, hno1, hno2⟩ := htl
    replace hhit := hid hhit
    replace hmiss := hid hmiss
    replace h76 := hid h76
    replace kT := hid kT
    replace hch := hid hch
    replace hlo := hid hlo
    replace hS1 := hid hS1
    have hMr2 := hid hMr
    have qz2 : (p : Int) ≤ q := by omega
    have qz3 : (q : Int) ≤ cap := by omega
    have hms : len + 1 - (p + 1) < len + 1 - p := by omega
    clear ht hcw hp hf hpn hp256 hZ hac hqp hMr
    replace hq := hid hq
    replace hms := hid hms
    by_cases hb76 : Z = 76
    case neg =>
      have hne : (Z != 76) = true := by simpa using hb76
      have hac2 := hid (h76.out hb76)
      clear hhit hmiss h76 hch kT
      replace hb76 := hid hb76
      replace rb := hid rb
      gi_wp2
      go_roundw
      case rel => exact ⟨p + 1, f2, pre, by simp, hp1.out, hf1.out, hpn1.out, hac2, hJ, hS1.out, rb.out, hMr2.out⟩
      case measure => simp [intOf]; have := hms.out; have := hp1.out; omega
    subst hb76
    clear h76
    gi_wp2
    refine ⟨trivial, ((callsIn_wide (n := _)).2 (kT.out _ hch.out)).mono ?_⟩
    rintro e V2 ⟨xa, xc, rfl, hEx, hA2, hty⟩
    dsimp only at hEx ⊢
    have hJ2 := hst.out _ _ _ hJ hA2
    have nw := alloc_new V2 (.cells #[.int .u32 no, .slice xa l.length xc] 26)
    have rb2 := nw.2.2
    have hA3 := bthen hA2 nw.2.1
    have hE3 := hid (hEx.below nw.2.1)
    have hty3 := hid (eTy_aft hty nw.2.1)
    have hJ3 := hst.out _ _ _ hJ2 nw.2.1
    obtain ⟨W3, hW3⟩ : ∃ X, V2.alloc (.cells #[.int .u32 no, .slice xa l.length xc] 26) = X := ⟨_, rfl⟩
    obtain ⟨pb, hpb⟩ : ∃ X, V2.heap.size = X := ⟨_, rfl⟩
    rw [hW3] at rb2 hA3 hE3 hJ3 hty3
    rw [hpb] at rb2
    have x0 := held_cell rb2 0 _ rfl
    have x1 := held_cell rb2 1 _ rfl
    have hS3 := hid (hS1.out.below hA3)
    have rb3 := hid (held_after hA3 rb)
    have hM3 := hid (Nat.le_trans hMr2.out hA3.size)
    clear nw hA2 hA3 hEx hty hJ2 hJ rb bx rb2 hch kT hcut hS1 hMr2 hcb
    by_cases hee : ee = 0
    case neg =>
      have hne : (ee != 0) = true := by simp [hee]
      have hac2 := hid (hmiss.out hee)
      clear hhit hmiss
      replace hee := hid hee
      gi_wp2
      go_roundw
      case rel => exact ⟨p + 1, f2, pre, by simp, hp1.out, hf1.out, hpn1.out, hac2, hJ3, hS3.out, rb3.out, hM3.out⟩
      case measure => simp [intOf]; have := hms.out; have := hp1.out; omega
    subst hee
    have hac2 := hid (hhit.out xa xc rfl)
    clear hhit hmiss
    obtain ⟨fn, tmps, assign, body, hy, hR⟩ := hY.out pre ((p : Int), no, xa, xc, l) W3 hJ3 ⟨hE3.out, hty3.out⟩ hlen.out
    replace hy : (Instr.yield ly #[.agg #[.int .i64 (p : Int), .int .u32 no, .slice xa l.length xc]]).run Try.prog W3 = .ok (.round ly fn tmps assign body) W3 := hy
    gi_wp2
    refine hR.mono ?_
    rintro e W4 (⟨rfl, hJ4, hk4b⟩ | ⟨rfl, hJx4⟩)
    · have hS4 := hid (sl_kpZ hS3.out hk4b hSb.out)
      have rb4 := hid (kpZ_held hk4b rb3.out)
      have hM4 := hid (Nat.le_trans hM3.out hk4b.1)
      clear hk4b
      gi_wp2
      go_roundw
      case rel => exact ⟨q, f2, pre ++ [((p : Int), no, xa, xc, l)], by simp, hq1.out, hf2.out, hpn2.out _, hac2, hJ4, hS4.out, rb4.out, hM4.out⟩
      case measure => simp [intOf]; have := hq.out; have := hp1.out; omega
    · gi_wp2
      refine bodyPost_ret (results_none rfl _ _ _) rfl ?_
      exact ⟨⟨_, rfl⟩, .inr ⟨_, trivial, hJx4⟩⟩
set_option maxRecDepth 100000 in
set_option maxHeartbeats 16000000 in
theorem rscan_any (a : Option Addr) (len cap : Nat) (zs : List Int) (w : World) (hS : Sl .u8 w a len cap zs) (hz : ∀ x ∈ zs, (Lit.int .u8 x).wf = true) (hl : len ≤ 100000) : Calls Try.prog 19 #[.slice a len cap] w (ScOk 75 w (scanS zs)) := by
  have hcc := hS.2.1
  have hzl := hid hS.1
  replace hS := hid hS
  replace hz := hid hz
  go_enter Try.func19, Try.ntmps19
  go_upto_region 0 with (fail)
  go_wp2_with fail
  go_loopw [3, 4] (fun ov ix wr => ∃ (p f m : Nat) (pre : List E38) (oa : Option Addr) (oc : Nat), ix = .int .i64 p ∧ ov = .slice oa m oc ∧ p ≤ len ∧ len + 1 ≤ f + p ∧ 256 * m ≤ p ∧ Hid (pre.length = m) ∧ Hid (pre.map strip38 ++ scanF zs f p = scanS zs) ∧ OwnE 75 wr w.heap.size 3 (.slice oa m oc) m (vals38 pre).flatten ∧ Hid (∀ x ∈ pre, el38 x wr) ∧ After w wr) (fun _ ix _ => len + 1 - (intOf ix).toNat)
  case atStart => exact ⟨0, len + 1, 0, [], none, 0, rfl, rfl, by omega, by omega, by omega, hid rfl, hid (by unfold scanS; rw [hzl.out]; rfl), OwnE.nil _ _ _ _, hid (fun x hx => by cases hx), Below.refl _ _⟩
  case round =>
    obtain ⟨p, f, m, pre, oa, oc, rfl, rfl, hp, hf, hpn, hpm, hac, hO, hel, hA⟩ := hrel
    obtain ⟨q, hq⟩ : ∃ q, p + 256 = q := ⟨_, rfl⟩
    have wq : IntKind.i64.wrap ((p : Int) + 256) = (q : Int) := by rw [IntKind.wrap_i64]; omega
    replace hO := hid hO
    by_cases hlt : (q : Int) ≤ len
    case neg =>
      have hend := hid (show pre.map strip38 = scanS zs by rw [← hac.out, scanF_end (by rw [hzl.out]; omega), List.append_nil])
      replace hA := hid hA
      clear hp hf hpn
      replace hq := hid hq
      go_wp2_with fail
      go_ret
      exact ⟨pre, oa, oc, hend.out, by rw [hpm.out]; rfl, by rw [hpm.out]; exact hO.out, hel.out, hA.out⟩
    have kz : (0 : Int) ≤ p := by omega
    have klt : (p : Int) < len := by omega
    have wp : IntKind.i64.wrap ((p : Int) + 1) = (p : Int) + 1 := by rw [IntKind.wrap_i64]; omega
    have hp1 := hid (show p + 1 ≤ len by omega)
    have hq1 := hid (show q ≤ len by omega)
    obtain ⟨f2, rfl⟩ : ∃ f2, f = f2 + 1 := ⟨f - 1, by omega⟩
    have hf1 := hid (show len + 1 ≤ f2 + (p + 1) by omega)
    have hf2 := hid (show len + 1 ≤ f2 + q by omega)
    have hpn1 := hid (show 256 * m ≤ p + 1 by omega)
    have hpn2 := hid (show 256 * (m + 1) ≤ q by omega)
    have hm4 : m ≤ 400 := by omega
    have hp256 : p + 256 ≤ zs.length := by rw [hzl.out]; omega
    have hmiss := fun h : (takB (chAt zs p)).2.2 ≠ 0 => show pre.map strip38 ++ scanF zs f2 (p + 1) = scanS zs by rw [← hac.out, scanF_miss hp256 h]
    have hhit := fun (xa : Option Addr) (xc : Nat) (h : (takB (chAt zs p)).2.2 = 0) => show (pre ++ [(((p : Int), (takB (chAt zs p)).1, xa, xc, (takB (chAt zs p)).2.1) : E38)]).map strip38 ++ scanF zs f2 q = scanS zs by rw [← hac.out, scanF_hit hp256 h, hq]; simp [strip38]
    have hqp : q - p = 256 := by omega
    obtain ⟨ca, hcut, hcs⟩ := cutLH37 a len cap p q hcc (by omega) (by omega)
    have hch := hcs w zs hS.out
    clear hcs
    rw [hqp] at hcut hch
    replace hch : Sl .u8 w ca 256 (cap - p) (chAt zs p) := hch
    have hcw := chAt_wf hz.out p
    have htl := takB_l hcw
    obtain ⟨c2, hc2⟩ : ∃ z, cap - p = z := ⟨_, rfl⟩
    rw [hc2] at hcut hch
    clear hc2
    have kT := fun U h => rbtake_et ca 256 c2 (chAt zs p) U h hcw (by omega)
    obtain ⟨⟨no, l, ee⟩, ht⟩ : ∃ r, takB (chAt zs p) = r := ⟨_, rfl⟩
    rw [ht] at kT htl
    simp only [ht] at hhit hmiss
    dsimp only at htl
    obtain ⟨hl82, hlo, hno1, hno2⟩ := htl
    replace hhit := hid hhit
    replace hmiss := hid hmiss
    replace kT := hid kT
    have hch2 := hid (hch.below hA)
    replace hlo := hid hlo
    have qz2 : (p : Int) ≤ q := by omega
    have qz3 : (q : Int) ≤ cap := by omega
    have hms : len + 1 - (p + 1) < len + 1 - p := by omega
    clear ht hcw hch hp hf hpn hp256 hac hqp
    replace hq := hid hq
    replace hms := hid hms
    replace hA := hid hA
    go_wp2_with fail
    refine (kT.out _ hch2.out).mono ?_
    rintro e V2 ⟨xa, xc, rfl, hEx, hA2, hty⟩
    dsimp only at hEx ⊢
    have nw := alloc_new V2 (.cells #[.int .u32 no, .slice xa l.length xc] 26)
    have rb2 := nw.2.2
    have hA3 := bthen hA2 nw.2.1
    have hE3 := hid (hEx.below nw.2.1)
    have hty3 := hid (eTy_aft hty nw.2.1)
    have hO3 := hid (hO.out.below hA3)
    have hel3 := hid (fun x hx => el38_aft (hel.out x hx) hA3)
    have hB3 := hid (bthen hA.out hA3)
    go_upto_region 5 with (fail)
    obtain ⟨W3, hW3⟩ : ∃ X, V2.alloc (.cells #[.int .u32 no, .slice xa l.length xc] 26) = X := ⟨_, rfl⟩
    obtain ⟨pb, hpb⟩ : ∃ X, V2.heap.size = X := ⟨_, rfl⟩
    rw [hW3] at rb2 hA3 hE3 hty3 hO3 hel3 hB3
    try rw [hW3]
    rw [hpb] at rb2
    try rw [hpb]
    have x0 := held_cell rb2 0 _ rfl
    have x1 := held_cell rb2 1 _ rfl
    clear nw hA2 hA3 hEx hty rb2 hch2 kT hcut hA hO hel hW3 hpb
    by_cases hee : ee = 0
    case neg =>
      have hne : (ee == 0) = false := by simp [hee]
      have hac2 := hid (hmiss.out hee)
      clear hhit hmiss
      replace hee := hid hee
      go_wp2_with fail
      go_roundw
      case rel => exact ⟨p + 1, f2, m, pre, oa, oc, by simp, rfl, hp1.out, hf1.out, hpn1.out, hpm, hac2, hO3.out, hel3, hB3.out⟩
      case measure => simp [intOf]; have := hms.out; have := hp1.out; omega
    subst hee
    have hac2 := hid (hhit.out xa xc rfl)
    clear hhit hmiss
    have nC := alloc_new W3 (.cells #[.int .i64 (p : Int), .int .u32 no, .slice xa l.length xc] 75)
    have hE6 : Els (W3.alloc (.cells #[.int .i64 (p : Int), .int .u32 no, .slice xa l.length xc] 75)) 3 (some ⟨W3.heap.size, 0, none⟩) 1 1 [cel38 (((p : Int), no, xa, xc, l) : E38)] := els_blk (m := 3) nC.2.2 rfl
    have hO4 := hid (hO3.out.below nC.2.1)
    have hel4 := hid (fun x hx => el38_aft (hel3.out x hx) nC.2.1)
    have hx4 := hid (show el38 (((p : Int), no, xa, xc, l) : E38) _ from el38_aft (x := (((p : Int), no, xa, xc, l) : E38)) ⟨hE3.out, hty3.out⟩ nC.2.1)
    have hB4 := hid (bthen hB3.out nC.2.1)
    obtain ⟨W4, hW4⟩ : ∃ X, W3.alloc (.cells #[.int .i64 (p : Int), .int .u32 no, .slice xa l.length xc] 75) = X := ⟨_, rfl⟩
    rw [hW4] at hE6 hO4 hel4 hx4 hB4
    obtain ⟨pc, hpc⟩ : ∃ X, W3.heap.size = X := ⟨_, rfl⟩
    rw [hpc] at hE6
    replace hE6 := hid hE6
    have s4 := hB4.out.size
    clear nC hE3 hty3 hO3 hel3 hB3
    go_wp2_with (first | (at_builtin; refine wpList_appE rfl (.tmp 23) (.tmp 27) 39 rfl w.heap.size 75 3 40 rfndO (by decide) (.slice oa m oc) m (vals38 pre).flatten rfl hO4.out (some ⟨pc, 0, none⟩) 1 1 [cel38 (((p : Int), no, xa, xc, l) : E38)] rfl hE6.out (vals_one _) (by unfold maxLen; omega) (by omega) s4 ?_))
    intro a9 c9 W9 hO9 hG hN
    have hB9 := hid (hB4.out.grown hG s4 (fun g e => (hO4.out.lt g e).1))
    have hel9 := hid (show ∀ x ∈ pre ++ [(((p : Int), no, xa, xc, l) : E38)], el38 x W9 from fun x hx => by rcases List.mem_append.1 hx with hx | hx; exact el38_grown (hel4.out x hx) hO4.out hG (by decide); rw [List.mem_singleton] at hx; subst hx; exact el38_grown hx4.out hO4.out hG (by decide))
    first | rw [← vals_snoc] at hO9 | rw [← vals_snoc2] at hO9
    replace hO9 := hid hO9
    have hl9 := hid (show (pre ++ [(((p : Int), no, xa, xc, l) : E38)]).length = m + 1 by rw [List.length_append, hpm.out]; rfl)
    clear hG hN hE6 hO4 hel4 hx4 hB4
    go_wp2_with fail
    go_roundw
    case rel => exact ⟨q, f2, m + 1, pre ++ [(((p : Int), no, xa, xc, l) : E38)], a9, c9, by simp, rfl, hq1.out, hf2.out, hpn2.out, hl9, hac2, hO9.out, hel9, hB9.out⟩
    case measure => simp [intOf]; have := hq.out; have := hp1.out; omega

end Go.Proofs.Ytlfbhfmchdbnoaa
