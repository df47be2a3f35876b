/- Package shape: a desk's puts; Put. -/
import Derived.Test.YtfihdgichmocmaaKS3
import Derived.Deep.DeepCutAuto
namespace Go.Proofs.Ytfihdgichmocmaa
open Go.ChangeShapes Go.WideShapes Go.ChangeAt Go.RowKit
set_option linter.unusedVariables false
set_option linter.unusedSimpArgs false

theorem Wr.lt {B base : Nat} {w : World} {zs : List Int} (h : Wr B base w zs) : B < w.heap.size := by
  obtain ⟨a, cap, h1, h2⟩ := h
  exact held_lt h1
theorem Wr.after {B base : Nat} {w w2 : World} {zs : List Int} (h : Wr B base w zs) (hA : After w w2) : Wr B base w2 zs := by
  obtain ⟨a, cap, h1, h2⟩ := h
  exact ⟨a, cap, held_after hA h1, h2.below hA⟩
/-- What stands beside a writer stays. -/
theorem Wr.beside {B base D : Nat} {w w2 : World} {zs : List Int} {c : Array Value} {T : TypeId} {f : Nat × Nat} (h : Wr B base w zs) (hK : Owp B 1 w w2) (hD : w.heap[D]? = some (.cells c T f)) (hne : D ≠ B) (hT : T ≠ 5) : w2.heap[D]? = some (.cells c T f) := by
  obtain ⟨a, cap, h1, h2⟩ := h
  rw [hK.block D (held_lt hD) hne (by rw [wown_at h1 (j := 1) rfl]; exact own_ne h2 hD hT)]
  exact hD
theorem fit_wr {n : Int} {lo hi x : Int} (h : rightS n false lo hi = true) (h1 : lo ≤ x) (h2 : x ≤ hi) : 0 ≤ x ∧ x ≤ 9223372036854775807 ∧ fitU n x = true ∧ wrapU x = x := by
  have a := right_fit h h1 h2
  have b := right_sz h
  have c := hiS_bd (n := n) false b.1 b.2.1
  exact ⟨a.1, by omega, a.2.1, a.2.2⟩
set_option maxRecDepth 100000 in
set_option maxHeartbeats 2000000 in
theorem dput_Plain (B base B0 : Nat) (zs : List Int) (n lo hi x : Int) (hR : rightS n false lo hi = true) (hx1 : lo ≤ x) (hx2 : x ≤ hi) (hx3 : -9223372036854775808 ≤ x) (w : World) (hW : Wr B base w zs) (hl : zs.length ≤ 1000000) (h1 : B0 ≤ B) (h2 : B0 ≤ base) (h3 : base ≤ w.heap.size) :
    Calls Try.prog 58 #[.agg #[.pointer none, .pointer (some ⟨B, 0, none⟩)], .int .i64 n, .int .i64 x] w fun e w' => e = .returned (.tuple #[]) ∧ Wr B base w' (zs ++ bytesL (wrapU x) n.toNat) ∧ Below B0 w w' ∧ Owp B 1 w w' := by
  have hsz := Wr.lt hW
  have hWa := hid (Wr.after (w2 := w.alloc (.cells #[.pointer none, .pointer (some ⟨B, 0, none⟩)] 70)) hW (alloc_new _ _).2.1)
  obtain ⟨x0, x9, hf, hw⟩ := fit_wr hR hx1 hx2
  rw [hw]
  have ew : IntKind.u64.wrap x = x := by rw [wrapU_is]; exact hw
  clear hR hw
  replace hf := hid hf
  replace hW := hid hW
  go_enter Try.func58, Try.ntmps58
  go_wp2_with fail
  refine (wu_any B base B0 zs n x x0 (by omega) _ hWa.out hl h1 h2 (by rw [World.size_alloc]; omega)).mono ?_
  rintro e V ⟨rfl, hV, hB, hK⟩
  rw [hf.out] at hV
  replace hV := hid hV
  replace hB := hid hB
  replace hK := hid hK
  go_wp2_with fail
  go_end0
  exact ⟨rfl, hV.out, Below.trans ((Below.refl _ _).alloc (Nat.le_trans h2 h3) _) hB.out, (Owp.after hsz (alloc_new _ _).2.1).trans hK.out⟩
set_option maxRecDepth 100000 in
set_option maxHeartbeats 2000000 in
theorem dput_Signed (B base B0 : Nat) (zs : List Int) (n lo hi x : Int) (hR : rightS n true lo hi = true) (hx1 : lo ≤ x) (hx2 : x ≤ hi) (hx3 : -9223372036854775808 ≤ x) (w : World) (hW : Wr B base w zs) (hl : zs.length ≤ 1000000) (h1 : B0 ≤ B) (h2 : B0 ≤ base) (h3 : base ≤ w.heap.size) :
    Calls Try.prog 56 #[.agg #[.pointer none, .pointer (some ⟨B, 0, none⟩)], .int .i64 n, .int .i64 x] w fun e w' => e = .returned (.tuple #[]) ∧ Wr B base w' (zs ++ bytesL (wrapU x) n.toNat) ∧ Below B0 w w' ∧ Owp B 1 w w' := by
  have hsz := Wr.lt hW
  have hWa := hid (Wr.after (w2 := w.alloc (.cells #[.pointer none, .pointer (some ⟨B, 0, none⟩)] 70)) hW (alloc_new _ _).2.1)
  have hf : fitI n x = true := right_fit hR hx1 hx2
  have hs := right_sz hR
  have hb := hiS_bd (n := n) true hs.1 hs.2.1
  have x9 : x ≤ 9223372036854775807 := by omega
  clear hR hs hb
  replace hf := hid hf
  replace hW := hid hW
  go_enter Try.func56, Try.ntmps56
  go_wp2_with fail
  refine (wi_any B base B0 zs n x hx3 x9 _ hWa.out hl h1 h2 (by rw [World.size_alloc]; omega)).mono ?_
  rintro e V ⟨rfl, hV, hB, hK⟩
  rw [hf.out] at hV
  replace hV := hid hV
  replace hB := hid hB
  replace hK := hid hK
  go_wp2_with fail
  go_end0
  exact ⟨rfl, hV.out, Below.trans ((Below.refl _ _).alloc (Nat.le_trans h2 h3) _) hB.out, (Owp.after hsz (alloc_new _ _).2.1).trans hK.out⟩
/-- The bytes of numbers by a shape, or why there are none. -/
def putF (f0 : Nat → Int) (f1 : Nat → Bool) (f2 f3 : Nat → Int) (len : Nat) (zs : List Int) : List Int × Int :=
  if allR f0 f1 f2 f3 len = true ∧ zs.length = len then (if inV f2 f3 (fun k => zs.getD k 0) len = true then (putB f0 (fun k => zs.getD k 0) len, 0) else ([], 5)) else ([], 1)
def BsOk (w : World) (r : List Int × Int) (e : Ending) (w' : World) : Prop := ∃ a cap, e = .returned (.tuple #[.slice a r.1.length cap, .int .i64 r.2]) ∧ Own .u8 5 w' w.heap.size (.slice a r.1.length cap) r.1 ∧ After w w'
theorem putB_le {f0 : Nat → Int} {f1 : Nat → Bool} {f2 f3 g : Nat → Int} {len : Nat} (h : allR f0 f1 f2 f3 len = true) (hl : len ≤ 1000) (k : Nat) (hk : k ≤ len) : (putB f0 g k).length ≤ 8000 := by
  have h1 := putB_len (f0 := f0) (g := g) k (fun i hi => by have := right_sz (allR_at h (show i < len by omega)); omega)
  have h2 := sumW_bd h k hk
  omega
theorem BsOk.no {w w' : World} {n : Int} (h : After w w') : BsOk w ([], n) (.returned (.tuple #[.slice none 0 0, .int .i64 n])) w' := ⟨none, 0, rfl, Own.nil _ _ _ _, h⟩
set_option maxRecDepth 100000 in
set_option maxHeartbeats 4000000 in
theorem sput_any (a : Option Addr) (len cap : Nat) (f0 : Nat → Int) (f1 : Nat → Bool) (f2 f3 : Nat → Int) (va : Option Addr) (vl vc : Nat) (zs : List Int) (w : World) (hF : Flds w a len cap f0 f1 f2 f3) (hS : Sl .i64 w va vl vc zs) (hz : ∀ x ∈ zs, -9223372036854775808 ≤ x ∧ x ≤ 9223372036854775807) (h200 : len ≤ 1000) : Calls Try.prog 22 #[.slice a len cap, .slice va vl vc] w (BsOk w (putF f0 f1 f2 f3 len zs)) := by
  have kr := fun v : World => fun h : Flds v a len cap f0 f1 f2 f3 => rightl_any a len cap f0 f1 f2 f3 v h
  have ezl := hS.1
  have cm := hS.2.2.1
  unfold maxLen at cm
  cases hal : allR f0 f1 f2 f3 len
  · have hV : putF f0 f1 f2 f3 len zs = ([], 1) := by unfold putF; rw [if_neg (fun h => by rw [hal] at h; exact absurd h.1 (by simp))]
    rw [hV]
    rw [hal] at kr
    clear hV
    replace kr := hid kr
    replace hF := hid hF
    replace hS := hid hS
    clear hal hz ezl
    go_enter Try.func22, Try.ntmps22
    go_wp2_with fail
    refine (kr.out _ hF.out).mono ?_
    rintro e V ⟨rfl, hst⟩
    replace hst := hid hst
    go_wp2_with fail
    go_ret2
    exact BsOk.no hst.out
  by_cases hvl : vl = len
  case neg =>
    have hV : putF f0 f1 f2 f3 len zs = ([], 1) := by unfold putF; rw [if_neg (fun h => hvl (by rw [← ezl]; exact h.2))]
    rw [hV]
    rw [hal] at kr
    clear hV
    replace kr := hid kr
    replace hF := hid hF
    have nv : ¬ (vl : Int) = len := by omega
    replace hS := hid hS
    clear hal hz ezl
    go_enter Try.func22, Try.ntmps22
    go_wp2_with fail
    refine (kr.out _ hF.out).mono ?_
    rintro e V ⟨rfl, hst⟩
    replace hst := hid hst
    go_wp2_with fail
    go_ret2
    exact BsOk.no hst.out
  subst hvl
  have hG : putF f0 f1 f2 f3 vl zs = (if inV f2 f3 (fun k => zs.getD k 0) vl = true then (putB f0 (fun k => zs.getD k 0) vl, 0) else ([], 5)) := by unfold putF; rw [if_pos ⟨hal, ezl⟩]
  obtain ⟨r, hr⟩ : ∃ r, putF f0 f1 f2 f3 vl zs = r := ⟨_, rfl⟩
  rw [hr] at hG
  rw [hr]
  replace hG := hid hG
  clear hr
  have hgb : ∀ k, -9223372036854775808 ≤ zs.getD k 0 ∧ zs.getD k 0 ≤ 9223372036854775807 := by
    intro k
    rcases Nat.lt_or_ge k zs.length with c | c
    · have e : zs.getD k 0 = zs[k] := by simp [c]
      rw [e]; exact hz _ (List.getElem_mem c)
    · have e : zs.getD k 0 = 0 := by simp [c]
      rw [e]; omega
  obtain ⟨g, hg⟩ : ∃ g : Nat → Int, (fun k => zs.getD k 0) = g := ⟨_, rfl⟩
  have hg2 : ∀ k, zs.getD k 0 = g k := fun k => congrFun hg k
  rw [hg] at hG
  replace hg := hid hg
  replace hg2 := hid hg2
  replace hgb := hid (fun k : Nat => (show -9223372036854775808 ≤ g k ∧ g k ≤ 9223372036854775807 from hg2.out k ▸ hgb k))
  rw [hal] at kr
  replace hal := hid hal
  replace kr := hid kr
  replace hF := hid hF
  replace hS := hid hS
  clear hz hg
  go_enter Try.func22, Try.ntmps22
  go_wp2_with fail
  refine (kr.out _ hF.out).mono ?_
  rintro e V ⟨rfl, hst⟩
  have hsz := hst.size
  replace hst := hid hst
  replace ezl := hid ezl
  go_wp2_with fail
  refine (make_any _).mono ?_
  rintro e V0 ⟨rfl, hw0, hA0⟩
  generalize hBe : V.heap.size = B at *
  have hsB : w.heap.size ≤ B := hsz
  have W0 : Wr B w.heap.size V0 [] := ⟨none, 0, hw0, Own.nil _ _ _ _⟩
  have szB : B < V0.heap.size := held_lt hw0
  have hB0 := hid (Below.trans hst.out (hA0.mono (show w.heap.size ≤ V.heap.size by omega)))
  replace hBe := hid hBe
  clear hw0 hA0 hst
  have nD := alloc_new V0 (.cells #[.pointer none, .pointer (some ⟨B, 0, none⟩)] 70)
  have W1 := W0.after nD.2.1
  have rD := nD.2.2
  have hB1 := hid (balloc hB0.out (Nat.le_refl _) (.cells #[.pointer none, .pointer (some ⟨B, 0, none⟩)] 70))
  clear hB0 W0
  have dD : V0.heap.size ≠ B := by omega
  have hD0 : w.heap.size ≤ V0.heap.size := by omega
  replace nD := hid nD
  go_upto_region 4 with (fail)
  generalize V0.alloc (.cells #[.pointer none, .pointer (some ⟨B, 0, none⟩)] 70) = V1 at *
  generalize V0.heap.size = D at *
  clear nD szB
  replace W1 := hid W1
  replace rD := hid rD
  go_wp2_with fail
  go_loopw [23] (fun i wr => ∃ k : Nat, k ≤ vl ∧ i = .int .i64 k ∧ Go.RowKit.Hid (inV f2 f3 g k = true) ∧ wr.heap[D]? = some (.cells #[.pointer none, .pointer (some ⟨B, 0, none⟩)] 70 (0, 0)) ∧ Wr B w.heap.size wr (putB f0 g k) ∧ Below w.heap.size w wr) (fun i _ => vl - (intOf i).toNat)
  case atStart => exact ⟨0, by omega, rfl, hid rfl, rD.out, W1.out, hB1.out⟩
  case round =>
    clear rD W1 hB1
    obtain ⟨k, hk, rfl, hd, rD, hW, hB⟩ := hrel
    have hpl := putB_le (g := g) hal.out h200 k hk
    have hws := hB.size
    by_cases hlt : (k : Int) < vl
    case neg =>
      obtain rfl : k = vl := by omega
      have d1 := held_cell rD 1 _ rfl
      replace hG := hid (hG.out.trans (if_pos hd.out))
      obtain ⟨L, hL⟩ : ∃ L, putB f0 g k = L := ⟨_, rfl⟩
      rw [hL] at hG hW hpl
      replace hB := hid hB
      replace hW := hid hW
      replace rD := hid rD
      go_wp2_with fail
      refine (wbytes_good B w.heap.size L _ (by omega) hW.out).mono ?_
      rintro e V2 ⟨ra, rc, rfl, hO, hA⟩
      replace hO := hid hO
      replace hA := hid hA
      go_wp2_with fail
      go_ret2
      rw [hG.out]
      exact ⟨ra, rc, rfl, hO.out.base hws, Below.trans hB.out (hA.out.mono hws)⟩
    have hlt2 : k < vl := by omega
    obtain ⟨b, off, rfl, l0, l1, l2, l3⟩ := (hF.out.below hB).2.2.2 k hlt2
    obtain ⟨bv, ov, rfl, lv⟩ := ((hS.out).below hB).2.2.2.2 k (by rw [ezl.out]; exact hlt2)
    rw [hg2.out k] at lv
    have kz : (0 : Int) ≤ k := by omega
    have hri := allR_at hal.out hlt2
    have hgk := hgb.out k
    have hy := fun (h1 : f2 k ≤ g k) (h2 : g k ≤ f3 k) => inV_yes hd.out h1 h2
    have hn := fun (h : ¬ (f2 k ≤ g k ∧ g k ≤ f3 k)) => inV_no h vl hlt2
    have hp : putB f0 g (k + 1) = putB f0 g k ++ bytesL (wrapU (g k)) (f0 k).toNat := rfl
    generalize hx0 : f0 k = x0 at *
    generalize hx1 : f1 k = x1 at *
    generalize hx2 : f2 k = x2 at *
    generalize hx3 : f3 k = x3 at *
    generalize hgg : g k = y at *
    replace hri := hid hri
    replace hgk := hid hgk
    replace hy := hid hy
    replace hn := hid hn
    replace hp := hid hp
    clear hx0 hx1 hx2 hx3 hgg
    replace hW := hid hW
    have kw := hid (fun W : World => within_any x0 x1 x2 x3 y W)
    replace hd := hid hd.out
    go_upto_region 6 with (fail)
    apply wp_region_seg0 (w := wr) (S := [.q [], .q [], .q [], .al 5, .q [], .st 3 []]) (E := [.q0 _, .q0 _, .q0 _, .al ((fun p => .pointer (some ⟨p, 0, none⟩)), _) 5, .q0 _, .s0 3 (.cells _ _)]) rfl (by kernel_rfl) rfl rfl
    intro th hge hne
    refine Seg.step _ rfl (Or.inl ⟨by rfl, fun U hU => vp_quiet (by (go_simp <;> exact rfl))⟩) ⟨_, by (simp only [Ent.val]; go_simp <;> exact rfl), ?_⟩
    refine Seg.step _ rfl (Or.inl ⟨by rfl, fun U hU => vp_quiet (by (go_simp <;> exact rfl))⟩) ⟨_, by (simp only [Ent.val]; go_simp <;> exact rfl), ?_⟩
    refine Seg.step _ rfl (Or.inl ⟨by rfl, fun U hU => vp_quiet (by (have h0 := hU.1.cellB l0; have h1 := hU.1.cellB l1; have h2 := hU.1.cellB l2; have h3 := hU.1.cellB l3; go_simp <;> exact rfl))⟩) ⟨_, by (simp only [Ent.val]; go_simp <;> exact rfl), ?_⟩
    refine Seg.step _ rfl ⟨by rfl, fun U hU => ?_⟩ ?_
    · go_simp; exact vp_alloc rfl rfl rfl
    refine ⟨_, by (simp only [Ent.val]; go_simp <;> exact rfl), ?_⟩
    refine Seg.step _ rfl (Or.inl ⟨by rfl, fun U hU => vp_quiet (by (go_simp <;> exact rfl))⟩) ⟨_, by (simp only [Ent.val]; go_simp <;> exact rfl), ?_⟩
    refine Seg.step _ rfl ⟨by rfl, fun U z k hz hU hc => ?_⟩ ?_
    · have hz2 := Option.some.inj hz
      cases hz2; clear hz
      exact vp_store_agg _ _ _ rfl hc rfl rfl (by kernel_rfl) rfl (by rfl)
    refine ⟨_, by (simp only [Ent.val]; go_simp <;> exact rfl), ?_⟩
    refine Seg.stop (fun U1 hU hk => ?_)
    have nb3 := hge 3 _ _ rfl
    have rb3 := (hk 3 _ 5 rfl trivial).1.1 trivial _ (Nat.zero_le _) rfl
    clear hk hge hne
    generalize th (0 + 3) = p6_3 at *
    simp only [Ent.obj] at rb3
    have df_D_p6_3 : D ≠ p6_3 := by have := held_lt rD; omega
    replace rD := held_after hU rD
    have r_p6_3 := rb3
    clear rb3
    have n_p6_3 := nb3
    clear nb3
    have sz1 := hU.size
    replace hB := bthen hB hU
    have hB6 := hB
    have hA6 := hU
    have lv6 := hU.cellB lv
    clear hU lv l0 l1 l2 l3
    go_upto_region 7 with (fail)
    apply wp_region_seg (w := U1) (S := [.q [], .q [], .q [], .q [], .q [], .q [], .q []]) (E := [.q0 _, .q0 _, .q0 _, .q0 _, .q0 _, .c0 _, .q0 _]) (by kernel_rfl) rfl (by kernel_rfl) rfl rfl
    intro th hge hne
    refine Seg.step _ rfl (Or.inl ⟨by rfl, fun U hU => vp_quiet (by (have h0 := held_cell (held_after hU.1 r_p6_3) 0 _ rfl; have h1 := held_cell (held_after hU.1 r_p6_3) 1 _ rfl; have h2 := held_cell (held_after hU.1 r_p6_3) 2 _ rfl; have h3 := held_cell (held_after hU.1 r_p6_3) 3 _ rfl; go_simp <;> exact rfl))⟩) ⟨_, by (simp only [Ent.val]; go_simp <;> exact rfl), ?_⟩
    refine Seg.step _ rfl (Or.inl ⟨by rfl, fun U hU => vp_quiet (by (go_simp <;> exact rfl))⟩) ⟨_, by (simp only [Ent.val]; go_simp <;> exact rfl), ?_⟩
    refine Seg.step _ rfl (Or.inl ⟨by rfl, fun U hU => vp_quiet (by (go_simp <;> exact rfl))⟩) ⟨_, by (simp only [Ent.val]; go_simp <;> exact rfl), ?_⟩
    refine Seg.step _ rfl (Or.inl ⟨by rfl, fun U hU => vp_quiet (by (go_simp <;> exact rfl))⟩) ⟨_, by (simp only [Ent.val]; go_simp <;> exact rfl), ?_⟩
    refine Seg.step _ rfl (Or.inl ⟨by rfl, fun U hU => vp_quiet (by (have hv := hU.1.cellB lv6; go_simp <;> exact rfl))⟩) ⟨_, by (simp only [Ent.val]; go_simp <;> exact rfl), ?_⟩
    refine Seg.step _ rfl (Or.inl ⟨by rfl, fun U hU => ?_⟩) ?_
    · go_simp
      refine vp_call (kw.out _)
    refine ⟨_, by (simp only [Ent.val]; go_simp <;> exact rfl), ?_⟩
    refine Seg.step _ rfl (Or.inl ⟨by rfl, fun U hU => vp_quiet (by (go_simp <;> exact rfl))⟩) ⟨_, by (simp only [Ent.val]; go_simp <;> exact rfl), ?_⟩
    refine Seg.stop (fun U2 hU hk => ?_)
    clear hk hge hne
    replace rD := held_after hU rD
    replace r_p6_3 := held_after hU r_p6_3
    have sz2 := hU.size
    replace hB := bthen hB hU
    have hA7 := bthen hA6 hU
    have lv7 := hU.cellB lv6
    clear hU lv6 hA6
    by_cases hwi : x2 ≤ y ∧ y ≤ x3
    case neg =>
      have hwb : withB x2 x3 y = false := by
        unfold withB
        by_cases c : x2 ≤ y
        · have c2 : ¬ y ≤ x3 := fun h => hwi ⟨c, h⟩
          simp [c2]
        · simp [c]
      rw [hwb]
      replace hG := hid (hG.out.trans (if_neg (by rw [hn.out hwi]; simp)))
      replace hB := hid hB
      clear rD r_p6_3 hA7
      go_wp2_with fail
      go_ret2
      rw [hG.out]
      exact BsOk.no hB.out
    have hwb : withB x2 x3 y = true := by unfold withB; simp [hwi.1, hwi.2]
    rw [hwb]
    replace hd := hid (hy.out hwi.1 hwi.2)
    have hW7 := hid (Wr.after hW.out hA7)
    clear hA7 hn hy hwb hW
    cases x1
    · have kd := hid (fun (U : World) (h : Wr B w.heap.size U (putB f0 g k)) (h3 : w.heap.size ≤ U.heap.size) => dput_Plain B w.heap.size w.heap.size (putB f0 g k) x0 x2 x3 y hri.out hwi.1 hwi.2 hgk.out.1 U h (by omega) hsB (Nat.le_refl _) h3)
      go_upto_region 9 with (fail)
      apply wp_region_part (w := U2) (S := [.q [], .q [], .q [], .q [], .q [], .q [], .q [], .q [], .q [], .q [], .q []]) (E := [.q0 _, .q0 _, .c0 _, .q0 _, .q0 _, .q0 _, .q0 _, .q0 _, .q0 _, .q0 _, .q0 _]) 11 1 (by kernel_rfl) rfl (by kernel_rfl) rfl rfl rfl
      intro th hge hne
      refine Seg.step _ rfl (Or.inl ⟨by rfl, fun U hU => vp_quiet (by (go_simp <;> exact rfl))⟩) ⟨_, by (simp only [Ent.val]; go_simp <;> exact rfl), ?_⟩
      refine Seg.step _ rfl (Or.inl ⟨by rfl, fun U hU => vp_quiet (by (have h0 := held_cell (held_after hU.1 r_p6_3) 1 _ rfl; go_simp <;> exact rfl))⟩) ⟨_, by (simp only [Ent.val]; go_simp <;> exact rfl), ?_⟩
      refine Seg.step _ rfl (Or.inl ⟨by rfl, fun U hU => ?_⟩) ?_
      · go_simp
        refine vp_call (way_false _)
      refine ⟨_, by (simp only [Ent.val]; go_simp <;> exact rfl), ?_⟩
      refine Seg.step _ rfl (Or.inl ⟨by rfl, fun U hU => vp_quiet (by (go_simp <;> exact rfl))⟩) ⟨_, by (simp only [Ent.val]; go_simp <;> exact rfl), ?_⟩
      refine Seg.step _ rfl (Or.inl ⟨by rfl, fun U hU => vp_quiet (by (have h0 := held_cell (held_after hU.1 rD) 0 _ rfl; have h1 := held_cell (held_after hU.1 rD) 1 _ rfl; go_simp <;> exact rfl))⟩) ⟨_, by (simp only [Ent.val]; go_simp <;> exact rfl), ?_⟩
      refine Seg.step _ rfl (Or.inl ⟨by rfl, fun U hU => vp_quiet (by (go_simp <;> exact rfl))⟩) ⟨_, by (simp only [Ent.val]; go_simp <;> exact rfl), ?_⟩
      refine Seg.step _ rfl (Or.inl ⟨by rfl, fun U hU => vp_quiet (by (have h0 := held_cell (held_after hU.1 r_p6_3) 0 _ rfl; go_simp <;> exact rfl))⟩) ⟨_, by (simp only [Ent.val]; go_simp <;> exact rfl), ?_⟩
      refine Seg.step _ rfl (Or.inl ⟨by rfl, fun U hU => vp_quiet (by (go_simp <;> exact rfl))⟩) ⟨_, by (simp only [Ent.val]; go_simp <;> exact rfl), ?_⟩
      refine Seg.step _ rfl (Or.inl ⟨by rfl, fun U hU => vp_quiet (by (go_simp <;> exact rfl))⟩) ⟨_, by (simp only [Ent.val]; go_simp <;> exact rfl), ?_⟩
      refine Seg.step _ rfl (Or.inl ⟨by rfl, fun U hU => vp_quiet (by (go_simp <;> exact rfl))⟩) ⟨_, by (simp only [Ent.val]; go_simp <;> exact rfl), ?_⟩
      refine Seg.step _ rfl (Or.inl ⟨by rfl, fun U hU => vp_quiet (by (have hv := hU.1.cellB lv7; go_simp <;> exact rfl))⟩) ⟨_, by (simp only [Ent.val]; go_simp <;> exact rfl), ?_⟩
      refine Seg.stop (fun U3 hU hk => ?_)
      clear hk hge hne
      replace rD := held_after hU rD
      replace r_p6_3 := held_after hU r_p6_3
      have sz3 := hU.size
      replace hB := bthen hB hU
      have hW9 := Wr.after hW7.out hU
      clear hU lv7
      replace hW9 := hid hW9
      have hB9 := hid hB
      have rD9 := hid rD
      clear hB rD
      refine Seg.only (m := 11) (k := 0) rfl (by kernel_rfl) (by rfl) (fun K hK => ?_)
      go_simp
      refine (kd.out _ hW9.out (hB9.out.size)).mono ?_
      rintro e VV ⟨rfl, hV, hBl, hK2⟩
      have rD2 := Wr.beside hW9.out hK2 rD9.out dD (by decide)
      have hBn := hid (Below.trans hB9.out hBl)
      replace hV := hid (hp.out ▸ hV)
      replace rD2 := hid rD2
      go_simp
      refine hK _ _ (Seg.finish ?_ _)
      clear hK
      go_wp2_with fail
      go_roundw
      case rel => exact ⟨k + 1, by omega, by simp, hd, rD2.out, hV.out, hBn.out⟩
      case measure => simp [intOf]; omega
    · have kd := hid (fun (U : World) (h : Wr B w.heap.size U (putB f0 g k)) (h3 : w.heap.size ≤ U.heap.size) => dput_Signed B w.heap.size w.heap.size (putB f0 g k) x0 x2 x3 y hri.out hwi.1 hwi.2 hgk.out.1 U h (by omega) hsB (Nat.le_refl _) h3)
      go_upto_region 9 with (fail)
      apply wp_region_part (w := U2) (S := [.q [], .q [], .q [], .q [], .q [], .q [], .q [], .q [], .q [], .q [], .q []]) (E := [.q0 _, .q0 _, .c0 _, .q0 _, .q0 _, .q0 _, .q0 _, .q0 _, .q0 _, .q0 _, .q0 _]) 11 1 (by kernel_rfl) rfl (by kernel_rfl) rfl rfl rfl
      intro th hge hne
      refine Seg.step _ rfl (Or.inl ⟨by rfl, fun U hU => vp_quiet (by (go_simp <;> exact rfl))⟩) ⟨_, by (simp only [Ent.val]; go_simp <;> exact rfl), ?_⟩
      refine Seg.step _ rfl (Or.inl ⟨by rfl, fun U hU => vp_quiet (by (have h0 := held_cell (held_after hU.1 r_p6_3) 1 _ rfl; go_simp <;> exact rfl))⟩) ⟨_, by (simp only [Ent.val]; go_simp <;> exact rfl), ?_⟩
      refine Seg.step _ rfl (Or.inl ⟨by rfl, fun U hU => ?_⟩) ?_
      · go_simp
        refine vp_call (way_true _)
      refine ⟨_, by (simp only [Ent.val]; go_simp <;> exact rfl), ?_⟩
      refine Seg.step _ rfl (Or.inl ⟨by rfl, fun U hU => vp_quiet (by (go_simp <;> exact rfl))⟩) ⟨_, by (simp only [Ent.val]; go_simp <;> exact rfl), ?_⟩
      refine Seg.step _ rfl (Or.inl ⟨by rfl, fun U hU => vp_quiet (by (have h0 := held_cell (held_after hU.1 rD) 0 _ rfl; have h1 := held_cell (held_after hU.1 rD) 1 _ rfl; go_simp <;> exact rfl))⟩) ⟨_, by (simp only [Ent.val]; go_simp <;> exact rfl), ?_⟩
      refine Seg.step _ rfl (Or.inl ⟨by rfl, fun U hU => vp_quiet (by (go_simp <;> exact rfl))⟩) ⟨_, by (simp only [Ent.val]; go_simp <;> exact rfl), ?_⟩
      refine Seg.step _ rfl (Or.inl ⟨by rfl, fun U hU => vp_quiet (by (have h0 := held_cell (held_after hU.1 r_p6_3) 0 _ rfl; go_simp <;> exact rfl))⟩) ⟨_, by (simp only [Ent.val]; go_simp <;> exact rfl), ?_⟩
      refine Seg.step _ rfl (Or.inl ⟨by rfl, fun U hU => vp_quiet (by (go_simp <;> exact rfl))⟩) ⟨_, by (simp only [Ent.val]; go_simp <;> exact rfl), ?_⟩
      refine Seg.step _ rfl (Or.inl ⟨by rfl, fun U hU => vp_quiet (by (go_simp <;> exact rfl))⟩) ⟨_, by (simp only [Ent.val]; go_simp <;> exact rfl), ?_⟩
      refine Seg.step _ rfl (Or.inl ⟨by rfl, fun U hU => vp_quiet (by (go_simp <;> exact rfl))⟩) ⟨_, by (simp only [Ent.val]; go_simp <;> exact rfl), ?_⟩
      refine Seg.step _ rfl (Or.inl ⟨by rfl, fun U hU => vp_quiet (by (have hv := hU.1.cellB lv7; go_simp <;> exact rfl))⟩) ⟨_, by (simp only [Ent.val]; go_simp <;> exact rfl), ?_⟩
      refine Seg.stop (fun U3 hU hk => ?_)
      clear hk hge hne
      replace rD := held_after hU rD
      replace r_p6_3 := held_after hU r_p6_3
      have sz3 := hU.size
      replace hB := bthen hB hU
      have hW9 := Wr.after hW7.out hU
      clear hU lv7
      replace hW9 := hid hW9
      have hB9 := hid hB
      have rD9 := hid rD
      clear hB rD
      refine Seg.only (m := 11) (k := 0) rfl (by kernel_rfl) (by rfl) (fun K hK => ?_)
      go_simp
      refine (kd.out _ hW9.out (hB9.out.size)).mono ?_
      rintro e VV ⟨rfl, hV, hBl, hK2⟩
      have rD2 := Wr.beside hW9.out hK2 rD9.out dD (by decide)
      have hBn := hid (Below.trans hB9.out hBl)
      replace hV := hid (hp.out ▸ hV)
      replace rD2 := hid rD2
      go_simp
      refine hK _ _ (Seg.finish ?_ _)
      clear hK
      go_wp2_with fail
      go_roundw
      case rel => exact ⟨k + 1, by omega, by simp, hd, rD2.out, hV.out, hBn.out⟩
      case measure => simp [intOf]; omega

end Go.Proofs.Ytfihdgichmocmaa
