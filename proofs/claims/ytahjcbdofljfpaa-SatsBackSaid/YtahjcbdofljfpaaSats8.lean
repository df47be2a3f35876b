/- Package sats: of, taken. -/
import Derived.Test.YtahjcbdofljfpaaSatsM
import Derived.Test.YtahjcbdofljfpaaPre
import Derived.Test.YtahjcbdofljfpaaRange3
import Derived.Test.YtahjcbdofljfpaaKA
import Derived.Test.YtahjcbdofljfpaaKB
import Derived.Deep.DeepCutAuto
namespace Go.Proofs.Ytahjcbdofljfpaa
open Go.ChangeShapes Go.WideShapes Go.ChangeAt Go.RowKit
set_option linter.unusedVariables false
set_option linter.unusedSimpArgs false

set_option maxRecDepth 100000 in
set_option maxHeartbeats 4000000 in
theorem of_any (ba : Option Addr) (bc : Nat) (x0 x1 x2 x3 x4 x5 x6 : Int) (w : World) (hS : Sl .i64 w ba 7 bc [x0, x1, x2, x3, x4, x5, x6]) : Calls Try.prog 38 #[.slice ba 7 bc] w fun e w' => e = .returned (.agg #[.int .i64 x0, .int .i64 x1, .int .i64 x2, .int .i64 x3, .int .i64 x4, .int .i64 x5, .int .i64 x6]) ∧ After w w' := by
  have hR := hid hS.2.2.2.2
  obtain ⟨qb, qo, rfl, v0⟩ := hR.out 0 (by simp)
  have v1 : w.cell? ⟨qb, qo + 1, none⟩ = some (.int .i64 x1) := by obtain ⟨b9, o9, e9, v9⟩ := hR.out 1 (by simp); cases e9; exact v9
  have v2 : w.cell? ⟨qb, qo + 2, none⟩ = some (.int .i64 x2) := by obtain ⟨b9, o9, e9, v9⟩ := hR.out 2 (by simp); cases e9; exact v9
  have v3 : w.cell? ⟨qb, qo + 3, none⟩ = some (.int .i64 x3) := by obtain ⟨b9, o9, e9, v9⟩ := hR.out 3 (by simp); cases e9; exact v9
  have v4 : w.cell? ⟨qb, qo + 4, none⟩ = some (.int .i64 x4) := by obtain ⟨b9, o9, e9, v9⟩ := hR.out 4 (by simp); cases e9; exact v9
  have v5 : w.cell? ⟨qb, qo + 5, none⟩ = some (.int .i64 x5) := by obtain ⟨b9, o9, e9, v9⟩ := hR.out 5 (by simp); cases e9; exact v9
  have v6 : w.cell? ⟨qb, qo + 6, none⟩ = some (.int .i64 x6) := by obtain ⟨b9, o9, e9, v9⟩ := hR.out 6 (by simp); cases e9; exact v9
  replace v0 : w.cell? ⟨qb, qo + 0, none⟩ = some (.int .i64 x0) := v0
  rw [Nat.add_zero] at v0
  have hlt : qb < w.heap.size := World.block_lt_of_cell? w _ v0
  clear hR hS
  go_enter Try.func38, Try.ntmps38
  go_upto_region 0 with (fail)
  apply wp_region_seg0 (w := w) (S := [.al 1000]) (E := [.al ((fun p => .pointer (some ⟨p, 0, none⟩)), _) 1000]) rfl (by kernel_rfl) rfl rfl
  intro th hge hne
  refine Seg.step _ rfl ⟨by rfl, fun U hU => ?_⟩ ?_
  · go_simp; exact vp_alloc rfl rfl rfl
  refine ⟨_, by (simp only [Ent.val]; go_simp <;> exact rfl), ?_⟩
  refine Seg.stop (fun U1 hU hk => ?_)
  have nb0 := hge 0 _ _ rfl
  have rb0 := (hk 0 _ _ rfl trivial).1.2 (by simp)
  clear hk hge hne
  generalize th (0 + 0) = p0_0 at *
  dsimp only at rb0
  have r_p0_0 := rb0
  clear rb0
  have n_p0_0 := nb0
  clear nb0
  have sz1 := hU.size
  have hB : Below w.heap.size w U1 := hU
  clear hU
  have nP : w.heap.size ≤ p0_0 := n_p0_0
  have hne : some qb ≠ some p0_0 := fun e => by have := Option.some.inj e; omega
  replace v0 := (Below.cell hB hlt).trans v0
  replace v1 := (Below.cell hB hlt).trans v1
  replace v2 := (Below.cell hB hlt).trans v2
  replace v3 := (Below.cell hB hlt).trans v3
  replace v4 := (Below.cell hB hlt).trans v4
  replace v5 := (Below.cell hB hlt).trans v5
  replace v6 := (Below.cell hB hlt).trans v6
  go_upto_region 1 with (fail)
  obtain ⟨QQ, hQQ⟩ : ∃ QQ, U1.drew = QQ := ⟨_, rfl⟩
  have rq := (show U1.drew.heap[p0_0]? = _ from r_p0_0)
  rw [hQQ] at rq
  have hBq := hB.drew
  rw [hQQ] at hBq
  clear hB
  have vq0 := (show U1.drew.cell? _ = _ from v0)
  rw [hQQ] at vq0
  have vq1 := (show U1.drew.cell? _ = _ from v1)
  rw [hQQ] at vq1
  have vq2 := (show U1.drew.cell? _ = _ from v2)
  rw [hQQ] at vq2
  have vq3 := (show U1.drew.cell? _ = _ from v3)
  rw [hQQ] at vq3
  have vq4 := (show U1.drew.cell? _ = _ from v4)
  rw [hQQ] at vq4
  have vq5 := (show U1.drew.cell? _ = _ from v5)
  rw [hQQ] at vq5
  have vq6 := (show U1.drew.cell? _ = _ from v6)
  rw [hQQ] at vq6
  refine wp_region_T (some p0_0) 22 (by kernel_rfl) ?_
  refine wpAnyT_take 0 rfl (by kernel_rfl) (by kernel_rfl) (by kernel_rfl) (by kernel_rfl) (fun _ _ _ _ h => h) ⟨_, Or.inl ⟨by rfl, fun w2 hb2 => by (go_simp; try with_reducible rfl)⟩, _, by (go_simp; try rfl), ?_⟩
  refine wpAnyT_take 1 rfl (by kernel_rfl) (by kernel_rfl) (by kernel_rfl) (by kernel_rfl) (fun _ _ _ _ h => h) ⟨_, Or.inl ⟨by rfl, fun w2 hb2 => by (go_simp; try with_reducible rfl)⟩, _, by (go_simp; try rfl), ?_⟩
  refine wpAnyT_take 2 rfl (by kernel_rfl) (by kernel_rfl) (by kernel_rfl) (by kernel_rfl) (fun _ _ _ _ h => h) ⟨_, Or.inl ⟨by rfl, fun w2 hb2 => by (have hx := hb2.cell (show U1.drew.cell? _ = _ from (by rw [hQQ]; exact vq0)) hne; go_simp; try with_reducible rfl)⟩, _, by (go_simp; try rfl), ?_⟩
  refine wpAnyT_take 3 rfl (by kernel_rfl) (by kernel_rfl) (by kernel_rfl) (by kernel_rfl) (fun _ _ _ _ h => h) ⟨_, Or.inl ⟨by rfl, fun w2 hb2 => by (go_simp; try with_reducible rfl)⟩, _, by (go_simp; try rfl), ?_⟩
  refine wpAnyT_take 4 rfl (by kernel_rfl) (by kernel_rfl) (by kernel_rfl) (by kernel_rfl) (fun _ _ _ _ h => h) ⟨_, Or.inl ⟨by rfl, fun w2 hb2 => by (go_simp; try with_reducible rfl)⟩, _, by (go_simp; try rfl), ?_⟩
  refine wpAnyT_take 5 rfl (by kernel_rfl) (by kernel_rfl) (by kernel_rfl) (by kernel_rfl) (fun _ _ _ _ h => h) ⟨_, Or.inl ⟨by rfl, fun w2 hb2 => by (have hx := hb2.cell (show U1.drew.cell? _ = _ from (by rw [hQQ]; exact vq1)) hne; go_simp; try with_reducible rfl)⟩, _, by (go_simp; try rfl), ?_⟩
  refine wpAnyT_take 6 rfl (by kernel_rfl) (by kernel_rfl) (by kernel_rfl) (by kernel_rfl) (fun _ _ _ _ h => h) ⟨_, Or.inl ⟨by rfl, fun w2 hb2 => by (go_simp; try with_reducible rfl)⟩, _, by (go_simp; try rfl), ?_⟩
  refine wpAnyT_take 7 rfl (by kernel_rfl) (by kernel_rfl) (by kernel_rfl) (by kernel_rfl) (fun _ _ _ _ h => h) ⟨_, Or.inl ⟨by rfl, fun w2 hb2 => by (go_simp; try with_reducible rfl)⟩, _, by (go_simp; try rfl), ?_⟩
  refine wpAnyT_take 8 rfl (by kernel_rfl) (by kernel_rfl) (by kernel_rfl) (by kernel_rfl) (fun _ _ _ _ h => h) ⟨_, Or.inl ⟨by rfl, fun w2 hb2 => by (have hx := hb2.cell (show U1.drew.cell? _ = _ from (by rw [hQQ]; exact vq2)) hne; go_simp; try with_reducible rfl)⟩, _, by (go_simp; try rfl), ?_⟩
  refine wpAnyT_take 9 rfl (by kernel_rfl) (by kernel_rfl) (by kernel_rfl) (by kernel_rfl) (fun _ _ _ _ h => h) ⟨_, Or.inl ⟨by rfl, fun w2 hb2 => by (go_simp; try with_reducible rfl)⟩, _, by (go_simp; try rfl), ?_⟩
  refine wpAnyT_take 10 rfl (by kernel_rfl) (by kernel_rfl) (by kernel_rfl) (by kernel_rfl) (fun _ _ _ _ h => h) ⟨_, Or.inl ⟨by rfl, fun w2 hb2 => by (go_simp; try with_reducible rfl)⟩, _, by (go_simp; try rfl), ?_⟩
  refine wpAnyT_take 11 rfl (by kernel_rfl) (by kernel_rfl) (by kernel_rfl) (by kernel_rfl) (fun _ _ _ _ h => h) ⟨_, Or.inl ⟨by rfl, fun w2 hb2 => by (have hx := hb2.cell (show U1.drew.cell? _ = _ from (by rw [hQQ]; exact vq3)) hne; go_simp; try with_reducible rfl)⟩, _, by (go_simp; try rfl), ?_⟩
  refine wpAnyT_take 12 rfl (by kernel_rfl) (by kernel_rfl) (by kernel_rfl) (by kernel_rfl) (fun _ _ _ _ h => h) ⟨_, Or.inl ⟨by rfl, fun w2 hb2 => by (go_simp; try with_reducible rfl)⟩, _, by (go_simp; try rfl), ?_⟩
  refine wpAnyT_take 13 rfl (by kernel_rfl) (by kernel_rfl) (by kernel_rfl) (by kernel_rfl) (fun _ _ _ _ h => h) ⟨_, Or.inl ⟨by rfl, fun w2 hb2 => by (go_simp; try with_reducible rfl)⟩, _, by (go_simp; try rfl), ?_⟩
  refine wpAnyT_take 14 rfl (by kernel_rfl) (by kernel_rfl) (by kernel_rfl) (by kernel_rfl) (fun _ _ _ _ h => h) ⟨_, Or.inl ⟨by rfl, fun w2 hb2 => by (have hx := hb2.cell (show U1.drew.cell? _ = _ from (by rw [hQQ]; exact vq4)) hne; go_simp; try with_reducible rfl)⟩, _, by (go_simp; try rfl), ?_⟩
  refine wpAnyT_take 15 rfl (by kernel_rfl) (by kernel_rfl) (by kernel_rfl) (by kernel_rfl) (fun _ _ _ _ h => h) ⟨_, Or.inl ⟨by rfl, fun w2 hb2 => by (go_simp; try with_reducible rfl)⟩, _, by (go_simp; try rfl), ?_⟩
  refine wpAnyT_take 16 rfl (by kernel_rfl) (by kernel_rfl) (by kernel_rfl) (by kernel_rfl) (fun _ _ _ _ h => h) ⟨_, Or.inl ⟨by rfl, fun w2 hb2 => by (go_simp; try with_reducible rfl)⟩, _, by (go_simp; try rfl), ?_⟩
  refine wpAnyT_take 17 rfl (by kernel_rfl) (by kernel_rfl) (by kernel_rfl) (by kernel_rfl) (fun _ _ _ _ h => h) ⟨_, Or.inl ⟨by rfl, fun w2 hb2 => by (have hx := hb2.cell (show U1.drew.cell? _ = _ from (by rw [hQQ]; exact vq5)) hne; go_simp; try with_reducible rfl)⟩, _, by (go_simp; try rfl), ?_⟩
  refine wpAnyT_take 18 rfl (by kernel_rfl) (by kernel_rfl) (by kernel_rfl) (by kernel_rfl) (fun _ _ _ _ h => h) ⟨_, Or.inl ⟨by rfl, fun w2 hb2 => by (go_simp; try with_reducible rfl)⟩, _, by (go_simp; try rfl), ?_⟩
  refine wpAnyT_take 19 rfl (by kernel_rfl) (by kernel_rfl) (by kernel_rfl) (by kernel_rfl) (fun _ _ _ _ h => h) ⟨_, Or.inl ⟨by rfl, fun w2 hb2 => by (go_simp; try with_reducible rfl)⟩, _, by (go_simp; try rfl), ?_⟩
  refine wpAnyT_take 20 rfl (by kernel_rfl) (by kernel_rfl) (by kernel_rfl) (by kernel_rfl) (fun _ _ _ _ h => h) ⟨_, Or.inl ⟨by rfl, fun w2 hb2 => by (have hx := hb2.cell (show U1.drew.cell? _ = _ from (by rw [hQQ]; exact vq6)) hne; go_simp; try with_reducible rfl)⟩, _, by (go_simp; try rfl), ?_⟩
  refine wpAnyT_take 21 rfl (by kernel_rfl) (by kernel_rfl) (by kernel_rfl) (by kernel_rfl) (fun _ _ _ _ h => h) ⟨_, Or.inl ⟨by rfl, fun w2 hb2 => by (go_simp; try with_reducible rfl)⟩, _, by (go_simp; try rfl), ?_⟩
  refine wpAnyT_only 22 rfl (by kernel_rfl) (by rfl) (fun K hK => ?_)
  have z0 := held_cell rq 0 _ rfl
  have z1 := held_cell rq 1 _ rfl
  have z2 := held_cell rq 2 _ rfl
  have z3 := held_cell rq 3 _ rfl
  have z4 := held_cell rq 4 _ rfl
  have z5 := held_cell rq 5 _ rfl
  have z6 := held_cell rq 6 _ rfl
  have g0 := held_free rq 0
  have g1 := held_free rq 1
  have g2 := held_free rq 2
  have g3 := held_free rq 3
  have g4 := held_free rq 4
  have g5 := held_free rq 5
  have g6 := held_free rq 6
  obtain ⟨W9, hW9, ya, yO⟩ := st7 rq (.int .i64 x0) (.int .i64 x1) (.int .i64 x2) (.int .i64 x3) (.int .i64 x4) (.int .i64 x5) (.int .i64 x6)
  have hB9 := hid (belowS hBq yO nP)
  have ez0 := held_cell ya 0 _ rfl
  have ez1 := held_cell ya 1 _ rfl
  have ez2 := held_cell ya 2 _ rfl
  have ez3 := held_cell ya 3 _ rfl
  have ez4 := held_cell ya 4 _ rfl
  have ez5 := held_cell ya 5 _ rfl
  have ez6 := held_cell ya 6 _ rfl
  go_simp
  refine hK _ _ ⟨fun h => (h rfl).elim, ?_⟩
  clear hK
  refine wpAnyT_done (by kernel_rfl) ?_ _
  clear yO ya
  go_wp2_with fail
  refine bodyPost_ret (v := .agg #[.int .i64 x0, .int .i64 x1, .int .i64 x2, .int .i64 x3, .int .i64 x4, .int .i64 x5, .int .i64 x6]) (by simp [results, Try.results38, go_sem, ez0, ez1, ez2, ez3, ez4, ez5, ez6]) rfl ⟨rfl, hB9.out⟩
theorem sl_kpX {q M : Nat} {k : IntKind} {w w' : World} {a : Option Addr} {len cap : Nat} {zs : List Int} (h : Sl k w a len cap zs) (hk : KpX q M w w') (hb : ∀ b off, a = some ⟨b, off, none⟩ → 0 < len → b < M ∧ b ≠ q) : Sl k w' a len cap zs :=
  ⟨h.1, h.2.1, h.2.2.1, h.2.2.2.1, fun i hi => by
    obtain ⟨b, off, e, hc⟩ := h.2.2.2.2 i hi
    obtain ⟨h2, h3⟩ := hb b off e (by have := h.1; omega)
    exact ⟨b, off, e, (World.cell?_of_block (w := w) (hk.2 b h2 h3)).trans hc⟩⟩
/-- What such an iterator hands over: a satellite, an error. -/
abbrev El8 := List Int × Int
def gv (x : List Int) (j : Nat) : Int := x.getD j 0
def sat8 (x : List Int) : Array Value := #[.int .i64 (gv x 0), .int .i64 (gv x 1), .int .i64 (gv x 2), .int .i64 (gv x 3), .int .i64 (gv x 4), .int .i64 (gv x 5), .int .i64 (gv x 6)]
def enc8 (x : El8) : Array Value := #[.agg (sat8 x.1), .int .i64 x.2]
theorem taken_any (a : Option Addr) (n cap : Nat) (w : World) : Calls Try.prog 22 #[.slice a n cap] w fun e w' => e = .returned (.func (.func 37) #[] #[.pointer (some ⟨w.heap.size, 0, none⟩)]) ∧ w' = w.alloc (.cells #[.slice a n cap] 26) := by
  have hmf : ∀ (fn : Fn) (first cap : Array Value) (w : World), (Instr.makeFunc fn first cap).run Try.prog w = .ok (.func fn first cap) w := fun _ _ _ _ => rfl
  go_enter Try.func22, Try.ntmps22
  go_wp2_with fail
  go_ret
  exact ⟨rfl, rfl⟩
attribute [local go_sem] Oper.semAt_some
set_option maxRecDepth 100000 in
set_option maxHeartbeats 8000000 in
theorem taken_tells (a : Option Addr) (cap N n : Nat) (zs : List Int) (q M B : Nat) (w0 : World) (hBM : B < M) (hM : M ≤ w0.heap.size) (hBq : B ≠ q) (hc : w0.heap[B]? = some (.cells #[.slice a n cap] 26 (0, 0))) (hS : Sl .u8 w0 a n cap zs) (hSb : ∀ b off, a = some ⟨b, off, none⟩ → 0 < n → b < M ∧ b ≠ q) (hz : ∀ x ∈ zs, (Lit.int .u8 x).wf = true) (hl : n = 12 * N) (hN : N ≤ 100) :
    TellsE Try.prog 37 #[.pointer (some ⟨B, 0, none⟩)] enc8 (fun x _ => x.2 = 0 → x.1.length = 7) (KpX q M) (fun xs => xs <+: tpc N zs ∧ (xs.length = N ∨ errJ xs ≠ 0)) (fun pre => pre <+: tpc N zs) N w0 := by
  intro ly J Jx W hW hst hY h0
  have hc0 := (hW.block B (by omega)).trans hc
  refine callsIn_of_wp Try.func37 rfl trivial ?_ rfl
  simp only [Try.ntmps37, List.size_toArray, List.length_cons, List.length_nil, Nat.reduceAdd, Nat.reduceSub, Array.replicate_succ, Array.replicate_zero, List.push_toArray, List.append_toArray, List.nil_append, List.cons_append]
  have hzl : zs.length = n := hS.1
  have hS0 := hS.below hW
  have hWM := hW.size
  clear hS hc hW
  replace hst := hid hst
  replace hY := hid hY
  replace hz := hid hz
  replace hSb := hid hSb
  gi_wp2
  gi_loopw [3] (fun ix wr => ∃ (k at_ : Nat) (pre : List El8), ix = .int .i64 at_ ∧ at_ = 12 * k ∧ k ≤ N ∧ Hid (pre = (tpc N zs).take k) ∧ errJ pre = 0 ∧ J pre wr ∧ Sl .u8 wr a n cap zs ∧ wr.heap[B]? = some (.cells #[.slice a n cap] 26 (0, 0)) ∧ M ≤ wr.heap.size) (fun ix _ => n - (intOf ix).toNat)
  case atStart => exact ⟨0, 0, [], rfl, rfl, by omega, hid (by simp), rfl, h0, hS0, hc0, by omega⟩
  case round =>
    clear h0 hS0 hc0
    obtain ⟨k, at_, pre, rfl, hak, hk, hm, he, hJ, hS1, rb, hMr⟩ := hrel
    have bx := held_cell rb 0 _ rfl
    have hpn : pre.length = k := by rw [hm.out, List.length_take, tpc_len]; omega
    replace hpn := hid hpn
    by_cases hlt : (at_ : Int) < n
    case neg =>
      obtain rfl : k = N := by omega
      have hfin : pre = tpc k zs := by rw [hm.out, List.take_of_length_le (by rw [tpc_len]; omega)]
      replace hfin := hid hfin
      clear hak hk
      gi_wp2
      go_end0
      exact ⟨⟨_, rfl⟩, .inl ⟨_, ⟨by rw [hfin.out]; exact List.prefix_refl _, .inl hpn.out⟩, hJ⟩⟩
    have hk2 : k < N := by omega
    obtain ⟨b, off, rfl⟩ : ∃ b off, a = some ⟨b, off, none⟩ := by obtain ⟨b, off, e, _⟩ := hS1.2.2.2.2 at_ (by rw [hzl]; omega); exact ⟨b, off, e⟩
    have hcc := hS1.2.1
    have hcm : cap ≤ 9223372036854775807 := Nat.le_trans hS1.2.2.1 (by decide)
    have hSk : Sl .u8 wr (some ⟨b, off + at_, none⟩) 12 (cap - at_) ((zs.drop at_).take 12) := by have h := (hS1.drop at_ (by omega)).take 12 (by omega); simpa [add_at] using h
    have ht := tpc_at N k zs hk2
    rw [← hak] at ht
    obtain ⟨⟨P, pe⟩, hp⟩ : ∃ r, takL SD17 ((zs.drop at_).take 12) = r := ⟨_, rfl⟩
    rw [hp] at ht
    have hpre := hid (show pre ++ [(P, pe)] = (tpc N zs).take (k + 1) by rw [hm.out, List.take_add_one, ht]; rfl)
    have hpx := hid (show pre ++ [(P, pe)] <+: tpc N zs by rw [hpre.out]; exact List.take_prefix _ _)
    have hsn := hid (errJ_snoc (P, pe) he)
    have hP0 := hid (fun h => stak_bad hp h)
    have hP8 := hid (fun h : pe = 0 => (tak_spec (h ▸ hp)).2.2.2)
    replace hp := hid hp
    have hzk := hid (fun x hx => hz.out x (List.mem_of_mem_drop (List.mem_of_mem_take (i := 12) (l := zs.drop at_) hx)))
    replace hSk := hid hSk
    replace hS1 := hid hS1
    have hMr2 := hid hMr
    have hlen := hid (show pre.length < N by rw [hpn.out]; exact hk2)
    have hk1 := hid (show k + 1 ≤ N by omega)
    have kz : (0 : Int) ≤ at_ := by omega
    have wk : IntKind.i64.wrap ((at_ : Int) + 12) = (at_ : Int) + 12 := by rw [IntKind.wrap_i64]; omega
    have n1 : (at_ : Int) ≤ (at_ : Int) + 12 := by omega
    have n2 : (at_ : Int) + 12 ≤ cap := by omega
    have n3 : ((at_ : Int) + 12).toNat = at_ + 12 := by omega
    have n4 : ¬ cap = at_ := by omega
    have n5 : (0 : Int) ≤ (at_ : Int) + 12 := by omega
    have n6 : at_ + 12 - at_ = 12 := by omega
    replace hak := hid hak
    clear ht hMr hk hm
    gi_wp2
    have rbD : wr.drew.heap[B]? = some (.cells #[.slice (some ⟨b, off, none⟩) n cap] 26 (0, 0)) := rb
    have aD := hid (drew_after wr)
    refine wpIn_region_preR 12 0 (by simp only [List.extract_toArray, List.extract_eq_take_drop, Nat.sub_zero, List.drop_zero, List.take_succ_cons, List.take_zero]; rfl) (by kernel_rfl) rfl (by kernel_rfl) ?_
    refine wpAnyR_take 1 rfl (by kernel_rfl) (by kernel_rfl) (by kernel_rfl) (fun _ _ _ _ h => by cases h.1) ⟨_, Or.inl ⟨by rfl, fun w2 hb2 => by (have hx := held_cell (held_after hb2 rbD) 0 _ rfl; go_simp; try with_reducible rfl)⟩, _, by (go_simp; try rfl), ?_⟩
    refine wpAnyR_take 2 rfl (by kernel_rfl) (by kernel_rfl) (by kernel_rfl) (fun _ _ _ _ h => by cases h.1) ⟨_, Or.inl ⟨by rfl, fun w2 hb2 => by (go_simp; try with_reducible rfl)⟩, _, by (go_simp; try rfl), ?_⟩
    refine wpAnyR_take 3 rfl (by kernel_rfl) (by kernel_rfl) (by kernel_rfl) (fun _ _ _ _ h => by cases h.1) ⟨_, Or.inl ⟨by rfl, fun w2 hb2 => by (go_simp; try with_reducible rfl)⟩, _, by (go_simp; try rfl), ?_⟩
    refine wpAnyR_take 4 rfl (by kernel_rfl) (by kernel_rfl) (by kernel_rfl) (fun _ _ _ _ h => by cases h.1) ⟨_, Or.inl ⟨by rfl, fun w2 hb2 => by (go_simp; try with_reducible rfl)⟩, _, by (go_simp; try rfl), ?_⟩
    refine wpAnyR_take 5 rfl (by kernel_rfl) (by kernel_rfl) (by kernel_rfl) (fun _ _ _ _ h => by cases h.1) ⟨_, Or.inl ⟨by rfl, fun w2 hb2 => by (go_simp; try with_reducible rfl)⟩, _, by (go_simp; try rfl), ?_⟩
    refine wpAnyR_only 0 rfl (by kernel_rfl) (by rfl) (fun K hK => ?_)
    go_simp
    refine (fieldsS17 _).mono ?_
    rintro e V1 ⟨fa, fc, rfl, hF, hA1⟩
    have hT := hid (bthen aD.out hA1)
    replace hF := hid hF
    go_simp
    refine hK _ _ ⟨hA1, ?_⟩
    clear hK
    clear hA1
    refine wpAnyR_only 6 rfl (by kernel_rfl) (by rfl) (fun K hK => ?_)
    go_simp
    refine (stake_any fa 7 fc (fN SD17) (fS SD17) (fL SD17) (fH SD17) (some ⟨b, off + at_, none⟩) 12 (cap - at_) ((zs.drop at_).take 12) _ hF.out (hSk.out.below hT.out) hzk.out (by omega) (by omega)).mono ?_
    rintro e V2 ⟨ra, rc, rfl, hO, hA2⟩
    have e1 : takF (fN SD17) (fS SD17) (fL SD17) (fH SD17) 7 ((zs.drop at_).take 12) = (P, pe) := hp.out
    rw [e1] at hO ⊢
    dsimp only at hO ⊢
    clear e1
    replace hT := hid (bthen hT.out hA2)
    clear hF hSk
    replace hO := hid hO
    go_simp
    refine hK _ _ ⟨hA2, ?_⟩
    clear hK
    clear hA2
    refine wpAnyR_take 7 rfl (by kernel_rfl) (by kernel_rfl) (by kernel_rfl) (fun _ _ _ _ h => by cases h.1) ⟨_, Or.inl ⟨by rfl, fun w2 hb2 => by (go_simp; try with_reducible rfl)⟩, _, by (go_simp; try rfl), ?_⟩
    refine wpAnyR_take 8 rfl (by kernel_rfl) (by kernel_rfl) (by kernel_rfl) (fun _ _ _ _ h => by cases h.1) ⟨_, Or.inl ⟨by rfl, fun w2 hb2 => by (go_simp; try with_reducible rfl)⟩, _, by (go_simp; try rfl), ?_⟩
    refine wpAnyR_take 9 rfl (by kernel_rfl) (by kernel_rfl) (by kernel_rfl) (fun _ _ _ _ h => by cases h.1) ⟨_, Or.inl ⟨by rfl, fun w2 hb2 => by (go_simp; try with_reducible rfl)⟩, _, by (go_simp; try rfl), ?_⟩
    refine wpAnyR_take 10 rfl (by kernel_rfl) (by kernel_rfl) (by kernel_rfl) (fun _ _ _ _ h => by cases h.1) ⟨_, Or.inl ⟨by rfl, fun w2 hb2 => by (go_simp; try with_reducible rfl)⟩, _, by (go_simp; try rfl), ?_⟩
    refine wpAnyR_take 11 rfl (by kernel_rfl) (by kernel_rfl) (by kernel_rfl) (fun _ _ _ _ h => by cases h.1) ⟨_, Or.inl ⟨by rfl, fun w2 hb2 => by (go_simp; try with_reducible rfl)⟩, _, by (go_simp; try rfl), ?_⟩
    refine wpAnyR_done (by kernel_rfl) ?_ _
    refine ⟨rfl, ?_⟩
    refine Seg.finishIn ?_ _
    have hJ2 := hst.out _ _ _ hJ hT.out
    clear rbD aD bx hJ
    by_cases hpe : pe = 0
    case neg =>
      obtain rfl : P = [] := hP0.out hpe
      obtain ⟨fn, tmps, assign, body, hy, hR⟩ := hY.out pre ([], pe) V2 hJ2 (fun h => (hpe h).elim) hlen.out
      replace hy : (Instr.yield ly #[.agg #[.int .i64 0, .int .i64 0, .int .i64 0, .int .i64 0, .int .i64 0, .int .i64 0, .int .i64 0], .int .i64 pe]).run Try.prog V2 = .ok (.round ly fn tmps assign body) V2 := hy
      have hq : (pe != 0) = true := by simp [hpe]
      have hS3 := hid (show errJ (pre ++ [(([], pe) : El8)]) ≠ 0 from by rw [hsn.out]; exact hpe)
      clear hpe
      gi_wp2
      refine hR.mono ?_
      rintro e W3 (⟨rfl, hJ3, hk3⟩ | ⟨rfl, hJx3⟩)
      · gi_wp2
        refine bodyPost_ret (results_none rfl _ _ _) rfl ?_
        exact ⟨⟨_, rfl⟩, .inl ⟨_, ⟨hpx.out, .inr hS3.out⟩, hJ3⟩⟩
      · gi_wp2
        refine bodyPost_ret (results_none rfl _ _ _) rfl ?_
        exact ⟨⟨_, rfl⟩, .inr ⟨_, hpx.out, hJx3⟩⟩
    subst hpe
    have hPl : P.length = 7 := by rw [hP8.out rfl]; simp [SD17]
    obtain ⟨x0, x1, x2, x3, x4, x5, x6, rfl⟩ := list7 hPl
    have hOs := hid hO.out.slf
    clear hP0 hP8 hPl hO
    gi_wp2
    refine ⟨trivial, ((callsIn_wide (n := _)).2 (of_any ra rc x0 x1 x2 x3 x4 x5 x6 _ hOs.out)).mono ?_⟩
    rintro e V3 ⟨rfl, hA3⟩
    replace hJ2 := hst.out _ _ _ hJ2 hA3
    replace hT := hid (bthen hT.out hA3)
    clear hA3 hOs
    obtain ⟨fn, tmps, assign, body, hy, hR⟩ := hY.out pre ([x0, x1, x2, x3, x4, x5, x6], 0) V3 hJ2 (fun _ => rfl) hlen.out
    replace hy : (Instr.yield ly #[.agg #[.int .i64 x0, .int .i64 x1, .int .i64 x2, .int .i64 x3, .int .i64 x4, .int .i64 x5, .int .i64 x6], .int .i64 0]).run Try.prog V3 = .ok (.round ly fn tmps assign body) V3 := hy
    gi_wp2
    refine hR.mono ?_
    rintro e W3 (⟨rfl, hJ3, hk3⟩ | ⟨rfl, hJx3⟩)
    · have hS3 := hid (sl_kpX (hS1.out.below hT.out) hk3 hSb.out)
      have rb3 := hid (kpX_held hk3 (held_after hT.out rb) hBM hBq)
      have hM3 := hid (show M ≤ W3.heap.size by have := hk3.1; have := hT.out.size; have := hMr2.out; omega)
      clear hk3 hT hS1 rb
      gi_wp2
      go_roundw
      case rel => exact ⟨k + 1, at_ + 12, pre ++ [([x0, x1, x2, x3, x4, x5, x6], 0)], by simp, by have := hak.out; omega, hk1.out, hpre, by rw [hsn.out], hJ3, hS3.out, rb3.out, hM3.out⟩
      case measure => simp [intOf]; omega
    · gi_wp2
      refine bodyPost_ret (results_none rfl _ _ _) rfl ?_
      exact ⟨⟨_, rfl⟩, .inr ⟨_, hpx.out, hJx3⟩⟩

end Go.Proofs.Ytahjcbdofljfpaa
