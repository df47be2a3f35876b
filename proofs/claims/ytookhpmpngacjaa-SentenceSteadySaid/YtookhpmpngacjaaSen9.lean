/- Package sentence: the papers' Texts, Same, Few. -/
import Derived.Test.YtookhpmpngacjaaSen3
import Derived.Deep.DeepCutAuto
namespace Go.Proofs.Ytookhpmpngacjaa
open Go.ChangeShapes Go.WideShapes Go.ChangeAt Go.RowKit
set_option linter.unusedVariables false
set_option linter.unusedSimpArgs false

set_option maxRecDepth 100000 in
set_option maxHeartbeats 8000000 in
theorem texts_same (a1 a2 : Option Addr) (c1 c2 m : Nat) (F : List ByteArray) (w : World) (hm : F.length = m) (h1 : Els w 1 a1 m c1 (strV F)) (h2 : Els w 1 a2 m c2 (strV F)) (h1000 : m ≤ 100000) : Calls Try.prog 32 #[.slice a1 m c1, .slice a2 m c2] w fun e w' => e = .returned (.bool true) ∧ After w w' := by
  replace h1 := hid h1
  replace h2 := hid h2
  replace hm := hid hm
  go_enter Try.func32, Try.ntmps32
  go_upto_region 0 with (fail)
  go_wp2_with fail
  go_loopw [5] (fun ix wr => ∃ k : Nat, ix = .int .i64 k ∧ k ≤ m ∧ After w wr) (fun ix _ => m - (intOf ix).toNat)
  case atStart => exact ⟨0, rfl, by omega, Below.refl _ _⟩
  case round =>
    obtain ⟨k, rfl, hk, hA⟩ := hrel
    by_cases hlt : (k : Int) < m
    case neg =>
      replace hA := hid hA
      go_wp2_with fail
      go_ret
      exact ⟨rfl, hA.out⟩
    obtain ⟨f, hf⟩ : ∃ x, F[k]? = some x := ⟨_, List.getElem?_eq_getElem (show k < F.length by have := hm.out; omega)⟩
    obtain ⟨p1, o1, rfl, g0⟩ := (h1.out.below hA).at1 (strV_at hf)
    obtain ⟨p2, o2, rfl, d0⟩ := (h2.out.below hA).at1 (strV_at hf)
    have kz : (0 : Int) ≤ k := by omega
    have wk : IntKind.i64.wrap ((k : Int) + 1) = (k : Int) + 1 := by rw [IntKind.wrap_i64]; omega
    have hk1 := hid (show k + 1 ≤ m by omega)
    have hms := hid (show m - (k + 1) < m - k by omega)
    have hAd := hid hA.drew
    clear hf hk hA
    go_upto_region 6 with (fail)
    refine wp_region_R (by kernel_rfl) ?_
    refine wpAnyR_take 0 rfl (by kernel_rfl) (by kernel_rfl) (by kernel_rfl) (fun _ _ _ _ h => h) ⟨_, Or.inl ⟨by rfl, fun w2 hb2 => by (go_simp; try with_reducible rfl)⟩, _, by (go_simp; try rfl), ?_⟩
    refine wpAnyR_take 1 rfl (by kernel_rfl) (by kernel_rfl) (by kernel_rfl) (fun _ _ _ _ h => h) ⟨_, Or.inl ⟨by rfl, fun w2 hb2 => by (go_simp; try with_reducible rfl)⟩, _, by (go_simp; try rfl), ?_⟩
    refine wpAnyR_take 2 rfl (by kernel_rfl) (by kernel_rfl) (by kernel_rfl) (fun _ _ _ _ h => h) ⟨_, Or.inl ⟨by rfl, fun w2 hb2 => by (go_simp; try with_reducible rfl)⟩, _, by (go_simp; try rfl), ?_⟩
    refine wpAnyR_take 3 rfl (by kernel_rfl) (by kernel_rfl) (by kernel_rfl) (fun _ _ _ _ h => h) ⟨_, Or.inl ⟨by rfl, fun w2 hb2 => by (have hx := (Below.cell hb2 (World.block_lt_of_cell? wr _ g0)).trans g0; go_simp; try with_reducible rfl)⟩, _, by (go_simp; try rfl), ?_⟩
    refine wpAnyR_take 4 rfl (by kernel_rfl) (by kernel_rfl) (by kernel_rfl) (fun _ _ _ _ h => h) ⟨_, Or.inl ⟨by rfl, fun w2 hb2 => by (go_simp; try with_reducible rfl)⟩, _, by (go_simp; try rfl), ?_⟩
    refine wpAnyR_take 5 rfl (by kernel_rfl) (by kernel_rfl) (by kernel_rfl) (fun _ _ _ _ h => h) ⟨_, Or.inl ⟨by rfl, fun w2 hb2 => by (go_simp; try with_reducible rfl)⟩, _, by (go_simp; try rfl), ?_⟩
    refine wpAnyR_take 6 rfl (by kernel_rfl) (by kernel_rfl) (by kernel_rfl) (fun _ _ _ _ h => h) ⟨_, Or.inl ⟨by rfl, fun w2 hb2 => by (go_simp; try with_reducible rfl)⟩, _, by (go_simp; try rfl), ?_⟩
    refine wpAnyR_take 7 rfl (by kernel_rfl) (by kernel_rfl) (by kernel_rfl) (fun _ _ _ _ h => h) ⟨_, Or.inl ⟨by rfl, fun w2 hb2 => by (have hx := (Below.cell hb2 (World.block_lt_of_cell? wr _ d0)).trans d0; go_simp; try with_reducible rfl)⟩, _, by (go_simp; try rfl), ?_⟩
    refine wpAnyR_take 8 rfl (by kernel_rfl) (by kernel_rfl) (by kernel_rfl) (fun _ _ _ _ h => h) ⟨_, Or.inl ⟨by rfl, fun w2 hb2 => by (go_simp; try with_reducible rfl)⟩, _, by (go_simp; try rfl), ?_⟩
    refine wpAnyR_done (by kernel_rfl) ?_ _
    go_wp2_with fail
    go_roundw
    case rel => exact ⟨k + 1, by simp, hk1.out, hAd.out⟩
    case measure => simp [intOf]; exact hms.out
set_option maxRecDepth 100000 in
set_option maxHeartbeats 8000000 in
theorem same22_any (T K : ByteArray) (a1 a2 : Option Addr) (c1 c2 m : Nat) (F : List ByteArray) (w : World) (hm : F.length = m) (h1 : Els w 1 a1 m c1 (strV F)) (h2 : Els w 1 a2 m c2 (strV F)) (h1000 : m ≤ 100000) : Calls Try.prog 14 #[.agg #[.string T, .string K, .slice a1 m c1], .agg #[.string T, .string K, .slice a2 m c2]] w fun e w' => e = .returned (.bool true) ∧ After w w' := by
  replace h1 := hid h1
  replace h2 := hid h2
  replace hm := hid hm
  go_enter Try.func14, Try.ntmps14
  go_upto_region 0 with (fail)
  apply wp_region_seg0 (w := w) (S := [.al 1000, .al 1000, .q []]) (E := [.al ((fun p => .pointer (some ⟨p, 0, none⟩)), _) 1000, .al ((fun p => .pointer (some ⟨p, 0, none⟩)), _) 1000, .q0 _]) rfl (by kernel_rfl) rfl rfl
  intro th hge hne
  refine Seg.step _ rfl ⟨by rfl, fun U hU => ?_⟩ ?_
  · go_simp; exact vp_alloc rfl rfl rfl
  refine ⟨_, by (simp only [Ent.val]; go_simp <;> exact rfl), ?_⟩
  refine Seg.step _ rfl ⟨by rfl, fun U hU => ?_⟩ ?_
  · go_simp; exact vp_alloc rfl rfl rfl
  refine ⟨_, by (simp only [Ent.val]; go_simp <;> exact rfl), ?_⟩
  refine Seg.step _ rfl (Or.inl ⟨by rfl, fun U hU => vp_quiet (by (go_simp <;> exact rfl))⟩) ⟨_, by (simp only [Ent.val]; go_simp <;> exact rfl), ?_⟩
  refine Seg.stop (fun U1 hU hk => ?_)
  have nb0 := hge 0 _ _ rfl
  have rb0 := (hk 0 _ _ rfl trivial).1.2 (by simp)
  have nb1 := hge 1 _ _ rfl
  have rb1 := (hk 1 _ _ rfl trivial).1.2 (by simp)
  have ne0_1 := hne 0 1 _ _ _ _ rfl rfl (by omega)
  clear hk hge hne
  generalize th (0 + 0) = p0_0 at *
  dsimp only at rb0
  generalize th (0 + 1) = p0_1 at *
  dsimp only at rb1
  have r_p0_0 := rb0
  clear rb0
  have n_p0_0 := nb0
  clear nb0
  have d_p0_0_p0_1 := ne0_1
  clear ne0_1
  have r_p0_1 := rb1
  clear rb1
  have n_p0_1 := nb1
  clear nb1
  have sz1 := hU.size
  have hB : Below w.heap.size w U1 := hU
  clear hU
  have x0 := held_cell r_p0_0 0 _ rfl
  have x1 := held_cell r_p0_0 1 _ rfl
  have x2 := held_cell r_p0_0 2 _ rfl
  have y0 := held_cell r_p0_1 0 _ rfl
  have y1 := held_cell r_p0_1 1 _ rfl
  have y2 := held_cell r_p0_1 2 _ rfl
  have h3 := hid (h1.out.below hB)
  have h4 := hid (h2.out.below hB)
  replace hB := hid hB
  go_wp2_with fail
  refine (texts_same a1 a2 c1 c2 m F _ hm.out h3.out h4.out h1000).mono ?_
  rintro e V ⟨rfl, hA⟩
  have hB9 := hid (bthen hB.out hA)
  clear hA
  go_wp2_with fail
  go_ret
  exact ⟨rfl, hB9.out⟩
def FewOk (T K : ByteArray) (n : Nat) (F : List ByteArray) (w : World) (e : Ending) (w' : World) : Prop := ∃ b : Bool, e = .returned (.bool b) ∧ (b = true → n ≤ 100 ∧ T.size ≤ 100 ∧ K.size ≤ 100 ∧ ∀ f ∈ F, f.size ≤ 500) ∧ After w w'
set_option maxRecDepth 100000 in
set_option maxHeartbeats 8000000 in
theorem few_any (T K : ByteArray) (a : Option Addr) (n cap : Nat) (F : List ByteArray) (w : World) (hn : F.length = n) (hE : Els w 1 a n cap (strV F)) (hT : T.size ≤ maxLen) (hK : K.size ≤ maxLen) (hF : ∀ f ∈ F, f.size ≤ maxLen) : Calls Try.prog 7 #[.agg #[.string T, .string K, .slice a n cap]] w (FewOk T K n F w) := by
  replace hE := hid hE
  replace hF := hid hF
  have hall := hid (show F.take n = F by rw [← hn, List.take_length])
  replace hn := hid hn
  have nw := alloc_new w (.cells #[.string T, .string K, .slice a n cap] 24)
  have hB := hid nw.2.1
  have rb := hid nw.2.2
  replace hE := hid (hE.out.below nw.2.1)
  clear nw
  go_enter Try.func7, Try.ntmps7
  go_upto_region 1 with (fail)
  obtain ⟨W0, hW0⟩ : ∃ X, w.alloc (.cells #[.string T, .string K, .slice a n cap] 24) = X := ⟨_, rfl⟩
  rw [hW0] at hB rb hE
  rw [hW0]
  obtain ⟨pb, hpb⟩ : ∃ X, w.heap.size = X := ⟨_, rfl⟩
  rw [hpb] at rb
  rw [hpb]
  clear hW0
  replace hpb := hid hpb
  have z0 := held_cell rb.out 0 _ rfl
  have z1 := held_cell rb.out 1 _ rfl
  have z2 := held_cell rb.out 2 _ rfl
  have hnm := hE.out.2.1
  have hcm := hE.out.2.2.1
  have hmm : maxLen ≤ 9223372036854775807 := by decide
  obtain ⟨sT, hsT⟩ : ∃ z, T.size = z := ⟨_, rfl⟩
  obtain ⟨sK, hsK⟩ : ∃ z, K.size = z := ⟨_, rfl⟩
  have iT : (T.size : Int) = (sT : Int) := by omega
  have iK : (K.size : Int) = (sK : Int) := by omega
  rw [hsT] at hT
  rw [hsK] at hK
  replace hsT := hid hsT
  replace hsK := hid hsK
  by_cases q1 : (100 : Int) < n
  case pos =>
    go_wp2_with fail
    go_ret
    exact ⟨false, rfl, fun h => (by cases h), hB.out⟩
  by_cases q2 : (100 : Int) < sT
  case pos =>
    go_wp2_with fail
    go_ret
    exact ⟨false, rfl, fun h => (by cases h), hB.out⟩
  by_cases q3 : (100 : Int) < sK
  case pos =>
    go_wp2_with fail
    go_ret
    exact ⟨false, rfl, fun h => (by cases h), hB.out⟩
  go_wp2_with fail
  go_loopw [3, 4] (fun mv ix wr => ∃ k m : Nat, ix = .int .i64 k ∧ mv = .int .i64 m ∧ k ≤ n ∧ m ≤ 1000 * k ∧ Hid (∀ f ∈ F.take k, min f.size 1000 ≤ m) ∧ wr = W0) (fun _ ix _ => n - (intOf ix).toNat)
  case atStart => exact ⟨0, 0, rfl, rfl, by omega, by omega, hid (fun f hf => by simp at hf), rfl⟩
  case round =>
    obtain ⟨k, m, rfl, rfl, hk, hmk, hm, rfl⟩ := hrel
    by_cases hlt : (k : Int) < n
    case neg =>
      obtain rfl : k = n := by omega
      have hm2 := hm.out
      rw [hall.out] at hm2
      replace hm2 := hid hm2
      by_cases h500 : (m : Int) ≤ 500
      case pos =>
        have h9 := hid (show k ≤ 100 ∧ T.size ≤ 100 ∧ K.size ≤ 100 ∧ ∀ f ∈ F, f.size ≤ 500 from ⟨by omega, by rw [hsT.out]; omega, by rw [hsK.out]; omega, fun f hf => by have := hm2.out f hf; omega⟩)
        go_wp2_with fail
        go_ret
        exact ⟨true, rfl, fun _ => h9.out, hB.out⟩
      go_wp2_with fail
      go_ret
      exact ⟨false, rfl, fun h => (by cases h), hB.out⟩
    obtain ⟨f, hf⟩ : ∃ x, F[k]? = some x := ⟨_, List.getElem?_eq_getElem (show k < F.length by have := hn.out; omega)⟩
    obtain ⟨p1, o1, rfl, g0⟩ := hE.out.at1 (strV_at hf)
    have hfz := hF.out f (List.mem_of_getElem? hf)
    obtain ⟨mn, hmn⟩ : ∃ z, z = min f.size 1000 := ⟨_, rfl⟩
    have hm3 := hid (show ∀ g ∈ F.take (k + 1), min g.size 1000 ≤ m + mn from fun g hg => by rw [List.take_add_one, hf, Option.toList_some] at hg; rcases List.mem_append.1 hg with hg | hg; (have := hm.out g hg; omega); rw [List.mem_singleton] at hg; subst hg; omega)
    obtain ⟨fs, hfs⟩ : ∃ z, f.size = z := ⟨_, rfl⟩
    rw [hfs] at hmn hfz
    have hfI : (f.size : Int) = (fs : Int) := by omega
    have e1 : (if (1000 : Int) < fs then (1000 : Int) else fs) = mn := by split <;> omega
    have kz : (0 : Int) ≤ k := by omega
    have wk : IntKind.i64.wrap ((k : Int) + 1) = (k : Int) + 1 := by rw [IntKind.wrap_i64]; omega
    have wm : IntKind.i64.wrap ((m : Int) + (mn : Int)) = ((m + mn : Nat) : Int) := by rw [IntKind.wrap_i64]; omega
    have hk1 := hid (show k + 1 ≤ n by omega)
    have hmk2 := hid (show m + mn ≤ 1000 * (k + 1) by omega)
    have hms := hid (show n - (k + 1) < n - k by omega)
    replace hfs := hid hfs
    replace hmn := hid hmn
    clear hf hk hmk
    go_wp2_with fail
    go_roundw
    case rel => exact ⟨k + 1, m + mn, by simp, by first | rfl | simp, hk1.out, hmk2.out, hm3, by first | rfl | trivial⟩
    case measure => simp [intOf]; exact hms.out

end Go.Proofs.Ytookhpmpngacjaa
