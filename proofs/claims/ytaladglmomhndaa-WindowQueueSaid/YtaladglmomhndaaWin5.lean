/- Package window: the papers' Put. -/
import Derived.Test.YtaladglmomhndaaWin3
import Derived.Deep.DeepCutAuto
namespace Go.Proofs.Ytaladglmomhndaa
open Go.ChangeShapes Go.WideShapes Go.ChangeAt Go.RowKit
set_option linter.unusedVariables false
set_option linter.unusedSimpArgs false

theorem own_geb39 {k : IntKind} {E : TypeId} {W : World} {base g : Nat} {v : Value} {zs : List Int} (h : Own k E W base v zs) (e : v.ownBlock = some g) : base ≤ g := by
  rcases h.2 with ⟨rfl, _⟩ | ⟨g', cap, cur, rfl, hb, _⟩
  · cases e
  · have : g' = g := by simpa [Value.ownBlock] using e
    omega
theorem kp_grown39 {N : Nat} {X : List Nat} {w w' : World} {row : Option Nat} (h : w.grownBy w' row) (hN : N ≤ w.heap.size) (hr : ∀ k, row = some k → N ≤ k) : Kp N X w w' :=
  ⟨h.os, h.tape, h.output, h.size, fun k hk _ => h.block k (by omega) (fun e => by have := hr k e.symm; omega)⟩
set_option maxRecDepth 100000 in
set_option maxHeartbeats 8000000 in
theorem rwput_any (a1 : Option Addr) (m c1 : Nat) (L : List Int) (a2 : Option Addr) (len c2 : Nat) (ys : List Int) (w : World) (h1 : Sl .u8 w a1 m c1 L) (h2 : Sl .u8 w a2 len c2 ys) (hm : m ≤ 1024) (hl : len ≤ 100000) : Calls Try.prog 12 #[.slice a1 m c1, .slice a2 len c2] w fun e w' => ∃ (a' : Option Addr) (c' : Nat), e = .returned (.tuple #[.slice a' (m + min len (1024 - m)) c', .int .i64 ((min len (1024 - m) : Nat) : Int)]) ∧ Own .u8 5 w' w.heap.size (.slice a' (m + min len (1024 - m)) c') (L ++ ys.take (min len (1024 - m))) ∧ After w w' := by
  obtain ⟨rm, hrm⟩ : ∃ z, 1024 - m = z := ⟨_, rfl⟩
  have wr : IntKind.i64.wrap (1024 - (m : Int)) = (rm : Int) := by rw [IntKind.wrap_i64]; omega
  rw [hrm]
  obtain ⟨n, hn⟩ : ∃ n, min len rm = n := ⟨_, rfl⟩
  rw [hn]
  have hnl : n ≤ len := by omega
  have hlc := h2.2.1
  have hLm := hid h1.1
  have hs2 := hid (h2.take n hnl)
  have hs1 := hid h1
  obtain ⟨y2, hy2⟩ : ∃ y, ys.take n = y := ⟨_, rfl⟩
  rw [hy2] at hs2 ⊢
  have cH := cutHw a2 len c2 n (by omega)
  obtain ⟨mn, hmn⟩ : ∃ z, m + n = z := ⟨_, rfl⟩
  rw [hmn]
  replace hmn := hid hmn
  clear h1 h2 hrm hy2
  by_cases c : (len : Int) ≤ rm
  · have e : n = len := by omega
    subst e
    have cc : ¬ (rm : Int) < (n : Int) := by omega
    clear hn
    go_enter Try.func12, Try.ntmps12
    go_upto_region 2 with (fail)
    obtain ⟨QQ, hQQ⟩ : ∃ QQ, w.drew = QQ := ⟨_, rfl⟩
    have hAQ : After w QQ := by rw [← hQQ]; exact (Below.refl _ w).drew
    refine wp_region_K (N := QQ.heap.size) (X := []) (by kernel_rfl) ?_
    rw [hQQ]
    refine wpAnyK_take 1 rfl (by kernel_rfl) (by kernel_rfl) (by kernel_rfl) (fun _ _ _ _ h => h) ⟨_, Or.inl ⟨by rfl, fun w2 hb => by (go_simp; try with_reducible rfl)⟩, _, by (go_simp; try rfl), ?_⟩
    refine wpAnyK_take 3 rfl (by kernel_rfl) (by kernel_rfl) (by kernel_rfl) (fun _ _ _ _ h => h) ⟨_, Or.inl ⟨by rfl, fun w2 hb => by (go_simp; try with_reducible rfl)⟩, _, by (go_simp; try rfl), ?_⟩
    refine wpAnyK_take 4 rfl (by kernel_rfl) (by kernel_rfl) (by kernel_rfl) (fun _ _ _ _ h => h) ⟨_, Or.inl ⟨by rfl, fun w2 hb => by (go_simp; try with_reducible rfl)⟩, _, by (go_simp; try rfl), ?_⟩
    refine wpAnyK_take 5 rfl (by kernel_rfl) (by kernel_rfl) (by kernel_rfl) (fun _ _ _ _ h => h) ⟨_, Or.inl ⟨by rfl, fun w2 hb => by (go_simp; try with_reducible rfl)⟩, _, by (go_simp; try rfl), ?_⟩
    refine wpAnyK_take 7 rfl (by kernel_rfl) (by kernel_rfl) (by kernel_rfl) (fun _ _ _ _ h => h) ⟨_, Or.inl ⟨by rfl, fun w2 hb => by (go_simp; try with_reducible rfl)⟩, _, by (go_simp; try rfl), ?_⟩
    refine wpAnyK_only 0 rfl (by kernel_rfl) (by rfl) (fun K hK => ?_)
    go_simp
    have nw := alloc_new QQ (.cells #[] 5)
    have kp := Kp.of (N := QQ.heap.size) (X := []) nw.2.1 (Nat.le_refl _)
    have own0 := Own.lit .u8 5 QQ [] QQ.heap.size (Nat.le_refl _) (by simp) #[] rfl
    have hB7 := nw.2.1
    have hA7 := bthen hAQ hB7
    have slp := hs1.out.below hA7
    have sly := hs2.out.below hA7
    clear nw hA7
    refine hK _ _ ⟨kp, ?_⟩
    clear hK
    clear kp
    refine wpAnyK_only 2 rfl (by kernel_rfl) (by rfl) (fun K hK => ?_)
    refine wp_appK (.tmp 13) (.tmp 14) 27 rfl QQ.heap.size 5 .u8 1 bytesOf _ [] rfl own0 a1 m c1 L rfl slp (by first | (simp <;> omega) | (rw [List.length_nil]; omega)) (by decide) hB7.size ?_
    intro b2 d2 Y2 hO2 hG hq9
    have kp := kp_grown39 (N := QQ.heap.size) (X := []) hG hB7.size (fun k e => own_geb39 own0 e)
    have hB8 := own0.grew hG hB7 (Nat.le_refl _) hB7.size
    have hA7 := bthen hAQ hB8
    replace sly := hs2.out.below hA7
    clear hq9 hB7 hA7 hG own0
    have hB7 := hB8
    clear hB8
    have own5 : Own .u8 5 Y2 QQ.heap.size (.slice b2 m d2) L := by first | exact hO2 | (have := hO2; rwa [List.nil_append, show ([] : List Int).length + m = m from Nat.zero_add _] at this)
    clear hO2 slp
    try rw [show ([] : List Int).length + m = m from Nat.zero_add _]
    have l5 := own5.slf.1
    refine hK _ _ ⟨kp, ?_⟩
    clear hK
    clear kp
    refine wpAnyK_only 6 rfl (by kernel_rfl) (by rfl) (fun K hK => ?_)
    refine wp_appK (.tmp 15) (.tmp 18) 27 rfl QQ.heap.size 5 .u8 1 bytesOf _ L rfl own5 a2 n c2 y2 rfl sly (by rw [l5]; omega) (by decide) hB7.size ?_
    intro b6 d6 Y6 hO6 hG hq9
    have kp := kp_grown39 (N := QQ.heap.size) (X := []) hG hB7.size (fun k e => own_geb39 own5 e)
    have hB8 := own5.grew hG hB7 (Nat.le_refl _) hB7.size
    have hA7 := bthen hAQ hB8
    clear hq9 hB7 hA7 hG own5
    have hB7 := hB8
    clear hB8
    rw [l5, hmn.out] at hO6
    try rw [l5, hmn.out]
    have own7 := hO6
    clear hO6 sly
    refine hK _ _ ⟨kp, ?_⟩
    clear hK
    clear kp
    refine wpAnyK_take 8 rfl (by kernel_rfl) (by kernel_rfl) (by kernel_rfl) (fun _ _ _ _ h => h) ⟨_, Or.inl ⟨by rfl, fun w2 hb => by (go_simp; try with_reducible rfl)⟩, _, by (go_simp; try rfl), ?_⟩
    refine wpAnyK_take 9 rfl (by kernel_rfl) (by kernel_rfl) (by kernel_rfl) (fun _ _ _ _ h => h) ⟨_, Or.inl ⟨by rfl, fun w2 hb => by (go_simp; try with_reducible rfl)⟩, _, by (go_simp; try rfl), ?_⟩
    refine wpAnyK_done (by kernel_rfl) ?_ _
    have hO9 := hid (own7.base hAQ.size)
    have hA := hid (bthen hAQ hB7)
    clear own7 hB7 hAQ
    go_wp2_with fail
    go_ret2
    exact ⟨b6, d6, rfl, hO9.out, hA.out⟩
  · have e : n = rm := by omega
    subst e
    have cc : (n : Int) < (len : Int) := by omega
    clear hn
    go_enter Try.func12, Try.ntmps12
    go_upto_region 2 with (fail)
    obtain ⟨QQ, hQQ⟩ : ∃ QQ, w.drew = QQ := ⟨_, rfl⟩
    have hAQ : After w QQ := by rw [← hQQ]; exact (Below.refl _ w).drew
    refine wp_region_K (N := QQ.heap.size) (X := []) (by kernel_rfl) ?_
    rw [hQQ]
    refine wpAnyK_take 1 rfl (by kernel_rfl) (by kernel_rfl) (by kernel_rfl) (fun _ _ _ _ h => h) ⟨_, Or.inl ⟨by rfl, fun w2 hb => by (go_simp; try with_reducible rfl)⟩, _, by (go_simp; try rfl), ?_⟩
    refine wpAnyK_take 3 rfl (by kernel_rfl) (by kernel_rfl) (by kernel_rfl) (fun _ _ _ _ h => h) ⟨_, Or.inl ⟨by rfl, fun w2 hb => by (go_simp; try with_reducible rfl)⟩, _, by (go_simp; try rfl), ?_⟩
    refine wpAnyK_take 4 rfl (by kernel_rfl) (by kernel_rfl) (by kernel_rfl) (fun _ _ _ _ h => h) ⟨_, Or.inl ⟨by rfl, fun w2 hb => by (go_simp; try with_reducible rfl)⟩, _, by (go_simp; try rfl), ?_⟩
    refine wpAnyK_take 5 rfl (by kernel_rfl) (by kernel_rfl) (by kernel_rfl) (fun _ _ _ _ h => h) ⟨_, Or.inl ⟨by rfl, fun w2 hb => by (go_simp; try with_reducible rfl)⟩, _, by (go_simp; try rfl), ?_⟩
    refine wpAnyK_take 7 rfl (by kernel_rfl) (by kernel_rfl) (by kernel_rfl) (fun _ _ _ _ h => h) ⟨_, Or.inl ⟨by rfl, fun w2 hb => by (go_simp; try with_reducible rfl)⟩, _, by (go_simp; try rfl), ?_⟩
    refine wpAnyK_only 0 rfl (by kernel_rfl) (by rfl) (fun K hK => ?_)
    go_simp
    have nw := alloc_new QQ (.cells #[] 5)
    have kp := Kp.of (N := QQ.heap.size) (X := []) nw.2.1 (Nat.le_refl _)
    have own0 := Own.lit .u8 5 QQ [] QQ.heap.size (Nat.le_refl _) (by simp) #[] rfl
    have hB7 := nw.2.1
    have hA7 := bthen hAQ hB7
    have slp := hs1.out.below hA7
    have sly := hs2.out.below hA7
    clear nw hA7
    refine hK _ _ ⟨kp, ?_⟩
    clear hK
    clear kp
    refine wpAnyK_only 2 rfl (by kernel_rfl) (by rfl) (fun K hK => ?_)
    refine wp_appK (.tmp 13) (.tmp 14) 27 rfl QQ.heap.size 5 .u8 1 bytesOf _ [] rfl own0 a1 m c1 L rfl slp (by first | (simp <;> omega) | (rw [List.length_nil]; omega)) (by decide) hB7.size ?_
    intro b2 d2 Y2 hO2 hG hq9
    have kp := kp_grown39 (N := QQ.heap.size) (X := []) hG hB7.size (fun k e => own_geb39 own0 e)
    have hB8 := own0.grew hG hB7 (Nat.le_refl _) hB7.size
    have hA7 := bthen hAQ hB8
    replace sly := hs2.out.below hA7
    clear hq9 hB7 hA7 hG own0
    have hB7 := hB8
    clear hB8
    have own5 : Own .u8 5 Y2 QQ.heap.size (.slice b2 m d2) L := by first | exact hO2 | (have := hO2; rwa [List.nil_append, show ([] : List Int).length + m = m from Nat.zero_add _] at this)
    clear hO2 slp
    try rw [show ([] : List Int).length + m = m from Nat.zero_add _]
    have l5 := own5.slf.1
    refine hK _ _ ⟨kp, ?_⟩
    clear hK
    clear kp
    refine wpAnyK_only 6 rfl (by kernel_rfl) (by rfl) (fun K hK => ?_)
    refine wp_appK (.tmp 15) (.tmp 18) 27 rfl QQ.heap.size 5 .u8 1 bytesOf _ L rfl own5 a2 n c2 y2 rfl sly (by rw [l5]; omega) (by decide) hB7.size ?_
    intro b6 d6 Y6 hO6 hG hq9
    have kp := kp_grown39 (N := QQ.heap.size) (X := []) hG hB7.size (fun k e => own_geb39 own5 e)
    have hB8 := own5.grew hG hB7 (Nat.le_refl _) hB7.size
    have hA7 := bthen hAQ hB8
    clear hq9 hB7 hA7 hG own5
    have hB7 := hB8
    clear hB8
    rw [l5, hmn.out] at hO6
    try rw [l5, hmn.out]
    have own7 := hO6
    clear hO6 sly
    refine hK _ _ ⟨kp, ?_⟩
    clear hK
    clear kp
    refine wpAnyK_take 8 rfl (by kernel_rfl) (by kernel_rfl) (by kernel_rfl) (fun _ _ _ _ h => h) ⟨_, Or.inl ⟨by rfl, fun w2 hb => by (go_simp; try with_reducible rfl)⟩, _, by (go_simp; try rfl), ?_⟩
    refine wpAnyK_take 9 rfl (by kernel_rfl) (by kernel_rfl) (by kernel_rfl) (fun _ _ _ _ h => h) ⟨_, Or.inl ⟨by rfl, fun w2 hb => by (go_simp; try with_reducible rfl)⟩, _, by (go_simp; try rfl), ?_⟩
    refine wpAnyK_done (by kernel_rfl) ?_ _
    have hO9 := hid (own7.base hAQ.size)
    have hA := hid (bthen hAQ hB7)
    clear own7 hB7 hAQ
    go_wp2_with fail
    go_ret2
    exact ⟨b6, d6, rfl, hO9.out, hA.out⟩
set_option maxRecDepth 100000 in
set_option maxHeartbeats 8000000 in
theorem rwdrop_any (a1 : Option Addr) (m c1 : Nat) (L : List Int) (n : Int) (w : World) (h1 : Sl .u8 w a1 m c1 L) (hm : m ≤ 1024) (hn1 : -9223372036854775808 ≤ n) (hn2 : n ≤ 9223372036854775807) : Calls Try.prog 10 #[.slice a1 m c1, .int .i64 n] w fun e w' => ∃ (a' : Option Addr) (c' : Nat), e = .returned (.tuple #[.slice a' (m - goN n m) c', .int .i64 (goN n m : Int)]) ∧ Own .u8 5 w' w.heap.size (.slice a' (m - goN n m) c') (L.drop (goN n m)) ∧ After w w' := by
  obtain ⟨k, hk⟩ : ∃ k, goN n m = k := ⟨_, rfl⟩
  rw [hk]
  have hkm : k ≤ m := by unfold goN at hk; omega
  have hmc := h1.2.1
  have hgo := hk
  unfold goN at hgo
  obtain ⟨a2, cL, sL, -⟩ := cutLw a1 m c1 k hmc hkm
  have sl2 := hid (sL w L h1)
  clear sL hk h1
  obtain ⟨d, hd⟩ : ∃ z, m - k = z := ⟨_, rfl⟩
  rw [hd] at cL sl2 ⊢
  have hdd : d ≤ 1024 := by omega
  obtain ⟨cc, hcc⟩ : ∃ z, c1 - k = z := ⟨_, rfl⟩
  rw [hcc] at cL sl2
  clear hd hcc
  obtain ⟨D, hD⟩ : ∃ z, L.drop k = z := ⟨_, rfl⟩
  rw [hD] at sl2 ⊢
  clear hD
  have nE := alloc_new w (.cells #[] 5)
  have ownE := Own.lit .u8 5 w [] w.heap.size (Nat.le_refl _) (by simp) #[] rfl
  have hAE := nE.2.1
  have slA := sl2.out.below hAE
  clear nE
  have xx : (k = 0 ∧ (if (m : Int) < n then (m : Int) else n) ≤ 0) ∨ (0 < k ∧ (if (m : Int) < n then (m : Int) else n) = k) := by split <;> omega
  clear hgo
  rcases xx with ⟨hk0, hq⟩ | ⟨hk0, hq⟩
  case' inr => have mx : (if (0 : Int) < (k : Int) then (k : Int) else 0) = k := by rw [if_pos (by omega)]
  case' inr => have k0 : (0 : Int) < k := by omega
  case inl =>
    subst hk0
    obtain ⟨q, hq2⟩ : ∃ q, (if (m : Int) < n then (m : Int) else n) = q := ⟨_, rfl⟩
    rw [hq2] at hq
    have nq : ¬ (0 : Int) < q := by omega
    replace cL : ∀ W : World, (Instr.slice 27 (.slice a1 m c1) (some (.int .i64 0)) none none).run Try.prog W = .ok (.slice a2 d cc) W := cL
    go_enter Try.func10, Try.ntmps10
    go_wp2_with (at_builtin; go_loud (refine wpList_appK rfl (.tmp 12) (.tmp 15) 27 rfl w.heap.size 5 .u8 1 bytesOf _ [] rfl ownE a2 d cc D rfl slA (by simp <;> omega) (by decide) hAE.size ?_))
    all_goals (
      intro a8 c8 V8 hO8 hG8 hq8
      have hA8 := hid (ownE.grew hG8 hAE (Nat.le_refl _) hAE.size)
      have hO9 : Own .u8 5 V8 w.heap.size (.slice a8 d c8) D := by first | exact hO8 | (have := hO8; rwa [List.nil_append, show ([] : List Int).length + d = d from Nat.zero_add _] at this)
      try rw [show ([] : List Int).length + d = d from Nat.zero_add _]
      replace hO9 := hid hO9
      clear hO8 hG8 hq8 ownE hAE slA
      go_wp2_with fail
      go_ret2
      exact ⟨a8, c8, rfl, hO9.out, hA8.out⟩)
  go_enter Try.func10, Try.ntmps10
  go_wp2_with (at_builtin; go_loud (refine wpList_appK rfl (.tmp 12) (.tmp 15) 27 rfl w.heap.size 5 .u8 1 bytesOf _ [] rfl ownE a2 d cc D rfl slA (by simp <;> omega) (by decide) hAE.size ?_))
  all_goals (
    intro a8 c8 V8 hO8 hG8 hq8
    have hA8 := hid (ownE.grew hG8 hAE (Nat.le_refl _) hAE.size)
    have hO9 : Own .u8 5 V8 w.heap.size (.slice a8 d c8) D := by first | exact hO8 | (have := hO8; rwa [List.nil_append, show ([] : List Int).length + d = d from Nat.zero_add _] at this)
    try rw [show ([] : List Int).length + d = d from Nat.zero_add _]
    replace hO9 := hid hO9
    clear hO8 hG8 hq8 ownE hAE slA
    go_wp2_with fail
    go_ret2
    exact ⟨a8, c8, rfl, hO9.out, hA8.out⟩)

end Go.Proofs.Ytaladglmomhndaa
