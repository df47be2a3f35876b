/- Package block: the papers' Put. -/
import Derived.Test.YtlfbhfmchdbnoaaBlk7
import Derived.Deep.DeepCutAuto
namespace Go.Proofs.Ytlfbhfmchdbnoaa
open Go.ChangeShapes Go.WideShapes Go.ChangeAt Go.RowKit
set_option linter.unusedVariables false
set_option linter.unusedSimpArgs false

theorem kpb {N : Nat} {w w' : World} (h : Below N w w') : Kp N [] w w' := ⟨h.os, h.tape, h.output, h.size, fun k hk _ => h.block k hk⟩
theorem own_geb {k : IntKind} {E : TypeId} {W : World} {base g : Nat} {v : Value} {zs : List Int} (h : Own k E W base v zs) (e : v.ownBlock = some g) : base ≤ g := by
  rcases h.2 with ⟨rfl, _⟩ | ⟨g', cap, cur, rfl, hb, _⟩
  · cases e
  · have : g' = g := by simpa [Value.ownBlock] using e
    omega
theorem rep_snoc (Z : List Int) (j : Nat) : (Z ++ List.replicate j 0) ++ [0] = Z ++ List.replicate (j + 1) 0 := by
  rw [List.append_assoc, List.replicate_succ']
set_option maxRecDepth 100000 in
set_option maxHeartbeats 8000000 in
theorem rbput_any (no : Nat) (a : Option Addr) (m cap : Nat) (l : List En) (w : World) (hno : no ≤ 4294967295) (hm : l.length = m) (hE : Els w 14 a m cap (entsV l)) (h255 : m ≤ 255) (hl : ∀ x ∈ l, EnOk x) : Calls Try.prog 39 #[.agg #[.int .u32 (no : Int), .slice a m cap]] w (BpOk w (putB no l)) := by
  have kS := fun U (hU : Els U 14 a m cap (entsV l)) => rentries_any a cap l U (by rw [hm]; exact hU) (by omega) hl
  rw [hm] at kS
  replace kS := hid kS
  obtain ⟨r, hr⟩ : ∃ r, putB no l = r := ⟨_, rfl⟩
  rw [hr]
  have hewf := entS_wf l (0, zer12) (by intro y hy; simp [zer12] at hy; subst hy; decide) hl
  replace hewf := hid hewf
  replace hl := hid hl
  replace hE := hid hE
  obtain ⟨S, hS⟩ : ∃ S, entS (0, zer12) l = S := ⟨_, rfl⟩
  rw [hS] at kS hewf
  obtain ⟨K, hK0⟩ : ∃ K, keyed l = K := ⟨_, rfl⟩
  have hr1 : r = if K then if 248 < S.length then ([], 8) else (crcSeal (fill (hdr no m ++ S)), 0) else ([], 1) := by rw [← hr, putB, hK0, hS, blockB, hm, hS]
  clear hr hS
  replace hr1 := hid hr1
  have hk := fun U (hU : Els U 14 a m cap (entsV l)) => bkey_at hm hU
  rw [hK0] at hk
  clear hK0
  replace hm := hid hm
  go_enter Try.func39, Try.ntmps39
  go_upto_region 0 with (fail)
  apply wp_region_seg0 (w := w) (S := [.al 1000, .q [], .q []]) (E := [.al ((fun p => .pointer (some ⟨p, 0, none⟩)), _) 1000, .q0 _, .q0 _]) rfl (by kernel_rfl) rfl rfl
  intro th hge hne
  refine Seg.step _ rfl ⟨by rfl, fun U hU => ?_⟩ ?_
  · go_simp; exact vp_alloc rfl rfl rfl
  refine ⟨_, by (simp only [Ent.val]; go_simp <;> exact rfl), ?_⟩
  refine Seg.step _ rfl (Or.inl ⟨by rfl, fun U hU => vp_quiet (by (go_simp <;> exact rfl))⟩) ⟨_, by (simp only [Ent.val]; go_simp <;> exact rfl), ?_⟩
  refine Seg.step _ rfl (Or.inl ⟨by rfl, fun U hU => vp_quiet (by (go_simp <;> exact rfl))⟩) ⟨_, by (simp only [Ent.val]; go_simp <;> exact rfl), ?_⟩
  refine Seg.stop (fun U1 hU hk => ?_)
  have nb0 := hge 0 _ _ rfl
  have rb0 := (hk 0 _ _ rfl trivial).1.2 (by simp)
  clear hk hge hne
  generalize th (0 + 0) = p0_0 at *
  dsimp only at rb0
  have r_p0_0 := rb0
  clear rb0
  have n_p0_0 := nb0
  clear nb0
  have sz1 := hU.size
  have hB : Below w.heap.size w U1 := hU
  clear hU
  go_upto_region 1 with (fail)
  have c0 := held_cell r_p0_0 0 _ rfl
  have c1 := held_cell r_p0_0 1 _ rfl
  have sB := hB.size
  have hE1 := hE.out.below hB
  replace hB := hid hB
  by_cases hm0 : m = 0
  case pos =>
    have hf := (hk w hE.out).1 hm0
    subst hf
    have q0 : ((m : Int) == 0) = true := by rw [hm0]; rfl
    clear hk
    go_wp2_with fail
    go_ret2
    rw [hr1.out]
    exact bp_none 1 hB.out
  obtain ⟨b, off, ha, cK⟩ := (hk _ hE1).2 hm0
  clear hk
  subst ha
  have q0 : ((m : Int) == 0) = false := by simpa using hm0
  have qm : 0 < m := by omega
  have qm2 : (0 : Int) < (m : Int) := by omega
  cases K
  case false =>
    go_wp2_with fail
    go_ret2
    rw [hr1.out]
    exact bp_none 1 hB.out
  go_upto_region 3 with (fail)
  go_wp2_with fail
  refine (kS.out _ hE1).mono ?_
  rintro e V1 ⟨sa, sc, rfl, hO, hA⟩
  have r1 := held_after hA r_p0_0
  have hB1 := bthen hB.out hA
  have hSb := hid hO.slf
  clear hO hA hB r_p0_0 c0 c1 cK q0 qm qm2 hm0 kS hE1
  replace hB1 := hid hB1
  obtain ⟨sn, hsn⟩ : ∃ n, S.length = n := ⟨_, rfl⟩
  rw [hsn] at hSb hr1 ⊢
  replace hsn := hid hsn
  by_cases h248 : 248 < sn
  case pos =>
    have q8 : (248 : Int) < (sn : Int) := by omega
    go_wp2_with fail
    go_ret2
    rw [show r = ([], 8) from hr1.out.trans (by simp [h248])]
    exact bp_none 8 hB1.out
  have hr2 : r = (crcSeal (fill (hdr no m ++ S)), 0) := hr1.out.trans (by simp [h248])
  replace hr2 := hid hr2
  clear hr1
  have q8 : ¬ (248 : Int) < (sn : Int) := by omega
  have hHl := hdr_len no m
  have hHe : hdr no m = [76, (m : Int)] ++ bytesL no 4 := by rw [hdr, show (m : Int) % 256 = m by omega]; rfl
  have hHw := hid (hdr_wf no m)
  obtain ⟨H, hH⟩ : ∃ H, hdr no m = H := ⟨_, rfl⟩
  rw [hH] at hHl hHe hr2 hHw
  clear hH
  replace hHe := hid hHe
  have w8 : IntKind.u8.wrap (m : Int) = (m : Int) := by rw [IntKind.wrap_u8]; omega
  have wno : IntKind.u64.wrap (no : Int) = (no : Int) := by rw [IntKind.wrap_u64]; omega
  have s1 := hB1.out.size
  go_upto_region 6 with (fail)
  go_cut [5] from 24 to 33 (fun s5 wx => ∃ (ad : Option Addr) (cp : Nat), s5 = .slice ad 6 cp ∧ Own .u8 5 wx w.heap.size (.slice ad 6 cp) H ∧ After V1 wx)
  case first =>
    obtain ⟨QQ, hQQ⟩ : ∃ X, V1.drew = X := ⟨_, rfl⟩
    have rQ := (show V1.drew.heap[p0_0]? = _ from r1)
    rw [hQQ] at rQ
    have hQ := Below.refl QQ.heap.size QQ
    have lra := held_lt rQ
    have hl3 := hid (show ([76, (m : Int)] : List Int).length + (bytesL (no : Int) 4).length ≤ 140737488355328 / 1 by rw [bytesL_len]; simp)
    refine wp_region_K (N := QQ.heap.size) (X := []) (by kernel_rfl) ?_
    rw [hQQ]
    refine wpAnyK_take 0 rfl (by kernel_rfl) (by kernel_rfl) (by kernel_rfl) (fun _ _ _ _ h => h) ⟨_, Or.inl ⟨by rfl, fun w2 hb => by (go_simp; try with_reducible rfl)⟩, _, by (go_simp; try rfl), ?_⟩
    refine wpAnyK_take 1 rfl (by kernel_rfl) (by kernel_rfl) (by kernel_rfl) (fun _ _ _ _ h => h) ⟨_, Or.inl ⟨by rfl, fun w2 hb => by (have g1 := hb.cellB (p := ⟨p0_0, 1, none⟩) (by show p0_0 < _; exact lra) (by simp) (held_cell rQ 1 _ rfl); go_simp; try with_reducible rfl)⟩, _, by (go_simp; try rfl), ?_⟩
    refine wpAnyK_take 2 rfl (by kernel_rfl) (by kernel_rfl) (by kernel_rfl) (fun _ _ _ _ h => h) ⟨_, Or.inl ⟨by rfl, fun w2 hb => by (go_simp; try with_reducible rfl)⟩, _, by (go_simp; try rfl), ?_⟩
    refine wpAnyK_take 3 rfl (by kernel_rfl) (by kernel_rfl) (by kernel_rfl) (fun _ _ _ _ h => h) ⟨_, Or.inl ⟨by rfl, fun w2 hb => by (go_simp; try with_reducible rfl)⟩, _, by (go_simp; try rfl), ?_⟩
    refine wpAnyK_take 5 rfl (by kernel_rfl) (by kernel_rfl) (by kernel_rfl) (fun _ _ _ _ h => h) ⟨_, Or.inl ⟨by rfl, fun w2 hb => by (go_simp; try with_reducible rfl)⟩, _, by (go_simp; try rfl), ?_⟩
    refine wpAnyK_take 6 rfl (by kernel_rfl) (by kernel_rfl) (by kernel_rfl) (fun _ _ _ _ h => h) ⟨_, Or.inl ⟨by rfl, fun w2 hb => by (have g0 := hb.cellB (p := ⟨p0_0, 0, none⟩) (by show p0_0 < _; exact lra) (by simp) (held_cell rQ 0 _ rfl); go_simp; try with_reducible rfl)⟩, _, by (go_simp; try rfl), ?_⟩
    refine wpAnyK_take 7 rfl (by kernel_rfl) (by kernel_rfl) (by kernel_rfl) (fun _ _ _ _ h => h) ⟨_, Or.inl ⟨by rfl, fun w2 hb => by (go_simp; try with_reducible rfl)⟩, _, by (go_simp; try rfl), ?_⟩
    refine wpAnyK_two 4 8 rfl rfl (by kernel_rfl) (by rfl) (by rfl) (fun K hK => ?_) (fun K hK => ?_)
    · go_simp
      have nw := alloc_new QQ (.cells #[.int .u8 76, .int .u8 (m : Int)] 5)
      have own := Own.lit .u8 5 QQ [76, (m : Int)] QQ.heap.size hQ.size (by unfold maxLen; simp) #[.int .u8 76, .int .u8 (m : Int)] rfl
      have kp := Kp.of (X := []) nw.2.1 hQ.size
      replace hQ := bthen hQ nw.2.1
      clear nw
      obtain ⟨Y1, hY1⟩ : ∃ X, QQ.alloc (.cells #[.int .u8 76, .int .u8 (m : Int)] 5) = X := ⟨_, rfl⟩
      rw [hY1] at own kp hQ ⊢
      clear hY1
      refine hK _ _ ⟨kp, ?_⟩
      clear hK
      clear kp
      refine wpAnyK_only 8 rfl (by kernel_rfl) (by rfl) (fun K hK => ?_)
      go_simp
      refine (rbytes_any 4 (by omega) no (by omega) _).mono ?_
      rintro e Y2 ⟨ba, bc, rfl, hOb, hA⟩
      have kp := Kp.of (X := []) hA hQ.size
      have slb := hOb.slf
      replace hQ := bthen hQ hA
      replace own := own.below hA
      clear hA hOb
      go_simp
      refine hK _ _ ⟨kp, ?_⟩
      clear hK
      clear kp
      refine wpAnyK_only 9 rfl (by kernel_rfl) (by rfl) (fun K hK => ?_)
      refine wp_app _ (.tmp 28) (.tmp 32) 22 rfl QQ.heap.size 5 .u8 1 bytesOf (.slice (some ⟨QQ.heap.size, 0, none⟩) 2 2) [76, (m : Int)] rfl own ba bc (bytesL (no : Int) 4) rfl slb.2.2.2.2 slb.2.2.2.1 hl3.out (by omega) hQ.size ?_
      intro v9 Y3 hO9 hG
      have kp : Kp QQ.heap.size [] Y2 Y3 := kpb ((Below.refl QQ.heap.size Y2).grown hG hQ.size (fun k e => own_geb own e))
      replace hQ := own.grew hG hQ (Nat.le_refl _) hQ.size
      rw [← hHe.out] at hO9
      obtain ⟨ga, gc, hv9, -⟩ := hO9.sl
      subst hv9
      rw [hHl] at hO9 ⊢
      clear own hG
      refine hK _ _ ⟨kp, ?_⟩
      clear hK
      clear kp
      refine wpAnyK_take 10 rfl (by kernel_rfl) (by kernel_rfl) (by kernel_rfl) (fun _ _ _ _ h => h) ⟨_, Or.inl ⟨by rfl, fun w2 hb => by (go_simp; try with_reducible rfl)⟩, _, by (go_simp; try rfl), ?_⟩
      refine wpAnyK_done (by kernel_rfl) ?_ _
      have hA : After V1 Y3 := bthen (Below.refl V1.heap.size V1).drew (show Below V1.drew.heap.size V1.drew Y3 from by rw [hQQ]; exact hQ)
      have eQ : QQ.heap.size = V1.heap.size := by rw [← hQQ]; rfl
      have hO8 : Own .u8 5 Y3 w.heap.size (.slice ga 6 gc) H := hO9.base (by omega)
      clear hQ rQ hl3 hQQ hO9
      go_wp2_with fail
      go_meet
      exact ⟨_, _, rfl, hO8, hA⟩
    · go_simp
      refine (rbytes_any 4 (by omega) no (by omega) _).mono ?_
      rintro e Y1 ⟨ba, bc, rfl, hOb, hA⟩
      have kp := Kp.of (X := []) hA hQ.size
      have slb := hOb.slf
      replace hQ := bthen hQ hA
      clear hA hOb
      go_simp
      refine hK _ _ ⟨kp, ?_⟩
      clear hK
      clear kp
      refine wpAnyK_only 4 rfl (by kernel_rfl) (by rfl) (fun K hK => ?_)
      go_simp
      have nw := alloc_new Y1 (.cells #[.int .u8 76, .int .u8 (m : Int)] 5)
      have own := Own.lit .u8 5 Y1 [76, (m : Int)] QQ.heap.size hQ.size (by unfold maxLen; simp) #[.int .u8 76, .int .u8 (m : Int)] rfl
      have kp := Kp.of (X := []) nw.2.1 hQ.size
      replace hQ := bthen hQ nw.2.1
      replace slb := slb.below nw.2.1
      clear nw
      obtain ⟨Y2, hY2⟩ : ∃ X, Y1.alloc (.cells #[.int .u8 76, .int .u8 (m : Int)] 5) = X := ⟨_, rfl⟩
      rw [hY2] at own kp hQ slb ⊢
      clear hY2
      refine hK _ _ ⟨kp, ?_⟩
      clear hK
      clear kp
      refine wpAnyK_only 9 rfl (by kernel_rfl) (by rfl) (fun K hK => ?_)
      refine wp_app _ (.tmp 28) (.tmp 32) 22 rfl QQ.heap.size 5 .u8 1 bytesOf (.slice (some ⟨Y1.heap.size, 0, none⟩) 2 2) [76, (m : Int)] rfl own ba bc (bytesL (no : Int) 4) rfl slb.2.2.2.2 slb.2.2.2.1 hl3.out (by omega) hQ.size ?_
      intro v9 Y3 hO9 hG
      have kp : Kp QQ.heap.size [] Y2 Y3 := kpb ((Below.refl QQ.heap.size Y2).grown hG hQ.size (fun k e => own_geb own e))
      replace hQ := own.grew hG hQ (Nat.le_refl _) hQ.size
      rw [← hHe.out] at hO9
      obtain ⟨ga, gc, hv9, -⟩ := hO9.sl
      subst hv9
      rw [hHl] at hO9 ⊢
      clear own hG
      refine hK _ _ ⟨kp, ?_⟩
      clear hK
      clear kp
      refine wpAnyK_take 10 rfl (by kernel_rfl) (by kernel_rfl) (by kernel_rfl) (fun _ _ _ _ h => h) ⟨_, Or.inl ⟨by rfl, fun w2 hb => by (go_simp; try with_reducible rfl)⟩, _, by (go_simp; try rfl), ?_⟩
      refine wpAnyK_done (by kernel_rfl) ?_ _
      have hA : After V1 Y3 := bthen (Below.refl V1.heap.size V1).drew (show Below V1.drew.heap.size V1.drew Y3 from by rw [hQQ]; exact hQ)
      have eQ : QQ.heap.size = V1.heap.size := by rw [← hQQ]; rfl
      have hO8 : Own .u8 5 Y3 w.heap.size (.slice ga 6 gc) H := hO9.base (by omega)
      clear hQ rQ hl3 hQQ hO9
      go_wp2_with fail
      go_meet
      exact ⟨_, _, rfl, hO8, hA⟩
  case rest =>
    obtain ⟨ad, cp, rfl, hO, hA⟩ := hcut
    have e9 := hsn.out
    subst e9
    have hB2 := hid (bthen hB1.out hA)
    have hSb2 := hid (hSb.out.below hA)
    clear hA hSb hB1 r1 s1 w8 wno q8 hHe
    replace hO := hid hO
    have s2 := hB2.out.size
    have hla := hid (show H.length + S.length ≤ 140737488355328 / 1 by rw [hHl]; omega)
    have hHl2 := hid hHl
    rw [← hHl] at hO ⊢
    clear hHl
    go_wp2_with (first | (at_builtin; refine wpList_app _ rfl (.tmp 34) (.tmp 35) 22 rfl w.heap.size 5 .u8 1 bytesOf (.slice ad H.length cp) H rfl hO.out sa sc S rfl hSb2.out.2.2.2.2 hSb2.out.2.2.2.1 hla.out (by omega) s2 ?_))
    intro v9 w9 hO9 hG
    obtain ⟨ga, gc, hv9, -⟩ := hO9.sl
    subst hv9
    have hB9 := hid (hO.out.grew hG hB2.out (Nat.le_refl _) s2)
    have hwf := hid (show ∀ y ∈ H ++ S, (Lit.int .u8 y).wf = true from fun y hy => (List.mem_append.1 hy).elim (hHw.out y) (hewf.out y))
    have hZl : (H ++ S).length = 6 + S.length := by rw [List.length_append, hHl2.out]
    obtain ⟨Z, hZ⟩ : ∃ Z, H ++ S = Z := ⟨_, rfl⟩
    rw [hZ] at hO9 hwf hZl hr2 ⊢
    clear hG hO hB2 hSb2 s2 hla hZ hHw hewf
    have hZl2 := hid hZl
    replace hO9 := hid hO9
    go_wp2_with fail
    go_loopw [5] (fun ov wr => ∃ (j : Nat) (ad : Option Addr) (cp : Nat) (L : List Int) (n : Nat), ov = .slice ad n cp ∧ n = 6 + S.length + j ∧ n ≤ 254 ∧ Hid (L = Z ++ List.replicate j 0) ∧ Hid (L.length = n) ∧ Own .u8 5 wr w.heap.size (.slice ad n cp) L ∧ Below w.heap.size w wr) (fun ov _ => 254 - (match ov with | .slice _ n _ => n | _ => 0))
    case atStart => exact ⟨0, ga, gc, Z, 6 + S.length, by rw [← hZl2.out], rfl, by omega, hid (by simp), hid hZl2.out, by rw [← hZl2.out]; exact hO9.out, hB9.out⟩
    case round =>
      clear hO9 hB9 hZl
      obtain ⟨j, ad, cp, L, n, rfl, hn, hn4, hL, hLn, hO, hB⟩ := hrel
      have sB := hB.size
      replace hO := hid hO
      replace hB := hid hB
      by_cases hlt : n < 254
      case neg =>
        obtain rfl : n = 254 := by omega
        have hLf : L = fill Z := by rw [hL.out, fill, hZl2.out, show 254 - (6 + S.length) = j by omega]
        have hq : ¬ (254 : Int) < 254 := by decide
        have hLw := hid (show ∀ y ∈ L, (Lit.int .u8 y).wf = true from by rw [hLf]; exact fill_wf hwf.out)
        rw [← hLf] at hr2
        clear hL hLf hn hn4
        go_wp2_with fail
        refine (rseal_any ad 254 cp L _ (by omega) hO.out.slf hLw.out).mono ?_
        rintro e V8 ⟨a8, c8, rfl, hO8, hA⟩
        have hB8 := hid (bthen hB.out hA)
        have hO8 := hid (hO8.base sB)
        clear hA hB hO
        obtain ⟨Y, hY⟩ : ∃ Y, crcSeal L = Y := ⟨_, rfl⟩
        rw [hY] at hO8 hr2 ⊢
        clear hY
        go_wp2_with fail
        go_ret2
        rw [hr2.out]
        exact ⟨a8, c8, rfl, hO8.out, hB8.out⟩
      have q1 : (n : Int) < 254 := by omega
      have hsz := hid (show L.length + [(0 : Int)].length ≤ 140737488355328 / 1 by rw [hLn.out]; simp; omega)
      have hn9 := hid (show n + 1 = 6 + S.length + (j + 1) ∧ n + 1 ≤ 254 by omega)
      have hms := hid (show 254 - (n + 1) < 254 - n by omega)
      have nE := alloc_new wr (.cells #[.int .u8 0] 5)
      have own := Own.lit .u8 5 wr [0] w.heap.size sB (by unfold maxLen; simp) #[.int .u8 0] rfl
      have hAE := nE.2.1
      have sl0 := own.slf
      have hO1 := hO.out.below hAE
      have hB1 := bthen hB.out hAE
      clear nE own
      obtain ⟨W1, hW1⟩ : ∃ X, wr.alloc (.cells #[.int .u8 0] 5) = X := ⟨_, rfl⟩
      rw [hW1] at sl0 hO1 hB1
      obtain ⟨px, hpx⟩ : ∃ X, wr.heap.size = X := ⟨_, rfl⟩
      rw [hpx] at sl0
      have sW := hB1.size
      replace sl0 := hid sl0
      replace hO1 := hid hO1
      replace hB1 := hid hB1
      clear hAE hn hn4 hlt hO hB
      skip
      have hO2 := hid (show Own .u8 5 W1 w.heap.size (.slice ad L.length cp) L by rw [hLn.out]; exact hO1.out)
      go_wp2_with (first | (at_builtin; refine wpList_app _ rfl (.tmp 40) (.tmp 41) 22 rfl w.heap.size 5 .u8 1 bytesOf (.slice ad n cp) L rfl hO1.out (some ⟨px, 0, none⟩) 1 [0] rfl sl0.out.2.2.2.2 sl0.out.2.2.2.1 hsz.out (by omega) sW ?_))
      intro v9 w9 hO9 hG
      obtain ⟨ga, gc, hv9, -⟩ := hO9.sl
      subst hv9
      have hB9 := hid (hO1.out.grew hG hB1.out (Nat.le_refl _) sW)
      have hL9 : L ++ [0] = Z ++ List.replicate (j + 1) 0 := by rw [hL.out]; exact rep_snoc Z j
      have hl9 : (L ++ [0]).length = n + 1 := by rw [List.length_append, hLn.out]; rfl
      rw [hl9] at hO9 ⊢
      obtain ⟨M, hM⟩ : ∃ M, L ++ [0] = M := ⟨_, rfl⟩
      rw [hM] at hO9 hL9 hl9
      replace hL9 := hid hL9
      replace hl9 := hid hl9
      replace hO9 := hid hO9
      clear hG hM hO1 hB1 hO2 sl0 hL hLn
      go_wp2_with fail
      go_roundw
      case rel => exact ⟨j + 1, ga, gc, M, n + 1, rfl, hn9.out.1, hn9.out.2, hL9, hl9, hO9.out, hB9.out⟩
      case measure => exact hms.out

end Go.Proofs.Ytlfbhfmchdbnoaa
