/- The laws of layer 35: BlockBurst. -/
import Derived.Test.YtmfhniekcbadlaaLaw35
import Derived.Test.YtmfhniekcbadlaaLaw05
import Derived.Deep.DeepCutAuto
namespace Go.Proofs.Ytmfhniekcbadlaa
open Go.ChangeShapes Go.WideShapes Go.ChangeAt Go.RowKit
set_option linter.unusedVariables false
set_option linter.unusedSimpArgs false

theorem numL_inj : ∀ {s t : List Int}, (∀ c ∈ s, 0 ≤ c ∧ c ≤ 255) → (∀ c ∈ t, 0 ≤ c ∧ c ≤ 255) → s.length = t.length → numL s = numL t → s = t
  | [], [], _, _, _, _ => rfl
  | [], _ :: _, _, _, h, _ => by simp at h
  | _ :: _, [], _, _, h, _ => by simp at h
  | x :: s, y :: t, hs, ht, hl, hn => by
    have h1 := hs x (by simp)
    have h2 := ht y (by simp)
    unfold numL at hn
    have h3 : x = y := by omega
    have h4 : numL s = numL t := by omega
    rw [h3, numL_inj (fun c hc => hs c (by simp [hc])) (fun c hc => ht c (by simp [hc])) (by simpa using hl) h4]
theorem putB_seal {no : Int} {l : List En} {L : List Int} (h : putB no l = (L, 0)) (hl : ∀ x ∈ l, EnOk x) : ∃ Z, L = crcSeal Z ∧ (∀ m ∈ Z, 0 ≤ m ∧ m ≤ 255) ∧ crcF 65535 L = 0 := by
  unfold putB at h
  split at h
  · split at h
    · cases h
    · have h1 : L = blockB no l := (congrArg Prod.fst h).symm
      refine ⟨fill (hdr no l.length ++ entS (0, zer12) l), h1, ?_, ?_⟩
      · refine bytes_bd (fill_wf (fun z hz => ?_))
        rcases List.mem_append.1 hz with hz | hz
        · exact hdr_wf _ _ z hz
        · exact entS_wf l _ stK0.2.2 hl z hz
      · rw [h1]
        refine crc_seal_zero _ (bytes_bd (fill_wf (fun z hz => ?_)))
        rcases List.mem_append.1 hz with hz | hz
        · exact hdr_wf _ _ z hz
        · exact entS_wf l _ stK0.2.2 hl z hz
  · cases h
set_option maxRecDepth 100000 in
set_option maxHeartbeats 8000000 in
theorem law_BlockBurst (a0_0 : Int) (a0_1 : Option Addr) (len0_1 cap0_1 : Nat) (x0_1 : List (List Value)) (a1 : Int) (a2 : Int) (W : World) (w0_0 : (Lit.int .u32 a0_0).wf = true) (w0_1 : Els W 14 a0_1 len0_1 cap0_1 x0_1) (t0_1 : ∀ x ∈ x0_1, (∃ (c0 : Bool) (c1 : Int) (c2 : Int) (c3 : Int) (c4 : Int) (c5 : Int) (c6 : Int) (c7 : Int) (c8 : Int) (c9 : Int) (c10 : Int) (c11 : Int) (c12 : Int) (c13 : Int), x = [.bool c0, .int .u32 c1, .int .i32 c2, .int .i32 c3, .int .i32 c4, .int .i32 c5, .int .i32 c6, .int .i32 c7, .int .i32 c8, .int .i32 c9, .int .i32 c10, .int .i32 c11, .int .i32 c12, .int .i32 c13] ∧ ((Lit.int .u32 c1).wf = true) ∧ ((Lit.int .i32 c2).wf = true) ∧ ((Lit.int .i32 c3).wf = true) ∧ ((Lit.int .i32 c4).wf = true) ∧ ((Lit.int .i32 c5).wf = true) ∧ ((Lit.int .i32 c6).wf = true) ∧ ((Lit.int .i32 c7).wf = true) ∧ ((Lit.int .i32 c8).wf = true) ∧ ((Lit.int .i32 c9).wf = true) ∧ ((Lit.int .i32 c10).wf = true) ∧ ((Lit.int .i32 c11).wf = true) ∧ ((Lit.int .i32 c12).wf = true) ∧ ((Lit.int .i32 c13).wf = true))) (w1 : (Lit.int .i64 a1).wf = true) (w2 : (Lit.int .u16 a2).wf = true) :
    Calls Try.prog 6 #[.agg #[.int .u32 a0_0, .slice a0_1 len0_1 cap0_1], .int .i64 a1, .int .u16 a2] W fun e w' => e = .returned (.bool true) ∧ Below W.heap.size W w' := by
  have hno := hid (u32_bd35 w0_0)
  obtain ⟨l, rfl, hwf⟩ := els_ents t0_1
  obtain rfl : l.length = len0_1 := by have := w0_1.1; simpa [entsV] using this
  replace hwf := hid hwf
  clear w0_0 t0_1
  have nw := alloc_new W (.cells #[.int .u32 a0_0, .slice a0_1 l.length cap0_1] 25)
  have hB := hid nw.2.1
  have rm := hid nw.2.2
  have hE := hid (w0_1.below nw.2.1)
  clear nw w0_1
  obtain ⟨V0, hV0⟩ : ∃ X, W.alloc (.cells #[.int .u32 a0_0, .slice a0_1 l.length cap0_1] 25) = X := ⟨_, rfl⟩
  rw [hV0] at hB rm hE
  obtain ⟨b1, b2⟩ := bounds_i64 w1
  obtain ⟨b3, b4⟩ := bounds_u16 w2
  obtain ⟨m, rfl⟩ := Int.eq_ofNat_of_zero_le b3
  clear w1 w2
  by_cases cb : (100 : Int) < l.length
  case pos =>
    have z0 := held_cell rm.out 0 _ rfl
    have z1 := held_cell rm.out 1 _ rfl
    go_enter Try.func6, Try.ntmps6
    go_wp2_with fail
    refine (knows35_any _).mono ?_
    rintro e V ⟨rfl, hst⟩
    replace hst := hid (bthen hB.out hst)
    go_wp2_with fail
    go_ret
    exact ⟨rfl, hst.out⟩
  have h100 : l.length ≤ 100 := by omega
  have pe := putB_e a0_0 l
  have hLl := putB_len (no := a0_0) (l := l)
  have hLw := hid (bytes_wf (putB_wf (no := a0_0) hwf.out))
  have hPT := hid (fun h : (putB a0_0 l).2 = 0 => takB_put hno.out (show l.length ≤ 255 by omega) hwf.out h)
  have hP0 := hid (fun h : (putB a0_0 l).2 ≠ 0 => putB_no h)
  obtain ⟨⟨L, ee⟩, hr⟩ : ∃ r, putB a0_0 l = r := ⟨_, rfl⟩
  rw [hr] at pe hLl hLw hPT hP0
  dsimp only at pe hLl hLw hPT hP0
  replace hr := hid hr
  have hSL := hid (fun h : ee = 0 => putB_seal (no := a0_0) (l := l) (L := L) (h ▸ hr.out))
  have z0 := held_cell rm.out 0 _ rfl
  have z1 := held_cell rm.out 1 _ rfl
  go_enter Try.func6, Try.ntmps6
  go_wp2_with fail
  clear hV0
  refine (knows35_any _).mono ?_
  rintro e V1 ⟨rfl, hA⟩
  replace hE := hid (hE.out.below hA)
  replace rm := hid (held_after hA rm.out)
  replace hB := hid (bthen hB.out hA)
  clear hA
  clear z0 z1
  have z0 := held_cell rm.out 0 _ rfl
  have z1 := held_cell rm.out 1 _ rfl
  go_wp2_with fail
  clear z0 z1
  refine (bput_any a0_0 a0_1 l.length cap0_1 l _ hno.out rfl hE.out (by omega) hwf.out).mono ?_
  rintro e V2 ⟨r1a, r1c, rfl, hO1, hA⟩
  replace hE := hid (hE.out.below hA)
  replace rm := hid (held_after hA rm.out)
  replace hB := hid (bthen hB.out hA)
  clear hA
  rw [hr.out] at hO1 ⊢
  dsimp only at hO1 ⊢
  replace hO1 := hid hO1
  go_wp2_with fail
  refine (num35_any ee _ (by omega) (by omega)).mono ?_
  rintro e V ⟨rfl, rfl⟩
  by_cases hee : ee = 0
  case neg =>
    have hne : (ee != 0) = true := by simp [hee]
    obtain rfl : L = [] := hP0.out hee
    clear hPT hP0
    replace hee := hid hee
    go_wp2_with fail
    go_ret
    exact ⟨ret_bool (by simp), hB.out⟩
  subst hee
  have hLn := hid (hPT.out rfl).1
  have hPT1 := (hPT.out rfl).2
  obtain ⟨ZZ, hZ1, hZ2, hZ3⟩ := hSL.out rfl hwf.out
  clear hPT hP0 hSL
  replace hPT1 := hid hPT1
  replace hZ1 := hid hZ1
  replace hZ2 := hid hZ2
  replace hZ3 := hid hZ3
  go_wp2_with fail
  refine (turned_any r1a L.length r1c L a1 m _ (by omega) hO1.out.slf hLw.out b1 b2 (by omega)).mono ?_
  rintro e V3 ⟨a3, c3, ys, any, rfl, own3, hA, hT⟩
  replace hE := hid (hE.out.below hA)
  replace hO1 := hid (hO1.out.below hA)
  replace rm := hid (held_after hA rm.out)
  replace hB := hid (bthen hB.out hA)
  clear hA
  have sl3 := hid own3.slf
  clear own3
  have hyl := hid sl3.out.1
  have hyb : ∀ c ∈ ys, 0 ≤ c ∧ c ≤ 255 := by
    rcases hT with ⟨_, rfl⟩ | ⟨k, n, _, _, _, hh, _⟩
    · exact bytes_bd hLw.out
    · exact hh.2.1
  have hopen : any = true → crcOpen ys = none := by
    intro ha
    rw [crcOpen_is ys 254 (by have := hLn.out; have := hyl.out; omega) hyb]
    rcases hT with ⟨h9, _⟩ | ⟨k, n, rfl, hk, hn, hh, h9⟩
    · rw [ha] at h9; cases h9
    · have hp : m % 2 ^ n < 65536 := by have := Nat.mod_le m (2 ^ n); omega
      have h := crc_burst L ys k (m % 2 ^ n) (bytes_bd hLw.out) hyb hh.1 hZ3.out hh.2.2 hp (by omega)
      rw [ha] at h9
      rw [if_neg (fun x => (of_decide_eq_true h9.symm) (h.1 x))]
  have hsame : any = false → ys = L := by
    intro ha
    rcases hT with ⟨_, h9⟩ | ⟨k, n, rfl, hk, hn, hh, h9⟩
    · exact h9
    · have h0 : m % 2 ^ n = 0 := by rw [ha] at h9; have := of_decide_eq_false h9.symm; omega
      have h2 := hh.2.2
      rw [h0, Nat.mul_zero, Nat.xor_zero] at h2
      exact numL_inj hh.2.1 (bytes_bd hLw.out) hh.1 h2
  have hyw := hid (bytes_wf hyb)
  clear hT hyb
  replace hopen := hid hopen
  replace hsame := hid hsame
  cases any
  case true =>
    have ht4 := takB_sum (zs := ys) (by have := hLn.out; have := hyl.out; omega) (hopen.out rfl)
    replace ht4 := hid ht4
    clear hopen hsame
    go_wp2_with fail
    refine (btake_any a3 L.length c3 ys _ sl3.out hyw.out (by omega)).mono ?_
    rintro e V4 ⟨r7a, r7c, rfl, hE7, hA⟩
    replace hE := hid (hE.out.below hA)
    replace hO1 := hid (hO1.out.below hA)
    replace sl3 := hid (sl3.out.below hA)
    replace rm := hid (held_after hA rm.out)
    replace hB := hid (bthen hB.out hA)
    clear hA
    rw [ht4.out] at hE7 ⊢
    dsimp only at hE7 ⊢
    simp only [List.length_nil] at hE7 ⊢
    replace hE7 := hid hE7
    have nw := alloc_new V4 (.cells #[.int .u32 0, .slice r7a 0 r7c] 25)
    have hA := nw.2.1
    have rk7 := nw.2.2
    clear nw
    go_upto_region 8 with (fail)
    obtain ⟨V5, hV5⟩ : ∃ X, V4.alloc (.cells #[.int .u32 0, .slice r7a 0 r7c] 25) = X := ⟨_, rfl⟩
    rw [hV5] at hA rk7 ⊢
    obtain ⟨qk7, hqk7⟩ : ∃ X, V4.heap.size = X := ⟨_, rfl⟩
    rw [hqk7] at rk7 ⊢
    replace hV5 := hid hV5
    replace hqk7 := hid hqk7
    replace hE := hid (hE.out.below hA)
    replace hO1 := hid (hO1.out.below hA)
    replace sl3 := hid (sl3.out.below hA)
    replace hE7 := hid (hE7.out.below hA)
    replace rm := hid (held_after hA rm.out)
    replace hB := hid (bthen hB.out hA)
    clear hA
    replace rk7 := hid rk7
    go_wp2_with fail
    refine (num35_any 4 _ (by omega) (by omega)).mono ?_
    rintro e V ⟨rfl, rfl⟩
    go_wp2_with fail
    refine (num35_any 4 _ (by omega) (by omega)).mono ?_
    rintro e V ⟨rfl, rfl⟩
    have z0 := held_cell rk7.out 0 _ rfl
    have z1 := held_cell rk7.out 1 _ rfl
    go_wp2_with fail
    clear z0 z1
    refine (sameB_any 0 r7a none r7c 0 0 [] _ rfl hE7.out (Els.nil _ _) (by simp) (fun x hx => by cases hx)).mono ?_
    rintro e V6 ⟨rfl, hA⟩
    replace hE := hid (hE.out.below hA)
    replace hO1 := hid (hO1.out.below hA)
    replace sl3 := hid (sl3.out.below hA)
    replace hE7 := hid (hE7.out.below hA)
    replace rm := hid (held_after hA rm.out)
    replace rk7 := hid (held_after hA rk7.out)
    replace hB := hid (bthen hB.out hA)
    clear hA
    go_wp2_with fail
    go_ret
    exact ⟨ret_bool (by simp), hB.out⟩
  have hys := hsame.out rfl
  subst hys
  clear hopen hsame
  go_wp2_with fail
  refine (btake_any a3 ys.length c3 ys _ sl3.out hyw.out (by omega)).mono ?_
  rintro e V4 ⟨r7a, r7c, rfl, hE7, hA⟩
  replace hE := hid (hE.out.below hA)
  replace hO1 := hid (hO1.out.below hA)
  replace sl3 := hid (sl3.out.below hA)
  replace rm := hid (held_after hA rm.out)
  replace hB := hid (bthen hB.out hA)
  clear hA
  rw [hPT1.out] at hE7 ⊢
  dsimp only at hE7 ⊢
  replace hE7 := hid hE7
  have nw := alloc_new V4 (.cells #[.int .u32 a0_0, .slice r7a l.length r7c] 25)
  have hA := nw.2.1
  have rk7 := nw.2.2
  clear nw
  go_upto_region 8 with (fail)
  obtain ⟨V5, hV5⟩ : ∃ X, V4.alloc (.cells #[.int .u32 a0_0, .slice r7a l.length r7c] 25) = X := ⟨_, rfl⟩
  rw [hV5] at hA rk7 ⊢
  obtain ⟨qk7, hqk7⟩ : ∃ X, V4.heap.size = X := ⟨_, rfl⟩
  rw [hqk7] at rk7 ⊢
  replace hV5 := hid hV5
  replace hqk7 := hid hqk7
  replace hE := hid (hE.out.below hA)
  replace hO1 := hid (hO1.out.below hA)
  replace sl3 := hid (sl3.out.below hA)
  replace hE7 := hid (hE7.out.below hA)
  replace rm := hid (held_after hA rm.out)
  replace hB := hid (bthen hB.out hA)
  clear hA
  replace rk7 := hid rk7
  go_wp2_with fail
  refine (num35_any 0 _ (by omega) (by omega)).mono ?_
  rintro e V ⟨rfl, rfl⟩
  have z0 := held_cell rk7.out 0 _ rfl
  have z1 := held_cell rk7.out 1 _ rfl
  have y0 := held_cell rm.out 0 _ rfl
  have y1 := held_cell rm.out 1 _ rfl
  go_wp2_with fail
  clear z0 z1 y0 y1
  refine (sameB_any a0_0 r7a a0_1 r7c cap0_1 l.length l _ rfl hE7.out hE.out (by omega) hwf.out).mono ?_
  rintro e V6 ⟨rfl, hA⟩
  replace hE := hid (hE.out.below hA)
  replace hO1 := hid (hO1.out.below hA)
  replace sl3 := hid (sl3.out.below hA)
  replace hE7 := hid (hE7.out.below hA)
  replace rm := hid (held_after hA rm.out)
  replace rk7 := hid (held_after hA rk7.out)
  replace hB := hid (bthen hB.out hA)
  clear hA
  go_wp2_with fail
  go_ret
  exact ⟨ret_bool (by simp), hB.out⟩

end Go.Proofs.Ytmfhniekcbadlaa
