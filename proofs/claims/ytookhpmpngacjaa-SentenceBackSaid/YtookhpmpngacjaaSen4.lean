/- Package sentence: the papers' letters, signs, Put. -/
import Derived.Test.YtookhpmpngacjaaSen3
import Derived.Deep.DeepCutAuto
namespace Go.Proofs.Ytookhpmpngacjaa
open Go.ChangeShapes Go.WideShapes Go.ChangeAt Go.RowKit
set_option linter.unusedVariables false
set_option linter.unusedSimpArgs false

set_option maxRecDepth 100000 in
set_option maxHeartbeats 8000000 in
theorem rletter_any (c : Nat) (w : World) (hc : c ≤ 255) : Calls Try.prog 36 #[.int .u8 (c : Int)] w fun e w' => e = .returned (.bool (letN c)) ∧ w' = w := by
  by_cases a : 32 ≤ c
  case neg =>
    have a2 : ¬ (32 : Int) ≤ c := by omega
    have hf := hid (show letN c = false by unfold letN; simp; omega)
    go_enter Try.func36, Try.ntmps36
    go_wp2_with fail
    go_ret
    exact ⟨by rw [hf.out]; rfl, rfl⟩
  have a2 : (32 : Int) ≤ c := by omega
  by_cases b : c ≤ 126
  case neg =>
    have b2 : ¬ (c : Int) ≤ 126 := by omega
    have hf := hid (show letN c = false by unfold letN; simp; omega)
    go_enter Try.func36, Try.ntmps36
    go_wp2_with fail
    go_ret
    exact ⟨by rw [hf.out]; rfl, rfl⟩
  have b2 : (c : Int) ≤ 126 := by omega
  by_cases h33 : c = 33
  case pos =>
    subst h33
    have hf := hid (show letN 33 = false from rfl)
    go_enter Try.func36, Try.ntmps36
    go_wp2_with fail
    go_ret
    exact ⟨by rw [hf.out]; rfl, rfl⟩
  have q33 : ((c : Int) != 33) = true := by simp; omega
  by_cases h36 : c = 36
  case pos =>
    subst h36
    have hf := hid (show letN 36 = false from rfl)
    go_enter Try.func36, Try.ntmps36
    go_wp2_with fail
    go_ret
    exact ⟨by rw [hf.out]; rfl, rfl⟩
  have q36 : ((c : Int) != 36) = true := by simp; omega
  by_cases h42 : c = 42
  case pos =>
    subst h42
    have hf := hid (show letN 42 = false from rfl)
    go_enter Try.func36, Try.ntmps36
    go_wp2_with fail
    go_ret
    exact ⟨by rw [hf.out]; rfl, rfl⟩
  have q42 : ((c : Int) != 42) = true := by simp; omega
  by_cases h92 : c = 92
  case pos =>
    subst h92
    have hf := hid (show letN 92 = false from rfl)
    go_enter Try.func36, Try.ntmps36
    go_wp2_with fail
    go_ret
    exact ⟨by rw [hf.out]; rfl, rfl⟩
  have q92 : ((c : Int) != 92) = true := by simp; omega
  by_cases h94 : c = 94
  case pos =>
    subst h94
    have hf := hid (show letN 94 = false from rfl)
    go_enter Try.func36, Try.ntmps36
    go_wp2_with fail
    go_ret
    exact ⟨by rw [hf.out]; rfl, rfl⟩
  have q94 : ((c : Int) != 94) = true := by simp; omega
  by_cases h126 : c = 126
  case pos =>
    subst h126
    have hf := hid (show letN 126 = false from rfl)
    go_enter Try.func36, Try.ntmps36
    go_wp2_with fail
    go_ret
    exact ⟨by rw [hf.out]; rfl, rfl⟩
  have q126 : ((c : Int) != 126) = true := by simp; omega
  have hf := hid (show letN c = true by unfold letN; simp; omega)
  clear h33 h36 h42 h92 h94 h126
  go_enter Try.func36, Try.ntmps36
  go_wp2_with fail
  go_ret
  exact ⟨by rw [hf.out]; rfl, rfl⟩
set_option maxRecDepth 100000 in
set_option maxHeartbeats 8000000 in
theorem rletters_any (s : ByteArray) (w : World) (hb : s.size ≤ 100000) : Calls Try.prog 21 #[.string s] w fun e w' => e = .returned (.bool ((sb s).all fldN)) ∧ w' = w := by
  have hsl := hid (sb_len s)
  obtain ⟨N, hN⟩ : ∃ N, s.size = N := ⟨_, rfl⟩
  have hNs : (s.size : Int) = (N : Int) := by omega
  rw [hN] at hb
  replace hN := hid hN
  go_enter Try.func21, Try.ntmps21
  go_wp2_with fail
  go_loopw [3] (fun ix wr => ∃ k : Nat, ix = .int .i64 k ∧ k ≤ N ∧ Hid (((sb s).take k).all fldN = true) ∧ wr = w) (fun ix _ => N - (intOf ix).toNat)
  case atStart => exact ⟨0, rfl, by omega, hid (by simp), rfl⟩
  case round =>
    obtain ⟨k, rfl, hk, hal, rfl⟩ := hrel
    by_cases hlt : (k : Int) < N
    case neg =>
      have hE := hid (show (sb s).all fldN = true by have h := hal.out; rwa [List.take_of_length_le (by rw [hsl.out, hN.out]; omega)] at h)
      go_wp2_with fail
      go_ret
      exact ⟨by rw [hE.out]; rfl, rfl⟩
    have hks : k < s.size := by rw [hN.out]; omega
    obtain ⟨c, hc⟩ : ∃ c, (sb s).getD k 0 = c := ⟨_, rfl⟩
    have hno := hid (fun h : fldN c = false => all_no (by rw [hsl.out]; exact hks) hc h)
    have hst := hid (fun h : fldN c = true => all_step (by rw [hsl.out]; exact hks) hc hal.out h)
    have hix := fun W => sidx 9 Try.underlying9 s k c hks hc .i64 k rfl W
    have hc256 : c < 256 := by rw [← hc, sb_get s k hks]; exact UInt8.toNat_lt _
    have kz : (0 : Int) ≤ k := by omega
    have wk : IntKind.i64.wrap ((k : Int) + 1) = (k : Int) + 1 := by rw [IntKind.wrap_i64]; omega
    have hk1 := hid (show k + 1 ≤ N by omega)
    have hms := hid (show N - (k + 1) < N - k by omega)
    clear hc hks hk
    go_wp2_with fail
    refine (rletter_any c _ (by omega)).mono ?_
    rintro e w2 ⟨rfl, rfl⟩
    by_cases hl : letN c = true
    case neg =>
      have hl2 : letN c = false := by simpa using hl
      have hr := hid (hno.out (by unfold fldN; rw [hl2]; rfl))
      rw [hl2]
      clear hl hl2 hno hst
      go_wp2_with fail
      go_ret
      exact ⟨by rw [hr.out]; rfl, rfl⟩
    rw [hl]
    by_cases h44 : c = 44
    case pos =>
      have hr := hid (hno.out (by rw [h44]; rfl))
      have q : ((c : Int) == 44) = true := by simp; omega
      clear hl hno hst
      replace h44 := hid h44
      go_wp2_with fail
      go_ret
      exact ⟨by rw [hr.out]; rfl, rfl⟩
    have hr := hid (hst.out (by unfold fldN; rw [hl]; simp [h44]))
    have q : ((c : Int) == 44) = false := by simp; omega
    clear hl hno hst
    replace h44 := hid h44
    go_wp2_with fail
    go_roundw
    case rel => first | exact ⟨k + 1, by simp, hk1.out, hr, rfl⟩ | exact ⟨k + 1, by simp, hk1.out, hr, trivial⟩
    case measure => simp [intOf]; exact hms.out
set_option maxRecDepth 100000 in
set_option maxHeartbeats 8000000 in
theorem rsigns_any (s : ByteArray) (n : Nat) (w : World) (hb : s.size ≤ 100000) (hn : n ≤ 100000) : Calls Try.prog 20 #[.string s, .int .i64 (n : Int)] w fun e w' => e = .returned (.bool (signsS s n)) ∧ w' = w := by
  have hsl := hid (sb_len s)
  have hf := hid (show signsS s n = (decide (s.size = n) && (sb s).all signN) from rfl)
  obtain ⟨N, hN⟩ : ∃ N, s.size = N := ⟨_, rfl⟩
  have hNs : (s.size : Int) = (N : Int) := by omega
  rw [hN] at hb hf
  replace hN := hid hN
  go_enter Try.func20, Try.ntmps20
  go_wp2_with fail
  go_loopw [5, 6] (fun ix cv wr => ∃ k : Nat, ix = .int .i64 k ∧ k ≤ N ∧ Hid (((sb s).take k).all signN = true) ∧ wr = w) (fun ix _ _ => N - (intOf ix).toNat)
  case atStart => exact ⟨0, rfl, by omega, hid (by simp), rfl⟩
  case round =>
    obtain ⟨k, rfl, hk, hal, rfl⟩ := hrel
    by_cases hlt : (k : Int) < N
    case neg =>
      have hE := hid (show (sb s).all signN = true by have h := hal.out; rwa [List.take_of_length_le (by rw [hsl.out, hN.out]; omega)] at h)
      by_cases hNn : N = n
      case pos =>
        have hf2 := hid (show signsS s n = true by rw [hf.out, hE.out, hNn]; simp)
        subst hNn
        go_wp2_with fail
        go_ret
        exact ⟨by rw [hf2.out]; rfl, rfl⟩
      have q : ((N : Int) == (n : Int)) = false := by simp; omega
      have hf2 := hid (show signsS s n = false by rw [hf.out]; simp [hNn])
      clear hNn
      go_wp2_with fail
      go_ret
      exact ⟨by rw [hf2.out]; rfl, rfl⟩
    have hks : k < s.size := by rw [hN.out]; omega
    obtain ⟨c, hc⟩ : ∃ c, (sb s).getD k 0 = c := ⟨_, rfl⟩
    have hno := hid (fun h : signN c = false => show signsS s n = false by rw [hf.out, all_no (by rw [hsl.out]; exact hks) hc h]; simp)
    have hst := hid (fun h : signN c = true => all_step (by rw [hsl.out]; exact hks) hc hal.out h)
    have hix := fun W => sidx 9 Try.underlying9 s k c hks hc .i64 k rfl W
    have hc256 : c < 256 := by rw [← hc, sb_get s k hks]; exact UInt8.toNat_lt _
    have kz : (0 : Int) ≤ k := by omega
    have wk : IntKind.i64.wrap ((k : Int) + 1) = (k : Int) + 1 := by rw [IntKind.wrap_i64]; omega
    have hk1 := hid (show k + 1 ≤ N by omega)
    have hms := hid (show N - (k + 1) < N - k by omega)
    clear hc hks hk
    by_cases a : (65 : Int) ≤ c
    case pos =>
      by_cases b : (c : Int) ≤ 90
      case pos =>
        have hr := hid (hst.out (by unfold signN; simp; omega))
        clear hno hst
        go_wp2_with fail
        go_roundw
        case rel => first | exact ⟨k + 1, by simp, hk1.out, hr, rfl⟩ | exact ⟨k + 1, by simp, hk1.out, hr, trivial⟩
        case measure => simp [intOf]; exact hms.out
      have d : ¬ (c : Int) ≤ 57 := by omega
      have e : (48 : Int) ≤ c := by omega
      have hr := hid (hno.out (by unfold signN; simp; omega))
      clear hno hst
      go_wp2_with fail
      go_ret
      exact ⟨by rw [hr.out]; rfl, rfl⟩
    by_cases b : (48 : Int) ≤ c
    case neg =>
      have hr := hid (hno.out (by unfold signN; simp; omega))
      clear hno hst
      go_wp2_with fail
      go_ret
      exact ⟨by rw [hr.out]; rfl, rfl⟩
    by_cases d : (c : Int) ≤ 57
    case neg =>
      have hr := hid (hno.out (by unfold signN; simp; omega))
      clear hno hst
      go_wp2_with fail
      go_ret
      exact ⟨by rw [hr.out]; rfl, rfl⟩
    have hr := hid (hst.out (by unfold signN; simp; omega))
    clear hno hst
    go_wp2_with fail
    go_roundw
    case rel => first | exact ⟨k + 1, by simp, hk1.out, hr, rfl⟩ | exact ⟨k + 1, by simp, hk1.out, hr, trivial⟩
    case measure => simp [intOf]; exact hms.out
/-- What stands when the papers' Put has done k fields. -/
def PutI (TK : ByteArray) (F : List ByteArray) (k m : Nat) (B : ByteArray) : Prop := B.size ≤ 200 ∧ ((m ≤ 100 ∧ m = 10 + sizeF (F.take k) ∧ B = joinF TK (F.take k)) ∨ (100 < m ∧ m ≤ 1000 ∧ 90 < sizeF (F.take k)))
theorem putI_step {TK : ByteArray} {F : List ByteArray} {k m : Nat} {B f : ByteArray} (hTK : TK.size = 5) (hf : F[k]? = some f) (h : PutI TK F k m B) {mn m2 : Nat} (hmn : mn = min f.size 100) (hm2 : m2 = min (m + 1 + mn) 1000) : (m2 ≤ 100 → m ≤ 100 ∧ f.size ≤ 100 ∧ PutI TK F (k + 1) m2 (B ++ ⟨#[44]⟩ ++ f)) ∧ (100 < m2 → PutI TK F (k + 1) m2 B) := by
  obtain ⟨h1, h2⟩ := h
  have hs := sizeF_more hf
  have hj := joinF_more (A := TK) hf
  constructor
  · intro h3
    rcases h2 with ⟨a, b, c⟩ | ⟨a, b, c⟩
    · have hz := joinF_size (F.take k) TK
      rw [← c] at hz
      have e1 : (⟨#[44]⟩ : ByteArray).size = 1 := rfl
      refine ⟨a, by omega, ?_, .inl ⟨h3, by omega, ?_⟩⟩
      · rw [ByteArray.size_append, ByteArray.size_append]; omega
      · rw [hj, c, ByteArray.append_assoc]
    · omega
  · intro h3
    refine ⟨h1, .inr ⟨h3, by omega, ?_⟩⟩
    rcases h2 with ⟨a, b, c⟩ | ⟨a, b, c⟩ <;> omega
set_option maxRecDepth 100000 in
set_option maxHeartbeats 16000000 in
theorem rspt_any (T K : ByteArray) (a : Option Addr) (n cap : Nat) (F : List ByteArray) (w : World) (hn : F.length = n) (hE : Els w 1 a n cap (strV F)) (hT : T.size ≤ 100000) (hK : K.size ≤ 100000) (hF : ∀ f ∈ F, f.size ≤ 1000) (h1000 : n ≤ 1000) : Calls Try.prog 10 #[.agg #[.string T, .string K, .slice a n cap]] w fun e w' => e = .returned (.tuple #[.string (putN T K F).1, .int .i64 (putN T K F).2]) ∧ After w w' := by
  replace hE := hid hE
  replace hF := hid hF
  have hall := hid (show F.take n = F by rw [← hn, List.take_length])
  replace hn := hid hn
  have nw := alloc_new w (.cells #[.string T, .string K, .slice a n cap] 24)
  have hB := hid nw.2.1
  have rb := hid nw.2.2
  replace hE := hid (hE.out.below nw.2.1)
  clear nw
  go_enter Try.func10, Try.ntmps10
  go_upto_region 1 with (fail)
  obtain ⟨W0, hW0⟩ : ∃ X, w.alloc (.cells #[.string T, .string K, .slice a n cap] 24) = X := ⟨_, rfl⟩
  rw [hW0] at hB rb hE
  rw [hW0]
  obtain ⟨pb, hpb⟩ : ∃ X, w.heap.size = X := ⟨_, rfl⟩
  rw [hpb] at rb
  rw [hpb]
  clear hW0
  replace hpb := hid hpb
  have z0 := held_cell rb.out 0 _ rfl
  have z1 := held_cell rb.out 1 _ rfl
  have z2 := held_cell rb.out 2 _ rfl
  go_wp2_with fail
  refine (rsigns_any T 2 _ hT (by omega)).mono ?_
  rintro e V ⟨rfl, hv⟩
  obtain rfl : W0 = V := hv.symm
  clear hv
  by_cases s1 : signsS T 2 = true
  case neg =>
    have s9 : signsS T 2 = false := by simpa using s1
    rw [s9]
    have hN := hid (putN_sg (F := F) (show ¬ (signsS T 2 = true ∧ signsS K 3 = true) from fun h => s1 h.1))
    go_wp2_with fail
    go_ret2
    exact ⟨by rw [hN.out]; rfl, hB.out⟩
  rw [s1]
  replace s1 := hid s1
  go_wp2_with fail
  refine (rsigns_any K 3 _ hK (by omega)).mono ?_
  rintro e V ⟨rfl, hv⟩
  obtain rfl : W0 = V := hv.symm
  clear hv
  by_cases s2 : signsS K 3 = true
  case neg =>
    have s9 : signsS K 3 = false := by simpa using s2
    rw [s9]
    have hN := hid (putN_sg (F := F) (show ¬ (signsS T 2 = true ∧ signsS K 3 = true) from fun h => s2 h.2))
    go_wp2_with fail
    go_ret2
    exact ⟨by rw [hN.out]; rfl, hB.out⟩
  rw [s2]
  replace s2 := hid s2
  have hsg := hid (And.intro s1.out s2.out)
  obtain ⟨hT2, hK3⟩ : T.size = 2 ∧ K.size = 3 := ⟨(signsS_is.1 hsg.out.1).1, (signsS_is.1 hsg.out.2).1⟩
  have hTK := fun W => sadd (P := Try.prog) T K (by omega) W
  have hTKz : (T ++ K).size = 5 := by rw [ByteArray.size_append]; omega
  obtain ⟨TK, hTKe⟩ : ∃ X, T ++ K = X := ⟨_, rfl⟩
  rw [hTKe] at hTK hTKz
  have hlong := hid (fun h1 h2 => putN_long hsg.out (F := F) h1 h2)
  have hokk := hid (fun h1 h2 => show putN T K F = (⟨#[36]⟩ ++ sealT (joinF TK F) ++ ⟨#[13, 10]⟩, 0) by have h := putN_ok hsg.out (F := F) h1 h2; rw [hTKe] at h; exact h)
  have hTKz2 := hid hTKz
  have hjz := hid (joinF_size F TK)
  clear hTKz hTKe hT2 hK3 hT hK
  go_wp2_with fail
  go_loopw [4, 5, 6] (fun bv mv ix wr => ∃ (k m : Nat) (B : ByteArray), ix = .int .i64 k ∧ k ≤ n ∧ mv = .int .i64 m ∧ bv = .string B ∧ Hid (PutI TK F k m B) ∧ m ≤ 1000 ∧ Hid (okF (F.take k) = true) ∧ wr = W0) (fun _ _ ix _ => n - (intOf ix).toNat)
  case atStart => exact ⟨0, 10, TK, rfl, by omega, rfl, rfl, hid ⟨by rw [hTKz2.out]; omega, .inl ⟨by omega, rfl, rfl⟩⟩, by omega, hid rfl, rfl⟩
  case round =>
    obtain ⟨k, m, B, rfl, hk, rfl, rfl, hI, hm1000, hok, rfl⟩ := hrel
    by_cases hlt : (k : Int) < n
    case pos =>
      obtain ⟨f, hf⟩ : ∃ f, F[k]? = some f := ⟨_, List.getElem?_eq_getElem (show k < F.length by have := hn.out; omega)⟩
      obtain ⟨b, off, rfl, g0⟩ := hE.out.at1 (strV_at hf)
      have hfz := hF.out f (List.mem_of_getElem? hf)
      have hoy := hid (fun h => okF_more hf hok.out h)
      have hon := hid (fun h => okF_no hf h)
      obtain ⟨mn, hmn⟩ : ∃ z, z = min f.size 100 := ⟨_, rfl⟩
      obtain ⟨m2, hm2⟩ : ∃ z, z = min (m + 1 + mn) 1000 := ⟨_, rfl⟩
      have hstp := putI_step hTKz2.out hf hI.out hmn hm2
      have hB200 := hI.out.1
      obtain ⟨fs, hfs⟩ : ∃ z, f.size = z := ⟨_, rfl⟩
      rw [hfs] at hfz hmn hstp
      have hfsI : (f.size : Int) = (fs : Int) := by omega
      have kz : (0 : Int) ≤ k := by omega
      have wk : IntKind.i64.wrap ((k : Int) + 1) = (k : Int) + 1 := by rw [IntKind.wrap_i64]; omega
      obtain ⟨m1, hm1⟩ : ∃ z, m + 1 = z := ⟨_, rfl⟩
      obtain ⟨m3, hm3⟩ : ∃ z, m1 + mn = z := ⟨_, rfl⟩
      have w1 : IntKind.i64.wrap ((m : Int) + 1) = (m1 : Int) := by rw [IntKind.wrap_i64]; omega
      have w2 : IntKind.i64.wrap ((m1 : Int) + (mn : Int)) = (m3 : Int) := by rw [IntKind.wrap_i64]; omega
      have e1 : (if (100 : Int) < fs then (100 : Int) else fs) = mn := by split <;> omega
      have e2 : (if (1000 : Int) < m3 then (1000 : Int) else m3) = m2 := by split <;> omega
      have hm21 := hid (show m2 ≤ 1000 by omega)
      have hk1 := hid (show k + 1 ≤ n by omega)
      have hms := hid (show n - (k + 1) < n - k by omega)
      have hfz2 := hid (show f.size ≤ 100000 by omega)
      have hfs2 := hid hfs
      have c1 := fun W => sadd (P := Try.prog) B ⟨#[44]⟩ (by have : (⟨#[44]⟩ : ByteArray).size = 1 := rfl; omega) W
      have c2 := fun W => sadd (P := Try.prog) (B ++ ⟨#[44]⟩) f (by rw [ByteArray.size_append]; have : (⟨#[44]⟩ : ByteArray).size = 1 := rfl; omega) W
      obtain ⟨B1, hB1⟩ : ∃ X, B ++ ⟨#[44]⟩ = X := ⟨_, rfl⟩
      rw [hB1] at c1 c2 hstp
      obtain ⟨B2, hB2⟩ : ∃ X, B1 ++ f = X := ⟨_, rfl⟩
      rw [hB2] at c2 hstp
      replace hstp := hid hstp
      have hm23 := hid (show m2 ≤ 100 → m2 = m3 by omega)
      clear hf hfs hk hB1 hB2 hmn hm2 hm1 hm3
      go_wp2_with fail
      refine (rletters_any f _ hfz2.out).mono ?_
      rintro e V ⟨rfl, hv⟩
      obtain rfl : _ = V := hv.symm
      clear hv
      by_cases hs : (sb f).all fldN = true
      case neg =>
        have s9 : (sb f).all fldN = false := by simpa using hs
        rw [s9]
        have hN := hid (putN_f (T := T) (K := K) (hon.out s9))
        clear s9 hs hoy hon
        go_wp2_with fail
        go_ret2
        exact ⟨by rw [hN.out]; rfl, hB.out⟩
      rw [hs]
      have hok2 := hid (hoy.out hs)
      clear hs hoy hon
      by_cases h100 : m2 ≤ 100
      case pos =>
        have q : (m2 : Int) ≤ 100 := by omega
        have hI2 := hid (hstp.out.1 h100).2.2
        obtain rfl : m2 = m3 := hm23.out h100
        clear hstp h100
        go_wp2_with fail
        go_roundw
        case rel => exact ⟨k + 1, _, B2, by simp, hk1.out, rfl, rfl, hI2, hm21.out, hok2, by first | rfl | trivial⟩
        case measure => simp [intOf]; exact hms.out
      have q : ¬ (m2 : Int) ≤ 100 := by omega
      have hI2 := hid (hstp.out.2 (by omega))
      clear hstp h100
      go_wp2_with fail
      go_roundw
      case rel => exact ⟨k + 1, m2, B, by simp, hk1.out, rfl, rfl, hI2, hm21.out, hok2, by first | rfl | trivial⟩
      case measure => simp [intOf]; exact hms.out
    obtain rfl : k = n := by omega
    have hokF := hok.out
    have hIF := hI.out
    unfold PutI at hIF
    rw [hall.out] at hokF hIF
    obtain ⟨hI0, hI1⟩ := hIF
    replace hokF := hid hokF
    by_cases h81 : (81 : Int) < m
    case pos =>
      have hN := hid (hlong.out hokF.out (by rcases hI1 with h | h <;> omega))
      clear hI1 hI0
      go_wp2_with fail
      go_ret2
      exact ⟨by rw [hN.out]; rfl, hB.out⟩
    rcases hI1 with ⟨i1, i2, i3⟩ | ⟨i1, i2, i3⟩
    case inr => omega
    have hN := hid (hokk.out hokF.out (by omega))
    have hz1 := hjz.out
    rw [hTKz2.out] at hz1
    rw [← i3] at hN hz1
    have h76 : ¬ (76 : Int) < B.size := by omega
    have hJz := hid (show B.size ≤ 76 by omega)
    have hsz := (open_sealT B).1
    have c1 := fun W => sadd (P := Try.prog) ⟨#[36]⟩ (sealT B) (by have : (⟨#[36]⟩ : ByteArray).size = 1 := rfl; have := hJz.out; omega) W
    have cz : (⟨#[36]⟩ ++ sealT B : ByteArray).size = 1 + (sealT B).size := by rw [ByteArray.size_append]; rfl
    have c2 := fun W => sadd (P := Try.prog) (⟨#[36]⟩ ++ sealT B) ⟨#[13, 10]⟩ (by have : (⟨#[13, 10]⟩ : ByteArray).size = 2 := rfl; have := hJz.out; omega) W
    obtain ⟨S1, hS1⟩ : ∃ X, sealT B = X := ⟨_, rfl⟩
    have kS := hid (refSeal_any B)
    rw [hS1] at c1 c2 hN kS
    obtain ⟨S2, hS2⟩ : ∃ X, (⟨#[36]⟩ ++ S1 : ByteArray) = X := ⟨_, rfl⟩
    rw [hS2] at c1 c2 hN
    obtain ⟨S3, hS3⟩ : ∃ X, (S2 ++ ⟨#[13, 10]⟩ : ByteArray) = X := ⟨_, rfl⟩
    rw [hS3] at c2 hN
    replace i3 := hid i3
    clear hz1 hS1 hS2 hS3 hsz cz i2 i1 hI0
    go_wp2_with fail
    refine (kS.out _ (by have := hJz.out; omega)).mono ?_
    rintro e V9 ⟨rfl, hA9⟩
    have hB9 := hid (bthen hB.out hA9)
    clear hA9
    go_wp2_with fail
    go_ret2
    exact ⟨by rw [hN.out]; rfl, hB9.out⟩


end Go.Proofs.Ytookhpmpngacjaa
