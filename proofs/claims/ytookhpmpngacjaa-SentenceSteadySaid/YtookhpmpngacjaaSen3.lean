/- Package sentence: Put. -/
import Derived.Test.YtookhpmpngacjaaSen2
import Derived.Test.YtookhpmpngacjaaEls
import Derived.Laws.Concat
import Derived.Deep.DeepCutAuto
namespace Go.Proofs.Ytookhpmpngacjaa
open Go.ChangeShapes Go.WideShapes Go.ChangeAt Go.RowKit
set_option linter.unusedVariables false
set_option linter.unusedSimpArgs false

def strC (f : ByteArray) : List Value := [.string f]
def strV (F : List ByteArray) : List (List Value) := F.map strC
theorem strV_len (F : List ByteArray) : (strV F).length = F.length := by simp [strV]
theorem strV_at {F : List ByteArray} {k : Nat} {f : ByteArray} (h : F[k]? = some f) : (strV F)[k]? = some [.string f] := by
  unfold strV
  rw [List.getElem?_map, h]; rfl
theorem strV_m (F : List ByteArray) : ∀ x ∈ strV F, x.length = 1 := fun x hx => by
  obtain ⟨y, _, rfl⟩ := List.mem_map.1 hx; rfl
theorem sadd {P : Program} (a b : ByteArray) (h : a.size + b.size ≤ 1000000) (w : World) : (Op.stringOp .add a b).run P w = .ok (.string (a ++ b)) w := run_string_add_sum w a b (by omega)
theorem okF_more {F : List ByteArray} {k : Nat} {f : ByteArray} (h : F[k]? = some f) (h1 : okF (F.take k) = true) (h2 : (sb f).all fldN = true) : okF (F.take (k + 1)) = true := by
  unfold okF at *
  rw [List.take_add_one, h, Option.toList_some, List.all_append, h1]
  simp [h2]
theorem okF_no {F : List ByteArray} {k : Nat} {f : ByteArray} (h : F[k]? = some f) (h2 : (sb f).all fldN = false) : okF F = false := by
  unfold okF
  rw [List.all_eq_false]
  exact ⟨f, List.mem_of_getElem? h, by rw [h2]; simp⟩
theorem sizeF_more {F : List ByteArray} {k : Nat} {f : ByteArray} (h : F[k]? = some f) : sizeF (F.take (k + 1)) = sizeF (F.take k) + (1 + f.size) := by
  rw [List.take_add_one, h, Option.toList_some, sizeF_snoc]
theorem joinF_more {F : List ByteArray} {k : Nat} {f A : ByteArray} (h : F[k]? = some f) : joinF A (F.take (k + 1)) = joinF A (F.take k) ++ (⟨#[44]⟩ ++ f) := by
  rw [List.take_add_one, h, Option.toList_some, joinF_snoc]
theorem sizeF_bd {F : List ByteArray} (h : ∀ f ∈ F, f.size ≤ 1000) : ∀ k, sizeF (F.take k) ≤ 1001 * k
  | 0 => by simp [sizeF]
  | k + 1 => by
    have ih := sizeF_bd h k
    cases e : F[k]? with
    | none => rw [List.take_add_one, e]; simp; omega
    | some f =>
      rw [sizeF_more e]
      have := h f (List.mem_of_getElem? e)
      omega
set_option maxRecDepth 100000 in
set_option maxHeartbeats 16000000 in
theorem spt_any (T K : ByteArray) (a : Option Addr) (n cap : Nat) (F : List ByteArray) (w : World) (hn : F.length = n) (hE : Els w 1 a n cap (strV F)) (hT : T.size ≤ 100000) (hK : K.size ≤ 100000) (hF : ∀ f ∈ F, f.size ≤ 1000) (h1000 : n ≤ 1000) : Calls Try.prog 9 #[.agg #[.string T, .string K, .slice a n cap]] w fun e w' => e = .returned (.tuple #[.string (putN T K F).1, .int .i64 (putN T K F).2]) ∧ After w w' := by
  replace hE := hid hE
  replace hF := hid hF
  have hall := hid (show F.take n = F by rw [← hn, List.take_length])
  replace hn := hid hn
  have nw := alloc_new w (.cells #[.string T, .string K, .slice a n cap] 24)
  have hB := hid nw.2.1
  have rb := hid nw.2.2
  replace hE := hid (hE.out.below nw.2.1)
  clear nw
  go_enter Try.func9, Try.ntmps9
  go_upto_region 1 with (fail)
  obtain ⟨W0, hW0⟩ : ∃ X, w.alloc (.cells #[.string T, .string K, .slice a n cap] 24) = X := ⟨_, rfl⟩
  rw [hW0] at hB rb hE
  rw [hW0]
  obtain ⟨pb, hpb⟩ : ∃ X, w.heap.size = X := ⟨_, rfl⟩
  rw [hpb] at rb
  rw [hpb]
  clear hW0
  replace hpb := hid hpb
  have z0 := held_cell rb.out 0 _ rfl
  have z1 := held_cell rb.out 1 _ rfl
  have z2 := held_cell rb.out 2 _ rfl
  go_wp2_with fail
  refine (are_sign T 2 _ hT (by omega)).mono ?_
  rintro e V1 ⟨rfl, hA⟩
  clear z0 z1 z2
  replace hE := hid (hE.out.below hA)
  replace rb := hid (held_after hA rb.out)
  replace hB := hid (bthen hB.out hA)
  clear hA
  have z0 := held_cell rb.out 0 _ rfl
  have z1 := held_cell rb.out 1 _ rfl
  have z2 := held_cell rb.out 2 _ rfl
  by_cases s1 : signsS T 2 = true
  case neg =>
    have s9 : signsS T 2 = false := by simpa using s1
    rw [s9]
    have hN := hid (putN_sg (F := F) (show ¬ (signsS T 2 = true ∧ signsS K 3 = true) from fun h => s1 h.1))
    go_wp2_with fail
    go_ret2
    exact ⟨by rw [hN.out]; rfl, hB.out⟩
  rw [s1]
  replace s1 := hid s1
  go_wp2_with fail
  refine (are_sign K 3 _ hK (by omega)).mono ?_
  rintro e V2 ⟨rfl, hA⟩
  clear z0 z1 z2
  replace hE := hid (hE.out.below hA)
  replace rb := hid (held_after hA rb.out)
  replace hB := hid (bthen hB.out hA)
  clear hA
  have z0 := held_cell rb.out 0 _ rfl
  have z1 := held_cell rb.out 1 _ rfl
  have z2 := held_cell rb.out 2 _ rfl
  by_cases s2 : signsS K 3 = true
  case neg =>
    have s9 : signsS K 3 = false := by simpa using s2
    rw [s9]
    have hN := hid (putN_sg (F := F) (show ¬ (signsS T 2 = true ∧ signsS K 3 = true) from fun h => s2 h.2))
    go_wp2_with fail
    go_ret2
    exact ⟨by rw [hN.out]; rfl, hB.out⟩
  rw [s2]
  replace s2 := hid s2
  go_wp2_with fail
  clear z0 z1 z2
  have hsg := hid (And.intro s1.out s2.out)
  go_loopw [4, 6, 23] (fun sv fv ix wr => ∃ (k m : Nat), ix = .int .i64 k ∧ k ≤ n ∧ sv = .int .i64 m ∧ Hid (m = 11 + sizeF (F.take k)) ∧ m ≤ 11 + 1001 * k ∧ Hid (okF (F.take k) = true) ∧ After V2 wr) (fun _ _ ix _ => n - (intOf ix).toNat)
  case atStart => exact ⟨0, 11, rfl, by omega, rfl, hid rfl, by omega, hid rfl, Below.refl _ _⟩
  case round =>
    obtain ⟨k, m, rfl, hk, rfl, hm, hmb, hok, hA⟩ := hrel
    by_cases hlt : (k : Int) < n
    case pos =>
      obtain ⟨f, hf⟩ : ∃ f, F[k]? = some f := ⟨_, List.getElem?_eq_getElem (show k < F.length by have := hn.out; omega)⟩
      obtain ⟨b, off, rfl, g0⟩ := (hE.out.below hA).at1 (strV_at hf)
      have hfz := hF.out f (List.mem_of_getElem? hf)
      have hmo := hid (sizeF_more hf)
      have hoy := hid (fun h => okF_more hf hok.out h)
      have hon := hid (fun h => okF_no hf h)
      obtain ⟨fs, hfs⟩ : ∃ z, f.size = z := ⟨_, rfl⟩
      rw [hfs] at hfz hmo
      have hfsI : (f.size : Int) = (fs : Int) := by omega
      have kz : (0 : Int) ≤ k := by omega
      have wk : IntKind.i64.wrap ((k : Int) + 1) = (k : Int) + 1 := by rw [IntKind.wrap_i64]; omega
      have w1 : IntKind.i64.wrap (1 + (fs : Int)) = ((1 + fs : Nat) : Int) := by rw [IntKind.wrap_i64]; omega
      have w2 : IntKind.i64.wrap ((m : Int) + ((1 + fs : Nat) : Int)) = ((m + (1 + fs) : Nat) : Int) := by rw [IntKind.wrap_i64]; omega
      obtain ⟨f1, hf1⟩ : ∃ z, 1 + fs = z := ⟨_, rfl⟩
      rw [hf1] at w1 w2 hmo
      obtain ⟨m2, hm2⟩ : ∃ z, m + f1 = z := ⟨_, rfl⟩
      rw [hm2] at w2
      have hk1 := hid (show k + 1 ≤ n by omega)
      have hm3 := hid (show m2 = 11 + sizeF (F.take (k + 1)) by rw [hmo.out, ← hm2, hm.out]; omega)
      have hmb2 := hid (show m2 ≤ 11 + 1001 * (k + 1) by omega)
      have hms := hid (show n - (k + 1) < n - k by omega)
      have hfz2 := hid (show f.size ≤ 100000 by omega)
      have hfs2 := hid hfs
      clear hf hfs hmo hk
      replace hA := hid hA
      replace hf1 := hid hf1
      replace hm2 := hid hm2
      go_wp2_with fail
      refine (all_inField f _ hfz2.out).mono ?_
      rintro e V7 ⟨rfl, hA2⟩
      have hA3 := hid (bthen hA.out hA2)
      clear hA hA2
      by_cases hs : (sb f).all fldN = true
      case neg =>
        have s9 : (sb f).all fldN = false := by simpa using hs
        rw [s9]
        have hN := hid (putN_f (T := T) (K := K) (hon.out s9))
        have hB9 := hid (bthen hB.out hA3.out)
        clear s9 hs hoy hon
        go_wp2_with fail
        go_ret2
        exact ⟨by rw [hN.out]; rfl, hB9.out⟩
      rw [hs]
      have hok2 := hid (hoy.out hs)
      clear hs hoy hon
      go_wp2_with fail
      go_roundw
      case rel => exact ⟨k + 1, m2, by simp, hk1.out, rfl, hm3, hmb2.out, hok2, hA3.out⟩
      case measure => simp [intOf]; exact hms.out
    obtain rfl : k = n := by omega
    have hokF := hok.out
    have hmF := hm.out
    rw [hall.out] at hokF hmF
    replace hokF := hid hokF
    by_cases h82 : (82 : Int) < m
    case pos =>
      have hN := hid (putN_long hsg.out hokF.out (by omega))
      have hB9 := hid (bthen hB.out hA)
      clear hmF
      go_wp2_with fail
      go_ret2
      exact ⟨by rw [hN.out]; rfl, hB9.out⟩
    have hN := hid (putN_ok hsg.out hokF.out (by omega))
    have hsF := hid (show 11 + sizeF F ≤ 82 by omega)
    clear hmF hmb
    replace hE := hid (hE.out.below hA)
    replace rb := hid (held_after hA rb.out)
    replace hB := hid (bthen hB.out hA)
    clear hA
    have z0 := held_cell rb.out 0 _ rfl
    have z1 := held_cell rb.out 1 _ rfl
    have z2 := held_cell rb.out 2 _ rfl
    obtain ⟨hT2, hK3⟩ : T.size = 2 ∧ K.size = 3 := ⟨(signsS_is.1 hsg.out.1).1, (signsS_is.1 hsg.out.2).1⟩
    have hTK := fun W => sadd (P := Try.prog) T K (by omega) W
    have hTKz : (T ++ K).size = 5 := by rw [ByteArray.size_append]; omega
    obtain ⟨TK, hTKe⟩ : ∃ X, T ++ K = X := ⟨_, rfl⟩
    rw [hTKe] at hTK hTKz hN
    have hjz := hid (fun k => joinF_size (F.take k) TK)
    have hTKz2 := hid hTKz
    have hT9 := hid hT2
    have hK9 := hid hK3
    clear hTKz hTKe hT2 hK3 hT hK
    go_wp2_with fail
    go_loopw [7, 9, 46] (fun sv fv ix wz => ∃ (j : Nat), ix = .int .i64 j ∧ j ≤ k ∧ sv = .string (joinF TK (F.take j)) ∧ After wr wz) (fun _ _ ix _ => k - (intOf ix).toNat)
    case atStart => exact ⟨0, rfl, by omega, rfl, Below.refl _ _⟩
    case round =>
      clear z0 z1 z2
      obtain ⟨j, rfl, hj, rfl, hA⟩ := hrel
      by_cases hlt2 : (j : Int) < k
      case pos =>
        obtain ⟨f, hf⟩ : ∃ f, F[j]? = some f := ⟨_, List.getElem?_eq_getElem (show j < F.length by have := hn.out; omega)⟩
        obtain ⟨b, off, rfl, g0⟩ := (hE.out.below hA).at1 (strV_at hf)
        have hfz := hF.out f (List.mem_of_getElem? hf)
        have hjm := joinF_more (A := TK) hf
        have hz1 := hjz.out j
        have hz2 := sizeF_take F j
        have c1 := fun W => sadd (P := Try.prog) ⟨#[44]⟩ f (by have : (⟨#[44]⟩ : ByteArray).size = 1 := rfl; omega) W
        have cz : (⟨#[44]⟩ ++ f : ByteArray).size = 1 + f.size := by rw [ByteArray.size_append]; rfl
        obtain ⟨cf, hcf⟩ : ∃ X, (⟨#[44]⟩ ++ f : ByteArray) = X := ⟨_, rfl⟩
        rw [hcf] at c1 hjm cz
        obtain ⟨J, hJ⟩ : ∃ X, joinF TK (F.take j) = X := ⟨_, rfl⟩
        rw [hJ] at hjm hz1 ⊢
        have c2 := fun W => sadd (P := Try.prog) J cf (by have := hsF.out; have := hTKz2.out; omega) W
        have hjm2 := hid hjm.symm
        obtain ⟨J2, hJ2⟩ : ∃ X, J ++ cf = X := ⟨_, rfl⟩
        rw [hJ2] at c2 hjm2
        have kz : (0 : Int) ≤ j := by omega
        have wk : IntKind.i64.wrap ((j : Int) + 1) = (j : Int) + 1 := by rw [IntKind.wrap_i64]; omega
        have hk1 := hid (show j + 1 ≤ k by omega)
        have hms := hid (show k - (j + 1) < k - j by omega)
        clear hf hfz hz1 hz2 cz hcf hJ hJ2 hjm hj
        replace hA := hid hA
        go_wp2_with fail
        go_roundw
        case rel => exact ⟨j + 1, by simp, hk1.out, by rw [← hjm2.out], hA.out⟩
        case measure => simp [intOf]; exact hms.out
      obtain rfl : j = k := by omega
      have hz1 := hjz.out j
      rw [hall.out] at hz1 ⊢
      obtain ⟨J, hJ⟩ : ∃ X, joinF TK F = X := ⟨_, rfl⟩
      rw [hJ] at hz1 hN ⊢
      have hJz := hid (show J.size ≤ 76 by have := hsF.out; have := hTKz2.out; omega)
      have hsz := (open_sealT J).1
      have c1 := fun W => sadd (P := Try.prog) ⟨#[36]⟩ (sealT J) (by have : (⟨#[36]⟩ : ByteArray).size = 1 := rfl; have := hJz.out; omega) W
      have cz : (⟨#[36]⟩ ++ sealT J : ByteArray).size = 1 + (sealT J).size := by rw [ByteArray.size_append]; rfl
      have c2 := fun W => sadd (P := Try.prog) (⟨#[36]⟩ ++ sealT J) ⟨#[13, 10]⟩ (by have : (⟨#[13, 10]⟩ : ByteArray).size = 2 := rfl; have := hJz.out; omega) W
      obtain ⟨S1, hS1⟩ : ∃ X, sealT J = X := ⟨_, rfl⟩
      have kS := hid (parSeal_any J)
      rw [hS1] at c1 c2 hN kS
      obtain ⟨S2, hS2⟩ : ∃ X, (⟨#[36]⟩ ++ S1 : ByteArray) = X := ⟨_, rfl⟩
      rw [hS2] at c1 c2 hN
      obtain ⟨S3, hS3⟩ : ∃ X, (S2 ++ ⟨#[13, 10]⟩ : ByteArray) = X := ⟨_, rfl⟩
      rw [hS3] at c2 hN
      clear hz1 hJ hS1 hS2 hS3 hsz cz hj
      replace hA := hid hA
      go_wp2_with fail
      refine (kS.out _ (by have := hJz.out; omega)).mono ?_
      rintro e V9 ⟨rfl, hA9⟩
      have hB9 := hid (bthen (bthen hB.out hA.out) hA9)
      clear hA9
      go_wp2_with fail
      go_ret2
      exact ⟨by rw [hN.out]; rfl, hB9.out⟩


end Go.Proofs.Ytookhpmpngacjaa
