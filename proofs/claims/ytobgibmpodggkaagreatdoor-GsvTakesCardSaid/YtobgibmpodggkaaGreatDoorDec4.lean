/- Package decim: the scanner. -/
import Derived.Test.YtobgibmpodggkaaGreatDoorDec3
import Derived.Deep.DeepCutAuto
namespace Go.Proofs.YtobgibmpodggkaaGreatDoor
open Go.ChangeShapes Go.WideShapes Go.ChangeAt Go.RowKit
set_option linter.unusedVariables false
set_option linter.unusedSimpArgs false

/-- How many digits are read, of at most so many. -/
def cntM (l : List Nat) (most : Nat) : Nat := min (cnt l) most
theorem take_step {l : List Nat} {k : Nat} (h : k < l.length) (a : Nat) : valN a (l.take (k + 1)) = 10 * valN a (l.take k) + (l.getD k 0 - 48) := by
  rw [List.take_succ_eq_append_getElem h, valN_app, valN_one, List.getD_eq_getElem?_getD, List.getElem?_eq_getElem h]
  rfl
theorem isD_bd {c : Nat} (h : isD c = true) : 48 ≤ c ∧ c ≤ 57 := by unfold isD at h; exact of_decide_eq_true h
theorem isD_no {c : Nat} (h : isD c = false) : c < 48 ∨ 57 < c := by unfold isD at h; have := of_decide_eq_false h; omega
theorem take_dig {l : List Nat} {k : Nat} (h : k ≤ cnt l) : ∀ c ∈ l.take k, 48 ≤ c ∧ c ≤ 57 := by
  intro c hc
  obtain ⟨i, hi, rfl⟩ := List.getElem_of_mem hc
  rw [List.length_take] at hi
  have := cnt_all (l := l) i (by omega)
  rw [List.getElem_take]
  have e : l.getD i 0 = l[i]'(by omega) := by rw [List.getD_eq_getElem?_getD, List.getElem?_eq_getElem (by omega)]; rfl
  rw [e] at this
  exact isD_bd this
theorem val_take_lt {l : List Nat} {k : Nat} (h : k ≤ cnt l) : valN 0 (l.take k) < 10 ^ k := by
  have h1 := valN_lt (l.take k) 0 (take_dig h)
  rw [List.length_take, Nat.min_eq_left (Nat.le_trans h (cnt_le l))] at h1
  simpa using h1
theorem getD_dropN (l : List Nat) (p k : Nat) : (l.drop p).getD k 0 = l.getD (p + k) 0 := by
  rw [List.getD_eq_getElem?_getD, List.getD_eq_getElem?_getD, List.getElem?_drop]
theorem eff_after23 {g : Nat} {a b : World} (h : After a b) : Eff g a b := ⟨h.os, h.tape, h.output, h.size, fun j h1 _ => h.block j h1⟩
theorem eff_trans23 {g : Nat} {a b c : World} (h : Eff g a b) (k : Eff g b c) : Eff g a c := ⟨k.os.trans h.os, k.tape.trans h.tape, k.output.trans h.output, Nat.le_trans h.size k.size, fun j h1 h2 => (k.block j (Nat.lt_of_lt_of_le h1 h.size) h2).trans (h.block j h1 h2)⟩
theorem eff_set23 {g j : Nat} (w : World) (v : Value) : Eff g w (w.setCell ⟨g, j, none⟩ v) := ⟨rfl, rfl, rfl, by simp [World.setCell], fun k _ h => Below.heap_setCell w ⟨g, j, none⟩ v k h⟩
theorem eff_drew23 {g : Nat} (w : World) : Eff g w w.drew := eff_after23 ((Below.refl _ w).drew)
theorem held_eff23 {g b : Nat} {w U : World} {o : Obj} (h : w.heap[b]? = some o) (hE : Eff g w U) (hn : b ≠ g) : U.heap[b]? = some o := (hE.block b (Array.getElem?_eq_some_iff.1 h).1 hn).trans h
/-- The number that a block holds. -/
def rdA (A : Nat) (w : World) : Nat := match w.cell? ⟨A, 0, none⟩ with
  | some (.int _ n) => n.toNat
  | _ => 0
theorem rdA_is {A : Nat} {w : World} {k : IntKind} {n : Nat} {T : TypeId} (h : w.heap[A]? = some (.cells #[.int k (n : Int)] T (0, 0))) : rdA A w = n := by unfold rdA; rw [held_cell h 0 _ rfl]; simp
theorem held_drew23 {b : Nat} {w : World} {o : Obj} (h : w.heap[b]? = some o) : w.drew.heap[b]? = some o := h
/-- Is the byte at a place this one? -/
def hitB (s : ByteArray) (p c : Nat) : Bool := decide (p < s.size ∧ (sb s).getD p 0 = c)
def adv (p : Nat) (b : Bool) : Nat := if b = true then p + 1 else p
theorem adv_t (p : Nat) : adv p true = p + 1 := rfl
theorem adv_f (p : Nat) : adv p false = p := rfl
theorem hitB_is {s : ByteArray} {p c : Nat} : hitB s p c = true ↔ p < s.size ∧ (sb s).getD p 0 = c := by unfold hitB; exact decide_eq_true_iff
set_option maxRecDepth 100000 in
set_option maxHeartbeats 4000000 in
theorem digits_any (A Q p least most : Nat) (s : ByteArray) (w : World) (hA : w.heap[A]? = some (.cells #[.int .i64 (p : Int)] 3 (0, 0))) (hS : w.heap[Q]? = some (.cells #[.string s] 9 (0, 0))) (dAQ : Q ≠ A) (hp : p ≤ s.size) (hs : s.size ≤ 1000) (hm : most ≤ 15) (hl : least ≤ 15) : Calls Tryz.prog 61 #[.int .i64 least, .int .i64 most, .pointer (some ⟨A, 0, none⟩), .pointer (some ⟨Q, 0, none⟩)] w fun e w' => e = .returned (.tuple #[.int .i64 (valN 0 (((sb s).drop p).take (cntM ((sb s).drop p) most)) : Nat), .int .i64 (cntM ((sb s).drop p) most : Nat), .bool (decide (least ≤ cntM ((sb s).drop p) most))]) ∧ w'.heap[A]? = some (.cells #[.int .i64 ((p + cntM ((sb s).drop p) most : Nat) : Int)] 3 (0, 0)) ∧ Eff A w w' := by
  have hz := sb_len s
  obtain ⟨l, hl2⟩ : ∃ l, (sb s).drop p = l := ⟨_, rfl⟩
  have hll : l.length = s.size - p := by rw [← hl2, List.length_drop, hz]
  have hget : ∀ k, l.getD k 0 = (sb s).getD (p + k) 0 := fun k => by rw [← hl2, getD_dropN]
  rw [hl2]
  obtain ⟨J, hJ⟩ : ∃ J, cntM l most = J := ⟨_, rfl⟩
  rw [hJ]
  have hJc : J ≤ cnt l := by rw [← hJ]; exact Nat.min_le_left _ _
  have hJm : J ≤ most := by rw [← hJ]; exact Nat.min_le_right _ _
  have hJe : J = most ∨ J = cnt l := by rw [← hJ]; unfold cntM; omega
  have hcl := cnt_le l
  have kend := cnt_end (l := l)
  have kall := cnt_all (l := l)
  have kidx := hid (fun (i c : Nat) (hi : i < s.size) (hc : (sb s).getD i 0 = c) U => tidx (P := Tryz.prog) 9 Tryz.underlying9 s i c hi hc .i64 i rfl U)
  clear hz hl2 hJ
  replace kend := hid kend
  replace kall := hid kall
  replace hget := hid hget
  have a0 := held_cell hA 0 _ rfl
  have a0d := held_cell (held_drew23 hA) 0 _ rfl
  replace hA := hid hA
  replace hS := hid hS
  go_enter Tryz.func61, Tryz.ntmps61
  go_upto_region 1 with (fail)
  go_region
  go_wp2_with fail
  go_loopw [9] (fun n wr => ∃ k : Nat, k ≤ J ∧ n = .int .i64 ((valN 0 (l.take k) : Nat) : Int) ∧ Hid (wr.heap[A]? = some (.cells #[.int .i64 ((p + k : Nat) : Int)] 3 (0, 0)) ∧ Eff A w wr)) (fun _ wr => p + J - rdA A wr)
  case atStart => exact ⟨0, Nat.zero_le _, rfl, hid ⟨by simpa using held_drew23 hA.out, eff_drew23 w⟩⟩
  case round =>
    obtain ⟨k, hk, rfl, h⟩ := hrel
    obtain ⟨hAr, hE⟩ := h.out
    obtain ⟨r, hr⟩ : ∃ r, p + k = r := ⟨_, rfl⟩
    rw [hr] at hAr
    have hSr := held_eff23 hS.out hE dAQ
    have a1 := held_cell hAr 0 _ rfl
    have s1 := held_cell hSr 0 _ rfl
    have hrd := rdA_is hAr
    have wr1 : IntKind.i64.wrap ((r : Int) - p) = k := by rw [IntKind.wrap_i64] <;> omega
    have hv := val_take_lt (l := l) (k := k) (by omega)
    have h15 : (10 : Nat) ^ k ≤ 10 ^ 15 := Nat.pow_le_pow_right (by decide) (by omega)
    have h15e : (10 : Nat) ^ 15 = 1000000000000000 := rfl
    obtain ⟨c, hc⟩ : ∃ c, (sb s).getD r 0 = c := ⟨_, rfl⟩
    have hgr := hget.out k
    rw [hr, hc] at hgr
    by_cases hlt : k < J
    case pos =>
      have hts := take_step (l := l) (k := k) (by omega) 0
      have hcd := isD_bd (kall.out k (by omega))
      rw [hgr] at hcd hts
      have ki := kidx.out r c (by omega) hc wr
      have lt1 : (r : Int) < s.size := by omega
      have lt2 : (k : Int) < most := by omega
      have g1 : (48 : Int) ≤ c := by omega
      have g2 : (c : Int) ≤ 57 := by omega
      have xs := held_set hAr 0 (.int .i64 ((r : Int) + 1))
      have f0 := held_free hAr 0
      have hE2 := hid (eff_trans23 hE (eff_set23 (j := 0) wr (.int .i64 ((r : Int) + 1))))
      obtain ⟨n, hn⟩ : ∃ n, valN 0 (l.take k) = n := ⟨_, rfl⟩
      rw [hn] at hts hv ⊢
      have w1 : IntKind.i64.wrap (10 * (n : Int)) = 10 * (n : Int) := by rw [IntKind.wrap_i64] <;> omega
      have w2 : IntKind.u8.wrap ((c : Int) - 48) = (c : Int) - 48 := by rw [IntKind.wrap_u8] <;> omega
      have w3 : IntKind.i64.wrap ((c : Int) - 48) = (c : Int) - 48 := by rw [IntKind.wrap_i64] <;> omega
      have w4 : IntKind.i64.wrap (10 * (n : Int) + ((c : Int) - 48)) = 10 * (n : Int) + ((c : Int) - 48) := by rw [IntKind.wrap_i64] <;> omega
      have w5 : IntKind.i64.wrap ((r : Int) + 1) = (r : Int) + 1 := by rw [IntKind.wrap_i64] <;> omega
      have hout := hid (show 10 * (n : Int) + ((c : Int) - 48) = ((valN 0 (l.take (k + 1)) : Nat) : Int) by omega)
      have xs2 := hid (show (wr.setCell ⟨A, 0, none⟩ (.int .i64 ((r : Int) + 1))).heap[A]? = some (.cells #[.int .i64 ((p + (k + 1) : Nat) : Int)] 3 (0, 0)) by rw [show ((p + (k + 1) : Nat) : Int) = (r : Int) + 1 by omega]; exact xs)
      have xr := hid (rdA_is (n := r + 1) (by rw [show ((r + 1 : Nat) : Int) = (r : Int) + 1 by omega]; exact xs))
      have hm2 := hid (show p + J - (r + 1) < p + J - r by omega)
      have hrd2 := hid hrd
      have hk1 := hid (show k + 1 ≤ J by omega)
      clear hts hcd hn hc hgr xs hAr hSr hv h15 h15e h hE hr hrd hJe hcl hget kend kall hll hJc hJm
      go_wp2_with fail
      go_roundw
      case rel => exact ⟨k + 1, hk1.out, by rw [← hout.out], hid ⟨xs2.out, hE2.out⟩⟩
      case measure => rw [xr.out, hrd2.out]; exact hm2.out
    obtain rfl : k = J := by omega
    obtain ⟨n, hn⟩ : ∃ n, valN 0 (l.take k) = n := ⟨_, rfl⟩
    rw [hn]
    replace hn := hid hn
    replace hr2 := hid hr
    have hE9 := hid hE
    have hA9 := hid hAr
    have hq : r = s.size ∨ (r < s.size ∧ k = most) ∨ (r < s.size ∧ k < most ∧ (c < 48 ∨ 57 < c)) := by
      by_cases e1 : r = s.size
      · exact .inl e1
      · by_cases e2 : k = most
        · exact .inr (.inl ⟨by omega, e2⟩)
        · have hkc : k = cnt l := by omega
          have := kend.out (by omega)
          rw [← hkc, hgr] at this
          exact .inr (.inr ⟨by omega, by omega, isD_no this⟩)
    have ki := hid (fun (h : r < s.size) => kidx.out r c h hc wr)
    clear hc hgr hv h15 h15e h hE hAr hSr hr hJe hcl hget kend kall hll hJc hJm hrd
    by_cases cb : least ≤ k
    case pos =>
      have cb2 : (least : Int) ≤ k := by omega
      rcases hq with e1 | ⟨e1, e2⟩ | ⟨e1, e2, e3 | e3⟩
      · have t1 : ¬ ((r : Int) < s.size) := by omega
        clear ki e1
        go_upto_region 5 with (fail)
        go_region
        go_wp2_with fail
        refine bodyPost_ret (v := .tuple #[.int .i64 (n : Int), .int .i64 (k : Int), .bool true]) (by simp [results, Tryz.results61, go_sem]) rfl ⟨by first | rfl | (rw [hn.out]; done) | rw [hn.out, decide_eq_true cb], by have h := hA9.out; rw [show (r : Int) = (p : Int) + k by have := hr2.out; omega] at h; exact h, eff_trans23 hE9.out (eff_drew23 _)⟩
      · have t1 : (r : Int) < s.size := by omega
        have t2 : ¬ ((k : Int) < most) := by omega
        clear ki e2
        go_upto_region 5 with (fail)
        go_region
        go_wp2_with fail
        refine bodyPost_ret (v := .tuple #[.int .i64 (n : Int), .int .i64 (k : Int), .bool true]) (by simp [results, Tryz.results61, go_sem]) rfl ⟨by first | rfl | (rw [hn.out]; done) | rw [hn.out, decide_eq_true cb], by have h := hA9.out; rw [show (r : Int) = (p : Int) + k by have := hr2.out; omega] at h; exact h, eff_trans23 hE9.out (eff_drew23 _)⟩
      · have t1 : (r : Int) < s.size := by omega
        have t2 : (k : Int) < most := by omega
        have t3 : ¬ ((48 : Int) ≤ c) := by omega
        have k2 := ki.out e1
        go_upto_region 5 with (fail)
        go_region
        go_wp2_with fail
        refine bodyPost_ret (v := .tuple #[.int .i64 (n : Int), .int .i64 (k : Int), .bool true]) (by simp [results, Tryz.results61, go_sem]) rfl ⟨by first | rfl | (rw [hn.out]; done) | rw [hn.out, decide_eq_true cb], by have h := hA9.out; rw [show (r : Int) = (p : Int) + k by have := hr2.out; omega] at h; exact h, eff_trans23 hE9.out (eff_drew23 _)⟩
      · have t1 : (r : Int) < s.size := by omega
        have t2 : (k : Int) < most := by omega
        have t3 : (48 : Int) ≤ c := by omega
        have t4 : ¬ ((c : Int) ≤ 57) := by omega
        have k2 := ki.out e1
        go_upto_region 5 with (fail)
        go_region
        go_wp2_with fail
        refine bodyPost_ret (v := .tuple #[.int .i64 (n : Int), .int .i64 (k : Int), .bool true]) (by simp [results, Tryz.results61, go_sem]) rfl ⟨by first | rfl | (rw [hn.out]; done) | rw [hn.out, decide_eq_true cb], by have h := hA9.out; rw [show (r : Int) = (p : Int) + k by have := hr2.out; omega] at h; exact h, eff_trans23 hE9.out (eff_drew23 _)⟩
    have cb2 : ¬ ((least : Int) ≤ k) := by omega
    rcases hq with e1 | ⟨e1, e2⟩ | ⟨e1, e2, e3 | e3⟩
    · have t1 : ¬ ((r : Int) < s.size) := by omega
      clear ki e1
      go_upto_region 5 with (fail)
      go_region
      go_wp2_with fail
      refine bodyPost_ret (v := .tuple #[.int .i64 (n : Int), .int .i64 (k : Int), .bool false]) (by simp [results, Tryz.results61, go_sem]) rfl ⟨by first | rfl | (rw [hn.out]; done) | rw [hn.out, decide_eq_false cb], by have h := hA9.out; rw [show (r : Int) = (p : Int) + k by have := hr2.out; omega] at h; exact h, eff_trans23 hE9.out (eff_drew23 _)⟩
    · have t1 : (r : Int) < s.size := by omega
      have t2 : ¬ ((k : Int) < most) := by omega
      clear ki e2
      go_upto_region 5 with (fail)
      go_region
      go_wp2_with fail
      refine bodyPost_ret (v := .tuple #[.int .i64 (n : Int), .int .i64 (k : Int), .bool false]) (by simp [results, Tryz.results61, go_sem]) rfl ⟨by first | rfl | (rw [hn.out]; done) | rw [hn.out, decide_eq_false cb], by have h := hA9.out; rw [show (r : Int) = (p : Int) + k by have := hr2.out; omega] at h; exact h, eff_trans23 hE9.out (eff_drew23 _)⟩
    · have t1 : (r : Int) < s.size := by omega
      have t2 : (k : Int) < most := by omega
      have t3 : ¬ ((48 : Int) ≤ c) := by omega
      have k2 := ki.out e1
      go_upto_region 5 with (fail)
      go_region
      go_wp2_with fail
      refine bodyPost_ret (v := .tuple #[.int .i64 (n : Int), .int .i64 (k : Int), .bool false]) (by simp [results, Tryz.results61, go_sem]) rfl ⟨by first | rfl | (rw [hn.out]; done) | rw [hn.out, decide_eq_false cb], by have h := hA9.out; rw [show (r : Int) = (p : Int) + k by have := hr2.out; omega] at h; exact h, eff_trans23 hE9.out (eff_drew23 _)⟩
    · have t1 : (r : Int) < s.size := by omega
      have t2 : (k : Int) < most := by omega
      have t3 : (48 : Int) ≤ c := by omega
      have t4 : ¬ ((c : Int) ≤ 57) := by omega
      have k2 := ki.out e1
      go_upto_region 5 with (fail)
      go_region
      go_wp2_with fail
      refine bodyPost_ret (v := .tuple #[.int .i64 (n : Int), .int .i64 (k : Int), .bool false]) (by simp [results, Tryz.results61, go_sem]) rfl ⟨by first | rfl | (rw [hn.out]; done) | rw [hn.out, decide_eq_false cb], by have h := hA9.out; rw [show (r : Int) = (p : Int) + k by have := hr2.out; omega] at h; exact h, eff_trans23 hE9.out (eff_drew23 _)⟩
set_option maxRecDepth 100000 in
set_option maxHeartbeats 2000000 in
theorem char_any (A Q p c : Nat) (s : ByteArray) (w : World) (hA : w.heap[A]? = some (.cells #[.int .i64 (p : Int)] 3 (0, 0))) (hS : w.heap[Q]? = some (.cells #[.string s] 9 (0, 0))) (dAQ : Q ≠ A) (hp : p ≤ s.size) (hs : s.size ≤ 1000) (hc : c < 256) : Calls Tryz.prog 62 #[.int .u8 c, .pointer (some ⟨A, 0, none⟩), .pointer (some ⟨Q, 0, none⟩)] w fun e w' => e = .returned (.bool (hitB s p c)) ∧ w'.heap[A]? = some (.cells #[.int .i64 ((adv p (hitB s p c) : Nat) : Int)] 3 (0, 0)) ∧ Eff A w w' := by
  have a1 := held_cell hA 0 _ rfl
  have s1 := held_cell hS 0 _ rfl
  have hA9 := hid hA
  by_cases h1 : p < s.size
  case neg =>
    have e : hitB s p c = false := by unfold hitB; exact decide_eq_false fun h => h1 h.1
    rw [e, adv_f]
    have e1 : (p : Int) = s.size := by omega
    obtain rfl : p = s.size := by omega
    clear h1 e e1
    go_enter Tryz.func62, Tryz.ntmps62
    go_wp2_with fail
    go_ret
    exact ⟨rfl, hA9.out, eff_after23 (After.refl _)⟩
  obtain ⟨d, hd⟩ : ∃ d, (sb s).getD p 0 = d := ⟨_, rfl⟩
  have ki := tidx (P := Tryz.prog) 9 Tryz.underlying9 s p d h1 hd .i64 p rfl w
  have ne1 : ¬ ((p : Int) = s.size) := by omega
  have ne2 : ((p : Int) == s.size) = false := by simp; omega
  have ne3 : ¬ (p = s.size) := by omega
  by_cases h2 : d = c
  case neg =>
    have e : hitB s p c = false := by unfold hitB; exact decide_eq_false fun h => h2 (hd.symm.trans h.2)
    rw [e, adv_f]
    have h3 : ¬ ((d : Int) = c) := by omega
    clear hd e
    go_enter Tryz.func62, Tryz.ntmps62
    go_wp2_with fail
    go_ret
    exact ⟨rfl, hA9.out, eff_after23 (After.refl _)⟩
  subst h2
  have e : hitB s p d = true := hitB_is.2 ⟨h1, hd⟩
  rw [e, adv_t]
  have xs := hid (held_set hA 0 (.int .i64 ((p : Int) + 1)))
  have f0 := held_free hA 0
  have hE := hid (eff_set23 (g := A) (j := 0) w (.int .i64 ((p : Int) + 1)))
  have w5 : IntKind.i64.wrap ((p : Int) + 1) = (p : Int) + 1 := by rw [IntKind.wrap_i64] <;> omega
  clear hd e
  go_enter Tryz.func62, Tryz.ntmps62
  go_wp2_with fail
  go_ret
  exact ⟨rfl, by rw [show ((p + 1 : Nat) : Int) = (p : Int) + 1 by omega]; exact xs.out, hE.out⟩
set_option maxRecDepth 100000 in
set_option maxHeartbeats 2000000 in
theorem done_any (A Q p : Nat) (s : ByteArray) (w : World) (hA : w.heap[A]? = some (.cells #[.int .i64 (p : Int)] 3 (0, 0))) (hS : w.heap[Q]? = some (.cells #[.string s] 9 (0, 0))) (dAQ : Q ≠ A) (hp : p ≤ s.size) (hs : s.size ≤ 1000) : Calls Tryz.prog 63 #[.pointer (some ⟨A, 0, none⟩), .pointer (some ⟨Q, 0, none⟩)] w fun e w' => e = .returned (.bool (decide (p = s.size))) ∧ w' = w := by
  have a1 := held_cell hA 0 _ rfl
  have s1 := held_cell hS 0 _ rfl
  by_cases h1 : p = s.size
  · rw [decide_eq_true h1]
    subst h1
    go_enter Tryz.func63, Tryz.ntmps63
    go_wp2_with fail
    go_ret
    exact ⟨rfl, rfl⟩
  · rw [decide_eq_false h1]
    have ne1 : ¬ ((p : Int) = s.size) := by omega
    go_enter Tryz.func63, Tryz.ntmps63
    go_wp2_with fail
    go_ret
    exact ⟨ret_bool (by first | (simp [h1]; done) | (simp; omega)), rfl⟩
set_option maxRecDepth 100000 in
set_option maxHeartbeats 2000000 in
theorem scanner_any (s : ByteArray) (w : World) : Calls Tryz.prog 54 #[.string s] w fun e w' => e = .returned (.tuple #[.func (.func 61) #[] #[.pointer (some ⟨w.heap.size + 1, 0, none⟩), .pointer (some ⟨w.heap.size, 0, none⟩)], .func (.func 62) #[] #[.pointer (some ⟨w.heap.size + 1, 0, none⟩), .pointer (some ⟨w.heap.size, 0, none⟩)], .func (.func 63) #[] #[.pointer (some ⟨w.heap.size + 1, 0, none⟩), .pointer (some ⟨w.heap.size, 0, none⟩)]]) ∧ w'.heap[w.heap.size + 1]? = some (.cells #[.int .i64 ((0 : Nat) : Int)] 3 (0, 0)) ∧ w'.heap[w.heap.size]? = some (.cells #[.string s] 9 (0, 0)) ∧ After w w' := by
  have hmf : ∀ (fn : Fn) (first cap : Array Value) (w : World), (Instr.makeFunc fn first cap).run Tryz.prog w = .ok (.func fn first cap) w := fun _ _ _ _ => rfl
  have n1 := alloc_new w (.cells #[.string s] 9)
  have n2 := alloc_new (w.alloc (.cells #[.string s] 9)) (.cells #[.int .i64 0] 3)
  have hs1 : (w.alloc (.cells #[.string s] 9)).heap.size = w.heap.size + 1 := Array.size_push _
  have h1 := held_after n2.2.1 n1.2.2
  have h2 := n2.2.2
  rw [hs1] at h2
  have hA := hid (bthen n1.2.1 n2.2.1)
  replace h1 := hid h1
  replace h2 := hid h2
  clear n1 n2 hs1
  go_enter Tryz.func54, Tryz.ntmps54
  go_wp2_with fail
  refine bodyPost_ret (v := .tuple #[.func (.func 61) #[] #[.pointer (some ⟨w.heap.size + 1, 0, none⟩), .pointer (some ⟨w.heap.size, 0, none⟩)], .func (.func 62) #[] #[.pointer (some ⟨w.heap.size + 1, 0, none⟩), .pointer (some ⟨w.heap.size, 0, none⟩)], .func (.func 63) #[] #[.pointer (some ⟨w.heap.size + 1, 0, none⟩), .pointer (some ⟨w.heap.size, 0, none⟩)]]) (by simp [results, Tryz.results54, go_sem]) rfl ⟨rfl, h2.out, h1.out, hA.out⟩

end Go.Proofs.YtobgibmpodggkaaGreatDoor
