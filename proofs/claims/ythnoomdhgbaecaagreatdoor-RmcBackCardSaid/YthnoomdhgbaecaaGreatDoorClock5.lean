/- Package clock: the pairs of digits. -/
import Derived.Test.YthnoomdhgbaecaaGreatDoorClock4
import Derived.Test.YthnoomdhgbaecaaGreatDoorKA
import Derived.Test.YthnoomdhgbaecaaGreatDoorKB
import Derived.Deep.DeepCutAuto
namespace Go.Proofs.YthnoomdhgbaecaaGreatDoor

open Go.ChangeShapes Go.WideShapes Go.ChangeAt Go.RowKit

set_option linter.unusedVariables false

theorem sb_extract (s : ByteArray) (i j : Nat) : sb (s.extract i j) = ((sb s).take j).drop i := by
  unfold sb
  rw [ByteArray.data_extract, Array.toList_extract]
  rw [List.extract_eq_take_drop]
  simp [List.map_take, List.map_drop, List.drop_take]
def dgB (c : Nat) : Bool := decide (48 ≤ c) && decide (c ≤ 57)
theorem dgB_yes {c : Nat} (h1 : 48 ≤ c) (h2 : c ≤ 57) : dgB c = true := by unfold dgB; simp [h1, h2]
theorem dgB_iff {c : Nat} : dgB c = true ↔ 48 ≤ c ∧ c ≤ 57 := by unfold dgB; simp
def pairN (a b : Nat) : Int := 10 * ((a : Int) - 48) + ((b : Int) - 48)
/-- What the pairs of a text's digits are. -/
def prS : List Nat → List (Int × Bool)
  | a :: b :: r => if dgB a && dgB b then (pairN a b, true) :: prS r else [(0, false)]
  | [_] => [(0, false)]
  | [] => []
theorem prS_yes {a b : Nat} (r : List Nat) (h : (dgB a && dgB b) = true) : prS (a :: b :: r) = (pairN a b, true) :: prS r := by rw [prS, if_pos h]
theorem prS_no {a b : Nat} (r : List Nat) (h : (dgB a && dgB b) = false) : prS (a :: b :: r) = [(0, false)] := by rw [prS, h]; rfl
theorem sb_two (t : ByteArray) (h : 2 ≤ t.size) : ∃ a b : Nat, sb t = a :: b :: sb (t.extract 2 t.size) ∧ (t[0]'(by omega)).toNat = a ∧ (t[1]'(by omega)).toNat = b ∧ a < 256 ∧ b < 256 := by
  refine ⟨_, _, ?_, rfl, rfl, UInt8.toNat_lt _, UInt8.toNat_lt _⟩
  have h0 := sb_drop t 0 (by omega)
  have h1 := sb_drop t 1 (by omega)
  rw [List.drop_zero] at h0
  rw [sb_extract, List.take_of_length_le (by rw [sb_len]; omega)]
  rw [h0, Nat.zero_add, h1]
  rfl
theorem sb_one (t : ByteArray) (h : t.size = 1) : ∃ a : Nat, sb t = [a] := by
  have h0 := sb_drop t 0 (by omega)
  rw [List.drop_zero, sb_end t (0 + 1) (by omega)] at h0
  exact ⟨_, h0⟩
theorem sb_none (t : ByteArray) (h : t.size = 0) : sb t = [] := by
  have := sb_end t 0 (by omega)
  rwa [List.drop_zero] at this
theorem emp_iff (t : ByteArray) : t.toList.isEmpty = decide (t.size = 0) := by
  rw [ByteArray.toList_eq]
  have h : t.data.toList.length = t.size := by simp
  cases e : t.data.toList with
  | nil => rw [e] at h; simp at h; simp [← h]
  | cons a r => rw [e] at h; simp at h; have : t.size ≠ 0 := by omega
                simp [this]
def strAt (w : World) (b : Nat) : Nat := match w.cell? ⟨b, 0, none⟩ with | some (.string t) => t.size | _ => 0
theorem strAt_of {w : World} {b : Nat} {t : ByteArray} (h : w.cell? ⟨b, 0, none⟩ = some (.string t)) : strAt w b = t.size := by unfold strAt; rw [h]
theorem eff_setC {B : Nat} {A : World} (v : Value) : Eff B A (A.setCell ⟨B, 0, none⟩ v) := ⟨rfl, rfl, rfl, by simp, fun k hk hn => Below.heap_setCell A ⟨B, 0, none⟩ v k hn⟩
theorem isdigit_any (c : Nat) (w : World) : Calls Tryz.prog 119 #[.int .u8 c] w fun e w' => e = .returned (.bool (dgB c)) ∧ w' = w := by
  by_cases h1 : 48 ≤ c
  · have i1 : (48 : Int) ≤ c := by omega
    by_cases h2 : c ≤ 57
    · have i2 : (c : Int) ≤ 57 := by omega
      rw [dgB_yes h1 h2]
      go_enter Tryz.func119, Tryz.ntmps119
      go_wp2_with fail
      all_goals go_ret
      all_goals exact ⟨rfl, rfl⟩
    · have i2 : ¬ (c : Int) ≤ 57 := by omega
      have e : dgB c = false := by unfold dgB; simp [h2]
      rw [e]
      clear e
      go_enter Tryz.func119, Tryz.ntmps119
      go_wp2_with fail
      all_goals go_ret
      all_goals exact ⟨rfl, rfl⟩
  · have i1 : ¬ (48 : Int) ≤ c := by omega
    have e : dgB c = false := by unfold dgB; simp [h1]
    rw [e]
    clear e
    go_enter Tryz.func119, Tryz.ntmps119
    go_wp2_with fail
    all_goals go_ret
    all_goals exact ⟨rfl, rfl⟩
theorem pairs_any (s : ByteArray) (w : World) : Calls Tryz.prog 112 #[.string s] w fun e w' => e = .returned (.func (.func 118) #[] #[.pointer (some ⟨w.heap.size, 0, none⟩)]) ∧ w' = w.alloc (.cells #[.string s] 9) := by
  have hmf : ∀ (fn : Fn) (first cap : Array Value) (w : World), (Instr.makeFunc fn first cap).run Tryz.prog w = .ok (.func fn first cap) w := fun _ _ _ _ => rfl
  go_enter Tryz.func112, Tryz.ntmps112
  go_wp2_with fail
  go_ret
  exact ⟨rfl, rfl⟩
attribute [local go_sem] Oper.semAt_some

set_option maxRecDepth 100000 in
set_option maxHeartbeats 4000000 in
theorem pairs_tells (s : ByteArray) (B : Nat) (w0 : World) (hB : B < w0.heap.size) (hc : w0.heap[B]? = some (.cells #[.string s] 9 (0, 0))) (hs : s.size ≤ 100000) :
    Tells Tryz.prog 118 #[.pointer (some ⟨B, 0, none⟩)] (fun x : Int × Bool => #[.int .i64 x.1, .bool x.2]) B (fun ys => ys = prS (sb s)) (fun pre => pre <+: prS (sb s)) (prS (sb s)).length w0 := by
  intro l J Jx W hW hst hY h0
  have hc0 := (hW.block B hB).trans hc
  refine callsIn_of_wp Tryz.func118 rfl trivial ?_ rfl
  simp only [Tryz.ntmps118, List.size_toArray, List.length_cons, List.length_nil, Nat.reduceAdd, Nat.reduceSub, Array.replicate_succ, Array.replicate_zero, List.push_toArray, List.append_toArray, List.nil_append, List.cons_append]
  replace hW := hid hW
  replace hst := hid hst
  replace hY := hid hY
  clear hc
  have hc1 := held_cell hc0 0 _ rfl
  gi_wp2
  gi_loopw [3, 4, 5] (fun _ _ _ wr => ∃ (t : ByteArray) (pre : List (Int × Bool)), wr.heap[B]? = some (.cells #[.string t] 9 (0, 0)) ∧ Go.RowKit.Hid (prS (sb s) = pre ++ prS (sb t)) ∧ J pre wr ∧ t.size ≤ s.size) (fun _ _ _ wr => strAt wr B)
  case atStart => exact ⟨s, [], hc0, hid (by simp), h0, Nat.le_refl _⟩
  case round =>
    clear hc0 hc1 h0
    obtain ⟨t, pre, ht, hP, hJ, hz⟩ := hrel
    have tc := held_cell ht 0 _ rfl
    have tf := held_free ht 0
    have hm := hid (strAt_of tc)
    by_cases h2 : 2 ≤ t.size
    · obtain ⟨a, b, hl, ga, gb, a2, b2⟩ := sb_two t h2
      have ka := hid (fun v => isdigit_any a v)
      have kb := hid (fun v => isdigit_any b v)
      have hlen : ∀ x : Int × Bool, ∀ r, prS (sb t) = x :: r → pre.length < (prS (sb s)).length := fun x r h => by rw [hP.out, h]; simp
      gi_wp2
      gi_region
      have hV : wr.drew.heap[B]? = some (.cells #[.string t] 9 (0, 0)) := ht
      have hJV := hst.out pre wr wr.drew hJ ⟨rfl, rfl, rfl, Nat.le_refl _, fun _ _ _ => rfl⟩
      clear ht hJ tc tf
      generalize wr.drew = V at *
      have vc := held_cell hV 0 _ rfl
      have vf := held_free hV 0
      by_cases hd : (dgB a && dgB b) = true
      · have hd2 := hd
        simp only [Bool.and_eq_true, dgB_iff] at hd
        obtain ⟨⟨x1, x2⟩, x3, x4⟩ := hd
        rw [dgB_yes x1 x2] at ka
        rw [dgB_yes x3 x4] at kb
        rw [hl, prS_yes _ hd2] at hP hlen
        obtain ⟨fn, tmps, assign, body, hy, hR⟩ := hY.out pre (10 * ((a : Int) - 48) + ((b : Int) - 48), true) V hJV (hlen _ _ rfl)
        clear hl hd2
        gi_wp2
        refine ⟨trivial, ((callsIn_wide (n := _)).2 (ka.out _)).mono ?_⟩
        rintro e V2 ⟨rfl, rfl⟩
        gi_wp2
        refine ⟨trivial, ((callsIn_wide (n := _)).2 (kb.out _)).mono ?_⟩
        rintro e V2 ⟨rfl, rfl⟩
        gi_wp2
        refine hR.mono ?_
        rintro e W3 (⟨rfl, hJ3, hk3⟩ | ⟨rfl, hJx3⟩)
        · have h3 := hk3.2.trans hV
          have h3c := held_cell h3 0 _ rfl
          have h3f := held_free h3 0
          have hsz : (t.extract 2 t.size).size = t.size - 2 := by rw [ByteArray.size_extract]; omega
          replace hsz := hid hsz
          gi_wp2
          go_roundw
          case rel => exact ⟨t.extract 2 t.size, pre ++ [(pairN a b, true)], held_set h3 0 _, hid (by rw [hP.out, List.append_assoc]; rfl), hst.out _ _ _ hJ3 (eff_setC _), by rw [hsz.out]; omega⟩
          case measure => rw [hm.out, strAt_of (held_cell (held_set h3 0 _) 0 _ rfl), hsz.out]; omega
        · gi_wp2
          refine bodyPost_ret (results_none rfl _ _ _) rfl ?_
          exact ⟨⟨_, rfl⟩, .inr ⟨_, by rw [hP.out]; exact ⟨_, by rw [List.append_assoc]; rfl⟩, hJx3⟩⟩
      · have hd2 : (dgB a && dgB b) = false := by simpa using hd
        rw [hl, prS_no _ hd2] at hP hlen
        obtain ⟨fn, tmps, assign, body, hy, hR⟩ := hY.out pre (0, false) V hJV (hlen _ _ rfl)
        clear hl
        replace hd2 := hid hd2
        clear hd
        cases hda : dgB a
        · rw [hda] at ka
          clear hda
          gi_wp2
          refine ⟨trivial, ((callsIn_wide (n := _)).2 (ka.out _)).mono ?_⟩
          rintro e V2 ⟨rfl, rfl⟩
          gi_wp2
          refine ⟨trivial, ?_⟩
          gi_wp2
          refine hR.mono ?_
          rintro e W3 (⟨rfl, hJ3, hk3⟩ | ⟨rfl, hJx3⟩)
          · gi_wp2
            refine bodyPost_ret (results_none rfl _ _ _) rfl ?_
            exact ⟨⟨_, rfl⟩, .inl ⟨_, hP.out.symm, hJ3⟩⟩
          · gi_wp2
            refine bodyPost_ret (results_none rfl _ _ _) rfl ?_
            exact ⟨⟨_, rfl⟩, .inr ⟨_, by rw [hP.out]; exact List.prefix_refl _, hJx3⟩⟩
        · have hdb : dgB b = false := by have := hd2.out; rw [hda] at this; simpa using this
          rw [hda] at ka
          rw [hdb] at kb
          clear hda hdb
          gi_wp2
          refine ⟨trivial, ((callsIn_wide (n := _)).2 (ka.out _)).mono ?_⟩
          rintro e V2 ⟨rfl, rfl⟩
          gi_wp2
          refine ⟨trivial, ((callsIn_wide (n := _)).2 (kb.out _)).mono ?_⟩
          rintro e V2 ⟨rfl, rfl⟩
          gi_wp2
          refine hR.mono ?_
          rintro e W3 (⟨rfl, hJ3, hk3⟩ | ⟨rfl, hJx3⟩)
          · gi_wp2
            refine bodyPost_ret (results_none rfl _ _ _) rfl ?_
            exact ⟨⟨_, rfl⟩, .inl ⟨_, hP.out.symm, hJ3⟩⟩
          · gi_wp2
            refine bodyPost_ret (results_none rfl _ _ _) rfl ?_
            exact ⟨⟨_, rfl⟩, .inr ⟨_, by rw [hP.out]; exact List.prefix_refl _, hJx3⟩⟩
    · by_cases h1 : t.size = 1
      · obtain ⟨a, hl⟩ := sb_one t h1
        rw [hl] at hP
        obtain ⟨fn, tmps, assign, body, hy, hR⟩ := hY.out pre (0, false) wr hJ (by rw [hP.out]; simp [prS])
        have hE : t.toList.isEmpty = false := by rw [emp_iff]; simp [h1]
        clear hl
        gi_wp2
        refine hR.mono ?_
        rintro e W3 (⟨rfl, hJ3, hk3⟩ | ⟨rfl, hJx3⟩)
        · gi_wp2
          go_end0
          exact ⟨⟨_, rfl⟩, .inl ⟨_, hP.out.symm, hJ3⟩⟩
        · gi_wp2
          go_end0
          exact ⟨⟨_, rfl⟩, .inr ⟨_, by rw [hP.out]; exact List.prefix_refl _, hJx3⟩⟩
      · have h0 : t.size = 0 := by omega
        have hl := sb_none t h0
        rw [hl] at hP
        have hE : t.toList.isEmpty = true := by rw [emp_iff]; simp [h0]
        clear hl h1 h2
        gi_wp2
        go_end0
        exact ⟨⟨_, rfl⟩, .inl ⟨_, by rw [hP.out]; simp [prS], hJ⟩⟩

end Go.Proofs.YthnoomdhgbaecaaGreatDoor
