/- Package rmc: what is put is taken, what is taken is put. -/
import Derived.Test.YthnoomdhgbaecaaGreatDoorRC
import Derived.Test.YthnoomdhgbaecaaGreatDoorGR
import Derived.Deep.DeepCutAuto
namespace Go.Proofs.YthnoomdhgbaecaaGreatDoor

open Go.ChangeShapes Go.WideShapes Go.ChangeAt Go.RowKit

set_option linter.unusedVariables false

set_option linter.unusedSimpArgs false

theorem vN_zero {n : Int} (h : vN n = 0) : n = 0 := by unfold vN at h; split at h <;> omega
theorem dat_put {b : Bool} {d m y : Int} {T : ByteArray} (hD : putDt b d m y = .tuple #[.string T, .int .i64 0]) : takeD (sb T) = .tuple #[.agg #[.bool b, .int .i64 d, .int .i64 m, .int .i64 y], .int .i64 0] ∧ T.size ≤ 1000 := by
  cases hm : mayDB b d m y with
  | false => rw [putD_no hm] at hD; simp at hD
  | true =>
    obtain ⟨S, hS, h9, -, hT⟩ := taked_put hm
    rw [hS] at hD
    simp at hD
    subst hD
    exact ⟨hT, by omega⟩
theorem dat_back {l : List Nat} {b : Bool} {d m y : Int} (hV : takeD l = .tuple #[.agg #[.bool b, .int .i64 d, .int .i64 m, .int .i64 y], .int .i64 0]) : ∃ T : ByteArray, putDt b d m y = .tuple #[.string T, .int .i64 0] ∧ T.size ≤ l.length := by
  unfold takeD at hV
  split at hV
  · unfold datNo at hV
    simp at hV
    obtain ⟨rfl, rfl, rfl, rfl⟩ := hV
    exact ⟨⟨#[]⟩, rfl, Nat.zero_le _⟩
  · split at hV
    · rename_i h6
      split at hV
      · rename_i hm
        simp at hV
        obtain ⟨rfl, rfl, rfl, rfl⟩ := hV
        obtain ⟨S, hS, h1, -, -⟩ := taked_put hm
        exact ⟨S, hS, by rw [h6.1]; exact h1⟩
      · unfold datNo at hV; simp at hV
    · unfold datNo at hV; simp at hV
theorem on_put (b : Bool) : onE (stS b) ⟨#[65]⟩ ⟨#[86]⟩ = 0 ∧ decide (stS b = ⟨#[65]⟩) = b := by cases b <;> exact ⟨by decide +kernel, by decide +kernel⟩
theorem on_back {s : ByteArray} (h : onE s ⟨#[65]⟩ ⟨#[86]⟩ = 0) (b : Bool) : (stS b).size ≤ s.size := by
  have h1 : s.size = 1 := by
    unfold onE at h
    by_cases c1 : s = ⟨#[65]⟩
    · rw [c1]; rfl
    · by_cases c2 : s = ⟨#[86]⟩
      · rw [c2]; rfl
      · rw [if_pos ⟨c1, c2⟩] at h; cases h
  rw [h1]
  cases b <;> exact Nat.le_refl 1
theorem var_put {i : Bool} {n : Int} (h : (putD i (vN n) 1 3 1 0 1800).2 = 0) : tvD (i, vN n, 0) (vS i n) = (i, n, 0) := by
  have hL := putD_ok (L := (putD i (vN n) 1 3 1 0 1800).1) (Prod.ext rfl h)
  have hm := hL.2.1
  unfold tvD
  dsimp only
  rw [if_neg (fun h => h rfl)]
  cases i
  · have h0 : vN n = 0 := by unfold missE at hm; simp at hm; exact hm
    have hn := vN_zero h0
    subst hn
    decide +kernel
  · have hb : 0 ≤ vN n ∧ vN n ≤ 1800 := by unfold missE at hm; simp at hm; omega
    by_cases c : n < 0 ∧ -1800 ≤ n
    · have e1 : vS true n = ⟨#[87]⟩ := by unfold vS; rw [if_pos rfl, if_pos c]
      have e2 : vN n = -n := by unfold vN; rw [if_pos c]
      have e3 : sdE ⟨#[87]⟩ true = 0 := by decide +kernel
      rw [e1, e2, e3, if_neg (fun h => h rfl)]
      unfold sdN
      rw [if_pos rfl, Int.neg_neg]
    · have e1 : vS true n = ⟨#[69]⟩ := by unfold vS; rw [if_pos rfl, if_neg c]
      have e2 : vN n = n := by unfold vN; rw [if_neg c]
      have e3 : sdE ⟨#[69]⟩ true = 0 := by decide +kernel
      rw [e1, e2, e3, if_neg (fun h => h rfl)]
      unfold sdN
      rw [if_neg (by decide +kernel)]
theorem var_back {u : ByteArray} {i : Bool} {n : Int} (hn : 0 ≤ n ∧ n ≤ 1800) (h : sdE u i = 0) : vN (sdN u n) = n ∧ (vS i (sdN u n)).size ≤ u.size := by
  refine ⟨?_, ?_⟩
  · unfold sdN vN; split <;> split <;> omega
  · cases i
    · unfold vS; rw [if_neg (by decide)]; exact Nat.zero_le _
    · have h1 : u.size = 1 := by
        unfold sdE at h
        rw [if_pos rfl] at h
        by_cases c1 : u = ⟨#[69]⟩
        · rw [c1]; rfl
        · by_cases c2 : u = ⟨#[87]⟩
          · rw [c2]; rfl
          · rw [if_pos ⟨c1, c2⟩] at h; cases h
      rw [h1]
      unfold vS
      rw [if_pos rfl]
      split <;> exact Nat.le_refl 1
theorem vS_size (i : Bool) (n : Int) : (vS i n).size ≤ 1000 := by unfold vS; split <;> (try split) <;> decide
theorem stS_size (b : Bool) : (stS b).size ≤ 1000 := by cases b <;> decide
set_option maxRecDepth 100000 in
set_option maxHeartbeats 4000000 in
theorem rback1 (tb : Bool) (tho : Int) (tmi : Int) (tse : Int) (tce : Int) (ac : Bool) (ai : Bool) (an : Int) (oi : Bool) (on : Int) (pi : Bool) (pn : Int) (ci : Bool) (cn : Int) (vi : Bool) (vn : Int) (db : Bool) (dd : Int) (dm : Int) (dy : Int) (T : ByteArray) (k : Int) (Td : ByteArray) (kd : Int) (hV : putV tb tho tmi tse tce = .tuple #[.string T, .int .i64 k]) (hD : putDt db dd dm dy = .tuple #[.string Td, .int .i64 kd]) (h0 : fE (rmI T k ac ai an oi on pi pn ci cn vi vn Td kd) = 0) : (fL (rmI T k ac ai an oi on pi pn ci cn vi vn Td kd)).length = 11 ∧ ∀ (U : World) (a : Option Addr) (cap : Nat), Els U 1 a 11 cap (strV23 (fL (rmI T k ac ai an oi on pi pn ci cn vi vn Td kd))) → Calls Tryz.prog 14 #[.slice a 11 cap] U fun r w' => r = .returned (.tuple #[.agg #[.bool tb, .int .i64 tho, .int .i64 tmi, .int .i64 tse, .int .i64 tce, .bool ac, .bool ai, .int .i64 an, .bool oi, .int .i64 on, .bool pi, .int .i64 pn, .bool ci, .int .i64 cn, .bool vi, .int .i64 vn, .bool db, .int .i64 dd, .int .i64 dm, .int .i64 dy], .int .i64 0]) ∧ After U w' := by
  have hz := (fE_zero2 (e := 0) h0).2
  have hk : k = 0 := hz _ (List.Mem.head _)
  subst hk
  have hkd : kd = 0 := hz _ (List.Mem.tail _ (List.Mem.tail _ (List.Mem.tail _ (List.Mem.tail _ (List.Mem.tail _ (List.Mem.tail _ (List.Mem.head _)))))))
  subst hkd
  have c0 := clk_put hV
  have d0 := dat_put hD
  have a2 := ang_all2 (hz _ (List.Mem.tail _ (List.Mem.tail _ (List.Mem.head _))))
  have a3 := ang_all2 (hz _ (List.Mem.tail _ (List.Mem.tail _ (List.Mem.tail _ (List.Mem.head _)))))
  have a4 := put_all2 (hz _ (List.Mem.tail _ (List.Mem.tail _ (List.Mem.tail _ (List.Mem.tail _ (List.Mem.head _))))))
  have a5 := put_all2 (hz _ (List.Mem.tail _ (List.Mem.tail _ (List.Mem.tail _ (List.Mem.tail _ (List.Mem.tail _ (List.Mem.head _)))))))
  have z7 := hz _ (List.Mem.tail _ (List.Mem.tail _ (List.Mem.tail _ (List.Mem.tail _ (List.Mem.tail _ (List.Mem.tail _ (List.Mem.tail _ (List.Mem.head _))))))))
  have a7 := put_all2 z7
  have v7 := var_put z7
  have o1 := on_put ac
  refine ⟨rfl, fun U a cap hE => ?_⟩
  have hK : moL (kp (kp (kp (kp (kp (kp (kp (kp 0 0) (onE (stS ac) ⟨#[65]⟩ ⟨#[86]⟩)) 0) 0) 0) 0) 0) (tvD (vi, vN vn, 0) (vS vi vn)).2.2) [] = 0 := by rw [o1.1, v7]; rfl
  have k := rmtake_any T (stS ac) (nb (angD ai an true).1) (nb (angD ai an true).2.1) (nb (angD oi on false).1) (nb (angD oi on false).2.1) (nb (putD pi pn 1 4 2 0 999999).1) (nb (putD ci cn 1 3 2 0 36000).1) Td (nb (putD vi (vN vn) 1 3 1 0 1800).1) (vS vi vn) [] (by decide) c0.1 a2.1 a3.1 a4.1 a5.1 d0.1 a7.1 hK U a 11 cap rfl hE (List.forall_mem_cons.2 ⟨c0.2, (List.forall_mem_cons.2 ⟨(stS_size _), (List.forall_mem_cons.2 ⟨a2.2, (List.forall_mem_cons.2 ⟨ang_side, (List.forall_mem_cons.2 ⟨a3.2, (List.forall_mem_cons.2 ⟨ang_side, (List.forall_mem_cons.2 ⟨a4.2, (List.forall_mem_cons.2 ⟨a5.2, (List.forall_mem_cons.2 ⟨d0.2, (List.forall_mem_cons.2 ⟨a7.2, (List.forall_mem_cons.2 ⟨(vS_size _ _), (fun s hs => by cases hs)⟩)⟩)⟩)⟩)⟩)⟩)⟩)⟩)⟩)⟩)⟩)
  unfold rmR at k
  rw [if_pos rfl, v7, o1.2] at k
  exact k
set_option maxRecDepth 100000 in
set_option maxHeartbeats 4000000 in
theorem rback2 (s0 s1 s2 s3 s4 s5 s6 s7 s8 s9 s10 : ByteArray) (R : List ByteArray) (hR : R.length ≤ 1) {b : Bool} {ho mi se ce k : Int} {ai : Bool} {an x1 : Int} {oi : Bool} {on x2 : Int} {pi : Bool} {pn x3 : Int} {ci : Bool} {cn x4 : Int} {db : Bool} {dd dm dy kd : Int} {vi : Bool} {vn x5 : Int} (hV : takeV (sb s0) = .tuple #[.agg #[.bool b, .int .i64 ho, .int .i64 mi, .int .i64 se, .int .i64 ce], .int .i64 k]) (h1 : tkaD s2 s3 true = (ai, an, x1)) (h2 : tkaD s4 s5 false = (oi, on, x2)) (h3 : takD s6 1 4 2 0 999999 = (pi, pn, x3)) (h4 : takD s7 1 3 2 0 36000 = (ci, cn, x4)) (hD : takeD (sb s8) = .tuple #[.agg #[.bool db, .int .i64 dd, .int .i64 dm, .int .i64 dy], .int .i64 kd]) (h5 : takD s9 1 3 1 0 1800 = (vi, vn, x5)) (hKE : moL (kp (kp (kp (kp (kp (kp (kp (kp 0 k) (onE s1 ⟨#[65]⟩ ⟨#[86]⟩)) x1) x2) x3) x4) kd) (tvD (vi, vn, x5) s10).2.2) R = 0) : ∃ T Td : ByteArray, putV b ho mi se ce = .tuple #[.string T, .int .i64 0] ∧ putDt db dd dm dy = .tuple #[.string Td, .int .i64 0] ∧ fE (rmI T 0 (decide (s1 = ⟨#[65]⟩)) ai an oi on pi pn ci cn vi (sdN s10 vn) Td 0) = 0 ∧ ((-9223372036854775808 ≤ an ∧ an ≤ 9223372036854775807) ∧ (-9223372036854775808 ≤ on ∧ on ≤ 9223372036854775807) ∧ (-9223372036854775808 ≤ pn ∧ pn ≤ 9223372036854775807) ∧ (-9223372036854775808 ≤ cn ∧ cn ≤ 9223372036854775807) ∧ (-9223372036854775808 ≤ (sdN s10 vn) ∧ (sdN s10 vn) ≤ 9223372036854775807)) ∧ ∀ (i : Nat) (t s : ByteArray), (fL (rmI T 0 (decide (s1 = ⟨#[65]⟩)) ai an oi on pi pn ci cn vi (sdN s10 vn) Td 0))[i]? = some t → (s0 :: s1 :: s2 :: s3 :: s4 :: s5 :: s6 :: s7 :: s8 :: s9 :: s10 :: R)[i]? = some s → t.size ≤ s.size := by
  have q7 := kp_ok (moL_zero hKE)
  have q6 := kp_ok q7.1
  have q5 := kp_ok q6.1
  have q4 := kp_ok q5.1
  have q3 := kp_ok q4.1
  have q2 := kp_ok q3.1
  have q1 := kp_ok q2.1
  have q0 := (kp_ok q1.1).2
  rw [q0] at hV
  rw [q2.2] at h1
  rw [q3.2] at h2
  rw [q4.2] at h3
  rw [q5.2] at h4
  rw [q6.2] at hD
  have hv := tv_val q7.2
  have hbn := takD_bd h5 (by decide)
  rw [hv.1] at h5
  have vb := var_back (u := s10) (i := vi) (n := vn) hbn.2 hv.2.1
  obtain ⟨T, g0, l0, -, -⟩ := clk_back hV
  rw [sb_len] at l0
  obtain ⟨Td, gd, ld⟩ := dat_back hD
  rw [sb_len] at ld
  obtain ⟨A1, B1, g1, b1, l1a, l1b⟩ := tka_all h1 rfl
  obtain ⟨A2, B2, g2, b2, l2a, l2b⟩ := tka_all h2 rfl
  obtain ⟨P4, g4, b4, l4⟩ := tak_all h3 rfl (by decide)
  replace l4 := l4 rfl
  obtain ⟨P5, g5, b5, l5⟩ := tak_all h4 rfl (by decide)
  replace l5 := l5 rfl
  obtain ⟨P7, g7, b7, l7⟩ := tak_all h5 rfl (by decide)
  replace l7 := l7 rfl
  have ob := on_back q1.2 (decide (s1 = ⟨#[65]⟩))
  have hbv : (-9223372036854775808 ≤ (sdN s10 vn) ∧ (sdN s10 vn) ≤ 9223372036854775807) := by unfold sdN; split <;> omega
  have hL : rmI T 0 (decide (s1 = ⟨#[65]⟩)) ai an oi on pi pn ci cn vi (sdN s10 vn) Td 0 = [([T], 0), ([stS (decide (s1 = ⟨#[65]⟩))], 0), ([nb A1, nb B1], 0), ([nb A2, nb B2], 0), ([nb P4], 0), ([nb P5], 0), ([Td], 0), ([nb P7, vS vi (sdN s10 vn)], 0)] := by unfold rmI; rw [vb.1, g1, g2, g4, g5, g7]
  refine ⟨T, Td, g0, gd, ?_⟩
  rw [hL]
  refine ⟨rfl, ⟨b1, b2, b4, b5, hbv⟩, fun i t s ht hs => ?_⟩
  match i, ht, hs with
  | 0, ht, hs => cases ht; cases hs; exact l0
  | 1, ht, hs => cases ht; cases hs; exact ob
  | 2, ht, hs => cases ht; cases hs; exact l1a
  | 3, ht, hs => cases ht; cases hs; exact l1b
  | 4, ht, hs => cases ht; cases hs; exact l2a
  | 5, ht, hs => cases ht; cases hs; exact l2b
  | 6, ht, hs => cases ht; cases hs; exact l4
  | 7, ht, hs => cases ht; cases hs; exact l5
  | 8, ht, hs => cases ht; cases hs; exact ld
  | 9, ht, hs => cases ht; cases hs; exact l7
  | 10, ht, hs => cases ht; cases hs; exact vb.2
  | i + 11, ht, hs => cases ht

end Go.Proofs.YthnoomdhgbaecaaGreatDoor
