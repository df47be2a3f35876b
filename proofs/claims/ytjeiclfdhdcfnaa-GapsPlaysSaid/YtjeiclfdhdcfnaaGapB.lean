/- Stage 33: pieces for the papers' Hear. -/
import Derived.Test.YtjeiclfdhdcfnaaGapM
import Derived.Test.YtjeiclfdhdcfnaaGapA
import Derived.Test.YtjeiclfdhdcfnaaGap3
import Derived.Laws.Tables
namespace Go.Proofs.Ytjeiclfdhdcfnaa
open Go.ChangeShapes Go.WideShapes Go.ChangeAt Go.RowKit
set_option linter.unusedVariables false
set_option linter.unusedSimpArgs false

theorem els_none33 {w : World} {m : Nat} {a : Option Addr} {len cap : Nat} {xs : List (List Value)} (h : Els w m a len cap xs) : Els w m a 0 0 [] :=
  ⟨rfl, Nat.le_refl _, by unfold maxLen; omega, fun _ => rfl, fun i x hx => by simp at hx⟩
set_option maxRecDepth 100000 in
theorem cutT33 (a : Option Addr) (len cap n : Nat) (hc : len ≤ cap) (hn : n ≤ len) : ∃ a2 : Option Addr, (∀ W : World, (Instr.slice 26 (.slice a len cap) (some (.int .i64 (n : Int))) none none).run Try.prog W = .ok (.slice a2 (len - n) (cap - n)) W) ∧ (∀ (U : World) (xs : List (List Value)), Els U 5 a len cap xs → Els U 5 a2 (len - n) (cap - n) (xs.drop n)) := by
  have e : ∀ W : World, (Instr.slice 26 (.slice a len cap) (some (.int .i64 (n : Int))) none none).run Try.prog W = .ok (.slice (if cap = n then a else a.map (·.add (n * 5))) (len - n) (cap - n)) W := by
    intro W
    rw [run_slice_l W 26 a len cap (by rfl) .i64 (n : Int) (by omega) (by omega)]
    go_simp <;> simp [sliced]
  by_cases c : cap = n
  · refine ⟨a, ?_, ?_⟩
    · intro W; rw [e W, if_pos c]
    · intro U xs h
      have h9 := els_none33 h
      have hx : xs.drop n = [] := List.drop_of_length_le (by have := h.1; omega)
      rw [show cap - n = 0 by omega, show len - n = 0 by omega, hx]
      exact h9
  · refine ⟨a.map (·.add (n * 5)), ?_, ?_⟩
    · intro W; rw [e W, if_neg c]
    · intro U xs h
      exact h.drop n hn
set_option maxRecDepth 100000 in
theorem cutF33 (a : Option Addr) (len cap k : Nat) (hc : k ≤ cap) (W : World) : (Instr.slice 26 (.slice a len cap) none (some (.int .i64 (k : Int))) (some (.int .i64 (k : Int)))).run Try.prog W = .ok (.slice a k k) W := by
  have az : a.map (fun x => x.add 0) = a := by
    cases a with
    | none => rfl
    | some q => cases q; rfl
  rw [run_slice_hm W 26 a len cap (by rfl) .i64 .i64 (k : Int) (k : Int) (by omega) (by omega) (by omega)]
  by_cases e : k = 0
  · go_simp <;> simp [sliced, e]
  · go_simp <;> simp [sliced, e, az]
theorem ownE_cut33 {E : TypeId} {w : World} {base m : Nat} {a : Option Addr} {len cap : Nat} {xs : List Value} (h : OwnE E w base m (.slice a len cap) len xs) (k : Nat) (hk : k ≤ len) : OwnE E w base m (.slice a k k) k (xs.take (k * m)) ∧ len ≤ cap := by
  obtain ⟨h1, h2⟩ := h
  rcases h2 with ⟨e, h3⟩ | ⟨g, c, cur, e, r1, r2, r3, r4, r5, r6⟩
  · injection e with e1 e2 e3
    subst e1 e2 e3
    obtain rfl : k = 0 := by omega
    exact ⟨⟨by simp, .inl ⟨rfl, rfl⟩⟩, Nat.le_refl _⟩
  · injection e with e1 e2 e3
    subst e1 e3
    have hm := Nat.mul_le_mul_right m hk
    have hm2 := Nat.mul_le_mul_right m (Nat.le_trans hk r3)
    refine ⟨⟨by rw [List.length_take, h1]; omega, .inr ⟨g, k, cur, rfl, r1, r2, Nat.le_refl _, by omega, Nat.le_trans hm2 r5, ?_⟩⟩, r3⟩
    rw [← r6, List.take_take]
    congr 1
    omega
theorem flat5 : ∀ {S : List Ln} {i : Nat} {x : Ln}, S[i]? = some x → (S.map enL).flatten[i * 5]? = some (.int .i64 x.y) ∧ (S.map enL).flatten[i * 5 + 1]? = some (.int .i64 x.c) ∧ (S.map enL).flatten[i * 5 + 2]? = some (.int .i64 x.q) ∧ (S.map enL).flatten[i * 5 + 3]? = some (.int .i64 x.h) ∧ (S.map enL).flatten[i * 5 + 4]? = some (.int .i64 x.l)
  | [], i, x, h => by simp at h
  | z :: S, 0, x, h => by simp at h; subst h; exact ⟨rfl, rfl, rfl, rfl, rfl⟩
  | z :: S, i + 1, x, h => by
    have ih := flat5 (S := S) (i := i) (x := x) (by simpa using h)
    have e1 : (i + 1) * 5 = i * 5 + 5 := by omega
    rw [e1, Nat.add_right_comm (i * 5) 5 1, Nat.add_right_comm (i * 5) 5 2, Nat.add_right_comm (i * 5) 5 3, Nat.add_right_comm (i * 5) 5 4]
    show (_ :: _ :: _ :: _ :: _ :: (S.map enL).flatten)[i * 5 + 5]? = _ ∧ (_ :: _ :: _ :: _ :: _ :: (S.map enL).flatten)[i * 5 + 1 + 5]? = _ ∧ (_ :: _ :: _ :: _ :: _ :: (S.map enL).flatten)[i * 5 + 2 + 5]? = _ ∧ (_ :: _ :: _ :: _ :: _ :: (S.map enL).flatten)[i * 5 + 3 + 5]? = _ ∧ (_ :: _ :: _ :: _ :: _ :: (S.map enL).flatten)[i * 5 + 4 + 5]? = _
    exact ih
theorem flat_take5 (T : List Ln) (k : Nat) : ((T.map enL).flatten).take (k * 5) = ((T.take k).map enL).flatten := by
  induction T generalizing k with
  | nil => simp
  | cons z T ih =>
    cases k with
    | zero => simp
    | succ k =>
      have h := ih k
      rw [List.take_succ_cons, List.map_cons, List.map_cons, List.flatten_cons, List.flatten_cons, ← h, show (k + 1) * 5 = k * 5 + 5 by omega]
      rfl
/-- A line of an own list is changed in its place. -/
theorem own_set33 {E : TypeId} {U : World} {N : Nat} {a : Option Addr} {n cap k : Nat} {T : List Ln} {x : Ln} (hO : OwnE E U N 5 (.slice a n cap) n (T.map enL).flatten) (hx : T[k]? = some x) (v2 v3 v4 : Int) :
    ∃ g cur, a = some ⟨g, 0, none⟩ ∧ N ≤ g ∧ U.heap[g]? = some (.cells cur E (0, 0)) ∧ (cur[k * 5]? = some (.int .i64 x.y) ∧ cur[k * 5 + 1]? = some (.int .i64 x.c) ∧ cur[k * 5 + 2]? = some (.int .i64 x.q) ∧ cur[k * 5 + 3]? = some (.int .i64 x.h) ∧ cur[k * 5 + 4]? = some (.int .i64 x.l)) ∧
    ∀ W' : World, W'.heap[g]? = some (.cells (((cur.setIfInBounds (k * 5 + 2) (.int .i64 v2)).setIfInBounds (k * 5 + 3) (.int .i64 v3)).setIfInBounds (k * 5 + 4) (.int .i64 v4)) E (0, 0)) → Els W' 5 a n cap ((T.set k ⟨x.y, x.c, v2, v3, v4⟩).map enL) := by
  have hkT := (List.getElem?_eq_some_iff.1 hx).1
  obtain ⟨h1, h2⟩ := hO
  have hlen : T.length = n := by
    have e : (T.map enL).flatten.length = T.length * 5 := by
      clear h1 h2 hx hkT
      induction T with
      | nil => rfl
      | cons z T ih => rw [List.map_cons, List.flatten_cons, List.length_append, ih, List.length_cons]; show 5 + _ = _; omega
    omega
  rcases h2 with ⟨-, h3⟩ | ⟨g, c, cur, e, r1, r2, r3, r4, r5, r6⟩
  · omega
  injection e with e1 e2 e3
  subst e1 e3
  have hat : ∀ i z, T[i]? = some z → cur[i * 5]? = some (.int .i64 z.y) ∧ cur[i * 5 + 1]? = some (.int .i64 z.c) ∧ cur[i * 5 + 2]? = some (.int .i64 z.q) ∧ cur[i * 5 + 3]? = some (.int .i64 z.h) ∧ cur[i * 5 + 4]? = some (.int .i64 z.l) := by
    intro i z hz
    have hi := (List.getElem?_eq_some_iff.1 hz).1
    have hf := flat5 hz
    rw [← r6] at hf
    rw [List.getElem?_take_of_lt (by omega), List.getElem?_take_of_lt (by omega), List.getElem?_take_of_lt (by omega), List.getElem?_take_of_lt (by omega), List.getElem?_take_of_lt (by omega)] at hf
    simpa only [Array.getElem?_toList] using hf
  refine ⟨g, cur, rfl, r1, r2, hat k x hx, ?_⟩
  intro W' hW
  refine ⟨by rw [List.length_map, List.length_set]; exact hlen, r3, r4, (fun e => by cases e), ?_⟩
  intro i row hrow
  rw [List.getElem?_map] at hrow
  cases hs : (T.set k ⟨x.y, x.c, v2, v3, v4⟩)[i]? with
  | none => rw [hs] at hrow; cases hrow
  | some z =>
    rw [hs] at hrow
    cases hrow
    have hiT : i < T.length := by have := (List.getElem?_eq_some_iff.1 hs).1; rwa [List.length_set] at this
    have hsz : i * 5 + 4 < cur.size := by omega
    have all : (((cur.setIfInBounds (k * 5 + 2) (.int .i64 v2)).setIfInBounds (k * 5 + 3) (.int .i64 v3)).setIfInBounds (k * 5 + 4) (.int .i64 v4))[i * 5]? = some (.int .i64 z.y) ∧ (((cur.setIfInBounds (k * 5 + 2) (.int .i64 v2)).setIfInBounds (k * 5 + 3) (.int .i64 v3)).setIfInBounds (k * 5 + 4) (.int .i64 v4))[i * 5 + 1]? = some (.int .i64 z.c) ∧ (((cur.setIfInBounds (k * 5 + 2) (.int .i64 v2)).setIfInBounds (k * 5 + 3) (.int .i64 v3)).setIfInBounds (k * 5 + 4) (.int .i64 v4))[i * 5 + 2]? = some (.int .i64 z.q) ∧ (((cur.setIfInBounds (k * 5 + 2) (.int .i64 v2)).setIfInBounds (k * 5 + 3) (.int .i64 v3)).setIfInBounds (k * 5 + 4) (.int .i64 v4))[i * 5 + 3]? = some (.int .i64 z.h) ∧ (((cur.setIfInBounds (k * 5 + 2) (.int .i64 v2)).setIfInBounds (k * 5 + 3) (.int .i64 v3)).setIfInBounds (k * 5 + 4) (.int .i64 v4))[i * 5 + 4]? = some (.int .i64 z.l) := by
      rw [List.getElem?_set] at hs
      by_cases hik : k = i
      · subst hik
        rw [if_pos rfl, if_pos hiT] at hs
        cases hs
        obtain ⟨a0, a1, a2, a3, a4⟩ := hat k x hx
        simp only [Array.getElem?_setIfInBounds, Array.size_setIfInBounds]
        refine ⟨?_, ?_, ?_, ?_, ?_⟩ <;> (repeat rw [if_neg (by omega)]) <;> first | assumption | (simp; omega)
      · rw [if_neg hik] at hs
        obtain ⟨a0, a1, a2, a3, a4⟩ := hat i z hs
        simp only [Array.getElem?_setIfInBounds, Array.size_setIfInBounds]
        refine ⟨?_, ?_, ?_, ?_, ?_⟩ <;> (repeat rw [if_neg (by omega)]) <;> assumption
    obtain ⟨a0, a1, a2, a3, a4⟩ := all
    refine ⟨rfl, g, 0, rfl, ?_⟩
    intro j v hj
    rw [Nat.zero_add]
    match j, hj with
    | 0, hj => cases hj; exact held_cell hW _ _ a0
    | 1, hj => cases hj; exact held_cell hW _ _ a1
    | 2, hj => cases hj; exact held_cell hW _ _ a2
    | 3, hj => cases hj; exact held_cell hW _ _ a3
    | 4, hj => cases hj; exact held_cell hW _ _ a4
    | j + 5, hj => simp [enL] at hj
set_option maxRecDepth 100000 in
set_option maxHeartbeats 2000000 in
theorem roct33_any (n : Int) (w : World) : Calls Try.prog 16 #[.int .i64 n] w fun r w' => r = .returned (.bool (isB n)) ∧ w' = w := by
  by_cases c1 : 0 ≤ n
  · have b1 : decide (0 ≤ n) = true := by simpa using c1
    have e : isB n = decide (n ≤ 255) := by unfold isB; simp [c1]
    rw [e]
    clear e
    go_enter Try.func16, Try.ntmps16
    go_wp2_with fail
    go_ret
    exact ⟨rfl, rfl⟩
  · have b1 : decide (0 ≤ n) = false := by simpa using c1
    have e : isB n = false := by unfold isB; simp [c1]
    rw [e]
    clear e
    go_enter Try.func16, Try.ntmps16
    go_wp2_with fail
    go_ret
    exact ⟨rfl, rfl⟩
end Go.Proofs.Ytjeiclfdhdcfnaa
