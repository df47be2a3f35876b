/- Package small: the other three places. -/
import Derived.Test.YtnabfimammojhaaRange
import Derived.Test.YtnabfimammojhaaBits8
import Derived.Test.YtnabfimammojhaaUnit2
import Derived.Test.YtnabfimammojhaaQuat2
namespace Go.Proofs.Ytnabfimammojhaa
open Go.ChangeShapes Go.WideShapes Go.ChangeAt Go.RowKit Go.Shelf
set_option linter.unusedVariables false

/-- The places below k that are not out. -/
def oth (out : Nat) : Nat → List (Fin 4)
  | 0 => []
  | k + 1 => if h : k < 4 then if k = out then oth out k else oth out k ++ [⟨k, h⟩] else oth out k
theorem oth_len : ∀ out : Nat, out < 4 → ∀ k : Nat, k < 4 → k ≠ out → (oth out k).length < 3 := by decide
theorem oth_pre : ∀ out : Nat, out < 4 → ∀ k : Nat, k < 4 → k ≠ out → oth out (k + 1) <+: oth out 4 := by decide
theorem oth_same {out k : Nat} (h : k = out) : oth out (k + 1) = oth out k := by
  show (if h : k < 4 then _ else _) = _
  by_cases c : k < 4
  · rw [dif_pos c, if_pos h]
  · rw [dif_neg c]
theorem oth_next {out k : Nat} (hk : k < 4) (h : k ≠ out) : oth out (k + 1) = oth out k ++ [⟨k, hk⟩] := by
  show (if h : k < 4 then _ else _) = _
  rw [dif_pos hk, if_neg h]

theorem others_any (out : Int) (w : World) :
    Calls Try.prog 17 #[.int .i64 out] w fun e w' => e = .returned (.func (.func 32) #[] #[.pointer (some ⟨w.heap.size, 0, none⟩)]) ∧ w' = w.alloc (.cells #[.int .i64 out] 3) := by
  have hmf : ∀ (fn : Fn) (first cap : Array Value) (w : World), (Instr.makeFunc fn first cap).run Try.prog w = .ok (.func fn first cap) w := fun _ _ _ _ => rfl
  go_enter Try.func17, Try.ntmps17
  go_wp2_with fail
  go_ret
  exact ⟨rfl, rfl⟩

attribute [local go_sem] Oper.semAt_some
set_option maxRecDepth 100000 in
set_option maxHeartbeats 1000000 in
theorem others_in (n : Nat) (out : Nat) (ho : out < 4) (l B : Nat) (J Jx : List (Fin 4) → World → Prop)
    (hY : ∀ pre (x : Fin 4) W, J pre W → pre.length < 3 → YieldAt Fence.wide (n - 1) Try.prog l #[.int .i64 (x.val : Int)] W fun e W' =>
      (e = .returned (.bool true) ∧ J (pre ++ [x]) W' ∧ KpAt B W W') ∨ (e = .returned (.bool false) ∧ Jx (pre ++ [x]) W'))
    (W : World) (hc : W.cell? ⟨B, 0, none⟩ = some (.int .i64 (out : Int))) (h0 : J [] W) :
    CallsIn Fence.wide n Try.prog 32 #[.func (.yield l) #[] #[], .pointer (some ⟨B, 0, none⟩)] W fun e W' => (∃ v, e = .returned v) ∧
      ((∃ ys, ys = oth out 4 ∧ J ys W') ∨ (∃ pre, pre <+: oth out 4 ∧ Jx pre W')) := by
  refine callsIn_of_wp Try.func32 rfl trivial ?_ rfl
  simp only [Try.ntmps32, List.size_toArray, List.length_cons, List.length_nil, Nat.reduceAdd, Nat.reduceSub, Array.replicate_succ, Array.replicate_zero, List.push_toArray, List.append_toArray, List.nil_append, List.cons_append]
  gi_wp2
  gi_loopw [4] (fun p wr => ∃ k : Nat, k ≤ 4 ∧ p = .int .i64 (k : Int) ∧ wr.cell? ⟨B, 0, none⟩ = some (.int .i64 (out : Int)) ∧ J (oth out k) wr)
    (fun p wr => 4 - (intOf p).toNat)
  case atStart =>
    exact ⟨0, by omega, rfl, hc, h0⟩
  case round =>
    obtain ⟨k, hk, rfl, hcr, hJs⟩ := hrel
    by_cases hlt : (k : Int) < 4
    · have hlt2 : k < 4 := by omega
      by_cases he : (k : Int) = out
      · have hnx := oth_same (show k = out by omega)
        have hb1 : ((k : Int) != (out : Int)) = false := by simp; omega
        gi_wp2
        refine ⟨fun _ h => (by cases h), ?_⟩
        gi_wp2
        go_roundw
        case rel => exact ⟨k + 1, by omega, by simp [he], hcr, by rw [hnx]; exact hJs⟩
        case measure => first | omega | (simp only [intOf]; omega)
      · have hne : k ≠ out := fun e => he (by rw [e])
        have hnx := oth_next hlt2 hne
        obtain ⟨fn, tmps, assign, body, hy, hR⟩ := hY (oth out k) ⟨k, hlt2⟩ wr hJs (oth_len out ho k hlt2 hne)
        have hb1 : ((k : Int) != (out : Int)) = true := by simp; omega
        gi_wp2
        refine ⟨fun h => (by cases h), hR.mono ?_⟩
        rintro e W3 (⟨rfl, hJ3, hk3⟩ | ⟨rfl, hJx3⟩)
        · have hc3 := (kpAt_cell hk3 0).trans hcr
          gi_wp2
          go_roundw
          case rel => exact ⟨k + 1, by omega, by simp, hc3, by rw [hnx]; exact hJ3⟩
          case measure => first | omega | (simp only [intOf]; omega)
        · gi_wp2
          refine bodyPost_ret (results_none rfl _ _ _) rfl ?_
          exact ⟨⟨_, rfl⟩, .inr ⟨_, by have := oth_pre out ho k hlt2 hne; rw [hnx] at this; exact this, hJx3⟩⟩
    · gi_wp2
      go_end0
      obtain rfl : k = 4 := by omega
      exact ⟨⟨_, rfl⟩, .inl hJs⟩

/-- What others hands back is a sequence: its contract for a range over it. -/
theorem others_stops (n : Nat) (out : Nat) (ho : out < 4) (B : Nat) (w0 : World) (hB : B < w0.heap.size) (hc : w0.cell? ⟨B, 0, none⟩ = some (.int .i64 (out : Int))) :
    SeqStopsK Fence.wide n Try.prog 32 #[.pointer (some ⟨B, 0, none⟩)] (fun x : Fin 4 => #[.int .i64 (x.val : Int)]) (KpAt B) (fun ys => ys = oth out 4) (fun pre => pre <+: oth out 4) 3 w0 :=
  fun l J Jx W hW _ _ hY h0 => others_in n out ho l B J Jx hY W ((hW.cell (p := ⟨B, 0, none⟩) hB).trans hc) h0

end Go.Proofs.Ytnabfimammojhaa
