/- Package octet: the lowest bytes of a number, one behind the other. -/
import Derived.Test.YtfihdgichmocmaaKO1
import Derived.Test.YtfihdgichmocmaaKA
namespace Go.Proofs.Ytfihdgichmocmaa
open Go.ChangeShapes Go.WideShapes Go.ChangeAt Go.RowKit Go.Shelf
set_option linter.unusedVariables false

def Byte : Type := { c : Int // 0 ≤ c ∧ c ≤ 255 }
def byteAt (u : Int) (k : Nat) : Int := u / 2 ^ (8 * k) % 256
def byteOf (u : Int) (k : Nat) : Byte := ⟨byteAt u k, by unfold byteAt; omega⟩
def lowL (u : Int) (n : Nat) : List Byte := (List.range n).map (byteOf u)
theorem lowL_len (u : Int) (n : Nat) : (lowL u n).length = n := by simp [lowL]
theorem lowL_next (u : Int) (k : Nat) : lowL u (k + 1) = lowL u k ++ [byteOf u k] := by simp [lowL, List.range_succ]
theorem lowL_pre (u : Int) (k n : Nat) (h : k ≤ n) : lowL u k <+: lowL u n := by
  obtain ⟨d, rfl⟩ : ∃ d, n = k + d := ⟨n - k, by omega⟩
  exact ⟨((List.range d).map fun x => k + x).map (byteOf u), by simp [lowL, List.range_add]⟩

theorem low_any (n u : Int) (w : World) :
    Calls Try.prog 76 #[.int .i64 n, .int .u64 u] w fun e w' => e = .returned (.func (.func 78) #[] #[.pointer (some ⟨w.heap.size, 0, none⟩), .pointer (some ⟨w.heap.size + 1, 0, none⟩)]) ∧ w' = (w.alloc (.cells #[.int .i64 n] 3)).alloc (.cells #[.int .u64 u] 79) := by
  have hmf : ∀ (fn : Fn) (first cap : Array Value) (w : World), (Instr.makeFunc fn first cap).run Try.prog w = .ok (.func fn first cap) w := fun _ _ _ _ => rfl
  go_enter Try.func76, Try.ntmps76
  go_wp2_with fail
  go_ret
  exact ⟨rfl, rfl⟩

attribute [local go_sem] Oper.semAt_some
set_option maxRecDepth 100000 in
set_option maxHeartbeats 1000000 in
theorem low_in (m : Nat) (n : Nat) (hn : n ≤ 8) (u : Int) (hu0 : 0 ≤ u) (hu1 : u ≤ 18446744073709551615) (l B C : Nat) (J Jx : List Byte → World → Prop)
    (hY : ∀ pre (x : Byte) W, J pre W → pre.length < n → YieldAt Fence.wide (m - 1) Try.prog l #[.int .u8 x.1] W fun e W' =>
      (e = .returned (.bool true) ∧ J (pre ++ [x]) W' ∧ KpAt B W W' ∧ KpAt C W W') ∨ (e = .returned (.bool false) ∧ Jx (pre ++ [x]) W'))
    (W : World) (hc : W.cell? ⟨B, 0, none⟩ = some (.int .i64 (n : Int))) (hd : W.cell? ⟨C, 0, none⟩ = some (.int .u64 u)) (h0 : J [] W) :
    CallsIn Fence.wide m Try.prog 78 #[.func (.yield l) #[] #[], .pointer (some ⟨B, 0, none⟩), .pointer (some ⟨C, 0, none⟩)] W fun e W' => (∃ v, e = .returned v) ∧
      ((∃ ys, ys = lowL u n ∧ J ys W') ∨ (∃ pre, pre <+: lowL u n ∧ Jx pre W')) := by
  refine callsIn_of_wp Try.func78 rfl trivial ?_ rfl
  simp only [Try.ntmps78, List.size_toArray, List.length_cons, List.length_nil, Nat.reduceAdd, Nat.reduceSub, Array.replicate_succ, Array.replicate_zero, List.push_toArray, List.append_toArray, List.nil_append, List.cons_append]
  gi_wp2
  gi_loopw [6] (fun p wr => ∃ k : Nat, k ≤ n ∧ p = .int .i64 (k : Int) ∧ wr.cell? ⟨C, 0, none⟩ = some (.int .u64 u) ∧ J (lowL u k) wr)
    (fun p wr => n - (intOf p).toNat)
  case atStart =>
    exact ⟨0, by omega, rfl, hd, h0⟩
  case round =>
    obtain ⟨k, hk, rfl, hcr, hJs⟩ := hrel
    by_cases hlt : (k : Int) < n
    · have hlt2 : k < n := by omega
      have hnx := lowL_next u k
      obtain ⟨fn, tmps, assign, body, hy, hR⟩ := hY (lowL u k) (byteOf u k) wr hJs (by rw [lowL_len]; exact hlt2)
      obtain rfl | rfl | rfl | rfl | rfl | rfl | rfl | rfl : k = 0 ∨ k = 1 ∨ k = 2 ∨ k = 3 ∨ k = 4 ∨ k = 5 ∨ k = 6 ∨ k = 7 := by omega
      · have e9 : (byteOf u 0).1 = u % 256 := by show u / (2 : Int) ^ (8 * 0) % 256 = _; simp
        rw [e9] at hy
        gi_wp2
        refine ⟨fun h => (by cases h), hR.mono ?_⟩
        rintro e W3 (⟨rfl, hJ3, hk3, hk4⟩ | ⟨rfl, hJx3⟩)
        · have hc3 := (kpAt_cell hk4 0).trans hcr
          gi_wp2
          go_roundw
          case rel => exact ⟨1, by omega, by simp, hc3, by rw [hnx]; exact hJ3⟩
          case measure => simp only [intOf]; omega
        · gi_wp2
          refine bodyPost_ret (results_none rfl _ _ _) rfl ?_
          exact ⟨⟨_, rfl⟩, .inr ⟨_, by have := lowL_pre u 1 n (by omega); rw [hnx] at this; exact this, hJx3⟩⟩
      · have e9 : (byteOf u 1).1 = u / 256 % 256 := by show u / (2 : Int) ^ (8 * 1) % 256 = _; simp
        rw [e9] at hy
        gi_wp2
        refine ⟨fun h => (by cases h), hR.mono ?_⟩
        rintro e W3 (⟨rfl, hJ3, hk3, hk4⟩ | ⟨rfl, hJx3⟩)
        · have hc3 := (kpAt_cell hk4 0).trans hcr
          gi_wp2
          go_roundw
          case rel => exact ⟨2, by omega, by simp, hc3, by rw [hnx]; exact hJ3⟩
          case measure => simp only [intOf]; omega
        · gi_wp2
          refine bodyPost_ret (results_none rfl _ _ _) rfl ?_
          exact ⟨⟨_, rfl⟩, .inr ⟨_, by have := lowL_pre u 2 n (by omega); rw [hnx] at this; exact this, hJx3⟩⟩
      · have e9 : (byteOf u 2).1 = u / 65536 % 256 := by show u / (2 : Int) ^ (8 * 2) % 256 = _; simp
        rw [e9] at hy
        gi_wp2
        refine ⟨fun h => (by cases h), hR.mono ?_⟩
        rintro e W3 (⟨rfl, hJ3, hk3, hk4⟩ | ⟨rfl, hJx3⟩)
        · have hc3 := (kpAt_cell hk4 0).trans hcr
          gi_wp2
          go_roundw
          case rel => exact ⟨3, by omega, by simp, hc3, by rw [hnx]; exact hJ3⟩
          case measure => simp only [intOf]; omega
        · gi_wp2
          refine bodyPost_ret (results_none rfl _ _ _) rfl ?_
          exact ⟨⟨_, rfl⟩, .inr ⟨_, by have := lowL_pre u 3 n (by omega); rw [hnx] at this; exact this, hJx3⟩⟩
      · have e9 : (byteOf u 3).1 = u / 16777216 % 256 := by show u / (2 : Int) ^ (8 * 3) % 256 = _; simp
        rw [e9] at hy
        gi_wp2
        refine ⟨fun h => (by cases h), hR.mono ?_⟩
        rintro e W3 (⟨rfl, hJ3, hk3, hk4⟩ | ⟨rfl, hJx3⟩)
        · have hc3 := (kpAt_cell hk4 0).trans hcr
          gi_wp2
          go_roundw
          case rel => exact ⟨4, by omega, by simp, hc3, by rw [hnx]; exact hJ3⟩
          case measure => simp only [intOf]; omega
        · gi_wp2
          refine bodyPost_ret (results_none rfl _ _ _) rfl ?_
          exact ⟨⟨_, rfl⟩, .inr ⟨_, by have := lowL_pre u 4 n (by omega); rw [hnx] at this; exact this, hJx3⟩⟩
      · have e9 : (byteOf u 4).1 = u / 4294967296 % 256 := by show u / (2 : Int) ^ (8 * 4) % 256 = _; simp
        rw [e9] at hy
        gi_wp2
        refine ⟨fun h => (by cases h), hR.mono ?_⟩
        rintro e W3 (⟨rfl, hJ3, hk3, hk4⟩ | ⟨rfl, hJx3⟩)
        · have hc3 := (kpAt_cell hk4 0).trans hcr
          gi_wp2
          go_roundw
          case rel => exact ⟨5, by omega, by simp, hc3, by rw [hnx]; exact hJ3⟩
          case measure => simp only [intOf]; omega
        · gi_wp2
          refine bodyPost_ret (results_none rfl _ _ _) rfl ?_
          exact ⟨⟨_, rfl⟩, .inr ⟨_, by have := lowL_pre u 5 n (by omega); rw [hnx] at this; exact this, hJx3⟩⟩
      · have e9 : (byteOf u 5).1 = u / 1099511627776 % 256 := by show u / (2 : Int) ^ (8 * 5) % 256 = _; simp
        rw [e9] at hy
        gi_wp2
        refine ⟨fun h => (by cases h), hR.mono ?_⟩
        rintro e W3 (⟨rfl, hJ3, hk3, hk4⟩ | ⟨rfl, hJx3⟩)
        · have hc3 := (kpAt_cell hk4 0).trans hcr
          gi_wp2
          go_roundw
          case rel => exact ⟨6, by omega, by simp, hc3, by rw [hnx]; exact hJ3⟩
          case measure => simp only [intOf]; omega
        · gi_wp2
          refine bodyPost_ret (results_none rfl _ _ _) rfl ?_
          exact ⟨⟨_, rfl⟩, .inr ⟨_, by have := lowL_pre u 6 n (by omega); rw [hnx] at this; exact this, hJx3⟩⟩
      · have e9 : (byteOf u 6).1 = u / 281474976710656 % 256 := by show u / (2 : Int) ^ (8 * 6) % 256 = _; simp
        rw [e9] at hy
        gi_wp2
        refine ⟨fun h => (by cases h), hR.mono ?_⟩
        rintro e W3 (⟨rfl, hJ3, hk3, hk4⟩ | ⟨rfl, hJx3⟩)
        · have hc3 := (kpAt_cell hk4 0).trans hcr
          gi_wp2
          go_roundw
          case rel => exact ⟨7, by omega, by simp, hc3, by rw [hnx]; exact hJ3⟩
          case measure => simp only [intOf]; omega
        · gi_wp2
          refine bodyPost_ret (results_none rfl _ _ _) rfl ?_
          exact ⟨⟨_, rfl⟩, .inr ⟨_, by have := lowL_pre u 7 n (by omega); rw [hnx] at this; exact this, hJx3⟩⟩
      · have e9 : (byteOf u 7).1 = u / 72057594037927936 := by show u / (2 : Int) ^ (8 * 7) % 256 = _; rw [show (2 : Int) ^ (8 * 7) = 72057594037927936 by decide]; omega
        rw [e9] at hy
        gi_wp2
        refine ⟨fun h => (by cases h), hR.mono ?_⟩
        rintro e W3 (⟨rfl, hJ3, hk3, hk4⟩ | ⟨rfl, hJx3⟩)
        · have hc3 := (kpAt_cell hk4 0).trans hcr
          gi_wp2
          go_roundw
          case rel => exact ⟨8, by omega, by simp, hc3, by rw [hnx]; exact hJ3⟩
          case measure => simp only [intOf]; omega
        · gi_wp2
          refine bodyPost_ret (results_none rfl _ _ _) rfl ?_
          exact ⟨⟨_, rfl⟩, .inr ⟨_, by have := lowL_pre u 8 n (by omega); rw [hnx] at this; exact this, hJx3⟩⟩
    · gi_wp2
      go_end0
      obtain rfl : k = n := by omega
      exact ⟨⟨_, rfl⟩, .inl hJs⟩

/-- What low hands back: its contract for a range over it. -/
theorem low_stops (m : Nat) (n : Nat) (hn : n ≤ 8) (u : Int) (hu0 : 0 ≤ u) (hu1 : u ≤ 18446744073709551615) (B C : Nat) (w0 : World) (hB : B < w0.heap.size) (hC : C < w0.heap.size) (hc : w0.cell? ⟨B, 0, none⟩ = some (.int .i64 (n : Int))) (hd : w0.cell? ⟨C, 0, none⟩ = some (.int .u64 u)) :
    SeqStopsK Fence.wide m Try.prog 78 #[.pointer (some ⟨B, 0, none⟩), .pointer (some ⟨C, 0, none⟩)] (fun x : Byte => #[.int .u8 x.1]) (fun W W' => KpAt B W W' ∧ KpAt C W W') (fun ys => ys = lowL u n) (fun pre => pre <+: lowL u n) n w0 :=
  fun l J Jx W hW _ _ hY h0 => low_in m n hn u hu0 hu1 l B C J Jx hY W ((hW.cell (p := ⟨B, 0, none⟩) hB).trans hc) ((hW.cell (p := ⟨C, 0, none⟩) hC).trans hd) h0

end Go.Proofs.Ytfihdgichmocmaa
