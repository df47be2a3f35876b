/- Package clock: what is put is taken, without the program. -/
import Derived.Test.YthnoomdhgbaecaaGreatDoorClock12
namespace Go.Proofs.YthnoomdhgbaecaaGreatDoor

open Go.ChangeShapes Go.WideShapes Go.ChangeAt Go.RowKit

set_option linter.unusedVariables false

set_option linter.unusedSimpArgs false

def tN (n : Int) : Nat := (48 + n / 10).toNat
def uN (n : Int) : Nat := (48 + n % 10).toNat
theorem tN_dg {n : Int} (h0 : 0 ≤ n) (h1 : n ≤ 99) : dgB (tN n) = true ∧ dgB (uN n) = true ∧ pairN (tN n) (uN n) = n := by
  unfold tN uN pairN
  refine ⟨dgB_yes (by omega) (by omega), dgB_yes (by omega) (by omega), by omega⟩
theorem six_all {h m s : Int} (h0 : 0 ≤ h) (h1 : h ≤ 99) (m0 : 0 ≤ m) (m1 : m ≤ 99) (s0 : 0 ≤ s) (s1 : s ≤ 99) : okAll (prS [tN h, uN h, tN m, uN m, tN s, uN s]) = true ∧ gN (prS [tN h, uN h, tN m, uN m, tN s, uN s]) 0 = h ∧ gN (prS [tN h, uN h, tN m, uN m, tN s, uN s]) 1 = m ∧ gN (prS [tN h, uN h, tN m, uN m, tN s, uN s]) 2 = s := by
  obtain ⟨a1, a2, a3⟩ := tN_dg h0 h1
  obtain ⟨b1, b2, b3⟩ := tN_dg m0 m1
  obtain ⟨c1, c2, c3⟩ := tN_dg s0 s1
  obtain ⟨e1, e2⟩ := prS_six (tN h) (uN h) (tN m) (uN m) (tN s) (uN s)
  have hd : dAll [tN h, uN h, tN m, uN m, tN s, uN s] = true := by unfold dAll; simp [a1, a2, b1, b2, c1, c2]
  obtain ⟨g0, g1, g2⟩ := e2 hd
  exact ⟨by rw [e1, hd], by rw [g0, a3], by rw [g1, b3], by rw [g2, c3]⟩
theorem sb_d6 {h m s : Int} (h0 : 0 ≤ h) (h1 : h ≤ 99) (m0 : 0 ≤ m) (m1 : m ≤ 99) (s0 : 0 ≤ s) (s1 : s ≤ 99) : sb (d2 h ++ d2 m ++ d2 s) = [tN h, uN h, tN m, uN m, tN s, uN s] := by
  rw [sb_append, sb_append]
  unfold d2
  rw [sb_textOf _ (by intro n hn; simp at hn; omega), sb_textOf _ (by intro n hn; simp at hn; omega), sb_textOf _ (by intro n hn; simp at hn; omega)]
  rfl
theorem sb_dot : sb { data := #[46] } = [46] := by decide
theorem take_put {b : Bool} {h m s c : Int} (hm : mayTB b h m s c = true) : ∃ S : ByteArray, putV b h m s c = .tuple #[.string S, .int .i64 0] ∧ S.size ≤ 9 ∧ (b = true → 6 ≤ S.size) ∧ takeV (sb S) = .tuple #[.agg #[.bool b, .int .i64 h, .int .i64 m, .int .i64 s, .int .i64 c], .int .i64 0] := by
  cases b
  · have hz : h = 0 ∧ m = 0 ∧ s = 0 ∧ c = 0 := by unfold mayTB at hm; simpa using hm
    obtain ⟨rfl, rfl, rfl, rfl⟩ := hz
    exact ⟨{ data := #[] }, by unfold putV; rw [hm]; rfl, by decide, fun h => by simp at h, rfl⟩
  · obtain ⟨h1, hh2, m1, m2, s1, s2, c1, c2⟩ := may_in hm
    have hP : putV true h m s c = .tuple #[.string (putT h m s c), .int .i64 0] := by unfold putV; rw [hm]; rfl
    obtain ⟨k0, k1, k2, k3⟩ := six_all h1 (show h ≤ 99 by omega) m1 (show m ≤ 99 by omega) s1 (show s ≤ 99 by omega)
    have h6 := sb_d6 h1 (show h ≤ 99 by omega) m1 (show m ≤ 99 by omega) s1 (show s ≤ 99 by omega)
    have main : ∀ r : List Nat, hunS r = (c, true) → takeV ([tN h, uN h, tN m, uN m, tN s, uN s] ++ r) = .tuple #[.agg #[.bool true, .int .i64 h, .int .i64 m, .int .i64 s, .int .i64 c], .int .i64 0] := by
      intro r hr
      have ht : ([tN h, uN h, tN m, uN m, tN s, uN s] ++ r).take 6 = [tN h, uN h, tN m, uN m, tN s, uN s] := rfl
      have hd : ([tN h, uN h, tN m, uN m, tN s, uN s] ++ r).drop 6 = r := rfl
      have hl : ([tN h, uN h, tN m, uN m, tN s, uN s] ++ r).length = r.length + 6 := by simp
      unfold takeV takeB
      rw [ht, hd, hl, k0, k1, k2, k3, hr]
      have q1 : (true && (c, true).2) = true := rfl
      have q2 : mayTB true h m s (c, true).1 = true := hm
      rw [if_neg (by omega), if_neg (by omega), if_pos q1, if_pos q2]
    have z1 := d2_size h
    have z2 := d2_size m
    have z3 := d2_size s
    have z4 := d2_size c
    have z5 := d1_size (c / 10)
    have zd : ({ data := #[46] } : ByteArray).size = 1 := rfl
    refine ⟨_, hP, ?_⟩
    unfold putT
    by_cases cz : c = 0
    · rw [if_pos cz]
      refine ⟨by rw [ByteArray.size_append, ByteArray.size_append]; omega, fun _ => by rw [ByteArray.size_append, ByteArray.size_append]; omega, ?_⟩
      have := main [] (by rw [cz]; rfl)
      rw [List.append_nil] at this
      rw [h6]; exact this
    · rw [if_neg cz]
      obtain ⟨q1, q2, q3⟩ := tN_dg c1 c2
      by_cases cy : c % 10 = 0
      · rw [if_pos cy]
        refine ⟨by simp only [ByteArray.size_append]; omega, fun _ => by simp only [ByteArray.size_append]; omega, ?_⟩
        have e1 : sb (d1 (c / 10)) = [tN c] := by unfold d1; rw [sb_textOf _ (by intro n hn; simp at hn; omega)]; rfl
        rw [sb_append, sb_append, h6, sb_dot, e1, List.append_assoc]
        refine main ([46] ++ [tN c]) ?_
        show h2 (tN c) 48 = (c, true)
        unfold h2
        rw [q1, if_pos (by decide)]
        have : pairN (tN c) 48 = c := by unfold pairN tN; omega
        rw [this]
      · rw [if_neg cy]
        refine ⟨by simp only [ByteArray.size_append]; omega, fun _ => by simp only [ByteArray.size_append]; omega, ?_⟩
        have e1 : sb (d2 c) = [tN c, uN c] := by unfold d2; rw [sb_textOf _ (by intro n hn; simp at hn; omega)]; rfl
        rw [sb_append, sb_append, h6, sb_dot, e1, List.append_assoc]
        refine main ([46] ++ [tN c, uN c]) ?_
        show h2 (tN c) (uN c) = (c, true)
        unfold h2
        rw [q1, q2, if_pos (show (true && true) = true from rfl), q3]
theorem putV_no {b : Bool} {h m s c : Int} (hm : mayTB b h m s c = false) : putV b h m s c = .tuple #[.string { data := #[] }, .int .i64 5] := by unfold putV; rw [hm]; rfl
theorem putD_no {b : Bool} {d m y : Int} (hm : mayDB b d m y = false) : putDt b d m y = .tuple #[.string { data := #[] }, .int .i64 5] := by unfold putDt; rw [hm]; rfl
theorem taked_put {b : Bool} {d m y : Int} (hm : mayDB b d m y = true) : ∃ S : ByteArray, putDt b d m y = .tuple #[.string S, .int .i64 0] ∧ S.size ≤ 6 ∧ (b = true → S.size = 6) ∧ takeD (sb S) = .tuple #[.agg #[.bool b, .int .i64 d, .int .i64 m, .int .i64 y], .int .i64 0] := by
  cases b
  · have hz : d = 0 ∧ m = 0 ∧ y = 0 := by unfold mayDB at hm; simpa using hm
    obtain ⟨rfl, rfl, rfl⟩ := hz
    exact ⟨{ data := #[] }, by unfold putDt; rw [hm]; rfl, by decide, fun h => by simp at h, rfl⟩
  · obtain ⟨d1x, d2x, m1, m2, y1, y2⟩ := mayd_in hm
    obtain ⟨k0, k1, k2, k3⟩ := six_all (show 0 ≤ d by omega) (show d ≤ 99 by omega) (show 0 ≤ m by omega) (show m ≤ 99 by omega) (show 0 ≤ y - 2000 by omega) (show y - 2000 ≤ 99 by omega)
    have h6 := sb_d6 (show 0 ≤ d by omega) (show d ≤ 99 by omega) (show 0 ≤ m by omega) (show m ≤ 99 by omega) (show 0 ≤ y - 2000 by omega) (show y - 2000 ≤ 99 by omega)
    have z1 := d2_size d
    have z2 := d2_size m
    have z3 := d2_size (y - 2000)
    refine ⟨d2 d ++ d2 m ++ d2 (y - 2000), by unfold putDt; rw [hm]; rfl, by simp only [ByteArray.size_append]; omega, fun _ => by simp only [ByteArray.size_append]; omega, ?_⟩
    rw [h6]
    unfold takeD
    rw [if_neg (by simp), if_pos ⟨rfl, k0⟩, k1, k2, k3, show 2000 + (y - 2000) = y from by omega, if_pos hm]
end Go.Proofs.YthnoomdhgbaecaaGreatDoor
