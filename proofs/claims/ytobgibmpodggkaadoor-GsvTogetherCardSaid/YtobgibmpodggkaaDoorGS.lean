/- Several texts in one: Gga3, Gga4. -/
import Derived.Test.YtobgibmpodggkaaDoorGga
import Derived.Deep.DeepCutAuto
import Derived.Test.YtobgibmpodggkaaDoorClock10
import Derived.Laws.Tables

/- Package gga: what is put. -/
namespace Go.Proofs.YtobgibmpodggkaaDoor
open Go.ChangeShapes Go.WideShapes Go.ChangeAt Go.RowKit
set_option linter.unusedVariables false
set_option linter.unusedSimpArgs false

theorem PenIn.below {w w2 : World} {base B : Nat} {e : Int} {L : List ByteArray} (h : PenIn w base B e L) (hA : After w w2) : PenIn w2 base B e L := h.aft hA
theorem RowW.below {w w2 : World} {base B : Nat} {e : Int} {L : List ByteArray} (h : RowW w base B e L) (hA : After w w2) : RowW w2 base B e L := h.aft hA
/-- The first error of what is written, and the fields. -/
def fE (l : List (List ByteArray × Int)) : Int := l.foldl (fun e x => kp e x.2) 0
def fL (l : List (List ByteArray × Int)) : List ByteArray := l.flatMap (·.1)
/-- What a fix's fields are. -/
def ggI (T : ByteArray) (k : Int) (ai : Bool) (an : Int) (oi : Bool) (on q : Int) (n1i : Bool) (n1n : Int) (n2i : Bool) (n2n : Int) (n3i : Bool) (n3n : Int) (n4i : Bool) (n4n : Int) (n5i : Bool) (n5n : Int) (n6i : Bool) (n6n : Int) : List (List ByteArray × Int) := [([T], k), ([nb (angD ai an true).1, nb (angD ai an true).2.1], (angD ai an true).2.2), ([nb (angD oi on false).1, nb (angD oi on false).2.1], (angD oi on false).2.2), ([nb (dgP q 0 8).1], (dgP q 0 8).2), ([nb (putD n1i n1n 1 2 0 0 99).1], (putD n1i n1n 1 2 0 0 99).2), ([nb (putD n2i n2n 1 3 2 0 99999).1], (putD n2i n2n 1 3 2 0 99999).2), ([nb (putD n3i n3n 1 6 1 (-9999999) 9999999).1, (if n3i = true then (⟨#[77]⟩ : ByteArray) else ⟨#[]⟩)], (putD n3i n3n 1 6 1 (-9999999) 9999999).2), ([nb (putD n4i n4n 1 4 1 (-99999) 99999).1, (if n4i = true then (⟨#[77]⟩ : ByteArray) else ⟨#[]⟩)], (putD n4i n4n 1 4 1 (-99999) 99999).2), ([nb (putD n5i n5n 1 4 1 0 99999).1], (putD n5i n5n 1 4 1 0 99999).2), ([nb (putD n6i n6n 1 4 0 0 1023).1], (putD n6i n6n 1 4 0 0 1023).2)]
end Go.Proofs.YtobgibmpodggkaaDoor

/- Package gga: what is put, the papers'. -/
namespace Go.Proofs.YtobgibmpodggkaaDoor
open Go.ChangeShapes Go.WideShapes Go.ChangeAt Go.RowKit
set_option linter.unusedVariables false
set_option linter.unusedSimpArgs false

theorem fE_zero {l : List (List ByteArray × Int)} : ∀ {e : Int}, l.foldl (fun e x => kp e x.2) e = 0 → e = 0 ∧ ∀ x ∈ l, x.2 = 0 := by
  induction l with
  | nil => intro e h; exact ⟨h, fun x hx => by cases hx⟩
  | cons y l ih =>
    intro e h
    obtain ⟨h1, h2⟩ := ih h
    obtain ⟨h3, h4⟩ := kp_ok h1
    refine ⟨h3, fun x hx => ?_⟩
    rcases List.mem_cons.1 hx with rfl | hx
    · exact h4
    · exact h2 x hx
theorem DnOk.congr {w w' : World} {e : Int} {L L' : List ByteArray} {r : Ending} (h : e = 0 → L = L') (k : DnOk w e L r w') : DnOk w e L' r w' := by
  by_cases c : e = 0
  · rw [← h c]; exact k
  · obtain ⟨a, cap, h1, h2, h3, h4⟩ := k
    rw [if_neg c] at h1 h2
    exact ⟨a, cap, by rw [if_neg c]; exact h1, by rw [if_neg c]; exact h2, h3, h4⟩
set_option maxRecDepth 100000 in
set_option maxHeartbeats 4000000 in
theorem rputdig_any (base B : Nat) (e : Int) (L : List ByteArray) (n lo hi : Int) (hlo : 0 ≤ lo) (hhi : hi ≤ 9) (w : World) (hP : RowW w base B e L) (hl : L.length ≤ 1000) (hb : base ≤ B) : Calls Tryd.prog 32 #[.pointer (some ⟨B, 0, none⟩), .int .i64 n, .int .i64 lo, .int .i64 hi] w fun r w' => r = .returned (.tuple #[]) ∧ RowW w' base B (kp e (dgP n lo hi).2) (L ++ if (dgP n lo hi).2 = 0 then [nb (dgP n lo hi).1] else []) ∧ PEff base B 0 w w' := by
  by_cases c1 : n < lo
  case pos =>
    have hd : dgP n lo hi = ([], 5) := by unfold dgP; rw [if_pos (by omega)]
    rw [hd]
    dsimp only
    rw [if_neg (by decide), List.append_nil]
    have kf := hid (fun U h => rfirstW_any base B e 5 L U h hb)
    have b1 : decide (n < lo) = true := by simpa using c1
    have hlt := hP.lt
    replace hP := hid hP
    have hef := hid (PEff.refl base B 0 w)
    go_enter Tryd.func32, Tryd.ntmps32
    go_wp2_with fail
    refine (kf.out _ hP.out).mono ?_
    rintro r V1 ⟨rfl, hP2, hf2⟩
    replace hP := hid hP2
    replace hef := hid (hef.out.trans hf2)
    clear hf2 hP2
    go_wp2_with fail
    first | go_end0 | refine bodyPost_ret (results_none rfl _ _ _) rfl ?_
    exact ⟨rfl, hP.out, hef.out⟩
  by_cases c2 : hi < n
  case pos =>
    have hd : dgP n lo hi = ([], 5) := by unfold dgP; rw [if_pos (by omega)]
    rw [hd]
    dsimp only
    rw [if_neg (by decide), List.append_nil]
    have kf := hid (fun U h => rfirstW_any base B e 5 L U h hb)
    have b1 : decide (n < lo) = false := by simpa using c1
    have b2 : decide (hi < n) = true := by simpa using c2
    have hlt := hP.lt
    replace hP := hid hP
    have hef := hid (PEff.refl base B 0 w)
    go_enter Tryd.func32, Tryd.ntmps32
    go_wp2_with fail
    refine (kf.out _ hP.out).mono ?_
    rintro r V1 ⟨rfl, hP2, hf2⟩
    replace hP := hid hP2
    replace hef := hid (hef.out.trans hf2)
    clear hf2 hP2
    go_wp2_with fail
    first | go_end0 | refine bodyPost_ret (results_none rfl _ _ _) rfl ?_
    exact ⟨rfl, hP.out, hef.out⟩
  have hd : dgP n lo hi = ([48 + n.toNat], 0) := by unfold dgP; rw [if_neg (by omega)]
  rw [hd]
  dsimp only
  rw [if_pos rfl]
  have b1 : decide (n < lo) = false := by simpa using c1
  have b2 : decide (hi < n) = false := by simpa using c2
  obtain ⟨N, rfl⟩ : ∃ N : Nat, n = N := ⟨n.toNat, by omega⟩
  have hdg : digV N 1 = [48 + N] := by unfold digV; rw [show max 1 (nd N) = 1 by have := nd_le (n := N) (k := 1) (by omega); omega]; show [48 + N % 10] = _; rw [Nat.mod_eq_of_lt (by omega)]
  have kd := hid (fun U => hdg ▸ rdigits_any N 1 U (by omega) (by omega) (by omega))
  have kt := hid (fun U h => rtext_any base B e 0 L (nb [48 + N]) U h hl hb)
  rw [show (N : Int).toNat = N from rfl]
  have hlt := hP.lt
  replace hP := hid hP
  have hef := hid (PEff.refl base B 0 w)
  go_enter Tryd.func32, Tryd.ntmps32
  go_wp2_with fail
  refine (kd.out _).mono ?_
  rintro r V1 ⟨rfl, hA⟩
  replace hef := hid (hef.out.trans (PEff.after (by have := hP.out.lt; omega) hP.out.lt hA))
  replace hP := hid (hP.out.aft hA)
  clear hA
  go_wp2_with fail
  refine (kt.out _ hP.out).mono ?_
  rintro r V2 ⟨rfl, hP2, hf2⟩
  replace hP := hid hP2
  replace hef := hid (hef.out.trans hf2)
  clear hf2 hP2
  go_wp2_with fail
  first | go_end0 | refine bodyPost_ret (results_none rfl _ _ _) rfl ?_
  exact ⟨rfl, hP.out, hef.out⟩
end Go.Proofs.YtobgibmpodggkaaDoor
