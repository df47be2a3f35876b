/- Package rescue: slices cut; the log of some records. -/
import Derived.Test.YtlfbhfmchdbnoaaResM
import Derived.Test.YtlfbhfmchdbnoaaKF
import Derived.Deep.DeepCutAuto
namespace Go.Proofs.Ytlfbhfmchdbnoaa
open Go.ChangeShapes Go.WideShapes Go.ChangeAt Go.RowKit
set_option linter.unusedVariables false
set_option linter.unusedSimpArgs false

theorem catB_wf {ev : Nat} {recs : List Rc} : ∀ {bs : List (List En)} {at_ i : Nat}, allB ev recs at_ bs → ∀ x ∈ catB i bs, (Lit.int .u8 x).wf = true
  | [], _, _, _ => fun x hx => by cases hx
  | l :: bs, at_, i, h => fun x hx => by
    have hx2 : x ∈ (putB (i : Int) l).1 ++ catB (i + 1) bs := hx
    rcases List.mem_append.1 hx2 with hx2 | hx2
    · exact bytes_wf (putB_wf (no := (i : Int)) h.1.2.2.2) x hx2
    · exact catB_wf h.2 x hx2
theorem add_zero37 (a : Option Addr) : a.map (fun x => x.add 0) = a := by
  cases a with
  | none => rfl
  | some q => cases q; rfl
set_option maxRecDepth 100000 in
theorem cutH37 (a : Option Addr) (len cap n : Nat) (hc : n ≤ cap) (W : World) : (Instr.slice 22 (.slice a len cap) none (some (.int .i64 (n : Int))) none).run Try.prog W = .ok (.slice a n cap) W := by
  rw [run_slice_h W 22 a len cap (by rfl) .i64 (n : Int) (by omega) (by omega)]
  by_cases e : cap = 0
  · go_simp <;> simp [sliced, e]
  · go_simp <;> simp [sliced, e, add_zero37]
set_option maxRecDepth 100000 in
theorem cutR37 (a : Option Addr) (len cap n : Nat) (hc : n ≤ cap) (W : World) : (Instr.slice 28 (.slice a len cap) none (some (.int .i64 (n : Int))) none).run Try.prog W = .ok (.slice a n cap) W := by
  rw [run_slice_h W 28 a len cap (by rfl) .i64 (n : Int) (by omega) (by omega)]
  by_cases e : cap = 0
  · go_simp <;> simp [sliced, e]
  · go_simp <;> simp [sliced, e, add_zero37]
/-- The log of some records, as its bytes. -/
theorem log_of {ev : Nat} {l : List Rc} {n : Nat} (hl : ∀ r ∈ l, StK r) (hn : l.length = n) (h60 : n ≤ 60) : ∃ (bs : List (List En)) (nb : Nat), writeS ev l = catB 0 bs ∧ allB ev l 0 bs ∧ bs.length = nb ∧ nb ≤ n ∧ (catB 0 bs).length = 256 * nb ∧ (∀ x ∈ catB 0 bs, (Lit.int .u8 x).wf = true) ∧ cntB bs = n ∧ recsB bs = l ∧ readS (catB 0 bs) nb = (l, []) := by
  obtain ⟨bs, h1, h2, h3⟩ := write_log (ev := ev) hl
  have h4 := bs_few h2
  have h5 := recsB_all h2 h3
  have h6 := readS_log h2 (by omega) (zs := catB 0 bs) bs.length (Nat.le_refl _) (fun i _ => rfl)
  rw [List.take_length, h5] at h6
  exact ⟨bs, _, h1, h2, rfl, by omega, catB_len h2, catB_wf h2, by omega, h5, h6⟩

end Go.Proofs.Ytlfbhfmchdbnoaa
