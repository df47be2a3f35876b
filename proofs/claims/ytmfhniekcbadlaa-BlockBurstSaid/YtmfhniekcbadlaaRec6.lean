/- Package rec: reader: next, grown. -/
import Derived.Test.YtmfhniekcbadlaaRec5
import Derived.Deep.DeepCutAuto
namespace Go.Proofs.Ytmfhniekcbadlaa
open Go.ChangeShapes Go.WideShapes Go.ChangeAt Go.RowKit
set_option linter.unusedVariables false
set_option linter.unusedSimpArgs false

/-- The next number, at most hi, of some bytes. -/
def nxS (bs : List Int) (at_ : Nat) (e : Int) (hi : Nat) : Nat × Nat × Int :=
  if e ≠ 0 then (0, at_, e) else if (takeS (bs.drop at_) 0 0).2.2 ≠ 0 then (0, at_, ((takeS (bs.drop at_) 0 0).2.2 : Int)) else if hi < (takeS (bs.drop at_) 0 0).1 then (0, at_, 5) else ((takeS (bs.drop at_) 0 0).1, at_ + (takeS (bs.drop at_) 0 0).2.1, 0)
/-- v, and as much as the next number says. -/
def grS (bs : List Int) (at_ : Nat) (e : Int) (v : Int) : Int × Nat × Int :=
  if (nxS bs at_ e 18446744073709551615).2.2 ≠ 0 then (0, (nxS bs at_ e 18446744073709551615).2.1, (nxS bs at_ e 18446744073709551615).2.2) else
  if zagS (nxS bs at_ e 18446744073709551615).1 = 0 ∨ 2147483647 - v < zagS (nxS bs at_ e 18446744073709551615).1 ∨ zagS (nxS bs at_ e 18446744073709551615).1 < -2147483648 - v then (0, (nxS bs at_ e 18446744073709551615).2.1, 5) else
  (v + zagS (nxS bs at_ e 18446744073709551615).1, (nxS bs at_ e 18446744073709551615).2.1, 0)
theorem nxS_bd {bs : List Int} (hz : ∀ x ∈ bs, (Lit.int .u8 x).wf = true) {at_ : Nat} {e : Int} {hi : Nat} (hat : at_ ≤ bs.length) (hh : hi ≤ 18446744073709551615) (he : 0 ≤ e ∧ e ≤ 9) : (nxS bs at_ e hi).1 ≤ hi ∧ (nxS bs at_ e hi).2.1 ≤ bs.length ∧ (0 ≤ (nxS bs at_ e hi).2.2 ∧ (nxS bs at_ e hi).2.2 ≤ 9) ∧ at_ ≤ (nxS bs at_ e hi).2.1 := by
  have h1 := takeS_err (bs.drop at_) 0 0
  have h2 := takeS_ok (bs.drop at_) (bytes_bd (fun x hx => hz x (List.mem_of_mem_drop hx)))
  rw [List.length_drop] at h2
  unfold nxS
  generalize takeS (bs.drop at_) 0 0 = q at *
  by_cases c1 : e ≠ 0
  · rw [if_pos c1]; exact ⟨by simp, hat, he, Nat.le_refl _⟩
  · rw [if_neg c1]
    by_cases c2 : q.2.2 ≠ 0
    · rw [if_pos c2]; exact ⟨by simp, hat, by dsimp only; omega, Nat.le_refl _⟩
    · rw [if_neg c2]
      have h3 := h2 (Decidable.not_not.1 c2)
      by_cases c3 : hi < q.1
      · rw [if_pos c3]; exact ⟨by simp, hat, by simp, Nat.le_refl _⟩
      · rw [if_neg c3]; exact ⟨by dsimp only; omega, by dsimp only; omega, by simp, by dsimp only; omega⟩
theorem Only.rf (p : Nat) (U : World) : Only p U U := ⟨rfl, rfl, rfl, rfl, fun _ _ => rfl⟩
theorem Only.rd {p : Nat} {U V : World} (h : Only p U.drew V) : Only p U V := ⟨h.os, h.tape, h.output, h.size, h.block⟩
theorem Only.sl {B : Nat} {w W : World} {a x : Option Addr} {len cap l c : Nat} {zs : List Int} {y z : Int} (ho : Only B w W) (h : Sl .u8 w a len cap zs) (hp : w.heap[B]? = some (.cells #[.slice x l c, .int .i64 y, .int .i64 z] 110 (0, 0))) : Sl .u8 W a len cap zs :=
  h.other hp (by intro i x hh; rcases i with _ | _ | _ | i <;> simp at hh) (fun b hb => ho.block b hb)
set_option maxRecDepth 100000 in
set_option maxHeartbeats 4000000 in
theorem next_any (B len cap at_ : Nat) (a : Option Addr) (bs : List Int) (e : Int) (hi : Nat) (w : World) (hB : w.heap[B]? = some (.cells #[.slice a len cap, .int .i64 at_, .int .i64 e] 110 (0, 0))) (hS : Sl .u8 w a len cap bs) (hz : ∀ x ∈ bs, (Lit.int .u8 x).wf = true) (hat : at_ ≤ len) (he : 0 ≤ e ∧ e ≤ 9) (hl : len ≤ 100000) (hh : hi ≤ 18446744073709551615) : Calls Try.prog 69 #[.pointer (some ⟨B, 0, none⟩), .int .u64 (hi : Int)] w fun ev w' => ev = .returned (.int .u64 (((nxS bs at_ e hi).1 : Nat) : Int)) ∧ w'.heap[B]? = some (.cells #[.slice a len cap, .int .i64 ((nxS bs at_ e hi).2.1 : Nat), .int .i64 (nxS bs at_ e hi).2.2] 110 (0, 0)) ∧ Only B w w' := by
  have hzl := hS.1
  have hcc := hS.2.1
  have hcm : cap ≤ 9223372036854775807 := Nat.le_trans hS.2.2.1 (by decide)
  obtain ⟨r, hr⟩ : ∃ r, nxS bs at_ e hi = r := ⟨_, rfl⟩
  rw [hr]
  have c0 := held_cell hB 0 _ rfl
  have c1 := held_cell hB 1 _ rfl
  have c2 := held_cell hB 2 _ rfl
  have f0 := held_free hB 0
  have f1 := held_free hB 1
  have f2 := held_free hB 2
  by_cases h0 : e = 0
  case neg =>
    have er := hid (show r = (0, at_, e) by rw [← hr]; unfold nxS; rw [if_pos h0])
    have hq : (e != 0) = true := by simp [h0]
    clear hr h0
    replace hB := hid hB
    go_enter Try.func69, Try.ntmps69
    go_wp2_with fail
    go_ret
    rw [er.out]
    exact ⟨rfl, hB.out, Only.rf _ _⟩
  subst h0
  have hr2 : r = if (takeS (bs.drop at_) 0 0).2.2 ≠ 0 then (0, at_, ((takeS (bs.drop at_) 0 0).2.2 : Int)) else if hi < (takeS (bs.drop at_) 0 0).1 then (0, at_, 5) else ((takeS (bs.drop at_) 0 0).1, at_ + (takeS (bs.drop at_) 0 0).2.1, 0) := by rw [← hr]; unfold nxS; rw [if_neg (by simp)]
  clear hr
  have h1 := takeS_err (bs.drop at_) 0 0
  have h2 := takeS_ok (bs.drop at_) (bytes_bd (fun x hx => hz x (List.mem_of_mem_drop hx)))
  rw [List.length_drop, hzl] at h2
  have kt := hid (fun (ad : Option Addr) (n c : Nat) (W : World) (h : Sl .u8 W ad n c (bs.drop at_)) (hn : n ≤ 1000000) => vtake_any ad n c (bs.drop at_) W hn h (fun x hx => hz x (List.mem_of_mem_drop hx)))
  obtain ⟨⟨qu, qn, qe⟩, hq⟩ : ∃ q, takeS (bs.drop at_) 0 0 = q := ⟨_, rfl⟩
  rw [hq] at hr2 h1 h2 kt
  dsimp only at hr2 h1 h2
  have e9 : vtakeV (qu, qn, qe) = .tuple #[.int .u64 qu, .int .i64 qn, .int .i64 qe] := rfl
  rw [e9] at kt
  clear e9 hq
  replace hr2 := hid hr2
  replace h1 := hid h1
  replace h2 := hid h2
  have rD := (show w.drew.heap[B]? = _ from hB)
  have kz : (0 : Int) ≤ at_ := by omega
  have ka : (at_ : Int) ≤ len := by omega
  go_enter Try.func69, Try.ntmps69
  go_upto_region 3 with (fail)
  by_cases hce : cap = at_
  · have hSd : Sl .u8 w.drew a (len - at_) 0 (bs.drop at_) := hS.end at_ hat hce
    rw [show len - at_ = 0 from by omega] at hSd
    have hk9 := hid (kt.out _ _ _ _ hSd (by omega))
    clear hSd hS
    subst hce
    refine wp_region_R (by kernel_rfl) ?_
    refine wpAnyR_take 0 rfl (by kernel_rfl) (by kernel_rfl) (by kernel_rfl) (fun _ _ _ _ h => h) ⟨_, Or.inl ⟨by rfl, fun w2 hb2 => by (go_simp; try with_reducible rfl)⟩, _, by (go_simp; try rfl), ?_⟩
    refine wpAnyR_take 1 rfl (by kernel_rfl) (by kernel_rfl) (by kernel_rfl) (fun _ _ _ _ h => h) ⟨_, Or.inl ⟨by rfl, fun w2 hb2 => by (go_simp; try with_reducible rfl)⟩, _, by (go_simp; try rfl), ?_⟩
    refine wpAnyR_take 2 rfl (by kernel_rfl) (by kernel_rfl) (by kernel_rfl) (fun _ _ _ _ h => h) ⟨_, Or.inl ⟨by rfl, fun w2 hb2 => by (go_simp; try with_reducible rfl)⟩, _, by (go_simp; try rfl), ?_⟩
    refine wpAnyR_take 3 rfl (by kernel_rfl) (by kernel_rfl) (by kernel_rfl) (fun _ _ _ _ h => h) ⟨_, Or.inl ⟨by rfl, fun w2 hb2 => by (have hx := held_cell (held_after hb2 rD) 0 _ rfl; go_simp; try with_reducible rfl)⟩, _, by (go_simp; try rfl), ?_⟩
    refine wpAnyR_take 4 rfl (by kernel_rfl) (by kernel_rfl) (by kernel_rfl) (fun _ _ _ _ h => h) ⟨_, Or.inl ⟨by rfl, fun w2 hb2 => by (go_simp; try with_reducible rfl)⟩, _, by (go_simp; try rfl), ?_⟩
    refine wpAnyR_take 5 rfl (by kernel_rfl) (by kernel_rfl) (by kernel_rfl) (fun _ _ _ _ h => h) ⟨_, Or.inl ⟨by rfl, fun w2 hb2 => by (go_simp; try with_reducible rfl)⟩, _, by (go_simp; try rfl), ?_⟩
    refine wpAnyR_take 6 rfl (by kernel_rfl) (by kernel_rfl) (by kernel_rfl) (fun _ _ _ _ h => h) ⟨_, Or.inl ⟨by rfl, fun w2 hb2 => by (go_simp; try with_reducible rfl)⟩, _, by (go_simp; try rfl), ?_⟩
    refine wpAnyR_take 7 rfl (by kernel_rfl) (by kernel_rfl) (by kernel_rfl) (fun _ _ _ _ h => h) ⟨_, Or.inl ⟨by rfl, fun w2 hb2 => by (have hx := held_cell (held_after hb2 rD) 1 _ rfl; go_simp; try with_reducible rfl)⟩, _, by (go_simp; try rfl), ?_⟩
    refine wpAnyR_take 8 rfl (by kernel_rfl) (by kernel_rfl) (by kernel_rfl) (fun _ _ _ _ h => h) ⟨_, Or.inl ⟨by rfl, fun w2 hb2 => by (go_simp; try with_reducible rfl)⟩, _, by (go_simp; try rfl), ?_⟩
    refine wpAnyR_only 9 rfl (by kernel_rfl) (by rfl) (fun K hK => ?_)
    go_simp
    refine hk9.out.mono ?_
    rintro ev Vt ⟨rfl, hvt⟩
    subst hvt
    go_simp
    refine hK _ _ ⟨After.refl _, ?_⟩
    clear hK
    refine wpAnyR_take 10 rfl (by kernel_rfl) (by kernel_rfl) (by kernel_rfl) (fun _ _ _ _ h => h) ⟨_, Or.inl ⟨by rfl, fun w2 hb2 => by (go_simp; try with_reducible rfl)⟩, _, by (go_simp; try rfl), ?_⟩
    refine wpAnyR_take 11 rfl (by kernel_rfl) (by kernel_rfl) (by kernel_rfl) (fun _ _ _ _ h => h) ⟨_, Or.inl ⟨by rfl, fun w2 hb2 => by (go_simp; try with_reducible rfl)⟩, _, by (go_simp; try rfl), ?_⟩
    refine wpAnyR_take 12 rfl (by kernel_rfl) (by kernel_rfl) (by kernel_rfl) (fun _ _ _ _ h => h) ⟨_, Or.inl ⟨by rfl, fun w2 hb2 => by (go_simp; try with_reducible rfl)⟩, _, by (go_simp; try rfl), ?_⟩
    refine wpAnyR_take 13 rfl (by kernel_rfl) (by kernel_rfl) (by kernel_rfl) (fun _ _ _ _ h => h) ⟨_, Or.inl ⟨by rfl, fun w2 hb2 => by (go_simp; try with_reducible rfl)⟩, _, by (go_simp; try rfl), ?_⟩
    refine wpAnyR_take 14 rfl (by kernel_rfl) (by kernel_rfl) (by kernel_rfl) (fun _ _ _ _ h => h) ⟨_, Or.inl ⟨by rfl, fun w2 hb2 => by (go_simp; try with_reducible rfl)⟩, _, by (go_simp; try rfl), ?_⟩
    refine wpAnyR_take 15 rfl (by kernel_rfl) (by kernel_rfl) (by kernel_rfl) (fun _ _ _ _ h => h) ⟨_, Or.inl ⟨by rfl, fun w2 hb2 => by (go_simp; try with_reducible rfl)⟩, _, by (go_simp; try rfl), ?_⟩
    refine wpAnyR_take 16 rfl (by kernel_rfl) (by kernel_rfl) (by kernel_rfl) (fun _ _ _ _ h => h) ⟨_, Or.inl ⟨by rfl, fun w2 hb2 => by (go_simp; try with_reducible rfl)⟩, _, by (go_simp; try rfl), ?_⟩
    refine wpAnyR_done (by kernel_rfl) ?_ _
    clear hk9 c0 c1 c2 f0 f1 f2
    have c0 := held_cell rD 0 _ rfl
    have c1 := held_cell rD 1 _ rfl
    have c2 := held_cell rD 2 _ rfl
    have f0 := held_free rD 0
    have f1 := held_free rD 1
    have f2 := held_free rD 2
    by_cases hqe : qe = 0
    case neg =>
      have er := hid (hr2.out.trans (if_pos hqe))
      have hq1 : ((qe : Int) == 0) = false := by simp [hqe]
      have hq2 : ((qe : Int) != 0) = true := by simp [hqe]
      clear hqe h1 h2 hr2
      obtain ⟨W4, hW4, ya, yO⟩ := st1 rD 2 (.int .i64 (qe : Int))
      have ya2 := hid ya
      have yO2 := hid yO.rd
      clear ya yO
      go_wp2_with fail
      go_ret
      rw [er.out]
      exact ⟨rfl, ya2.out, yO2.out⟩
    subst hqe
    have h3 := (h2.out rfl).1
    have h4 := (h2.out rfl).2.1
    omega
  · have hSd : Sl .u8 w.drew (Option.map (fun x => x.add at_) a) (len - at_) (cap - at_) (bs.drop at_) := hS.drop at_ hat
    have hk9 := hid (kt.out _ _ _ _ hSd (by omega))
    clear hSd hS
    refine wp_region_R (by kernel_rfl) ?_
    refine wpAnyR_take 0 rfl (by kernel_rfl) (by kernel_rfl) (by kernel_rfl) (fun _ _ _ _ h => h) ⟨_, Or.inl ⟨by rfl, fun w2 hb2 => by (go_simp; try with_reducible rfl)⟩, _, by (go_simp; try rfl), ?_⟩
    refine wpAnyR_take 1 rfl (by kernel_rfl) (by kernel_rfl) (by kernel_rfl) (fun _ _ _ _ h => h) ⟨_, Or.inl ⟨by rfl, fun w2 hb2 => by (go_simp; try with_reducible rfl)⟩, _, by (go_simp; try rfl), ?_⟩
    refine wpAnyR_take 2 rfl (by kernel_rfl) (by kernel_rfl) (by kernel_rfl) (fun _ _ _ _ h => h) ⟨_, Or.inl ⟨by rfl, fun w2 hb2 => by (go_simp; try with_reducible rfl)⟩, _, by (go_simp; try rfl), ?_⟩
    refine wpAnyR_take 3 rfl (by kernel_rfl) (by kernel_rfl) (by kernel_rfl) (fun _ _ _ _ h => h) ⟨_, Or.inl ⟨by rfl, fun w2 hb2 => by (have hx := held_cell (held_after hb2 rD) 0 _ rfl; go_simp; try with_reducible rfl)⟩, _, by (go_simp; try rfl), ?_⟩
    refine wpAnyR_take 4 rfl (by kernel_rfl) (by kernel_rfl) (by kernel_rfl) (fun _ _ _ _ h => h) ⟨_, Or.inl ⟨by rfl, fun w2 hb2 => by (go_simp; try with_reducible rfl)⟩, _, by (go_simp; try rfl), ?_⟩
    refine wpAnyR_take 5 rfl (by kernel_rfl) (by kernel_rfl) (by kernel_rfl) (fun _ _ _ _ h => h) ⟨_, Or.inl ⟨by rfl, fun w2 hb2 => by (go_simp; try with_reducible rfl)⟩, _, by (go_simp; try rfl), ?_⟩
    refine wpAnyR_take 6 rfl (by kernel_rfl) (by kernel_rfl) (by kernel_rfl) (fun _ _ _ _ h => h) ⟨_, Or.inl ⟨by rfl, fun w2 hb2 => by (go_simp; try with_reducible rfl)⟩, _, by (go_simp; try rfl), ?_⟩
    refine wpAnyR_take 7 rfl (by kernel_rfl) (by kernel_rfl) (by kernel_rfl) (fun _ _ _ _ h => h) ⟨_, Or.inl ⟨by rfl, fun w2 hb2 => by (have hx := held_cell (held_after hb2 rD) 1 _ rfl; go_simp; try with_reducible rfl)⟩, _, by (go_simp; try rfl), ?_⟩
    refine wpAnyR_take 8 rfl (by kernel_rfl) (by kernel_rfl) (by kernel_rfl) (fun _ _ _ _ h => h) ⟨_, Or.inl ⟨by rfl, fun w2 hb2 => by (go_simp; try with_reducible rfl)⟩, _, by (go_simp; try rfl), ?_⟩
    refine wpAnyR_only 9 rfl (by kernel_rfl) (by rfl) (fun K hK => ?_)
    go_simp
    refine hk9.out.mono ?_
    rintro ev Vt ⟨rfl, hvt⟩
    subst hvt
    go_simp
    refine hK _ _ ⟨After.refl _, ?_⟩
    clear hK
    refine wpAnyR_take 10 rfl (by kernel_rfl) (by kernel_rfl) (by kernel_rfl) (fun _ _ _ _ h => h) ⟨_, Or.inl ⟨by rfl, fun w2 hb2 => by (go_simp; try with_reducible rfl)⟩, _, by (go_simp; try rfl), ?_⟩
    refine wpAnyR_take 11 rfl (by kernel_rfl) (by kernel_rfl) (by kernel_rfl) (fun _ _ _ _ h => h) ⟨_, Or.inl ⟨by rfl, fun w2 hb2 => by (go_simp; try with_reducible rfl)⟩, _, by (go_simp; try rfl), ?_⟩
    refine wpAnyR_take 12 rfl (by kernel_rfl) (by kernel_rfl) (by kernel_rfl) (fun _ _ _ _ h => h) ⟨_, Or.inl ⟨by rfl, fun w2 hb2 => by (go_simp; try with_reducible rfl)⟩, _, by (go_simp; try rfl), ?_⟩
    refine wpAnyR_take 13 rfl (by kernel_rfl) (by kernel_rfl) (by kernel_rfl) (fun _ _ _ _ h => h) ⟨_, Or.inl ⟨by rfl, fun w2 hb2 => by (go_simp; try with_reducible rfl)⟩, _, by (go_simp; try rfl), ?_⟩
    refine wpAnyR_take 14 rfl (by kernel_rfl) (by kernel_rfl) (by kernel_rfl) (fun _ _ _ _ h => h) ⟨_, Or.inl ⟨by rfl, fun w2 hb2 => by (go_simp; try with_reducible rfl)⟩, _, by (go_simp; try rfl), ?_⟩
    refine wpAnyR_take 15 rfl (by kernel_rfl) (by kernel_rfl) (by kernel_rfl) (fun _ _ _ _ h => h) ⟨_, Or.inl ⟨by rfl, fun w2 hb2 => by (go_simp; try with_reducible rfl)⟩, _, by (go_simp; try rfl), ?_⟩
    refine wpAnyR_take 16 rfl (by kernel_rfl) (by kernel_rfl) (by kernel_rfl) (fun _ _ _ _ h => h) ⟨_, Or.inl ⟨by rfl, fun w2 hb2 => by (go_simp; try with_reducible rfl)⟩, _, by (go_simp; try rfl), ?_⟩
    refine wpAnyR_done (by kernel_rfl) ?_ _
    clear hk9 c0 c1 c2 f0 f1 f2
    have c0 := held_cell rD 0 _ rfl
    have c1 := held_cell rD 1 _ rfl
    have c2 := held_cell rD 2 _ rfl
    have f0 := held_free rD 0
    have f1 := held_free rD 1
    have f2 := held_free rD 2
    by_cases hqe : qe = 0
    case neg =>
      have er := hid (hr2.out.trans (if_pos hqe))
      have hq1 : ((qe : Int) == 0) = false := by simp [hqe]
      have hq2 : ((qe : Int) != 0) = true := by simp [hqe]
      clear hqe h1 h2 hr2
      obtain ⟨W4, hW4, ya, yO⟩ := st1 rD 2 (.int .i64 (qe : Int))
      have ya2 := hid ya
      have yO2 := hid yO.rd
      clear ya yO
      go_wp2_with fail
      go_ret
      rw [er.out]
      exact ⟨rfl, ya2.out, yO2.out⟩
    subst hqe
    obtain ⟨h3, h4, h5⟩ : 1 ≤ qn ∧ qn ≤ len - at_ ∧ qu ≤ 18446744073709551615 := ⟨(h2.out rfl).1, (h2.out rfl).2.1, (h2.out rfl).2.2.1⟩
    have hr3 := hr2.out.trans (if_neg (by simp))
    clear hr2 h1 h2
    by_cases hgt : (hi : Int) < (qu : Int)
    case pos =>
      have er := hid (hr3.trans (if_pos (by omega)))
      clear hr3
      obtain ⟨W4, hW4, ya, yO⟩ := st1 rD 2 (.int .i64 5)
      have ya2 := hid ya
      have yO2 := hid yO.rd
      clear ya yO
      go_wp2_with fail
      go_ret
      rw [er.out]
      exact ⟨rfl, ya2.out, yO2.out⟩
    have er := hid (hr3.trans (if_neg (by omega)))
    have wa : IntKind.i64.wrap ((at_ : Int) + (qn : Int)) = (at_ : Int) + (qn : Int) := by rw [IntKind.wrap_i64]; omega
    have e2 := hid (show ((at_ + qn : Nat) : Int) = (at_ : Int) + (qn : Int) by omega)
    clear hr3
    obtain ⟨W4, hW4, ya, yO⟩ := st1 rD 1 (.int .i64 ((at_ : Int) + (qn : Int)))
    have ya2 := hid ya
    have yO2 := hid yO.rd
    clear ya yO
    go_wp2_with fail
    go_ret
    rw [er.out]
    refine ⟨rfl, ?_, yO2.out⟩
    dsimp only
    rw [e2.out]
    exact ya2.out
set_option maxRecDepth 100000 in
set_option maxHeartbeats 4000000 in
theorem grown_any (B len cap at_ : Nat) (a : Option Addr) (bs : List Int) (e : Int) (v : Int) (w : World) (hB : w.heap[B]? = some (.cells #[.slice a len cap, .int .i64 at_, .int .i64 e] 110 (0, 0))) (hS : Sl .u8 w a len cap bs) (hz : ∀ x ∈ bs, (Lit.int .u8 x).wf = true) (hat : at_ ≤ len) (he : 0 ≤ e ∧ e ≤ 9) (hl : len ≤ 100000) (hv : -2147483648 ≤ v ∧ v ≤ 2147483647) : Calls Try.prog 70 #[.pointer (some ⟨B, 0, none⟩), .int .i32 v] w fun ev w' => ev = .returned (.int .i32 (grS bs at_ e v).1) ∧ w'.heap[B]? = some (.cells #[.slice a len cap, .int .i64 ((grS bs at_ e v).2.1 : Nat), .int .i64 (grS bs at_ e v).2.2] 110 (0, 0)) ∧ Only B w w' := by
  obtain ⟨r, hr⟩ : ∃ r, grS bs at_ e v = r := ⟨_, rfl⟩
  rw [hr]
  unfold grS at hr
  have hzl := hS.1
  have hb := nxS_bd (hi := 18446744073709551615) hz (by rw [hzl]; exact hat) (Nat.le_refl _) he
  rw [hzl] at hb
  have kn := hid (next_any B len cap at_ a bs e 18446744073709551615 w hB hS hz hat he hl (Nat.le_refl _))
  obtain ⟨⟨nu, na, ne⟩, hn⟩ : ∃ n, nxS bs at_ e 18446744073709551615 = n := ⟨_, rfl⟩
  rw [hn] at hr hb kn
  dsimp only at hr hb kn
  clear hn hB hS
  have hzb := zag_bd (nu : Int) (by omega) (by omega)
  have kz := hid (fun W => zag_any (nu : Int) W (by omega) (by omega))
  obtain ⟨d, hd⟩ : ∃ d, zagS (nu : Int) = d := ⟨_, rfl⟩
  rw [hd] at hr hzb kz
  clear hd
  have wv : IntKind.i64.wrap v = v := by rw [IntKind.wrap_i64]; omega
  have w1 : IntKind.i64.wrap (2147483647 - v) = 2147483647 - v := by rw [IntKind.wrap_i64]; omega
  have w2 : IntKind.i64.wrap (-2147483648 - v) = -2147483648 - v := by rw [IntKind.wrap_i64]; omega
  replace hr := hid hr
  go_enter Try.func70, Try.ntmps70
  go_wp2_with fail
  refine kn.out.mono ?_
  rintro ev V ⟨rfl, rB, hO⟩
  clear kn
  go_wp2_with fail
  refine (kz.out _).mono ?_
  rintro ev V2 ⟨rfl, hv2⟩
  obtain rfl : V = V2 := hv2.symm
  clear hv2 kz
  have c0 := held_cell rB 0 _ rfl
  have c1 := held_cell rB 1 _ rfl
  have c2 := held_cell rB 2 _ rfl
  have f0 := held_free rB 0
  have f1 := held_free rB 1
  have f2 := held_free rB 2
  by_cases h0 : ne = 0
  case neg =>
    have er := hid (hr.out.symm.trans (if_pos h0))
    have hq : (ne != 0) = true := by simp [h0]
    clear hr h0
    replace rB := hid rB
    replace hO := hid hO
    go_wp2_with fail
    go_ret
    rw [er.out]
    exact ⟨rfl, rB.out, hO.out⟩
  subst h0
  have hr3 := hr.out.symm.trans (if_neg (by simp))
  clear hr
  by_cases d0 : d = 0
  case pos =>
    have er := hid (hr3.trans (if_pos (Or.inl d0)))
    have hq : (d == 0) = true := by simp [d0]
    obtain ⟨W4, hW4, ya, yO⟩ := st1 rB 2 (.int .i64 5)
    have ya2 := hid ya
    have yO2 := hid (hO.then yO)
    clear ya yO hr3 rB hO
    go_wp2_with fail
    go_ret
    rw [er.out]
    exact ⟨rfl, ya2.out, yO2.out⟩
  have hq : (d == 0) = false := by simp [d0]
  by_cases d1 : 2147483647 - v < d
  case pos =>
    have er := hid (hr3.trans (if_pos (Or.inr (Or.inl d1))))
    clear d0
    obtain ⟨W4, hW4, ya, yO⟩ := st1 rB 2 (.int .i64 5)
    have ya2 := hid ya
    have yO2 := hid (hO.then yO)
    clear ya yO hr3 rB hO
    go_wp2_with fail
    go_ret
    rw [er.out]
    exact ⟨rfl, ya2.out, yO2.out⟩
  by_cases d2 : d < -2147483648 - v
  case pos =>
    have er := hid (hr3.trans (if_pos (Or.inr (Or.inr d2))))
    clear d0
    obtain ⟨W4, hW4, ya, yO⟩ := st1 rB 2 (.int .i64 5)
    have ya2 := hid ya
    have yO2 := hid (hO.then yO)
    clear ya yO hr3 rB hO
    go_wp2_with fail
    go_ret
    rw [er.out]
    exact ⟨rfl, ya2.out, yO2.out⟩
  have er := hid (hr3.trans (if_neg (by omega)))
  have w3 : IntKind.i64.wrap (v + d) = v + d := by rw [IntKind.wrap_i64]; omega
  have w4 : IntKind.i32.wrap (v + d) = v + d := by rw [IntKind.wrap_i32]; omega
  clear hr3 d0
  replace rB := hid rB
  replace hO := hid hO
  go_wp2_with fail
  go_ret
  rw [er.out]
  exact ⟨rfl, rB.out, hO.out⟩

end Go.Proofs.Ytmfhniekcbadlaa
