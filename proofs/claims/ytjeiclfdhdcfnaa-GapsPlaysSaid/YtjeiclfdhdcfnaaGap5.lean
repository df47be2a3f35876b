/- Package gaps: order; slices.SortFunc of senders. -/
import Derived.Test.YtjeiclfdhdcfnaaGap4
import Derived.Test.YtjeiclfdhdcfnaaShelf
import Derived.Shelf.SlSortCmp.WholeK
import Derived.Laws.Tables
namespace Go.Proofs.Ytjeiclfdhdcfnaa
open Go.ChangeShapes Go.WideShapes Go.ChangeAt Go.RowKit
set_option linter.unusedVariables false
set_option linter.unusedSimpArgs false

def cf33 (x y : Int × Int) : Int := if x = y then 0 else if x.1 < y.1 ∨ (x.1 = y.1 ∧ x.2 < y.2) then -1 else 1
/-- By Sys, then by Comp. -/
def lt33 (x y : Int × Int) : Prop := x.1 < y.1 ∨ (x.1 = y.1 ∧ x.2 < y.2)
instance (x y : Int × Int) : Decidable (lt33 x y) := by unfold lt33; exact inferInstance
def en33 (x : Int × Int) : List Value := [.int .i64 x.1, .int .i64 x.2]
theorem cf33_lt (x y : Int × Int) : Go.Proofs.ltOf cf33 x y = decide (lt33 x y) := by
  unfold Go.Proofs.ltOf cf33 lt33
  by_cases h : x = y
  · subst h
    rw [if_pos rfl]
    have : ¬ (x.1 < x.1 ∨ (x.1 = x.1 ∧ x.2 < x.2)) := by omega
    rw [decide_eq_false this]
    rfl
  · rw [if_neg h]
    by_cases h2 : x.1 < y.1 ∨ (x.1 = y.1 ∧ x.2 < y.2)
    · rw [if_pos h2, decide_eq_true h2]
      rfl
    · rw [if_neg h2, decide_eq_false h2]
      rfl
theorem swo33 : Go.Sort.SWO (Go.Proofs.ltOf cf33) where
  irrefl x := by rw [cf33_lt]; exact decide_eq_false (by unfold lt33; omega)
  trans x y z h1 h2 := by
    rw [cf33_lt] at *
    have h1 := of_decide_eq_true h1
    have h2 := of_decide_eq_true h2
    refine decide_eq_true ?_
    unfold lt33 at *
    omega
  ntrans x y z h1 h2 := by
    rw [cf33_lt] at *
    have h1 := of_decide_eq_false h1
    have h2 := of_decide_eq_false h2
    refine decide_eq_false ?_
    unfold lt33 at *
    omega
set_option maxRecDepth 100000 in
set_option maxHeartbeats 4000000 in
theorem order_any (x y : Int × Int) (W : World) : Calls Try.prog 18 #[.agg #[.int .i64 x.1, .int .i64 x.2], .agg #[.int .i64 y.1, .int .i64 y.2]] W fun e w' => e = .returned (.int .i64 (cf33 x y)) ∧ ∃ (q : Nat) (os' : Array Obj), w' = Go.Sort.grow (W.drewN q) os' := by
  obtain ⟨x1, x2⟩ := x
  obtain ⟨y1, y2⟩ := y
  dsimp only
  obtain ⟨be, hbe⟩ : ∃ b : Bool, decide (x1 = y1 ∧ x2 = y2) = b := ⟨_, rfl⟩
  have eW : ∀ U, (Op.equalIn 10000 51 (.agg #[.int .i64 x1, .int .i64 x2]) (.agg #[.int .i64 y1, .int .i64 y2])).run Try.prog U = .ok be U := fun U => by have := eqS33 x1 x2 y1 y2 U; rw [hbe] at this; exact this
  replace hbe := hid hbe
  cases be with
  | true =>
    have hcf := hid (show cf33 (x1, x2) (y1, y2) = 0 from by have h := of_decide_eq_true hbe.out; unfold cf33; rw [if_pos (by rw [h.1, h.2])])
    rw [hcf.out]
    go_enter Try.func18, Try.ntmps18
    go_wp2_with fail
    go_ret
    exact ⟨rfl, 0, _, by rw [Go.Sort.alloc_eq_grow, Go.Sort.alloc_eq_grow, Go.Sort.grow_grow]; rfl⟩
  | false =>
    have hne : ¬ ((x1, x2) = (y1, y2)) := fun h => of_decide_eq_false hbe.out (by cases h; exact ⟨rfl, rfl⟩)
    by_cases c1 : x1 < y1
    · have b1 : decide (x1 < y1) = true := by simpa using c1
      have hc := hid c1
      clear c1
      have hcf := hid (show cf33 (x1, x2) (y1, y2) = -1 from by have c1 := hc.out; unfold cf33; rw [if_neg hne, if_pos (by omega)])
      rw [hcf.out]
      go_enter Try.func18, Try.ntmps18
      go_wp2_with fail
      go_ret
      exact ⟨rfl, 0, _, by rw [Go.Sort.alloc_eq_grow, Go.Sort.alloc_eq_grow, Go.Sort.grow_grow]; rfl⟩
    · have b1 : decide (x1 < y1) = false := by simpa using c1
      by_cases c2 : x1 = y1
      · have b2 : (x1 == y1) = true := by simpa using c2
        by_cases c3 : x2 < y2
        · have b3 : decide (x2 < y2) = true := by simpa using c3
          have hc := hid (And.intro c2 c3)
          clear c1 c2 c3
          have hcf := hid (show cf33 (x1, x2) (y1, y2) = -1 from by have c1 := hc.out; unfold cf33; rw [if_neg hne, if_pos (by omega)])
          rw [hcf.out]
          go_enter Try.func18, Try.ntmps18
          go_wp2_with fail
          go_ret
          exact ⟨rfl, 0, _, by rw [Go.Sort.alloc_eq_grow, Go.Sort.alloc_eq_grow, Go.Sort.grow_grow]; rfl⟩
        · have b3 : decide (x2 < y2) = false := by simpa using c3
          have hc := hid (And.intro c1 c3)
          clear c1 c2 c3
          have hcf := hid (show cf33 (x1, x2) (y1, y2) = 1 from by have c1 := hc.out; unfold cf33; rw [if_neg hne, if_neg (by omega)])
          rw [hcf.out]
          go_enter Try.func18, Try.ntmps18
          go_wp2_with fail
          go_ret
          exact ⟨rfl, 0, _, by rw [Go.Sort.alloc_eq_grow, Go.Sort.alloc_eq_grow, Go.Sort.grow_grow]; rfl⟩
      · have b2 : (x1 == y1) = false := by simpa using c2
        have hc := hid (And.intro c1 c2)
        clear c1 c2
        have hcf := hid (show cf33 (x1, x2) (y1, y2) = 1 from by have c1 := hc.out; unfold cf33; rw [if_neg hne, if_neg (by omega)])
        rw [hcf.out]
        go_enter Try.func18, Try.ntmps18
        go_wp2_with fail
        go_ret
        exact ⟨rfl, 0, _, by rw [Go.Sort.alloc_eq_grow, Go.Sort.alloc_eq_grow, Go.Sort.grow_grow]; rfl⟩
set_option maxRecDepth 100000 in
set_option maxHeartbeats 4000000 in
theorem sort_eff33 {w : World} {g off n : Nat} {os : Array Obj} (d : Array (Int × Int)) : Eff g w (Go.Proofs.sortWorldK en33 2 w g off n d os) := by
  refine ⟨rfl, rfl, rfl, ?_, fun k hk hne => ?_⟩
  · simp [Go.Proofs.sortWorldK, Go.Sort.putRowK, Go.Sort.putRow, Go.Sort.mapBlock, Go.Sort.grow, Go.Sort.ahead]
  · unfold Go.Proofs.sortWorldK Go.Sort.putRowK
    rw [Go.Sort.heap_grow_old _ _ (by simpa [Go.Sort.putRow, Go.Sort.mapBlock, Go.Sort.ahead] using hk)]
    simp [Go.Sort.putRow, Go.Sort.mapBlock, Go.Sort.ahead, Array.getElem?_modify, Ne.symm hne]
set_option maxRecDepth 100000 in
set_option maxHeartbeats 2000000 in
theorem list_range33 (l : List (Int × Int)) (i : Nat) (h : i < l.length) : l.toArray[i]! = l[i] := by
  simp [h]
set_option maxRecDepth 100000 in
set_option maxHeartbeats 2000000 in
theorem holds33 {w : World} {g off : Nat} {S : List (Int × Int)} (hc : ∀ i x, S[i]? = some x → (w.cell? ⟨g, off + i * 2, none⟩ = some (.int .i64 x.1) ∧ w.cell? ⟨g, off + i * 2 + 1, none⟩ = some (.int .i64 x.2)) ∧ ∀ j, w.frozen? ⟨g, j, none⟩ = false) : Go.Sort.HoldsK en33 2 w g off S.toArray := by
  intro j hj
  rw [Go.Sort.size_flatK] at hj
  have hj2 : j / 2 < S.length := by simp at hj; omega
  obtain ⟨⟨h1, h2⟩, h3⟩ := hc (j / 2) S[j / 2] (List.getElem?_eq_getElem hj2)
  rw [Go.Sort.get_flatK en33 2 S.toArray j hj, list_range33 S _ hj2]
  refine ⟨?_, h3 _⟩
  have hr : j % 2 = 0 ∨ j % 2 = 1 := by omega
  rcases hr with hr | hr
  · rw [hr, show off + j = off + j / 2 * 2 by omega, h1]; rfl
  · rw [hr, show off + j = off + j / 2 * 2 + 1 by omega, h2]; rfl
set_option maxRecDepth 100000 in
set_option maxHeartbeats 8000000 in
theorem sort_any (g off cap : Nat) (S : List (Int × Int)) (w : World) (hg : g < w.heap.size) (h16 : S.length ≤ 1000) (hc : ∀ i x, S[i]? = some x → (w.cell? ⟨g, off + i * 2, none⟩ = some (.int .i64 x.1) ∧ w.cell? ⟨g, off + i * 2 + 1, none⟩ = some (.int .i64 x.2)) ∧ ∀ j, w.frozen? ⟨g, j, none⟩ = false) :
    Calls Try.prog 17 #[.slice (some ⟨g, off, none⟩) S.length cap, .func (.func 18) #[] #[]] w fun e w' => e = .returned (.tuple #[]) ∧ Eff g w w' ∧ ∃ S' : List (Int × Int), S'.Perm S ∧ S'.Pairwise (fun a b => ¬ lt33 b a) ∧ ∀ i x, S'[i]? = some x → w'.cell? ⟨g, off + i * 2, none⟩ = some (.int .i64 x.1) ∧ w'.cell? ⟨g, off + i * 2 + 1, none⟩ = some (.int .i64 x.2) := by
  have hH := holds33 hc
  have eg : ∀ args W, (callFunc 18 args).run Try.prog W = .ok (.enter 18 args) W := enters_of Try.func18 (by kernel_rfl) rfl
  have aE : ∀ W, (isAgg 51).run Try.prog W = .ok true W := fun W => by kernel_rfl
  have zE : ∀ W, (Go.sizeOf 51).run Try.prog W = .ok 2 W := fun W => by kernel_rfl
  have hcon := Go.Proofs.AnyQ.slices_SortFunc Try.sortSender 2 aE zE en33 (fun _ => rfl) (fun x v hv => by simp [en33] at hv; rcases hv with rfl | rfl <;> rfl) cf33 swo33 18 #[] g off cap S.toArray w eg (fun _ _ _ _ x y => order_any x y _) hH hg (by simp; omega)
  change Calls Try.prog 17 _ _ _ at hcon
  refine hcon.mono ?_
  rintro e w' ⟨rfl, d', n, os, hp, hs, rfl⟩
  obtain ⟨p1, -, p3⟩ := hp
  have hsz : d'.size = S.length := by rw [p1]; simp
  have hH2 := Go.Proofs.holdsK_sortWorldK_c en33 2 w g off S.toArray d' n os hH hg p1
  refine ⟨rfl, sort_eff33 d', d'.toList, ?_, ?_, ?_⟩
  · have e1 : d'.extract 0 S.toArray.size = d' := by rw [← p1]; simp
    have e2 : S.toArray.extract 0 S.toArray.size = S.toArray := by simp
    rw [e1, e2] at p3
    simpa using p3
  · rw [List.pairwise_iff_getElem]
    intro i j hi hj hij
    have := hs i j (Nat.zero_le _) hij (by simp at hj ⊢; omega)
    rw [cf33_lt] at this
    have h3 := of_decide_eq_false this
    simp at hi hj
    simpa [hi, hj] using h3
  · intro i x hx
    have hi : i < d'.size := by have := (List.getElem?_eq_some_iff.1 hx).1; simpa using this
    have ex : d'[i]! = x := by
      have := (List.getElem?_eq_some_iff.1 hx)
      obtain ⟨h1, h2⟩ := this
      rw [getElem!_pos d' i hi, ← h2]
      simp
    have c0 := (hH2.cell hi (show 0 < 2 by decide)).1
    have c1 := (hH2.cell hi (show 1 < 2 by decide)).1
    rw [ex] at c0 c1
    exact ⟨c0, c1⟩

end Go.Proofs.Ytjeiclfdhdcfnaa
