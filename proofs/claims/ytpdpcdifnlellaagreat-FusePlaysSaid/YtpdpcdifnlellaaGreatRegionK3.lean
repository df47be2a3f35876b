/- As XRegionK: where three may come up. -/
import Derived.Test.YtpdpcdifnlellaaGreatKA
namespace Go.Proofs.YtpdpcdifnlellaaGreat
open Go.RowKit
section
variable {P : Program} {ops : Array Oper} {Q : Exit → Act → World → Prop} {md : Region.Mode} {N : Nat} {X : List Nat}
theorem wpAnyK_three {oi oj ok : Oper} {n : Nat} {listed : Array Bool} {a : Act} {w : World} (i j k : Nat) (hi : ops[i]? = some oi) (hj : ops[j]? = some oj) (hk : ops[k]? = some ok) (hr : Region.ready md ops listed = [i, j, k]) (hwi : Region.wanted oi (yielded ops a.tmps) = true) (hwj : Region.wanted oj (yielded ops a.tmps) = true) (hwk : Region.wanted ok (yielded ops a.tmps) = true)
    (h1 : ∀ K : Act → World → Prop, (∀ a' w', Kp N X w w' ∧ wpAnyK P md N X ops Q n (listed.setIfInBounds i true) a' w' → K a' w') → oi.wp P a w K Q)
    (h2 : ∀ K : Act → World → Prop, (∀ a' w', Kp N X w w' ∧ wpAnyK P md N X ops Q n (listed.setIfInBounds j true) a' w' → K a' w') → oj.wp P a w K Q)
    (h3 : ∀ K : Act → World → Prop, (∀ a' w', Kp N X w w' ∧ wpAnyK P md N X ops Q n (listed.setIfInBounds k true) a' w' → K a' w') → ok.wp P a w K Q) : wpAnyK P md N X ops Q (n + 1) listed a w := by
  refine ⟨(fun h0 => by rw [hr] at h0; cases h0), fun m hm => ?_⟩
  rw [hr] at hm
  simp only [List.mem_cons, List.not_mem_nil, or_false] at hm
  rcases hm with rfl | rfl | rfl
  · unfold wpOp
    simp only [hi, hwi, if_true]
    exact .inl (h1 _ fun _ _ k => k)
  · unfold wpOp
    simp only [hj, hwj, if_true]
    exact .inl (h2 _ fun _ _ k => k)
  · unfold wpOp
    simp only [hk, hwk, if_true]
    exact .inl (h3 _ fun _ _ k => k)
end
end Go.Proofs.YtpdpcdifnlellaaGreat
