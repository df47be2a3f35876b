/- A region of an iterator whose order is open: its first part by whatever is known of plain regions; what comes behind (a yield) in one order. -/
import Derived.Test.YtaladglmomhndaaKB
import Derived.Test.YtaladglmomhndaaKA
import Derived.OrdersIn
import Derived.ControlIn
namespace Go.Proofs.Ytaladglmomhndaa
set_option linter.unusedVariables false
open Go.RowKit

section
variable {P : Program} {ops ops1 : Array Oper} {Q : Exit → Act → World → Prop}
theorem wpIn_of_false {n : Nat} {o : Oper} {a : Act} {w : World} {K : Act → World → Prop} {Q1 : Exit → Act → World → Prop} (hQ1 : ∀ e a w, ¬ e = .normal → ¬ Q1 e a w) (h : o.wp P a w K Q1) : o.wpIn Fence.wide n P a w K Q := by
  unfold Oper.wpIn
  refine ⟨fun _ _ => trivial, ?_⟩
  rw [show Fence.wide.round = none from rfl, Oper.semAt_none]
  unfold Oper.wp at h
  generalize (execOp a.eval o).run P w = r at *
  cases r with
  | halt x w' => cases x <;> first | exact (show False from h).elim | exact (hQ1 _ _ _ (by intro e; cases e) h).elim
  | ok x w' =>
    cases x
    case enter f args =>
      refine ⟨fun h => (by cases h), (callsIn_wide (n := n - 1)).2 (Calls.mono h fun e w'' he => ?_)⟩
      cases e with
      | returned v => exact he
      | panicked c => exact (hQ1 _ _ _ (by intro e; cases e) he).elim
      | outgrown => obtain ⟨_, _, h⟩ := he; exact (hQ1 _ _ _ (by intro e; cases e) h).elim
    case row r args => exact ⟨fun h => (by cases h), fun c cs _ => by
        obtain ⟨v, w'', hr, hs⟩ := h c cs
        exact ⟨v, w'', hr, stepsIn_wide.2 hs⟩⟩
    all_goals first | exact h | exact (show False from h).elim

def preOk (ops : Array Oper) (m : Nat) : Bool :=
  decide (m ≤ ops.size) &&
  ((List.range m).all fun k => (Seg.dir ops k).all fun j => decide (j < k)) &&
  ((List.range m).all fun i => match ops[i]? with | some o => (match o.guard with | none => true | some (j, _) => decide (j < m)) | none => false) &&
  ((List.range ops.size).all fun i => decide (i < m) || (List.range m).all fun y => (Seg.ancs ops i).contains y)

theorem wpAnyIn_pre {n m k : Nat} (hok : preOk ops m = true) (he : ops1 = ops.extract 0 m) (hk : ops.size = m + k) :
    ∀ (f : Nat) (L1 L : Array Bool) (a : Act) (w : World), L1.size = m → L.size = ops.size → (∀ j, L.getD j false = if j < m then L1.getD j false else false) →
      (∀ j, L.getD j false = true → ∀ i ∈ Seg.dir ops j, L.getD i false = true) → f = Seg.cnt m (fun j => L.getD j false) →
      wpAny P .any ops1 (fun e a w => e = .normal ∧ wpAnyIn Fence.wide n P .any ops Q k (Seg.marks ops.size m) a w) f L1 a w → wpAnyIn Fence.wide n P .any ops Q (f + k) L a w := by
  simp only [preOk, Bool.and_eq_true, decide_eq_true_eq, List.all_eq_true, List.mem_range] at hok
  obtain ⟨⟨⟨h1, h2⟩, h3⟩, h4⟩ := hok
  have get : ∀ j, j < m → ops1[j]? = ops[j]? := fun j hj => by
    subst he
    rw [Array.getElem?_extract, if_pos (by omega), Nat.zero_add]
  have mark : ∀ L : Array Bool, L.size = ops.size → (∀ j, m ≤ j → L.getD j false = false) → (∀ j, j < m → L.getD j false = true) → L = Seg.marks ops.size m := by
    intro L hs hhi hall
    refine Array.ext (by simp [Seg.marks, hs]) fun j q1 q2 => ?_
    have g2 := Seg.marks_get ops.size m j false
    rw [if_pos (by omega)] at g2
    have g1 : L.getD j false = decide (j < m) := by
      by_cases hj : j < m
      · rw [hall j hj]; simp [hj]
      · rw [hhi j (by omega)]; simp [hj]
    rw [← g2] at g1
    simpa [q1, q2] using g1
  intro f
  induction f with
  | zero =>
    intro L1 L a w s1 s2 hL hcl hc h
    have hall := Seg.cnt_zero m hc.symm
    rw [Nat.zero_add, mark L s2 (fun j hj => by rw [hL, if_neg (by omega)]) hall]
    exact h.2.2
  | succ f ih =>
    intro L1 L a w s1 s2 hL hcl hc h
    have notall : ¬ ∀ j, j < m → L.getD j false = true := fun hall => by
      have := Seg.cnt_congr (f := fun j => L.getD j false) (g := fun j => decide (j < m)) m (fun j hj => by rw [hall j hj]; simp [hj])
      rw [this, Seg.cnt_pre] at hc
      omega
    have gd : ∀ j, j < ops.size → L.getD j true = L.getD j false := fun j hj => by
      have : j < L.size := by omega
      simp [this]
    have gd1 : ∀ j, j < m → L1.getD j true = L1.getD j false := fun j hj => by
      have : j < L1.size := by omega
      simp [this]
    rw [show f + 1 + k = (f + k) + 1 from by omega]
    refine ⟨fun hr => (notall ?_).elim, fun i hi => ?_⟩
    · have key : ∀ n j, j < n → j < m → L.getD j false = true := by
        intro n
        induction n with
        | zero => intro j hj; omega
        | succ n ihn =>
          intro j hj hjm
          by_cases hjn : j < n
          · exact ihn j hjn hjm
          · cases hLj : L.getD j false with
            | true => rfl
            | false =>
              have hjo : j < ops.size := by omega
              have hin : j ∈ Region.ready .any ops L := by
                rw [mem_ready]
                refine ⟨by rw [gd j hjo]; exact hLj, ops[j], by simp [hjo], fun e he hb => ?_⟩
                have hd : e.on ∈ Seg.dir ops j := by
                  unfold Seg.dir
                  rw [Array.getElem?_eq_getElem hjo]
                  exact List.mem_map.2 ⟨e, List.mem_filter.2 ⟨by simpa using he, hb⟩, rfl⟩
                have hlt := h2 j hjm _ hd
                exact ihn e.on (by omega) (by omega)
              rw [hr] at hin; cases hin
      exact fun j hj => key (j + 1) j (by omega) hj
    · obtain ⟨hun, o, ho, haft⟩ := mem_ready.1 hi
      have hio : i < ops.size := (Array.getElem?_eq_some_iff.1 ho).1
      have hdir : ∀ j ∈ Seg.dir ops i, L.getD j false = true := by
        intro j hj
        unfold Seg.dir at hj
        rw [ho] at hj
        obtain ⟨e, he, rfl⟩ := List.mem_map.1 hj
        obtain ⟨q1, q2⟩ := List.mem_filter.1 he
        exact haft e (by simpa using q1) q2
      by_cases him : i < m
      · have hLi : L.getD i false = false := by rw [← gd i hio]; exact hun
        have hLi1 : L1.getD i false = false := by have := hL i; rw [if_pos him, hLi] at this; exact this.symm
        have ho1 : ops1[i]? = some o := by rw [get i him]; exact ho
        have hmem : i ∈ Region.ready .any ops1 L1 := by
          rw [mem_ready]
          refine ⟨by rw [gd1 i him]; exact hLi1, o, ho1, fun e he hb => ?_⟩
          have q := haft e he hb
          rw [hL] at q
          by_cases c : e.on < m
          · rw [if_pos c] at q; exact q
          · rw [if_neg c] at q; cases q
        have hw := h.2 i hmem
        have hwt : Region.wanted o (yielded ops1 a.tmps) = Region.wanted o (yielded ops a.tmps) := by
          have g := h3 i him
          rw [ho] at g
          unfold Region.wanted
          cases hg : o.guard with
          | none => rfl
          | some p =>
            obtain ⟨j, want⟩ := p
            simp only [hg] at g
            have hj := of_decide_eq_true g
            simp only
            unfold yielded
            rw [get j hj]
        have hgo : ∀ a' w', wpAny P .any ops1 (fun e a w => e = .normal ∧ wpAnyIn Fence.wide n P .any ops Q k (Seg.marks ops.size m) a w) f (L1.setIfInBounds i true) a' w' → wpAnyIn Fence.wide n P .any ops Q (f + k) (L.setIfInBounds i true) a' w' := by
          intro a' w' hh
          have hL' : ∀ j, (L.setIfInBounds i true).getD j false = (if j = i then true else L.getD j false) := by
            intro j
            by_cases hj : j = i
            · subst hj
              rw [if_pos rfl, Array.getD_eq_getD_getElem?, Array.getElem?_setIfInBounds_self, if_pos (by omega)]; rfl
            · rw [if_neg hj, getD_set_ne false (Ne.symm hj)]
          refine ih _ _ a' w' (by simp [s1]) (by simp [s2]) (fun j => ?_) (fun j hj q hq => ?_) ?_ hh
          · rw [hL']
            by_cases hj : j = i
            · subst hj
              rw [if_pos rfl, if_pos him, Array.getD_eq_getD_getElem?, Array.getElem?_setIfInBounds_self, if_pos (by omega)]; rfl
            · rw [if_neg hj, hL]
              by_cases c : j < m
              · rw [if_pos c, if_pos c, getD_set_ne false (Ne.symm hj)]
              · rw [if_neg c, if_neg c]
          · rw [hL']
            by_cases hqi : q = i
            · rw [if_pos hqi]
            · rw [if_neg hqi]
              rw [hL'] at hj
              by_cases hji : j = i
              · subst hji; exact hdir q hq
              · rw [if_neg hji] at hj; exact hcl j hj q hq
          · have := Seg.cnt_set (f := fun j => L.getD j false) (g := fun j => (L.setIfInBounds i true).getD j false) hLi (by simp only [hL', if_true]) (fun j hj => by simp only [hL', if_neg hj]) m him
            omega
        unfold wpOp at hw
        unfold wpOpIn
        simp only [ho1] at hw
        simp only [ho]
        rw [hwt] at hw
        cases hq : Region.wanted o (yielded ops a.tmps) with
        | false =>
          rw [hq] at hw
          simp only [Bool.false_eq_true, if_false] at hw ⊢
          exact ⟨fun _ _ => trivial, hgo _ _ hw⟩
        | true =>
          rw [hq] at hw
          simp only [if_true] at hw ⊢
          rcases hw with hw | ⟨_, _, _, hw⟩
          · exact Oper.wpIn_mono (fun a' w' hh => hgo a' w' hh) (wpIn_of_false (fun e _ _ hn hh => hn hh.1) hw)
          · cases hw.1
      · refine (notall fun y hy => ?_).elim
        have hin : y ∈ Seg.ancs ops i := by
          have := h4 i hio
          simp only [Bool.or_eq_true, decide_eq_true_eq, List.all_eq_true, List.mem_range] at this
          rcases this with c | c
          · exact (him c).elim
          · simpa using c y hy
        exact Seg.anc_sound (p := fun j => L.getD j false = true) hcl i _ hdir y hin

/-- The first m operations plainly (over wpAnyT); what comes behind is left as it stands. -/
theorem wpIn_region_pre {id n : Nat} {a : Act} {w : World} (m k : Nat) (X : Option Nat) (last : Nat) (he : ops1 = ops.extract 0 m) (hok : preOk ops m = true) (hk : ops.size = m + k) (hm : P.follows .mixedOrders = true)
    (h : wpAnyT P .any X last ops1 (fun e a w => e = .normal ∧ wpAnyIn Fence.wide n P .any ops Q k (Seg.marks ops.size m) a w) ops1.size (Array.replicate ops1.size false) a w.drew) : (Code.region id ops true).wpIn Fence.wide n P Q a w := by
  refine wpIn_region_any hm ?_
  have h1 : ops1.size = m := by subst he; simp; omega
  have h2 := wpAny_of_T _ _ _ _ h
  rw [h1] at h2
  have h0 : ∀ (s j : Nat), (Array.replicate s false).getD j false = false := fun s j => by
    by_cases c : j < s <;> simp [c]
  have h3 := wpAnyIn_pre hok he hk m _ (Array.replicate ops.size false) a w.drew (by simp) (by simp) (fun j => by rw [h0, h0]; simp) (fun j hj => by rw [h0] at hj; cases hj) (by rw [Seg.cnt_congr (g := fun j => decide (j < 0)) m (fun j _ => by rw [h0]; simp), Seg.cnt_pre]; omega) h2
  rw [← hk] at h3
  exact h3
/-- As wpIn_region_pre, over wpAnyR. -/
theorem wpIn_region_preR {id n : Nat} {a : Act} {w : World} (m k : Nat) (he : ops1 = ops.extract 0 m) (hok : preOk ops m = true) (hk : ops.size = m + k) (hm : P.follows .mixedOrders = true)
    (h : wpAnyR P .any ops1 (fun e a w => e = .normal ∧ wpAnyIn Fence.wide n P .any ops Q k (Seg.marks ops.size m) a w) ops1.size (Array.replicate ops1.size false) a w.drew) : (Code.region id ops true).wpIn Fence.wide n P Q a w := by
  refine wpIn_region_any hm ?_
  have h1 : ops1.size = m := by subst he; simp; omega
  have h2 := wpAny_of_R _ _ _ _ h
  rw [h1] at h2
  have h0 : ∀ (s j : Nat), (Array.replicate s false).getD j false = false := fun s j => by
    by_cases c : j < s <;> simp [c]
  have h3 := wpAnyIn_pre hok he hk m _ (Array.replicate ops.size false) a w.drew (by simp) (by simp) (fun j => by rw [h0, h0]; simp) (fun j hj => by rw [h0] at hj; cases hj) (by rw [Seg.cnt_congr (g := fun j => decide (j < 0)) m (fun j _ => by rw [h0]; simp), Seg.cnt_pre]; omega) h2
  rw [← hk] at h3
  exact h3
theorem wpAnyR_pair {md : Region.Mode} {oi oj : Oper} {n : Nat} {listed : Array Bool} {a : Act} {w : World} (i j : Nat) (hi : ops[i]? = some oi) (hj : ops[j]? = some oj) (hr : Region.ready md ops listed = [i, j]) (hwi : Region.wanted oi (yielded ops a.tmps) = true) (hwj : Region.wanted oj (yielded ops a.tmps) = true)
    (h1 : ∀ K : Act → World → Prop, (∀ a' w', After w w' ∧ wpAnyR P md ops Q n (listed.setIfInBounds i true) a' w' → K a' w') → oi.wp P a w K Q)
    (h2 : ∀ K : Act → World → Prop, (∀ a' w', After w w' ∧ wpAnyR P md ops Q n (listed.setIfInBounds j true) a' w' → K a' w') → oj.wp P a w K Q) : wpAnyR P md ops Q (n + 1) listed a w := by
  refine ⟨(fun h0 => by rw [hr] at h0; cases h0), fun m hm => ?_⟩
  rw [hr] at hm
  rcases List.mem_cons.1 hm with rfl | hm
  · unfold wpOp
    simp only [hi, hwi, if_true]
    exact .inl (h1 _ fun _ _ k => k)
  · obtain rfl := List.mem_singleton.1 hm
    unfold wpOp
    simp only [hj, hwj, if_true]
    exact .inl (h2 _ fun _ _ k => k)
theorem Seg.onlyIn {n m k : Nat} {o : Oper} {a : Act} {w : World} (ho : ops[m]? = some o) (hr : Region.ready .any ops (Seg.marks ops.size m) = [m]) (hw : Region.wanted o (yielded ops a.tmps) = true)
    (h : ∀ K : Act → World → Prop, (∀ a' w', wpAnyIn Fence.wide n P .any ops Q k (Seg.marks ops.size (m + 1)) a' w' → K a' w') → o.wpIn Fence.wide n P a w K Q) : wpAnyIn Fence.wide n P .any ops Q (k + 1) (Seg.marks ops.size m) a w := by
  refine ⟨(fun h0 => by rw [hr] at h0; cases h0), fun j hj => ?_⟩
  rw [hr] at hj
  obtain rfl := List.mem_singleton.1 hj
  unfold wpOpIn
  simp only [ho, hw, if_true]
  refine h _ fun a' w' hk => ?_
  rw [Seg.marks_set]; exact hk
theorem Seg.finishIn {n : Nat} {a : Act} {w : World} (h : Q .normal a w) : ∀ k, wpAnyIn Fence.wide n P .any ops Q k (Seg.marks ops.size ops.size) a w := by
  have hr : Region.ready .any ops (Seg.marks ops.size ops.size) = [] := by
    refine List.eq_nil_iff_forall_not_mem.2 fun j hj => ?_
    have := (mem_ready.1 hj).1
    rw [Seg.marks_get] at this
    split at this
    · simp at this; omega
    · cases this
  intro k
  cases k with
  | zero => exact ⟨hr, h⟩
  | succ k => exact ⟨fun _ => h, fun i hi => by rw [hr] at hi; cases hi⟩
end
end Go.Proofs.Ytaladglmomhndaa
