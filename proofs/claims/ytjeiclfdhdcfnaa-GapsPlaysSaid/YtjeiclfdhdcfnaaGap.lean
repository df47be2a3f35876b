/- Maps whose keys and elements are structs. -/
import Derived.Test.YtjeiclfdhdcfnaaKA
import Derived.Test.YtjeiclfdhdcfnaaKB
import Derived.Test.YtjeiclfdhdcfnaaEls
import Derived.Laws.StructEq
import Derived.Laws.Tables
import Derived.ChangeMaps4
namespace Go.Proofs.Ytjeiclfdhdcfnaa
open Go.ChangeShapes Go.WideShapes Go.ChangeAt Go.RowKit
set_option linter.unusedVariables false
set_option linter.unusedSimpArgs false

/-- A sender's line. -/
structure Ln where
  y : Int
  c : Int
  q : Int
  h : Int
  l : Int
def kyG (y c : Int) : Value := .agg #[.int .i64 y, .int .i64 c]
def vlG (q h l : Int) : Value := .agg #[.int .i64 q, .int .i64 h, .int .i64 l]
def enM : Nat → List Ln → List MapEntry
  | _, [] => []
  | n, x :: L => ⟨kyG x.y x.c, vlG x.q x.h x.l, n⟩ :: enM (n + 1) L
/-- A map that holds these lines. -/
def MapAt (w : World) (b : Nat) (L : List Ln) : Prop := w.heap[b]? = some (.map (enM 0 L).toArray L.length)
/-- Where a sender's line stands. -/
def posG (y c : Int) : List Ln → Nat → Option (Nat × Ln)
  | [], _ => none
  | x :: L, i => if y = x.y ∧ c = x.c then some (i, x) else posG y c L (i + 1)
def putG (x : Ln) (L : List Ln) : List Ln := match posG x.y x.c L 0 with
  | none => L ++ [x]
  | some r => L.set r.1 x
theorem enM_len : ∀ (L : List Ln) (n : Nat), (enM n L).length = L.length
  | [], _ => rfl
  | x :: L, n => by show (enM (n + 1) L).length + 1 = _; rw [enM_len L (n + 1)]; rfl
theorem enM_snoc (x : Ln) : ∀ (L : List Ln) (n : Nat), enM n (L ++ [x]) = enM n L ++ [⟨kyG x.y x.c, vlG x.q x.h x.l, n + L.length⟩]
  | [], n => rfl
  | a :: L, n => by
    show _ :: enM (n + 1) (L ++ [x]) = _ :: (enM (n + 1) L ++ _)
    rw [enM_snoc x L (n + 1), List.length_cons, show n + 1 + L.length = n + (L.length + 1) by omega]
theorem enM_at : ∀ (L : List Ln) (n i : Nat), (enM n L)[i]? = L[i]?.map (fun x => ⟨kyG x.y x.c, vlG x.q x.h x.l, n + i⟩)
  | [], _, _ => by simp [enM]
  | a :: L, n, 0 => rfl
  | a :: L, n, i + 1 => by
    show (enM (n + 1) L)[i]? = _
    rw [enM_at L (n + 1) i, show n + 1 + i = n + (i + 1) by omega]
    rfl
theorem posG_at {y c : Int} : ∀ {L : List Ln} {i : Nat} {r : Nat × Ln}, posG y c L i = some r → i ≤ r.1 ∧ L[r.1 - i]? = some r.2 ∧ r.2.y = y ∧ r.2.c = c
  | [], i, r, h => by cases h
  | x :: L, i, r, h => by
    unfold posG at h
    split at h
    · rename_i h1
      cases h
      exact ⟨Nat.le_refl _, by simp, h1.1.symm, h1.2.symm⟩
    · obtain ⟨h1, h2, h3⟩ := posG_at h
      refine ⟨by omega, ?_, h3⟩
      rw [show r.1 - i = (r.1 - (i + 1)) + 1 by omega]
      exact h2
theorem posG_none {y c : Int} : ∀ {L : List Ln} {i : Nat}, posG y c L i = none → ∀ x ∈ L, ¬ (x.y = y ∧ x.c = c)
  | [], i, h => fun x hx => by cases hx
  | x :: L, i, h => by
    unfold posG at h
    split at h
    · cases h
    · rename_i h1
      intro z hz
      rcases List.mem_cons.1 hz with rfl | hz
      · exact fun h2 => h1 ⟨h2.1.symm, h2.2.symm⟩
      · exact posG_none h z hz
set_option maxRecDepth 100000 in
set_option maxHeartbeats 2000000 in
theorem eqS33 (y c y2 c2 : Int) (w : World) : (Op.equal 51 (kyG y c) (kyG y2 c2)).run Try.prog w = .ok (decide (y = y2 ∧ c = c2)) w := by
  show (Op.equalIn 10000 51 (.agg #[.int .i64 y, .int .i64 c]) (.agg #[.int .i64 y2, .int .i64 c2])).run Try.prog w = _
  rw [show (10000 : Nat) = 9999 + 1 from rfl, run_equalIn_agg w 9999 _ _ _ (by kernel_rfl) (by kernel_rfl)]
  by_cases g1 : y = y2
  · subst g1
    have b1 : (y == y) = true := beq_self_eq_true y
    by_cases g2 : c = c2
    · subst g2
      have b2 : (c == c) = true := beq_self_eq_true c
      go_simp
    · have b2 : (c == c2) = false := by simpa using g2
      have d : decide (c = c2) = false := by simpa using g2
      go_simp
  · have b1 : (y == y2) = false := by simpa using g1
    have d : decide (y = y2 ∧ c = c2) = false := by simp [g1]
    rw [d]
    go_simp
theorem ask33 (y c : Int) (w : World) : ∀ (L : List Ln) (n i : Nat), (Instr.findAsking 51 (kyG y c) (enM n L) i).run Try.prog w = .ok ((posG y c L i).map (fun r => (r.1, vlG r.2.q r.2.h r.2.l))) w
  | [], n, i => rfl
  | x :: L, n, i => by
    unfold enM Instr.findAsking posG
    rw [Sem.run_bind, eqS33, Result.andThen_ok]
    by_cases h : y = x.y ∧ c = x.c
    · rw [if_pos h, decide_eq_true h, if_pos rfl]
      rfl
    · rw [if_neg h, decide_eq_false h, if_neg (by decide)]
      exact ask33 y c w L (n + 1) (i + 1)
set_option maxRecDepth 100000 in
set_option maxHeartbeats 2000000 in
theorem find33 (y c : Int) (w : World) (L : List Ln) : (Instr.findKey 51 (kyG y c) (enM 0 L)).run Try.prog w = .ok ((posG y c L 0).map (fun r => (r.1, vlG r.2.q r.2.h r.2.l))) w := by
  unfold Instr.findKey
  rw [Sem.run_bind, run_underlying Try.underlying51, Result.andThen_ok]
  cases L with
  | nil => rfl
  | cons x L =>
    show (Instr.findAsking 51 (kyG y c) (enM 0 (x :: L)) 0).run Try.prog w = _
    exact ask33 y c w (x :: L) 0 0
set_option maxRecDepth 100000 in
set_option maxHeartbeats 2000000 in
theorem check33 (em : Bool) (y c : Int) (w : World) : (Instr.checkKey em 10000 51 (kyG y c)).run Try.prog w = .ok () w := by
  obtain ⟨n, hn⟩ : ∃ n : Nat, 10000 = n + 1 + 1 := ⟨9998, rfl⟩
  rw [hn]
  clear hn
  unfold kyG
  have p0 : (part 3 #[Value.int .i64 y, Value.int .i64 c] 0).run Try.prog w = .ok (.int .i64 y) w := by go_simp <;> rfl
  have p1 : (part 3 #[Value.int .i64 y, Value.int .i64 c] 1).run Try.prog w = .ok (.int .i64 c) w := by go_simp <;> rfl
  simp [Instr.checkKey, run_underlying Try.underlying51, run_underlying Try.underlying3, p0, p1]
set_option maxRecDepth 100000 in
set_option maxHeartbeats 2000000 in
theorem zero33 (w : World) : (zeroValue 53).run Try.prog w = .ok (vlG 0 0 0) w := by
  unfold vlG
  go_simp <;> rfl
theorem look33 {w : World} {b : Nat} {L : List Ln} (h : MapAt w b L) (y c : Int) (ok : Bool) : (Instr.lookup 45 (.map (some b)) (kyG y c) ok).run Try.prog w = .ok (if ok = true then .tuple #[(match posG y c L 0 with | some r => vlG r.2.q r.2.h r.2.l | none => vlG 0 0 0), .bool (posG y c L 0).isSome] else (match posG y c L 0 with | some r => vlG r.2.q r.2.h r.2.l | none => vlG 0 0 0)) w := by
  have hf := find33 y c w L
  have hc := check33 (enM 0 L).toArray.isEmpty y c w
  have hz := zero33 w
  have hg : (getObj b).run Try.prog w = .ok (.map (enM 0 L).toArray L.length) w := by
    simp [getObj, Sem.run, show w.heap[b]? = _ from h]
  unfold Instr.lookup
  simp only [Sem.run_bind, run_underlying Try.underlying45, Result.andThen_ok, hg, Sem.run_pure]
  rw [hc]
  simp only [Result.andThen_ok]
  rw [hf]
  cases hp : posG y c L 0 with
  | none => cases ok <;> simp [Sem.run_bind, hz, Result.andThen_ok, Sem.run_pure]
  | some r => cases ok <;> simp [Sem.run_bind, Result.andThen_ok, Sem.run_pure]
set_option maxRecDepth 100000 in
set_option maxHeartbeats 2000000 in
theorem enM_mod (x : Ln) : ∀ (L : List Ln) (n i : Nat), L[i]?.map (fun z => (z.y, z.c)) = some (x.y, x.c) → (enM n L).modify i (fun e => { e with key := kyG x.y x.c, val := vlG x.q x.h x.l }) = enM n (L.set i x)
  | [], n, i, h => by simp at h
  | a :: L, n, 0, h => rfl
  | a :: L, n, i + 1, h => by
    show _ :: (enM (n + 1) L).modify i _ = _ :: enM (n + 1) (L.set i x)
    rw [enM_mod x L (n + 1) i (by simpa using h)]
theorem upd33 {w : World} {b : Nat} {L : List Ln} (h : MapAt w b L) (x : Ln) : (Instr.mapUpdate 45 (.map (some b)) (kyG x.y x.c) (vlG x.q x.h x.l)).run Try.prog w = .ok () (Go.ChangeMaps.setBlock w b (.map (enM 0 (putG x L)).toArray (putG x L).length)) := by
  have hf := find33 x.y x.c w L
  have hc := check33 false x.y x.c w
  have hg : (getObj b).run Try.prog w = .ok (.map (enM 0 L).toArray L.length) w := by
    simp [getObj, Sem.run, show w.heap[b]? = _ from h]
  have hs : ∀ o, (setObj b o).run Try.prog w = .ok () (Go.ChangeMaps.setBlock w b o) := fun o => by
    simp [setObj, Sem.run, show w.heap[b]? = _ from h, Go.ChangeMaps.setBlock]
  unfold Instr.mapUpdate
  simp only [Sem.run_bind, run_underlying Try.underlying45, Result.andThen_ok, hg, Sem.run_pure]
  rw [hc]
  simp only [Result.andThen_ok]
  rw [hf]
  unfold putG
  cases hp : posG x.y x.c L 0 with
  | none =>
    simp only [Option.map_none, Result.andThen_ok]
    rw [hs, enM_snoc]
    simp
  | some r =>
    obtain ⟨-, h2, h3, h4⟩ := posG_at hp
    rw [Nat.sub_zero] at h2
    have hk : ((enM 0 L).toArray[r.1]?.map (·.key)).getD (kyG x.y x.c) = kyG x.y x.c := by
      simp [enM_at, h2, h3, h4]
    have hks : (Instr.keyThatStays (kyG x.y x.c) (kyG x.y x.c)).run Try.prog w = .ok (kyG x.y x.c) w := by
      unfold Instr.keyThatStays kyG
      simp [Instr.sameBits, Sem.run_pure]
    simp only [Option.map_some, Result.andThen_ok, Sem.run_bind, hk, hks]
    rw [hs]
    have hm := enM_mod x L 0 r.1 (by simp [h2, h3, h4])
    simp only [List.modify_toArray, hm, List.length_set]

end Go.Proofs.Ytjeiclfdhdcfnaa
