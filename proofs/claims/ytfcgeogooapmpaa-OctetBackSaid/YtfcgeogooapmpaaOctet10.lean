/- Package octet: a writer's Raw. -/
import Derived.Test.YtfcgeogooapmpaaOctet9
namespace Go.Proofs.Ytfcgeogooapmpaa
open Go.ChangeShapes Go.WideShapes Go.ChangeAt Go.RowKit Go.Shelf
set_option linter.unusedVariables false

/-- As wpList_appS; and what else lies where it lay. -/
theorem wpList_appS2 {P : Program} (w aw : World) {ops : Array Oper} {rest : List Oper} {o : Oper} {a : Act} {Q : Exit → Act → World → Prop} (hw : Region.wanted o (yielded ops a.tmps) = true) (s x : Operand) (t : TypeId)
    (ho : o.op = .call { callee := .builtin .append, args := #[s, x], argTypes := #[t, t] })
    (B base : Nat) (E : TypeId) (k : IntKind) (b : Nat) (hT : IntsOf P t E k b)
    (v : Value) (zs : List Int) (hs : a.eval s = v) (hown : Own k E w base v zs)
    (ad : Option Addr) (len cap : Nat) (ys : List Int) (hx : a.eval x = .slice ad len cap) (hsl : Sl k w ad len cap ys)
    (hlen : zs.length + len ≤ 140737488355328 / b) (hb0 : 0 < b) (hbel : Below B aw w) (hB : B ≤ base) (hbase : base ≤ w.heap.size)
    (h : ∀ a' cap' w', Own k E w' base (.slice a' (zs.length + len) cap') (zs ++ ys) → Below B aw w' → (∀ (g : Nat) (c : Array Value) (T : TypeId) (f : Nat × Nat), T ≠ E → w.heap[g]? = some (.cells c T f) → w'.heap[g]? = some (.cells c T f)) → (∀ g, g < base → w'.heap[g]? = w.heap[g]?) →
      wpList P ops Q rest (a.put o.dst (.slice a' (zs.length + len) cap')) w') : wpList P ops Q (o :: rest) a w := by
  obtain ⟨rfl, h2, h3, h4, h5⟩ := hsl
  refine wpList_app _ hw s x t ho base E k b hT v zs hs hown ad cap ys hx h5 h4 hlen hb0 hbase ?_
  intro v' w' h1 h2
  obtain ⟨a', cap', hv, -⟩ := h1.sl
  rw [List.length_append] at hv
  subst hv
  refine h a' cap' w' h1 (hown.grew h2 hbel hB (by omega)) (fun g c T f hT hg => held_grown hg h2 (own_ne hown hg hT)) (fun g hg => ?_)
  exact h2.block g (by omega) (fun e => by have := hown.block g e.symm; omega)

set_option maxHeartbeats 1000000 in
theorem wraw_good (B base B0 : Nat) (zs ys : List Int) (ad : Option Addr) (len cap : Nat) (w : World) (hW : Wr B base w zs) (hl : zs.length ≤ 1000000) (hsl : Sl .u8 w ad len cap ys) (hll : len ≤ 1000000) (h1 : B0 ≤ B) (h2 : B0 ≤ base) (h3 : base ≤ w.heap.size) :
    Calls Try.prog 23 #[.pointer (some ⟨B, 0, none⟩), .slice ad len cap] w fun e w' => e = .returned (.tuple #[]) ∧ Wr B base w' (zs ++ ys) ∧ Below B0 w w' := by
  obtain ⟨a, cp, hH, hO⟩ := hW
  have k := wfail_good B _ w hH
  have c1 := held_cell hH 1 _ rfl
  have hly := hsl.1
  replace hly := hid hly
  go_enter Try.func23, Try.ntmps23
  go_wp2_with fail
  refine k.mono ?_
  rintro e w2 ⟨rfl, rfl⟩
  replace hO := hid hO
  replace hsl := hid hsl
  replace hH := hid hH
  go_wp2_with (at_builtin; refine wpList_appS2 w2 w2 rfl (.tmp 12) (.tmp 13) 22 rfl B0 base 5 .u8 1 bytesOf (.slice a zs.length cp) zs rfl hO.out ad len cap ys rfl hsl.out (by simp; omega) (by decide) (Below.refl _ _) h2 h3 ?_)
  intro a9 cp9 w9 hO9 hB9 hk9 hF9
  have hH9 := hk9 _ _ _ _ _ (by decide) hH.out
  clear hk9 hF9
  have c9 := held_cell hH9 1 _ rfl
  have f9 := held_free hH9 1
  replace hO9 := hid hO9
  replace hB9 := hid hB9
  go_wp2_with fail
  go_end0
  refine ⟨rfl, ⟨a9, cp9, ?_, ?_⟩, hB9.out.setCell (p := ⟨B, 1, none⟩) h1 _⟩
  · rw [List.length_append, hly.out]; exact held_set hH9 1 _
  · rw [List.length_append, hly.out]; exact hO9.out.oth hH9 (by decide) 1 _

end Go.Proofs.Ytfcgeogooapmpaa
