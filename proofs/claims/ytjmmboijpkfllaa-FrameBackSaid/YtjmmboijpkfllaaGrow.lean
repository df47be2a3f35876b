/- slices.Grow of nil, slices.Concat of two slices of bytes. -/
import Derived.Test.YtjmmboijpkfllaaKA
import Derived.Test.YtjmmboijpkfllaaKB
import Derived.Deep.DeepCutAuto
namespace Go.Proofs.Ytjmmboijpkfllaa
open Go.ChangeShapes Go.WideShapes Go.ChangeAt Go.RowKit
set_option linter.unusedVariables false

theorem u8info : ∃ i : TypeInfo, Try.prog.info? 5 = some i ∧ i.zero = some (.int .u8 0) ∧ i.size = 1 ∧ i.bytes = 1 := by
  have h : (Try.prog.info? 5).map (fun i => (i.zero, i.size, i.bytes)) = some (some (.int .u8 0), 1, 1) := by kernel_rfl
  cases hi : Try.prog.info? 5 with
  | none => rw [hi] at h; cases h
  | some i =>
    rw [hi] at h
    simp at h
    exact ⟨i, rfl, h.1, h.2.1, h.2.2⟩
/-- Behind append(nil, make([]byte, n)..): a new block of zeros. -/
theorem run_zeros (n : Nat) (h0 : 0 < n) (hn : n ≤ 2000000) (ty : TypeId) (w : World) : (Builtin.append_ #[22, 3] ty #[.slice none 0 0, .int .i64 (n : Int)]).run Try.prog w =
    .ok (.slice (some ⟨w.heap.size, 0, none⟩) n (grownCap w n 0 5)) (w.drew.alloc (.cells (Builtin.zeroCells #[.int .u8 0] n ++ Builtin.zeroCells #[.int .u8 0] (grownCap w n 0 5 - n)) 5)) := by
  obtain ⟨i, hi, hz, hs, hb⟩ := u8info
  have ht := Try.underlying22
  have hu := Try.underlying3
  have h48' : ¬ (281474976710656 < n) := by omega
  have e1 : IntKind.i64.wrap (n : Int) = n := by simp [IntKind.wrap, IntKind.bits, IntKind.signed]; omega
  have e2 : ¬ ((n : Int) < 0) := by omega
  have e3 : ¬ (281474976710656 < (n : Int)) := by omega
  have e4 : ¬ (9223372036854775807 < (n : Int)) := by omega
  have e5 : n ≠ 0 := by omega
  simp [Builtin.append_, run_underlying ht, run_underlying hu, sizeOf, typeInfo, zeroValue, hi, hz, asInt, asIntOf, nextslicecap_zero h0, h48', e1, e2, e3, e4, e5, hs, hb, Question.forced, run_firstCells_none, newRow, grownCap]
  rfl
theorem own_zeros (n c : Nat) (h : n ≤ c) (hc : c ≤ maxLen) (w : World) (base : Nat) (hb : base ≤ w.heap.size) : Own .u8 5 (w.alloc (.cells (Builtin.zeroCells #[.int .u8 0] n ++ Builtin.zeroCells #[.int .u8 0] (c - n)) 5)) base (.slice (some ⟨w.heap.size, 0, none⟩) 0 c) [] := by
  refine ⟨rfl, .inr ⟨w.heap.size, c, _, rfl, hb, heap_alloc_new w _, Nat.zero_le _, hc, ?_, by simp⟩⟩
  simp [size_zeroCells]; omega
theorem wpList_zeros {w : World} {ops : Array Oper} {rest : List Oper} {o : Oper} {a : Act} {Q : Exit → Act → World → Prop} (hw : Region.wanted o (yielded ops a.tmps) = true) (s x : Operand)
    (ho : o.op = .call { callee := .builtin .append, args := #[s, x], argTypes := #[22, 3] }) (n : Nat) (h0 : 0 < n) (hn : n ≤ 2000000) (hs : a.eval s = .slice none 0 0) (hx : a.eval x = .int .i64 (n : Int))
    (h : wpList Try.prog ops Q rest (a.put o.dst (.slice (some ⟨w.heap.size, 0, none⟩) n (grownCap w n 0 5))) (w.drew.alloc (.cells (Builtin.zeroCells #[.int .u8 0] n ++ Builtin.zeroCells #[.int .u8 0] (grownCap w n 0 5 - n)) 5))) : wpList Try.prog ops Q (o :: rest) a w := by
  refine BigFrame.wpList_want hw fun K hK => ?_
  unfold Oper.wp execOp
  simp only [ho, resolve, invoke, builtin, Sem.run_bind, Sem.run_pure, Result.andThen_ok, List.map_toArray, List.map_cons, List.map_nil, hs, hx, run_zeros n h0 hn]
  exact hK _ _ h
theorem grow_any (n : Nat) (hn : n ≤ 2000000) (w : World) : Calls Try.prog 30 #[.slice none 0 0, .int .i64 n] w fun e w' => ∃ a cap, e = .returned (.slice a 0 cap) ∧ Own .u8 5 w' w.heap.size (.slice a 0 cap) [] ∧ After w w' := by
  by_cases h0 : 0 < n
  · have hg := grownCap_ge w n 0 5
    have hg2 := grownCap_le_maxLen w n 0 5 (by unfold maxLen; omega)
    have ho := hid (own_zeros n _ hg hg2 w.drew w.heap.size (Nat.le_refl _))
    have q0 : (0 : Int) ≤ (grownCap w n 0 5 : Nat) := by omega
    clear hg hg2
    go_enter Try.func30, Try.ntmps30
    go_wp2_with (at_builtin; refine wpList_zeros rfl (.tmp 20) (.tmp 21) rfl n h0 hn rfl rfl ?_)
    generalize grownCap w n 0 5 = c at *
    go_wp2_with fail
    go_ret
    exact ⟨_, _, rfl, ho.out, (Below.refl _ _).drew.alloc (Nat.le_refl _) _⟩
  · obtain rfl : n = 0 := by omega
    go_enter Try.func30, Try.ntmps30
    go_wp2_with fail
    go_ret
    exact ⟨none, 0, rfl, Own.nil _ _ _ _, After.refl _⟩
set_option maxRecDepth 100000 in
set_option maxHeartbeats 2000000 in
theorem concat_two (g : Nat) (a1 a2 : Option Addr) (n1 c1 n2 c2 : Nat) (z1 z2 : List Int) (w : World) (hg : w.heap[g]? = some (.cells #[.slice a1 n1 c1, .slice a2 n2 c2] 22 (0, 0))) (h1 : Sl .u8 w a1 n1 c1 z1) (h2 : Sl .u8 w a2 n2 c2 z2) (l1 : n1 ≤ 1000000) (l2 : n2 ≤ 1000000) :
    Calls Try.prog 20 #[.slice (some ⟨g, 0, none⟩) 2 2] w (BytesOk w (z1 ++ z2)) := by
  have q0 := held_cell hg 0 _ rfl
  have q1 := held_cell hg 1 _ rfl
  have gl := held_lt hg
  have hl1 := hid h1.1
  have hl2 := hid h2.1
  clear hg
  go_enter Try.func20, Try.ntmps20
  go_wp2_with fail
  go_loopw [11, 3] (fun i s wr => wr = w ∧ (i = .int .i64 0 ∧ s = .int .i64 0 ∨ i = .int .i64 1 ∧ s = .int .i64 (n1 : Nat) ∨ i = .int .i64 2 ∧ s = .int .i64 ((n1 + n2 : Nat) : Int))) (fun i _ _ => 2 - (intOf i).toNat)
  case atStart => exact ⟨rfl, .inl ⟨rfl, rfl⟩⟩
  case round =>
    obtain ⟨hwr, hrel⟩ := hrel
    replace hwr := hwr.symm
    subst hwr
    obtain ⟨rfl, rfl⟩ | ⟨rfl, rfl⟩ | ⟨rfl, rfl⟩ := hrel
    · go_wp2_with fail
      go_roundw
      case rel => exact ⟨trivial, .inr (.inl ⟨rfl, rfl⟩)⟩
      case measure => simp [intOf]
    · have e1 : IntKind.i64.wrap ((n1 : Int) + n2) = n1 + n2 := by simp [IntKind.wrap, IntKind.bits, IntKind.signed]; omega
      go_wp2_with fail
      go_roundw
      case rel => exact ⟨trivial, .inr (.inr ⟨rfl, by rw [Int.natCast_add]⟩)⟩
      case measure => simp [intOf]
    · go_wp2_with fail
      refine (grow_any (n1 + n2) (by omega) _).mono ?_
      rintro e w2 ⟨a3, c3, rfl, hO, hA⟩
      replace q0 := hA.cellB q0
      replace h1 := h1.below hA
      have q1h := hid q1
      clear q1
      have hO2 := hid hO
      have hA2 := hid hA
      clear hO hA
      go_wp2_with fail
      go_loopw [27, 6] (fun i v wx => i = .int .i64 0 ∧ v = .slice a3 0 c3 ∧ wx = w2 ∨ (∃ a c, i = .int .i64 1 ∧ v = .slice a n1 c ∧ Own .u8 5 wx w.heap.size (.slice a n1 c) z1 ∧ After w wx) ∨ (∃ a c, i = .int .i64 2 ∧ v = .slice a (n1 + n2) c ∧ Own .u8 5 wx w.heap.size (.slice a (n1 + n2) c) (z1 ++ z2) ∧ After w wx)) (fun i _ _ => 2 - (intOf i).toNat)
      case atStart => exact .inl ⟨rfl, rfl, rfl⟩
      case round =>
        rcases hrel with ⟨rfl, rfl, hwr⟩ | ⟨a4, c4, rfl, rfl, hO4, hA4⟩ | ⟨a4, c4, rfl, rfl, hO4, hA4⟩
        · replace hwr := hwr.symm
          subst hwr
          have sz := hA2.out.size
          have hB := hA2.out
          go_wp2_with (at_builtin; refine wpList_appS w2 w rfl (.tmp 31) (.tmp 32) 22 rfl w.heap.size w.heap.size 5 .u8 1 bytesOf (.slice a3 0 c3) [] rfl hO2.out a1 n1 c1 z1 rfl h1 (by simp; omega) (by decide) hB (Nat.le_refl _) sz ?_)
          intro a5 c5 w5 hO5 hA5
          replace hO5 := hid hO5
          replace hA5 := hid hA5
          go_wp2_with fail
          go_roundw
          case rel => exact .inr (.inl ⟨_, _, rfl, rfl, hO5.out, hA5.out⟩)
          case measure => simp [intOf]
        · have hh := h2.below hA4
          have qq := hA4.cellB q1h.out
          have sz := hA4.size
          have hl3 := hl1.out
          go_wp2_with (at_builtin; refine wpList_appS _ w rfl (.tmp 31) (.tmp 32) 22 rfl w.heap.size w.heap.size 5 .u8 1 bytesOf (.slice a4 n1 c4) z1 rfl hO4 a2 n2 c2 z2 rfl hh (by simp; omega) (by decide) hA4 (Nat.le_refl _) sz ?_)
          intro a5 c5 w5 hO5 hA5
          clear hl3
          replace hO5 := hid hO5
          replace hA5 := hid hA5
          go_wp2_with fail
          go_roundw
          case rel => exact .inr (.inr ⟨_, _, rfl, rfl, hO5.out, hA5.out⟩)
          case measure => simp [intOf]
        · have hl3 : (z1 ++ z2).length = n1 + n2 := by rw [List.length_append, hl1.out, hl2.out]
          replace hl3 := hid hl3
          replace hO4 := hid hO4
          go_wp2_with fail
          go_ret
          refine ⟨a4, c4, by rw [hl3.out]; rfl, by rw [hl3.out]; exact hO4.out, hA4⟩

end Go.Proofs.Ytjmmboijpkfllaa
