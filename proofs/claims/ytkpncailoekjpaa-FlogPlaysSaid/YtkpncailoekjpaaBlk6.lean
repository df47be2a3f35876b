/- Package block: sealed. -/
import Derived.Test.YtkpncailoekjpaaBlk5
import Derived.Deep.DeepCutAuto
namespace Go.Proofs.Ytkpncailoekjpaa
open Go.ChangeShapes Go.WideShapes Go.ChangeAt Go.RowKit
set_option linter.unusedVariables false
set_option linter.unusedSimpArgs false

set_option maxRecDepth 100000 in
theorem cut254 (g m : Nat) (zs : List Int) (hm : zs.length = m) (h : m ≤ 254) : ∃ o r : Nat, (∀ W : World, (Instr.sliceAt 105 (.pointer (some ⟨g, 0, none⟩)) (some (.int .i64 (m : Int))) none none).run Try.prog W = .ok (.slice (some ⟨g, o, none⟩) r r) W) ∧ (∀ j, o ≤ j → j < o + r → (fill zs)[j]? = some 0) ∧ o + r ≤ 254 := by
  have hf := fill_0 (zs := zs) (by omega)
  rw [hm] at hf
  have hal : Try.prog.arrayLen 105 = 254 := by rfl
  have e : ∀ W : World, (Instr.sliceAt 105 (.pointer (some ⟨g, 0, none⟩)) (some (.int .i64 (m : Int))) none none).run Try.prog W = .ok (.slice (some (if 254 = m then ⟨g, 0, none⟩ else ⟨g, m, none⟩)) (254 - m) (254 - m)) W := by
    intro W
    rw [run_sliceAt_array_l W 105 ⟨g, 0, none⟩ (by rfl) .i64 (m : Int) (by omega) (by rw [hal]; omega)]
    rw [hal]
    go_simp <;> simp [slicedAt, Addr.add]
  by_cases c : 254 = m
  · refine ⟨0, 0, ?_, fun j h1 h2 => by omega, by omega⟩
    intro W
    rw [e W, if_pos c, ← c]
  · refine ⟨m, 254 - m, ?_, hf, by omega⟩
    intro W
    rw [e W, if_neg c]
set_option maxRecDepth 100000 in
set_option maxHeartbeats 8000000 in
theorem sealed_any (a : Option Addr) (m cap : Nat) (zs : List Int) (w : World) (hm : zs.length = m) (hl : m ≤ 254) (hsl : Sl .u8 w a m cap zs) (hz : ∀ n ∈ zs, (Lit.int .u8 n).wf = true) : Calls Try.prog 45 #[.slice a m cap] w (BytesOk w (crcSeal (fill zs))) := by
  replace hsl := hid hsl
  replace hz := hid hz
  go_enter Try.func45, Try.ntmps45
  go_upto_region 1 with (fail)
  apply wp_region_seg0 (w := w) (S := [.al 1000]) (E := [.al ((fun p => .pointer (some ⟨p, 0, none⟩)), _) 1000]) rfl (by kernel_rfl) rfl rfl
  intro th hge hne
  refine Seg.step _ rfl ⟨by rfl, fun U hU => ?_⟩ ?_
  · go_simp; exact vp_alloc rfl rfl rfl
  refine ⟨_, by (simp only [Ent.val]; go_simp <;> exact rfl), ?_⟩
  refine Seg.stop (fun U1 hU hk => ?_)
  have nb0 := hge 0 _ _ rfl
  have rb0 := (hk 0 _ _ rfl trivial).1.2 (by simp)
  clear hk hge hne
  generalize th (0 + 0) = p1_0 at *
  dsimp only at rb0
  have r_p1_0 := rb0
  clear rb0
  have n_p1_0 := nb0
  clear nb0
  have sz1 := hU.size
  have hB : Below w.heap.size w U1 := hU
  clear hU
  have np := n_p1_0
  have hrow : Row .u8 105 U1 p1_0 (List.replicate 254 0) := by
    have e := r_p1_0
    unfold Row
    rw [e]
    rfl
  obtain ⟨Z, hZ⟩ : ∃ Z, Z = List.replicate 254 (0 : Int) := ⟨_, rfl⟩
  rw [← hZ] at hrow
  have hZl : Z.length = 254 := by rw [hZ, List.length_replicate]
  have hZf : laid Z 0 (zs.take 254) = fill zs := by rw [hZ]; exact fill_laid (by omega)
  clear hZ
  replace hZf := hid hZf
  clear r_p1_0
  have sB := hB.size
  replace hB := hid hB
  have sl1 := hid (hsl.out.below hB.out)
  replace hrow := hid hrow
  have hml : (zs.take 254).length = m := by rw [List.take_of_length_le (by omega), hm]
  replace hml := hid hml
  obtain ⟨o, r, hcut, ho, hor⟩ := cut254 p1_0 m zs hm hl
  replace ho := hid ho
  have hfl := hid (fill_len (zs := zs) (by omega))
  have hfw := hid (fill_wf hz.out)
  replace hZl := hid hZl
  go_wp2_with (first | (refine wpList_copyT U1 rfl (.tmp 5) (.tmp 6) 29 rfl 105 5 .u8 1 bytesOf p1_0 0 254 254 Z hrow.out rfl (by rw [hZl.out]; decide) a m cap zs rfl sl1.out ?_))
  intro w2 h1 h2
  rw [hZf.out] at h1
  try rw [hml.out]
  have hB2 := hid (bonly hB.out h2 np)
  replace h1 := hid h1
  replace hm := hid hm
  clear h2 hrow sl1 hB hZf hZl hml hsl hz
  go_wp2_with (first | (refine wpList_clear0 w2 rfl (.tmp 9) 29 rfl 105 5 .u8 rfl (by intro w; go_simp <;> rfl) p1_0 o r r (fill zs) h1.out rfl ho.out ?_))
  intro w3 h3 h4
  have hB3 := hid (bonly hB2.out h4 np)
  have sl3 := h3.sl (by rw [hfl.out]; decide)
  rw [hfl.out] at sl3
  replace sl3 := hid sl3
  clear h4 h1 h3 hB2 ho hcut
  generalize fill zs = L at *
  have sB3 := hB3.out.size
  go_wp2_with fail
  refine (seal_any _ 254 254 L _ (by omega) sl3.out hfw.out).mono ?_
  rintro e V ⟨qa, qc, rfl, hO, hA⟩
  have hO9 := hid (hO.base sB3)
  have hA9 := hid (bthen hB3.out hA)
  clear hO hA
  go_wp2_with fail
  go_ret
  exact ⟨qa, qc, rfl, hO9.out, hA9.out⟩

end Go.Proofs.Ytkpncailoekjpaa
