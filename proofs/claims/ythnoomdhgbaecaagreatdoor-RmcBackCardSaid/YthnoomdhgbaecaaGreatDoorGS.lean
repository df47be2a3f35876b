/- Several texts in one: Gga3, Gga4. -/
import Derived.Test.YthnoomdhgbaecaaGreatDoorGga
import Derived.Deep.DeepCutAuto
import Derived.Test.YthnoomdhgbaecaaGreatDoorClock10
import Derived.Laws.Tables

/- Package gga: what is put. -/
namespace Go.Proofs.YthnoomdhgbaecaaGreatDoor

open Go.ChangeShapes Go.WideShapes Go.ChangeAt Go.RowKit

set_option linter.unusedVariables false

set_option linter.unusedSimpArgs false

theorem PenIn.below {w w2 : World} {base B : Nat} {e : Int} {L : List ByteArray} (h : PenIn w base B e L) (hA : After w w2) : PenIn w2 base B e L := h.aft hA
theorem RowW.below {w w2 : World} {base B : Nat} {e : Int} {L : List ByteArray} (h : RowW w base B e L) (hA : After w w2) : RowW w2 base B e L := h.aft hA
/-- The first error of what is written, and the fields. -/
def fE (l : List (List ByteArray × Int)) : Int := l.foldl (fun e x => kp e x.2) 0
def fL (l : List (List ByteArray × Int)) : List ByteArray := l.flatMap (·.1)
end Go.Proofs.YthnoomdhgbaecaaGreatDoor

/- Package gga: what is put, the papers'. -/
namespace Go.Proofs.YthnoomdhgbaecaaGreatDoor

open Go.ChangeShapes Go.WideShapes Go.ChangeAt Go.RowKit

set_option linter.unusedVariables false

set_option linter.unusedSimpArgs false

set_option maxRecDepth 100000 in
set_option maxHeartbeats 4000000 in
theorem rputclk_any (base B : Nat) (e : Int) (L : List ByteArray) (tb : Bool) (tho tmi tse tce : Int) (T : ByteArray) (k : Int) (hV : putV tb tho tmi tse tce = .tuple #[.string T, .int .i64 k]) (w : World) (hP : RowW w base B e L) (hl : L.length ≤ 1000) (hb : base ≤ B) : Calls Tryz.prog 37 #[.pointer (some ⟨B, 0, none⟩), .agg #[.bool tb, .int .i64 tho, .int .i64 tmi, .int .i64 tse, .int .i64 tce]] w fun r w' => r = .returned (.tuple #[]) ∧ RowW w' base B (kp e k) (L ++ [T]) ∧ PEff base B 0 w w' := by
  have kT := hid (fun U => hV ▸ rput_any tb tho tmi tse tce U)
  have kt := hid (fun U h => rtext_any base B e k L T U h hl hb)
  clear hV
  have hlt := hP.lt
  replace hP := hid hP
  go_enter Tryz.func37, Tryz.ntmps37
  go_upto_region 0 with (fail)
  apply wp_region_seg0 (w := w) (S := [.al 1000]) (E := [.al ((fun p => .pointer (some ⟨p, 0, none⟩)), _) 1000]) rfl (by kernel_rfl) rfl rfl
  intro th hge hne
  refine Seg.step _ rfl ⟨by rfl, fun U hU => ?_⟩ ?_
  · go_simp; exact vp_alloc rfl rfl rfl
  refine Seg.sa ?_
  refine Seg.stop (fun U1 hU hk => ?_)
  have nb0 := hge 0 _ _ rfl
  have rb0 := (hk 0 _ _ rfl trivial).1.2 (by simp)
  clear hk hge hne
  generalize th (0 + 0) = p0_0 at *
  dsimp only at rb0
  have r_p0_0 := rb0
  clear rb0
  have n_p0_0 := nb0
  clear nb0
  have sz1 := hU.size
  have hB : Below w.heap.size w U1 := hU
  clear hU
  have hef := hid (PEff.after (base := base) (p := B) (j := 0) (by omega) hlt hB)
  replace hP := hid (hP.out.aft hB)
  clear hB
  have r0 := hid r_p0_0
  have hb_r0 : p0_0 ≠ B := by omega
  clear r_p0_0
  have x0 := held_cell r0.out 0 _ rfl
  have x1 := held_cell r0.out 1 _ rfl
  have x2 := held_cell r0.out 2 _ rfl
  have x3 := held_cell r0.out 3 _ rfl
  have x4 := held_cell r0.out 4 _ rfl
  go_wp2_with fail
  refine (kT.out _).mono ?_
  rintro r V1 ⟨rfl, hA⟩
  replace hef := hid (hef.out.trans (PEff.after (by have := hP.out.lt; omega) hP.out.lt hA))
  replace hP := hid (hP.out.aft hA)
  replace r0 := hid (held_after hA r0.out)
  clear hA
  clear x0 x1 x2 x3 x4
  go_wp2_with fail
  refine (kt.out _ hP.out).mono ?_
  rintro r V2 ⟨rfl, hP2, hf2⟩
  replace r0 := hid (hP.out.besides hf2 r0.out hb_r0 (by decide))
  replace hP := hid hP2
  replace hef := hid (hef.out.trans hf2)
  clear hf2 hP2
  go_wp2_with fail
  go_end0
  exact ⟨rfl, hP.out, hef.out⟩
end Go.Proofs.YthnoomdhgbaecaaGreatDoor
