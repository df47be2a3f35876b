/- Rows of fields: numbers, angles written. -/
import Derived.Test.YtobgibmpodggkaaDoorRow
import Derived.Test.YtobgibmpodggkaaDoorDec3
import Derived.Test.YtobgibmpodggkaaDoorDec9
import Derived.Deep.DeepCutAuto
namespace Go.Proofs.YtobgibmpodggkaaDoor
open Go.ChangeShapes Go.WideShapes Go.ChangeAt Go.RowKit
set_option linter.unusedVariables false
set_option linter.unusedSimpArgs false

set_option maxRecDepth 100000 in
set_option maxHeartbeats 4000000 in
theorem pnum_any (base B : Nat) (e : Int) (L : List ByteArray) (is : Bool) (m W M F lo hi : Int) (w : World) (hP : PenIn w base B e L) (hl : L.length ≤ 1000) (hb : base ≤ B) (hm : (-9223372036854775808 ≤ m ∧ m ≤ 9223372036854775807)) (hlb : (-9223372036854775808 ≤ lo ∧ lo ≤ 9223372036854775807) ∧ (-9223372036854775808 ≤ hi ∧ hi ≤ 9223372036854775807)) (hT : Tab w) : Calls Tryd.prog 24 #[.pointer (some ⟨B, 0, none⟩), .agg #[.bool is, .int .i64 m], .agg #[.int .i64 W, .int .i64 M, .int .i64 F, .int .i64 lo, .int .i64 hi]] w fun r w' => r = .returned (.tuple #[]) ∧ PenIn w' base B (kp e (putD is m W M F lo hi).2) (L ++ [nb (putD is m W M F lo hi).1]) ∧ PEff base B 2 w w' := by
  obtain ⟨⟨PL, x⟩, hpd⟩ : ∃ r, putD is m W M F lo hi = r := ⟨_, rfl⟩
  have kP := hid (fun U (h : Tab U) => hpd ▸ put23_any is m W M F lo hi U hm hlb h)
  rw [hpd]
  dsimp only at kP ⊢
  generalize nb PL = TX at *
  clear hpd hm hlb
  have hlt := hP.lt
  have kt := hid (fun U (h : PenIn U base B e L) => ptext_any base B e x L TX U h hl hb)
  replace hP := hid hP
  replace hT := hid hT
  have hbw : base ≤ w.heap.size := by omega
  go_enter Tryd.func24, Tryd.ntmps24
  go_upto_region 0 with (fail)
  apply wp_region_seg0 (w := w) (S := [.al 1000, .al 1000]) (E := [.al ((fun p => .pointer (some ⟨p, 0, none⟩)), _) 1000, .al ((fun p => .pointer (some ⟨p, 0, none⟩)), _) 1000]) rfl (by kernel_rfl) rfl rfl
  intro th hge hne
  refine Seg.step _ rfl ⟨by rfl, fun U hU => ?_⟩ ?_
  · go_simp; exact vp_alloc rfl rfl rfl
  refine Seg.sa ?_
  refine Seg.step _ rfl ⟨by rfl, fun U hU => ?_⟩ ?_
  · go_simp; exact vp_alloc rfl rfl rfl
  refine Seg.sa ?_
  refine Seg.stop (fun U1 hU hk => ?_)
  have nb0 := hge 0 _ _ rfl
  have rb0 := (hk 0 _ _ rfl trivial).1.2 (by simp)
  have nb1 := hge 1 _ _ rfl
  have rb1 := (hk 1 _ _ rfl trivial).1.2 (by simp)
  have ne0_1 := hne 0 1 _ _ _ _ rfl rfl (by omega)
  clear hk hge hne
  generalize th (0 + 0) = p0_0 at *
  dsimp only at rb0
  generalize th (0 + 1) = p0_1 at *
  dsimp only at rb1
  have r_p0_0 := rb0
  clear rb0
  have n_p0_0 := nb0
  clear nb0
  have d_p0_0_p0_1 := ne0_1
  clear ne0_1
  have r_p0_1 := rb1
  clear rb1
  have n_p0_1 := nb1
  clear nb1
  have sz1 := hU.size
  have hB : Below w.heap.size w U1 := hU
  clear hU
  replace hP := hid (hP.out.aft hB)
  replace hT := hid (hT.out.on hB)
  have x0 := held_cell r_p0_0 0 _ rfl
  have x1 := held_cell r_p0_0 1 _ rfl
  have y0 := held_cell r_p0_1 0 _ rfl
  have y1 := held_cell r_p0_1 1 _ rfl
  have y2 := held_cell r_p0_1 2 _ rfl
  have y3 := held_cell r_p0_1 3 _ rfl
  have y4 := held_cell r_p0_1 4 _ rfl
  clear r_p0_0 r_p0_1 n_p0_0 n_p0_1 d_p0_0_p0_1
  replace hB := hid hB
  go_wp2_with fail
  refine (kP.out _ hT.out).mono ?_
  rintro r V ⟨rfl, hA⟩
  replace hP := hid (hP.out.aft hA)
  replace hB := hid (bthen hB.out hA)
  clear hA hT x0 x1 y0 y1 y2 y3 y4
  go_wp2_with fail
  refine (kt.out _ hP.out).mono ?_
  rintro r V2 ⟨rfl, hQ, hE⟩
  replace hQ := hid hQ
  have hE2 := hid ((PEff.after (j := 2) hbw hlt hB.out).trans hE)
  clear hE
  go_wp2_with fail
  go_end0
  exact ⟨rfl, hQ.out, hE2.out⟩
end Go.Proofs.YtobgibmpodggkaaDoor
