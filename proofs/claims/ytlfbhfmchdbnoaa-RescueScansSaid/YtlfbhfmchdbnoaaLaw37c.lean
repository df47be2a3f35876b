/- Laws of package rescue: RescueScans. -/
import Derived.Test.YtlfbhfmchdbnoaaLaw37
import Derived.Test.YtlfbhfmchdbnoaaRes7
import Derived.Deep.DeepCutAuto
namespace Go.Proofs.Ytlfbhfmchdbnoaa
open Go.ChangeShapes Go.WideShapes Go.ChangeAt Go.RowKit
set_option linter.unusedVariables false
set_option linter.unusedSimpArgs false

set_option maxRecDepth 100000 in
set_option maxHeartbeats 8000000 in
theorem law_RescueScans (a0 : Option Addr) (len0 cap0 : Nat) (z0 : List Int) (W : World) (w0 : IsRow .u8 W a0 len0 cap0 z0) :
    Calls Try.prog 4 #[.slice a0 len0 cap0] W fun e w' => e = .returned (.bool true) ∧ Below W.heap.size W w' := by
  obtain ⟨hs1, hw1⟩ := w0.sl
  generalize z0.take len0 = bs at hs1 hw1
  clear w0
  replace hw1 := hid hw1
  by_cases cb : (2048 : Int) < len0
  case pos =>
    go_enter Try.func4, Try.ntmps4
    go_wp2_with fail
    refine (knows37_any _).mono ?_
    rintro e V ⟨rfl, hst⟩
    replace hst := hid hst
    go_wp2_with fail
    go_ret
    exact ⟨rfl, hst.out⟩
  have hzl := hs1.1
  have hsl := scanF_len bs (bs.length + 1) 0
  have hso := scanF_ok hw1.out (show bs.length ≤ 100000 by omega) (bs.length + 1) 0
  change 256 * (scanS bs).length + 0 ≤ _ at hsl
  change ∀ x ∈ scanS bs, OkS x at hso
  obtain ⟨l, hl⟩ : ∃ l, scanS bs = l := ⟨_, rfl⟩
  rw [hl] at hsl hso
  obtain ⟨m, hm⟩ : ∃ m, l.length = m := ⟨_, rfl⟩
  rw [hm] at hsl
  have hm8 : m ≤ 100 := by omega
  clear hsl hzl
  have hnb := hid (show ∀ x ∈ nosS l, 0 ≤ x ∧ x ≤ 4294967295 from fun x hx => by obtain ⟨y, hy, rfl⟩ := List.mem_map.1 hx; exact (hso y hy).2.1)
  replace hl := hid hl
  replace hm := hid hm
  replace hso := hid hso
  replace hs1 := hid hs1
  go_enter Try.func4, Try.ntmps4
  go_wp2_with fail
  refine (knows37_any _).mono ?_
  rintro e V0 ⟨rfl, hA⟩
  have hB := hid hA
  replace hs1 := hid (hs1.out.below hA)
  clear hA
  go_wp2_with fail
  refine (scan_any a0 len0 cap0 bs _ hs1.out hw1.out (by omega)).mono ?_
  rintro e V1 ⟨xs1, xa1, xc1, hst1, rfl, hO, hel1, hA⟩
  rw [hl.out] at hst1
  have hxm1 : xs1.length = m := by rw [strip_len hst1, hm.out]
  rw [hxm1] at hO ⊢
  have hE1 := hid (hO.els (by rw [vals_len, hxm1]) (vals_m _))
  replace hel1 := hid hel1
  replace hst1 := hid hst1
  replace hxm1 := hid hxm1
  clear hO
  replace hs1 := hid (hs1.out.below hA)
  replace hB := hid (bthen hB.out hA)
  clear hA
  go_wp2_with fail
  refine (found37_any xa1 xc1 m xs1 _ hxm1.out hE1.out (by omega)).mono ?_
  rintro e V2 ⟨fa, fc, rfl, hO, hA⟩
  have hEf := hid (hO.els (by rw [vals_len, hxm1.out]) (vals_m _))
  clear hO
  replace hs1 := hid (hs1.out.below hA)
  replace hE1 := hid (hE1.out.below hA)
  replace hel1 := hid (fun x hx => el38_aft (hel1.out x hx) hA)
  replace hB := hid (bthen hB.out hA)
  clear hA
  go_wp2_with fail
  refine (rscan_any a0 len0 cap0 bs _ hs1.out hw1.out (by omega)).mono ?_
  rintro e V3 ⟨xs2, xa2, xc2, hst2, rfl, hO, hel2, hA⟩
  rw [hl.out] at hst2
  have hxm2 : xs2.length = m := by rw [strip_len hst2, hm.out]
  rw [hxm2] at hO ⊢
  have hE2 := hid (hO.els (by rw [vals_len, hxm2]) (vals_m _))
  replace hel2 := hid hel2
  replace hst2 := hid hst2
  replace hxm2 := hid hxm2
  clear hO
  replace hs1 := hid (hs1.out.below hA)
  replace hE1 := hid (hE1.out.below hA)
  replace hEf := hid (hEf.out.below hA)
  replace hel1 := hid (fun x hx => el38_aft (hel1.out x hx) hA)
  replace hB := hid (bthen hB.out hA)
  clear hA
  go_wp2_with fail
  refine (same37_any fa xa2 fc xc2 m xs1 xs2 _ hxm1.out (hst1.out.trans hst2.out.symm) hEf.out hE2.out hel1.out hel2.out (by omega) (by rw [hst1.out]; exact hso.out)).mono ?_
  rintro e V4 ⟨rfl, hA⟩
  replace hs1 := hid (hs1.out.below hA)
  replace hE1 := hid (hE1.out.below hA)
  replace hEf := hid (hEf.out.below hA)
  replace hE2 := hid (hE2.out.below hA)
  replace hel1 := hid (fun x hx => el38_aft (hel1.out x hx) hA)
  replace hel2 := hid (fun x hx => el38_aft (hel2.out x hx) hA)
  replace hB := hid (bthen hB.out hA)
  clear hA
  go_wp2_with fail
  refine (gaps_any xa1 xc1 m xs1 _ hxm1.out hE1.out (by omega) (by rw [hst1.out]; exact hnb.out)).mono ?_
  rintro e V5 ⟨rfl, hA⟩
  rw [hst1.out]
  replace hs1 := hid (hs1.out.below hA)
  replace hE1 := hid (hE1.out.below hA)
  replace hEf := hid (hEf.out.below hA)
  replace hE2 := hid (hE2.out.below hA)
  replace hel1 := hid (fun x hx => el38_aft (hel1.out x hx) hA)
  replace hel2 := hid (fun x hx => el38_aft (hel2.out x hx) hA)
  replace hB := hid (bthen hB.out hA)
  clear hA
  obtain ⟨g, hg⟩ : ∃ g, gapS (nosS l) = g := ⟨_, rfl⟩
  rw [hg]
  replace hg := hid hg
  go_wp2_with fail
  refine (rscan_any a0 len0 cap0 bs _ hs1.out hw1.out (by omega)).mono ?_
  rintro e V6 ⟨xs3, xa3, xc3, hst3, rfl, hO, hel3, hA⟩
  rw [hl.out] at hst3
  have hxm3 : xs3.length = m := by rw [strip_len hst3, hm.out]
  rw [hxm3] at hO ⊢
  have hE3 := hid (hO.els (by rw [vals_len, hxm3]) (vals_m _))
  replace hel3 := hid hel3
  replace hst3 := hid hst3
  replace hxm3 := hid hxm3
  clear hO
  replace hs1 := hid (hs1.out.below hA)
  replace hE1 := hid (hE1.out.below hA)
  replace hEf := hid (hEf.out.below hA)
  replace hE2 := hid (hE2.out.below hA)
  replace hel1 := hid (fun x hx => el38_aft (hel1.out x hx) hA)
  replace hel2 := hid (fun x hx => el38_aft (hel2.out x hx) hA)
  replace hB := hid (bthen hB.out hA)
  clear hA
  go_wp2_with fail
  refine (rgaps_any xa3 xc3 m xs3 _ hxm3.out hE3.out (by omega) (by rw [hst3.out]; exact hnb.out)).mono ?_
  rintro e V7 ⟨rfl, hA⟩
  rw [hst3.out, hg.out]
  replace hs1 := hid (hs1.out.below hA)
  replace hE1 := hid (hE1.out.below hA)
  replace hEf := hid (hEf.out.below hA)
  replace hE2 := hid (hE2.out.below hA)
  replace hE3 := hid (hE3.out.below hA)
  replace hel1 := hid (fun x hx => el38_aft (hel1.out x hx) hA)
  replace hel2 := hid (fun x hx => el38_aft (hel2.out x hx) hA)
  replace hel3 := hid (fun x hx => el38_aft (hel3.out x hx) hA)
  replace hB := hid (bthen hB.out hA)
  clear hA
  go_wp2_with fail
  go_ret
  exact ⟨rfl, hB.out⟩


end Go.Proofs.Ytlfbhfmchdbnoaa
