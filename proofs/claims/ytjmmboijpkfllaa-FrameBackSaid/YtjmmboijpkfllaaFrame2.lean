/- The papers' Put. -/
import Derived.Test.YtjmmboijpkfllaaFrame
import Derived.Test.YtjmmboijpkfllaaKA
import Derived.Test.YtjmmboijpkfllaaKB
import Derived.Deep.DeepCutAuto
namespace Go.Proofs.Ytjmmboijpkfllaa
open Go.ChangeShapes Go.WideShapes Go.ChangeAt Go.RowKit
set_option linter.unusedVariables false

set_option maxRecDepth 100000 in
set_option maxHeartbeats 4000000 in
theorem rfput_any (c i : Int) (a : Option Addr) (len cap : Nat) (zs : List Int) (w : World) (hl : len ≤ 1000000) (hsl : Sl .u8 w a len cap zs) (hz : ∀ n ∈ zs, (Lit.int .u8 n).wf = true) :
    Calls Try.prog 9 #[.agg #[.int .i64 c, .int .i64 i, .slice a len cap]] w (FrOk w (putFr c i zs)) := by
  have ez := hsl.1
  have nw := alloc_new w (.cells #[.int .i64 c, .int .i64 i, .slice a len cap] 24)
  have d0 := held_cell nw.2.2 0 _ rfl
  have d1 := held_cell nw.2.2 1 _ rfl
  have d2 := held_cell nw.2.2 2 _ rfl
  have hA := hid nw.2.1
  have hs1 := hid (hsl.below nw.2.1)
  clear nw hsl
  unfold putFr isB
  by_cases c1 : 0 ≤ c
  case neg =>
    rw [if_neg (by simp; intros; omega)]
    replace ez := hid ez
    go_enter Try.func9, Try.ntmps9
    go_wp2_with fail
    go_ret2
    exact ⟨none, 0, rfl, Own.nil _ _ _ _, hA.out⟩
  by_cases c2 : c ≤ 255
  case neg =>
    rw [if_neg (by simp; intros; omega)]
    replace ez := hid ez
    go_enter Try.func9, Try.ntmps9
    go_wp2_with fail
    go_ret2
    exact ⟨none, 0, rfl, Own.nil _ _ _ _, hA.out⟩
  by_cases c3 : 0 ≤ i
  case neg =>
    rw [if_neg (by simp; intros; omega)]
    replace ez := hid ez
    go_enter Try.func9, Try.ntmps9
    go_wp2_with fail
    go_ret2
    exact ⟨none, 0, rfl, Own.nil _ _ _ _, hA.out⟩
  by_cases c4 : i ≤ 255
  case neg =>
    rw [if_neg (by simp; intros; omega)]
    replace ez := hid ez
    go_enter Try.func9, Try.ntmps9
    go_wp2_with fail
    go_ret2
    exact ⟨none, 0, rfl, Own.nil _ _ _ _, hA.out⟩
  rw [if_pos (by simp; omega)]
  by_cases hbig : 1016 < zs.length
  case pos =>
    rw [if_pos hbig]
    have hb2 : (1016 : Int) < len := by omega
    clear hbig
    replace ez := hid ez
    go_enter Try.func9, Try.ntmps9
    go_wp2_with fail
    go_ret2
    exact ⟨none, 0, rfl, Own.nil _ _ _ _, hA.out⟩
  rw [if_neg hbig]
  have hb2 : ¬ (1016 : Int) < len := by omega
  have e1 : IntKind.u8.wrap c = c := by simp [IntKind.wrap, IntKind.bits, IntKind.signed]; omega
  have e2 : IntKind.u8.wrap i = i := by simp [IntKind.wrap, IntKind.bits, IntKind.signed]; omega
  have lz : (0 : Int) ≤ len := by omega
  have e3 : IntKind.u8.wrap ((len : Int) % 256) = (len : Int) % 256 := by simp [IntKind.wrap, IntKind.bits, IntKind.signed]
  have e4 : IntKind.u8.wrap ((len : Int) / 256) = (len : Int) / 256 := by simp [IntKind.wrap, IntKind.bits, IntKind.signed]; omega
  have eIn : [c, i, (len : Int) % 256, (len : Int) / 256] ++ zs = inFr c i zs := by unfold inFr; rw [ez]
  have hiw := inFr_wf ⟨c1, c2⟩ ⟨c3, c4⟩ hz (show zs.length ≤ 1016 by omega)
  have hil : (inFr c i zs).length = len + 4 := by rw [← eIn]; simp; omega
  replace ez := hid ez
  replace eIn := hid eIn
  replace hil := hid hil
  obtain ⟨V, hV⟩ : ∃ V, w.alloc (.cells #[.int .i64 c, .int .i64 i, .slice a len cap] 24) = V := ⟨_, rfl⟩
  rw [hV] at hA hs1 d0 d1 d2
  have sV := hA.out.size
  have nq := alloc_new V (.cells #[.int .u8 c, .int .u8 i, .int .u8 ((len : Int) % 256), .int .u8 ((len : Int) / 256)] 5)
  have bq := hid (bthen hA.out nq.2.1)
  have sq := bq.out.size
  have slq := hid (hs1.out.below nq.2.1)
  have ownq := hid (Row.own (show Row .u8 5 (V.alloc (.cells #[.int .u8 c, .int .u8 i, .int .u8 ((len : Int) % 256), .int .u8 ((len : Int) / 256)] 5)) V.heap.size [c, i, (len : Int) % 256, (len : Int) / 256] from nq.2.2) w.heap.size sV (by unfold maxLen; simp))
  have d2q := nq.2.1.cellB d2
  clear nq
  go_enter Try.func9, Try.ntmps9
  go_wp2_with (first | (at_builtin; refine wpList_appS _ w rfl (.tmp 41) (.tmp 43) 22 rfl w.heap.size w.heap.size 5 .u8 1 bytesOf (.slice (some ⟨V.heap.size, 0, none⟩) 4 4) [c, i, (len : Int) % 256, (len : Int) / 256] rfl ownq.out a len cap zs rfl slq.out (by simp; omega) (by decide) bq.out (Nat.le_refl _) sq ?_))
  intro a3 c3 w3 own3 bel3
  have own3b : Own .u8 5 w3 w.heap.size (.slice a3 (4 + len) c3) (inFr c i zs) := by rw [← eIn.out]; exact own3
  clear own3
  have own3 := own3b
  clear own3b
  have el : 4 + len = (inFr c i zs).length := by rw [hil.out]; omega
  rw [el] at own3 ⊢
  clear el
  replace own3 := hid own3
  have s3 := bel3.size
  replace bel3 := hid bel3
  obtain ⟨IN, hIN⟩ : ∃ IN, inFr c i zs = IN := ⟨_, rfl⟩
  rw [hIN] at own3 hil hiw ⊢
  replace hiw := hid hiw
  have il : IN.length ≤ 2000 := by have := hil.out; omega
  clear hV eIn d0 d1 d2 d2q
  replace hIN := hid hIN
  have nz := alloc_new w3 (.cells #[.int .u8 181, .int .u8 98] 5)
  have bz := hid (bthen bel3.out nz.2.1)
  have sz := bz.out.size
  have ownz := hid (Row.own (show Row .u8 5 (w3.alloc (.cells #[.int .u8 181, .int .u8 98] 5)) w3.heap.size [181, 98] from nz.2.2) w.heap.size s3 (by unfold maxLen; simp))
  have slz := hid (own3.out.slf.below nz.2.1)
  clear nz
  go_wp2_with fail
  refine (rseal_any a3 IN.length c3 IN _ (by omega) slz.out hiw.out).mono ?_
  rintro e w4 ⟨a4, c4, rfl, own4, bel4⟩
  have own5 := ownz.out.below bel4
  have bel5 := bthen bz.out bel4
  have s5 := bel5.size
  have sl4 := own4.slf
  have l4 : (sealS IN).length ≤ 3000 := by rw [sealS_len]; omega
  replace bel5 := hid bel5
  obtain ⟨SL, hSL⟩ : ∃ SL, sealS IN = SL := ⟨_, rfl⟩
  rw [hSL] at own4 sl4 l4 ⊢
  replace hSL := hid hSL
  replace own4 := hid own4
  go_wp2_with (first | (at_builtin; refine wpList_appS _ w rfl (.tmp 45) (.tmp 47) 22 rfl w.heap.size w.heap.size 5 .u8 1 bytesOf (.slice (some ⟨w3.heap.size, 0, none⟩) 2 2) [181, 98] rfl own5 a4 SL.length c4 SL rfl sl4 (by simp; omega) (by decide) bel5.out (Nat.le_refl _) s5 ?_))
  intro a6 c6 w6 own6 bel6
  have el : 2 + SL.length = (181 :: 98 :: SL).length := by simp; omega
  rw [el] at own6 ⊢
  skip
  replace own6 := hid own6
  replace bel6 := hid bel6
  clear el
  go_wp2_with fail
  go_ret2
  rw [show 181 :: 98 :: sealS (inFr c i zs) = 181 :: 98 :: SL by rw [hIN.out, hSL.out]]
  exact ⟨a6, c6, rfl, own6.out, bel6.out⟩

end Go.Proofs.Ytjmmboijpkfllaa
