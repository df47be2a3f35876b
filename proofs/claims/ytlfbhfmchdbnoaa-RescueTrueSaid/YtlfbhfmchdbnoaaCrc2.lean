/- Package crc and its reference: sums of lists, seals. -/
import Derived.Test.YtlfbhfmchdbnoaaCrc
namespace Go.Proofs.Ytlfbhfmchdbnoaa
open Go.ChangeShapes Go.WideShapes Go.ChangeAt Go.RowKit
set_option linter.unusedVariables false

theorem crc_step (zs : List Int) (k : Nat) (h : k < zs.length) (c : Nat) : crcF c (zs.drop k) = crcF (stepN c (zs.getD k 0).toNat) (zs.drop (k + 1)) := by
  rw [List.drop_eq_getElem_cons h, show zs.getD k 0 = zs[k] from by simp [h]]; rfl

set_option maxHeartbeats 1000000 in
theorem more_any (c : Nat) (a : Option Addr) (len cap : Nat) (zs : List Int) (w : World) (hc0 : c < 65536) (hl : len ≤ 1000000) (hsl : Sl .u8 w a len cap zs) (hz : ∀ n ∈ zs, (Lit.int .u8 n).wf = true) :
    Calls Try.prog 61 #[.int .u16 c, .slice a len cap] w fun e w' => e = .returned (.int .u16 (crcF c zs)) ∧ After w w' := by
  obtain ⟨rfl, -, -, -, hr⟩ := hsl
  replace hr := hid hr
  replace hz := hid hz
  go_enter Try.func61, Try.ntmps61
  go_wp2_with fail
  go_loopw [0, 9] (fun v i wr => ∃ (k y : Nat), k ≤ zs.length ∧ Below w.heap.size w wr ∧ i = .int .i64 k ∧ v = .int .u16 y ∧ y < 65536 ∧ Hid (crcF y (zs.drop k) = crcF c zs)) (fun _ i _ => zs.length - (intOf i).toNat)
  case atStart => exact ⟨0, c, by omega, Below.refl _ _, rfl, rfl, hc0, rfl⟩
  case round =>
    obtain ⟨k, y, hk, hbr, rfl, rfl, hy, hs⟩ := hrel
    by_cases hlt : (k : Int) < zs.length
    · have hlt2 : k < zs.length := by omega
      obtain ⟨b, off, rfl, hc⟩ := hr.out.below hbr k hlt2
      have hst := crc_step zs k hlt2 y
      have hzb := bounds_u8 (hz.out (zs.getD k 0) (by simp [hlt2]))
      obtain ⟨x, hx⟩ := Int.eq_ofNat_of_zero_le hzb.1
      rw [hx] at hst hc hzb
      rw [Int.toNat_natCast] at hst
      have hy2 := stepN_lt y x hy (by omega)
      have hH := hid (hst ▸ hs.out)
      clear hst hs hx
      go_wp2_with fail
      refine (step_any y x _ hy (by omega)).mono ?_
      rintro e w2 ⟨rfl, hb2⟩
      replace hb2 := bthen hbr hb2
      generalize stepN y x = y2 at *
      go_wp2_with fail
      go_roundw
      case rel => exact ⟨k + 1, y2, by omega, hb2, by simp, rfl, hy2, hH.out⟩
      case measure => simp [intOf]; omega
    · go_wp2_with fail
      go_ret
      obtain rfl : k = zs.length := by omega
      exact ⟨ret_int (by rw [← hs.out, List.drop_length]; rfl), hbr⟩

set_option maxHeartbeats 1000000 in
theorem rmore_any (c : Nat) (a : Option Addr) (len cap : Nat) (zs : List Int) (w : World) (hc0 : c < 65536) (hl : len ≤ 1000000) (hsl : Sl .u8 w a len cap zs) (hz : ∀ n ∈ zs, (Lit.int .u8 n).wf = true) :
    Calls Try.prog 60 #[.int .u16 c, .slice a len cap] w fun e w' => e = .returned (.int .u16 (crcF c zs)) ∧ w' = w := by
  obtain ⟨rfl, -, -, -, hr⟩ := hsl
  replace hr := hid hr
  replace hz := hid hz
  go_enter Try.func60, Try.ntmps60
  go_wp2_with fail
  go_loopw [0, 5] (fun v i wr => ∃ (k y : Nat), k ≤ zs.length ∧ wr = w ∧ i = .int .i64 k ∧ v = .int .u16 y ∧ y < 65536 ∧ Hid (crcF y (zs.drop k) = crcF c zs)) (fun _ i _ => zs.length - (intOf i).toNat)
  case atStart => exact ⟨0, c, by omega, rfl, rfl, rfl, hc0, rfl⟩
  case round =>
    obtain ⟨k, y, hk, rfl, rfl, rfl, hy, hs⟩ := hrel
    by_cases hlt : (k : Int) < zs.length
    · have hlt2 : k < zs.length := by omega
      obtain ⟨b, off, rfl, hc⟩ := hr.out k hlt2
      have hst := crc_step zs k hlt2 y
      have hzb := bounds_u8 (hz.out (zs.getD k 0) (by simp [hlt2]))
      obtain ⟨x, hx⟩ := Int.eq_ofNat_of_zero_le hzb.1
      rw [hx] at hst hc hzb
      rw [Int.toNat_natCast] at hst
      have hy2 := stepN_lt y x hy (by omega)
      have hH := hid (hst ▸ hs.out)
      clear hst hs hx
      go_wp2_with fail
      refine (rstep_any y x _ hy (by omega)).mono ?_
      rintro e w2 ⟨rfl, rfl⟩
      generalize stepN y x = y2 at *
      go_wp2_with fail
      go_roundw
      case rel => exact ⟨k + 1, y2, by omega, trivial, by simp, rfl, hy2, hH.out⟩
      case measure => simp [intOf]; omega
    · go_wp2_with fail
      go_ret
      obtain rfl : k = zs.length := by omega
      exact ⟨ret_int (by rw [← hs.out, List.drop_length]; rfl), rfl⟩

theorem rof_any (a : Option Addr) (len cap : Nat) (zs : List Int) (w : World) (hl : len ≤ 1000000) (hsl : Sl .u8 w a len cap zs) (hz : ∀ n ∈ zs, (Lit.int .u8 n).wf = true) :
    Calls Try.prog 51 #[.slice a len cap] w fun e w' => e = .returned (.int .u16 (crcF 65535 zs)) ∧ w' = w := by
  go_enter Try.func51, Try.ntmps51
  go_wp2_with fail
  refine (rmore_any 65535 a len cap zs _ (by omega) hl hsl hz).mono ?_
  rintro e w1 ⟨rfl, rfl⟩
  go_wp2_with fail
  go_ret
  exact ⟨rfl, rfl⟩

/-- Slices of bytes that stand in one array. -/
def Rows (w : World) (a : Option Addr) (rows : List (List Int)) : Prop := ∀ i, i < rows.length → ∃ b off ad len cap, a = some ⟨b, off, none⟩ ∧ w.cell? ⟨b, off + i, none⟩ = some (.slice ad len cap) ∧ Sl .u8 w ad len cap (rows.getD i []) ∧ len ≤ 1000000 ∧ ∀ n ∈ rows.getD i [], (Lit.int .u8 n).wf = true
theorem Rows.below {w w' : World} {a : Option Addr} {rows : List (List Int)} (h : Rows w a rows) (hb : Below w.heap.size w w') : Rows w' a rows := fun i hi => by
  obtain ⟨b, off, ad, len, cap, ha, hc, hs, hr⟩ := h i hi
  exact ⟨b, off, ad, len, cap, ha, (hb.cell (World.block_lt_of_cell? w _ hc)).trans hc, hs.below hb, hr⟩
theorem crcF_flat (rows : List (List Int)) (k : Nat) (h : k < rows.length) (c : Nat) : crcF c (rows.drop k).flatten = crcF (crcF c (rows.getD k [])) (rows.drop (k + 1)).flatten := by
  rw [List.drop_eq_getElem_cons h, List.flatten_cons, crcF_append]; simp [h]

set_option maxHeartbeats 1000000 in
theorem of_any (a : Option Addr) (cap n : Nat) (rows : List (List Int)) (w : World) (hn : rows.length = n) (hl : n ≤ 1000) (hr : Rows w a rows) :
    Calls Try.prog 53 #[.slice a n cap] w fun e w' => e = .returned (.int .u16 (crcF 65535 rows.flatten)) ∧ After w w' := by
  subst hn
  replace hr := hid hr
  go_enter Try.func53, Try.ntmps53
  go_wp2_with fail
  go_loopw [3, 8] (fun v i wr => ∃ (k y : Nat), k ≤ rows.length ∧ Below w.heap.size w wr ∧ i = .int .i64 k ∧ v = .int .u16 y ∧ y < 65536 ∧ Hid (crcF y (rows.drop k).flatten = crcF 65535 rows.flatten)) (fun _ i _ => rows.length - (intOf i).toNat)
  case atStart => exact ⟨0, 65535, by omega, Below.refl _ _, rfl, rfl, by omega, rfl⟩
  case round =>
    obtain ⟨k, y, hk, hbr, rfl, rfl, hy, hs⟩ := hrel
    by_cases hlt : (k : Int) < rows.length
    · have hlt2 : k < rows.length := by omega
      obtain ⟨b, off, ad, len, cap2, rfl, hc, hsl, hl1, hzw⟩ := hr.out.below hbr k hlt2
      have hst := crcF_flat rows k hlt2 y
      have hy2 := crcF_lt (rows.getD k []) y hy (bytes_bd hzw)
      have hH := hid (hst ▸ hs.out)
      clear hst hs
      generalize rows.getD k [] = zs at *
      replace hzw := hid hzw
      go_wp2_with fail
      refine (more_any y ad len cap2 zs _ hy hl1 hsl hzw.out).mono ?_
      rintro e w2 ⟨rfl, hb2⟩
      replace hb2 := bthen hbr hb2
      generalize crcF y zs = y2 at *
      go_wp2_with fail
      go_roundw
      case rel => exact ⟨k + 1, y2, by omega, hb2, by simp, rfl, hy2, hH.out⟩
      case measure => simp [intOf]; omega
    · go_wp2_with fail
      go_ret
      obtain rfl : k = rows.length := by omega
      exact ⟨ret_int (by rw [← hs.out, List.drop_length]; rfl), hbr⟩

theorem rows_one (w : World) (T : TypeId) (ad : Option Addr) (len cap : Nat) (zs : List Int) (h : Sl .u8 w ad len cap zs) (hl : len ≤ 1000000) (hz : ∀ n ∈ zs, (Lit.int .u8 n).wf = true) : Rows (w.alloc (.cells #[.slice ad len cap] T)) (some ⟨w.heap.size, 0, none⟩) [zs] := by
  intro i hi
  obtain rfl : i = 0 := by simpa using hi
  exact ⟨_, _, ad, len, cap, rfl, by simp, h.below ((Below.refl _ _).alloc (Nat.le_refl _) _), hl, hz⟩
theorem rows_two (w : World) (T : TypeId) (ad ad2 : Option Addr) (len cap len2 cap2 : Nat) (zs ys : List Int) (h : Sl .u8 w ad len cap zs) (hl : len ≤ 1000000) (hz : ∀ n ∈ zs, (Lit.int .u8 n).wf = true) (h' : Sl .u8 w ad2 len2 cap2 ys) (hl' : len2 ≤ 1000000) (hz' : ∀ n ∈ ys, (Lit.int .u8 n).wf = true) : Rows (w.alloc (.cells #[.slice ad len cap, .slice ad2 len2 cap2] T)) (some ⟨w.heap.size, 0, none⟩) [zs, ys] := by
  intro i hi
  have hi2 : i = 0 ∨ i = 1 := by simp at hi; omega
  have hb : ∀ o, Below w.heap.size w (w.alloc o) := fun o => (Below.refl _ _).alloc (Nat.le_refl _) o
  rcases hi2 with rfl | rfl
  · exact ⟨_, _, ad, len, cap, rfl, by simp, h.below (hb _), hl, hz⟩
  · exact ⟨_, _, ad2, len2, cap2, rfl, by simp, h'.below (hb _), hl', hz'⟩
theorem rows_three (w : World) (T : TypeId) (ad ad2 : Option Addr) (len cap len2 cap2 : Nat) (zs ys : List Int) (h : Sl .u8 w ad len cap zs) (hl : len ≤ 1000000) (hz : ∀ n ∈ zs, (Lit.int .u8 n).wf = true) (h' : Sl .u8 w ad2 len2 cap2 ys) (hl' : len2 ≤ 1000000) (hz' : ∀ n ∈ ys, (Lit.int .u8 n).wf = true) : Rows (w.alloc (.cells #[.slice ad len cap, .slice none 0 0, .slice ad2 len2 cap2] T)) (some ⟨w.heap.size, 0, none⟩) [zs, [], ys] := by
  intro i hi
  have hi2 : i = 0 ∨ i = 1 ∨ i = 2 := by simp at hi; omega
  have hb : ∀ o, Below w.heap.size w (w.alloc o) := fun o => (Below.refl _ _).alloc (Nat.le_refl _) o
  rcases hi2 with rfl | rfl | rfl
  · exact ⟨_, _, ad, len, cap, rfl, by simp, h.below (hb _), hl, hz⟩
  · exact ⟨_, _, none, 0, 0, rfl, by simp, sl_nil _ _, by omega, by simp⟩
  · exact ⟨_, _, ad2, len2, cap2, rfl, by simp, h'.below (hb _), hl', hz'⟩

set_option maxHeartbeats 1000000 in
theorem rseal_any (a : Option Addr) (len cap : Nat) (zs : List Int) (w : World) (hl : len ≤ 100000) (hsl : Sl .u8 w a len cap zs) (hz : ∀ n ∈ zs, (Lit.int .u8 n).wf = true) :
    Calls Try.prog 40 #[.slice a len cap] w (BytesOk w (crcSeal zs)) := by
  have hlen := hsl.1
  have hlt := crcF_lt zs 65535 (by omega) (bytes_bd hz)
  have hS : crcSeal zs = zs ++ [((crcF 65535 zs % 256 : Nat) : Int), ((crcF 65535 zs / 256 : Nat) : Int)] := rfl
  replace hS := hid hS
  go_enter Try.func40, Try.ntmps40
  go_wp2_with fail
  refine (rof_any a len cap zs _ (by omega) hsl hz).mono ?_
  rintro e w1 ⟨rfl, rfl⟩
  generalize crcF 65535 zs = C at *
  have be3 : Below w1.heap.size w1 (w1.alloc (.cells #[] 5)) := (Below.refl _ _).alloc (Nat.le_refl _) _
  have ho := Own.lit .u8 5 w1 [] w1.heap.size (Nat.le_refl _) (by simp) #[] rfl
  have sl2 := hsl.below be3
  have sz3 := be3.size
  have q1 : (C : Int) % 256 = ((C % 256 : Nat) : Int) := by simp
  have q2 : (C : Int) / 256 = ((C / 256 : Nat) : Int) := by simp
  have q4 : IntKind.u8.wrap ((C / 256 : Nat) : Int) = ((C / 256 : Nat) : Int) := by rw [IntKind.wrap_u8]; omega
  have q5 : IntKind.u8.wrap ((C % 256 : Nat) : Int) = ((C % 256 : Nat) : Int) := by rw [IntKind.wrap_u8]; omega
  generalize C % 256 = p at *
  generalize C / 256 = q at *
  go_wp2_with (first
    | (at_builtin; refine wpList_appS _ w1 rfl (.tmp 6) (.tmp 7) 22 rfl w1.heap.size w1.heap.size 5 .u8 1 bytesOf (.slice (some ⟨w1.heap.size, 0, none⟩) 0 0) [] rfl ho a len cap zs rfl sl2 (by simp; omega) (by decide) be3 (Nat.le_refl _) sz3 ?_))
  intro a3 c3 w3 own3 bel3
  have bel3a : Below w1.heap.size w1 (w3.alloc (.cells #[.int .u8 p, .int .u8 q] 5)) := bel3.alloc bel3.size _
  have own3a := own3.alloc (.cells #[.int .u8 p, .int .u8 q] 5)
  have sl3 : Sl .u8 (w3.alloc (.cells #[.int .u8 p, .int .u8 q] 5)) (some ⟨w3.heap.size, 0, none⟩) 2 2 [(p : Int), (q : Int)] := sl_two w3 p q _
  have sz4 := bel3a.size
  go_wp2_with (first
    | (at_builtin; refine wpList_appS _ w1 rfl (.tmp 8) (.tmp 15) 22 rfl w1.heap.size w1.heap.size 5 .u8 1 bytesOf (.slice a3 len c3) zs rfl own3a (some ⟨w3.heap.size, 0, none⟩) 2 2 [(p : Int), (q : Int)] rfl sl3 (by simp; omega) (by decide) bel3a (Nat.le_refl _) sz4 ?_))
  intro a5 c5 w5 own5 bel5
  have e7 : (zs ++ [(p : Int), (q : Int)]).length = len + 2 := by simp; omega
  have HH := hid own5
  clear own3 own3a own5 bel3 bel3a sl3 sl2 be3 ho
  go_wp2_with fail
  go_ret
  refine ⟨a5, c5, by rw [hS.out, e7]; rfl, ?_, bel5⟩
  rw [hS.out, e7]; exact HH.out

end Go.Proofs.Ytlfbhfmchdbnoaa
