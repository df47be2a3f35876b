/- The laws CrcTells, CrcOpens, CrcParts, CrcBurst, walked: they return true. -/
import Derived.Test.YtlfbhfmchdbnoaaCrc3
import Derived.Lib.SmallJoins
namespace Go.Proofs.Ytlfbhfmchdbnoaa
open Go.ChangeShapes Go.WideShapes Go.ChangeAt Go.RowKit
set_option linter.unusedVariables false

theorem crc_123 : crcF 65535 [[49, 50, 51, 52, 53, 54, 55, 56, 57]].flatten = 28561 := by decide +kernel

theorem sl_mark (k : IntKind) (E : TypeId) (w : World) (zs : List Int) (hm : zs.length ≤ maxLen) (fr : Nat × Nat) (n : Nat) (hn : zs.length = n) : Sl k (w.alloc (.cells (zs.map (Value.int k)).toArray E fr)) (some ⟨w.heap.size, 0, none⟩) n n zs := by
  subst hn
  refine ⟨rfl, Nat.le_refl _, hm, (fun h => by cases h), fun i hi => ⟨_, 0, rfl, ?_⟩⟩
  rw [Nat.zero_add, World.cell?_alloc_mark]
  simp [hi]

/-- Bits turned: the number of a list with the lowest n bits of a mask, from a bit on, turned. -/
def TurnedAs (zs : List Int) (at_ m n : Nat) (ys : List Int) : Prop := ys.length = zs.length ∧ (∀ c ∈ ys, 0 ≤ c ∧ c ≤ 255) ∧ numL ys = numL zs ^^^ 2 ^ at_ * (m % 2 ^ n)
theorem mod_step (m n : Nat) : m % 2 ^ (n + 1) = 2 ^ n * (m / 2 ^ n % 2) ^^^ m % 2 ^ n := by
  rw [← join_xor n _ _ (Nat.mod_lt _ (Nat.two_pow_pos n)), Nat.pow_succ, Nat.mod_mul, Nat.add_comm]
theorem turned_same {zs ys : List Int} {a m n : Nat} (h : TurnedAs zs a m n ys) (hb : m / 2 ^ n % 2 = 0) : TurnedAs zs a m (n + 1) ys := by
  obtain ⟨h1, h2, h3⟩ := h
  refine ⟨h1, h2, ?_⟩
  rw [mod_step, hb, Nat.mul_zero, Nat.zero_xor]; exact h3
theorem turned_more {zs ys : List Int} {a m n : Nat} (h : TurnedAs zs a m n ys) (hb : m / 2 ^ n % 2 = 1) (hl : (a + n) / 8 < ys.length) (x : Nat) (hx : (ys.getD ((a + n) / 8) 0).toNat ^^^ 2 ^ ((a + n) % 8) = x) : TurnedAs zs a m (n + 1) (ys.set ((a + n) / 8) (x : Int)) := by
  obtain ⟨h1, h2, h3⟩ := h
  have hp : 2 ^ ((a + n) % 8) < 256 := Nat.pow_lt_pow_right (a := 2) (by omega) (show (a + n) % 8 < 8 by omega)
  have hy := h2 (ys.getD ((a + n) / 8) 0) (by simp [hl])
  subst hx
  refine ⟨by rw [List.length_set]; exact h1, fun c hc => ?_, ?_⟩
  · rcases List.mem_or_eq_of_mem_set hc with h | rfl
    · exact h2 c h
    · have : (ys.getD ((a + n) / 8) 0).toNat ^^^ 2 ^ ((a + n) % 8) < 2 ^ 8 := Nat.xor_lt_two_pow (by omega) (by omega)
      omega
  · rw [numL_set ys _ _ hl h2 hp, h3, mod_step, hb, Nat.mul_one, Nat.xor_assoc]
    congr 1
    rw [← Nat.pow_add, show 8 * ((a + n) / 8) + (a + n) % 8 = a + n from by omega]
    refine Nat.eq_of_testBit_eq fun j => ?_
    have e1 : 2 ^ (a + n) = 2 ^ a * 2 ^ n := Nat.pow_add 2 a n
    rw [e1, Nat.testBit_xor, Nat.testBit_two_pow_mul, Nat.testBit_two_pow_mul, Nat.testBit_two_pow_mul, Nat.testBit_xor]
    by_cases hj : a ≤ j <;> simp [hj, Bool.xor_comm]
theorem any_step (m n : Nat) : (m % 2 ^ (n + 1) = 0) ↔ (m % 2 ^ n = 0 ∧ m / 2 ^ n % 2 = 0) := by
  rw [Nat.pow_succ, Nat.mod_mul]
  have := Nat.two_pow_pos n
  constructor
  · intro h
    have h1 : m % 2 ^ n = 0 := by omega
    have h2 : 2 ^ n * (m / 2 ^ n % 2) = 0 := by omega
    rcases Nat.mul_eq_zero.1 h2 with h | h
    · omega
    · exact ⟨h1, h⟩
  · rintro ⟨h1, h2⟩; rw [h1, h2]; omega
theorem any_same {m n : Nat} (hb : m / 2 ^ n % 2 = 0) : decide (m % 2 ^ n ≠ 0) = decide (m % 2 ^ (n + 1) ≠ 0) := by
  have h := any_step m n
  by_cases h1 : m % 2 ^ n = 0
  · have h2 : m % 2 ^ (n + 1) = 0 := h.2 ⟨h1, hb⟩
    simp [h1, h2]
  · have h2 : ¬ m % 2 ^ (n + 1) = 0 := fun x => h1 (h.1 x).1
    simp [h1, h2]
theorem any_more {m n : Nat} (hb : m / 2 ^ n % 2 = 1) : true = decide (m % 2 ^ (n + 1) ≠ 0) := by
  have h2 : ¬ m % 2 ^ (n + 1) = 0 := fun x => by have := ((any_step m n).1 x).2; omega
  simp [h2]
theorem div_step (m n : Nat) : m / 2 ^ (n + 1) = m / 2 ^ n / 2 := by rw [Nat.pow_succ, Nat.div_div_eq_div_mul]

/-- What Turned hands back. -/
def TurnsOk (zs : List Int) (at_ : Int) (m : Nat) (w : World) (e : Ending) (w' : World) : Prop :=
  ∃ a cap ys any, e = .returned (.tuple #[.slice a zs.length cap, .bool any]) ∧ Own .u8 5 w' w.heap.size (.slice a zs.length cap) ys ∧ After w w' ∧
    ((any = false ∧ ys = zs) ∨ ∃ k n : Nat, at_ = k ∧ k < 8 * zs.length ∧ n ≤ 16 ∧ TurnedAs zs k m n ys ∧ any = decide (m % 2 ^ n ≠ 0))

set_option maxRecDepth 100000 in
set_option maxHeartbeats 2000000 in
theorem turned_any (a : Option Addr) (len cap : Nat) (zs : List Int) (at_ : Int) (m : Nat) (w : World) (hl : len ≤ 100000) (hsl : Sl .u8 w a len cap zs) (hz : ∀ n ∈ zs, (Lit.int .u8 n).wf = true) (h1 : -9223372036854775808 ≤ at_) (h2 : at_ ≤ 9223372036854775807) (hm : m < 65536) :
    Calls Try.prog 25 #[.slice a len cap, .int .i64 at_, .int .u16 m] w (TurnsOk zs at_ m w) := by
  have hlen := hsl.1
  subst hlen
  have be3 : Below w.heap.size w (w.alloc (.cells #[] 5)) := (Below.refl _ _).alloc (Nat.le_refl _) _
  have ho := Own.lit .u8 5 w [] w.heap.size (Nat.le_refl _) (by simp) #[] rfl
  have sl2 := hsl.below be3
  have sz3 := be3.size
  have hzb := hid (bytes_bd hz)
  clear hz
  go_enter Try.func25, Try.ntmps25
  go_wp2_with (first
    | (at_builtin; refine wpList_appS _ w rfl (.tmp 12) (.tmp 13) 22 rfl w.heap.size w.heap.size 5 .u8 1 bytesOf (.slice (some ⟨w.heap.size, 0, none⟩) 0 0) [] rfl ho a zs.length cap zs rfl sl2 (by simp; omega) (by decide) be3 (Nat.le_refl _) sz3 ?_))
  intro a3 c3 w3 own3 bel3
  clear ho be3 sl2 sz3
  have own3 : Own .u8 5 w3 w.heap.size (.slice a3 zs.length c3) zs := by simpa using own3
  have hw8 : IntKind.i64.wrap (8 * (zs.length : Int)) = 8 * (zs.length : Int) := by rw [IntKind.wrap_i64]; omega
  by_cases c1 : at_ < 0
  · have H := hid own3
    clear own3
    go_wp2_with fail
    all_goals go_ret2
    all_goals exact ⟨a3, c3, zs, false, by simp, H.out, bel3, .inl ⟨rfl, rfl⟩⟩
  by_cases c2 : at_ < 8 * (zs.length : Int)
  case neg =>
    have H := hid own3
    clear own3
    go_wp2_with fail
    all_goals go_ret2
    all_goals exact ⟨a3, c3, zs, false, by simp, H.out, bel3, .inl ⟨rfl, rfl⟩⟩
  obtain ⟨k, rfl⟩ := Int.eq_ofNat_of_zero_le (show 0 ≤ at_ by omega)
  have own3 := hid own3
  have hT0 : TurnedAs zs k m 0 zs := ⟨rfl, hzb.out, by rw [Nat.pow_zero, Nat.mod_one, Nat.mul_zero, Nat.xor_zero]⟩
  have hTh := hid hT0
  clear hT0
  go_wp2_with fail
  go_loopw [2, 9, 10] (fun mk an i wr => ∃ (n q : Nat) (ys : List Int) (any : Bool), n ≤ 16 ∧ i = .int .i64 n ∧ mk = .int .u16 q ∧ q < 65536 ∧ Hid (q = m / 2 ^ n) ∧ an = .bool any ∧ Hid (any = decide (m % 2 ^ n ≠ 0)) ∧ TurnedAs zs k m n ys ∧ Below w.heap.size w wr ∧ Own .u8 5 wr w.heap.size (.slice a3 zs.length c3) ys) (fun _ _ i _ => 16 - (intOf i).toNat)
  case atStart => exact ⟨0, m, zs, false, by omega, rfl, rfl, hm, (show m = m / 2 ^ 0 by rw [Nat.pow_zero, Nat.div_one]), rfl, (show false = decide (m % 2 ^ 0 ≠ 0) by rw [Nat.pow_zero, Nat.mod_one]; rfl), hTh.out, bel3, own3.out⟩
  case round =>
    obtain ⟨n, q, ys, any, hn, rfl, rfl, hq, hqm, rfl, hany, hT, hbr, hown⟩ := hrel
    have hyl := hT.1
    by_cases hlt : (n : Int) < 16
    case neg =>
      have H := hid hown
      have HT := hid hT
      clear hown hT
      go_wp2_with fail
      all_goals (first | omega | skip)
      go_ret2
      exact ⟨a3, c3, ys, any, rfl, H.out, hbr, .inr ⟨k, n, rfl, by omega, hn, HT.out, hany.out⟩⟩
    by_cases hin : (k : Int) + (n : Int) < 8 * (zs.length : Int)
    case neg =>
      have H := hid hown
      have HT := hid hT
      clear hown hT
      go_wp2_with fail
      all_goals (first | omega | skip)
      go_ret2
      exact ⟨a3, c3, ys, any, rfl, H.out, hbr, .inr ⟨k, n, rfl, by omega, hn, HT.out, hany.out⟩⟩
    have q2 : (q : Int) % 2 = ((q % 2 : Nat) : Int) := by simp
    have q3 : (q : Int) / 2 = ((q / 2 : Nat) : Int) := by simp
    have hdv := hid (show q / 2 = m / 2 ^ (n + 1) by rw [div_step, ← hqm.out])
    have hq2 : q / 2 < 65536 := by omega
    by_cases hodd : q % 2 = 1
    case neg =>
      have b1 : ((q : Int) % 2 == 1) = false := by rw [q2]; simp; omega
      have hT2 := hid (turned_same hT (by rw [← hqm.out]; omega))
      have han2 := hid (show any = decide (m % 2 ^ (n + 1) ≠ 0) by rw [hany.out]; exact any_same (by rw [← hqm.out]; omega))
      have H := hid hown
      clear hown hT q2
      generalize q / 2 = q4 at *
      go_wp2_with fail
      go_roundw
      case rel => exact ⟨n + 1, q4, ys, any, by omega, by simp, by simp, hq2, hdv.out, rfl, han2.out, hT2.out, hbr, H.out⟩
      case measure => simp [intOf]; omega
    have b1 : ((q : Int) % 2 == 1) = true := by rw [q2, hodd]; rfl
    have hidx : (k + n) / 8 < ys.length := by omega
    obtain ⟨g, hga, hgb, hgc, hgf, hgs⟩ := hown.set ((k + n) / 8) hidx
    subst hga
    have hyb := hT.2.1 (ys.getD ((k + n) / 8) 0) (by simp [hidx])
    obtain ⟨y, hy⟩ := Int.eq_ofNat_of_zero_le hyb.1
    obtain ⟨x, hx⟩ : ∃ x, y ^^^ 2 ^ ((k + n) % 8) = x := ⟨_, rfl⟩
    have hT2 := hid (turned_more hT (by rw [← hqm.out]; exact hodd) hidx x (by rw [hy]; exact hx))
    have han2 := hid (any_more (m := m) (n := n) (by rw [← hqm.out]; exact hodd))
    rw [hy] at hgc hyb
    have hgs2 := hid (hgs (x : Int))
    have hp : 2 ^ ((k + n) % 8) < 256 := Nat.pow_lt_pow_right (a := 2) (by omega) (show (k + n) % 8 < 8 by omega)
    have e1 : (((k : Int) + (n : Int)) / 8) = (((k + n) / 8 : Nat) : Int) := by omega
    have e2 : (((k : Int) + (n : Int)) % 8) = (((k + n) % 8 : Nat) : Int) := by omega
    have e3 : ((k : Int) + (n : Int)).tdiv 8 = (((k + n) / 8 : Nat) : Int) := by rw [Int.tdiv_eq_ediv_of_nonneg (by omega)]; exact e1
    have e4 : ((k : Int) + (n : Int)).tmod 8 = (((k + n) % 8 : Nat) : Int) := by rw [Int.tmod_eq_emod_of_nonneg (by omega)]; exact e2
    have e8 : ((((k + n) % 8 : Nat) : Int)) < 8 := by omega
    have hP0 : ((2 : Int) ^ ((k + n) % 8)) = ((2 ^ ((k + n) % 8) : Nat) : Int) := by simp
    generalize 2 ^ ((k + n) % 8) = P at *
    have hx9 := u8_xor_nat y P (by omega) hp
    rw [hx] at hx9
    have hsh : IntKind.u8.wrap ((2 : Int) ^ ((k + n) % 8)) = (P : Int) := by
      rw [IntKind.wrap_u8, hP0]; omega
    have hif : (((k + n) / 8 : Nat) : Int) < zs.length := by omega
    have fs : IntKind.i64.wrap ((k : Int) + (n : Int)) = (k : Int) + (n : Int) := by rw [IntKind.wrap_i64]; omega
    have hbr2 := hbr.drew
    have hgc2 : (wr.drew).cell? ⟨g, (k + n) / 8, none⟩ = some (.int .u8 (y : Int)) := hgc
    have hgf2 : (wr.drew).frozen? ⟨g, (k + n) / 8, none⟩ = false := hgf
    have hfin : Below w.heap.size w (wr.drew.setCell ⟨g, (k + n) / 8, none⟩ (.int .u8 (x : Int))) := hbr2.setCell hgb _
    have hown2 : Own .u8 5 (wr.drew.setCell ⟨g, (k + n) / 8, none⟩ (.int .u8 (x : Int))) w.heap.size (.slice (some ⟨g, 0, none⟩) zs.length c3) (ys.set ((k + n) / 8) (x : Int)) := hgs2.out
    replace hown2 := hid hown2
    clear hx hy hgs hT hown q2 hP0 hgs2
    generalize (k + n) / 8 = I at *
    generalize (k + n) % 8 = J at *
    generalize q / 2 = q4 at *
    go_wp2_with fail
    go_region
    all_goals go_wp2_with fail
    all_goals go_roundw
    case rel => exact ⟨n + 1, q4, _, true, by omega, by simp, by simp, hq2, hdv.out, rfl, han2.out, hT2.out, hfin, hown2.out⟩
    case measure => simp [intOf]; omega

end Go.Proofs.Ytlfbhfmchdbnoaa
