/- What each function of package vary comes to: contracts, by walking their text. -/
import Derived.Test.YtkpncailoekjpaaVaM
import Derived.Test.YtkpncailoekjpaaKA
import Derived.Laws.BitsAllLaws
import Derived.Laws.MathBits
namespace Go.Proofs.Ytkpncailoekjpaa
open Go.ChangeShapes Go.WideShapes Go.ChangeAt Go.RowKit
set_option linter.unusedVariables false

theorem i64sOf : IntsOf Try.prog 90 2 .i64 8 := ⟨Try.underlying90, by kernel_rfl⟩

theorem xor_ones (x : Nat) (hx : x < 18446744073709551616) : x ^^^ 18446744073709551615 = 18446744073709551615 - x := by
  have h := congrArg BitVec.toNat (BitVec.xor_allOnes (x := BitVec.ofNat 64 x))
  rw [BitVec.toNat_xor, BitVec.toNat_not, BitVec.toNat_allOnes, BitVec.toNat_ofNat, Nat.mod_eq_of_lt (by omega)] at h
  simpa using h

theorem zig_bits (n : Int) (h1 : -9223372036854775808 ≤ n) (h2 : n ≤ 9223372036854775807) : bits .xor .u64 (IntKind.u64.wrap (wrap64 (n * 2))) (IntKind.u64.wrap (n / 9223372036854775808)) = zigS n := by
  obtain ⟨x, hx, hxl⟩ : ∃ x : Nat, IntKind.u64.wrap (wrap64 (n * 2)) = (x : Int) ∧ x < 18446744073709551616 := by
    refine ⟨(IntKind.u64.wrap (wrap64 (n * 2))).toNat, ?_, ?_⟩ <;> (simp only [IntKind.wrap_u64, wrap64]; omega)
  have hx2 : (x : Int) = if n < 0 then 2 * n + 18446744073709551616 else 2 * n := by
    rw [← hx]; simp only [IntKind.wrap_u64, wrap64]; split <;> omega
  rw [hx]
  unfold zigS
  by_cases hn : n < 0
  · rw [if_pos hn] at hx2 ⊢
    have hy : IntKind.u64.wrap (n / 9223372036854775808) = ((18446744073709551615 : Nat) : Int) := by simp only [IntKind.wrap_u64]; omega
    rw [hy, u64_xor_nat _ _ hxl (by decide), xor_ones x hxl]; omega
  · rw [if_neg hn] at hx2 ⊢
    have hy : IntKind.u64.wrap (n / 9223372036854775808) = ((0 : Nat) : Int) := by simp only [IntKind.wrap_u64]; omega
    rw [hy, u64_xor_nat _ _ hxl (by decide), Nat.xor_zero]; omega

theorem zig_any (n : Int) (w : World) (h1 : -9223372036854775808 ≤ n) (h2 : n ≤ 9223372036854775807) :
    Calls Try.prog 64 #[.int .i64 n] w fun e w' => e = .returned (.int .u64 (zigS n)) ∧ w' = w := by
  have HV := hid (zig_bits n h1 h2)
  go_enter Try.func64, Try.ntmps64
  go_wp2
  go_ret
  exact ⟨ret_int HV.out, rfl⟩

theorem i64_xor_zero (a : Int) (h0 : 0 ≤ a) (h1 : a < 9223372036854775808) : bits .xor .i64 a 0 = a := by
  show IntKind.i64.wrap ((BitVec.ofInt 64 a ^^^ BitVec.ofInt 64 0).toNat : Int) = a
  obtain ⟨x, rfl⟩ := Int.eq_ofNat_of_zero_le h0
  rw [BitVec.toNat_xor, ofInt_u64 x (by omega), show (BitVec.ofInt 64 0).toNat = 0 from rfl, Nat.xor_zero, IntKind.wrap_i64]
  omega

theorem i64_xor_ones (a : Int) (h0 : 0 ≤ a) (h1 : a < 9223372036854775808) : bits .xor .i64 a (-1) = -a - 1 := by
  show IntKind.i64.wrap ((BitVec.ofInt 64 a ^^^ BitVec.ofInt 64 (-1)).toNat : Int) = _
  obtain ⟨x, rfl⟩ := Int.eq_ofNat_of_zero_le h0
  rw [BitVec.toNat_xor, ofInt_u64 x (by omega), show (BitVec.ofInt 64 (-1)).toNat = 18446744073709551615 from by decide +kernel, xor_ones x (by omega), IntKind.wrap_i64]
  omega

theorem zag_bits (n : Int) (h1 : 0 ≤ n) (h2 : n ≤ 18446744073709551615) : bits .xor .i64 (n / 2) (wrap64 (-wrap64 (bits .and .u64 n 1))) = zagS n := by
  obtain ⟨x, rfl⟩ := Int.eq_ofNat_of_zero_le h1
  have ha : bits .and .u64 (x : Int) 1 = ((x % 2 : Nat) : Int) := by
    rw [show (1 : Int) = ((1 : Nat) : Int) from rfl, u64_and_nat x 1 (by omega) (by decide), nat_mask1]
  rw [ha]
  unfold zagS
  by_cases hx : (x : Int) % 2 = 1
  · rw [if_pos hx, show wrap64 (-wrap64 ((x % 2 : Nat) : Int)) = -1 from by unfold wrap64; omega, i64_xor_ones _ (by omega) (by omega)]
  · rw [if_neg hx, show wrap64 (-wrap64 ((x % 2 : Nat) : Int)) = 0 from by unfold wrap64; omega, i64_xor_zero _ (by omega) (by omega)]

def RowAt (w : World) (g : Nat) (zs : List Int) : Prop := ∃ a cap, w.cell? ⟨g, 0, none⟩ = some (.slice a zs.length cap) ∧ w.frozen? ⟨g, 0, none⟩ = false ∧ Own .u8 5 w (g + 1) (.slice a zs.length cap) zs ∧ g < w.heap.size

theorem rowat_store {wr W1 : World} {g : Nat} {zs : List Int} {a : Option Addr} {cap : Nat} {c0 : Value} (hg : g < wr.heap.size) (hc : wr.cell? ⟨g, 0, none⟩ = some c0) (hf : wr.frozen? ⟨g, 0, none⟩ = false)
    (hb : Below (g + 1) wr W1) (hown : Own .u8 5 W1 (g + 1) (.slice a zs.length cap) zs) :
    RowAt (W1.setCell ⟨g, 0, none⟩ (.slice a zs.length cap)) g zs ∧ Below g wr (W1.setCell ⟨g, 0, none⟩ (.slice a zs.length cap)) := by
  have hc1 : W1.cell? ⟨g, 0, none⟩ = some c0 := (hb.cell (p := ⟨g, 0, none⟩) (Nat.lt_succ_self g)).trans hc
  have hf1 : W1.frozen? ⟨g, 0, none⟩ = false := (hb.frozen (p := ⟨g, 0, none⟩) (Nat.lt_succ_self g)).trans hf
  refine ⟨⟨a, cap, World.cell?_setCell_same W1 _ _ hc1, by rw [World.frozen?_setCell]; exact hf1, ownsRow_setCell_below hown (Nat.lt_succ_self g) _, ?_⟩, (hb.mono (Nat.le_succ g)).setCell (Nat.le_refl g) _⟩
  rw [World.size_setCell]; exact Nat.lt_of_lt_of_le hg hb.size

theorem or128 (m : Nat) : bits .or .u8 ((m : Int) % 256) 128 = (m : Int) % 128 + 128 := by
  have h := u8_or_nat (m % 256) 128 (by omega) (by decide)
  have e : ((m % 256 : Nat) : Int) = (m : Int) % 256 := rfl
  rw [← e, show (128 : Int) = ((128 : Nat) : Int) from rfl, h]
  have h1 : m % 256 ||| 128 = m % 128 + 128 := by
    have h2 : m % 256 = 128 * (m % 256 / 128) + m % 128 := by omega
    by_cases hh : m % 256 / 128 = 0
    · have h3 : m % 256 = m % 128 := by omega
      rw [h3, Nat.or_comm, nat_join 7 128 (m % 128) (by decide) (by omega)]
      omega
    · have h3 : m % 256 = 128 + m % 128 := by omega
      rw [h3, ← nat_join 7 128 (m % 128) (by decide) (by omega), Nat.or_assoc, Nat.or_comm (m % 128), ← Nat.or_assoc, Nat.or_self, nat_join 7 128 (m % 128) (by decide) (by omega)]
      omega
  rw [h1]; omega

set_option maxHeartbeats 1000000 in
theorem rowput_any (u : Nat) (w : World) (g : Nat) (zs : List Int) (hu2 : u ≤ 18446744073709551615) (hw : RowAt w g zs) (hl : zs.length ≤ 1000000) :
    Calls Try.prog 63 #[.pointer (some ⟨g, 0, none⟩), .int .u64 u] w fun e w' => e = .returned (.tuple #[]) ∧ RowAt w' g (zs ++ vpS u) ∧ Below g w w' := by
  go_enter Try.func63, Try.ntmps63
  go_wp2_with fail
  go_loopw [1] (fun x wr => ∃ (m f : Nat) (ys : List Int), x = .int .u64 m ∧ m < 128 ^ (f + 1) ∧ m ≤ 18446744073709551615 ∧ ys.length + f ≤ 1000010 ∧ RowAt wr g ys ∧ Below g w wr ∧ ys ++ vpF f m = zs ++ vpS u) (fun x _ => (intOf x).toNat)
  case atStart => exact ⟨u, 9, zs, rfl, by omega, hu2, by omega, hw, Below.refl _ _, rfl⟩
  case round =>
    obtain ⟨m, f, ys, rfl, hm, hm2, hyl, ⟨a, cap, hc, hf, hown, hg⟩, hbel, he⟩ := hrel
    have HE := hid he
    have HM := hid hm
    clear he hm hw
    by_cases hlt : 127 < m
    · have hor := or128 m
      have own2 := hown.alloc (.cells #[.int .u8 ((m : Int) % 128 + 128)] 5)
      have hr3 : Rd .u8 (wr.alloc (.cells #[.int .u8 ((m : Int) % 128 + 128)] 5)) (some ⟨wr.heap.size, 0, none⟩) [(m : Int) % 128 + 128] := by
        intro i hi
        obtain rfl : i = 0 := by simp at hi; omega
        exact ⟨_, _, rfl, cell_new _ _ rfl _ _⟩
      go_wp2_with (first
        | (at_builtin; refine wpList_app _ rfl (.tmp 10) (.tmp 14) 29 rfl _ 5 .u8 1 bytesOf _ ys rfl own2 (some ⟨wr.heap.size, 0, none⟩) 1 [(m : Int) % 128 + 128] rfl hr3 (by intro h; cases h) (by simp; omega) (by decide) (by simp; omega) ?_))
      intro v1 W1 own1 hg1
      have bel1 := own2.grew hg1 ((Below.refl (g + 1) wr).alloc (by omega) _) (Nat.le_refl _) (by simp; omega)
      obtain ⟨a1, cap1, hv1, hrd, -, -⟩ := own1.rd
      rw [hv1] at own1 ⊢
      obtain ⟨hra, hbe⟩ := rowat_store hg hc hf bel1 own1
      rw [List.length_append, List.length_singleton] at hra hbe
      have hc1 : W1.cell? ⟨g, 0, none⟩ = some (.slice a ys.length cap) := (bel1.cell (p := ⟨g, 0, none⟩) (Nat.lt_succ_self g)).trans hc
      have hf1 : W1.frozen? ⟨g, 0, none⟩ = false := (bel1.frozen (p := ⟨g, 0, none⟩) (Nat.lt_succ_self g)).trans hf
      clear hv1 hrd own1 own2 hr3 hg1 hown hor bel1 hc hf
      go_wp2_with fail
      go_roundw
      case rel =>
        cases f with
        | zero => exact absurd HM.out (by omega)
        | succ f => exact ⟨m / 128, f, ys ++ [(m : Int) % 128 + 128], by go_num, by have := HM.out; rw [Nat.pow_succ] at this; exact (Nat.div_lt_iff_lt_mul (by decide)).2 this, by omega, by simp; omega, hra, hbel.trans hbe, by rw [← HE.out, vpF_more f m hlt, List.append_assoc]; rfl⟩
      case measure => simp [intOf]; omega
    · have own2 := hown.alloc (.cells #[.int .u8 (m : Int)] 5)
      have hr3 : Rd .u8 (wr.alloc (.cells #[.int .u8 (m : Int)] 5)) (some ⟨wr.heap.size, 0, none⟩) [(m : Int)] := by
        intro i hi
        obtain rfl : i = 0 := by simp at hi; omega
        exact ⟨_, _, rfl, cell_new _ _ rfl _ _⟩
      go_wp2_with (first
        | (at_builtin; refine wpList_app _ rfl (.tmp 24) (.tmp 27) 29 rfl _ 5 .u8 1 bytesOf _ ys rfl own2 (some ⟨wr.heap.size, 0, none⟩) 1 [(m : Int)] rfl hr3 (by intro h; cases h) (by simp; omega) (by decide) (by simp; omega) ?_))
      intro v1 W1 own1 hg1
      have bel1 := own2.grew hg1 ((Below.refl (g + 1) wr).alloc (by omega) _) (Nat.le_refl _) (by simp; omega)
      obtain ⟨a1, cap1, hv1, hrd, -, -⟩ := own1.rd
      rw [hv1] at own1 ⊢
      obtain ⟨hra, hbe⟩ := rowat_store hg hc hf bel1 own1
      rw [List.length_append, List.length_singleton] at hra hbe
      have hc1 : W1.cell? ⟨g, 0, none⟩ = some (.slice a ys.length cap) := (bel1.cell (p := ⟨g, 0, none⟩) (Nat.lt_succ_self g)).trans hc
      have hf1 : W1.frozen? ⟨g, 0, none⟩ = false := (bel1.frozen (p := ⟨g, 0, none⟩) (Nat.lt_succ_self g)).trans hf
      clear hv1 hrd own1 own2 hr3 hg1 hown bel1 hc hf
      go_wp2_with fail
      go_end0
      exact ⟨rfl, by rw [← HE.out, vpF_last f m hlt]; exact hra, hbel.trans hbe⟩

theorem vput_any (u : Nat) (w : World) (hu2 : u ≤ 18446744073709551615) :
    Calls Try.prog 51 #[.int .u64 u] w fun e w' => ∃ a cap, e = .returned (.slice a (vpS u).length cap) ∧ Own .u8 5 w' w.heap.size (.slice a (vpS u).length cap) (vpS u) ∧ Below w.heap.size w w' := by
  have hra : RowAt (w.alloc (.cells #[.slice none 0 0] 109)) w.heap.size [] := ⟨none, 0, cell_new _ _ rfl _ _, by simp, ⟨rfl, .inl ⟨rfl, rfl⟩⟩, by simp⟩
  go_enter Try.func51, Try.ntmps51
  go_wp2_with fail
  refine (rowput_any u _ _ [] hu2 hra (by simp)).mono ?_
  rintro e w1 ⟨rfl, ⟨a, cap, hc, hf, hown, hg⟩, hb⟩
  rw [List.nil_append] at hc hown
  clear hra
  go_wp2_with fail
  go_ret
  exact ⟨a, cap, rfl, ⟨hown.1, by
    rcases hown.2 with h | ⟨g, c, cur, hv, hgg, r⟩
    · exact .inl h
    · exact .inr ⟨g, c, cur, hv, by omega, r⟩⟩, ((Below.refl _ _).alloc (Nat.le_refl _) _).trans hb⟩

theorem and127 (c : Nat) (hc : c ≤ 255) : bits .and .u8 (c : Int) 127 = (c : Int) % 128 := by
  rw [show (127 : Int) = ((127 : Nat) : Int) from rfl, u8_and_nat c 127 (by omega) (by decide), nat_mask7]; rfl

theorem pow_7 (k : Nat) : 2 ^ (7 * k) = 128 ^ k := by rw [Nat.pow_mul]

theorem take_or (m c k : Nat) (hk : k ≤ 8 ∨ k = 9 ∧ c ≤ 1) (hm : m < 128 ^ k) :
    bits .or .u64 (m : Int) (IntKind.u64.wrap ((c : Int) % 128 * 2 ^ (7 * k))) = ((m + 128 ^ k * (c % 128) : Nat) : Int) ∧ m + 128 ^ k * (c % 128) < 128 ^ (k + 1) ∧ m + 128 ^ k * (c % 128) < 18446744073709551616 := by
  have e1 : (c : Int) % 128 * 2 ^ (7 * k) = ((c % 128 * 128 ^ k : Nat) : Int) := by rw [← pow_7]; simp
  have h1 : m + 128 ^ k * (c % 128) < 128 ^ (k + 1) := by
    have : 128 ^ k * (c % 128) ≤ 128 ^ k * 127 := Nat.mul_le_mul_left _ (by omega)
    rw [Nat.pow_succ]; omega
  have h2 : m + 128 ^ k * (c % 128) < 18446744073709551616 := by
    rcases hk with hk | ⟨rfl, hc⟩
    · have : 128 ^ (k + 1) ≤ 128 ^ 9 := Nat.pow_le_pow_right (by decide) (by omega)
      have : (128 : Nat) ^ 9 = 9223372036854775808 := by decide +kernel
      omega
    · have : 128 ^ 9 * (c % 128) ≤ 128 ^ 9 * 1 := Nat.mul_le_mul_left _ (by omega)
      have : (128 : Nat) ^ 9 = 9223372036854775808 := by decide +kernel
      omega
  refine ⟨?_, h1, h2⟩
  have h3 : c % 128 * 128 ^ k < 18446744073709551616 := by rw [Nat.mul_comm]; omega
  rw [e1, IntKind.wrap_u64, Int.emod_eq_of_lt (by omega) (by omega), u64_or_nat m _ (by omega) h3, Nat.or_comm, nat_join (7 * k) _ m (by rw [pow_7]; exact Nat.mul_mod_left _ _) (by rw [pow_7]; exact hm), Nat.mul_comm (c % 128), Nat.add_comm]

theorem take_or9 (m : Nat) (hm : m < 128 ^ 9) :
    bits .or .u64 (m : Int) (IntKind.u64.wrap (IntKind.u64.wrap (bits .and .u8 1 127) * 9223372036854775808)) = ((m + 128 ^ 9 * ((1 : Int) % 128).toNat : Nat) : Int) := by
  have h := (take_or m 1 9 (Or.inr ⟨rfl, Nat.le_refl _⟩) hm).1
  have e : IntKind.u64.wrap (IntKind.u64.wrap (bits .and .u8 1 127) * 9223372036854775808) = IntKind.u64.wrap (((1 : Nat) : Int) % 128 * 2 ^ (7 * 9)) := by decide +kernel
  rw [e, h]; rfl

def vtakeV (r : Nat × Nat × Nat) : Value := .tuple #[.int .u64 r.1, .int .i64 r.2.1, .int .i64 r.2.2]

theorem rzig_any (n : Int) (w : World) (h1 : -9223372036854775808 ≤ n) (h2 : n ≤ 9223372036854775807) :
    Calls Try.prog 69 #[.int .i64 n] w fun e w' => e = .returned (.int .u64 (zigS n)) ∧ w' = w := by
  by_cases h : n < 0
  · have HV : Go.RowKit.Hid (zigS n = _) := if_pos h
    go_enter Try.func69, Try.ntmps69
    go_wp2
    go_ret
    exact ⟨ret_int (by rw [HV.out]; omega), rfl⟩
  · have HV : Go.RowKit.Hid (zigS n = _) := if_neg h
    go_enter Try.func69, Try.ntmps69
    go_wp2
    go_ret
    exact ⟨ret_int (by rw [HV.out]), rfl⟩

theorem rzag_any (n : Int) (w : World) (h1 : 0 ≤ n) (h2 : n ≤ 18446744073709551615) :
    Calls Try.prog 40 #[.int .u64 n] w fun e w' => e = .returned (.int .i64 (zagS n)) ∧ w' = w := by
  by_cases h : n % 2 = 1
  · have HV : Go.RowKit.Hid (zagS n = _) := if_pos h
    have hb : (n % 2 == 1) = true := by simp [h]
    go_enter Try.func40, Try.ntmps40
    go_wp2
    go_ret
    exact ⟨ret_int (by rw [HV.out]), rfl⟩
  · have HV : Go.RowKit.Hid (zagS n = _) := if_neg h
    have hb : (n % 2 == 1) = false := by simp; omega
    go_enter Try.func40, Try.ntmps40
    go_wp2
    go_ret
    exact ⟨ret_int (by rw [HV.out]), rfl⟩

set_option maxHeartbeats 1000000 in
theorem rvput_any (u : Nat) (w : World) (hu2 : u ≤ 18446744073709551615) :
    Calls Try.prog 67 #[.int .u64 u] w fun e w' => ∃ a cap, e = .returned (.slice a (vpS u).length cap) ∧ Own .u8 5 w' w.heap.size (.slice a (vpS u).length cap) (vpS u) ∧ Below w.heap.size w w' := by
  go_enter Try.func67, Try.ntmps67
  go_wp2_with fail
  go_loopw [0, 3] (fun x v wr => ∃ (m f : Nat) (ys : List Int) (a : Option Addr) (cap : Nat), x = .int .u64 m ∧ v = .slice a ys.length cap ∧ m < 128 ^ (f + 1) ∧ m ≤ 18446744073709551615 ∧ ys.length + f ≤ 10 ∧ Own .u8 5 wr w.heap.size (.slice a ys.length cap) ys ∧ Below w.heap.size w wr ∧ ys ++ vpF f m = vpS u) (fun x _ _ => (intOf x).toNat)
  case atStart => exact ⟨u, 9, [], none, 0, rfl, rfl, by omega, hu2, by simp, Own.nil _ _ _ _, Below.refl _ _, rfl⟩
  case round =>
    obtain ⟨m, f, ys, a, cap, rfl, rfl, hm, hm2, hyl, hown, hbel, he⟩ := hrel
    have HE := hid he
    have HM := hid hm
    have hsz := hbel.size
    clear he hm
    by_cases hlt : 127 < m
    · go_wp2_with (first
        | (at_builtin; refine wpList_app1 wr w rfl (.tmp 6) (.tmp 11) 29 rfl w.heap.size w.heap.size 5 .u8 1 bytesOf (.slice a ys.length cap) ys rfl hown ((m : Int) % 128 + 128) rfl (by omega) (by decide) hbel (Nat.le_refl _) hsz ?_))
      intro a1 cap1 W1 own1 bel1
      clear hown hbel hsz
      go_wp2_with fail
      go_roundw
      case rel =>
        cases f with
        | zero => exact absurd HM.out (by omega)
        | succ f => exact ⟨m / 128, f, ys ++ [(m : Int) % 128 + 128], a1, cap1, by go_num, by simp, by have := HM.out; rw [Nat.pow_succ] at this; exact (Nat.div_lt_iff_lt_mul (by decide)).2 this, by omega, by simp; omega, by simpa using own1, bel1, by rw [← HE.out, vpF_more f m hlt, List.append_assoc]; rfl⟩
      case measure => simp [intOf]; omega
    · go_wp2_with (first
        | (at_builtin; refine wpList_app1 wr w rfl (.tmp 15) (.tmp 18) 29 rfl w.heap.size w.heap.size 5 .u8 1 bytesOf (.slice a ys.length cap) ys rfl hown (m : Int) rfl (by omega) (by decide) hbel (Nat.le_refl _) hsz ?_))
      intro a1 cap1 W1 own1 bel1
      have hfin : ys ++ [(m : Int)] = vpS u := by rw [← HE.out, vpF_last f m hlt]
      have hfl : ys.length + 1 = (vpS u).length := by rw [← hfin]; simp
      rw [hfin] at own1
      rw [hfl] at own1 ⊢
      have hh := hid own1
      clear hown hbel hsz hfin hfl own1
      go_wp2_with fail
      go_ret
      exact ⟨a1, cap1, rfl, hh.out, bel1⟩


end Go.Proofs.Ytkpncailoekjpaa
