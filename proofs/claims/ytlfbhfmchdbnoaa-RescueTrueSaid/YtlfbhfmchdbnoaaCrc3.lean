/- Package crc and its reference: what is opened. -/
import Derived.Test.YtlfbhfmchdbnoaaCrc2
namespace Go.Proofs.Ytlfbhfmchdbnoaa
open Go.ChangeShapes Go.WideShapes Go.ChangeAt Go.RowKit
set_option linter.unusedVariables false

theorem Own.text {w : World} {base : Nat} {E : TypeId} {a : Option Addr} {cap : Nat} {zs : List Int} (h : Own .u8 E w base (.slice a zs.length cap) zs) :
    ∀ w', After w w' → (convert 22 9 (.slice a zs.length cap)).run Try.prog w' = .ok (.string (textOf zs)) w' :=
  h.textR 22 9 5 Try.underlying22 Try.underlying5 Try.underlying9

theorem crcOpen_pair (zs : List Int) (n p q : Nat) (h : zs.length = n + 2) (hz : ∀ m ∈ zs, 0 ≤ m ∧ m ≤ 255) (hp : zs.getD n 0 = p) (hq : zs.getD (n + 1) 0 = q) : crcOpen zs = if crcF 65535 (zs.take n) = p + 256 * q then some (zs.take n) else none := by
  rw [crcOpen_is zs n h hz]
  have hb1 := hz (zs.getD n 0) (by simp [show n < zs.length by omega])
  have hb2 := hz (zs.getD (n + 1) 0) (by simp [show n + 1 < zs.length by omega])
  rw [hp] at hb1
  rw [hq] at hb2
  have e := split2 zs n h
  rw [hp, hq] at e
  have hlt := crcF_lt (zs.take n) 65535 (by omega) (fun m hm => hz m (List.mem_of_mem_take hm))
  have h0 : crcF 65535 zs = crcF (crcF 65535 (zs.take n)) [(p : Int), (q : Int)] := by rw [← crcF_append, ← e]
  rw [h0]
  have h1 := crc_tail _ p q (by omega) (by omega) hlt
  by_cases hh : crcF 65535 (zs.take n) = p + 256 * q
  · rw [if_pos hh, if_pos (h1.2 hh)]
  · rw [if_neg hh, if_neg (fun h => hh (h1.1 h))]

set_option maxRecDepth 100000 in
set_option maxHeartbeats 2000000 in
theorem open_any (a : Option Addr) (len cap : Nat) (zs : List Int) (w : World) (hl : len ≤ 100000) (hsl : Sl .u8 w a len cap zs) (hz : ∀ n ∈ zs, (Lit.int .u8 n).wf = true) :
    Calls Try.prog 44 #[.slice a len cap] w (OpenOk w (crcOpen zs)) := by
  have hlen := hsl.1
  by_cases hs : len < 2
  · have HV := hid (crcOpen_no zs (by omega))
    go_enter Try.func44, Try.ntmps44
    go_wp2_with fail
    go_ret2
    refine ⟨none, 0, by rw [HV.out]; rfl, ?_, After.refl _⟩
    rw [HV.out]; exact Own.nil _ _ _ _
  · obtain ⟨n, rfl⟩ : ∃ n, len = n + 2 := ⟨len - 2, by omega⟩
    have hst := hsl.take n (by omega)
    have hzt : ∀ c ∈ zs.take n, (Lit.int .u8 c).wf = true := fun c hc => hz c (List.mem_of_mem_take hc)
    obtain ⟨b0, o0, ha0, hcn⟩ := hsl.2.2.2.2 n (by omega)
    obtain ⟨b1, o1, ha1, hcn1⟩ := hsl.2.2.2.2 (n + 1) (by omega)
    have hcap := hsl.2.1
    subst ha0
    cases ha1
    have hcap2 : n ≤ cap := by omega
    have hb1 := bytes_bd hz (zs.getD n 0) (by simp [show n < zs.length by omega])
    have hb2 := bytes_bd hz (zs.getD (n + 1) 0) (by simp [show n + 1 < zs.length by omega])
    obtain ⟨p, hp⟩ := Int.eq_ofNat_of_zero_le hb1.1
    obtain ⟨q, hq⟩ := Int.eq_ofNat_of_zero_le hb2.1
    have HV := hid (crcOpen_pair zs n p q hlen (bytes_bd hz) hp hq)
    rw [hp] at hcn hb1
    rw [hq] at hcn1 hb2
    clear hp hq
    have hClt := crcF_lt (zs.take n) 65535 (by omega) (bytes_bd hzt)
    obtain ⟨C, hC⟩ : ∃ C, crcF 65535 (zs.take n) = C := ⟨_, rfl⟩
    rw [hC] at hClt
    have hQ : Go.RowKit.Hid (crcF 65535 [zs.take n].flatten = C) := hid (by rw [List.flatten_cons, List.flatten_nil, List.append_nil]; exact hC)
    replace hC := hid hC
    have hrows := rows_one w.drew 22 _ n cap (zs.take n) (hst.below (Below.refl _ _).drew) (by omega) hzt
    have hn0 : (0 : Int) ≤ (n : Int) := by omega
    have hn2 : ((n + 2 : Nat) : Int) - 2 = (n : Int) := by omega
    have hn3 : (n : Int) < (n : Int) + 2 := by omega
    have hn4 : (n : Int) + 1 < (n : Int) + 2 := by omega
    have hn5 : (0 : Int) ≤ (n : Int) + 1 := by omega
    have hn6 : IntKind.i64.wrap ((n : Int) + 1) = (n : Int) + 1 := IntWalk.i64_in _ (by omega)
    have hn7 : ((n : Int) + 1).toNat = n + 1 := by omega
    have hn8 : (n : Int) ≤ (cap : Int) := by omega
    have g1 : IntKind.u16.wrap (p : Int) = p := by rw [IntKind.wrap_u16]; omega
    have g2 : IntKind.u16.wrap (q : Int) = q := by rw [IntKind.wrap_u16]; omega
    have g3 : IntKind.u16.wrap ((q : Int) * 256) = ((q * 256 : Nat) : Int) := by rw [IntKind.wrap_u16]; omega
    have g4 := u16_or_nat p (q * 256) (by omega) (by omega)
    have g5 : p ||| q * 256 = p + 256 * q := by
      have h1 := Nat.two_pow_add_eq_or_of_lt (i := 8) (b := p) (show p < 2 ^ 8 by omega) q
      rw [Nat.or_comm, Nat.mul_comm q]; show 2 ^ 8 * q ||| p = _; rw [← h1]; omega
    rw [g5] at g4
    obtain ⟨W, hW⟩ : ∃ W, p + 256 * q = W := ⟨_, rfl⟩
    rw [hW] at g4
    have HW := hid hW
    clear g5 hW
    generalize q * 256 = q2 at *
    by_cases hpq : C = W
    · have HO : Go.RowKit.Hid (crcOpen zs = some (zs.take n)) := hid (by rw [HV.out, hC.out, HW.out, if_pos hpq])
      subst hpq
      go_enter Try.func44, Try.ntmps44
      go_wp2_with fail
      refine wp_region_R (by kernel_rfl) ?_
      refine wpAnyR_take 0 rfl (by kernel_rfl) (by kernel_rfl) (by kernel_rfl) (fun _ _ _ _ h => h) ⟨_, Or.inl ⟨by rfl, fun w' hb => by (go_simp; try with_reducible rfl)⟩, _, by (go_simp; try rfl), ?_⟩
      refine wpAnyR_take 1 rfl (by kernel_rfl) (by kernel_rfl) (by kernel_rfl) (fun _ _ _ _ h => h) ⟨_, Or.inl ⟨by rfl, fun w' hb => by (go_simp; try with_reducible rfl)⟩, _, by (go_simp; try rfl), ?_⟩
      refine wpAnyR_take 2 rfl (by kernel_rfl) (by kernel_rfl) (by kernel_rfl) (fun _ _ _ _ h => h) ⟨_, Or.inl ⟨by rfl, fun w' hb => by (go_simp; try with_reducible rfl)⟩, _, by (go_simp; try rfl), ?_⟩
      refine wpAnyR_take 5 rfl (by kernel_rfl) (by kernel_rfl) (by kernel_rfl) (fun _ _ _ _ h => h) ⟨_, Or.inl ⟨by rfl, fun w' hb => by (go_simp; try with_reducible rfl)⟩, _, by (go_simp; try rfl), ?_⟩
      refine wpAnyR_take 6 rfl (by kernel_rfl) (by kernel_rfl) (by kernel_rfl) (fun _ _ _ _ h => h) ⟨_, Or.inl ⟨by rfl, fun w' hb => by (go_simp; try with_reducible rfl)⟩, _, by (go_simp; try rfl), ?_⟩
      refine wpAnyR_take 7 rfl (by kernel_rfl) (by kernel_rfl) (by kernel_rfl) (fun _ _ _ _ h => h) ⟨_, Or.inl ⟨by rfl, fun w' hb => by (go_simp; try with_reducible rfl)⟩, _, by (go_simp; try rfl), ?_⟩
      refine wpAnyR_take 8 rfl (by kernel_rfl) (by kernel_rfl) (by kernel_rfl) (fun _ _ _ _ h => h) ⟨_, Or.inl ⟨by rfl, fun w' hb => by (have hcx := hb.cellB hcn; go_simp; try with_reducible rfl)⟩, _, by (go_simp; try rfl), ?_⟩
      refine wpAnyR_take 9 rfl (by kernel_rfl) (by kernel_rfl) (by kernel_rfl) (fun _ _ _ _ h => h) ⟨_, Or.inl ⟨by rfl, fun w' hb => by (go_simp; try with_reducible rfl)⟩, _, by (go_simp; try rfl), ?_⟩
      refine wpAnyR_take 10 rfl (by kernel_rfl) (by kernel_rfl) (by kernel_rfl) (fun _ _ _ _ h => h) ⟨_, Or.inl ⟨by rfl, fun w' hb => by (go_simp; try with_reducible rfl)⟩, _, by (go_simp; try rfl), ?_⟩
      refine wpAnyR_take 11 rfl (by kernel_rfl) (by kernel_rfl) (by kernel_rfl) (fun _ _ _ _ h => h) ⟨_, Or.inl ⟨by rfl, fun w' hb => by (go_simp; try with_reducible rfl)⟩, _, by (go_simp; try rfl), ?_⟩
      refine wpAnyR_take 12 rfl (by kernel_rfl) (by kernel_rfl) (by kernel_rfl) (fun _ _ _ _ h => h) ⟨_, Or.inl ⟨by rfl, fun w' hb => by (go_simp; try with_reducible rfl)⟩, _, by (go_simp; try rfl), ?_⟩
      refine wpAnyR_take 13 rfl (by kernel_rfl) (by kernel_rfl) (by kernel_rfl) (fun _ _ _ _ h => h) ⟨_, Or.inl ⟨by rfl, fun w' hb => by (go_simp; try with_reducible rfl)⟩, _, by (go_simp; try rfl), ?_⟩
      refine wpAnyR_take 14 rfl (by kernel_rfl) (by kernel_rfl) (by kernel_rfl) (fun _ _ _ _ h => h) ⟨_, Or.inl ⟨by rfl, fun w' hb => by (have hcx := hb.cellB hcn1; go_simp; try with_reducible rfl)⟩, _, by (go_simp; try rfl), ?_⟩
      refine wpAnyR_take 15 rfl (by kernel_rfl) (by kernel_rfl) (by kernel_rfl) (fun _ _ _ _ h => h) ⟨_, Or.inl ⟨by rfl, fun w' hb => by (go_simp; try with_reducible rfl)⟩, _, by (go_simp; try rfl), ?_⟩
      refine wpAnyR_take 16 rfl (by kernel_rfl) (by kernel_rfl) (by kernel_rfl) (fun _ _ _ _ h => h) ⟨_, Or.inl ⟨by rfl, fun w' hb => by (go_simp; try with_reducible rfl)⟩, _, by (go_simp; try rfl), ?_⟩
      refine wpAnyR_take 17 rfl (by kernel_rfl) (by kernel_rfl) (by kernel_rfl) (fun _ _ _ _ h => h) ⟨_, Or.inl ⟨by rfl, fun w' hb => by (go_simp; try with_reducible rfl)⟩, _, by (go_simp; try rfl), ?_⟩
      refine wpAnyR_only 3 rfl (by kernel_rfl) (by rfl) (fun K hK => ?_)
      go_simp
      refine hK _ _ ?_
      refine ⟨(Below.refl _ _).alloc (Nat.le_refl _) _, ?_⟩
      refine wpAnyR_only 4 rfl (by kernel_rfl) (by rfl) (fun K hK => ?_)
      go_simp
      refine (of_any _ _ 1 [zs.take n] _ rfl (by omega) hrows).mono ?_
      rintro e v1 ⟨rfl, bel1⟩
      rw [hQ.out]
      go_wp2_with fail
      refine ⟨bel1, ?_⟩
      refine wpAnyR_take 18 rfl (by kernel_rfl) (by kernel_rfl) (by kernel_rfl) (fun _ _ _ _ h => h) ⟨_, Or.inl ⟨by rfl, fun w' hb => by (go_simp; try with_reducible rfl)⟩, _, by (go_simp; try rfl), ?_⟩
      refine wpAnyR_done (by kernel_rfl) ?_ _
      have bel2 : Below w.heap.size w v1 := After.trans (Below.refl _ _).drew (After.trans ((Below.refl _ _).alloc (Nat.le_refl _) _) bel1)
      have sl2 := hst.below bel2
      go_wp2_with fail
      refine (clone_any _ n cap (zs.take n) _ (by omega) sl2).mono ?_
      rintro e w5 ⟨a5, c5, rfl, own5, bel5⟩
      have hb9 := After.trans bel2 bel5
      have own6 := own5.base (base' := w.heap.size) bel2.size
      have el : (zs.take n).length = n := by rw [List.length_take]; omega
      have HH := hid own6
      clear own5 own6
      go_wp2_with fail
      go_ret2
      refine ⟨a5, c5, ?_, ?_, hb9⟩
      · rw [HO.out]; show _ = Ending.returned (.tuple #[.slice _ (zs.take n).length _, .bool true]); rw [el]; rfl
      · rw [HO.out]; exact HH.out
    · have HO : Go.RowKit.Hid (crcOpen zs = none) := hid (by rw [HV.out, hC.out, HW.out, if_neg hpq])
      have hne : ((C : Int) == (W : Int)) = false := by simp; omega
      have hne2 : ((C : Int) != (W : Int)) = true := by simp; omega
      go_enter Try.func44, Try.ntmps44
      go_wp2_with fail
      refine wp_region_R (by kernel_rfl) ?_
      refine wpAnyR_take 0 rfl (by kernel_rfl) (by kernel_rfl) (by kernel_rfl) (fun _ _ _ _ h => h) ⟨_, Or.inl ⟨by rfl, fun w' hb => by (go_simp; try with_reducible rfl)⟩, _, by (go_simp; try rfl), ?_⟩
      refine wpAnyR_take 1 rfl (by kernel_rfl) (by kernel_rfl) (by kernel_rfl) (fun _ _ _ _ h => h) ⟨_, Or.inl ⟨by rfl, fun w' hb => by (go_simp; try with_reducible rfl)⟩, _, by (go_simp; try rfl), ?_⟩
      refine wpAnyR_take 2 rfl (by kernel_rfl) (by kernel_rfl) (by kernel_rfl) (fun _ _ _ _ h => h) ⟨_, Or.inl ⟨by rfl, fun w' hb => by (go_simp; try with_reducible rfl)⟩, _, by (go_simp; try rfl), ?_⟩
      refine wpAnyR_take 5 rfl (by kernel_rfl) (by kernel_rfl) (by kernel_rfl) (fun _ _ _ _ h => h) ⟨_, Or.inl ⟨by rfl, fun w' hb => by (go_simp; try with_reducible rfl)⟩, _, by (go_simp; try rfl), ?_⟩
      refine wpAnyR_take 6 rfl (by kernel_rfl) (by kernel_rfl) (by kernel_rfl) (fun _ _ _ _ h => h) ⟨_, Or.inl ⟨by rfl, fun w' hb => by (go_simp; try with_reducible rfl)⟩, _, by (go_simp; try rfl), ?_⟩
      refine wpAnyR_take 7 rfl (by kernel_rfl) (by kernel_rfl) (by kernel_rfl) (fun _ _ _ _ h => h) ⟨_, Or.inl ⟨by rfl, fun w' hb => by (go_simp; try with_reducible rfl)⟩, _, by (go_simp; try rfl), ?_⟩
      refine wpAnyR_take 8 rfl (by kernel_rfl) (by kernel_rfl) (by kernel_rfl) (fun _ _ _ _ h => h) ⟨_, Or.inl ⟨by rfl, fun w' hb => by (have hcx := hb.cellB hcn; go_simp; try with_reducible rfl)⟩, _, by (go_simp; try rfl), ?_⟩
      refine wpAnyR_take 9 rfl (by kernel_rfl) (by kernel_rfl) (by kernel_rfl) (fun _ _ _ _ h => h) ⟨_, Or.inl ⟨by rfl, fun w' hb => by (go_simp; try with_reducible rfl)⟩, _, by (go_simp; try rfl), ?_⟩
      refine wpAnyR_take 10 rfl (by kernel_rfl) (by kernel_rfl) (by kernel_rfl) (fun _ _ _ _ h => h) ⟨_, Or.inl ⟨by rfl, fun w' hb => by (go_simp; try with_reducible rfl)⟩, _, by (go_simp; try rfl), ?_⟩
      refine wpAnyR_take 11 rfl (by kernel_rfl) (by kernel_rfl) (by kernel_rfl) (fun _ _ _ _ h => h) ⟨_, Or.inl ⟨by rfl, fun w' hb => by (go_simp; try with_reducible rfl)⟩, _, by (go_simp; try rfl), ?_⟩
      refine wpAnyR_take 12 rfl (by kernel_rfl) (by kernel_rfl) (by kernel_rfl) (fun _ _ _ _ h => h) ⟨_, Or.inl ⟨by rfl, fun w' hb => by (go_simp; try with_reducible rfl)⟩, _, by (go_simp; try rfl), ?_⟩
      refine wpAnyR_take 13 rfl (by kernel_rfl) (by kernel_rfl) (by kernel_rfl) (fun _ _ _ _ h => h) ⟨_, Or.inl ⟨by rfl, fun w' hb => by (go_simp; try with_reducible rfl)⟩, _, by (go_simp; try rfl), ?_⟩
      refine wpAnyR_take 14 rfl (by kernel_rfl) (by kernel_rfl) (by kernel_rfl) (fun _ _ _ _ h => h) ⟨_, Or.inl ⟨by rfl, fun w' hb => by (have hcx := hb.cellB hcn1; go_simp; try with_reducible rfl)⟩, _, by (go_simp; try rfl), ?_⟩
      refine wpAnyR_take 15 rfl (by kernel_rfl) (by kernel_rfl) (by kernel_rfl) (fun _ _ _ _ h => h) ⟨_, Or.inl ⟨by rfl, fun w' hb => by (go_simp; try with_reducible rfl)⟩, _, by (go_simp; try rfl), ?_⟩
      refine wpAnyR_take 16 rfl (by kernel_rfl) (by kernel_rfl) (by kernel_rfl) (fun _ _ _ _ h => h) ⟨_, Or.inl ⟨by rfl, fun w' hb => by (go_simp; try with_reducible rfl)⟩, _, by (go_simp; try rfl), ?_⟩
      refine wpAnyR_take 17 rfl (by kernel_rfl) (by kernel_rfl) (by kernel_rfl) (fun _ _ _ _ h => h) ⟨_, Or.inl ⟨by rfl, fun w' hb => by (go_simp; try with_reducible rfl)⟩, _, by (go_simp; try rfl), ?_⟩
      refine wpAnyR_only 3 rfl (by kernel_rfl) (by rfl) (fun K hK => ?_)
      go_simp
      refine hK _ _ ?_
      refine ⟨(Below.refl _ _).alloc (Nat.le_refl _) _, ?_⟩
      refine wpAnyR_only 4 rfl (by kernel_rfl) (by rfl) (fun K hK => ?_)
      go_simp
      refine (of_any _ _ 1 [zs.take n] _ rfl (by omega) hrows).mono ?_
      rintro e v1 ⟨rfl, bel1⟩
      rw [hQ.out]
      go_wp2_with fail
      refine ⟨bel1, ?_⟩
      refine wpAnyR_take 18 rfl (by kernel_rfl) (by kernel_rfl) (by kernel_rfl) (fun _ _ _ _ h => h) ⟨_, Or.inl ⟨by rfl, fun w' hb => by (go_simp; try with_reducible rfl)⟩, _, by (go_simp; try rfl), ?_⟩
      refine wpAnyR_done (by kernel_rfl) ?_ _
      have bel2 : Below w.heap.size w v1 := After.trans (Below.refl _ _).drew (After.trans ((Below.refl _ _).alloc (Nat.le_refl _) _) bel1)
      go_wp2_with fail
      go_ret2
      refine ⟨none, 0, by rw [HO.out]; rfl, ?_, bel2⟩
      rw [HO.out]; exact Own.nil _ _ _ _

set_option maxRecDepth 100000 in
set_option maxHeartbeats 2000000 in
theorem ropen_any (a : Option Addr) (len cap : Nat) (zs : List Int) (w : World) (hl : len ≤ 100000) (hsl : Sl .u8 w a len cap zs) (hz : ∀ n ∈ zs, (Lit.int .u8 n).wf = true) :
    Calls Try.prog 30 #[.slice a len cap] w (OpenOk w (crcOpen zs)) := by
  have hlen := hsl.1
  by_cases hs : len < 2
  · have HV := hid (crcOpen_no zs (by omega))
    have hlt : ((len : Int) - 2 < 0) = True := eq_true (by omega)
    go_enter Try.func30, Try.ntmps30
    go_wp2_with fail
    go_quiet (fail)
    go_wp2_with fail
    go_ret2
    refine ⟨none, 0, by rw [HV.out]; rfl, ?_, bdrewN (Below.refl _ _) _⟩
    rw [HV.out]; exact Own.nil _ _ _ _
  · obtain ⟨n, rfl⟩ : ∃ n, len = n + 2 := ⟨len - 2, by omega⟩
    have hst := hsl.take n (by omega)
    have hzt : ∀ c ∈ zs.take n, (Lit.int .u8 c).wf = true := fun c hc => hz c (List.mem_of_mem_take hc)
    have hcap := hsl.2.1
    have hcap2 : n ≤ cap := by omega
    have hn0 : (0 : Int) ≤ (n : Int) := by omega
    have hn8 : (n : Int) ≤ (cap : Int) := by omega
    have TZ : Go.RowKit.Hid (∀ w', After w w' → (convert 22 9 (.slice a (n + 2) cap)).run Try.prog w' = .ok (.string (textOf zs)) w') := hid (fun w' hw => (hsl.below hw).text 22 9 5 Try.underlying22 Try.underlying5 Try.underlying9)
    have hb1 := bytes_bd hz
    have hb2 := crcSeal_bytes (zs.take n) (bytes_bd hzt)
    by_cases hq : crcSeal (zs.take n) = zs
    · have HO : Go.RowKit.Hid (crcOpen zs = some (zs.take n)) := hid (by unfold crcOpen; rw [if_neg (by omega), show zs.length - 2 = n from by omega, if_pos hq])
      have heq := text_eq _ _ hq
      clear hq
      go_enter Try.func30, Try.ntmps30
      go_wp2_with fail
      have hlt : ((n : Int) < 0) = False := eq_false (by omega)
      refine wp_region_R (by kernel_rfl) ?_
      refine wpAnyR_take 0 rfl (by kernel_rfl) (by kernel_rfl) (by kernel_rfl) (fun _ _ _ _ h => h) ⟨_, Or.inl ⟨by rfl, fun w' hb => by (go_simp; try with_reducible rfl)⟩, _, by (go_simp; try rfl), ?_⟩
      refine wpAnyR_take 1 rfl (by kernel_rfl) (by kernel_rfl) (by kernel_rfl) (fun _ _ _ _ h => h) ⟨_, Or.inl ⟨by rfl, fun w' hb => by (go_simp; try with_reducible rfl)⟩, _, by (go_simp; try rfl), ?_⟩
      refine wpAnyR_take 2 rfl (by kernel_rfl) (by kernel_rfl) (by kernel_rfl) (fun _ _ _ _ h => h) ⟨_, Or.inl ⟨by rfl, fun w' hb => by (go_simp; try with_reducible rfl)⟩, _, by (go_simp; try rfl), ?_⟩
      refine wpAnyR_take 3 rfl (by kernel_rfl) (by kernel_rfl) (by kernel_rfl) (fun _ _ _ _ h => h) ⟨_, Or.inl ⟨by rfl, fun w' hb => by (go_simp; try with_reducible rfl)⟩, _, by (go_simp; try rfl), ?_⟩
      refine wpAnyR_take 4 rfl (by kernel_rfl) (by kernel_rfl) (by kernel_rfl) (fun _ _ _ _ h => h) ⟨_, Or.inl ⟨by rfl, fun w' hb => by (go_simp; try with_reducible rfl)⟩, _, by (go_simp; try rfl), ?_⟩
      refine wpAnyR_take 5 rfl (by kernel_rfl) (by kernel_rfl) (by kernel_rfl) (fun _ _ _ _ h => h) ⟨_, Or.inl ⟨by rfl, fun w' hb => by (go_simp; try with_reducible rfl)⟩, _, by (go_simp; try rfl), ?_⟩
      refine wpAnyR_take 8 rfl (by kernel_rfl) (by kernel_rfl) (by kernel_rfl) (fun _ _ _ _ h => h) ⟨_, Or.inl ⟨by rfl, fun w' hb => by (go_simp; try with_reducible rfl)⟩, _, by (go_simp; try rfl), ?_⟩
      refine wpAnyR_take 9 rfl (by kernel_rfl) (by kernel_rfl) (by kernel_rfl) (fun _ _ _ _ h => h) ⟨_, Or.inl ⟨by rfl, fun w' hb => by (have ht := TZ.out w' (After.trans (Below.refl _ _).drew hb); go_simp; try with_reducible rfl)⟩, _, by (go_simp; try rfl), ?_⟩
      refine wpAnyR_only 6 rfl (by kernel_rfl) (by rfl) (fun K hK => ?_)
      go_simp
      refine (rseal_any _ _ _ (zs.take n) _ (by omega) (hst.below (Below.refl _ _).drew) hzt).mono ?_
      rintro e v1 ⟨ad1, cp1, rfl, own1, bel1⟩
      have T2 := hid (own1.text)
      clear own1
      go_wp2_with fail
      refine ⟨bel1, ?_⟩
      refine wpAnyR_take 7 rfl (by kernel_rfl) (by kernel_rfl) (by kernel_rfl) (fun _ _ _ _ h => h) ⟨_, Or.inl ⟨by rfl, fun w' hb => by (have ht := T2.out w' hb; go_simp; try with_reducible rfl)⟩, _, by (go_simp; try rfl), ?_⟩
      refine wpAnyR_take 10 rfl (by kernel_rfl) (by kernel_rfl) (by kernel_rfl) (fun _ _ _ _ h => h) ⟨_, Or.inl ⟨by rfl, fun w' hb => by (go_simp; try with_reducible rfl)⟩, _, by (go_simp; try rfl), ?_⟩
      refine wpAnyR_take 11 rfl (by kernel_rfl) (by kernel_rfl) (by kernel_rfl) (fun _ _ _ _ h => h) ⟨_, Or.inl ⟨by rfl, fun w' hb => by (go_simp; try with_reducible rfl)⟩, _, by (go_simp; try rfl), ?_⟩
      refine wpAnyR_done (by kernel_rfl) ?_ _
      have bel2 : Below w.heap.size w v1 := After.trans (Below.refl _ _).drew bel1
      have be3 : Below w.heap.size w (v1.alloc (.cells #[] 5)) := bel2.alloc bel2.size _
      have ho := Own.lit .u8 5 v1 [] w.heap.size bel2.size (by simp) #[] rfl
      have sl3 := hst.below be3
      have sz3 := be3.size
      clear bel1
      go_wp2_with (first
        | (at_builtin; refine wpList_appS _ w rfl (.tmp 20) (.tmp 23) 22 rfl w.heap.size w.heap.size 5 .u8 1 bytesOf (.slice (some ⟨v1.heap.size, 0, none⟩) 0 0) [] rfl ho _ _ cap (zs.take n) rfl sl3 (by simp; omega) (by decide) be3 (Nat.le_refl _) sz3 ?_))
      intro a5 c5 w5 own5 bel5
      have el : (zs.take n).length = n := by rw [List.length_take]; omega
      have HH := hid own5
      clear ho own5 be3 sl3
      go_wp2_with fail
      go_ret2
      refine ⟨a5, c5, ?_, ?_, bel5⟩
      · rw [HO.out]; show _ = Ending.returned (.tuple #[.slice _ (zs.take n).length _, .bool true]); rw [el]; rfl
      · rw [HO.out]; show Own _ _ _ _ (.slice _ (zs.take n).length _) (zs.take n)
        rw [el]; exact HH.out
    · have HO : Go.RowKit.Hid (crcOpen zs = none) := hid (by unfold crcOpen; rw [if_neg (by omega), show zs.length - 2 = n from by omega, if_neg hq])
      have hne := text_ne _ _ hb2 hb1 hq
      clear hq
      go_enter Try.func30, Try.ntmps30
      go_wp2_with fail
      have hlt : ((n : Int) < 0) = False := eq_false (by omega)
      refine wp_region_R (by kernel_rfl) ?_
      refine wpAnyR_take 0 rfl (by kernel_rfl) (by kernel_rfl) (by kernel_rfl) (fun _ _ _ _ h => h) ⟨_, Or.inl ⟨by rfl, fun w' hb => by (go_simp; try with_reducible rfl)⟩, _, by (go_simp; try rfl), ?_⟩
      refine wpAnyR_take 1 rfl (by kernel_rfl) (by kernel_rfl) (by kernel_rfl) (fun _ _ _ _ h => h) ⟨_, Or.inl ⟨by rfl, fun w' hb => by (go_simp; try with_reducible rfl)⟩, _, by (go_simp; try rfl), ?_⟩
      refine wpAnyR_take 2 rfl (by kernel_rfl) (by kernel_rfl) (by kernel_rfl) (fun _ _ _ _ h => h) ⟨_, Or.inl ⟨by rfl, fun w' hb => by (go_simp; try with_reducible rfl)⟩, _, by (go_simp; try rfl), ?_⟩
      refine wpAnyR_take 3 rfl (by kernel_rfl) (by kernel_rfl) (by kernel_rfl) (fun _ _ _ _ h => h) ⟨_, Or.inl ⟨by rfl, fun w' hb => by (go_simp; try with_reducible rfl)⟩, _, by (go_simp; try rfl), ?_⟩
      refine wpAnyR_take 4 rfl (by kernel_rfl) (by kernel_rfl) (by kernel_rfl) (fun _ _ _ _ h => h) ⟨_, Or.inl ⟨by rfl, fun w' hb => by (go_simp; try with_reducible rfl)⟩, _, by (go_simp; try rfl), ?_⟩
      refine wpAnyR_take 5 rfl (by kernel_rfl) (by kernel_rfl) (by kernel_rfl) (fun _ _ _ _ h => h) ⟨_, Or.inl ⟨by rfl, fun w' hb => by (go_simp; try with_reducible rfl)⟩, _, by (go_simp; try rfl), ?_⟩
      refine wpAnyR_take 8 rfl (by kernel_rfl) (by kernel_rfl) (by kernel_rfl) (fun _ _ _ _ h => h) ⟨_, Or.inl ⟨by rfl, fun w' hb => by (go_simp; try with_reducible rfl)⟩, _, by (go_simp; try rfl), ?_⟩
      refine wpAnyR_take 9 rfl (by kernel_rfl) (by kernel_rfl) (by kernel_rfl) (fun _ _ _ _ h => h) ⟨_, Or.inl ⟨by rfl, fun w' hb => by (have ht := TZ.out w' (After.trans (Below.refl _ _).drew hb); go_simp; try with_reducible rfl)⟩, _, by (go_simp; try rfl), ?_⟩
      refine wpAnyR_only 6 rfl (by kernel_rfl) (by rfl) (fun K hK => ?_)
      go_simp
      refine (rseal_any _ _ _ (zs.take n) _ (by omega) (hst.below (Below.refl _ _).drew) hzt).mono ?_
      rintro e v1 ⟨ad1, cp1, rfl, own1, bel1⟩
      have T2 := hid (own1.text)
      clear own1
      go_wp2_with fail
      refine ⟨bel1, ?_⟩
      refine wpAnyR_take 7 rfl (by kernel_rfl) (by kernel_rfl) (by kernel_rfl) (fun _ _ _ _ h => h) ⟨_, Or.inl ⟨by rfl, fun w' hb => by (have ht := T2.out w' hb; go_simp; try with_reducible rfl)⟩, _, by (go_simp; try rfl), ?_⟩
      refine wpAnyR_take 10 rfl (by kernel_rfl) (by kernel_rfl) (by kernel_rfl) (fun _ _ _ _ h => h) ⟨_, Or.inl ⟨by rfl, fun w' hb => by (go_simp; try with_reducible rfl)⟩, _, by (go_simp; try rfl), ?_⟩
      refine wpAnyR_take 11 rfl (by kernel_rfl) (by kernel_rfl) (by kernel_rfl) (fun _ _ _ _ h => h) ⟨_, Or.inl ⟨by rfl, fun w' hb => by (go_simp; try with_reducible rfl)⟩, _, by (go_simp; try rfl), ?_⟩
      refine wpAnyR_done (by kernel_rfl) ?_ _
      have bel2 : Below w.heap.size w v1 := After.trans (Below.refl _ _).drew bel1
      go_wp2_with fail
      go_ret2
      refine ⟨none, 0, by rw [HO.out]; rfl, ?_, bel2⟩
      rw [HO.out]; exact Own.nil _ _ _ _

end Go.Proofs.Ytlfbhfmchdbnoaa
