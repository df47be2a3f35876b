/- Stage 33: Sums. -/
import Derived.Test.YtjeiclfdhdcfnaaGapA
import Derived.Laws.Tables
import Derived.Deep.DeepCutAuto
namespace Go.Proofs.Ytjeiclfdhdcfnaa
open Go.ChangeShapes Go.WideShapes Go.ChangeAt Go.RowKit
set_option linter.unusedVariables false
set_option linter.unusedSimpArgs false

def tH : List Ln → Int
  | [] => 0
  | x :: S => x.h + tH S
def tL : List Ln → Int
  | [] => 0
  | x :: S => x.l + tL S
theorem tH_app : ∀ (S R : List Ln), tH (S ++ R) = tH S + tH R
  | [], R => by show tH R = 0 + tH R; omega
  | x :: S, R => by show x.h + tH (S ++ R) = x.h + tH S + tH R; rw [tH_app S R]; omega
theorem tL_app : ∀ (S R : List Ln), tL (S ++ R) = tL S + tL R
  | [], R => by show tL R = 0 + tL R; omega
  | x :: S, R => by show x.l + tL (S ++ R) = x.l + tL S + tL R; rw [tL_app S R]; omega
theorem tHL_bd : ∀ (S : List Ln), LnB 1000 S → (0 ≤ tH S ∧ tH S ≤ 1000 * S.length) ∧ (0 ≤ tL S ∧ tL S ≤ 256000 * S.length)
  | [], _ => by simp [tH, tL]
  | x :: S, h => by
    have h1 := tHL_bd S (fun z hz => h z (List.mem_cons_of_mem _ hz))
    have h2 := h x (List.mem_cons_self ..)
    simp only [tH, tL, List.length_cons]
    omega
theorem LnB.take {K : Int} {S : List Ln} (h : LnB K S) (k : Nat) : LnB K (S.take k) := fun x hx => h x (List.mem_of_mem_take hx)
theorem tH_next {S : List Ln} {k : Nat} {x : Ln} (h : S[k]? = some x) : tH (S.take (k + 1)) = tH (S.take k) + x.h ∧ tL (S.take (k + 1)) = tL (S.take k) + x.l := by
  rw [take_next33 h, tH_app, tL_app]
  simp [tH, tL]
set_option maxRecDepth 100000 in
set_option maxHeartbeats 8000000 in
theorem gsums_any (B m : Nat) (L : List Ln) (w : World) (hb : w.heap[B]? = some (.cells #[.map (some m)] 47 (0, 0))) (hm : MapAt w m L) (hd : Dist L) (h16 : L.length ≤ 16) (hL : LnB 1000 L) : Calls Try.prog 13 #[.pointer (some ⟨B, 0, none⟩)] w fun r w' => ∃ S : List Ln, S.Perm L ∧ S.Pairwise (fun x z => ¬ lt33 (z.y, z.c) (x.y, x.c)) ∧ r = .returned (.tuple #[.int .i64 (tH S), .int .i64 (tL S)]) ∧ After w w' := by
  have kA := hid (gall_any B m L w hb hm hd h16)
  replace hL := hid hL
  clear hb hm hd
  go_enter Try.func13, Try.ntmps13
  go_wp2_with fail
  refine kA.out.mono ?_
  rintro r V ⟨a, cap, S, rfl, hSp, hSs, hE, hA⟩
  clear kA
  obtain ⟨n, hn⟩ : ∃ n, L.length = n := ⟨_, rfl⟩
  rw [hn] at hE h16 ⊢
  have hSl := hid (show S.length = n from hSp.length_eq.trans hn)
  have hSb := hid (show LnB 1000 S from fun x hx => hL.out x (hSp.mem_iff.1 hx))
  replace hE := hid hE
  replace hA := hid hA
  replace hSp := hid hSp
  replace hSs := hid hSs
  replace hn := hid hn
  go_wp2_with fail
  go_loopw [2, 3, 9] (fun hv lv ix wr => ∃ (k : Nat) (A D : Int), ix = .int .i64 k ∧ hv = .int .i64 A ∧ lv = .int .i64 D ∧ k ≤ n ∧ A = tH (S.take k) ∧ D = tL (S.take k) ∧ After V wr) (fun _ _ ix _ => n - (intOf ix).toNat)
  case atStart => exact ⟨0, 0, 0, rfl, rfl, rfl, by omega, rfl, rfl, Below.refl _ _⟩
  case round =>
    obtain ⟨k, A, D, rfl, rfl, rfl, hk, eA, eD, hAr⟩ := hrel
    by_cases hlt : (k : Int) < n
    case neg =>
      obtain rfl : k = n := by omega
      rw [List.take_of_length_le (by have := hSl.out; omega)] at eA eD
      have hAf := hid (bthen hA.out hAr)
      replace eA := hid eA
      replace eD := hid eD
      clear hAr
      go_wp2_with fail
      go_ret2
      rw [eA.out, eD.out]
      exact ⟨S, hSp.out, hSs.out, rfl, hAf.out⟩
    obtain ⟨x, hx⟩ : ∃ x, S[k]? = some x := ⟨_, List.getElem?_eq_getElem (by have := hSl.out; omega)⟩
    have hxk : (S.map enL)[k]? = some (enL x) := by rw [List.getElem?_map, hx]; rfl
    obtain ⟨e1, e2⟩ := tH_next hx
    have hbd := tHL_bd (S.take k) (hSb.out.take k)
    have hxb := hSb.out x (List.mem_of_getElem? hx)
    have htl : (S.take k).length ≤ k := by rw [List.length_take]; omega
    rw [← eA] at e1 hbd
    rw [← eD] at e2 hbd
    obtain ⟨b, o, rfl, g0, g1, g2, g3, g4⟩ := els5_at2 (hE.out.below hAr) hxk
    obtain ⟨xy, xc, xq, xh, xl⟩ := x
    dsimp only at e1 e2 hxb g0 g1 g2 g3 g4
    have wA : IntKind.i64.wrap (A + xh) = A + xh := by rw [IntKind.wrap_i64]; omega
    have wD : IntKind.i64.wrap (D + xl) = D + xl := by rw [IntKind.wrap_i64]; omega
    have kz : (0 : Int) ≤ k := by omega
    have wk : IntKind.i64.wrap ((k : Int) + 1) = (k : Int) + 1 := by rw [IntKind.wrap_i64]; omega
    have hk1 := hid (show k + 1 ≤ n by omega)
    have hms := hid (show n - (k + 1) < n - k by omega)
    replace e1 := hid e1.symm
    replace e2 := hid e2.symm
    clear hx hxk hk hbd hxb htl eA eD
    have nw := alloc_new wr (.cells #[.int .i64 xy, .int .i64 xc, .int .i64 xq, .int .i64 xh, .int .i64 xl] 43)
    go_upto_region 4 with (fail)
    obtain ⟨W4, hW4⟩ : ∃ X, wr.alloc (.cells #[.int .i64 xy, .int .i64 xc, .int .i64 xq, .int .i64 xh, .int .i64 xl] 43) = X := ⟨_, rfl⟩
    rw [hW4] at nw ⊢
    obtain ⟨pw, hpw⟩ : ∃ X, wr.heap.size = X := ⟨_, rfl⟩
    rw [hpw] at nw ⊢
    have hwh := nw.2.2
    have hA4 := hid (bthen hAr nw.2.1)
    have c3 := held_cell hwh 3 _ rfl
    have c4 := held_cell hwh 4 _ rfl
    replace hW4 := hid hW4
    replace hpw := hid hpw
    clear nw hwh hAr g0 g1 g2 g3 g4
    go_wp2_with fail
    go_roundw
    case rel => exact ⟨k + 1, A + xh, D + xl, by simp, rfl, rfl, hk1.out, e1.out, e2.out, hA4.out⟩
    case measure => simp [intOf]; have := hms.out; omega

end Go.Proofs.Ytjeiclfdhdcfnaa
