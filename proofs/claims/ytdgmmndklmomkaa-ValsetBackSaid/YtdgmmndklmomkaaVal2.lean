/- Package valset: sizes, fields, pairs. -/
import Derived.Test.YtdgmmndklmomkaaVal
import Derived.Test.YtdgmmndklmomkaaKS4
import Derived.Test.YtdgmmndklmomkaaEls
import Derived.Test.YtdgmmndklmomkaaKO5
import Derived.Laws.OwnMore
import Derived.Deep.DeepCutAuto
namespace Go.Proofs.Ytdgmmndklmomkaa
open Go.ChangeShapes Go.WideShapes Go.ChangeAt Go.RowKit
set_option linter.unusedVariables false
set_option linter.unusedSimpArgs false

set_option maxRecDepth 100000 in
set_option maxHeartbeats 2000000 in
theorem vsize_any (key : Int) (w : World) (h1 : -9223372036854775808 ≤ key) (h2 : key ≤ 9223372036854775807) : Calls Try.prog 9 #[.int .i64 key] w fun e w' => e = .returned (.tuple #[.int .i64 (szT (kindS key)), .bool (decide (kindS key ≠ 0))]) ∧ After w w' := by
  have kf := hid (fun W : World => of_any key W h1 h2)
  clear h1 h2
  generalize kindS key = d at *
  obtain ⟨b, hb⟩ : ∃ b, decide (d ≠ 0) = b := ⟨_, rfl⟩
  have hv : ofV d = .tuple #[.agg #[.int .i64 (szT d), .int .i64 (moT d)], .bool b] := by rw [← hb]; rfl
  rw [hv] at kf
  rw [hb]
  clear hv hb
  generalize szT d = s at *
  generalize moT d = m at *
  go_enter Try.func9, Try.ntmps9
  go_wp2_with fail
  refine (kf.out _).mono ?_
  rintro e V ⟨rfl, hA⟩
  have hA2 := hid (balloc hA (Nat.le_refl _) (.cells #[.int .i64 s, .int .i64 m] 52))
  clear hA
  go_wp2_with fail
  go_ret2
  exact ⟨rfl, hA2.out⟩
set_option maxRecDepth 100000 in
set_option maxHeartbeats 2000000 in
theorem vmost_any (key : Int) (w : World) (h1 : -9223372036854775808 ≤ key) (h2 : key ≤ 9223372036854775807) : Calls Try.prog 14 #[.int .i64 key] w fun e w' => e = .returned (.int .i64 (moT (kindS key))) ∧ After w w' := by
  have kf := hid (fun W : World => of_any key W h1 h2)
  clear h1 h2
  generalize kindS key = d at *
  obtain ⟨b, hb⟩ : ∃ b, decide (d ≠ 0) = b := ⟨_, rfl⟩
  have hv : ofV d = .tuple #[.agg #[.int .i64 (szT d), .int .i64 (moT d)], .bool b] := by rw [← hb]; rfl
  rw [hv] at kf
  skip
  clear hv hb
  generalize szT d = s at *
  generalize moT d = m at *
  go_enter Try.func14, Try.ntmps14
  go_wp2_with fail
  refine (kf.out _).mono ?_
  rintro e V ⟨rfl, hA⟩
  have hA2 := hid (balloc hA (Nat.le_refl _) (.cells #[.int .i64 s, .int .i64 m] 52))
  clear hA
  go_wp2_with fail
  go_ret
  exact ⟨rfl, hA2.out⟩
set_option maxRecDepth 100000 in
set_option maxHeartbeats 2000000 in
theorem rkind_any (key : Int) (w : World) (h1 : -9223372036854775808 ≤ key) (h2 : key ≤ 9223372036854775807) : Calls Try.prog 29 #[.int .i64 key] w fun e w' => e = .returned (.int .i64 (kindS key)) ∧ w' = w := by
  by_cases co : key < 0
  case pos =>
    have hk := hid (kindS_lo co)
    go_enter Try.func29, Try.ntmps29
    go_wp2_with fail
    go_ret
    exact ⟨by rw [hk.out]; rfl, rfl⟩
  by_cases ci : 2147483647 < key
  case pos =>
    have hk := hid (kindS_hi ci)
    go_enter Try.func29, Try.ntmps29
    go_wp2_with fail
    go_ret
    exact ⟨by rw [hk.out]; rfl, rfl⟩
  obtain ⟨K, rfl⟩ := Int.eq_ofNat_of_zero_le (show 0 ≤ key by omega)
  have hK : K ≤ 2147483647 := by omega
  obtain ⟨d, hd⟩ : ∃ d, K / 268435456 = d := ⟨_, rfl⟩
  have hk := kindS_at hK hd
  have hq : (K : Int).tdiv 268435456 = (d : Int) := by rw [← hd]; rfl
  have hq2 : (K : Int) / 268435456 = (d : Int) := by rw [← hd]; rfl
  have wd : IntKind.i64.wrap (d : Int) = d := by rw [IntKind.wrap_i64]; omega
  clear h1 h2
  by_cases h5 : d ≤ 5
  · rw [if_pos h5] at hk
    replace hk := hid hk
    have h6 : ¬ ((5 : Int) < d) := by omega
    go_enter Try.func29, Try.ntmps29
    go_wp2_with fail
    go_ret
    exact ⟨by rw [hk.out]; rfl, rfl⟩
  · rw [if_neg h5] at hk
    replace hk := hid hk
    have h6 : (5 : Int) < d := by omega
    go_enter Try.func29, Try.ntmps29
    go_wp2_with fail
    go_ret
    exact ⟨by rw [hk.out]; rfl, rfl⟩
set_option maxRecDepth 100000 in
set_option maxHeartbeats 2000000 in
theorem vrsize_any (key : Int) (w : World) (h1 : -9223372036854775808 ≤ key) (h2 : key ≤ 9223372036854775807) : Calls Try.prog 10 #[.int .i64 key] w fun e w' => e = .returned (.tuple #[.int .i64 (szT (kindS key)), .bool (decide (kindS key ≠ 0))]) ∧ After w w' := by
  have kf := hid (fun W : World => rkind_any key W h1 h2)
  have h5 := kindS_le key
  clear h1 h2
  generalize kindS key = d at *
  have hA2 := hid (alloc_new w (.cells #[.int .i64 0, .int .i64 1, .int .i64 1, .int .i64 2, .int .i64 4, .int .i64 8] 59)).2.1
  have h8 : d = 0 ∨ d = 1 ∨ d = 2 ∨ d = 3 ∨ d = 4 ∨ d = 5 := by omega
  clear h5
  rcases h8 with rfl | rfl | rfl | rfl | rfl | rfl
  all_goals
    go_enter Try.func10, Try.ntmps10
    go_wp2_with fail
    refine (kf.out _).mono ?_
    rintro e V ⟨rfl, rfl⟩
    go_wp2_with fail
    go_ret2
    exact ⟨rfl, hA2.out⟩
set_option maxRecDepth 100000 in
set_option maxHeartbeats 2000000 in
theorem vrmost_any (key : Int) (w : World) (h1 : -9223372036854775808 ≤ key) (h2 : key ≤ 9223372036854775807) : Calls Try.prog 15 #[.int .i64 key] w fun e w' => e = .returned (.int .i64 (moT (kindS key))) ∧ After w w' := by
  have kf := hid (fun W : World => rkind_any key W h1 h2)
  have h5 := kindS_le key
  clear h1 h2
  generalize kindS key = d at *
  have hA2 := hid (alloc_new w (.cells #[.int .i64 0, .int .i64 1, .int .i64 255, .int .i64 65535, .int .i64 4294967295, .int .i64 9223372036854775807] 61)).2.1
  have h8 : d = 0 ∨ d = 1 ∨ d = 2 ∨ d = 3 ∨ d = 4 ∨ d = 5 := by omega
  clear h5
  rcases h8 with rfl | rfl | rfl | rfl | rfl | rfl
  all_goals
    go_enter Try.func15, Try.ntmps15
    go_wp2_with fail
    refine (kf.out _).mono ?_
    rintro e V ⟨rfl, rfl⟩
    go_wp2_with fail
    go_ret
    exact ⟨rfl, hA2.out⟩
def HL : List Fd := [⟨1, false, 0, 0⟩, ⟨1, false, 0, 7⟩, ⟨2, false, 0, 0⟩]
theorem row_lit (k : IntKind) (E : TypeId) (w : World) (zs : List Int) (c : Array Value) (n p : Nat) (hc : c = (zs.map (Value.int k)).toArray) (hn : zs.length = n) (hm : n ≤ maxLen) (hp : p = w.heap.size) : Sl k (w.alloc (.cells c E)) (some ⟨p, 0, none⟩) n n zs := by
  subst hc hn hp
  exact Row.sl (show Row k E (w.alloc (.cells (zs.map (Value.int k)).toArray E)) w.heap.size zs from (alloc_new w _).2.2) hm
set_option maxRecDepth 100000 in
set_option maxHeartbeats 2000000 in
theorem fieldsV_any (w : World) : Calls Try.prog 20 #[] w (FdOk w HL) := by
  have e0 : uV 1 0 = .agg #[.int .i64 1, .bool false, .int .i64 0, .int .i64 0] := rfl
  have e1 : uV 1 7 = .agg #[.int .i64 1, .bool false, .int .i64 0, .int .i64 7] := rfl
  have e2 : uV 2 0 = .agg #[.int .i64 2, .bool false, .int .i64 0, .int .i64 0] := rfl
  replace e0 := hid e0
  replace e1 := hid e1
  replace e2 := hid e2
  go_enter Try.func20, Try.ntmps20
  go_wp2_with fail
  refine (u_any 1 0 _).mono ?_
  rintro e w1 ⟨rfl, hA1⟩
  replace hA1 := hid hA1
  rw [e0.out]
  go_wp2_with fail
  refine (u_any 1 7 _).mono ?_
  rintro e w2 ⟨rfl, hA2⟩
  replace hA2 := hid hA2
  rw [e1.out]
  go_wp2_with fail
  refine (u_any 2 0 _).mono ?_
  rintro e w3 ⟨rfl, hA3⟩
  replace hA3 := hid hA3
  rw [e2.out]
  skip
  have hB := hid (bthen (bthen hA1.out hA2.out) hA3.out)
  clear hA1 hA2 hA3
  have hF := hid (flds_block (l := HL) (alloc_new w3 (.cells #[.int .i64 1, .bool false, .int .i64 0, .int .i64 0, .int .i64 1, .bool false, .int .i64 0, .int .i64 7, .int .i64 2, .bool false, .int .i64 0, .int .i64 0] 74)).2.2 rfl (by decide))
  have hB9 := hid (balloc hB.out (Nat.le_refl _) (.cells #[.int .i64 1, .bool false, .int .i64 0, .int .i64 0, .int .i64 1, .bool false, .int .i64 0, .int .i64 7, .int .i64 2, .bool false, .int .i64 0, .int .i64 0] 74))
  clear hB
  go_wp2_with fail
  go_ret
  exact ⟨_, 3, rfl, hF.out, hB9.out⟩
set_option maxRecDepth 100000 in
set_option maxHeartbeats 2000000 in
theorem rfieldsV_any (w : World) : Calls Try.prog 27 #[] w (FdOk w HL) := by
  have e0 : uV 1 0 = .agg #[.int .i64 1, .bool false, .int .i64 0, .int .i64 0] := rfl
  have e1 : uV 1 7 = .agg #[.int .i64 1, .bool false, .int .i64 0, .int .i64 7] := rfl
  have e2 : uV 2 0 = .agg #[.int .i64 2, .bool false, .int .i64 0, .int .i64 0] := rfl
  replace e0 := hid e0
  replace e1 := hid e1
  replace e2 := hid e2
  go_enter Try.func27, Try.ntmps27
  go_wp2_with fail
  have hB := hid (After.refl w)
  have hF := hid (flds_block (l := HL) (alloc_new w (.cells #[.int .i64 1, .bool false, .int .i64 0, .int .i64 0, .int .i64 1, .bool false, .int .i64 0, .int .i64 7, .int .i64 2, .bool false, .int .i64 0, .int .i64 0] 74)).2.2 rfl (by decide))
  have hB9 := hid (balloc hB.out (Nat.le_refl _) (.cells #[.int .i64 1, .bool false, .int .i64 0, .int .i64 0, .int .i64 1, .bool false, .int .i64 0, .int .i64 7, .int .i64 2, .bool false, .int .i64 0, .int .i64 0] 74))
  clear hB
  go_wp2_with fail
  go_ret
  exact ⟨_, 3, rfl, hF.out, hB9.out⟩
theorem pairO : CellsOf Try.prog 22 43 2 16 := ⟨Try.underlying22, by kernel_rfl⟩
def prV (x : Int × Int) : List Value := [.int .i64 x.1, .int .i64 x.2]
def prsV (l : List (Int × Int)) : List (List Value) := l.map prV
theorem prsV_m (l : List (Int × Int)) : ∀ x ∈ prsV l, x.length = 2 := fun x hx => by obtain ⟨y, _, rfl⟩ := List.mem_map.1 hx; rfl
theorem prsV_1 (l : List (Int × Int)) : ∀ y ∈ prsV l, ∀ u ∈ y, u.oneCell' = true := fun x hx u hu => by
  obtain ⟨y, _, rfl⟩ := List.mem_map.1 hx
  simp only [prV, List.mem_cons, List.not_mem_nil, or_false] at hu
  rcases hu with rfl | rfl <;> rfl
theorem prsV_at {l : List (Int × Int)} {k : Nat} {x : Int × Int} (h : l[k]? = some x) : (prsV l)[k]? = some [.int .i64 x.1, .int .i64 x.2] := by
  simp [prsV, h, prV]
/-- One pair's error; its bytes. -/
def okK (x : Int × Int) : Int := if kindS x.1 = 0 then 6 else if x.2 < 0 ∨ moT (kindS x.1) < x.2 then 5 else 0
def pB (x : Int × Int) : List Int := bytesL x.1 4 ++ bytesL x.2 (szT (kindS x.1)).toNat
def errS : List (Int × Int) → Int
  | [] => 0
  | x :: l => if okK x = 0 then errS l else okK x
def catS (l : List (Int × Int)) : List Int := l.flatMap pB
def putVS (layers : Int) (l : List (Int × Int)) : List Int × Int :=
  if 32 < l.length then ([], 7) else if (putL HL [0, layers, 0]).2 ≠ 0 then ([], (putL HL [0, layers, 0]).2) else if errS l = 0 then ((putL HL [0, layers, 0]).1 ++ catS l, 0) else ([], errS l)
theorem errS_at {l : List (Int × Int)} {k : Nat} {x : Int × Int} (hx : l[k]? = some x) : errS (l.drop k) = if okK x = 0 then errS (l.drop (k + 1)) else okK x := by
  obtain ⟨h, rfl⟩ := List.getElem?_eq_some_iff.1 hx
  rw [List.drop_eq_getElem_cons h]; rfl
theorem catS_at {l : List (Int × Int)} {k : Nat} {x : Int × Int} (hx : l[k]? = some x) : catS (l.take (k + 1)) = catS (l.take k) ++ pB x := by
  obtain ⟨h, rfl⟩ := List.getElem?_eq_some_iff.1 hx
  unfold catS
  rw [List.take_succ_eq_append_getElem h, List.flatMap_append]
  simp
theorem okK_bad {x : Int × Int} (h : kindS x.1 = 0) : okK x = 6 := by unfold okK; rw [if_pos h]
theorem okK_rng {x : Int × Int} (h : kindS x.1 ≠ 0) (h2 : x.2 < 0 ∨ moT (kindS x.1) < x.2) : okK x = 5 := by unfold okK; rw [if_neg h, if_pos h2]
theorem okK_ok {x : Int × Int} (h : kindS x.1 ≠ 0) (h2 : 0 ≤ x.2) (h3 : x.2 ≤ moT (kindS x.1)) : okK x = 0 := by unfold okK; rw [if_neg h, if_neg (by omega)]
theorem errS_e (l : List (Int × Int)) : 0 ≤ errS l ∧ errS l ≤ 6 := by
  induction l with
  | nil => simp [errS]
  | cons x l ih =>
    unfold errS
    split
    · exact ih
    · unfold okK; split
      · omega
      · split <;> omega
theorem kind_bd {key : Int} (h : kindS key ≠ 0) : 268435456 ≤ key ∧ key ≤ 1610612735 ∧ (kindS key : Int) = key / 268435456 := by
  unfold kindS at *
  split at h
  · rename_i h2; rw [if_pos h2]; omega
  · exact absurd rfl h
theorem sz_mo {d : Nat} (h0 : d ≠ 0) (h5 : d ≤ 5) : 1 ≤ szT d ∧ szT d ≤ 8 ∧ 0 ≤ moT d ∧ moT d < 256 ^ (szT d).toNat ∧ moT d ≤ 9223372036854775807 := by
  have h8 : d = 1 ∨ d = 2 ∨ d = 3 ∨ d = 4 ∨ d = 5 := by omega
  rcases h8 with rfl | rfl | rfl | rfl | rfl <;> decide
theorem catS_len (l : List (Int × Int)) : (catS l).length ≤ 12 * l.length := by
  unfold catS
  induction l with
  | nil => simp
  | cons x l ih =>
    rw [List.flatMap_cons, List.length_append, List.length_cons]
    have : (pB x).length ≤ 12 := by
      unfold pB
      rw [List.length_append, bytesL_len, bytesL_len]
      by_cases h : kindS x.1 = 0
      · rw [h]; decide
      · have := sz_mo h (kindS_le _); omega
    omega
/-- A block of another type stays where a writer writes. -/
theorem wst_held {B base B0 q : Nat} {w w' : World} {zs : List Int} {c : Array Value} {T : TypeId} (hW : WSt B base w zs false) (hq : w.heap[q]? = some (.cells c T (0, 0))) (hT : T ≠ 5) (hne : q ≠ B) (hB : Bw B B0 w w') : w'.heap[q]? = some (.cells c T (0, 0)) := by
  refine (hB.2.block q (held_lt hq) hne fun e => ?_).trans hq
  obtain ⟨_, _, a, cap, hH, hO⟩ := hW
  rw [wown_at hH (j := 1) (v := .slice a zs.length cap) rfl] at e
  rcases hO.2 with ⟨h, _⟩ | ⟨g, c2, cur, h, _, hg, _⟩
  · rw [h] at e; cases e
  · rw [h] at e
    have e2 : q = g := Option.some.inj e
    subst e2
    rw [hq] at hg; cases hg; exact hT rfl
theorem wst_new {B base : Nat} {w : World} (hM : w.heap[B]? = some (.cells #[.bool true, .slice none 0 0, .bool false] 87 (0, 0))) (hb : base ≤ w.heap.size) : WSt B base w [] false := ⟨held_lt hM, hb, none, 0, hM, Own.nil _ _ _ _⟩

end Go.Proofs.Ytdgmmndklmomkaa
