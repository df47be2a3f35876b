/- Package octet: a writer's Raw. -/
import Derived.Test.YtfcgeogooapmpaaOctet9
namespace Go.Proofs.Ytfcgeogooapmpaa
open Go.ChangeShapes Go.WideShapes Go.ChangeAt Go.RowKit Go.Shelf
set_option linter.unusedVariables false

set_option maxHeartbeats 1000000 in
theorem wraw_good (B base B0 : Nat) (zs ys : List Int) (ad : Option Addr) (len cap : Nat) (w : World) (hW : Wr B base w zs) (hl : zs.length ≤ 1000000) (hsl : Sl .u8 w ad len cap ys) (hll : len ≤ 1000000) (h1 : B0 ≤ B) (h2 : B0 ≤ base) (h3 : base ≤ w.heap.size) :
    Calls Try.prog 23 #[.pointer (some ⟨B, 0, none⟩), .slice ad len cap] w fun e w' => e = .returned (.tuple #[]) ∧ Wr B base w' (zs ++ ys) ∧ Bw B B0 w w' := by
  obtain ⟨a, cp, hH, hO⟩ := hW
  have k := wfail_good B _ w hH
  have c1 := held_cell hH 1 _ rfl
  have hly := hsl.1
  replace hly := hid hly
  go_enter Try.func23, Try.ntmps23
  go_wp2_with fail
  refine k.mono ?_
  rintro e w2 ⟨rfl, rfl⟩
  replace hO := hid hO
  replace hsl := hid hsl
  replace hH := hid hH
  go_wp2_with (at_builtin; refine wpList_appK rfl (.tmp 12) (.tmp 13) 22 rfl base 5 .u8 1 bytesOf (.slice a zs.length cp) zs rfl hO.out ad len cap ys rfl hsl.out (by simp; omega) (by decide) h3 ?_)
  intro a9 cp9 w9 hO9 hg9 hn9
  have hB9 := hO.out.grew hg9 (Below.refl _ w2) h2 (Nat.le_trans h2 h3)
  have hH9 := held_grown hH.out hg9 (own_ne hO.out hH.out (by decide))
  have hk9 : Owp B 1 w2 (w9.setCell ⟨B, 1, none⟩ (.slice a9 (zs.length + len) cp9)) := Owp.set hH9 (by simp) hg9 (fun k e => by rw [wown_at hH.out rfl]; exact e) (fun k e => by rw [wown_at hH.out rfl]; exact hn9 k e)
  clear hg9 hn9
  replace hk9 := hid hk9
  have c9 := held_cell hH9 1 _ rfl
  have f9 := held_free hH9 1
  replace hO9 := hid hO9
  replace hB9 := hid hB9
  go_wp2_with fail
  go_end0
  refine ⟨rfl, ⟨a9, cp9, ?_, ?_⟩, hB9.out.setCell (p := ⟨B, 1, none⟩) h1 _, hk9.out⟩
  · rw [List.length_append, hly.out]; exact held_set hH9 1 _
  · rw [List.length_append, hly.out]; exact hO9.out.oth hH9 (by decide) 1 _

end Go.Proofs.Ytfcgeogooapmpaa
