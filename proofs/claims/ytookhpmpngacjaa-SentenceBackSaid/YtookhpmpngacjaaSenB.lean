/- Package sentence: what is put is taken, what is taken is put. -/
import Derived.Test.YtookhpmpngacjaaSen6
namespace Go.Proofs.Ytookhpmpngacjaa
open Go.RowKit
set_option linter.unusedVariables false
set_option linter.unusedSimpArgs false

theorem dj_let : ∀ i, i < 16 → letN (dj i) = true := by decide
theorem jn_let : ∀ {fs : List (List Nat)}, (∀ f ∈ fs, ∀ c ∈ f, letN c = true) → ∀ c ∈ jn fs, letN c = true
  | [], _ => fun c hc => by cases hc
  | f :: fs, h => fun c hc => by
    rcases List.mem_cons.1 (show c ∈ 44 :: (f ++ jn fs) from hc) with rfl | hc
    · decide
    · rcases List.mem_append.1 hc with hc | hc
      · exact h f (by simp) c hc
      · exact jn_let (fun g hg => h g (List.mem_cons_of_mem _ hg)) c hc
theorem jn_len : ∀ F : List ByteArray, (jn (F.map sb)).length = sizeF F
  | [] => rfl
  | f :: fs => by
    show (44 :: (sb f ++ jn (fs.map sb))).length = 1 + f.size + sizeF fs
    rw [List.length_cons, List.length_append, sb_len, jn_len fs]; omega
theorem spl_in : ∀ (l : List Nat) (d : List (List Nat)) (cur : List Nat) (P : Nat → Prop), (∀ f ∈ d, ∀ c ∈ f, c ≠ 44 ∧ P c) → (∀ c ∈ cur, c ≠ 44 ∧ P c) → (∀ c ∈ l, P c) → ∀ f ∈ (l.foldl stpC (d, cur)).1 ++ [(l.foldl stpC (d, cur)).2], ∀ c ∈ f, c ≠ 44 ∧ P c
  | [], d, cur, P, h1, h2, _ => fun f hf c hc => by
    rcases List.mem_append.1 hf with hf | hf
    · exact h1 f hf c hc
    · rw [List.mem_singleton] at hf; subst hf; exact h2 c hc
  | x :: l, d, cur, P, h1, h2, h3 => by
    rw [List.foldl_cons]
    by_cases h : x = 44
    · rw [show stpC (d, cur) x = (d ++ [cur], []) from if_pos h]
      refine spl_in l _ _ P (fun f hf c hc => ?_) (fun c hc => by cases hc) (fun c hc => h3 c (List.mem_cons_of_mem _ hc))
      rcases List.mem_append.1 hf with hf | hf
      · exact h1 f hf c hc
      · rw [List.mem_singleton] at hf; subst hf; exact h2 c hc
    · rw [show stpC (d, cur) x = (d, cur ++ [x]) from if_neg h]
      refine spl_in l _ _ P h1 (fun c hc => ?_) (fun c hc => h3 c (List.mem_cons_of_mem _ hc))
      rcases List.mem_append.1 hc with hc | hc
      · exact h2 c hc
      · rw [List.mem_singleton] at hc; subst hc; exact ⟨h, h3 _ (by simp)⟩
theorem putN_inv {T K : ByteArray} {F : List ByteArray} {t : ByteArray} (h : putN T K F = (t, 0)) : (signsS T 2 = true ∧ signsS K 3 = true) ∧ okF F = true ∧ 11 + sizeF F ≤ 82 ∧ t = ⟨#[36]⟩ ++ sealT (joinF (T ++ K) F) ++ ⟨#[13, 10]⟩ := by
  unfold putN at h
  split at h
  · split at h
    · split at h
      · simp at h
      · rename_i h1 h2 h3
        exact ⟨h1, h2, by omega, (congrArg Prod.fst h).symm⟩
    · simp at h
  · simp at h
theorem take_app {a b : List Nat} {n : Nat} (h : a.length = n) : (a ++ b).take n = a := by rw [← h, List.take_left]
theorem drop_app {a b : List Nat} {n : Nat} (h : a.length = n) : (a ++ b).drop n = b := by rw [← h, List.drop_left]
/-- A text that is sealed as a sentence is, is taken. -/
theorem seal_take {T K : ByteArray} {F : List ByteArray} (hs : signsS T 2 = true ∧ signsS K 3 = true) (hf : okF F = true) (hz : 11 + sizeF F ≤ 82) (more : ByteArray) : takeN (⟨#[36]⟩ ++ sealT (joinF (T ++ K) F) ++ ⟨#[13, 10]⟩ ++ more) = ((T, K, F), 11 + sizeF F, 0) := by
  obtain ⟨hT, hTs⟩ := signsS_is.1 hs.1
  obtain ⟨hK, hKs⟩ := signsS_is.1 hs.2
  have hF : ∀ f ∈ F, ∀ c ∈ sb f, letN c = true ∧ c ≠ 44 := fun f h c hc => by
    unfold okF at hf
    rw [List.all_eq_true] at hf
    have := hf f h
    rw [List.all_eq_true] at this
    exact fldN_is.1 (this c hc)
  have hj : sb (joinF (T ++ K) F) = sb T ++ sb K ++ jn (F.map sb) := by rw [sb_joinF, sb_append]
  have jz : (joinF (T ++ K) F).size = 5 + sizeF F := by rw [joinF_size, ByteArray.size_append]; omega
  obtain ⟨j, hje⟩ : ∃ j, joinF (T ++ K) F = j := ⟨_, rfl⟩
  rw [hje] at hj jz ⊢
  obtain ⟨Sz, Sok, SV⟩ := open_sealT j
  have hS := sb_sealT j
  have hx := xorF_lt (sb j) 0 (by omega) (sb_lt j)
  obtain ⟨a, ha⟩ : ∃ a, xorF 0 (sb j) / 16 = a := ⟨_, rfl⟩
  obtain ⟨b, hb⟩ : ∃ b, xorF 0 (sb j) % 16 = b := ⟨_, rfl⟩
  have ha16 : a < 16 := by omega
  have hb16 : b < 16 := by omega
  rw [ha, hb] at hS
  obtain ⟨S, hSe⟩ : ∃ S, sealT j = S := ⟨_, rfl⟩
  rw [hSe] at Sz Sok SV hS ⊢
  have lT := sb_len T
  have lK := sb_len K
  have lS := sb_len S
  have ljn := jn_len F
  have hjl : ∀ c ∈ jn (F.map sb), letN c = true := jn_let (fun f h c hc => by
    obtain ⟨g, hg, rfl⟩ := List.mem_map.1 h
    exact (hF g hg c hc).1)
  have hSc : ∀ c ∈ sb S, c = 42 ∨ letN c = true := fun c hc => by
    rw [hS, hj] at hc
    rcases List.mem_append.1 hc with hc | hc
    · rcases List.mem_append.1 hc with hc | hc
      · rcases List.mem_append.1 hc with hc | hc
        · exact .inr (sign_let (hTs c hc))
        · exact .inr (sign_let (hKs c hc))
      · exact .inr (hjl c hc)
    · simp only [List.mem_cons, List.not_mem_nil, or_false] at hc
      rcases hc with rfl | rfl | rfl
      · exact .inl rfl
      · exact .inr (dj_let a ha16)
      · exact .inr (dj_let b hb16)
  have hzs : sb (⟨#[36]⟩ ++ S ++ ⟨#[13, 10]⟩ ++ more) = 36 :: (sb S ++ (13 :: 10 :: sb more)) := by
    rw [sb_append, sb_append, sb_append]
    show [36] ++ sb S ++ [13, 10] ++ sb more = _
    simp
  obtain ⟨t, ht⟩ : ∃ t, (⟨#[36]⟩ ++ S ++ ⟨#[13, 10]⟩ ++ more : ByteArray) = t := ⟨_, rfl⟩
  rw [ht] at hzs ⊢
  have g0 : (sb t).getD 0 0 = 36 := by rw [hzs]; rfl
  have gS : ∀ p, p < S.size → (sb t).getD (p + 1) 0 = (sb S).getD p 0 := fun p hp => by
    rw [hzs, List.getD_cons_succ, getD_app (by omega)]
  have g13 : (sb t).getD (S.size + 1) 0 = 13 := by
    rw [hzs, List.getD_cons_succ, List.getD_eq_getElem?_getD, List.getElem?_append_right (by omega), lS, Nat.sub_self]; rfl
  have g10 : (sb t).getD (S.size + 1 + 1) 0 = 10 := by
    rw [hzs, List.getD_cons_succ, List.getD_eq_getElem?_getD, List.getElem?_append_right (by omega), lS, show S.size + 1 - S.size = 1 by omega]; rfl
  have lt : (sb t).length = 1 + S.size + 2 + more.size := by
    rw [hzs]; simp [lS, sb_len]; omega
  have hl : lnF (sb t) 80 1 = (S.size + 1, 0) := lnF_run (by omega) g13 (n := S.size) (by omega) (by omega) (fun p h1 h2 => by
    have e := gS (p - 1) (by omega)
    rw [show p - 1 + 1 = p by omega] at e
    rw [e]
    refine hSc _ ?_
    rw [List.getD_eq_getElem?_getD, List.getElem?_eq_getElem (by omega)]
    exact List.getElem_mem _)
  have hln := lineN_run g0 hl (by omega) g13 g10
  have hex : t.extract 1 (S.size + 1) = S := sb_inj (by
    rw [sb_extract, hzs, List.drop_succ_cons, List.drop_zero, show S.size + 1 - 1 = S.size by omega]
    exact take_app lS)
  have hP : formP S := by
    have hop := (opn_is S j.size Sz).1 (of_decide_eq_true (show decide (opnP S) = true from Sok))
    have e5 : sb (S.extract 0 5) = sb T ++ sb K := by
      rw [sb_extract, List.drop_zero, hS, hj, List.append_assoc, List.append_assoc, ← List.append_assoc (sb T)]
      exact take_app (by rw [List.length_append]; omega)
    have er : sb (S.extract 5 j.size) = jn (F.map sb) := by
      rw [sb_extract, hS, hj, List.append_assoc (sb T ++ sb K), drop_app (by rw [List.length_append]; omega)]
      exact take_app (by omega)
    refine ⟨by omega, by rw [show S.size - 3 = j.size by omega]; exact hop.1, by rw [show S.size - 2 = j.size + 1 by omega, Sz]; exact hop.2.1, ?_, ?_, ?_⟩
    · rw [signsS_is]
      refine ⟨by rw [size_of_sb e5, List.length_append]; omega, fun c hc => ?_⟩
      rw [e5] at hc
      rcases List.mem_append.1 hc with hc | hc
      · exact hTs c hc
      · exact hKs c hc
    · rw [show S.size - 3 = j.size by omega, er, List.all_eq_true]
      exact hjl
    · cases F with
      | nil => left; simp [sizeF] at jz; omega
      | cons f fs =>
        right
        rw [hS, hj, List.append_assoc, List.getD_eq_getElem?_getD, List.getElem?_append_right (by rw [List.length_append]; omega), List.length_append, lT, lK, hT, hK]
        rfl
  have hof : ofS j = (T, K, F) := by
    have e1 : j.extract 0 2 = T := sb_inj (by
      rw [sb_extract, List.drop_zero, hj, List.append_assoc]
      exact take_app (by omega))
    have e2 : j.extract 2 5 = K := sb_inj (by
      rw [sb_extract, hj, List.append_assoc, drop_app (by omega)]
      exact take_app (by omega))
    unfold ofS
    rw [e1, e2]
    cases F with
    | nil => simp [sizeF] at jz; rw [if_neg (by omega)]
    | cons f fs =>
      have e6 : sb (j.extract 6 j.size) = sb f ++ jn (fs.map sb) := by
        rw [sb_extract, List.take_of_length_le (by rw [List.length_drop, sb_len]; exact Nat.le_refl _), hj]
        rw [show 6 = 5 + 1 from rfl, ← List.drop_drop, drop_app (by rw [List.length_append]; omega)]
        rfl
      have e7 : fieldsN (j.extract 6 j.size) = f :: fs := map_sb_inj (by
        rw [fieldsN_sb, e6]
        exact spl_fs (fun g hg c hc => by
          obtain ⟨x, hx, rfl⟩ := List.mem_map.1 (show g ∈ (f :: fs).map sb from hg)
          exact (hF x hx c hc).2))
      have : 5 < j.size := by rw [jz]; show 5 < 5 + (1 + f.size + sizeF fs); omega
      rw [if_pos this, e7]
  rw [takeN_ok hln (by rw [hex]; exact hP) (by rw [hex]; exact Sok), hex, SV, hof]
  rw [show S.size + 1 + 2 = 11 + sizeF F by omega]
  rfl
theorem put_take {T K : ByteArray} {F : List ByteArray} {t : ByteArray} (h : putN T K F = (t, 0)) (more : ByteArray) : takeN (t ++ more) = ((T, K, F), t.size, 0) ∧ t.size ≤ 82 := by
  obtain ⟨h1, h2, h3, rfl⟩ := putN_inv h
  have e : (⟨#[36]⟩ ++ sealT (joinF (T ++ K) F) ++ ⟨#[13, 10]⟩ : ByteArray).size = 11 + sizeF F := by
    have a := joinF_size F (T ++ K)
    have hT := (signsS_is.1 h1.1).1
    have hK := (signsS_is.1 h1.2).1
    rw [ByteArray.size_append, ByteArray.size_append, (open_sealT _).1, a, ByteArray.size_append]
    show 1 + (T.size + K.size + sizeF F + 3) + 2 = _
    omega
  rw [e]
  exact ⟨seal_take h1 h2 h3 more, h3⟩
theorem app_nil (t : ByteArray) : t ++ ⟨#[]⟩ = t := sb_inj (by rw [sb_append]; exact List.append_nil _)
theorem put_take0 {T K : ByteArray} {F : List ByteArray} {t : ByteArray} (h : putN T K F = (t, 0)) : takeN t = ((T, K, F), t.size, 0) := by
  have := (put_take h ⟨#[]⟩).1
  rwa [app_nil] at this
set_option maxHeartbeats 1000000 in
theorem take_put {t : ByteArray} {r : Snt} {k : Nat} (h : takeN t = (r, k, 0)) : ∃ u, putN r.1 r.2.1 r.2.2 = (u, 0) ∧ u.size = k ∧ k ≤ t.size ∧ 4 ≤ k ∧ k ≤ 82 ∧ u.extract 0 (k - 4) = t.extract 0 (k - 4) := by
  unfold takeN at h
  split at h
  case isFalse h0 => simp at h; exact absurd h.2.2 h0
  rename_i h0
  obtain ⟨i, hi⟩ : ∃ i, (lineN (sb t)).1 = i := ⟨_, rfl⟩
  have hl : lineN (sb t) = (i, 0) := by rw [← hi, ← h0]
  rw [hl] at h
  dsimp only at h
  split at h
  case isFalse => simp at h
  rename_i hP
  split at h
  case isFalse => simp at h
  rename_i hO
  simp only [Prod.mk.injEq, and_true] at h
  obtain ⟨rfl, rfl⟩ := h
  obtain ⟨l1, l2, l3, l4⟩ := line_in hl
  obtain ⟨o1, o2⟩ := opn_size hO
  have h36 := (lineN_ok hl).1
  have hSz : (t.extract 1 i).size = i - 1 := by rw [ByteArray.size_extract]; omega
  have hSt : sb (t.extract 1 i) = ((sb t).drop 1).take (i - 1) := sb_extract t 1 i
  obtain ⟨S, hS⟩ : ∃ S, t.extract 1 i = S := ⟨_, rfl⟩
  rw [hS] at hP hO o1 o2 hSz hSt l4 ⊢
  obtain ⟨p1, p2, p3, p4, p5, p6⟩ := hP
  obtain ⟨n, hn⟩ : ∃ n, S.size = n + 3 := ⟨S.size - 3, by omega⟩
  rw [show S.size - 3 = n by omega] at o1 p2 p5
  have lS := sb_len S
  have lt := sb_len t
  have hUs : sb (opnV S) = (sb S).take n := by rw [o1, sb_extract, List.drop_zero]; rfl
  have hUz : (opnV S).size = n := by rw [o1, ByteArray.size_extract]; omega
  obtain ⟨U, hU⟩ : ∃ U, opnV S = U := ⟨_, rfl⟩
  rw [hU] at hUs hUz ⊢
  have lU := sb_len U
  have e5 : sb (S.extract 0 5) = (sb U).take 5 := by
    rw [sb_extract, List.drop_zero, hUs, List.take_take]; congr 1; omega
  have hsg := (signsS_is.1 p4).2
  rw [e5] at hsg
  have eT : sb (U.extract 0 2) = (sb U).take 2 := by rw [sb_extract]; rfl
  have eK : sb (U.extract 2 5) = ((sb U).drop 2).take 3 := sb_extract U 2 5
  have hsT : signsS (U.extract 0 2) 2 = true := by
    rw [signsS_is]
    refine ⟨by rw [size_of_sb eT, List.length_take]; omega, fun c hc => hsg c ?_⟩
    rw [eT] at hc
    rw [show 5 = 2 + 3 from rfl, List.take_add]
    exact List.mem_append_left _ hc
  have hsK : signsS (U.extract 2 5) 3 = true := by
    rw [signsS_is]
    refine ⟨by rw [size_of_sb eK, List.length_take, List.length_drop]; omega, fun c hc => hsg c ?_⟩
    rw [eK] at hc
    rw [show 5 = 2 + 3 from rfl, List.take_add]
    exact List.mem_append_right _ hc
  have e5n : sb (S.extract 5 n) = (sb U).drop 5 := by rw [sb_extract, hUs, List.drop_take]
  rw [e5n, List.all_eq_true] at p5
  obtain ⟨F, hF⟩ : ∃ F, (if 5 < U.size then fieldsN (U.extract 6 U.size) else []) = F := ⟨_, rfl⟩
  have hof : ofS U = (U.extract 0 2, U.extract 2 5, F) := by unfold ofS; rw [hF]
  have hjF : jn (F.map sb) = (sb U).drop 5 ∧ ∀ f ∈ F, ∀ c ∈ sb f, c ≠ 44 ∧ letN c = true := by
    by_cases c5 : 5 < U.size
    · rw [if_pos c5] at hF
      have e6 : sb (U.extract 6 U.size) = (sb U).drop 6 := by
        rw [sb_extract, List.take_of_length_le (by rw [List.length_drop, lU]; exact Nat.le_refl _)]
      have h44 : (sb U).getD 5 0 = 44 := by
        rcases p6 with p6 | p6
        · omega
        · rw [hUs, List.getD_eq_getElem?_getD, List.getElem?_take, if_pos (by omega), ← List.getD_eq_getElem?_getD]; exact p6
      have ed : (sb U).drop 5 = 44 :: (sb U).drop 6 := by
        rw [List.drop_eq_getElem_cons (by omega)]
        rw [List.getD_eq_getElem?_getD, List.getElem?_eq_getElem (by omega)] at h44
        have a : (sb U)[5] = 44 := h44
        rw [a]
      rw [← hF]
      refine ⟨by rw [fieldsN_sb, jn_spl, e6, ed], fun f hf c hc => ?_⟩
      have hm : sb f ∈ splL (sb (U.extract 6 U.size)) := by rw [← fieldsN_sb]; exact List.mem_map_of_mem hf
      exact spl_in _ [] [] (fun c => letN c = true) (fun f hf => by cases hf) (fun c hc => by cases hc) (fun c hc => p5 c (by rw [ed, ← e6]; exact List.mem_cons_of_mem _ hc)) _ hm c hc
    · rw [if_neg c5] at hF
      rw [← hF]
      exact ⟨by rw [List.drop_of_length_le (by omega)]; rfl, fun f hf => by cases hf⟩
  have hok : okF F = true := by
    unfold okF
    rw [List.all_eq_true]
    intro f hf
    rw [List.all_eq_true]
    intro c hc
    have := hjF.2 f hf c hc
    exact fldN_is.2 ⟨this.2, this.1⟩
  have hjn : joinF (U.extract 0 2 ++ U.extract 2 5) F = U := sb_inj (by
    rw [sb_joinF, sb_append, eT, eK, hjF.1]
    conv => rhs; rw [← List.take_append_drop 5 (sb U), show 5 = 2 + 3 from rfl, List.take_add])
  have hsz : sizeF F = n - 5 := by rw [← jn_len, hjF.1, List.length_drop]; omega
  have hput := putN_ok (T := U.extract 0 2) (K := U.extract 2 5) ⟨hsT, hsK⟩ hok (by omega)
  rw [hjn] at hput
  have huz : (⟨#[36]⟩ ++ sealT U ++ ⟨#[13, 10]⟩ : ByteArray).size = i + 2 := by
    rw [ByteArray.size_append, ByteArray.size_append, (open_sealT U).1]
    show 1 + (U.size + 3) + 2 = i + 2
    omega
  refine ⟨_, by rw [hof]; exact hput, huz, by omega, by omega, by omega, sb_inj ?_⟩
  rw [sb_extract, sb_extract, List.drop_zero, List.drop_zero, sb_append, sb_append, sb_sealT]
  rw [show i + 2 - 4 - 0 = (n + 1) + 1 by omega]
  have et : sb t = 36 :: (sb t).drop 1 := by
    have : 0 < (sb t).length := by omega
    conv => lhs; rw [← List.drop_zero (l := sb t), List.drop_eq_getElem_cons this]
    rw [List.getD_eq_getElem?_getD, List.getElem?_eq_getElem this] at h36
    have a : (sb t)[0] = 36 := h36
    rw [a]
  rw [et]
  show (36 :: (sb U ++ _ ++ _)).take (n + 1 + 1) = _
  rw [List.take_succ_cons, List.take_succ_cons]
  congr 1
  have e1 : ((sb t).drop 1).take (n + 1) = (sb S).take (n + 1) := by rw [hSt, List.take_take]; congr 1; omega
  rw [List.getD_eq_getElem?_getD, List.getElem?_eq_getElem (by omega)] at p2
  have a : (sb S)[n] = 42 := p2
  have e2 : (sb S).take (n + 1) = sb U ++ [42] := by
    rw [List.take_add_one, List.getElem?_eq_getElem (by omega), a, ← hUs]; rfl
  rw [e1, e2, List.append_assoc]
  have key : ∀ (A B : List Nat), A.length = n → (A ++ (42 :: B)).take (n + 1) = A ++ [42] := fun A B hA => by
    rw [List.take_append, List.take_of_length_le (by omega), show n + 1 - A.length = 1 by omega]; rfl
  exact key (sb U) _ (by omega)
theorem take_more {t : ByteArray} (more : ByteArray) (h : (takeN t).2.2 ≠ 2) : takeN (t ++ more) = takeN t := by
  have h2 : (lineN (sb t)).2 ≠ 2 := fun e => h (by rw [takeN_line rfl (by rw [e]; simp)]; exact e)
  have hl := lineN_pre (zs := sb t) (ys := sb more) h2
  rw [← sb_append] at hl
  obtain ⟨⟨i, e⟩, hi⟩ : ∃ r, lineN (sb t) = r := ⟨_, rfl⟩
  rw [hi] at hl
  by_cases h0 : e = 0
  · subst h0
    have l2 := (line_in hi).2.1
    have ex : (t ++ more).extract 1 i = t.extract 1 i := sb_inj (by
      rw [sb_extract, sb_extract, sb_append, List.drop_append_of_le_length (by rw [sb_len]; omega), List.take_append_of_le_length (by rw [List.length_drop, sb_len]; omega)])
    unfold takeN
    rw [hl, hi]
    dsimp only
    rw [ex]
  · rw [takeN_line hl h0, takeN_line hi h0]

end Go.Proofs.Ytookhpmpngacjaa
