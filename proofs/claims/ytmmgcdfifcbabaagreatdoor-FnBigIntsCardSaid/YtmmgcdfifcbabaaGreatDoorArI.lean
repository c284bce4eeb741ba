/-
  'impl.NatAdd', 'impl.NatSub', 'impl.NatMul'.
-/
import Derived.Test.YtmmgcdfifcbabaaGreatDoorRows2
namespace Go.Proofs.YtmmgcdfifcbabaaGreatDoor
open Go.ChangeShapes Go.WideShapes Go.ChangeAt Go.RowKit
open Go.ChangeMaps (open_string shut_string)
set_option linter.unusedVariables false
set_option linter.unusedSimpArgs false

theorem MadeI.after {B : Nat} {L : List Int} {w w1 w2 : World} {e : Ending} (h : MadeI B L w1 e w2) (hb : Below w.heap.size w w1) : MadeI B L w e w2 := by
  obtain ⟨A, c, he, hc, ho, hb2⟩ := h
  exact ⟨A, c, he, hc, ho, bt hb hb2⟩
theorem MadeI.nil (B : Nat) (w : World) : MadeI B [] w (.returned (.slice none 0 0)) w := ⟨none, 0, rfl, Nat.le_refl _, .inl rfl, Below.refl _ _⟩
theorem below_g {w w1 w2 : World} {g : Nat} (h1 : Below w.heap.size w w1) (hg : w.heap.size ≤ g) (h : w1.grownBy w2 (some g)) : Below w.heap.size w w2 :=
  h1.trans (below_of_grown h h1.size (fun g' e => by injection e with e; omega))
/-- What came in lies in another block than what was made. -/
theorem RdS.apart {w : World} {A : Option Addr} {l : List Int} {g : Nat} (h : RdS w A (vi l)) (hg : w.heap.size ≤ g) : 0 < l.length → ∀ b o, A = some ⟨b, o, none⟩ → b ≠ g := by
  intro h0 b o e
  obtain ⟨b', o', ha, hb, _⟩ := h.block (by rw [vi_length]; exact h0)
  rw [e] at ha
  injection ha with ha
  injection ha with h1 h2
  omega
theorem copy_int (v : Nat) (A : Option Addr) (n c e : Nat) (x : Int) (w : World) (hx : x = (e : Int)) (hl : ln v = n) (hn : n ≤ 1048576) (he : e ≤ 1048576) (hA : RdS w A (vi (nd v))) :
    Calls Tryz.prog 75 #[.slice A n c, .int .i64 x] w fun q w' => ∃ g, w.heap.size ≤ g ∧ q = .returned (.slice (some ⟨g, 0, none⟩) (n + e) (n + e)) ∧ Blk w' g (row (n + e) v) ∧ Below w.heap.size w w' := by
  subst hx
  exact copy_any v A n c e w hl hn he hA
theorem sum_len {a b n n' e : Nat} (hn : ln a = n) (hn' : ln b = n') (he : n' + 1 ≤ n + e) (he0 : 1 ≤ e) : ln (a + b) ≤ n + e := by
  rw [ln_le_iff]
  have h1 := ln_lt a
  have h2 := ln_lt b
  rw [hn] at h1
  rw [hn'] at h2
  obtain ⟨M, hM⟩ : ∃ M, n + e = M + 1 := ⟨n + e - 1, by omega⟩
  have h3 := pw_le (show n ≤ M by omega)
  have h4 := pw_le (show n' ≤ M by omega)
  rw [hM, pw_succ]
  omega
theorem ln_lt' {v n : Nat} (h : ln v = n) : (v : Int) < pw n := by subst h; exact ln_lt v
theorem lay_lay {L : List Int} {off k : Nat} (T U : Int) (h : off + k ≤ L.length) : lay (lay L off T k) off U k = lay L off U k := by
  have hl := lay_length T h
  have h1 : (lay L off T k).take off = L.take off := by
    unfold lay
    rw [List.take_append_of_le_length (by simp; omega), List.take_take, Nat.min_self]
  have h2 : (lay L off T k).drop (off + k) = L.drop (off + k) := by
    have e : (L.take off ++ row k T).length = off + k := by simp [row_length]; omega
    unfold lay
    rw [← List.append_assoc, List.drop_append, List.drop_of_length_le (by omega), e, Nat.sub_self]
    simp
  show (lay L off T k).take off ++ (row k U ++ (lay L off T k).drop (off + k)) = _
  rw [h1, h2]
  rfl
/-- A change in the window of a row is a change of the whole. -/
theorem lay_row {N i k : Nat} {P Q x : Int} (hN : i + k ≤ N) (hQ : Q = P + x * pw i) (hP0 : 0 ≤ P) (hP : P < pw (i + k)) (hQ0 : 0 ≤ Q) (hQ' : Q < pw (i + k)) :
    lay (row N P) i (P / pw i + x) k = row N Q := by
  have hdiv : Q / pw i = P / pw i + x := by rw [hQ, Int.add_mul_ediv_right _ _ (pw_ne i)]
  have hmod : Q % pw i = P % pw i := by rw [hQ, Int.add_mul_emod_self_right]
  apply List.ext_getElem?
  intro j
  rcases Nat.lt_or_ge j i with h1 | h1
  · rw [lay_out _ (by rw [row_length]; exact hN) (.inl h1), row_get _ (by omega), row_get _ (by omega), dgt_congr hmod.symm h1]
  · obtain ⟨t, rfl⟩ := Nat.exists_eq_add_of_le h1
    rcases Nat.lt_or_ge t k with h2 | h2
    · rw [lay_in _ (by rw [row_length]; exact hN) h2, row_get _ (by omega), ← hdiv, dgt_shift]
    · rw [lay_out _ (by rw [row_length]; exact hN) (.inr (by omega))]
      rcases Nat.lt_or_ge (i + t) N with h3 | h3
      · rw [row_get _ h3, row_get _ h3, dgt_small hP0 hP (by omega), dgt_small hQ0 hQ' (by omega)]
      · rw [List.getElem?_eq_none (by rw [row_length]; exact h3), List.getElem?_eq_none (by rw [row_length]; exact h3)]

set_option maxHeartbeats 800000 in
theorem impl_add (a b : Nat) (A D : Option Addr) (n c n' d : Nat) (w : World) (hn : ln a = n) (hn' : ln b = n') (h60 : n ≤ 60) (h60' : n' ≤ 60) (hA : RdS w A (vi (nd a))) (hD : RdS w D (vi (nd b))) :
    Calls Tryz.prog 59 #[.slice A n c, .slice D n' d] w (MadeI w.heap.size (cap60 (a + b)) w) := by
  have H1 := are_any (nd a) (nd b) A D n c n' d w (by rw [nd_length, hn]) (by rw [nd_length, hn']) (by omega) (by omega) hA hD
  rw [nd_ok (by omega), nd_ok (by omega)] at H1
  obtain ⟨f, hfe⟩ : ∃ f, f = (n' - n) + 1 := ⟨_, rfl⟩
  have H2 := fun x hx => Lib.hid (copy_int a A n c f x w hx hn (by omega) (by omega) hA)
  have H3 := fun g (hg : w.heap.size ≤ g) (W : World) (hB : Blk W g (row (n + f) a)) (hb : Below w.heap.size w W) =>
    pass_any g 0 (n + f) (n + f) n' (row (n + f) a) a b 1 D (n + f) d W (row_length _ _) (by omega) (by omega) (by omega) (fun j hj => by rw [Nat.zero_add]; exact row_get _ hj) (by have := hD.below hb; rwa [nd, hn'] at this) (by omega) (ln_lt' hn')
      (by have := hD.apart hg; rwa [nd_length, hn'] at this) hB (by omega) (by omega)
  have hs := sum_len hn hn' (show n' + 1 ≤ n + f by omega) (by omega)
  have e1 : (a : Int) + 1 * (b : Int) = ((a + b : Nat) : Int) := by omega
  have H3' := Lib.hid H3
  have HS := Lib.hid hs
  have HE := Lib.hid hfe
  have hf60 : f ≤ 61 := by omega
  clear H3 hs hn hn' hfe
  rcases Nat.lt_or_ge n' n with hmx | hmx
  · have hmi : (n' : Int) - (n : Int) < 0 := by omega
    go_enter Tryz.func59, Tryz.ntmps59
    go_wp2_with fail
    refine H1.mono ?_
    rintro e w1 ⟨rfl, rfl⟩
    go_wp2_with fail
    refine (H2 _ (by have := HE.out; omega)).out.mono ?_
    rintro e w1 ⟨g, hg, rfl, hB1, hb1⟩
    go_wp2_with fail
    refine (H3'.out g hg w1 hB1 hb1).mono ?_
    rintro e w2 ⟨rfl, hB2, hg2⟩
    rw [lay_all _ _ (row_length _ _), e1] at hB2
    have hb2 := below_g hb1 hg hg2
    go_wp2_with fail
    refine (natOfRow_any w.heap.size g _ _ (a + b) w2 hg hB2 HS.out (Nat.le_refl _) (by omega) (by omega)).mono ?_
    intro e w3 hm
    have hm' := hm.after hb2
    obtain ⟨A', c', rfl, hc', ho, hb3⟩ := hm'
    go_wp2
    go_ret
    exact ⟨A', c', rfl, hc', ho, hb3⟩
  · have hmi : ¬ (n' : Int) - (n : Int) < 0 := by omega
    go_enter Tryz.func59, Tryz.ntmps59
    go_wp2_with fail
    refine H1.mono ?_
    rintro e w1 ⟨rfl, rfl⟩
    go_wp2_with fail
    refine (H2 _ (by have := HE.out; omega)).out.mono ?_
    rintro e w1 ⟨g, hg, rfl, hB1, hb1⟩
    go_wp2_with fail
    refine (H3'.out g hg w1 hB1 hb1).mono ?_
    rintro e w2 ⟨rfl, hB2, hg2⟩
    rw [lay_all _ _ (row_length _ _), e1] at hB2
    have hb2 := below_g hb1 hg hg2
    go_wp2_with fail
    refine (natOfRow_any w.heap.size g _ _ (a + b) w2 hg hB2 HS.out (Nat.le_refl _) (by omega) (by omega)).mono ?_
    intro e w3 hm
    have hm' := hm.after hb2
    obtain ⟨A', c', rfl, hc', ho, hb3⟩ := hm'
    go_wp2
    go_ret
    exact ⟨A', c', rfl, hc', ho, hb3⟩

set_option maxHeartbeats 800000 in
theorem impl_sub (a b : Nat) (A D : Option Addr) (n c n' d : Nat) (w : World) (hn : ln a = n) (hn' : ln b = n') (h60 : n ≤ 60) (h60' : n' ≤ 60) (hA : RdS w A (vi (nd a))) (hD : RdS w D (vi (nd b))) :
    Calls Tryz.prog 61 #[.slice A n c, .slice D n' d] w (MadeI w.heap.size (if b ≤ a then nd (a - b) else []) w) := by
  have H1 := are_any (nd a) (nd b) A D n c n' d w (by rw [nd_length, hn]) (by rw [nd_length, hn']) (by omega) (by omega) hA hD
  rw [nd_ok (by omega), nd_ok (by omega)] at H1
  have HC := Lib.hid (impl_cmp a b A D n c n' d w hn hn' (by omega) (by omega) hA hD)
  by_cases hba : b ≤ a
  · rw [if_pos hba]
    have hcm : 0 ≤ cmpN a b := by
      rcases Nat.lt_or_ge b a with h | h
      · rw [cmpN_gt h]; decide
      · rw [cmpN_eq (by omega)]; decide
    have H2 := fun W x hx hR => Lib.hid (copy_int a A n c 0 x W hx hn (by omega) (by omega) hR)
    have H3 := fun g (W0 W : World) (hR : RdS W0 D (vi (nd b))) (hg : W0.heap.size ≤ g) (hB : Blk W g (row (n + 0) a)) (hb : Below W0.heap.size W0 W) =>
      pass_any g 0 (n + 0) (n + 0) n' (row (n + 0) a) a b (-1) D (n + 0) d W (row_length _ _) (by omega) (by omega) (by omega) (fun j hj => by rw [Nat.zero_add]; exact row_get _ hj) (by have := hR.below hb; rwa [nd, hn'] at this) (by omega) (ln_lt' hn')
        (by have := hR.apart hg; rwa [nd_length, hn'] at this) hB (by omega) (by omega)
    have hs : ln (a - b) ≤ n + 0 := by have := ln_mono (show a - b ≤ a by omega); omega
    have e1 : (a : Int) + -1 * (b : Int) = ((a - b : Nat) : Int) := by omega
    have e2 : cap60 (a - b) = nd (a - b) := cap60_in (by omega)
    have H3' := Lib.hid H3
    have HS := Lib.hid hs
    have E2 := Lib.hid e2
    clear H3 hs hn hn' hba e2
    generalize cmpN a b = r at HC hcm
    go_enter Tryz.func61, Tryz.ntmps61
    go_wp2_with fail
    refine H1.mono ?_
    rintro e w1 ⟨rfl, rfl⟩
    go_wp2_with fail
    refine HC.out.mono ?_
    rintro e w0 ⟨rfl, hb0⟩
    go_wp2_with fail
    refine (H2 w0 _ (by omega) (hA.below hb0)).out.mono ?_
    rintro e w1 ⟨g, hg, rfl, hB1, hb1⟩
    go_wp2_with fail
    refine (H3'.out g w0 w1 (hD.below hb0) hg hB1 hb1).mono ?_
    rintro e w2 ⟨rfl, hB2, hg2⟩
    rw [lay_all _ _ (row_length _ _), e1] at hB2
    have hb2 := below_g hb1 hg hg2
    go_wp2_with fail
    refine (natOfRow_any w.heap.size g _ _ (a - b) w2 (Nat.le_trans hb0.size hg) hB2 HS.out (Nat.le_refl _) (by omega) (by omega)).mono ?_
    intro e w3 hm
    have hm' := hm.after (bt hb0 hb2)
    rw [E2.out] at hm'
    obtain ⟨A', c', rfl, hc', ho, hb3⟩ := hm'
    go_wp2
    go_ret
    exact ⟨A', c', rfl, hc', ho, hb3⟩
  · rw [if_neg hba]
    have hcm : cmpN a b = -1 := cmpN_lt (by omega)
    rw [hcm] at HC
    clear hn hn' hba hcm
    go_enter Tryz.func61, Tryz.ntmps61
    go_wp2_with fail
    refine H1.mono ?_
    rintro e w1 ⟨rfl, rfl⟩
    go_wp2_with fail
    refine HC.out.mono ?_
    rintro e w0 ⟨rfl, hb0⟩
    go_wp2
    go_ret
    exact (MadeI.nil w.heap.size w0).after hb0
end Go.Proofs.YtmmgcdfifcbabaaGreatDoor
