/-
  Big integers of the program: the small functions ('isZero', 'signedOf', 'bigInt', 'negated', 'sum' ..), 'BigIntOk'.
-/
import Derived.Test.YtmmgcdfifcbabaaGreatDoorBigH
import Derived.Test.YtmmgcdfifcbabaaGreatDoorArM
namespace Go.Proofs.YtmmgcdfifcbabaaGreatDoor
open Go.ChangeShapes Go.WideShapes Go.ChangeAt Go.RowKit
open Go.ChangeMaps (open_string shut_string)
set_option linter.unusedVariables false
set_option linter.unusedSimpArgs false
set_option maxRecDepth 4000

/-- A struct of a sign and a slice of the call's own that reads as L. -/
def MadeB (B : Nat) (p : Bool) (L : List Int) (w : World) (e : Ending) (w' : World) : Prop :=
  ∃ A c, e = .returned (.agg #[.bool p, .slice A L.length c]) ∧ L.length ≤ c ∧ OwnS B w' A (vi L) ∧ Below w.heap.size w w'
theorem MadeB.after {B : Nat} {p : Bool} {L : List Int} {w w1 w2 : World} {e : Ending} (h : MadeB B p L w1 e w2) (hb : Below w.heap.size w w1) : MadeB B p L w e w2 := by
  obtain ⟨A, c, he, hc, ho, hb2⟩ := h
  exact ⟨A, c, he, hc, ho, bt hb hb2⟩
theorem MadeB.more {B B' : Nat} {p : Bool} {L : List Int} {w w2 : World} {e : Ending} (h : MadeB B p L w e w2) (hB : B' ≤ B) : MadeB B' p L w e w2 := by
  obtain ⟨A, c, he, hc, ho, hb2⟩ := h
  exact ⟨A, c, he, hc, ho.more hB, hb2⟩

theorem isZero_any (A : Option Addr) (n c : Nat) (w : World) (hn : n ≤ 1048576) :
    Calls Tryz.prog 37 #[.slice A n c] w fun e w' => e = .returned (.bool (decide (n = 0))) ∧ w = w' := by
  by_cases h : n = 0
  · subst h
    go_enter Tryz.func37, Tryz.ntmps37
    go_wp2
    go_ret
    exact ⟨rfl, rfl⟩
  · have hz : ((n : Int) == 0) = false := by rw [beq_eq_false_iff_ne]; omega
    have hd : decide (n = 0) = false := decide_eq_false h
    go_enter Tryz.func37, Tryz.ntmps37
    go_wp2
    go_ret
    exact ⟨ret_bool' hd.symm, rfl⟩

/-- The two cells of a variable of the call's own. -/
def Two (w : World) (g : Nat) : Prop := ∃ u v, w.cell? ⟨g, 0, none⟩ = some u ∧ w.cell? ⟨g, 1, none⟩ = some v ∧ w.frozen? ⟨g, 0, none⟩ = false ∧ w.frozen? ⟨g, 1, none⟩ = false

set_option maxHeartbeats 800000 in
theorem signedOf_any (p : Bool) (A : Option Addr) (n c : Nat) (w : World) :
    Calls Tryz.prog 19 #[.agg #[.bool p, .slice A n c]] w fun e w' => e = .returned (.agg #[.bool p, .slice A n c]) ∧ Below w.heap.size w w' := by
  go_enter Tryz.func19, Tryz.ntmps19
  go_wp2
  exact bodyPost_ret (v := .agg #[.bool p, .slice A n c]) (by simp [results, Tryz.results19, go_sem]) rfl ⟨rfl, ba2 _ _ _⟩

set_option maxHeartbeats 800000 in
theorem negated_any (p : Bool) (A : Option Addr) (n c : Nat) (w : World) :
    Calls Tryz.prog 23 #[.agg #[.bool p, .slice A n c]] w fun e w' => e = .returned (.agg #[.bool (!p), .slice A n c]) ∧ Below w.heap.size w w' := by
  go_enter Tryz.func23, Tryz.ntmps23
  go_wp2
  exact bodyPost_ret (v := .agg #[.bool (!p), .slice A n c]) (by simp [results, Tryz.results23, go_sem]) rfl ⟨rfl, ba2 _ _ _⟩

set_option maxHeartbeats 800000 in
/-- 'bigInt': the struct handed on, 0 without its sign. -/
theorem bigInt_any (B : Nat) (p : Bool) (L : List Int) (A : Option Addr) (n c : Nat) (w : World) (hn : L.length = n) (h6 : n ≤ 1048576) (hc : n ≤ c) (ho : OwnS B w A (vi L)) :
    Calls Tryz.prog 21 #[.agg #[.bool p, .slice A n c]] w (MadeB B (p && decide (L ≠ [])) L w) := by
  have H := fun W => Lib.hid (isZero_any A n c W h6)
  by_cases h0 : n = 0
  · have hL : L = [] := List.eq_nil_of_length_eq_zero (hn.trans h0)
    subst hL
    have hd : decide (n = 0) = true := decide_eq_true h0
    rw [hd] at H
    rw [show (p && decide (([] : List Int) ≠ [])) = false by simp]
    clear hn h0 hd ho
    go_enter Tryz.func21, Tryz.ntmps21
    go_wp2_with fail
    refine (H _).out.mono ?_
    rintro e w1 ⟨rfl, rfl⟩
    go_wp2
    exact bodyPost_ret (v := .agg #[.bool false, .slice none 0 0]) (by simp [results, Tryz.results21, go_sem]) rfl ⟨none, 0, rfl, Nat.le_refl _, .inl rfl, ba2 _ _ _⟩
  · have hd : decide (n = 0) = false := decide_eq_false h0
    rw [hd] at H
    have hL : decide (L ≠ []) = true := decide_eq_true (by rintro rfl; exact h0 hn.symm)
    rw [hL, Bool.and_true]
    have HN := Lib.hid hn
    clear hn h0 hd hL
    go_enter Tryz.func21, Tryz.ntmps21
    go_wp2_with fail
    refine (H _).out.mono ?_
    rintro e w1 ⟨rfl, rfl⟩
    go_wp2
    exact bodyPost_ret (v := .agg #[.bool p, .slice A n c]) (by simp [results, Tryz.results21, go_sem]) rfl ⟨A, c, by rw [HN.out], by rw [HN.out]; exact hc, ho.below (ba2 _ _ _), ba2 _ _ _⟩

set_option maxHeartbeats 800000 in
theorem sum_any (a b : Nat) (A D : Option Addr) (n c n' d : Nat) (w : World) (hn : ln a = n) (hn' : ln b = n') (h60 : n ≤ 60) (h60' : n' ≤ 60) (hA : RdS w A (vi (nd a))) (hD : RdS w D (vi (nd b))) :
    Calls Tryz.prog 42 #[.slice A n c, .slice D n' d] w (MadeI w.heap.size (cap60 (a + b)) w) := by
  have H := Lib.hid (impl_add a b A D n c n' d w hn hn' h60 h60' hA hD)
  clear hn hn'
  generalize cap60 (a + b) = L at H ⊢
  go_enter Tryz.func42, Tryz.ntmps42
  go_wp2_with fail
  refine H.out.mono ?_
  rintro e w1 ⟨A1, c1, rfl, hc1, ho1, hb1⟩
  go_wp2
  go_ret
  exact ⟨A1, c1, rfl, hc1, ho1, hb1⟩

set_option maxHeartbeats 800000 in
theorem diff_any (a b : Nat) (A D : Option Addr) (n c n' d : Nat) (w : World) (hn : ln a = n) (hn' : ln b = n') (h60 : n ≤ 60) (h60' : n' ≤ 60) (hA : RdS w A (vi (nd a))) (hD : RdS w D (vi (nd b))) :
    Calls Tryz.prog 44 #[.slice A n c, .slice D n' d] w (MadeI w.heap.size (if b ≤ a then nd (a - b) else []) w) := by
  have H := Lib.hid (impl_sub a b A D n c n' d w hn hn' h60 h60' hA hD)
  clear hn hn'
  generalize (if b ≤ a then nd (a - b) else []) = L at H ⊢
  go_enter Tryz.func44, Tryz.ntmps44
  go_wp2_with fail
  refine H.out.mono ?_
  rintro e w1 ⟨A1, c1, rfl, hc1, ho1, hb1⟩
  go_wp2
  go_ret
  exact ⟨A1, c1, rfl, hc1, ho1, hb1⟩

set_option maxHeartbeats 800000 in
theorem prod_any (a b : Nat) (A D : Option Addr) (n c n' d : Nat) (w : World) (hn : ln a = n) (hn' : ln b = n') (h60 : n ≤ 60) (h60' : n' ≤ 60) (hA : RdS w A (vi (nd a))) (hD : RdS w D (vi (nd b))) :
    Calls Tryz.prog 45 #[.slice A n c, .slice D n' d] w (MadeI w.heap.size (cap60 (a * b)) w) := by
  have H := Lib.hid (impl_mul a b A D n c n' d w hn hn' h60 h60' hA hD)
  clear hn hn'
  generalize cap60 (a * b) = L at H ⊢
  go_enter Tryz.func45, Tryz.ntmps45
  go_wp2_with fail
  refine H.out.mono ?_
  rintro e w1 ⟨A1, c1, rfl, hc1, ho1, hb1⟩
  go_wp2
  go_ret
  exact ⟨A1, c1, rfl, hc1, ho1, hb1⟩

set_option maxHeartbeats 800000 in
theorem mcmp_any (a b : Nat) (A D : Option Addr) (n c n' d : Nat) (w : World) (hn : ln a = n) (hn' : ln b = n') (h60 : n ≤ 1048576) (h60' : n' ≤ 1048576) (hA : RdS w A (vi (nd a))) (hD : RdS w D (vi (nd b))) :
    Calls Tryz.prog 43 #[.slice A n c, .slice D n' d] w fun e w' => e = .returned (.int .i64 (cmpN a b)) ∧ Below w.heap.size w w' := by
  have H := Lib.hid (impl_cmp a b A D n c n' d w hn hn' h60 h60' hA hD)
  clear hn hn'
  generalize cmpN a b = r at H ⊢
  go_enter Tryz.func43, Tryz.ntmps43
  go_wp2_with fail
  refine H.out.mono ?_
  rintro e w1 ⟨rfl, hb1⟩
  go_wp2
  go_ret
  exact ⟨rfl, hb1⟩

theorem field_one (p : Bool) (A : Option Addr) (n c : Nat) (w : World) : (Instr.field 46 (.agg #[.bool p, .slice A n c]) 1).run Tryz.prog w = .ok (.slice A n c) w := by kernel_rfl

set_option maxHeartbeats 800000 in
theorem impl_bok (p : Bool) (l : List Int) (A : Option Addr) (n c : Nat) (w : World) (hl : l.length = n) (hn : n ≤ 9223372036854775807) (hA : RdS w A (vi l)) :
    Calls Tryz.prog 15 #[.agg #[.bool p, .slice A n c]] w fun e w' => e = .returned (.bool (okB p l)) ∧ Below w.heap.size w w' := by
  have H := Lib.hid (fun W h => impl_ok l A n c W hl hn h)
  by_cases hk : ok l = true
  · rw [hk] at H
    have h60 : n ≤ 60 := by obtain ⟨v, rfl, hv⟩ := ok_nd hk; rw [nd_length] at hl; omega
    have HO : Hid (okB p l = !(p && decide (n = 0))) := Lib.hid (by
      unfold okB
      rw [hk, Bool.true_and]
      congr 2
      exact decide_eq_decide.2 ⟨by rintro rfl; exact hl.symm, fun h => List.eq_nil_of_length_eq_zero (hl.trans h)⟩)
    have HZ := fun W => Lib.hid (isZero_any A n c W (by omega))
    clear hk hl
    generalize decide (n = 0) = z at HO HZ
    have hfl := field_one
    cases p
    · go_enter Tryz.func15, Tryz.ntmps15
      go_wp2_with fail
      refine (H.out _ (hA.below (ba1 _ _))).mono ?_
      rintro e w1 ⟨rfl, rfl⟩
      go_wp2
      go_ret
      exact ⟨ret_bool' HO.out.symm, ba1 _ _⟩
    · go_enter Tryz.func15, Tryz.ntmps15
      go_wp2_with fail
      refine (H.out _ (hA.below (ba1 _ _))).mono ?_
      rintro e w1 ⟨rfl, rfl⟩
      go_wp2_with fail
      refine (signedOf_any true A n c _).mono ?_
      rintro e w2 ⟨rfl, hb2⟩
      have hb2' := (ba1 _ _).trans (hb2.mono (by rw [sz1]; omega))
      go_wp2_with fail
      refine (HZ _).out.mono ?_
      rintro e w3 ⟨rfl, rfl⟩
      cases z
      · go_wp2
        go_ret
        exact ⟨ret_bool' HO.out.symm, hb2'⟩
      · go_wp2
        go_ret
        exact ⟨ret_bool' HO.out.symm, hb2'⟩
  · have hk' : ok l = false := by simpa using hk
    rw [hk'] at H
    rw [okB_no hk']
    clear hk hk' hl
    go_enter Tryz.func15, Tryz.ntmps15
    go_wp2_with fail
    refine (H.out _ (hA.below (ba1 _ _))).mono ?_
    rintro e w1 ⟨rfl, rfl⟩
    go_wp2
    go_ret
    exact ⟨rfl, ba1 _ _⟩

set_option maxHeartbeats 800000 in
theorem are_big (p q : Bool) (l m : List Int) (A D : Option Addr) (n c n' d : Nat) (w : World) (hl : l.length = n) (hm : m.length = n') (hn : n ≤ 9223372036854775807) (hn' : n' ≤ 9223372036854775807) (hA : RdS w A (vi l)) (hD : RdS w D (vi m)) :
    Calls Tryz.prog 18 #[.agg #[.bool p, .slice A n c], .agg #[.bool q, .slice D n' d]] w fun e w' => e = .returned (.bool (okB p l && okB q m)) ∧ Below w.heap.size w w' := by
  have H1 := Lib.hid (fun W h => impl_bok p l A n c W hl hn h)
  have H2 := Lib.hid (fun W h => impl_bok q m D n' d W hm hn' h)
  clear hl hm
  generalize okB p l = x at H1
  generalize okB q m = y at H2
  cases x
  · go_enter Tryz.func18, Tryz.ntmps18
    go_wp2_with fail
    refine (H1.out _ (hA.below (ba2 _ _ _))).mono ?_
    rintro e w1 ⟨rfl, hb1⟩
    have hb1' := (ba2 _ _ _).trans (hb1.mono (by rw [sz2]; omega))
    go_wp2
    go_ret
    exact ⟨rfl, hb1'⟩
  · go_enter Tryz.func18, Tryz.ntmps18
    go_wp2_with fail
    refine (H1.out _ (hA.below (ba2 _ _ _))).mono ?_
    rintro e w1 ⟨rfl, hb1⟩
    have hb1' := (ba2 _ _ _).trans (hb1.mono (by rw [sz2]; omega))
    obtain ⟨hc, hf⟩ := bcell hb1
    go_wp2_with fail
    refine (H2.out _ (hD.below hb1')).mono ?_
    rintro e w2 ⟨rfl, hb2⟩
    go_wp2
    go_ret
    exact ⟨rfl, bt hb1' hb2⟩
end Go.Proofs.YtmmgcdfifcbabaaGreatDoor
