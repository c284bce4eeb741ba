/-
  Big integers of the program: the small functions ('isZero', 'signedOf', 'bigInt', 'negated', 'sum' ..), 'BigIntOk'.
-/
import Derived.Test.YtnejpdlikdgnnaaDoorBigH
import Derived.Test.YtnejpdlikdgnnaaDoorArM
namespace Go.Proofs.YtnejpdlikdgnnaaDoor
open Go.ChangeShapes Go.WideShapes Go.ChangeAt Go.RowKit
open Go.ChangeMaps (open_string shut_string)
set_option linter.unusedVariables false
set_option linter.unusedSimpArgs false
set_option maxRecDepth 4000

/-- A struct of a sign and a slice of the call's own that reads as L. -/
def MadeB (B : Nat) (p : Bool) (L : List Int) (w : World) (e : Ending) (w' : World) : Prop :=
  ∃ A c, e = .returned (.agg #[.bool p, .slice A L.length c]) ∧ L.length ≤ c ∧ OwnS B w' A (vi L) ∧ Below w.heap.size w w'
theorem MadeB.after {B : Nat} {p : Bool} {L : List Int} {w w1 w2 : World} {e : Ending} (h : MadeB B p L w1 e w2) (hb : Below w.heap.size w w1) : MadeB B p L w e w2 := by
  obtain ⟨A, c, he, hc, ho, hb2⟩ := h
  exact ⟨A, c, he, hc, ho, bt hb hb2⟩
theorem MadeB.more {B B' : Nat} {p : Bool} {L : List Int} {w w2 : World} {e : Ending} (h : MadeB B p L w e w2) (hB : B' ≤ B) : MadeB B' p L w e w2 := by
  obtain ⟨A, c, he, hc, ho, hb2⟩ := h
  exact ⟨A, c, he, hc, ho.more hB, hb2⟩

theorem isZero_any (A : Option Addr) (n c : Nat) (w : World) (hn : n ≤ 1048576) :
    Calls Tryd.prog 71 #[.slice A n c] w fun e w' => e = .returned (.bool (decide (n = 0))) ∧ w = w' := by
  by_cases h : n = 0
  · subst h
    go_enter Tryd.func71, Tryd.ntmps71
    go_wp2
    go_ret
    exact ⟨rfl, rfl⟩
  · have hz : ((n : Int) == 0) = false := by rw [beq_eq_false_iff_ne]; omega
    have hd : decide (n = 0) = false := decide_eq_false h
    go_enter Tryd.func71, Tryd.ntmps71
    go_wp2
    go_ret
    exact ⟨ret_bool' hd.symm, rfl⟩

/-- The two cells of a variable of the call's own. -/
def Two (w : World) (g : Nat) : Prop := ∃ u v, w.cell? ⟨g, 0, none⟩ = some u ∧ w.cell? ⟨g, 1, none⟩ = some v ∧ w.frozen? ⟨g, 0, none⟩ = false ∧ w.frozen? ⟨g, 1, none⟩ = false

set_option maxHeartbeats 800000 in
theorem signedOf_any (p : Bool) (A : Option Addr) (n c : Nat) (w : World) :
    Calls Tryd.prog 70 #[.agg #[.bool p, .slice A n c]] w fun e w' => e = .returned (.agg #[.bool p, .slice A n c]) ∧ Below w.heap.size w w' := by
  go_enter Tryd.func70, Tryd.ntmps70
  go_wp2
  exact bodyPost_ret (v := .agg #[.bool p, .slice A n c]) (by simp [results, Tryd.results70, go_sem]) rfl ⟨rfl, ba2 _ _ _⟩

theorem field_one (p : Bool) (A : Option Addr) (n c : Nat) (w : World) : (Instr.field 84 (.agg #[.bool p, .slice A n c]) 1).run Tryd.prog w = .ok (.slice A n c) w := by kernel_rfl

set_option maxHeartbeats 800000 in
theorem impl_bok (p : Bool) (l : List Int) (A : Option Addr) (n c : Nat) (w : World) (hl : l.length = n) (hn : n ≤ 9223372036854775807) (hA : RdS w A (vi l)) :
    Calls Tryd.prog 45 #[.agg #[.bool p, .slice A n c]] w fun e w' => e = .returned (.bool (okB p l)) ∧ Below w.heap.size w w' := by
  have H := Lib.hid (fun W h => impl_ok l A n c W hl hn h)
  by_cases hk : ok l = true
  · rw [hk] at H
    have h60 : n ≤ 60 := by obtain ⟨v, rfl, hv⟩ := ok_nd hk; rw [nd_length] at hl; omega
    have HO : Hid (okB p l = !(p && decide (n = 0))) := Lib.hid (by
      unfold okB
      rw [hk, Bool.true_and]
      congr 2
      exact decide_eq_decide.2 ⟨by rintro rfl; exact hl.symm, fun h => List.eq_nil_of_length_eq_zero (hl.trans h)⟩)
    have HZ := fun W => Lib.hid (isZero_any A n c W (by omega))
    clear hk hl
    generalize decide (n = 0) = z at HO HZ
    have hfl := field_one
    cases p
    · go_enter Tryd.func45, Tryd.ntmps45
      go_wp2_with fail
      refine (H.out _ (hA.below (ba1 _ _))).mono ?_
      rintro e w1 ⟨rfl, rfl⟩
      go_wp2
      go_ret
      exact ⟨ret_bool' HO.out.symm, ba1 _ _⟩
    · go_enter Tryd.func45, Tryd.ntmps45
      go_wp2_with fail
      refine (H.out _ (hA.below (ba1 _ _))).mono ?_
      rintro e w1 ⟨rfl, rfl⟩
      go_wp2_with fail
      refine (signedOf_any true A n c _).mono ?_
      rintro e w2 ⟨rfl, hb2⟩
      have hb2' := (ba1 _ _).trans (hb2.mono (by rw [sz1]; omega))
      go_wp2_with fail
      refine (HZ _).out.mono ?_
      rintro e w3 ⟨rfl, rfl⟩
      cases z
      · go_wp2
        go_ret
        exact ⟨ret_bool' HO.out.symm, hb2'⟩
      · go_wp2
        go_ret
        exact ⟨ret_bool' HO.out.symm, hb2'⟩
  · have hk' : ok l = false := by simpa using hk
    rw [hk'] at H
    rw [okB_no hk']
    clear hk hk' hl
    go_enter Tryd.func45, Tryd.ntmps45
    go_wp2_with fail
    refine (H.out _ (hA.below (ba1 _ _))).mono ?_
    rintro e w1 ⟨rfl, rfl⟩
    go_wp2
    go_ret
    exact ⟨rfl, ba1 _ _⟩

end Go.Proofs.YtnejpdlikdgnnaaDoor
