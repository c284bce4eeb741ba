/-
  Lists of lists of fractions whose rows may be windows of one block: words, marks, what was held.
-/
import Derived.Test.YtppdholccpgcpaaGreatRm
namespace Go.Proofs.YtppdholccpgcpaaGreat
open Go.ChangeShapes Go.WideShapes Go.ChangeAt Go.RowKit
set_option linter.unusedVariables false
set_option linter.unusedSimpArgs false
set_option maxRecDepth 4000
def winL (g : Nat) (M : List RV) : List SV := [⟨M.take 3, some ⟨g, 0, none⟩, 3⟩, ⟨(M.drop 3).take 3, some ⟨g, 9, none⟩, 3⟩, ⟨(M.drop 6).take 3, some ⟨g, 18, none⟩, 3⟩]
def rowsW (A : Option Addr) (R : List SV) : Option (Nat × List RV) → List Row
  | none => srowS A R
  | some (g, M) => (A, flatS R) :: srowQ (some ⟨g, 0, none⟩) M
def WinOk (R : List SV) : Option (Nat × List RV) → Prop
  | none => True
  | some (g, M) => M.length = 9 ∧ R = winL g M
def MadeRSW (B : Nat) (R : List SV) (w : World) (e : Ending) (w' : World) : Prop :=
  ∃ (M : List SV) (A : Option Addr) (c : Nat) (Z : Option (Nat × List RV)), e = .returned (.slice A M.length c) ∧ datS M = datS R ∧ WinOk M Z ∧ Owns B w'.heap.size w' (rowsW A M Z) ∧ Aparts (rowsW A M Z) ∧ Below w.heap.size w w'
theorem RdS.win {w : World} {g : Nat} {M : List RV} (h : RdS w (some ⟨g, 0, none⟩) (flatQ M)) (a n : Nat) (ha : a ≤ M.length) : RdS w (some ⟨g, a * 3, none⟩) (flatQ ((M.drop a).take n)) := by
  by_cases h0 : (flatQ ((M.drop a).take n)).length = 0
  · exact .inl (List.eq_nil_of_length_eq_zero h0)
  · have e : flatQ M = flatQ (M.take a) ++ (flatQ ((M.drop a).take n) ++ flatQ ((M.drop a).drop n)) := by
      rw [← flatQ_app, List.take_append_drop, ← flatQ_app, List.take_append_drop]
    have hl : (flatQ (M.take a)).length = a * 3 := by rw [flatQ_length, List.length_take, Nat.min_eq_left ha]
    have hlen := congrArg List.length e
    rw [List.length_append, List.length_append] at hlen
    obtain ⟨b, o, hA, hb, hc⟩ := h.block (by omega)
    injection hA with hA
    injection hA with e1 e2
    subst e1; subst e2
    refine .inr ⟨g, a * 3, rfl, hb, fun j hj => ?_⟩
    have h1 := hc (a * 3 + j) (by omega)
    rw [Nat.zero_add] at h1
    rw [h1, e, List.getElem?_append_right (by omega), hl, Nat.add_sub_cancel_left, List.getElem?_append_left hj]
theorem Rds.sub {w : World} {M : List RV} (h : Rds w (lrowQ M)) (a n : Nat) : Rds w (lrowQ ((M.drop a).take n)) := fun r hr => by
  obtain ⟨p, hp, h1⟩ := List.mem_flatMap.1 hr
  exact h r (List.mem_flatMap.2 ⟨p, List.drop_subset _ _ (List.take_subset _ _ hp), h1⟩)
theorem rdsW {w : World} {A : Option Addr} {R : List SV} {Z : Option (Nat × List RV)} (hz : WinOk R Z) (h : Rds w (rowsW A R Z)) : Rds w (srowS A R) := by
  cases Z with
  | none => exact h
  | some z =>
    obtain ⟨g, M⟩ := z
    obtain ⟨h9, rfl⟩ := hz
    have h1 : RdS w (some ⟨g, 0, none⟩) (flatQ M) := h.tl.hd
    have h2 : Rds w (lrowQ M) := h.tl.tl
    refine Rds.cons h.hd ?_
    have k : ∀ a, a ≤ M.length → Rds w (srowQ (some ⟨g, a * 3, none⟩) ((M.drop a).take 3)) := fun a ha => Rds.cons (h1.win a 3 ha) (h2.sub a 3)
    have k0 := k 0 (by omega)
    have k1 := k 3 (by omega)
    have k2 := k 6 (by omega)
    have e : lrowS (winL g M) = srowQ (some ⟨g, 0, none⟩) (M.take 3) ++ (srowQ (some ⟨g, 9, none⟩) ((M.drop 3).take 3) ++ srowQ (some ⟨g, 18, none⟩) ((M.drop 6).take 3)) := by
      simp [lrowS, winL, rrowS]
    rw [e]
    exact Rds.app k0 (Rds.app k1 k2)
end Go.Proofs.YtppdholccpgcpaaGreat
