/-
  Sizes of small meshes.
-/
import Derived.Test.YtjcbaiphkchehaaMsH
import Derived.Test.YtjcbaiphkchehaaSqI
namespace Go.Proofs.Ytjcbaiphkchehaa
open Go.ChangeShapes Go.WideShapes Go.ChangeAt Go.RowKit
open Go.ChangeMaps (open_string shut_string)
set_option linter.unusedVariables false
set_option linter.unusedSimpArgs false
set_option maxRecDepth 4000

theorem szs_dat {L M : List PV} (h : dat M = dat L) : szs M = szs L := by
  induction L generalizing M with
  | nil => obtain rfl : M = [] := List.eq_nil_of_length_eq_zero (dat_len h); rfl
  | cons p L ih =>
    match M, h with
    | q :: M, h =>
      simp only [dat, List.map_cons, List.cons.injEq, Prod.mk.injEq] at h
      show szp q + szs M = szp p + szs L
      rw [ih h.2]; unfold szp; rw [h.1.1, h.1.2]
theorem nxs_dat {L M : List PV} (k : Int) (h : dat M = dat L) : nxs k M = nxs k L := by rw [nxs_eq, nxs_eq, szs_dat h, dat_len h]
def Sm (x : R3) : Prop := x.l.length ≤ 24 ∧ x.m.length ≤ 24
theorem szp_fit {p : PV} (hx : Sm p.x) (hy : Sm p.y) : szp p ≤ 96 ∧ ShortP p := by
  obtain ⟨h1, h2⟩ := hx
  obtain ⟨h3, h4⟩ := hy
  unfold szp szx ShortP Short
  omega
theorem rfi_sm (k : Nat) (h : k ≤ 1000) : Sm (rfi (k : Int)) := by
  have := ln_word (show (k : Int).natAbs ≤ 9223372036854775808 by omega)
  refine ⟨?_, ?_⟩
  · show (zm (k : Int)).length ≤ 24
    rw [zm_length]; omega
  · show (nd 1).length ≤ 24
    rw [nd_one]; decide
theorem ofQ_sm (x y : Int) : Sm (ofO (ofQ x y)) := (ofQ_fit x y).len
/-- A mesh of small fractions. -/
theorem mesh_small {P : List (R3 × R3)} {T : List TV} (hP : ∀ p, p ∈ P → Sm p.1 ∧ Sm p.2) (hl : P.length ≤ 1000) (ht : T.length ≤ 1000) : (((mvOf P T).L.length : Int) + szs (mvOf P T).L ≤ 1048576) ∧ (mvOf P T).T.length ≤ 1048576 ∧ ShortM (mvOf P T) := by
  have key : ∀ Q : List (R3 × R3), (∀ p, p ∈ Q → Sm p.1 ∧ Sm p.2) → szs (Q.map (fun p => (⟨p.1, p.2, noA, noA⟩ : PV))) ≤ 96 * (Q.length : Int) ∧ ∀ p, p ∈ Q.map (fun p => (⟨p.1, p.2, noA, noA⟩ : PV)) → ShortP p := by
    intro Q
    induction Q with
    | nil => intro _; exact ⟨by simp [szs], fun p hp => by cases hp⟩
    | cons q Q ih =>
      intro h
      obtain ⟨i1, i2⟩ := ih (fun p hp => h p (by simp [hp]))
      obtain ⟨k1, k2⟩ := szp_fit (p := ⟨q.1, q.2, noA, noA⟩) (h q (by simp)).1 (h q (by simp)).2
      refine ⟨?_, fun p hp => ?_⟩
      · rw [List.map_cons]
        show szp _ + szs _ ≤ _
        rw [List.length_cons]; omega
      · rw [List.map_cons] at hp
        rcases List.mem_cons.1 hp with e | e
        · subst e; exact k2
        · exact i2 p e
  obtain ⟨k1, k2⟩ := key P hP
  have e1 : (mvOf P T).L.length = P.length := by simp [mvOf]
  have e2 : (mvOf P T).T = T := rfl
  have e3 : szs (mvOf P T).L ≤ 96 * (P.length : Int) := k1
  exact ⟨by rw [e1]; omega, by rw [e2]; omega, by rw [e1]; omega, by rw [e2]; omega, k2⟩
theorem sq_fit (n i : Nat) (hn : n ≤ 3) (hi : i ≤ 9) : ∀ p, p ∈ sqP n i → Sm p.1 ∧ Sm p.2 := fun p hp => by
  rcases List.mem_append.1 hp with h | h
  · obtain ⟨k, hk, rfl⟩ := List.mem_map.1 h
    have hk' := List.mem_range.1 hk
    have hm : (n + 1) * (n + 1) ≤ 16 := by
      have hc : n = 0 ∨ n = 1 ∨ n = 2 ∨ n = 3 := by omega
      rcases hc with rfl | rfl | rfl | rfl <;> decide
    have h1 : k % (n + 1) ≤ k := Nat.mod_le _ _
    have h2 : k / (n + 1) ≤ k := Nat.div_le_self _ _
    exact ⟨rfi_sm _ (by omega), rfi_sm _ (by omega)⟩
  · obtain ⟨k, hk, rfl⟩ := List.mem_map.1 h
    exact ⟨ofQ_sm _ _, ofQ_sm _ _⟩
theorem sqM_facts (n : Int) : ((sqM n).L.length : Int) + szs (sqM n).L ≤ 1048576 ∧ (sqM n).T.length ≤ 1048576 ∧ ShortM (sqM n) := by
  unfold sqM
  split
  · exact mesh_small (sq_fit 1 1 (by omega) (by omega)) (by rw [sqP_len]; omega) (by rw [sqT_len]; omega)
  split
  · exact mesh_small (sq_fit 2 4 (by omega) (by omega)) (by rw [sqP_len]; omega) (by rw [sqT_len]; omega)
  split
  · exact mesh_small (sq_fit 3 9 (by omega) (by omega)) (by rw [sqP_len]; omega) (by rw [sqT_len]; omega)
  · exact mesh_small (fun p hp => by cases hp) (by simp) (by simp)
end Go.Proofs.Ytjcbaiphkchehaa
