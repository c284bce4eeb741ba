/-
  Words of the laws over lists of points: copies with the same data.
-/
import Derived.Test.YtppdholccpgcpaaGreatSlH
import Derived.Test.YtppdholccpgcpaaGreatSlT
import Derived.Test.YtppdholccpgcpaaGreatTri
import Derived.Test.YtppdholccpgcpaaGreatPkF
import Derived.Test.YtppdholccpgcpaaGreatStore
import Derived.Test.YtppdholccpgcpaaGreatSlM
import Derived.Test.YtppdholccpgcpaaGreatAppR
import Derived.Test.YtppdholccpgcpaaGreatRlE
import Derived.Test.YtppdholccpgcpaaGreatRlM
namespace Go.Proofs.YtppdholccpgcpaaGreat
open Go.ChangeShapes Go.WideShapes Go.ChangeAt Go.RowKit
set_option linter.unusedVariables false
set_option linter.unusedSimpArgs false
set_option maxRecDepth 4000
theorem dat_mem {L M : List PV} (h : dat M = dat L) {q : PV} (hq : q ∈ M) : ∃ p, p ∈ L ∧ q.x = p.x ∧ q.y = p.y := by
  have h1 : (q.x, q.y) ∈ dat M := List.mem_map.2 ⟨q, hq, rfl⟩
  rw [h] at h1
  obtain ⟨p, hp, e⟩ := List.mem_map.1 h1
  injection e with e1 e2
  exact ⟨p, hp, e1.symm, e2.symm⟩
theorem dat_short {L M : List PV} (h : dat M = dat L) (hS : ∀ p, p ∈ L → ShortP p) : ∀ p, p ∈ M → ShortP p := fun q hq => by
  obtain ⟨p, hp, e1, e2⟩ := dat_mem h hq
  have := hS p hp
  unfold ShortP at this ⊢
  rw [e1, e2]; exact this
theorem aV_dat {p q r p' q' r' : PV} (h1 : p'.x = p.x) (h2 : p'.y = p.y) (h3 : q'.x = q.x) (h4 : q'.y = q.y) (h5 : r'.x = r.x) (h6 : r'.y = r.y) : aV p' q' r' = aV p q r := by
  unfold aV; rw [h1, h2, h3, h4, h5, h6]
theorem dat_three {p q r : PV} {M : List PV} (h : dat M = dat [p, q, r]) : ∃ p' q' r', M = [p', q', r'] ∧ (p'.x = p.x ∧ p'.y = p.y) ∧ (q'.x = q.x ∧ q'.y = q.y) ∧ r'.x = r.x ∧ r'.y = r.y := by
  obtain ⟨p', q', r', rfl⟩ := three_of_len (dat_len h)
  simp only [dat, List.map_cons, List.map_nil, List.cons.injEq, Prod.mk.injEq, and_true] at h
  exact ⟨p', q', r', rfl, h.1, h.2.1, h.2.2⟩
theorem properB_dat {L M : List PV} (h : dat M = dat L) : properB M = properB L := by
  by_cases h3 : L.length = 3
  · obtain ⟨p, q, r, rfl⟩ := three_of_len h3
    obtain ⟨p', q', r', rfl, ⟨a1, a2⟩, ⟨a3, a4⟩, a5, a6⟩ := dat_three h
    show decide (0 < sgnO (aV p' q' r')) = decide (0 < sgnO (aV p q r))
    rw [aV_dat a1 a2 a3 a4 a5 a6]
  · rw [properB_len h3, properB_len (by rw [dat_len h]; exact h3)]
theorem aT_dat {L M : List PV} (h : dat M = dat L) : aT M = aT L := by
  cases hp : properB L with
  | false => rw [aT_no hp, aT_no (by rw [properB_dat h]; exact hp)]
  | true =>
    have hp' : properB M = true := by rw [properB_dat h]; exact hp
    obtain ⟨p, q, r, rfl, _, _⟩ := properB_three hp
    obtain ⟨p', q', r', rfl, ⟨a1, a2⟩, ⟨a3, a4⟩, a5, a6⟩ := dat_three h
    rw [aT_yes hp, aT_yes hp', aV_dat a1 a2 a3 a4 a5 a6]
theorem szs_facts {L : List PV} (h : (L.length : Int) + szs L ≤ 1048576) : L.length ≤ 1048576 ∧ ∀ p, p ∈ L → ShortP p := by
  have h1 := szs_pos L
  exact ⟨by omega, szs_short (left := 1048576) (by omega) (by omega)⟩
end Go.Proofs.YtppdholccpgcpaaGreat
namespace Go.Proofs.YtppdholccpgcpaaGreat
open Go.ChangeShapes Go.WideShapes Go.ChangeAt Go.RowKit
set_option linter.unusedVariables false
set_option linter.unusedSimpArgs false
set_option maxRecDepth 4000
def fullQ (L : List RV) : Bool := L.all (fun p => decide (0 < p.x.m.length))
attribute [local go_sem ↓] Go.wp_at_zero Go.wp_at_succ
end Go.Proofs.YtppdholccpgcpaaGreat
namespace Go.Proofs.YtppdholccpgcpaaGreat
open Go.ChangeShapes Go.WideShapes Go.ChangeAt Go.RowKit
set_option linter.unusedVariables false
set_option linter.unusedSimpArgs false
set_option maxRecDepth 4000
theorem szs_dat {L M : List PV} (h : dat M = dat L) : szs M = szs L := by
  induction L generalizing M with
  | nil => obtain rfl : M = [] := List.eq_nil_of_length_eq_zero (dat_len h); rfl
  | cons p L ih =>
    match M, h with
    | q :: M, h =>
      simp only [dat, List.map_cons, List.cons.injEq, Prod.mk.injEq] at h
      show szp q + szs M = szp p + szs L
      rw [ih h.2]; unfold szp; rw [h.1.1, h.1.2]
theorem nxs_dat {L M : List PV} (k : Int) (h : dat M = dat L) : nxs k M = nxs k L := by rw [nxs_eq, nxs_eq, szs_dat h, dat_len h]
end Go.Proofs.YtppdholccpgcpaaGreat
