/-
  The harness' copy of a list of fractions.
-/
import Derived.Test.YtppdholccpgcpaaGreatRl
import Derived.Test.YtppdholccpgcpaaGreatStore
import Derived.Test.YtppdholccpgcpaaGreatRlE
import Derived.Maps.AppendAt
namespace Go.Proofs.YtppdholccpgcpaaGreat
open Go.ChangeShapes Go.WideShapes Go.ChangeAt Go.RowKit
open Go.ChangeMaps (open_string shut_string)
set_option linter.unusedVariables false
set_option linter.unusedSimpArgs false
set_option maxRecDepth 4000
theorem rt_info : (Tryz.prog.info? 29).map (fun i => (i.zero, i.size, i.bytes)) = some (some (.agg #[.bool false, .slice none 0 0, .slice none 0 0]), 3, 56) := by kernel_rfl
theorem rat_size : (Tryz.prog.info? 29).map (·.size) = some 3 := by kernel_rfl
end Go.Proofs.YtppdholccpgcpaaGreat
namespace Go.Proofs.YtppdholccpgcpaaGreat
open Go.ChangeShapes Go.WideShapes Go.ChangeAt Go.RowKit
open Go.ChangeMaps (open_string shut_string)
set_option linter.unusedVariables false
set_option linter.unusedSimpArgs false
set_option maxRecDepth 4000
theorem OwnS.of_own3 {w : World} {base : Nat} {e : TypeId} {A : Option Addr} {n c : Nat} {l : List Value} (h : w.ownsRow base e 3 (.slice A n c) n l) : OwnS base w A l := by
  by_cases h0 : l = []
  · exact .inl h0
  · have hl : l.length = n * 3 := h.1
    have hn : 0 < n := by
      rcases Nat.eq_zero_or_pos n with h1 | h1
      · subst h1; simp at hl; exact absurd hl h0
      · exact h1
    rcases h.2 with ⟨_, he⟩ | ⟨g, cap, cur, hv, hbg, hh, hnc, _, hsz, htake⟩
    · omega
    · have hA : A = some ⟨g, 0, none⟩ := by injection hv
      refine .inr ⟨g, hA, hbg, (Array.getElem?_eq_some_iff.1 hh).1, fun j hj => ?_, fun j hj => ?_⟩
      · rw [cell_of_row w g j cur e (0, 0) hh, ← htake, List.getElem?_take, if_pos (by omega)]
        simp
      · simp [World.frozen?, hh]
theorem cap_appQ {M : List RV} {q : RV} (h : ∀ p, p ∈ M → CapQ p) (hq : CapQ q) : ∀ p, p ∈ M ++ [q] → CapQ p := fun p hp => by
  rcases List.mem_append.1 hp with h1 | h1
  · exact h p h1
  · rw [List.mem_singleton] at h1; subst h1; exact hq
theorem rows_intQ {M : List RV} {r : Option Addr × List Value} (h : r ∈ lrowQ M) : ∃ l, r.2 = vi l := by
  obtain ⟨p, _, hp⟩ := List.mem_flatMap.1 h
  unfold qrow rows at hp
  simp only [List.cons_append, List.nil_append, List.mem_cons, List.not_mem_nil, or_false] at hp
  rcases hp with rfl | rfl <;> exact ⟨_, rfl⟩
theorem off_listQ {B lo hi n g cap : Nat} {w : World} {M : List RV} (h : w.ownsRow B 29 3 (.slice (some ⟨g, 0, none⟩) n cap) n (flatQ M)) (hO : Owns lo hi w (lrowQ M)) : OffG g (lrowQ M) := fun r hr e => by
  cases M with
  | nil => cases hr
  | cons p M =>
    obtain ⟨l, hl⟩ := rows_intQ hr
    have h0 : r.2.length ≠ 0 := fun h0 => by rw [h0] at e; simp [rowOf] at e
    rcases (hO r hr).1 with h1 | ⟨g', ha, _, _, hc, _⟩
    · rw [h1] at h0; exact h0 rfl
    have hgg : g' = g := by
      unfold rowOf at e
      rw [if_neg h0, ha] at e
      injection e with e
    subst hgg
    have hc0 := hc 0 (by omega)
    rcases h.2 with ⟨hv, _⟩ | ⟨g2, cap2, cur, hv, _, hh, _, _, _, ht⟩
    · cases hv
    · injection hv with e1 _ _
      injection e1 with e1
      injection e1 with e1
      subst e1
      have hn : n * 3 = (flatQ (p :: M)).length := h.1.symm
      have h00 : (flatQ (p :: M))[0]? = some (.bool p.x.p) := rfl
      rw [← ht, List.getElem?_take, if_pos (by rw [hn, flatQ_length]; simp)] at h00
      have hcell := cell_of_row w g' 0 cur 29 (0, 0) hh
      rw [hcell, hl] at hc0
      rw [hl] at h0
      cases l with
      | nil => exact h0 rfl
      | cons x l =>
        have e3 : (vi (x :: l))[0]? = some (Value.int .i64 x) := rfl
        rw [e3] at hc0
        have h01 : cur[0]? = some (.bool p.x.p) := by simpa using h00
        rw [h01] at hc0
        injection hc0 with hc0
        cases hc0
theorem list_ownQ {B n : Nat} {w : World} {v : Value} {xs : List Value} (h : w.ownsRow B 29 3 v n xs) : v = .slice none 0 0 ∨ ∃ g cap, v = .slice (some ⟨g, 0, none⟩) n cap ∧ B ≤ g ∧ g < w.heap.size ∧ n ≤ cap := by
  rcases h.2 with ⟨hv, _⟩ | ⟨g, cap, cur, hv, hB, hh, hc, _⟩
  · exact .inl hv
  · exact .inr ⟨g, cap, hv, hB, (Array.getElem?_eq_some_iff.1 hh).1, hc⟩
theorem own_formQ {B n : Nat} {w : World} {v : Value} {xs : List Value} (h : w.ownsRow B 29 3 v n xs) : ∃ A c, v = .slice A n c := by
  rcases h.2 with ⟨hv, hn⟩ | ⟨g, cap, cur, hv, _⟩
  · exact ⟨none, 0, by rw [hv, hn]⟩
  · exact ⟨_, _, hv⟩
theorem own3_below {w w' : World} {B n : Nat} {v : Value} {xs : List Value} (h : w.ownsRow B 29 3 v n xs) (hb : Below w.heap.size w w') : w'.ownsRow B 29 3 v n xs :=
  ⟨h.1, h.2.imp id (fun ⟨g, cap, cur, hv, hB, hh, r⟩ => ⟨g, cap, cur, hv, hB, by rw [hb.block g (Array.getElem?_eq_some_iff.1 hh).1]; exact hh, r⟩)⟩
end Go.Proofs.YtppdholccpgcpaaGreat
