/-
  The harness' copy of a list of fractions.
-/
import Derived.Test.YtppdholccpgcpaaGreatWg
import Derived.Test.YtppdholccpgcpaaGreatSlH
import Derived.Test.YtppdholccpgcpaaGreatStore
import Derived.Test.YtppdholccpgcpaaGreatWp
import Derived.Maps.AppendAt
import Derived.Test.YtppdholccpgcpaaGreatRm
namespace Go.Proofs.YtppdholccpgcpaaGreat
open Go.ChangeShapes Go.WideShapes Go.ChangeAt Go.RowKit
set_option linter.unusedVariables false
set_option linter.unusedSimpArgs false
set_option maxRecDepth 4000
theorem rt_info : (Tryz.prog.info? 29).map (fun i => (i.zero, i.size, i.bytes)) = some (some (.agg z3), 3, 56) := by kernel_rfl
theorem rat_size : (Tryz.prog.info? 29).map (·.size) = some 3 := by kernel_rfl
end Go.Proofs.YtppdholccpgcpaaGreat
namespace Go.Proofs.YtppdholccpgcpaaGreat
open Go.ChangeShapes Go.WideShapes Go.ChangeAt Go.RowKit
set_option linter.unusedVariables false
set_option linter.unusedSimpArgs false
set_option maxRecDepth 4000
theorem OwnS.of_own3 {w : World} {base : Nat} {e : TypeId} {A : Option Addr} {n c : Nat} {l : List Value} (h : w.ownsRow base e 3 (.slice A n c) n l) : OwnS base w A l := by
  by_cases h0 : l = []
  · exact .inl h0
  · have hl : l.length = n * 3 := h.1
    have hn : 0 < n := by
      rcases Nat.eq_zero_or_pos n with h1 | h1
      · subst h1; simp at hl; exact absurd hl h0
      · exact h1
    rcases h.2 with ⟨_, he⟩ | ⟨g, cap, cur, hv, hbg, hh, hnc, _, hsz, htake⟩
    · omega
    · have hA : A = some ⟨g, 0, none⟩ := by injection hv
      refine .inr ⟨g, hA, hbg, (Array.getElem?_eq_some_iff.1 hh).1, fun j hj => ?_, fun j hj => ?_⟩
      · rw [cell_of_row w g j cur e (0, 0) hh, ← htake, List.getElem?_take, if_pos (by omega)]
        simp
      · simp [World.frozen?, hh]
theorem cap_appQ {M : List RV} {q : RV} (h : ∀ p, p ∈ M → CapQ p) (hq : CapQ q) : ∀ p, p ∈ M ++ [q] → CapQ p := fun p hp => by
  rcases List.mem_append.1 hp with h1 | h1
  · exact h p h1
  · rw [List.mem_singleton] at h1; subst h1; exact hq
theorem rows_intQ {M : List RV} {r : Option Addr × List Value} (h : r ∈ lrowQ M) : ∃ l, r.2 = vi l := by
  obtain ⟨p, _, hp⟩ := List.mem_flatMap.1 h
  unfold qrow rows at hp
  simp only [List.cons_append, List.nil_append, List.mem_cons, List.not_mem_nil, or_false] at hp
  rcases hp with rfl | rfl <;> exact ⟨_, rfl⟩
theorem off_listQ {B lo hi n g cap : Nat} {w : World} {M : List RV} (h : w.ownsRow B 29 3 (.slice (some ⟨g, 0, none⟩) n cap) n (flatQ M)) (hO : Owns lo hi w (lrowQ M)) : OffG g (lrowQ M) := fun r hr e => by
  cases M with
  | nil => cases hr
  | cons p M =>
    obtain ⟨l, hl⟩ := rows_intQ hr
    have h0 : r.2.length ≠ 0 := fun h0 => by rw [h0] at e; simp [rowOf] at e
    rcases (hO r hr).1 with h1 | ⟨g', ha, _, _, hc, _⟩
    · rw [h1] at h0; exact h0 rfl
    have hgg : g' = g := by
      unfold rowOf at e
      rw [if_neg h0, ha] at e
      injection e with e
    subst hgg
    have hc0 := hc 0 (by omega)
    rcases h.2 with ⟨hv, _⟩ | ⟨g2, cap2, cur, hv, _, hh, _, _, _, ht⟩
    · cases hv
    · injection hv with e1 _ _
      injection e1 with e1
      injection e1 with e1
      subst e1
      have hn : n * 3 = (flatQ (p :: M)).length := h.1.symm
      have h00 : (flatQ (p :: M))[0]? = some (.bool p.x.p) := rfl
      rw [← ht, List.getElem?_take, if_pos (by rw [hn, flatQ_length]; simp)] at h00
      have hcell := cell_of_row w g' 0 cur 29 (0, 0) hh
      rw [hcell, hl] at hc0
      rw [hl] at h0
      cases l with
      | nil => exact h0 rfl
      | cons x l =>
        have e3 : (vi (x :: l))[0]? = some (Value.int .i64 x) := rfl
        rw [e3] at hc0
        have h01 : cur[0]? = some (.bool p.x.p) := by simpa using h00
        rw [h01] at hc0
        injection hc0 with hc0
        cases hc0
theorem list_ownQ {B n : Nat} {w : World} {v : Value} {xs : List Value} (h : w.ownsRow B 29 3 v n xs) : v = .slice none 0 0 ∨ ∃ g cap, v = .slice (some ⟨g, 0, none⟩) n cap ∧ B ≤ g ∧ g < w.heap.size ∧ n ≤ cap := by
  rcases h.2 with ⟨hv, _⟩ | ⟨g, cap, cur, hv, hB, hh, hc, _⟩
  · exact .inl hv
  · exact .inr ⟨g, cap, hv, hB, (Array.getElem?_eq_some_iff.1 hh).1, hc⟩
theorem own_formQ {B n : Nat} {w : World} {v : Value} {xs : List Value} (h : w.ownsRow B 29 3 v n xs) : ∃ A c, v = .slice A n c := by
  rcases h.2 with ⟨hv, hn⟩ | ⟨g, cap, cur, hv, _⟩
  · exact ⟨none, 0, by rw [hv, hn]⟩
  · exact ⟨_, _, hv⟩
theorem own3_below {w w' : World} {B n : Nat} {v : Value} {xs : List Value} (h : w.ownsRow B 29 3 v n xs) (hb : Below w.heap.size w w') : w'.ownsRow B 29 3 v n xs :=
  ⟨h.1, h.2.imp id (fun ⟨g, cap, cur, hv, hB, hh, r⟩ => ⟨g, cap, cur, hv, hB, by rw [hb.block g (Array.getElem?_eq_some_iff.1 hh).1]; exact hh, r⟩)⟩
end Go.Proofs.YtppdholccpgcpaaGreat
namespace Go.Proofs.YtppdholccpgcpaaGreat
open Go.ChangeShapes Go.WideShapes Go.ChangeAt Go.RowKit
set_option linter.unusedVariables false
set_option linter.unusedSimpArgs false
set_option maxRecDepth 4000
theorem rowt_info : (Tryz.prog.info? 33).map (fun i => (i.zero, i.size, i.bytes)) = some (some (.slice none 0 0), 1, 24) := by kernel_rfl
theorem flatS_app (R T : List SV) : flatS (R ++ T) = flatS R ++ flatS T := by simp [flatS]
theorem lrowS_one (p : SV) : lrowS [p] = rrowS p := by simp [lrowS]
theorem rows_S {R : List SV} {r : Row} (h : r ∈ lrowS R) : (∃ l, r.2 = vi l) ∨ ∃ L : List RV, r.2 = flatQ L := by
  obtain ⟨p, _, hp⟩ := List.mem_flatMap.1 h
  unfold rrowS srowQ at hp
  rcases List.mem_cons.1 hp with rfl | hp
  · exact .inr ⟨_, rfl⟩
  · exact .inl (rows_intQ hp)
theorem off_listS {B lo hi n g cap : Nat} {w : World} {M : List SV} (h : w.ownsRow B 33 1 (.slice (some ⟨g, 0, none⟩) n cap) n (flatS M)) (hO : Owns lo hi w (lrowS M)) : OffG g (lrowS M) := fun r hr e => by
  cases M with
  | nil => cases hr
  | cons p M =>
    have h0 : r.2.length ≠ 0 := fun h0 => by rw [h0] at e; simp [rowOf] at e
    rcases (hO r hr).1 with h1 | ⟨g', ha, _, _, hc, _⟩
    · rw [h1] at h0; exact h0 rfl
    have hgg : g' = g := by
      unfold rowOf at e
      rw [if_neg h0, ha] at e
      injection e with e
    subst hgg
    have hc0 := hc 0 (by omega)
    rcases h.2 with ⟨hv, _⟩ | ⟨g2, cap2, cur, hv, _, hh, _, _, _, ht⟩
    · cases hv
    · injection hv with e1 _ _
      injection e1 with e1
      injection e1 with e1
      subst e1
      have hn : n * 1 = (flatS (p :: M)).length := h.1.symm
      have h00 : (flatS (p :: M))[0]? = some (.slice p.A p.L.length p.c) := rfl
      rw [← ht, List.getElem?_take, if_pos (by rw [hn, flatS_length]; simp)] at h00
      have hcell := cell_of_row w g' 0 cur 33 (0, 0) hh
      have h01 : cur[0]? = some (.slice p.A p.L.length p.c) := by simpa using h00
      rcases rows_S hr with ⟨l, hl⟩ | ⟨l, hl⟩
      · rw [hcell, hl, h01] at hc0
        rw [hl] at h0
        cases l with
        | nil => exact h0 rfl
        | cons x l =>
          have e3 : (vi (x :: l))[0]? = some (Value.int .i64 x) := rfl
          rw [e3] at hc0
          injection hc0 with hc0
          cases hc0
      · rw [hcell, hl, h01] at hc0
        rw [hl] at h0
        cases l with
        | nil => exact h0 rfl
        | cons x l =>
          have e3 : (flatQ (x :: l))[0]? = some (Value.bool x.x.p) := rfl
          rw [e3] at hc0
          injection hc0 with hc0
          cases hc0
theorem list_ownS {B n : Nat} {w : World} {v : Value} {xs : List Value} (h : w.ownsRow B 33 1 v n xs) : v = .slice none 0 0 ∨ ∃ g cap, v = .slice (some ⟨g, 0, none⟩) n cap ∧ B ≤ g ∧ g < w.heap.size ∧ n ≤ cap := by
  rcases h.2 with ⟨hv, _⟩ | ⟨g, cap, cur, hv, hB, hh, hc, _⟩
  · exact .inl hv
  · exact .inr ⟨g, cap, hv, hB, (Array.getElem?_eq_some_iff.1 hh).1, hc⟩
theorem own_formS {B n : Nat} {w : World} {v : Value} {xs : List Value} (h : w.ownsRow B 33 1 v n xs) : ∃ A c, v = .slice A n c := by
  rcases h.2 with ⟨hv, hn⟩ | ⟨g, cap, cur, hv, _⟩
  · exact ⟨none, 0, by rw [hv, hn]⟩
  · exact ⟨_, _, hv⟩
theorem own1_below {w w' : World} {B n : Nat} {v : Value} {xs : List Value} (h : w.ownsRow B 33 1 v n xs) (hb : Below w.heap.size w w') : w'.ownsRow B 33 1 v n xs :=
  ⟨h.1, h.2.imp id (fun ⟨g, cap, cur, hv, hB, hh, r⟩ => ⟨g, cap, cur, hv, hB, by rw [hb.block g (Array.getElem?_eq_some_iff.1 hh).1]; exact hh, r⟩)⟩
theorem append_row {ops : Array Oper} {rest : List Oper} {o : Oper} {a : Act} {Q : Exit → Act → World → Prop} (hgd : o.guard = none) (f x : Operand)
    (ho : o.op = .call { callee := .builtin .append, args := #[f, x], argTypes := #[47, 47] })
    (B n lo mid hi : Nat) (v : Value) (M : List SV) (q : SV) (w : World) (hf : a.eval f = v) (hx : a.eval x = .slice (some ⟨w.heap.size, 0, none⟩) 1 1)
    (hown : w.ownsRow B 33 1 v n (flatS M)) (hn : n ≤ 1000) (hB : B ≤ w.heap.size) (hO : Owns lo mid w (lrowS M)) (hQ : Owns mid hi w (rrowS q)) (hap : Aparts (lrowS M)) (haq : Aparts (rrowS q)) (hv : ∀ g, v.ownBlock = some g → g < mid) (hlo : lo ≤ mid) (hmh : mid ≤ hi) (hhi : hi ≤ w.heap.size)
    (h : ∀ v' w', w'.ownsRow B 33 1 v' (n + 1) (flatS (M ++ [q])) → Below B w w' → Owns lo w'.heap.size w' (lrowS (M ++ [q])) → Aparts (lrowS (M ++ [q])) → wpList Tryz.prog ops Q rest (a.put o.dst v') w') :
    wpList Tryz.prog ops Q (o :: rest) a (w.alloc (.cells #[.slice q.A q.L.length q.c] 33)) := by
  obtain ⟨i0, hi0, hz0, hz1, hz2⟩ := info_parts rowt_info
  refine wpList_append_own (w.alloc (.cells #[.slice q.A q.L.length q.c] 33)) hgd f x 47 ho B 33 i0 _ 1 24 Tryz.underlying47 hi0 hz0 hz1 hz2 rfl (by decide) v n (flatS M) hf (hown.alloc _) ⟨w.heap.size, 0, none⟩ 1 1 [.slice q.A q.L.length q.c] hx rfl ?_ ?_ (by simp only [maxLen]; omega) (by omega) (by simp; omega) ?_
  · intro j u hu
    have hc := cell_of_row (w.alloc (.cells #[.slice q.A q.L.length q.c] 33)) w.heap.size j #[.slice q.A q.L.length q.c] 33 (0, 0) (heap_alloc_new _ _)
    rw [add_plain, Nat.zero_add, hc]
    simpa using hu
  · simp [Value.oneCell']
  · intro v' w' h1 h2 _
    have hb := ba1 w (.cells #[.slice q.A q.L.length q.c] 33)
    have off : ∀ g, v.ownBlock = some g → OffG g (lrowS M) := fun g hg => by
      rcases list_ownS hown with rfl | ⟨g', cap, rfl, _⟩
      · cases hg
      · obtain rfl : g' = g := by injection hg
        exact off_listS hown hO
    have ofq : ∀ g, v.ownBlock = some g → OffG g (rrowS q) := fun g hg => offG_owns hQ (hv g hg)
    refine h v' w' (by rw [flatS_app]; simpa [flatS, scl] using h1) ?_ ?_ ?_
    · refine ((Below.refl B w).alloc hB _).grown h2 (by simp; omega) (fun g hg => ?_)
      rcases list_ownS hown with rfl | ⟨g', cap, rfl, hB', _⟩
      · cases hg
      · obtain rfl : g' = g := by injection hg
        exact hB'
    · rw [lrowS_app, lrowS_one]
      have hz : w.heap.size ≤ w'.heap.size := Nat.le_trans hb.size h2.size
      exact Owns.app ((owns_grown (hO.below hb) h2 off).wide (Nat.le_refl _) (by omega)) ((owns_grown (hQ.below hb) h2 ofq).wide hlo (by omega))
    · rw [lrowS_app, lrowS_one]
      exact Aparts.app hap haq hO hQ
end Go.Proofs.YtppdholccpgcpaaGreat
