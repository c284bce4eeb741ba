/-
  A point is put behind a list of the call's own: the other rows stay.
-/
import Derived.Test.YtppdholccpgcpaaGreatWp
import Derived.Test.YtppdholccpgcpaaGreatShC
import Derived.Test.YtppdholccpgcpaaGreatTriS
namespace Go.Proofs.YtppdholccpgcpaaGreat
open Go.ChangeShapes Go.WideShapes Go.ChangeAt Go.RowKit
set_option linter.unusedVariables false
set_option linter.unusedSimpArgs false
set_option maxRecDepth 4000
theorem rows_int {M : List PV} {r : Option Addr × List Value} (h : r ∈ lrow M) : ∃ l, r.2 = vi l := by
  obtain ⟨p, _, hp⟩ := List.mem_flatMap.1 h
  unfold prow rows at hp
  simp only [List.cons_append, List.nil_append, List.mem_cons, List.not_mem_nil, or_false] at hp
  rcases hp with rfl | rfl | rfl | rfl <;> exact ⟨_, rfl⟩
theorem off_list {B lo hi n g cap : Nat} {w : World} {M : List PV} (h : w.ownsRow B 31 6 (.slice (some ⟨g, 0, none⟩) n cap) n (flat M)) (hO : Owns lo hi w (lrow M)) : OffG g (lrow M) := fun r hr e => by
  cases M with
  | nil => cases hr
  | cons p M =>
    obtain ⟨l, hl⟩ := rows_int hr
    have h0 : r.2.length ≠ 0 := fun h0 => by rw [h0] at e; simp [rowOf] at e
    rcases (hO r hr).1 with h1 | ⟨g', ha, _, _, hc, _⟩
    · rw [h1] at h0; exact h0 rfl
    have hgg : g' = g := by
      unfold rowOf at e
      rw [if_neg h0, ha] at e
      injection e with e
    subst hgg
    have hc0 := hc 0 (by omega)
    rcases h.2 with ⟨hv, _⟩ | ⟨g2, cap2, cur, hv, _, hh, _, _, _, ht⟩
    · cases hv
    · injection hv with e1 _ _
      injection e1 with e1
      injection e1 with e1
      subst e1
      have hn : n * 6 = (flat (p :: M)).length := h.1.symm
      have h00 : (flat (p :: M))[0]? = some (.bool p.x.p) := rfl
      rw [← ht, List.getElem?_take, if_pos (by rw [hn, flat_length]; simp)] at h00
      have hcell := cell_of_row w g' 0 cur 31 (0, 0) hh
      rw [hcell, hl] at hc0
      rw [hl] at h0
      cases l with
      | nil => exact h0 rfl
      | cons x l =>
        have e3 : (vi (x :: l))[0]? = some (Value.int .i64 x) := rfl
        rw [e3] at hc0
        have h01 : cur[0]? = some (.bool p.x.p) := by simpa using h00
        rw [h01] at hc0
        injection hc0 with hc0
        cases hc0
theorem list_own {B n : Nat} {w : World} {v : Value} {xs : List Value} (h : w.ownsRow B 31 6 v n xs) : v = .slice none 0 0 ∨ ∃ g cap, v = .slice (some ⟨g, 0, none⟩) n cap ∧ B ≤ g ∧ g < w.heap.size ∧ n ≤ cap := by
  rcases h.2 with ⟨hv, _⟩ | ⟨g, cap, cur, hv, hB, hh, hc, _⟩
  · exact .inl hv
  · exact .inr ⟨g, cap, hv, hB, (Array.getElem?_eq_some_iff.1 hh).1, hc⟩
theorem own_form {B n : Nat} {w : World} {v : Value} {xs : List Value} (h : w.ownsRow B 31 6 v n xs) : ∃ A c, v = .slice A n c := by
  rcases h.2 with ⟨hv, hn⟩ | ⟨g, cap, cur, hv, _⟩
  · exact ⟨none, 0, by rw [hv, hn]⟩
  · exact ⟨_, _, hv⟩
theorem own6_below {w w' : World} {B n : Nat} {v : Value} {xs : List Value} (h : w.ownsRow B 31 6 v n xs) (hb : Below w.heap.size w w') : w'.ownsRow B 31 6 v n xs :=
  ⟨h.1, h.2.imp id (fun ⟨g, cap, cur, hv, hB, hh, r⟩ => ⟨g, cap, cur, hv, hB, by rw [hb.block g (Array.getElem?_eq_some_iff.1 hh).1]; exact hh, r⟩)⟩
theorem append_pt {ops : Array Oper} {rest : List Oper} {o : Oper} {a : Act} {Q : Exit → Act → World → Prop} (hgd : o.guard = none) (f x : Operand)
    (ho : o.op = .call { callee := .builtin .append, args := #[f, x], argTypes := #[23, 23] })
    (B n lo mid hi : Nat) (v : Value) (M : List PV) (q : PV) (w : World) (hf : a.eval f = v) (hx : a.eval x = .slice (some ⟨w.heap.size, 0, none⟩) 1 1)
    (hown : w.ownsRow B 31 6 v n (flat M)) (hn : n ≤ 1000) (hB : B ≤ w.heap.size) (hO : Owns lo mid w (lrow M)) (hQ : Owns mid hi w (prow q)) (hap : Aparts (lrow M)) (haq : Aparts (prow q)) (hv : ∀ g, v.ownBlock = some g → g < mid) (hlo : lo ≤ mid) (hmh : mid ≤ hi) (hhi : hi ≤ w.heap.size)
    (h : ∀ v' w', w'.ownsRow B 31 6 v' (n + 1) (flat (M ++ [q])) → Below B w w' → Owns lo w'.heap.size w' (lrow (M ++ [q])) → Aparts (lrow (M ++ [q])) → wpList Tryz.prog ops Q rest (a.put o.dst v') w') :
    wpList Tryz.prog ops Q (o :: rest) a (w.alloc (.cells (p6 q) 31)) := by
  obtain ⟨i0, hi0, hz0, hz1, hz2⟩ := info_parts pt_info
  refine wpList_append_own (w.alloc (.cells (p6 q) 31)) hgd f x 23 ho B 31 i0 _ 6 112 Tryz.underlying23 hi0 hz0 hz1 hz2 rfl (by decide) v n (flat M) hf (hown.alloc _) ⟨w.heap.size, 0, none⟩ 1 1 [.bool q.x.p, .slice q.a.A q.x.l.length q.a.c, .slice q.a.D q.x.m.length q.a.d, .bool q.y.p, .slice q.b.A q.y.l.length q.b.c, .slice q.b.D q.y.m.length q.b.d] hx rfl ?_ ?_ (by simp only [maxLen]; omega) (by omega) (by simp; omega) ?_
  · intro j u hu
    have hc := cell_of_row (w.alloc (.cells (p6 q) 31)) w.heap.size j (p6 q) 31 (0, 0) (heap_alloc_new _ _)
    rw [add_plain, Nat.zero_add, hc]
    simpa using hu
  · simp [Value.oneCell', p6]
  · intro v' w' h1 h2 _
    have hb := ba1 w (.cells (p6 q) 31)
    have off : ∀ g, v.ownBlock = some g → OffG g (lrow M) := fun g hg => by
      rcases list_own hown with rfl | ⟨g', cap, rfl, _⟩
      · cases hg
      · obtain rfl : g' = g := by injection hg
        exact off_list hown hO
    have ofq : ∀ g, v.ownBlock = some g → OffG g (prow q) := fun g hg => offG_owns hQ (hv g hg)
    refine h v' w' (by rw [flat_app]; simpa [flat, pcl] using h1) ?_ ?_ ?_
    · refine ((Below.refl B w).alloc hB _).grown h2 (by simp; omega) (fun g hg => ?_)
      rcases list_own hown with rfl | ⟨g', cap, rfl, hB', _⟩
      · cases hg
      · obtain rfl : g' = g := by injection hg
        exact hB'
    · rw [lrow_app, lrow_one]
      have hz : w.heap.size ≤ w'.heap.size := Nat.le_trans hb.size h2.size
      exact Owns.app ((owns_grown (hO.below hb) h2 off).wide (Nat.le_refl _) (by omega)) ((owns_grown (hQ.below hb) h2 ofq).wide hlo (by omega))
    · rw [lrow_app, lrow_one]
      exact Aparts.app hap haq hO hQ
theorem made_list {B B0 n lo : Nat} {w w' : World} {L M : List PV} {v : Value} (h : w'.ownsRow B0 31 6 v n (flat M)) (hB : B ≤ B0) (hlo : B ≤ lo) (hn : M.length = n) (hd : dat M = dat L) (hcap : ∀ p, p ∈ M → CapP p)
    (hO : Owns lo w'.heap.size w' (lrow M)) (hap : Aparts (lrow M)) (kb : Below w.heap.size w w') : MadePS B L w (.returned v) w' := by
  subst hn
  have key : ∀ A c, v = .slice A M.length c → MadePS B L w (.returned v) w' := fun A c e => by
    subst e
    have hown := OwnS.of_own6 h
    have hc : M.length ≤ c := by
      rcases list_own h with e | ⟨g, cap, e, _, _, hc⟩
      · injection e with _ e2 e3; omega
      · injection e with _ _ e3; omega
    have hin : InR (flat M).length A B0 w'.heap.size := hown.inR rfl
    refine ⟨M, A, c, rfl, hc, hd, hcap, Owns.cons (hown.more hB) (fun g hg => ⟨Nat.le_trans hB (hin g hg).1, (hin g hg).2⟩) (hO.wide hlo (Nat.le_refl _)), ?_, kb⟩
    refine List.Pairwise.cons (fun s hs g hg => ?_) hap
    rcases list_own h with e | ⟨g', cap, e, _⟩
    · injection e with e1 _ _
      subst e1
      unfold rowOf at hg
      split at hg <;> cases hg
    · injection e with e1 _ e3
      subst e1 e3
      have hgg : g' = g := by
        unfold rowOf at hg
        split at hg
        · cases hg
        · injection hg
      subst hgg
      exact off_list h hO s hs
  rcases list_own h with e | ⟨g, cap, e, _⟩
  · rcases h.2 with ⟨_, hn⟩ | ⟨g, cap, cur, hv, _⟩
    · exact key none 0 (by rw [e, hn])
    · rw [e] at hv; cases hv
  · exact key _ _ e
end Go.Proofs.YtppdholccpgcpaaGreat
