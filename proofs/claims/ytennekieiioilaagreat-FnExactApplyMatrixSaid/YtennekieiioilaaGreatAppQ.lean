/-
  A fraction is put behind a list of the call's own: the other rows stay.
-/
import Derived.Test.YtennekieiioilaaGreatRlT
import Derived.Test.YtennekieiioilaaGreatAppG
import Derived.Maps.AppendAt
namespace Go.Proofs.YtennekieiioilaaGreat
open Go.ChangeShapes Go.WideShapes Go.ChangeAt Go.RowKit
open Go.ChangeMaps (open_string shut_string)
set_option linter.unusedVariables false
set_option linter.unusedSimpArgs false
set_option maxRecDepth 4000

theorem OwnS.of_own3 {w : World} {base : Nat} {e : TypeId} {A : Option Addr} {n c : Nat} {l : List Value} (h : w.ownsRow base e 3 (.slice A n c) n l) : OwnS base w A l := by
  by_cases h0 : l = []
  · exact .inl h0
  · have hl : l.length = n * 3 := h.1
    have hn : 0 < n := by
      rcases Nat.eq_zero_or_pos n with h1 | h1
      · subst h1; simp at hl; exact absurd hl h0
      · exact h1
    rcases h.2 with ⟨_, he⟩ | ⟨g, cap, cur, hv, hbg, hh, hnc, _, hsz, htake⟩
    · omega
    · have hA : A = some ⟨g, 0, none⟩ := by injection hv
      refine .inr ⟨g, hA, hbg, (Array.getElem?_eq_some_iff.1 hh).1, fun j hj => ?_, fun j hj => ?_⟩
      · rw [cell_of_row w g j cur e (0, 0) hh, ← htake, List.getElem?_take, if_pos (by omega)]
        simp
      · simp [World.frozen?, hh]
theorem made_noneQ (B : Nat) {w w' : World} {L : List RV} (h : L = []) (kb : Below w.heap.size w w') : MadeRS B L w (.returned (.slice none 0 0)) w' := by
  subst h
  refine ⟨[], none, 0, rfl, Nat.le_refl _, rfl, (fun p hp => by cases hp), ?_, Aparts.one _, kb⟩
  exact Owns.cons (.inl rfl) (fun g hg => by simp [rowOf, flatQ] at hg) (Owns.nil _ _ _)
theorem cap_appQ {M : List RV} {q : RV} (h : ∀ p, p ∈ M → CapQ p) (hq : CapQ q) : ∀ p, p ∈ M ++ [q] → CapQ p := fun p hp => by
  rcases List.mem_append.1 hp with h1 | h1
  · exact h p h1
  · rw [List.mem_singleton] at h1; subst h1; exact hq
theorem rows_intQ {M : List RV} {r : Option Addr × List Value} (h : r ∈ lrowQ M) : ∃ l, r.2 = vi l := by
  obtain ⟨p, _, hp⟩ := List.mem_flatMap.1 h
  unfold qrow rows at hp
  simp only [List.cons_append, List.nil_append, List.mem_cons, List.not_mem_nil, or_false] at hp
  rcases hp with rfl | rfl <;> exact ⟨_, rfl⟩
/-- The block of a list of fractions holds no row of integers. -/
theorem off_listQ {B lo hi n g cap : Nat} {w : World} {M : List RV} (h : w.ownsRow B 30 3 (.slice (some ⟨g, 0, none⟩) n cap) n (flatQ M)) (hO : Owns lo hi w (lrowQ M)) : OffG g (lrowQ M) := fun r hr e => by
  cases M with
  | nil => cases hr
  | cons p M =>
    obtain ⟨l, hl⟩ := rows_intQ hr
    have h0 : r.2.length ≠ 0 := fun h0 => by rw [h0] at e; simp [rowOf] at e
    rcases (hO r hr).1 with h1 | ⟨g', ha, _, _, hc, _⟩
    · rw [h1] at h0; exact h0 rfl
    have hgg : g' = g := by
      unfold rowOf at e
      rw [if_neg h0, ha] at e
      injection e with e
    subst hgg
    have hc0 := hc 0 (by omega)
    rcases h.2 with ⟨hv, _⟩ | ⟨g2, cap2, cur, hv, _, hh, _, _, _, ht⟩
    · cases hv
    · injection hv with e1 _ _
      injection e1 with e1
      injection e1 with e1
      subst e1
      have hn : n * 3 = (flatQ (p :: M)).length := h.1.symm
      have h00 : (flatQ (p :: M))[0]? = some (.bool p.x.p) := rfl
      rw [← ht, List.getElem?_take, if_pos (by rw [hn, flatQ_length]; simp)] at h00
      have hcell := cell_of_row w g' 0 cur 30 (0, 0) hh
      rw [hcell, hl] at hc0
      rw [hl] at h0
      cases l with
      | nil => exact h0 rfl
      | cons x l =>
        have e3 : (vi (x :: l))[0]? = some (Value.int .i64 x) := rfl
        rw [e3] at hc0
        have h01 : cur[0]? = some (.bool p.x.p) := by simpa using h00
        rw [h01] at hc0
        injection hc0 with hc0
        cases hc0
theorem list_ownQ {B n : Nat} {w : World} {v : Value} {xs : List Value} (h : w.ownsRow B 30 3 v n xs) : v = .slice none 0 0 ∨ ∃ g cap, v = .slice (some ⟨g, 0, none⟩) n cap ∧ B ≤ g ∧ g < w.heap.size ∧ n ≤ cap := by
  rcases h.2 with ⟨hv, _⟩ | ⟨g, cap, cur, hv, hB, hh, hc, _⟩
  · exact .inl hv
  · exact .inr ⟨g, cap, hv, hB, (Array.getElem?_eq_some_iff.1 hh).1, hc⟩
theorem own_formQ {B n : Nat} {w : World} {v : Value} {xs : List Value} (h : w.ownsRow B 30 3 v n xs) : ∃ A c, v = .slice A n c := by
  rcases h.2 with ⟨hv, hn⟩ | ⟨g, cap, cur, hv, _⟩
  · exact ⟨none, 0, by rw [hv, hn]⟩
  · exact ⟨_, _, hv⟩
theorem own3_below {w w' : World} {B n : Nat} {v : Value} {xs : List Value} (h : w.ownsRow B 30 3 v n xs) (hb : Below w.heap.size w w') : w'.ownsRow B 30 3 v n xs :=
  ⟨h.1, h.2.imp id (fun ⟨g, cap, cur, hv, hB, hh, r⟩ => ⟨g, cap, cur, hv, hB, by rw [hb.block g (Array.getElem?_eq_some_iff.1 hh).1]; exact hh, r⟩)⟩
theorem append_rt {ops : Array Oper} {rest : List Oper} {o : Oper} {a : Act} {Q : Exit → Act → World → Prop} (hgd : o.guard = none) (f x : Operand)
    (ho : o.op = .call { callee := .builtin .append, args := #[f, x], argTypes := #[43, 43] })
    (B n lo mid hi : Nat) (v : Value) (M : List RV) (q : RV) (w : World) (hf : a.eval f = v) (hx : a.eval x = .slice (some ⟨w.heap.size, 0, none⟩) 1 1)
    (hown : w.ownsRow B 30 3 v n (flatQ M)) (hn : n ≤ 1000) (hB : B ≤ w.heap.size) (hO : Owns lo mid w (lrowQ M)) (hQ : Owns mid hi w (qrow q)) (hap : Aparts (lrowQ M)) (haq : Aparts (qrow q)) (hv : ∀ g, v.ownBlock = some g → g < mid) (hlo : lo ≤ mid) (hmh : mid ≤ hi) (hhi : hi ≤ w.heap.size)
    (h : ∀ v' w', w'.ownsRow B 30 3 v' (n + 1) (flatQ (M ++ [q])) → Below B w w' → Owns lo w'.heap.size w' (lrowQ (M ++ [q])) → Aparts (lrowQ (M ++ [q])) → wpList Tryz.prog ops Q rest (a.put o.dst v') w') :
    wpList Tryz.prog ops Q (o :: rest) a (w.alloc (.cells #[.bool q.x.p, .slice q.a.A q.x.l.length q.a.c, .slice q.a.D q.x.m.length q.a.d] 30)) := by
  obtain ⟨i0, hi0, hz0, hz1, hz2⟩ := info_parts rt_info
  refine wpList_append_own (w.alloc (.cells #[.bool q.x.p, .slice q.a.A q.x.l.length q.a.c, .slice q.a.D q.x.m.length q.a.d] 30)) hgd f x 43 ho B 30 i0 _ 3 56 Tryz.underlying43 hi0 hz0 hz1 hz2 rfl (by decide) v n (flatQ M) hf (hown.alloc _) ⟨w.heap.size, 0, none⟩ 1 1 [.bool q.x.p, .slice q.a.A q.x.l.length q.a.c, .slice q.a.D q.x.m.length q.a.d] hx rfl ?_ ?_ (by simp only [maxLen]; omega) (by omega) (by simp; omega) ?_
  · intro j u hu
    have hc := cell_of_row (w.alloc (.cells #[.bool q.x.p, .slice q.a.A q.x.l.length q.a.c, .slice q.a.D q.x.m.length q.a.d] 30)) w.heap.size j #[.bool q.x.p, .slice q.a.A q.x.l.length q.a.c, .slice q.a.D q.x.m.length q.a.d] 30 (0, 0) (heap_alloc_new _ _)
    rw [add_plain, Nat.zero_add, hc]
    simpa using hu
  · simp [Value.oneCell']
  · intro v' w' h1 h2 _
    have hb := ba1 w (.cells #[.bool q.x.p, .slice q.a.A q.x.l.length q.a.c, .slice q.a.D q.x.m.length q.a.d] 30)
    have off : ∀ g, v.ownBlock = some g → OffG g (lrowQ M) := fun g hg => by
      rcases list_ownQ hown with rfl | ⟨g', cap, rfl, _⟩
      · cases hg
      · obtain rfl : g' = g := by injection hg
        exact off_listQ hown hO
    have ofq : ∀ g, v.ownBlock = some g → OffG g (qrow q) := fun g hg => offG_owns hQ (hv g hg)
    refine h v' w' (by rw [flatQ_app]; simpa [flatQ, qcl] using h1) ?_ ?_ ?_
    · refine ((Below.refl B w).alloc hB _).grown h2 (by simp; omega) (fun g hg => ?_)
      rcases list_ownQ hown with rfl | ⟨g', cap, rfl, hB', _⟩
      · cases hg
      · obtain rfl : g' = g := by injection hg
        exact hB'
    · rw [lrowQ_app, lrowQ_one]
      have hz : w.heap.size ≤ w'.heap.size := Nat.le_trans hb.size h2.size
      exact Owns.app ((owns_grown (hO.below hb) h2 off).wide (Nat.le_refl _) (by omega)) ((owns_grown (hQ.below hb) h2 ofq).wide hlo (by omega))
    · rw [lrowQ_app, lrowQ_one]
      exact Aparts.app hap haq hO hQ
/-- The block of a list of fractions holds no row of integers, whosever it is. -/
theorem off_intsQ {B lo hi n g cap : Nat} {w : World} {M : List RV} {rs : List (Option Addr × List Value)} (hM : M ≠ []) (hint : ∀ r, r ∈ rs → ∃ l, r.2 = vi l) (h : w.ownsRow B 30 3 (.slice (some ⟨g, 0, none⟩) n cap) n (flatQ M)) (hO : Owns lo hi w rs) : OffG g rs := fun r hr e => by
  cases M with
  | nil => exact absurd rfl hM
  | cons p M =>
    obtain ⟨l, hl⟩ := hint r hr
    have h0 : r.2.length ≠ 0 := fun h0 => by rw [h0] at e; simp [rowOf] at e
    rcases (hO r hr).1 with h1 | ⟨g', ha, _, _, hc, _⟩
    · rw [h1] at h0; exact h0 rfl
    have hgg : g' = g := by
      unfold rowOf at e
      rw [if_neg h0, ha] at e
      injection e with e
    subst hgg
    have hc0 := hc 0 (by omega)
    rcases h.2 with ⟨hv, _⟩ | ⟨g2, cap2, cur, hv, _, hh, _, _, _, ht⟩
    · cases hv
    · injection hv with e1 _ _
      injection e1 with e1
      injection e1 with e1
      subst e1
      have hn : n * 3 = (flatQ (p :: M)).length := h.1.symm
      have h00 : (flatQ (p :: M))[0]? = some (.bool p.x.p) := rfl
      rw [← ht, List.getElem?_take, if_pos (by rw [hn, flatQ_length]; simp)] at h00
      have hcell := cell_of_row w g' 0 cur 30 (0, 0) hh
      rw [hcell, hl] at hc0
      rw [hl] at h0
      cases l with
      | nil => exact h0 rfl
      | cons x l =>
        have e3 : (vi (x :: l))[0]? = some (Value.int .i64 x) := rfl
        rw [e3] at hc0
        have h01 : cur[0]? = some (.bool p.x.p) := by simpa using h00
        rw [h01] at hc0
        injection hc0 with hc0
        cases hc0
theorem append_rt2 {ops : Array Oper} {rest : List Oper} {o : Oper} {a : Act} {Q : Exit → Act → World → Prop} (hgd : o.guard = none) (f x : Operand)
    (ho : o.op = .call { callee := .builtin .append, args := #[f, x], argTypes := #[43, 43] })
    (B n lo mid hi : Nat) (v : Value) (M : List RV) (q : RV) (w : World) (hf : a.eval f = v) (hx : a.eval x = .slice (some ⟨w.heap.size, 0, none⟩) 1 1)
    (hown : w.ownsRow B 30 3 v n (flatQ M)) (hn : n ≤ 1000) (hB : B ≤ w.heap.size) (hO : Owns lo mid w (lrowQ M)) (hQ : Owns mid hi w (qrow q)) (hap : Aparts (lrowQ M)) (haq : Aparts (qrow q)) (hv : ∀ g, v.ownBlock = some g → g < mid) (hlo : lo ≤ mid) (hmh : mid ≤ hi) (hhi : hi ≤ w.heap.size) (rs : List (Option Addr × List Value)) (lo2 hi2 : Nat) (hrs : Owns lo2 hi2 w rs) (hoff : ∀ g, v.ownBlock = some g → OffG g rs)
    (h : ∀ v' w', w'.ownsRow B 30 3 v' (n + 1) (flatQ (M ++ [q])) → Below B w w' → Owns lo w'.heap.size w' (lrowQ (M ++ [q])) → Aparts (lrowQ (M ++ [q])) → Owns lo2 hi2 w' rs → wpList Tryz.prog ops Q rest (a.put o.dst v') w') :
    wpList Tryz.prog ops Q (o :: rest) a (w.alloc (.cells #[.bool q.x.p, .slice q.a.A q.x.l.length q.a.c, .slice q.a.D q.x.m.length q.a.d] 30)) := by
  obtain ⟨i0, hi0, hz0, hz1, hz2⟩ := info_parts rt_info
  refine wpList_append_own (w.alloc (.cells #[.bool q.x.p, .slice q.a.A q.x.l.length q.a.c, .slice q.a.D q.x.m.length q.a.d] 30)) hgd f x 43 ho B 30 i0 _ 3 56 Tryz.underlying43 hi0 hz0 hz1 hz2 rfl (by decide) v n (flatQ M) hf (hown.alloc _) ⟨w.heap.size, 0, none⟩ 1 1 [.bool q.x.p, .slice q.a.A q.x.l.length q.a.c, .slice q.a.D q.x.m.length q.a.d] hx rfl ?_ ?_ (by simp only [maxLen]; omega) (by omega) (by simp; omega) ?_
  · intro j u hu
    have hc := cell_of_row (w.alloc (.cells #[.bool q.x.p, .slice q.a.A q.x.l.length q.a.c, .slice q.a.D q.x.m.length q.a.d] 30)) w.heap.size j #[.bool q.x.p, .slice q.a.A q.x.l.length q.a.c, .slice q.a.D q.x.m.length q.a.d] 30 (0, 0) (heap_alloc_new _ _)
    rw [add_plain, Nat.zero_add, hc]
    simpa using hu
  · simp [Value.oneCell']
  · intro v' w' h1 h2 _
    have hb := ba1 w (.cells #[.bool q.x.p, .slice q.a.A q.x.l.length q.a.c, .slice q.a.D q.x.m.length q.a.d] 30)
    have off : ∀ g, v.ownBlock = some g → OffG g (lrowQ M) := fun g hg => by
      rcases list_ownQ hown with rfl | ⟨g', cap, rfl, _⟩
      · cases hg
      · obtain rfl : g' = g := by injection hg
        exact off_listQ hown hO
    have ofq : ∀ g, v.ownBlock = some g → OffG g (qrow q) := fun g hg => offG_owns hQ (hv g hg)
    refine h v' w' (by rw [flatQ_app]; simpa [flatQ, qcl] using h1) ?_ ?_ ?_ (owns_grown (hrs.below hb) h2 hoff)
    · refine ((Below.refl B w).alloc hB _).grown h2 (by simp; omega) (fun g hg => ?_)
      rcases list_ownQ hown with rfl | ⟨g', cap, rfl, hB', _⟩
      · cases hg
      · obtain rfl : g' = g := by injection hg
        exact hB'
    · rw [lrowQ_app, lrowQ_one]
      have hz : w.heap.size ≤ w'.heap.size := Nat.le_trans hb.size h2.size
      exact Owns.app ((owns_grown (hO.below hb) h2 off).wide (Nat.le_refl _) (by omega)) ((owns_grown (hQ.below hb) h2 ofq).wide hlo (by omega))
    · rw [lrowQ_app, lrowQ_one]
      exact Aparts.app hap haq hO hQ
/-- A list that the call has made. -/
theorem made_listQ {B B0 n lo : Nat} {w w' : World} {L M : List RV} {v : Value} (h : w'.ownsRow B0 30 3 v n (flatQ M)) (hB : B ≤ B0) (hlo : B ≤ lo) (hn : M.length = n) (hd : datQ M = datQ L) (hcap : ∀ p, p ∈ M → CapQ p)
    (hO : Owns lo w'.heap.size w' (lrowQ M)) (hap : Aparts (lrowQ M)) (kb : Below w.heap.size w w') : MadeRS B L w (.returned v) w' := by
  subst hn
  have key : ∀ A c, v = .slice A M.length c → MadeRS B L w (.returned v) w' := fun A c e => by
    subst e
    have hown := OwnS.of_own3 h
    have hc : M.length ≤ c := by
      rcases list_ownQ h with e | ⟨g, cap, e, _, _, hc⟩
      · injection e with _ e2 e3; omega
      · injection e with _ _ e3; omega
    have hin : InR (flatQ M).length A B0 w'.heap.size := hown.inR rfl
    refine ⟨M, A, c, rfl, hc, hd, hcap, Owns.cons (hown.more hB) (fun g hg => ⟨Nat.le_trans hB (hin g hg).1, (hin g hg).2⟩) (hO.wide hlo (Nat.le_refl _)), ?_, kb⟩
    refine List.Pairwise.cons (fun s hs g hg => ?_) hap
    rcases list_ownQ h with e | ⟨g', cap, e, _⟩
    · injection e with e1 _ _
      subst e1
      unfold rowOf at hg
      split at hg <;> cases hg
    · injection e with e1 _ e3
      subst e1 e3
      have hgg : g' = g := by
        unfold rowOf at hg
        split at hg
        · cases hg
        · injection hg
      subst hgg
      exact off_listQ h hO s hs
  rcases list_ownQ h with e | ⟨g, cap, e, _⟩
  · rcases h.2 with ⟨_, hn⟩ | ⟨g, cap, cur, hv, _⟩
    · exact key none 0 (by rw [e, hn])
    · rw [e] at hv; cases hv
  · exact key _ _ e
end Go.Proofs.YtennekieiioilaaGreat
