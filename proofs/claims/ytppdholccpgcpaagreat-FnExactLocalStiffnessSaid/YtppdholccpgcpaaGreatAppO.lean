/-
  Lists that grew by appends, with their rows.
-/
import Derived.Test.YtppdholccpgcpaaGreatAppR
import Derived.Test.YtppdholccpgcpaaGreatMatF
import Derived.Test.YtppdholccpgcpaaGreatWp
namespace Go.Proofs.YtppdholccpgcpaaGreat
open Go.ChangeShapes Go.WideShapes Go.ChangeAt Go.RowKit
set_option linter.unusedVariables false
set_option linter.unusedSimpArgs false
set_option maxRecDepth 4000
theorem OwnS.of_own1 {w : World} {base : Nat} {e : TypeId} {A : Option Addr} {n c : Nat} {l : List Value} (h : w.ownsRow base e 1 (.slice A n c) n l) : OwnS base w A l := by
  by_cases h0 : l = []
  · exact .inl h0
  · have hl : l.length = n * 1 := h.1
    have hn : 0 < n := by
      rcases Nat.eq_zero_or_pos n with h1 | h1
      · subst h1; simp at hl; exact absurd hl h0
      · exact h1
    rcases h.2 with ⟨_, he⟩ | ⟨g, cap, cur, hv, hbg, hh, hnc, _, hsz, htake⟩
    · omega
    · have hA : A = some ⟨g, 0, none⟩ := by injection hv
      refine .inr ⟨g, hA, hbg, (Array.getElem?_eq_some_iff.1 hh).1, fun j hj => ?_, fun j hj => ?_⟩
      · rw [cell_of_row w g j cur e (0, 0) hh, ← htake, List.getElem?_take, if_pos (by omega)]
        simp
      · simp [World.frozen?, hh]
theorem srowQ_own {B : Nat} {w : World} {M : List RV} {A : Option Addr} {c : Nat} (h : w.ownsRow B 29 3 (.slice A M.length c) M.length (flatQ M)) (hO : Owns B w.heap.size w (lrowQ M)) (hap : Aparts (lrowQ M)) : Owns B w.heap.size w (srowQ A M) ∧ Aparts (srowQ A M) := by
  have hown := OwnS.of_own3 h
  have hin : InR (flatQ M).length A B w.heap.size := hown.inR rfl
  refine ⟨Owns.cons hown (fun g hg => hin g hg) hO, List.Pairwise.cons (fun s hs g hg => ?_) hap⟩
  rcases list_ownQ h with e | ⟨g', cap, e, _⟩
  · injection e with e1 _ _
    subst e1
    unfold rowOf at hg
    split at hg <;> cases hg
  · injection e with e1 _ e3
    subst e1 e3
    have hgg : g' = g := by
      unfold rowOf at hg
      split at hg
      · cases hg
      · injection hg
    subst hgg
    exact off_listQ h hO s hs
theorem srowS_own {B : Nat} {w : World} {M : List SV} {A : Option Addr} {c : Nat} (h : w.ownsRow B 33 1 (.slice A M.length c) M.length (flatS M)) (hO : Owns B w.heap.size w (lrowS M)) (hap : Aparts (lrowS M)) : Owns B w.heap.size w (srowS A M) ∧ Aparts (srowS A M) := by
  have hown := OwnS.of_own1 h
  have hin : InR (flatS M).length A B w.heap.size := hown.inR rfl
  refine ⟨Owns.cons hown (fun g hg => hin g hg) hO, List.Pairwise.cons (fun s hs g hg => ?_) hap⟩
  rcases list_ownS h with e | ⟨g', cap, e, _⟩
  · injection e with e1 _ _
    subst e1
    unfold rowOf at hg
    split at hg <;> cases hg
  · injection e with e1 _ e3
    subst e1 e3
    have hgg : g' = g := by
      unfold rowOf at hg
      split at hg
      · cases hg
      · injection hg
    subst hgg
    exact off_listS h hO s hs
theorem lenQ_row {M : List RV} {f : Nat → Option Rat} {n : Nat} (hf : ∀ k, FitO (f k)) (h : datQ M = datQ (rowF f n)) : ∀ p, p ∈ M → LenQ p := fun p hp => by
  have h1 : p.x ∈ datQ M := List.mem_map.2 ⟨p, hp, rfl⟩
  rw [h] at h1
  obtain ⟨q, hq, e⟩ := List.mem_map.1 h1
  have h2 := rowF_mem hf hq
  unfold LenQ
  rw [← e]; omega
theorem lenS_mat {R : List SV} {f : Nat → Nat → Option Rat} {m n : Nat} (hf : ∀ i k, FitO (f i k)) (hn : n ≤ 9223372036854775807) (h : datS R = datS (matF f m n)) : ∀ p, p ∈ R → LenS p := fun p hp => by
  have h1 : datQ p.L ∈ datS R := List.mem_map.2 ⟨p, hp, rfl⟩
  rw [h] at h1
  obtain ⟨q, hq, e⟩ := List.mem_map.1 h1
  unfold matF at hq
  obtain ⟨i, _, rfl⟩ := List.mem_map.1 hq
  have e' : datQ p.L = datQ (rowF (f i) n) := e.symm
  exact ⟨by rw [datQ_len e', rowF_len]; exact hn, lenQ_row (hf i) e'⟩
theorem made_matS {B : Nat} {w w' : World} {R : List SV} {f : Nat → Nat → Option Rat} {m n : Nat} {A : Option Addr} {c B0 : Nat} (h : w'.ownsRow B0 33 1 (.slice A R.length c) R.length (flatS R)) (hB : B ≤ B0) (hO : Owns B0 w'.heap.size w' (lrowS R)) (hap : Aparts (lrowS R)) (hd : datS R = datS (matF f m n)) (hok : okF f m n = true) (kb : Below w.heap.size w w') : MadeRSS B (fullM f m n) w (.returned (.slice A R.length c)) w' := by
  obtain ⟨h1, h2⟩ := srowS_own h hO hap
  exact ⟨R, A, c, rfl, by unfold fullM; rw [if_pos hok]; exact hd, h1.wide hB (Nat.le_refl _), h2, kb⟩
theorem made_matN {B : Nat} {w w' : World} {f : Nat → Nat → Option Rat} {m n : Nat} (hok : okF f m n = false) (kb : Below w.heap.size w w') : MadeRSS B (fullM f m n) w (.returned (.slice none 0 0)) w' := by
  refine ⟨[], none, 0, rfl, by unfold fullM; rw [if_neg (by rw [hok]; intro h; cases h)], ?_, Aparts.one _, kb⟩
  exact Owns.cons (.inl rfl) (fun g hg => by simp [rowOf, flatS] at hg) (Owns.nil _ _ _)
theorem made_matE {B : Nat} {w w' : World} {R : List SV} (h : R = []) (kb : Below w.heap.size w w') : MadeRSS B R w (.returned (.slice none 0 0)) w' := by
  subst h
  refine ⟨[], none, 0, rfl, rfl, ?_, Aparts.one _, kb⟩
  exact Owns.cons (.inl rfl) (fun g hg => by simp [rowOf, flatS] at hg) (Owns.nil _ _ _)
end Go.Proofs.YtppdholccpgcpaaGreat
namespace Go.Proofs.YtppdholccpgcpaaGreat
open Go.ChangeShapes Go.WideShapes Go.ChangeAt Go.RowKit
set_option linter.unusedVariables false
set_option linter.unusedSimpArgs false
set_option maxRecDepth 4000
theorem append_rt_op {o : Oper} {a : Act} {K : Act → World → Prop} {Q : Exit → Act → World → Prop} (f x : Operand)
    (ho : o.op = .call { callee := .builtin .append, args := #[f, x], argTypes := #[33, 33] })
    (B n lo mid hi : Nat) (v : Value) (M : List RV) (q : RV) (w : World) (hf : a.eval f = v) (hx : a.eval x = .slice (some ⟨w.heap.size, 0, none⟩) 1 1)
    (hown : w.ownsRow B 29 3 v n (flatQ M)) (hn : n ≤ 1000) (hB : B ≤ w.heap.size) (hO : Owns lo mid w (lrowQ M)) (hQ : Owns mid hi w (qrow q)) (hap : Aparts (lrowQ M)) (haq : Aparts (qrow q)) (hv : ∀ g, v.ownBlock = some g → g < mid) (hlo : lo ≤ mid) (hmh : mid ≤ hi) (hhi : hi ≤ w.heap.size)
    (h : ∀ v' w', w'.ownsRow B 29 3 v' (n + 1) (flatQ (M ++ [q])) → Below B w w' → Owns lo w'.heap.size w' (lrowQ (M ++ [q])) → Aparts (lrowQ (M ++ [q])) → K (a.put o.dst v') w') :
    Oper.wp Tryz.prog o a (w.alloc (.cells (r3 q.x q.a) 29)) K Q := by
  obtain ⟨i0, hi0, hz0, hz1, hz2⟩ := info_parts rt_info
  refine op_append (w := w.alloc (.cells (r3 q.x q.a) 29)) f x 33 ho B 29 i0 _ 3 56 Tryz.underlying33 hi0 hz0 hz1 hz2 rfl (by decide) v n (flatQ M) hf (hown.alloc _) ⟨w.heap.size, 0, none⟩ 1 1 [.bool q.x.p, .slice q.a.A q.x.l.length q.a.c, .slice q.a.D q.x.m.length q.a.d] hx rfl ?_ ?_ (by simp only [maxLen]; omega) (by omega) (by simp; omega) ?_
  · intro j u hu
    have hc := cell_of_row (w.alloc (.cells (r3 q.x q.a) 29)) w.heap.size j (r3 q.x q.a) 29 (0, 0) (heap_alloc_new _ _)
    rw [add_plain, Nat.zero_add, hc]
    simpa using hu
  · simp [Value.oneCell', r3]
  · intro v' w' h1 h2 _
    have hb := ba1 w (.cells (r3 q.x q.a) 29)
    have off : ∀ g, v.ownBlock = some g → OffG g (lrowQ M) := fun g hg => by
      rcases list_ownQ hown with rfl | ⟨g', cap, rfl, _⟩
      · cases hg
      · obtain rfl : g' = g := by injection hg
        exact off_listQ hown hO
    have ofq : ∀ g, v.ownBlock = some g → OffG g (qrow q) := fun g hg => offG_owns hQ (hv g hg)
    refine h v' w' (by rw [flatQ_app]; simpa [flatQ, qcl] using h1) ?_ ?_ ?_
    · refine ((Below.refl B w).alloc hB _).grown h2 (by simp; omega) (fun g hg => ?_)
      rcases list_ownQ hown with rfl | ⟨g', cap, rfl, hB', _⟩
      · cases hg
      · obtain rfl : g' = g := by injection hg
        exact hB'
    · rw [lrowQ_app, lrowQ_one]
      have hz : w.heap.size ≤ w'.heap.size := Nat.le_trans hb.size h2.size
      exact Owns.app ((owns_grown (hO.below hb) h2 off).wide (Nat.le_refl _) (by omega)) ((owns_grown (hQ.below hb) h2 ofq).wide hlo (by omega))
    · rw [lrowQ_app, lrowQ_one]
      exact Aparts.app hap haq hO hQ
end Go.Proofs.YtppdholccpgcpaaGreat
