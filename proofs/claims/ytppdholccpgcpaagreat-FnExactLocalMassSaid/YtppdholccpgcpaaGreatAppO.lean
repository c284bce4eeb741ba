/-
  Appends as one operation of a drawn statement.
-/
import Derived.Test.YtppdholccpgcpaaGreatAppR
namespace Go.Proofs.YtppdholccpgcpaaGreat
open Go.ChangeShapes Go.WideShapes Go.ChangeAt Go.RowKit
open Go.ChangeMaps (open_string shut_string)
set_option linter.unusedVariables false
set_option linter.unusedSimpArgs false
set_option maxRecDepth 4000
theorem append_rt_op {o : Oper} {a : Act} {K : Act → World → Prop} {Q : Exit → Act → World → Prop} (f x : Operand)
    (ho : o.op = .call { callee := .builtin .append, args := #[f, x], argTypes := #[33, 33] })
    (B n lo mid hi : Nat) (v : Value) (M : List RV) (q : RV) (w : World) (hf : a.eval f = v) (hx : a.eval x = .slice (some ⟨w.heap.size, 0, none⟩) 1 1)
    (hown : w.ownsRow B 29 3 v n (flatQ M)) (hn : n ≤ 1000) (hB : B ≤ w.heap.size) (hO : Owns lo mid w (lrowQ M)) (hQ : Owns mid hi w (qrow q)) (hap : Aparts (lrowQ M)) (haq : Aparts (qrow q)) (hv : ∀ g, v.ownBlock = some g → g < mid) (hlo : lo ≤ mid) (hmh : mid ≤ hi) (hhi : hi ≤ w.heap.size)
    (h : ∀ v' w', w'.ownsRow B 29 3 v' (n + 1) (flatQ (M ++ [q])) → Below B w w' → Owns lo w'.heap.size w' (lrowQ (M ++ [q])) → Aparts (lrowQ (M ++ [q])) → K (a.put o.dst v') w') :
    Oper.wp Tryz.prog o a (w.alloc (.cells #[.bool q.x.p, .slice q.a.A q.x.l.length q.a.c, .slice q.a.D q.x.m.length q.a.d] 29)) K Q := by
  obtain ⟨i0, hi0, hz0, hz1, hz2⟩ := info_parts rt_info
  refine op_append (w := w.alloc (.cells #[.bool q.x.p, .slice q.a.A q.x.l.length q.a.c, .slice q.a.D q.x.m.length q.a.d] 29)) f x 33 ho B 29 i0 _ 3 56 Tryz.underlying33 hi0 hz0 hz1 hz2 rfl (by decide) v n (flatQ M) hf (hown.alloc _) ⟨w.heap.size, 0, none⟩ 1 1 [.bool q.x.p, .slice q.a.A q.x.l.length q.a.c, .slice q.a.D q.x.m.length q.a.d] hx rfl ?_ ?_ (by simp only [maxLen]; omega) (by omega) (by simp; omega) ?_
  · intro j u hu
    have hc := cell_of_row (w.alloc (.cells #[.bool q.x.p, .slice q.a.A q.x.l.length q.a.c, .slice q.a.D q.x.m.length q.a.d] 29)) w.heap.size j #[.bool q.x.p, .slice q.a.A q.x.l.length q.a.c, .slice q.a.D q.x.m.length q.a.d] 29 (0, 0) (heap_alloc_new _ _)
    rw [add_plain, Nat.zero_add, hc]
    simpa using hu
  · simp [Value.oneCell']
  · intro v' w' h1 h2 _
    have hb := ba1 w (.cells #[.bool q.x.p, .slice q.a.A q.x.l.length q.a.c, .slice q.a.D q.x.m.length q.a.d] 29)
    have off : ∀ g, v.ownBlock = some g → OffG g (lrowQ M) := fun g hg => by
      rcases list_ownQ hown with rfl | ⟨g', cap, rfl, _⟩
      · cases hg
      · obtain rfl : g' = g := by injection hg
        exact off_listQ hown hO
    have ofq : ∀ g, v.ownBlock = some g → OffG g (qrow q) := fun g hg => offG_owns hQ (hv g hg)
    refine h v' w' (by rw [flatQ_app]; simpa [flatQ, qcl] using h1) ?_ ?_ ?_
    · refine ((Below.refl B w).alloc hB _).grown h2 (by simp; omega) (fun g hg => ?_)
      rcases list_ownQ hown with rfl | ⟨g', cap, rfl, hB', _⟩
      · cases hg
      · obtain rfl : g' = g := by injection hg
        exact hB'
    · rw [lrowQ_app, lrowQ_one]
      have hz : w.heap.size ≤ w'.heap.size := Nat.le_trans hb.size h2.size
      exact Owns.app ((owns_grown (hO.below hb) h2 off).wide (Nat.le_refl _) (by omega)) ((owns_grown (hQ.below hb) h2 ofq).wide hlo (by omega))
    · rw [lrowQ_app, lrowQ_one]
      exact Aparts.app hap haq hO hQ
end Go.Proofs.YtppdholccpgcpaaGreat
