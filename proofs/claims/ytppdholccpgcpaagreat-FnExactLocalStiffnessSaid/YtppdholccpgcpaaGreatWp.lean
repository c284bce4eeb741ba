/-
  Words of appends: blocks that hold no row.
-/
import Derived.Test.YtppdholccpgcpaaGreatSlH
import Derived.Maps.AppendAt
import Derived.Test.YtppdholccpgcpaaGreatWr
import Derived.Test.YtppdholccpgcpaaGreatPtH
import Derived.Test.YtppdholccpgcpaaGreatSl
namespace Go.Proofs.YtppdholccpgcpaaGreat
open Go.ChangeShapes Go.WideShapes Go.ChangeAt Go.RowKit
set_option linter.unusedVariables false
set_option linter.unusedSimpArgs false
set_option maxRecDepth 4000
def OffG (g : Nat) (rs : List (Option Addr × List Value)) : Prop := ∀ r, r ∈ rs → rowOf r.2.length r.1 ≠ some g
theorem offG_owns {lo hi g : Nat} {w : World} {rs : List (Option Addr × List Value)} (h : Owns lo hi w rs) (hg : g < lo) : OffG g rs := fun r hr e => by
  have := (h r hr).2 g e
  omega
theorem ownS_grown {B : Nat} {w w' : World} {A : Option Addr} {l : List Value} {ob : Option Nat} (h : OwnS B w A l) (hg : w.grownBy w' ob) (ho : ∀ g, ob = some g → rowOf l.length A ≠ some g) : OwnS B w' A l := by
  rcases h with h0 | ⟨g, ha, hB, hs, hc, hf⟩
  · exact .inl h0
  · by_cases h0 : l.length = 0
    · exact .inl (List.eq_nil_of_length_eq_zero h0)
    have hne : some g ≠ ob := fun e => ho g e.symm (by unfold rowOf; rw [if_neg h0, ha]; rfl)
    have hk : w'.heap[g]? = w.heap[g]? := hg.block g hs hne
    refine .inr ⟨g, ha, hB, Nat.lt_of_lt_of_le hs hg.size, fun j hj => ?_, fun j hj => ?_⟩
    · rw [World.cell?_of_block (w := w) (a := ⟨g, j, none⟩) hk]; exact hc j hj
    · rw [World.frozen?_of_block (w := w) (a := ⟨g, j, none⟩) hk]; exact hf j hj
theorem owns_grown {lo hi : Nat} {w w' : World} {rs : List (Option Addr × List Value)} {ob : Option Nat} (h : Owns lo hi w rs) (hg : w.grownBy w' ob) (ho : ∀ g, ob = some g → OffG g rs) : Owns lo hi w' rs := fun r hr =>
  ⟨ownS_grown (h r hr).1 hg (fun g e => ho g e r hr), (h r hr).2⟩
theorem op_append {o : Oper} {a : Act} {K : Act → World → Prop} {Q : Exit → Act → World → Prop} (s x : Operand) (t : TypeId)
    (ho : o.op = .call { callee := .builtin .append, args := #[s, x], argTypes := #[t, t] })
    (B : Nat) (e : TypeId) (i : TypeInfo) (z : Value) (size bytes : Nat) (ht : Tryz.prog.underlying t = some (.slice e)) (hi : Tryz.prog.info? e = some i) (hz : i.zero = some z)
    (hsize : i.size = size) (hby : i.bytes = bytes) (hzs : z.cells.size = size) (hsz : 0 < size) {w : World}
    (v : Value) (n : Nat) (xs : List Value) (hs : a.eval s = v) (hown : w.ownsRow B e size v n xs)
    (ad : Addr) (m c : Nat) (news : List Value) (hx : a.eval x = .slice (some ad) m c) (hl : news.length = m * size) (hnews : ∀ j u, news[j]? = some u → w.cell? (ad.add j) = some u) (h1 : ∀ u ∈ news, u.oneCell' = true)
    (h63 : n + m ≤ maxLen) (hbytes : (n + m) * bytes ≤ 140737488355328) (hbase : B ≤ w.heap.size)
    (h : ∀ v' w', w'.ownsRow B e size v' (n + m) (xs ++ news) → w.grownBy w' v.ownBlock → (v'.ownBlock = v.ownBlock ∨ v'.ownBlock = some w.heap.size) → K (a.put o.dst v') w') :
    Oper.wp Tryz.prog o a w K Q := by
  obtain ⟨v', w', hr, h2, h3, _, h5⟩ := run_append_own_at (P := Tryz.prog) w B t o.type e i z size bytes ht hi hz hsize hby hzs hsz v n xs hown ad m c news hl hnews h1 h63 hbytes hbase
  unfold Oper.wp execOp
  simp only [ho, resolve, invoke, builtin, Sem.run_bind, Sem.run_pure, Result.andThen_ok, List.map_toArray, List.map_cons, List.map_nil, hs, hx, hr]
  exact h v' w' h2 h3 h5
theorem wanted_op {c : Bool} {A B : Prop} (h : c = true) (k : A) : if c = true then A else B := by rw [if_pos h]; exact k
end Go.Proofs.YtppdholccpgcpaaGreat
namespace Go.Proofs.YtppdholccpgcpaaGreat
open Go.ChangeShapes Go.WideShapes Go.ChangeAt Go.RowKit
set_option linter.unusedVariables false
set_option linter.unusedSimpArgs false
set_option maxRecDepth 4000
def CutV6 (W0 : World) (T : TypeId) (x y : R3) (v : Value) (wx : World) : Prop :=
  ∃ gv, ∃ a b : Ad, v = .pointer (some ⟨gv, 0, none⟩) ∧ W0.heap.size ≤ gv ∧ (x.l.length ≤ a.c ∧ x.m.length ≤ a.d ∧ y.l.length ≤ b.c ∧ y.m.length ≤ b.d) ∧ wx.heap[gv]? = some (.cells (r6 x y a b) T (0, 0)) ∧ Owns W0.heap.size wx.heap.size wx (rows x a ++ rows y b) ∧ Aparts (rows x a ++ rows y b) ∧ Below W0.heap.size W0 wx
def CutV3 (W0 : World) (T : TypeId) (x : R3) (v : Value) (wx : World) : Prop :=
  ∃ gv, ∃ a : Ad, v = .pointer (some ⟨gv, 0, none⟩) ∧ W0.heap.size ≤ gv ∧ (x.l.length ≤ a.c ∧ x.m.length ≤ a.d) ∧ wx.heap[gv]? = some (.cells (r3 x a) T (0, 0)) ∧ Owns W0.heap.size wx.heap.size wx (rows x a) ∧ Aparts (rows x a) ∧ Below W0.heap.size W0 wx
theorem cutV3_late {W0 w : World} {T : TypeId} {x : R3} {a : Ad} {lo hi : Nat} (hz : W0.heap.size ≤ w.heap.size) (hcap : (x.l.length ≤ a.c ∧ x.m.length ≤ a.d)) (hO : Owns lo hi w (rows x a)) (hlo : W0.heap.size ≤ lo) (hhi : hi ≤ w.heap.size) (hap : Aparts (rows x a)) (KB : Below W0.heap.size W0 w) :
    CutV3 W0 T x (.pointer (some ⟨w.heap.size, 0, none⟩)) (w.alloc (.cells (r3 x a) T)) :=
  ⟨_, a, rfl, hz, hcap, heap_alloc_new _ _, (hO.below (ba1 _ _)).wide hlo (Nat.le_trans hhi (ba1 _ _).size), hap, KB.alloc hz _⟩
theorem cutV3_early {W0 w : World} {T : TypeId} {x : R3} {a : Ad} {lo hi g : Nat} {v0 v1 v2 : Value} (tt : w.heap[g]? = some (.cells #[v0, v1, v2] T (0, 0))) (hg : W0.heap.size ≤ g) (hgB : g < lo) (hcap : (x.l.length ≤ a.c ∧ x.m.length ≤ a.d)) (hO : Owns lo hi w (rows x a)) (hlo : W0.heap.size ≤ lo) (hhi : hi ≤ w.heap.size) (hap : Aparts (rows x a)) (KB : Below W0.heap.size W0 w) :
    CutV3 W0 T x (.pointer (some ⟨g, 0, none⟩)) (((w.setCell ⟨g, 0, none⟩ (.bool x.p)).setCell ⟨g, 1, none⟩ (.slice a.A x.l.length a.c)).setCell ⟨g, 2, none⟩ (.slice a.D x.m.length a.d)) :=
  ⟨_, a, rfl, hg, hcap, (rblk_set (rblk_set (rblk_set tt 0 _) 1 _) 2 _), owns_end3 hO (.inl hgB) hlo hhi _ _ _, hap, below_put3 KB hg _ _ _⟩
end Go.Proofs.YtppdholccpgcpaaGreat
namespace Go.Proofs.YtppdholccpgcpaaGreat
open Go.ChangeShapes Go.WideShapes Go.ChangeAt Go.RowKit
set_option linter.unusedVariables false
set_option linter.unusedSimpArgs false
set_option maxRecDepth 4000
def validB (L : List RV) : Bool := L.all (fun p => okx p.x)
theorem validB_at {L : List RV} (h : validB L = true) {i : Nat} {p : RV} (hp : L[i]? = some p) : okx p.x = true := List.all_eq_true.1 h p (List.mem_of_getElem? hp)
end Go.Proofs.YtppdholccpgcpaaGreat
namespace Go.Proofs.YtppdholccpgcpaaGreat
@[reducible, go_sem] def p6 (p : PV) : Array Value := #[.bool p.x.p, .slice p.a.A p.x.l.length p.a.c, .slice p.a.D p.x.m.length p.a.d, .bool p.y.p, .slice p.b.A p.y.l.length p.b.c, .slice p.b.D p.y.m.length p.b.d]
@[reducible, go_sem] def p18 (p q r : PV) : Array Value := #[.bool p.x.p, .slice p.a.A p.x.l.length p.a.c, .slice p.a.D p.x.m.length p.a.d, .bool p.y.p, .slice p.b.A p.y.l.length p.b.c, .slice p.b.D p.y.m.length p.b.d, .bool q.x.p, .slice q.a.A q.x.l.length q.a.c, .slice q.a.D q.x.m.length q.a.d, .bool q.y.p, .slice q.b.A q.y.l.length q.b.c, .slice q.b.D q.y.m.length q.b.d, .bool r.x.p, .slice r.a.A r.x.l.length r.a.c, .slice r.a.D r.x.m.length r.a.d, .bool r.y.p, .slice r.b.A r.y.l.length r.b.c, .slice r.b.D r.y.m.length r.b.d]
end Go.Proofs.YtppdholccpgcpaaGreat
