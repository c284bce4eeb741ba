/-
  Lists of lists of fractions: the row of their rows; equality, marks.
-/
import Derived.Test.YtppdholccpgcpaaGreatRlE
import Derived.Test.YtppdholccpgcpaaGreatRlM
import Derived.Test.YtppdholccpgcpaaGreatSlH
import Derived.Maps.AppendAt
namespace Go.Proofs.YtppdholccpgcpaaGreat
open Go.ChangeShapes Go.WideShapes Go.ChangeAt Go.RowKit
open Go.ChangeMaps (open_string shut_string)
set_option linter.unusedVariables false
set_option linter.unusedSimpArgs false
set_option maxRecDepth 4000
structure SV where
  L : List RV
  A : Option Addr
  c : Nat
def scl (p : SV) : Value := .slice p.A p.L.length p.c
def rrowS (p : SV) : List Row := srowQ p.A p.L
def flatS (R : List SV) : List Value := R.map scl
def lrowS (R : List SV) : List Row := R.flatMap rrowS
def srowS (B : Option Addr) (R : List SV) : List Row := (B, flatS R) :: lrowS R
def datS (R : List SV) : List (List R3) := R.map (fun p => datQ p.L)
def MadeRSS (B : Nat) (R : List SV) (w : World) (e : Ending) (w' : World) : Prop :=
  ∃ (M : List SV) (A : Option Addr) (c : Nat), e = .returned (.slice A M.length c) ∧ datS M = datS R ∧ Owns B w'.heap.size w' (srowS A M) ∧ Aparts (srowS A M) ∧ Below w.heap.size w w'
theorem flatS_length (R : List SV) : (flatS R).length = R.length := List.length_map _
theorem lrowS_app (R T : List SV) : lrowS (R ++ T) = lrowS R ++ lrowS T := by simp [lrowS]
theorem getS {R : List SV} {i : Nat} (h : i < R.length) : ∃ p, R[i]? = some p := ⟨R[i], List.getElem?_eq_getElem h⟩
theorem lt_of_getS {R : List SV} {i : Nat} {p : SV} (h : R[i]? = some p) : i < R.length := by
  rcases Nat.lt_or_ge i R.length with h1 | h1
  · exact h1
  · rw [List.getElem?_eq_none h1] at h; cases h
theorem take_succS {R : List SV} {i : Nat} {p : SV} (h : R[i]? = some p) : R.take (i + 1) = R.take i ++ [p] := by
  rw [List.take_add_one, h]; rfl
theorem RdS.row {w : World} {A : Option Addr} {R : List SV} (h : RdS w A (flatS R)) {i : Nat} {p : SV} (hp : R[i]? = some p) :
    ∃ g o, A = some ⟨g, o, none⟩ ∧ g < w.heap.size ∧ w.cell? ⟨g, o + i, none⟩ = some (.slice p.A p.L.length p.c) := by
  have hl := lt_of_getS hp
  obtain ⟨g, o, ha, hg, hc⟩ := h.block (by rw [flatS_length]; omega)
  refine ⟨g, o, ha, hg, ?_⟩
  rw [hc i (by rw [flatS_length]; exact hl)]
  unfold flatS
  rw [List.getElem?_map, hp]; rfl
theorem Rds.atS {w : World} {R : List SV} (h : Rds w (lrowS R)) {i : Nat} {p : SV} (hp : R[i]? = some p) : Rds w (rrowS p) := fun r hr =>
  h r (List.mem_flatMap.2 ⟨p, List.mem_of_getElem? hp, hr⟩)
theorem datS_len {R T : List SV} (h : datS T = datS R) : T.length = R.length := by
  have := congrArg List.length h
  simpa [datS] using this
theorem datS_get {R T : List SV} (h : datS T = datS R) {i : Nat} {p : SV} (hp : R[i]? = some p) : ∃ q, T[i]? = some q ∧ datQ q.L = datQ p.L := by
  have h1 : (datS T)[i]? = some (datQ p.L) := by rw [h]; simp [datS, hp]
  unfold datS at h1
  rw [List.getElem?_map] at h1
  cases hq : T[i]? with
  | none => rw [hq] at h1; cases h1
  | some q =>
    rw [hq] at h1
    injection h1 with h1
    exact ⟨q, rfl, h1⟩
end Go.Proofs.YtppdholccpgcpaaGreat
namespace Go.Proofs.YtppdholccpgcpaaGreat
open Go.ChangeShapes Go.WideShapes Go.ChangeAt Go.RowKit
open Go.ChangeMaps (open_string shut_string)
set_option linter.unusedVariables false
set_option linter.unusedSimpArgs false
set_option maxRecDepth 4000
def OffG (g : Nat) (rs : List (Option Addr × List Value)) : Prop := ∀ r, r ∈ rs → rowOf r.2.length r.1 ≠ some g
theorem offG_owns {lo hi g : Nat} {w : World} {rs : List (Option Addr × List Value)} (h : Owns lo hi w rs) (hg : g < lo) : OffG g rs := fun r hr e => by
  have := (h r hr).2 g e
  omega
theorem ownS_grown {B : Nat} {w w' : World} {A : Option Addr} {l : List Value} {ob : Option Nat} (h : OwnS B w A l) (hg : w.grownBy w' ob) (ho : ∀ g, ob = some g → rowOf l.length A ≠ some g) : OwnS B w' A l := by
  rcases h with h0 | ⟨g, ha, hB, hs, hc, hf⟩
  · exact .inl h0
  · by_cases h0 : l.length = 0
    · exact .inl (List.eq_nil_of_length_eq_zero h0)
    have hne : some g ≠ ob := fun e => ho g e.symm (by unfold rowOf; rw [if_neg h0, ha]; rfl)
    have hk : w'.heap[g]? = w.heap[g]? := hg.block g hs hne
    refine .inr ⟨g, ha, hB, Nat.lt_of_lt_of_le hs hg.size, fun j hj => ?_, fun j hj => ?_⟩
    · rw [World.cell?_of_block (w := w) (a := ⟨g, j, none⟩) hk]; exact hc j hj
    · rw [World.frozen?_of_block (w := w) (a := ⟨g, j, none⟩) hk]; exact hf j hj
theorem owns_grown {lo hi : Nat} {w w' : World} {rs : List (Option Addr × List Value)} {ob : Option Nat} (h : Owns lo hi w rs) (hg : w.grownBy w' ob) (ho : ∀ g, ob = some g → OffG g rs) : Owns lo hi w' rs := fun r hr =>
  ⟨ownS_grown (h r hr).1 hg (fun g e => ho g e r hr), (h r hr).2⟩
theorem op_append {o : Oper} {a : Act} {K : Act → World → Prop} {Q : Exit → Act → World → Prop} (s x : Operand) (t : TypeId)
    (ho : o.op = .call { callee := .builtin .append, args := #[s, x], argTypes := #[t, t] })
    (B : Nat) (e : TypeId) (i : TypeInfo) (z : Value) (size bytes : Nat) (ht : Tryz.prog.underlying t = some (.slice e)) (hi : Tryz.prog.info? e = some i) (hz : i.zero = some z)
    (hsize : i.size = size) (hby : i.bytes = bytes) (hzs : z.cells.size = size) (hsz : 0 < size) {w : World}
    (v : Value) (n : Nat) (xs : List Value) (hs : a.eval s = v) (hown : w.ownsRow B e size v n xs)
    (ad : Addr) (m c : Nat) (news : List Value) (hx : a.eval x = .slice (some ad) m c) (hl : news.length = m * size) (hnews : ∀ j u, news[j]? = some u → w.cell? (ad.add j) = some u) (h1 : ∀ u ∈ news, u.oneCell' = true)
    (h63 : n + m ≤ maxLen) (hbytes : (n + m) * bytes ≤ 140737488355328) (hbase : B ≤ w.heap.size)
    (h : ∀ v' w', w'.ownsRow B e size v' (n + m) (xs ++ news) → w.grownBy w' v.ownBlock → (v'.ownBlock = v.ownBlock ∨ v'.ownBlock = some w.heap.size) → K (a.put o.dst v') w') :
    Oper.wp Tryz.prog o a w K Q := by
  obtain ⟨v', w', hr, h2, h3, _, h5⟩ := run_append_own_at (P := Tryz.prog) w B t o.type e i z size bytes ht hi hz hsize hby hzs hsz v n xs hown ad m c news hl hnews h1 h63 hbytes hbase
  unfold Oper.wp execOp
  simp only [ho, resolve, invoke, builtin, Sem.run_bind, Sem.run_pure, Result.andThen_ok, List.map_toArray, List.map_cons, List.map_nil, hs, hx, hr]
  exact h v' w' h2 h3 h5
theorem wanted_op {c : Bool} {A B : Prop} (h : c = true) (k : A) : if c = true then A else B := by rw [if_pos h]; exact k
end Go.Proofs.YtppdholccpgcpaaGreat
