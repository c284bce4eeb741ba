/-
  A mesh that grows: points and triangles put behind rows of the call's own.
-/
import Derived.Test.YtjcbaiphkchehaaMsH
import Derived.Test.YtjcbaiphkchehaaApp
namespace Go.Proofs.Ytjcbaiphkchehaa
open Go.ChangeShapes Go.WideShapes Go.ChangeAt Go.RowKit
open Go.ChangeMaps (open_string shut_string)
set_option linter.unusedVariables false
set_option linter.unusedSimpArgs false
set_option maxRecDepth 4000

theorem tri_info : (Try.prog.info? 43).map (fun i => (i.zero, i.size, i.bytes)) = some (some (.agg #[.int .i64 0, .int .i64 0, .int .i64 0, .int .i64 0, .int .i64 0]), 5, 40) := by kernel_rfl
theorem tri_ne_pt : 43 ≠ 39 := by decide
/-- Rows of two types lie in two blocks. -/
theorem own_two {B B' s s' n n' : Nat} {w : World} {T T' : TypeId} {v u : Value} {xs ys : List Value} (hT : T ≠ T') (h : w.ownsRow B T s v n xs) (h' : w.ownsRow B' T' s' u n' ys) : ∀ g, v.ownBlock = some g → u.ownBlock ≠ some g := fun g hg hu => by
  rcases h.2 with ⟨hv, _⟩ | ⟨g1, c1, cur1, hv, _, hh1, _⟩
  · rw [hv] at hg; cases hg
  rcases h'.2 with ⟨hv2, _⟩ | ⟨g2, c2, cur2, hv2, _, hh2, _⟩
  · rw [hv2] at hu; cases hu
  rw [hv] at hg
  rw [hv2] at hu
  have e1 : g1 = g := by injection hg
  have e2 : g2 = g := by injection hu
  subst e1
  subst e2
  rw [hh1] at hh2
  injection hh2 with hh2
  injection hh2 with _ e3 _
  exact hT e3
/-- A block of another type is not the row's own. -/
theorem own_ne {B s n g : Nat} {w : World} {T T' : TypeId} {u : Value} {xs : List Value} {c : Array Value} {z : Nat × Nat} (hT : T ≠ T') (h : w.ownsRow B T s u n xs) (P : w.heap[g]? = some (.cells c T' z)) : u.ownBlock ≠ some g := fun hu => by
  rcases h.2 with ⟨hv2, _⟩ | ⟨g2, c2, cur2, hv2, _, hh2, _⟩
  · rw [hv2] at hu; cases hu
  rw [hv2] at hu
  have e2 : g2 = g := by injection hu
  subst e2
  rw [P] at hh2
  injection hh2 with hh2
  injection hh2 with _ e3 _
  exact hT e3.symm
theorem own5 {w : World} {B n c : Nat} {e : TypeId} {A : Option Addr} {l : List Value} (h : w.ownsRow B e 5 (.slice A n c) n l) : OwnS B w A l := by
  by_cases h0 : l = []
  · exact .inl h0
  · have hl : l.length = n * 5 := h.1
    have hn : 0 < n := by
      rcases Nat.eq_zero_or_pos n with h1 | h1
      · subst h1; simp at hl; exact absurd hl h0
      · exact h1
    rcases h.2 with ⟨_, he⟩ | ⟨g, cap, cur, hv, hbg, hh, hnc, _, hsz, htake⟩
    · omega
    · have hA : A = some ⟨g, 0, none⟩ := by injection hv
      refine .inr ⟨g, hA, hbg, (Array.getElem?_eq_some_iff.1 hh).1, fun j hj => ?_, fun j hj => ?_⟩
      · rw [cell_of_row w g j cur e (0, 0) hh, ← htake, List.getElem?_take, if_pos (by omega)]
        simp
      · simp [World.frozen?, hh]
theorem own_below {w w' : World} {B s n : Nat} {e : TypeId} {v : Value} {xs : List Value} (h : w.ownsRow B e s v n xs) (hb : Below w.heap.size w w') : w'.ownsRow B e s v n xs :=
  ⟨h.1, h.2.imp id (fun ⟨g, cap, cur, hv, hB, hh, r⟩ => ⟨g, cap, cur, hv, hB, by rw [hb.block g (Array.getElem?_eq_some_iff.1 hh).1]; exact hh, r⟩)⟩
theorem own_turn {w w' : World} {B s n lo hi : Nat} {e : TypeId} {v : Value} {xs : List Value} (h : w.ownsRow B e s v n xs) (t : Turn lo hi w w') (hd : hi ≤ B) : w'.ownsRow B e s v n xs :=
  ⟨h.1, h.2.imp id (fun ⟨g, cap, cur, hv, hB, hh, r⟩ => ⟨g, cap, cur, hv, hB, by rw [t.block (Array.getElem?_eq_some_iff.1 hh).1 (.inr (by omega))]; exact hh, r⟩)⟩
theorem slice_form {w : World} {B s n : Nat} {e : TypeId} {v : Value} {xs : List Value} (h : w.ownsRow B e s v n xs) : ∃ A c, v = .slice A n c := by
  rcases h.2 with ⟨hv, hn⟩ | ⟨g, cap, cur, hv, _⟩
  · exact ⟨none, 0, by rw [hv, hn]⟩
  · exact ⟨_, _, hv⟩
/-- A mesh that grows. -/
structure Gm (B hi : Nat) (w : World) (M : List PV) (T : List TV) (v u : Value) : Prop where
  op : w.ownsRow B 39 6 v M.length (flat M)
  ot : w.ownsRow B 43 5 u T.length (flatT T)
  rows : Owns B hi w (lrow M)
  ap : Aparts (lrow M)
  off : ∀ g, u.ownBlock = some g → OffG g (lrow M)
  hv : ∀ g, v.ownBlock = some g → g < hi
  hu : ∀ g, u.ownBlock = some g → g < hi
  hh : hi ≤ w.heap.size
theorem Gm.start {B hi : Nat} {w : World} (h : hi ≤ w.heap.size) : Gm B hi w [] [] (.slice none 0 0) (.slice none 0 0) :=
  ⟨⟨rfl, .inl ⟨rfl, rfl⟩⟩, ⟨rfl, .inl ⟨rfl, rfl⟩⟩, Owns.nil _ _ _, Aparts.nil, (fun g h => by cases h), (fun g h => by cases h), (fun g h => by cases h), h⟩
theorem Gm.below {B hi : Nat} {w w' : World} {M : List PV} {T : List TV} {v u : Value} (h : Gm B hi w M T v u) (hb : Below w.heap.size w w') : Gm B hi w' M T v u :=
  ⟨own_below h.op hb, own_below h.ot hb, h.rows.below hb, h.ap, h.off, h.hv, h.hu, Nat.le_trans h.hh hb.size⟩
theorem Gm.wide {B hi hi' : Nat} {w : World} {M : List PV} {T : List TV} {v u : Value} (h : Gm B hi w M T v u) (h1 : hi ≤ hi') (h2 : hi' ≤ w.heap.size) : Gm B hi' w M T v u :=
  ⟨h.op, h.ot, h.rows.wide (Nat.le_refl _) h1, h.ap, h.off, fun g hg => Nat.lt_of_lt_of_le (h.hv g hg) h1, fun g hg => Nat.lt_of_lt_of_le (h.hu g hg) h1, h2⟩
theorem Gm.turn {B hi lo2 hi2 : Nat} {w w' : World} {M : List PV} {T : List TV} {v u : Value} (h : Gm B hi w M T v u) (t : Turn lo2 hi2 w w') (hd : hi2 ≤ B) : Gm B hi w' M T v u :=
  ⟨own_turn h.op t hd, own_turn h.ot t hd, h.rows.turn t (.inr hd), h.ap, h.off, h.hv, h.hu, Nat.le_trans h.hh t.size⟩
theorem turn_one (w : World) (g i : Nat) (v : Value) : Turn g (g + 1) w (w.setCell ⟨g, i, none⟩ v) :=
  ⟨rfl, rfl, rfl, by simp [World.setCell], fun k hk hd => by simp only [World.setCell]; rw [Array.getElem?_modify, if_neg (by omega)]⟩
theorem Gm.put {B hi g i : Nat} {w : World} {M : List PV} {T : List TV} {v u : Value} (h : Gm B hi w M T v u) (hd : g < B) (x : Value) : Gm B hi (w.setCell ⟨g, i, none⟩ x) M T v u :=
  h.turn (turn_one w g i x) hd
theorem turn_own {lo hi : Nat} {w w' : World} {ob : Option Nat} (hg : w.grownBy w' ob) (hr : ∀ g, ob = some g → lo ≤ g ∧ g < hi) : Turn lo hi w w' :=
  ⟨hg.os, hg.tape, hg.output, hg.size, fun k hk hd => hg.block k hk (fun e => by have := hr k e.symm; omega)⟩
/-- 'append' onto a row of the call's own, as one operation. -/
theorem op_append {o : Oper} {a : Act} {K : Act → World → Prop} {Q : Exit → Act → World → Prop} (s x : Operand) (t : TypeId)
    (ho : o.op = .call { callee := .builtin .append, args := #[s, x], argTypes := #[t, t] })
    (B : Nat) (e : TypeId) (i : TypeInfo) (z : Value) (size bytes : Nat) (ht : Try.prog.underlying t = some (.slice e)) (hi : Try.prog.info? e = some i) (hz : i.zero = some z)
    (hsize : i.size = size) (hby : i.bytes = bytes) (hzs : z.cells.size = size) (hsz : 0 < size) {w : World}
    (v : Value) (n : Nat) (xs : List Value) (hs : a.eval s = v) (hown : w.ownsRow B e size v n xs)
    (ad : Addr) (m c : Nat) (news : List Value) (hx : a.eval x = .slice (some ad) m c) (hl : news.length = m * size) (hnews : ∀ j u, news[j]? = some u → w.cell? (ad.add j) = some u) (h1 : ∀ u ∈ news, u.oneCell' = true)
    (h63 : n + m ≤ maxLen) (hbytes : (n + m) * bytes ≤ 140737488355328) (hbase : B ≤ w.heap.size)
    (h : ∀ v' w', w'.ownsRow B e size v' (n + m) (xs ++ news) → w.grownBy w' v.ownBlock → (v'.ownBlock = v.ownBlock ∨ v'.ownBlock = some w.heap.size) → K (a.put o.dst v') w') :
    Oper.wp Try.prog o a w K Q := by
  obtain ⟨v', w', hr, h2, h3, _, h5⟩ := run_append_own_at (P := Try.prog) w B t o.type e i z size bytes ht hi hz hsize hby hzs hsz v n xs hown ad m c news hl hnews h1 h63 hbytes hbase
  unfold Oper.wp execOp
  simp only [ho, resolve, invoke, builtin, Sem.run_bind, Sem.run_pure, Result.andThen_ok, List.map_toArray, List.map_cons, List.map_nil, hs, hx, hr]
  exact h v' w' h2 h3 h5
theorem wanted_op {c : Bool} {A B : Prop} (h : c = true) (k : A) : if c = true then A else B := by rw [if_pos h]; exact k
/-- A point is put behind the points. -/
theorem grow_pt_op {o : Oper} {a : Act} {K : Act → World → Prop} {Q : Exit → Act → World → Prop} (f x : Operand)
    (ho : o.op = .call { callee := .builtin .append, args := #[f, x], argTypes := #[22, 22] })
    {B hi lo : Nat} {w : World} {M : List PV} {T : List TV} {v u : Value} (h : Gm B hi w M T v u) (q : PV) (hf : a.eval f = v) (hx : a.eval x = .slice (some ⟨w.heap.size, 0, none⟩) 1 1)
    (hn : M.length ≤ 1000) (hB : B ≤ hi) (hlo : hi ≤ lo) (hQ : Owns lo w.heap.size w (prow q)) (haq : Aparts (prow q))
    (hk : ∀ A c w', Gm B w'.heap.size w' (M ++ [q]) T (.slice A (M.length + 1) c) u → Below B w w' → Turn B hi w w' → (∀ g, v.ownBlock ≠ some g → g < w.heap.size → w'.heap[g]? = w.heap[g]?) → K (a.put o.dst (.slice A (M.length + 1) c)) w') :
    Oper.wp Try.prog o a (w.alloc (.cells #[.bool q.x.p, .slice q.a.A q.x.l.length q.a.c, .slice q.a.D q.x.m.length q.a.d, .bool q.y.p, .slice q.b.A q.y.l.length q.b.c, .slice q.b.D q.y.m.length q.b.d] 39)) K Q := by
  obtain ⟨i0, hi0, hz0, hz1, hz2⟩ := info_parts pt_info
  have hb := ba1 w (.cells #[.bool q.x.p, .slice q.a.A q.x.l.length q.a.c, .slice q.a.D q.x.m.length q.a.d, .bool q.y.p, .slice q.b.A q.y.l.length q.b.c, .slice q.b.D q.y.m.length q.b.d] 39)
  have hzz := sz1 w (.cells #[.bool q.x.p, .slice q.a.A q.x.l.length q.a.c, .slice q.a.D q.x.m.length q.a.d, .bool q.y.p, .slice q.b.A q.y.l.length q.b.c, .slice q.b.D q.y.m.length q.b.d] 39)
  have hcell : ∀ j u, [Value.bool q.x.p, .slice q.a.A q.x.l.length q.a.c, .slice q.a.D q.x.m.length q.a.d, .bool q.y.p, .slice q.b.A q.y.l.length q.b.c, .slice q.b.D q.y.m.length q.b.d][j]? = some u → (w.alloc (.cells #[.bool q.x.p, .slice q.a.A q.x.l.length q.a.c, .slice q.a.D q.x.m.length q.a.d, .bool q.y.p, .slice q.b.A q.y.l.length q.b.c, .slice q.b.D q.y.m.length q.b.d] 39)).cell? ((⟨w.heap.size, 0, none⟩ : Addr).add j) = some u := fun j u hu => by
    have hc := cell_of_row (w.alloc (.cells #[.bool q.x.p, .slice q.a.A q.x.l.length q.a.c, .slice q.a.D q.x.m.length q.a.d, .bool q.y.p, .slice q.b.A q.y.l.length q.b.c, .slice q.b.D q.y.m.length q.b.d] 39)) w.heap.size j #[.bool q.x.p, .slice q.a.A q.x.l.length q.a.c, .slice q.a.D q.x.m.length q.a.d, .bool q.y.p, .slice q.b.A q.y.l.length q.b.c, .slice q.b.D q.y.m.length q.b.d] 39 (0, 0) (heap_alloc_new _ _)
    rw [add_plain, Nat.zero_add, hc]
    simpa using hu
  have hG := h.below hb
  have hsz := hb.size
  have hh := h.hh
  generalize w.alloc (.cells #[.bool q.x.p, .slice q.a.A q.x.l.length q.a.c, .slice q.a.D q.x.m.length q.a.d, .bool q.y.p, .slice q.b.A q.y.l.length q.b.c, .slice q.b.D q.y.m.length q.b.d] 39) = w1 at hb hcell hG hsz hzz ⊢
  refine op_append (w := w1) f x 22 ho B 39 i0 _ 6 112 Try.underlying22 hi0 hz0 hz1 hz2 rfl (by decide) v M.length (flat M) hf hG.op ⟨w.heap.size, 0, none⟩ 1 1 [.bool q.x.p, .slice q.a.A q.x.l.length q.a.c, .slice q.a.D q.x.m.length q.a.d, .bool q.y.p, .slice q.b.A q.y.l.length q.b.c, .slice q.b.D q.y.m.length q.b.d] hx rfl hcell (by simp [Value.oneCell']) (by simp only [maxLen]; omega) (by omega) (by omega) ?_
  intro v' w' h1 h2 h4
  obtain ⟨A, c, rfl⟩ := slice_form h1
  have offv : ∀ g, v.ownBlock = some g → OffG g (lrow M) := fun g hg => by
    rcases list_own h.op with rfl | ⟨g', cap, rfl, _⟩
    · cases hg
    · obtain rfl : g' = g := by injection hg
      exact off_list hG.op hG.rows
  have ofq : ∀ g, g < hi → OffG g (prow q) := fun g hg => offG_owns hQ (Nat.lt_of_lt_of_le hg hlo)
  have hz : w1.heap.size ≤ w'.heap.size := h2.size
  refine hk A c w' ⟨?_, ?_, ?_, ?_, ?_, ?_, ?_, Nat.le_refl _⟩ ?_ ((Turn.of_below hb).trans (turn_own h2 (fun g hg => ⟨(h.op.lt g hg).1, h.hv g hg⟩))) (fun g hg hl => (h2.block g (by omega) (fun e => hg e.symm)).trans (hb.block g hl))
  · rw [flat_app, List.length_append]; simpa [flat, pcl] using h1
  · exact hG.ot.kept h2 (by
      cases hb0 : u.ownBlock with
      | none => exact .inl rfl
      | some g => exact .inr (fun e => own_two (fun e => tri_ne_pt e.symm) h.op h.ot g e.symm hb0))
  · rw [lrow_app, lrow_one]
    exact Owns.app ((owns_grown hG.rows h2 offv).wide (Nat.le_refl _) (by omega)) ((owns_grown (hQ.below hb) h2 (fun g hg => ofq g (h.hv g hg))).wide (by omega) (by omega))
  · rw [lrow_app, lrow_one]
    exact Aparts.app h.ap haq h.rows (hQ.wide hlo (Nat.le_refl _))
  · intro g hg r hr
    rw [lrow_app, lrow_one] at hr
    rcases List.mem_append.1 hr with hr | hr
    · exact h.off g hg r hr
    · exact ofq g (h.hu g hg) r hr
  · intro g hg
    exact (h1.lt g hg).2
  · intro g hg
    have := h.hu g hg
    omega
  · exact ((Below.refl B w).trans (hb.mono (by omega))).grown h2 (by omega) (fun g hg => (h.op.lt g hg).1)
theorem grow_pt {ops : Array Oper} {rest : List Oper} {o : Oper} {a : Act} {Q : Exit → Act → World → Prop} (hgd : o.guard = none) (f x : Operand)
    (ho : o.op = .call { callee := .builtin .append, args := #[f, x], argTypes := #[22, 22] })
    {B hi lo : Nat} {w : World} {M : List PV} {T : List TV} {v u : Value} (h : Gm B hi w M T v u) (q : PV) (hf : a.eval f = v) (hx : a.eval x = .slice (some ⟨w.heap.size, 0, none⟩) 1 1)
    (hn : M.length ≤ 1000) (hB : B ≤ hi) (hlo : hi ≤ lo) (hQ : Owns lo w.heap.size w (prow q)) (haq : Aparts (prow q))
    (hk : ∀ A c w', Gm B w'.heap.size w' (M ++ [q]) T (.slice A (M.length + 1) c) u → Below B w w' → Turn B hi w w' → (∀ g, v.ownBlock ≠ some g → g < w.heap.size → w'.heap[g]? = w.heap[g]?) → wpList Try.prog ops Q rest (a.put o.dst (.slice A (M.length + 1) c)) w') :
    wpList Try.prog ops Q (o :: rest) a (w.alloc (.cells #[.bool q.x.p, .slice q.a.A q.x.l.length q.a.c, .slice q.a.D q.x.m.length q.a.d, .bool q.y.p, .slice q.b.A q.y.l.length q.b.c, .slice q.b.D q.y.m.length q.b.d] 39)) :=
  wpList_plain hgd fun K hK => grow_pt_op f x ho h q hf hx hn hB hlo hQ haq (fun A c w' h1 h2 h3 h4 => hK _ _ (hk A c w' h1 h2 h3 h4))
/-- Triangles are put behind the triangles. -/
theorem grow_tri_op {o : Oper} {a : Act} {K : Act → World → Prop} {Q : Exit → Act → World → Prop} (f x : Operand)
    (ho : o.op = .call { callee := .builtin .append, args := #[f, x], argTypes := #[23, 23] })
    {B hi : Nat} {w : World} {M : List PV} {T : List TV} {v u : Value} (h : Gm B hi w M T v u) (N : List TV) (ad : Addr) (cN : Nat) (hf : a.eval f = u) (hx : a.eval x = .slice (some ad) N.length cN)
    (hcell : ∀ j y, (flatT N)[j]? = some y → w.cell? (ad.add j) = some y)
    (hn : T.length + N.length ≤ 1000) (hB : B ≤ hi)
    (hk : ∀ A c w', Gm B w'.heap.size w' M (T ++ N) v (.slice A (T.length + N.length) c) → Below B w w' → Turn B hi w w' → (∀ g, u.ownBlock ≠ some g → g < w.heap.size → w'.heap[g]? = w.heap[g]?) → K (a.put o.dst (.slice A (T.length + N.length) c)) w') :
    Oper.wp Try.prog o a w K Q := by
  obtain ⟨i0, hi0, hz0, hz1, hz2⟩ := info_parts tri_info
  have hh := h.hh
  refine op_append (w := w) f x 23 ho B 43 i0 _ 5 40 Try.underlying23 hi0 hz0 hz1 hz2 rfl (by decide) u T.length (flatT T) hf h.ot ad N.length cN (flatT N) hx (flatT_length N) hcell ?_ (by simp only [maxLen]; omega) (by omega) (by omega) ?_
  · intro y hy
    unfold flatT at hy
    obtain ⟨t, _, ht⟩ := List.mem_flatMap.1 hy
    unfold tcl at ht
    simp only [List.mem_cons, List.not_mem_nil, or_false] at ht
    rcases ht with rfl | rfl | rfl | rfl | rfl <;> rfl
  intro v' w' h1 h2 h4
  obtain ⟨A, c, rfl⟩ := slice_form h1
  have hz : w.heap.size ≤ w'.heap.size := h2.size
  refine hk A c w' ⟨?_, ?_, ?_, h.ap, ?_, ?_, ?_, Nat.le_refl _⟩ ?_ (turn_own h2 (fun g hg => ⟨(h.ot.lt g hg).1, h.hu g hg⟩)) (fun g hg hl => h2.block g hl (fun e => hg e.symm))
  · exact h.op.kept h2 (by
      cases hb0 : v.ownBlock with
      | none => exact .inl rfl
      | some g => exact .inr (fun e => own_two (fun e => tri_ne_pt e.symm) h.op h.ot g hb0 e.symm))
  · rw [flatT_app, List.length_append]; exact h1
  · exact (owns_grown h.rows h2 h.off).wide (Nat.le_refl _) (by omega)
  · intro g hg
    rcases h4 with e | e
    · exact h.off g (by rw [← e]; exact hg)
    · rw [e] at hg
      injection hg with hg
      subst hg
      intro r hr e2
      have := (h.rows r hr).2 _ e2
      omega
  · intro g hg
    have := h.hv g hg
    omega
  · intro g hg
    exact (h1.lt g hg).2
  · exact (Below.refl B w).grown h2 (by omega) (fun g hg => (h.ot.lt g hg).1)
theorem grow_tri {ops : Array Oper} {rest : List Oper} {o : Oper} {a : Act} {Q : Exit → Act → World → Prop} (hgd : o.guard = none) (f x : Operand)
    (ho : o.op = .call { callee := .builtin .append, args := #[f, x], argTypes := #[23, 23] })
    {B hi : Nat} {w : World} {M : List PV} {T : List TV} {v u : Value} (h : Gm B hi w M T v u) (N : List TV) (ad : Addr) (cN : Nat) (hf : a.eval f = u) (hx : a.eval x = .slice (some ad) N.length cN)
    (hcell : ∀ j y, (flatT N)[j]? = some y → w.cell? (ad.add j) = some y)
    (hn : T.length + N.length ≤ 1000) (hB : B ≤ hi)
    (hk : ∀ A c w', Gm B w'.heap.size w' M (T ++ N) v (.slice A (T.length + N.length) c) → Below B w w' → Turn B hi w w' → (∀ g, u.ownBlock ≠ some g → g < w.heap.size → w'.heap[g]? = w.heap[g]?) → wpList Try.prog ops Q rest (a.put o.dst (.slice A (T.length + N.length) c)) w') :
    wpList Try.prog ops Q (o :: rest) a w :=
  wpList_plain hgd fun K hK => grow_tri_op f x ho h N ad cN hf hx hcell hn hB (fun A c w' h1 h2 h3 h4 => hK _ _ (hk A c w' h1 h2 h3 h4))
/-- One triangle in a new block. -/
theorem cell_tri (w : World) (t : TV) : ∀ j y, (flatT [t])[j]? = some y → (w.alloc (.cells #[.int .i64 t.a, .int .i64 t.b, .int .i64 t.c, .int .i64 t.r, .int .i64 t.l] 43)).cell? ((⟨w.heap.size, 0, none⟩ : Addr).add j) = some y := fun j y hy => by
  have hc := cell_of_row (w.alloc (.cells #[.int .i64 t.a, .int .i64 t.b, .int .i64 t.c, .int .i64 t.r, .int .i64 t.l] 43)) w.heap.size j #[.int .i64 t.a, .int .i64 t.b, .int .i64 t.c, .int .i64 t.r, .int .i64 t.l] 43 (0, 0) (heap_alloc_new _ _)
  rw [add_plain, Nat.zero_add, hc]
  simpa [flatT, tcl] using hy
theorem owns_cells {lo hi : Nat} {w : World} {A : Option Addr} {l : List Value} {ad : Addr} (h : Owns lo hi w [(A, l)]) (hA : A = some ad) : ∀ j y, l[j]? = some y → w.cell? (ad.add j) = some y := fun j y hy => by
  have hl : j < l.length := by
    rcases Nat.lt_or_ge j l.length with h1 | h1
    · exact h1
    · rw [List.getElem?_eq_none h1] at hy; cases hy
  obtain ⟨g, ha, _, _, hc, _⟩ := h.hd.block (by omega)
  rw [hA] at ha
  injection ha with ha
  subst ha
  rw [add_plain, Nat.zero_add, hc j hl]; exact hy
/-- A mesh that a call has made. -/
theorem Gm.made {B0 B hi : Nat} {w w' : World} {M : List PV} {T : List TV} {A D : Option Addr} {c d : Nat} {m : MV} (h : Gm B hi w' M T (.slice A M.length c) (.slice D T.length d)) (hB : B0 ≤ B) (hd : (dat M, T) = datM m) (kb : Below w.heap.size w w') :
    MadeMi B0 m w (.returned (.agg #[.slice A M.length c, .slice D T.length d])) w' := by
  have oA := OwnS.of_own6 h.op
  have oD := own5 h.ot
  have iA : InR (flat M).length A B w'.heap.size := oA.inR rfl
  have iD : InR (flatT T).length D B w'.heap.size := oD.inR rfl
  have hb : ∀ {n : Nat} {X : Option Addr} {k e : Nat} {g : Nat}, rowOf n X = some g → (Value.slice X k e).ownBlock = some g := fun {n X k e g} hg => by
    unfold rowOf at hg
    split at hg
    · cases hg
    · cases X with
      | none => cases hg
      | some a => exact hg
  refine ⟨⟨M, A, c, T, D, d⟩, rfl, hd, ?_, ?_, kb⟩
  · refine Owns.app (Owns.cons (oA.more hB) (iA.wide hB (Nat.le_refl _)) (h.rows.wide hB h.hh)) (Owns.cons (oD.more hB) (iD.wide hB (Nat.le_refl _)) (Owns.nil _ _ _))
  · refine List.pairwise_append.2 ⟨List.Pairwise.cons (fun s hs g hg => ?_) h.ap, Aparts.one _, fun r hr s hs g hg => ?_⟩
    · have e := hb (k := M.length) (e := c) hg
      rcases list_own h.op with e2 | ⟨g', cap, e2, _⟩
      · rw [e2] at e; cases e
      · have e3 := e
        rw [e2] at e3
        have : g' = g := by injection e3
        subst this
        rw [show c = cap by injection e2, show A = some ⟨g', 0, none⟩ by injection e2] at h
        exact off_list h.op h.rows s hs
    · rw [List.mem_singleton] at hs
      subst hs
      intro hs
      have e := hb (k := T.length) (e := d) hs
      rcases List.mem_cons.1 hr with e1 | e1
      · subst e1
        exact own_two (fun e => tri_ne_pt e.symm) h.op h.ot g (hb (k := M.length) (e := c) hg) e
      · exact h.off g e r e1 hg
end Go.Proofs.Ytjcbaiphkchehaa
