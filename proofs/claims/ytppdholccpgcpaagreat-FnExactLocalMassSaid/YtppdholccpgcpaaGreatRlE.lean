/-
  Words of appends: blocks that hold no row.
-/
import Derived.Test.YtppdholccpgcpaaGreatSlH
import Derived.Maps.AppendAt
import Derived.Test.YtppdholccpgcpaaGreatRl
namespace Go.Proofs.YtppdholccpgcpaaGreat
open Go.ChangeShapes Go.WideShapes Go.ChangeAt Go.RowKit
open Go.ChangeMaps (open_string shut_string)
set_option linter.unusedVariables false
set_option linter.unusedSimpArgs false
set_option maxRecDepth 4000
def OffG (g : Nat) (rs : List (Option Addr × List Value)) : Prop := ∀ r, r ∈ rs → rowOf r.2.length r.1 ≠ some g
theorem offG_owns {lo hi g : Nat} {w : World} {rs : List (Option Addr × List Value)} (h : Owns lo hi w rs) (hg : g < lo) : OffG g rs := fun r hr e => by
  have := (h r hr).2 g e
  omega
theorem ownS_grown {B : Nat} {w w' : World} {A : Option Addr} {l : List Value} {ob : Option Nat} (h : OwnS B w A l) (hg : w.grownBy w' ob) (ho : ∀ g, ob = some g → rowOf l.length A ≠ some g) : OwnS B w' A l := by
  rcases h with h0 | ⟨g, ha, hB, hs, hc, hf⟩
  · exact .inl h0
  · by_cases h0 : l.length = 0
    · exact .inl (List.eq_nil_of_length_eq_zero h0)
    have hne : some g ≠ ob := fun e => ho g e.symm (by unfold rowOf; rw [if_neg h0, ha]; rfl)
    have hk : w'.heap[g]? = w.heap[g]? := hg.block g hs hne
    refine .inr ⟨g, ha, hB, Nat.lt_of_lt_of_le hs hg.size, fun j hj => ?_, fun j hj => ?_⟩
    · rw [World.cell?_of_block (w := w) (a := ⟨g, j, none⟩) hk]; exact hc j hj
    · rw [World.frozen?_of_block (w := w) (a := ⟨g, j, none⟩) hk]; exact hf j hj
theorem owns_grown {lo hi : Nat} {w w' : World} {rs : List (Option Addr × List Value)} {ob : Option Nat} (h : Owns lo hi w rs) (hg : w.grownBy w' ob) (ho : ∀ g, ob = some g → OffG g rs) : Owns lo hi w' rs := fun r hr =>
  ⟨ownS_grown (h r hr).1 hg (fun g e => ho g e r hr), (h r hr).2⟩
theorem op_append {o : Oper} {a : Act} {K : Act → World → Prop} {Q : Exit → Act → World → Prop} (s x : Operand) (t : TypeId)
    (ho : o.op = .call { callee := .builtin .append, args := #[s, x], argTypes := #[t, t] })
    (B : Nat) (e : TypeId) (i : TypeInfo) (z : Value) (size bytes : Nat) (ht : Tryz.prog.underlying t = some (.slice e)) (hi : Tryz.prog.info? e = some i) (hz : i.zero = some z)
    (hsize : i.size = size) (hby : i.bytes = bytes) (hzs : z.cells.size = size) (hsz : 0 < size) {w : World}
    (v : Value) (n : Nat) (xs : List Value) (hs : a.eval s = v) (hown : w.ownsRow B e size v n xs)
    (ad : Addr) (m c : Nat) (news : List Value) (hx : a.eval x = .slice (some ad) m c) (hl : news.length = m * size) (hnews : ∀ j u, news[j]? = some u → w.cell? (ad.add j) = some u) (h1 : ∀ u ∈ news, u.oneCell' = true)
    (h63 : n + m ≤ maxLen) (hbytes : (n + m) * bytes ≤ 140737488355328) (hbase : B ≤ w.heap.size)
    (h : ∀ v' w', w'.ownsRow B e size v' (n + m) (xs ++ news) → w.grownBy w' v.ownBlock → (v'.ownBlock = v.ownBlock ∨ v'.ownBlock = some w.heap.size) → K (a.put o.dst v') w') :
    Oper.wp Tryz.prog o a w K Q := by
  obtain ⟨v', w', hr, h2, h3, _, h5⟩ := run_append_own_at (P := Tryz.prog) w B t o.type e i z size bytes ht hi hz hsize hby hzs hsz v n xs hown ad m c news hl hnews h1 h63 hbytes hbase
  unfold Oper.wp execOp
  simp only [ho, resolve, invoke, builtin, Sem.run_bind, Sem.run_pure, Result.andThen_ok, List.map_toArray, List.map_cons, List.map_nil, hs, hx, hr]
  exact h v' w' h2 h3 h5
theorem wanted_op {c : Bool} {A B : Prop} (h : c = true) (k : A) : if c = true then A else B := by rw [if_pos h]; exact k
end Go.Proofs.YtppdholccpgcpaaGreat
namespace Go.Proofs.YtppdholccpgcpaaGreat
open Go.ChangeShapes Go.WideShapes Go.ChangeAt Go.RowKit
open Go.ChangeMaps (open_string shut_string)
set_option linter.unusedVariables false
set_option linter.unusedSimpArgs false
set_option maxRecDepth 4000
set_option maxHeartbeats 1000000 in
theorem eqRS_t (L M M' : List RV) (A A' : Option Addr) (c c' : Nat) (w : World) (hn' : L.length ≤ 1048576) (hS : ∀ p, p ∈ L → ShortQ p) (hd : datQ M = datQ L) (hd' : datQ M' = datQ L) (hA : Rds w (srowQ A M)) (hA' : Rds w (srowQ A' M')) :
    Calls Tryz.prog 46 #[.slice A M.length c, .slice A' M'.length c'] w (fun e w' => e = .returned (.bool true) ∧ Below w.heap.size w w') := by
  obtain ⟨n, hn⟩ : ∃ n, n = L.length := ⟨_, rfl⟩
  have hm := datQ_len hd
  have hm' := datQ_len hd'
  rw [hm, hm', ← hn]
  rw [← hn] at hn'
  have HN := Lib.hid hn
  clear hn hm hm'
  go_enter Tryz.func46, Tryz.ntmps46
  go_wp2
  go_loopw [5] (fun i w' => ∃ k : Nat, k ≤ n ∧ i = .int .i64 (k : Int) ∧ Below w.heap.size w w') (fun i _ => n - (intOf i).toNat)
  case atStart => exact ⟨0, Nat.zero_le _, rfl, Below.refl _ _⟩
  case round =>
    obtain ⟨k, hk, rfl, hb⟩ := hrel
    by_cases hlt : k < n
    · obtain ⟨p, hp⟩ := getQ (show k < L.length by rw [← HN.out]; exact hlt)
      obtain ⟨q, hq, qx⟩ := datQ_get hd hp
      obtain ⟨r, hr, rx⟩ := datQ_get hd' hp
      obtain ⟨g, o, rfl, hg, c0, c1, c2⟩ := (hA.hd.below hb).three hq
      obtain ⟨g', o', rfl, hg', d0, d1, d2⟩ := (hA'.hd.below hb).three hr
      have hps := hS p (List.mem_of_getElem? hp)
      have r1 := (hA.tl.below hb).atQ hq
      have r2 := (hA'.tl.below hb).atQ hr
      unfold qrow at r1 r2
      rw [qx] at r1 c0 c1 c2
      rw [rx] at r2 d0 d1 d2
      have EQ := Lib.hid (fun W h h' => eqRat_t p.x q.a r.a W hps h h')
      have R1 : Hid (∀ W, Below wr.heap.size wr W → Rds W (rows p.x q.a) ∧ Rds W (rows p.x r.a)) := Lib.hid (fun W hB => ⟨r1.below hB, r2.below hB⟩)
      have hi0 : (0 : Int) ≤ (k : Int) := by omega
      have hi1 : (k : Int) < (n : Int) := by omega
      have SB : Hid (∀ w', Below wr.heap.size wr w' → (w'.cell? ⟨g, o + k * 3, none⟩ = some (.bool p.x.p) ∧ w'.cell? ⟨g, o + k * 3 + 1, none⟩ = some (.slice q.a.A p.x.l.length q.a.c) ∧ w'.cell? ⟨g, o + k * 3 + 2, none⟩ = some (.slice q.a.D p.x.m.length q.a.d) ∧ w'.cell? ⟨g', o' + k * 3, none⟩ = some (.bool p.x.p) ∧ w'.cell? ⟨g', o' + k * 3 + 1, none⟩ = some (.slice r.a.A p.x.l.length r.a.c) ∧ w'.cell? ⟨g', o' + k * 3 + 2, none⟩ = some (.slice r.a.D p.x.m.length r.a.d) ∧ Below wr.heap.size wr w')) := Lib.hid (fun w' hB => ⟨(below_cell hB c0), (below_cell hB c1), (below_cell hB c2), (below_cell hB d0), (below_cell hB d1), (below_cell hB d2), hB⟩)
      have HB := Lib.hid hb
      clear r1 r2 hps hq hr qx rx hp hb c0 c1 c2 d0 d1 d2
      go_wp2_with fail
      go_region_held3 (fun w' => w'.cell? ⟨g, o + k * 3, none⟩ = some (.bool p.x.p) ∧ w'.cell? ⟨g, o + k * 3 + 1, none⟩ = some (.slice q.a.A p.x.l.length q.a.c) ∧ w'.cell? ⟨g, o + k * 3 + 2, none⟩ = some (.slice q.a.D p.x.m.length q.a.d) ∧ w'.cell? ⟨g', o' + k * 3, none⟩ = some (.bool p.x.p) ∧ w'.cell? ⟨g', o' + k * 3 + 1, none⟩ = some (.slice r.a.A p.x.l.length r.a.c) ∧ w'.cell? ⟨g', o' + k * 3 + 2, none⟩ = some (.slice r.a.D p.x.m.length r.a.d) ∧ Below wr.heap.size wr w')
        (first | (with_reducible exact SB.out _ (Below.refl _ _)) | (with_reducible exact SB.out _ (Below.refl _ _).drew) | (go_split_ands; with_reducible exact SB.out _ (bt (by assumption : Below wr.heap.size wr _) hb)))
        (first | (go_at_call 56; go_split_ands; ((with_reducible refine (EQ.out _ (R1.out _ (by assumption : Below wr.heap.size wr _)).1 (R1.out _ (by assumption : Below wr.heap.size wr _)).2).mono ?_); rintro e w2 ⟨rfl, hb⟩; skip)))
      all_goals
        have hfin := (‹_ ∧ _ ∧ _ ∧ _ ∧ _ ∧ _ ∧ Below wr.heap.size wr _›).2.2.2.2.2.2
        go_wp2
        go_roundw
        case rel => exact ⟨k + 1, by omega, by go_num, bt HB.out hfin⟩
        case measure => simp [intOf]; omega
    · obtain rfl : k = n := by omega
      go_wp2
      go_ret
      exact ⟨rfl, hb⟩
end Go.Proofs.YtppdholccpgcpaaGreat
