/-
  Equal meshes: the program.
-/
import Derived.Test.YtoknolholccamaaMs
import Derived.Test.YtoknolholccamaaPtJ
namespace Go.Proofs.Ytoknolholccamaa
open Go.ChangeShapes Go.WideShapes Go.ChangeAt Go.RowKit
open Go.ChangeMaps (open_string shut_string)
set_option linter.unusedVariables false
set_option linter.unusedSimpArgs false
set_option maxRecDepth 4000

/-- Lists of points with the same data. -/
def sameS : List PV → List PV → Bool
  | [], [] => true
  | p :: L, q :: M => (sameR p.x q.x && sameR p.y q.y) && sameS L M
  | _, _ => false
theorem sameS_len {L M : List PV} (h : L.length ≠ M.length) : sameS L M = false := by
  induction L generalizing M with
  | nil => cases M with
    | nil => exact absurd rfl h
    | cons q M => rfl
  | cons p L ih => cases M with
    | nil => rfl
    | cons q M => unfold sameS; rw [ih (by simpa using h), Bool.and_false]
theorem sameS_drop {L M : List PV} {k : Nat} {p q : PV} (hp : L[k]? = some p) (hq : M[k]? = some q) : sameS (L.drop k) (M.drop k) = ((sameR p.x q.x && sameR p.y q.y) && sameS (L.drop (k + 1)) (M.drop (k + 1))) := by
  have h1 := lt_of_getP hp
  have h2 := lt_of_getP hq
  have e1 : L[k] = p := by rw [List.getElem?_eq_getElem h1] at hp; injection hp
  have e2 : M[k] = q := by rw [List.getElem?_eq_getElem h2] at hq; injection hq
  rw [List.drop_eq_getElem_cons h1, List.drop_eq_getElem_cons h2, e1, e2]; rfl
theorem sameS_end (L M : List PV) (h : L.length = M.length) : sameS (L.drop L.length) (M.drop L.length) = true := by
  rw [List.drop_length, h, List.drop_length]; rfl
theorem sameS_dat {L M L' M' : List PV} (h : dat L' = dat L) (h' : dat M' = dat M) : sameS L' M' = sameS L M := by
  induction L generalizing M L' M' with
  | nil =>
    obtain rfl : L' = [] := List.eq_nil_of_length_eq_zero (dat_len h)
    cases M with
    | nil => obtain rfl : M' = [] := List.eq_nil_of_length_eq_zero (dat_len h'); rfl
    | cons q M => match M', h' with
      | q' :: M', _ => rfl
  | cons p L ih =>
    match L', h with
    | p' :: L', h =>
      cases M with
      | nil => obtain rfl : M' = [] := List.eq_nil_of_length_eq_zero (dat_len h'); rfl
      | cons q M => match M', h' with
        | q' :: M', h' =>
          simp only [dat, List.map_cons, List.cons.injEq, Prod.mk.injEq] at h h'
          show ((sameR p'.x q'.x && sameR p'.y q'.y) && sameS L' M') = ((sameR p.x q.x && sameR p.y q.y) && sameS L M)
          rw [ih h.2 h'.2, h.1.1, h.1.2, h'.1.1, h'.1.2]
set_option maxHeartbeats 1000000 in
theorem eqFunc_r (L M : List PV) (A D : Option Addr) (c d : Nat) (w : World) (hn : L.length ≤ 1048576) (hn' : M.length ≤ 1048576) (hS : ∀ p, p ∈ L → ShortP p) (hS' : ∀ p, p ∈ M → ShortP p) (hP : ∀ q, q ∈ M → Pin q.a ∧ Pin q.b) (hA : Rds w (srow A L)) (hD : Rds w (srow D M)) :
    Calls Try.prog 28 #[.slice A L.length c, .slice D M.length d, .func (.func 29) #[] #[]] w (fun e w' => e = .returned (.bool (sameS L M)) ∧ Below w.heap.size w w') := by
  by_cases hl : L.length = M.length
  case neg =>
    have HR : Hid (sameS L M = false) := Lib.hid (sameS_len hl)
    have hne : ((L.length : Int) != (M.length : Int)) = true := by simp; omega
    generalize L.length = n at *
    generalize M.length = m at *
    go_enter Try.func28, Try.ntmps28
    go_wp2
    go_ret
    exact ⟨by rw [HR.out]; rfl, Below.refl _ _⟩
  obtain ⟨n, hnn⟩ : ∃ n, n = L.length := ⟨_, rfl⟩
  have hnm : n = M.length := by rw [hnn, hl]
  rw [← hnm] at hn' ⊢
  rw [← hnn] at hn ⊢
  have HN := Lib.hid (And.intro hnn hnm)
  have hne : ((n : Int) != (n : Int)) = false := by simp
  clear hnn hnm hl
  go_enter Try.func28, Try.ntmps28
  go_wp2
  go_loopw [17] (fun i w' => ∃ k : Nat, k ≤ n ∧ i = .int .i64 (k : Int) ∧ sameS (L.drop k) (M.drop k) = sameS L M ∧ Below w.heap.size w w') (fun i _ => n - (intOf i).toNat)
  case atStart => exact ⟨0, Nat.zero_le _, rfl, rfl, Below.refl _ _⟩
  case round =>
    obtain ⟨k, hk, rfl, hs, hb⟩ := hrel
    by_cases hlt : k < n
    · obtain ⟨p, hp⟩ := getP (show k < L.length by rw [← HN.out.1]; exact hlt)
      obtain ⟨q, hq⟩ := getP (show k < M.length by rw [← HN.out.2]; exact hlt)
      obtain ⟨g, o, rfl, hg, c0, c1, c2, c3, c4, c5⟩ := (hA.hd.below hb).six hp
      obtain ⟨g', o', rfl, hg', d0, d1, d2, d3, d4, d5⟩ := (hD.hd.below hb).six hq
      have hsd := sameS_drop hp hq
      have mp := List.mem_of_getElem? hp
      have mq := List.mem_of_getElem? hq
      have R : Hid (∀ W, Below wr.heap.size wr W → Rds W (prow p) ∧ Rds W (prow q)) := Lib.hid (fun W hB => ⟨((hA.tl.below hb).at hp).below hB, ((hD.tl.below hb).at hq).below hB⟩)
      have SAME : Hid (∀ W, Rds W (prow p) → Rds W (prow q) → Calls Try.prog 29 #[.agg #[.bool p.x.p, .slice p.a.A p.x.l.length p.a.c, .slice p.a.D p.x.m.length p.a.d, .bool p.y.p, .slice p.b.A p.y.l.length p.b.c, .slice p.b.D p.y.m.length p.b.d], .agg #[.bool q.x.p, .slice q.a.A q.x.l.length q.a.c, .slice q.a.D q.x.m.length q.a.d, .bool q.y.p, .slice q.b.A q.y.l.length q.b.c, .slice q.b.D q.y.m.length q.b.d]] W (fun e w' => e = .returned (.bool (sameR p.x q.x && sameR p.y q.y)) ∧ Below W.heap.size W w')) := Lib.hid (fun W h h' => impl_sameP p.x p.y q.x q.y p.a p.b q.a q.b W (hS p mp).1 (hS p mp).2 (hS' q mq).1 (hS' q mq).2 (hP q mq).1 (hP q mq).2 h h')
      have hi0 : (0 : Int) ≤ (k : Int) := by omega
      have hi1 : (k : Int) < (n : Int) := by omega
      have HB := Lib.hid hb
      generalize (sameR p.x q.x && sameR p.y q.y) = r at SAME hsd
      have HSD := Lib.hid (And.intro hs hsd)
      clear hp hq mp mq hb hs hsd
      cases r with
      | false =>
        have HR : Hid (sameS L M = false) := Lib.hid (by rw [← HSD.out.1, HSD.out.2]; rfl)
        go_wp2_with fail
        have kb := ba2 wr (.cells #[.bool p.x.p, .slice p.a.A p.x.l.length p.a.c, .slice p.a.D p.x.m.length p.a.d, .bool p.y.p, .slice p.b.A p.y.l.length p.b.c, .slice p.b.D p.y.m.length p.b.d] 60) (.cells #[.bool q.x.p, .slice q.a.A q.x.l.length q.a.c, .slice q.a.D q.x.m.length q.a.d, .bool q.y.p, .slice q.b.A q.y.l.length q.b.c, .slice q.b.D q.y.m.length q.b.d] 60)
        generalize (wr.alloc (.cells #[.bool p.x.p, .slice p.a.A p.x.l.length p.a.c, .slice p.a.D p.x.m.length p.a.d, .bool p.y.p, .slice p.b.A p.y.l.length p.b.c, .slice p.b.D p.y.m.length p.b.d] 60)).alloc (.cells #[.bool q.x.p, .slice q.a.A q.x.l.length q.a.c, .slice q.a.D q.x.m.length q.a.d, .bool q.y.p, .slice q.b.A q.y.l.length q.b.c, .slice q.b.D q.y.m.length q.b.d] 60) = W1 at kb ⊢
        refine (SAME.out _ (R.out _ kb).1 (R.out _ kb).2).mono ?_
        rintro e W2 ⟨rfl, hb2⟩
        go_wp2
        go_ret
        exact ⟨by rw [HR.out]; rfl, bt HB.out (bt kb hb2)⟩
      | true =>
        have HR : Hid (sameS (L.drop (k + 1)) (M.drop (k + 1)) = sameS L M) := Lib.hid (by rw [← HSD.out.1, HSD.out.2, Bool.true_and])
        go_wp2_with fail
        have kb := ba2 wr (.cells #[.bool p.x.p, .slice p.a.A p.x.l.length p.a.c, .slice p.a.D p.x.m.length p.a.d, .bool p.y.p, .slice p.b.A p.y.l.length p.b.c, .slice p.b.D p.y.m.length p.b.d] 60) (.cells #[.bool q.x.p, .slice q.a.A q.x.l.length q.a.c, .slice q.a.D q.x.m.length q.a.d, .bool q.y.p, .slice q.b.A q.y.l.length q.b.c, .slice q.b.D q.y.m.length q.b.d] 60)
        generalize (wr.alloc (.cells #[.bool p.x.p, .slice p.a.A p.x.l.length p.a.c, .slice p.a.D p.x.m.length p.a.d, .bool p.y.p, .slice p.b.A p.y.l.length p.b.c, .slice p.b.D p.y.m.length p.b.d] 60)).alloc (.cells #[.bool q.x.p, .slice q.a.A q.x.l.length q.a.c, .slice q.a.D q.x.m.length q.a.d, .bool q.y.p, .slice q.b.A q.y.l.length q.b.c, .slice q.b.D q.y.m.length q.b.d] 60) = W1 at kb ⊢
        refine (SAME.out _ (R.out _ kb).1 (R.out _ kb).2).mono ?_
        rintro e W2 ⟨rfl, hb2⟩
        go_wp2
        go_roundw
        case rel => exact ⟨k + 1, by omega, by go_num, HR.out, bt HB.out (bt kb hb2)⟩
        case measure => simp [intOf]; omega
    · obtain rfl : k = n := by omega
      have HR : Hid (sameS L M = true) := Lib.hid (by rw [← hs, HN.out.1]; exact sameS_end L M (by rw [← HN.out.1, ← HN.out.2]))
      clear hs
      go_wp2
      go_ret
      exact ⟨by rw [HR.out]; rfl, hb⟩
end Go.Proofs.Ytoknolholccamaa
