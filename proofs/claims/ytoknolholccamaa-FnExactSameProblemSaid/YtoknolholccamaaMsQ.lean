/-
  Equal lists of triangles: slices.Equal.
-/
import Derived.Test.YtoknolholccamaaMsS
import Derived.Laws.StructEq
namespace Go.Proofs.Ytoknolholccamaa
open Go.ChangeShapes Go.WideShapes Go.ChangeAt Go.RowKit
open Go.ChangeMaps (open_string shut_string)
set_option linter.unusedVariables false
set_option linter.unusedSimpArgs false
set_option maxRecDepth 4000

/-- Equal triangles. -/
def eqT (t u : TV) : Bool := t.a == u.a && (t.b == u.b && (t.c == u.c && (t.r == u.r && t.l == u.l)))
theorem eqT_iff (t u : TV) : eqT t u = true ↔ t = u := by
  cases t; cases u
  simp [eqT]
def sameT : List TV → List TV → Bool
  | [], [] => true
  | p :: L, q :: M => eqT p q && sameT L M
  | _, _ => false
theorem sameT_len {L M : List TV} (h : L.length ≠ M.length) : sameT L M = false := by
  induction L generalizing M with
  | nil => cases M with
    | nil => exact absurd rfl h
    | cons q M => rfl
  | cons p L ih => cases M with
    | nil => rfl
    | cons q M => unfold sameT; rw [ih (by simpa using h), Bool.and_false]
theorem sameT_drop {L M : List TV} {k : Nat} {p q : TV} (hp : L[k]? = some p) (hq : M[k]? = some q) : sameT (L.drop k) (M.drop k) = (eqT p q && sameT (L.drop (k + 1)) (M.drop (k + 1))) := by
  have h1 := lt_of_getT hp
  have h2 := lt_of_getT hq
  have e1 : L[k] = p := by rw [List.getElem?_eq_getElem h1] at hp; injection hp
  have e2 : M[k] = q := by rw [List.getElem?_eq_getElem h2] at hq; injection hq
  rw [List.drop_eq_getElem_cons h1, List.drop_eq_getElem_cons h2, e1, e2]; rfl
theorem sameT_end (L M : List TV) (h : L.length = M.length) : sameT (L.drop L.length) (M.drop L.length) = true := by
  rw [List.drop_length, h, List.drop_length]; rfl
theorem neq_tri (t u : TV) (w : World) : (binOp .neq 63 (.agg #[.int .i64 t.a, .int .i64 t.b, .int .i64 t.c, .int .i64 t.r, .int .i64 t.l]) (.agg #[.int .i64 u.a, .int .i64 u.b, .int .i64 u.c, .int .i64 u.r, .int .i64 u.l])).run Try.prog w = .ok (.bool (!eqT t u)) w := by
  have hf : Try.prog.fieldsOf 63 = (match Try.prog.underlying 63 with | some (.struct fs) => fs | _ => #[]) := rfl
  rw [Try.underlying63] at hf
  rw [run_neq_struct, run_equalIn_agg w 9999 _ _ _ (by rw [hf, Try.underlying63]) (by kernel_rfl), hf]
  unfold eqT
  cases h1 : t.a == u.a <;> cases h2 : t.b == u.b <;> cases h3 : t.c == u.c <;> cases h4 : t.r == u.r <;> cases h5 : t.l == u.l <;> simp [go_sem, Op.eqFields, h1, h2, h3, h4, h5, run_equalIn_int w _ _ _ _ _ _ Try.underlying3]
theorem guard_tri (x y : Operand) (t u : TV) (w : World) : (eqGuard .neq 63 x y (.agg #[.int .i64 t.a, .int .i64 t.b, .int .i64 t.c, .int .i64 t.r, .int .i64 t.l]) (.agg #[.int .i64 u.a, .int .i64 u.b, .int .i64 u.c, .int .i64 u.r, .int .i64 u.l])).run Try.prog w = .ok () w := run_eqGuard_agg w _ _ _ _ _ _ (by kernel_rfl)
attribute [local go_sem high] neq_tri guard_tri
set_option maxHeartbeats 1000000 in
theorem eqTs_r (T U : List TV) (A D : Option Addr) (c d : Nat) (w : World) (hn : T.length ≤ 1048576) (hn' : U.length ≤ 1048576) (hA : RdS w A (flatT T)) (hD : RdS w D (flatT U)) :
    Calls Try.prog 30 #[.slice A T.length c, .slice D U.length d] w (fun e w' => e = .returned (.bool (sameT T U)) ∧ Below w.heap.size w w') := by
  by_cases hl : T.length = U.length
  case neg =>
    have HR : Hid (sameT T U = false) := Lib.hid (sameT_len hl)
    have hne : ((T.length : Int) != (U.length : Int)) = true := by simp; omega
    generalize T.length = n at *
    generalize U.length = m at *
    go_enter Try.func30, Try.ntmps30
    go_wp2
    go_ret
    exact ⟨by rw [HR.out]; rfl, Below.refl _ _⟩
  obtain ⟨n, hnn⟩ : ∃ n, n = T.length := ⟨_, rfl⟩
  have hnm : n = U.length := by rw [hnn, hl]
  rw [← hnm] at hn' ⊢
  rw [← hnn] at hn ⊢
  have HN := Lib.hid (And.intro hnn hnm)
  have hne : ((n : Int) != (n : Int)) = false := by simp
  clear hnn hnm hl
  go_enter Try.func30, Try.ntmps30
  go_wp2
  go_loopw [13] (fun i w' => ∃ k : Nat, k ≤ n ∧ i = .int .i64 (k : Int) ∧ sameT (T.drop k) (U.drop k) = sameT T U ∧ Below w.heap.size w w') (fun i _ => n - (intOf i).toNat)
  case atStart => exact ⟨0, Nat.zero_le _, rfl, rfl, Below.refl _ _⟩
  case round =>
    obtain ⟨k, hk, rfl, hs, hb⟩ := hrel
    by_cases hlt : k < n
    · obtain ⟨p, hp⟩ := getT (show k < T.length by rw [← HN.out.1]; exact hlt)
      obtain ⟨q, hq⟩ := getT (show k < U.length by rw [← HN.out.2]; exact hlt)
      obtain ⟨g, o, rfl, hg, c0, c1, c2, c3, c4⟩ := (hA.below hb).five hp
      obtain ⟨g', o', rfl, hg', d0, d1, d2, d3, d4⟩ := (hD.below hb).five hq
      have hi0 : (0 : Int) ≤ (k : Int) := by omega
      have hi1 : (k : Int) < (n : Int) := by omega
      have hsd := sameT_drop hp hq
      have HSD := Lib.hid (And.intro hs hsd)
      have SB : Hid (∀ w', Below wr.heap.size wr w' → (w'.cell? ⟨g, o + k * 5, none⟩ = some (.int .i64 p.a) ∧ w'.cell? ⟨g, o + k * 5 + 1, none⟩ = some (.int .i64 p.b) ∧ w'.cell? ⟨g, o + k * 5 + 2, none⟩ = some (.int .i64 p.c) ∧ w'.cell? ⟨g, o + k * 5 + 3, none⟩ = some (.int .i64 p.r) ∧ w'.cell? ⟨g, o + k * 5 + 4, none⟩ = some (.int .i64 p.l) ∧ w'.cell? ⟨g', o' + k * 5, none⟩ = some (.int .i64 q.a) ∧ w'.cell? ⟨g', o' + k * 5 + 1, none⟩ = some (.int .i64 q.b) ∧ w'.cell? ⟨g', o' + k * 5 + 2, none⟩ = some (.int .i64 q.c) ∧ w'.cell? ⟨g', o' + k * 5 + 3, none⟩ = some (.int .i64 q.r) ∧ w'.cell? ⟨g', o' + k * 5 + 4, none⟩ = some (.int .i64 q.l) ∧ Below wr.heap.size wr w')) := Lib.hid (fun w' hB => ⟨(below_cell hB c0), (below_cell hB c1), (below_cell hB c2), (below_cell hB c3), (below_cell hB c4), (below_cell hB d0), (below_cell hB d1), (below_cell hB d2), (below_cell hB d3), (below_cell hB d4), hB⟩)
      have HB := Lib.hid hb
      clear hp hq hb hs hsd c0 c1 c2 c3 c4 d0 d1 d2 d3 d4
      cases hE : eqT p q with
      | false =>
        have HR : Hid (sameT T U = false) := Lib.hid (by rw [← HSD.out.1, HSD.out.2, hE]; rfl)
        go_wp2_with fail
        go_region_held3 (fun w' => w'.cell? ⟨g, o + k * 5, none⟩ = some (.int .i64 p.a) ∧ w'.cell? ⟨g, o + k * 5 + 1, none⟩ = some (.int .i64 p.b) ∧ w'.cell? ⟨g, o + k * 5 + 2, none⟩ = some (.int .i64 p.c) ∧ w'.cell? ⟨g, o + k * 5 + 3, none⟩ = some (.int .i64 p.r) ∧ w'.cell? ⟨g, o + k * 5 + 4, none⟩ = some (.int .i64 p.l) ∧ w'.cell? ⟨g', o' + k * 5, none⟩ = some (.int .i64 q.a) ∧ w'.cell? ⟨g', o' + k * 5 + 1, none⟩ = some (.int .i64 q.b) ∧ w'.cell? ⟨g', o' + k * 5 + 2, none⟩ = some (.int .i64 q.c) ∧ w'.cell? ⟨g', o' + k * 5 + 3, none⟩ = some (.int .i64 q.r) ∧ w'.cell? ⟨g', o' + k * 5 + 4, none⟩ = some (.int .i64 q.l) ∧ Below wr.heap.size wr w')
          (first | (with_reducible exact SB.out _ (Below.refl _ _)) | (with_reducible exact SB.out _ (Below.refl _ _).drew) | (go_split_ands; with_reducible exact SB.out _ (bt (by assumption : Below wr.heap.size wr _) hb)))
          (first | fail)
        all_goals
          have hfin := (‹_ ∧ _ ∧ _ ∧ _ ∧ _ ∧ _ ∧ _ ∧ _ ∧ _ ∧ _ ∧ Below wr.heap.size wr _›).2.2.2.2.2.2.2.2.2.2
          go_wp2
          go_ret
          exact ⟨by rw [HR.out]; rfl, bt HB.out hfin⟩
      | true =>
        have HR : Hid (sameT (T.drop (k + 1)) (U.drop (k + 1)) = sameT T U) := Lib.hid (by rw [← HSD.out.1, HSD.out.2, hE, Bool.true_and])
        go_wp2_with fail
        go_region_held3 (fun w' => w'.cell? ⟨g, o + k * 5, none⟩ = some (.int .i64 p.a) ∧ w'.cell? ⟨g, o + k * 5 + 1, none⟩ = some (.int .i64 p.b) ∧ w'.cell? ⟨g, o + k * 5 + 2, none⟩ = some (.int .i64 p.c) ∧ w'.cell? ⟨g, o + k * 5 + 3, none⟩ = some (.int .i64 p.r) ∧ w'.cell? ⟨g, o + k * 5 + 4, none⟩ = some (.int .i64 p.l) ∧ w'.cell? ⟨g', o' + k * 5, none⟩ = some (.int .i64 q.a) ∧ w'.cell? ⟨g', o' + k * 5 + 1, none⟩ = some (.int .i64 q.b) ∧ w'.cell? ⟨g', o' + k * 5 + 2, none⟩ = some (.int .i64 q.c) ∧ w'.cell? ⟨g', o' + k * 5 + 3, none⟩ = some (.int .i64 q.r) ∧ w'.cell? ⟨g', o' + k * 5 + 4, none⟩ = some (.int .i64 q.l) ∧ Below wr.heap.size wr w')
          (first | (with_reducible exact SB.out _ (Below.refl _ _)) | (with_reducible exact SB.out _ (Below.refl _ _).drew) | (go_split_ands; with_reducible exact SB.out _ (bt (by assumption : Below wr.heap.size wr _) hb)))
          (first | fail)
        all_goals
          have hfin := (‹_ ∧ _ ∧ _ ∧ _ ∧ _ ∧ _ ∧ _ ∧ _ ∧ _ ∧ _ ∧ Below wr.heap.size wr _›).2.2.2.2.2.2.2.2.2.2
          go_wp2
          go_roundw
          case rel => exact ⟨k + 1, by omega, by go_num, HR.out, bt HB.out hfin⟩
          case measure => simp [intOf]; omega
    · obtain rfl : k = n := by omega
      have HR : Hid (sameT T U = true) := Lib.hid (by rw [← hs, HN.out.1]; exact sameT_end T U (by rw [← HN.out.1, ← HN.out.2]))
      clear hs
      go_wp2
      go_ret
      exact ⟨by rw [HR.out]; rfl, hb⟩
end Go.Proofs.Ytoknolholccamaa
