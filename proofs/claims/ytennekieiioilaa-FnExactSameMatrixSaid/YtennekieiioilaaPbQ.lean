/-
  Equal lists of fractions: the program.
-/
import Derived.Test.YtennekieiioilaaRl
import Derived.Test.YtennekieiioilaaSqS1
import Derived.Test.YtennekieiioilaaPkI
import Derived.Test.YtennekieiioilaaPtH
namespace Go.Proofs.Ytennekieiioilaa
open Go.ChangeShapes Go.WideShapes Go.ChangeAt Go.RowKit
open Go.ChangeMaps (open_string shut_string)
set_option linter.unusedVariables false
set_option linter.unusedSimpArgs false
set_option maxRecDepth 4000

set_option maxHeartbeats 1000000 in
theorem eqFuncQ_r (L M : List RV) (A D : Option Addr) (c d : Nat) (w : World) (hn : L.length ≤ 1048576) (hn' : M.length ≤ 1048576) (hS : ∀ p, p ∈ L → ShortQ p) (hS' : ∀ p, p ∈ M → ShortQ p) (hA : Rds w (srowQ A L)) (hD : Rds w (srowQ D M)) :
    Calls Try.prog 33 #[.slice A L.length c, .slice D M.length d, .func (.func 34) #[] #[]] w (fun e w' => e = .returned (.bool (sameQL L M)) ∧ Below w.heap.size w w') := by
  by_cases hl : L.length = M.length
  case neg =>
    have HR : Hid (sameQL L M = false) := Lib.hid (by unfold sameQL; rw [decide_eq_false hl, Bool.false_and])
    have hne : ((L.length : Int) != (M.length : Int)) = true := by simp; omega
    clear hA hD hS hS' hl
    generalize L.length = n at *
    generalize M.length = m at *
    go_enter Try.func33, Try.ntmps33
    go_wp2
    go_ret
    exact ⟨by rw [HR.out]; rfl, Below.refl _ _⟩
  have HSQ : Hid (sameQL L M = (List.range L.length).all (sameQ L M)) := Lib.hid (by unfold sameQL; rw [decide_eq_true hl, Bool.true_and])
  obtain ⟨n, hnn⟩ : ∃ n, n = L.length := ⟨_, rfl⟩
  have hnm : n = M.length := by rw [hnn, hl]
  rw [← hnm] at hn' ⊢
  rw [← hnn] at hn HSQ ⊢
  have HN := Lib.hid (And.intro hnn hnm)
  have hne : ((n : Int) != (n : Int)) = false := by simp
  clear hnn hnm hl
  go_enter Try.func33, Try.ntmps33
  go_wp2
  go_loopw [17] (fun i w' => ∃ k : Nat, k ≤ n ∧ i = .int .i64 (k : Int) ∧ (List.range k).all (sameQ L M) = true ∧ Below w.heap.size w w') (fun i _ => n - (intOf i).toNat)
  case atStart => exact ⟨0, Nat.zero_le _, rfl, rfl, Below.refl _ _⟩
  case round =>
    obtain ⟨k, hk, rfl, hs, hb⟩ := hrel
    by_cases hlt : k < n
    · obtain ⟨p, hp⟩ := getQ (L := L) (i := k) (by rw [← HN.out.1]; exact hlt)
      obtain ⟨q, hq⟩ := getQ (L := M) (i := k) (by rw [← HN.out.2]; exact hlt)
      obtain ⟨g, o, rfl, hg, c0, c1, c2⟩ := (hA.hd.below hb).three hp
      obtain ⟨g', o', rfl, hg', d0, d1, d2⟩ := (hD.hd.below hb).three hq
      have lp := hS p (List.mem_of_getElem? hp)
      have lu := hS' q (List.mem_of_getElem? hq)
      unfold ShortQ Short at lp lu
      have hse : sameQ L M k = sameR p.x q.x := by
        unfold sameQ
        rw [show (datQ L)[k]? = some p.x by unfold datQ; rw [List.getElem?_map, hp]; rfl, show (datQ M)[k]? = some q.x by unfold datQ; rw [List.getElem?_map, hq]; rfl]
        rfl
      have R : Hid (∀ W, Below wr.heap.size wr W → Rds W (rows p.x p.a) ∧ Rds W (rows q.x q.a)) := Lib.hid (fun W hB => ⟨((hA.tl.below hb).atQ hp).below hB, ((hD.tl.below hb).atQ hq).below hB⟩)
      have SAME : Hid (∀ W, Rds W (rows p.x p.a) → Rds W (rows q.x q.a) → Calls Try.prog 34 #[.agg #[.bool p.x.p, .slice p.a.A p.x.l.length p.a.c, .slice p.a.D p.x.m.length p.a.d], .agg #[.bool q.x.p, .slice q.a.A q.x.l.length q.a.c, .slice q.a.D q.x.m.length q.a.d]] W (fun e w' => e = .returned (.bool (sameR p.x q.x)) ∧ Below W.heap.size W w')) := Lib.hid (fun W h1 h2 => impl_req3 p.x.p q.x.p p.x.l p.x.m q.x.l q.x.m p.a.A p.a.D q.a.A q.a.D p.x.l.length p.x.m.length q.x.l.length q.x.m.length p.a.c p.a.d q.a.c q.a.d W rfl rfl rfl rfl (by omega) (by omega) (by omega) (by omega) (rows_rd h1).1 (rows_rd h1).2 (rows_rd h2).1 (rows_rd h2).2)
      have HTJ := Lib.hid (rangeQ_succ _ _ hs)
      have HFJ : Hid (sameQ L M k = false → sameQL L M = false) := Lib.hid (fun h => by rw [HSQ.out]; exact rangeQ_no hlt h)
      rw [hse] at HTJ HFJ
      generalize sameR p.x q.x = r at SAME HTJ HFJ
      have hi0 : (0 : Int) ≤ (k : Int) := by omega
      have hi1 : (k : Int) < (n : Int) := by omega
      have HB := Lib.hid hb
      clear hp hq hb hs hse lp lu hA hD hS hS'
      cases r with
      | false =>
        have HR := Lib.hid (HFJ.out rfl)
        go_wp2_with fail
        have kb := ba2 wr (.cells #[.bool p.x.p, .slice p.a.A p.x.l.length p.a.c, .slice p.a.D p.x.m.length p.a.d] 45) (.cells #[.bool q.x.p, .slice q.a.A q.x.l.length q.a.c, .slice q.a.D q.x.m.length q.a.d] 45)
        generalize (wr.alloc (.cells #[.bool p.x.p, .slice p.a.A p.x.l.length p.a.c, .slice p.a.D p.x.m.length p.a.d] 45)).alloc (.cells #[.bool q.x.p, .slice q.a.A q.x.l.length q.a.c, .slice q.a.D q.x.m.length q.a.d] 45) = W1 at kb ⊢
        refine (SAME.out _ (R.out _ kb).1 (R.out _ kb).2).mono ?_
        rintro e W2 ⟨rfl, hb2⟩
        go_wp2
        go_ret
        exact ⟨by rw [HR.out]; rfl, bt HB.out (bt kb hb2)⟩
      | true =>
        go_wp2_with fail
        have kb := ba2 wr (.cells #[.bool p.x.p, .slice p.a.A p.x.l.length p.a.c, .slice p.a.D p.x.m.length p.a.d] 45) (.cells #[.bool q.x.p, .slice q.a.A q.x.l.length q.a.c, .slice q.a.D q.x.m.length q.a.d] 45)
        generalize (wr.alloc (.cells #[.bool p.x.p, .slice p.a.A p.x.l.length p.a.c, .slice p.a.D p.x.m.length p.a.d] 45)).alloc (.cells #[.bool q.x.p, .slice q.a.A q.x.l.length q.a.c, .slice q.a.D q.x.m.length q.a.d] 45) = W1 at kb ⊢
        refine (SAME.out _ (R.out _ kb).1 (R.out _ kb).2).mono ?_
        rintro e W2 ⟨rfl, hb2⟩
        go_wp2
        go_roundw
        case rel => exact ⟨k + 1, by omega, by go_num, HTJ.out, bt HB.out (bt kb hb2)⟩
        case measure => simp [intOf]; omega
    · obtain rfl : k = n := by omega
      have HR : Hid (sameQL L M = true) := Lib.hid (by rw [HSQ.out]; exact hs)
      clear hs
      go_wp2
      go_ret
      exact ⟨by rw [HR.out]; rfl, hb⟩
end Go.Proofs.Ytennekieiioilaa
