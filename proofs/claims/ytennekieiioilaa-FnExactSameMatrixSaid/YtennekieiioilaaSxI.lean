/-
  Equal matrices: the program.
-/
import Derived.Test.YtennekieiioilaaSxS
import Derived.Test.YtennekieiioilaaPbQ
namespace Go.Proofs.Ytennekieiioilaa
open Go.ChangeShapes Go.WideShapes Go.ChangeAt Go.RowKit
open Go.ChangeMaps (open_string shut_string)
set_option linter.unusedVariables false
set_option linter.unusedSimpArgs false
set_option maxRecDepth 4000

theorem colE (p q : MR) : decide (p.cs = q.cs) = (decide (p.cs.length = q.cs.length) && (List.range p.cs.length).all (colS p q)) := by
  rw [Bool.eq_iff_iff, Bool.and_eq_true, decide_eq_true_eq, decide_eq_true_eq, List.all_eq_true]
  constructor
  · intro h; exact ⟨by rw [h], fun i _ => by unfold colS; rw [h]; simp⟩
  · rintro ⟨h1, h2⟩
    apply List.ext_getElem? 
    intro i
    rcases Nat.lt_or_ge i p.cs.length with h | h
    · have k := h2 i (List.mem_range.2 h)
      unfold colS at k
      rw [List.getElem?_eq_getElem h, List.getElem?_eq_getElem (show i < q.cs.length by omega)] at k ⊢
      simpa using k
    · rw [List.getElem?_eq_none h, List.getElem?_eq_none (by omega)]
theorem rowE_I (p q : MR) : rowE p q = (decide (p.cs = q.cs) && sameQL p.V q.V) := by
  unfold rowE; rw [← colE, Bool.and_comm]
attribute [local go_sem ↓] Go.wp_at_zero Go.wp_at_succ
set_option maxHeartbeats 1000000 in
theorem rowEq_r (p q : MR) (w : World) (hp : ShortX p) (hq : ShortX q) (hA : Rds w (rmx p)) (hA' : Rds w (rmx q)) :
    Calls Try.prog 23 #[.agg #[.slice p.A p.cs.length p.c, .slice p.B p.V.length p.d], .agg #[.slice q.A q.cs.length q.c, .slice q.B q.V.length q.d]] w (fun e w' => e = .returned (.bool (rowE p q)) ∧ Below w.heap.size w w') := by
  have HE : Hid (∀ W, Below w.heap.size w W → Calls Try.prog 32 #[.slice p.A p.cs.length p.c, .slice q.A q.cs.length q.c] W (fun e w' => e = .returned (.bool (decide (p.cs = q.cs))) ∧ Below W.heap.size W w')) := Lib.hid (fun W hb => eqSl_all p.cs q.cs p.A q.A _ _ p.c q.c W rfl rfl (by have := hp.1; omega) (by have := hq.1; omega) (hA.hd.below hb) (hA'.hd.below hb))
  have HQ : Hid (∀ W, Below w.heap.size w W → Calls Try.prog 33 #[.slice p.B p.V.length p.d, .slice q.B q.V.length q.d, .func (.func 34) #[] #[]] W (fun e w' => e = .returned (.bool (sameQL p.V q.V)) ∧ Below W.heap.size W w')) := Lib.hid (fun W hb => eqFuncQ_r p.V q.V p.B q.B p.d q.d W hp.2.1 hq.2.1 hp.2.2 hq.2.2 (hA.tl.below hb) (hA'.tl.below hb))
  rw [rowE_I]
  clear hp hq hA hA'
  generalize decide (p.cs = q.cs) = b1 at HE ⊢
  generalize sameQL p.V q.V = b2 at HQ ⊢
  generalize p.cs.length = n1 at *
  generalize p.V.length = n2 at *
  generalize q.cs.length = n3 at *
  generalize q.V.length = n4 at *
  obtain ⟨P_p, P_q⟩ := blocks2 w (.cells #[.slice p.A n1 p.c, .slice p.B n2 p.d] 38) (.cells #[.slice q.A n3 q.c, .slice q.B n4 q.d] 38)
  have kb := ba2 w (.cells #[.slice p.A n1 p.c, .slice p.B n2 p.d] 38) (.cells #[.slice q.A n3 q.c, .slice q.B n4 q.d] 38)
  have p0 := rblk_cell P_p 0
  have q0 := rblk_cell P_q 0
  cases b1 with
  | false =>
    go_enter Try.func23, Try.ntmps23
    go_wp2_with fail
    clear p0 q0
    refine (HE.out _ kb).mono ?_
    rintro e W2 ⟨rfl, hb⟩
    go_wp2
    go_ret
    exact ⟨rfl, bt kb hb⟩
  | true =>
    go_enter Try.func23, Try.ntmps23
    go_wp2_with fail
    clear p0 q0
    generalize (w.alloc (.cells #[.slice p.A n1 p.c, .slice p.B n2 p.d] 38)).alloc (.cells #[.slice q.A n3 q.c, .slice q.B n4 q.d] 38) = W1 at kb P_p P_q ⊢
    refine (HE.out _ kb).mono ?_
    rintro e W2 ⟨rfl, hb⟩
    replace P_p := rblk_below P_p hb
    replace P_q := rblk_below P_q hb
    replace kb := bt kb hb
    clear hb
    have p1 := rblk_cell P_p 1
    have q1 := rblk_cell P_q 1
    go_wp2_with fail
    clear p1 q1
    refine (HQ.out _ kb).mono ?_
    rintro e W3 ⟨rfl, hb⟩
    go_wp2
    go_ret
    exact ⟨by simp, bt kb hb⟩
set_option maxHeartbeats 1000000 in
theorem eqFuncX_r (L M : List MR) (A D : Option Addr) (c d : Nat) (w : World) (hn : L.length ≤ 1048576) (hn' : M.length ≤ 1048576) (hS : ∀ p, p ∈ L → ShortX p) (hS' : ∀ p, p ∈ M → ShortX p) (hA : Rds w (srowX A L)) (hD : Rds w (srowX D M)) :
    Calls Try.prog 22 #[.slice A L.length c, .slice D M.length d, .func (.func 23) #[] #[]] w (fun e w' => e = .returned (.bool (sameX L M)) ∧ Below w.heap.size w w') := by
  by_cases hl : L.length = M.length
  case neg =>
    have HR : Hid (sameX L M = false) := Lib.hid (by unfold sameX; rw [decide_eq_false hl, Bool.false_and])
    have hne : ((L.length : Int) != (M.length : Int)) = true := by simp; omega
    clear hA hD hS hS' hl
    generalize L.length = n at *
    generalize M.length = m at *
    go_enter Try.func22, Try.ntmps22
    go_wp2
    go_ret
    exact ⟨by rw [HR.out]; rfl, Below.refl _ _⟩
  have HSQ : Hid (sameX L M = (List.range L.length).all (rowS L M)) := Lib.hid (by unfold sameX; rw [decide_eq_true hl, Bool.true_and])
  obtain ⟨n, hnn⟩ : ∃ n, n = L.length := ⟨_, rfl⟩
  have hnm : n = M.length := by rw [hnn, hl]
  rw [← hnm] at hn' ⊢
  rw [← hnn] at hn HSQ ⊢
  have HN := Lib.hid (And.intro hnn hnm)
  have hne : ((n : Int) != (n : Int)) = false := by simp
  clear hnn hnm hl
  go_enter Try.func22, Try.ntmps22
  go_wp2
  go_loopw [17] (fun i w' => ∃ k : Nat, k ≤ n ∧ i = .int .i64 (k : Int) ∧ (List.range k).all (rowS L M) = true ∧ Below w.heap.size w w') (fun i _ => n - (intOf i).toNat)
  case atStart => exact ⟨0, Nat.zero_le _, rfl, rfl, Below.refl _ _⟩
  case round =>
    obtain ⟨k, hk, rfl, hs, hb⟩ := hrel
    by_cases hlt : k < n
    · obtain ⟨p, hp⟩ := getX (L := L) (i := k) (by rw [← HN.out.1]; exact hlt)
      obtain ⟨q, hq⟩ := getX (L := M) (i := k) (by rw [← HN.out.2]; exact hlt)
      obtain ⟨g, o, rfl, _, c0, c1⟩ := (hA.hd.below hb).two hp
      obtain ⟨g', o', rfl, _, d0, d1⟩ := (hD.hd.below hb).two hq
      have lp := hS p (List.mem_of_getElem? hp)
      have lu := hS' q (List.mem_of_getElem? hq)
      have hse : rowS L M k = rowE p q := by unfold rowS; rw [hp, hq]
      have SAME : Hid (∀ W, Below wr.heap.size wr W → Calls Try.prog 23 #[.agg #[.slice p.A p.cs.length p.c, .slice p.B p.V.length p.d], .agg #[.slice q.A q.cs.length q.c, .slice q.B q.V.length q.d]] W (fun e w' => e = .returned (.bool (rowE p q)) ∧ Below W.heap.size W w')) := Lib.hid (fun W hB => rowEq_r p q W lp lu (((hA.tl.below hb).atX hp).below hB) (((hD.tl.below hb).atX hq).below hB))
      have HTJ := Lib.hid (rangeQ_succ _ _ hs)
      have HFJ : Hid (rowS L M k = false → sameX L M = false) := Lib.hid (fun h => by rw [HSQ.out]; exact rangeQ_no hlt h)
      rw [hse] at HTJ HFJ
      generalize rowE p q = r at SAME HTJ HFJ
      generalize p.cs.length = n1 at SAME c0
      generalize p.V.length = n2 at SAME c1
      generalize q.cs.length = n3 at SAME d0
      generalize q.V.length = n4 at SAME d1
      have hi0 : (0 : Int) ≤ (k : Int) := by omega
      have hi1 : (k : Int) < (n : Int) := by omega
      have HB := Lib.hid hb
      clear hp hq hb hs hse lp lu hA hD hS hS'
      cases r with
      | false =>
        have HR := Lib.hid (HFJ.out rfl)
        go_wp2_with fail
        have kb := ba2 wr (.cells #[.slice p.A n1 p.c, .slice p.B n2 p.d] 38) (.cells #[.slice q.A n3 q.c, .slice q.B n4 q.d] 38)
        generalize (wr.alloc (.cells #[.slice p.A n1 p.c, .slice p.B n2 p.d] 38)).alloc (.cells #[.slice q.A n3 q.c, .slice q.B n4 q.d] 38) = W1 at kb ⊢
        refine (SAME.out _ kb).mono ?_
        rintro e W2 ⟨rfl, hb2⟩
        go_wp2
        go_ret
        exact ⟨by rw [HR.out]; rfl, bt HB.out (bt kb hb2)⟩
      | true =>
        go_wp2_with fail
        have kb := ba2 wr (.cells #[.slice p.A n1 p.c, .slice p.B n2 p.d] 38) (.cells #[.slice q.A n3 q.c, .slice q.B n4 q.d] 38)
        generalize (wr.alloc (.cells #[.slice p.A n1 p.c, .slice p.B n2 p.d] 38)).alloc (.cells #[.slice q.A n3 q.c, .slice q.B n4 q.d] 38) = W1 at kb ⊢
        refine (SAME.out _ kb).mono ?_
        rintro e W2 ⟨rfl, hb2⟩
        go_wp2
        go_roundw
        case rel => exact ⟨k + 1, by omega, by go_num, HTJ.out, bt HB.out (bt kb hb2)⟩
        case measure => simp [intOf]; omega
    · obtain rfl : k = n := by omega
      have HR : Hid (sameX L M = true) := Lib.hid (by rw [HSQ.out]; exact hs)
      clear hs
      go_wp2
      go_ret
      exact ⟨by rw [HR.out]; rfl, hb⟩
set_option maxHeartbeats 1000000 in
theorem impl_sameX (L M : List MR) (A D : Option Addr) (c d : Nat) (w : World) (hn : L.length ≤ 1048576) (hL : ∀ p, p ∈ L → ShortX p) (hA : RdS w A (flatX L)) (hR : Rds w (lrowX L)) (hn' : M.length ≤ 1048576) (hL' : ∀ p, p ∈ M → ShortX p) (hA' : RdS w D (flatX M)) (hR' : Rds w (lrowX M)) :
    Calls Try.prog 11 #[.agg #[.slice A L.length c], .agg #[.slice D M.length d]] w (fun e w' => e = .returned (.bool (sameX L M)) ∧ Below w.heap.size w w') := by
  have HE : Hid (∀ W, Below w.heap.size w W → Calls Try.prog 22 #[.slice A L.length c, .slice D M.length d, .func (.func 23) #[] #[]] W (fun e w' => e = .returned (.bool (sameX L M)) ∧ Below W.heap.size W w')) := Lib.hid (fun W hb => eqFuncX_r L M A D c d W hn hn' hL hL' (Rds.cons (hA.below hb) (hR.below hb)) (Rds.cons (hA'.below hb) (hR'.below hb)))
  generalize sameX L M = b at HE ⊢
  clear hA hR hA' hR' hL hL' hn hn'
  generalize L.length = n at *
  generalize M.length = m at *
  obtain ⟨P_a, P_b⟩ := blocks2 w (.cells #[.slice A n c] 29) (.cells #[.slice D m d] 29)
  have kb := ba2 w (.cells #[.slice A n c] 29) (.cells #[.slice D m d] 29)
  have a0 := rblk_cell P_a 0
  have b0 := rblk_cell P_b 0
  go_enter Try.func11, Try.ntmps11
  go_wp2_with fail
  clear a0 b0
  refine (HE.out _ kb).mono ?_
  rintro e w2 ⟨rfl, hb⟩
  go_wp2
  go_ret
  exact ⟨rfl, bt kb hb⟩
end Go.Proofs.Ytennekieiioilaa
