/-
  Fractions of the program and of the model: 'RatMake', 'RatOf', 'RatFromInt'.
-/
import Derived.Test.YtennekieiioilaaGreatPkH
import Derived.Test.YtennekieiioilaaGreatPkD
import Derived.Test.YtennekieiioilaaGreatShelf
namespace Go.Proofs.YtennekieiioilaaGreat
open Go.ChangeShapes Go.WideShapes Go.ChangeAt Go.RowKit
open Go.ChangeMaps (open_string shut_string)
set_option linter.unusedVariables false
set_option linter.unusedSimpArgs false
set_option maxRecDepth 4000

attribute [local go_sem ↓] Go.wp_at_zero Go.wp_at_succ

/-- What 'RatMake' answers. -/
def makQ (p : Bool) (l : List Int) (q : Bool) (l' : List Int) : Option Rat := if okB p l && okB q l' then lowQ (!(p == q)) (val l) (val l') else none
theorem makQ_no {p q : Bool} {l l' : List Int} (h : (okB p l && okB q l') = false) : makQ p l q l' = none := by unfold makQ; rw [h]; rfl
theorem makQ_yes {x y : Int} (h : ln x.natAbs ≤ 60) (h' : ln y.natAbs ≤ 60) : makQ (zn x) (zm x) (zn y) (zm y) = lowQ (!(zn x == zn y)) x.natAbs y.natAbs := by
  unfold makQ
  rw [okB_mk h, okB_mk h', val_zm, val_zm]
  rfl
theorem lowQ_fit {s : Bool} {a b : Nat} {t : Rat} (h : lowQ s a b = some t) : Fit t := by
  unfold lowQ at h
  split at h
  · cases h
  · exact cutQ_fit h
theorem makQ_len (p q : Bool) (l l' : List Int) : (ql (makQ p l q l')).length ≤ 1048576 ∧ (qd (makQ p l q l')).length ≤ 1048576 := by
  refine len2 fun t ht => ?_
  unfold makQ at ht
  split at ht
  · exact lowQ_fit ht
  · cases ht

/-- What 'RatOf' answers. -/
def ofQ (x y : Int) : Option Rat := makQ (zn x) (zm x) (zn y) (zm y)
end Go.Proofs.YtennekieiioilaaGreat

namespace Go.Proofs.YtennekieiioilaaGreat
open Go.ChangeShapes Go.WideShapes Go.ChangeAt Go.RowKit
open Go.ChangeMaps (open_string shut_string)
set_option linter.unusedVariables false
set_option linter.unusedSimpArgs false
set_option maxRecDepth 4000

attribute [local go_sem ↓] Go.wp_at_zero Go.wp_at_succ

set_option maxHeartbeats 1000000 in
theorem impl_rfi (x : Int) (w : World) (h0 : -9223372036854775808 ≤ x ∧ x ≤ 9223372036854775807) :
    Calls Tryz.prog 59 #[.int .i64 x] w (MadeR w.heap.size (zn x) (zm x) (nd 1) w) := by
  have B1 := Lib.hid (fun W => impl_bof x W h0.1 h0.2)
  unfold MadeZ MadeB at B1
  have B2 := Lib.hid (fun W => show Calls Tryz.prog 83 #[.int .i64 1] W (MadeI W.heap.size (nd 1) W) from impl_natOf_int 1 W (by decide))
  generalize nd 1 = M at B2 ⊢
  generalize zm x = L at *
  generalize zn x = sg at *
  clear h0
  go_enter Tryz.func59, Tryz.ntmps59
  go_wp2_with fail
  have kb := ba1 w (.cells #[.bool false, .slice none 0 0, .slice none 0 0] 30)
  have P_o := heap_alloc_new w (.cells #[.bool false, .slice none 0 0, .slice none 0 0] 30)
  generalize w.alloc (.cells #[.bool false, .slice none 0 0, .slice none 0 0] 30) = W1 at kb P_o ⊢
  have hlo := rblk_lt P_o
  refine (B1.out _).mono ?_
  rintro e W2 ⟨A1, c1, rfl, hc1, o1, hb⟩
  replace P_o := rblk_below P_o hb
  replace kb := bt kb hb
  clear hb
  go_wp2_with fail
  have hlp := rblk_lt P_o
  have i1 := o1.inR (vi_length L)
  refine (B2.out _).mono ?_
  rintro e W3 ⟨A2, c2, rfl, hc2, o2, hb⟩
  replace P_o := rblk_below P_o hb
  replace o1 := o1.below hb
  replace kb := bt kb hb
  clear hb
  have hap := i1.apart (o2.inR (vi_length M)) (.inl (Nat.le_refl _))
  have c_o0 : W3.cell? ⟨w.heap.size, 0, none⟩ = some (.bool false) := rblk_cell P_o 0
  have c_o1 : W3.cell? ⟨w.heap.size, 1, none⟩ = some (.slice none 0 0) := rblk_cell P_o 1
  have c_o2 : W3.cell? ⟨w.heap.size, 2, none⟩ = some (.slice none 0 0) := rblk_cell P_o 2
  have f_o0 := rblk_free P_o 0
  have f_o1 := rblk_free P_o 1
  have f_o2 := rblk_free P_o 2
  go_wp2
  exact bodyPost_ret (v := .agg #[.bool sg, .slice A1 L.length c1, .slice A2 M.length c2]) (by simp [results, Tryz.results59, go_sem, c_o0, c_o1, c_o2]) rfl ⟨A1, c1, A2, c2, rfl, hc1, hc2, (own_put3 o1 hlo _ _ _).more (Nat.le_of_lt hlo), (own_put3 o2 hlp _ _ _).more (Nat.le_of_lt hlp), hap, below_put3 kb (Nat.le_refl _) _ _ _⟩

theorem own_u {w : World} {g : Nat} {T : TypeId} {x : Int} (P : w.heap[g]? = some (.cells #[.int .i64 x] T (0, 0))) : OwnS g w (some ⟨g, 0, none⟩) (vi [x]) :=
  .inr ⟨g, rfl, Nat.le_refl _, rblk_lt P, fun j hj => by
    have hj' : j = 0 := by simp [vi] at hj; exact hj
    subst hj'
    rw [rblk_cell P 0]
    rfl, fun j hj => rblk_free P j⟩
theorem own_u3 {W : World} {g : Nat} {T : TypeId} {x : Int} (u0 u1 u2 : Value) : OwnS W.heap.size ((((W.setCell ⟨g, 0, none⟩ u0).setCell ⟨g, 1, none⟩ u1).setCell ⟨g, 2, none⟩ u2).alloc (.cells #[.int .i64 x] T)) (some ⟨W.heap.size, 0, none⟩) (vi [x]) := by
  have h := heap_alloc_new (((W.setCell ⟨g, 0, none⟩ u0).setCell ⟨g, 1, none⟩ u1).setCell ⟨g, 2, none⟩ u2) (.cells #[.int .i64 x] T)
  rw [put_size, put_size, put_size] at h
  exact own_u h
set_option maxHeartbeats 1000000 in
theorem spec_rfi (x : Int) (w : World) (h0 : -9223372036854775808 ≤ x ∧ x ≤ 9223372036854775807) :
    Calls Tryz.prog 53 #[.int .i64 x] w (MadeR w.heap.size (zn x) (zm x) (nd 1) w) := by
  have B1 := Lib.hid (fun W => spec_bof x W h0.1 h0.2)
  unfold MadeZ MadeB at B1
  rw [nd_one]
  generalize zm x = L at *
  generalize zn x = sg at *
  clear h0
  go_enter Tryz.func53, Tryz.ntmps53
  go_wp2_with fail
  have kb := ba1 w (.cells #[.bool false, .slice none 0 0, .slice none 0 0] 30)
  have P_o := heap_alloc_new w (.cells #[.bool false, .slice none 0 0, .slice none 0 0] 30)
  generalize w.alloc (.cells #[.bool false, .slice none 0 0, .slice none 0 0] 30) = W1 at kb P_o ⊢
  have hlo := rblk_lt P_o
  refine (B1.out _).mono ?_
  rintro e W2 ⟨A1, c1, rfl, hc1, o1, hb⟩
  replace P_o := rblk_below P_o hb
  replace kb := bt kb hb
  clear hb
  have hlp := rblk_lt P_o
  have i1 := o1.inR (vi_length L)
  have d_o0 : W2.cell? ⟨w.heap.size, 0, none⟩ = some (.bool false) := rblk_cell P_o 0
  have d_o1 : W2.cell? ⟨w.heap.size, 1, none⟩ = some (.slice none 0 0) := rblk_cell P_o 1
  have d_o2 : W2.cell? ⟨w.heap.size, 2, none⟩ = some (.slice none 0 0) := rblk_cell P_o 2
  have e_o0 := rblk_free P_o 0
  have e_o1 := rblk_free P_o 1
  have e_o2 := rblk_free P_o 2
  have x0 : Hid (((((W2.setCell ⟨w.heap.size, 0, none⟩ (.bool sg)).setCell ⟨w.heap.size, 1, none⟩ (.slice A1 L.length c1)).setCell ⟨w.heap.size, 2, none⟩ (.slice (some ⟨W2.heap.size, 0, none⟩) 1 1)).alloc (.cells #[.int .i64 1] 3)).cell? ⟨w.heap.size, 0, none⟩ = some (.bool sg)) := Lib.hid (rblk_cell (rblk_below (rblk_set (rblk_set (rblk_set P_o 0 (.bool sg)) 1 (.slice A1 L.length c1)) 2 (.slice (some ⟨W2.heap.size, 0, none⟩) 1 1)) (ba1 _ (.cells #[.int .i64 1] 3))) 0)
  have x1 : Hid (((((W2.setCell ⟨w.heap.size, 0, none⟩ (.bool sg)).setCell ⟨w.heap.size, 1, none⟩ (.slice A1 L.length c1)).setCell ⟨w.heap.size, 2, none⟩ (.slice (some ⟨W2.heap.size, 0, none⟩) 1 1)).alloc (.cells #[.int .i64 1] 3)).cell? ⟨w.heap.size, 1, none⟩ = some (.slice A1 L.length c1)) := Lib.hid (rblk_cell (rblk_below (rblk_set (rblk_set (rblk_set P_o 0 (.bool sg)) 1 (.slice A1 L.length c1)) 2 (.slice (some ⟨W2.heap.size, 0, none⟩) 1 1)) (ba1 _ (.cells #[.int .i64 1] 3))) 1)
  have x2 : Hid (((((W2.setCell ⟨w.heap.size, 0, none⟩ (.bool sg)).setCell ⟨w.heap.size, 1, none⟩ (.slice A1 L.length c1)).setCell ⟨w.heap.size, 2, none⟩ (.slice (some ⟨W2.heap.size, 0, none⟩) 1 1)).alloc (.cells #[.int .i64 1] 3)).cell? ⟨w.heap.size, 2, none⟩ = some (.slice (some ⟨W2.heap.size, 0, none⟩) 1 1)) := Lib.hid (rblk_cell (rblk_below (rblk_set (rblk_set (rblk_set P_o 0 (.bool sg)) 1 (.slice A1 L.length c1)) 2 (.slice (some ⟨W2.heap.size, 0, none⟩) 1 1)) (ba1 _ (.cells #[.int .i64 1] 3))) 2)
  go_wp2
  exact bodyPost_ret (v := .agg #[.bool sg, .slice A1 L.length c1, .slice (some ⟨W2.heap.size, 0, none⟩) 1 1]) (by simp [results, Tryz.results53, go_sem, x0.out, x1.out, x2.out]) rfl ⟨A1, c1, some ⟨W2.heap.size, 0, none⟩, 1, rfl, hc1, Nat.le_refl _, ((own_put3 o1 hlo _ _ _).below (ba1 _ _)).more (Nat.le_of_lt hlo), (own_u3 _ _ _).more (Nat.le_of_lt hlp), i1.apart ((own_u3 (g := w.heap.size) (W := W2) (T := 3) (x := 1) (.bool false) (.bool false) (.bool false)).inR (n := 1) rfl) (.inl (Nat.le_refl _)), bt (below_put3 kb (Nat.le_refl _) _ _ _) (ba1 _ _)⟩

set_option maxHeartbeats 800000 in
theorem list_any (l m : List Int) (A D : Option Addr) (n n' c d : Nat) (w : World) (hl : l.length = n) (hm : m.length = n') (hn : n ≤ 4611686018427387904) (hn' : n' ≤ 4611686018427387904)
    (hA : RdS w A (vi l)) (hD : RdS w D (vi m)) :
    Calls Tryz.prog 74 #[.slice A n c, .slice D n' d] w fun e w' => e = .returned (.bool (decide (l = m))) ∧ Below w.heap.size w w' := by
  have HL := Lib.hid hl
  have HM := Lib.hid hm
  clear hl hm
  by_cases hne : n = n'
  · subst hne
    go_enter Tryz.func74, Tryz.ntmps74
    go_wp2
    go_loopw [13] (fun i w' => ∃ k : Nat, k ≤ n ∧ i = .int .i64 k ∧ AgI l m k ∧ Below w.heap.size w w') (fun i _ => n - (intOf i).toNat)
    case atStart => exact ⟨0, Nat.zero_le _, rfl, AgI.zero _ _, Below.refl _ _⟩
    case round =>
      obtain ⟨k, hk, rfl, hag0, hb⟩ := hrel
      have hag := Lib.hid hag0
      clear hag0
      by_cases hlt : k < n
      · have hs0 : l[k]? = some (l[k]'(by rw [HL.out]; exact hlt)) := List.getElem?_eq_getElem _
        have ht0 : m[k]? = some (m[k]'(by rw [HM.out]; exact hlt)) := List.getElem?_eq_getElem _
        obtain ⟨b1, o1, rfl, hb1, e1⟩ := (hA.below hb).int hs0
        obtain ⟨b2, o2, rfl, hb2, e2⟩ := (hD.below hb).int ht0
        have hi0 : (0 : Int) ≤ (k : Int) := by omega
        have hi1 : (k : Int) < (n : Int) := by omega
        generalize l[k]'(by rw [HL.out]; exact hlt) = s at e1 hs0
        generalize m[k]'(by rw [HM.out]; exact hlt) = t at e2 ht0
        have Hs := Lib.hid hs0
        have Ht := Lib.hid ht0
        clear hs0 ht0
        by_cases hst : s = t
        · subst hst
          go_wp2
          go_quiet (fail)
          go_wp2
          go_roundw
          case rel => exact ⟨k + 1, by omega, by go_num, hag.out.succ (by rw [Hs.out, Ht.out]), below_drewN hb _⟩
          case measure => simp [intOf]; omega
        · have q : (s != t) = true := by rw [bne_iff_ne]; exact hst
          have Hf : Hid (decide (l = m) = false) := by
            refine Lib.hid (decide_eq_false (fun h => hst ?_))
            have h1 := Hs.out
            rw [h, Ht.out] at h1
            injection h1 with h1
            exact h1.symm
          clear hst
          go_wp2
          go_quiet (fail)
          go_wp2
          go_ret
          exact ⟨ret_bool' (by rw [Hf.out]), below_drewN hb _⟩
      · obtain rfl : k = n := by omega
        have Hf : Hid (decide (l = m) = true) := by
          refine Lib.hid (decide_eq_true (AgI.all ?_ (by rw [HL.out, HM.out])))
          rw [HL.out]; exact hag.out
        go_wp2
        go_ret
        exact ⟨ret_bool' (by rw [Hf.out]), hb⟩
  · have Hf : Hid (decide (l = m) = false) := Lib.hid (decide_eq_false (fun h => hne (by rw [← HL.out, ← HM.out, h])))
    have q : ((n : Int) != (n' : Int)) = true := by rw [bne_iff_ne]; omega
    go_enter Tryz.func74, Tryz.ntmps74
    go_wp2
    go_ret
    exact ⟨ret_bool' (by rw [Hf.out]), Below.refl _ _⟩

set_option maxHeartbeats 1000000 in
/-- 'slices.Equal' over integers, wherever its rows begin. -/
theorem eqSl_all (l m : List Int) (A D : Option Addr) (n n' c d : Nat) (w : World) (hl : l.length = n) (hm : m.length = n') (hn : n ≤ 4611686018427387904) (hn' : n' ≤ 4611686018427387904)
    (hA : RdS w A (vi l)) (hD : RdS w D (vi m)) :
    Calls Tryz.prog 100 #[.slice A n c, .slice D n' d] w fun e w' => e = .returned (.bool (decide (l = m))) ∧ Below w.heap.size w w' := by
  have HL := Lib.hid hl
  have HM := Lib.hid hm
  clear hl hm
  by_cases hne : n = n'
  · subst hne
    go_enter Tryz.func100, Tryz.ntmps100
    go_wp2
    go_loopw [13] (fun i w' => ∃ k : Nat, k ≤ n ∧ i = .int .i64 k ∧ AgI l m k ∧ Below w.heap.size w w') (fun i _ => n - (intOf i).toNat)
    case atStart => exact ⟨0, Nat.zero_le _, rfl, AgI.zero _ _, Below.refl _ _⟩
    case round =>
      obtain ⟨k, hk, rfl, hag0, hb⟩ := hrel
      have hag := Lib.hid hag0
      clear hag0
      by_cases hlt : k < n
      · have hs0 : l[k]? = some (l[k]'(by rw [HL.out]; exact hlt)) := List.getElem?_eq_getElem _
        have ht0 : m[k]? = some (m[k]'(by rw [HM.out]; exact hlt)) := List.getElem?_eq_getElem _
        obtain ⟨b1, o1, rfl, hb1, e1⟩ := (hA.below hb).int hs0
        obtain ⟨b2, o2, rfl, hb2, e2⟩ := (hD.below hb).int ht0
        have hi0 : (0 : Int) ≤ (k : Int) := by omega
        have hi1 : (k : Int) < (n : Int) := by omega
        generalize l[k]'(by rw [HL.out]; exact hlt) = s at e1 hs0
        generalize m[k]'(by rw [HM.out]; exact hlt) = t at e2 ht0
        have Hs := Lib.hid hs0
        have Ht := Lib.hid ht0
        clear hs0 ht0
        by_cases hst : s = t
        · subst hst
          go_wp2
          go_quiet (fail)
          go_wp2
          go_roundw
          case rel => exact ⟨k + 1, by omega, by go_num, hag.out.succ (by rw [Hs.out, Ht.out]), below_drewN hb _⟩
          case measure => simp [intOf]; omega
        · have q : (s != t) = true := by rw [bne_iff_ne]; exact hst
          have Hf : Hid (decide (l = m) = false) := by
            refine Lib.hid (decide_eq_false (fun h => hst ?_))
            have h1 := Hs.out
            rw [h, Ht.out] at h1
            injection h1 with h1
            exact h1.symm
          clear hst
          go_wp2
          go_quiet (fail)
          go_wp2
          go_ret
          exact ⟨ret_bool' (by rw [Hf.out]), below_drewN hb _⟩
      · obtain rfl : k = n := by omega
        have Hf : Hid (decide (l = m) = true) := by
          refine Lib.hid (decide_eq_true (AgI.all ?_ (by rw [HL.out, HM.out])))
          rw [HL.out]; exact hag.out
        go_wp2
        go_ret
        exact ⟨ret_bool' (by rw [Hf.out]), hb⟩
  · have Hf : Hid (decide (l = m) = false) := Lib.hid (decide_eq_false (fun h => hne (by rw [← HL.out, ← HM.out, h])))
    have q : ((n : Int) != (n' : Int)) = true := by rw [bne_iff_ne]; omega
    go_enter Tryz.func100, Tryz.ntmps100
    go_wp2
    go_ret
    exact ⟨ret_bool' (by rw [Hf.out]), Below.refl _ _⟩
set_option maxHeartbeats 1000000 in
theorem spec_req_p (pr ps : Bool) (l m l' m' : List Int) (A D A' D' : Option Addr) (n k n' k' c d c' d' : Nat) (w : World) (hl : l.length = n) (hm : m.length = k) (hl' : l'.length = n') (hm' : m'.length = k')
    (hn : n ≤ 4611686018427387904) (hk : k ≤ 4611686018427387904) (hn' : n' ≤ 4611686018427387904) (hk' : k' ≤ 4611686018427387904)
    (hA : RdS w A (vi l)) (hD : RdS w D (vi m)) (hA' : RdS w A' (vi l')) (hD' : RdS w D' (vi m')) (h1 : (pr == ps) = false) :
    Calls Tryz.prog 47 #[.agg #[.bool pr, .slice A n c, .slice D k d], .agg #[.bool ps, .slice A' n' c', .slice D' k' d']] w fun e w' => e = .returned (.bool false) ∧ Below w.heap.size w w' := by
  clear hl hm hl' hm' hn hk hn' hk' hA hD hA' hD'
  go_enter Tryz.func47, Tryz.ntmps47
  go_wp2
  go_ret
  exact ⟨rfl, ba2 _ _ _⟩

set_option maxHeartbeats 1000000 in
theorem spec_req_l (pr ps : Bool) (l m l' m' : List Int) (A D A' D' : Option Addr) (n k n' k' c d c' d' : Nat) (w : World) (hl : l.length = n) (hm : m.length = k) (hl' : l'.length = n') (hm' : m'.length = k')
    (hn : n ≤ 4611686018427387904) (hk : k ≤ 4611686018427387904) (hn' : n' ≤ 4611686018427387904) (hk' : k' ≤ 4611686018427387904)
    (hA : RdS w A (vi l)) (hD : RdS w D (vi m)) (hA' : RdS w A' (vi l')) (hD' : RdS w D' (vi m')) (h1 : (pr == ps) = true) (h2 : decide (l = l') = false) :
    Calls Tryz.prog 47 #[.agg #[.bool pr, .slice A n c, .slice D k d], .agg #[.bool ps, .slice A' n' c', .slice D' k' d']] w fun e w' => e = .returned (.bool false) ∧ Below w.heap.size w w' := by
  have E1 := Lib.hid (fun W a b => list_any l l' A A' n n' c c' W hl hl' hn hn' a b)
  have E2 := Lib.hid (fun W a b => list_any m m' D D' k k' d d' W hm hm' hk hk' a b)
  rw [h2] at E1
  have RR : Hid (∀ W, Below w.heap.size w W → RdS W A (vi l) ∧ RdS W D (vi m) ∧ RdS W A' (vi l') ∧ RdS W D' (vi m')) := Lib.hid (fun W hb => ⟨hA.below hb, hD.below hb, hA'.below hb, hD'.below hb⟩)
  clear E2 h2 hl hm hl' hm' hn hk hn' hk' hA hD hA' hD'
  go_enter Tryz.func47, Tryz.ntmps47
  go_wp2_with fail
  have kb := ba2 w (.cells #[.bool pr, .slice A n c, .slice D k d] 30) (.cells #[.bool ps, .slice A' n' c', .slice D' k' d'] 30)
  obtain ⟨P_r, P_s⟩ := blocks2 w (.cells #[.bool pr, .slice A n c, .slice D k d] 30) (.cells #[.bool ps, .slice A' n' c', .slice D' k' d'] 30)
  generalize (w.alloc (.cells #[.bool pr, .slice A n c, .slice D k d] 30)).alloc (.cells #[.bool ps, .slice A' n' c', .slice D' k' d'] 30) = W1 at kb P_r P_s ⊢
  refine (E1.out _ (RR.out _ kb).1 (RR.out _ kb).2.2.1).mono ?_
  rintro e W2 ⟨rfl, hb⟩
  replace P_r := rblk_below P_r hb
  replace P_s := rblk_below P_s hb
  replace kb := bt kb hb
  clear hb
  have c_r0 : W2.cell? ⟨w.heap.size, 0, none⟩ = some (.bool pr) := rblk_cell P_r 0
  have c_r1 : W2.cell? ⟨w.heap.size, 1, none⟩ = some (.slice A n c) := rblk_cell P_r 1
  have c_r2 : W2.cell? ⟨w.heap.size, 2, none⟩ = some (.slice D k d) := rblk_cell P_r 2
  have c_s0 : W2.cell? ⟨w.heap.size + 1, 0, none⟩ = some (.bool ps) := rblk_cell P_s 0
  have c_s1 : W2.cell? ⟨w.heap.size + 1, 1, none⟩ = some (.slice A' n' c') := rblk_cell P_s 1
  have c_s2 : W2.cell? ⟨w.heap.size + 1, 2, none⟩ = some (.slice D' k' d') := rblk_cell P_s 2
  go_wp2
  go_ret
  exact ⟨rfl, kb⟩

set_option maxHeartbeats 1000000 in
theorem spec_req_m (pr ps : Bool) (l m l' m' : List Int) (A D A' D' : Option Addr) (n k n' k' c d c' d' : Nat) (w : World) (hl : l.length = n) (hm : m.length = k) (hl' : l'.length = n') (hm' : m'.length = k')
    (hn : n ≤ 4611686018427387904) (hk : k ≤ 4611686018427387904) (hn' : n' ≤ 4611686018427387904) (hk' : k' ≤ 4611686018427387904)
    (hA : RdS w A (vi l)) (hD : RdS w D (vi m)) (hA' : RdS w A' (vi l')) (hD' : RdS w D' (vi m')) (h1 : (pr == ps) = true) (h2 : decide (l = l') = true) :
    Calls Tryz.prog 47 #[.agg #[.bool pr, .slice A n c, .slice D k d], .agg #[.bool ps, .slice A' n' c', .slice D' k' d']] w fun e w' => e = .returned (.bool (decide (m = m'))) ∧ Below w.heap.size w w' := by
  have E1 := Lib.hid (fun W a b => list_any l l' A A' n n' c c' W hl hl' hn hn' a b)
  have E2 := Lib.hid (fun W a b => list_any m m' D D' k k' d d' W hm hm' hk hk' a b)
  rw [h2] at E1
  have RR : Hid (∀ W, Below w.heap.size w W → RdS W A (vi l) ∧ RdS W D (vi m) ∧ RdS W A' (vi l') ∧ RdS W D' (vi m')) := Lib.hid (fun W hb => ⟨hA.below hb, hD.below hb, hA'.below hb, hD'.below hb⟩)
  clear h2 hl hm hl' hm' hn hk hn' hk' hA hD hA' hD'
  generalize decide (m = m') = v at E2 ⊢
  go_enter Tryz.func47, Tryz.ntmps47
  go_wp2_with fail
  have kb := ba2 w (.cells #[.bool pr, .slice A n c, .slice D k d] 30) (.cells #[.bool ps, .slice A' n' c', .slice D' k' d'] 30)
  obtain ⟨P_r, P_s⟩ := blocks2 w (.cells #[.bool pr, .slice A n c, .slice D k d] 30) (.cells #[.bool ps, .slice A' n' c', .slice D' k' d'] 30)
  generalize (w.alloc (.cells #[.bool pr, .slice A n c, .slice D k d] 30)).alloc (.cells #[.bool ps, .slice A' n' c', .slice D' k' d'] 30) = W1 at kb P_r P_s ⊢
  refine (E1.out _ (RR.out _ kb).1 (RR.out _ kb).2.2.1).mono ?_
  rintro e W2 ⟨rfl, hb⟩
  replace P_r := rblk_below P_r hb
  replace P_s := rblk_below P_s hb
  replace kb := bt kb hb
  clear hb
  have c_r0 : W2.cell? ⟨w.heap.size, 0, none⟩ = some (.bool pr) := rblk_cell P_r 0
  have c_r1 : W2.cell? ⟨w.heap.size, 1, none⟩ = some (.slice A n c) := rblk_cell P_r 1
  have c_r2 : W2.cell? ⟨w.heap.size, 2, none⟩ = some (.slice D k d) := rblk_cell P_r 2
  have c_s0 : W2.cell? ⟨w.heap.size + 1, 0, none⟩ = some (.bool ps) := rblk_cell P_s 0
  have c_s1 : W2.cell? ⟨w.heap.size + 1, 1, none⟩ = some (.slice A' n' c') := rblk_cell P_s 1
  have c_s2 : W2.cell? ⟨w.heap.size + 1, 2, none⟩ = some (.slice D' k' d') := rblk_cell P_s 2
  go_wp2_with fail
  clear c_r0 c_r1 c_r2 c_s0 c_s1 c_s2
  refine (E2.out _ (RR.out _ kb).2.1 (RR.out _ kb).2.2.2).mono ?_
  rintro e W3 ⟨rfl, hb⟩
  replace P_r := rblk_below P_r hb
  replace P_s := rblk_below P_s hb
  replace kb := bt kb hb
  clear hb
  go_wp2
  go_ret
  exact ⟨rfl, kb⟩

theorem spec_req (pr ps : Bool) (l m l' m' : List Int) (A D A' D' : Option Addr) (n k n' k' c d c' d' : Nat) (w : World) (hl : l.length = n) (hm : m.length = k) (hl' : l'.length = n') (hm' : m'.length = k')
    (hn : n ≤ 4611686018427387904) (hk : k ≤ 4611686018427387904) (hn' : n' ≤ 4611686018427387904) (hk' : k' ≤ 4611686018427387904)
    (hA : RdS w A (vi l)) (hD : RdS w D (vi m)) (hA' : RdS w A' (vi l')) (hD' : RdS w D' (vi m')) :
    Calls Tryz.prog 47 #[.agg #[.bool pr, .slice A n c, .slice D k d], .agg #[.bool ps, .slice A' n' c', .slice D' k' d']] w fun e w' => e = .returned (.bool (decide (pr = ps) && decide (l = l') && decide (m = m'))) ∧ Below w.heap.size w w' := by
  by_cases h1 : (pr == ps) = true
  · have h1' : decide (pr = ps) = true := by simpa using h1
    rw [h1', Bool.true_and]
    by_cases h2 : decide (l = l') = true
    · rw [h2, Bool.true_and]
      exact spec_req_m pr ps l m l' m' A D A' D' n k n' k' c d c' d' w hl hm hl' hm' hn hk hn' hk' hA hD hA' hD' h1 h2
    · have h2' : decide (l = l') = false := by simpa using h2
      rw [h2', Bool.false_and]
      exact spec_req_l pr ps l m l' m' A D A' D' n k n' k' c d c' d' w hl hm hl' hm' hn hk hn' hk' hA hD hA' hD' h1 h2'
  · have h1' : (pr == ps) = false := by simpa using h1
    have h1'' : decide (pr = ps) = false := by simpa using h1
    rw [h1'', Bool.false_and, Bool.false_and]
    exact spec_req_p pr ps l m l' m' A D A' D' n k n' k' c d c' d' w hl hm hl' hm' hn hk hn' hk' hA hD hA' hD' h1'

set_option maxHeartbeats 1000000 in
theorem impl_req_p (pr ps : Bool) (l m l' m' : List Int) (A D A' D' : Option Addr) (n k n' k' c d c' d' : Nat) (w : World) (hl : l.length = n) (hm : m.length = k) (hl' : l'.length = n') (hm' : m'.length = k')
    (hn : n ≤ 4611686018427387904) (hk : k ≤ 4611686018427387904) (hn' : n' ≤ 4611686018427387904) (hk' : k' ≤ 4611686018427387904)
    (hA : RdS w A (vi l)) (hD : RdS w D (vi m)) (hA' : RdS w A' (vi l')) (hD' : RdS w D' (vi m')) (h1 : (pr == ps) = false) :
    Calls Tryz.prog 75 #[.agg #[.bool pr, .slice A n c, .slice D k d], .agg #[.bool ps, .slice A' n' c', .slice D' k' d']] w fun e w' => e = .returned (.bool false) ∧ Below w.heap.size w w' := by
  clear hl hm hl' hm' hn hk hn' hk' hA hD hA' hD'
  go_enter Tryz.func75, Tryz.ntmps75
  go_wp2
  go_ret
  exact ⟨rfl, ba2 _ _ _⟩

set_option maxHeartbeats 1000000 in
theorem impl_req_l (pr ps : Bool) (l m l' m' : List Int) (A D A' D' : Option Addr) (n k n' k' c d c' d' : Nat) (w : World) (hl : l.length = n) (hm : m.length = k) (hl' : l'.length = n') (hm' : m'.length = k')
    (hn : n ≤ 4611686018427387904) (hk : k ≤ 4611686018427387904) (hn' : n' ≤ 4611686018427387904) (hk' : k' ≤ 4611686018427387904)
    (hA : RdS w A (vi l)) (hD : RdS w D (vi m)) (hA' : RdS w A' (vi l')) (hD' : RdS w D' (vi m')) (h1 : (pr == ps) = true) (h2 : decide (l = l') = false) :
    Calls Tryz.prog 75 #[.agg #[.bool pr, .slice A n c, .slice D k d], .agg #[.bool ps, .slice A' n' c', .slice D' k' d']] w fun e w' => e = .returned (.bool false) ∧ Below w.heap.size w w' := by
  have E1 := Lib.hid (fun W a b => eqSl_all l l' A A' n n' c c' W hl hl' hn hn' a b)
  have E2 := Lib.hid (fun W a b => eqSl_all m m' D D' k k' d d' W hm hm' hk hk' a b)
  rw [h2] at E1
  have RR : Hid (∀ W, Below w.heap.size w W → RdS W A (vi l) ∧ RdS W D (vi m) ∧ RdS W A' (vi l') ∧ RdS W D' (vi m')) := Lib.hid (fun W hb => ⟨hA.below hb, hD.below hb, hA'.below hb, hD'.below hb⟩)
  clear E2 h2 hl hm hl' hm' hn hk hn' hk' hA hD hA' hD'
  go_enter Tryz.func75, Tryz.ntmps75
  go_wp2_with fail
  have kb := ba2 w (.cells #[.bool pr, .slice A n c, .slice D k d] 30) (.cells #[.bool ps, .slice A' n' c', .slice D' k' d'] 30)
  obtain ⟨P_r, P_s⟩ := blocks2 w (.cells #[.bool pr, .slice A n c, .slice D k d] 30) (.cells #[.bool ps, .slice A' n' c', .slice D' k' d'] 30)
  generalize (w.alloc (.cells #[.bool pr, .slice A n c, .slice D k d] 30)).alloc (.cells #[.bool ps, .slice A' n' c', .slice D' k' d'] 30) = W1 at kb P_r P_s ⊢
  refine (E1.out _ (RR.out _ kb).1 (RR.out _ kb).2.2.1).mono ?_
  rintro e W2 ⟨rfl, hb⟩
  replace P_r := rblk_below P_r hb
  replace P_s := rblk_below P_s hb
  replace kb := bt kb hb
  clear hb
  have c_r0 : W2.cell? ⟨w.heap.size, 0, none⟩ = some (.bool pr) := rblk_cell P_r 0
  have c_r1 : W2.cell? ⟨w.heap.size, 1, none⟩ = some (.slice A n c) := rblk_cell P_r 1
  have c_r2 : W2.cell? ⟨w.heap.size, 2, none⟩ = some (.slice D k d) := rblk_cell P_r 2
  have c_s0 : W2.cell? ⟨w.heap.size + 1, 0, none⟩ = some (.bool ps) := rblk_cell P_s 0
  have c_s1 : W2.cell? ⟨w.heap.size + 1, 1, none⟩ = some (.slice A' n' c') := rblk_cell P_s 1
  have c_s2 : W2.cell? ⟨w.heap.size + 1, 2, none⟩ = some (.slice D' k' d') := rblk_cell P_s 2
  go_wp2
  go_ret
  exact ⟨rfl, kb⟩

set_option maxHeartbeats 1000000 in
theorem impl_req_m (pr ps : Bool) (l m l' m' : List Int) (A D A' D' : Option Addr) (n k n' k' c d c' d' : Nat) (w : World) (hl : l.length = n) (hm : m.length = k) (hl' : l'.length = n') (hm' : m'.length = k')
    (hn : n ≤ 4611686018427387904) (hk : k ≤ 4611686018427387904) (hn' : n' ≤ 4611686018427387904) (hk' : k' ≤ 4611686018427387904)
    (hA : RdS w A (vi l)) (hD : RdS w D (vi m)) (hA' : RdS w A' (vi l')) (hD' : RdS w D' (vi m')) (h1 : (pr == ps) = true) (h2 : decide (l = l') = true) :
    Calls Tryz.prog 75 #[.agg #[.bool pr, .slice A n c, .slice D k d], .agg #[.bool ps, .slice A' n' c', .slice D' k' d']] w fun e w' => e = .returned (.bool (decide (m = m'))) ∧ Below w.heap.size w w' := by
  have E1 := Lib.hid (fun W a b => eqSl_all l l' A A' n n' c c' W hl hl' hn hn' a b)
  have E2 := Lib.hid (fun W a b => eqSl_all m m' D D' k k' d d' W hm hm' hk hk' a b)
  rw [h2] at E1
  have RR : Hid (∀ W, Below w.heap.size w W → RdS W A (vi l) ∧ RdS W D (vi m) ∧ RdS W A' (vi l') ∧ RdS W D' (vi m')) := Lib.hid (fun W hb => ⟨hA.below hb, hD.below hb, hA'.below hb, hD'.below hb⟩)
  clear h2 hl hm hl' hm' hn hk hn' hk' hA hD hA' hD'
  generalize decide (m = m') = v at E2 ⊢
  go_enter Tryz.func75, Tryz.ntmps75
  go_wp2_with fail
  have kb := ba2 w (.cells #[.bool pr, .slice A n c, .slice D k d] 30) (.cells #[.bool ps, .slice A' n' c', .slice D' k' d'] 30)
  obtain ⟨P_r, P_s⟩ := blocks2 w (.cells #[.bool pr, .slice A n c, .slice D k d] 30) (.cells #[.bool ps, .slice A' n' c', .slice D' k' d'] 30)
  generalize (w.alloc (.cells #[.bool pr, .slice A n c, .slice D k d] 30)).alloc (.cells #[.bool ps, .slice A' n' c', .slice D' k' d'] 30) = W1 at kb P_r P_s ⊢
  refine (E1.out _ (RR.out _ kb).1 (RR.out _ kb).2.2.1).mono ?_
  rintro e W2 ⟨rfl, hb⟩
  replace P_r := rblk_below P_r hb
  replace P_s := rblk_below P_s hb
  replace kb := bt kb hb
  clear hb
  have c_r0 : W2.cell? ⟨w.heap.size, 0, none⟩ = some (.bool pr) := rblk_cell P_r 0
  have c_r1 : W2.cell? ⟨w.heap.size, 1, none⟩ = some (.slice A n c) := rblk_cell P_r 1
  have c_r2 : W2.cell? ⟨w.heap.size, 2, none⟩ = some (.slice D k d) := rblk_cell P_r 2
  have c_s0 : W2.cell? ⟨w.heap.size + 1, 0, none⟩ = some (.bool ps) := rblk_cell P_s 0
  have c_s1 : W2.cell? ⟨w.heap.size + 1, 1, none⟩ = some (.slice A' n' c') := rblk_cell P_s 1
  have c_s2 : W2.cell? ⟨w.heap.size + 1, 2, none⟩ = some (.slice D' k' d') := rblk_cell P_s 2
  go_wp2_with fail
  clear c_r0 c_r1 c_r2 c_s0 c_s1 c_s2
  refine (E2.out _ (RR.out _ kb).2.1 (RR.out _ kb).2.2.2).mono ?_
  rintro e W3 ⟨rfl, hb⟩
  replace P_r := rblk_below P_r hb
  replace P_s := rblk_below P_s hb
  replace kb := bt kb hb
  clear hb
  go_wp2
  go_ret
  exact ⟨rfl, kb⟩

theorem impl_req3 (pr ps : Bool) (l m l' m' : List Int) (A D A' D' : Option Addr) (n k n' k' c d c' d' : Nat) (w : World) (hl : l.length = n) (hm : m.length = k) (hl' : l'.length = n') (hm' : m'.length = k')
    (hn : n ≤ 4611686018427387904) (hk : k ≤ 4611686018427387904) (hn' : n' ≤ 4611686018427387904) (hk' : k' ≤ 4611686018427387904)
    (hA : RdS w A (vi l)) (hD : RdS w D (vi m)) (hA' : RdS w A' (vi l')) (hD' : RdS w D' (vi m')) :
    Calls Tryz.prog 75 #[.agg #[.bool pr, .slice A n c, .slice D k d], .agg #[.bool ps, .slice A' n' c', .slice D' k' d']] w fun e w' => e = .returned (.bool (decide (pr = ps) && decide (l = l') && decide (m = m'))) ∧ Below w.heap.size w w' := by
  by_cases h1 : (pr == ps) = true
  · have h1' : decide (pr = ps) = true := by simpa using h1
    rw [h1', Bool.true_and]
    by_cases h2 : decide (l = l') = true
    · rw [h2, Bool.true_and]
      exact impl_req_m pr ps l m l' m' A D A' D' n k n' k' c d c' d' w hl hm hl' hm' hn hk hn' hk' hA hD hA' hD' h1 h2
    · have h2' : decide (l = l') = false := by simpa using h2
      rw [h2', Bool.false_and]
      exact impl_req_l pr ps l m l' m' A D A' D' n k n' k' c d c' d' w hl hm hl' hm' hn hk hn' hk' hA hD hA' hD' h1 h2'
  · have h1' : (pr == ps) = false := by simpa using h1
    have h1'' : decide (pr = ps) = false := by simpa using h1
    rw [h1'', Bool.false_and, Bool.false_and]
    exact impl_req_p pr ps l m l' m' A D A' D' n k n' k' c d c' d' w hl hm hl' hm' hn hk hn' hk' hA hD hA' hD' h1'
theorem impl_req (pr ps : Bool) (l m l' m' : List Int) (A D A' D' : Option Addr) (n k n' k' c d c' d' : Nat) (w : World) (hl : l.length = n) (hm : m.length = k) (hl' : l'.length = n') (hm' : m'.length = k')
    (hn : n ≤ 4611686018427387904) (hk : k ≤ 4611686018427387904) (hn' : n' ≤ 4611686018427387904) (hk' : k' ≤ 4611686018427387904) (hx : n = 0 ∨ ∃ g, A' = some ⟨g, 0, none⟩) (hy : k = 0 ∨ ∃ g, D' = some ⟨g, 0, none⟩)
    (hA : RdS w A (vi l)) (hD : RdS w D (vi m)) (hA' : RdS w A' (vi l')) (hD' : RdS w D' (vi m')) :
    Calls Tryz.prog 75 #[.agg #[.bool pr, .slice A n c, .slice D k d], .agg #[.bool ps, .slice A' n' c', .slice D' k' d']] w fun e w' => e = .returned (.bool (decide (pr = ps) && decide (l = l') && decide (m = m'))) ∧ Below w.heap.size w w' :=
  impl_req3 pr ps l m l' m' A D A' D' n k n' k' c d c' d' w hl hm hl' hm' hn hk hn' hk' hA hD hA' hD'
end Go.Proofs.YtennekieiioilaaGreat

