/-
  The program's ApplyMatrix.
-/
import Derived.Test.YtennekieiioilaaGreatValB
import Derived.Test.YtennekieiioilaaGreatPkF
import Derived.Test.YtennekieiioilaaGreatAllI
import Derived.Test.YtennekieiioilaaGreatTk
import Derived.Test.YtennekieiioilaaGreatIsI
import Derived.Test.YtennekieiioilaaGreatApM
namespace Go.Proofs.YtennekieiioilaaGreat
open Go.ChangeShapes Go.WideShapes Go.ChangeAt Go.RowKit
open Go.ChangeMaps (open_string shut_string)
set_option linter.unusedVariables false
set_option linter.unusedSimpArgs false
set_option maxRecDepth 4000

attribute [local go_sem ↓] Go.wp_at_zero Go.wp_at_succ
set_option maxHeartbeats 1000000 in
theorem impl_invalid (x : R3) (a : Ad) (w : World) (hl : x.l.length ≤ 9223372036854775807) (hm : x.m.length ≤ 9223372036854775807) (h : Rds w (rows x a)) :
    Calls Tryz.prog 68 #[.agg #[.bool x.p, .slice a.A x.l.length a.c, .slice a.D x.m.length a.d]] w (fun e w' => e = .returned (.bool (!okx x)) ∧ Below w.heap.size w w') := by
  have HO := Lib.hid (fun W (h : Rds W (rows x a)) => show Calls Tryz.prog 69 #[.agg #[.bool x.p, .slice a.A x.l.length a.c, .slice a.D x.m.length a.d]] W (fun e w' => e = .returned (.bool (okx x)) ∧ Below W.heap.size W w') from impl_rok x.p x.l x.m a.A a.D _ a.c _ a.d W rfl rfl hl hm (rows_rd h).1 (rows_rd h).2)
  have R : Hid (∀ W, Below w.heap.size w W → Rds W (rows x a)) := Lib.hid (fun W hb => h.below hb)
  generalize okx x = b at HO ⊢
  have P_e := heap_alloc_new w (.cells #[.bool x.p, .slice a.A x.l.length a.c, .slice a.D x.m.length a.d] 30)
  have kb := ba1 w (.cells #[.bool x.p, .slice a.A x.l.length a.c, .slice a.D x.m.length a.d] 30)
  have e0 : (w.alloc (.cells #[.bool x.p, .slice a.A x.l.length a.c, .slice a.D x.m.length a.d] 30)).cell? ⟨w.heap.size, 0, none⟩ = some (.bool x.p) := rblk_cell P_e 0
  have e1 : (w.alloc (.cells #[.bool x.p, .slice a.A x.l.length a.c, .slice a.D x.m.length a.d] 30)).cell? ⟨w.heap.size, 1, none⟩ = some (.slice a.A x.l.length a.c) := rblk_cell P_e 1
  have e2 : (w.alloc (.cells #[.bool x.p, .slice a.A x.l.length a.c, .slice a.D x.m.length a.d] 30)).cell? ⟨w.heap.size, 2, none⟩ = some (.slice a.D x.m.length a.d) := rblk_cell P_e 2
  clear h hl hm
  go_enter Tryz.func68, Tryz.ntmps68
  go_wp2_with fail
  clear e0 e1 e2
  refine (HO.out _ (R.out _ kb)).mono ?_
  rintro e w2 ⟨rfl, hb⟩
  go_wp2
  go_ret
  exact ⟨rfl, bt kb hb⟩
/-- An index from 0 on. -/
def AtSome (w : World) (e : Ending) (w' : World) : Prop := ∃ k : Nat, k ≤ 9223372036854775807 ∧ e = .returned (.int .i64 (k : Int)) ∧ Below w.heap.size w w'
set_option maxHeartbeats 1000000 in
theorem index_y (L : List RV) (A : Option Addr) (c : Nat) (w : World) (hn : L.length ≤ 9223372036854775807) (hL : ∀ p, p ∈ L → LenQ p) (hA : RdS w A (flatQ L)) (hR : Rds w (lrowQ L)) (hv : validB L = true) :
    Calls Tryz.prog 92 #[.slice A L.length c, .func (.func 68) #[] #[]] w (fun e w' => e = .returned (.int .i64 (-1)) ∧ Below w.heap.size w w') := by
  have RA : Hid (∀ W, Below w.heap.size w W → RdS W A (flatQ L) ∧ Rds W (lrowQ L)) := Lib.hid (fun W hb => ⟨hA.below hb, hR.below hb⟩)
  have HV := Lib.hid hv
  have HLL := Lib.hid hL
  obtain ⟨n, hnn⟩ : ∃ n, n = L.length := ⟨_, rfl⟩
  rw [← hnn] at hn ⊢
  have HN := Lib.hid hnn
  clear hnn hA hR hL hv
  go_enter Tryz.func92, Tryz.ntmps92
  go_wp2
  go_loopw [8] (fun k w' => ∃ j : Nat, j ≤ n ∧ k = .int .i64 (j : Int) ∧ validB (L.take j) = true ∧ Below w.heap.size w w') (fun k _ => n - (intOf k).toNat)
  case atStart => exact ⟨0, Nat.zero_le _, rfl, rfl, Below.refl _ _⟩
  case round =>
    obtain ⟨j, hj, rfl, hf, kb⟩ := hrel
    by_cases hlt : j < n
    · obtain ⟨p, hp⟩ := getQ (L := L) (i := j) (by rw [← HN.out]; exact hlt)
      obtain ⟨g, o, rfl, _, c0, c1, c2⟩ := (RA.out _ kb).1.three hp
      have lp := HLL.out p (List.mem_of_getElem? hp)
      have HC := Lib.hid (impl_invalid p.x p.a wr lp.1 lp.2 ((RA.out _ kb).2.atQ hp))
      have HT : Hid (validB (L.take (j + 1)) = okx p.x) := Lib.hid (by
        have hv' := hf
        unfold validB at hv' ⊢
        rw [take_succQ hp, List.all_append, hv']; simp)
      have HY : Hid (validB L = true → okx p.x = true) := Lib.hid (fun h => validB_at h hp)
      generalize okx p.x = b at HC HT HY
      have hi0 : (0 : Int) ≤ (j : Int) := by omega
      have hi1 : (j : Int) < (n : Int) := by omega
      clear hp lp hf
      go_wp2_with fail
      clear c0 c1 c2
      refine HC.out.mono ?_
      rintro e w2 ⟨rfl, hb⟩
      have k2 := bt kb hb
      clear hb kb
      cases b with
      | false =>
        exact absurd (HY.out HV.out) (by simp)
      | true =>
        go_wp2
        go_roundw
        case rel => exact ⟨j + 1, hlt, by go_num, HT.out, k2⟩
        case measure => simp [intOf]; omega
    · obtain rfl : j = n := by omega
      clear hf
      go_wp2
      go_ret
      exact ⟨rfl, kb⟩
set_option maxHeartbeats 1000000 in
theorem index_n (L : List RV) (A : Option Addr) (c : Nat) (w : World) (hn : L.length ≤ 9223372036854775807) (hL : ∀ p, p ∈ L → LenQ p) (hA : RdS w A (flatQ L)) (hR : Rds w (lrowQ L)) (hv : validB L = false) :
    Calls Tryz.prog 92 #[.slice A L.length c, .func (.func 68) #[] #[]] w (AtSome w) := by
  have RA : Hid (∀ W, Below w.heap.size w W → RdS W A (flatQ L) ∧ Rds W (lrowQ L)) := Lib.hid (fun W hb => ⟨hA.below hb, hR.below hb⟩)
  have HV := Lib.hid hv
  have HLL := Lib.hid hL
  obtain ⟨n, hnn⟩ : ∃ n, n = L.length := ⟨_, rfl⟩
  rw [← hnn] at hn ⊢
  have HN := Lib.hid hnn
  clear hnn hA hR hL hv
  go_enter Tryz.func92, Tryz.ntmps92
  go_wp2
  go_loopw [8] (fun k w' => ∃ j : Nat, j ≤ n ∧ k = .int .i64 (j : Int) ∧ validB (L.take j) = true ∧ Below w.heap.size w w') (fun k _ => n - (intOf k).toNat)
  case atStart => exact ⟨0, Nat.zero_le _, rfl, rfl, Below.refl _ _⟩
  case round =>
    obtain ⟨j, hj, rfl, hf, kb⟩ := hrel
    by_cases hlt : j < n
    · obtain ⟨p, hp⟩ := getQ (L := L) (i := j) (by rw [← HN.out]; exact hlt)
      obtain ⟨g, o, rfl, _, c0, c1, c2⟩ := (RA.out _ kb).1.three hp
      have lp := HLL.out p (List.mem_of_getElem? hp)
      have HC := Lib.hid (impl_invalid p.x p.a wr lp.1 lp.2 ((RA.out _ kb).2.atQ hp))
      have HT : Hid (validB (L.take (j + 1)) = okx p.x) := Lib.hid (by
        have hv' := hf
        unfold validB at hv' ⊢
        rw [take_succQ hp, List.all_append, hv']; simp)
      have HY : Hid (validB L = true → okx p.x = true) := Lib.hid (fun h => validB_at h hp)
      generalize okx p.x = b at HC HT HY
      have hi0 : (0 : Int) ≤ (j : Int) := by omega
      have hi1 : (j : Int) < (n : Int) := by omega
      clear hp lp hf
      go_wp2_with fail
      clear c0 c1 c2
      refine HC.out.mono ?_
      rintro e w2 ⟨rfl, hb⟩
      have k2 := bt kb hb
      clear hb kb
      cases b with
      | false =>
        go_wp2
        go_ret
        exact ⟨j, by omega, rfl, k2⟩
      | true =>
        go_wp2
        go_roundw
        case rel => exact ⟨j + 1, hlt, by go_num, HT.out, k2⟩
        case measure => simp [intOf]; omega
    · obtain rfl : j = n := by omega
      rw [show L.take j = L by rw [HN.out, List.take_length], HV.out] at hf
      cases hf
set_option maxHeartbeats 1000000 in
theorem contains_q (L : List RV) (A : Option Addr) (c : Nat) (w : World) (hn : L.length ≤ 9223372036854775807) (hL : ∀ p, p ∈ L → LenQ p) (hA : RdS w A (flatQ L)) (hR : Rds w (lrowQ L)) :
    Calls Tryz.prog 70 #[.slice A L.length c, .func (.func 68) #[] #[]] w (fun e w' => e = .returned (.bool (!validB L)) ∧ Below w.heap.size w w') := by
  cases hv : validB L with
  | true =>
    have HI := Lib.hid (index_y L A c w hn hL hA hR hv)
    generalize L.length = n at HI ⊢
    clear hv hn hL hA hR
    go_enter Tryz.func70, Tryz.ntmps70
    go_wp2_with fail
    refine HI.out.mono ?_
    rintro e w2 ⟨rfl, hb⟩
    go_wp2
    go_ret
    exact ⟨rfl, hb⟩
  | false =>
    have HI := Lib.hid (index_n L A c w hn hL hA hR hv)
    generalize L.length = n at HI ⊢
    unfold AtSome at HI
    clear hv hn hL hA hR
    go_enter Tryz.func70, Tryz.ntmps70
    go_wp2_with fail
    refine HI.out.mono ?_
    rintro e w2 ⟨k, hk, rfl, hb⟩
    have q : decide ((k : Int) ≥ 0) = true := by simp
    have q2 : decide ((0 : Int) ≤ (k : Int)) = true := by simp
    go_wp2
    go_ret
    exact ⟨by simp, hb⟩
set_option maxHeartbeats 1000000 in
theorem isVector_q (L : List RV) (A : Option Addr) (c m : Nat) (w : World) (hn : L.length ≤ 9223372036854775807) (hm : m ≤ 9223372036854775807) (hL : ∀ p, p ∈ L → LenQ p) (hA : RdS w A (flatQ L)) (hR : Rds w (lrowQ L)) :
    Calls Tryz.prog 45 #[.slice A L.length c, .int .i64 (m : Int)] w (fun e w' => e = .returned (.bool (decide (L.length = m) && validB L)) ∧ Below w.heap.size w w') := by
  have HC := Lib.hid (contains_q L A c w hn hL hA hR)
  generalize validB L = b at HC ⊢
  generalize L.length = n at *
  clear hL hA hR
  by_cases h : n = m
  · have q : ((n : Int) == (m : Int)) = true := by simp [h]
    rw [decide_eq_true h, Bool.true_and]
    clear h
    go_enter Tryz.func45, Tryz.ntmps45
    go_wp2_with fail
    refine HC.out.mono ?_
    rintro e w2 ⟨rfl, hb⟩
    go_wp2
    go_ret
    exact ⟨by simp, hb⟩
  · have q : ((n : Int) == (m : Int)) = false := by rw [beq_eq_false_iff_ne]; omega
    rw [decide_eq_false h, Bool.false_and]
    clear h
    go_enter Tryz.func45, Tryz.ntmps45
    go_wp2
    go_ret
    exact ⟨rfl, Below.refl _ _⟩
end Go.Proofs.YtennekieiioilaaGreat
namespace Go.Proofs.YtennekieiioilaaGreat
open Go.ChangeShapes Go.WideShapes Go.ChangeAt Go.RowKit
open Go.ChangeMaps (open_string shut_string)
set_option linter.unusedVariables false
set_option linter.unusedSimpArgs false
set_option maxRecDepth 4000

theorem madeRS_below {B : Nat} {L : List RV} {w w2 w3 : World} {v : Value} (h : MadeRS B L w (.returned v) w2) (hb : Below w2.heap.size w2 w3) : MadeRS B L w (.returned v) w3 := by
  obtain ⟨M, A, c, h1, h2, h3, h4, h5, h6, h7⟩ := h
  exact ⟨M, A, c, h1, h2, h3, h4, (h5.below hb).wide (Nat.le_refl _) hb.size, h6, bt h7 hb⟩
attribute [local go_sem ↓] Go.wp_at_zero Go.wp_at_succ
set_option maxHeartbeats 4000000 in
theorem impl_applied (R : List MR) (A : Option Addr) (c : Nat) (U : List RV) (D : Option Addr) (d : Nat) (w : World) (hfit : fitX R U = true) (hL : ∀ p, p ∈ R → LenX p) (hA : RdS w A (flatX R)) (hR : Rds w (lrowX R)) (hL' : ∀ p, p ∈ U → LenQ p) (hA' : RdS w D (flatQ U)) (hR' : Rds w (lrowQ U)) :
    Calls Tryz.prog 46 #[.agg #[.slice A R.length c], .slice D U.length d] w (MadeRS w.heap.size (appA R U) w) := by
  have HF := Lib.hid (fitX_get hfit)
  have RX : Hid (∀ W, Below w.heap.size w W → (RdS W A (flatX R) ∧ Rds W (lrowX R)) ∧ RdS W D (flatQ U) ∧ Rds W (lrowQ U)) := Lib.hid (fun W hb => ⟨⟨hA.below hb, hR.below hb⟩, hA'.below hb, hR'.below hb⟩)
  have HL := Lib.hid (And.intro hL hL')
  obtain ⟨n, hnn⟩ : ∃ n, n = R.length := ⟨_, rfl⟩
  have hnu : n = U.length := hnn.trans HF.out.2.1.symm
  have HN := Lib.hid (And.intro hnn hnu)
  have hn40 : n ≤ 40 := by rw [hnn]; exact HF.out.1
  rw [← hnn, ← hnu]
  have HALL := Lib.hid (sumL_all (R := R) (U := U) hnn)
  have HZ := Lib.hid (fun W => show Calls Tryz.prog 59 #[.int .i64 0] W (MadeQ W.heap.size (ofO (some 0)) W) from (impl_rfi 0 W (by decide)).mono fun e w' k => MadeR.toQ (x := ofO (some 0)) k)
  unfold MadeQ at HZ
  obtain ⟨Z0, hZ0⟩ : ∃ Z, Z = ofO (some (0 : Rat)) := ⟨_, rfl⟩
  rw [← hZ0] at HZ
  have HZ0 := Lib.hid hZ0
  clear hZ0 hA hR hL hA' hR' hL' hfit hnn hnu
  have P_a := heap_alloc_new w (.cells #[.slice A n c] 34)
  have kb := ba1 w (.cells #[.slice A n c] 34)
  have hs1 : (w.alloc (.cells #[.slice A n c] 34)).heap.size = w.heap.size + 1 := by rw [sz1]
  have a0 := rblk_cell P_a 0
  have HS1 := Lib.hid hs1
  have KB := Lib.hid kb
  have PA := Lib.hid P_a
  clear hs1 kb P_a
  go_enter Tryz.func46, Tryz.ntmps46
  go_wp2_with fail
  clear a0
  have hs1 := HS1.out
  have kb := KB.out
  have P_a := PA.out
  clear HS1 KB PA
  generalize w.alloc (.cells #[.slice A n c] 34) = W1 at P_a kb hs1 ⊢
  have HW : Hid (∀ W, Below W1.heap.size W1 W → Below w.heap.size w W) := Lib.hid (fun W hB => bt kb hB)
  have HB0 : Hid (w.heap.size ≤ W1.heap.size) := Lib.hid kb.size
  have hown := World.ownsRow_nil W1 W1.heap.size 30 3
  have k2 := Below.refl W1.heap.size W1
  try rw [← hs1]
  clear P_a kb hs1
  go_loopw [14, 5] (fun k v w' => ∃ (i : Nat) (M : List RV) (E : Option Addr) (e : Nat), i ≤ n ∧ k = .int .i64 (i : Int) ∧ v = .slice E M.length e ∧ M.length = i ∧ w'.ownsRow W1.heap.size 30 3 (.slice E M.length e) M.length (flatQ M) ∧ datQ M = datQ (sumL (R.take i) U) ∧ (∀ q, q ∈ M → CapQ q) ∧ Owns W1.heap.size w'.heap.size w' (lrowQ M) ∧ Aparts (lrowQ M) ∧ Below W1.heap.size W1 w') (fun k _ _ => n - (intOf k).toNat)
  case atStart => exact ⟨0, [], _, _, by omega, rfl, rfl, rfl, hown, rfl, (fun q hq => by cases hq), Owns.nil _ _ _, Aparts.nil, k2⟩
  case round =>
    clear hown k2
    obtain ⟨i, M, E, e, hi, rfl, rfl, hMl, hown, hd, hcap, hO, hap, kV⟩ := hrel
    obtain ⟨V, hVn⟩ : ∃ V, V = wr := ⟨_, rfl⟩
    subst hVn
    have HVZ : Hid (∀ g, (Value.slice E M.length e).ownBlock = some g → g < V.heap.size) := Lib.hid (fun g h => (hown.lt g h).2)
    have HOR := Lib.hid (And.intro hown (And.intro hd (And.intro hO (And.intro hap (And.intro hMl hcap)))))
    have KV := Lib.hid kV
    clear hown hd hO hap hcap hMl
    by_cases hlt : i < n
    · obtain ⟨p, hp⟩ := getX (L := R) (i := i) (by rw [← HN.out.1]; exact hlt)
      have kw0 := HW.out _ kV
      have hrow := (RX.out _ kw0).1.2.atX hp
      have RU : Hid (∀ W, Below V.heap.size V W → RdS W D (flatQ U) ∧ Rds W (lrowQ U)) := Lib.hid (fun W hb => (RX.out _ (bt kw0 hb)).2)
      obtain ⟨g, o, rfl, _, c0, c1⟩ := (RX.out _ kw0).1.1.two hp
      have RP : Hid (∀ W, Below V.heap.size V W → Rds W (rmx p)) := Lib.hid (fun W hb => hrow.below hb)
      have LP := Lib.hid (HL.out.1 p (List.mem_of_getElem? hp))
      have HR1 := Lib.hid (HF.out.2.2.2 i p hp)
      obtain ⟨m, hm⟩ : ∃ m, m = p.cs.length := ⟨_, rfl⟩
      have HM := Lib.hid (And.intro hm (hm.trans HR1.out.1))
      have hm63 : m ≤ 9223372036854775807 := by rw [hm]; exact LP.out.1
      rw [← hm] at c0
      rw [← HR1.out.1, ← hm] at c1
      have hi0 : (0 : Int) ≤ (i : Int) := by omega
      have hi1 : (i : Int) < (n : Int) := by omega
      have HPA := Lib.hid (rowPr_all (p := p) (U := U) hm)
      have P_e := heap_alloc_new V (.cells #[.slice p.A m p.c, .slice p.B m p.d] 71)
      have hb := ba1 V (.cells #[.slice p.A m p.c, .slice p.B m p.d] 71)
      have e0 := rblk_cell P_e 0
      have e1 := rblk_cell P_e 1
      have HP := Lib.hid hp
      clear hrow hm kV kw0 hp
      go_wp2_with fail
      clear c0 c1 e0 e1
      generalize V.alloc (.cells #[.slice p.A m p.c, .slice p.B m p.d] 71) = Wb at P_e hb ⊢
      refine (HZ.out _).mono ?_
      rintro ee W2 ⟨a0, rfl, hc1, hc2, o0, hap0, hb0⟩
      replace o0 := o0.wide hb.size (Nat.le_refl _)
      have hgl : V.heap.size < W2.heap.size := Nat.lt_of_lt_of_le (rblk_lt P_e) hb0.size
      replace P_e := rblk_below P_e hb0
      have kW2 := bt hb hb0
      clear hb hb0
      have P_l := heap_alloc_new W2 (.cells #[.bool Z0.p, .slice a0.A Z0.l.length a0.c, .slice a0.D Z0.m.length a0.d] 30)
      have hb2 := ba1 W2 (.cells #[.bool Z0.p, .slice a0.A Z0.l.length a0.c, .slice a0.D Z0.m.length a0.d] 30)
      have HE : Hid (∀ W, Below W2.heap.size W2 W → W.heap[V.heap.size]? = some (.cells #[.slice p.A m p.c, .slice p.B m p.d] 71 (0, 0))) := Lib.hid (fun W hB => rblk_below P_e hB)
      replace P_e := rblk_below P_e hb2
      replace o0 := (o0.below hb2).wide (Nat.le_refl _) hb2.size
      have KW2 := Lib.hid kW2
      have HGL := Lib.hid hgl
      have e0 := rblk_cell P_e 0
      clear kW2 hgl P_e
      go_wp2_with fail
      clear e0
      generalize W2.alloc (.cells #[.bool Z0.p, .slice a0.A Z0.l.length a0.c, .slice a0.D Z0.m.length a0.d] 30) = W3 at P_l o0 hb2 ⊢
      go_loopw [22] (fun k w' => ∃ (j : Nat) (X : R3) (a : Ad), j ≤ m ∧ k = .int .i64 (j : Int) ∧ X = ofO (accX (some 0) ((rowPr p U).take j)) ∧ (X.l.length ≤ a.c ∧ X.m.length ≤ a.d) ∧ w'.heap[W2.heap.size]? = some (.cells #[.bool X.p, .slice a.A X.l.length a.c, .slice a.D X.m.length a.d] 30 (0, 0)) ∧ Owns V.heap.size w'.heap.size w' (rows X a) ∧ Aparts (rows X a) ∧ Below W2.heap.size W2 w') (fun k _ => m - (intOf k).toNat)
      case atStart => exact ⟨0, Z0, a0, Nat.zero_le _, rfl, HZ0.out, ⟨hc1, hc2⟩, P_l, o0, hap0, hb2⟩
      case round =>
        clear P_l o0 hc1 hc2 hap0 hb2
        obtain ⟨j, X, ax, hj, rfl, hX, hcx, P_l, ol, hapl, kw⟩ := hrel
        by_cases hlj : j < m
        · obtain ⟨z, hz⟩ : ∃ z, p.cs[j]? = some z := ⟨p.cs[j]'(by rw [← HM.out.1]; exact hlj), List.getElem?_eq_getElem _⟩
          obtain ⟨v, hv⟩ := getQ (L := p.V) (i := j) (by rw [← HM.out.2]; exact hlj)
          obtain ⟨y, rfl, hy⟩ := HR1.out.2.2 j z hz
          rw [← HN.out.1] at hy
          obtain ⟨u, hu⟩ := getQ (L := U) (i := y) (by rw [← HN.out.2]; exact hy)
          have kVw := bt KW2.out kw
          obtain ⟨gc, oc, ea, _, cz⟩ := vi_cell (RP.out _ kVw).hd hz
          obtain ⟨gv, ov, eb, _, _, _, _⟩ := (RP.out _ kVw).tl.hd.three hv
          obtain ⟨gu, ou, rfl, _, _, _, _⟩ := (RU.out _ kVw).1.three hu
          have lp := validB_at HR1.out.2.1 hv
          have lq := validB_at HF.out.2.2.1 hu
          have f1 : FitO (accX (some 0) ((rowPr p U).take j)) := accX_fit zero_fitO _
          have HMU := Lib.hid (fun (a c : Ad) W h h' => progmul_x v.x u.x a c W lp lq h h')
          have HS := Lib.hid (fun (a c : Ad) W h h' => plus_r (accX (some 0) ((rowPr p U).take j)) (binQ mulQ (valx v.x) (valx u.x)) a c W f1 (mulX_fit _ _) h h')
          have HX2 : Hid (ofO (binQ addQ (accX (some 0) ((rowPr p U).take j)) (binQ mulQ (valx v.x) (valx u.x))) = ofO (accX (some 0) ((rowPr p U).take (j + 1)))) := Lib.hid (by rw [rowPr_step hz hv hu, accX_app])
          rw [← hX] at HS
          clear hX f1 lp lq
          generalize ofO (binQ addQ (accX (some 0) ((rowPr p U).take j)) (binQ mulQ (valx v.x) (valx u.x))) = X2 at HS HX2
          generalize ofO (binQ mulQ (valx v.x) (valx u.x)) = VV at HMU HS
          unfold MadeQ at HMU HS
          have HQ := Lib.hid hu
          have HV := Lib.hid hv
          have HEB := Lib.hid eb
          have hj0 : (0 : Int) ≤ (j : Int) := by omega
          have hj1 : (j : Int) < (m : Int) := by omega
          have hy0 : (0 : Int) ≤ (y : Int) := by omega
          have hy1 : (y : Int) < (n : Int) := by omega
          have P_e := HE.out _ kw
          rw [ea, eb] at P_e
          rw [ea]
          have e0 := rblk_cell P_e 0
          have ol2 := ol.rds
          have ne_e : W2.heap.size ≠ V.heap.size := by have := HGL.out; omega
          have KW := Lib.hid kw
          have HGR := Lib.hid (RP.out _ kVw)
          have HUR := Lib.hid (RU.out _ kVw)
          clear ea eb hz hv hu hapl hcx ol kVw
          go_wp2_with fail
          clear cz e0 kw
          have KST := Keep3.start P_l
          refine wp_region_held_drew (S := fun w' => Keep3 wr w' W2.heap.size) (by kernel_rfl) (KST.drew) (fun hHeld => ?_)
          have P_c : wr.drew.heap[W2.heap.size]? = some (.cells #[.bool X.p, .slice ax.A X.l.length ax.c, .slice ax.D X.m.length ax.d] 30 (0, 0)) := P_l
          have HRw : Rds wr.drew (rows X ax) := ol2.below ((Below.refl _ _).drew)
          have HRp : Rds wr.drew (rows v.x v.a) := (HGR.out.tl.tl.atQ HV.out).below ((Below.refl _ _).drew)
          have HRq : Rds wr.drew (rows u.x u.a) := (HUR.out.2.atQ HQ.out).below ((Below.refl _ _).drew)
          clear ol2
          refine tk (i := 1) (v := ?vg1_1) rfl (by kernel_rfl) (fun _ _ _ h => h) (Or.inl ⟨by rfl, ?hg1_1⟩) hHeld ?_
          case hg1_1 => (intro w hSw; (try dsimp only at hSw); clear hSw; go_simp; (try with_reducible rfl))
          try simp only [ps]
          refine tk (i := 2) (v := ?vg1_2) rfl (by kernel_rfl) (fun _ _ _ h => h) (Or.inl ⟨by rfl, ?hg1_2⟩) hHeld ?_
          case hg1_2 => (intro w hSw; (try dsimp only at hSw); have z1 := rblk_cell (hSw.block P_e ne_e) 1; clear hSw; go_simp; (try with_reducible rfl))
          try simp only [ps]
          refine tk (i := 3) (v := ?vg1_3) rfl (by kernel_rfl) (fun _ _ _ h => h) (Or.inl ⟨by rfl, ?hg1_3⟩) hHeld ?_
          case hg1_3 => (intro w hSw; (try dsimp only at hSw); clear hSw; go_simp; (try with_reducible rfl))
          try simp only [ps]
          refine tk (i := 4) (v := ?vg1_4) rfl (by kernel_rfl) (fun _ _ _ h => h) (Or.inl ⟨by rfl, ?hg1_4⟩) hHeld ?_
          case hg1_4 => (intro w hSw; (try dsimp only at hSw); clear hSw; go_simp; (try with_reducible rfl))
          try simp only [ps]
          refine tk (i := 5) (v := ?vg1_5) rfl (by kernel_rfl) (fun _ _ _ h => h) (Or.inl ⟨by rfl, ?hg1_5⟩) hHeld ?_
          case hg1_5 => (intro w hSw; (try dsimp only at hSw); obtain ⟨_, _, he, _, z0, z1, z2⟩ := (RP.out _ (bt KW2.out (hSw.base KW.out (Nat.le_refl _)))).tl.hd.three HV.out; have he2 := HEB.out.symm.trans he; cases he2; clear hSw he; go_simp; (try with_reducible rfl))
          try simp only [ps]
          refine tk (i := 6) (v := ?vg1_6) rfl (by kernel_rfl) (fun _ _ _ h => h) (Or.inl ⟨by rfl, ?hg1_6⟩) hHeld ?_
          case hg1_6 => (intro w hSw; (try dsimp only at hSw); clear hSw; go_simp; (try with_reducible rfl))
          try simp only [ps]
          refine tk (i := 7) (v := ?vg1_7) rfl (by kernel_rfl) (fun _ _ _ h => h) (Or.inl ⟨by rfl, ?hg1_7⟩) hHeld ?_
          case hg1_7 => (intro w hSw; (try dsimp only at hSw); clear hSw; go_simp; (try with_reducible rfl))
          try simp only [ps]
          refine tk (i := 8) (v := ?vg1_8) rfl (by kernel_rfl) (fun _ _ _ h => h) (Or.inl ⟨by rfl, ?hg1_8⟩) hHeld ?_
          case hg1_8 => (intro w hSw; (try dsimp only at hSw); clear hSw; go_simp; (try with_reducible rfl))
          try simp only [ps]
          refine tk (i := 9) (v := ?vg1_9) rfl (by kernel_rfl) (fun _ _ _ h => h) (Or.inl ⟨by rfl, ?hg1_9⟩) hHeld ?_
          case hg1_9 => (intro w hSw; (try dsimp only at hSw); obtain ⟨_, _, he, _, z0, z1, z2⟩ := (RU.out _ (bt KW2.out (hSw.base KW.out (Nat.le_refl _)))).1.three HQ.out; cases he; clear hSw; go_simp; (try with_reducible rfl))
          try simp only [ps]
          refine wpAnyH_ready (rs := [0, 10]) (by kernel_rfl) (by simp) ?_
          refine rc1 rfl (fun K hK => ?_) (rc1 rfl (fun K hK => ?_) AllReadyH.nil)
          · skip
            have t0 := rblk_cell P_c 0
            have t1 := rblk_cell P_c 1
            have t2 := rblk_cell P_c 2
            go_simp
            clear t0 t1 t2
            refine hK.out _ _ hHeld (fun hH => ?_)
            clear hK K hH
            try simp only [ps]
            refine rd1 (i := 10) (by kernel_rfl) rfl (fun K hK => ?_)
            go_simp
            (go_at_call 72; ((with_reducible refine (HMU.out _ _ _ HRp HRq).mono ?_); rintro e Wr1_10 ⟨am, rfl, hmx, hmy, om, hapm, hb⟩))
            refine hK.out _ _ (hHeld.below hb) (fun hH => ?_)
            replace hHeld := hH
            clear hK K hH
            replace P_c := rblk_below P_c hb
            replace HRw := HRw.below hb
            replace HRp := HRp.below hb
            replace HRq := HRq.below hb
            replace om := om.rds
            clear hb
            try simp only [ps]
            refine rd1 (i := 11) (by kernel_rfl) rfl (fun K hK => ?_)
            go_simp
            (go_at_call 71; ((with_reducible refine (HS.out _ _ _ HRw om).mono ?_); rintro e Wr1_11 ⟨a3, rfl, h3x, h3y, o3, hap3, hb⟩))
            have hz3 := hHeld.lt
            refine hK.out _ _ (hHeld.below hb) (fun hH => ?_)
            replace hHeld := hH
            clear hK K hH
            replace P_c := rblk_below P_c hb
            replace HRw := HRw.below hb
            replace HRp := HRp.below hb
            replace HRq := HRq.below hb
            replace om := om.below hb
            clear hb
            try simp only [ps]
            refine rd1 (i := 12) (by kernel_rfl) rfl (fun K hK => ?_)
            have t0 := rblk_cell P_c 0
            have q0 := rblk_free P_c 0
            have t1 := rblk_cell P_c 1
            have q1 := rblk_free P_c 1
            have t2 := rblk_cell P_c 2
            have q2 := rblk_free P_c 2
            go_simp
            clear t0 t1 t2 q0 q1 q2
            refine hK.out _ _ (hHeld.put3 (.bool X2.p) (.slice a3.A X2.l.length a3.c) (.slice a3.D X2.m.length a3.d)) (fun hH => ?_)
            clear hK K hHeld
            have hHeld := hH
            clear hH
            have P_f := rblk_set (rblk_set (rblk_set P_c 0 (.bool X2.p)) 1 (.slice a3.A X2.l.length a3.c)) 2 (.slice a3.D X2.m.length a3.d)
            replace o3 := owns_put3 (r := W2.heap.size) o3 (.inl hz3) (.bool X2.p) (.slice a3.A X2.l.length a3.c) (.slice a3.D X2.m.length a3.d)
            try simp only [ps]
            refine wpAnyH_done (by kernel_rfl) ?_ _
            have kz := hHeld.base KW.out (Nat.le_refl _)
            have HFN := Lib.hid (And.intro P_f (And.intro o3 (And.intro kz hz3)))
            clear P_f o3 kz hz3 hHeld P_c P_e
            go_wp2
            go_roundw
            case rel => exact ⟨j + 1, X2, a3, hlj, by go_num, HX2.out, ⟨h3x, h3y⟩, HFN.out.1, HFN.out.2.1.wide (by have h1 := HFN.out.2.2.2; have h2 := HGL.out; omega) (by first | rw [size_put3]; exact Nat.le_refl _ | exact Nat.le_refl _), hap3, HFN.out.2.2.1⟩
            case measure => simp [intOf]; omega
          · skip
            go_simp
            (go_at_call 72; ((with_reducible refine (HMU.out _ _ _ HRp HRq).mono ?_); rintro e Wr1_12 ⟨am, rfl, hmx, hmy, om, hapm, hb⟩))
            refine hK.out _ _ (hHeld.below hb) (fun hH => ?_)
            replace hHeld := hH
            clear hK K hH
            replace P_c := rblk_below P_c hb
            replace HRw := HRw.below hb
            replace HRp := HRp.below hb
            replace HRq := HRq.below hb
            replace om := om.rds
            clear hb
            try simp only [ps]
            refine rd1 (i := 0) (by kernel_rfl) rfl (fun K hK => ?_)
            have t0 := rblk_cell P_c 0
            have t1 := rblk_cell P_c 1
            have t2 := rblk_cell P_c 2
            go_simp
            clear t0 t1 t2
            refine hK.out _ _ hHeld (fun hH => ?_)
            clear hK K hH
            try simp only [ps]
            refine rd1 (i := 11) (by kernel_rfl) rfl (fun K hK => ?_)
            go_simp
            (go_at_call 71; ((with_reducible refine (HS.out _ _ _ HRw om).mono ?_); rintro e Wr1_13 ⟨a3, rfl, h3x, h3y, o3, hap3, hb⟩))
            have hz3 := hHeld.lt
            refine hK.out _ _ (hHeld.below hb) (fun hH => ?_)
            replace hHeld := hH
            clear hK K hH
            replace P_c := rblk_below P_c hb
            replace HRw := HRw.below hb
            replace HRp := HRp.below hb
            replace HRq := HRq.below hb
            replace om := om.below hb
            clear hb
            try simp only [ps]
            refine rd1 (i := 12) (by kernel_rfl) rfl (fun K hK => ?_)
            have t0 := rblk_cell P_c 0
            have q0 := rblk_free P_c 0
            have t1 := rblk_cell P_c 1
            have q1 := rblk_free P_c 1
            have t2 := rblk_cell P_c 2
            have q2 := rblk_free P_c 2
            go_simp
            clear t0 t1 t2 q0 q1 q2
            refine hK.out _ _ (hHeld.put3 (.bool X2.p) (.slice a3.A X2.l.length a3.c) (.slice a3.D X2.m.length a3.d)) (fun hH => ?_)
            clear hK K hHeld
            have hHeld := hH
            clear hH
            have P_f := rblk_set (rblk_set (rblk_set P_c 0 (.bool X2.p)) 1 (.slice a3.A X2.l.length a3.c)) 2 (.slice a3.D X2.m.length a3.d)
            replace o3 := owns_put3 (r := W2.heap.size) o3 (.inl hz3) (.bool X2.p) (.slice a3.A X2.l.length a3.c) (.slice a3.D X2.m.length a3.d)
            try simp only [ps]
            refine wpAnyH_done (by kernel_rfl) ?_ _
            have kz := hHeld.base KW.out (Nat.le_refl _)
            have HFN := Lib.hid (And.intro P_f (And.intro o3 (And.intro kz hz3)))
            clear P_f o3 kz hz3 hHeld P_c P_e
            go_wp2
            go_roundw
            case rel => exact ⟨j + 1, X2, a3, hlj, by go_num, HX2.out, ⟨h3x, h3y⟩, HFN.out.1, HFN.out.2.1.wide (by have h1 := HFN.out.2.2.2; have h2 := HGL.out; omega) (by first | rw [size_put3]; exact Nat.le_refl _ | exact Nat.le_refl _), hap3, HFN.out.2.2.1⟩
            case measure => simp [intOf]; omega
        · obtain rfl : j = m := by omega
          rw [HPA.out] at hX
          have l0 := rblk_cell P_l 0
          have l1 := rblk_cell P_l 1
          have l2 := rblk_cell P_l 2
          have kVw := bt KW2.out kw
          have HQ := Lib.hid (And.intro ol (And.intro hapl (And.intro hcx hX)))
          have HKW := Lib.hid (And.intro kVw (bt KV.out kVw))
          have hzV : V.heap.size ≤ wr.heap.size := kVw.size
          clear ol hapl hcx hX P_l kw
          go_wp2_with (refine append_rt rfl (.tmp 40) (.tmp 42) rfl W1.heap.size M.length W1.heap.size V.heap.size wr.heap.size (.slice E M.length e) M ⟨X, ax⟩ wr rfl rfl (own3_below HOR.out.1 kVw) (by have := HOR.out.2.2.2.2.1; omega) HKW.out.2.size (HOR.out.2.2.1.below kVw) HQ.out.1 HOR.out.2.2.2.1 HQ.out.2.1 HVZ.out KV.out.size hzV (Nat.le_refl _) ?_; intro v' w' hown' hb' hO' hap')
          obtain ⟨E2, e2, rfl⟩ := own_formQ hown'
          have HXX := Lib.hid (And.intro hown' (And.intro hO' (And.intro hap' ((HKW.out.2).trans hb'))))
          clear hown' hO' hap' hb' kVw l0 l1 l2
          go_wp2
          go_roundw
          case rel => exact ⟨i + 1, M ++ [⟨X, ax⟩], E2, e2, hlt, by go_num, by rw [List.length_append]; rfl, by rw [List.length_append, HOR.out.2.2.2.2.1]; rfl, by rw [List.length_append]; exact HXX.out.1, sumL_step HP.out HOR.out.2.1 HQ.out.2.2.2, cap_appQ (q := ⟨X, ax⟩) HOR.out.2.2.2.2.2 HQ.out.2.2.1, HXX.out.2.1, HXX.out.2.2.1, HXX.out.2.2.2⟩
          case measure => simp [intOf]; omega
    · obtain rfl : i = n := by omega
      have HX := Lib.hid (made_listQ HOR.out.1 HB0.out HB0.out rfl (HOR.out.2.1.trans (congrArg datQ HALL.out)) HOR.out.2.2.2.2.2 HOR.out.2.2.1 HOR.out.2.2.2.1 (HW.out _ kV))
      have hdA := HOR.out.2.1.trans (congrArg datQ HALL.out)
      have hrow : RdS V E (flatQ M) := (OwnS.of_own3 HOR.out.1).rd
      have HAN := Lib.hid (impl_allOrNone M E e V (by rw [sumL_length hdA, ← HN.out.1]; omega) (sumL_ofO hdA) hrow)
      rw [validB_dat hdA] at HAN
      have HML := Lib.hid hdA
      clear hdA hrow kV
      cases hv : validB (sumL R U) with
      | true =>
        have hTs : appA R U = sumL R U := by unfold appA; rw [if_pos hv]
        rw [hv, if_pos rfl] at HAN
        have HTS := Lib.hid hTs
        clear hv hTs
        go_wp2_with fail
        refine HAN.out.mono ?_
        rintro e4 w4 ⟨rfl, hb⟩
        go_wp2
        go_ret
        rw [HTS.out]
        exact madeRS_below HX.out hb
      | false =>
        have hTs : appA R U = [] := by unfold appA; rw [if_neg (by rw [hv]; simp)]
        rw [hv, if_neg (by simp)] at HAN
        have HKV := Lib.hid (HW.out _ KV.out)
        have HTS := Lib.hid hTs
        clear hv hTs
        go_wp2_with fail
        refine HAN.out.mono ?_
        rintro e4 w4 ⟨rfl, hb⟩
        go_wp2
        go_ret
        exact made_noneQ _ HTS.out (bt HKV.out hb)
end Go.Proofs.YtennekieiioilaaGreat
namespace Go.Proofs.YtennekieiioilaaGreat
open Go.ChangeShapes Go.WideShapes Go.ChangeAt Go.RowKit
open Go.ChangeMaps (open_string shut_string)
set_option linter.unusedVariables false
set_option linter.unusedSimpArgs false
set_option maxRecDepth 4000

attribute [local go_sem ↓] Go.wp_at_zero Go.wp_at_succ
set_option maxHeartbeats 4000000 in
theorem impl_apply (R : List MR) (A : Option Addr) (c : Nat) (U : List RV) (D : Option Addr) (d : Nat) (w : World) (hn : R.length ≤ 9223372036854775807) (hL : ∀ p, p ∈ R → LenX p) (hA : RdS w A (flatX R)) (hR : Rds w (lrowX R)) (hn' : U.length ≤ 9223372036854775807) (hL' : ∀ p, p ∈ U → LenQ p) (hA' : RdS w D (flatQ U)) (hR' : Rds w (lrowQ U)) :
    Calls Tryz.prog 18 #[.agg #[.slice A R.length c], .slice D U.length d] w (MadeRS w.heap.size (appO R U) w) := by
  have HIS : Hid (∀ W, Below w.heap.size w W → Calls Tryz.prog 29 #[.agg #[.slice A R.length c]] W (fun e w' => e = .returned (.bool (isMx R)) ∧ Below W.heap.size W w')) := Lib.hid (fun W hb => impl_isMatrix R A c W hn hL (hA.below hb) (hR.below hb))
  have HIV : Hid (∀ W, Below w.heap.size w W → Calls Tryz.prog 45 #[.slice D U.length d, .int .i64 (R.length : Int)] W (fun e w' => e = .returned (.bool (decide (U.length = R.length) && validB U)) ∧ Below W.heap.size W w')) := Lib.hid (fun W hb => isVector_q U D d R.length W hn' hn hL' (hA'.below hb) (hR'.below hb))
  have HAP : Hid (isMx R = true → (decide (U.length = R.length) && validB U) = true → ∀ W, Below w.heap.size w W → Calls Tryz.prog 46 #[.agg #[.slice A R.length c], .slice D U.length d] W (MadeRS W.heap.size (appO R U) W)) := Lib.hid (fun h1 h2 W hb => by
    have hf : fitX R U = true := by unfold fitX; rw [h1, h2]; rfl
    have K := impl_applied R A c U D d W hf hL (hA.below hb) (hR.below hb) hL' (hA'.below hb) (hR'.below hb)
    have e : appA R U = appO R U := by
      unfold appA appO
      by_cases k : validB (sumL R U) = true
      · rw [if_pos k, if_pos ⟨hf, k⟩]
      · rw [if_neg k, if_neg (fun h => k h.2)]
    rw [e] at K; exact K)
  have HO0 : Hid (isMx R = false ∨ (decide (U.length = R.length) && validB U) = false → appO R U = []) := Lib.hid (fun h => if_neg (by
    rintro ⟨h2, _⟩
    unfold fitX at h2
    rcases h with h | h <;> rw [h] at h2 <;> simp at h2))
  obtain ⟨T, hT⟩ : ∃ T, T = appO R U := ⟨_, rfl⟩
  rw [← hT] at HAP HO0 ⊢
  generalize isMx R = mx at HIS HAP HO0
  generalize (decide (U.length = R.length) && validB U) = vb at HIV HAP HO0
  clear hA hR hA' hR' hL hL' hT hn hn'
  generalize R.length = n at *
  generalize U.length = m at *
  have P_a := heap_alloc_new w (.cells #[.slice A n c] 34)
  have kb := ba1 w (.cells #[.slice A n c] 34)
  have a0 := rblk_cell P_a 0
  cases mx with
  | false =>
    have hTn := HO0.out (.inl rfl)
    clear HAP HO0 HIV
    go_enter Tryz.func18, Tryz.ntmps18
    go_wp2_with fail
    clear a0
    refine (HIS.out _ kb).mono ?_
    rintro e w2 ⟨rfl, hb⟩
    go_wp2
    go_ret
    exact made_noneQ _ hTn (bt kb hb)
  | true =>
    go_enter Tryz.func18, Tryz.ntmps18
    go_wp2_with fail
    clear a0
    generalize w.alloc (.cells #[.slice A n c] 34) = W1 at kb P_a ⊢
    refine (HIS.out _ kb).mono ?_
    rintro e w2 ⟨rfl, hb⟩
    replace P_a := rblk_below P_a hb
    replace kb := bt kb hb
    clear hb
    have a0 := rblk_cell P_a 0
    cases vb with
    | false =>
      have hTn := HO0.out (.inr rfl)
      clear HAP HO0
      go_wp2_with fail
      clear a0
      refine (HIV.out _ kb).mono ?_
      rintro e w3 ⟨rfl, hb⟩
      go_wp2
      go_ret
      exact made_noneQ _ hTn (bt kb hb)
    | true =>
      have HAP2 := Lib.hid (HAP.out (by simp) (by simp))
      unfold MadeRS at HAP2
      clear HAP HO0
      go_wp2_with fail
      clear a0
      refine (HIV.out _ kb).mono ?_
      rintro e w3 ⟨rfl, hb⟩
      replace P_a := rblk_below P_a hb
      replace kb := bt kb hb
      clear hb
      have a0 := rblk_cell P_a 0
      go_wp2_with fail
      clear a0
      refine (HAP2.out _ kb).mono ?_
      rintro e w4 ⟨M, E, ee, rfl, hlc, hd, hcap, ho, hap, hb⟩
      have HX := Lib.hid (show MadeRS w.heap.size T w (.returned (.slice E M.length ee)) w4 from ⟨M, E, ee, rfl, hlc, hd, hcap, ho.wide kb.size (Nat.le_refl _), hap, bt kb hb⟩)
      clear hlc hd hcap ho hap hb kb P_a
      go_wp2
      go_ret
      exact HX.out
end Go.Proofs.YtennekieiioilaaGreat
