/-
  The program's integral of a linear function, for valid values.
-/
import Derived.Test.YtppdholccpgcpaaGreatWg
import Derived.Test.YtppdholccpgcpaaGreatLawP
import Derived.Test.YtppdholccpgcpaaGreatArQ
import Derived.Test.YtppdholccpgcpaaGreatPtQ
import Derived.Test.YtppdholccpgcpaaGreatPtJ
import Derived.Test.YtppdholccpgcpaaGreatTriI
import Derived.Test.YtppdholccpgcpaaGreatCoM
import Derived.Test.YtppdholccpgcpaaGreatInV
import Derived.Test.YtppdholccpgcpaaGreatShM
namespace Go.Proofs.YtppdholccpgcpaaGreat
open Go.ChangeShapes Go.WideShapes Go.ChangeAt Go.RowKit
set_option linter.unusedVariables false
set_option linter.unusedSimpArgs false
set_option maxRecDepth 4000
def sum3 (U : List RV) : Option Rat := binQ addQ (binQ addQ (valU U 0) (valU U 1)) (valU U 2)
def intO (s : Option Rat) (U : List RV) : Option Rat := binQ mulQ s (binQ mulQ (sum3 U) (ofQ 1 3))
def CutI (W1 : World) (Sm : R3) (v5 : Value) (wx : World) : Prop :=
  ∃ (gg : Nat) (a5 : Ad), v5 = .pointer (some ⟨gg, 0, none⟩) ∧ W1.heap.size ≤ gg ∧ wx.heap[gg]? = some (.cells (r3 Sm a5) 29 (0, 0)) ∧ Rds wx (rows Sm a5) ∧ Below W1.heap.size W1 wx
attribute [local go_sem ↓] Go.wp_at_zero Go.wp_at_succ
set_option maxHeartbeats 4000000 in
theorem integral_m (p q r : PV) (U : List RV) (D : Option Addr) (d : Nat) (w : World) (h : TriOk w p q r) (hU : U.length = 3) (hL : ∀ p, p ∈ U → LenQ p) (hv : validB U = true) (hA : RdS w D (flatQ U)) (hR : Rds w (lrowQ U)) :
    Calls Tryz.prog 94 #[.agg (p18 p q r), .slice D 3 d] w (MadeQ w.heap.size (ofO (intO (aHalf p q r) U)) w) := by
  have HAr := Lib.hid (fun W (hB : Below w.heap.size w W) => show Calls Tryz.prog 91 #[.agg (p18 p q r)] W (MadeQ W.heap.size (ofO (aHalf p q r)) W) from area_m p q r W (h.below hB))
  have HOf := Lib.hid (fun W => show Calls Tryz.prog 82 #[.int .i64 1, .int .i64 3] W (MadeQ W.heap.size (ofO (ofQ 1 3)) W) from (impl_rof 1 3 W (by decide) (by decide)).mono fun e w' k => MadeR.toQ (x := ofO (ofQ 1 3)) k)
  have HTa := Lib.hid (fun (a c : Ad) W h h' => times_r (sum3 U) (ofQ 1 3) a c W (binadd_fit _ _) (ofQ_fit _ _) h h')
  have HTb := Lib.hid (fun (a c : Ad) W h h' => times_r (aHalf p q r) (binQ mulQ (sum3 U) (ofQ 1 3)) a c W (binmul_fit _ _) (binmul_fit _ _) h h')
  obtain ⟨u0, u1, u2, rfl⟩ := three_rv hU
  have n0 : u0.x = ofO (valx u0.x) := nice_ok (validB_at hv (i := 0) rfl)
  have n1 : u1.x = ofO (valx u1.x) := nice_ok (validB_at hv (i := 1) rfl)
  have n2 : u2.x = ofO (valx u2.x) := nice_ok (validB_at hv (i := 2) rfl)
  have es : sum3 [u0, u1, u2] = binQ addQ (binQ addQ (valx u0.x) (valx u1.x)) (valx u2.x) := rfl
  have HPa := Lib.hid (fun W h h' => show Calls Tryz.prog 78 #[.agg (r3 u0.x u0.a), .agg (r3 u1.x u1.a)] W (MadeQ W.heap.size (ofO (binQ addQ (valx u0.x) (valx u1.x))) W) from by
    have K := plus_r (valx u0.x) (valx u1.x) u0.a u1.a W (FitO.val _) (FitO.val _) (by rw [← n0]; exact h) (by rw [← n1]; exact h')
    rw [← n0, ← n1] at K; exact K)
  have HPb := Lib.hid (fun (a : Ad) W h h' => show Calls Tryz.prog 78 #[.agg (r3 (ofO (binQ addQ (valx u0.x) (valx u1.x))) a), .agg (r3 u2.x u2.a)] W (MadeQ W.heap.size (ofO (sum3 [u0, u1, u2])) W) from by
    have K := plus_r (binQ addQ (valx u0.x) (valx u1.x)) (valx u2.x) a u2.a W (binadd_fit _ _) (FitO.val _) h (by rw [← n2]; exact h')
    rw [← n2] at K; exact K)
  have hrd := Rds.cons hA hR
  obtain ⟨gu, ou, rfl, _⟩ : ∃ gu ou, D = some ⟨gu, ou, none⟩ ∧ True := by
    obtain ⟨g, o, h, _⟩ := hA.three (i := 0) (p := u0) rfl
    exact ⟨g, o, h, trivial⟩
  have LD : Hid (∀ W, Below w.heap.size w W → W.cell? ⟨gu, ou, none⟩ = some (.bool u0.x.p) ∧ W.cell? ⟨gu, ou + 1, none⟩ = some (.slice u0.a.A u0.x.l.length u0.a.c) ∧ W.cell? ⟨gu, ou + 2, none⟩ = some (.slice u0.a.D u0.x.m.length u0.a.d) ∧ W.cell? ⟨gu, ou + 3, none⟩ = some (.bool u1.x.p) ∧ W.cell? ⟨gu, ou + 3 + 1, none⟩ = some (.slice u1.a.A u1.x.l.length u1.a.c) ∧ W.cell? ⟨gu, ou + 3 + 2, none⟩ = some (.slice u1.a.D u1.x.m.length u1.a.d) ∧ W.cell? ⟨gu, ou + 6, none⟩ = some (.bool u2.x.p) ∧ W.cell? ⟨gu, ou + 6 + 1, none⟩ = some (.slice u2.a.A u2.x.l.length u2.a.c) ∧ W.cell? ⟨gu, ou + 6 + 2, none⟩ = some (.slice u2.a.D u2.x.m.length u2.a.d)) := Lib.hid (fun W hb => by
    have k := hA.below hb
    obtain ⟨_, _, he, _, c0, c1, c2⟩ := k.three (i := 0) (p := u0) rfl
    cases he
    obtain ⟨_, _, he, _, c3, c4, c5⟩ := k.three (i := 1) (p := u1) rfl
    cases he
    obtain ⟨_, _, he, _, c6, c7, c8⟩ := k.three (i := 2) (p := u2) rfl
    cases he
    exact ⟨c0, c1, c2, c3, c4, c5, c6, c7, c8⟩)
  have RU : Hid (∀ W, Below w.heap.size w W → Rds W (rows u0.x u0.a) ∧ Rds W (rows u1.x u1.a) ∧ Rds W (rows u2.x u2.a)) := Lib.hid (fun W hb => ⟨(hR.below hb).atQ (i := 0) (p := u0) rfl, (hR.below hb).atQ (i := 1) (p := u1) rfl, (hR.below hb).atQ (i := 2) (p := u2) rfl⟩)
  unfold intO
  clear hrd hA hR hL hv hU n0 n1 n2 es h
  generalize ofO (binQ mulQ (aHalf p q r) (binQ mulQ (sum3 [u0, u1, u2]) (ofQ 1 3))) = X at HTb ⊢
  generalize ofO (binQ mulQ (sum3 [u0, u1, u2]) (ofQ 1 3)) = Y at HTa HTb
  generalize ofO (sum3 [u0, u1, u2]) = Sm at HPb HTa
  generalize ofO (binQ addQ (valx u0.x) (valx u1.x)) = S1 at HPa HPb
  generalize ofO (aHalf p q r) = Sx at HAr HTb
  generalize ofO (ofQ 1 3) = Th at HOf HTa
  unfold MadeQ at HAr HOf HTa HTb HPa HPb
  obtain ⟨P_t, P_o⟩ := blocks2 w (.cells (p18 p q r) 81) (.cells z3 29)
  have kb := ba2 w (.cells (p18 p q r) 81) (.cells z3 29)
  go_enter Tryz.func94, Tryz.ntmps94
  go_wp2_with fail
  generalize (w.alloc (.cells (p18 p q r) 81)).alloc (.cells z3 29) = W1 at P_t P_o kb ⊢
  have HKB := Lib.hid (fun W' (hB : Below W1.heap.size W1 W') => bt kb hB)
  go_cut [5] (fun s5 wx => CutI W1 Sm s5 wx)
  case first =>
    clear P_t P_o kb HAr HOf HTa HTb
    refine wp_region_held_drew (S := fun w' => Below W1.heap.size W1 w') (by kernel_rfl) ((Below.refl _ _).drew) (fun hHeld => ?_)
    refine tk (i := 0) (v := ?vz0) rfl (by kernel_rfl) (fun _ _ _ h => h) (Or.inl ⟨by rfl, ?hz0⟩) hHeld ?_
    case hz0 => (intro w hSw; clear hSw; go_simp; (try with_reducible rfl))
    try simp only [ps]
    refine tk (i := 1) (v := ?vz1) rfl (by kernel_rfl) (fun _ _ _ h => h) (Or.inl ⟨by rfl, ?hz1⟩) hHeld ?_
    case hz1 => (intro w hSw; clear hSw; go_simp; (try with_reducible rfl))
    try simp only [ps]
    refine tk (i := 2) (v := ?vz2) rfl (by kernel_rfl) (fun _ _ _ h => h) (Or.inl ⟨by rfl, ?hz2⟩) hHeld ?_
    case hz2 => (intro w hSw; obtain ⟨z0, z1, z2, z3, z4, z5, z6, z7, z8⟩ := LD.out _ (HKB.out _ hSw); clear hSw; go_simp; (try with_reducible rfl))
    try simp only [ps]
    refine tk (i := 3) (v := ?vz3) rfl (by kernel_rfl) (fun _ _ _ h => h) (Or.inl ⟨by rfl, ?hz3⟩) hHeld ?_
    case hz3 => (intro w hSw; clear hSw; go_simp; (try with_reducible rfl))
    try simp only [ps]
    refine tk (i := 4) (v := ?vz4) rfl (by kernel_rfl) (fun _ _ _ h => h) (Or.inl ⟨by rfl, ?hz4⟩) hHeld ?_
    case hz4 => (intro w hSw; clear hSw; go_simp; (try with_reducible rfl))
    try simp only [ps]
    refine tk (i := 5) (v := ?vz5) rfl (by kernel_rfl) (fun _ _ _ h => h) (Or.inl ⟨by rfl, ?hz5⟩) hHeld ?_
    case hz5 => (intro w hSw; obtain ⟨z0, z1, z2, z3, z4, z5, z6, z7, z8⟩ := LD.out _ (HKB.out _ hSw); clear hSw; go_simp; (try with_reducible rfl))
    try simp only [ps]
    refine tk (i := 7) (v := ?vz7) rfl (by kernel_rfl) (fun _ _ _ h => h) (Or.inl ⟨by rfl, ?hz7⟩) hHeld ?_
    case hz7 => (intro w hSw; clear hSw; go_simp; (try with_reducible rfl))
    try simp only [ps]
    refine tk (i := 8) (v := ?vz8) rfl (by kernel_rfl) (fun _ _ _ h => h) (Or.inl ⟨by rfl, ?hz8⟩) hHeld ?_
    case hz8 => (intro w hSw; clear hSw; go_simp; (try with_reducible rfl))
    try simp only [ps]
    refine tk (i := 9) (v := ?vz9) rfl (by kernel_rfl) (fun _ _ _ h => h) (Or.inl ⟨by rfl, ?hz9⟩) hHeld ?_
    case hz9 => (intro w hSw; obtain ⟨z0, z1, z2, z3, z4, z5, z6, z7, z8⟩ := LD.out _ (HKB.out _ hSw); clear hSw; go_simp; (try with_reducible rfl))
    try simp only [ps]
    have hz0 : W1.heap.size ≤ W1.drew.heap.size := Nat.le_refl _
    generalize W1.drew = Wd at *
    refine wpAnyH_ready (rs := [6, 11]) (by kernel_rfl) (by simp) ?_
    refine rc1 rfl (fun K hK => ?_) (rc1 rfl (fun K hK => ?_) AllReadyH.nil)
    · skip
      go_simp
      (go_at_call 78; ((with_reducible refine (HPa.out _ (RU.out _ (HKB.out _ hHeld)).1 (RU.out _ (HKB.out _ hHeld)).2.1).mono ?_); rintro e Wg1 ⟨a4, rfl, -, -, o4, -, hb⟩))
      have hzWg1 : Wd.heap.size ≤ Wg1.heap.size := hb.size
      refine hK.out _ _ (bt hHeld hb) (fun hH => ?_)
      clear hK K hHeld hb
      have hHeld := hH
      clear hH
      try simp only [ps]
      refine wpAnyH_ready (rs := [10, 11]) (by kernel_rfl) (by simp) ?_
      refine rc1 rfl (fun K hK => ?_) (rc1 rfl (fun K hK => ?_) AllReadyH.nil)
      · skip
        go_simp
        (go_at_call 78; ((with_reducible refine (HPb.out _ _ o4.rds (RU.out _ (HKB.out _ hHeld)).2.2).mono ?_); rintro e Wg2 ⟨a5, rfl, -, -, o5, -, hb⟩))
        have hzWg2 : Wg1.heap.size ≤ Wg2.heap.size := hb.size
        replace o4 := o4.below hb
        refine hK.out _ _ (bt hHeld hb) (fun hH => ?_)
        clear hK K hHeld hb
        have hHeld := hH
        clear hH
        try simp only [ps]
        refine rd1 (i := 11) (by kernel_rfl) rfl (fun K hK => ?_)
        go_simp
        have P_g := heap_alloc_new Wg2 (.cells z3 29)
        have hb := ba1 Wg2 (.cells z3 29)
        have hzWg3 : Wg2.heap.size < (Wg2.alloc (.cells z3 29)).heap.size := by rw [sz1]; omega
        replace o4 := o4.below hb
        replace o5 := o5.below hb
        refine hK.out _ _ (bt hHeld hb) (fun hH => ?_)
        clear hK K hHeld hb
        have hHeld := hH
        clear hH
        try simp only [ps]
        generalize Wg2.alloc (.cells z3 29) = Wg3 at hzWg3 hHeld P_g o4 o5 ⊢
        have hgW : W1.heap.size ≤ Wg2.heap.size := by omega
        refine rd1 (i := 12) (by kernel_rfl) rfl (fun K hK => ?_)
        have t0 := rblk_cell P_g 0
        have q0 := rblk_free P_g 0
        have t1 := rblk_cell P_g 1
        have q1 := rblk_free P_g 1
        have t2 := rblk_cell P_g 2
        have q2 := rblk_free P_g 2
        go_simp
        clear t0 t1 t2 q0 q1 q2
        refine hK.out _ _ (below_put3 hHeld hgW (.bool Sm.p) (.slice a5.A Sm.l.length a5.c) (.slice a5.D Sm.m.length a5.d)) (fun hH => ?_)
        clear hK K hHeld
        have hHeld := hH
        clear hH
        replace P_g := rblk_set (rblk_set (rblk_set P_g 0 (.bool Sm.p)) 1 (.slice a5.A Sm.l.length a5.c)) 2 (.slice a5.D Sm.m.length a5.d)
        replace o5 := owns_put3 (r := Wg2.heap.size) o5 (by omega) (.bool Sm.p) (.slice a5.A Sm.l.length a5.c) (.slice a5.D Sm.m.length a5.d)
        try simp only [ps]
        refine wpAnyH_done (by kernel_rfl) ?_ _
        go_wp2_with fail
        go_meet
        exact ⟨_, a5, rfl, hgW, P_g, o5.rds, hHeld⟩
      · skip
        go_simp
        have P_g := heap_alloc_new Wg1 (.cells z3 29)
        have hb := ba1 Wg1 (.cells z3 29)
        have hzWg4 : Wg1.heap.size < (Wg1.alloc (.cells z3 29)).heap.size := by rw [sz1]; omega
        replace o4 := o4.below hb
        refine hK.out _ _ (bt hHeld hb) (fun hH => ?_)
        clear hK K hHeld hb
        have hHeld := hH
        clear hH
        try simp only [ps]
        generalize Wg1.alloc (.cells z3 29) = Wg4 at hzWg4 hHeld P_g o4 ⊢
        refine rd1 (i := 10) (by kernel_rfl) rfl (fun K hK => ?_)
        go_simp
        (go_at_call 78; ((with_reducible refine (HPb.out _ _ o4.rds (RU.out _ (HKB.out _ hHeld)).2.2).mono ?_); rintro e Wg5 ⟨a5, rfl, -, -, o5, -, hb⟩))
        have hzWg5 : Wg4.heap.size ≤ Wg5.heap.size := hb.size
        replace P_g := rblk_below P_g hb
        replace o4 := o4.below hb
        refine hK.out _ _ (bt hHeld hb) (fun hH => ?_)
        clear hK K hHeld hb
        have hHeld := hH
        clear hH
        try simp only [ps]
        have hgW : W1.heap.size ≤ Wg1.heap.size := by omega
        refine rd1 (i := 12) (by kernel_rfl) rfl (fun K hK => ?_)
        have t0 := rblk_cell P_g 0
        have q0 := rblk_free P_g 0
        have t1 := rblk_cell P_g 1
        have q1 := rblk_free P_g 1
        have t2 := rblk_cell P_g 2
        have q2 := rblk_free P_g 2
        go_simp
        clear t0 t1 t2 q0 q1 q2
        refine hK.out _ _ (below_put3 hHeld hgW (.bool Sm.p) (.slice a5.A Sm.l.length a5.c) (.slice a5.D Sm.m.length a5.d)) (fun hH => ?_)
        clear hK K hHeld
        have hHeld := hH
        clear hH
        replace P_g := rblk_set (rblk_set (rblk_set P_g 0 (.bool Sm.p)) 1 (.slice a5.A Sm.l.length a5.c)) 2 (.slice a5.D Sm.m.length a5.d)
        replace o5 := owns_put3 (r := Wg1.heap.size) o5 (by omega) (.bool Sm.p) (.slice a5.A Sm.l.length a5.c) (.slice a5.D Sm.m.length a5.d)
        try simp only [ps]
        refine wpAnyH_done (by kernel_rfl) ?_ _
        go_wp2_with fail
        go_meet
        exact ⟨_, a5, rfl, hgW, P_g, o5.rds, hHeld⟩
    · skip
      go_simp
      have P_g := heap_alloc_new Wd (.cells z3 29)
      have hb := ba1 Wd (.cells z3 29)
      have hzWg6 : Wd.heap.size < (Wd.alloc (.cells z3 29)).heap.size := by rw [sz1]; omega
      refine hK.out _ _ (bt hHeld hb) (fun hH => ?_)
      clear hK K hHeld hb
      have hHeld := hH
      clear hH
      try simp only [ps]
      generalize Wd.alloc (.cells z3 29) = Wg6 at hzWg6 hHeld P_g ⊢
      refine rd1 (i := 6) (by kernel_rfl) rfl (fun K hK => ?_)
      go_simp
      (go_at_call 78; ((with_reducible refine (HPa.out _ (RU.out _ (HKB.out _ hHeld)).1 (RU.out _ (HKB.out _ hHeld)).2.1).mono ?_); rintro e Wg7 ⟨a4, rfl, -, -, o4, -, hb⟩))
      have hzWg7 : Wg6.heap.size ≤ Wg7.heap.size := hb.size
      replace P_g := rblk_below P_g hb
      refine hK.out _ _ (bt hHeld hb) (fun hH => ?_)
      clear hK K hHeld hb
      have hHeld := hH
      clear hH
      try simp only [ps]
      refine rd1 (i := 10) (by kernel_rfl) rfl (fun K hK => ?_)
      go_simp
      (go_at_call 78; ((with_reducible refine (HPb.out _ _ o4.rds (RU.out _ (HKB.out _ hHeld)).2.2).mono ?_); rintro e Wg8 ⟨a5, rfl, -, -, o5, -, hb⟩))
      have hzWg8 : Wg7.heap.size ≤ Wg8.heap.size := hb.size
      replace P_g := rblk_below P_g hb
      replace o4 := o4.below hb
      refine hK.out _ _ (bt hHeld hb) (fun hH => ?_)
      clear hK K hHeld hb
      have hHeld := hH
      clear hH
      try simp only [ps]
      have hgW : W1.heap.size ≤ Wd.heap.size := by omega
      refine rd1 (i := 12) (by kernel_rfl) rfl (fun K hK => ?_)
      have t0 := rblk_cell P_g 0
      have q0 := rblk_free P_g 0
      have t1 := rblk_cell P_g 1
      have q1 := rblk_free P_g 1
      have t2 := rblk_cell P_g 2
      have q2 := rblk_free P_g 2
      go_simp
      clear t0 t1 t2 q0 q1 q2
      refine hK.out _ _ (below_put3 hHeld hgW (.bool Sm.p) (.slice a5.A Sm.l.length a5.c) (.slice a5.D Sm.m.length a5.d)) (fun hH => ?_)
      clear hK K hHeld
      have hHeld := hH
      clear hH
      replace P_g := rblk_set (rblk_set (rblk_set P_g 0 (.bool Sm.p)) 1 (.slice a5.A Sm.l.length a5.c)) 2 (.slice a5.D Sm.m.length a5.d)
      replace o5 := owns_put3 (r := Wd.heap.size) o5 (by omega) (.bool Sm.p) (.slice a5.A Sm.l.length a5.c) (.slice a5.D Sm.m.length a5.d)
      try simp only [ps]
      refine wpAnyH_done (by kernel_rfl) ?_ _
      go_wp2_with fail
      go_meet
      exact ⟨_, a5, rfl, hgW, P_g, o5.rds, hHeld⟩
  case rest =>
    obtain ⟨gg, a5, rfl, hgg, P_g, r5, hb⟩ := hcut
    have HNE : Hid (w.heap.size + 1 ≠ gg) := Lib.hid (by have := rblk_lt P_o; omega)
    clear hgg
    replace P_t := rblk_below P_t hb
    replace P_o := rblk_below P_o hb
    replace kb := bt kb hb
    clear hb HKB LD RU HPa HPb
    obtain ⟨W2, hW2⟩ : ∃ W, W = wc := ⟨_, rfl⟩
    subst hW2
    have HG : Hid (w.heap.size + 1 < W2.heap.size) := Lib.hid (rblk_lt P_o)
    go_wp2_with fail
    have hb : Below W2.heap.size W2 W2.drew := (Below.refl _ _).drew
    replace P_o := rblk_below P_o hb
    replace r5 := r5.below hb
    replace kb := bt kb hb
    have hzW : W2.heap.size ≤ W2.drew.heap.size := Nat.le_refl _
    clear hb
    refine wp_region_held_drew (S := fun w' => w'.heap[w.heap.size]? = some (.cells (p18 p q r) 81 (0, 0)) ∧ w'.heap[gg]? = some (.cells (r3 Sm a5) 29 (0, 0))) (by kernel_rfl) ⟨P_t, P_g⟩ (fun hHeld => ?_)
    clear P_t P_g
    generalize W2.drew = Wd at *
    refine tk (i := 0) (v := .agg (p18 p q r)) rfl (by kernel_rfl) (fun _ _ _ h => h) (yieldsIf_load_mid (by rfl) 81 (.tmp 2) rfl (w.heap.size) 0 rfl [.bool p.x.p, .slice p.a.A p.x.l.length p.a.c, .slice p.a.D p.x.m.length p.a.d, .bool p.y.p, .slice p.b.A p.y.l.length p.b.c, .slice p.b.D p.y.m.length p.b.d, .bool q.x.p, .slice q.a.A q.x.l.length q.a.c, .slice q.a.D q.x.m.length q.a.d, .bool q.y.p, .slice q.b.A q.y.l.length q.b.c, .slice q.b.D q.y.m.length q.b.d, .bool r.x.p, .slice r.a.A r.x.l.length r.a.c, .slice r.a.D r.x.m.length r.a.d, .bool r.y.p, .slice r.b.A r.y.l.length r.b.c, .slice r.b.D r.y.m.length r.b.d] _ (fun w hSw => range_row hSw.1) Tryz.underlying81 rfl tri_size) hHeld ?_
    try simp only [ps]
    refine tk (i := 2) (v := ?vg4_2) rfl (by kernel_rfl) (fun _ _ _ h => h) (Or.inl ⟨by rfl, ?hg4_2⟩) hHeld ?_
    case hg4_2 => (intro w hSw; (try dsimp only at hSw); have t0 := rblk_cell hSw.2 0; have t1 := rblk_cell hSw.2 1; have t2 := rblk_cell hSw.2 2; go_simp; (try with_reducible rfl))
    try simp only [ps]
    refine rd1 (i := 1) (by kernel_rfl) rfl (fun K hK => ?_)
    go_simp
    (go_at_call 91; ((with_reducible refine (HAr.out _ kb).mono ?_); rintro e Wr4_3 ⟨a0, rfl, _, _, o0, _, hb⟩))
    refine hK.out _ _ ⟨rblk_below hHeld.1 hb, rblk_below hHeld.2 hb⟩ (fun hH => ?_)
    replace hHeld := hH
    clear hK K hH
    replace P_o := rblk_below P_o hb
    replace r5 := r5.below hb
    replace kb := bt kb hb
    have hz1 := hb.size
    clear hb
    try simp only [ps]
    refine rd1 (i := 3) (by kernel_rfl) rfl (fun K hK => ?_)
    go_simp
    (go_at_call 82; ((with_reducible refine (HOf.out _).mono ?_); rintro e Wr4_4 ⟨a1, rfl, _, _, o1, _, hb⟩))
    refine hK.out _ _ ⟨rblk_below hHeld.1 hb, rblk_below hHeld.2 hb⟩ (fun hH => ?_)
    replace hHeld := hH
    clear hK K hH
    replace P_o := rblk_below P_o hb
    replace r5 := r5.below hb
    replace kb := bt kb hb
    replace o0 := o0.below hb
    have hz2 := hb.size
    clear hb
    try simp only [ps]
    refine rd1 (i := 4) (by kernel_rfl) rfl (fun K hK => ?_)
    go_simp
    (go_at_call 140; ((with_reducible refine (HTa.out _ _ _ r5 o1.rds).mono ?_); rintro e Wr4_5 ⟨a2, rfl, _, _, o2, _, hb⟩))
    refine hK.out _ _ ⟨rblk_below hHeld.1 hb, rblk_below hHeld.2 hb⟩ (fun hH => ?_)
    replace hHeld := hH
    clear hK K hH
    replace P_o := rblk_below P_o hb
    replace r5 := r5.below hb
    replace kb := bt kb hb
    replace o0 := o0.below hb
    replace o1 := o1.below hb
    have hz3 := hb.size
    clear hb
    try simp only [ps]
    refine rd1 (i := 5) (by kernel_rfl) rfl (fun K hK => ?_)
    go_simp
    (go_at_call 140; ((with_reducible refine (HTb.out _ _ _ o0.rds o2.rds).mono ?_); rintro e Wr4_6 ⟨a3, rfl, hcx, hcy, o3, hap3, hb⟩))
    refine hK.out _ _ ⟨rblk_below hHeld.1 hb, rblk_below hHeld.2 hb⟩ (fun hH => ?_)
    replace hHeld := hH
    clear hK K hH
    replace P_o := rblk_below P_o hb
    replace r5 := r5.below hb
    replace kb := bt kb hb
    replace o0 := o0.below hb
    replace o1 := o1.below hb
    replace o2 := o2.below hb
    clear hb
    try simp only [ps]
    refine rd1 (i := 6) (by kernel_rfl) rfl (fun K hK => ?_)
    have t0 := rblk_cell P_o 0
    have q0 := rblk_free P_o 0
    have t1 := rblk_cell P_o 1
    have q1 := rblk_free P_o 1
    have t2 := rblk_cell P_o 2
    have q2 := rblk_free P_o 2
    go_simp
    clear t0 q0 t1 q1 t2 q2
    have ne : w.heap.size + 1 ≠ w.heap.size := by omega
    refine hK.out _ _ ⟨rblk_other (rblk_other (rblk_other hHeld.1 0 (.bool X.p) ne) 1 (.slice a3.A X.l.length a3.c) ne) 2 (.slice a3.D X.m.length a3.d) ne, rblk_other (rblk_other (rblk_other hHeld.2 0 (.bool X.p) HNE.out) 1 (.slice a3.A X.l.length a3.c) HNE.out) 2 (.slice a3.D X.m.length a3.d) HNE.out⟩ (fun hH => ?_)
    clear hK K hHeld
    have hHeld := hH
    clear hH
    have P_f := rblk_set (rblk_set (rblk_set P_o 0 (.bool X.p)) 1 (.slice a3.A X.l.length a3.c)) 2 (.slice a3.D X.m.length a3.d)
    try simp only [ps]
    refine wpAnyH_done (by kernel_rfl) ?_ _
    have o0c := rblk_cell P_f 0
    have o1c := rblk_cell P_f 1
    have o2c := rblk_cell P_f 2
    go_wp2
    exact bodyPost_ret (v := .agg (r3 X a3)) (by simp [results, Tryz.results94, go_sem, o0c, o1c, o2c]) rfl ⟨a3, rfl, hcx, hcy, owns_end3 o3 (.inl (by have := HG.out; omega)) (by have := HG.out; omega) (Nat.le_refl _) _ _ _, hap3, below_put3 kb (by omega) _ _ _⟩
end Go.Proofs.YtppdholccpgcpaaGreat
