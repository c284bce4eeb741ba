/-
  The model's ApplyMatrix, l11Full.
-/
import Derived.Test.YtennekieiioilaaGreatApW
import Derived.Test.YtennekieiioilaaGreatTk
namespace Go.Proofs.YtennekieiioilaaGreat
open Go.ChangeShapes Go.WideShapes Go.ChangeAt Go.RowKit
open Go.ChangeMaps (open_string shut_string)
set_option linter.unusedVariables false
set_option linter.unusedSimpArgs false
set_option maxRecDepth 4000

attribute [local go_sem ↓] Go.wp_at_zero Go.wp_at_succ
set_option maxHeartbeats 4000000 in
theorem spec_apply0 (R : List MR) (A : Option Addr) (c : Nat) (U : List RV) (D : Option Addr) (d : Nat) (w : World) (hfit : fitX R U = true) (hL : ∀ p, p ∈ R → LenX p) (hA : RdS w A (flatX R)) (hR : Rds w (lrowX R)) (hL' : ∀ p, p ∈ U → LenQ p) (hA' : RdS w D (flatQ U)) (hR' : Rds w (lrowQ U)) :
    Calls Tryz.prog 43 #[.agg #[.slice A R.length c], .slice D U.length d] w (MadeRS w.heap.size (sumL R U) w) := by
  have HF := Lib.hid (fitX_get hfit)
  have RX : Hid (∀ W, Below w.heap.size w W → (RdS W A (flatX R) ∧ Rds W (lrowX R)) ∧ RdS W D (flatQ U) ∧ Rds W (lrowQ U)) := Lib.hid (fun W hb => ⟨⟨hA.below hb, hR.below hb⟩, hA'.below hb, hR'.below hb⟩)
  have HL := Lib.hid (And.intro hL hL')
  obtain ⟨n, hnn⟩ : ∃ n, n = R.length := ⟨_, rfl⟩
  have hnu : n = U.length := hnn.trans HF.out.2.1.symm
  have HN := Lib.hid (And.intro hnn hnu)
  have hn40 : n ≤ 40 := by rw [hnn]; exact HF.out.1
  rw [← hnn, ← hnu]
  have HALL := Lib.hid (sumL_all (R := R) (U := U) hnn)
  have HZ := Lib.hid (fun W => show Calls Tryz.prog 53 #[.int .i64 0] W (MadeQ W.heap.size (ofO (some 0)) W) from (spec_rfi 0 W (by decide)).mono fun e w' k => MadeR.toQ (x := ofO (some 0)) k)
  unfold MadeQ at HZ
  obtain ⟨Z0, hZ0⟩ : ∃ Z, Z = ofO (some (0 : Rat)) := ⟨_, rfl⟩
  rw [← hZ0] at HZ
  have HZ0 := Lib.hid hZ0
  clear hZ0 hA hR hL hA' hR' hL' hfit hnn hnu
  have P_a := heap_alloc_new w (.cells #[.slice A n c] 34)
  have kb := ba1 w (.cells #[.slice A n c] 34)
  have hs1 : (w.alloc (.cells #[.slice A n c] 34)).heap.size = w.heap.size + 1 := by rw [sz1]
  have k2 := ba1 (w.alloc (.cells #[.slice A n c] 34)) (.cells #[] 30)
  have a0 := rblk_cell P_a 0
  have a1 := rblk_cell (rblk_below P_a k2) 0
  have HS1 := Lib.hid hs1
  have KB := Lib.hid kb
  have PA := Lib.hid P_a
  clear hs1 kb P_a k2
  go_enter Tryz.func43, Tryz.ntmps43
  go_wp2_with fail
  clear a0 a1
  have hs1 := HS1.out
  have kb := KB.out
  have P_a := PA.out
  clear HS1 KB PA
  generalize w.alloc (.cells #[.slice A n c] 34) = W1 at P_a kb hs1 ⊢
  have HW : Hid (∀ W, Below W1.heap.size W1 W → Below w.heap.size w W) := Lib.hid (fun W hB => bt kb hB)
  have HB0 : Hid (w.heap.size ≤ W1.heap.size) := Lib.hid kb.size
  have hown := World.ownsRow_made (base := W1.heap.size) (e := 30) (size := 3) W1 #[] 0 (Nat.le_refl _) (by decide) rfl
  have k2 := ba1 W1 (.cells #[] 30)
  try rw [← hs1]
  clear P_a kb hs1
  go_loopw [15, 5] (fun k v w' => ∃ (i : Nat) (M : List RV) (E : Option Addr) (e : Nat), i ≤ n ∧ k = .int .i64 (i : Int) ∧ v = .slice E M.length e ∧ M.length = i ∧ w'.ownsRow W1.heap.size 30 3 (.slice E M.length e) M.length (flatQ M) ∧ datQ M = datQ (sumL (R.take i) U) ∧ (∀ q, q ∈ M → CapQ q) ∧ Owns W1.heap.size w'.heap.size w' (lrowQ M) ∧ Aparts (lrowQ M) ∧ Below W1.heap.size W1 w') (fun k _ _ => n - (intOf k).toNat)
  case atStart => exact ⟨0, [], _, _, by omega, rfl, rfl, rfl, hown, rfl, (fun q hq => by cases hq), Owns.nil _ _ _, Aparts.nil, k2⟩
  case round =>
    clear hown k2
    obtain ⟨i, M, E, e, hi, rfl, rfl, hMl, hown, hd, hcap, hO, hap, kV⟩ := hrel
    obtain ⟨V, hVn⟩ : ∃ V, V = wr := ⟨_, rfl⟩
    subst hVn
    have HVZ : Hid (∀ g, (Value.slice E M.length e).ownBlock = some g → g < V.heap.size) := Lib.hid (fun g h => (hown.lt g h).2)
    have HOR := Lib.hid (And.intro hown (And.intro hd (And.intro hO (And.intro hap (And.intro hMl hcap)))))
    have KV := Lib.hid kV
    clear hown hd hO hap hcap hMl
    by_cases hlt : i < n
    · obtain ⟨p, hp⟩ := getX (L := R) (i := i) (by rw [← HN.out.1]; exact hlt)
      have kw0 := HW.out _ kV
      have hrow := (RX.out _ kw0).1.2.atX hp
      have RU : Hid (∀ W, Below V.heap.size V W → RdS W D (flatQ U) ∧ Rds W (lrowQ U)) := Lib.hid (fun W hb => (RX.out _ (bt kw0 hb)).2)
      obtain ⟨g, o, rfl, _, c0, c1⟩ := (RX.out _ kw0).1.1.two hp
      have RP : Hid (∀ W, Below V.heap.size V W → Rds W (rmx p)) := Lib.hid (fun W hb => hrow.below hb)
      have LP := Lib.hid (HL.out.1 p (List.mem_of_getElem? hp))
      have HR1 := Lib.hid (HF.out.2.2.2 i p hp)
      obtain ⟨m, hm⟩ : ∃ m, m = p.cs.length := ⟨_, rfl⟩
      have HM := Lib.hid (And.intro hm (hm.trans HR1.out.1))
      have hm63 : m ≤ 9223372036854775807 := by rw [hm]; exact LP.out.1
      rw [← hm] at c0
      rw [← HR1.out.1, ← hm] at c1
      have hi0 : (0 : Int) ≤ (i : Int) := by omega
      have hi1 : (i : Int) < (n : Int) := by omega
      have HPA := Lib.hid (rowPr_all (p := p) (U := U) hm)
      have P_e := heap_alloc_new V (.cells #[.slice p.A m p.c, .slice p.B m p.d] 71)
      have hb := ba1 V (.cells #[.slice p.A m p.c, .slice p.B m p.d] 71)
      have e0 := rblk_cell P_e 0
      have e1 := rblk_cell P_e 1
      have HP := Lib.hid hp
      clear hrow hm kV kw0 hp
      go_wp2_with fail
      clear c0 c1 e0 e1
      generalize V.alloc (.cells #[.slice p.A m p.c, .slice p.B m p.d] 71) = Wb at P_e hb ⊢
      refine (HZ.out _).mono ?_
      rintro ee W2 ⟨a0, rfl, hc1, hc2, o0, hap0, hb0⟩
      replace o0 := o0.wide hb.size (Nat.le_refl _)
      have hgl : V.heap.size < W2.heap.size := Nat.lt_of_lt_of_le (rblk_lt P_e) hb0.size
      replace P_e := rblk_below P_e hb0
      have kW2 := bt hb hb0
      clear hb hb0
      have P_l := heap_alloc_new W2 (.cells #[.bool Z0.p, .slice a0.A Z0.l.length a0.c, .slice a0.D Z0.m.length a0.d] 30)
      have hb2 := ba1 W2 (.cells #[.bool Z0.p, .slice a0.A Z0.l.length a0.c, .slice a0.D Z0.m.length a0.d] 30)
      have HE : Hid (∀ W, Below W2.heap.size W2 W → W.heap[V.heap.size]? = some (.cells #[.slice p.A m p.c, .slice p.B m p.d] 71 (0, 0))) := Lib.hid (fun W hB => rblk_below P_e hB)
      replace P_e := rblk_below P_e hb2
      replace o0 := (o0.below hb2).wide (Nat.le_refl _) hb2.size
      have KW2 := Lib.hid kW2
      have HGL := Lib.hid hgl
      have e0 := rblk_cell P_e 0
      clear kW2 hgl P_e
      go_wp2_with fail
      clear e0
      generalize W2.alloc (.cells #[.bool Z0.p, .slice a0.A Z0.l.length a0.c, .slice a0.D Z0.m.length a0.d] 30) = W3 at P_l o0 hb2 ⊢
      go_loopw [23] (fun k w' => ∃ (j : Nat) (X : R3) (a : Ad), j ≤ m ∧ k = .int .i64 (j : Int) ∧ X = ofO (accX (some 0) ((rowPr p U).take j)) ∧ (X.l.length ≤ a.c ∧ X.m.length ≤ a.d) ∧ w'.heap[W2.heap.size]? = some (.cells #[.bool X.p, .slice a.A X.l.length a.c, .slice a.D X.m.length a.d] 30 (0, 0)) ∧ Owns V.heap.size w'.heap.size w' (rows X a) ∧ Aparts (rows X a) ∧ Below W2.heap.size W2 w') (fun k _ => m - (intOf k).toNat)
      case atStart => exact ⟨0, Z0, a0, Nat.zero_le _, rfl, HZ0.out, ⟨hc1, hc2⟩, P_l, o0, hap0, hb2⟩
      case round =>
        clear P_l o0 hc1 hc2 hap0 hb2
        obtain ⟨j, X, ax, hj, rfl, hX, hcx, P_l, ol, hapl, kw⟩ := hrel
        by_cases hlj : j < m
        · obtain ⟨z, hz⟩ : ∃ z, p.cs[j]? = some z := ⟨p.cs[j]'(by rw [← HM.out.1]; exact hlj), List.getElem?_eq_getElem _⟩
          obtain ⟨v, hv⟩ := getQ (L := p.V) (i := j) (by rw [← HM.out.2]; exact hlj)
          obtain ⟨y, rfl, hy⟩ := HR1.out.2.2 j z hz
          rw [← HN.out.1] at hy
          obtain ⟨u, hu⟩ := getQ (L := U) (i := y) (by rw [← HN.out.2]; exact hy)
          have kVw := bt KW2.out kw
          obtain ⟨gc, oc, ea, _, cz⟩ := vi_cell (RP.out _ kVw).hd hz
          obtain ⟨gv, ov, eb, _, _, _, _⟩ := (RP.out _ kVw).tl.hd.three hv
          obtain ⟨gu, ou, rfl, _, _, _, _⟩ := (RU.out _ kVw).1.three hu
          have lp := LP.out.2.2 v (List.mem_of_getElem? hv)
          have lq := HL.out.2 u (List.mem_of_getElem? hu)
          have f1 : FitO (accX (some 0) ((rowPr p U).take j)) := accX_fit zero_fitO _
          have HMU := Lib.hid (fun (a c : Ad) W h h' => specmul_x v.x u.x a c W lp.1 lp.2 lq.1 lq.2 h h')
          have HS := Lib.hid (fun (a c : Ad) W h h' => specadd_x (accX (some 0) ((rowPr p U).take j)) (binQ mulQ (valx v.x) (valx u.x)) a c W f1 (mulX_fit _ _) h h')
          have HX2 : Hid (ofO (binQ addQ (accX (some 0) ((rowPr p U).take j)) (binQ mulQ (valx v.x) (valx u.x))) = ofO (accX (some 0) ((rowPr p U).take (j + 1)))) := Lib.hid (by rw [rowPr_step hz hv hu, accX_app])
          rw [← hX] at HS
          clear hX f1 lp lq
          generalize ofO (binQ addQ (accX (some 0) ((rowPr p U).take j)) (binQ mulQ (valx v.x) (valx u.x))) = X2 at HS HX2
          generalize ofO (binQ mulQ (valx v.x) (valx u.x)) = VV at HMU HS
          unfold MadeQ at HMU HS
          have HQ := Lib.hid hu
          have HV := Lib.hid hv
          have HEB := Lib.hid eb
          have hj0 : (0 : Int) ≤ (j : Int) := by omega
          have hj1 : (j : Int) < (m : Int) := by omega
          have hy0 : (0 : Int) ≤ (y : Int) := by omega
          have hy1 : (y : Int) < (n : Int) := by omega
          have P_e := HE.out _ kw
          rw [ea, eb] at P_e
          rw [ea]
          have e0 := rblk_cell P_e 0
          have ol2 := ol.rds
          have ne_e : W2.heap.size ≠ V.heap.size := by have := HGL.out; omega
          have KW := Lib.hid kw
          have HGR := Lib.hid (RP.out _ kVw)
          have HUR := Lib.hid (RU.out _ kVw)
          clear ea eb hz hv hu hapl hcx ol kVw
          go_wp2_with fail
          clear cz e0 kw
          have KST := Keep3.start P_l
          refine wp_region_held_drew (S := fun w' => Keep3 wr w' W2.heap.size) (by kernel_rfl) (KST.drew) (fun hHeld => ?_)
          have P_c : wr.drew.heap[W2.heap.size]? = some (.cells #[.bool X.p, .slice ax.A X.l.length ax.c, .slice ax.D X.m.length ax.d] 30 (0, 0)) := P_l
          have HRw : Rds wr.drew (rows X ax) := ol2.below ((Below.refl _ _).drew)
          have HRp : Rds wr.drew (rows v.x v.a) := (HGR.out.tl.tl.atQ HV.out).below ((Below.refl _ _).drew)
          have HRq : Rds wr.drew (rows u.x u.a) := (HUR.out.2.atQ HQ.out).below ((Below.refl _ _).drew)
          clear ol2
          refine tk (i := 1) (v := ?vg1_1) rfl (by kernel_rfl) (fun _ _ _ h => h) (Or.inl ⟨by rfl, ?hg1_1⟩) hHeld ?_
          case hg1_1 => (intro w hSw; (try dsimp only at hSw); clear hSw; go_simp; (try with_reducible rfl))
          try simp only [ps]
          refine tk (i := 2) (v := ?vg1_2) rfl (by kernel_rfl) (fun _ _ _ h => h) (Or.inl ⟨by rfl, ?hg1_2⟩) hHeld ?_
          case hg1_2 => (intro w hSw; (try dsimp only at hSw); have z1 := rblk_cell (hSw.block P_e ne_e) 1; clear hSw; go_simp; (try with_reducible rfl))
          try simp only [ps]
          refine tk (i := 3) (v := ?vg1_3) rfl (by kernel_rfl) (fun _ _ _ h => h) (Or.inl ⟨by rfl, ?hg1_3⟩) hHeld ?_
          case hg1_3 => (intro w hSw; (try dsimp only at hSw); clear hSw; go_simp; (try with_reducible rfl))
          try simp only [ps]
          refine tk (i := 4) (v := ?vg1_4) rfl (by kernel_rfl) (fun _ _ _ h => h) (Or.inl ⟨by rfl, ?hg1_4⟩) hHeld ?_
          case hg1_4 => (intro w hSw; (try dsimp only at hSw); clear hSw; go_simp; (try with_reducible rfl))
          try simp only [ps]
          refine tk (i := 5) (v := ?vg1_5) rfl (by kernel_rfl) (fun _ _ _ h => h) (Or.inl ⟨by rfl, ?hg1_5⟩) hHeld ?_
          case hg1_5 => (intro w hSw; (try dsimp only at hSw); obtain ⟨_, _, he, _, z0, z1, z2⟩ := (RP.out _ (bt KW2.out (hSw.base KW.out (Nat.le_refl _)))).tl.hd.three HV.out; have he2 := HEB.out.symm.trans he; cases he2; clear hSw he; go_simp; (try with_reducible rfl))
          try simp only [ps]
          refine tk (i := 6) (v := ?vg1_6) rfl (by kernel_rfl) (fun _ _ _ h => h) (Or.inl ⟨by rfl, ?hg1_6⟩) hHeld ?_
          case hg1_6 => (intro w hSw; (try dsimp only at hSw); clear hSw; go_simp; (try with_reducible rfl))
          try simp only [ps]
          refine tk (i := 7) (v := ?vg1_7) rfl (by kernel_rfl) (fun _ _ _ h => h) (Or.inl ⟨by rfl, ?hg1_7⟩) hHeld ?_
          case hg1_7 => (intro w hSw; (try dsimp only at hSw); clear hSw; go_simp; (try with_reducible rfl))
          try simp only [ps]
          refine tk (i := 8) (v := ?vg1_8) rfl (by kernel_rfl) (fun _ _ _ h => h) (Or.inl ⟨by rfl, ?hg1_8⟩) hHeld ?_
          case hg1_8 => (intro w hSw; (try dsimp only at hSw); clear hSw; go_simp; (try with_reducible rfl))
          try simp only [ps]
          refine tk (i := 9) (v := ?vg1_9) rfl (by kernel_rfl) (fun _ _ _ h => h) (Or.inl ⟨by rfl, ?hg1_9⟩) hHeld ?_
          case hg1_9 => (intro w hSw; (try dsimp only at hSw); obtain ⟨_, _, he, _, z0, z1, z2⟩ := (RU.out _ (bt KW2.out (hSw.base KW.out (Nat.le_refl _)))).1.three HQ.out; cases he; clear hSw; go_simp; (try with_reducible rfl))
          try simp only [ps]
          refine wpAnyH_ready (rs := [0, 10]) (by kernel_rfl) (by simp) ?_
          refine rc1 rfl (fun K hK => ?_) (rc1 rfl (fun K hK => ?_) AllReadyH.nil)
          · skip
            have t0 := rblk_cell P_c 0
            have t1 := rblk_cell P_c 1
            have t2 := rblk_cell P_c 2
            go_simp
            clear t0 t1 t2
            refine hK.out _ _ hHeld (fun hH => ?_)
            clear hK K hH
            try simp only [ps]
            refine rd1 (i := 10) (by kernel_rfl) rfl (fun K hK => ?_)
            go_simp
            (go_at_call 65; ((with_reducible refine (HMU.out _ _ _ HRp HRq).mono ?_); rintro e Wr1_10 ⟨am, rfl, hmx, hmy, om, hapm, hb⟩))
            refine hK.out _ _ (hHeld.below hb) (fun hH => ?_)
            replace hHeld := hH
            clear hK K hH
            replace P_c := rblk_below P_c hb
            replace HRw := HRw.below hb
            replace HRp := HRp.below hb
            replace HRq := HRq.below hb
            replace om := om.rds
            clear hb
            try simp only [ps]
            refine rd1 (i := 11) (by kernel_rfl) rfl (fun K hK => ?_)
            go_simp
            (go_at_call 64; ((with_reducible refine (HS.out _ _ _ HRw om).mono ?_); rintro e Wr1_11 ⟨a3, rfl, h3x, h3y, o3, hap3, hb⟩))
            have hz3 := hHeld.lt
            refine hK.out _ _ (hHeld.below hb) (fun hH => ?_)
            replace hHeld := hH
            clear hK K hH
            replace P_c := rblk_below P_c hb
            replace HRw := HRw.below hb
            replace HRp := HRp.below hb
            replace HRq := HRq.below hb
            replace om := om.below hb
            clear hb
            try simp only [ps]
            refine rd1 (i := 12) (by kernel_rfl) rfl (fun K hK => ?_)
            have t0 := rblk_cell P_c 0
            have q0 := rblk_free P_c 0
            have t1 := rblk_cell P_c 1
            have q1 := rblk_free P_c 1
            have t2 := rblk_cell P_c 2
            have q2 := rblk_free P_c 2
            go_simp
            clear t0 t1 t2 q0 q1 q2
            refine hK.out _ _ (hHeld.put3 (.bool X2.p) (.slice a3.A X2.l.length a3.c) (.slice a3.D X2.m.length a3.d)) (fun hH => ?_)
            clear hK K hHeld
            have hHeld := hH
            clear hH
            have P_f := rblk_set (rblk_set (rblk_set P_c 0 (.bool X2.p)) 1 (.slice a3.A X2.l.length a3.c)) 2 (.slice a3.D X2.m.length a3.d)
            replace o3 := owns_put3 (r := W2.heap.size) o3 (.inl hz3) (.bool X2.p) (.slice a3.A X2.l.length a3.c) (.slice a3.D X2.m.length a3.d)
            try simp only [ps]
            refine wpAnyH_done (by kernel_rfl) ?_ _
            have kz := hHeld.base KW.out (Nat.le_refl _)
            have HFN := Lib.hid (And.intro P_f (And.intro o3 (And.intro kz hz3)))
            clear P_f o3 kz hz3 hHeld P_c P_e
            go_wp2
            go_roundw
            case rel => exact ⟨j + 1, X2, a3, hlj, by go_num, HX2.out, ⟨h3x, h3y⟩, HFN.out.1, HFN.out.2.1.wide (by have h1 := HFN.out.2.2.2; have h2 := HGL.out; omega) (by first | rw [size_put3]; exact Nat.le_refl _ | exact Nat.le_refl _), hap3, HFN.out.2.2.1⟩
            case measure => simp [intOf]; omega
          · skip
            go_simp
            (go_at_call 65; ((with_reducible refine (HMU.out _ _ _ HRp HRq).mono ?_); rintro e Wr1_12 ⟨am, rfl, hmx, hmy, om, hapm, hb⟩))
            refine hK.out _ _ (hHeld.below hb) (fun hH => ?_)
            replace hHeld := hH
            clear hK K hH
            replace P_c := rblk_below P_c hb
            replace HRw := HRw.below hb
            replace HRp := HRp.below hb
            replace HRq := HRq.below hb
            replace om := om.rds
            clear hb
            try simp only [ps]
            refine rd1 (i := 0) (by kernel_rfl) rfl (fun K hK => ?_)
            have t0 := rblk_cell P_c 0
            have t1 := rblk_cell P_c 1
            have t2 := rblk_cell P_c 2
            go_simp
            clear t0 t1 t2
            refine hK.out _ _ hHeld (fun hH => ?_)
            clear hK K hH
            try simp only [ps]
            refine rd1 (i := 11) (by kernel_rfl) rfl (fun K hK => ?_)
            go_simp
            (go_at_call 64; ((with_reducible refine (HS.out _ _ _ HRw om).mono ?_); rintro e Wr1_13 ⟨a3, rfl, h3x, h3y, o3, hap3, hb⟩))
            have hz3 := hHeld.lt
            refine hK.out _ _ (hHeld.below hb) (fun hH => ?_)
            replace hHeld := hH
            clear hK K hH
            replace P_c := rblk_below P_c hb
            replace HRw := HRw.below hb
            replace HRp := HRp.below hb
            replace HRq := HRq.below hb
            replace om := om.below hb
            clear hb
            try simp only [ps]
            refine rd1 (i := 12) (by kernel_rfl) rfl (fun K hK => ?_)
            have t0 := rblk_cell P_c 0
            have q0 := rblk_free P_c 0
            have t1 := rblk_cell P_c 1
            have q1 := rblk_free P_c 1
            have t2 := rblk_cell P_c 2
            have q2 := rblk_free P_c 2
            go_simp
            clear t0 t1 t2 q0 q1 q2
            refine hK.out _ _ (hHeld.put3 (.bool X2.p) (.slice a3.A X2.l.length a3.c) (.slice a3.D X2.m.length a3.d)) (fun hH => ?_)
            clear hK K hHeld
            have hHeld := hH
            clear hH
            have P_f := rblk_set (rblk_set (rblk_set P_c 0 (.bool X2.p)) 1 (.slice a3.A X2.l.length a3.c)) 2 (.slice a3.D X2.m.length a3.d)
            replace o3 := owns_put3 (r := W2.heap.size) o3 (.inl hz3) (.bool X2.p) (.slice a3.A X2.l.length a3.c) (.slice a3.D X2.m.length a3.d)
            try simp only [ps]
            refine wpAnyH_done (by kernel_rfl) ?_ _
            have kz := hHeld.base KW.out (Nat.le_refl _)
            have HFN := Lib.hid (And.intro P_f (And.intro o3 (And.intro kz hz3)))
            clear P_f o3 kz hz3 hHeld P_c P_e
            go_wp2
            go_roundw
            case rel => exact ⟨j + 1, X2, a3, hlj, by go_num, HX2.out, ⟨h3x, h3y⟩, HFN.out.1, HFN.out.2.1.wide (by have h1 := HFN.out.2.2.2; have h2 := HGL.out; omega) (by first | rw [size_put3]; exact Nat.le_refl _ | exact Nat.le_refl _), hap3, HFN.out.2.2.1⟩
            case measure => simp [intOf]; omega
        · obtain rfl : j = m := by omega
          rw [HPA.out] at hX
          have l0 := rblk_cell P_l 0
          have l1 := rblk_cell P_l 1
          have l2 := rblk_cell P_l 2
          have kVw := bt KW2.out kw
          have HQ := Lib.hid (And.intro ol (And.intro hapl (And.intro hcx hX)))
          have HKW := Lib.hid (And.intro kVw (bt KV.out kVw))
          have hzV : V.heap.size ≤ wr.heap.size := kVw.size
          clear ol hapl hcx hX P_l kw
          go_wp2_with (refine append_rt rfl (.tmp 41) (.tmp 43) rfl W1.heap.size M.length W1.heap.size V.heap.size wr.heap.size (.slice E M.length e) M ⟨X, ax⟩ wr rfl rfl (own3_below HOR.out.1 kVw) (by have := HOR.out.2.2.2.2.1; omega) HKW.out.2.size (HOR.out.2.2.1.below kVw) HQ.out.1 HOR.out.2.2.2.1 HQ.out.2.1 HVZ.out KV.out.size hzV (Nat.le_refl _) ?_; intro v' w' hown' hb' hO' hap')
          obtain ⟨E2, e2, rfl⟩ := own_formQ hown'
          have HXX := Lib.hid (And.intro hown' (And.intro hO' (And.intro hap' ((HKW.out.2).trans hb'))))
          clear hown' hO' hap' hb' kVw l0 l1 l2
          go_wp2
          go_roundw
          case rel => exact ⟨i + 1, M ++ [⟨X, ax⟩], E2, e2, hlt, by go_num, by rw [List.length_append]; rfl, by rw [List.length_append, HOR.out.2.2.2.2.1]; rfl, by rw [List.length_append]; exact HXX.out.1, sumL_step HP.out HOR.out.2.1 HQ.out.2.2.2, cap_appQ (q := ⟨X, ax⟩) HOR.out.2.2.2.2.2 HQ.out.2.2.1, HXX.out.2.1, HXX.out.2.2.1, HXX.out.2.2.2⟩
          case measure => simp [intOf]; omega
    · obtain rfl : i = n := by omega
      have HX := Lib.hid (made_listQ HOR.out.1 HB0.out HB0.out rfl (HOR.out.2.1.trans (congrArg datQ HALL.out)) HOR.out.2.2.2.2.2 HOR.out.2.2.1 HOR.out.2.2.2.1 (HW.out _ kV))
      clear kV
      go_wp2
      go_ret
      exact HX.out
end Go.Proofs.YtennekieiioilaaGreat
namespace Go.Proofs.YtennekieiioilaaGreat
open Go.ChangeShapes Go.WideShapes Go.ChangeAt Go.RowKit
open Go.ChangeMaps (open_string shut_string)
set_option linter.unusedVariables false
set_option linter.unusedSimpArgs false
set_option maxRecDepth 4000

/-- The answer. -/
def appO (R : List MR) (U : List RV) : List RV := if fitX R U = true ∧ validB (sumL R U) = true then sumL R U else []
theorem rowSum_fit (p : MR) (U : List RV) : FitO (rowSum p U) := accX_fit zero_fitO _
theorem sumL_len {R : List MR} {U M : List RV} (h : datQ M = datQ (sumL R U)) : ∀ q, q ∈ M → q.x.l.length ≤ 24 ∧ q.x.m.length ≤ 24 := fun q hq => by
  have hm : q.x ∈ datQ M := List.mem_map.2 ⟨q, hq, rfl⟩
  rw [h] at hm
  unfold datQ sumL at hm
  rw [List.map_map] at hm
  obtain ⟨p, _, e⟩ := List.mem_map.1 hm
  rw [← e]
  exact (rowSum_fit p U).len
theorem sumL_dat {R T : List MR} {U M : List RV} (h : datX T = datX R) (h' : datQ M = datQ U) : datQ (sumL T M) = datQ (sumL R U) := by
  unfold sumL
  show List.map _ (List.map _ T) = List.map _ (List.map _ R)
  rw [List.map_map, List.map_map]
  induction R generalizing T with
  | nil => obtain rfl : T = [] := List.eq_nil_of_length_eq_zero (datX_len h); rfl
  | cons p R ih =>
    match T, h with
    | q :: T, h =>
      simp only [datX, List.map_cons, List.cons.injEq, Prod.mk.injEq] at h
      rw [List.map_cons, List.map_cons, ih h.2]
      show ofO (rowSum q M) :: _ = ofO (rowSum p U) :: _
      rw [rowSum_dat h.1.1 h.1.2 h']
theorem fitX_dat {R T : List MR} {U M : List RV} (h : datX T = datX R) (h' : datQ M = datQ U) : fitX T M = fitX R U := by
  unfold fitX
  rw [isMx_dat h, datX_len h, datQ_len h', validB_dat h']
theorem appO_dat {R T : List MR} {U M : List RV} (h : datX T = datX R) (h' : datQ M = datQ U) : datQ (appO T M) = datQ (appO R U) := by
  unfold appO
  rw [fitX_dat h h', validB_dat (sumL_dat h h')]
  split
  · exact sumL_dat h h'
  · rfl
theorem szqs_few {L : List RV} (h : ∀ q, q ∈ L → q.x.l.length ≤ 24 ∧ q.x.m.length ≤ 24) : szqs L ≤ (L.length : Int) * 48 := by
  induction L with
  | nil => simp [szqs]
  | cons q L ih =>
    have h1 := ih (fun p hp => h p (List.mem_cons_of_mem _ hp))
    have h2 := h q List.mem_cons_self
    unfold szqs szq szx
    rw [List.length_cons]
    omega
theorem appO_size (R : List MR) (U : List RV) : ((appO R U).length : Int) + szqs (appO R U) ≤ 1048576 ∧ ((appO R U).length ≤ 1048576 ∧ ∀ p, p ∈ appO R U → ShortQ p) := by
  unfold appO
  split
  case isTrue h =>
    have h1 := (fitX_get h.1).1
    have h2 : (sumL R U).length = R.length := by unfold sumL; rw [List.length_map]
    have h3 := sumL_len (M := sumL R U) (R := R) (U := U) rfl
    have h4 := szqs_few h3
    refine ⟨by omega, by omega, fun p hp => ?_⟩
    have h5 := h3 p hp
    show Short p.x
    unfold Short
    omega
  case isFalse h => exact ⟨by show (0 : Int) + 0 ≤ _; omega, by simp, fun p hp => by cases hp⟩
attribute [local go_sem ↓] Go.wp_at_zero Go.wp_at_succ
set_option maxHeartbeats 1000000 in
theorem spec_fullv (L : List RV) (A : Option Addr) (c : Nat) (w : World) (hn : L.length ≤ 9223372036854775807) (hL : ∀ p, p ∈ L → LenQ p) (hA : RdS w A (flatQ L)) (hR : Rds w (lrowQ L)) :
    Calls Tryz.prog 42 #[.slice A L.length c] w (fun e w' => e = .returned (if validB L = true then .slice A L.length c else .slice none 0 0) ∧ Below w.heap.size w w') := by
  have HV := Lib.hid (spec_valid L A c w hn hL hA hR)
  clear hA hR hL
  generalize L.length = n at *
  cases hv : validB L with
  | true =>
    rw [hv] at HV
    rw [if_pos rfl]
    clear hv
    go_enter Tryz.func42, Tryz.ntmps42
    go_wp2_with fail
    refine HV.out.mono ?_
    rintro e w2 ⟨rfl, hb⟩
    go_wp2
    go_ret
    exact ⟨rfl, hb⟩
  | false =>
    rw [hv] at HV
    rw [if_neg (by simp)]
    clear hv
    go_enter Tryz.func42, Tryz.ntmps42
    go_wp2_with fail
    refine HV.out.mono ?_
    rintro e w2 ⟨rfl, hb⟩
    go_wp2
    go_ret
    exact ⟨rfl, hb⟩
set_option maxHeartbeats 4000000 in
theorem spec_apply (R : List MR) (A : Option Addr) (c : Nat) (U : List RV) (D : Option Addr) (d : Nat) (w : World) (hn : R.length ≤ 9223372036854775807) (hL : ∀ p, p ∈ R → LenX p) (hA : RdS w A (flatX R)) (hR : Rds w (lrowX R)) (hn' : U.length ≤ 9223372036854775807) (hL' : ∀ p, p ∈ U → LenQ p) (hA' : RdS w D (flatQ U)) (hR' : Rds w (lrowQ U)) :
    Calls Tryz.prog 16 #[.agg #[.slice A R.length c], .slice D U.length d] w (MadeRS w.heap.size (appO R U) w) := by
  have HFT : Hid (∀ W, Below w.heap.size w W → Calls Tryz.prog 41 #[.agg #[.slice A R.length c], .slice D U.length d] W (fun e w' => e = .returned (.bool (fitX R U)) ∧ Below W.heap.size W w')) := Lib.hid (fun W hb => spec_fits R A c U D d W hn hL (hA.below hb) (hR.below hb) hn' hL' (hA'.below hb) (hR'.below hb))
  have HAP : Hid (fitX R U = true → ∀ W, Below w.heap.size w W → Calls Tryz.prog 43 #[.agg #[.slice A R.length c], .slice D U.length d] W (MadeRS W.heap.size (sumL R U) W)) := Lib.hid (fun hf W hb => spec_apply0 R A c U D d W hf hL (hA.below hb) (hR.below hb) hL' (hA'.below hb) (hR'.below hb))
  have HSL : Hid (∀ M, datQ M = datQ (sumL R U) → (M.length = R.length ∧ validB M = validB (sumL R U)) ∧ ∀ q, q ∈ M → q.x.l.length ≤ 24 ∧ q.x.m.length ≤ 24) := Lib.hid (fun M h => ⟨⟨by rw [datQ_len h]; unfold sumL; rw [List.length_map], validB_dat h⟩, sumL_len h⟩)
  have HN := Lib.hid hn
  have HO : Hid (fitX R U = true → (validB (sumL R U) = true → appO R U = sumL R U) ∧ (validB (sumL R U) = false → appO R U = [])) := Lib.hid (fun h => ⟨fun k => if_pos ⟨h, k⟩, fun k => if_neg (by rintro ⟨_, h2⟩; rw [k] at h2; cases h2)⟩)
  have HO0 : Hid (fitX R U = false → appO R U = []) := Lib.hid (fun k => if_neg (by rintro ⟨h2, _⟩; rw [k] at h2; cases h2))
  obtain ⟨T, hT⟩ : ∃ T, T = appO R U := ⟨_, rfl⟩
  rw [← hT] at HO HO0 ⊢
  generalize sumL R U = SL at HAP HSL HO
  generalize fitX R U = ft at HFT HAP HO HO0
  clear hA hR hA' hR' hL hL' hT hn hn'
  generalize R.length = n at *
  generalize U.length = m at *
  have P_a := heap_alloc_new w (.cells #[.slice A n c] 34)
  have kb := ba1 w (.cells #[.slice A n c] 34)
  have a0 := rblk_cell P_a 0
  go_enter Tryz.func16, Tryz.ntmps16
  go_wp2_with fail
  clear a0
  generalize w.alloc (.cells #[.slice A n c] 34) = W1 at kb P_a ⊢
  refine (HFT.out _ kb).mono ?_
  rintro e w2 ⟨rfl, hb⟩
  replace P_a := rblk_below P_a hb
  replace kb := bt kb hb
  clear hb
  cases ft
  case false =>
    have hTn := HO0.out rfl
    clear HAP HO HO0 P_a
    go_wp2
    go_ret
    exact made_noneQ _ hTn kb
  have HAP2 := Lib.hid (HAP.out rfl _ kb)
  have HO2 := Lib.hid (HO.out rfl)
  have a0 := rblk_cell P_a 0
  unfold MadeRS at HAP2
  clear HAP HO HO0 HFT
  go_wp2_with fail
  clear a0 P_a
  refine HAP2.out.mono ?_
  rintro e w3 ⟨M, E, ee, rfl, hlc, hd, hcap, ho, hap, hb⟩
  have hl := HSL.out M hd
  have HFU := Lib.hid (spec_fullv M E ee w3 (by have := hl.1.1; have := HN.out; omega) (fun q hq => by have := hl.2 q hq; unfold LenQ; omega) ho.rds.hd ho.rds.tl)
  rw [hl.1.2] at HFU
  have HM := Lib.hid (And.intro hlc (And.intro hd (And.intro hcap (And.intro (ho.wide kb.size (Nat.le_refl _)) (And.intro hap (bt kb hb))))))
  clear hlc hd hcap ho hap hb kb hl HSL
  cases hv : validB SL with
  | true =>
    have hTs := HO2.out.1 hv
    rw [hv, if_pos rfl] at HFU
    clear hv HO2
    go_wp2_with fail
    refine HFU.out.mono ?_
    rintro e w4 ⟨rfl, hb⟩
    go_wp2
    go_ret
    exact ⟨M, E, ee, rfl, HM.out.1, HM.out.2.1.trans (congrArg datQ hTs).symm, HM.out.2.2.1, (HM.out.2.2.2.1.below hb).wide (Nat.le_refl _) hb.size, HM.out.2.2.2.2.1, bt HM.out.2.2.2.2.2 hb⟩
  | false =>
    have hTs := HO2.out.2 hv
    rw [hv, if_neg (by simp)] at HFU
    clear hv HO2
    go_wp2_with fail
    refine HFU.out.mono ?_
    rintro e w4 ⟨rfl, hb⟩
    go_wp2
    go_ret
    exact made_noneQ _ hTs (bt HM.out.2.2.2.2.2 hb)
end Go.Proofs.YtennekieiioilaaGreat
