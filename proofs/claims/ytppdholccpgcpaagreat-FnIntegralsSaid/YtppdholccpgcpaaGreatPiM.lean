/-
  The program's integral of a product, for valid values.
-/
import Derived.Test.YtppdholccpgcpaaGreatWg
import Derived.Test.YtppdholccpgcpaaGreatLmM
import Derived.Test.YtppdholccpgcpaaGreatShM
import Derived.Test.YtppdholccpgcpaaGreatPtQ
import Derived.Test.YtppdholccpgcpaaGreatLawP
import Derived.Test.YtppdholccpgcpaaGreatTriC
import Derived.Test.YtppdholccpgcpaaGreatPtJ
namespace Go.Proofs.YtppdholccpgcpaaGreat
open Go.ChangeShapes Go.WideShapes Go.ChangeAt Go.RowKit
set_option linter.unusedVariables false
set_option linter.unusedSimpArgs false
set_option maxRecDepth 4000
def accI (F : Nat → Nat → Option Rat) (U V : List RV) : Nat → Option Rat
  | 0 => some 0
  | t + 1 => binQ addQ (accI F U V t) (binQ mulQ (binQ mulQ (valU U (t / 3)) (valU V (t % 3))) (F (t / 3) (t % 3)))
theorem accI_fit (F : Nat → Nat → Option Rat) (U V : List RV) (t : Nat) : FitO (accI F U V t) := by
  cases t with
  | zero => exact zeroQ_fit
  | succ t => exact binadd_fit _ _
theorem accI_step (F : Nat → Nat → Option Rat) (U V : List RV) {i j : Nat} (hj : j < 3) {p q : RV} (hp : U[i]? = some p) (hq : V[j]? = some q) : accI F U V (3 * i + (j + 1)) = binQ addQ (accI F U V (3 * i + j)) (binQ mulQ (binQ mulQ (valx p.x) (valx q.x)) (F i j)) := by
  show binQ addQ (accI F U V (3 * i + j)) (binQ mulQ (binQ mulQ (valU U ((3 * i + j) / 3)) (valU V ((3 * i + j) % 3))) (F ((3 * i + j) / 3) ((3 * i + j) % 3))) = _
  rw [show (3 * i + j) / 3 = i by omega, show (3 * i + j) % 3 = j by omega, valU_get hp, valU_get hq]
theorem nine_get {F : Nat → Nat → Option Rat} {M : List RV} (hd : datQ M = nine F) {i j : Nat} (hi : i < 3) (hj : j < 3) {m : RV} (hm : M[3 * i + j]? = some m) : m.x = ofO (F i j) := by
  have h1 : (datQ M)[3 * i + j]? = some m.x := by unfold datQ; rw [List.getElem?_map, hm]; rfl
  rw [hd] at h1
  have c1 : i = 0 ∨ i = 1 ∨ i = 2 := by omega
  have c2 : j = 0 ∨ j = 1 ∨ j = 2 := by omega
  rcases c1 with rfl | rfl | rfl <;> rcases c2 with rfl | rfl | rfl <;> exact (Option.some.inj h1).symm
attribute [local go_sem ↓] Go.wp_at_zero Go.wp_at_succ
set_option maxHeartbeats 4000000 in
theorem product_m (p q r : PV) (U : List RV) (D : Option Addr) (d : Nat) (V : List RV) (E : Option Addr) (e' : Nat) (w : World) (h : TriOk w p q r) (hU : U.length = 3) (hL : ∀ p, p ∈ U → LenQ p) (hv : validB U = true) (hA : RdS w D (flatQ U)) (hR : Rds w (lrowQ U))
    (hV : V.length = 3) (hL2 : ∀ p, p ∈ V → LenQ p) (hv2 : validB V = true) (hA2 : RdS w E (flatQ V)) (hR2 : Rds w (lrowQ V)) :
    Calls Tryz.prog 95 #[.agg (p18 p q r), .slice D 3 d, .slice E 3 e'] w (MadeQ w.heap.size (ofO (accI (mF p q r) U V 9)) w) := by
  have HMS := Lib.hid (fun W hB => mass_m p q r W (TriOk.below h hB))
  have HZ := Lib.hid (fun W => show Calls Tryz.prog 22 #[.int .i64 0] W (MadeQ W.heap.size (ofO (some 0)) W) from (impl_rfi 0 W (by decide)).mono fun e w' k => MadeR.toQ (x := ofO (some 0)) k)
  have RA : Hid (∀ W, Below w.heap.size w W → (RdS W D (flatQ U) ∧ Rds W (lrowQ U)) ∧ RdS W E (flatQ V) ∧ Rds W (lrowQ V)) := Lib.hid (fun W hb => ⟨⟨hA.below hb, hR.below hb⟩, hA2.below hb, hR2.below hb⟩)
  have HLL := Lib.hid (And.intro (And.intro hL hv) (And.intro hL2 hv2))
  have HU3 := Lib.hid (And.intro hU hV)
  have HFF := Lib.hid (mF_fit p q r)
  generalize mF p q r = F at HMS HFF ⊢
  clear h hU hL hv hA hR hV hL2 hv2 hA2 hR2
  obtain ⟨T, hT⟩ : ∃ T, T = ofO (accI F U V 9) := ⟨_, rfl⟩
  rw [← hT]
  have HT := Lib.hid hT
  have HZ0 : Hid (ofO (some 0) = ofO (accI F U V (3 * 0))) := Lib.hid rfl
  clear hT
  unfold MadeQ at HZ
  unfold MadeM9 at HMS
  generalize ofO (some (0 : Rat)) = Z0 at HZ HZ0
  obtain ⟨P_t, P_o⟩ := blocks2 w (.cells (p18 p q r) 81) (.cells z3 29)
  have kb := ba2 w (.cells (p18 p q r) 81) (.cells z3 29)
  go_enter Tryz.func95, Tryz.ntmps95
  go_wp2_with fail
  generalize (w.alloc (.cells (p18 p q r) 81)).alloc (.cells z3 29) = W1 at P_t P_o kb ⊢
  refine (HZ.out _).mono ?_
  rintro e W3 ⟨a0, rfl, hcx0, hcy0, oz, hapz, hb⟩
  have hlo := rblk_lt P_o
  replace P_t := rblk_below P_t hb
  replace P_o := rblk_below P_o hb
  replace kb := bt kb hb
  clear hb
  have P_l := heap_alloc_new W3 (.cells (r3 Z0 a0) 29)
  have hb := ba1 W3 (.cells (r3 Z0 a0) 29)
  have hgl : w.heap.size + 1 < W3.heap.size := rblk_lt P_o
  replace P_t := rblk_below P_t hb
  replace P_o := rblk_below P_o hb
  replace oz := (oz.below hb).wide (Nat.succ_le_of_lt hlo) hb.size
  replace kb := bt kb hb
  clear hb hlo
  have hld := cells_row P_t
  go_wp2_with (first | refine wpList_load_at rfl 81 (.tmp 3) rfl (w.heap.size) 0 (p18 p q r) rfl tri_agg (run_size tri_size) hld ?_)
  clear hld
  generalize W3.alloc (.cells (r3 Z0 a0) 29) = W4 at P_t P_o P_l oz kb ⊢
  generalize W3.heap.size = gl at P_l hgl ⊢
  refine (HMS.out _ kb).mono ?_
  rintro e W5 ⟨M, rfl, h9, hdm, _, oM, _, hb⟩
  have hlg := rblk_lt P_l
  clear P_t HMS
  replace P_o := rblk_below P_o hb
  replace P_l := rblk_below P_l hb
  replace oz := (oz.below hb).wide (Nat.le_refl _) hb.size
  replace kb := bt kb hb
  clear hb
  have HI := Lib.hid (fun (i : Nat) (hi : i < 3) W => run_idxM h9 (i := i) hi W)
  have HR3 : Hid (∀ i, i < 3 → ((M.drop (3 * i)).take 3).length = 3 ∧ ∀ j, j < 3 → ((M.drop (3 * i)).take 3)[j]? = M[3 * i + j]?) := Lib.hid (fun i hi => by
    refine ⟨by rw [List.length_take, List.length_drop]; omega, fun j hj => ?_⟩
    rw [List.getElem?_take, if_pos hj, List.getElem?_drop])
  have HMD : Hid (M.length = 9 ∧ datQ M = nine F) := Lib.hid ⟨h9, hdm⟩
  have HGL := Lib.hid (And.intro hgl hlg)
  clear hdm hgl hlg h9
  generalize hC : (flatQ M).toArray = C at HI
  clear hC
  go_wp2_with fail
  go_loopw [15] (fun k w' => ∃ (i : Nat) (X : R3) (a : Ad), i ≤ 3 ∧ k = .int .i64 (i : Int) ∧ X = ofO (accI F U V (3 * i)) ∧ (X.l.length ≤ a.c ∧ X.m.length ≤ a.d) ∧ w'.heap[gl]? = some (.cells (r3 X a) 29 (0, 0)) ∧ Owns (w.heap.size + 1 + 1) w'.heap.size w' (rows X a) ∧ Aparts (rows X a) ∧ Owns W4.heap.size W5.heap.size w' (lrowQ M) ∧ w'.heap[w.heap.size + 1]? = some (.cells z3 29 (0, 0)) ∧ W5.heap.size ≤ w'.heap.size ∧ Below w.heap.size w w') (fun k _ => 3 - (intOf k).toNat)
  case atStart => exact ⟨0, Z0, a0, by omega, rfl, HZ0.out, ⟨hcx0, hcy0⟩, P_l, oz, hapz, oM, P_o, Nat.le_refl _, kb⟩
  case round =>
    clear P_l oz P_o kb hcx0 hcy0 hapz oM
    obtain ⟨i, X, ax, hi, rfl, hX, hcx, P_l, ol, hapl, oM, P_o, hzz, kb⟩ := hrel
    by_cases hli : i < 3
    · have hi0 : (0 : Int) ≤ (i : Int) := by omega
      have hi1 : (i : Int) < 3 := by omega
      have hidx := HI.out i hli
      obtain ⟨h3, hg3⟩ := HR3.out i hli
      have hsz9 : (flatQ ((M.drop (3 * i)).take 3)).toArray.size = 9 := by rw [List.size_toArray, flatQ_length, h3]
      have hone := flatQ_one1 ((M.drop (3 * i)).take 3)
      have HJ := Lib.hid (fun (j : Nat) (p : RV) h W => run_idxR h3 (j := j) (p := p) h W)
      have HG3 := Lib.hid hg3
      clear hg3 h3
      generalize hD : (flatQ ((M.drop (3 * i)).take 3)).toArray = Dr at hidx hsz9 HJ hone
      clear hD
      have hz9 : (Tryz.prog.info? 79).map (·.size) = some Dr.size := by rw [hsz9]; exact r3_size
      have P_n := heap_alloc_new wr (.cells #[.bool false, .slice none 0 0, .slice none 0 0, .bool false, .slice none 0 0, .slice none 0 0, .bool false, .slice none 0 0, .slice none 0 0] 79)
      have P_d := rowV_set P_n Dr
      have HGE : Hid (gl < wr.heap.size ∧ w.heap.size + 1 < wr.heap.size ∧ W5.heap.size ≤ wr.heap.size) := Lib.hid ⟨rblk_lt P_l, rblk_lt P_o, hzz⟩
      have hb := ba1 wr (.cells #[.bool false, .slice none 0 0, .slice none 0 0, .bool false, .slice none 0 0, .slice none 0 0, .bool false, .slice none 0 0, .slice none 0 0] 79)
      have ne1 : wr.heap.size ≠ gl := by have := HGE.out.1; omega
      have ne2 : wr.heap.size ≠ w.heap.size + 1 := by have := HGE.out.2.1; omega
      replace P_l := rowV_other (rblk_below P_l hb) ne1 Dr
      replace P_o := rowV_other (rblk_below P_o hb) ne2 Dr
      have z1 : ((wr.alloc (.cells #[.bool false, .slice none 0 0, .slice none 0 0, .bool false, .slice none 0 0, .slice none 0 0, .bool false, .slice none 0 0, .slice none 0 0] 79)).setRow wr.heap.size Dr).heap.size = (wr.alloc (.cells #[.bool false, .slice none 0 0, .slice none 0 0, .bool false, .slice none 0 0, .slice none 0 0, .bool false, .slice none 0 0, .slice none 0 0] 79)).heap.size := setRow_size _ _ _
      replace ol := (ol.below hb).setRow (g := wr.heap.size) (.inr (Nat.le_refl _)) Dr
      replace ol := ol.wide (hi' := ((wr.alloc (.cells #[.bool false, .slice none 0 0, .slice none 0 0, .bool false, .slice none 0 0, .slice none 0 0, .bool false, .slice none 0 0, .slice none 0 0] 79)).setRow wr.heap.size Dr).heap.size) (Nat.le_refl _) (by rw [z1]; exact hb.size)
      replace oM := (oM.below hb).setRow (g := wr.heap.size) (.inr HGE.out.2.2) Dr
      replace kb := below_setRow (bt kb hb) kb.size Dr
      have hzp : wr.heap.size ≤ ((wr.alloc (.cells #[.bool false, .slice none 0 0, .slice none 0 0, .bool false, .slice none 0 0, .slice none 0 0, .bool false, .slice none 0 0, .slice none 0 0] 79)).setRow wr.heap.size Dr).heap.size := by rw [z1]; exact hb.size
      clear hb ne1 ne2 z1
      have hld := cells_row P_d
      go_wp2_with (first | simp only [hidx] | refine wpList_store_row rfl 79 (.tmp 9) (.tmp 18) rfl (wr.heap.size) Dr rfl rfl 79 _ P_n hz9 hsz9.symm hone ?_ | refine wpList_load_at rfl 79 (.tmp 9) rfl (wr.heap.size) 0 Dr rfl r3_agg (run_size hz9) hld ?_)
      clear hld P_n P_d hidx hone hsz9 hz9
      generalize (wr.alloc (.cells #[.bool false, .slice none 0 0, .slice none 0 0, .bool false, .slice none 0 0, .slice none 0 0, .bool false, .slice none 0 0, .slice none 0 0] 79)).setRow wr.heap.size Dr = Wp at P_l P_o ol oM kb hzp ⊢
      clear HGE
      replace hzz : W5.heap.size ≤ Wp.heap.size := Nat.le_trans hzz hzp
      go_loopw [20] (fun k w' => ∃ (j : Nat) (X : R3) (a : Ad), j ≤ 3 ∧ k = .int .i64 (j : Int) ∧ X = ofO (accI F U V (3 * i + j)) ∧ (X.l.length ≤ a.c ∧ X.m.length ≤ a.d) ∧ w'.heap[gl]? = some (.cells (r3 X a) 29 (0, 0)) ∧ Owns (w.heap.size + 1 + 1) w'.heap.size w' (rows X a) ∧ Aparts (rows X a) ∧ Owns W4.heap.size W5.heap.size w' (lrowQ M) ∧ w'.heap[w.heap.size + 1]? = some (.cells z3 29 (0, 0)) ∧ W5.heap.size ≤ w'.heap.size ∧ Below w.heap.size w w') (fun k _ => 3 - (intOf k).toNat)
      case atStart => exact ⟨0, X, ax, by omega, rfl, hX, hcx, P_l, ol, hapl, oM, P_o, hzz, kb⟩
      case round =>
        clear hX hcx P_l ol hapl oM P_o kb hzz hzp
        obtain ⟨j, X, ax, hj, rfl, hX, hcx, P_l, ol, hapl, oM, P_o, hzz, kb⟩ := hrel
        by_cases hlt : j < 3
        · obtain ⟨m, hm⟩ := getQ (L := M) (i := 3 * i + j) (by rw [HMD.out.1]; omega)
          have hjdx := HJ.out j m ((HG3.out j hlt).trans hm)
          have em := nine_get HMD.out.2 hli hlt hm
          obtain ⟨u, hu⟩ := getQ (L := U) (i := i) (by rw [HU3.out.1]; exact hli)
          obtain ⟨v, hv⟩ := getQ (L := V) (i := j) (by rw [HU3.out.2]; exact hlt)
          have nu : u.x = ofO (valx u.x) := nice_ok (validB_at HLL.out.1.2 hu)
          have nv : v.x = ofO (valx v.x) := nice_ok (validB_at HLL.out.2.2 hv)
          obtain ⟨gu, ou, rfl, _, _, _, _⟩ := (RA.out _ kb).1.1.three hu
          obtain ⟨gv, ov, rfl, _, _, _, _⟩ := (RA.out _ kb).2.1.three hv
          have HM1 := Lib.hid (fun W h h' => show Calls Tryz.prog 140 #[.agg (r3 u.x u.a), .agg (r3 v.x v.a)] W (MadeQ W.heap.size (ofO (binQ mulQ (valx u.x) (valx v.x))) W) from by
            have K := times_r (valx u.x) (valx v.x) u.a v.a W (FitO.val _) (FitO.val _) (by rw [← nu]; exact h) (by rw [← nv]; exact h')
            rw [← nu, ← nv] at K; exact K)
          have HM2 := Lib.hid (fun (a c : Ad) W h h' => show Calls Tryz.prog 140 #[.agg (r3 (ofO (binQ mulQ (valx u.x) (valx v.x))) a), .agg (r3 m.x c)] W (MadeQ W.heap.size (ofO (binQ mulQ (binQ mulQ (valx u.x) (valx v.x)) (F i j))) W) from by
            have K := times_r (binQ mulQ (valx u.x) (valx v.x)) (F i j) a c W (binmul_fit _ _) (HFF.out i j) h (by rw [← em]; exact h')
            rw [← em] at K; exact K)
          have HD := Lib.hid (fun (a c : Ad) W h h' => plus_r (accI F U V (3 * i + j)) (binQ mulQ (binQ mulQ (valx u.x) (valx v.x)) (F i j)) a c W (accI_fit _ _ _ _) (binmul_fit _ _) h h')
          have HX2 : Hid (ofO (binQ addQ (accI F U V (3 * i + j)) (binQ mulQ (binQ mulQ (valx u.x) (valx v.x)) (F i j))) = ofO (accI F U V (3 * i + (j + 1)))) := Lib.hid (by rw [accI_step F U V hlt hu hv])
          rw [← hX] at HD
          generalize ofO (binQ addQ (accI F U V (3 * i + j)) (binQ mulQ (binQ mulQ (valx u.x) (valx v.x)) (F i j))) = X2 at HD HX2
          generalize ofO (binQ mulQ (binQ mulQ (valx u.x) (valx v.x)) (F i j)) = T2 at HM2 HD
          generalize ofO (binQ mulQ (valx u.x) (valx v.x)) = T1 at HM1 HM2
          unfold MadeQ at HM1 HM2 HD
          have HUV := Lib.hid (And.intro hu hv)
          have OM := Lib.hid oM
          have HPO := Lib.hid P_o
          have HPL := Lib.hid P_l
          have HGE : Hid (gl < wr.heap.size) := Lib.hid (rblk_lt P_l)
          have HRL := Lib.hid (And.intro ol.rds (And.intro ((RA.out _ kb).1.2.atQ hu) (And.intro ((RA.out _ kb).2.2.atQ hv) (oM.rds.atQ hm))))
          have HOFF := Lib.hid (offG_owns oM HGL.out.2)
          have hi0 : (0 : Int) ≤ (i : Int) := by omega
          have hi1 : (i : Int) < 3 := by omega
          have hj0 : (0 : Int) ≤ (j : Int) := by omega
          have hj1 : (j : Int) < 3 := by omega
          have KW0 := Lib.hid kb
          have HZZ := Lib.hid (Nat.le_trans hzz (ba1 wr (.cells (r3 m.x m.a) 29)).size)
          clear hzz
          clear hX hm em hu hv nu nv oM ol hapl hcx P_l P_o kb
          have P_e := heap_alloc_new wr (.cells (r3 m.x m.a) 29)
          have HBQ := Lib.hid (ba1 wr (.cells (r3 m.x m.a) 29))
          go_wp2_with (simp only [hjdx])
          clear hjdx
          generalize wr.alloc (.cells (r3 m.x m.a) 29) = Wq at P_e HBQ HZZ ⊢
          generalize wr.heap.size = ge at P_e HGE ⊢
          have KW := Lib.hid (bt KW0.out HBQ.out)
          have ne_e : gl ≠ ge := by have := HGE.out; omega
          have ne_o : gl ≠ w.heap.size + 1 := by have := HGL.out.1; omega
          have hle : w.heap.size ≤ gl := by have := HGL.out.1; omega
          have HPLq := Lib.hid (rblk_below HPL.out HBQ.out)
          have KST := Keep3.start HPLq.out
          have P_c : Wq.drew.heap[gl]? = some (.cells (r3 X ax) 29 (0, 0)) := HPLq.out
          have HRw : Rds Wq.drew (rows X ax) := (HRL.out.1.below HBQ.out).below ((Below.refl _ _).drew)
          have HRu : Rds Wq.drew (qrow u) := (HRL.out.2.1.below HBQ.out).below ((Below.refl _ _).drew)
          have HRv : Rds Wq.drew (qrow v) := (HRL.out.2.2.1.below HBQ.out).below ((Below.refl _ _).drew)
          have HRm : Rds Wq.drew (rows m.x m.a) := (HRL.out.2.2.2.below HBQ.out).below ((Below.refl _ _).drew)
          refine wp_region_held_drew (S := fun w' => Keep3 Wq w' gl ∧ w'.heap[ge]? = some (.cells (r3 m.x m.a) 29 (0, 0))) (by kernel_rfl) ⟨KST.drew, P_e⟩ (fun hHeld => ?_)
          refine tk (i := 1) (v := ?vg1_1) rfl (by kernel_rfl) (fun _ _ _ h => h) (Or.inl ⟨by rfl, ?hg1_1⟩) hHeld ?_
          case hg1_1 => (intro w hSw; (try dsimp only at hSw); clear hSw; go_simp; (try with_reducible rfl))
          try simp only [ps]
          refine tk (i := 2) (v := ?vg1_2) rfl (by kernel_rfl) (fun _ _ _ h => h) (Or.inl ⟨by rfl, ?hg1_2⟩) hHeld ?_
          case hg1_2 => (intro w hSw; (try dsimp only at hSw); clear hSw; go_simp; (try with_reducible rfl))
          try simp only [ps]
          refine tk (i := 3) (v := ?vg1_3) rfl (by kernel_rfl) (fun _ _ _ h => h) (Or.inl ⟨by rfl, ?hg1_3⟩) hHeld ?_
          case hg1_3 => (intro w hSw; (try dsimp only at hSw); clear hSw; go_simp; (try with_reducible rfl))
          try simp only [ps]
          refine tk (i := 4) (v := ?vg1_4) rfl (by kernel_rfl) (fun _ _ _ h => h) (Or.inl ⟨by rfl, ?hg1_4⟩) hHeld ?_
          case hg1_4 => (intro w hSw; (try dsimp only at hSw); obtain ⟨_, _, he, _, z0, z1, z2⟩ := (RA.out _ (hSw.1.base KW.out hle)).1.1.three HUV.out.1; cases he; clear hSw; go_simp; (try with_reducible rfl))
          try simp only [ps]
          refine tk (i := 5) (v := ?vg1_5) rfl (by kernel_rfl) (fun _ _ _ h => h) (Or.inl ⟨by rfl, ?hg1_5⟩) hHeld ?_
          case hg1_5 => (intro w hSw; (try dsimp only at hSw); clear hSw; go_simp; (try with_reducible rfl))
          try simp only [ps]
          refine tk (i := 6) (v := ?vg1_6) rfl (by kernel_rfl) (fun _ _ _ h => h) (Or.inl ⟨by rfl, ?hg1_6⟩) hHeld ?_
          case hg1_6 => (intro w hSw; (try dsimp only at hSw); clear hSw; go_simp; (try with_reducible rfl))
          try simp only [ps]
          refine tk (i := 7) (v := ?vg1_7) rfl (by kernel_rfl) (fun _ _ _ h => h) (Or.inl ⟨by rfl, ?hg1_7⟩) hHeld ?_
          case hg1_7 => (intro w hSw; (try dsimp only at hSw); clear hSw; go_simp; (try with_reducible rfl))
          try simp only [ps]
          refine tk (i := 8) (v := ?vg1_8) rfl (by kernel_rfl) (fun _ _ _ h => h) (Or.inl ⟨by rfl, ?hg1_8⟩) hHeld ?_
          case hg1_8 => (intro w hSw; (try dsimp only at hSw); obtain ⟨_, _, he, _, z0, z1, z2⟩ := (RA.out _ (hSw.1.base KW.out hle)).2.1.three HUV.out.2; cases he; clear hSw; go_simp; (try with_reducible rfl))
          try simp only [ps]
          refine tk (i := 10) (v := ?vg1_9) rfl (by kernel_rfl) (fun _ _ _ h => h) (Or.inl ⟨by rfl, ?hg1_9⟩) hHeld ?_
          case hg1_9 => (intro w hSw; (try dsimp only at hSw); have t0 := rblk_cell hSw.2 0; have t1 := rblk_cell hSw.2 1; have t2 := rblk_cell hSw.2 2; clear hSw; go_simp; (try with_reducible rfl))
          try simp only [ps]
          refine wpAnyH_ready (rs := [0, 9]) (by kernel_rfl) (by simp) ?_
          refine rc1 rfl (fun K hK => ?_) (rc1 rfl (fun K hK => ?_) AllReadyH.nil)
          · skip
            have t0 := rblk_cell P_c 0
            have t1 := rblk_cell P_c 1
            have t2 := rblk_cell P_c 2
            go_simp
            clear t0 t1 t2
            refine hK.out _ _ hHeld (fun hH => ?_)
            clear hK K hH
            try simp only [ps]
            refine rd1 (i := 9) (by kernel_rfl) rfl (fun K hK => ?_)
            go_simp
            (go_at_call 140; ((with_reducible refine (HM1.out _ HRu HRv).mono ?_); rintro e Wr1_10 ⟨am, rfl, _, _, om, _, hb⟩))
            refine hK.out _ _ ⟨hHeld.1.below hb, rblk_below hHeld.2 hb⟩ (fun hH => ?_)
            replace hHeld := hH
            clear hK K hH
            replace P_c := rblk_below P_c hb
            replace HRw := HRw.below hb
            replace HRu := HRu.below hb
            replace HRv := HRv.below hb
            replace HRm := HRm.below hb
            replace om := om.rds
            clear hb
            try simp only [ps]
            refine rd1 (i := 11) (by kernel_rfl) rfl (fun K hK => ?_)
            go_simp
            (go_at_call 140; ((with_reducible refine (HM2.out _ m.a _ om HRm).mono ?_); rintro e Wr1_11 ⟨an, rfl, _, _, on, _, hb⟩))
            refine hK.out _ _ ⟨hHeld.1.below hb, rblk_below hHeld.2 hb⟩ (fun hH => ?_)
            replace hHeld := hH
            clear hK K hH
            replace P_c := rblk_below P_c hb
            replace HRw := HRw.below hb
            replace HRu := HRu.below hb
            replace HRv := HRv.below hb
            replace HRm := HRm.below hb
            replace om := om.below hb
            replace on := on.rds
            clear hb
            try simp only [ps]
            refine rd1 (i := 12) (by kernel_rfl) rfl (fun K hK => ?_)
            go_simp
            (go_at_call 78; ((with_reducible refine (HD.out _ _ _ HRw on).mono ?_); rintro e Wr1_12 ⟨a3, rfl, h3x, h3y, o3, hap3, hb⟩))
            have hz3 := hHeld.1.lt
            refine hK.out _ _ ⟨hHeld.1.below hb, rblk_below hHeld.2 hb⟩ (fun hH => ?_)
            replace hHeld := hH
            clear hK K hH
            replace P_c := rblk_below P_c hb
            replace HRw := HRw.below hb
            replace HRu := HRu.below hb
            replace HRv := HRv.below hb
            replace HRm := HRm.below hb
            replace om := om.below hb
            replace on := on.below hb
            clear hb
            try simp only [ps]
            refine rd1 (i := 13) (by kernel_rfl) rfl (fun K hK => ?_)
            have t0 := rblk_cell P_c 0
            have q0 := rblk_free P_c 0
            have t1 := rblk_cell P_c 1
            have q1 := rblk_free P_c 1
            have t2 := rblk_cell P_c 2
            have q2 := rblk_free P_c 2
            go_simp
            clear t0 q0 t1 q1 t2 q2
            refine hK.out _ _ ⟨hHeld.1.put3 (.bool X2.p) (.slice a3.A X2.l.length a3.c) (.slice a3.D X2.m.length a3.d), (rblk_other (rblk_other (rblk_other hHeld.2 0 (.bool X2.p) ne_e) 1 (.slice a3.A X2.l.length a3.c) ne_e) 2 (.slice a3.D X2.m.length a3.d) ne_e)⟩ (fun hH => ?_)
            clear hK K hHeld
            have hHeld := hH
            clear hH
            have P_f := rblk_set (rblk_set (rblk_set P_c 0 (.bool X2.p)) 1 (.slice a3.A X2.l.length a3.c)) 2 (.slice a3.D X2.m.length a3.d)
            replace o3 := owns_put3 (r := gl) o3 (.inl hz3) (.bool X2.p) (.slice a3.A X2.l.length a3.c) (.slice a3.D X2.m.length a3.d)
            try simp only [ps]
            refine wpAnyH_done (by kernel_rfl) ?_ _
            replace hHeld := hHeld.1
            have P_o3 := hHeld.block (rblk_below HPO.out HBQ.out) ne_o
            have kz := hHeld.base KW.out hle
            have hzf := Nat.le_trans HZZ.out hHeld.size
            have oM3 := owns_grown (OM.out.below HBQ.out) hHeld.2 (fun g e => by injection e with e; subst e; exact HOFF.out)
            have HF := Lib.hid (And.intro P_f (And.intro o3 (And.intro P_o3 (And.intro kz (And.intro hz3 (And.intro oM3 hzf))))))
            clear P_f o3 P_o3 kz hz3 oM3 hzf hHeld P_c
            go_wp2
            go_roundw
            case rel => exact ⟨j + 1, X2, a3, hlt, by go_num, HX2.out, ⟨h3x, h3y⟩, HF.out.1, HF.out.2.1.wide (by have h1 := HF.out.2.2.2.2.1; have h2 := HGL.out.1; omega) (by first | rw [size_put3]; exact Nat.le_refl _ | exact Nat.le_refl _), hap3, HF.out.2.2.2.2.2.1, HF.out.2.2.1, HF.out.2.2.2.2.2.2, HF.out.2.2.2.1⟩
            case measure => simp [intOf]; omega
          · skip
            go_simp
            (go_at_call 140; ((with_reducible refine (HM1.out _ HRu HRv).mono ?_); rintro e Wr1_13 ⟨am, rfl, _, _, om, _, hb⟩))
            refine hK.out _ _ ⟨hHeld.1.below hb, rblk_below hHeld.2 hb⟩ (fun hH => ?_)
            replace hHeld := hH
            clear hK K hH
            replace P_c := rblk_below P_c hb
            replace HRw := HRw.below hb
            replace HRu := HRu.below hb
            replace HRv := HRv.below hb
            replace HRm := HRm.below hb
            replace om := om.rds
            clear hb
            try simp only [ps]
            refine wpAnyH_ready (rs := [0, 11]) (by kernel_rfl) (by simp) ?_
            refine rc1 rfl (fun K hK => ?_) (rc1 rfl (fun K hK => ?_) AllReadyH.nil)
            · skip
              have t0 := rblk_cell P_c 0
              have t1 := rblk_cell P_c 1
              have t2 := rblk_cell P_c 2
              go_simp
              clear t0 t1 t2
              refine hK.out _ _ hHeld (fun hH => ?_)
              clear hK K hH
              try simp only [ps]
              refine rd1 (i := 11) (by kernel_rfl) rfl (fun K hK => ?_)
              go_simp
              (go_at_call 140; ((with_reducible refine (HM2.out _ m.a _ om HRm).mono ?_); rintro e Wr1_14 ⟨an, rfl, _, _, on, _, hb⟩))
              refine hK.out _ _ ⟨hHeld.1.below hb, rblk_below hHeld.2 hb⟩ (fun hH => ?_)
              replace hHeld := hH
              clear hK K hH
              replace P_c := rblk_below P_c hb
              replace HRw := HRw.below hb
              replace HRu := HRu.below hb
              replace HRv := HRv.below hb
              replace HRm := HRm.below hb
              replace om := om.below hb
              replace on := on.rds
              clear hb
              try simp only [ps]
              refine rd1 (i := 12) (by kernel_rfl) rfl (fun K hK => ?_)
              go_simp
              (go_at_call 78; ((with_reducible refine (HD.out _ _ _ HRw on).mono ?_); rintro e Wr1_15 ⟨a3, rfl, h3x, h3y, o3, hap3, hb⟩))
              have hz3 := hHeld.1.lt
              refine hK.out _ _ ⟨hHeld.1.below hb, rblk_below hHeld.2 hb⟩ (fun hH => ?_)
              replace hHeld := hH
              clear hK K hH
              replace P_c := rblk_below P_c hb
              replace HRw := HRw.below hb
              replace HRu := HRu.below hb
              replace HRv := HRv.below hb
              replace HRm := HRm.below hb
              replace om := om.below hb
              replace on := on.below hb
              clear hb
              try simp only [ps]
              refine rd1 (i := 13) (by kernel_rfl) rfl (fun K hK => ?_)
              have t0 := rblk_cell P_c 0
              have q0 := rblk_free P_c 0
              have t1 := rblk_cell P_c 1
              have q1 := rblk_free P_c 1
              have t2 := rblk_cell P_c 2
              have q2 := rblk_free P_c 2
              go_simp
              clear t0 q0 t1 q1 t2 q2
              refine hK.out _ _ ⟨hHeld.1.put3 (.bool X2.p) (.slice a3.A X2.l.length a3.c) (.slice a3.D X2.m.length a3.d), (rblk_other (rblk_other (rblk_other hHeld.2 0 (.bool X2.p) ne_e) 1 (.slice a3.A X2.l.length a3.c) ne_e) 2 (.slice a3.D X2.m.length a3.d) ne_e)⟩ (fun hH => ?_)
              clear hK K hHeld
              have hHeld := hH
              clear hH
              have P_f := rblk_set (rblk_set (rblk_set P_c 0 (.bool X2.p)) 1 (.slice a3.A X2.l.length a3.c)) 2 (.slice a3.D X2.m.length a3.d)
              replace o3 := owns_put3 (r := gl) o3 (.inl hz3) (.bool X2.p) (.slice a3.A X2.l.length a3.c) (.slice a3.D X2.m.length a3.d)
              try simp only [ps]
              refine wpAnyH_done (by kernel_rfl) ?_ _
              replace hHeld := hHeld.1
              have P_o3 := hHeld.block (rblk_below HPO.out HBQ.out) ne_o
              have kz := hHeld.base KW.out hle
              have hzf := Nat.le_trans HZZ.out hHeld.size
              have oM3 := owns_grown (OM.out.below HBQ.out) hHeld.2 (fun g e => by injection e with e; subst e; exact HOFF.out)
              have HF := Lib.hid (And.intro P_f (And.intro o3 (And.intro P_o3 (And.intro kz (And.intro hz3 (And.intro oM3 hzf))))))
              clear P_f o3 P_o3 kz hz3 oM3 hzf hHeld P_c
              go_wp2
              go_roundw
              case rel => exact ⟨j + 1, X2, a3, hlt, by go_num, HX2.out, ⟨h3x, h3y⟩, HF.out.1, HF.out.2.1.wide (by have h1 := HF.out.2.2.2.2.1; have h2 := HGL.out.1; omega) (by first | rw [size_put3]; exact Nat.le_refl _ | exact Nat.le_refl _), hap3, HF.out.2.2.2.2.2.1, HF.out.2.2.1, HF.out.2.2.2.2.2.2, HF.out.2.2.2.1⟩
              case measure => simp [intOf]; omega
            · skip
              go_simp
              (go_at_call 140; ((with_reducible refine (HM2.out _ m.a _ om HRm).mono ?_); rintro e Wr1_16 ⟨an, rfl, _, _, on, _, hb⟩))
              refine hK.out _ _ ⟨hHeld.1.below hb, rblk_below hHeld.2 hb⟩ (fun hH => ?_)
              replace hHeld := hH
              clear hK K hH
              replace P_c := rblk_below P_c hb
              replace HRw := HRw.below hb
              replace HRu := HRu.below hb
              replace HRv := HRv.below hb
              replace HRm := HRm.below hb
              replace om := om.below hb
              replace on := on.rds
              clear hb
              try simp only [ps]
              refine rd1 (i := 0) (by kernel_rfl) rfl (fun K hK => ?_)
              have t0 := rblk_cell P_c 0
              have t1 := rblk_cell P_c 1
              have t2 := rblk_cell P_c 2
              go_simp
              clear t0 t1 t2
              refine hK.out _ _ hHeld (fun hH => ?_)
              clear hK K hH
              try simp only [ps]
              refine rd1 (i := 12) (by kernel_rfl) rfl (fun K hK => ?_)
              go_simp
              (go_at_call 78; ((with_reducible refine (HD.out _ _ _ HRw on).mono ?_); rintro e Wr1_17 ⟨a3, rfl, h3x, h3y, o3, hap3, hb⟩))
              have hz3 := hHeld.1.lt
              refine hK.out _ _ ⟨hHeld.1.below hb, rblk_below hHeld.2 hb⟩ (fun hH => ?_)
              replace hHeld := hH
              clear hK K hH
              replace P_c := rblk_below P_c hb
              replace HRw := HRw.below hb
              replace HRu := HRu.below hb
              replace HRv := HRv.below hb
              replace HRm := HRm.below hb
              replace om := om.below hb
              replace on := on.below hb
              clear hb
              try simp only [ps]
              refine rd1 (i := 13) (by kernel_rfl) rfl (fun K hK => ?_)
              have t0 := rblk_cell P_c 0
              have q0 := rblk_free P_c 0
              have t1 := rblk_cell P_c 1
              have q1 := rblk_free P_c 1
              have t2 := rblk_cell P_c 2
              have q2 := rblk_free P_c 2
              go_simp
              clear t0 q0 t1 q1 t2 q2
              refine hK.out _ _ ⟨hHeld.1.put3 (.bool X2.p) (.slice a3.A X2.l.length a3.c) (.slice a3.D X2.m.length a3.d), (rblk_other (rblk_other (rblk_other hHeld.2 0 (.bool X2.p) ne_e) 1 (.slice a3.A X2.l.length a3.c) ne_e) 2 (.slice a3.D X2.m.length a3.d) ne_e)⟩ (fun hH => ?_)
              clear hK K hHeld
              have hHeld := hH
              clear hH
              have P_f := rblk_set (rblk_set (rblk_set P_c 0 (.bool X2.p)) 1 (.slice a3.A X2.l.length a3.c)) 2 (.slice a3.D X2.m.length a3.d)
              replace o3 := owns_put3 (r := gl) o3 (.inl hz3) (.bool X2.p) (.slice a3.A X2.l.length a3.c) (.slice a3.D X2.m.length a3.d)
              try simp only [ps]
              refine wpAnyH_done (by kernel_rfl) ?_ _
              replace hHeld := hHeld.1
              have P_o3 := hHeld.block (rblk_below HPO.out HBQ.out) ne_o
              have kz := hHeld.base KW.out hle
              have hzf := Nat.le_trans HZZ.out hHeld.size
              have oM3 := owns_grown (OM.out.below HBQ.out) hHeld.2 (fun g e => by injection e with e; subst e; exact HOFF.out)
              have HF := Lib.hid (And.intro P_f (And.intro o3 (And.intro P_o3 (And.intro kz (And.intro hz3 (And.intro oM3 hzf))))))
              clear P_f o3 P_o3 kz hz3 oM3 hzf hHeld P_c
              go_wp2
              go_roundw
              case rel => exact ⟨j + 1, X2, a3, hlt, by go_num, HX2.out, ⟨h3x, h3y⟩, HF.out.1, HF.out.2.1.wide (by have h1 := HF.out.2.2.2.2.1; have h2 := HGL.out.1; omega) (by first | rw [size_put3]; exact Nat.le_refl _ | exact Nat.le_refl _), hap3, HF.out.2.2.2.2.2.1, HF.out.2.2.1, HF.out.2.2.2.2.2.2, HF.out.2.2.2.1⟩
              case measure => simp [intOf]; omega
        · obtain rfl : j = 3 := by omega
          have HE := Lib.hid (And.intro hX (And.intro hcx (And.intro P_l (And.intro ol (And.intro hapl (And.intro oM (And.intro P_o (And.intro hzz kb))))))))
          clear hX hcx P_l ol hapl oM P_o kb hzz
          go_wp2
          go_roundw
          case rel => exact ⟨i + 1, X, ax, hli, by go_num, HE.out.1, HE.out.2.1, HE.out.2.2.1, HE.out.2.2.2.1, HE.out.2.2.2.2.1, HE.out.2.2.2.2.2.1, HE.out.2.2.2.2.2.2.1, HE.out.2.2.2.2.2.2.2.1, HE.out.2.2.2.2.2.2.2.2⟩
          case measure => simp [intOf]; omega
    · obtain rfl : i = 3 := by omega
      have e1 : X = T := hX.trans HT.out.symm
      subst e1
      clear hX oM hzz
      have l0 := rblk_cell P_l 0
      have l1 := rblk_cell P_l 1
      have l2 := rblk_cell P_l 2
      have o0 := rblk_cell P_o 0
      have f0 := rblk_free P_o 0
      have o1 := rblk_cell P_o 1
      have f1 := rblk_free P_o 1
      have o2 := rblk_cell P_o 2
      have f2 := rblk_free P_o 2
      go_wp2
      exact bodyPost_ret (v := .agg (r3 X ax)) (by simp [results, Tryz.results95, go_sem, o0, o1, o2]) rfl ⟨ax, rfl, hcx.1, hcx.2, owns_end3 ol (.inl (Nat.lt_succ_self _)) (by omega) (Nat.le_refl _) _ _ _, hapl, below_put3 kb (Nat.le_succ _) _ _ _⟩
end Go.Proofs.YtppdholccpgcpaaGreat
