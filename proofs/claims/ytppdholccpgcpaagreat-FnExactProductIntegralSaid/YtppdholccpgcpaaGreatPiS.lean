/-
  The model's ProductIntegral.
-/
import Derived.Test.YtppdholccpgcpaaGreatElW
import Derived.Test.YtppdholccpgcpaaGreatVal
import Derived.Test.YtppdholccpgcpaaGreatInS
import Derived.Test.YtppdholccpgcpaaGreatAppT
import Derived.Test.YtppdholccpgcpaaGreatTk
import Derived.Test.YtppdholccpgcpaaGreatPtL
namespace Go.Proofs.YtppdholccpgcpaaGreat
open Go.ChangeShapes Go.WideShapes Go.ChangeAt Go.RowKit
open Go.ChangeMaps (open_string shut_string)
set_option linter.unusedVariables false
set_option linter.unusedSimpArgs false
set_option maxRecDepth 4000
attribute [local go_sem ↓] Go.wp_at_zero Go.wp_at_succ
theorem accP_step (L : List PV) (U V : List RV) {i j : Nat} (hj : j < 3) {p q : RV} (hp : U[i]? = some p) (hq : V[j]? = some q) : accP L U V (3 * i + j + 1) = binQ addQ (accP L U V (3 * i + j)) (binQ mulQ (massF L i j) (binQ mulQ (valx p.x) (valx q.x))) := by
  show binQ addQ (accP L U V (3 * i + j)) (binQ mulQ (massF L ((3 * i + j) / 3) ((3 * i + j) % 3)) (binQ mulQ (valU U ((3 * i + j) / 3)) (valU V ((3 * i + j) % 3)))) = _
  rw [show (3 * i + j) / 3 = i by omega, show (3 * i + j) % 3 = j by omega, valU_get hp, valU_get hq]
theorem ok12_three {L : List PV} {U : List RV} (h : ok12 L U = true) : U.length = 3 := by
  unfold ok12 at h
  simp only [Bool.and_eq_true, decide_eq_true_eq] at h
  exact h.2.1
set_option maxHeartbeats 4000000 in
theorem spec_productIntegral (L : List PV) (A : Option Addr) (c : Nat) (U : List RV) (D : Option Addr) (d : Nat) (V : List RV) (E : Option Addr) (e : Nat) (w : World) (hn : L.length ≤ 9223372036854775807) (hL : ∀ p, p ∈ L → LenP p) (hC : ∀ p, p ∈ L → CapP p) (hA : RdS w A (flat L)) (hR : Rds w (lrow L))
    (hn' : U.length ≤ 9223372036854775807) (hL' : ∀ p, p ∈ U → LenQ p) (hA' : RdS w D (flatQ U)) (hR' : Rds w (lrowQ U)) (hn2 : V.length ≤ 9223372036854775807) (hL2 : ∀ p, p ∈ V → LenQ p) (hA2 : RdS w E (flatQ V)) (hR2 : Rds w (lrowQ V))
    (HMS : ∀ W, Below w.heap.size w W → Calls Tryz.prog 54 #[.slice A L.length c] W (MadeRSS W.heap.size (massL L) W)) :
    Calls Tryz.prog 55 #[.slice A L.length c, .slice D U.length d, .slice E V.length e] w (MadeQ w.heap.size (ofO (prodO L U V)) w) := by
  have HO1 : Hid (∀ W, Below w.heap.size w W → Calls Tryz.prog 108 #[.slice A L.length c, .slice D U.length d] W (fun e w' => e = .returned (.bool (ok12 L U)) ∧ Below W.heap.size W w')) := Lib.hid (fun W hb => spec_ok12 L A c U D d W hn hL hC (hA.below hb) (hR.below hb) hn' hL' (hA'.below hb) (hR'.below hb))
  have HO2 : Hid (∀ W, Below w.heap.size w W → Calls Tryz.prog 108 #[.slice A L.length c, .slice E V.length e] W (fun e w' => e = .returned (.bool (ok12 L V)) ∧ Below W.heap.size W w')) := Lib.hid (fun W hb => spec_ok12 L A c V E e W hn hL hC (hA.below hb) (hR.below hb) hn2 hL2 (hA2.below hb) (hR2.below hb))
  have HM := Lib.hid HMS
  unfold MadeRSS at HM
  have RA : Hid (∀ W, Below w.heap.size w W → (RdS W D (flatQ U) ∧ Rds W (lrowQ U)) ∧ RdS W E (flatQ V) ∧ Rds W (lrowQ V)) := Lib.hid (fun W hb => ⟨⟨hA'.below hb, hR'.below hb⟩, hA2.below hb, hR2.below hb⟩)
  have HLL := Lib.hid (And.intro hL' hL2)
  clear hA hR hA' hR' hL hL' hC hA2 hR2 hL2 HMS hn
  generalize L.length = n at HO1 HO2 HM ⊢
  have P_o := heap_alloc_new w (.cells #[.bool false, .slice none 0 0, .slice none 0 0] 29)
  have kb := ba1 w (.cells #[.bool false, .slice none 0 0, .slice none 0 0] 29)
  obtain ⟨PO, hPO⟩ : ∃ PO, PO = prodO L U V := ⟨_, rfl⟩
  rw [← hPO]
  cases hb1 : ok12 L U with
  | false =>
    obtain rfl : PO = none := by rw [hPO]; unfold prodO; rw [hb1]; simp
    rw [hb1] at HO1
    clear hb1 hPO
    generalize U.length = m at *
    generalize V.length = k at *
    go_enter Tryz.func55, Tryz.ntmps55
    go_wp2_with fail
    generalize w.alloc (.cells #[.bool false, .slice none 0 0, .slice none 0 0] 29) = W1 at P_o kb ⊢
    refine (HO1.out _ kb).mono ?_
    rintro e W2 ⟨rfl, hb⟩
    replace P_o := rblk_below P_o hb
    replace kb := bt kb hb
    clear hb
    have c_o0 : W2.cell? ⟨w.heap.size, 0, none⟩ = some (.bool false) := rblk_cell P_o 0
    have c_o1 : W2.cell? ⟨w.heap.size, 1, none⟩ = some (.slice none 0 0) := rblk_cell P_o 1
    have c_o2 : W2.cell? ⟨w.heap.size, 2, none⟩ = some (.slice none 0 0) := rblk_cell P_o 2
    have f_o0 := rblk_free P_o 0
    have f_o1 := rblk_free P_o 1
    have f_o2 := rblk_free P_o 2
    go_wp2
    exact bodyPost_ret (v := .agg #[.bool false, .slice none 0 0, .slice none 0 0]) (by simp [results, Tryz.results55, go_sem, c_o0, c_o1, c_o2]) rfl (none_rat _ _ _ (below_put3 kb (Nat.le_refl _) _ _ _))
  | true =>
  have hU3 := ok12_three hb1
  rw [hb1] at HO1
  cases hb2 : ok12 L V with
  | false =>
    obtain rfl : PO = none := by rw [hPO]; unfold prodO; rw [hb2]; simp
    rw [hb2] at HO2
    clear hb1 hb2 hPO hU3
    generalize U.length = m at *
    generalize V.length = k at *
    go_enter Tryz.func55, Tryz.ntmps55
    go_wp2_with fail
    generalize w.alloc (.cells #[.bool false, .slice none 0 0, .slice none 0 0] 29) = W1 at P_o kb ⊢
    refine (HO1.out _ kb).mono ?_
    rintro e W2 ⟨rfl, hb⟩
    replace P_o := rblk_below P_o hb
    replace kb := bt kb hb
    clear hb
    go_wp2_with fail
    refine (HO2.out _ kb).mono ?_
    rintro e W3 ⟨rfl, hb⟩
    replace P_o := rblk_below P_o hb
    replace kb := bt kb hb
    clear hb
    have c_o0 : W3.cell? ⟨w.heap.size, 0, none⟩ = some (.bool false) := rblk_cell P_o 0
    have c_o1 : W3.cell? ⟨w.heap.size, 1, none⟩ = some (.slice none 0 0) := rblk_cell P_o 1
    have c_o2 : W3.cell? ⟨w.heap.size, 2, none⟩ = some (.slice none 0 0) := rblk_cell P_o 2
    have f_o0 := rblk_free P_o 0
    have f_o1 := rblk_free P_o 1
    have f_o2 := rblk_free P_o 2
    go_wp2
    exact bodyPost_ret (v := .agg #[.bool false, .slice none 0 0, .slice none 0 0]) (by simp [results, Tryz.results55, go_sem, c_o0, c_o1, c_o2]) rfl (none_rat _ _ _ (below_put3 kb (Nat.le_refl _) _ _ _))
  | true =>
    have hV3 := ok12_three hb2
    rw [hb2] at HO2
    have HPO : Hid ((okF (massF L) 3 3 = false → PO = none) ∧ (okF (massF L) 3 3 = true → PO = accP L U V 9)) := Lib.hid ⟨fun h => by rw [hPO]; unfold prodO; rw [h]; simp, fun h => by rw [hPO]; unfold prodO; rw [hb1, hb2, h]; simp⟩
    have HU3 := Lib.hid (And.intro hU3 hV3)
    clear hb1 hb2 hPO hU3 hV3
    rw [HU3.out.1] at HO1 hn' ⊢
    rw [HU3.out.2] at HO2 hn2 ⊢
    obtain ⟨T, hT⟩ : ∃ T, T = ofO PO := ⟨_, rfl⟩
    rw [← hT]
    have HT := Lib.hid hT
    clear hT
    have HZ := Lib.hid (fun W => show Calls Tryz.prog 119 #[.int .i64 0] W (MadeQ W.heap.size (ofO (some 0)) W) from (spec_rfi 0 W (by decide)).mono fun e w' k => ofO_zero_made k)
    unfold MadeQ at HZ
    obtain ⟨Z0, hZ0⟩ : ∃ Z, Z = ofO (some (0 : Rat)) := ⟨_, rfl⟩
    rw [← hZ0] at HZ
    have HZ0 := Lib.hid hZ0
    clear hZ0
    go_enter Tryz.func55, Tryz.ntmps55
    go_wp2_with fail
    generalize w.alloc (.cells #[.bool false, .slice none 0 0, .slice none 0 0] 29) = W1 at P_o kb ⊢
    refine (HO1.out _ kb).mono ?_
    rintro e Wy ⟨rfl, hb⟩
    replace P_o := rblk_below P_o hb
    replace kb := bt kb hb
    clear hb
    go_wp2_with fail
    refine (HO2.out _ kb).mono ?_
    rintro e Wz ⟨rfl, hb⟩
    replace P_o := rblk_below P_o hb
    replace kb := bt kb hb
    clear hb
    go_wp2_with fail
    refine (HZ.out _).mono ?_
    rintro e W2 ⟨a0, rfl, hc1, hc2, o0, hap0, hb⟩
    have hlo := rblk_lt P_o
    replace P_o := rblk_below P_o hb
    replace kb := bt kb hb
    clear hb
    have P_l := heap_alloc_new W2 (.cells #[.bool Z0.p, .slice a0.A Z0.l.length a0.c, .slice a0.D Z0.m.length a0.d] 29)
    have hb := ba1 W2 (.cells #[.bool Z0.p, .slice a0.A Z0.l.length a0.c, .slice a0.D Z0.m.length a0.d] 29)
    have hgl : w.heap.size < W2.heap.size := rblk_lt P_o
    replace P_o := rblk_below P_o hb
    replace o0 := (o0.below hb).wide (Nat.succ_le_of_lt hlo) hb.size
    replace kb := bt kb hb
    clear hb hlo HO1 HO2
    go_wp2_with fail
    generalize W2.alloc (.cells #[.bool Z0.p, .slice a0.A Z0.l.length a0.c, .slice a0.D Z0.m.length a0.d] 29) = W3 at P_o P_l o0 kb ⊢
    generalize W2.heap.size = gl at P_l hgl ⊢
    have HG := Lib.hid hgl
    clear hgl
    have rblk_lt0 := Lib.hid (rblk_lt P_l)
    refine (HM.out _ kb).mono ?_
    rintro e W4 ⟨M, B, cm, rfl, hdM, oM, hapM, hb⟩
    replace P_o := rblk_below P_o hb
    replace P_l := rblk_below P_l hb
    replace o0 := (o0.below hb).wide (Nat.le_refl _) hb.size
    replace kb := bt kb hb
    have HOFF : Hid (OffG gl (srowS B M)) := Lib.hid (offG_owns oM (rblk_lt0.out))
    replace oM := oM.rds
    clear hb hapM HM
    cases hok : okF (massF L) 3 3 with
    | false =>
      have hM0 : M.length = 0 := by rw [datS_len hdM]; unfold massL fullM; rw [hok]; rfl
      have eT : T = ofO none := by rw [HT.out, HPO.out.1 hok]
      subst eT
      rw [hM0]
      clear hM0 hok hdM oM
      have c_o0 : W4.cell? ⟨w.heap.size, 0, none⟩ = some (.bool false) := rblk_cell P_o 0
      have c_o1 : W4.cell? ⟨w.heap.size, 1, none⟩ = some (.slice none 0 0) := rblk_cell P_o 1
      have c_o2 : W4.cell? ⟨w.heap.size, 2, none⟩ = some (.slice none 0 0) := rblk_cell P_o 2
      have f_o0 := rblk_free P_o 0
      have f_o1 := rblk_free P_o 1
      have f_o2 := rblk_free P_o 2
      go_wp2
      exact bodyPost_ret (v := .agg #[.bool false, .slice none 0 0, .slice none 0 0]) (by simp [results, Tryz.results55, go_sem, c_o0, c_o1, c_o2]) rfl (none_rat _ _ _ (below_put3 kb (Nat.le_refl _) _ _ _))
    | true =>
      have hdM2 : datS M = datS (matF (massF L) 3 3) := by rw [hdM]; unfold massL fullM; rw [if_pos hok]
      have hM3 : M.length = 3 := by rw [datS_len hdM2, matF_len]
      have HT9 : Hid (T = ofO (accP L U V 9)) := Lib.hid (by rw [HT.out, HPO.out.2 hok])
      rw [hM3]
      have HMD : Hid (M.length = 3 ∧ ∀ (i : Nat) (p : SV), M[i]? = some p → p.L.length = 3 ∧ ∀ (j : Nat) (q : RV), p.L[j]? = some q → q.x = ofO (massF L i j)) := Lib.hid ⟨hM3, fun i p hp => by
        obtain ⟨p0, hp0, e0⟩ := datS_get hdM2.symm hp
        have hi : i < 3 := by have := lt_of_getS hp; omega
        have hi2 : p0 = ⟨rowF (massF L i) 3, none, 0⟩ := by
          unfold matF at hp0
          rw [List.getElem?_map, List.getElem?_range hi] at hp0
          injection hp0 with hp0; exact hp0.symm
        subst hi2
        have hl : p.L.length = 3 := by rw [datQ_len e0.symm, rowF_len]
        refine ⟨hl, fun j q hq => ?_⟩
        obtain ⟨q0, hq0, e1⟩ := datQ_get e0 hq
        have hj : j < 3 := by have := lt_of_getQ hq; omega
        unfold rowF at hq0
        rw [List.getElem?_map, List.getElem?_range hj] at hq0
        injection hq0 with hq0
        rw [← e1, ← hq0]⟩
      clear hM3 hdM2 hdM hok
      have RM : Hid (∀ W, Below W4.heap.size W4 W → Rds W (srowS B M) ∧ Below w.heap.size w W) := Lib.hid (fun W hb => ⟨oM.below hb, bt kb hb⟩)
      have kk := Below.refl W4.heap.size W4
      have HS4 : Hid (gl < W4.heap.size ∧ w.heap.size < W4.heap.size) := Lib.hid ⟨rblk_lt P_l, rblk_lt P_o⟩
      clear oM kb
      have kb : Below w.heap.size w W4 := (RM.out _ kk).2
      go_wp2_with fail
      go_loopw [33] (fun k w' => ∃ (i : Nat) (X : R3) (a : Ad), i ≤ 3 ∧ k = .int .i64 (i : Int) ∧ X = ofO (accP L U V (3 * i)) ∧ (X.l.length ≤ a.c ∧ X.m.length ≤ a.d) ∧ w'.heap[gl]? = some (.cells #[.bool X.p, .slice a.A X.l.length a.c, .slice a.D X.m.length a.d] 29 (0, 0)) ∧ Owns (w.heap.size + 1) w'.heap.size w' (rows X a) ∧ Aparts (rows X a) ∧ w'.heap[w.heap.size]? = some (.cells #[.bool false, .slice none 0 0, .slice none 0 0] 29 (0, 0)) ∧ Rds w' (srowS B M) ∧ Below w.heap.size w w') (fun k _ => 3 - (intOf k).toNat)
      case atStart => exact ⟨0, Z0, a0, by omega, rfl, HZ0.out, ⟨hc1, hc2⟩, P_l, o0, hap0, P_o, (RM.out _ kk).1, kb⟩
      case round =>
        clear P_l o0 P_o kb hc1 hc2 hap0 kk RM HS4
        obtain ⟨i, X, ax, hi, rfl, hX, hcx, P_l, ol, hapl, P_o, rM, kb⟩ := hrel
        by_cases hlt : i < 3
        · have hi0 : (0 : Int) ≤ (i : Int) := by omega
          have hi1 : (i : Int) < 3 := by omega
          obtain ⟨p, hp⟩ := getS (R := M) (i := i) (by rw [HMD.out.1]; exact hlt)
          obtain ⟨g, og, rfl, _, c0⟩ := rM.hd.row hp
          have hpl := (HMD.out.2 i p hp).1
          have HP := Lib.hid (And.intro hp hpl)
          rw [hpl] at c0
          clear hp hpl
          go_wp2_with fail
          clear c0
          go_loopw [40] (fun k w' => ∃ (j : Nat) (X : R3) (a : Ad), j ≤ 3 ∧ k = .int .i64 (j : Int) ∧ X = ofO (accP L U V (3 * i + j)) ∧ (X.l.length ≤ a.c ∧ X.m.length ≤ a.d) ∧ w'.heap[gl]? = some (.cells #[.bool X.p, .slice a.A X.l.length a.c, .slice a.D X.m.length a.d] 29 (0, 0)) ∧ Owns (w.heap.size + 1) w'.heap.size w' (rows X a) ∧ Aparts (rows X a) ∧ w'.heap[w.heap.size]? = some (.cells #[.bool false, .slice none 0 0, .slice none 0 0] 29 (0, 0)) ∧ Rds w' (srowS (some ⟨g, og, none⟩) M) ∧ Below w.heap.size w w') (fun k _ => 3 - (intOf k).toNat)
          case atStart => exact ⟨0, X, ax, by omega, rfl, hX, hcx, P_l, ol, hapl, P_o, rM, kb⟩
          case round =>
            clear hX hcx P_l ol hapl P_o rM kb
            obtain ⟨j, X, ax, hj, rfl, hX, hcx, P_l, ol, hapl, P_o, rM, kb⟩ := hrel
            by_cases hlj : j < 3
            · have hj0 : (0 : Int) ≤ (j : Int) := by omega
              have hj1 : (j : Int) < 3 := by omega
              obtain ⟨r, hr⟩ := getQ (L := p.L) (i := j) (by rw [HP.out.2]; exact hlj)
              obtain ⟨u, hu⟩ := getQ (L := U) (i := i) (by rw [HU3.out.1]; exact hlt)
              obtain ⟨v, hv⟩ := getQ (L := V) (i := j) (by rw [HU3.out.2]; exact hlj)
              have rr := rM.tl.atS HP.out.1
              obtain ⟨g2, o2, ep, _, c0, c1, c2⟩ := rr.hd.three hr
              obtain ⟨gu, ou, rfl, _, _, _, _⟩ := (RA.out _ kb).1.1.three hu
              obtain ⟨gv, ov, rfl, _, _, _, _⟩ := (RA.out _ kb).2.1.three hv
              have lu := HLL.out.1 u (List.mem_of_getElem? hu)
              have lv := HLL.out.2 v (List.mem_of_getElem? hv)
              have er := (HMD.out.2 i p HP.out.1).2 j r hr
              have fr := massF_fit L i j
              have fu : FitO (binQ mulQ (valx u.x) (valx v.x)) := binmul_fit _ _
              have f1 : FitO (accP L U V (3 * i + j)) := accP_fit _ _ _ _
              have HM1 := Lib.hid (fun (a c : Ad) W h h' => specmul_r u.x v.x a c W lu.1 lu.2 lv.1 lv.2 h h')
              have HM2 : Hid (∀ (a c : Ad) W, Rds W (rows r.x a) → Rds W (rows (ofO (binQ mulQ (valx u.x) (valx v.x))) c) → Calls Tryz.prog 114 #[.agg #[.bool r.x.p, .slice a.A r.x.l.length a.c, .slice a.D r.x.m.length a.d], .agg #[.bool (ofO (binQ mulQ (valx u.x) (valx v.x))).p, .slice c.A (ofO (binQ mulQ (valx u.x) (valx v.x))).l.length c.c, .slice c.D (ofO (binQ mulQ (valx u.x) (valx v.x))).m.length c.d]] W (MadeQ W.heap.size (ofO (binQ mulQ (massF L i j) (binQ mulQ (valx u.x) (valx v.x)))) W)) := Lib.hid (fun a c W h h' => by
                have h1 := fr.len
                have h2 := fu.len
                rw [er] at h ⊢
                have K := specmul_r (ofO (massF L i j)) (ofO (binQ mulQ (valx u.x) (valx v.x))) a c W (by omega) (by omega) (by omega) (by omega) h h'
                rw [valx_ofO fr, valx_ofO fu] at K
                exact K)
              have HS := Lib.hid (fun (a c : Ad) W h h' => specadd_o (accP L U V (3 * i + j)) (binQ mulQ (massF L i j) (binQ mulQ (valx u.x) (valx v.x))) a c W f1 (binmul_fit _ _) h h')
              have HX2 : Hid (ofO (binQ addQ (accP L U V (3 * i + j)) (binQ mulQ (massF L i j) (binQ mulQ (valx u.x) (valx v.x)))) = ofO (accP L U V (3 * i + (j + 1)))) := Lib.hid (by rw [← Nat.add_assoc, accP_step L U V hlj hu hv])
              rw [← hX] at HS
              clear hX f1 lu lv fr fu er
              generalize ofO (binQ addQ (accP L U V (3 * i + j)) (binQ mulQ (massF L i j) (binQ mulQ (valx u.x) (valx v.x)))) = X2 at HS HX2
              generalize ofO (binQ mulQ (massF L i j) (binQ mulQ (valx u.x) (valx v.x))) = V2 at HM2 HS
              generalize ofO (binQ mulQ (valx u.x) (valx v.x)) = V1 at HM1 HM2
              unfold MadeQ at HM1 HM2 HS
              have HUV := Lib.hid (And.intro hu hv)
              have HRR := Lib.hid (rr.tl.atQ hr)
              have HRM := Lib.hid rM
              have P_e := heap_alloc_new wr (.cells #[.bool r.x.p, .slice r.a.A r.x.l.length r.a.c, .slice r.a.D r.x.m.length r.a.d] 29)
              have hb := ba1 wr (.cells #[.bool r.x.p, .slice r.a.A r.x.l.length r.a.c, .slice r.a.D r.x.m.length r.a.d] 29)
              have hge := rblk_lt P_l
              have P_l2 := rblk_below P_l hb
              have P_o2 := rblk_below P_o hb
              have k2 := bt kb hb
              have ol2 := (ol.below hb).rds
              have HRR2 := Lib.hid (HRR.out.below hb)
              have HRM2 : Hid (Rds (wr.alloc (.cells #[.bool r.x.p, .slice r.a.A r.x.l.length r.a.c, .slice r.a.D r.x.m.length r.a.d] 29)) (srowS (some ⟨g, og, none⟩) M)) := Lib.hid (HRM.out.below hb)
              have hsz : wr.heap.size < (wr.alloc (.cells #[.bool r.x.p, .slice r.a.A r.x.l.length r.a.c, .slice r.a.D r.x.m.length r.a.d] 29)).heap.size := by rw [sz1]; omega
              clear hu hv hr ol hapl hcx P_l P_o kb hb rM rr HRM HRR
              rw [ep]
              go_wp2_with fail
              clear c0 c1 c2
              generalize wr.alloc (.cells #[.bool r.x.p, .slice r.a.A r.x.l.length r.a.c, .slice r.a.D r.x.m.length r.a.d] 29) = Wb at P_e P_l2 P_o2 k2 ol2 hsz HRR2 HRM2 ⊢
              generalize wr.heap.size = ge at P_e hge hsz ⊢
              have ne_e : gl ≠ ge := by omega
              have ne_o : gl ≠ w.heap.size := by have := HG.out; omega
              have hle : w.heap.size ≤ gl := by have := HG.out; omega
              have KW := Lib.hid k2
              have HC := Lib.hid (And.intro (RA.out _ k2).1.2 (RA.out _ k2).2)
              clear k2
              have KST := Keep3.start P_l2
              refine wp_region_held_drew (S := fun w' => Keep3 Wb w' gl) (by kernel_rfl) (KST.drew) (fun hHeld => ?_)
              have P_c : Wb.drew.heap[gl]? = some (.cells #[.bool X.p, .slice ax.A X.l.length ax.c, .slice ax.D X.m.length ax.d] 29 (0, 0)) := P_l2
              have HRw : Rds Wb.drew (rows X ax) := ol2.below ((Below.refl _ _).drew)
              have HRr : Rds Wb.drew (rows r.x r.a) := HRR2.out.below ((Below.refl _ _).drew)
              have HRu : Rds Wb.drew (rows u.x u.a) := (HC.out.1.atQ HUV.out.1).below ((Below.refl _ _).drew)
              have HRv : Rds Wb.drew (rows v.x v.a) := (HC.out.2.2.atQ HUV.out.2).below ((Below.refl _ _).drew)
              clear ol2
              refine tk (i := 1) (v := ?vg1_1) rfl (by kernel_rfl) (fun _ _ _ h => h) (Or.inl ⟨by rfl, ?hg1_1⟩) hHeld ?_
              case hg1_1 => (intro w hSw; (try dsimp only at hSw); have z0 := rblk_cell (hSw.block P_e ne_e) 0; have z1 := rblk_cell (hSw.block P_e ne_e) 1; have z2 := rblk_cell (hSw.block P_e ne_e) 2; clear hSw; go_simp; (try with_reducible rfl))
              try simp only [ps]
              refine tk (i := 2) (v := ?vg1_2) rfl (by kernel_rfl) (fun _ _ _ h => h) (Or.inl ⟨by rfl, ?hg1_2⟩) hHeld ?_
              case hg1_2 => (intro w hSw; (try dsimp only at hSw); clear hSw; go_simp; (try with_reducible rfl))
              try simp only [ps]
              refine tk (i := 3) (v := ?vg1_3) rfl (by kernel_rfl) (fun _ _ _ h => h) (Or.inl ⟨by rfl, ?hg1_3⟩) hHeld ?_
              case hg1_3 => (intro w hSw; (try dsimp only at hSw); clear hSw; go_simp; (try with_reducible rfl))
              try simp only [ps]
              refine tk (i := 4) (v := ?vg1_4) rfl (by kernel_rfl) (fun _ _ _ h => h) (Or.inl ⟨by rfl, ?hg1_4⟩) hHeld ?_
              case hg1_4 => (intro w hSw; (try dsimp only at hSw); clear hSw; go_simp; (try with_reducible rfl))
              try simp only [ps]
              refine tk (i := 5) (v := ?vg1_5) rfl (by kernel_rfl) (fun _ _ _ h => h) (Or.inl ⟨by rfl, ?hg1_5⟩) hHeld ?_
              case hg1_5 => (intro w hSw; (try dsimp only at hSw); obtain ⟨_, _, he, _, z0, z1, z2⟩ := (RA.out _ (hSw.base KW.out hle)).1.1.three HUV.out.1; cases he; clear hSw; go_simp; (try with_reducible rfl))
              try simp only [ps]
              refine tk (i := 6) (v := ?vg1_6) rfl (by kernel_rfl) (fun _ _ _ h => h) (Or.inl ⟨by rfl, ?hg1_6⟩) hHeld ?_
              case hg1_6 => (intro w hSw; (try dsimp only at hSw); clear hSw; go_simp; (try with_reducible rfl))
              try simp only [ps]
              refine tk (i := 7) (v := ?vg1_7) rfl (by kernel_rfl) (fun _ _ _ h => h) (Or.inl ⟨by rfl, ?hg1_7⟩) hHeld ?_
              case hg1_7 => (intro w hSw; (try dsimp only at hSw); clear hSw; go_simp; (try with_reducible rfl))
              try simp only [ps]
              refine tk (i := 8) (v := ?vg1_8) rfl (by kernel_rfl) (fun _ _ _ h => h) (Or.inl ⟨by rfl, ?hg1_8⟩) hHeld ?_
              case hg1_8 => (intro w hSw; (try dsimp only at hSw); clear hSw; go_simp; (try with_reducible rfl))
              try simp only [ps]
              refine tk (i := 9) (v := ?vg1_9) rfl (by kernel_rfl) (fun _ _ _ h => h) (Or.inl ⟨by rfl, ?hg1_9⟩) hHeld ?_
              case hg1_9 => (intro w hSw; (try dsimp only at hSw); obtain ⟨_, _, he, _, z0, z1, z2⟩ := (RA.out _ (hSw.base KW.out hle)).2.1.three HUV.out.2; cases he; clear hSw; go_simp; (try with_reducible rfl))
              try simp only [ps]
              refine wpAnyH_ready (rs := [0, 10]) (by kernel_rfl) (by simp) ?_
              refine rc1 rfl (fun K hK => ?_) (rc1 rfl (fun K hK => ?_) AllReadyH.nil)
              · skip
                have t0 := rblk_cell P_c 0
                have t1 := rblk_cell P_c 1
                have t2 := rblk_cell P_c 2
                go_simp
                clear t0 t1 t2
                refine hK.out _ _ hHeld (fun hH => ?_)
                clear hK K hH
                try simp only [ps]
                refine rd1 (i := 10) (by kernel_rfl) rfl (fun K hK => ?_)
                go_simp
                (go_at_call 114; ((with_reducible refine (HM1.out _ _ _ HRu HRv).mono ?_); rintro e Wr1_10 ⟨am, rfl, hmx, hmy, om, hapm, hb⟩))
                refine hK.out _ _ (hHeld.below hb) (fun hH => ?_)
                replace hHeld := hH
                clear hK K hH
                replace P_c := rblk_below P_c hb
                replace HRw := HRw.below hb
                replace HRr := HRr.below hb
                replace HRu := HRu.below hb
                replace HRv := HRv.below hb
                replace om := om.rds
                clear hmx hmy hapm
                clear hb
                try simp only [ps]
                refine rd1 (i := 11) (by kernel_rfl) rfl (fun K hK => ?_)
                go_simp
                (go_at_call 114; ((with_reducible refine (HM2.out _ _ _ HRr om).mono ?_); rintro e Wr1_11 ⟨an, rfl, hnx, hny, on, hapn, hb⟩))
                refine hK.out _ _ (hHeld.below hb) (fun hH => ?_)
                replace hHeld := hH
                clear hK K hH
                replace P_c := rblk_below P_c hb
                replace HRw := HRw.below hb
                replace HRr := HRr.below hb
                replace HRu := HRu.below hb
                replace HRv := HRv.below hb
                replace om := om.below hb
                replace on := on.rds
                clear hnx hny hapn
                clear hb
                try simp only [ps]
                refine rd1 (i := 12) (by kernel_rfl) rfl (fun K hK => ?_)
                go_simp
                (go_at_call 120; ((with_reducible refine (HS.out _ _ _ HRw on).mono ?_); rintro e Wr1_12 ⟨a3, rfl, h3x, h3y, o3, hap3, hb⟩))
                have hz3 := hHeld.lt
                refine hK.out _ _ (hHeld.below hb) (fun hH => ?_)
                replace hHeld := hH
                clear hK K hH
                replace P_c := rblk_below P_c hb
                replace HRw := HRw.below hb
                replace HRr := HRr.below hb
                replace HRu := HRu.below hb
                replace HRv := HRv.below hb
                replace om := om.below hb
                replace on := on.below hb
                clear hb
                try simp only [ps]
                refine rd1 (i := 13) (by kernel_rfl) rfl (fun K hK => ?_)
                have t0 := rblk_cell P_c 0
                have q0 := rblk_free P_c 0
                have t1 := rblk_cell P_c 1
                have q1 := rblk_free P_c 1
                have t2 := rblk_cell P_c 2
                have q2 := rblk_free P_c 2
                go_simp
                clear t0 t1 t2 q0 q1 q2
                refine hK.out _ _ (hHeld.put3 (.bool X2.p) (.slice a3.A X2.l.length a3.c) (.slice a3.D X2.m.length a3.d)) (fun hH => ?_)
                clear hK K hHeld
                have hHeld := hH
                clear hH
                have P_f := rblk_set (rblk_set (rblk_set P_c 0 (.bool X2.p)) 1 (.slice a3.A X2.l.length a3.c)) 2 (.slice a3.D X2.m.length a3.d)
                replace o3 := owns_put3 (r := gl) o3 (.inl hz3) (.bool X2.p) (.slice a3.A X2.l.length a3.c) (.slice a3.D X2.m.length a3.d)
                try simp only [ps]
                refine wpAnyH_done (by kernel_rfl) ?_ _
                have P_o3 := hHeld.block P_o2 ne_o
                have kz := hHeld.base KW.out hle
                have rM2 := grown_rds hHeld.2 HRM2.out HOFF.out
                have HF := Lib.hid (And.intro P_f (And.intro o3 (And.intro P_o3 (And.intro kz (And.intro hz3 rM2)))))
                clear P_f o3 P_o3 kz hz3 hHeld P_c rM2
                go_wp2
                go_roundw
                case rel => exact ⟨j + 1, X2, a3, hlj, by go_num, HX2.out, ⟨h3x, h3y⟩, HF.out.1, HF.out.2.1.wide (by have h1 := HF.out.2.2.2.2.1; have h2 := HG.out; omega) (by first | rw [size_put3]; exact Nat.le_refl _ | exact Nat.le_refl _), hap3, HF.out.2.2.1, HF.out.2.2.2.2.2, HF.out.2.2.2.1⟩
                case measure => simp [intOf]; omega
              · skip
                go_simp
                (go_at_call 114; ((with_reducible refine (HM1.out _ _ _ HRu HRv).mono ?_); rintro e Wr1_13 ⟨am, rfl, hmx, hmy, om, hapm, hb⟩))
                refine hK.out _ _ (hHeld.below hb) (fun hH => ?_)
                replace hHeld := hH
                clear hK K hH
                replace P_c := rblk_below P_c hb
                replace HRw := HRw.below hb
                replace HRr := HRr.below hb
                replace HRu := HRu.below hb
                replace HRv := HRv.below hb
                replace om := om.rds
                clear hmx hmy hapm
                clear hb
                try simp only [ps]
                refine wpAnyH_ready (rs := [0, 11]) (by kernel_rfl) (by simp) ?_
                refine rc1 rfl (fun K hK => ?_) (rc1 rfl (fun K hK => ?_) AllReadyH.nil)
                · skip
                  have t0 := rblk_cell P_c 0
                  have t1 := rblk_cell P_c 1
                  have t2 := rblk_cell P_c 2
                  go_simp
                  clear t0 t1 t2
                  refine hK.out _ _ hHeld (fun hH => ?_)
                  clear hK K hH
                  try simp only [ps]
                  refine rd1 (i := 11) (by kernel_rfl) rfl (fun K hK => ?_)
                  go_simp
                  (go_at_call 114; ((with_reducible refine (HM2.out _ _ _ HRr om).mono ?_); rintro e Wr1_14 ⟨an, rfl, hnx, hny, on, hapn, hb⟩))
                  refine hK.out _ _ (hHeld.below hb) (fun hH => ?_)
                  replace hHeld := hH
                  clear hK K hH
                  replace P_c := rblk_below P_c hb
                  replace HRw := HRw.below hb
                  replace HRr := HRr.below hb
                  replace HRu := HRu.below hb
                  replace HRv := HRv.below hb
                  replace om := om.below hb
                  replace on := on.rds
                  clear hnx hny hapn
                  clear hb
                  try simp only [ps]
                  refine rd1 (i := 12) (by kernel_rfl) rfl (fun K hK => ?_)
                  go_simp
                  (go_at_call 120; ((with_reducible refine (HS.out _ _ _ HRw on).mono ?_); rintro e Wr1_15 ⟨a3, rfl, h3x, h3y, o3, hap3, hb⟩))
                  have hz3 := hHeld.lt
                  refine hK.out _ _ (hHeld.below hb) (fun hH => ?_)
                  replace hHeld := hH
                  clear hK K hH
                  replace P_c := rblk_below P_c hb
                  replace HRw := HRw.below hb
                  replace HRr := HRr.below hb
                  replace HRu := HRu.below hb
                  replace HRv := HRv.below hb
                  replace om := om.below hb
                  replace on := on.below hb
                  clear hb
                  try simp only [ps]
                  refine rd1 (i := 13) (by kernel_rfl) rfl (fun K hK => ?_)
                  have t0 := rblk_cell P_c 0
                  have q0 := rblk_free P_c 0
                  have t1 := rblk_cell P_c 1
                  have q1 := rblk_free P_c 1
                  have t2 := rblk_cell P_c 2
                  have q2 := rblk_free P_c 2
                  go_simp
                  clear t0 t1 t2 q0 q1 q2
                  refine hK.out _ _ (hHeld.put3 (.bool X2.p) (.slice a3.A X2.l.length a3.c) (.slice a3.D X2.m.length a3.d)) (fun hH => ?_)
                  clear hK K hHeld
                  have hHeld := hH
                  clear hH
                  have P_f := rblk_set (rblk_set (rblk_set P_c 0 (.bool X2.p)) 1 (.slice a3.A X2.l.length a3.c)) 2 (.slice a3.D X2.m.length a3.d)
                  replace o3 := owns_put3 (r := gl) o3 (.inl hz3) (.bool X2.p) (.slice a3.A X2.l.length a3.c) (.slice a3.D X2.m.length a3.d)
                  try simp only [ps]
                  refine wpAnyH_done (by kernel_rfl) ?_ _
                  have P_o3 := hHeld.block P_o2 ne_o
                  have kz := hHeld.base KW.out hle
                  have rM2 := grown_rds hHeld.2 HRM2.out HOFF.out
                  have HF := Lib.hid (And.intro P_f (And.intro o3 (And.intro P_o3 (And.intro kz (And.intro hz3 rM2)))))
                  clear P_f o3 P_o3 kz hz3 hHeld P_c rM2
                  go_wp2
                  go_roundw
                  case rel => exact ⟨j + 1, X2, a3, hlj, by go_num, HX2.out, ⟨h3x, h3y⟩, HF.out.1, HF.out.2.1.wide (by have h1 := HF.out.2.2.2.2.1; have h2 := HG.out; omega) (by first | rw [size_put3]; exact Nat.le_refl _ | exact Nat.le_refl _), hap3, HF.out.2.2.1, HF.out.2.2.2.2.2, HF.out.2.2.2.1⟩
                  case measure => simp [intOf]; omega
                · skip
                  go_simp
                  (go_at_call 114; ((with_reducible refine (HM2.out _ _ _ HRr om).mono ?_); rintro e Wr1_16 ⟨an, rfl, hnx, hny, on, hapn, hb⟩))
                  refine hK.out _ _ (hHeld.below hb) (fun hH => ?_)
                  replace hHeld := hH
                  clear hK K hH
                  replace P_c := rblk_below P_c hb
                  replace HRw := HRw.below hb
                  replace HRr := HRr.below hb
                  replace HRu := HRu.below hb
                  replace HRv := HRv.below hb
                  replace om := om.below hb
                  replace on := on.rds
                  clear hnx hny hapn
                  clear hb
                  try simp only [ps]
                  refine rd1 (i := 0) (by kernel_rfl) rfl (fun K hK => ?_)
                  have t0 := rblk_cell P_c 0
                  have t1 := rblk_cell P_c 1
                  have t2 := rblk_cell P_c 2
                  go_simp
                  clear t0 t1 t2
                  refine hK.out _ _ hHeld (fun hH => ?_)
                  clear hK K hH
                  try simp only [ps]
                  refine rd1 (i := 12) (by kernel_rfl) rfl (fun K hK => ?_)
                  go_simp
                  (go_at_call 120; ((with_reducible refine (HS.out _ _ _ HRw on).mono ?_); rintro e Wr1_17 ⟨a3, rfl, h3x, h3y, o3, hap3, hb⟩))
                  have hz3 := hHeld.lt
                  refine hK.out _ _ (hHeld.below hb) (fun hH => ?_)
                  replace hHeld := hH
                  clear hK K hH
                  replace P_c := rblk_below P_c hb
                  replace HRw := HRw.below hb
                  replace HRr := HRr.below hb
                  replace HRu := HRu.below hb
                  replace HRv := HRv.below hb
                  replace om := om.below hb
                  replace on := on.below hb
                  clear hb
                  try simp only [ps]
                  refine rd1 (i := 13) (by kernel_rfl) rfl (fun K hK => ?_)
                  have t0 := rblk_cell P_c 0
                  have q0 := rblk_free P_c 0
                  have t1 := rblk_cell P_c 1
                  have q1 := rblk_free P_c 1
                  have t2 := rblk_cell P_c 2
                  have q2 := rblk_free P_c 2
                  go_simp
                  clear t0 t1 t2 q0 q1 q2
                  refine hK.out _ _ (hHeld.put3 (.bool X2.p) (.slice a3.A X2.l.length a3.c) (.slice a3.D X2.m.length a3.d)) (fun hH => ?_)
                  clear hK K hHeld
                  have hHeld := hH
                  clear hH
                  have P_f := rblk_set (rblk_set (rblk_set P_c 0 (.bool X2.p)) 1 (.slice a3.A X2.l.length a3.c)) 2 (.slice a3.D X2.m.length a3.d)
                  replace o3 := owns_put3 (r := gl) o3 (.inl hz3) (.bool X2.p) (.slice a3.A X2.l.length a3.c) (.slice a3.D X2.m.length a3.d)
                  try simp only [ps]
                  refine wpAnyH_done (by kernel_rfl) ?_ _
                  have P_o3 := hHeld.block P_o2 ne_o
                  have kz := hHeld.base KW.out hle
                  have rM2 := grown_rds hHeld.2 HRM2.out HOFF.out
                  have HF := Lib.hid (And.intro P_f (And.intro o3 (And.intro P_o3 (And.intro kz (And.intro hz3 rM2)))))
                  clear P_f o3 P_o3 kz hz3 hHeld P_c rM2
                  go_wp2
                  go_roundw
                  case rel => exact ⟨j + 1, X2, a3, hlj, by go_num, HX2.out, ⟨h3x, h3y⟩, HF.out.1, HF.out.2.1.wide (by have h1 := HF.out.2.2.2.2.1; have h2 := HG.out; omega) (by first | rw [size_put3]; exact Nat.le_refl _ | exact Nat.le_refl _), hap3, HF.out.2.2.1, HF.out.2.2.2.2.2, HF.out.2.2.2.1⟩
                  case measure => simp [intOf]; omega
            · obtain rfl : j = 3 := by omega
              have HX := Lib.hid (And.intro hX (And.intro hcx (And.intro P_l (And.intro ol (And.intro hapl (And.intro P_o (And.intro rM kb)))))))
              clear hX hcx P_l ol hapl P_o rM kb
              go_wp2
              go_roundw
              case rel => exact ⟨i + 1, X, ax, hlt, by go_num, HX.out.1, HX.out.2⟩
              case measure => simp [intOf]; omega
        · obtain rfl : i = 3 := by omega
          have eX : X = T := hX.trans HT9.out.symm
          subst eX
          clear hX
          have c_l0 : wr.cell? ⟨gl, 0, none⟩ = some (.bool X.p) := rblk_cell P_l 0
          have c_l1 : wr.cell? ⟨gl, 1, none⟩ = some (.slice ax.A X.l.length ax.c) := rblk_cell P_l 1
          have c_l2 : wr.cell? ⟨gl, 2, none⟩ = some (.slice ax.D X.m.length ax.d) := rblk_cell P_l 2
          have c_o0 : wr.cell? ⟨w.heap.size, 0, none⟩ = some (.bool false) := rblk_cell P_o 0
          have c_o1 : wr.cell? ⟨w.heap.size, 1, none⟩ = some (.slice none 0 0) := rblk_cell P_o 1
          have c_o2 : wr.cell? ⟨w.heap.size, 2, none⟩ = some (.slice none 0 0) := rblk_cell P_o 2
          have f_o0 := rblk_free P_o 0
          have f_o1 := rblk_free P_o 1
          have f_o2 := rblk_free P_o 2
          go_wp2
          exact bodyPost_ret (v := .agg #[.bool X.p, .slice ax.A X.l.length ax.c, .slice ax.D X.m.length ax.d]) (by simp [results, Tryz.results55, go_sem, c_o0, c_o1, c_o2]) rfl ⟨ax, rfl, hcx.1, hcx.2, owns_end3 ol (.inl (Nat.lt_succ_self _)) (Nat.le_succ _) (Nat.le_refl _) _ _ _, hapl, below_put (below_put (below_put kb (by omega) _) (by omega) _) (by omega) _⟩
end Go.Proofs.YtppdholccpgcpaaGreat
