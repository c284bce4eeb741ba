/-
  The program's LocalMass and LocalStiffness.
-/
import Derived.Test.YtppdholccpgcpaaGreatMrM
import Derived.Test.YtppdholccpgcpaaGreatLmM
import Derived.Test.YtppdholccpgcpaaGreatLkM
import Derived.Test.YtppdholccpgcpaaGreatElW
import Derived.Test.YtppdholccpgcpaaGreatGrB
import Derived.Test.YtppdholccpgcpaaGreatWp
import Derived.Test.YtppdholccpgcpaaGreatTriS
import Derived.Test.YtppdholccpgcpaaGreatTriC
import Derived.Test.YtppdholccpgcpaaGreatPkH
import Derived.Test.YtppdholccpgcpaaGreatPkI
import Derived.Test.YtppdholccpgcpaaGreatLgI
namespace Go.Proofs.YtppdholccpgcpaaGreat
open Go.ChangeShapes Go.WideShapes Go.ChangeAt Go.RowKit
set_option linter.unusedVariables false
set_option linter.unusedSimpArgs false
set_option maxRecDepth 4000
theorem fullQ_nine {M : List RV} {F : Nat → Nat → Option Rat} (hd : datQ M = nine F) : fullQ M = okF F 3 3 := by
  have e : fullQ M = (datQ M).all (fun x => decide (0 < x.m.length)) := by unfold fullQ datQ; rw [List.all_map]; rfl
  rw [e, hd]
  simp only [nine, List.all_cons, List.all_nil, len_pos, okF, List.range_succ, List.range_zero, List.nil_append, List.all_append, Bool.and_true]
  cases (F 0 0).isSome <;> cases (F 0 1).isSome <;> cases (F 0 2).isSome <;> cases (F 1 0).isSome <;> cases (F 1 1).isSome <;> cases (F 1 2).isSome <;> cases (F 2 0).isSome <;> cases (F 2 1).isSome <;> cases (F 2 2).isSome <;> rfl
theorem datS_win {g : Nat} {M : List RV} {F : Nat → Nat → Option Rat} (hd : datQ M = nine F) : datS (winL g M) = datS (matF F 3 3) := by
  have e : ∀ (a n : Nat), datQ ((M.drop a).take n) = ((nine F).drop a).take n := fun a n => by rw [← hd]; unfold datQ; rw [List.map_take, List.map_drop]
  have e0 := e 0 3
  rw [List.drop_zero, List.drop_zero] at e0
  show [datQ (M.take 3), datQ ((M.drop 3).take 3), datQ ((M.drop 6).take 3)] = _
  rw [e0, e 3 3, e 6 3]
  rfl
theorem datQ_len9 {M : List RV} {F : Nat → Nat → Option Rat} (hf : ∀ i j, FitO (F i j)) (hd : datQ M = nine F) : ∀ p, p ∈ M → LenQ p := fun p hp => by
  have h1 : p.x ∈ nine F := by rw [← hd]; exact List.mem_map.2 ⟨p, hp, rfl⟩
  have h2 : ∃ i j, p.x = ofO (F i j) := by
    unfold nine at h1
    simp only [List.mem_cons, List.not_mem_nil, or_false] at h1
    rcases h1 with h | h | h | h | h | h | h | h | h <;> exact ⟨_, _, h⟩
  obtain ⟨i, j, e⟩ := h2
  have := (hf i j).len
  unfold LenQ
  rw [e]; omega
theorem made_win {B : Nat} {w w1 w2 : World} {M : List RV} {R : List SV} {gs : Nat} (h9 : M.length = 9) (hd : datS (winL w1.heap.size M) = datS R) (hO : Owns B w1.heap.size w1 (lrowQ M)) (hap : Aparts (lrowQ M)) (kb : Below w.heap.size w w1) (hB : B ≤ w1.heap.size)
    (hgs : w1.heap.size < gs) (P_s : w2.heap[gs]? = some (.cells #[.slice (some ⟨w1.heap.size, 0, none⟩) 3 3, .slice (some ⟨w1.heap.size, 9, none⟩) 3 3, .slice (some ⟨w1.heap.size, 18, none⟩) 3 3] 33 (0, 0))) (P_m : w2.heap[w1.heap.size]? = some (.cells (flatQ M).toArray 100 (0, 0))) (hb : Below w1.heap.size w1 w2) :
    MadeRSW B R w (.returned (.slice (some ⟨gs, 0, none⟩) 3 3)) w2 := by
  have eS : flatS (winL w1.heap.size M) = [.slice (some ⟨w1.heap.size, 0, none⟩) 3 3, .slice (some ⟨w1.heap.size, 9, none⟩) 3 3, .slice (some ⟨w1.heap.size, 18, none⟩) 3 3] := by simp [flatS, winL, scl, h9]
  have o1 : OwnS B w2 (some ⟨gs, 0, none⟩) (flatS (winL w1.heap.size M)) := by
    have h := OwnS.of_row P_s (show B ≤ gs by omega)
    rw [eS]; simpa using h
  have o2 : OwnS B w2 (some ⟨w1.heap.size, 0, none⟩) (flatQ M) := by
    have h := OwnS.of_row P_m hB
    simpa using h
  have hz := rblk_lt P_s
  have r1 : InR (flatS (winL w1.heap.size M)).length (some ⟨gs, 0, none⟩) gs (gs + 1) := fun g' hg => by
    unfold rowOf at hg
    split at hg
    · cases hg
    · simp at hg; omega
  have r2 : InR (flatQ M).length (some ⟨w1.heap.size, 0, none⟩) w1.heap.size (w1.heap.size + 1) := fun g' hg => by
    unfold rowOf at hg
    split at hg
    · cases hg
    · simp at hg; omega
  refine ⟨winL w1.heap.size M, some ⟨gs, 0, none⟩, 3, some (w1.heap.size, M), rfl, hd, ⟨h9, rfl⟩, ?_, ?_, bt kb hb⟩
  · exact Owns.cons o1 (r1.wide (by omega) (by omega)) (Owns.cons o2 (r2.wide (by omega) (by omega)) ((hO.below hb).wide (Nat.le_refl _) (by omega)))
  · refine List.Pairwise.cons (fun s hs => ?_) (List.Pairwise.cons (fun s hs => ?_) hap)
    · rcases List.mem_cons.1 hs with e | e
      · subst e; exact InR.apart r1 r2 (.inr (by omega))
      · exact InR.apart r1 (hO s e).2 (.inr (by omega))
    · exact InR.apart r2 (hO s hs).2 (.inr (Nat.le_refl _))
theorem made_nilW {B : Nat} {w w2 : World} {R : List SV} (hR : R = []) (kb : Below w.heap.size w w2) : MadeRSW B R w (.returned (.slice none 0 0)) w2 := by
  subst hR
  refine ⟨[], none, 0, none, rfl, rfl, trivial, ?_, Aparts.one _, kb⟩
  exact Owns.cons (.inl rfl) (fun g hg => by simp [rowOf, flatS] at hg) (Owns.nil _ _ _)
attribute [local go_sem ↓] Go.wp_at_zero Go.wp_at_succ
theorem mass_same (L : List PV) : massF L = mF (tri1 L) (tri2 L) (tri3 L) := by
  funext i j
  unfold massF areaQ mF aHalf aT
  rfl
theorem massL_y {L : List PV} (h : okF (mF (tri1 L) (tri2 L) (tri3 L)) 3 3 = true) : massL L = matF (mF (tri1 L) (tri2 L) (tri3 L)) 3 3 := by
  unfold massL fullM; rw [mass_same, if_pos h]
theorem massL_n {L : List PV} (h : okF (mF (tri1 L) (tri2 L) (tri3 L)) 3 3 = false) : massL L = [] := by
  unfold massL fullM; rw [mass_same, if_neg (by rw [h]; intro h; cases h)]
set_option maxHeartbeats 2000000 in
theorem impl_localMass (L : List PV) (A : Option Addr) (c : Nat) (w : World) (hn : L.length ≤ 9223372036854775807) (hL : ∀ p, p ∈ L → LenP p) (hA : RdS w A (flat L)) (hR : Rds w (lrow L)) :
    Calls Tryz.prog 27 #[.slice A L.length c] w (MadeRSW w.heap.size (massL L) w) := by
  have HT := Lib.hid (fun W h h' => tri_any L A c W hn hL h h')
  have RR : Hid (∀ W, Below w.heap.size w W → RdS W A (flat L) ∧ Rds W (lrow L)) := Lib.hid (fun W hB => ⟨hA.below hB, hR.below hB⟩)
  have RT : Hid (∀ W, Below w.heap.size w W → TriOk W (tri1 L) (tri2 L) (tri3 L)) := Lib.hid (fun W hB => tri_ok (hR.below hB))
  have HM := Lib.hid (fun W hB => mass_m (tri1 L) (tri2 L) (tri3 L) W (RT.out W hB))
  have HY := Lib.hid (fun h => massL_y (L := L) h)
  have HNo := Lib.hid (fun h => massL_n (L := L) h)
  have HF : ∀ i j, FitO ((mF (tri1 L) (tri2 L) (tri3 L)) i j) := fun i j => mF_fit _ _ _ _ _
  generalize mF (tri1 L) (tri2 L) (tri3 L) = F at HM HY HNo HF
  generalize massL L = R at HY HNo ⊢
  generalize tri1 L = p at HT HM
  generalize tri2 L = q at HT HM
  generalize tri3 L = r at HT HM
  unfold MadeM9 at HM
  generalize L.length = n at HT ⊢
  clear hA hR hL hn RT
  have kb0 := Below.refl w.heap.size w
  go_enter Tryz.func27, Tryz.ntmps27
  go_wp2_with fail
  refine (HT.out _ (RR.out _ kb0).1 (RR.out _ kb0).2).mono ?_
  rintro e W2 ⟨rfl, kb⟩
  clear kb0
  go_wp2_with fail
  refine (HM.out _ kb).mono ?_
  rintro e W3 ⟨M, rfl, h9, hd, hcap, oM, hap, hb⟩
  have hz2 := kb.size
  replace kb := bt kb hb
  clear hb
  have HLN := datQ_len9 HF hd
  cases hf : fullQ M with
  | true =>
    have hok : okF F 3 3 = true := by rw [← fullQ_nine hd]; exact hf
    have HRW := Lib.hid (rows_y M W3 h9 HLN hf)
    unfold MadeWin at HRW
    have HE : Hid (∀ gs w2, W3.heap.size < gs → w2.heap[gs]? = some (.cells #[.slice (some ⟨W3.heap.size, 0, none⟩) 3 3, .slice (some ⟨W3.heap.size, 9, none⟩) 3 3, .slice (some ⟨W3.heap.size, 18, none⟩) 3 3] 33 (0, 0)) → w2.heap[W3.heap.size]? = some (.cells (flatQ M).toArray 100 (0, 0)) → Below W3.heap.size W3 w2 → MadeRSW w.heap.size R w (.returned (.slice (some ⟨gs, 0, none⟩) 3 3)) w2) := Lib.hid (fun gs w2 h1 h2 h3 h4 => made_win h9 (by rw [datS_win hd, HY.out hok]) (oM.wide hz2 (Nat.le_refl _)) hap kb kb.size h1 h2 h3 h4)
    clear hf hok oM hap kb h9 hd hcap HLN hz2 HF
    generalize (flatQ M).toArray = C at HRW HE ⊢
    go_wp2_with fail
    refine HRW.out.mono ?_
    rintro e W4 ⟨gs, rfl, h1, h2, h3, h4⟩
    have HZ := Lib.hid (HE.out gs W4 h1 h2 h3 h4)
    clear h1 h2 h3 h4
    go_wp2
    go_ret
    exact HZ.out
  | false =>
    have hok : okF F 3 3 = false := by rw [← fullQ_nine hd]; exact hf
    have HRW := Lib.hid (rows_n M W3 h9 HLN hf)
    have HE : Hid (∀ w2, Below W3.heap.size W3 w2 → MadeRSW w.heap.size R w (.returned (.slice none 0 0)) w2) := Lib.hid (fun w2 h4 => made_nilW (HNo.out hok) (bt kb h4))
    clear hf hok oM hap kb h9 hd hcap HLN hz2 HF
    generalize (flatQ M).toArray = C at HRW ⊢
    go_wp2_with fail
    refine HRW.out.mono ?_
    rintro e W4 ⟨rfl, h4⟩
    have HZ := Lib.hid (HE.out W4 h4)
    clear h4
    go_wp2
    go_ret
    exact HZ.out
theorem grad_get {L : List PV} (h3 : (gradL L).length = 3) (i : Nat) (hi : i < 3) : ((gAt (gradL L) i).x, (gAt (gradL L) i).y) = dAt (gD (tri1 L) (tri2 L) (tri3 L)) i := by
  have hG : gradL L = gl3 (ofO (gU (tri1 L) (tri2 L) (tri3 L) 0)) (ofO (gV (tri1 L) (tri2 L) (tri3 L) 0)) (ofO (gU (tri1 L) (tri2 L) (tri3 L) 1)) (ofO (gV (tri1 L) (tri2 L) (tri3 L) 1)) (ofO (gU (tri1 L) (tri2 L) (tri3 L) 2)) (ofO (gV (tri1 L) (tri2 L) (tri3 L) 2)) := rfl
  have e : gradL L = [⟨ofO (gU (tri1 L) (tri2 L) (tri3 L) 0), ofO (gV (tri1 L) (tri2 L) (tri3 L) 0), noA, noA⟩, ⟨ofO (gU (tri1 L) (tri2 L) (tri3 L) 1), ofO (gV (tri1 L) (tri2 L) (tri3 L) 1), noA, noA⟩, ⟨ofO (gU (tri1 L) (tri2 L) (tri3 L) 2), ofO (gV (tri1 L) (tri2 L) (tri3 L) 2), noA, noA⟩] := by
    rw [hG] at h3 ⊢
    unfold gl3 at h3 ⊢
    split
    · rfl
    · rename_i hc; rw [if_neg hc] at h3; cases h3
  rw [e]
  have hc : i = 0 ∨ i = 1 ∨ i = 2 := by omega
  rcases hc with rfl | rfl | rfl <;> rfl
theorem stiff_same {L : List PV} (h3 : (gradL L).length = 3) (i j : Nat) (hi : i < 3) (hj : j < 3) : stiffF L i j = kF (aHalf (tri1 L) (tri2 L) (tri3 L)) (gD (tri1 L) (tri2 L) (tri3 L)) i j := by
  have e1 := grad_get h3 i hi
  have e2 := grad_get h3 j hj
  show _ = binQ mulQ (aHalf (tri1 L) (tri2 L) (tri3 L)) (inD (dAt (gD (tri1 L) (tri2 L) (tri3 L)) i) (dAt (gD (tri1 L) (tri2 L) (tri3 L)) j))
  rw [← e1, ← e2]
  rfl
theorem okF_no {F : Nat → Nat → Option Rat} {i : Nat} (hi : i < 3) (h : F i i = none) : okF F 3 3 = false := by
  cases hk : okF F 3 3 with
  | false => rfl
  | true =>
    unfold okF at hk
    have h1 := List.all_eq_true.1 hk i (List.mem_range.2 hi)
    have h2 := List.all_eq_true.1 h1 i (List.mem_range.2 hi)
    rw [h] at h2; cases h2
theorem stiff_bad {L : List PV} (h3 : ¬ (gradL L).length = 3) : okF (kF (aHalf (tri1 L) (tri2 L) (tri3 L)) (gD (tri1 L) (tri2 L) (tri3 L))) 3 3 = false := by
  have hN := gD_nice (tri1 L) (tri2 L) (tri3 L)
  have hG : gradL L = gl3 (ofO (gU (tri1 L) (tri2 L) (tri3 L) 0)) (ofO (gV (tri1 L) (tri2 L) (tri3 L) 0)) (ofO (gU (tri1 L) (tri2 L) (tri3 L) 1)) (ofO (gV (tri1 L) (tri2 L) (tri3 L) 1)) (ofO (gU (tri1 L) (tri2 L) (tri3 L) 2)) (ofO (gV (tri1 L) (tri2 L) (tri3 L) 2)) := rfl
  have K : ∀ i, i < 3 → ¬ 0 < (ofO (gU (tri1 L) (tri2 L) (tri3 L) i)).m.length → okF (kF (aHalf (tri1 L) (tri2 L) (tri3 L)) (gD (tri1 L) (tri2 L) (tri3 L))) 3 3 = false := fun i hi h => by
    have hx : (gD (tri1 L) (tri2 L) (tri3 L))[i]? = some (ofO (gU (tri1 L) (tri2 L) (tri3 L) i), ofO (gV (tri1 L) (tri2 L) (tri3 L) i)) := by
      have hc : i = 0 ∨ i = 1 ∨ i = 2 := by omega
      rcases hc with rfl | rfl | rfl <;> rfl
    have n := hN i _ _ hx
    have hv := len_none n.1.1 h
    refine okF_no hi ?_
    show binQ mulQ _ (inD (dAt (gD (tri1 L) (tri2 L) (tri3 L)) i) (dAt (gD (tri1 L) (tri2 L) (tri3 L)) i)) = none
    rw [dAt_get hx]
    have e0 : inD (ofO (gU (tri1 L) (tri2 L) (tri3 L) i), ofO (gV (tri1 L) (tri2 L) (tri3 L) i)) (ofO (gU (tri1 L) (tri2 L) (tri3 L) i), ofO (gV (tri1 L) (tri2 L) (tri3 L) i)) = none := by
      unfold inD
      show binQ addQ (binQ mulQ (valx (ofO (gU (tri1 L) (tri2 L) (tri3 L) i))) _) _ = none
      rw [hv]; rfl
    rw [e0]
    cases aHalf (tri1 L) (tri2 L) (tri3 L) <;> rfl
  by_cases h0 : 0 < (ofO (gU (tri1 L) (tri2 L) (tri3 L) 0)).m.length
  · by_cases h1 : 0 < (ofO (gU (tri1 L) (tri2 L) (tri3 L) 1)).m.length
    · by_cases h2 : 0 < (ofO (gU (tri1 L) (tri2 L) (tri3 L) 2)).m.length
      · exfalso; apply h3; rw [hG]; unfold gl3; rw [if_pos ⟨h0, h1, h2⟩]; rfl
      · exact K 2 (by omega) h2
    · exact K 1 (by omega) h1
  · exact K 0 (by omega) h0
theorem matF_ext {F G : Nat → Nat → Option Rat} (h : ∀ i j, i < 3 → j < 3 → F i j = G i j) : fullM F 3 3 = fullM G 3 3 := fullM_ext h
theorem stiffL_y {L : List PV} (h : okF (kF (aHalf (tri1 L) (tri2 L) (tri3 L)) (gD (tri1 L) (tri2 L) (tri3 L))) 3 3 = true) : stiffL L = matF (kF (aHalf (tri1 L) (tri2 L) (tri3 L)) (gD (tri1 L) (tri2 L) (tri3 L))) 3 3 := by
  have h3 : (gradL L).length = 3 := by
    by_cases h3 : (gradL L).length = 3
    · exact h3
    · rw [stiff_bad h3] at h; cases h
  unfold stiffL
  rw [h3, matF_ext (fun i j hi hj => stiff_same h3 i j hi hj)]
  unfold fullM
  rw [if_pos h]
theorem stiffL_n {L : List PV} (h : okF (kF (aHalf (tri1 L) (tri2 L) (tri3 L)) (gD (tri1 L) (tri2 L) (tri3 L))) 3 3 = false) : stiffL L = [] := by
  unfold stiffL
  rcases gradL_len3 L with h0 | h3
  · rw [h0]; rfl
  · rw [h3, matF_ext (fun i j hi hj => stiff_same h3 i j hi hj)]
    unfold fullM
    rw [if_neg (by rw [h]; intro h; cases h)]
set_option maxHeartbeats 2000000 in
theorem impl_localStiffness (L : List PV) (A : Option Addr) (c : Nat) (w : World) (hn : L.length ≤ 9223372036854775807) (hL : ∀ p, p ∈ L → LenP p) (hA : RdS w A (flat L)) (hR : Rds w (lrow L)) :
    Calls Tryz.prog 26 #[.slice A L.length c] w (MadeRSW w.heap.size (stiffL L) w) := by
  have HT := Lib.hid (fun W h h' => tri_any L A c W hn hL h h')
  have RR : Hid (∀ W, Below w.heap.size w W → RdS W A (flat L) ∧ Rds W (lrow L)) := Lib.hid (fun W hB => ⟨hA.below hB, hR.below hB⟩)
  have RT : Hid (∀ W, Below w.heap.size w W → TriOk W (tri1 L) (tri2 L) (tri3 L)) := Lib.hid (fun W hB => tri_ok (hR.below hB))
  have HM := Lib.hid (fun W hB => stiff_m (tri1 L) (tri2 L) (tri3 L) W (RT.out W hB))
  have HY := Lib.hid (fun h => stiffL_y (L := L) h)
  have HNo := Lib.hid (fun h => stiffL_n (L := L) h)
  have HF : ∀ i j, FitO ((kF (aHalf (tri1 L) (tri2 L) (tri3 L)) (gD (tri1 L) (tri2 L) (tri3 L))) i j) := fun i j => kF_fit _ _ _ _
  generalize kF (aHalf (tri1 L) (tri2 L) (tri3 L)) (gD (tri1 L) (tri2 L) (tri3 L)) = F at HM HY HNo HF
  generalize stiffL L = R at HY HNo ⊢
  generalize tri1 L = p at HT HM
  generalize tri2 L = q at HT HM
  generalize tri3 L = r at HT HM
  unfold MadeM9 at HM
  generalize L.length = n at HT ⊢
  clear hA hR hL hn RT
  have kb0 := Below.refl w.heap.size w
  go_enter Tryz.func26, Tryz.ntmps26
  go_wp2_with fail
  refine (HT.out _ (RR.out _ kb0).1 (RR.out _ kb0).2).mono ?_
  rintro e W2 ⟨rfl, kb⟩
  clear kb0
  go_wp2_with fail
  refine (HM.out _ kb).mono ?_
  rintro e W3 ⟨M, rfl, h9, hd, hcap, oM, hap, hb⟩
  have hz2 := kb.size
  replace kb := bt kb hb
  clear hb
  have HLN := datQ_len9 HF hd
  cases hf : fullQ M with
  | true =>
    have hok : okF F 3 3 = true := by rw [← fullQ_nine hd]; exact hf
    have HRW := Lib.hid (rows_y M W3 h9 HLN hf)
    unfold MadeWin at HRW
    have HE : Hid (∀ gs w2, W3.heap.size < gs → w2.heap[gs]? = some (.cells #[.slice (some ⟨W3.heap.size, 0, none⟩) 3 3, .slice (some ⟨W3.heap.size, 9, none⟩) 3 3, .slice (some ⟨W3.heap.size, 18, none⟩) 3 3] 33 (0, 0)) → w2.heap[W3.heap.size]? = some (.cells (flatQ M).toArray 100 (0, 0)) → Below W3.heap.size W3 w2 → MadeRSW w.heap.size R w (.returned (.slice (some ⟨gs, 0, none⟩) 3 3)) w2) := Lib.hid (fun gs w2 h1 h2 h3 h4 => made_win h9 (by rw [datS_win hd, HY.out hok]) (oM.wide hz2 (Nat.le_refl _)) hap kb kb.size h1 h2 h3 h4)
    clear hf hok oM hap kb h9 hd hcap HLN hz2 HF
    generalize (flatQ M).toArray = C at HRW HE ⊢
    go_wp2_with fail
    refine HRW.out.mono ?_
    rintro e W4 ⟨gs, rfl, h1, h2, h3, h4⟩
    have HZ := Lib.hid (HE.out gs W4 h1 h2 h3 h4)
    clear h1 h2 h3 h4
    go_wp2
    go_ret
    exact HZ.out
  | false =>
    have hok : okF F 3 3 = false := by rw [← fullQ_nine hd]; exact hf
    have HRW := Lib.hid (rows_n M W3 h9 HLN hf)
    have HE : Hid (∀ w2, Below W3.heap.size W3 w2 → MadeRSW w.heap.size R w (.returned (.slice none 0 0)) w2) := Lib.hid (fun w2 h4 => made_nilW (HNo.out hok) (bt kb h4))
    clear hf hok oM hap kb h9 hd hcap HLN hz2 HF
    generalize (flatQ M).toArray = C at HRW ⊢
    go_wp2_with fail
    refine HRW.out.mono ?_
    rintro e W4 ⟨rfl, h4⟩
    have HZ := Lib.hid (HE.out W4 h4)
    clear h4
    go_wp2
    go_ret
    exact HZ.out
end Go.Proofs.YtppdholccpgcpaaGreat
