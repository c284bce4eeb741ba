/-
  Lists of lists of fractions whose rows may be windows of one block: words, marks, what was held.
-/
import Derived.Test.YtppdholccpgcpaaGreatRm
namespace Go.Proofs.YtppdholccpgcpaaGreat
open Go.ChangeShapes Go.WideShapes Go.ChangeAt Go.RowKit
set_option linter.unusedVariables false
set_option linter.unusedSimpArgs false
set_option maxRecDepth 4000
def winL (g : Nat) (M : List RV) : List SV := [⟨M.take 3, some ⟨g, 0, none⟩, 3⟩, ⟨(M.drop 3).take 3, some ⟨g, 9, none⟩, 3⟩, ⟨(M.drop 6).take 3, some ⟨g, 18, none⟩, 3⟩]
def rowsW (A : Option Addr) (R : List SV) : Option (Nat × List RV) → List Row
  | none => srowS A R
  | some (g, M) => (A, flatS R) :: srowQ (some ⟨g, 0, none⟩) M
def WinOk (R : List SV) : Option (Nat × List RV) → Prop
  | none => True
  | some (g, M) => M.length = 9 ∧ R = winL g M
def mkW (k : Int) : Option (Nat × List RV) → Option (Nat × List RV)
  | none => none
  | some (g, M) => some (g, mkqs k M)
def MadeRSW (B : Nat) (R : List SV) (w : World) (e : Ending) (w' : World) : Prop :=
  ∃ (M : List SV) (A : Option Addr) (c : Nat) (Z : Option (Nat × List RV)), e = .returned (.slice A M.length c) ∧ datS M = datS R ∧ WinOk M Z ∧ Owns B w'.heap.size w' (rowsW A M Z) ∧ Aparts (rowsW A M Z) ∧ Below w.heap.size w w'
theorem RdS.win {w : World} {g : Nat} {M : List RV} (h : RdS w (some ⟨g, 0, none⟩) (flatQ M)) (a n : Nat) (ha : a ≤ M.length) : RdS w (some ⟨g, a * 3, none⟩) (flatQ ((M.drop a).take n)) := by
  by_cases h0 : (flatQ ((M.drop a).take n)).length = 0
  · exact .inl (List.eq_nil_of_length_eq_zero h0)
  · have e : flatQ M = flatQ (M.take a) ++ (flatQ ((M.drop a).take n) ++ flatQ ((M.drop a).drop n)) := by
      rw [← flatQ_app, List.take_append_drop, ← flatQ_app, List.take_append_drop]
    have hl : (flatQ (M.take a)).length = a * 3 := by rw [flatQ_length, List.length_take, Nat.min_eq_left ha]
    have hlen := congrArg List.length e
    rw [List.length_append, List.length_append] at hlen
    obtain ⟨b, o, hA, hb, hc⟩ := h.block (by omega)
    injection hA with hA
    injection hA with e1 e2
    subst e1; subst e2
    refine .inr ⟨g, a * 3, rfl, hb, fun j hj => ?_⟩
    have h1 := hc (a * 3 + j) (by omega)
    rw [Nat.zero_add] at h1
    rw [h1, e, List.getElem?_append_right (by omega), hl, Nat.add_sub_cancel_left, List.getElem?_append_left hj]
theorem Rds.sub {w : World} {M : List RV} (h : Rds w (lrowQ M)) (a n : Nat) : Rds w (lrowQ ((M.drop a).take n)) := fun r hr => by
  obtain ⟨p, hp, h1⟩ := List.mem_flatMap.1 hr
  exact h r (List.mem_flatMap.2 ⟨p, List.drop_subset _ _ (List.take_subset _ _ hp), h1⟩)
theorem rdsW {w : World} {A : Option Addr} {R : List SV} {Z : Option (Nat × List RV)} (hz : WinOk R Z) (h : Rds w (rowsW A R Z)) : Rds w (srowS A R) := by
  cases Z with
  | none => exact h
  | some z =>
    obtain ⟨g, M⟩ := z
    obtain ⟨h9, rfl⟩ := hz
    have h1 : RdS w (some ⟨g, 0, none⟩) (flatQ M) := h.tl.hd
    have h2 : Rds w (lrowQ M) := h.tl.tl
    refine Rds.cons h.hd ?_
    have k : ∀ a, a ≤ M.length → Rds w (srowQ (some ⟨g, a * 3, none⟩) ((M.drop a).take 3)) := fun a ha => Rds.cons (h1.win a 3 ha) (h2.sub a 3)
    have k0 := k 0 (by omega)
    have k1 := k 3 (by omega)
    have k2 := k 6 (by omega)
    have e : lrowS (winL g M) = srowQ (some ⟨g, 0, none⟩) (M.take 3) ++ (srowQ (some ⟨g, 9, none⟩) ((M.drop 3).take 3) ++ srowQ (some ⟨g, 18, none⟩) ((M.drop 6).take 3)) := by
      simp [lrowS, winL, rrowS]
    rw [e]
    exact Rds.app k0 (Rds.app k1 k2)
theorem nine_split {M : List RV} (h : M.length = 9) : M = M.take 3 ++ ((M.drop 3).take 3 ++ (M.drop 6).take 3) := by
  have e1 : (M.drop 6).take 3 = M.drop 6 := List.take_of_length_le (by rw [List.length_drop]; omega)
  have e2 : M.drop 6 = (M.drop 3).drop 3 := by rw [List.drop_drop]
  rw [e1, e2, List.take_append_drop, List.take_append_drop]
theorem winL_app (g : Nat) {a b c : List RV} (ha : a.length = 3) (hb : b.length = 3) (hc : c.length = 3) : winL g (a ++ (b ++ c)) = [⟨a, some ⟨g, 0, none⟩, 3⟩, ⟨b, some ⟨g, 9, none⟩, 3⟩, ⟨c, some ⟨g, 18, none⟩, 3⟩] := by
  unfold winL
  rw [List.take_left' ha, List.drop_left' ha, List.take_left' hb, show 6 = 3 + 3 from rfl, ← List.drop_drop, List.drop_left' ha, List.drop_left' hb, List.take_of_length_le (by omega)]
theorem winL_mk {g : Nat} {M : List RV} (k : Int) (h : M.length = 9) : mkm k (winL g M) = winL g (mkqs k M) ∧ nxm k (winL g M) = nxqs k M := by
  obtain ⟨a, b, c, rfl, ha, hb, hc⟩ : ∃ a b c : List RV, M = a ++ (b ++ c) ∧ a.length = 3 ∧ b.length = 3 ∧ c.length = 3 :=
    ⟨_, _, _, nine_split h, by rw [List.length_take]; omega, by rw [List.length_take, List.length_drop]; omega, by rw [List.length_take, List.length_drop]; omega⟩
  rw [winL_app g ha hb hc, mkqs_app, mkqs_app, winL_app g (by rw [mkqs_length]; exact ha) (by rw [mkqs_length]; exact hb) (by rw [mkqs_length]; exact hc), nxqs_app, nxqs_app]
  exact ⟨rfl, rfl⟩
theorem winOk_mk {R : List SV} {Z : Option (Nat × List RV)} (k : Int) (h : WinOk R Z) : WinOk (mkm k R) (mkW k Z) := by
  cases Z with
  | none => trivial
  | some z =>
    obtain ⟨g, M⟩ := z
    obtain ⟨h9, rfl⟩ := h
    exact ⟨by rw [mkqs_length]; exact h9, (winL_mk k h9).1⟩
theorem flatS_win {g : Nat} {M M' : List RV} (h : M.length = 9) (h' : M'.length = 9) : flatS (winL g M) = flatS (winL g M') := by
  simp [flatS, winL, scl, h, h']
theorem szm2_win {g : Nat} {M : List RV} (h : M.length = 9) : szm2 (winL g M) = 9 + szqs M := by
  obtain ⟨a, b, c, rfl, ha, hb, hc⟩ : ∃ a b c : List RV, M = a ++ (b ++ c) ∧ a.length = 3 ∧ b.length = 3 ∧ c.length = 3 :=
    ⟨_, _, _, nine_split h, by rw [List.length_take]; omega, by rw [List.length_take, List.length_drop]; omega, by rw [List.length_take, List.length_drop]; omega⟩
  rw [winL_app g ha hb hc, szqs_app, szqs_app]
  show (a.length : Int) + szqs a + ((b.length : Int) + szqs b + ((c.length : Int) + szqs c + 0)) = _
  omega
set_option maxHeartbeats 2000000 in
theorem markRS_w (Q0 : List Row) (lo hi : Nat) (X L Y : List RV) (g : Nat) (o3 c : Nat) (k : Int) (w : World) (hk : 0 < k) (hk2 : k ≤ 16777216) (hg : (L.length : Int) + szqs L ≤ 1048576) (ho3 : o3 = X.length * 3) (hh : hi ≤ w.heap.size) (h : Owns lo hi w (srowQ (some ⟨g, 0, none⟩) (X ++ (L ++ Y)) ++ Q0)) (ap : Aparts (srowQ (some ⟨g, 0, none⟩) (X ++ (L ++ Y)) ++ Q0)) :
    Calls Tryz.prog 47 #[.slice (some ⟨g, o3, none⟩) L.length c, .int .i64 k] w (fun e w' => e = .returned (.int .i64 (nxqs k L)) ∧ Owns lo hi w' (srowQ (some ⟨g, 0, none⟩) (X ++ (mkqs k L ++ Y)) ++ Q0) ∧ Aparts (srowQ (some ⟨g, 0, none⟩) (X ++ (mkqs k L ++ Y)) ++ Q0) ∧ Turn lo hi w w') := by
  have hS := szqs_short (L := L) (left := 1048576) (by have := szqs_pos L; omega) (by omega)
  have hsp := szqs_pos L
  obtain ⟨n, hn⟩ : ∃ n, n = L.length := ⟨_, rfl⟩
  rw [← hn] at hg ⊢
  have HN := Lib.hid hn
  have HO3 := Lib.hid ho3
  clear hn ho3
  go_enter Tryz.func47, Tryz.ntmps47
  go_wp2
  go_loopw [1, 5] (fun q i w' => ∃ (j : Nat) (q' : Int), j ≤ n ∧ i = .int .i64 (j : Int) ∧ q = .int .i64 q' ∧ q' = nxqs k (L.take j) ∧ Owns lo hi w' (srowQ (some ⟨g, 0, none⟩) (X ++ (mkqs k (L.take j) ++ (L.drop j ++ Y))) ++ Q0) ∧ Aparts (srowQ (some ⟨g, 0, none⟩) (X ++ (mkqs k (L.take j) ++ (L.drop j ++ Y))) ++ Q0) ∧ Turn lo hi w w') (fun _ i _ => n - (intOf i).toNat)
  case atStart => exact ⟨0, k, Nat.zero_le _, rfl, rfl, rfl, h, ap, ⟨rfl, rfl, rfl, Nat.le_refl _, fun _ _ _ => rfl⟩⟩
  case round =>
    obtain ⟨j, q, hj, rfl, rfl, hq, hO, hap, hT⟩ := hrel
    clear h ap
    by_cases hlt : j < n
    · obtain ⟨p, hp⟩ := getQ (show j < L.length by rw [← HN.out]; exact hlt)
      have hjl : j < L.length := lt_of_getQ hp
      obtain ⟨e1, e2, e3⟩ := mkqs_step (k := k) hp
      have hps := hS p (List.mem_of_getElem? hp)
      have hle := szqs_le L (j + 1)
      rw [szqs_take hp] at hle
      have hqe : q = k + (j : Int) + szqs (L.take j) := by rw [hq, nxqs_eq, List.length_take, Nat.min_eq_left (by omega)]
      have hp0 := szqs_pos (L.take j)
      have hszp : szq p = (p.x.l.length : Int) + (p.x.m.length : Int) := rfl
      have hq0 : 0 < q := by omega
      have hq1 : q ≤ 33554432 := by omega
      have hl1 : (p.x.l.length : Int) ≤ 1048576 := by omega
      have hl2 : (p.x.m.length : Int) ≤ 1048576 := by omega
      have w1 : ∀ (M R : List RV), X ++ (M ++ (R ++ Y)) = (X ++ M) ++ (R ++ Y) := fun M R => by simp
      have e1' : X ++ (mkqs k (L.take j) ++ (L.drop j ++ Y)) = (X ++ mkqs k (L.take j)) ++ p :: (L.drop (j + 1) ++ Y) := by
        have h2 : L[j] = p := by rw [List.getElem?_eq_getElem hjl] at hp; injection hp
        rw [w1, List.drop_eq_getElem_cons hjl, h2]; rfl
      have e2' : X ++ (mkqs k (L.take (j + 1)) ++ (L.drop (j + 1) ++ Y)) = (X ++ mkqs k (L.take j)) ++ mkQ q p :: (L.drop (j + 1) ++ Y) := by
        rw [← List.append_assoc (mkqs k (L.take (j + 1))), e2, ← hq]; simp
      have hlX : (X ++ mkqs k (L.take j)).length = X.length + j := by rw [List.length_append, mkqs_length, List.length_take, Nat.min_eq_left (by omega)]
      have ho := HO3.out
      rw [e1', srowQ_trowq] at hO hap
      obtain ⟨P1, hP1⟩ : ∃ P, P = X ++ mkqs k (L.take j) := ⟨_, rfl⟩
      obtain ⟨P2, hP2⟩ : ∃ P, P = L.drop (j + 1) ++ Y := ⟨_, rfl⟩
      have hl2' : P2.length + (j + 1) = n + Y.length := by rw [hP2, List.length_append, List.length_drop, ← HN.out]; omega
      rw [← hP1] at e1' e2' hlX hO hap
      replace e2' : X ++ (mkqs k (L.take (j + 1)) ++ (L.drop (j + 1) ++ Y)) = P1 ++ mkQ q p :: P2 := by rw [hP2]; exact e2'
      rw [← hP2] at e1' hO hap
      clear hP1 hP2 w1
      have hM : (P1 ++ p :: P2)[X.length + j]? = some p := by
        rw [List.getElem?_append_right (by omega), hlX, Nat.sub_self]; rfl
      have hFl : (flatQ (P1 ++ p :: P2)).length = (X.length + n + Y.length) * 3 := by
        rw [flatQ_length, List.length_append, List.length_cons, hlX]; congr 1; omega
      have hF := fun m (hm : m < 3) => flatQ_get hM m hm
      have hix : (X.length + j) * 3 = o3 + j * 3 := by omega
      rw [hix] at hF
      have HF : Hid ((flatQ (P1 ++ p :: P2)).set (o3 + j * 3) (.bool (q % 3 == 0)) = flatQ (P1 ++ mkQ q p :: P2)) := Lib.hid (by
        rw [← hix, flatQ_one hM _ (qcl_mk q p)]
        congr 1
        rw [List.set_append_right _ _ (by omega), hlX, Nat.sub_self]; rfl)
      have HE : Hid (X ++ (mkqs k (L.take (j + 1)) ++ (L.drop (j + 1) ++ Y)) = P1 ++ mkQ q p :: P2 ∧ nxqs k (L.take (j + 1)) = nxQ q p) := Lib.hid ⟨e2', by rw [hq]; exact e3⟩
      generalize flatQ (P1 ++ p :: P2) = F at *
      have hbd : o3 + j * 3 + 3 ≤ F.length := by rw [hFl]; omega
      have hF0 : F[o3 + j * 3]? = some (.bool p.x.p) := hF 0 (by omega)
      have hF1 : F[o3 + j * 3 + 1]? = some (.slice p.a.A p.x.l.length p.a.c) := hF 1 (by omega)
      have hF2 : F[o3 + j * 3 + 2]? = some (.slice p.a.D p.x.m.length p.a.d) := hF 2 (by omega)
      obtain ⟨F1, hF1e⟩ : ∃ F1, F1 = F.set (o3 + j * 3) (.bool (q % 3 == 0)) := ⟨_, rfl⟩
      have k2 : F1[o3 + j * 3 + 2]? = some (.slice p.a.D p.x.m.length p.a.d) := by rw [hF1e, List.getElem?_set_ne (by omega)]; exact hF2
      have hl1' : F1.length = F.length := by rw [hF1e, List.length_set]
      have HF2 : Hid (F1 = flatQ (P1 ++ mkQ q p :: P2)) := Lib.hid (by rw [hF1e]; exact HF.out)
      have o0 : OwnS lo wr (some ⟨g, 0, none⟩) F := (trow_at hO).1
      obtain ⟨c0, f0⟩ := o0.cellv hF0
      obtain ⟨c1, _⟩ := o0.cellv hF1
      have s1 := trow_0 (l' := F1) hO hap (put_grown wr g (o3 + j * 3) (.bool (q % 3 == 0)) (F := F) (show 0 < F.length by omega)) (by rw [hF1e]; exact o0.set (by omega) _) hl1'
      have hi0 : (0 : Int) ≤ (j : Int) := by omega
      have hi1 : (j : Int) < (n : Int) := by omega
      have HS := Lib.hid s1
      have HT := Lib.hid hT
      have HK := Lib.hid k2
      clear hjl hO hap hT o0 s1 hF hM e1 e2 e3 e1' e2' hps hle hqe hp0 hszp hF0 hF1 hF2 HF hF1e k2 hl1' hp hq hFl hlX ho hl2' hix hbd
      go_wp2_with fail
      clear c0 f0 c1
      refine (markIntS_any lo (vi p.x.l) p.a.A p.x.l.length p.a.c (q + 1) _ (vi_length _) (by omega) (by omega) (trow_at HS.out.1).2.1).mono ?_
      rintro e w2 ⟨rfl, ow, hg2⟩
      have s2 := trow_1 (l' := vi (marks (q + 1) p.x.l.length)) HS.out.1 HS.out.2.1 (by rw [vi_length]; exact hg2) ow (by rw [vi_length, vi_length, marks_length])
      have HS2 := Lib.hid s2
      obtain ⟨c2, _⟩ := (trow_at s2.1).1.cellv HK.out
      clear s2 ow hg2
      go_wp2_with fail
      clear c2
      refine (markIntS_any lo (vi p.x.m) p.a.D p.x.m.length p.a.d (q + 1 + (p.x.l.length : Int)) _ (vi_length _) (by omega) (by omega) (trow_at HS2.out.1).2.2).mono ?_
      rintro e w3 ⟨rfl, ow, hg2⟩
      have s3 := trow_2 (l' := vi (marks (q + 1 + (p.x.l.length : Int)) p.x.m.length)) HS2.out.1 HS2.out.2.1 (by rw [vi_length]; exact hg2) ow (by rw [vi_length, vi_length, marks_length])
      have HS3 := Lib.hid s3
      clear s3 ow hg2
      go_wp2
      go_roundw
      case rel =>
        refine ⟨j + 1, _, hlt, by go_num, rfl, ?_, ?_, ?_, ?_⟩
        · rw [HE.out.2]; rfl
        · rw [HE.out.1, srowQ_trowq, ← HF2.out]; exact HS3.out.1
        · rw [HE.out.1, srowQ_trowq, ← HF2.out]; exact HS3.out.2.1
        · exact (((HT.out.trans HS.out.2.2).trans HS2.out.2.2).trans HS3.out.2.2)
      case measure => simp [intOf]; omega
    · obtain rfl : j = n := by omega
      rw [show L.take j = L by rw [HN.out, List.take_length], show L.drop j = [] by rw [HN.out, List.drop_length], List.nil_append] at hO hap
      rw [show L.take j = L by rw [HN.out, List.take_length]] at hq
      have HF : Hid (q = nxqs k L ∧ Owns lo hi wr (srowQ (some ⟨g, 0, none⟩) (X ++ (mkqs k L ++ Y)) ++ Q0) ∧ Aparts (srowQ (some ⟨g, 0, none⟩) (X ++ (mkqs k L ++ Y)) ++ Q0) ∧ Turn lo hi w wr) := Lib.hid ⟨hq, hO, hap, hT⟩
      clear hq hO hT hap
      go_wp2
      go_ret
      exact ⟨by rw [HF.out.1]; rfl, HF.out.2⟩
theorem markRSS_w (lo hi : Nat) (M : List RV) (g : Nat) (A : Option Addr) (c : Nat) (k : Int) (w : World) (h9 : M.length = 9) (hk : 0 < k) (hk2 : k ≤ 1048576) (hg : szm2 (winL g M) ≤ 1048576) (hh : hi ≤ w.heap.size) (h : Owns lo hi w ((A, flatS (winL g M)) :: srowQ (some ⟨g, 0, none⟩) M)) (ap : Aparts ((A, flatS (winL g M)) :: srowQ (some ⟨g, 0, none⟩) M)) :
    Calls Tryz.prog 52 #[.slice A 3 c, .int .i64 k] w (fun e w' => e = .returned (.int .i64 (nxqs k M)) ∧ Owns lo hi w' ((A, flatS (winL g (mkqs k M))) :: srowQ (some ⟨g, 0, none⟩) (mkqs k M)) ∧ Turn lo hi w w') := by
  rw [szm2_win h9] at hg
  have eF : flatS (winL g (mkqs k M)) = flatS (winL g M) := flatS_win (by rw [mkqs_length]; exact h9) h9
  rw [eF]
  have eS : flatS (winL g M) = [.slice (some ⟨g, 0, none⟩) 3 3, .slice (some ⟨g, 9, none⟩) 3 3, .slice (some ⟨g, 18, none⟩) 3 3] := by simp [flatS, winL, scl, h9]
  rw [eS] at h ap ⊢
  clear eF eS
  obtain ⟨a, b, d, rfl, ha, hb, hc⟩ : ∃ a b c : List RV, M = a ++ (b ++ c) ∧ a.length = 3 ∧ b.length = 3 ∧ c.length = 3 :=
    ⟨_, _, _, nine_split h9, by rw [List.length_take]; omega, by rw [List.length_take, List.length_drop]; omega, by rw [List.length_take, List.length_drop]; omega⟩
  clear h9
  rw [szqs_app, szqs_app] at hg
  have za := szqs_pos a
  have zb := szqs_pos b
  have zc := szqs_pos d
  have n1 := nxqs_eq k a
  have n2 := nxqs_eq (nxqs k a) b
  rw [mkqs_app, mkqs_app, nxqs_app, nxqs_app]
  have pm : ∀ L : List RV, ((A, [Value.slice (some ⟨g, 0, none⟩) 3 3, .slice (some ⟨g, 9, none⟩) 3 3, .slice (some ⟨g, 18, none⟩) 3 3]) :: srowQ (some ⟨g, 0, none⟩) L : List Row).Perm (srowQ (some ⟨g, 0, none⟩) L ++ [(A, [.slice (some ⟨g, 0, none⟩) 3 3, .slice (some ⟨g, 9, none⟩) 3 3, .slice (some ⟨g, 18, none⟩) 3 3])]) := fun L => List.perm_append_singleton _ _ |>.symm
  have H1 : Hid (∀ W, hi ≤ W.heap.size → Owns lo hi W ((A, [Value.slice (some ⟨g, 0, none⟩) 3 3, .slice (some ⟨g, 9, none⟩) 3 3, .slice (some ⟨g, 18, none⟩) 3 3]) :: srowQ (some ⟨g, 0, none⟩) (a ++ (b ++ d))) → Aparts ((A, [Value.slice (some ⟨g, 0, none⟩) 3 3, .slice (some ⟨g, 9, none⟩) 3 3, .slice (some ⟨g, 18, none⟩) 3 3]) :: srowQ (some ⟨g, 0, none⟩) (a ++ (b ++ d))) → Calls Tryz.prog 47 #[.slice (some ⟨g, 0, none⟩) 3 3, .int .i64 k] W (fun e w' => e = .returned (.int .i64 (nxqs k a)) ∧ Owns lo hi w' ((A, [Value.slice (some ⟨g, 0, none⟩) 3 3, .slice (some ⟨g, 9, none⟩) 3 3, .slice (some ⟨g, 18, none⟩) 3 3]) :: srowQ (some ⟨g, 0, none⟩) (mkqs k a ++ (b ++ d))) ∧ Aparts ((A, [Value.slice (some ⟨g, 0, none⟩) 3 3, .slice (some ⟨g, 9, none⟩) 3 3, .slice (some ⟨g, 18, none⟩) 3 3]) :: srowQ (some ⟨g, 0, none⟩) (mkqs k a ++ (b ++ d))) ∧ Turn lo hi W w')) := Lib.hid (fun W hh o ap => by
    have K := markRS_w [(A, [.slice (some ⟨g, 0, none⟩) 3 3, .slice (some ⟨g, 9, none⟩) 3 3, .slice (some ⟨g, 18, none⟩) 3 3])] lo hi [] a (b ++ d) g 0 3 k W hk (by omega) (by omega) rfl hh (o.perm (pm _)) (ap.perm (pm _))
    rw [ha] at K
    exact K.mono (fun e w' z => ⟨z.1, z.2.1.perm (pm _).symm, z.2.2.1.perm (pm _).symm, z.2.2.2⟩))
  have H2 : Hid (∀ W, hi ≤ W.heap.size → Owns lo hi W ((A, [Value.slice (some ⟨g, 0, none⟩) 3 3, .slice (some ⟨g, 9, none⟩) 3 3, .slice (some ⟨g, 18, none⟩) 3 3]) :: srowQ (some ⟨g, 0, none⟩) (mkqs k a ++ (b ++ d))) → Aparts ((A, [Value.slice (some ⟨g, 0, none⟩) 3 3, .slice (some ⟨g, 9, none⟩) 3 3, .slice (some ⟨g, 18, none⟩) 3 3]) :: srowQ (some ⟨g, 0, none⟩) (mkqs k a ++ (b ++ d))) → Calls Tryz.prog 47 #[.slice (some ⟨g, 9, none⟩) 3 3, .int .i64 (nxqs k a)] W (fun e w' => e = .returned (.int .i64 (nxqs (nxqs k a) b)) ∧ Owns lo hi w' ((A, [Value.slice (some ⟨g, 0, none⟩) 3 3, .slice (some ⟨g, 9, none⟩) 3 3, .slice (some ⟨g, 18, none⟩) 3 3]) :: srowQ (some ⟨g, 0, none⟩) (mkqs k a ++ (mkqs (nxqs k a) b ++ d))) ∧ Aparts ((A, [Value.slice (some ⟨g, 0, none⟩) 3 3, .slice (some ⟨g, 9, none⟩) 3 3, .slice (some ⟨g, 18, none⟩) 3 3]) :: srowQ (some ⟨g, 0, none⟩) (mkqs k a ++ (mkqs (nxqs k a) b ++ d))) ∧ Turn lo hi W w')) := Lib.hid (fun W hh o ap => by
    have K := markRS_w [(A, [.slice (some ⟨g, 0, none⟩) 3 3, .slice (some ⟨g, 9, none⟩) 3 3, .slice (some ⟨g, 18, none⟩) 3 3])] lo hi (mkqs k a) b d g 9 3 (nxqs k a) W (by omega) (by omega) (by omega) (by rw [mkqs_length, ha]) hh (o.perm (pm _)) (ap.perm (pm _))
    rw [hb] at K
    exact K.mono (fun e w' z => ⟨z.1, z.2.1.perm (pm _).symm, z.2.2.1.perm (pm _).symm, z.2.2.2⟩))
  have H3 : Hid (∀ W, hi ≤ W.heap.size → Owns lo hi W ((A, [Value.slice (some ⟨g, 0, none⟩) 3 3, .slice (some ⟨g, 9, none⟩) 3 3, .slice (some ⟨g, 18, none⟩) 3 3]) :: srowQ (some ⟨g, 0, none⟩) (mkqs k a ++ (mkqs (nxqs k a) b ++ d))) → Aparts ((A, [Value.slice (some ⟨g, 0, none⟩) 3 3, .slice (some ⟨g, 9, none⟩) 3 3, .slice (some ⟨g, 18, none⟩) 3 3]) :: srowQ (some ⟨g, 0, none⟩) (mkqs k a ++ (mkqs (nxqs k a) b ++ d))) → Calls Tryz.prog 47 #[.slice (some ⟨g, 18, none⟩) 3 3, .int .i64 (nxqs (nxqs k a) b)] W (fun e w' => e = .returned (.int .i64 (nxqs (nxqs (nxqs k a) b) d)) ∧ Owns lo hi w' ((A, [Value.slice (some ⟨g, 0, none⟩) 3 3, .slice (some ⟨g, 9, none⟩) 3 3, .slice (some ⟨g, 18, none⟩) 3 3]) :: srowQ (some ⟨g, 0, none⟩) (mkqs k a ++ (mkqs (nxqs k a) b ++ mkqs (nxqs (nxqs k a) b) d))) ∧ Turn lo hi W w')) := Lib.hid (fun W hh o ap => by
    have eqN : ∀ N : List RV, mkqs k a ++ (mkqs (nxqs k a) b ++ N) = (mkqs k a ++ mkqs (nxqs k a) b) ++ (N ++ []) := fun N => by simp
    rw [eqN d] at o ap
    have K := markRS_w [(A, [.slice (some ⟨g, 0, none⟩) 3 3, .slice (some ⟨g, 9, none⟩) 3 3, .slice (some ⟨g, 18, none⟩) 3 3])] lo hi (mkqs k a ++ mkqs (nxqs k a) b) d [] g 18 3 (nxqs (nxqs k a) b) W (by omega) (by omega) (by omega) (by rw [List.length_append, mkqs_length, mkqs_length, ha, hb]) hh (o.perm (pm _)) (ap.perm (pm _))
    rw [hc, ← eqN] at K
    exact K.mono (fun e w' z => ⟨z.1, z.2.1.perm (pm _).symm, z.2.2.2⟩))
  clear pm
  generalize mkqs (nxqs (nxqs k a) b) d = dm at H3 ⊢
  generalize nxqs (nxqs (nxqs k a) b) d = q3 at H3 ⊢
  generalize mkqs (nxqs k a) b = bm at H2 H3 ⊢
  generalize nxqs (nxqs k a) b = q2 at H2 H3 ⊢
  generalize mkqs k a = am at H1 H2 H3 ⊢
  generalize nxqs k a = q1 at H1 H2 H3 ⊢
  clear n1 n2 za zb zc hg ha hb hc
  have hT0 : Turn lo hi w w := ⟨rfl, rfl, rfl, Nat.le_refl _, fun _ _ _ => rfl⟩
  have C : ∀ {W : World} {R : List Row}, Rds W ((A, [Value.slice (some ⟨g, 0, none⟩) 3 3, .slice (some ⟨g, 9, none⟩) 3 3, .slice (some ⟨g, 18, none⟩) 3 3]) :: R) → ∃ gA oA, A = some ⟨gA, oA, none⟩ ∧ W.cell? ⟨gA, oA, none⟩ = some (.slice (some ⟨g, 0, none⟩) 3 3) ∧ W.cell? ⟨gA, oA + 1, none⟩ = some (.slice (some ⟨g, 9, none⟩) 3 3) ∧ W.cell? ⟨gA, oA + 2, none⟩ = some (.slice (some ⟨g, 18, none⟩) 3 3) := fun h => by
    obtain ⟨gA, oA, e, _, hc⟩ := h.hd.block (by simp)
    exact ⟨gA, oA, e, hc 0 (by simp), hc 1 (by simp), hc 2 (by simp)⟩
  have HC := Lib.hid (fun W (R : List Row) h => @C W R h)
  clear C
  go_enter Tryz.func52, Tryz.ntmps52
  go_wp2
  go_loopw [1, 5] (fun q i w' => (i = .int .i64 (0 : Int) ∧ q = .int .i64 k ∧ Owns lo hi w' ((A, [Value.slice (some ⟨g, 0, none⟩) 3 3, .slice (some ⟨g, 9, none⟩) 3 3, .slice (some ⟨g, 18, none⟩) 3 3]) :: srowQ (some ⟨g, 0, none⟩) (a ++ (b ++ d))) ∧ Aparts ((A, [Value.slice (some ⟨g, 0, none⟩) 3 3, .slice (some ⟨g, 9, none⟩) 3 3, .slice (some ⟨g, 18, none⟩) 3 3]) :: srowQ (some ⟨g, 0, none⟩) (a ++ (b ++ d))) ∧ Turn lo hi w w') ∨ (i = .int .i64 (1 : Int) ∧ q = .int .i64 q1 ∧ Owns lo hi w' ((A, [Value.slice (some ⟨g, 0, none⟩) 3 3, .slice (some ⟨g, 9, none⟩) 3 3, .slice (some ⟨g, 18, none⟩) 3 3]) :: srowQ (some ⟨g, 0, none⟩) (am ++ (b ++ d))) ∧ Aparts ((A, [Value.slice (some ⟨g, 0, none⟩) 3 3, .slice (some ⟨g, 9, none⟩) 3 3, .slice (some ⟨g, 18, none⟩) 3 3]) :: srowQ (some ⟨g, 0, none⟩) (am ++ (b ++ d))) ∧ Turn lo hi w w') ∨ (i = .int .i64 (2 : Int) ∧ q = .int .i64 q2 ∧ Owns lo hi w' ((A, [Value.slice (some ⟨g, 0, none⟩) 3 3, .slice (some ⟨g, 9, none⟩) 3 3, .slice (some ⟨g, 18, none⟩) 3 3]) :: srowQ (some ⟨g, 0, none⟩) (am ++ (bm ++ d))) ∧ Aparts ((A, [Value.slice (some ⟨g, 0, none⟩) 3 3, .slice (some ⟨g, 9, none⟩) 3 3, .slice (some ⟨g, 18, none⟩) 3 3]) :: srowQ (some ⟨g, 0, none⟩) (am ++ (bm ++ d))) ∧ Turn lo hi w w') ∨ (i = .int .i64 (3 : Int) ∧ q = .int .i64 q3 ∧ Owns lo hi w' ((A, [Value.slice (some ⟨g, 0, none⟩) 3 3, .slice (some ⟨g, 9, none⟩) 3 3, .slice (some ⟨g, 18, none⟩) 3 3]) :: srowQ (some ⟨g, 0, none⟩) (am ++ (bm ++ dm))) ∧ Turn lo hi w w')) (fun _ i _ => 3 - (intOf i).toNat)
  case atStart => exact .inl ⟨rfl, rfl, h, ap, hT0⟩
  case round =>
    clear h ap hT0
    rcases hrel with ⟨rfl, rfl, hO, hap, hT⟩ | ⟨rfl, rfl, hO, hap, hT⟩ | ⟨rfl, rfl, hO, hap, hT⟩ | ⟨rfl, rfl, hO, hT⟩
    · obtain ⟨gA, oA, rfl, c0, c1, c2⟩ := HC.out _ _ hO.rds
      have hsz : hi ≤ wr.heap.size := Nat.le_trans hh hT.size
      have MK := Lib.hid (H1.out wr hsz hO hap)
      have HT := Lib.hid hT
      clear hO hap hT
      go_wp2_with fail
      clear c0 c1 c2
      refine MK.out.mono ?_
      rintro e w2 ⟨rfl, o2, ap2, hT2⟩
      have HF := Lib.hid (And.intro o2 (And.intro ap2 hT2))
      clear o2 ap2 hT2
      go_wp2
      go_roundw
      case rel => exact .inr (.inl ⟨by go_num, rfl, HF.out.1, HF.out.2.1, HT.out.trans HF.out.2.2⟩)
      case measure => simp [intOf]
    · obtain ⟨gA, oA, rfl, c0, c1, c2⟩ := HC.out _ _ hO.rds
      have hsz : hi ≤ wr.heap.size := Nat.le_trans hh hT.size
      have MK := Lib.hid (H2.out wr hsz hO hap)
      have HT := Lib.hid hT
      clear hO hap hT
      go_wp2_with fail
      clear c0 c1 c2
      refine MK.out.mono ?_
      rintro e w2 ⟨rfl, o2, ap2, hT2⟩
      have HF := Lib.hid (And.intro o2 (And.intro ap2 hT2))
      clear o2 ap2 hT2
      go_wp2
      go_roundw
      case rel => exact .inr (.inr (.inl ⟨by go_num, rfl, HF.out.1, HF.out.2.1, HT.out.trans HF.out.2.2⟩))
      case measure => simp [intOf]
    · obtain ⟨gA, oA, rfl, c0, c1, c2⟩ := HC.out _ _ hO.rds
      have hsz : hi ≤ wr.heap.size := Nat.le_trans hh hT.size
      have MK := Lib.hid (H3.out wr hsz hO hap)
      have HT := Lib.hid hT
      clear hO hap hT
      go_wp2_with fail
      clear c0 c1 c2
      refine MK.out.mono ?_
      rintro e w2 ⟨rfl, o2, hT2⟩
      have HF := Lib.hid (And.intro o2 hT2)
      clear o2 hT2
      go_wp2
      go_roundw
      case rel => exact .inr (.inr (.inr ⟨by go_num, rfl, HF.out.1, HT.out.trans HF.out.2⟩))
      case measure => simp [intOf]
    · have HF := Lib.hid (And.intro hO hT)
      clear hO hT
      go_wp2
      go_ret
      exact ⟨rfl, HF.out⟩
theorem markRSS_o (lo hi : Nat) (R : List SV) (Z : Option (Nat × List RV)) (A : Option Addr) (c : Nat) (k : Int) (w : World) (hz : WinOk R Z) (hn : R.length ≤ 1048576) (hk : 0 < k) (hk2 : k ≤ 1048576) (hg : szm2 R ≤ 1048576) (hh : hi ≤ w.heap.size) (h : Owns lo hi w (rowsW A R Z)) (ap : Aparts (rowsW A R Z)) :
    Calls Tryz.prog 52 #[.slice A R.length c, .int .i64 k] w (fun e w' => e = .returned (.int .i64 (nxm k R)) ∧ Owns lo hi w' (rowsW A (mkm k R) (mkW k Z)) ∧ Turn lo hi w w') := by
  cases Z with
  | none => exact markRSS_r lo hi R A c k w hn hk hk2 hg hh h ap
  | some z =>
    obtain ⟨g, M⟩ := z
    obtain ⟨h9, rfl⟩ := hz
    have e := winL_mk (g := g) k h9
    rw [e.1, e.2]
    exact markRSS_w lo hi M g A c k w h9 hk hk2 hg hh h ap
end Go.Proofs.YtppdholccpgcpaaGreat
