/-
  Lists of lists of fractions: the row of their rows; equality, marks.
-/
import Derived.Test.YtppdholccpgcpaaGreatRlE
import Derived.Test.YtppdholccpgcpaaGreatRlQ
namespace Go.Proofs.YtppdholccpgcpaaGreat
set_option maxHeartbeats 2000000
open Go.ChangeShapes Go.WideShapes Go.ChangeAt Go.RowKit
set_option linter.unusedVariables false
set_option linter.unusedSimpArgs false
set_option maxRecDepth 4000
structure SV where
  L : List RV
  A : Option Addr
  c : Nat
def scl (p : SV) : Value := .slice p.A p.L.length p.c
def rrowS (p : SV) : List Row := srowQ p.A p.L
def flatS (R : List SV) : List Value := R.map scl
def lrowS (R : List SV) : List Row := R.flatMap rrowS
def srowS (B : Option Addr) (R : List SV) : List Row := (B, flatS R) :: lrowS R
def datS (R : List SV) : List (List R3) := R.map (fun p => datQ p.L)
def ShortS (p : SV) : Prop := p.L.length ≤ 1048576 ∧ ∀ x, x ∈ p.L → ShortQ x
def MadeRSS (B : Nat) (R : List SV) (w : World) (e : Ending) (w' : World) : Prop :=
  ∃ (M : List SV) (A : Option Addr) (c : Nat), e = .returned (.slice A M.length c) ∧ datS M = datS R ∧ Owns B w'.heap.size w' (srowS A M) ∧ Aparts (srowS A M) ∧ Below w.heap.size w w'
theorem flatS_length (R : List SV) : (flatS R).length = R.length := List.length_map _
theorem lrowS_app (R T : List SV) : lrowS (R ++ T) = lrowS R ++ lrowS T := by simp [lrowS]
theorem lrowS_cons (p : SV) (R : List SV) : lrowS (p :: R) = rrowS p ++ lrowS R := by simp [lrowS]
theorem getS {R : List SV} {i : Nat} (h : i < R.length) : ∃ p, R[i]? = some p := ⟨R[i], List.getElem?_eq_getElem h⟩
theorem lt_of_getS {R : List SV} {i : Nat} {p : SV} (h : R[i]? = some p) : i < R.length := by
  rcases Nat.lt_or_ge i R.length with h1 | h1
  · exact h1
  · rw [List.getElem?_eq_none h1] at h; cases h
theorem take_succS {R : List SV} {i : Nat} {p : SV} (h : R[i]? = some p) : R.take (i + 1) = R.take i ++ [p] := by
  rw [List.take_add_one, h]; rfl
theorem RdS.row {w : World} {A : Option Addr} {R : List SV} (h : RdS w A (flatS R)) {i : Nat} {p : SV} (hp : R[i]? = some p) :
    ∃ g o, A = some ⟨g, o, none⟩ ∧ g < w.heap.size ∧ w.cell? ⟨g, o + i, none⟩ = some (.slice p.A p.L.length p.c) := by
  have hl := lt_of_getS hp
  obtain ⟨g, o, ha, hg, hc⟩ := h.block (by rw [flatS_length]; omega)
  refine ⟨g, o, ha, hg, ?_⟩
  rw [hc i (by rw [flatS_length]; exact hl)]
  unfold flatS
  rw [List.getElem?_map, hp]; rfl
theorem Rds.atS {w : World} {R : List SV} (h : Rds w (lrowS R)) {i : Nat} {p : SV} (hp : R[i]? = some p) : Rds w (rrowS p) := fun r hr =>
  h r (List.mem_flatMap.2 ⟨p, List.mem_of_getElem? hp, hr⟩)
theorem datS_len {R T : List SV} (h : datS T = datS R) : T.length = R.length := by
  have := congrArg List.length h
  simpa [datS] using this
theorem datS_get {R T : List SV} (h : datS T = datS R) {i : Nat} {p : SV} (hp : R[i]? = some p) : ∃ q, T[i]? = some q ∧ datQ q.L = datQ p.L := by
  have h1 : (datS T)[i]? = some (datQ p.L) := by rw [h]; simp [datS, hp]
  unfold datS at h1
  rw [List.getElem?_map] at h1
  cases hq : T[i]? with
  | none => rw [hq] at h1; cases h1
  | some q =>
    rw [hq] at h1
    injection h1 with h1
    exact ⟨q, rfl, h1⟩
theorem eqRSS_t (R T : List SV) (A A' : Option Addr) (c c' : Nat) (w : World) (hn : R.length ≤ 1048576) (hS : ∀ p, p ∈ R → ShortS p) (hd : datS T = datS R) (hA : Rds w (srowS A R)) (hA' : Rds w (srowS A' T)) :
    Calls Tryz.prog 51 #[.slice A R.length c, .slice A' T.length c'] w (fun e w' => e = .returned (.bool true) ∧ Below w.heap.size w w') := by
  rw [datS_len hd]
  obtain ⟨n, hnn⟩ : ∃ n, n = R.length := ⟨_, rfl⟩
  rw [← hnn] at hn ⊢
  have HN := Lib.hid hnn
  clear hnn
  go_enter Tryz.func51, Tryz.ntmps51
  go_wp2
  go_loopw [5] (fun i w' => ∃ k : Nat, k ≤ n ∧ i = .int .i64 (k : Int) ∧ Below w.heap.size w w') (fun i _ => n - (intOf i).toNat)
  case atStart => exact ⟨0, Nat.zero_le _, rfl, Below.refl _ _⟩
  case round =>
    obtain ⟨k, hk, rfl, hb⟩ := hrel
    by_cases hlt : k < n
    · obtain ⟨p, hp⟩ := getS (show k < R.length by rw [← HN.out]; exact hlt)
      obtain ⟨q, hq, hpq⟩ := datS_get hd hp
      obtain ⟨g, o, rfl, _, c0⟩ := (hA.hd.below hb).row hp
      obtain ⟨g', o', rfl, _, d0⟩ := (hA'.hd.below hb).row hq
      have hps := hS p (List.mem_of_getElem? hp)
      have EQ := Lib.hid (fun W h h' => eqRS_t p.L p.L q.L p.A q.A p.c q.c W hps.1 hps.2 rfl hpq h h')
      rw [datQ_len hpq] at EQ d0
      have R1 : Hid (∀ W, Below wr.heap.size wr W → Rds W (srowQ p.A p.L) ∧ Rds W (srowQ q.A q.L)) := Lib.hid (fun W hB => ⟨((hA.tl.below hb).atS hp).below hB, ((hA'.tl.below hb).atS hq).below hB⟩)
      generalize p.L.length = n1 at EQ c0 d0
      have hi0 : (0 : Int) ≤ (k : Int) := by omega
      have hi1 : (k : Int) < (n : Int) := by omega
      have SB : Hid (∀ w', Below wr.heap.size wr w' → (w'.cell? ⟨g, o + k, none⟩ = some (.slice p.A n1 p.c) ∧ w'.cell? ⟨g', o' + k, none⟩ = some (.slice q.A n1 q.c) ∧ Below wr.heap.size wr w')) := Lib.hid (fun w' hB => ⟨below_cell hB c0, below_cell hB d0, hB⟩)
      have HB := Lib.hid hb
      clear hps hq hpq hp hb c0 d0
      go_wp2_with fail
      go_region_held3 (fun w' => w'.cell? ⟨g, o + k, none⟩ = some (.slice p.A n1 p.c) ∧ w'.cell? ⟨g', o' + k, none⟩ = some (.slice q.A n1 q.c) ∧ Below wr.heap.size wr w')
        (first | (with_reducible exact SB.out _ (Below.refl _ _)) | (with_reducible exact SB.out _ (Below.refl _ _).drew) | (go_split_ands; with_reducible exact SB.out _ (bt (by assumption : Below wr.heap.size wr _) hb)))
        (first | (go_at_call 46; go_split_ands; ((with_reducible refine (EQ.out _ (R1.out _ (by assumption : Below wr.heap.size wr _)).1 (R1.out _ (by assumption : Below wr.heap.size wr _)).2).mono ?_); rintro e w2 ⟨rfl, hb⟩; skip)))
      all_goals
        have hfin := (‹_ ∧ _ ∧ Below wr.heap.size wr _›).2.2
        go_wp2
        go_roundw
        case rel => exact ⟨k + 1, by omega, by go_num, bt HB.out hfin⟩
        case measure => simp [intOf]; omega
    · obtain rfl : k = n := by omega
      go_wp2
      go_ret
      exact ⟨rfl, hb⟩
def mkS2 (k : Int) (p : SV) : SV := ⟨mkqs k p.L, p.A, p.c⟩
def mkm : Int → List SV → List SV
  | _, [] => []
  | k, p :: R => mkS2 k p :: mkm (nxqs k p.L) R
def nxm : Int → List SV → Int
  | k, [] => k
  | k, p :: R => nxm (nxqs k p.L) R
def szm2 : List SV → Int
  | [] => 0
  | p :: R => (p.L.length : Int) + szqs p.L + szm2 R
theorem szm2_pos (R : List SV) : 0 ≤ szm2 R := by
  induction R with
  | nil => exact Int.le_refl _
  | cons p R ih => have := szqs_pos p.L; unfold szm2; omega
theorem nxm_eq (k : Int) (R : List SV) : nxm k R = k + szm2 R := by
  induction R generalizing k with
  | nil => simp [nxm, szm2]
  | cons p R ih => show nxm (nxqs k p.L) R = k + ((p.L.length : Int) + szqs p.L + szm2 R); rw [ih, nxqs_eq]; omega
theorem szm2_app (R T : List SV) : szm2 (R ++ T) = szm2 R + szm2 T := by
  induction R with
  | nil => simp [szm2]
  | cons p R ih => show (p.L.length : Int) + szqs p.L + szm2 (R ++ T) = (p.L.length : Int) + szqs p.L + szm2 R + szm2 T; rw [ih]; omega
theorem szm2_take {R : List SV} {j : Nat} {p : SV} (h : R[j]? = some p) : szm2 (R.take (j + 1)) = szm2 (R.take j) + ((p.L.length : Int) + szqs p.L) := by
  rw [take_succS h, szm2_app]; simp [szm2]
theorem szm2_le (R : List SV) (j : Nat) : szm2 (R.take j) ≤ szm2 R := by
  have h := szm2_app (R.take j) (R.drop j)
  rw [List.take_append_drop] at h
  have := szm2_pos (R.drop j)
  omega
theorem nxm_app (k : Int) (R T : List SV) : nxm k (R ++ T) = nxm (nxm k R) T := by
  induction R generalizing k with
  | nil => rfl
  | cons p R ih => exact ih _
theorem mkm_app (k : Int) (R T : List SV) : mkm k (R ++ T) = mkm k R ++ mkm (nxm k R) T := by
  induction R generalizing k with
  | nil => rfl
  | cons p R ih => show mkS2 k p :: mkm (nxqs k p.L) (R ++ T) = mkS2 k p :: (mkm (nxqs k p.L) R ++ mkm (nxm (nxqs k p.L) R) T); rw [ih]
theorem mkm_length (k : Int) (R : List SV) : (mkm k R).length = R.length := by
  induction R generalizing k with
  | nil => rfl
  | cons p R ih => show (mkm (nxqs k p.L) R).length + 1 = _; rw [ih]; rfl
theorem mkm_step {k : Int} {R : List SV} {j : Nat} {p : SV} (hp : R[j]? = some p) :
    mkm k (R.take j) ++ R.drop j = mkm k (R.take j) ++ p :: R.drop (j + 1) ∧ mkm k (R.take (j + 1)) ++ R.drop (j + 1) = mkm k (R.take j) ++ mkS2 (nxm k (R.take j)) p :: R.drop (j + 1) ∧ nxm k (R.take (j + 1)) = nxqs (nxm k (R.take j)) p.L := by
  have hl := lt_of_getS hp
  have h2 : R[j] = p := by rw [List.getElem?_eq_getElem hl] at hp; injection hp
  refine ⟨by rw [List.drop_eq_getElem_cons hl, h2], ?_, ?_⟩
  · rw [take_succS hp, mkm_app]
    show (mkm k (R.take j) ++ [mkS2 (nxm k (R.take j)) p]) ++ R.drop (j + 1) = _
    rw [List.append_assoc]; rfl
  · rw [take_succS hp, nxm_app]; rfl
theorem flatS_mk (M1 M2 : List SV) (k : Int) (p : SV) : flatS (M1 ++ mkS2 k p :: M2) = flatS (M1 ++ p :: M2) := by
  unfold flatS
  rw [List.map_append, List.map_append, List.map_cons, List.map_cons]
  congr 2
  show Value.slice p.A (mkqs k p.L).length p.c = _
  rw [mkqs_length]; rfl
theorem srowS_perm (A : Option Addr) (M1 M2 : List SV) (p : SV) : (srowS A (M1 ++ p :: M2)).Perm (srowQ p.A p.L ++ ((A, flatS (M1 ++ p :: M2)) :: (lrowS M1 ++ lrowS M2))) := by
  unfold srowS
  rw [lrowS_app, lrowS_cons]
  unfold rrowS
  generalize (A, flatS (M1 ++ p :: M2)) = X
  generalize srowQ p.A p.L = Y
  refine (List.Perm.cons X ?_).trans List.perm_middle.symm
  refine (List.perm_append_comm_assoc _ _ _).trans ?_
  exact List.Perm.refl _
theorem Owns.perm {lo hi : Nat} {w : World} {l l' : List Row} (h : Owns lo hi w l) (p : l.Perm l') : Owns lo hi w l' := fun r hr => h r (p.mem_iff.2 hr)
theorem Aparts.perm {l l' : List Row} (h : Aparts l) (p : l.Perm l') : Aparts l' := (List.Perm.pairwise_iff (fun h => h.symm) p).1 h
theorem markRSS_r (lo hi : Nat) (R : List SV) (A : Option Addr) (c : Nat) (k : Int) (w : World) (hn : R.length ≤ 1048576) (hk : 0 < k) (hk2 : k ≤ 1048576) (hg : szm2 R ≤ 1048576) (hh : hi ≤ w.heap.size) (h : Owns lo hi w (srowS A R)) (ap : Aparts (srowS A R)) :
    Calls Tryz.prog 52 #[.slice A R.length c, .int .i64 k] w (fun e w' => e = .returned (.int .i64 (nxm k R)) ∧ Owns lo hi w' (srowS A (mkm k R)) ∧ Turn lo hi w w') := by
  obtain ⟨n, hnn⟩ : ∃ n, n = R.length := ⟨_, rfl⟩
  rw [← hnn] at hn ⊢
  have HN := Lib.hid hnn
  clear hnn
  go_enter Tryz.func52, Tryz.ntmps52
  go_wp2
  go_loopw [1, 5] (fun q i w' => ∃ (j : Nat) (q' : Int), j ≤ n ∧ i = .int .i64 (j : Int) ∧ q = .int .i64 q' ∧ q' = nxm k (R.take j) ∧ Owns lo hi w' (srowS A (mkm k (R.take j) ++ R.drop j)) ∧ Aparts (srowS A (mkm k (R.take j) ++ R.drop j)) ∧ Turn lo hi w w') (fun _ i _ => n - (intOf i).toNat)
  case atStart => exact ⟨0, k, Nat.zero_le _, rfl, rfl, rfl, h, ap, ⟨rfl, rfl, rfl, Nat.le_refl _, fun _ _ _ => rfl⟩⟩
  case round =>
    obtain ⟨j, q, hj, rfl, rfl, hq, hO, hap, hT⟩ := hrel
    clear h ap
    by_cases hlt : j < n
    · obtain ⟨p, hp⟩ := getS (show j < R.length by rw [← HN.out]; exact hlt)
      obtain ⟨e1, e2, e3⟩ := mkm_step (k := k) hp
      have hle := szm2_le R (j + 1)
      rw [szm2_take hp] at hle
      have hp0 := szm2_pos (R.take j)
      have hsp := szqs_pos p.L
      have hqe : q = k + szm2 (R.take j) := by rw [hq, nxm_eq]
      have hq0 : 0 < q := by omega
      have hq1 : q ≤ 16777216 := by omega
      have hM : (mkm k (R.take j) ++ p :: R.drop (j + 1))[j]? = some p := by
        have hjl := lt_of_getS hp
        rw [List.getElem?_append_right (by rw [mkm_length, List.length_take]; omega), mkm_length, List.length_take, Nat.min_eq_left (by omega), Nat.sub_self]; rfl
      rw [e1] at hO hap
      have hsz : hi ≤ wr.heap.size := Nat.le_trans hh hT.size
      have MK := Lib.hid (markRS_q ((A, flatS (mkm k (R.take j) ++ p :: R.drop (j + 1))) :: (lrowS (mkm k (R.take j)) ++ lrowS (R.drop (j + 1)))) lo hi p.L p.A p.c q wr hq0 hq1 (by omega) hsz (hO.perm (srowS_perm _ _ _ _)) (hap.perm (srowS_perm _ _ _ _)))
      obtain ⟨g, o, rfl, _, c0⟩ := hO.rds.hd.row hM
      have HE : Hid (mkm k (R.take (j + 1)) ++ R.drop (j + 1) = mkm k (R.take j) ++ mkS2 q p :: R.drop (j + 1) ∧ nxm k (R.take (j + 1)) = nxqs q p.L) := Lib.hid (by rw [hq]; exact ⟨e2, e3⟩)
      have HT := Lib.hid hT
      have hi0 : (0 : Int) ≤ (j : Int) := by omega
      have hi1 : (j : Int) < (n : Int) := by omega
      clear e1 e2 e3 hle hp0 hsp hqe hM hO hap hT hp hq
      generalize hnx : nxqs q p.L = q2 at MK HE
      clear hnx
      go_wp2_with fail
      clear c0
      refine MK.out.mono ?_
      rintro e w2 ⟨rfl, o2, ap2, hT2⟩
      have HF := Lib.hid (And.intro o2 (And.intro ap2 hT2))
      clear o2 ap2 hT2
      go_wp2
      go_roundw
      case rel =>
        refine ⟨j + 1, _, hlt, by go_num, rfl, HE.out.2.symm, ?_, ?_, HT.out.trans HF.out.2.2⟩
        · rw [HE.out.1]
          have := HF.out.1.perm (l' := srowS _ (mkm k (R.take j) ++ mkS2 q p :: R.drop (j + 1))) (by
            have z := (srowS_perm (some ⟨g, o, none⟩) (mkm k (R.take j)) (R.drop (j + 1)) (mkS2 q p)).symm
            rw [flatS_mk] at z
            exact z)
          exact this
        · rw [HE.out.1]
          have := HF.out.2.1.perm (l' := srowS _ (mkm k (R.take j) ++ mkS2 q p :: R.drop (j + 1))) (by
            have z := (srowS_perm (some ⟨g, o, none⟩) (mkm k (R.take j)) (R.drop (j + 1)) (mkS2 q p)).symm
            rw [flatS_mk] at z
            exact z)
          exact this
      case measure => simp [intOf]; omega
    · obtain rfl : j = n := by omega
      rw [show R.take j = R by rw [HN.out, List.take_length], show R.drop j = [] by rw [HN.out, List.drop_length], List.append_nil] at hO
      rw [show R.take j = R by rw [HN.out, List.take_length]] at hq
      have HF : Hid (q = nxm k R ∧ Owns lo hi wr (srowS A (mkm k R)) ∧ Turn lo hi w wr) := Lib.hid ⟨hq, hO, hT⟩
      clear hq hO hT hap
      go_wp2
      go_ret
      exact ⟨by rw [HF.out.1]; rfl, HF.out.2⟩
theorem mkm_get {k : Int} {R : List SV} {j : Nat} {p : SV} (hp : R[j]? = some p) : (mkm k R)[j]? = some (mkS2 (nxm k (R.take j)) p) := by
  have hl := lt_of_getS hp
  have h2 : R[j] = p := by rw [List.getElem?_eq_getElem hl] at hp; injection hp
  have e : R = R.take j ++ p :: R.drop (j + 1) := by
    have h1 := List.take_append_drop j R
    rw [List.drop_eq_getElem_cons hl, h2] at h1
    exact h1.symm
  have e2 : mkm k R = mkm k (R.take j) ++ mkS2 (nxm k (R.take j)) p :: mkm (nxqs (nxm k (R.take j)) p.L) (R.drop (j + 1)) := by
    conv => lhs; rw [e, mkm_app]
    rfl
  rw [e2, List.getElem?_append_right (by rw [mkm_length, List.length_take]; omega), mkm_length, List.length_take, Nat.min_eq_left (by omega), Nat.sub_self]
  rfl
theorem heldRSS_r (R : List SV) (A : Option Addr) (c : Nat) (k : Int) (w : World) (hn : R.length ≤ 1048576) (hk : 0 < k) (hk2 : k ≤ 1048576) (hg : szm2 R ≤ 1048576) (h : Rds w (srowS A (mkm k R))) :
    Calls Tryz.prog 53 #[.slice A R.length c, .int .i64 k] w (fun e w' => e = .returned (.int .i64 (nxm k R)) ∧ Below w.heap.size w w') := by
  obtain ⟨n, hnn⟩ : ∃ n, n = R.length := ⟨_, rfl⟩
  rw [← hnn] at hn ⊢
  have HN := Lib.hid hnn
  clear hnn
  go_enter Tryz.func53, Tryz.ntmps53
  go_wp2
  go_loopw [1, 5] (fun q i w' => ∃ (j : Nat) (q' : Int), j ≤ n ∧ i = .int .i64 (j : Int) ∧ q = .int .i64 q' ∧ q' = nxm k (R.take j) ∧ Below w.heap.size w w') (fun _ i _ => n - (intOf i).toNat)
  case atStart => exact ⟨0, k, Nat.zero_le _, rfl, rfl, rfl, Below.refl _ _⟩
  case round =>
    obtain ⟨j, q, hj, rfl, rfl, hq, hb⟩ := hrel
    by_cases hlt : j < n
    · obtain ⟨p, hp⟩ := getS (show j < R.length by rw [← HN.out]; exact hlt)
      obtain ⟨_, _, e3⟩ := mkm_step (k := k) hp
      have hget := mkm_get (k := k) hp
      have hle := szm2_le R (j + 1)
      rw [szm2_take hp] at hle
      have hp0 := szm2_pos (R.take j)
      have hsp := szqs_pos p.L
      have hqe : q = k + szm2 (R.take j) := by rw [hq, nxm_eq]
      rw [← hq] at hget e3
      have hq0 : 0 < q := by omega
      have hq1 : q ≤ 16777216 := by omega
      obtain ⟨g, o, rfl, _, c0⟩ := (h.hd.below hb).row hget
      have d0 : wr.cell? ⟨g, o + j, none⟩ = some (.slice p.A p.L.length p.c) := by rw [c0]; show some (Value.slice p.A (mkqs q p.L).length p.c) = _; rw [mkqs_length]
      have HH := Lib.hid (heldRS_r p.L p.A p.c q wr hq0 hq1 (by omega) ((h.tl.below hb).atS hget))
      have hpos : ¬ nxqs q p.L < 0 := by rw [nxqs_eq]; omega
      generalize nxqs q p.L = q2 at HH e3 hpos
      have HE := Lib.hid e3
      have HB := Lib.hid hb
      have hi0 : (0 : Int) ≤ (j : Int) := by omega
      have hi1 : (j : Int) < (n : Int) := by omega
      clear c0 e3 hget hle hp0 hsp hqe hq hp hb
      go_wp2_with fail
      clear d0
      refine HH.out.mono ?_
      rintro e w2 ⟨rfl, h2⟩
      go_wp2
      go_roundw
      case rel => exact ⟨j + 1, _, hlt, by go_num, rfl, HE.out.symm, bt HB.out h2⟩
      case measure => simp [intOf]; omega
    · obtain rfl : j = n := by omega
      rw [show R.take j = R by rw [HN.out, List.take_length]] at hq
      have HF := Lib.hid hq
      clear hq
      go_wp2
      go_ret
      exact ⟨by rw [HF.out]; rfl, hb⟩
theorem szm2_dat {R T : List SV} (h : datS T = datS R) : szm2 T = szm2 R := by
  have z : ∀ {L M : List RV}, datQ M = datQ L → szqs M = szqs L := fun {L} => by
    induction L with
    | nil => intro M h; obtain rfl : M = [] := List.eq_nil_of_length_eq_zero (datQ_len h); rfl
    | cons p L ih =>
      intro M h
      match M, h with
      | q :: M, h =>
        simp only [datQ, List.map_cons, List.cons.injEq] at h
        show szq q + szqs M = szq p + szqs L
        rw [ih h.2]; unfold szq; rw [h.1]
  induction R generalizing T with
  | nil => obtain rfl : T = [] := List.eq_nil_of_length_eq_zero (datS_len h); rfl
  | cons p R ih =>
    match T, h with
    | q :: T, h =>
      simp only [datS, List.map_cons, List.cons.injEq] at h
      show (q.L.length : Int) + szqs q.L + szm2 T = (p.L.length : Int) + szqs p.L + szm2 R
      rw [ih h.2, datQ_len h.1, z h.1]
theorem eqRSS_d (D R T : List SV) (A A' : Option Addr) (c c' : Nat) (w : World) (hn : D.length ≤ 1048576) (hS : ∀ p, p ∈ D → ShortS p) (hd : datS R = datS D) (hd' : datS T = datS D) (hA : Rds w (srowS A R)) (hA' : Rds w (srowS A' T)) :
    Calls Tryz.prog 51 #[.slice A R.length c, .slice A' T.length c'] w (fun e w' => e = .returned (.bool true) ∧ Below w.heap.size w w') := by
  refine eqRSS_t R T A A' c c' w (by rw [datS_len hd]; exact hn) (fun p hp => ?_) (hd'.trans hd.symm) hA hA'
  obtain ⟨i, hi⟩ := List.getElem?_of_mem hp
  obtain ⟨q, hq, e⟩ := datS_get hd.symm hi
  obtain ⟨h1, h2⟩ := hS q (List.mem_of_getElem? hq)
  refine ⟨by rw [← datQ_len e]; exact h1, fun x hx => ?_⟩
  obtain ⟨j, hj⟩ := List.getElem?_of_mem hx
  obtain ⟨y, hy, e2⟩ := datQ_get e hj
  have := h2 y (List.mem_of_getElem? hy)
  unfold ShortQ at this ⊢
  rw [← e2]; exact this
end Go.Proofs.YtppdholccpgcpaaGreat
