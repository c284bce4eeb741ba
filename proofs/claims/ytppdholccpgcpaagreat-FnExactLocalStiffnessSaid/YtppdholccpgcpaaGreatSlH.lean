/-
  Lists of fractions: the row of their cells (three a fraction), the rows of their limbs.
-/
import Derived.Test.YtppdholccpgcpaaGreatSl
namespace Go.Proofs.YtppdholccpgcpaaGreat
open Go.ChangeShapes Go.WideShapes Go.ChangeAt Go.RowKit
set_option linter.unusedVariables false
set_option linter.unusedSimpArgs false
set_option maxRecDepth 4000
structure RV where
  x : R3
  a : Ad
def RV0 : RV := ⟨noR, noA⟩
def qcl (p : RV) : List Value := [.bool p.x.p, .slice p.a.A p.x.l.length p.a.c, .slice p.a.D p.x.m.length p.a.d]
def qrow (p : RV) : List (Option Addr × List Value) := rows p.x p.a
def flatQ (L : List RV) : List Value := L.flatMap qcl
def lrowQ (L : List RV) : List (Option Addr × List Value) := L.flatMap qrow
def srowQ (A : Option Addr) (L : List RV) : List (Option Addr × List Value) := (A, flatQ L) :: lrowQ L
def datQ (L : List RV) : List R3 := L.map (fun p => p.x)
def ShortQ (p : RV) : Prop := Short p.x
def CapQ (p : RV) : Prop := p.x.l.length ≤ p.a.c ∧ p.x.m.length ≤ p.a.d
def LenQ (p : RV) : Prop := p.x.l.length ≤ 9223372036854775807 ∧ p.x.m.length ≤ 9223372036854775807
theorem qcl_length (p : RV) : (qcl p).length = 3 := rfl
theorem flatQ_cons (p : RV) (L : List RV) : flatQ (p :: L) = qcl p ++ flatQ L := by simp [flatQ]
theorem flatQ_app (L M : List RV) : flatQ (L ++ M) = flatQ L ++ flatQ M := by simp [flatQ]
theorem lrowQ_cons (p : RV) (L : List RV) : lrowQ (p :: L) = qrow p ++ lrowQ L := by simp [lrowQ]
theorem lrowQ_app (L M : List RV) : lrowQ (L ++ M) = lrowQ L ++ lrowQ M := by simp [lrowQ]
theorem lrowQ_one (p : RV) : lrowQ [p] = qrow p := by simp [lrowQ]
theorem flatQ_length (L : List RV) : (flatQ L).length = L.length * 3 := by
  induction L with
  | nil => rfl
  | cons p L ih => rw [flatQ_cons, List.length_append, ih, qcl_length, List.length_cons]; omega
theorem flatQ_get {L : List RV} {i : Nat} {p : RV} (h : L[i]? = some p) (k : Nat) (hk : k < 3) : (flatQ L)[i * 3 + k]? = (qcl p)[k]? := by
  induction L generalizing i with
  | nil => cases h
  | cons q L ih =>
    rw [flatQ_cons]
    cases i with
    | zero =>
      obtain rfl : q = p := by simpa using h
      rw [List.getElem?_append_left (by rw [qcl_length]; omega)]
      simp
    | succ i =>
      have h' : L[i]? = some p := by simpa using h
      rw [List.getElem?_append_right (by rw [qcl_length]; omega), ← ih h']
      congr 1
      rw [qcl_length]; omega
theorem getQ {L : List RV} {i : Nat} (h : i < L.length) : ∃ p, L[i]? = some p := ⟨L[i], List.getElem?_eq_getElem h⟩
theorem lt_of_getQ {L : List RV} {i : Nat} {p : RV} (h : L[i]? = some p) : i < L.length := by
  rcases Nat.lt_or_ge i L.length with h1 | h1
  · exact h1
  · rw [List.getElem?_eq_none h1] at h; cases h
theorem take_succQ {L : List RV} {i : Nat} {p : RV} (h : L[i]? = some p) : L.take (i + 1) = L.take i ++ [p] := by
  have hl := lt_of_getQ h
  rw [List.take_add_one, h]; rfl
theorem RdS.three {w : World} {A : Option Addr} {L : List RV} (h : RdS w A (flatQ L)) {i : Nat} {p : RV} (hp : L[i]? = some p) :
    ∃ g o, A = some ⟨g, o, none⟩ ∧ g < w.heap.size ∧ w.cell? ⟨g, o + i * 3, none⟩ = some (.bool p.x.p) ∧ w.cell? ⟨g, o + i * 3 + 1, none⟩ = some (.slice p.a.A p.x.l.length p.a.c) ∧ w.cell? ⟨g, o + i * 3 + 2, none⟩ = some (.slice p.a.D p.x.m.length p.a.d) := by
  have hl := lt_of_getQ hp
  have hf := flatQ_length L
  obtain ⟨g, o, ha, hg, hc⟩ := h.block (by omega)
  have C : ∀ k, k < 3 → w.cell? ⟨g, o + i * 3 + k, none⟩ = (qcl p)[k]? := fun k hk => by
    rw [← flatQ_get hp k hk, Nat.add_assoc]; exact hc (i * 3 + k) (by omega)
  exact ⟨g, o, ha, hg, C 0 (by omega), C 1 (by omega), C 2 (by omega)⟩
theorem Rds.atQ {w : World} {L : List RV} (h : Rds w (lrowQ L)) {i : Nat} {p : RV} (hp : L[i]? = some p) : Rds w (qrow p) := fun r hr =>
  h r (List.mem_flatMap.2 ⟨p, List.mem_of_getElem? hp, hr⟩)
def szq (p : RV) : Int := szx p.x
def szqs : List RV → Int
  | [] => 0
  | p :: L => szq p + szqs L
theorem szq_pos (p : RV) : 0 ≤ szq p := by have := szx_pos p.x; unfold szq; omega
theorem szqs_pos (L : List RV) : 0 ≤ szqs L := by
  induction L with
  | nil => exact Int.le_refl _
  | cons p L ih => have := szq_pos p; unfold szqs; omega
theorem szqs_app (L M : List RV) : szqs (L ++ M) = szqs L + szqs M := by
  induction L with
  | nil => simp [szqs]
  | cons p L ih => rw [List.cons_append]; show szq p + szqs (L ++ M) = szq p + szqs L + szqs M; rw [ih]; omega
theorem szqs_take {L : List RV} {i : Nat} {p : RV} (h : L[i]? = some p) : szqs (L.take (i + 1)) = szqs (L.take i) + szq p := by
  rw [take_succQ h, szqs_app]; simp [szqs]
theorem szqs_le (L : List RV) (i : Nat) : szqs (L.take i) ≤ szqs L := by
  have h := szqs_app (L.take i) (L.drop i)
  rw [List.take_append_drop] at h
  have := szqs_pos (L.drop i)
  omega
theorem szq_short {p : RV} {left : Int} (h : szq p ≤ left) (h1 : left ≤ 1048576) : ShortQ p := szx_short (left := left) h h1
theorem szqs_short {L : List RV} {left : Int} (h : szqs L ≤ left) (h1 : left ≤ 1048576) : ∀ p, p ∈ L → ShortQ p := by
  induction L with
  | nil => intro p hp; cases hp
  | cons q L ih =>
    unfold szqs at h
    have h2 := szq_pos q
    have h3 := szqs_pos L
    intro p hp
    rcases List.mem_cons.1 hp with e | e
    · subst e; exact szq_short (left := left) (by omega) h1
    · exact ih (by omega) p e
theorem flatQ_split {L : List RV} {i : Nat} {p : RV} (h : L[i]? = some p) : flatQ L = flatQ (L.take i) ++ (qcl p ++ flatQ (L.drop (i + 1))) := by
  have hl := lt_of_getQ h
  have e : L = L.take i ++ p :: L.drop (i + 1) := by
    have h1 := List.take_append_drop i L
    rw [List.drop_eq_getElem_cons hl] at h1
    have h2 : L[i] = p := by rw [List.getElem?_eq_getElem hl] at h; injection h
    rw [h2] at h1
    exact h1.symm
  conv => lhs; rw [e, flatQ_app, flatQ_cons]
theorem datQ_len {L M : List RV} (h : datQ M = datQ L) : M.length = L.length := by
  have := congrArg List.length h
  simpa [datQ] using this
theorem datQ_app (L M : List RV) : datQ (L ++ M) = datQ L ++ datQ M := by simp [datQ]
theorem datQ_get {L M : List RV} (h : datQ M = datQ L) {i : Nat} {p : RV} (hp : L[i]? = some p) : ∃ q, M[i]? = some q ∧ q.x = p.x := by
  have h1 : (datQ M)[i]? = some p.x := by rw [h]; simp [datQ, hp]
  unfold datQ at h1
  rw [List.getElem?_map] at h1
  cases hq : M[i]? with
  | none => rw [hq] at h1; cases h1
  | some q =>
    rw [hq] at h1
    injection h1 with h1
    exact ⟨q, rfl, h1⟩
end Go.Proofs.YtppdholccpgcpaaGreat
namespace Go.Proofs.YtppdholccpgcpaaGreat
open Go.ChangeShapes Go.WideShapes Go.ChangeAt Go.RowKit
set_option linter.unusedVariables false
set_option linter.unusedSimpArgs false
set_option maxRecDepth 4000
set_option maxHeartbeats 1000000 in
theorem szPS_y (L : List PV) (A : Option Addr) (c : Nat) (left : Int) (w : World) (h0 : 0 ≤ left) (h1 : left ≤ 1048576) (h : (L.length : Int) + szs L ≤ left) (hA : RdS w A (flat L)) :
    Calls Tryz.prog 36 #[.slice A L.length c, .int .i64 left] w (fun e w' => e = .returned (.int .i64 (left - (L.length : Int) - szs L)) ∧ Below w.heap.size w w') := by
  have hz := szs_pos L
  obtain ⟨n, hn⟩ : ∃ n, n = L.length := ⟨_, rfl⟩
  rw [← hn] at h ⊢
  have HN := Lib.hid hn
  clear hn
  have h3 : ¬ left - (n : Int) < 0 := by omega
  go_enter Tryz.func36, Tryz.ntmps36
  go_wp2
  go_loopw [1, 5] (fun q i w' => ∃ k : Nat, ∃ q' : Int, k ≤ n ∧ i = .int .i64 (k : Int) ∧ q = .int .i64 q' ∧ q' = left - (n : Int) - szs (L.take k) ∧ Below w.heap.size w w') (fun _ i _ => n - (intOf i).toNat)
  case atStart => exact ⟨0, _, Nat.zero_le _, rfl, rfl, by simp [szs], Below.refl _ _⟩
  case round =>
    obtain ⟨k, q', hk, rfl, rfl, hq', hb⟩ := hrel
    by_cases hlt : k < n
    · obtain ⟨p, hp⟩ := getP (show k < L.length by rw [← HN.out]; exact hlt)
      obtain ⟨g, o, rfl, hg, c0, c1, c2, c3, c4, c5⟩ := (hA.below hb).six hp
      have ht := szs_take hp
      have hle := szs_le L (k + 1)
      have hle0 := szs_pos (L.take k)
      have hpp := szp_pos p
      have hi0 : (0 : Int) ≤ (k : Int) := by omega
      have hi1 : (k : Int) < (n : Int) := by omega
      have SZ := Lib.hid (fun W => szPt_y p.x p.y p.a p.b q' W (by omega) (by omega) (by show szp p ≤ q'; omega))
      obtain ⟨q2, hq2⟩ : ∃ q2 : Int, q2 = q' - (szx p.x + szx p.y) := ⟨_, rfl⟩
      rw [← hq2] at SZ
      have hq3 : ¬ q2 < 0 := by have : szp p = szx p.x + szx p.y := rfl; omega
      have HQ : Hid (q2 = left - (n : Int) - szs (L.take (k + 1))) := Lib.hid (by have : szp p = szx p.x + szx p.y := rfl; omega)
      clear ht hle hle0 hpp hq2 hq'
      go_wp2_with fail
      refine (SZ.out _).mono ?_
      rintro e w2 ⟨rfl, hb2⟩
      go_wp2
      go_roundw
      case rel => exact ⟨k + 1, q2, by omega, by go_num, rfl, HQ.out, bt hb hb2⟩
      case measure => simp [intOf]; omega
    · obtain rfl : k = n := by omega
      have HQ : Hid (q' = left - (k : Int) - szs L) := Lib.hid (by rw [hq', HN.out, List.take_length])
      clear hq'
      go_wp2
      go_ret
      exact ⟨by rw [HQ.out]; rfl, hb⟩
set_option maxHeartbeats 1000000 in
theorem szPS_n (L : List PV) (A : Option Addr) (c : Nat) (left : Int) (w : World) (hm : L.length ≤ 9223372036854775807) (hL : ∀ p, p ∈ L → LenP p) (h0 : 0 ≤ left) (h1 : left ≤ 1048576) (h : ¬ (L.length : Int) + szs L ≤ left) (hA : RdS w A (flat L)) :
    Calls Tryz.prog 36 #[.slice A L.length c, .int .i64 left] w (fun e w' => e = .returned (.int .i64 (-1)) ∧ Below w.heap.size w w') := by
  have hz := szs_pos L
  obtain ⟨n, hn⟩ : ∃ n, n = L.length := ⟨_, rfl⟩
  rw [← hn] at h hm ⊢
  have HN := Lib.hid hn
  clear hn
  by_cases h3 : left - (n : Int) < 0
  · go_enter Tryz.func36, Tryz.ntmps36
    go_wp2
    go_ret
    exact ⟨rfl, Below.refl _ _⟩
  go_enter Tryz.func36, Tryz.ntmps36
  go_wp2
  go_loopw [1, 5] (fun q i w' => ∃ k : Nat, ∃ q' : Int, k ≤ n ∧ i = .int .i64 (k : Int) ∧ q = .int .i64 q' ∧ q' = left - (n : Int) - szs (L.take k) ∧ 0 ≤ q' ∧ Below w.heap.size w w') (fun _ i _ => n - (intOf i).toNat)
  case atStart => exact ⟨0, _, Nat.zero_le _, rfl, rfl, by simp [szs], by omega, Below.refl _ _⟩
  case round =>
    obtain ⟨k, q', hk, rfl, rfl, hq', hq0, hb⟩ := hrel
    by_cases hlt : k < n
    · obtain ⟨p, hp⟩ := getP (show k < L.length by rw [← HN.out]; exact hlt)
      obtain ⟨g, o, rfl, hg, c0, c1, c2, c3, c4, c5⟩ := (hA.below hb).six hp
      have ht := szs_take hp
      have hle0 := szs_pos (L.take k)
      have hpp := szp_pos p
      have hi0 : (0 : Int) ≤ (k : Int) := by omega
      have hi1 : (k : Int) < (n : Int) := by omega
      by_cases hsz : szp p ≤ q'
      · have SZ := Lib.hid (fun W => szPt_y p.x p.y p.a p.b q' W (by omega) (by omega) (by show szp p ≤ q'; omega))
        obtain ⟨q2, hq2⟩ : ∃ q2 : Int, q2 = q' - (szx p.x + szx p.y) := ⟨_, rfl⟩
        rw [← hq2] at SZ
        have hq3 : ¬ q2 < 0 := by have : szp p = szx p.x + szx p.y := rfl; omega
        have HQ : Hid (q2 = left - (n : Int) - szs (L.take (k + 1))) := Lib.hid (by have : szp p = szx p.x + szx p.y := rfl; omega)
        clear ht hle0 hpp hq2 hq' hsz
        go_wp2_with fail
        refine (SZ.out _).mono ?_
        rintro e w2 ⟨rfl, hb2⟩
        go_wp2
        go_roundw
        case rel => exact ⟨k + 1, q2, by omega, by go_num, rfl, HQ.out, by omega, bt hb hb2⟩
        case measure => simp [intOf]; omega
      · obtain ⟨⟨l1, l2⟩, l3, l4⟩ := hL p (List.mem_of_getElem? hp)
        have SZ := Lib.hid (fun W => szPt_n p.x p.y p.a p.b q' W l1 l2 l3 l4 (by omega) (by omega) (by show ¬ szp p ≤ q'; omega))
        clear ht hle0 hpp hq' hsz l1 l2 l3 l4
        go_wp2_with fail
        refine (SZ.out _).mono ?_
        rintro e w2 ⟨rfl, hb2⟩
        go_wp2
        go_ret
        exact ⟨rfl, bt hb hb2⟩
    · exfalso
      obtain rfl : k = n := by omega
      rw [HN.out, List.take_length] at hq'
      rw [HN.out] at h
      omega
end Go.Proofs.YtppdholccpgcpaaGreat
