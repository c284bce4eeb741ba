/-
  The triangles of a mesh (five whole numbers each) and meshes: their rows.
-/
import Derived.Test.YtoknolholccamaaSlH
import Derived.Test.YtoknolholccamaaStore
namespace Go.Proofs.Ytoknolholccamaa
open Go.ChangeShapes Go.WideShapes Go.ChangeAt Go.RowKit
open Go.ChangeMaps (open_string shut_string)
set_option linter.unusedVariables false
set_option linter.unusedSimpArgs false
set_option maxRecDepth 4000

/-- A triangle of a mesh: corners, region, level. -/
structure TV where
  a : Int
  b : Int
  c : Int
  r : Int
  l : Int
def TV0 : TV := ⟨0, 0, 0, 0, 0⟩
def tcl (t : TV) : List Value := [.int .i64 t.a, .int .i64 t.b, .int .i64 t.c, .int .i64 t.r, .int .i64 t.l]
def flatT (T : List TV) : List Value := T.flatMap tcl
theorem tcl_length (t : TV) : (tcl t).length = 5 := rfl
theorem flatT_cons (p : TV) (L : List TV) : flatT (p :: L) = tcl p ++ flatT L := by simp [flatT]
theorem flatT_app (L M : List TV) : flatT (L ++ M) = flatT L ++ flatT M := by simp [flatT]
theorem flatT_length (L : List TV) : (flatT L).length = L.length * 5 := by
  induction L with
  | nil => rfl
  | cons p L ih => rw [flatT_cons, List.length_append, ih, tcl_length, List.length_cons]; omega
theorem flatT_get {L : List TV} {i : Nat} {p : TV} (h : L[i]? = some p) (k : Nat) (hk : k < 5) : (flatT L)[i * 5 + k]? = (tcl p)[k]? := by
  induction L generalizing i with
  | nil => cases h
  | cons q L ih =>
    rw [flatT_cons]
    cases i with
    | zero =>
      obtain rfl : q = p := by simpa using h
      rw [List.getElem?_append_left (by rw [tcl_length]; omega)]
      simp
    | succ i =>
      have h' : L[i]? = some p := by simpa using h
      rw [List.getElem?_append_right (by rw [tcl_length]; omega), ← ih h']
      congr 1
      rw [tcl_length]; omega
theorem getT {L : List TV} {i : Nat} (h : i < L.length) : ∃ p, L[i]? = some p := ⟨L[i], List.getElem?_eq_getElem h⟩
theorem lt_of_getT {L : List TV} {i : Nat} {p : TV} (h : L[i]? = some p) : i < L.length := by
  rcases Nat.lt_or_ge i L.length with h1 | h1
  · exact h1
  · rw [List.getElem?_eq_none h1] at h; cases h
theorem take_succT {L : List TV} {i : Nat} {p : TV} (h : L[i]? = some p) : L.take (i + 1) = L.take i ++ [p] := by
  have hl := lt_of_getT h
  rw [List.take_add_one, h]; rfl
/-- Five cells of a list of triangles, to be read. -/
theorem RdS.five {w : World} {A : Option Addr} {L : List TV} (h : RdS w A (flatT L)) {i : Nat} {p : TV} (hp : L[i]? = some p) :
    ∃ g o, A = some ⟨g, o, none⟩ ∧ g < w.heap.size ∧ w.cell? ⟨g, o + i * 5, none⟩ = some (.int .i64 p.a) ∧ w.cell? ⟨g, o + i * 5 + 1, none⟩ = some (.int .i64 p.b) ∧ w.cell? ⟨g, o + i * 5 + 2, none⟩ = some (.int .i64 p.c) ∧ w.cell? ⟨g, o + i * 5 + 3, none⟩ = some (.int .i64 p.r) ∧ w.cell? ⟨g, o + i * 5 + 4, none⟩ = some (.int .i64 p.l) := by
  have hl := lt_of_getT hp
  have hf := flatT_length L
  obtain ⟨g, o, ha, hg, hc⟩ := h.block (by omega)
  have C : ∀ k, k < 5 → w.cell? ⟨g, o + i * 5 + k, none⟩ = (tcl p)[k]? := fun k hk => by
    rw [← flatT_get hp k hk, Nat.add_assoc]; exact hc (i * 5 + k) (by omega)
  exact ⟨g, o, ha, hg, C 0 (by omega), C 1 (by omega), C 2 (by omega), C 3 (by omega), C 4 (by omega)⟩
theorem flatT_split {L : List TV} {i : Nat} {p : TV} (h : L[i]? = some p) : flatT L = flatT (L.take i) ++ (tcl p ++ flatT (L.drop (i + 1))) := by
  have hl := lt_of_getT h
  have e : L = L.take i ++ p :: L.drop (i + 1) := by
    have h1 := List.take_append_drop i L
    rw [List.drop_eq_getElem_cons hl] at h1
    have h2 : L[i] = p := by rw [List.getElem?_eq_getElem hl] at h; injection h
    rw [h2] at h1
    exact h1.symm
  conv => lhs; rw [e, flatT_app, flatT_cons]
theorem flatT_store {L : List TV} {i : Nat} {p : TV} (h : L[i]? = some p) (q : TV) : ((flatT L).toArray.toList.take (i * 5) ++ ((#[.int .i64 q.a, .int .i64 q.b, .int .i64 q.c, .int .i64 q.r, .int .i64 q.l] : Array Value).toList ++ (flatT L).toArray.toList.drop (i * 5 + (#[.int .i64 q.a, .int .i64 q.b, .int .i64 q.c, .int .i64 q.r, .int .i64 q.l] : Array Value).size))).toArray = (flatT (L.set i q)).toArray := by
  have hl := lt_of_getT h
  have hq : (L.set i q)[i]? = some q := List.getElem?_set_self hl
  have hlen : (flatT (L.take i)).length = i * 5 := by rw [flatT_length, List.length_take, Nat.min_eq_left (by omega)]
  have e1 : (L.set i q).take i = L.take i := List.take_set_of_le (Nat.le_refl _)
  have e2 : (L.set i q).drop (i + 1) = L.drop (i + 1) := List.drop_set_of_lt (Nat.lt_succ_self _)
  rw [flatT_split hq, e1, e2]
  congr 1
  show (flatT L).take (i * 5) ++ (tcl q ++ (flatT L).drop (i * 5 + 5)) = _
  have h3 : (flatT L).take (i * 5) = flatT (L.take i) := by rw [flatT_split h, List.take_append_of_le_length (by omega), List.take_of_length_le (by omega)]
  have h4 : (flatT L).drop (i * 5 + 5) = flatT (L.drop (i + 1)) := by
    rw [flatT_split h, List.drop_append, List.drop_of_length_le (by omega), hlen, List.nil_append, show i * 5 + 5 - i * 5 = 5 by omega]
    rfl
  rw [h3, h4]
theorem repT_get (n : Nat) {i : Nat} (h : i < n) : (List.replicate n TV0)[i]? = some TV0 := by simp [List.getElem?_replicate, h]
theorem made_flatT (n : Nat) : (madeCells (Value.agg #[.int .i64 0, .int .i64 0, .int .i64 0, .int .i64 0, .int .i64 0]).cells (n * 5)).toList = flatT (List.replicate n TV0) := by
  apply List.ext_getElem?
  intro j
  by_cases hj : j < n * 5
  · have h1 : j / 5 < n := by omega
    have h2 : j % 5 < 5 := Nat.mod_lt _ (by omega)
    have h3 := flatT_get (repT_get n h1) (j % 5) h2
    rw [show j / 5 * 5 + j % 5 = j by omega] at h3
    rw [h3]
    have h4 : (madeCells (Value.agg #[.int .i64 0, .int .i64 0, .int .i64 0, .int .i64 0, .int .i64 0]).cells (n * 5)).toList[j]? = some ((#[Value.int .i64 0, .int .i64 0, .int .i64 0, .int .i64 0, .int .i64 0] : Array Value)[j % 5]!) := by
      unfold madeCells
      simp [hj, Value.cells]
    rw [h4]
    have h5 : ∀ k, k < 5 → some ((#[Value.int .i64 0, .int .i64 0, .int .i64 0, .int .i64 0, .int .i64 0] : Array Value)[k]!) = (tcl TV0)[k]? := fun k hk => by
      match k, hk with
      | 0, _ => rfl
      | 1, _ => rfl
      | 2, _ => rfl
      | 3, _ => rfl
      | 4, _ => rfl
    exact h5 _ h2
  · rw [List.getElem?_eq_none (by rw [Array.length_toList, size_madeCells]; omega), List.getElem?_eq_none (by rw [flatT_length, List.length_replicate]; omega)]
theorem blk_of_made5 {w : World} {base g n : Nat} {T : TypeId} {xs : List Value} (h : w.ownsRow base T 5 (.slice (some ⟨g, 0, none⟩) n n) n xs) : w.heap[g]? = some (.cells xs.toArray T (0, 0)) := by
  obtain ⟨hl, hr⟩ := h
  rcases hr with ⟨hv, _⟩ | ⟨g', cap, cur, hv, hbg, hh, hnc, hm, hsz, htake⟩
  · cases hv
  · injection hv with e1 e2 e3
    injection e1 with e1
    injection e1 with e1
    subst e1; subst e3
    have : cur = xs.toArray := by
      rw [← htake, List.take_of_length_le (by rw [Array.length_toList]; omega)]
    rw [hh, this]
theorem setT_app (M : List TV) (n : Nat) (q r : TV) (R : List TV) : (M ++ r :: R).set M.length q = (M ++ [q]) ++ R := by
  rw [List.set_append_right _ _ (Nat.le_refl _)]; simp
/-- A mesh: points and triangles with their addresses and capacities. -/
structure MV where
  L : List PV
  A : Option Addr
  c : Nat
  T : List TV
  B : Option Addr
  d : Nat
def mrow (m : MV) : List (Option Addr × List Value) := srow m.A m.L ++ [(m.B, flatT m.T)]
/-- A mesh's data. -/
def datM (m : MV) : List (R3 × R3) × List TV := (dat m.L, m.T)
/-- What a mesh takes of the harness' room. -/
def szm (m : MV) : Int := (m.L.length : Int) + szs m.L + (m.T.length : Int)
theorem szm_pos (m : MV) : 0 ≤ szm m := by have := szs_pos m.L; unfold szm; omega
def LenM (m : MV) : Prop := m.L.length ≤ 9223372036854775807 ∧ m.T.length ≤ 9223372036854775807 ∧ ∀ p, p ∈ m.L → LenP p
def ShortM (m : MV) : Prop := m.L.length ≤ 1048576 ∧ m.T.length ≤ 1048576 ∧ ∀ p, p ∈ m.L → ShortP p
theorem szm_short {m : MV} {left : Int} (h : szm m ≤ left) (h1 : left ≤ 1048576) : ShortM m := by
  have h2 := szs_pos m.L
  unfold szm at h
  exact ⟨by omega, by omega, szs_short (left := left) (by omega) h1⟩
/-- A list of triangles in a row of the call's own. -/
def MadeTS (B : Nat) (T : List TV) (w : World) (e : Ending) (w' : World) : Prop :=
  ∃ (A : Option Addr) (c : Nat), e = .returned (.slice A T.length c) ∧ T.length ≤ c ∧ Owns B w'.heap.size w' [(A, flatT T)] ∧ Below w.heap.size w w'
/-- A mesh in rows of the call's own, with m's data. -/
def MadeM (B : Nat) (m : MV) (w : World) (e : Ending) (w' : World) : Prop :=
  ∃ (n : MV) (mid : Nat), e = .returned (.agg #[.slice n.A n.L.length n.c, .slice n.B n.T.length n.d]) ∧ datM n = datM m ∧ (n.L.length ≤ n.c ∧ n.T.length ≤ n.d ∧ ∀ p, p ∈ n.L → CapP p ∧ Pin p.a ∧ Pin p.b) ∧ (B ≤ mid ∧ mid ≤ w'.heap.size) ∧ Owns B mid w' (srow n.A n.L) ∧ Owns mid w'.heap.size w' [(n.B, flatT n.T)] ∧ Aparts (srow n.A n.L) ∧ Below w.heap.size w w'
theorem datM_len {m n : MV} (h : datM n = datM m) : n.L.length = m.L.length ∧ n.T = m.T := by
  unfold datM at h
  injection h with h1 h2
  exact ⟨dat_len h1, h2⟩
theorem datM_dat {m n : MV} (h : datM n = datM m) : dat n.L = dat m.L := by
  unfold datM at h
  injection h
theorem szTriS_y (n : Nat) (A : Option Addr) (c : Nat) (left : Int) (w : World) (h0 : 0 ≤ left) (h1 : left ≤ 1048576) (h : (n : Int) ≤ left) :
    Calls Try.prog 21 #[.slice A n c, .int .i64 left] w (fun e w' => e = .returned (.int .i64 (left - (n : Int))) ∧ Below w.heap.size w w') := by
  have h3 : ¬ left - (n : Int) < 0 := by omega
  go_enter Try.func21, Try.ntmps21
  go_wp2
  go_ret
  exact ⟨rfl, Below.refl _ _⟩
theorem szTriS_n (n : Nat) (A : Option Addr) (c : Nat) (left : Int) (w : World) (hm : n ≤ 9223372036854775807) (h0 : 0 ≤ left) (h1 : left ≤ 1048576) (h : ¬ (n : Int) ≤ left) :
    Calls Try.prog 21 #[.slice A n c, .int .i64 left] w (fun e w' => e = .returned (.int .i64 (-1)) ∧ Below w.heap.size w w') := by
  have h3 : left - (n : Int) < 0 := by omega
  go_enter Try.func21, Try.ntmps21
  go_wp2
  go_ret
  exact ⟨rfl, Below.refl _ _⟩
theorem szMesh_y (m : MV) (left : Int) (w : World) (h0 : 0 ≤ left) (h1 : left ≤ 1048576) (h : szm m ≤ left) (hA : RdS w m.A (flat m.L)) :
    Calls Try.prog 9 #[.agg #[.slice m.A m.L.length m.c, .slice m.B m.T.length m.d], .int .i64 left] w (fun e w' => e = .returned (.int .i64 (left - szm m)) ∧ Below w.heap.size w w') := by
  have h2 := szs_pos m.L
  unfold szm at h ⊢
  have SP : Hid (∀ W, Below w.heap.size w W → Calls Try.prog 20 #[.slice m.A m.L.length m.c, .int .i64 left] W (fun e w' => e = .returned (.int .i64 (left - (m.L.length : Int) - szs m.L)) ∧ Below W.heap.size W w')) := Lib.hid (fun W hb => szPS_y m.L m.A m.c left W h0 h1 (by omega) (hA.below hb))
  have ST : Hid (∀ W, Calls Try.prog 21 #[.slice m.B m.T.length m.d, .int .i64 (left - (m.L.length : Int) - szs m.L)] W (fun e w' => e = .returned (.int .i64 (left - (m.L.length : Int) - szs m.L - (m.T.length : Int))) ∧ Below W.heap.size W w')) := Lib.hid (fun W => szTriS_y m.T.length m.B m.d _ W (by omega) (by omega) (by omega))
  have g3 : ¬ left - (m.L.length : Int) - szs m.L < 0 := by omega
  have g4 : ¬ left - (m.L.length : Int) - szs m.L - (m.T.length : Int) < 0 := by omega
  have HE : Hid (left - ((m.L.length : Int) + szs m.L + (m.T.length : Int)) = left - (m.L.length : Int) - szs m.L - (m.T.length : Int)) := Lib.hid (by omega)
  rw [HE.out]
  clear h h2 hA
  generalize left - (m.L.length : Int) - szs m.L - (m.T.length : Int) = q2 at *
  generalize left - (m.L.length : Int) - szs m.L = q1 at *
  go_enter Try.func9, Try.ntmps9
  go_wp2_with fail
  have kb := ba1 w (.cells #[.slice m.A m.L.length m.c, .slice m.B m.T.length m.d] 25)
  have P_a := heap_alloc_new w (.cells #[.slice m.A m.L.length m.c, .slice m.B m.T.length m.d] 25)
  generalize w.alloc (.cells #[.slice m.A m.L.length m.c, .slice m.B m.T.length m.d] 25) = W1 at kb P_a ⊢
  refine (SP.out _ kb).mono ?_
  rintro e W2 ⟨rfl, hb⟩
  replace P_a := rblk_below P_a hb
  replace kb := bt kb hb
  clear hb
  have c1 : W2.cell? ⟨w.heap.size, 1, none⟩ = some (.slice m.B m.T.length m.d) := rblk_cell P_a 1
  go_wp2_with fail
  refine (ST.out _).mono ?_
  rintro e W3 ⟨rfl, hb⟩
  replace kb := bt kb hb
  clear hb
  go_wp2
  go_ret
  exact ⟨rfl, kb⟩
theorem szMesh_n (m : MV) (left : Int) (w : World) (hL : LenM m) (h0 : 0 ≤ left) (h1 : left ≤ 1048576) (h : ¬ szm m ≤ left) (hA : RdS w m.A (flat m.L)) :
    Calls Try.prog 9 #[.agg #[.slice m.A m.L.length m.c, .slice m.B m.T.length m.d], .int .i64 left] w (fun e w' => e = .returned (.int .i64 (-1)) ∧ Below w.heap.size w w') := by
  have h2 := szs_pos m.L
  obtain ⟨l1, l2, l3⟩ := hL
  unfold szm at h
  by_cases hp : (m.L.length : Int) + szs m.L ≤ left
  · have SP : Hid (∀ W, Below w.heap.size w W → Calls Try.prog 20 #[.slice m.A m.L.length m.c, .int .i64 left] W (fun e w' => e = .returned (.int .i64 (left - (m.L.length : Int) - szs m.L)) ∧ Below W.heap.size W w')) := Lib.hid (fun W hb => szPS_y m.L m.A m.c left W h0 h1 hp (hA.below hb))
    have ST : Hid (∀ W, Calls Try.prog 21 #[.slice m.B m.T.length m.d, .int .i64 (left - (m.L.length : Int) - szs m.L)] W (fun e w' => e = .returned (.int .i64 (-1)) ∧ Below W.heap.size W w')) := Lib.hid (fun W => szTriS_n m.T.length m.B m.d _ W l2 (by omega) (by omega) (by omega))
    have g3 : ¬ left - (m.L.length : Int) - szs m.L < 0 := by omega
    clear h h2 hA hp l1 l2 l3
    generalize left - (m.L.length : Int) - szs m.L = q1 at *
    go_enter Try.func9, Try.ntmps9
    go_wp2_with fail
    have kb := ba1 w (.cells #[.slice m.A m.L.length m.c, .slice m.B m.T.length m.d] 25)
    have P_a := heap_alloc_new w (.cells #[.slice m.A m.L.length m.c, .slice m.B m.T.length m.d] 25)
    generalize w.alloc (.cells #[.slice m.A m.L.length m.c, .slice m.B m.T.length m.d] 25) = W1 at kb P_a ⊢
    refine (SP.out _ kb).mono ?_
    rintro e W2 ⟨rfl, hb⟩
    replace P_a := rblk_below P_a hb
    replace kb := bt kb hb
    clear hb
    have c1 : W2.cell? ⟨w.heap.size, 1, none⟩ = some (.slice m.B m.T.length m.d) := rblk_cell P_a 1
    go_wp2_with fail
    refine (ST.out _).mono ?_
    rintro e W3 ⟨rfl, hb⟩
    replace kb := bt kb hb
    clear hb
    go_wp2
    go_ret
    exact ⟨rfl, kb⟩
  · have SP : Hid (∀ W, Below w.heap.size w W → Calls Try.prog 20 #[.slice m.A m.L.length m.c, .int .i64 left] W (fun e w' => e = .returned (.int .i64 (-1)) ∧ Below W.heap.size W w')) := Lib.hid (fun W hb => szPS_n m.L m.A m.c left W l1 l3 h0 h1 hp (hA.below hb))
    clear h h2 hA hp l1 l2 l3
    go_enter Try.func9, Try.ntmps9
    go_wp2_with fail
    have kb := ba1 w (.cells #[.slice m.A m.L.length m.c, .slice m.B m.T.length m.d] 25)
    generalize w.alloc (.cells #[.slice m.A m.L.length m.c, .slice m.B m.T.length m.d] 25) = W1 at kb ⊢
    refine (SP.out _ kb).mono ?_
    rintro e W2 ⟨rfl, hb⟩
    replace kb := bt kb hb
    clear hb
    go_wp2
    go_ret
    exact ⟨rfl, kb⟩
end Go.Proofs.Ytoknolholccamaa
