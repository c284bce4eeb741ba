/-
  Marks in meshes, by the harness.
-/
import Derived.Test.YtjcbaiphkchehaaMs
import Derived.Test.YtjcbaiphkchehaaSlM
namespace Go.Proofs.Ytjcbaiphkchehaa
open Go.ChangeShapes Go.WideShapes Go.ChangeAt Go.RowKit
open Go.ChangeMaps (open_string shut_string)
set_option linter.unusedVariables false
set_option linter.unusedSimpArgs false
set_option maxRecDepth 4000

/-- The marks of a triangle. -/
def mkT (k : Int) : TV := ⟨k, k + 1, k + 1 + 1, k + 1 + 1 + 1, k + 1 + 1 + 1 + 1⟩
theorem flatT_five {L : List TV} {i : Nat} {p : TV} (h : L[i]? = some p) (q : TV) :
    (((((flatT L).set (i * 5) (.int .i64 q.a)).set (i * 5 + 1) (.int .i64 q.b)).set (i * 5 + 2) (.int .i64 q.c)).set (i * 5 + 3) (.int .i64 q.r)).set (i * 5 + 4) (.int .i64 q.l) = flatT (L.set i q) := by
  have hl := lt_of_getT h
  have hlen : (flatT (L.take i)).length = i * 5 := by rw [flatT_length, List.length_take, Nat.min_eq_left (by omega)]
  have hq : (L.set i q)[i]? = some q := List.getElem?_set_self hl
  have hk : ∀ (l M R : List Value) (k : Nat) (v : Value), l.length = i * 5 → k < M.length → (l ++ (M ++ R)).set (i * 5 + k) v = l ++ (M.set k v ++ R) := fun l M R k v hl hk => by
    rw [List.set_append_right _ _ (by omega), hl, Nat.add_sub_cancel_left, List.set_append_left _ _ hk]
  rw [flatT_split h, flatT_split hq]
  have e1 : (L.set i q).take i = L.take i := List.take_set_of_le (Nat.le_refl _)
  have e2 : (L.set i q).drop (i + 1) = L.drop (i + 1) := List.drop_set_of_lt (Nat.lt_succ_self _)
  rw [e1, e2]
  rw [show (i * 5) = i * 5 + 0 from rfl, hk _ _ _ 0 _ hlen (by rw [tcl_length]; omega), show i * 5 + 0 + 1 = i * 5 + 1 from rfl, hk _ _ _ 1 _ hlen (by simp [tcl_length]), show i * 5 + 0 + 2 = i * 5 + 2 from rfl, hk _ _ _ 2 _ hlen (by simp [tcl_length]), show i * 5 + 0 + 3 = i * 5 + 3 from rfl, hk _ _ _ 3 _ hlen (by simp [tcl_length]), show i * 5 + 0 + 4 = i * 5 + 4 from rfl, hk _ _ _ 4 _ hlen (by simp [tcl_length])]
  rfl
theorem turn_put {lo hi g i : Nat} {w w' : World} (h : Turn lo hi w w') (h1 : lo ≤ g) (h2 : g < hi) (v : Value) : Turn lo hi w (w'.setCell ⟨g, i, none⟩ v) :=
  h.trans ⟨rfl, rfl, rfl, by simp [World.setCell], fun k hk hd => by simp only [World.setCell]; rw [Array.getElem?_modify, if_neg (by omega)]⟩
/-- The triangle's marks, laid into the list at j. -/
def mksT (k : Int) (j : Nat) (L : List TV) : List TV := (List.range j).map (fun i : Nat => mkT (k + 5 * (i : Int))) ++ L.drop j
theorem mksT_length (k : Int) (j : Nat) (L : List TV) (hj : j ≤ L.length) : (mksT k j L).length = L.length := by simp [mksT]; omega
theorem mksT_get {k : Int} {j : Nat} {L : List TV} (hj : j < L.length) : (mksT k j L)[j]? = some L[j] := by
  unfold mksT
  rw [List.getElem?_append_right (by simp)]
  simp
theorem mksT_set {k : Int} {j : Nat} {L : List TV} (hj : j < L.length) : (mksT k j L).set j (mkT (k + 5 * (j : Int))) = mksT k (j + 1) L := by
  unfold mksT
  rw [List.drop_eq_getElem_cons hj, List.range_succ, List.map_append, List.set_append_right _ _ (by simp), List.append_assoc]
  simp only [List.length_map, List.length_range, Nat.sub_self]
  rfl
set_option maxHeartbeats 2000000 in
theorem markTriS_r (lo hi : Nat) (L : List TV) (A : Option Addr) (c : Nat) (k : Int) (w : World) (hk : 0 < k) (hk2 : k ≤ 4194304) (hg : L.length ≤ 1048576) (h : Owns lo hi w [(A, flatT L)]) :
    Calls Try.prog 21 #[.slice A L.length c, .int .i64 k] w (fun e w' => e = .returned (.int .i64 (k + 5 * (L.length : Int))) ∧ Owns lo hi w' [(A, flatT (mksT k L.length L))] ∧ Turn lo hi w w') := by
  obtain ⟨n, hn⟩ : ∃ n, n = L.length := ⟨_, rfl⟩
  rw [← hn] at hg ⊢
  have HN := Lib.hid hn
  clear hn
  go_enter Try.func21, Try.ntmps21
  go_wp2
  go_loopw [1, 5] (fun q i w' => ∃ (j : Nat) (q' : Int), j ≤ n ∧ i = .int .i64 (j : Int) ∧ q = .int .i64 q' ∧ q' = k + 5 * (j : Int) ∧ Owns lo hi w' [(A, flatT (mksT k j L))] ∧ Turn lo hi w w') (fun _ i _ => n - (intOf i).toNat)
  case atStart => exact ⟨0, k, Nat.zero_le _, rfl, rfl, by omega, by simpa [mksT] using h, ⟨rfl, rfl, rfl, Nat.le_refl _, fun _ _ _ => rfl⟩⟩
  case round =>
    obtain ⟨j, q, hj, rfl, rfl, hq, hO, hT⟩ := hrel
    clear h
    by_cases hlt : j < n
    · have hjl : j < L.length := by rw [← HN.out]; exact hlt
      obtain ⟨p, hM⟩ : ∃ p, (mksT k j L)[j]? = some p := ⟨_, mksT_get (k := k) hjl⟩
      have hFl : (flatT (mksT k j L)).length = n * 5 := by rw [flatT_length, mksT_length _ _ _ (by omega), HN.out]
      have hF := fun m (hm : m < 5) => flatT_get hM m hm
      have hq0 : 0 < q := by omega
      have hq1 : q ≤ 16777216 := by omega
      have HF : Hid ((((((flatT (mksT k j L)).set (j * 5) (.int .i64 q)).set (j * 5 + 1) (.int .i64 (q + 1))).set (j * 5 + 2) (.int .i64 (q + 1 + 1))).set (j * 5 + 3) (.int .i64 (q + 1 + 1 + 1))).set (j * 5 + 4) (.int .i64 (q + 1 + 1 + 1 + 1)) = flatT (mksT k (j + 1) L)) := Lib.hid (by
        rw [← mksT_set hjl, ← hq]; exact flatT_five hM (mkT q))
      generalize flatT (mksT k j L) = F at *
      have o0 := hO.hd
      obtain ⟨g, rfl⟩ := o0.addr (by rw [hFl]; omega)
      obtain ⟨c0, f0⟩ := o0.cellv (j := j * 5) (hF 0 (by omega))
      obtain ⟨c1, f1⟩ := o0.cellv (j := j * 5 + 1) (hF 1 (by omega))
      obtain ⟨c2, f2⟩ := o0.cellv (j := j * 5 + 2) (hF 2 (by omega))
      obtain ⟨c3, f3⟩ := o0.cellv (j := j * 5 + 3) (hF 3 (by omega))
      obtain ⟨c4, f4⟩ := o0.cellv (j := j * 5 + 4) (hF 4 (by omega))
      have s5 := ((((o0.set (j := j * 5) (by omega) (.int .i64 q)).set (j := j * 5 + 1) (by simp; omega) (.int .i64 (q + 1))).set (j := j * 5 + 2) (by simp; omega) (.int .i64 (q + 1 + 1))).set (j := j * 5 + 3) (by simp; omega) (.int .i64 (q + 1 + 1 + 1))).set (j := j * 5 + 4) (by simp; omega) (.int .i64 (q + 1 + 1 + 1 + 1))
      rw [HF.out] at s5
      have hgr : lo ≤ g ∧ g < hi := hO.hr g (by unfold rowOf; rw [if_neg (by rw [hFl]; omega)]; rfl)
      have hin : InR (flatT (mksT k (j + 1) L)).length (some ⟨g, 0, none⟩) lo hi := by rw [← HF.out]; simpa using hO.hr
      have HS := Lib.hid (And.intro s5 hin)
      have HT := Lib.hid (turn_put (i := j * 5 + 4) (turn_put (i := j * 5 + 3) (turn_put (i := j * 5 + 2) (turn_put (i := j * 5 + 1) (turn_put (i := j * 5) hT hgr.1 hgr.2 (.int .i64 q)) hgr.1 hgr.2 (.int .i64 (q + 1))) hgr.1 hgr.2 (.int .i64 (q + 1 + 1))) hgr.1 hgr.2 (.int .i64 (q + 1 + 1 + 1))) hgr.1 hgr.2 (.int .i64 (q + 1 + 1 + 1 + 1)))
      have HQ := Lib.hid hq
      have hi0 : (0 : Int) ≤ (j : Int) := by omega
      have hi1 : (j : Int) < (n : Int) := by omega
      clear hO hT o0 s5 hgr hin hF hM hFl hjl hq
      go_wp2
      go_roundw
      case rel => exact ⟨j + 1, _, hlt, by go_num, rfl, by have := HQ.out; omega, Owns.cons HS.out.1 HS.out.2 (Owns.nil _ _ _), HT.out⟩
      case measure => simp [intOf]; omega
    · obtain rfl : j = n := by omega
      have HF : Hid (q = k + 5 * (j : Int) ∧ Owns lo hi wr [(A, flatT (mksT k j L))] ∧ Turn lo hi w wr) := Lib.hid ⟨hq, hO, hT⟩
      clear hq hO hT
      go_wp2
      go_ret
      exact ⟨by rw [HF.out.1]; rfl, HF.out.2⟩
set_option maxHeartbeats 1000000 in
theorem markMesh_r (lo mid hi : Nat) (n : MV) (w : World) (hg : (n.L.length : Int) + szs n.L ≤ 1048576) (ht : n.T.length ≤ 1048576) (h1 : lo ≤ mid) (h2 : mid ≤ hi) (hh : hi ≤ w.heap.size) (oA : Owns lo mid w (srow n.A n.L)) (ap : Aparts (srow n.A n.L)) (oB : Owns mid hi w [(n.B, flatT n.T)]) :
    Calls Try.prog 8 #[.agg #[.slice n.A n.L.length n.c, .slice n.B n.T.length n.d], .int .i64 1] w (fun e w' => e = .returned (.int .i64 (nxs 1 n.L + 5 * (n.T.length : Int))) ∧ Turn lo hi w w') := by
  have hsz := szs_pos n.L
  have hx := nxs_eq 1 n.L
  have MP : Hid (∀ W, Below w.heap.size w W → Calls Try.prog 20 #[.slice n.A n.L.length n.c, .int .i64 1] W (fun e w' => e = .returned (.int .i64 (nxs 1 n.L)) ∧ Owns lo mid w' (srow n.A (mks 1 n.L)) ∧ Turn lo mid W w')) := Lib.hid (fun W hb => markPS_r lo mid n.L n.A n.c 1 W (by omega) (by omega) hg (by have := hb.size; omega) (oA.below hb) ap)
  have MT : Hid (∀ W W', Below w.heap.size w W → Turn lo mid W W' → Calls Try.prog 21 #[.slice n.B n.T.length n.d, .int .i64 (nxs 1 n.L)] W' (fun e w' => e = .returned (.int .i64 (nxs 1 n.L + 5 * (n.T.length : Int))) ∧ Owns mid hi w' [(n.B, flatT (mksT (nxs 1 n.L) n.T.length n.T))] ∧ Turn mid hi W' w')) := Lib.hid (fun W W' hb hT => markTriS_r mid hi n.T n.B n.d _ W' (by omega) (by omega) ht ((oB.below hb).turn hT (.inr (Nat.le_refl _))))
  clear hsz hx oA oB ap hg ht
  generalize nxs 1 n.L + 5 * (n.T.length : Int) = q2 at *
  generalize nxs 1 n.L = q1 at *
  go_enter Try.func8, Try.ntmps8
  go_wp2_with fail
  have kb := ba1 w (.cells #[.slice n.A n.L.length n.c, .slice n.B n.T.length n.d] 25)
  have P_a := heap_alloc_new w (.cells #[.slice n.A n.L.length n.c, .slice n.B n.T.length n.d] 25)
  generalize w.alloc (.cells #[.slice n.A n.L.length n.c, .slice n.B n.T.length n.d] 25) = W1 at kb P_a ⊢
  refine (MP.out _ kb).mono ?_
  rintro e W2 ⟨rfl, _, hT⟩
  have c1 : W2.cell? ⟨w.heap.size, 1, none⟩ = some (.slice n.B n.T.length n.d) := rblk_cell (hT.blk P_a (.inr (by omega))) 1
  go_wp2_with fail
  refine (MT.out _ _ kb hT).mono ?_
  rintro e W3 ⟨rfl, _, hT'⟩
  have HF : Hid (Turn lo hi w W3) := Lib.hid ((Turn.of_below kb).trans ((hT.wide (Nat.le_refl _) h2).trans (hT'.wide h1 (Nat.le_refl _))))
  clear c1 hT hT' kb P_a
  go_wp2
  go_ret
  exact ⟨rfl, HF.out⟩
end Go.Proofs.Ytjcbaiphkchehaa
