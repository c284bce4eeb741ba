/-
  Meshes whose rows lie one among the other; marks in them, and found again.
-/
import Derived.Test.YtjcbaiphkchehaaMsM
import Derived.Test.YtjcbaiphkchehaaSlQ
import Derived.Test.YtjcbaiphkchehaaSlN
namespace Go.Proofs.Ytjcbaiphkchehaa
open Go.ChangeShapes Go.WideShapes Go.ChangeAt Go.RowKit
open Go.ChangeMaps (open_string shut_string)
set_option linter.unusedVariables false
set_option linter.unusedSimpArgs false
set_option maxRecDepth 4000

/-- A mesh in rows of the call's own, wherever they lie, with m's data. -/
def MadeMi (B : Nat) (m : MV) (w : World) (e : Ending) (w' : World) : Prop :=
  ∃ n : MV, e = .returned (.agg #[.slice n.A n.L.length n.c, .slice n.B n.T.length n.d]) ∧ datM n = datM m ∧ Owns B w'.heap.size w' (srow n.A n.L ++ [(n.B, flatT n.T)]) ∧ Aparts (srow n.A n.L ++ [(n.B, flatT n.T)]) ∧ Below w.heap.size w w'
theorem mksT_at {k : Int} {L : List TV} {j : Nat} (hj : j < L.length) : (mksT k L.length L)[j]? = some (mkT (k + 5 * (j : Int))) := by
  unfold mksT
  rw [List.getElem?_append_left (by simpa using hj)]
  simp [hj]
set_option maxHeartbeats 2000000 in
theorem heldTriS_r (L : List TV) (A : Option Addr) (c : Nat) (k : Int) (w : World) (hk : 0 < k) (hk2 : k ≤ 4194304) (hg : L.length ≤ 1048576) (h : RdS w A (flatT (mksT k L.length L))) :
    Calls Try.prog 23 #[.slice A L.length c, .int .i64 k] w (fun e w' => e = .returned (.int .i64 (k + 5 * (L.length : Int))) ∧ Below w.heap.size w w') := by
  obtain ⟨n, hn⟩ : ∃ n, n = L.length := ⟨_, rfl⟩
  rw [← hn] at hg ⊢
  have HN := Lib.hid hn
  clear hn
  go_enter Try.func23, Try.ntmps23
  go_wp2
  go_loopw [1, 5] (fun q i w' => ∃ (j : Nat) (q' : Int), j ≤ n ∧ i = .int .i64 (j : Int) ∧ q = .int .i64 q' ∧ q' = k + 5 * (j : Int) ∧ Below w.heap.size w w') (fun _ i _ => n - (intOf i).toNat)
  case atStart => exact ⟨0, k, Nat.zero_le _, rfl, rfl, by omega, Below.refl _ _⟩
  case round =>
    obtain ⟨j, q, hj, rfl, rfl, hq, hb⟩ := hrel
    by_cases hlt : j < n
    · have hjl : j < L.length := by rw [← HN.out]; exact hlt
      have hget := mksT_at (k := k) hjl
      rw [← hq] at hget
      obtain ⟨g, o, rfl, hgs, c0, c1, c2, c3, c4⟩ := (h.below hb).five hget
      have d0 : wr.cell? ⟨g, o + j * 5, none⟩ = some (.int .i64 q) := c0
      have d1 : wr.cell? ⟨g, o + j * 5 + 1, none⟩ = some (.int .i64 (q + 1)) := c1
      have d2 : wr.cell? ⟨g, o + j * 5 + 2, none⟩ = some (.int .i64 (q + 1 + 1)) := c2
      have d3 : wr.cell? ⟨g, o + j * 5 + 3, none⟩ = some (.int .i64 (q + 1 + 1 + 1)) := c3
      have d4 : wr.cell? ⟨g, o + j * 5 + 4, none⟩ = some (.int .i64 (q + 1 + 1 + 1 + 1)) := c4
      have hq0 : 0 < q := by omega
      have hq1 : q ≤ 16777216 := by omega
      have HQ := Lib.hid hq
      have hi0 : (0 : Int) ≤ (j : Int) := by omega
      have hi1 : (j : Int) < (n : Int) := by omega
      have HB := Lib.hid hb
      clear c0 c1 c2 c3 c4 hget hjl hq hb
      go_wp2
      go_roundw
      case rel => exact ⟨j + 1, _, hlt, by go_num, rfl, by have := HQ.out; omega, HB.out⟩
      case measure => simp [intOf]; omega
    · obtain rfl : j = n := by omega
      have HF := Lib.hid hq
      clear hq
      go_wp2
      go_ret
      exact ⟨by rw [HF.out]; rfl, hb⟩
theorem mksT_dat {k : Int} {n : Nat} {L : List TV} (h : n = L.length) : (mksT k n L).length = L.length := by subst h; exact mksT_length _ _ _ (Nat.le_refl _)
theorem turn_refl (lo hi : Nat) (w : World) : Turn lo hi w w := ⟨rfl, rfl, rfl, Nat.le_refl _, fun _ _ _ => rfl⟩
theorem flatT_zero {T : List TV} (h : (flatT T).length = 0) : T = [] := by
  rw [flatT_length] at h
  exact List.eq_nil_of_length_eq_zero (by omega)
/-- The triangles' marks beside the points' rows. -/
theorem markTriS_q (R : List Row) (lo hi : Nat) (L : List TV) (A : Option Addr) (c : Nat) (k : Int) (w : World) (hk : 0 < k) (hk2 : k ≤ 4194304) (hg : L.length ≤ 1048576) (h : Owns lo hi w (R ++ [(A, flatT L)])) (ap : Aparts (R ++ [(A, flatT L)])) :
    Calls Try.prog 21 #[.slice A L.length c, .int .i64 k] w (fun e w' => e = .returned (.int .i64 (k + 5 * (L.length : Int))) ∧ Owns lo hi w' (R ++ [(A, flatT (mksT k L.length L))]) ∧ Turn lo hi w w') := by
  have hA : OwnS lo w A (flatT L) ∧ InR (flatT L).length A lo hi := h (A, flatT L) (by simp)
  have hl : (flatT (mksT k L.length L)).length = (flatT L).length := by rw [flatT_length, flatT_length, mksT_dat rfl]
  by_cases h0 : (flatT L).length = 0
  · have e := flatT_zero h0
    subst e
    refine (markTriS_r 0 0 [] A c k w hk hk2 hg (Owns.cons (.inl rfl) (fun g hg => by simp [rowOf, flatT] at hg) (Owns.nil _ _ _))).mono (fun e w' hm => ⟨hm.1, ?_, ?_⟩)
    · intro r hr
      rcases List.mem_append.1 hr with hr | hr
      · exact ⟨(h r (by simp [hr])).1.turn (h r (by simp [hr])).2 (hm.2.2.wide (Nat.le_refl _) (Nat.le_refl _)) (.inr (Nat.zero_le _)), (h r (by simp [hr])).2⟩
      · rw [List.mem_singleton] at hr
        subst hr
        exact ⟨.inl rfl, fun g hg => by simp [rowOf, flatT, mksT] at hg⟩
    · exact ⟨hm.2.2.1, hm.2.2.2.1, hm.2.2.2.2.1, hm.2.2.2.2.2.1, fun i hi _ => hm.2.2.block hi (.inr (Nat.zero_le _))⟩
  · obtain ⟨g, ha, hB, hs, hc, hf⟩ := hA.1.block (by omega)
    have ha' : A = some ⟨g, 0, none⟩ := ha
    subst ha'
    have hrg : rowOf (flatT L).length (some ⟨g, 0, none⟩) = some g := by unfold rowOf; rw [if_neg h0]; rfl
    have hr := hA.2 g hrg
    have own : Owns g (g + 1) w [(some ⟨g, 0, none⟩, flatT L)] := Owns.cons (.inr ⟨g, rfl, Nat.le_refl _, hs, hc, hf⟩) (fun g' hg' => by rw [hrg] at hg'; injection hg' with hg'; omega) (Owns.nil _ _ _)
    refine (markTriS_r g (g + 1) L _ c k w hk hk2 hg own).mono (fun e w' hm => ⟨hm.1, ?_, hm.2.2.wide hr.1 (by omega)⟩)
    have p3 := (List.pairwise_append.1 ap).2.2
    intro r hr'
    rcases List.mem_append.1 hr' with e | e
    · have h1 := h r (by simp [e])
      have hap := p3 r e (some ⟨g, 0, none⟩, flatT L) (by simp)
      refine ⟨?_, h1.2⟩
      by_cases z : r.2.length = 0
      · exact .inl (List.eq_nil_of_length_eq_zero z)
      · obtain ⟨g', ha', hB', hs', hc', hf'⟩ := h1.1.block (by omega)
        have hne : g' ≠ g := fun q => by
          subst q
          exact hap g' (by unfold rowOf; rw [if_neg z, ha']; rfl) hrg
        have hkk : w'.heap[g']? = w.heap[g']? := hm.2.2.block hs' (by omega)
        refine .inr ⟨g', ha', hB', Nat.lt_of_lt_of_le hs' hm.2.2.size, fun j hj => ?_, fun j hj => ?_⟩
        · rw [World.cell?_of_block (w := w) (a := ⟨g', j, none⟩) hkk]; exact hc' j hj
        · rw [World.frozen?_of_block (w := w) (a := ⟨g', j, none⟩) hkk]; exact hf' j hj
    · rw [List.mem_singleton] at e
      subst e
      refine ⟨(hm.2.1.hd).more hr.1, ?_⟩
      show InR (flatT (mksT k L.length L)).length _ lo hi
      rw [hl]; exact hA.2
set_option maxHeartbeats 1000000 in
theorem markMesh_q (lo hi : Nat) (n : MV) (w : World) (hg : (n.L.length : Int) + szs n.L ≤ 1048576) (ht : n.T.length ≤ 1048576) (hh : hi ≤ w.heap.size) (o : Owns lo hi w (srow n.A n.L ++ [(n.B, flatT n.T)])) (ap : Aparts (srow n.A n.L ++ [(n.B, flatT n.T)])) :
    Calls Try.prog 8 #[.agg #[.slice n.A n.L.length n.c, .slice n.B n.T.length n.d], .int .i64 1] w (fun e w' => e = .returned (.int .i64 (nxs 1 n.L + 5 * (n.T.length : Int))) ∧ Owns lo hi w' (srow n.A (mks 1 n.L) ++ [(n.B, flatT (mksT (nxs 1 n.L) n.T.length n.T))]) ∧ Turn lo hi w w') := by
  have hsz := szs_pos n.L
  have hx := nxs_eq 1 n.L
  have MP : Hid (∀ W, Below w.heap.size w W → Calls Try.prog 20 #[.slice n.A n.L.length n.c, .int .i64 1] W (fun e w' => e = .returned (.int .i64 (nxs 1 n.L)) ∧ Owns lo hi w' (srow n.A (mks 1 n.L) ++ [(n.B, flatT n.T)]) ∧ Aparts (srow n.A (mks 1 n.L) ++ [(n.B, flatT n.T)]) ∧ Turn lo hi W w')) := Lib.hid (fun W hb => markPS_q [(n.B, flatT n.T)] lo hi n.L n.A n.c 1 W (by omega) (by omega) hg (by have := hb.size; omega) (o.below hb) ap)
  have MT : Hid (∀ W, Owns lo hi W (srow n.A (mks 1 n.L) ++ [(n.B, flatT n.T)]) → Aparts (srow n.A (mks 1 n.L) ++ [(n.B, flatT n.T)]) → Calls Try.prog 21 #[.slice n.B n.T.length n.d, .int .i64 (nxs 1 n.L)] W (fun e w' => e = .returned (.int .i64 (nxs 1 n.L + 5 * (n.T.length : Int))) ∧ Owns lo hi w' (srow n.A (mks 1 n.L) ++ [(n.B, flatT (mksT (nxs 1 n.L) n.T.length n.T))]) ∧ Turn lo hi W w')) := Lib.hid (fun W h1 h2 => markTriS_q _ lo hi n.T n.B n.d _ W (by omega) (by omega) ht h1 h2)
  generalize flatT (mksT (nxs 1 n.L) n.T.length n.T) = FT at *
  clear hsz hx o ap hg ht
  generalize nxs 1 n.L + 5 * (n.T.length : Int) = q2 at *
  generalize nxs 1 n.L = q1 at *
  go_enter Try.func8, Try.ntmps8
  go_wp2_with fail
  have kb := ba1 w (.cells #[.slice n.A n.L.length n.c, .slice n.B n.T.length n.d] 25)
  have P_a := heap_alloc_new w (.cells #[.slice n.A n.L.length n.c, .slice n.B n.T.length n.d] 25)
  generalize w.alloc (.cells #[.slice n.A n.L.length n.c, .slice n.B n.T.length n.d] 25) = W1 at kb P_a ⊢
  refine (MP.out _ kb).mono ?_
  rintro e W2 ⟨rfl, hO, hP, hT⟩
  have c1 : W2.cell? ⟨w.heap.size, 1, none⟩ = some (.slice n.B n.T.length n.d) := rblk_cell (hT.blk P_a (.inr (by omega))) 1
  have HO := Lib.hid (And.intro hO hP)
  clear hO hP
  go_wp2_with fail
  refine (MT.out _ HO.out.1 HO.out.2).mono ?_
  rintro e W3 ⟨rfl, hO, hT'⟩
  have HF : Hid (Owns lo hi W3 (srow n.A (mks 1 n.L) ++ [(n.B, FT)]) ∧ Turn lo hi w W3) := Lib.hid ⟨hO, (Turn.of_below kb).trans (hT.trans hT')⟩
  clear c1 hT hT' kb P_a hO HO
  go_wp2
  go_ret
  exact ⟨rfl, HF.out⟩
set_option maxHeartbeats 1000000 in
theorem heldMesh_q (n : MV) (w : World) (hg : (n.L.length : Int) + szs n.L ≤ 1048576) (ht : n.T.length ≤ 1048576) (h : Rds w (srow n.A (mks 1 n.L) ++ [(n.B, flatT (mksT (nxs 1 n.L) n.T.length n.T))])) :
    Calls Try.prog 9 #[.agg #[.slice n.A n.L.length n.c, .slice n.B n.T.length n.d], .int .i64 1] w (fun e w' => e = .returned (.int .i64 (nxs 1 n.L + 5 * (n.T.length : Int))) ∧ Below w.heap.size w w') := by
  have hsz := szs_pos n.L
  have hx := nxs_eq 1 n.L
  have MP : Hid (∀ W, Below w.heap.size w W → Calls Try.prog 22 #[.slice n.A n.L.length n.c, .int .i64 1] W (fun e w' => e = .returned (.int .i64 (nxs 1 n.L)) ∧ Below W.heap.size W w')) := Lib.hid (fun W hb => heldPS_r n.L n.A n.c 1 W (by omega) (by omega) hg ((rds_l h).below hb))
  have MT : Hid (∀ W, Below w.heap.size w W → Calls Try.prog 23 #[.slice n.B n.T.length n.d, .int .i64 (nxs 1 n.L)] W (fun e w' => e = .returned (.int .i64 (nxs 1 n.L + 5 * (n.T.length : Int))) ∧ Below W.heap.size W w')) := Lib.hid (fun W hb => heldTriS_r n.T n.B n.d _ W (by omega) (by omega) ht ((rds_r h).hd.below hb))
  have g1 : ¬ nxs 1 n.L < 0 := by omega
  have g2 : ¬ nxs 1 n.L + 5 * (n.T.length : Int) < 0 := by omega
  clear hsz hx h hg ht
  generalize nxs 1 n.L + 5 * (n.T.length : Int) = q2 at *
  generalize nxs 1 n.L = q1 at *
  go_enter Try.func9, Try.ntmps9
  go_wp2_with fail
  have kb := ba1 w (.cells #[.slice n.A n.L.length n.c, .slice n.B n.T.length n.d] 25)
  have P_a := heap_alloc_new w (.cells #[.slice n.A n.L.length n.c, .slice n.B n.T.length n.d] 25)
  generalize w.alloc (.cells #[.slice n.A n.L.length n.c, .slice n.B n.T.length n.d] 25) = W1 at kb P_a ⊢
  refine (MP.out _ kb).mono ?_
  rintro e W2 ⟨rfl, hb⟩
  replace P_a := rblk_below P_a hb
  replace kb := bt kb hb
  clear hb
  have c1 : W2.cell? ⟨w.heap.size, 1, none⟩ = some (.slice n.B n.T.length n.d) := rblk_cell P_a 1
  go_wp2_with fail
  refine (MT.out _ kb).mono ?_
  rintro e W3 ⟨rfl, hb⟩
  replace kb := bt kb hb
  clear hb c1
  go_wp2
  go_ret
  exact ⟨rfl, kb⟩
end Go.Proofs.Ytjcbaiphkchehaa
