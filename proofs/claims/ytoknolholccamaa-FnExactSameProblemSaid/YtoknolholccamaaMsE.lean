/-
  Equal meshes, by the harness.
-/
import Derived.Test.YtoknolholccamaaMs
import Derived.Test.YtoknolholccamaaSlE
namespace Go.Proofs.Ytoknolholccamaa
open Go.ChangeShapes Go.WideShapes Go.ChangeAt Go.RowKit
open Go.ChangeMaps (open_string shut_string)
set_option linter.unusedVariables false
set_option linter.unusedSimpArgs false
set_option maxRecDepth 4000

set_option maxHeartbeats 1000000 in
theorem eqTri_t (t : TV) (w : World) : Calls Try.prog 44 #[.agg #[.int .i64 t.a, .int .i64 t.b, .int .i64 t.c, .int .i64 t.r, .int .i64 t.l], .agg #[.int .i64 t.a, .int .i64 t.b, .int .i64 t.c, .int .i64 t.r, .int .i64 t.l]] w (fun e w' => e = .returned (.bool true) ∧ Below w.heap.size w w') := by
  have h1 : (t.a != t.a) = false := by simp
  have h2 : (t.b != t.b) = false := by simp
  have h3 : (t.c != t.c) = false := by simp
  have h4 : (t.r != t.r) = false := by simp
  have h5 : (t.l != t.l) = false := by simp
  go_enter Try.func44, Try.ntmps44
  go_wp2
  go_ret
  exact ⟨rfl, ba2 _ _ _⟩
set_option maxHeartbeats 1000000 in
theorem eqTriS_t (T : List TV) (A A' : Option Addr) (c c' : Nat) (w : World) (hn' : T.length ≤ 1048576) (hA : RdS w A (flatT T)) (hA' : RdS w A' (flatT T)) :
    Calls Try.prog 33 #[.slice A T.length c, .slice A' T.length c'] w (fun e w' => e = .returned (.bool true) ∧ Below w.heap.size w w') := by
  obtain ⟨n, hn⟩ : ∃ n, n = T.length := ⟨_, rfl⟩
  rw [← hn] at hn' ⊢
  have HN := Lib.hid hn
  clear hn
  go_enter Try.func33, Try.ntmps33
  go_wp2
  go_loopw [5] (fun i w' => ∃ k : Nat, k ≤ n ∧ i = .int .i64 (k : Int) ∧ Below w.heap.size w w') (fun i _ => n - (intOf i).toNat)
  case atStart => exact ⟨0, Nat.zero_le _, rfl, Below.refl _ _⟩
  case round =>
    obtain ⟨k, hk, rfl, hb⟩ := hrel
    by_cases hlt : k < n
    · obtain ⟨p, hp⟩ := getT (show k < T.length by rw [← HN.out]; exact hlt)
      obtain ⟨g, o, rfl, hg, c0, c1, c2, c3, c4⟩ := (hA.below hb).five hp
      obtain ⟨g', o', rfl, hg', d0, d1, d2, d3, d4⟩ := (hA'.below hb).five hp
      have EQ := Lib.hid (fun W => eqTri_t p W)
      have hi0 : (0 : Int) ≤ (k : Int) := by omega
      have hi1 : (k : Int) < (n : Int) := by omega
      have SB : Hid (∀ w', Below wr.heap.size wr w' → (w'.cell? ⟨g, o + k * 5, none⟩ = some (.int .i64 p.a) ∧ w'.cell? ⟨g, o + k * 5 + 1, none⟩ = some (.int .i64 p.b) ∧ w'.cell? ⟨g, o + k * 5 + 2, none⟩ = some (.int .i64 p.c) ∧ w'.cell? ⟨g, o + k * 5 + 3, none⟩ = some (.int .i64 p.r) ∧ w'.cell? ⟨g, o + k * 5 + 4, none⟩ = some (.int .i64 p.l) ∧ w'.cell? ⟨g', o' + k * 5, none⟩ = some (.int .i64 p.a) ∧ w'.cell? ⟨g', o' + k * 5 + 1, none⟩ = some (.int .i64 p.b) ∧ w'.cell? ⟨g', o' + k * 5 + 2, none⟩ = some (.int .i64 p.c) ∧ w'.cell? ⟨g', o' + k * 5 + 3, none⟩ = some (.int .i64 p.r) ∧ w'.cell? ⟨g', o' + k * 5 + 4, none⟩ = some (.int .i64 p.l) ∧ Below wr.heap.size wr w')) := Lib.hid (fun w' hB => ⟨(below_cell hB c0), (below_cell hB c1), (below_cell hB c2), (below_cell hB c3), (below_cell hB c4), (below_cell hB d0), (below_cell hB d1), (below_cell hB d2), (below_cell hB d3), (below_cell hB d4), hB⟩)
      have HB := Lib.hid hb
      clear hp hb c0 c1 c2 c3 c4 d0 d1 d2 d3 d4
      go_wp2_with fail
      go_region_held3 (fun w' => w'.cell? ⟨g, o + k * 5, none⟩ = some (.int .i64 p.a) ∧ w'.cell? ⟨g, o + k * 5 + 1, none⟩ = some (.int .i64 p.b) ∧ w'.cell? ⟨g, o + k * 5 + 2, none⟩ = some (.int .i64 p.c) ∧ w'.cell? ⟨g, o + k * 5 + 3, none⟩ = some (.int .i64 p.r) ∧ w'.cell? ⟨g, o + k * 5 + 4, none⟩ = some (.int .i64 p.l) ∧ w'.cell? ⟨g', o' + k * 5, none⟩ = some (.int .i64 p.a) ∧ w'.cell? ⟨g', o' + k * 5 + 1, none⟩ = some (.int .i64 p.b) ∧ w'.cell? ⟨g', o' + k * 5 + 2, none⟩ = some (.int .i64 p.c) ∧ w'.cell? ⟨g', o' + k * 5 + 3, none⟩ = some (.int .i64 p.r) ∧ w'.cell? ⟨g', o' + k * 5 + 4, none⟩ = some (.int .i64 p.l) ∧ Below wr.heap.size wr w')
        (first | (with_reducible exact SB.out _ (Below.refl _ _)) | (with_reducible exact SB.out _ (Below.refl _ _).drew) | (go_split_ands; with_reducible exact SB.out _ (bt (by assumption : Below wr.heap.size wr _) hb)))
        (first | (go_at_call 44; go_split_ands; ((with_reducible refine (EQ.out _).mono ?_); rintro e w2 ⟨rfl, hb⟩; skip)))
      all_goals
        have hfin := (‹_ ∧ _ ∧ _ ∧ _ ∧ _ ∧ _ ∧ _ ∧ _ ∧ _ ∧ _ ∧ Below wr.heap.size wr _›).2.2.2.2.2.2.2.2.2.2
        go_wp2
        go_roundw
        case rel => exact ⟨k + 1, by omega, by go_num, bt HB.out hfin⟩
        case measure => simp [intOf]; omega
    · obtain rfl : k = n := by omega
      go_wp2
      go_ret
      exact ⟨rfl, hb⟩
set_option maxHeartbeats 1000000 in
theorem eqMesh_t (m n k : MV) (w : World) (hm : ShortM m) (hd : datM n = datM m) (hd' : datM k = datM m) (hA : Rds w (srow n.A n.L)) (hB : Rds w [(n.B, flatT n.T)]) (hA' : Rds w (srow k.A k.L)) (hB' : Rds w [(k.B, flatT k.T)]) :
    Calls Try.prog 18 #[.agg #[.slice n.A n.L.length n.c, .slice n.B n.T.length n.d], .agg #[.slice k.A k.L.length k.c, .slice k.B k.T.length k.d]] w (fun e w' => e = .returned (.bool true) ∧ Below w.heap.size w w') := by
  have EP : Hid (∀ W, Below w.heap.size w W → Calls Try.prog 32 #[.slice n.A n.L.length n.c, .slice k.A k.L.length k.c] W (fun e w' => e = .returned (.bool true) ∧ Below W.heap.size W w')) := Lib.hid (fun W hb => eqPS_t m.L n.L k.L n.A k.A n.c k.c W hm.1 hm.2.2 (datM_dat hd) (datM_dat hd') (hA.below hb) (hA'.below hb))
  have ET : Hid (∀ W, Below w.heap.size w W → Calls Try.prog 33 #[.slice n.B n.T.length n.d, .slice k.B k.T.length k.d] W (fun e w' => e = .returned (.bool true) ∧ Below W.heap.size W w')) := Lib.hid (fun W hb => by
    have e : k.T = n.T := by rw [(datM_len hd').2, (datM_len hd).2]
    have h2 := hB'.hd
    rw [e] at h2 ⊢
    exact eqTriS_t n.T n.B k.B n.d k.d W (by rw [(datM_len hd).2]; exact hm.2.1) (hB.hd.below hb) (h2.below hb))
  clear hA hB hA' hB' hd hd' hm
  go_enter Try.func18, Try.ntmps18
  go_wp2_with fail
  have kb := ba2 w (.cells #[.slice n.A n.L.length n.c, .slice n.B n.T.length n.d] 34) (.cells #[.slice k.A k.L.length k.c, .slice k.B k.T.length k.d] 34)
  obtain ⟨P_a, P_b⟩ := blocks2 w (.cells #[.slice n.A n.L.length n.c, .slice n.B n.T.length n.d] 34) (.cells #[.slice k.A k.L.length k.c, .slice k.B k.T.length k.d] 34)
  generalize (w.alloc (.cells #[.slice n.A n.L.length n.c, .slice n.B n.T.length n.d] 34)).alloc (.cells #[.slice k.A k.L.length k.c, .slice k.B k.T.length k.d] 34) = W1 at kb P_a P_b ⊢
  refine (EP.out _ kb).mono ?_
  rintro e W2 ⟨rfl, hb⟩
  replace P_a := rblk_below P_a hb
  replace P_b := rblk_below P_b hb
  replace kb := bt kb hb
  clear hb
  have c_a0 : W2.cell? ⟨w.heap.size, 0, none⟩ = some (.slice n.A n.L.length n.c) := rblk_cell P_a 0
  have c_a1 : W2.cell? ⟨w.heap.size, 1, none⟩ = some (.slice n.B n.T.length n.d) := rblk_cell P_a 1
  have c_b0 : W2.cell? ⟨w.heap.size + 1, 0, none⟩ = some (.slice k.A k.L.length k.c) := rblk_cell P_b 0
  have c_b1 : W2.cell? ⟨w.heap.size + 1, 1, none⟩ = some (.slice k.B k.T.length k.d) := rblk_cell P_b 1
  go_wp2_with fail
  clear c_a0 c_a1 c_b0 c_b1
  refine (ET.out _ kb).mono ?_
  rintro e W3 ⟨rfl, hb⟩
  replace P_a := rblk_below P_a hb
  replace P_b := rblk_below P_b hb
  replace kb := bt kb hb
  clear hb
  go_wp2
  go_ret
  exact ⟨rfl, kb⟩
end Go.Proofs.Ytoknolholccamaa
