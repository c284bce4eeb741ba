/-
  Marks in lists of fractions, found again.
-/
import Derived.Test.YtennekieiioilaaGreatRlM
namespace Go.Proofs.YtennekieiioilaaGreat
open Go.ChangeShapes Go.WideShapes Go.ChangeAt Go.RowKit
open Go.ChangeMaps (open_string shut_string)
set_option linter.unusedVariables false
set_option linter.unusedSimpArgs false
set_option maxRecDepth 4000

theorem mkqs_get {k : Int} {L : List RV} {j : Nat} {p : RV} (hp : L[j]? = some p) : (mkqs k L)[j]? = some (mkQ (nxqs k (L.take j)) p) := by
  have hl := lt_of_getQ hp
  have h2 : L[j] = p := by rw [List.getElem?_eq_getElem hl] at hp; injection hp
  have e : L = L.take j ++ p :: L.drop (j + 1) := by
    have h1 := List.take_append_drop j L
    rw [List.drop_eq_getElem_cons hl, h2] at h1
    exact h1.symm
  have e2 : mkqs k L = mkqs k (L.take j) ++ mkQ (nxqs k (L.take j)) p :: mkqs (nxQ (nxqs k (L.take j)) p) (L.drop (j + 1)) := by
    conv => lhs; rw [e, mkqs_app]
    rfl
  rw [e2, List.getElem?_append_right (by rw [mkqs_length, List.length_take]; omega), mkqs_length, List.length_take, Nat.min_eq_left (by omega), Nat.sub_self]
  rfl
set_option maxHeartbeats 2000000 in
theorem heldRS_r (L : List RV) (A : Option Addr) (c : Nat) (k : Int) (w : World) (hk : 0 < k) (hk2 : k ≤ 16777216) (hg : (L.length : Int) + szqs L ≤ 1048576) (h : Rds w (srowQ A (mkqs k L))) :
    Calls Tryz.prog 21 #[.slice A L.length c, .int .i64 k] w (fun e w' => e = .returned (.int .i64 (nxqs k L)) ∧ Below w.heap.size w w') := by
  have hsp := szqs_pos L
  obtain ⟨n, hn⟩ : ∃ n, n = L.length := ⟨_, rfl⟩
  rw [← hn] at hg ⊢
  have HN := Lib.hid hn
  clear hn
  go_enter Tryz.func21, Tryz.ntmps21
  go_wp2
  go_loopw [1, 5] (fun q i w' => ∃ (j : Nat) (q' : Int), j ≤ n ∧ i = .int .i64 (j : Int) ∧ q = .int .i64 q' ∧ q' = nxqs k (L.take j) ∧ Below w.heap.size w w') (fun _ i _ => n - (intOf i).toNat)
  case atStart => exact ⟨0, k, Nat.zero_le _, rfl, rfl, rfl, Below.refl _ _⟩
  case round =>
    obtain ⟨j, q, hj, rfl, rfl, hq, hb⟩ := hrel
    by_cases hlt : j < n
    · obtain ⟨p, hp⟩ := getQ (show j < L.length by rw [← HN.out]; exact hlt)
      have hjl : j < L.length := lt_of_getQ hp
      obtain ⟨_, _, e3⟩ := mkqs_step (k := k) hp
      have hle := szqs_le L (j + 1)
      rw [szqs_take hp] at hle
      have hqe : q = k + (j : Int) + szqs (L.take j) := by rw [hq, nxqs_eq, List.length_take, Nat.min_eq_left (by omega)]
      have hp0 := szqs_pos (L.take j)
      have hszp : szq p = (p.x.l.length : Int) + (p.x.m.length : Int) := rfl
      have hq0 : 0 < q := by omega
      have hq1 : q ≤ 33554432 := by omega
      have hl1 : (p.x.l.length : Int) ≤ 1048576 := by omega
      have hl2 : (p.x.m.length : Int) ≤ 1048576 := by omega
      have hget := mkqs_get (k := k) hp
      rw [← hq] at hget e3
      have r4 := ((h.tl).atQ hget)
      obtain ⟨g, o, rfl, hgs, c0, c1, c2⟩ := (h.hd.below hb).three hget
      have d0 : wr.cell? ⟨g, o + j * 3, none⟩ = some (.bool (q % 3 == 0)) := c0
      have d1 : wr.cell? ⟨g, o + j * 3 + 1, none⟩ = some (.slice p.a.A p.x.l.length p.a.c) := by rw [c1]; show some (Value.slice p.a.A (marks (q + 1) p.x.l.length).length p.a.c) = _; rw [marks_length]
      have d2 : wr.cell? ⟨g, o + j * 3 + 2, none⟩ = some (.slice p.a.D p.x.m.length p.a.d) := by rw [c2]; show some (Value.slice p.a.D (marks (q + 1 + (p.x.l.length : Int)) p.x.m.length).length p.a.d) = _; rw [marks_length]
      have R1 : Hid (∀ W, Below w.heap.size w W → RdS W p.a.A (vi (marks (q + 1) p.x.l.length)) ∧ RdS W p.a.D (vi (marks (q + 1 + (p.x.l.length : Int)) p.x.m.length))) := Lib.hid (fun W hB => by
        have r := r4.below hB
        exact ⟨r.hd, r.tl.hd⟩)
      have HE : Hid (nxqs k (L.take (j + 1)) = q + 1 + (p.x.l.length : Int) + (p.x.m.length : Int)) := Lib.hid (by rw [e3]; rfl)
      have DD : Hid (∀ W, Below wr.heap.size wr W → W.cell? ⟨g, o + j * 3 + 2, none⟩ = some (.slice p.a.D p.x.m.length p.a.d)) := Lib.hid (fun W hB => below_cell hB d2)
      have hi0 : (0 : Int) ≤ (j : Int) := by omega
      have hi1 : (j : Int) < (n : Int) := by omega
      have b0 : ((q % 3 == 0) != (q % 3 == 0)) = false := by simp
      clear e3 hle hqe hp0 hszp hget r4 c0 c1 c2 d2 hq hp hjl
      have HB := Lib.hid hb
      go_wp2_with fail
      clear d0 d1
      refine (heldIntS_any p.a.A p.x.l.length p.a.c (q + 1) _ (by omega) (by omega) (R1.out _ HB.out).1).mono ?_
      rintro e w2 ⟨rfl, h2⟩
      have z2 := h2
      have d2 := DD.out _ z2
      have g2 : ¬ q + 1 + (p.x.l.length : Int) < 0 := by omega
      go_wp2_with fail
      clear d2
      refine (heldIntS_any p.a.D p.x.m.length p.a.d (q + 1 + (p.x.l.length : Int)) _ (by omega) (by omega) (R1.out _ (bt HB.out z2)).2).mono ?_
      rintro e w3 ⟨rfl, h3⟩
      have z3 := bt z2 h3
      have g3 : ¬ q + 1 + (p.x.l.length : Int) + (p.x.m.length : Int) < 0 := by omega
      go_wp2
      go_roundw
      case rel => exact ⟨j + 1, _, hlt, by go_num, rfl, HE.out.symm, bt HB.out z3⟩
      case measure => simp [intOf]; omega
    · obtain rfl : j = n := by omega
      rw [show L.take j = L by rw [HN.out, List.take_length]] at hq
      have HF := Lib.hid hq
      clear hq
      go_wp2
      go_ret
      exact ⟨by rw [HF.out]; rfl, hb⟩
end Go.Proofs.YtennekieiioilaaGreat
