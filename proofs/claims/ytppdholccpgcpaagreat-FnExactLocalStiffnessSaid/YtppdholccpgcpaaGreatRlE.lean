/-
  Marks in lists of fractions, found again.
-/
import Derived.Test.YtppdholccpgcpaaGreatRlM
import Derived.Test.YtppdholccpgcpaaGreatSlH
namespace Go.Proofs.YtppdholccpgcpaaGreat
open Go.ChangeShapes Go.WideShapes Go.ChangeAt Go.RowKit
set_option linter.unusedVariables false
set_option linter.unusedSimpArgs false
set_option maxRecDepth 4000
theorem mkqs_get {k : Int} {L : List RV} {j : Nat} {p : RV} (hp : L[j]? = some p) : (mkqs k L)[j]? = some (mkQ (nxqs k (L.take j)) p) := by
  have hl := lt_of_getQ hp
  have h2 : L[j] = p := by rw [List.getElem?_eq_getElem hl] at hp; injection hp
  have e : L = L.take j ++ p :: L.drop (j + 1) := by
    have h1 := List.take_append_drop j L
    rw [List.drop_eq_getElem_cons hl, h2] at h1
    exact h1.symm
  have e2 : mkqs k L = mkqs k (L.take j) ++ mkQ (nxqs k (L.take j)) p :: mkqs (nxQ (nxqs k (L.take j)) p) (L.drop (j + 1)) := by
    conv => lhs; rw [e, mkqs_app]
    rfl
  rw [e2, List.getElem?_append_right (by rw [mkqs_length, List.length_take]; omega), mkqs_length, List.length_take, Nat.min_eq_left (by omega), Nat.sub_self]
  rfl
set_option maxHeartbeats 2000000 in
theorem heldRS_r (L : List RV) (A : Option Addr) (c : Nat) (k : Int) (w : World) (hk : 0 < k) (hk2 : k ≤ 16777216) (hg : (L.length : Int) + szqs L ≤ 1048576) (h : Rds w (srowQ A (mkqs k L))) :
    Calls Tryz.prog 117 #[.slice A L.length c, .int .i64 k] w (fun e w' => e = .returned (.int .i64 (nxqs k L)) ∧ Below w.heap.size w w') := by
  have hsp := szqs_pos L
  obtain ⟨n, hn⟩ : ∃ n, n = L.length := ⟨_, rfl⟩
  rw [← hn] at hg ⊢
  have HN := Lib.hid hn
  clear hn
  go_enter Tryz.func117, Tryz.ntmps117
  go_wp2
  go_loopw [1, 5] (fun q i w' => ∃ (j : Nat) (q' : Int), j ≤ n ∧ i = .int .i64 (j : Int) ∧ q = .int .i64 q' ∧ q' = nxqs k (L.take j) ∧ Below w.heap.size w w') (fun _ i _ => n - (intOf i).toNat)
  case atStart => exact ⟨0, k, Nat.zero_le _, rfl, rfl, rfl, Below.refl _ _⟩
  case round =>
    obtain ⟨j, q, hj, rfl, rfl, hq, hb⟩ := hrel
    by_cases hlt : j < n
    · obtain ⟨p, hp⟩ := getQ (show j < L.length by rw [← HN.out]; exact hlt)
      have hjl : j < L.length := lt_of_getQ hp
      obtain ⟨_, _, e3⟩ := mkqs_step (k := k) hp
      have hle := szqs_le L (j + 1)
      rw [szqs_take hp] at hle
      have hqe : q = k + (j : Int) + szqs (L.take j) := by rw [hq, nxqs_eq, List.length_take, Nat.min_eq_left (by omega)]
      have hp0 := szqs_pos (L.take j)
      have hszp : szq p = (p.x.l.length : Int) + (p.x.m.length : Int) := rfl
      have hq0 : 0 < q := by omega
      have hq1 : q ≤ 33554432 := by omega
      have hl1 : (p.x.l.length : Int) ≤ 1048576 := by omega
      have hl2 : (p.x.m.length : Int) ≤ 1048576 := by omega
      have hget := mkqs_get (k := k) hp
      rw [← hq] at hget e3
      have r4 := ((h.tl).atQ hget)
      obtain ⟨g, o, rfl, hgs, c0, c1, c2⟩ := (h.hd.below hb).three hget
      have d0 : wr.cell? ⟨g, o + j * 3, none⟩ = some (.bool (q % 3 == 0)) := c0
      have d1 : wr.cell? ⟨g, o + j * 3 + 1, none⟩ = some (.slice p.a.A p.x.l.length p.a.c) := by rw [c1]; show some (Value.slice p.a.A (marks (q + 1) p.x.l.length).length p.a.c) = _; rw [marks_length]
      have d2 : wr.cell? ⟨g, o + j * 3 + 2, none⟩ = some (.slice p.a.D p.x.m.length p.a.d) := by rw [c2]; show some (Value.slice p.a.D (marks (q + 1 + (p.x.l.length : Int)) p.x.m.length).length p.a.d) = _; rw [marks_length]
      have R1 : Hid (∀ W, Below w.heap.size w W → RdS W p.a.A (vi (marks (q + 1) p.x.l.length)) ∧ RdS W p.a.D (vi (marks (q + 1 + (p.x.l.length : Int)) p.x.m.length))) := Lib.hid (fun W hB => by
        have r := r4.below hB
        exact ⟨r.hd, r.tl.hd⟩)
      have HE : Hid (nxqs k (L.take (j + 1)) = q + 1 + (p.x.l.length : Int) + (p.x.m.length : Int)) := Lib.hid (by rw [e3]; rfl)
      have DD : Hid (∀ W, Below wr.heap.size wr W → W.cell? ⟨g, o + j * 3 + 2, none⟩ = some (.slice p.a.D p.x.m.length p.a.d)) := Lib.hid (fun W hB => below_cell hB d2)
      have hi0 : (0 : Int) ≤ (j : Int) := by omega
      have hi1 : (j : Int) < (n : Int) := by omega
      have b0 : ((q % 3 == 0) != (q % 3 == 0)) = false := by simp
      clear e3 hle hqe hp0 hszp hget r4 c0 c1 c2 d2 hq hp hjl
      have HB := Lib.hid hb
      go_wp2_with fail
      clear d0 d1
      refine (heldIntS_any p.a.A p.x.l.length p.a.c (q + 1) _ (by omega) (by omega) (R1.out _ HB.out).1).mono ?_
      rintro e w2 ⟨rfl, h2⟩
      have z2 := h2
      have d2 := DD.out _ z2
      have g2 : ¬ q + 1 + (p.x.l.length : Int) < 0 := by omega
      go_wp2_with fail
      clear d2
      refine (heldIntS_any p.a.D p.x.m.length p.a.d (q + 1 + (p.x.l.length : Int)) _ (by omega) (by omega) (R1.out _ (bt HB.out z2)).2).mono ?_
      rintro e w3 ⟨rfl, h3⟩
      have z3 := bt z2 h3
      have g3 : ¬ q + 1 + (p.x.l.length : Int) + (p.x.m.length : Int) < 0 := by omega
      go_wp2
      go_roundw
      case rel => exact ⟨j + 1, _, hlt, by go_num, rfl, HE.out.symm, bt HB.out z3⟩
      case measure => simp [intOf]; omega
    · obtain rfl : j = n := by omega
      rw [show L.take j = L by rw [HN.out, List.take_length]] at hq
      have HF := Lib.hid hq
      clear hq
      go_wp2
      go_ret
      exact ⟨by rw [HF.out]; rfl, hb⟩
end Go.Proofs.YtppdholccpgcpaaGreat
namespace Go.Proofs.YtppdholccpgcpaaGreat
open Go.ChangeShapes Go.WideShapes Go.ChangeAt Go.RowKit
set_option linter.unusedVariables false
set_option linter.unusedSimpArgs false
set_option maxRecDepth 4000
set_option maxHeartbeats 1000000 in
theorem eqRS_t (L M M' : List RV) (A A' : Option Addr) (c c' : Nat) (w : World) (hn' : L.length ≤ 1048576) (hS : ∀ p, p ∈ L → ShortQ p) (hd : datQ M = datQ L) (hd' : datQ M' = datQ L) (hA : Rds w (srowQ A M)) (hA' : Rds w (srowQ A' M')) :
    Calls Tryz.prog 46 #[.slice A M.length c, .slice A' M'.length c'] w (fun e w' => e = .returned (.bool true) ∧ Below w.heap.size w w') := by
  obtain ⟨n, hn⟩ : ∃ n, n = L.length := ⟨_, rfl⟩
  have hm := datQ_len hd
  have hm' := datQ_len hd'
  rw [hm, hm', ← hn]
  rw [← hn] at hn'
  have HN := Lib.hid hn
  clear hn hm hm'
  go_enter Tryz.func46, Tryz.ntmps46
  go_wp2
  go_loopw [5] (fun i w' => ∃ k : Nat, k ≤ n ∧ i = .int .i64 (k : Int) ∧ Below w.heap.size w w') (fun i _ => n - (intOf i).toNat)
  case atStart => exact ⟨0, Nat.zero_le _, rfl, Below.refl _ _⟩
  case round =>
    obtain ⟨k, hk, rfl, hb⟩ := hrel
    by_cases hlt : k < n
    · obtain ⟨p, hp⟩ := getQ (show k < L.length by rw [← HN.out]; exact hlt)
      obtain ⟨q, hq, qx⟩ := datQ_get hd hp
      obtain ⟨r, hr, rx⟩ := datQ_get hd' hp
      obtain ⟨g, o, rfl, hg, c0, c1, c2⟩ := (hA.hd.below hb).three hq
      obtain ⟨g', o', rfl, hg', d0, d1, d2⟩ := (hA'.hd.below hb).three hr
      have hps := hS p (List.mem_of_getElem? hp)
      have r1 := (hA.tl.below hb).atQ hq
      have r2 := (hA'.tl.below hb).atQ hr
      unfold qrow at r1 r2
      rw [qx] at r1 c0 c1 c2
      rw [rx] at r2 d0 d1 d2
      have EQ := Lib.hid (fun W h h' => eqRat_t p.x q.a r.a W hps h h')
      have R1 : Hid (∀ W, Below wr.heap.size wr W → Rds W (rows p.x q.a) ∧ Rds W (rows p.x r.a)) := Lib.hid (fun W hB => ⟨r1.below hB, r2.below hB⟩)
      have hi0 : (0 : Int) ≤ (k : Int) := by omega
      have hi1 : (k : Int) < (n : Int) := by omega
      have SB : Hid (∀ w', Below wr.heap.size wr w' → (w'.cell? ⟨g, o + k * 3, none⟩ = some (.bool p.x.p) ∧ w'.cell? ⟨g, o + k * 3 + 1, none⟩ = some (.slice q.a.A p.x.l.length q.a.c) ∧ w'.cell? ⟨g, o + k * 3 + 2, none⟩ = some (.slice q.a.D p.x.m.length q.a.d) ∧ w'.cell? ⟨g', o' + k * 3, none⟩ = some (.bool p.x.p) ∧ w'.cell? ⟨g', o' + k * 3 + 1, none⟩ = some (.slice r.a.A p.x.l.length r.a.c) ∧ w'.cell? ⟨g', o' + k * 3 + 2, none⟩ = some (.slice r.a.D p.x.m.length r.a.d) ∧ Below wr.heap.size wr w')) := Lib.hid (fun w' hB => ⟨(below_cell hB c0), (below_cell hB c1), (below_cell hB c2), (below_cell hB d0), (below_cell hB d1), (below_cell hB d2), hB⟩)
      have HB := Lib.hid hb
      clear r1 r2 hps hq hr qx rx hp hb c0 c1 c2 d0 d1 d2
      go_wp2_with fail
      go_region_held3 (fun w' => w'.cell? ⟨g, o + k * 3, none⟩ = some (.bool p.x.p) ∧ w'.cell? ⟨g, o + k * 3 + 1, none⟩ = some (.slice q.a.A p.x.l.length q.a.c) ∧ w'.cell? ⟨g, o + k * 3 + 2, none⟩ = some (.slice q.a.D p.x.m.length q.a.d) ∧ w'.cell? ⟨g', o' + k * 3, none⟩ = some (.bool p.x.p) ∧ w'.cell? ⟨g', o' + k * 3 + 1, none⟩ = some (.slice r.a.A p.x.l.length r.a.c) ∧ w'.cell? ⟨g', o' + k * 3 + 2, none⟩ = some (.slice r.a.D p.x.m.length r.a.d) ∧ Below wr.heap.size wr w')
        (first | (with_reducible exact SB.out _ (Below.refl _ _)) | (with_reducible exact SB.out _ (Below.refl _ _).drew) | (go_split_ands; with_reducible exact SB.out _ (bt (by assumption : Below wr.heap.size wr _) hb)))
        (first | (go_at_call 56; go_split_ands; ((with_reducible refine (EQ.out _ (R1.out _ (by assumption : Below wr.heap.size wr _)).1 (R1.out _ (by assumption : Below wr.heap.size wr _)).2).mono ?_); rintro e w2 ⟨rfl, hb⟩; skip)))
      all_goals
        have hfin := (‹_ ∧ _ ∧ _ ∧ _ ∧ _ ∧ _ ∧ Below wr.heap.size wr _›).2.2.2.2.2.2
        go_wp2
        go_roundw
        case rel => exact ⟨k + 1, by omega, by go_num, bt HB.out hfin⟩
        case measure => simp [intOf]; omega
    · obtain rfl : k = n := by omega
      go_wp2
      go_ret
      exact ⟨rfl, hb⟩
end Go.Proofs.YtppdholccpgcpaaGreat
