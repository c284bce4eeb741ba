/-
  Lists of fractions: equality.
-/
import Derived.Test.YtennekieiioilaaGreatRl
namespace Go.Proofs.YtennekieiioilaaGreat
open Go.ChangeShapes Go.WideShapes Go.ChangeAt Go.RowKit
open Go.ChangeMaps (open_string shut_string)
set_option linter.unusedVariables false
set_option linter.unusedSimpArgs false
set_option maxRecDepth 4000

set_option maxHeartbeats 1000000 in
theorem eqRS_t (L M M' : List RV) (A A' : Option Addr) (c c' : Nat) (w : World) (hn' : L.length ≤ 1048576) (hS : ∀ p, p ∈ L → ShortQ p) (hd : datQ M = datQ L) (hd' : datQ M' = datQ L) (hA : Rds w (srowQ A M)) (hA' : Rds w (srowQ A' M')) :
    Calls Tryz.prog 19 #[.slice A M.length c, .slice A' M'.length c'] w (fun e w' => e = .returned (.bool true) ∧ Below w.heap.size w w') := by
  obtain ⟨n, hn⟩ : ∃ n, n = L.length := ⟨_, rfl⟩
  have hm := datQ_len hd
  have hm' := datQ_len hd'
  rw [hm, hm', ← hn]
  rw [← hn] at hn'
  have HN := Lib.hid hn
  clear hn hm hm'
  go_enter Tryz.func19, Tryz.ntmps19
  go_wp2
  go_loopw [5] (fun i w' => ∃ k : Nat, k ≤ n ∧ i = .int .i64 (k : Int) ∧ Below w.heap.size w w') (fun i _ => n - (intOf i).toNat)
  case atStart => exact ⟨0, Nat.zero_le _, rfl, Below.refl _ _⟩
  case round =>
    obtain ⟨k, hk, rfl, hb⟩ := hrel
    by_cases hlt : k < n
    · obtain ⟨p, hp⟩ := getQ (show k < L.length by rw [← HN.out]; exact hlt)
      obtain ⟨q, hq, qx⟩ := datQ_get hd hp
      obtain ⟨r, hr, rx⟩ := datQ_get hd' hp
      obtain ⟨g, o, rfl, hg, c0, c1, c2⟩ := (hA.hd.below hb).three hq
      obtain ⟨g', o', rfl, hg', d0, d1, d2⟩ := (hA'.hd.below hb).three hr
      have hps := hS p (List.mem_of_getElem? hp)
      have r1 := (hA.tl.below hb).atQ hq
      have r2 := (hA'.tl.below hb).atQ hr
      unfold qrow at r1 r2
      rw [qx] at r1 c0 c1 c2
      rw [rx] at r2 d0 d1 d2
      have EQ := Lib.hid (fun W h h' => eqRat_t p.x q.a r.a W hps h h')
      have R1 : Hid (∀ W, Below wr.heap.size wr W → Rds W (rows p.x q.a) ∧ Rds W (rows p.x r.a)) := Lib.hid (fun W hB => ⟨r1.below hB, r2.below hB⟩)
      have hi0 : (0 : Int) ≤ (k : Int) := by omega
      have hi1 : (k : Int) < (n : Int) := by omega
      have SB : Hid (∀ w', Below wr.heap.size wr w' → (w'.cell? ⟨g, o + k * 3, none⟩ = some (.bool p.x.p) ∧ w'.cell? ⟨g, o + k * 3 + 1, none⟩ = some (.slice q.a.A p.x.l.length q.a.c) ∧ w'.cell? ⟨g, o + k * 3 + 2, none⟩ = some (.slice q.a.D p.x.m.length q.a.d) ∧ w'.cell? ⟨g', o' + k * 3, none⟩ = some (.bool p.x.p) ∧ w'.cell? ⟨g', o' + k * 3 + 1, none⟩ = some (.slice r.a.A p.x.l.length r.a.c) ∧ w'.cell? ⟨g', o' + k * 3 + 2, none⟩ = some (.slice r.a.D p.x.m.length r.a.d) ∧ Below wr.heap.size wr w')) := Lib.hid (fun w' hB => ⟨(below_cell hB c0), (below_cell hB c1), (below_cell hB c2), (below_cell hB d0), (below_cell hB d1), (below_cell hB d2), hB⟩)
      have HB := Lib.hid hb
      clear r1 r2 hps hq hr qx rx hp hb c0 c1 c2 d0 d1 d2
      go_wp2_with fail
      go_region_held3 (fun w' => w'.cell? ⟨g, o + k * 3, none⟩ = some (.bool p.x.p) ∧ w'.cell? ⟨g, o + k * 3 + 1, none⟩ = some (.slice q.a.A p.x.l.length q.a.c) ∧ w'.cell? ⟨g, o + k * 3 + 2, none⟩ = some (.slice q.a.D p.x.m.length q.a.d) ∧ w'.cell? ⟨g', o' + k * 3, none⟩ = some (.bool p.x.p) ∧ w'.cell? ⟨g', o' + k * 3 + 1, none⟩ = some (.slice r.a.A p.x.l.length r.a.c) ∧ w'.cell? ⟨g', o' + k * 3 + 2, none⟩ = some (.slice r.a.D p.x.m.length r.a.d) ∧ Below wr.heap.size wr w')
        (first | (with_reducible exact SB.out _ (Below.refl _ _)) | (with_reducible exact SB.out _ (Below.refl _ _).drew) | (go_split_ands; with_reducible exact SB.out _ (bt (by assumption : Below wr.heap.size wr _) hb)))
        (first | (go_at_call 10; go_split_ands; ((with_reducible refine (EQ.out _ (R1.out _ (by assumption : Below wr.heap.size wr _)).1 (R1.out _ (by assumption : Below wr.heap.size wr _)).2).mono ?_); rintro e w2 ⟨rfl, hb⟩; skip)))
      all_goals
        have hfin := (‹_ ∧ _ ∧ _ ∧ _ ∧ _ ∧ _ ∧ Below wr.heap.size wr _›).2.2.2.2.2.2
        go_wp2
        go_roundw
        case rel => exact ⟨k + 1, by omega, by go_num, bt HB.out hfin⟩
        case measure => simp [intOf]; omega
    · obtain rfl : k = n := by omega
      go_wp2
      go_ret
      exact ⟨rfl, hb⟩
end Go.Proofs.YtennekieiioilaaGreat
