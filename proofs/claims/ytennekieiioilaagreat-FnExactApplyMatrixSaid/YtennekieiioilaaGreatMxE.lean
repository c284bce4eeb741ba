/-
  Equal matrices.
-/
import Derived.Test.YtennekieiioilaaGreatMx
import Derived.Test.YtennekieiioilaaGreatTk
namespace Go.Proofs.YtennekieiioilaaGreat
open Go.ChangeShapes Go.WideShapes Go.ChangeAt Go.RowKit
open Go.ChangeMaps (open_string shut_string)
set_option linter.unusedVariables false
set_option linter.unusedSimpArgs false
set_option maxRecDepth 4000

set_option maxHeartbeats 1000000 in
theorem eqRow_t (p q : MR) (w : World) (hS : ShortX p) (e1 : q.cs = p.cs) (e2 : datQ q.V = datQ p.V) (hA : Rds w (rmx p)) (hA' : Rds w (rmx q)) :
    Calls Tryz.prog 61 #[(.agg #[.slice p.A p.cs.length p.c, .slice p.B p.V.length p.d]), (.agg #[.slice q.A q.cs.length q.c, .slice q.B q.V.length q.d])] w (fun e w' => e = .returned (.bool true) ∧ Below w.heap.size w w') := by
  obtain ⟨s1, s2, s3⟩ := hS
  have E1 := Lib.hid (fun W h h' => eqIntS_same p.cs p.A q.A p.cs.length p.c q.c W rfl (by omega) h h')
  have E2 := Lib.hid (fun W h h' => eqRS_t p.V p.V q.V p.B q.B p.d q.d W s2 s3 rfl e2 h h')
  have R : Hid (∀ W, Below w.heap.size w W → (RdS W p.A (vi p.cs) ∧ RdS W q.A (vi p.cs)) ∧ Rds W (srowQ p.B p.V) ∧ Rds W (srowQ q.B q.V)) := Lib.hid (fun W hb => ⟨⟨hA.hd.below hb, by have := hA'.hd.below hb; rw [e1] at this; exact this⟩, hA.tl.below hb, hA'.tl.below hb⟩)
  rw [e1, datQ_len e2]
  rw [datQ_len e2] at E2
  clear hA hA' s1 s2 s3 e1 e2
  generalize p.cs.length = n at *
  generalize p.V.length = m at *
  obtain ⟨P_p, P_q⟩ := blocks2 w (.cells #[.slice p.A n p.c, .slice p.B m p.d] 71) (.cells #[.slice q.A n q.c, .slice q.B m q.d] 71)
  have kb := ba2 w (.cells #[.slice p.A n p.c, .slice p.B m p.d] 71) (.cells #[.slice q.A n q.c, .slice q.B m q.d] 71)
  go_enter Tryz.func61, Tryz.ntmps61
  have p0 := rblk_cell P_p 0
  have q0 := rblk_cell P_q 0
  go_wp2_with fail
  clear p0 q0
  generalize (w.alloc (.cells #[.slice p.A n p.c, .slice p.B m p.d] 71)).alloc (.cells #[.slice q.A n q.c, .slice q.B m q.d] 71) = W1 at kb P_p P_q ⊢
  refine (E1.out _ (R.out _ kb).1.1 (R.out _ kb).1.2).mono ?_
  rintro e W2 ⟨rfl, hb⟩
  replace P_p := rblk_below P_p hb
  replace P_q := rblk_below P_q hb
  replace kb := bt kb hb
  clear hb
  have p1 := rblk_cell P_p 1
  have q1 := rblk_cell P_q 1
  go_wp2_with fail
  clear p1 q1
  refine (E2.out _ (R.out _ kb).2.1 (R.out _ kb).2.2).mono ?_
  rintro e W3 ⟨rfl, hb⟩
  go_wp2
  go_ret
  exact ⟨rfl, bt kb hb⟩
set_option maxHeartbeats 1000000 in
theorem eqMS_t (R T : List MR) (A A' : Option Addr) (c c' : Nat) (w : World) (hn : R.length ≤ 1048576) (hS : ∀ p, p ∈ R → ShortX p) (hd : datX T = datX R) (hA : Rds w (srowX A R)) (hA' : Rds w (srowX A' T)) :
    Calls Tryz.prog 34 #[.slice A R.length c, .slice A' T.length c'] w (fun e w' => e = .returned (.bool true) ∧ Below w.heap.size w w') := by
  rw [datX_len hd]
  obtain ⟨n, hnn⟩ : ∃ n, n = R.length := ⟨_, rfl⟩
  rw [← hnn] at hn ⊢
  have HN := Lib.hid hnn
  clear hnn
  go_enter Tryz.func34, Tryz.ntmps34
  go_wp2
  go_loopw [5] (fun i w' => ∃ k : Nat, k ≤ n ∧ i = .int .i64 (k : Int) ∧ Below w.heap.size w w') (fun i _ => n - (intOf i).toNat)
  case atStart => exact ⟨0, Nat.zero_le _, rfl, Below.refl _ _⟩
  case round =>
    obtain ⟨k, hk, rfl, hb⟩ := hrel
    by_cases hlt : k < n
    · obtain ⟨p, hp⟩ := getX (show k < R.length by rw [← HN.out]; exact hlt)
      obtain ⟨q, hq, hpq, hpq2⟩ := datX_get hd hp
      obtain ⟨g, o, rfl, _, c0, c1⟩ := (hA.hd.below hb).two hp
      obtain ⟨g', o', rfl, _, d0, d1⟩ := (hA'.hd.below hb).two hq
      have hps := hS p (List.mem_of_getElem? hp)
      have EQ := Lib.hid (fun W h h' => eqRow_t p q W hps hpq hpq2 h h')
      have R1 : Hid (∀ W, Below wr.heap.size wr W → Rds W (rmx p) ∧ Rds W (rmx q)) := Lib.hid (fun W hB => ⟨((hA.tl.below hb).atX hp).below hB, ((hA'.tl.below hb).atX hq).below hB⟩)
      have hi0 : (0 : Int) ≤ (k : Int) := by omega
      have hi1 : (k : Int) < (n : Int) := by omega
      generalize p.cs.length = n1 at EQ c0
      generalize p.V.length = n2 at EQ c1
      generalize q.cs.length = n3 at EQ d0
      generalize q.V.length = n4 at EQ d1
      have SB : Hid (∀ w', Below wr.heap.size wr w' → ((w'.cell? ⟨g, o + k * 2, none⟩ = some (.slice p.A n1 p.c) ∧ w'.cell? ⟨g, o + k * 2 + 1, none⟩ = some (.slice p.B n2 p.d)) ∧ (w'.cell? ⟨g', o' + k * 2, none⟩ = some (.slice q.A n3 q.c) ∧ w'.cell? ⟨g', o' + k * 2 + 1, none⟩ = some (.slice q.B n4 q.d)) ∧ Below wr.heap.size wr w')) := Lib.hid (fun w' hB => ⟨⟨below_cell hB c0, below_cell hB c1⟩, ⟨below_cell hB d0, below_cell hB d1⟩, hB⟩)
      have HB := Lib.hid hb
      clear hps hq hpq hpq2 hp hb c0 c1 d0 d1
      go_wp2_with fail
      refine wp_region_held_drew (S := fun w' => (w'.cell? ⟨g, o + k * 2, none⟩ = some (.slice p.A n1 p.c) ∧ w'.cell? ⟨g, o + k * 2 + 1, none⟩ = some (.slice p.B n2 p.d)) ∧ (w'.cell? ⟨g', o' + k * 2, none⟩ = some (.slice q.A n3 q.c) ∧ w'.cell? ⟨g', o' + k * 2 + 1, none⟩ = some (.slice q.B n4 q.d)) ∧ Below wr.heap.size wr w') (by kernel_rfl) ⟨(SB.out _ (Below.refl _ _).drew).1, (SB.out _ (Below.refl _ _).drew).2.1, (Below.refl _ _).drew⟩ (fun hHeld => ?_)
      refine tk (i := 0) (v := ?vg1_1) rfl (by kernel_rfl) (fun _ _ _ h => h) (Or.inl ⟨by rfl, ?hg1_1⟩) hHeld ?_
      case hg1_1 => (intro w hSw; (try dsimp only at hSw); obtain ⟨⟨t0, t1⟩, ⟨u0, u1⟩, _⟩ := hSw; go_simp; (try with_reducible rfl))
      try simp only [ps]
      refine tk (i := 1) (v := ?vg1_2) rfl (by kernel_rfl) (fun _ _ _ h => h) (Or.inl ⟨by rfl, ?hg1_2⟩) hHeld ?_
      case hg1_2 => (intro w hSw; (try dsimp only at hSw); obtain ⟨⟨t0, t1⟩, ⟨u0, u1⟩, _⟩ := hSw; go_simp; (try with_reducible rfl))
      try simp only [ps]
      refine tk (i := 2) (v := ?vg1_3) rfl (by kernel_rfl) (fun _ _ _ h => h) (Or.inl ⟨by rfl, ?hg1_3⟩) hHeld ?_
      case hg1_3 => (intro w hSw; (try dsimp only at hSw); obtain ⟨⟨t0, t1⟩, ⟨u0, u1⟩, _⟩ := hSw; go_simp; (try with_reducible rfl))
      try simp only [ps]
      refine tk (i := 3) (v := ?vg1_4) rfl (by kernel_rfl) (fun _ _ _ h => h) (Or.inl ⟨by rfl, ?hg1_4⟩) hHeld ?_
      case hg1_4 => (intro w hSw; (try dsimp only at hSw); obtain ⟨⟨t0, t1⟩, ⟨u0, u1⟩, _⟩ := hSw; go_simp; (try with_reducible rfl))
      try simp only [ps]
      refine tk (i := 4) (v := ?vg1_5) rfl (by kernel_rfl) (fun _ _ _ h => h) (Or.inl ⟨by rfl, ?hg1_5⟩) hHeld ?_
      case hg1_5 => (intro w hSw; (try dsimp only at hSw); obtain ⟨⟨t0, t1⟩, ⟨u0, u1⟩, _⟩ := hSw; go_simp; (try with_reducible rfl))
      try simp only [ps]
      refine tk (i := 5) (v := ?vg1_6) rfl (by kernel_rfl) (fun _ _ _ h => h) (Or.inl ⟨by rfl, ?hg1_6⟩) hHeld ?_
      case hg1_6 => (intro w hSw; (try dsimp only at hSw); obtain ⟨⟨t0, t1⟩, ⟨u0, u1⟩, _⟩ := hSw; go_simp; (try with_reducible rfl))
      try simp only [ps]
      refine tk (i := 6) (v := ?vg1_7) rfl (by kernel_rfl) (fun _ _ _ h => h) (Or.inl ⟨by rfl, ?hg1_7⟩) hHeld ?_
      case hg1_7 => (intro w hSw; (try dsimp only at hSw); obtain ⟨⟨t0, t1⟩, ⟨u0, u1⟩, _⟩ := hSw; go_simp; (try with_reducible rfl))
      try simp only [ps]
      refine tk (i := 7) (v := ?vg1_8) rfl (by kernel_rfl) (fun _ _ _ h => h) (Or.inl ⟨by rfl, ?hg1_8⟩) hHeld ?_
      case hg1_8 => (intro w hSw; (try dsimp only at hSw); obtain ⟨⟨t0, t1⟩, ⟨u0, u1⟩, _⟩ := hSw; go_simp; (try with_reducible rfl))
      try simp only [ps]
      refine rd1 (i := 8) (by kernel_rfl) rfl (fun K hK => ?_)
      go_simp
      (go_at_call 61; ((with_reducible refine (EQ.out _ (R1.out _ hHeld.2.2).1 (R1.out _ hHeld.2.2).2).mono ?_); rintro e Wr1_9 ⟨rfl, hb⟩))
      refine hK.out _ _ ⟨⟨below_cell hb hHeld.1.1, below_cell hb hHeld.1.2⟩, ⟨below_cell hb hHeld.2.1.1, below_cell hb hHeld.2.1.2⟩, bt hHeld.2.2 hb⟩ (fun hH => ?_)
      replace hHeld := hH
      clear hK K hH
      clear hb
      try simp only [ps]
      refine tk (i := 9) (v := ?vg1_10) rfl (by kernel_rfl) (fun _ _ _ h => h) (Or.inl ⟨by rfl, ?hg1_10⟩) hHeld ?_
      case hg1_10 => (intro w hSw; (try dsimp only at hSw); obtain ⟨⟨t0, t1⟩, ⟨u0, u1⟩, _⟩ := hSw; go_simp; (try with_reducible rfl))
      try simp only [ps]
      refine wpAnyH_done (by kernel_rfl) ?_ _
      have hfin := hHeld.2.2
      clear hHeld
      go_wp2
      go_roundw
      case rel => exact ⟨k + 1, by omega, by go_num, bt HB.out hfin⟩
      case measure => simp [intOf]; omega
    · obtain rfl : k = n := by omega
      go_wp2
      go_ret
      exact ⟨rfl, hb⟩
theorem shortX_dat {D R : List MR} (hS : ∀ p, p ∈ D → ShortX p) (hd : datX R = datX D) : ∀ p, p ∈ R → ShortX p := fun p hp => by
  obtain ⟨i, hi⟩ := List.getElem?_of_mem hp
  obtain ⟨q, hq, e, e2⟩ := datX_get hd.symm hi
  obtain ⟨h1, h2, h3⟩ := hS q (List.mem_of_getElem? hq)
  refine ⟨by rw [← e]; exact h1, by rw [← datQ_len e2]; exact h2, fun x hx => ?_⟩
  obtain ⟨j, hj⟩ := List.getElem?_of_mem hx
  obtain ⟨y, hy, e3⟩ := datQ_get e2 hj
  have := h3 y (List.mem_of_getElem? hy)
  unfold ShortQ at this ⊢
  rw [← e3]; exact this
set_option maxHeartbeats 1000000 in
theorem eqMx_d (D R T : List MR) (A A' : Option Addr) (c c' : Nat) (w : World) (hn : D.length ≤ 1048576) (hS : ∀ p, p ∈ D → ShortX p) (hd : datX R = datX D) (hd' : datX T = datX D) (hA : Rds w (srowX A R)) (hA' : Rds w (srowX A' T)) :
    Calls Tryz.prog 11 #[.agg #[.slice A R.length c], .agg #[.slice A' T.length c']] w (fun e w' => e = .returned (.bool true) ∧ Below w.heap.size w w') := by
  have E := Lib.hid (fun W (hb : Below w.heap.size w W) => eqMS_t R T A A' c c' W (by rw [datX_len hd]; exact hn) (shortX_dat hS hd) (hd'.trans hd.symm) (hA.below hb) (hA'.below hb))
  clear hn hS hd hd' hA hA'
  generalize R.length = n at *
  generalize T.length = m at *
  obtain ⟨P_p, P_q⟩ := blocks2 w (.cells #[.slice A n c] 34) (.cells #[.slice A' m c'] 34)
  have kb := ba2 w (.cells #[.slice A n c] 34) (.cells #[.slice A' m c'] 34)
  have p0 := rblk_cell P_p 0
  have q0 := rblk_cell P_q 0
  go_enter Tryz.func11, Tryz.ntmps11
  go_wp2_with fail
  clear p0 q0
  refine (E.out _ kb).mono ?_
  rintro e W3 ⟨rfl, hb⟩
  go_wp2
  go_ret
  exact ⟨rfl, bt kb hb⟩
end Go.Proofs.YtennekieiioilaaGreat
