/-
  The walk of the law of local matrices.
-/
import Derived.Test.YtppdholccpgcpaaGreatWp
import Derived.Test.YtppdholccpgcpaaGreatElL
import Derived.Test.YtppdholccpgcpaaGreatMkTri
import Derived.Test.YtppdholccpgcpaaGreatWg
namespace Go.Proofs.YtppdholccpgcpaaGreat
open Go.ChangeShapes Go.WideShapes Go.ChangeAt Go.RowKit
set_option linter.unusedVariables false
set_option linter.unusedSimpArgs false
set_option maxRecDepth 4000
attribute [local go_sem ↓] Go.wp_at_zero Go.wp_at_succ
theorem offG_new {w : World} {rs : List (Option Addr × List Value)} (h : Rds w rs) : OffG w.heap.size rs := fun r hr e => by
  have h0 : r.2.length ≠ 0 := fun h0 => by rw [h0] at e; simp [rowOf] at e
  rcases h r hr with h1 | ⟨b, off, ha, hs, _⟩
  · rw [h1] at h0; exact h0 rfl
  · unfold rowOf at e
    rw [if_neg h0, ha] at e
    have e2 : b = w.heap.size := Option.some.inj e
    omega
set_option maxHeartbeats 4000000 in
theorem law_elements (A : Option Addr) (n c : Nat) (w : World) (hn : n ≤ 9223372036854775807) (hA : RdB w A n w.heap.size) :
    Calls Tryz.prog 4 #[.slice A n c] w fun e w' => e = .returned (.bool true) ∧ Below w.heap.size w w' := by
  by_cases hg : (1048576 : Int) < (n : Int)
  · go_enter Tryz.func4, Tryz.ntmps4
    go_wp2
    go_ret
    exact ⟨rfl, Below.refl _ _⟩
  have hn2 : n ≤ 1048576 := by omega
  have HM := Lib.hid (makeTri_any A n c w hn2 hA)
  clear hA
  go_enter Tryz.func4, Tryz.ntmps4
  go_wp2_with fail
  refine (HM.out).mono ?_
  rintro e W1 ⟨⟨p, q, r, G, hd, hpr, rfl, P_l, o1, o2, o3⟩, kb⟩
  obtain ⟨KX, MX, SX, AX, b00, b0, b1, b2, b3, b4, b5, b6, b7, b8, b9⟩ := all_elements p q r hd.1 hd.2.1 hd.2.2 hpr
  have HS0 := Lib.hid b00
  have HK := Lib.hid (fun W h h' => b0 (some ⟨G, 0, none⟩) W h h')
  have HMs := Lib.hid (fun W h h' => b1 (some ⟨G, 0, none⟩) W h h')
  have HZ := Lib.hid (fun W => b2 W)
  have HS := Lib.hid (fun i j hi hj a b W h h' => b3 i j hi hj a b W h h')
  have HAd := Lib.hid (fun i j hi hj a b W h h' => b4 i j hi hj a b W h h')
  have HE := Lib.hid (fun i j hi hj a b W h h' => b5 i j hi hj a b W h h')
  have HSg := Lib.hid (fun i hi a W h => b6 i hi a W h)
  have HOk := Lib.hid (fun i hi a W h => b7 i hi a W h)
  have HAr := Lib.hid (fun W h h' => b8 (some ⟨G, 0, none⟩) W h h')
  have HEq := Lib.hid (fun a b W h h' => b9 a b W h h')
  unfold MadeX at HK HMs
  unfold MadeQ at HZ HS HAd HAr
  have hLR : Rds W1 (srow (some ⟨G, 0, none⟩) [p, q, r]) := Rds.cons (rd_blk P_l rfl) (rds3 o1 o2 o3)
  clear HM hd hpr b00 b0 b1 b2 b3 b4 b5 b6 b7 b8 b9 P_l o1 o2 o3 hn hn2 hg
  go_wp2_with fail
  refine (HK.out _ hLR.hd hLR.tl).mono ?_
  rintro e W2 ⟨K, BK, ck, rfl, hK, oK, hb⟩
  replace hLR := hLR.below hb
  replace kb := bt kb hb
  have rK := oK
  clear hb oK
  rw [hK.1]
  have HKX := Lib.hid hK
  clear hK
  go_wp2_with fail
  refine (HMs.out _ hLR.hd hLR.tl).mono ?_
  rintro e W3 ⟨M, BM, cm, rfl, hM, oM, hb⟩
  replace hLR := hLR.below hb
  replace kb := bt kb hb
  replace rK := rK.below hb
  have rM := oM
  clear hb oM
  rw [hM.1]
  have HMX := Lib.hid hM
  clear hM HK HMs
  obtain ⟨RR, hRR⟩ : ∃ RR, RR = srow (some ⟨G, 0, none⟩) [p, q, r] ++ (srowS BK K ++ srowS BM M) := ⟨_, rfl⟩
  have RRL : Hid (∀ W, Rds W RR → Rds W (srow (some ⟨G, 0, none⟩) [p, q, r])) := Lib.hid (fun W h => by rw [hRR] at h; exact rds_l h)
  have RRK : Hid (∀ W, Rds W RR → Rds W (srowS BK K)) := Lib.hid (fun W h => by rw [hRR] at h; exact rds_l (rds_r h))
  have RRM : Hid (∀ W, Rds W RR → Rds W (srowS BM M)) := Lib.hid (fun W h => by rw [hRR] at h; exact rds_r (rds_r h))
  have rr : Rds W3 RR := by rw [hRR]; exact hLR.app (rK.app rM)
  clear hRR hLR rK rM
  go_wp2_with fail
  refine (HZ.out _).mono ?_
  rintro e W4 ⟨a6, rfl, _, _, o6, _, hb⟩
  replace rr := rr.below hb
  replace kb := bt kb hb
  have r6 := o6.rds
  clear hb o6
  have P_6 := heap_alloc_new W4 (.cells (r3 (AX 0) a6) 29)
  have hb := ba1 W4 (.cells (r3 (AX 0) a6) 29)
  have off6 := offG_new r6
  have HO6 := Lib.hid (offG_new rr)
  have HG6 := Lib.hid kb.size
  replace rr := rr.below hb
  replace r6 := r6.below hb
  replace kb := bt kb hb
  clear hb
  go_wp2_with fail
  generalize W4.alloc (.cells (r3 (AX 0) a6) 29) = W5 at P_6 r6 rr kb ⊢
  generalize W4.heap.size = g6 at P_6 off6 HO6 HG6 ⊢
  go_loopw [30] (fun k w' => ∃ (i : Nat) (X6 : R3) (a6 : Ad), i ≤ 3 ∧ k = .int .i64 (i : Int) ∧ X6 = AX (3 * i) ∧ w'.heap[g6]? = some (.cells (r3 X6 a6) 29 (0, 0)) ∧ Rds w' (rows X6 a6) ∧ OffG g6 (rows X6 a6) ∧ Rds w' RR ∧ Below w.heap.size w w') (fun k _ => 3 - (intOf k).toNat)
  case atStart => exact ⟨0, AX 0, a6, by omega, rfl, rfl, P_6, r6, off6, rr, kb⟩
  case round =>
    clear P_6 r6 off6 rr kb
    obtain ⟨i, X6, a6, hi, rfl, hX6, P_6, r6, off6, rr, kb⟩ := hrel
    by_cases hlt : i < 3
    · have hi0 : (0 : Int) ≤ (i : Int) := by omega
      have hi1 : (i : Int) < 3 := by omega
      obtain ⟨pk, hpk⟩ := getS (R := K) (i := i) (by rw [HKX.out.1]; exact hlt)
      obtain ⟨pm, hpm⟩ := getS (R := M) (i := i) (by rw [HMX.out.1]; exact hlt)
      have lk := (HKX.out.2 i pk hpk).1
      have lm := (HMX.out.2 i pm hpm).1
      have HPK := Lib.hid (And.intro hpk lk)
      have HPM := Lib.hid (And.intro hpm lm)
      obtain ⟨gk, ok1, rfl, _, c0⟩ := (RRK.out _ rr).hd.row hpk
      obtain ⟨gm, om1, rfl, _, d0⟩ := (RRM.out _ rr).hd.row hpm
      rw [lk] at c0
      rw [lm] at d0
      have HR6 := Lib.hid hX6
      clear hpk hpm lk lm hX6
      go_wp2_with fail
      clear c0 d0
      have h6 := rblk_lt P_6
      refine (HZ.out _).mono ?_
      rintro e W6 ⟨a8, rfl, _, _, o8, _, hb⟩
      replace P_6 := rblk_below P_6 hb
      replace rr := rr.below hb
      replace r6 := r6.below hb
      have lo8 := rblk_lt P_6
      have off86 : OffG g6 (rows (AX 0) a8) := offG_owns o8 h6
      replace kb := bt kb hb
      have r8 := o8.rds
      clear hb o8
      have P_8 := heap_alloc_new W6 (.cells (r3 (AX 0) a8) 29)
      have hb := ba1 W6 (.cells (r3 (AX 0) a8) 29)
      have off8 := offG_new r8
      have off68 := offG_new r6
      have HO8 := Lib.hid (offG_new rr)
      have HG8 := Lib.hid (And.intro kb.size lo8)
      replace P_6 := rblk_below P_6 hb
      replace rr := rr.below hb
      replace r6 := r6.below hb
      replace r8 := r8.below hb
      replace kb := bt kb hb
      have c0 : (W6.alloc (.cells (r3 (AX 0) a8) 29)).cell? ⟨gk, ok1 + i, none⟩ = some (.slice pk.A 3 pk.c) := by
        obtain ⟨_, _, he, _, h⟩ := (RRK.out _ rr).hd.row HPK.out.1
        cases he
        rw [HPK.out.2] at h; exact h
      clear hb lo8 h6
      go_wp2_with fail
      clear c0
      generalize W6.alloc (.cells (r3 (AX 0) a8) 29) = W7 at P_8 P_6 r6 r8 rr kb ⊢
      generalize W6.heap.size = g8 at P_8 off8 off68 HO8 HG8 ⊢
      go_loopw [53] (fun k w' => ∃ (j : Nat) (X8 X6 : R3) (a8 a6 : Ad), j ≤ 3 ∧ k = .int .i64 (j : Int) ∧ X8 = SX i j ∧ X6 = AX (3 * i + j) ∧ (w'.heap[g8]? = some (.cells (r3 X8 a8) 29 (0, 0)) ∧ w'.heap[g6]? = some (.cells (r3 X6 a6) 29 (0, 0))) ∧ (Rds w' (rows X8 a8) ∧ OffG g6 (rows X8 a8) ∧ OffG g8 (rows X8 a8)) ∧ (Rds w' (rows X6 a6) ∧ OffG g6 (rows X6 a6) ∧ OffG g8 (rows X6 a6)) ∧ Rds w' RR ∧ Below w.heap.size w w') (fun k _ => 3 - (intOf k).toNat)
      case atStart => exact ⟨0, AX 0, X6, a8, a6, by omega, rfl, (HS0.out i).symm, HR6.out, ⟨P_8, P_6⟩, ⟨r8, off86, off8⟩, ⟨r6, off6, off68⟩, rr, kb⟩
      case round =>
        clear P_8 P_6 r8 off86 off8 r6 off6 off68 rr kb HR6
        obtain ⟨j, X8, X6, a8, a6, hj, rfl, hX8, hX6, ⟨P_8, P_6⟩, ⟨r8, off86, off8⟩, ⟨r6, off6, off68⟩, rr, kb⟩ := hrel
        by_cases hlj : j < 3
        · have hj0 : (0 : Int) ≤ (j : Int) := by omega
          have hj1 : (j : Int) < 3 := by omega
          obtain ⟨x, hx⟩ := getQ (L := pk.L) (i := j) (by rw [HPK.out.2]; exact hlj)
          obtain ⟨y, hy⟩ := getQ (L := pm.L) (i := j) (by rw [HPM.out.2]; exact hlj)
          obtain ⟨pj, hpj⟩ := getS (R := K) (i := j) (by rw [HKX.out.1]; exact hlj)
          have lj := (HKX.out.2 j pj hpj).1
          obtain ⟨z, hz⟩ := getQ (L := pj.L) (i := i) (by rw [lj]; exact hlt)
          have ex := (HKX.out.2 i pk HPK.out.1).2 j x hx
          have ey := (HMX.out.2 i pm HPM.out.1).2 j y hy
          have ez := (HKX.out.2 j pj hpj).2 i z hz
          have HPJ := Lib.hid (And.intro hpj lj)
          have HXYZ := Lib.hid (And.intro hx (And.intro hy hz))
          have HAs := Lib.hid (fun a b W h h' => HS.out i j hlt hlj a b W h h')
          have HAa := Lib.hid (fun a b W h h' => HAd.out i j hlt hlj a b W h h')
          have HEe := Lib.hid (fun a b W h h' => HE.out i j hlt hlj a b W h h')
          rw [← hX8, ← ex] at HAs
          rw [← hX6, ← ey] at HAa
          rw [← ex, ← ez] at HEe
          obtain ⟨N8, hN8⟩ : ∃ X, X = SX i (j + 1) := ⟨_, rfl⟩
          obtain ⟨N6, hN6⟩ : ∃ X, X = AX (3 * i + j + 1) := ⟨_, rfl⟩
          rw [← hN8] at HAs
          rw [← hN6] at HAa
          have HNN := Lib.hid (And.intro hN8 hN6)
          -- the rows of the elements, wherever the world is
          have RX : Hid (∀ W, Rds W RR → (RdS W (some ⟨gk, ok1, none⟩) (flatS K) ∧ RdS W pk.A (flatQ pk.L) ∧ Rds W (rows x.x x.a)) ∧ (RdS W (some ⟨gm, om1, none⟩) (flatS M) ∧ RdS W pm.A (flatQ pm.L) ∧ Rds W (rows y.x y.a)) ∧ RdS W pj.A (flatQ pj.L) ∧ Rds W (rows z.x z.a)) := Lib.hid (fun W h => ⟨⟨(RRK.out W h).hd, ((RRK.out W h).tl.atS HPK.out.1).hd, ((RRK.out W h).tl.atS HPK.out.1).tl.atQ HXYZ.out.1⟩, ⟨(RRM.out W h).hd, ((RRM.out W h).tl.atS HPM.out.1).hd, ((RRM.out W h).tl.atS HPM.out.1).tl.atQ HXYZ.out.2.1⟩, ((RRK.out W h).tl.atS HPJ.out.1).hd, ((RRK.out W h).tl.atS HPJ.out.1).tl.atQ HXYZ.out.2.2⟩)
          obtain ⟨gx, ox, ex1, _⟩ : ∃ g o, pk.A = some ⟨g, o, none⟩ ∧ True := by
            obtain ⟨g, o, h, _⟩ := (RX.out _ rr).1.2.1.three hx
            exact ⟨g, o, h, trivial⟩
          obtain ⟨gy, oy, ey1, _⟩ : ∃ g o, pm.A = some ⟨g, o, none⟩ ∧ True := by
            obtain ⟨g, o, h, _⟩ := (RX.out _ rr).2.1.2.1.three hy
            exact ⟨g, o, h, trivial⟩
          obtain ⟨gz, oz, ez1, _⟩ : ∃ g o, pj.A = some ⟨g, o, none⟩ ∧ True := by
            obtain ⟨g, o, h, _⟩ := (RX.out _ rr).2.2.1.three hz
            exact ⟨g, o, h, trivial⟩
          -- what a load yields, wherever the world is
          have LD : Hid (∀ W, Rds W RR → (W.cell? ⟨gk, ok1 + i, none⟩ = some (.slice (some ⟨gx, ox, none⟩) 3 pk.c) ∧ W.cell? ⟨gk, ok1 + j, none⟩ = some (.slice (some ⟨gz, oz, none⟩) 3 pj.c) ∧ W.cell? ⟨gm, om1 + i, none⟩ = some (.slice (some ⟨gy, oy, none⟩) 3 pm.c)) ∧
              (W.cell? ⟨gx, ox + j * 3, none⟩ = some (.bool x.x.p) ∧ W.cell? ⟨gx, ox + j * 3 + 1, none⟩ = some (.slice x.a.A x.x.l.length x.a.c) ∧ W.cell? ⟨gx, ox + j * 3 + 2, none⟩ = some (.slice x.a.D x.x.m.length x.a.d)) ∧
              (W.cell? ⟨gy, oy + j * 3, none⟩ = some (.bool y.x.p) ∧ W.cell? ⟨gy, oy + j * 3 + 1, none⟩ = some (.slice y.a.A y.x.l.length y.a.c) ∧ W.cell? ⟨gy, oy + j * 3 + 2, none⟩ = some (.slice y.a.D y.x.m.length y.a.d)) ∧
              (W.cell? ⟨gz, oz + i * 3, none⟩ = some (.bool z.x.p) ∧ W.cell? ⟨gz, oz + i * 3 + 1, none⟩ = some (.slice z.a.A z.x.l.length z.a.c) ∧ W.cell? ⟨gz, oz + i * 3 + 2, none⟩ = some (.slice z.a.D z.x.m.length z.a.d))) := Lib.hid (fun W h => by
            have k := RX.out W h
            obtain ⟨_, _, h1, _, c1⟩ := k.1.1.row HPK.out.1
            cases h1
            obtain ⟨_, _, h2, _, c2⟩ := k.1.1.row HPJ.out.1
            cases h2
            obtain ⟨_, _, h3, _, c3⟩ := k.2.1.1.row HPM.out.1
            cases h3
            have kx := k.1.2.1
            have ky := k.2.1.2.1
            have kz := k.2.2.1
            rw [ex1] at kx c1
            rw [ey1] at ky c3
            rw [ez1] at kz c2
            obtain ⟨_, _, h4, _, c4, c5, c6⟩ := kx.three HXYZ.out.1
            cases h4
            obtain ⟨_, _, h5, _, c7, c8, c9⟩ := ky.three HXYZ.out.2.1
            cases h5
            obtain ⟨_, _, h6, _, c10, c11, c12⟩ := kz.three HXYZ.out.2.2
            cases h6
            rw [HPK.out.2] at c1
            rw [HPJ.out.2] at c2
            rw [HPM.out.2] at c3
            exact ⟨⟨c1, c2, c3⟩, ⟨c4, c5, c6⟩, ⟨c7, c8, c9⟩, c10, c11, c12⟩)
          have RE : Hid (∀ W, Rds W RR → Rds W (rows x.x x.a) ∧ Rds W (rows y.x y.a) ∧ Rds W (rows z.x z.a)) := Lib.hid (fun W h => ⟨(RX.out W h).1.2.2, (RX.out W h).2.1.2.2, (RX.out W h).2.2.2⟩)
          clear hx hy hz hpj lj ex ey ez hN8 hN6 ex1 ey1 ez1 hX8 hX6
          have ne68 : g8 ≠ g6 := by have := HG8.out.2; omega
          have hle6 : w.heap.size ≤ g6 := HG6.out
          have hle8 : w.heap.size ≤ g8 := HG8.out.1
          go_wp2_with fail
          have KW := Lib.hid kb
          have KST := Keep3.start P_8
          refine wp_region_held_drew (S := fun w' => Keep3 wr w' g8) (by kernel_rfl) (KST.drew) (fun hHeld => ?_)
          have P_c : wr.drew.heap[g8]? = some (.cells (r3 X8 a8) 29 (0, 0)) := P_8
          have HRw : Rds wr.drew (rows X8 a8) := r8.below ((Below.refl _ _).drew)
          have HRR : Rds wr.drew RR := rr.below ((Below.refl _ _).drew)
          have HRK : Hid (∀ W, wr.grownBy W (some g8) → Rds W RR) := Lib.hid (fun W hW => grown_rds hW rr HO8.out)
          have hlt_g8 := rblk_lt P_8
          refine tk (i := 1) (v := ?vg1_1) rfl (by kernel_rfl) (fun _ _ _ h => h) (Or.inl ⟨by rfl, ?hg1_1⟩) hHeld ?_
          case hg1_1 => (intro w hSw; (try dsimp only at hSw); clear hSw; go_simp; (try with_reducible rfl))
          try simp only [ps]
          refine tk (i := 2) (v := ?vg1_2) rfl (by kernel_rfl) (fun _ _ _ h => h) (Or.inl ⟨by rfl, ?hg1_2⟩) hHeld ?_
          case hg1_2 => (intro w hSw; (try dsimp only at hSw); clear hSw; go_simp; (try with_reducible rfl))
          try simp only [ps]
          refine tk (i := 3) (v := ?vg1_3) rfl (by kernel_rfl) (fun _ _ _ h => h) (Or.inl ⟨by rfl, ?hg1_3⟩) hHeld ?_
          case hg1_3 => (intro w hSw; (try dsimp only at hSw); clear hSw; go_simp; (try with_reducible rfl))
          try simp only [ps]
          refine tk (i := 4) (v := ?vg1_4) rfl (by kernel_rfl) (fun _ _ _ h => h) (Or.inl ⟨by rfl, ?hg1_4⟩) hHeld ?_
          case hg1_4 => (intro w hSw; (try dsimp only at hSw); have t0 := (LD.out _ (HRK.out _ hSw.2)).1.1; clear hSw; go_simp; (try with_reducible rfl))
          try simp only [ps]
          refine tk (i := 5) (v := ?vg1_5) rfl (by kernel_rfl) (fun _ _ _ h => h) (Or.inl ⟨by rfl, ?hg1_5⟩) hHeld ?_
          case hg1_5 => (intro w hSw; (try dsimp only at hSw); clear hSw; go_simp; (try with_reducible rfl))
          try simp only [ps]
          refine tk (i := 6) (v := ?vg1_6) rfl (by kernel_rfl) (fun _ _ _ h => h) (Or.inl ⟨by rfl, ?hg1_6⟩) hHeld ?_
          case hg1_6 => (intro w hSw; (try dsimp only at hSw); clear hSw; go_simp; (try with_reducible rfl))
          try simp only [ps]
          refine tk (i := 7) (v := ?vg1_7) rfl (by kernel_rfl) (fun _ _ _ h => h) (Or.inl ⟨by rfl, ?hg1_7⟩) hHeld ?_
          case hg1_7 => (intro w hSw; (try dsimp only at hSw); obtain ⟨t0, t1, t2⟩ := (LD.out _ (HRK.out _ hSw.2)).2.1; clear hSw; go_simp; (try with_reducible rfl))
          try simp only [ps]
          refine rd1 (i := 0) (by kernel_rfl) rfl (fun K hK => ?_)
          have t0 := rblk_cell P_c 0
          have t1 := rblk_cell P_c 1
          have t2 := rblk_cell P_c 2
          go_simp
          clear t0 t1 t2
          refine hK.out _ _ hHeld (fun hH => ?_)
          clear hK K hH
          try simp only [ps]
          refine rd1 (i := 8) (by kernel_rfl) rfl (fun K hK => ?_)
          go_simp
          (go_at_call 21; ((with_reducible refine (HAs.out _ _ _ HRw (RE.out _ HRR).1).mono ?_); rintro e Wr1_8 ⟨b8, rfl, _, _, o3, _, hb⟩))
          have hz3 := hHeld.size
          refine hK.out _ _ (hHeld.below hb) (fun hH => ?_)
          replace hHeld := hH
          clear hK K hH
          replace P_c := rblk_below P_c hb
          replace HRw := HRw.below hb
          replace HRR := HRR.below hb
          clear hb
          try simp only [ps]
          refine rd1 (i := 9) (by kernel_rfl) rfl (fun K hK => ?_)
          have t0 := rblk_cell P_c 0
          have q0 := rblk_free P_c 0
          have t1 := rblk_cell P_c 1
          have q1 := rblk_free P_c 1
          have t2 := rblk_cell P_c 2
          have q2 := rblk_free P_c 2
          go_simp
          clear t0 t1 t2 q0 q1 q2
          refine hK.out _ _ (hHeld.put3 (.bool N8.p) (.slice b8.A N8.l.length b8.c) (.slice b8.D N8.m.length b8.d)) (fun hH => ?_)
          clear hK K hHeld
          have hHeld := hH
          clear hH
          have P_f : (((Wr1_8.setCell ⟨g8, 0, none⟩ (.bool N8.p)).setCell ⟨g8, 1, none⟩ (.slice b8.A N8.l.length b8.c)).setCell ⟨g8, 2, none⟩ (.slice b8.D N8.m.length b8.d)).heap[g8]? = some (.cells (r3 N8 b8) 29 (0, 0)) := rblk_set (rblk_set (rblk_set P_c 0 (.bool N8.p)) 1 (.slice b8.A N8.l.length b8.c)) 2 (.slice b8.D N8.m.length b8.d)
          replace o3 := owns_put3 (r := g8) o3 (.inl (Nat.lt_of_lt_of_le hlt_g8 hz3)) (.bool N8.p) (.slice b8.A N8.l.length b8.c) (.slice b8.D N8.m.length b8.d)
          try simp only [ps]
          refine wpAnyH_done (by kernel_rfl) ?_ _
          have P_8' := P_f
          have P_6' := hHeld.block P_6 ne68
          have kz := hHeld.base KW.out hle8
          have rr' := HRK.out _ hHeld.2
          have r6' := grown_rds hHeld.2 r6 off68
          have hz6 := HG8.out.2
          have f86 : OffG g6 (rows N8 b8) := offG_owns o3 (by have := hlt_g8; omega)
          have f8 : OffG g8 (rows N8 b8) := offG_owns o3 (by have := hlt_g8; omega)
          have r8' := o3.rds
          clear P_f P_c hHeld HRw HRR HRK P_8 P_6 r6 r8 rr off86 off8 hz3 o3 KW hlt_g8 hz6 KST kb
          generalize ((Wr1_8.setCell ⟨g8, 0, none⟩ (.bool N8.p)).setCell ⟨g8, 1, none⟩ (.slice b8.A N8.l.length b8.c)).setCell ⟨g8, 2, none⟩ (.slice b8.D N8.m.length b8.d) = Wa at P_8' P_6' kz rr' r6' r8' ⊢
          have P_8 := P_8'
          clear P_8'
          have P_6 := P_6'
          clear P_6'
          have kb := kz
          clear kz
          have rr := rr'
          clear rr'
          have r6 := r6'
          clear r6'
          have r8 := r8'
          clear r8'
          have off86 := f86
          clear f86
          have off8 := f8
          clear f8
          go_wp2_with fail
          have KW := Lib.hid kb
          have KST := Keep3.start P_6
          refine wp_region_held_drew (S := fun w' => Keep3 Wa w' g6) (by kernel_rfl) (KST.drew) (fun hHeld => ?_)
          have P_c : Wa.drew.heap[g6]? = some (.cells (r3 X6 a6) 29 (0, 0)) := P_6
          have HRw : Rds Wa.drew (rows X6 a6) := r6.below ((Below.refl _ _).drew)
          have HRR : Rds Wa.drew RR := rr.below ((Below.refl _ _).drew)
          have HRK : Hid (∀ W, Wa.grownBy W (some g6) → Rds W RR) := Lib.hid (fun W hW => grown_rds hW rr HO6.out)
          have hlt_g6 := rblk_lt P_6
          refine tk (i := 1) (v := ?vg2_1) rfl (by kernel_rfl) (fun _ _ _ h => h) (Or.inl ⟨by rfl, ?hg2_1⟩) hHeld ?_
          case hg2_1 => (intro w hSw; (try dsimp only at hSw); clear hSw; go_simp; (try with_reducible rfl))
          try simp only [ps]
          refine tk (i := 2) (v := ?vg2_2) rfl (by kernel_rfl) (fun _ _ _ h => h) (Or.inl ⟨by rfl, ?hg2_2⟩) hHeld ?_
          case hg2_2 => (intro w hSw; (try dsimp only at hSw); clear hSw; go_simp; (try with_reducible rfl))
          try simp only [ps]
          refine tk (i := 3) (v := ?vg2_3) rfl (by kernel_rfl) (fun _ _ _ h => h) (Or.inl ⟨by rfl, ?hg2_3⟩) hHeld ?_
          case hg2_3 => (intro w hSw; (try dsimp only at hSw); clear hSw; go_simp; (try with_reducible rfl))
          try simp only [ps]
          refine tk (i := 4) (v := ?vg2_4) rfl (by kernel_rfl) (fun _ _ _ h => h) (Or.inl ⟨by rfl, ?hg2_4⟩) hHeld ?_
          case hg2_4 => (intro w hSw; (try dsimp only at hSw); have t0 := (LD.out _ (HRK.out _ hSw.2)).1.2.2; clear hSw; go_simp; (try with_reducible rfl))
          try simp only [ps]
          refine tk (i := 5) (v := ?vg2_5) rfl (by kernel_rfl) (fun _ _ _ h => h) (Or.inl ⟨by rfl, ?hg2_5⟩) hHeld ?_
          case hg2_5 => (intro w hSw; (try dsimp only at hSw); clear hSw; go_simp; (try with_reducible rfl))
          try simp only [ps]
          refine tk (i := 6) (v := ?vg2_6) rfl (by kernel_rfl) (fun _ _ _ h => h) (Or.inl ⟨by rfl, ?hg2_6⟩) hHeld ?_
          case hg2_6 => (intro w hSw; (try dsimp only at hSw); clear hSw; go_simp; (try with_reducible rfl))
          try simp only [ps]
          refine tk (i := 7) (v := ?vg2_7) rfl (by kernel_rfl) (fun _ _ _ h => h) (Or.inl ⟨by rfl, ?hg2_7⟩) hHeld ?_
          case hg2_7 => (intro w hSw; (try dsimp only at hSw); obtain ⟨t0, t1, t2⟩ := (LD.out _ (HRK.out _ hSw.2)).2.2.1; clear hSw; go_simp; (try with_reducible rfl))
          try simp only [ps]
          refine rd1 (i := 0) (by kernel_rfl) rfl (fun K hK => ?_)
          have t0 := rblk_cell P_c 0
          have t1 := rblk_cell P_c 1
          have t2 := rblk_cell P_c 2
          go_simp
          clear t0 t1 t2
          refine hK.out _ _ hHeld (fun hH => ?_)
          clear hK K hH
          try simp only [ps]
          refine rd1 (i := 8) (by kernel_rfl) rfl (fun K hK => ?_)
          go_simp
          (go_at_call 21; ((with_reducible refine (HAa.out _ _ _ HRw (RE.out _ HRR).2.1).mono ?_); rintro e Wr2_8 ⟨b6, rfl, _, _, o3, _, hb⟩))
          have hz3 := hHeld.size
          refine hK.out _ _ (hHeld.below hb) (fun hH => ?_)
          replace hHeld := hH
          clear hK K hH
          replace P_c := rblk_below P_c hb
          replace HRw := HRw.below hb
          replace HRR := HRR.below hb
          clear hb
          try simp only [ps]
          refine rd1 (i := 9) (by kernel_rfl) rfl (fun K hK => ?_)
          have t0 := rblk_cell P_c 0
          have q0 := rblk_free P_c 0
          have t1 := rblk_cell P_c 1
          have q1 := rblk_free P_c 1
          have t2 := rblk_cell P_c 2
          have q2 := rblk_free P_c 2
          go_simp
          clear t0 t1 t2 q0 q1 q2
          refine hK.out _ _ (hHeld.put3 (.bool N6.p) (.slice b6.A N6.l.length b6.c) (.slice b6.D N6.m.length b6.d)) (fun hH => ?_)
          clear hK K hHeld
          have hHeld := hH
          clear hH
          have P_f : (((Wr2_8.setCell ⟨g6, 0, none⟩ (.bool N6.p)).setCell ⟨g6, 1, none⟩ (.slice b6.A N6.l.length b6.c)).setCell ⟨g6, 2, none⟩ (.slice b6.D N6.m.length b6.d)).heap[g6]? = some (.cells (r3 N6 b6) 29 (0, 0)) := rblk_set (rblk_set (rblk_set P_c 0 (.bool N6.p)) 1 (.slice b6.A N6.l.length b6.c)) 2 (.slice b6.D N6.m.length b6.d)
          replace o3 := owns_put3 (r := g6) o3 (.inl (Nat.lt_of_lt_of_le hlt_g6 hz3)) (.bool N6.p) (.slice b6.A N6.l.length b6.c) (.slice b6.D N6.m.length b6.d)
          try simp only [ps]
          refine wpAnyH_done (by kernel_rfl) ?_ _
          have P_6' := P_f
          have P_8' := hHeld.block P_8 ne68.symm
          have kz := hHeld.base KW.out hle6
          have rr' := HRK.out _ hHeld.2
          have r8' := grown_rds hHeld.2 r8 off86
          have hz6 := HG8.out.2
          have hg8lt := rblk_lt P_8
          have f6 : OffG g6 (rows N6 b6) := offG_owns o3 (by have := hlt_g6; omega)
          have f68 : OffG g8 (rows N6 b6) := offG_owns o3 (by omega)
          have r6' := o3.rds
          clear P_f P_c hHeld HRw HRR HRK P_8 P_6 r6 r8 rr off6 off68 hz3 o3 KW hlt_g6 hz6 KST hg8lt kb
          generalize ((Wr2_8.setCell ⟨g6, 0, none⟩ (.bool N6.p)).setCell ⟨g6, 1, none⟩ (.slice b6.A N6.l.length b6.c)).setCell ⟨g6, 2, none⟩ (.slice b6.D N6.m.length b6.d) = Wb at P_8' P_6' kz rr' r6' r8' ⊢
          have P_8 := P_8'
          clear P_8'
          have P_6 := P_6'
          clear P_6'
          have kb := kz
          clear kz
          have rr := rr'
          clear rr'
          have r6 := r6'
          clear r6'
          have r8 := r8'
          clear r8'
          have off6 := f6
          clear f6
          have off68 := f68
          clear f68
          go_wp2_with fail
          have KB := Lib.hid (Below.refl Wb.heap.size Wb)
          refine wp_region_held_drew (S := fun w' => Rds w' RR ∧ Below Wb.heap.size Wb w') (by kernel_rfl) ⟨rr.below ((Below.refl _ _).drew), (Below.refl _ _).drew⟩ (fun hHeld => ?_)
          refine tk (i := 0) (v := ?vg3_1) rfl (by kernel_rfl) (fun _ _ _ h => h) (Or.inl ⟨by rfl, ?hg3_1⟩) hHeld ?_
          case hg3_1 => (intro w hSw; (try dsimp only at hSw); clear hSw; go_simp; (try with_reducible rfl))
          try simp only [ps]
          refine tk (i := 1) (v := ?vg3_2) rfl (by kernel_rfl) (fun _ _ _ h => h) (Or.inl ⟨by rfl, ?hg3_2⟩) hHeld ?_
          case hg3_2 => (intro w hSw; (try dsimp only at hSw); clear hSw; go_simp; (try with_reducible rfl))
          try simp only [ps]
          refine tk (i := 2) (v := ?vg3_3) rfl (by kernel_rfl) (fun _ _ _ h => h) (Or.inl ⟨by rfl, ?hg3_3⟩) hHeld ?_
          case hg3_3 => (intro w hSw; (try dsimp only at hSw); clear hSw; go_simp; (try with_reducible rfl))
          try simp only [ps]
          refine tk (i := 3) (v := ?vg3_4) rfl (by kernel_rfl) (fun _ _ _ h => h) (Or.inl ⟨by rfl, ?hg3_4⟩) hHeld ?_
          case hg3_4 => (intro w hSw; (try dsimp only at hSw); have t0 := (LD.out _ hSw.1).1.1; clear hSw; go_simp; (try with_reducible rfl))
          try simp only [ps]
          refine tk (i := 4) (v := ?vg3_5) rfl (by kernel_rfl) (fun _ _ _ h => h) (Or.inl ⟨by rfl, ?hg3_5⟩) hHeld ?_
          case hg3_5 => (intro w hSw; (try dsimp only at hSw); clear hSw; go_simp; (try with_reducible rfl))
          try simp only [ps]
          refine tk (i := 5) (v := ?vg3_6) rfl (by kernel_rfl) (fun _ _ _ h => h) (Or.inl ⟨by rfl, ?hg3_6⟩) hHeld ?_
          case hg3_6 => (intro w hSw; (try dsimp only at hSw); clear hSw; go_simp; (try with_reducible rfl))
          try simp only [ps]
          refine tk (i := 6) (v := ?vg3_7) rfl (by kernel_rfl) (fun _ _ _ h => h) (Or.inl ⟨by rfl, ?hg3_7⟩) hHeld ?_
          case hg3_7 => (intro w hSw; (try dsimp only at hSw); obtain ⟨t0, t1, t2⟩ := (LD.out _ hSw.1).2.1; clear hSw; go_simp; (try with_reducible rfl))
          try simp only [ps]
          refine tk (i := 7) (v := ?vg3_8) rfl (by kernel_rfl) (fun _ _ _ h => h) (Or.inl ⟨by rfl, ?hg3_8⟩) hHeld ?_
          case hg3_8 => (intro w hSw; (try dsimp only at hSw); clear hSw; go_simp; (try with_reducible rfl))
          try simp only [ps]
          refine tk (i := 8) (v := ?vg3_9) rfl (by kernel_rfl) (fun _ _ _ h => h) (Or.inl ⟨by rfl, ?hg3_9⟩) hHeld ?_
          case hg3_9 => (intro w hSw; (try dsimp only at hSw); clear hSw; go_simp; (try with_reducible rfl))
          try simp only [ps]
          refine tk (i := 9) (v := ?vg3_10) rfl (by kernel_rfl) (fun _ _ _ h => h) (Or.inl ⟨by rfl, ?hg3_10⟩) hHeld ?_
          case hg3_10 => (intro w hSw; (try dsimp only at hSw); clear hSw; go_simp; (try with_reducible rfl))
          try simp only [ps]
          refine tk (i := 10) (v := ?vg3_11) rfl (by kernel_rfl) (fun _ _ _ h => h) (Or.inl ⟨by rfl, ?hg3_11⟩) hHeld ?_
          case hg3_11 => (intro w hSw; (try dsimp only at hSw); have t0 := (LD.out _ hSw.1).1.2.1; clear hSw; go_simp; (try with_reducible rfl))
          try simp only [ps]
          refine tk (i := 11) (v := ?vg3_12) rfl (by kernel_rfl) (fun _ _ _ h => h) (Or.inl ⟨by rfl, ?hg3_12⟩) hHeld ?_
          case hg3_12 => (intro w hSw; (try dsimp only at hSw); clear hSw; go_simp; (try with_reducible rfl))
          try simp only [ps]
          refine tk (i := 12) (v := ?vg3_13) rfl (by kernel_rfl) (fun _ _ _ h => h) (Or.inl ⟨by rfl, ?hg3_13⟩) hHeld ?_
          case hg3_13 => (intro w hSw; (try dsimp only at hSw); clear hSw; go_simp; (try with_reducible rfl))
          try simp only [ps]
          refine tk (i := 13) (v := ?vg3_14) rfl (by kernel_rfl) (fun _ _ _ h => h) (Or.inl ⟨by rfl, ?hg3_14⟩) hHeld ?_
          case hg3_14 => (intro w hSw; (try dsimp only at hSw); obtain ⟨t0, t1, t2⟩ := (LD.out _ hSw.1).2.2.2; clear hSw; go_simp; (try with_reducible rfl))
          try simp only [ps]
          refine rd1 (i := 14) (by kernel_rfl) rfl (fun K hK => ?_)
          go_simp
          (go_at_call 20; ((with_reducible refine (HEe.out _ _ _ (RE.out _ hHeld.1).1 (RE.out _ hHeld.1).2.2).mono ?_); rintro e Wr3_15 ⟨rfl, hb⟩))
          refine hK.out _ _ ⟨hHeld.1.below hb, bt hHeld.2 hb⟩ (fun hH => ?_)
          replace hHeld := hH
          clear hK K hH
          clear hb
          try simp only [ps]
          refine tk (i := 15) (v := ?vg3_16) rfl (by kernel_rfl) (fun _ _ _ h => h) (Or.inl ⟨by rfl, ?hg3_16⟩) hHeld ?_
          case hg3_16 => (intro w hSw; (try dsimp only at hSw); clear hSw; go_simp; (try with_reducible rfl))
          try simp only [ps]
          refine wpAnyH_done (by kernel_rfl) ?_ _
          have kB := hHeld.2
          have HF := Lib.hid (And.intro (And.intro (rblk_below P_8 kB) (rblk_below P_6 kB)) (And.intro (And.intro (r8.below kB) (And.intro off86 off8)) (And.intro (And.intro (r6.below kB) (And.intro off6 off68)) (And.intro (rr.below kB) (bt kb kB)))))
          clear P_8 P_6 r8 off86 off8 r6 off6 off68 rr kb hHeld kB
          go_wp2
          go_roundw
          case rel => exact ⟨j + 1, N8, N6, b8, b6, hlj, by go_num, HNN.out.1, HNN.out.2, HF.out⟩
          case measure => simp [intOf]; omega
        · obtain rfl : j = 3 := by omega
          have HSs := Lib.hid (fun a W h => HSg.out i hlt a W h)
          have HOo := Lib.hid (fun a W h => HOk.out i hlt a W h)
          rw [← hX8] at HSs HOo
          have e6 : X6 = AX (3 * (i + 1)) := hX6
          have HX6 := Lib.hid e6
          clear hX8 hX6 e6
          have t0 := rblk_cell P_8 0
          have t1 := rblk_cell P_8 1
          have t2 := rblk_cell P_8 2
          go_wp2_with fail
          clear t0 t1 t2
          refine (HSs.out _ _ r8).mono ?_
          rintro e Wp ⟨rfl, hb⟩
          replace P_8 := rblk_below P_8 hb
          replace P_6 := rblk_below P_6 hb
          replace r8 := r8.below hb
          replace r6 := r6.below hb
          replace rr := rr.below hb
          replace kb := bt kb hb
          clear hb
          have t0 := rblk_cell P_8 0
          have t1 := rblk_cell P_8 1
          have t2 := rblk_cell P_8 2
          go_wp2_with fail
          clear t0 t1 t2
          refine (HOo.out _ _ r8).mono ?_
          rintro e Wq ⟨rfl, hb⟩
          replace P_6 := rblk_below P_6 hb
          replace r6 := r6.below hb
          replace rr := rr.below hb
          replace kb := bt kb hb
          clear hb
          have HF := Lib.hid (And.intro P_6 (And.intro r6 (And.intro off6 (And.intro rr kb))))
          clear P_8 P_6 r8 r6 off86 off8 off6 off68 rr kb
          go_wp2
          go_roundw
          case rel => exact ⟨i + 1, X6, a6, hlt, by go_num, HX6.out, HF.out⟩
          case measure => simp [intOf]; omega
    · obtain rfl : i = 3 := by omega
      have e6 : X6 = AX 9 := hX6
      rw [← e6] at HAr HEq
      clear e6 hX6
      go_wp2_with fail
      refine wp_region_held_drew (S := fun w' => w'.heap[g6]? = some (.cells (r3 X6 a6) 29 (0, 0)) ∧ Rds w' (rows X6 a6) ∧ Rds w' RR ∧ Below w.heap.size w w') (by kernel_rfl) ⟨P_6, r6.below ((Below.refl _ _).drew), rr.below ((Below.refl _ _).drew), bt kb ((Below.refl _ _).drew)⟩ (fun hHeld => ?_)
      refine tk (i := 0) (v := ?vg4_1) rfl (by kernel_rfl) (fun _ _ _ h => h) (Or.inl ⟨by rfl, ?hg4_1⟩) hHeld ?_
      case hg4_1 => (intro w hSw; (try dsimp only at hSw); have t0 := rblk_cell hSw.1 0; have t1 := rblk_cell hSw.1 1; have t2 := rblk_cell hSw.1 2; clear hSw; go_simp; (try with_reducible rfl))
      try simp only [ps]
      refine tk (i := 1) (v := ?vg4_2) rfl (by kernel_rfl) (fun _ _ _ h => h) (Or.inl ⟨by rfl, ?hg4_2⟩) hHeld ?_
      case hg4_2 => (intro w hSw; (try dsimp only at hSw); clear hSw; go_simp; (try with_reducible rfl))
      try simp only [ps]
      refine rd1 (i := 2) (by kernel_rfl) rfl (fun K hK => ?_)
      go_simp
      (go_at_call 30; ((with_reducible refine (HAr.out _ (RRL.out _ hHeld.2.2.1).hd (RRL.out _ hHeld.2.2.1).tl).mono ?_); rintro e Wr4_3 ⟨a9, rfl, _, _, o9, _, hb⟩))
      refine hK.out _ _ ⟨rblk_below hHeld.1 hb, hHeld.2.1.below hb, hHeld.2.2.1.below hb, bt hHeld.2.2.2 hb⟩ (fun hH => ?_)
      replace hHeld := hH
      clear hK K hH
      replace o9 := o9.rds
      clear hb
      try simp only [ps]
      refine rd1 (i := 3) (by kernel_rfl) rfl (fun K hK => ?_)
      go_simp
      (go_at_call 20; ((with_reducible refine (HEq.out _ _ _ hHeld.2.1 o9).mono ?_); rintro e Wr4_4 ⟨rfl, hb⟩))
      refine hK.out _ _ ⟨rblk_below hHeld.1 hb, hHeld.2.1.below hb, hHeld.2.2.1.below hb, bt hHeld.2.2.2 hb⟩ (fun hH => ?_)
      replace hHeld := hH
      clear hK K hH
      replace o9 := o9.below hb
      clear hb
      try simp only [ps]
      refine tk (i := 4) (v := ?vg4_5) rfl (by kernel_rfl) (fun _ _ _ h => h) (Or.inl ⟨by rfl, ?hg4_5⟩) hHeld ?_
      case hg4_5 => (intro w hSw; (try dsimp only at hSw); clear hSw; go_simp; (try with_reducible rfl))
      try simp only [ps]
      refine wpAnyH_done (by kernel_rfl) ?_ _
      have kz := hHeld.2.2.2
      clear hHeld
      go_wp2
      go_ret
      exact ⟨rfl, kz⟩
end Go.Proofs.YtppdholccpgcpaaGreat
