/-
  The walk of the exact law of SameProblem.
-/
import Derived.Test.YtoknolholccamaaPbT
import Derived.Test.YtoknolholccamaaPbE
import Derived.Test.YtoknolholccamaaPbP
import Derived.Test.YtoknolholccamaaPbR
import Derived.Test.YtoknolholccamaaLawM
namespace Go.Proofs.Ytoknolholccamaa
open Go.ChangeShapes Go.WideShapes Go.ChangeAt Go.RowKit
open Go.ChangeMaps (open_string shut_string)
set_option linter.unusedVariables false
set_option linter.unusedSimpArgs false
set_option maxRecDepth 4000

theorem PbShort_dat {p q : PB} (h : PbDat q = PbDat p) (hS : PbShort p) : PbShort q := by
  obtain ⟨d1, d2, d3⟩ := PbDat.parts h
  exact ⟨datM_short d1 hS.1, ⟨by rw [datQ_len d2]; exact hS.2.1.1, datQ_shortX d2 hS.2.1.2⟩, by rw [datQ_len d3]; exact hS.2.2.1, datQ_shortX d3 hS.2.2.2⟩
theorem PbRd.drew {w : World} {p : PB} (h : PbRd w p) : PbRd w.drew p := h.below (Below.refl _ _).drew
set_option maxHeartbeats 4000000 in
theorem law_samePb (p q : PB) (w : World) (hL : PbLen p) (hL' : PbLen q) (hR : PbRd w p) (hR' : PbRd w q) :
    Calls Try.prog 3 #[.agg #[.slice p.m.A p.m.L.length p.m.c, .slice p.m.B p.m.T.length p.m.d, .slice p.E p.K.length p.e, .slice p.G p.F.length p.g], .agg #[.slice q.m.A q.m.L.length q.m.c, .slice q.m.B q.m.T.length q.m.d, .slice q.E q.K.length q.e, .slice q.G q.F.length q.g]] w (fun e w' => e = .returned (.bool true) ∧ Below w.heap.size w w') := by
  have hz1 := PbSz_pos p
  have hz2 := PbSz_pos q
  obtain ⟨l1, hl1⟩ : ∃ l : Int, l = 1048576 - PbSz p := ⟨_, rfl⟩
  by_cases hg : PbSz p ≤ 1048576
  case neg =>
    have SZ := Lib.hid (fun W (hb : Below w.heap.size w W) => szPb_n p 1048576 W hL (by omega) (by omega) hg (hR.below hb))
    clear hg hl1 hR hR' hL hL' hz1 hz2
    go_enter Try.func3, Try.ntmps3
    go_wp2_with fail
    have kb := ba2 w (.cells #[.slice p.m.A p.m.L.length p.m.c, .slice p.m.B p.m.T.length p.m.d, .slice p.E p.K.length p.e, .slice p.G p.F.length p.g] 28) (.cells #[.slice q.m.A q.m.L.length q.m.c, .slice q.m.B q.m.T.length q.m.d, .slice q.E q.K.length q.e, .slice q.G q.F.length q.g] 28)
    obtain ⟨P_a, P_b⟩ := blocks2 w (.cells #[.slice p.m.A p.m.L.length p.m.c, .slice p.m.B p.m.T.length p.m.d, .slice p.E p.K.length p.e, .slice p.G p.F.length p.g] 28) (.cells #[.slice q.m.A q.m.L.length q.m.c, .slice q.m.B q.m.T.length q.m.d, .slice q.E q.K.length q.e, .slice q.G q.F.length q.g] 28)
    generalize (w.alloc (.cells #[.slice p.m.A p.m.L.length p.m.c, .slice p.m.B p.m.T.length p.m.d, .slice p.E p.K.length p.e, .slice p.G p.F.length p.g] 28)).alloc (.cells #[.slice q.m.A q.m.L.length q.m.c, .slice q.m.B q.m.T.length q.m.d, .slice q.E q.K.length q.e, .slice q.G q.F.length q.g] 28) = W1 at kb P_a P_b ⊢
    refine (SZ.out _ kb).mono ?_
    rintro e W2 ⟨rfl, hb⟩
    have hzW2 : W1.heap.size ≤ W2.heap.size := hb.size
    replace P_a := rblk_below P_a hb
    replace P_b := rblk_below P_b hb
    replace kb := bt kb hb
    clear hb
    go_wp2
    go_ret
    exact ⟨rfl, kb⟩
  have SZ := Lib.hid (fun W (hb : Below w.heap.size w W) => szPb_y p 1048576 W (by omega) (by omega) hg (hR.below hb))
  rw [← hl1] at SZ
  have hs1 : ¬ l1 < 0 := by omega
  by_cases hg' : PbSz q ≤ l1
  case neg =>
    have SZ2 := Lib.hid (fun W (hb : Below w.heap.size w W) => szPb_n q l1 W hL' (by omega) (by omega) hg' (hR'.below hb))
    clear hg hg' hl1 hR hR' hL hL' hz1 hz2
    go_enter Try.func3, Try.ntmps3
    go_wp2_with fail
    have kb := ba2 w (.cells #[.slice p.m.A p.m.L.length p.m.c, .slice p.m.B p.m.T.length p.m.d, .slice p.E p.K.length p.e, .slice p.G p.F.length p.g] 28) (.cells #[.slice q.m.A q.m.L.length q.m.c, .slice q.m.B q.m.T.length q.m.d, .slice q.E q.K.length q.e, .slice q.G q.F.length q.g] 28)
    obtain ⟨P_a, P_b⟩ := blocks2 w (.cells #[.slice p.m.A p.m.L.length p.m.c, .slice p.m.B p.m.T.length p.m.d, .slice p.E p.K.length p.e, .slice p.G p.F.length p.g] 28) (.cells #[.slice q.m.A q.m.L.length q.m.c, .slice q.m.B q.m.T.length q.m.d, .slice q.E q.K.length q.e, .slice q.G q.F.length q.g] 28)
    generalize (w.alloc (.cells #[.slice p.m.A p.m.L.length p.m.c, .slice p.m.B p.m.T.length p.m.d, .slice p.E p.K.length p.e, .slice p.G p.F.length p.g] 28)).alloc (.cells #[.slice q.m.A q.m.L.length q.m.c, .slice q.m.B q.m.T.length q.m.d, .slice q.E q.K.length q.e, .slice q.G q.F.length q.g] 28) = W1 at kb P_a P_b ⊢
    refine (SZ.out _ kb).mono ?_
    rintro e W2 ⟨rfl, hb⟩
    have hzW2 : W1.heap.size ≤ W2.heap.size := hb.size
    replace P_a := rblk_below P_a hb
    replace P_b := rblk_below P_b hb
    replace kb := bt kb hb
    clear hb
    have c_b0 : W2.cell? ⟨w.heap.size + 1, 0, none⟩ = some (.slice q.m.A q.m.L.length q.m.c) := rblk_cell P_b 0
    have c_b1 : W2.cell? ⟨w.heap.size + 1, 1, none⟩ = some (.slice q.m.B q.m.T.length q.m.d) := rblk_cell P_b 1
    have c_b2 : W2.cell? ⟨w.heap.size + 1, 2, none⟩ = some (.slice q.E q.K.length q.e) := rblk_cell P_b 2
    have c_b3 : W2.cell? ⟨w.heap.size + 1, 3, none⟩ = some (.slice q.G q.F.length q.g) := rblk_cell P_b 3
    go_wp2_with fail
    clear c_b0 c_b1 c_b2 c_b3
    refine (SZ2.out _ kb).mono ?_
    rintro e W3 ⟨rfl, hb⟩
    have hzW3 : W2.heap.size ≤ W3.heap.size := hb.size
    replace P_a := rblk_below P_a hb
    replace P_b := rblk_below P_b hb
    replace kb := bt kb hb
    clear hb
    go_wp2
    go_ret
    exact ⟨rfl, kb⟩
  have SZ2 := Lib.hid (fun W (hb : Below w.heap.size w W) => szPb_y q l1 W (by omega) (by omega) hg' (hR'.below hb))
  obtain ⟨l2, hl2⟩ : ∃ l : Int, l = l1 - PbSz q := ⟨_, rfl⟩
  rw [← hl2] at SZ2
  have hs2 : ¬ l2 < 0 := by omega
  have hp := PbSz_short hg (Int.le_refl _)
  have hq := PbSz_short hg' (by omega)
  have T := Lib.hid (fun W (hb : Below w.heap.size w W) => toPb_p p W hp (hR.below hb))
  have TN := Lib.hid (fun W (hb : Below w.heap.size w W) => toPb_p q W hq (hR'.below hb))
  have E := Lib.hid (fun (N K : PB) W hd hd' h1 h2 => eqPb_t p N K W hp hd hd' h1 h2)
  have EN := Lib.hid (fun (N K : PB) W hd hd' h1 h2 => eqPb_t q N K W hq hd hd' h1 h2)
  obtain ⟨r, hr⟩ : ∃ r, r = PbSame p q := ⟨_, rfl⟩
  have HS : Hid (∀ (M N : PB) (W : World), PbDat M = PbDat p → PbDat N = PbDat q → PbRd W M → PbRd W N → Calls Try.prog 5 #[.agg #[.slice M.m.A M.m.L.length M.m.c, .slice M.m.B M.m.T.length M.m.d, .slice M.E M.K.length M.e, .slice M.G M.F.length M.g], .agg #[.slice N.m.A N.m.L.length N.m.c, .slice N.m.B N.m.T.length N.m.d, .slice N.E N.K.length N.e, .slice N.G N.F.length N.g]] W (fun e w' => e = .returned (.bool r) ∧ Below W.heap.size W w')) := Lib.hid (fun M N W hd hd' h1 h2 => by
    have X := spec_pbSame M N W (PbShort_dat hd hp) (PbShort_dat hd' hq) h1 h2
    rw [PbSame_dat hd hd', ← hr] at X; exact X)
  have HI : Hid (∀ (M N : PB) (W : World), PbDat M = PbDat p → PbDat N = PbDat q → (∀ x, x ∈ N.m.L → Pin x.a ∧ Pin x.b) → PbRd W M → PbRd W N → Calls Try.prog 7 #[.agg #[.slice M.m.A M.m.L.length M.m.c, .slice M.m.B M.m.T.length M.m.d, .slice M.E M.K.length M.e, .slice M.G M.F.length M.g], .agg #[.slice N.m.A N.m.L.length N.m.c, .slice N.m.B N.m.T.length N.m.d, .slice N.E N.K.length N.e, .slice N.G N.F.length N.g]] W (fun e w' => e = .returned (.bool r) ∧ Below W.heap.size W w')) := Lib.hid (fun M N W hd hd' hx h1 h2 => by
    have X := impl_pbSame M N W (PbShort_dat hd hp) (PbShort_dat hd' hq) hx h1 h2
    rw [PbSame_dat hd hd', ← hr] at X; exact X)
  have q1 : (r != r) = false := by simp
  clear hr hg hg' hl1 hl2 hR hR' hL hL' hz1 hz2 hp hq
  unfold PbMade at T TN
  go_enter Try.func3, Try.ntmps3
  go_wp2_with fail
  have kb := ba2 w (.cells #[.slice p.m.A p.m.L.length p.m.c, .slice p.m.B p.m.T.length p.m.d, .slice p.E p.K.length p.e, .slice p.G p.F.length p.g] 28) (.cells #[.slice q.m.A q.m.L.length q.m.c, .slice q.m.B q.m.T.length q.m.d, .slice q.E q.K.length q.e, .slice q.G q.F.length q.g] 28)
  obtain ⟨P_a, P_b⟩ := blocks2 w (.cells #[.slice p.m.A p.m.L.length p.m.c, .slice p.m.B p.m.T.length p.m.d, .slice p.E p.K.length p.e, .slice p.G p.F.length p.g] 28) (.cells #[.slice q.m.A q.m.L.length q.m.c, .slice q.m.B q.m.T.length q.m.d, .slice q.E q.K.length q.e, .slice q.G q.F.length q.g] 28)
  generalize (w.alloc (.cells #[.slice p.m.A p.m.L.length p.m.c, .slice p.m.B p.m.T.length p.m.d, .slice p.E p.K.length p.e, .slice p.G p.F.length p.g] 28)).alloc (.cells #[.slice q.m.A q.m.L.length q.m.c, .slice q.m.B q.m.T.length q.m.d, .slice q.E q.K.length q.e, .slice q.G q.F.length q.g] 28) = W1 at kb P_a P_b ⊢
  have hzW1 := kb.size
  refine (SZ.out _ kb).mono ?_
  rintro e W2 ⟨rfl, hb⟩
  have hzW2 : W1.heap.size ≤ W2.heap.size := hb.size
  replace P_a := rblk_below P_a hb
  replace P_b := rblk_below P_b hb
  replace kb := bt kb hb
  clear hb
  have c_b0 : W2.cell? ⟨w.heap.size + 1, 0, none⟩ = some (.slice q.m.A q.m.L.length q.m.c) := rblk_cell P_b 0
  have c_b1 : W2.cell? ⟨w.heap.size + 1, 1, none⟩ = some (.slice q.m.B q.m.T.length q.m.d) := rblk_cell P_b 1
  have c_b2 : W2.cell? ⟨w.heap.size + 1, 2, none⟩ = some (.slice q.E q.K.length q.e) := rblk_cell P_b 2
  have c_b3 : W2.cell? ⟨w.heap.size + 1, 3, none⟩ = some (.slice q.G q.F.length q.g) := rblk_cell P_b 3
  go_wp2_with fail
  clear c_b0 c_b1 c_b2 c_b3
  refine (SZ2.out _ kb).mono ?_
  rintro e W3 ⟨rfl, hb⟩
  have hzW3 : W2.heap.size ≤ W3.heap.size := hb.size
  replace P_a := rblk_below P_a hb
  replace P_b := rblk_below P_b hb
  replace kb := bt kb hb
  clear hb
  go_wp2_with fail
  have SB : Hid (∀ w', Below W3.heap.size W3 w' → (w'.cell? ⟨w.heap.size, 0, none⟩ = some (.slice p.m.A p.m.L.length p.m.c) ∧ w'.cell? ⟨w.heap.size, 1, none⟩ = some (.slice p.m.B p.m.T.length p.m.d) ∧ w'.cell? ⟨w.heap.size, 2, none⟩ = some (.slice p.E p.K.length p.e) ∧ w'.cell? ⟨w.heap.size, 3, none⟩ = some (.slice p.G p.F.length p.g) ∧ w'.cell? ⟨w.heap.size + 1, 0, none⟩ = some (.slice q.m.A q.m.L.length q.m.c) ∧ w'.cell? ⟨w.heap.size + 1, 1, none⟩ = some (.slice q.m.B q.m.T.length q.m.d) ∧ w'.cell? ⟨w.heap.size + 1, 2, none⟩ = some (.slice q.E q.K.length q.e) ∧ w'.cell? ⟨w.heap.size + 1, 3, none⟩ = some (.slice q.G q.F.length q.g) ∧ Below W3.heap.size W3 w')) := Lib.hid (fun w' hB => ⟨rblk_cell (rblk_below P_a hB) 0, rblk_cell (rblk_below P_a hB) 1, rblk_cell (rblk_below P_a hB) 2, rblk_cell (rblk_below P_a hB) 3, rblk_cell (rblk_below P_b hB) 0, rblk_cell (rblk_below P_b hB) 1, rblk_cell (rblk_below P_b hB) 2, rblk_cell (rblk_below P_b hB) 3, hB⟩)
  have kr := kb
  go_region_held3 (fun w' => w'.cell? ⟨w.heap.size, 0, none⟩ = some (.slice p.m.A p.m.L.length p.m.c) ∧ w'.cell? ⟨w.heap.size, 1, none⟩ = some (.slice p.m.B p.m.T.length p.m.d) ∧ w'.cell? ⟨w.heap.size, 2, none⟩ = some (.slice p.E p.K.length p.e) ∧ w'.cell? ⟨w.heap.size, 3, none⟩ = some (.slice p.G p.F.length p.g) ∧ w'.cell? ⟨w.heap.size + 1, 0, none⟩ = some (.slice q.m.A q.m.L.length q.m.c) ∧ w'.cell? ⟨w.heap.size + 1, 1, none⟩ = some (.slice q.m.B q.m.T.length q.m.d) ∧ w'.cell? ⟨w.heap.size + 1, 2, none⟩ = some (.slice q.E q.K.length q.e) ∧ w'.cell? ⟨w.heap.size + 1, 3, none⟩ = some (.slice q.G q.F.length q.g) ∧ Below W3.heap.size W3 w')
    (first | (with_reducible exact SB.out _ (Below.refl _ _).drew) | (with_reducible exact SB.out _ (Below.refl _ _)) | (go_split_ands; with_reducible exact SB.out _ (bt (by assumption : Below W3.heap.size W3 _) hb)))
    (first | (go_at_call 6; go_split_ands; ((with_reducible refine (T.out _ (bt kr (by assumption : Below W3.heap.size W3 _))).mono ?_); rintro e Wa ⟨U, rfl, hdU, hjU, oU, hb⟩)) | (go_at_call 6; go_split_ands; ((with_reducible refine (TN.out _ (bt kr (by assumption : Below W3.heap.size W3 _))).mono ?_); rintro e Wb ⟨V, rfl, hdV, hjV, oV, hb⟩; (first | (with_reducible replace oU := oU.below hb) | (with_reducible replace oU := (oU.drew).below hb)))) | (go_at_call 5; go_split_ands; ((with_reducible refine (HS.out U V _ hdU hdV (by first | with_reducible exact oU | with_reducible exact oU.drew | with_reducible exact (oU.below (ba1 _ _)) | with_reducible exact (oU.below (ba1 _ _)).drew) (by first | with_reducible exact oV | with_reducible exact oV.drew | with_reducible exact (oV.below (ba1 _ _)) | with_reducible exact (oV.below (ba1 _ _)).drew)).mono ?_); rintro e W4 ⟨rfl, hb⟩; have KB := bt (by assumption : Below W3.heap.size W3 _) hb)))
  replace P_a := rblk_below P_a KB
  replace P_b := rblk_below P_b KB
  replace kb := bt kr KB
  have hzW4 : W3.heap.size ≤ W4.heap.size := KB.size
  clear KB kr SB oU oV
  try clear ‹_ ∧ _›
  have c_a0 : W4.cell? ⟨w.heap.size, 0, none⟩ = some (.slice p.m.A p.m.L.length p.m.c) := rblk_cell P_a 0
  have c_a1 : W4.cell? ⟨w.heap.size, 1, none⟩ = some (.slice p.m.B p.m.T.length p.m.d) := rblk_cell P_a 1
  have c_a2 : W4.cell? ⟨w.heap.size, 2, none⟩ = some (.slice p.E p.K.length p.e) := rblk_cell P_a 2
  have c_a3 : W4.cell? ⟨w.heap.size, 3, none⟩ = some (.slice p.G p.F.length p.g) := rblk_cell P_a 3
  go_wp2_with fail
  clear c_a0 c_a1 c_a2 c_a3
  refine (T.out _ kb).mono ?_
  rintro e W5 ⟨M, rfl, hdM, hjM, oM, hb⟩
  have hzW5 : W4.heap.size ≤ W5.heap.size := hb.size
  replace P_a := rblk_below P_a hb
  replace P_b := rblk_below P_b hb
  replace kb := bt kb hb
  clear hb
  have P_x := heap_alloc_new W5 (.cells #[.slice M.m.A M.m.L.length M.m.c, .slice M.m.B M.m.T.length M.m.d, .slice M.E M.K.length M.e, .slice M.G M.F.length M.g] 37)
  have hb := ba1 W5 (.cells #[.slice M.m.A M.m.L.length M.m.c, .slice M.m.B M.m.T.length M.m.d, .slice M.E M.K.length M.e, .slice M.G M.F.length M.g] 37)
  replace P_a := rblk_below P_a hb
  replace P_b := rblk_below P_b hb
  replace oM := oM.below hb
  replace kb := bt kb hb
  clear hb
  have hzW6 : W5.heap.size < (W5.alloc (.cells #[.slice M.m.A M.m.L.length M.m.c, .slice M.m.B M.m.T.length M.m.d, .slice M.E M.K.length M.e, .slice M.G M.F.length M.g] 37)).heap.size := by rw [sz1]; omega
  have c_b0 : (W5.alloc (.cells #[.slice M.m.A M.m.L.length M.m.c, .slice M.m.B M.m.T.length M.m.d, .slice M.E M.K.length M.e, .slice M.G M.F.length M.g] 37)).cell? ⟨w.heap.size + 1, 0, none⟩ = some (.slice q.m.A q.m.L.length q.m.c) := rblk_cell P_b 0
  have c_b1 : (W5.alloc (.cells #[.slice M.m.A M.m.L.length M.m.c, .slice M.m.B M.m.T.length M.m.d, .slice M.E M.K.length M.e, .slice M.G M.F.length M.g] 37)).cell? ⟨w.heap.size + 1, 1, none⟩ = some (.slice q.m.B q.m.T.length q.m.d) := rblk_cell P_b 1
  have c_b2 : (W5.alloc (.cells #[.slice M.m.A M.m.L.length M.m.c, .slice M.m.B M.m.T.length M.m.d, .slice M.E M.K.length M.e, .slice M.G M.F.length M.g] 37)).cell? ⟨w.heap.size + 1, 2, none⟩ = some (.slice q.E q.K.length q.e) := rblk_cell P_b 2
  have c_b3 : (W5.alloc (.cells #[.slice M.m.A M.m.L.length M.m.c, .slice M.m.B M.m.T.length M.m.d, .slice M.E M.K.length M.e, .slice M.G M.F.length M.g] 37)).cell? ⟨w.heap.size + 1, 3, none⟩ = some (.slice q.G q.F.length q.g) := rblk_cell P_b 3
  go_wp2_with fail
  clear c_b0 c_b1 c_b2 c_b3
  generalize W5.alloc (.cells #[.slice M.m.A M.m.L.length M.m.c, .slice M.m.B M.m.T.length M.m.d, .slice M.E M.K.length M.e, .slice M.G M.F.length M.g] 37) = W6 at kb hzW6 P_a P_b P_x oM ⊢
  refine (TN.out _ kb).mono ?_
  rintro e W7 ⟨N, rfl, hdN, hjN, oN, hb⟩
  have hzW7 : W6.heap.size ≤ W7.heap.size := hb.size
  replace P_a := rblk_below P_a hb
  replace P_b := rblk_below P_b hb
  replace P_x := rblk_below P_x hb
  replace oM := oM.below hb
  replace kb := bt kb hb
  clear hb
  have P_y := heap_alloc_new W7 (.cells #[.slice N.m.A N.m.L.length N.m.c, .slice N.m.B N.m.T.length N.m.d, .slice N.E N.K.length N.e, .slice N.G N.F.length N.g] 37)
  have hb := ba1 W7 (.cells #[.slice N.m.A N.m.L.length N.m.c, .slice N.m.B N.m.T.length N.m.d, .slice N.E N.K.length N.e, .slice N.G N.F.length N.g] 37)
  replace P_a := rblk_below P_a hb
  replace P_b := rblk_below P_b hb
  replace P_x := rblk_below P_x hb
  replace oM := oM.below hb
  replace oN := oN.below hb
  replace kb := bt kb hb
  clear hb
  have hzW8 : W7.heap.size < (W7.alloc (.cells #[.slice N.m.A N.m.L.length N.m.c, .slice N.m.B N.m.T.length N.m.d, .slice N.E N.K.length N.e, .slice N.G N.F.length N.g] 37)).heap.size := by rw [sz1]; omega
  have c_x0 : (W7.alloc (.cells #[.slice N.m.A N.m.L.length N.m.c, .slice N.m.B N.m.T.length N.m.d, .slice N.E N.K.length N.e, .slice N.G N.F.length N.g] 37)).cell? ⟨W5.heap.size, 0, none⟩ = some (.slice M.m.A M.m.L.length M.m.c) := rblk_cell P_x 0
  have c_x1 : (W7.alloc (.cells #[.slice N.m.A N.m.L.length N.m.c, .slice N.m.B N.m.T.length N.m.d, .slice N.E N.K.length N.e, .slice N.G N.F.length N.g] 37)).cell? ⟨W5.heap.size, 1, none⟩ = some (.slice M.m.B M.m.T.length M.m.d) := rblk_cell P_x 1
  have c_x2 : (W7.alloc (.cells #[.slice N.m.A N.m.L.length N.m.c, .slice N.m.B N.m.T.length N.m.d, .slice N.E N.K.length N.e, .slice N.G N.F.length N.g] 37)).cell? ⟨W5.heap.size, 2, none⟩ = some (.slice M.E M.K.length M.e) := rblk_cell P_x 2
  have c_x3 : (W7.alloc (.cells #[.slice N.m.A N.m.L.length N.m.c, .slice N.m.B N.m.T.length N.m.d, .slice N.E N.K.length N.e, .slice N.G N.F.length N.g] 37)).cell? ⟨W5.heap.size, 3, none⟩ = some (.slice M.G M.F.length M.g) := rblk_cell P_x 3
  go_wp2_with fail
  clear c_x0 c_x1 c_x2 c_x3
  generalize W7.alloc (.cells #[.slice N.m.A N.m.L.length N.m.c, .slice N.m.B N.m.T.length N.m.d, .slice N.E N.K.length N.e, .slice N.G N.F.length N.g] 37) = W8 at kb hzW8 P_a P_b P_x P_y oM oN ⊢
  refine (HI.out M N _ hdM hdN hjN oM oN).mono ?_
  rintro e W9 ⟨rfl, hb⟩
  have hzW9 : W8.heap.size ≤ W9.heap.size := hb.size
  replace P_a := rblk_below P_a hb
  replace P_b := rblk_below P_b hb
  replace P_x := rblk_below P_x hb
  replace P_y := rblk_below P_y hb
  replace oM := oM.below hb
  replace oN := oN.below hb
  replace kb := bt kb hb
  clear hb
  go_wp2_with fail
  have SB : Hid (∀ w', Below W9.heap.size W9 w' → (w'.cell? ⟨W5.heap.size, 0, none⟩ = some (.slice M.m.A M.m.L.length M.m.c) ∧ w'.cell? ⟨W5.heap.size, 1, none⟩ = some (.slice M.m.B M.m.T.length M.m.d) ∧ w'.cell? ⟨W5.heap.size, 2, none⟩ = some (.slice M.E M.K.length M.e) ∧ w'.cell? ⟨W5.heap.size, 3, none⟩ = some (.slice M.G M.F.length M.g) ∧ w'.cell? ⟨w.heap.size, 0, none⟩ = some (.slice p.m.A p.m.L.length p.m.c) ∧ w'.cell? ⟨w.heap.size, 1, none⟩ = some (.slice p.m.B p.m.T.length p.m.d) ∧ w'.cell? ⟨w.heap.size, 2, none⟩ = some (.slice p.E p.K.length p.e) ∧ w'.cell? ⟨w.heap.size, 3, none⟩ = some (.slice p.G p.F.length p.g) ∧ Below W9.heap.size W9 w')) := Lib.hid (fun w' hB => ⟨rblk_cell (rblk_below P_x hB) 0, rblk_cell (rblk_below P_x hB) 1, rblk_cell (rblk_below P_x hB) 2, rblk_cell (rblk_below P_x hB) 3, rblk_cell (rblk_below P_a hB) 0, rblk_cell (rblk_below P_a hB) 1, rblk_cell (rblk_below P_a hB) 2, rblk_cell (rblk_below P_a hB) 3, hB⟩)
  have kr := kb
  go_region_held3 (fun w' => w'.cell? ⟨W5.heap.size, 0, none⟩ = some (.slice M.m.A M.m.L.length M.m.c) ∧ w'.cell? ⟨W5.heap.size, 1, none⟩ = some (.slice M.m.B M.m.T.length M.m.d) ∧ w'.cell? ⟨W5.heap.size, 2, none⟩ = some (.slice M.E M.K.length M.e) ∧ w'.cell? ⟨W5.heap.size, 3, none⟩ = some (.slice M.G M.F.length M.g) ∧ w'.cell? ⟨w.heap.size, 0, none⟩ = some (.slice p.m.A p.m.L.length p.m.c) ∧ w'.cell? ⟨w.heap.size, 1, none⟩ = some (.slice p.m.B p.m.T.length p.m.d) ∧ w'.cell? ⟨w.heap.size, 2, none⟩ = some (.slice p.E p.K.length p.e) ∧ w'.cell? ⟨w.heap.size, 3, none⟩ = some (.slice p.G p.F.length p.g) ∧ Below W9.heap.size W9 w')
    (first | (with_reducible exact SB.out _ (Below.refl _ _).drew) | (with_reducible exact SB.out _ (Below.refl _ _)) | (go_split_ands; with_reducible exact SB.out _ (bt (by assumption : Below W9.heap.size W9 _) hb)))
    (first | (go_at_call 6; go_split_ands; ((with_reducible refine (T.out _ (bt kr (by assumption : Below W9.heap.size W9 _))).mono ?_); rintro e Wa10 ⟨Q10, rfl, hdq10, hjq10, oq10, hb⟩)) | (go_at_call 8; go_split_ands; ((with_reducible refine (E.out M Q10 _ hdM hdq10 (oM.below (by assumption : Below W9.heap.size W9 _)) (by first | with_reducible exact oq10 | with_reducible exact oq10.drew | with_reducible exact (oq10.below (ba1 _ _)) | with_reducible exact (oq10.below (ba1 _ _)).drew)).mono ?_); rintro e W10 ⟨rfl, hb⟩; have KB := bt (by assumption : Below W9.heap.size W9 _) hb)))
  replace P_a := rblk_below P_a KB
  replace P_b := rblk_below P_b KB
  replace P_x := rblk_below P_x KB
  replace P_y := rblk_below P_y KB
  replace oM := oM.below KB
  replace oN := oN.below KB
  replace kb := bt kr KB
  have hzW10 : W9.heap.size ≤ W10.heap.size := KB.size
  clear KB kr SB oq10
  try clear ‹_ ∧ _›
  go_wp2_with fail
  have SB : Hid (∀ w', Below W10.heap.size W10 w' → (w'.cell? ⟨W7.heap.size, 0, none⟩ = some (.slice N.m.A N.m.L.length N.m.c) ∧ w'.cell? ⟨W7.heap.size, 1, none⟩ = some (.slice N.m.B N.m.T.length N.m.d) ∧ w'.cell? ⟨W7.heap.size, 2, none⟩ = some (.slice N.E N.K.length N.e) ∧ w'.cell? ⟨W7.heap.size, 3, none⟩ = some (.slice N.G N.F.length N.g) ∧ w'.cell? ⟨w.heap.size + 1, 0, none⟩ = some (.slice q.m.A q.m.L.length q.m.c) ∧ w'.cell? ⟨w.heap.size + 1, 1, none⟩ = some (.slice q.m.B q.m.T.length q.m.d) ∧ w'.cell? ⟨w.heap.size + 1, 2, none⟩ = some (.slice q.E q.K.length q.e) ∧ w'.cell? ⟨w.heap.size + 1, 3, none⟩ = some (.slice q.G q.F.length q.g) ∧ Below W10.heap.size W10 w')) := Lib.hid (fun w' hB => ⟨rblk_cell (rblk_below P_y hB) 0, rblk_cell (rblk_below P_y hB) 1, rblk_cell (rblk_below P_y hB) 2, rblk_cell (rblk_below P_y hB) 3, rblk_cell (rblk_below P_b hB) 0, rblk_cell (rblk_below P_b hB) 1, rblk_cell (rblk_below P_b hB) 2, rblk_cell (rblk_below P_b hB) 3, hB⟩)
  have kr := kb
  go_region_held3 (fun w' => w'.cell? ⟨W7.heap.size, 0, none⟩ = some (.slice N.m.A N.m.L.length N.m.c) ∧ w'.cell? ⟨W7.heap.size, 1, none⟩ = some (.slice N.m.B N.m.T.length N.m.d) ∧ w'.cell? ⟨W7.heap.size, 2, none⟩ = some (.slice N.E N.K.length N.e) ∧ w'.cell? ⟨W7.heap.size, 3, none⟩ = some (.slice N.G N.F.length N.g) ∧ w'.cell? ⟨w.heap.size + 1, 0, none⟩ = some (.slice q.m.A q.m.L.length q.m.c) ∧ w'.cell? ⟨w.heap.size + 1, 1, none⟩ = some (.slice q.m.B q.m.T.length q.m.d) ∧ w'.cell? ⟨w.heap.size + 1, 2, none⟩ = some (.slice q.E q.K.length q.e) ∧ w'.cell? ⟨w.heap.size + 1, 3, none⟩ = some (.slice q.G q.F.length q.g) ∧ Below W10.heap.size W10 w')
    (first | (with_reducible exact SB.out _ (Below.refl _ _).drew) | (with_reducible exact SB.out _ (Below.refl _ _)) | (go_split_ands; with_reducible exact SB.out _ (bt (by assumption : Below W10.heap.size W10 _) hb)))
    (first | (go_at_call 6; go_split_ands; ((with_reducible refine (TN.out _ (bt kr (by assumption : Below W10.heap.size W10 _))).mono ?_); rintro e Wa11 ⟨Q11, rfl, hdq11, hjq11, oq11, hb⟩)) | (go_at_call 8; go_split_ands; ((with_reducible refine (EN.out N Q11 _ hdN hdq11 (oN.below (by assumption : Below W10.heap.size W10 _)) (by first | with_reducible exact oq11 | with_reducible exact oq11.drew | with_reducible exact (oq11.below (ba1 _ _)) | with_reducible exact (oq11.below (ba1 _ _)).drew)).mono ?_); rintro e W11 ⟨rfl, hb⟩; have KB := bt (by assumption : Below W10.heap.size W10 _) hb)))
  replace P_a := rblk_below P_a KB
  replace P_b := rblk_below P_b KB
  replace P_x := rblk_below P_x KB
  replace P_y := rblk_below P_y KB
  replace oM := oM.below KB
  replace oN := oN.below KB
  replace kb := bt kr KB
  have hzW11 : W10.heap.size ≤ W11.heap.size := KB.size
  clear KB kr SB oq11
  try clear ‹_ ∧ _›
  go_wp2
  go_ret
  exact ⟨rfl, kb⟩
end Go.Proofs.Ytoknolholccamaa
