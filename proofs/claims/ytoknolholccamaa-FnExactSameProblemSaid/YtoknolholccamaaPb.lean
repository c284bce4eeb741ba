/-
  Problems: their rows, what they take of the harness' room.
-/
import Derived.Test.YtoknolholccamaaMs
import Derived.Test.YtoknolholccamaaRl
import Derived.Test.YtoknolholccamaaRlH
namespace Go.Proofs.Ytoknolholccamaa
open Go.ChangeShapes Go.WideShapes Go.ChangeAt Go.RowKit
open Go.ChangeMaps (open_string shut_string)
set_option linter.unusedVariables false
set_option linter.unusedSimpArgs false
set_option maxRecDepth 4000

/-- A problem: a mesh, two lists of fractions with their addresses and capacities. -/
structure PB where
  m : MV
  K : List RV
  E : Option Addr
  e : Nat
  F : List RV
  G : Option Addr
  g : Nat
/-- All rows of a problem can be read. -/
structure PbRd (w : World) (p : PB) : Prop where
  all : Rds w (srow p.m.A p.m.L) ∧ Rds w [(p.m.B, flatT p.m.T)] ∧ Rds w (srowQ p.E p.K) ∧ Rds w (srowQ p.G p.F)
theorem PbRd.below {w w' : World} {p : PB} (h : PbRd w p) (hb : Below w.heap.size w w') : PbRd w' p := ⟨h.all.1.below hb, h.all.2.1.below hb, h.all.2.2.1.below hb, h.all.2.2.2.below hb⟩
/-- A problem's data. -/
def PbDat (p : PB) : ((List (R3 × R3)) × List TV) × List R3 × List R3 := (datM p.m, datQ p.K, datQ p.F)
theorem PbDat.parts {p q : PB} (h : PbDat q = PbDat p) : datM q.m = datM p.m ∧ datQ q.K = datQ p.K ∧ datQ q.F = datQ p.F := by
  unfold PbDat at h
  injection h with h1 h2
  injection h2 with h2 h3
  exact ⟨h1, h2, h3⟩
def PbSz (p : PB) : Int := szm p.m + ((p.K.length : Int) + szqs p.K) + ((p.F.length : Int) + szqs p.F)
theorem PbSz_pos (p : PB) : 0 ≤ PbSz p := by have := szm_pos p.m; have := szqs_pos p.K; have := szqs_pos p.F; unfold PbSz; omega
def PbLen (p : PB) : Prop := LenM p.m ∧ (p.K.length ≤ 9223372036854775807 ∧ ∀ q, q ∈ p.K → LenQ q) ∧ p.F.length ≤ 9223372036854775807 ∧ ∀ q, q ∈ p.F → LenQ q
def PbShort (p : PB) : Prop := ShortM p.m ∧ (p.K.length ≤ 1048576 ∧ ∀ q, q ∈ p.K → ShortQ q) ∧ p.F.length ≤ 1048576 ∧ ∀ q, q ∈ p.F → ShortQ q
theorem PbSz_short {p : PB} {left : Int} (h : PbSz p ≤ left) (h1 : left ≤ 1048576) : PbShort p := by
  have h2 := szm_pos p.m; have h3 := szqs_pos p.K; have h4 := szqs_pos p.F
  unfold PbSz at h
  exact ⟨szm_short (left := left) (by omega) h1, ⟨by omega, szqs_short (left := left) (by omega) h1⟩, by omega, szqs_short (left := left) (by omega) h1⟩
theorem datQ_memX {L M : List RV} (h : datQ M = datQ L) {q : RV} (hq : q ∈ M) : ∃ p, p ∈ L ∧ q.x = p.x := by
  have h1 : q.x ∈ datQ M := List.mem_map.2 ⟨q, hq, rfl⟩
  rw [h] at h1
  obtain ⟨p, hp, e⟩ := List.mem_map.1 h1
  exact ⟨p, hp, e.symm⟩
theorem datQ_shortX {L M : List RV} (h : datQ M = datQ L) (hS : ∀ p, p ∈ L → ShortQ p) : ∀ p, p ∈ M → ShortQ p := fun q hq => by
  obtain ⟨p, hp, e⟩ := datQ_memX h hq
  have := hS p hp
  unfold ShortQ at this ⊢
  rw [e]; exact this
set_option maxHeartbeats 1000000 in
theorem szPb_y (p : PB) (left : Int) (w : World) (h0 : 0 ≤ left) (h1 : left ≤ 1048576) (h : PbSz p ≤ left) (hR : PbRd w p) :
    Calls Try.prog 4 #[.agg #[.slice p.m.A p.m.L.length p.m.c, .slice p.m.B p.m.T.length p.m.d, .slice p.E p.K.length p.e, .slice p.G p.F.length p.g], .int .i64 left] w (fun e w' => e = .returned (.int .i64 (left - PbSz p)) ∧ Below w.heap.size w w') := by
  have h2 := szm_pos p.m; have h3 := szqs_pos p.K; have h4 := szqs_pos p.F
  unfold PbSz at h ⊢
  have SM : Hid (∀ W, Below w.heap.size w W → Calls Try.prog 9 #[.agg #[.slice p.m.A p.m.L.length p.m.c, .slice p.m.B p.m.T.length p.m.d], .int .i64 left] W (fun e w' => e = .returned (.int .i64 (left - szm p.m)) ∧ Below W.heap.size W w')) := Lib.hid (fun W hb => szMesh_y p.m left W h0 h1 (by omega) (hR.all.1.hd.below hb))
  have SK : Hid (∀ W, Below w.heap.size w W → Calls Try.prog 10 #[.slice p.E p.K.length p.e, .int .i64 (left - szm p.m)] W (fun e w' => e = .returned (.int .i64 (left - szm p.m - (p.K.length : Int) - szqs p.K)) ∧ Below W.heap.size W w')) := Lib.hid (fun W hb => szRS_y p.K p.E p.e _ W (by omega) (by omega) (by omega) (hR.all.2.2.1.hd.below hb))
  have SF : Hid (∀ W, Below w.heap.size w W → Calls Try.prog 10 #[.slice p.G p.F.length p.g, .int .i64 (left - szm p.m - (p.K.length : Int) - szqs p.K)] W (fun e w' => e = .returned (.int .i64 (left - szm p.m - (p.K.length : Int) - szqs p.K - (p.F.length : Int) - szqs p.F)) ∧ Below W.heap.size W w')) := Lib.hid (fun W hb => szRS_y p.F p.G p.g _ W (by omega) (by omega) (by omega) (hR.all.2.2.2.hd.below hb))
  have g1 : ¬ left - szm p.m < 0 := by omega
  have g2 : ¬ left - szm p.m - (p.K.length : Int) - szqs p.K < 0 := by omega
  have g3 : ¬ left - szm p.m - (p.K.length : Int) - szqs p.K - (p.F.length : Int) - szqs p.F < 0 := by omega
  have HE : Hid (left - (szm p.m + ((p.K.length : Int) + szqs p.K) + ((p.F.length : Int) + szqs p.F)) = left - szm p.m - (p.K.length : Int) - szqs p.K - (p.F.length : Int) - szqs p.F) := Lib.hid (by omega)
  rw [HE.out]
  clear h h2 h3 h4 hR HE
  generalize left - szm p.m - (p.K.length : Int) - szqs p.K - (p.F.length : Int) - szqs p.F = q3 at *
  generalize left - szm p.m - (p.K.length : Int) - szqs p.K = q2 at *
  generalize left - szm p.m = q1 at *
  go_enter Try.func4, Try.ntmps4
  go_wp2_with fail
  have kb := ba1 w (.cells #[.slice p.m.A p.m.L.length p.m.c, .slice p.m.B p.m.T.length p.m.d, .slice p.E p.K.length p.e, .slice p.G p.F.length p.g] 28)
  have P_a := heap_alloc_new w (.cells #[.slice p.m.A p.m.L.length p.m.c, .slice p.m.B p.m.T.length p.m.d, .slice p.E p.K.length p.e, .slice p.G p.F.length p.g] 28)
  generalize w.alloc (.cells #[.slice p.m.A p.m.L.length p.m.c, .slice p.m.B p.m.T.length p.m.d, .slice p.E p.K.length p.e, .slice p.G p.F.length p.g] 28) = W1 at kb P_a ⊢
  refine (SM.out _ kb).mono ?_
  rintro e W2 ⟨rfl, hb⟩
  have hzW2 : W1.heap.size ≤ W2.heap.size := hb.size
  replace P_a := rblk_below P_a hb
  replace kb := bt kb hb
  clear hb
  have c_a0 : W2.cell? ⟨w.heap.size, 0, none⟩ = some (.slice p.m.A p.m.L.length p.m.c) := rblk_cell P_a 0
  have c_a1 : W2.cell? ⟨w.heap.size, 1, none⟩ = some (.slice p.m.B p.m.T.length p.m.d) := rblk_cell P_a 1
  have c_a2 : W2.cell? ⟨w.heap.size, 2, none⟩ = some (.slice p.E p.K.length p.e) := rblk_cell P_a 2
  have c_a3 : W2.cell? ⟨w.heap.size, 3, none⟩ = some (.slice p.G p.F.length p.g) := rblk_cell P_a 3
  go_wp2_with fail
  clear c_a0 c_a1 c_a2 c_a3
  refine (SK.out _ kb).mono ?_
  rintro e W3 ⟨rfl, hb⟩
  have hzW3 : W2.heap.size ≤ W3.heap.size := hb.size
  replace P_a := rblk_below P_a hb
  replace kb := bt kb hb
  clear hb
  have c_a0 : W3.cell? ⟨w.heap.size, 0, none⟩ = some (.slice p.m.A p.m.L.length p.m.c) := rblk_cell P_a 0
  have c_a1 : W3.cell? ⟨w.heap.size, 1, none⟩ = some (.slice p.m.B p.m.T.length p.m.d) := rblk_cell P_a 1
  have c_a2 : W3.cell? ⟨w.heap.size, 2, none⟩ = some (.slice p.E p.K.length p.e) := rblk_cell P_a 2
  have c_a3 : W3.cell? ⟨w.heap.size, 3, none⟩ = some (.slice p.G p.F.length p.g) := rblk_cell P_a 3
  go_wp2_with fail
  clear c_a0 c_a1 c_a2 c_a3
  refine (SF.out _ kb).mono ?_
  rintro e W4 ⟨rfl, hb⟩
  have hzW4 : W3.heap.size ≤ W4.heap.size := hb.size
  replace P_a := rblk_below P_a hb
  replace kb := bt kb hb
  clear hb
  go_wp2
  go_ret
  exact ⟨rfl, kb⟩
set_option maxHeartbeats 1000000 in
theorem szPb_n (p : PB) (left : Int) (w : World) (hL : PbLen p) (h0 : 0 ≤ left) (h1 : left ≤ 1048576) (h : ¬ PbSz p ≤ left) (hR : PbRd w p) :
    Calls Try.prog 4 #[.agg #[.slice p.m.A p.m.L.length p.m.c, .slice p.m.B p.m.T.length p.m.d, .slice p.E p.K.length p.e, .slice p.G p.F.length p.g], .int .i64 left] w (fun e w' => e = .returned (.int .i64 (-1)) ∧ Below w.heap.size w w') := by
  have h2 := szm_pos p.m; have h3 := szqs_pos p.K; have h4 := szqs_pos p.F
  obtain ⟨l1, ⟨l2, l3⟩, l4, l5⟩ := hL
  unfold PbSz at h
  by_cases c1 : szm p.m ≤ left
  case neg =>
    have SM : Hid (∀ W, Below w.heap.size w W → Calls Try.prog 9 #[.agg #[.slice p.m.A p.m.L.length p.m.c, .slice p.m.B p.m.T.length p.m.d], .int .i64 left] W (fun e w' => e = .returned (.int .i64 (-1)) ∧ Below W.heap.size W w')) := Lib.hid (fun W hb => szMesh_n p.m left W l1 h0 h1 c1 (hR.all.1.hd.below hb))
    clear h h2 h3 h4 hR c1 l1 l2 l3 l4 l5
    go_enter Try.func4, Try.ntmps4
    go_wp2_with fail
    have kb := ba1 w (.cells #[.slice p.m.A p.m.L.length p.m.c, .slice p.m.B p.m.T.length p.m.d, .slice p.E p.K.length p.e, .slice p.G p.F.length p.g] 28)
    have P_a := heap_alloc_new w (.cells #[.slice p.m.A p.m.L.length p.m.c, .slice p.m.B p.m.T.length p.m.d, .slice p.E p.K.length p.e, .slice p.G p.F.length p.g] 28)
    generalize w.alloc (.cells #[.slice p.m.A p.m.L.length p.m.c, .slice p.m.B p.m.T.length p.m.d, .slice p.E p.K.length p.e, .slice p.G p.F.length p.g] 28) = W1 at kb P_a ⊢
    refine (SM.out _ kb).mono ?_
    rintro e W2 ⟨rfl, hb⟩
    have hzW2 : W1.heap.size ≤ W2.heap.size := hb.size
    replace P_a := rblk_below P_a hb
    replace kb := bt kb hb
    clear hb
    go_wp2
    go_ret
    exact ⟨rfl, kb⟩
  have SM : Hid (∀ W, Below w.heap.size w W → Calls Try.prog 9 #[.agg #[.slice p.m.A p.m.L.length p.m.c, .slice p.m.B p.m.T.length p.m.d], .int .i64 left] W (fun e w' => e = .returned (.int .i64 (left - szm p.m)) ∧ Below W.heap.size W w')) := Lib.hid (fun W hb => szMesh_y p.m left W h0 h1 c1 (hR.all.1.hd.below hb))
  have g1 : ¬ left - szm p.m < 0 := by omega
  by_cases c2 : (p.K.length : Int) + szqs p.K ≤ left - szm p.m
  case neg =>
    have SK : Hid (∀ W, Below w.heap.size w W → Calls Try.prog 10 #[.slice p.E p.K.length p.e, .int .i64 (left - szm p.m)] W (fun e w' => e = .returned (.int .i64 (-1)) ∧ Below W.heap.size W w')) := Lib.hid (fun W hb => szRS_n p.K p.E p.e _ W l2 l3 (by omega) (by omega) c2 (hR.all.2.2.1.hd.below hb))
    clear h h2 h3 h4 hR c1 c2 l1 l2 l3 l4 l5
    generalize left - szm p.m = q1 at *
    go_enter Try.func4, Try.ntmps4
    go_wp2_with fail
    have kb := ba1 w (.cells #[.slice p.m.A p.m.L.length p.m.c, .slice p.m.B p.m.T.length p.m.d, .slice p.E p.K.length p.e, .slice p.G p.F.length p.g] 28)
    have P_a := heap_alloc_new w (.cells #[.slice p.m.A p.m.L.length p.m.c, .slice p.m.B p.m.T.length p.m.d, .slice p.E p.K.length p.e, .slice p.G p.F.length p.g] 28)
    generalize w.alloc (.cells #[.slice p.m.A p.m.L.length p.m.c, .slice p.m.B p.m.T.length p.m.d, .slice p.E p.K.length p.e, .slice p.G p.F.length p.g] 28) = W1 at kb P_a ⊢
    refine (SM.out _ kb).mono ?_
    rintro e W2 ⟨rfl, hb⟩
    have hzW2 : W1.heap.size ≤ W2.heap.size := hb.size
    replace P_a := rblk_below P_a hb
    replace kb := bt kb hb
    clear hb
    have c_a0 : W2.cell? ⟨w.heap.size, 0, none⟩ = some (.slice p.m.A p.m.L.length p.m.c) := rblk_cell P_a 0
    have c_a1 : W2.cell? ⟨w.heap.size, 1, none⟩ = some (.slice p.m.B p.m.T.length p.m.d) := rblk_cell P_a 1
    have c_a2 : W2.cell? ⟨w.heap.size, 2, none⟩ = some (.slice p.E p.K.length p.e) := rblk_cell P_a 2
    have c_a3 : W2.cell? ⟨w.heap.size, 3, none⟩ = some (.slice p.G p.F.length p.g) := rblk_cell P_a 3
    go_wp2_with fail
    clear c_a0 c_a1 c_a2 c_a3
    refine (SK.out _ kb).mono ?_
    rintro e W3 ⟨rfl, hb⟩
    have hzW3 : W2.heap.size ≤ W3.heap.size := hb.size
    replace P_a := rblk_below P_a hb
    replace kb := bt kb hb
    clear hb
    go_wp2
    go_ret
    exact ⟨rfl, kb⟩
  have SK : Hid (∀ W, Below w.heap.size w W → Calls Try.prog 10 #[.slice p.E p.K.length p.e, .int .i64 (left - szm p.m)] W (fun e w' => e = .returned (.int .i64 (left - szm p.m - (p.K.length : Int) - szqs p.K)) ∧ Below W.heap.size W w')) := Lib.hid (fun W hb => szRS_y p.K p.E p.e _ W (by omega) (by omega) c2 (hR.all.2.2.1.hd.below hb))
  have g2 : ¬ left - szm p.m - (p.K.length : Int) - szqs p.K < 0 := by omega
  have SF : Hid (∀ W, Below w.heap.size w W → Calls Try.prog 10 #[.slice p.G p.F.length p.g, .int .i64 (left - szm p.m - (p.K.length : Int) - szqs p.K)] W (fun e w' => e = .returned (.int .i64 (-1)) ∧ Below W.heap.size W w')) := Lib.hid (fun W hb => szRS_n p.F p.G p.g _ W l4 l5 (by omega) (by omega) (by omega) (hR.all.2.2.2.hd.below hb))
  clear h h2 h3 h4 hR c1 c2 l1 l2 l3 l4 l5
  generalize left - szm p.m - (p.K.length : Int) - szqs p.K = q2 at *
  generalize left - szm p.m = q1 at *
  go_enter Try.func4, Try.ntmps4
  go_wp2_with fail
  have kb := ba1 w (.cells #[.slice p.m.A p.m.L.length p.m.c, .slice p.m.B p.m.T.length p.m.d, .slice p.E p.K.length p.e, .slice p.G p.F.length p.g] 28)
  have P_a := heap_alloc_new w (.cells #[.slice p.m.A p.m.L.length p.m.c, .slice p.m.B p.m.T.length p.m.d, .slice p.E p.K.length p.e, .slice p.G p.F.length p.g] 28)
  generalize w.alloc (.cells #[.slice p.m.A p.m.L.length p.m.c, .slice p.m.B p.m.T.length p.m.d, .slice p.E p.K.length p.e, .slice p.G p.F.length p.g] 28) = W1 at kb P_a ⊢
  refine (SM.out _ kb).mono ?_
  rintro e W2 ⟨rfl, hb⟩
  have hzW2 : W1.heap.size ≤ W2.heap.size := hb.size
  replace P_a := rblk_below P_a hb
  replace kb := bt kb hb
  clear hb
  have c_a0 : W2.cell? ⟨w.heap.size, 0, none⟩ = some (.slice p.m.A p.m.L.length p.m.c) := rblk_cell P_a 0
  have c_a1 : W2.cell? ⟨w.heap.size, 1, none⟩ = some (.slice p.m.B p.m.T.length p.m.d) := rblk_cell P_a 1
  have c_a2 : W2.cell? ⟨w.heap.size, 2, none⟩ = some (.slice p.E p.K.length p.e) := rblk_cell P_a 2
  have c_a3 : W2.cell? ⟨w.heap.size, 3, none⟩ = some (.slice p.G p.F.length p.g) := rblk_cell P_a 3
  go_wp2_with fail
  clear c_a0 c_a1 c_a2 c_a3
  refine (SK.out _ kb).mono ?_
  rintro e W3 ⟨rfl, hb⟩
  have hzW3 : W2.heap.size ≤ W3.heap.size := hb.size
  replace P_a := rblk_below P_a hb
  replace kb := bt kb hb
  clear hb
  have c_a0 : W3.cell? ⟨w.heap.size, 0, none⟩ = some (.slice p.m.A p.m.L.length p.m.c) := rblk_cell P_a 0
  have c_a1 : W3.cell? ⟨w.heap.size, 1, none⟩ = some (.slice p.m.B p.m.T.length p.m.d) := rblk_cell P_a 1
  have c_a2 : W3.cell? ⟨w.heap.size, 2, none⟩ = some (.slice p.E p.K.length p.e) := rblk_cell P_a 2
  have c_a3 : W3.cell? ⟨w.heap.size, 3, none⟩ = some (.slice p.G p.F.length p.g) := rblk_cell P_a 3
  go_wp2_with fail
  clear c_a0 c_a1 c_a2 c_a3
  refine (SF.out _ kb).mono ?_
  rintro e W4 ⟨rfl, hb⟩
  have hzW4 : W3.heap.size ≤ W4.heap.size := hb.size
  replace P_a := rblk_below P_a hb
  replace kb := bt kb hb
  clear hb
  go_wp2
  go_ret
  exact ⟨rfl, kb⟩
end Go.Proofs.Ytoknolholccamaa
