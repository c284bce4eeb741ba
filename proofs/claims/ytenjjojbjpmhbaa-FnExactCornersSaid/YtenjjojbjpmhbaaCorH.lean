/-
  All corners of a triangle are points of the mesh.
-/
import Derived.Test.YtenjjojbjpmhbaaCor0
namespace Go.Proofs.Ytenjjojbjpmhbaa
open Go.ChangeShapes Go.WideShapes Go.ChangeAt Go.RowKit
open Go.ChangeMaps (open_string shut_string)
set_option linter.unusedVariables false
set_option linter.unusedSimpArgs false
set_option maxRecDepth 4000

theorem okT_iff (t : TV) (n : Int) : okT n t = (inI t.a n && (inI t.b n && inI t.c n)) := rfl
set_option maxHeartbeats 1000000 in
theorem hasCorners_r (t : TV) (A B : Option Addr) (n c k d : Nat) (w : World) :
    Calls Try.prog 24 #[.agg #[.int .i64 t.a, .int .i64 t.b, .int .i64 t.c, .int .i64 t.r, .int .i64 t.l], .agg #[.slice A n c, .slice B k d]] w (fun e w' => e = .returned (.bool (okT n t)) ∧ Below w.heap.size w w') := by
  have CO := Lib.hid (fun W => corners_r t W)
  have I0 := Lib.hid (fun W => isIndex_r t.a n W)
  have I1 := Lib.hid (fun W => isIndex_r t.b n W)
  have I2 := Lib.hid (fun W => isIndex_r t.c n W)
  unfold okT
  generalize inI t.a n = g0 at *
  generalize inI t.b n = g1 at *
  generalize inI t.c n = g2 at *
  go_enter Try.func24, Try.ntmps24
  go_wp2_with fail
  have kb := ba2 w (.cells #[.int .i64 t.a, .int .i64 t.b, .int .i64 t.c, .int .i64 t.r, .int .i64 t.l] 45) (.cells #[.slice A n c, .slice B k d] 31)
  obtain ⟨P_a, P_b⟩ := blocks2 w (.cells #[.int .i64 t.a, .int .i64 t.b, .int .i64 t.c, .int .i64 t.r, .int .i64 t.l] 45) (.cells #[.slice A n c, .slice B k d] 31)
  generalize (w.alloc (.cells #[.int .i64 t.a, .int .i64 t.b, .int .i64 t.c, .int .i64 t.r, .int .i64 t.l] 45)).alloc (.cells #[.slice A n c, .slice B k d] 31) = W1 at kb P_a P_b ⊢
  refine (CO.out _).mono ?_
  rintro e W2 ⟨rfl, hb⟩
  replace P_a := rblk_below P_a hb
  replace P_b := rblk_below P_b hb
  replace kb := bt kb hb
  clear hb
  go_wp2
  go_loopw [9] (fun i w' => ∃ j : Nat, j ≤ 3 ∧ i = .int .i64 (j : Int) ∧ (0 < j → g0 = true) ∧ (1 < j → g1 = true) ∧ (2 < j → g2 = true) ∧ Below W2.heap.size W2 w') (fun i _ => 3 - (intOf i).toNat)
  case atStart => exact ⟨0, by omega, rfl, (fun h => by omega), (fun h => by omega), (fun h => by omega), Below.refl _ _⟩
  case round =>
    obtain ⟨j, hj, rfl, n0, n1, n2, hb⟩ := hrel
    have P_r := rblk_below P_b hb
    have kr := bt kb hb
    have HB := Lib.hid hb
    clear hb
    have hjc : j = 0 ∨ j = 1 ∨ j = 2 ∨ j = 3 := by omega
    rcases hjc with rfl | rfl | rfl | rfl
    · have N0 := Lib.hid (And.intro n0 n1)
      clear n0 n1 n2
      have c0 : wr.cell? ⟨w.heap.size + 1, 0, none⟩ = some (.slice A n c) := rblk_cell P_r 0
      go_wp2_with (simp only [run_index3_0])
      clear c0
      refine (I0.out _).mono ?_
      rintro e w2 ⟨rfl, hb2⟩
      cases g0 with
      | false =>
        go_wp2
        go_ret
        exact ⟨rfl, bt kr hb2⟩
      | true =>
        go_wp2
        go_roundw
        case rel => exact ⟨1, by omega, by go_num, (fun _ => by simp), (fun h => by omega), (fun h => by omega), bt HB.out hb2⟩
        case measure => simp [intOf]
    · have N0 := Lib.hid (And.intro n0 n1)
      clear n0 n1 n2
      have c0 : wr.cell? ⟨w.heap.size + 1, 0, none⟩ = some (.slice A n c) := rblk_cell P_r 0
      go_wp2_with (simp only [run_index3_1])
      clear c0
      refine (I1.out _).mono ?_
      rintro e w2 ⟨rfl, hb2⟩
      cases g1 with
      | false =>
        go_wp2
        go_ret
        exact ⟨by rw [N0.out.1 (by omega)]; rfl, bt kr hb2⟩
      | true =>
        go_wp2
        go_roundw
        case rel => exact ⟨2, by omega, by go_num, (fun _ => N0.out.1 (by omega)), (fun _ => by simp), (fun h => by omega), bt HB.out hb2⟩
        case measure => simp [intOf]
    · have N0 := Lib.hid (And.intro n0 n1)
      clear n0 n1 n2
      have c0 : wr.cell? ⟨w.heap.size + 1, 0, none⟩ = some (.slice A n c) := rblk_cell P_r 0
      go_wp2_with (simp only [run_index3_2])
      clear c0
      refine (I2.out _).mono ?_
      rintro e w2 ⟨rfl, hb2⟩
      cases g2 with
      | false =>
        go_wp2
        go_ret
        exact ⟨by rw [N0.out.1 (by omega), N0.out.2 (by omega)]; rfl, bt kr hb2⟩
      | true =>
        go_wp2
        go_roundw
        case rel => exact ⟨3, by omega, by go_num, (fun _ => N0.out.1 (by omega)), (fun _ => N0.out.2 (by omega)), (fun _ => by simp), bt HB.out hb2⟩
        case measure => simp [intOf]
    · have N0 := Lib.hid (And.intro (n0 (by omega)) (And.intro (n1 (by omega)) (n2 (by omega))))
      clear n0 n1 n2
      go_wp2
      go_ret
      exact ⟨by rw [N0.out.1, N0.out.2.1, N0.out.2.2]; rfl, kr⟩
end Go.Proofs.Ytenjjojbjpmhbaa
