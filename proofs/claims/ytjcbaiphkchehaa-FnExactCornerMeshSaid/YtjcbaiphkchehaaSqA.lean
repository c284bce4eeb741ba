/-
  The triangles around a center: the program.
-/
import Derived.Test.YtjcbaiphkchehaaSqG
namespace Go.Proofs.Ytjcbaiphkchehaa
open Go.ChangeShapes Go.WideShapes Go.ChangeAt Go.RowKit
open Go.ChangeMaps (open_string shut_string)
set_option linter.unusedVariables false
set_option linter.unusedSimpArgs false
set_option maxRecDepth 4000

theorem run_index4_0 (a b c d : Int) (w : World) : (Instr.index 44 (.agg #[.int .i64 a, .int .i64 b, .int .i64 c, .int .i64 d]) (.int .i64 0)).run Try.prog w = .ok (.int .i64 a) w := by
  simp [Instr.index, asIntOf, run_underlying Try.underlying44, Go.part, Try.isAgg3, Try.sizeOf3]
theorem run_index4_1 (a b c d : Int) (w : World) : (Instr.index 44 (.agg #[.int .i64 a, .int .i64 b, .int .i64 c, .int .i64 d]) (.int .i64 1)).run Try.prog w = .ok (.int .i64 b) w := by
  simp [Instr.index, asIntOf, run_underlying Try.underlying44, Go.part, Try.isAgg3, Try.sizeOf3]
theorem run_index4_2 (a b c d : Int) (w : World) : (Instr.index 44 (.agg #[.int .i64 a, .int .i64 b, .int .i64 c, .int .i64 d]) (.int .i64 2)).run Try.prog w = .ok (.int .i64 c) w := by
  simp [Instr.index, asIntOf, run_underlying Try.underlying44, Go.part, Try.isAgg3, Try.sizeOf3]
theorem run_index4_3 (a b c d : Int) (w : World) : (Instr.index 44 (.agg #[.int .i64 a, .int .i64 b, .int .i64 c, .int .i64 d]) (.int .i64 3)).run Try.prog w = .ok (.int .i64 d) w := by
  simp [Instr.index, asIntOf, run_underlying Try.underlying44, Go.part, Try.isAgg3, Try.sizeOf3]
/-- The four triangles around a center. -/
def quadT (o a b c d : Int) : List TV := [⟨o, a, b, 0, 0⟩, ⟨o, b, c, 0, 0⟩, ⟨o, c, d, 0, 0⟩, ⟨o, d, a, 0, 0⟩]
/-- A list of triangles in a row of the call's own. -/
def MadeTs (T : List TV) (w : World) (e : Ending) (w' : World) : Prop :=
  ∃ (g c : Nat), e = .returned (.slice (some ⟨g, 0, none⟩) T.length c) ∧ Owns w.heap.size w'.heap.size w' [(some ⟨g, 0, none⟩, flatT T)] ∧ Below w.heap.size w w'
set_option maxHeartbeats 4000000 in
theorem impl_around (o a b c d : Int) (w : World) :
    Calls Try.prog 16 #[.int .i64 o, .agg #[.int .i64 a, .int .i64 b, .int .i64 c, .int .i64 d]] w (MadeTs (quadT o a b c d) w) := by
  go_enter Try.func16, Try.ntmps16
  go_wp2_with fail
  have kb := ba1 w (.cells #[.int .i64 a, .int .i64 b, .int .i64 c, .int .i64 d] 44)
  have P_c := heap_alloc_new w (.cells #[.int .i64 a, .int .i64 b, .int .i64 c, .int .i64 d] 44)
  have hs := sz1 w (.cells #[.int .i64 a, .int .i64 b, .int .i64 c, .int .i64 d] 44)
  have c0 := rblk_cell P_c 0
  have c1 := rblk_cell P_c 1
  have c2 := rblk_cell P_c 2
  have c3 := rblk_cell P_c 3
  go_wp2_with fail
  clear c0 c1 c2 c3
  generalize w.alloc (.cells #[.int .i64 a, .int .i64 b, .int .i64 c, .int .i64 d] 44) = W1 at kb P_c hs ⊢
  have G0 : Gm W1.heap.size W1.heap.size W1 [] [] (.slice none 0 0) (.slice none 0 0) := Gm.start (Nat.le_refl _)
  go_loopw [10, 5] (fun kk v w' => ∃ (j : Nat) (T : List TV) (A : Option Addr) (c' hi : Nat), j ≤ 4 ∧ kk = .int .i64 (j : Int) ∧ T.length = j ∧ T = (quadT o a b c d).take j ∧ v = .slice A T.length c' ∧ Gm W1.heap.size hi w' [] T (.slice none 0 0) (.slice A T.length c') ∧ W1.heap.size ≤ hi ∧ w'.heap[w.heap.size]? = some (.cells #[.int .i64 a, .int .i64 b, .int .i64 c, .int .i64 d] 44 (0, 0)) ∧ Below w.heap.size w w') (fun kk _ _ => 4 - (intOf kk).toNat)
  case atStart => exact ⟨0, [], none, 0, _, by omega, rfl, rfl, rfl, rfl, G0, Nat.le_refl _, P_c, kb⟩
  case round =>
    obtain ⟨j, T, A, c', hi, hj, rfl, hl, hT, rfl, G, hB, P_r, kr⟩ := hrel
    clear P_c kb G0
    have hjc : j = 0 ∨ j = 1 ∨ j = 2 ∨ j = 3 ∨ j = 4 := by omega
    have HL := Lib.hid (And.intro hl hT)
    have HG := Lib.hid (And.intro G hB)
    have hl0 : T.length ≤ 4 := by omega
    rcases hjc with rfl | rfl | rfl | rfl | rfl
    · clear hl hT G hB
      have c1 : wr.cell? ⟨w.heap.size, 1, none⟩ = some (.int .i64 b) := rblk_cell P_r 1
      have kz := ba1 wr (.cells #[.int .i64 o, .int .i64 a, .int .i64 b, .int .i64 0, .int .i64 0] 43)
      have GZ := Lib.hid (HG.out.1.below kz)
      have CZ := Lib.hid (cell_tri wr ⟨o, a, b, 0, 0⟩)
      have PZ := Lib.hid (rblk_below P_r kz)
      have KZ := Lib.hid (kr.trans (kz.mono kr.size))
      clear P_r kr kz
      go_wp2_with (first | simp only [run_index4_0] | (refine grow_tri rfl (.tmp 19) (.tmp 24) rfl GZ.out [⟨o, a, b, 0, 0⟩] ⟨wr.heap.size, 0, none⟩ 1 rfl rfl CZ.out (by simp; omega) HG.out.2 ?_; intro A2 cc w2 G2 k2 _ _))
      clear c1
      have HX := Lib.hid (And.intro G2 (And.intro ((k2.block _ (by omega)).trans PZ.out) (KZ.out.trans (k2.mono (by omega)))))
      clear G2
      have k2 := Lib.hid k2
      go_wp2
      go_roundw
      case rel => exact ⟨1, T ++ [⟨o, a, b, 0, 0⟩], A2, cc, _, by omega, by go_num, by rw [List.length_append, HL.out.1]; rfl, by rw [HL.out.2]; rfl, by rw [List.length_append]; rfl, by rw [List.length_append]; exact HX.out.1, by have := k2.out.size; have := HG.out.2; have := GZ.out.hh; omega, HX.out.2.1, HX.out.2.2⟩
      case measure => simp [intOf]
    · clear hl hT G hB
      have c2 : wr.cell? ⟨w.heap.size, 2, none⟩ = some (.int .i64 c) := rblk_cell P_r 2
      have kz := ba1 wr (.cells #[.int .i64 o, .int .i64 b, .int .i64 c, .int .i64 0, .int .i64 0] 43)
      have GZ := Lib.hid (HG.out.1.below kz)
      have CZ := Lib.hid (cell_tri wr ⟨o, b, c, 0, 0⟩)
      have PZ := Lib.hid (rblk_below P_r kz)
      have KZ := Lib.hid (kr.trans (kz.mono kr.size))
      clear P_r kr kz
      go_wp2_with (first | simp only [run_index4_1] | (refine grow_tri rfl (.tmp 19) (.tmp 24) rfl GZ.out [⟨o, b, c, 0, 0⟩] ⟨wr.heap.size, 0, none⟩ 1 rfl rfl CZ.out (by simp; omega) HG.out.2 ?_; intro A2 cc w2 G2 k2 _ _))
      clear c2
      have HX := Lib.hid (And.intro G2 (And.intro ((k2.block _ (by omega)).trans PZ.out) (KZ.out.trans (k2.mono (by omega)))))
      clear G2
      have k2 := Lib.hid k2
      go_wp2
      go_roundw
      case rel => exact ⟨2, T ++ [⟨o, b, c, 0, 0⟩], A2, cc, _, by omega, by go_num, by rw [List.length_append, HL.out.1]; rfl, by rw [HL.out.2]; rfl, by rw [List.length_append]; rfl, by rw [List.length_append]; exact HX.out.1, by have := k2.out.size; have := HG.out.2; have := GZ.out.hh; omega, HX.out.2.1, HX.out.2.2⟩
      case measure => simp [intOf]
    · clear hl hT G hB
      have c3 : wr.cell? ⟨w.heap.size, 3, none⟩ = some (.int .i64 d) := rblk_cell P_r 3
      have kz := ba1 wr (.cells #[.int .i64 o, .int .i64 c, .int .i64 d, .int .i64 0, .int .i64 0] 43)
      have GZ := Lib.hid (HG.out.1.below kz)
      have CZ := Lib.hid (cell_tri wr ⟨o, c, d, 0, 0⟩)
      have PZ := Lib.hid (rblk_below P_r kz)
      have KZ := Lib.hid (kr.trans (kz.mono kr.size))
      clear P_r kr kz
      go_wp2_with (first | simp only [run_index4_2] | (refine grow_tri rfl (.tmp 19) (.tmp 24) rfl GZ.out [⟨o, c, d, 0, 0⟩] ⟨wr.heap.size, 0, none⟩ 1 rfl rfl CZ.out (by simp; omega) HG.out.2 ?_; intro A2 cc w2 G2 k2 _ _))
      clear c3
      have HX := Lib.hid (And.intro G2 (And.intro ((k2.block _ (by omega)).trans PZ.out) (KZ.out.trans (k2.mono (by omega)))))
      clear G2
      have k2 := Lib.hid k2
      go_wp2
      go_roundw
      case rel => exact ⟨3, T ++ [⟨o, c, d, 0, 0⟩], A2, cc, _, by omega, by go_num, by rw [List.length_append, HL.out.1]; rfl, by rw [HL.out.2]; rfl, by rw [List.length_append]; rfl, by rw [List.length_append]; exact HX.out.1, by have := k2.out.size; have := HG.out.2; have := GZ.out.hh; omega, HX.out.2.1, HX.out.2.2⟩
      case measure => simp [intOf]
    · clear hl hT G hB
      have c0 : wr.cell? ⟨w.heap.size, 0, none⟩ = some (.int .i64 a) := rblk_cell P_r 0
      have kz := ba1 wr (.cells #[.int .i64 o, .int .i64 d, .int .i64 a, .int .i64 0, .int .i64 0] 43)
      have GZ := Lib.hid (HG.out.1.below kz)
      have CZ := Lib.hid (cell_tri wr ⟨o, d, a, 0, 0⟩)
      have PZ := Lib.hid (rblk_below P_r kz)
      have KZ := Lib.hid (kr.trans (kz.mono kr.size))
      clear P_r kr kz
      go_wp2_with (first | simp only [run_index4_3] | (refine grow_tri rfl (.tmp 19) (.tmp 24) rfl GZ.out [⟨o, d, a, 0, 0⟩] ⟨wr.heap.size, 0, none⟩ 1 rfl rfl CZ.out (by simp; omega) HG.out.2 ?_; intro A2 cc w2 G2 k2 _ _))
      clear c0
      have HX := Lib.hid (And.intro G2 (And.intro ((k2.block _ (by omega)).trans PZ.out) (KZ.out.trans (k2.mono (by omega)))))
      clear G2
      have k2 := Lib.hid k2
      go_wp2
      go_roundw
      case rel => exact ⟨4, T ++ [⟨o, d, a, 0, 0⟩], A2, cc, _, by omega, by go_num, by rw [List.length_append, HL.out.1]; rfl, by rw [HL.out.2]; rfl, by rw [List.length_append]; rfl, by rw [List.length_append]; exact HX.out.1, by have := k2.out.size; have := HG.out.2; have := GZ.out.hh; omega, HX.out.2.1, HX.out.2.2⟩
      case measure => simp [intOf]
    · have e1 : T = quadT o a b c d := by rw [hT]; rfl
      subst e1
      have oT := own5 G.ot
      have iT := oT.inR rfl
      have hA : ∃ g, A = some ⟨g, 0, none⟩ := by
        obtain ⟨g, ha, _⟩ := oT.block (by rw [flatT_length]; exact (by decide : 0 < 4 * 5))
        exact ⟨g, ha⟩
      obtain ⟨g, rfl⟩ := hA
      have HX : Hid (MadeTs (quadT o a b c d) w (.returned (.slice (some ⟨g, 0, none⟩) (quadT o a b c d).length c')) wr) := Lib.hid ⟨g, c', rfl, Owns.cons (oT.more (by omega)) (iT.wide (by omega) (Nat.le_refl _)) (Owns.nil _ _ _), kr⟩
      clear hl hT G hB oT iT HL HG P_r kr
      go_wp2
      go_ret
      exact HX.out
end Go.Proofs.Ytjcbaiphkchehaa
