/-
  SameMesh: the program.
-/
import Derived.Test.YtoknolholccamaaMsQ
namespace Go.Proofs.Ytoknolholccamaa
open Go.ChangeShapes Go.WideShapes Go.ChangeAt Go.RowKit
open Go.ChangeMaps (open_string shut_string)
set_option linter.unusedVariables false
set_option linter.unusedSimpArgs false
set_option maxRecDepth 4000

/-- Meshes with the same data. -/
def sameM (m n : MV) : Bool := sameS m.L n.L && sameT m.T n.T
theorem sameM_dat {m n m' n' : MV} (h : datM m' = datM m) (h' : datM n' = datM n) : sameM m' n' = sameM m n := by
  unfold sameM
  rw [sameS_dat (datM_dat h) (datM_dat h'), (datM_len h).2, (datM_len h').2]
set_option maxHeartbeats 1000000 in
theorem impl_sameM (m n : MV) (w : World) (hm : ShortM m) (hn : ShortM n) (hP : ∀ q, q ∈ n.L → Pin q.a ∧ Pin q.b) (hA : Rds w (srow m.A m.L)) (hB : Rds w [(m.B, flatT m.T)]) (hA' : Rds w (srow n.A n.L)) (hB' : Rds w [(n.B, flatT n.T)]) :
    Calls Try.prog 15 #[.agg #[.slice m.A m.L.length m.c, .slice m.B m.T.length m.d], .agg #[.slice n.A n.L.length n.c, .slice n.B n.T.length n.d]] w (fun e w' => e = .returned (.bool (sameM m n)) ∧ Below w.heap.size w w') := by
  have HF : Hid (∀ W, Below w.heap.size w W → Calls Try.prog 28 #[.slice m.A m.L.length m.c, .slice n.A n.L.length n.c, .func (.func 29) #[] #[]] W (fun e w' => e = .returned (.bool (sameS m.L n.L)) ∧ Below W.heap.size W w')) := Lib.hid (fun W hb => eqFunc_r m.L n.L m.A n.A m.c n.c W hm.1 hn.1 hm.2.2 hn.2.2 hP (hA.below hb) (hA'.below hb))
  have HT : Hid (∀ W, Below w.heap.size w W → Calls Try.prog 30 #[.slice m.B m.T.length m.d, .slice n.B n.T.length n.d] W (fun e w' => e = .returned (.bool (sameT m.T n.T)) ∧ Below W.heap.size W w')) := Lib.hid (fun W hb => eqTs_r m.T n.T m.B n.B m.d n.d W hm.2.1 hn.2.1 (hB.hd.below hb) (hB'.hd.below hb))
  unfold sameM
  clear hA hB hA' hB' hm hn hP
  generalize sameS m.L n.L = r1 at *
  generalize sameT m.T n.T = r2 at *
  cases r1 with
  | false =>
    go_enter Try.func15, Try.ntmps15
    go_wp2_with fail
    have kb := ba2 w (.cells #[.slice m.A m.L.length m.c, .slice m.B m.T.length m.d] 34) (.cells #[.slice n.A n.L.length n.c, .slice n.B n.T.length n.d] 34)
    obtain ⟨P_a, P_b⟩ := blocks2 w (.cells #[.slice m.A m.L.length m.c, .slice m.B m.T.length m.d] 34) (.cells #[.slice n.A n.L.length n.c, .slice n.B n.T.length n.d] 34)
    generalize (w.alloc (.cells #[.slice m.A m.L.length m.c, .slice m.B m.T.length m.d] 34)).alloc (.cells #[.slice n.A n.L.length n.c, .slice n.B n.T.length n.d] 34) = W1 at kb P_a P_b ⊢
    refine (HF.out _ kb).mono ?_
    rintro e W2 ⟨rfl, hb⟩
    replace P_a := rblk_below P_a hb
    replace P_b := rblk_below P_b hb
    replace kb := bt kb hb
    clear hb
    go_wp2
    go_ret
    exact ⟨rfl, kb⟩
  | true =>
    go_enter Try.func15, Try.ntmps15
    go_wp2_with fail
    have kb := ba2 w (.cells #[.slice m.A m.L.length m.c, .slice m.B m.T.length m.d] 34) (.cells #[.slice n.A n.L.length n.c, .slice n.B n.T.length n.d] 34)
    obtain ⟨P_a, P_b⟩ := blocks2 w (.cells #[.slice m.A m.L.length m.c, .slice m.B m.T.length m.d] 34) (.cells #[.slice n.A n.L.length n.c, .slice n.B n.T.length n.d] 34)
    generalize (w.alloc (.cells #[.slice m.A m.L.length m.c, .slice m.B m.T.length m.d] 34)).alloc (.cells #[.slice n.A n.L.length n.c, .slice n.B n.T.length n.d] 34) = W1 at kb P_a P_b ⊢
    refine (HF.out _ kb).mono ?_
    rintro e W2 ⟨rfl, hb⟩
    replace P_a := rblk_below P_a hb
    replace P_b := rblk_below P_b hb
    replace kb := bt kb hb
    clear hb
    have c_a0 : W2.cell? ⟨w.heap.size, 0, none⟩ = some (.slice m.A m.L.length m.c) := rblk_cell P_a 0
    have c_a1 : W2.cell? ⟨w.heap.size, 1, none⟩ = some (.slice m.B m.T.length m.d) := rblk_cell P_a 1
    have c_b0 : W2.cell? ⟨w.heap.size + 1, 0, none⟩ = some (.slice n.A n.L.length n.c) := rblk_cell P_b 0
    have c_b1 : W2.cell? ⟨w.heap.size + 1, 1, none⟩ = some (.slice n.B n.T.length n.d) := rblk_cell P_b 1
    go_wp2_with fail
    clear c_a0 c_a1 c_b0 c_b1
    refine (HT.out _ kb).mono ?_
    rintro e W3 ⟨rfl, hb⟩
    replace P_a := rblk_below P_a hb
    replace P_b := rblk_below P_b hb
    replace kb := bt kb hb
    clear hb
    go_wp2
    go_ret
    exact ⟨rfl, kb⟩
end Go.Proofs.Ytoknolholccamaa
