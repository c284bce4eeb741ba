/-
  The program's Gradients.
-/
import Derived.Test.YtppdholccpgcpaaGreatLawP
import Derived.Test.YtppdholccpgcpaaGreatGrM
import Derived.Test.YtppdholccpgcpaaGreatConP
import Derived.Test.YtppdholccpgcpaaGreatTriI
namespace Go.Proofs.YtppdholccpgcpaaGreat
open Go.ChangeShapes Go.WideShapes Go.ChangeAt Go.RowKit
set_option linter.unusedVariables false
set_option linter.unusedSimpArgs false
set_option maxRecDepth 4000
theorem made_rowb {B g n : Nat} {w w' : World} {L M : List PV} {T : TypeId} (hB : B ≤ g) (P : w'.heap[g]? = some (.cells (flat M).toArray T (0, 0))) (hM : M.length = n) (hd : dat M = dat L) (hcap : ∀ p, p ∈ M → CapP p)
    (hO : Owns B g w' (lrow M)) (hap : Aparts (lrow M)) (kb : Below w.heap.size w w') : MadePS B L w (.returned (.slice (some ⟨g, 0, none⟩) n n)) w' := by
  subst hM
  have hown : OwnS B w' (some ⟨g, 0, none⟩) (flat M) := by
    have h := OwnS.of_row P hB
    simpa using h
  have hz := rblk_lt P
  have hr : InR (flat M).length (some ⟨g, 0, none⟩) g (g + 1) := fun g' hg => by
    unfold rowOf at hg
    split at hg
    · cases hg
    · simp at hg; omega
  refine ⟨M, some ⟨g, 0, none⟩, M.length, rfl, Nat.le_refl _, hd, hcap, ?_, ?_, kb⟩
  · exact Owns.cons hown (hr.wide (by omega) (by omega)) (hO.wide (Nat.le_refl _) (by omega))
  · refine List.Pairwise.cons (fun s hs => ?_) hap
    exact InR.apart hr (hO s hs).2 (.inr (Nat.le_refl _))
theorem gl3_full {g0 g1 g2 : PV} {x0 y0 x1 y1 x2 y2 : R3} (h : dat [g0, g1, g2] = [(x0, y0), (x1, y1), (x2, y2)]) :
    (fullP [g0, g1, g2] = true → dat [g0, g1, g2] = dat (gl3 x0 y0 x1 y1 x2 y2)) ∧ (fullP [g0, g1, g2] = false → gl3 x0 y0 x1 y1 x2 y2 = []) := by
  simp only [dat, List.map_cons, List.map_nil, List.cons.injEq, Prod.mk.injEq, and_true] at h
  obtain ⟨⟨a0, b0⟩, ⟨a1, b1⟩, a2, b2⟩ := h
  constructor
  · intro hf
    simp only [fullP, List.all_cons, List.all_nil, Bool.and_true, Bool.and_eq_true, decide_eq_true_eq] at hf
    unfold gl3
    rw [if_pos (by rw [← a0, ← a1, ← a2]; exact ⟨hf.1, hf.2.1, hf.2.2⟩)]
    simp [dat, a0, b0, a1, b1, a2, b2]
  · intro hf
    unfold gl3
    rw [if_neg]
    intro h3
    rw [← a0, ← a1, ← a2] at h3
    have : fullP [g0, g1, g2] = true := by simp [fullP, h3.1, h3.2.1, h3.2.2]
    rw [this] at hf; cases hf
attribute [local go_sem ↓] Go.wp_at_zero Go.wp_at_succ
set_option maxHeartbeats 4000000 in
theorem impl_gradients (L : List PV) (A : Option Addr) (c : Nat) (w : World) (hn : L.length ≤ 9223372036854775807) (hL : ∀ p, p ∈ L → LenP p) (hA : RdS w A (flat L)) (hR : Rds w (lrow L)) :
    Calls Tryz.prog 14 #[.slice A L.length c] w (MadePS w.heap.size (gradL L) w) := by
  have HT := Lib.hid (fun W h h' => tri_any L A c W hn hL h h')
  have RR : Hid (∀ W, Below w.heap.size w W → RdS W A (flat L) ∧ Rds W (lrow L)) := Lib.hid (fun W hB => ⟨hA.below hB, hR.below hB⟩)
  have RT : Hid (∀ W, Below w.heap.size w W → TriOk W (tri1 L) (tri2 L) (tri3 L)) := Lib.hid (fun W hB => tri_ok (hR.below hB))
  unfold gradL gradV
  generalize hp1 : tri1 L = p at HT RT ⊢
  generalize hp2 : tri2 L = q at HT RT ⊢
  generalize hp3 : tri3 L = r at HT RT ⊢
  have e0 : aT L = aV p q r := by unfold aT; rw [hp1, hp2, hp3]
  rw [e0]
  clear e0 hp1 hp2 hp3
  have HM := Lib.hid (fun W hB => gradients_m p q r W (RT.out W hB))
  unfold MadeP3 at HM
  have HD := Lib.hid (fun (g0 g1 g2 : PV) (h : dat [g0, g1, g2] = gD p q r) => gl3_full h)
  have HLN := Lib.hid (fun (g0 g1 g2 : PV) (h : dat [g0, g1, g2] = gD p q r) => show ∀ x, x ∈ [g0, g1, g2] → LenP x from by
    have k : ∀ j, LenP ⟨ofO (gU p q r j), ofO (gV p q r j), noA, noA⟩ := fun j => ⟨⟨Nat.le_trans (gU_fit p q r j).len.1 (by omega), Nat.le_trans (gU_fit p q r j).len.2 (by omega)⟩, Nat.le_trans (gV_fit p q r j).len.1 (by omega), Nat.le_trans (gV_fit p q r j).len.2 (by omega)⟩
    unfold gD at h
    simp only [dat, List.map_cons, List.map_nil, List.cons.injEq, Prod.mk.injEq, and_true] at h
    obtain ⟨⟨a0, b0⟩, ⟨a1, b1⟩, a2, b2⟩ := h
    intro x hx
    simp only [List.mem_cons, List.not_mem_nil, or_false] at hx
    rcases hx with rfl | rfl | rfl
    · have := k 0; unfold LenP at this ⊢; rw [a0, b0]; exact this
    · have := k 1; unfold LenP at this ⊢; rw [a1, b1]; exact this
    · have := k 2; unfold LenP at this ⊢; rw [a2, b2]; exact this)
  rw [show gU p q r 0 = tX q r (invO (aV p q r)) from rfl, show gV p q r 0 = tY q r (invO (aV p q r)) from rfl, show gU p q r 1 = tX r p (invO (aV p q r)) from rfl, show gV p q r 1 = tY r p (invO (aV p q r)) from rfl, show gU p q r 2 = tX p q (invO (aV p q r)) from rfl, show gV p q r 2 = tY p q (invO (aV p q r)) from rfl] at HD
  generalize gl3 _ _ _ _ _ _ = GL at HD ⊢
  generalize gD p q r = D3 at HM HD HLN
  generalize L.length = n at HT ⊢
  clear hA hR hL hn
  have kb0 := Below.refl w.heap.size w
  go_enter Tryz.func14, Tryz.ntmps14
  go_wp2_with fail
  refine (HT.out _ (RR.out _ kb0).1 (RR.out _ kb0).2).mono ?_
  rintro e W2 ⟨rfl, kb⟩
  clear kb0
  go_wp2_with fail
  refine (HM.out _ kb).mono ?_
  rintro e W3 ⟨g0, g1, g2, rfl, hd, hcap, oG, hap, hb⟩
  have kb := bt kb hb
  have hwz : w.heap.size ≤ W2.heap.size := by have := ‹Below w.heap.size w W2›.size; exact this
  clear hb
  have hwz3 : w.heap.size ≤ W3.heap.size := kb.size
  have P_n := heap_alloc_new W3 (.cells #[.bool false, .slice none 0 0, .slice none 0 0, .bool false, .slice none 0 0, .slice none 0 0, .bool false, .slice none 0 0, .slice none 0 0, .bool false, .slice none 0 0, .slice none 0 0, .bool false, .slice none 0 0, .slice none 0 0, .bool false, .slice none 0 0, .slice none 0 0] 80)
  have P_g := rowV_set P_n (p18 g0 g1 g2)
  have oG2 := (oG.below (ba1 W3 (.cells #[.bool false, .slice none 0 0, .slice none 0 0, .bool false, .slice none 0 0, .slice none 0 0, .bool false, .slice none 0 0, .slice none 0 0, .bool false, .slice none 0 0, .slice none 0 0, .bool false, .slice none 0 0, .slice none 0 0, .bool false, .slice none 0 0, .slice none 0 0] 80))).setRow (g := W3.heap.size) (.inr (Nat.le_refl _)) (p18 g0 g1 g2)
  have kb2 := below_setRow (kb.alloc kb.size (.cells #[.bool false, .slice none 0 0, .slice none 0 0, .bool false, .slice none 0 0, .slice none 0 0, .bool false, .slice none 0 0, .slice none 0 0, .bool false, .slice none 0 0, .slice none 0 0, .bool false, .slice none 0 0, .slice none 0 0, .bool false, .slice none 0 0, .slice none 0 0] 80)) hwz3 (p18 g0 g1 g2)
  clear oG kb
  go_wp2_with (first | refine wpList_store_row rfl 80 (.tmp 3) (.tmp 7) rfl (W3.heap.size) (p18 g0 g1 g2) rfl rfl 80 _ P_n a3_size rfl (by simp [Value.oneCell', p18]) ?_)
  clear P_n
  generalize (W3.alloc (.cells #[.bool false, .slice none 0 0, .slice none 0 0, .bool false, .slice none 0 0, .slice none 0 0, .bool false, .slice none 0 0, .slice none 0 0, .bool false, .slice none 0 0, .slice none 0 0, .bool false, .slice none 0 0, .slice none 0 0, .bool false, .slice none 0 0, .slice none 0 0] 80)).setRow W3.heap.size (p18 g0 g1 g2) = W4 at P_g oG2 kb2 ⊢
  generalize W3.heap.size = gs at P_g oG2 hwz3 ⊢
  have HC := Lib.hid (contains_P [g0, g1, g2] (some ⟨gs, 0, none⟩) 3 W4 (by simp) (HLN.out g0 g1 g2 hd) (OwnS.of_row P_g (Nat.le_refl gs)).rd)
  have HDg := Lib.hid (HD.out g0 g1 g2 hd)
  have HX := Lib.hid (And.intro hd (And.intro hcap hap))
  clear hd hcap hap
  rw [show [g0, g1, g2].length = 3 from rfl] at HC
  cases hf : fullP [g0, g1, g2] with
  | true =>
    rw [hf] at HC
    refine HC.out.mono ?_
    rintro e W5 ⟨rfl, hb⟩
    have hR : Hid (MadePS w.heap.size GL w (.returned (.slice (some ⟨gs, 0, none⟩) 3 3)) W5) := Lib.hid (made_rowb (M := [g0, g1, g2]) hwz3 (rblk_below P_g hb) rfl (HDg.out.1 hf) HX.out.2.1 ((oG2.wide hwz (Nat.le_refl _)).below hb) HX.out.2.2 (bt kb2 hb))
    clear hf hb
    go_wp2
    go_ret
    exact hR.out
  | false =>
    rw [hf] at HC
    refine HC.out.mono ?_
    rintro e W5 ⟨rfl, hb⟩
    have hR : Hid (MadePS w.heap.size GL w (.returned (.slice none 0 0)) W5) := Lib.hid (made_none w.heap.size (HDg.out.2 hf) (bt kb2 hb))
    clear hf hb
    go_wp2
    go_ret
    exact hR.out
end Go.Proofs.YtppdholccpgcpaaGreat
