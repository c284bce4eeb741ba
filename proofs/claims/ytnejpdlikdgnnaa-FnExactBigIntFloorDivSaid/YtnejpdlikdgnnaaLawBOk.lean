/-
  'FnExactBigIntOk' returns true, for every big integer, valid or not.
-/
import Derived.Test.YtnejpdlikdgnnaaFrame
import Derived.Test.YtnejpdlikdgnnaaBigS
namespace Go.Proofs.Ytnejpdlikdgnnaa
open Go.ChangeShapes Go.WideShapes Go.ChangeAt Go.RowKit
open Go.ChangeMaps (open_string shut_string)
set_option linter.unusedVariables false
set_option linter.unusedSimpArgs false
set_option maxRecDepth 4000

theorem boxTd (w : World) (T : TypeId) (x y : Value) : Two (w.alloc (.cells #[x, y] T)).drew w.heap.size := boxT w T x y
theorem lt_put2 {W : World} {g : Nat} {x u u' : Value} (h : W.cell? ⟨g, 0, none⟩ = some x) : g < ((W.setCell ⟨g, 0, none⟩ u).setCell ⟨g, 1, none⟩ u').heap.size := by
  have h1 := World.block_lt_of_cell? W _ h
  simpa [World.setCell] using h1
theorem eqBig_same (p : Bool) (l : List Int) (A D : Option Addr) (n c d : Nat) (w : World) (hl : l.length = n) (hn : n ≤ 4611686018427387904) (hA : RdS w A (vi l)) (hD : RdS w D (vi l)) :
    Calls Try.prog 16 #[.agg #[.bool p, .slice A n c], .agg #[.bool p, .slice D n d]] w fun e w' => e = .returned (.bool true) ∧ Below w.heap.size w w' :=
  (eqBig_any p p l l A D n n c d w hl hl hn hn hA hD).mono fun e w' ⟨he, hb⟩ => ⟨by rw [he]; simp, hb⟩

set_option maxHeartbeats 1000000 in
theorem law_bok (p : Bool) (l : List Int) (A : Option Addr) (n c : Nat) (w : World) (hl : l.length = n) (hn : n ≤ 9223372036854775807) (hA : RdS w A (vi l)) :
    Calls Try.prog 3 #[.agg #[.bool p, .slice A n c]] w fun e w' => e = .returned (.bool true) ∧ Below w.heap.size w w' := by
  by_cases hg : (n : Int) ≤ 1048576
  · have hg' : n ≤ 1048576 := by omega
    have SZ := Lib.hid (fun W => szBig_yes p A n c 1048576 W (by omega) (by omega) hg)
    have hg3 : ¬ 1048576 - (n : Int) < 0 := by omega
    have T1 := Lib.hid (fun W h => toBig_any p l A n c W hl hg' h)
    have HS := Lib.hid (fun g W h => spec_bok p l (some ⟨g, 0, none⟩) n n W hl hn h)
    have HI := Lib.hid (fun g W h => impl_bok p l (some ⟨g, 0, none⟩) n n W hl hn h)
    have E1 := Lib.hid (fun g g' W h h' => eqBig_same p l (some ⟨g, 0, none⟩) (some ⟨g', 0, none⟩) n n n W hl (by omega) h h')
    have HR : Hid (∀ W, Below w.heap.size w W → RdS W A (vi l)) := Lib.hid (fun W hb => hA.below hb)
    clear hl hA
    generalize okB p l = r at HS HI
    have q1 : (r == r) = true := by simp
    go_enter Try.func3, Try.ntmps3
    go_wp2_with fail
    have F := (Fr.nil w).alloc 24 [.bool p, .slice A n c]
    have kb := ba1 w (.cells #[.bool p, .slice A n c] 24)
    replace F : Fr (w.alloc (.cells #[.bool p, .slice A n c] 24)) _ := F
    generalize w.alloc (.cells #[.bool p, .slice A n c] 24) = W1 at F kb ⊢
    refine (SZ.out _).mono ?_
    rintro e W2 ⟨rfl, hb⟩
    replace F := F.below hb
    replace kb := bt kb hb
    clear hb
    have e0 := F.get 0 0 rfl rfl
    have e1 := F.get 0 1 rfl rfl
    go_wp2_with fail
    clear e0 e1
    refine (T1.out _ (HR.out _ kb)).mono ?_
    rintro e W3 ⟨g3, rfl, own3, hb⟩
    replace F := F.below hb
    replace kb := bt kb hb
    clear hb
    go_wp2_with fail
    refine (HS.out _ _ own3.rd).mono ?_
    rintro e W4 ⟨rfl, hb⟩
    replace F := F.below hb
    replace kb := bt kb hb
    clear hb
    have e0 := F.get 0 0 rfl rfl
    have e1 := F.get 0 1 rfl rfl
    go_wp2_with fail
    clear e0 e1
    refine (T1.out _ (HR.out _ kb)).mono ?_
    rintro e W5 ⟨g5, rfl, own5, hb⟩
    replace F := F.below hb
    replace kb := bt kb hb
    clear hb
    go_wp2_with fail
    replace F : Fr (W5.alloc (.cells #[.bool p, .slice (some ⟨g5, 0, none⟩) n n] 27)) _ := F.alloc 27 [.bool p, .slice (some ⟨g5, 0, none⟩) n n]
    replace kb := kb.alloc kb.size (.cells #[.bool p, .slice (some ⟨g5, 0, none⟩) n n] 27)
    replace own5 := own5.below (ba1 W5 (.cells #[.bool p, .slice (some ⟨g5, 0, none⟩) n n] 27))
    generalize W5.alloc (.cells #[.bool p, .slice (some ⟨g5, 0, none⟩) n n] 27) = W6 at F kb own5 ⊢
    refine (HI.out _ _ own5.rd).mono ?_
    rintro e W7 ⟨rfl, hb⟩
    replace F := F.below hb
    replace kb := bt kb hb
    replace own5 := own5.below hb
    clear hb
    go_wp2_with fail
    have F0 := F.get 0 0 rfl rfl
    have F1 := F.get 0 1 rfl rfl
    have F2 := F.get 1 0 rfl rfl
    have F3 := F.get 1 1 rfl rfl
    go_region_held3 (fun w' => w'.cell? ⟨W5.heap.size, 0, none⟩ = some (.bool p) ∧ w'.cell? ⟨W5.heap.size, 1, none⟩ = some (.slice (some ⟨g5, 0, none⟩) n n) ∧ w'.cell? ⟨w.heap.size, 0, none⟩ = some (.bool p) ∧ w'.cell? ⟨w.heap.size, 1, none⟩ = some (.slice A n c) ∧ OwnS W4.heap.size w' (some ⟨g5, 0, none⟩) (vi l) ∧ Below w.heap.size w w')
      (first | (exact ⟨F0, F1, F2, F3, own5.below (Below.refl _ _).drew, kb.drew⟩) | (go_split_ands; exact keptE (by assumption) (by assumption) (by assumption) (by assumption) (by assumption) (by assumption) hb))
      (first | (go_at_call 14; go_split_ands; refine (T1.out _ (HR.out _ (by assumption))).mono ?_; rintro e W8 ⟨g8, rfl, own8, hb⟩) | (go_at_call 16; go_split_ands; refine (E1.out _ _ _ (OwnS.rd (by assumption)) own8.rd).mono ?_; rintro e W9 ⟨rfl, hb⟩))
    have hfin := (‹_ ∧ _ ∧ _ ∧ _ ∧ _ ∧ Below w.heap.size w _›).2.2.2.2.2
    go_wp2
    go_ret
    exact ⟨rfl, hfin⟩
  · have SZ := Lib.hid (fun W => szBig_no p A n c 1048576 W (by omega) (by omega) hn hg)
    clear hg hl hA
    go_enter Try.func3, Try.ntmps3
    go_wp2_with fail
    refine (SZ.out _).mono ?_
    rintro e W2 ⟨rfl, hb⟩
    have kb := (ba1 _ _).trans (hb.mono (by rw [sz1]; omega))
    go_wp2
    go_ret
    exact ⟨rfl, kb⟩
end Go.Proofs.Ytnejpdlikdgnnaa
