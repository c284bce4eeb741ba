/-
  'FnExactNatGcd' returns true, for every two lists of ints.
-/
import Derived.Test.YtcdibaomjojdcaaGcdL
import Derived.Test.YtcdibaomjojdcaaLawNatOf
namespace Go.Proofs.Ytcdibaomjojdcaa
open Go.ChangeShapes Go.WideShapes Go.ChangeAt Go.RowKit
open Go.ChangeMaps (open_string shut_string)
set_option linter.unusedVariables false
set_option linter.unusedSimpArgs false

set_option maxHeartbeats 1600000 in
theorem law_natGcd (l m : List Int) (A D : Option Addr) (n c n' d : Nat) (w : World) (hl : l.length = n) (hm : m.length = n') (hn : n ≤ 9223372036854775807) (hn' : n' ≤ 9223372036854775807) (hA : RdS w A (vi l)) (hD : RdS w D (vi m)) :
    Calls Try.prog 11 #[.slice A n c, .slice D n' d] w fun e w' => e = .returned (.bool true) ∧ Below w.heap.size w w' := by
  by_cases hg : n ≤ 1048576
  · by_cases hg' : n' ≤ 1048576
    · have T1 := to_at l A n c hl hg
      have T2 := to_at m D n' d hm hg'
      have HS := Lib.hid (fun g g' W h h' => spec_gcdL l m ⟨g, 0, none⟩ ⟨g', 0, none⟩ n n n' n' W hl hm hn hn' h h')
      have HI := Lib.hid (fun g g' W h h' => impl_gcdL l m (some ⟨g, 0, none⟩) (some ⟨g', 0, none⟩) n n n' n' W hl hm hn hn' h h')
      have E1 := Lib.hid (fun g g' W h h' => eqIntS_same l (some ⟨g, 0, none⟩) (some ⟨g', 0, none⟩) n n n W hl (by omega) h h')
      have E2 := Lib.hid (fun g g' W h h' => eqIntS_same m (some ⟨g, 0, none⟩) (some ⟨g', 0, none⟩) n' n' n' W hm (by omega) h h')
      have M1 := Lib.hid (fun B g W h => markIntS_any B (vi l) (some ⟨g, 0, none⟩) n n 1 W (by rw [vi_length, hl]) (by omega) (by omega) h)
      have M2 := Lib.hid (fun B g W h => markIntS_any B (vi m) (some ⟨g, 0, none⟩) n' n' (1 + (n : Int)) W (by rw [vi_length, hm]) (by omega) (by omega) h)
      have R1 : Hid (∀ B W A, OwnS B W A (vi l) → ∀ g, rowOf n A = some g → B ≤ g) := Lib.hid (fun B W A h => by have := row_at h; rwa [hl] at this)
      have R2 : Hid (∀ B W A, OwnS B W A (vi m) → ∀ g, rowOf n' A = some g → B ≤ g) := Lib.hid (fun B W A h => by have := row_at h; rwa [hm] at this)
      have O1 : Hid (∀ B C (W W0 W' : World) A A' (k : List Int), OwnS B W A (vi k) → OwnS C W0 A' (vi l) → W0.heap.size ≤ B → W.grownBy W' (rowOf n A') → OwnS B W' A (vi k)) := Lib.hid (fun B C W W0 W' A A' k h1 h2 h3 h4 => h1.other h2 h3 (by rw [vi_length, hl]; exact h4))
      have O2 : Hid (∀ B C (W W0 W' : World) A A' (k : List Int), OwnS B W A (vi k) → OwnS C W0 A' (vi m) → W0.heap.size ≤ B → W.grownBy W' (rowOf n' A') → OwnS B W' A (vi k)) := Lib.hid (fun B C W W0 W' A A' k h1 h2 h3 h4 => h1.other h2 h3 (by rw [vi_length, hm]; exact h4))
      have hlen : (binL gcdF l m).length ≤ 1048576 := by have := binL_len (F := gcdF) gcdF_len l m; omega
      clear hl hm
      generalize binL gcdF l m = L at HS HI hlen
      have HE := eq_at L hlen
      have HM := mark_at L hlen
      have HH := held_at L.length hlen
      have hl0 := mk1_pos L.length
      go_enter Try.func11, Try.ntmps11
      go_wp2_with fail
      refine (T1.out _ hA).mono ?_
      rintro e w1 ⟨g1, rfl, own1, hb1⟩
      go_wp2_with fail
      refine (T2.out _ (hD.below hb1)).mono ?_
      rintro e w2 ⟨g2, rfl, own2, hb2⟩
      have b2 := bt hb1 hb2
      go_wp2_with fail
      refine (HS.out _ _ _ (own1.below hb2).rd own2.rd).mono ?_
      rintro e w3 ⟨A0, c0, rfl, own0, hb3⟩
      have b3 := bt b2 hb3
      go_wp2_with fail
      refine (T1.out _ (hA.below b3)).mono ?_
      rintro e w4 ⟨g4, rfl, own4, hb4⟩
      have b4 := bt b3 hb4
      go_wp2_with fail
      refine (T2.out _ (hD.below b4)).mono ?_
      rintro e w5 ⟨g5, rfl, own5, hb5⟩
      have b5 := bt b4 hb5
      go_wp2_with fail
      refine (HI.out _ _ _ (own4.below hb5).rd own5.rd).mono ?_
      rintro e w6 ⟨A6, c6, rfl, own6, hb6⟩
      have b6 := bt b5 hb6
      go_wp2_with fail
      refine (HE.out _ _ _ _ _ own6.rd (own0.below (bt (bt hb4 hb5) hb6)).rd).mono ?_
      rintro e w7 ⟨rfl, hb7⟩
      have b7 := bt b6 hb7
      go_wp2_with fail
      refine (T1.out _ (hA.below b7)).mono ?_
      rintro e w8 ⟨g8, rfl, own8, hb8⟩
      have b8 := bt b7 hb8
      go_wp2_with fail
      refine (E1.out _ _ _ (own4.below (bt (bt (bt hb5 hb6) hb7) hb8)).rd own8.rd).mono ?_
      rintro e w9 ⟨rfl, hb9⟩
      have b9 := bt b8 hb9
      go_wp2_with fail
      refine (T2.out _ (hD.below b9)).mono ?_
      rintro e w10 ⟨g10, rfl, own10, hb10⟩
      have b10 := bt b9 hb10
      have q7 := bt (bt (bt hb7 hb8) hb9) hb10
      go_wp2_with fail
      refine (E2.out _ _ _ (own5.below (bt hb6 q7)).rd own10.rd).mono ?_
      rintro e w11 ⟨rfl, hb11⟩
      have b11 := bt b10 hb11
      have q11 := bt q7 hb11
      have k3 : Below w3.heap.size w3 w11 := bt (bt (bt hb4 hb5) hb6) q11
      have own4b := own4.below (bt (bt hb5 hb6) q11)
      have own5b := own5.below (bt hb6 q11)
      have own6b := own6.below q11
      go_wp2_with fail
      refine (M1.out w3.heap.size _ _ own4b).mono ?_
      rintro e w12 ⟨rfl, -, hg12⟩
      have k12 : Below w3.heap.size w3 w12 := k3.trans (below_of_grown hg12 k3.size (R1.out _ _ _ own4b))
      have own5c := O1.out _ _ _ _ _ _ _ _ own5b own4 (Nat.le_refl _) hg12
      have own6c := O1.out _ _ _ _ _ _ _ _ own6b own4 hb5.size hg12
      go_wp2_with fail
      refine (M2.out w4.heap.size _ _ own5c).mono ?_
      rintro e w13 ⟨rfl, -, hg13⟩
      have k13 : Below w3.heap.size w3 w13 := k12.trans (below_of_grown hg13 k12.size (fun g hg => Nat.le_trans hb4.size (R2.out _ _ _ own5c g hg)))
      have own6d := O2.out _ _ _ _ _ _ _ _ own6c own5 (Nat.le_refl _) hg13
      have hkpos : ¬ (1 + (n : Int) + (n' : Int)) < 0 := by omega
      go_wp2_with fail
      refine (HE.out _ _ _ _ _ own6d.rd (own0.below k13).rd).mono ?_
      rintro e w14 ⟨rfl, hb14⟩
      have k14 : Below w3.heap.size w3 w14 := k13.trans (hb14.mono k13.size)
      have own14 := own6d.below hb14
      go_wp2_with fail
      refine (HM.out w5.heap.size _ _ _ own14).mono ?_
      rintro e w15 ⟨rfl, own15, hg15⟩
      have k15 : Below w3.heap.size w3 w15 := k14.trans (below_of_grown hg15 k14.size (fun g hg => Nat.le_trans (Nat.le_trans hb4.size hb5.size) (row_at own14 g hg)))
      go_wp2_with fail
      refine (HH.out _ _ _ own15.rd).mono ?_
      rintro e w16 ⟨rfl, hb16⟩
      have b16 : Below w.heap.size w w16 := b3.trans ((k15.trans (hb16.mono k15.size)).mono b3.size)
      go_wp2_with fail
      refine (T1.out _ (hA.below b16)).mono ?_
      rintro e w17 ⟨g17, rfl, own17, hb17⟩
      have b17 := bt b16 hb17
      go_wp2_with fail
      refine (T2.out _ (hD.below b17)).mono ?_
      rintro e w18 ⟨g18, rfl, own18, hb18⟩
      have b18 := bt b17 hb18
      go_wp2_with fail
      refine (HI.out _ _ _ (own17.below hb18).rd own18.rd).mono ?_
      rintro e w19 ⟨A19, c19, rfl, own19, hb19⟩
      have b19 := bt b18 hb19
      have p16 := bt (bt (bt hb16 hb17) hb18) hb19
      have k19 : Below w3.heap.size w3 w19 := k15.trans (p16.mono k15.size)
      go_wp2_with fail
      refine (HE.out _ _ _ _ _ own19.rd (own0.below k19).rd).mono ?_
      rintro e w20 ⟨rfl, hb20⟩
      go_wp2_with fail
      refine (HH.out _ _ _ (own15.below (bt p16 hb20)).rd).mono ?_
      rintro e w21 ⟨rfl, hb21⟩
      go_wp2
      go_ret
      exact ⟨rfl, bt (bt b19 hb20) hb21⟩
    · go_enter Try.func11, Try.ntmps11
      go_wp2
      go_ret
      exact ⟨rfl, Below.refl _ _⟩
  · go_enter Try.func11, Try.ntmps11
    go_wp2
    go_ret
    exact ⟨rfl, Below.refl _ _⟩
end Go.Proofs.Ytcdibaomjojdcaa
