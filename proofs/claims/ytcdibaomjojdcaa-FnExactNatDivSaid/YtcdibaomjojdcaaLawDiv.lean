/-
  'FnExactNatDiv' returns true, for every two lists of ints.
-/
import Derived.Test.YtcdibaomjojdcaaDivT
import Derived.Test.YtcdibaomjojdcaaLawNatOf
namespace Go.Proofs.Ytcdibaomjojdcaa
open Go.ChangeShapes Go.WideShapes Go.ChangeAt Go.RowKit
open Go.ChangeMaps (open_string shut_string)
set_option linter.unusedVariables false
set_option linter.unusedSimpArgs false

theorem OwnS.apart {B n : Nat} {w w' : World} {A A' : Option Addr} {l : List Int} (h : OwnS B w A (vi l)) (hg : w.grownBy w' (rowOf n A')) (hne : ∀ g g', rowOf n A' = some g → rowOf l.length A = some g' → g ≠ g') : OwnS B w' A (vi l) := by
  by_cases h0 : l.length = 0
  · exact .inl (by rw [List.eq_nil_of_length_eq_zero h0]; rfl)
  · obtain ⟨g, ha, hB, hs, hc, hf⟩ := h.block (by rw [vi_length]; omega)
    have hr : rowOf l.length A = some g := by unfold rowOf; rw [if_neg h0, ha]; rfl
    have hk : w'.heap[g]? = w.heap[g]? := hg.block g hs (fun e => hne g g e.symm hr rfl)
    refine .inr ⟨g, ha, hB, Nat.lt_of_lt_of_le hs hg.size, fun j hj => ?_, fun j hj => ?_⟩
    · rw [World.cell?_of_block (w := w) (a := ⟨g, j, none⟩) hk]; exact hc j hj
    · rw [World.frozen?_of_block (w := w) (a := ⟨g, j, none⟩) hk]; exact hf j hj

set_option maxHeartbeats 1600000 in
theorem law_natDiv (l m : List Int) (A D : Option Addr) (n c n' d : Nat) (w : World) (hl : l.length = n) (hm : m.length = n') (hn : n ≤ 9223372036854775807) (hn' : n' ≤ 9223372036854775807) (hA : RdS w A (vi l)) (hD : RdS w D (vi m)) :
    Calls Try.prog 10 #[.slice A n c, .slice D n' d] w fun e w' => e = .returned (.bool true) ∧ Below w.heap.size w w' := by
  by_cases hg : n ≤ 1048576
  · by_cases hg' : n' ≤ 1048576
    · have T1 := to_at l A n c hl hg
      have T2 := to_at m D n' d hm hg'
      have HS := Lib.hid (fun g g' W h h' => spec_divL l m (some ⟨g, 0, none⟩) (some ⟨g', 0, none⟩) n n n' n' W hl hm hn hn' h h')
      have HI := Lib.hid (fun g g' W h h' => impl_divL l m (some ⟨g, 0, none⟩) (some ⟨g', 0, none⟩) n n n' n' W hl hm hn hn' h h')
      have E1 := Lib.hid (fun g g' W h h' => eqIntS_same l (some ⟨g, 0, none⟩) (some ⟨g', 0, none⟩) n n n W hl (by omega) h h')
      have E2 := Lib.hid (fun g g' W h h' => eqIntS_same m (some ⟨g, 0, none⟩) (some ⟨g', 0, none⟩) n' n' n' W hm (by omega) h h')
      have M1 := Lib.hid (fun B g W h => markIntS_any B (vi l) (some ⟨g, 0, none⟩) n n 1 W (by rw [vi_length, hl]) (by omega) (by omega) h)
      have M2 := Lib.hid (fun B g W h => markIntS_any B (vi m) (some ⟨g, 0, none⟩) n' n' (1 + (n : Int)) W (by rw [vi_length, hm]) (by omega) (by omega) h)
      have R1 : Hid (∀ B W A, OwnS B W A (vi l) → ∀ g, rowOf n A = some g → B ≤ g) := Lib.hid (fun B W A h => by have := row_at h; rwa [hl] at this)
      have R2 : Hid (∀ B W A, OwnS B W A (vi m) → ∀ g, rowOf n' A = some g → B ≤ g) := Lib.hid (fun B W A h => by have := row_at h; rwa [hm] at this)
      have O1 : Hid (∀ B C (W W0 W' : World) A A' (k : List Int), OwnS B W A (vi k) → OwnS C W0 A' (vi l) → W0.heap.size ≤ B → W.grownBy W' (rowOf n A') → OwnS B W' A (vi k)) := Lib.hid (fun B C W W0 W' A A' k h1 h2 h3 h4 => h1.other h2 h3 (by rw [vi_length, hl]; exact h4))
      have O2 : Hid (∀ B C (W W0 W' : World) A A' (k : List Int), OwnS B W A (vi k) → OwnS C W0 A' (vi m) → W0.heap.size ≤ B → W.grownBy W' (rowOf n' A') → OwnS B W' A (vi k)) := Lib.hid (fun B C W W0 W' A A' k h1 h2 h3 h4 => h1.other h2 h3 (by rw [vi_length, hm]; exact h4))
      have hlenL : (divQ l m).length ≤ 60 := (div_len l m).1
      have hlenM : (divR l m).length ≤ 60 := (div_len l m).2
      clear hl hm
      generalize divQ l m = L at HS HI hlenL
      generalize divR l m = M at HS HI hlenM
      have HEL := eq_at L (by omega)
      have HEM := eq_at M (by omega)
      have HML := mark_at L (by omega)
      have HMM : Hid (∀ B A c W, OwnS B W A (vi M) → Calls Try.prog 18 #[.slice A M.length c, .int .i64 (mk1 L.length)] W fun e w' => e = .returned (.int .i64 (mk1 L.length + (M.length : Int))) ∧ OwnS B w' A (vi (marks (mk1 L.length) M.length)) ∧ W.grownBy w' (rowOf M.length A)) :=
        Lib.hid (fun B A c W h1 => markIntS_any B (vi M) A M.length c (mk1 L.length) W (vi_length M) (mk1_pos _) (by have := mk1_le L.length (by omega); omega) h1)
      have HHL := held_at L.length (by omega)
      have HHM : Hid (∀ A c W, RdS W A (vi (marks (mk1 L.length) M.length)) → Calls Try.prog 19 #[.slice A M.length c, .int .i64 (mk1 L.length)] W fun e w' => e = .returned (.int .i64 (mk1 L.length + (M.length : Int))) ∧ Below W.heap.size W w') :=
        Lib.hid (fun A c W h1 => heldIntS_any A M.length c (mk1 L.length) W (mk1_pos _) (by have := mk1_le L.length (by omega); omega) h1)
      have hl0 := mk1_pos L.length
      have hl1 : ¬ mk1 L.length < 0 := by omega
      have hl2 : ¬ mk1 L.length + (M.length : Int) < 0 := by omega
      have hml : Hid (∀ k, (marks k L.length).length = L.length) := Lib.hid (fun k => marks_length k _)
      go_enter Try.func10, Try.ntmps10
      go_wp2_with fail
      refine (T1.out _ hA).mono ?_
      rintro e w1 ⟨g1, rfl, own1, hb1⟩
      go_wp2_with fail
      refine (T2.out _ (hD.below hb1)).mono ?_
      rintro e w2 ⟨g2, rfl, own2, hb2⟩
      have b2 := bt hb1 hb2
      go_wp2_with fail
      refine (HS.out _ _ _ (own1.below hb2).rd own2.rd).mono ?_
      rintro e w3 ⟨A0, c0, A0', c0', rfl, own0, own0', hb3⟩
      have b3 := bt b2 hb3
      go_wp2_with fail
      refine (T1.out _ (hA.below b3)).mono ?_
      rintro e w4 ⟨g4, rfl, own4, hb4⟩
      have b4 := bt b3 hb4
      go_wp2_with fail
      refine (T2.out _ (hD.below b4)).mono ?_
      rintro e w5 ⟨g5, rfl, own5, hb5⟩
      have b5 := bt b4 hb5
      go_wp2_with fail
      refine (HI.out _ _ _ (own4.below hb5).rd own5.rd).mono ?_
      rintro e w6 ⟨A6, c6, A6', c6', rfl, own6, own6', hb6, hdis⟩
      have HDis := Lib.hid hdis
      clear hdis
      have b6 := bt b5 hb6
      go_wp2_with fail
      refine (HEL.out _ _ _ _ _ own6.rd (own0.below (bt (bt hb4 hb5) hb6)).rd).mono ?_
      rintro e w7a ⟨rfl, hb7a⟩
      go_wp2_with fail
      refine (HEM.out _ _ _ _ _ (own6'.below hb7a).rd (own0'.below (bt (bt (bt hb4 hb5) hb6) hb7a)).rd).mono ?_
      rintro e w7 ⟨rfl, hb7b⟩
      have hb7 := bt hb7a hb7b
      have b7 := bt b6 hb7
      go_wp2_with fail
      refine (T1.out _ (hA.below b7)).mono ?_
      rintro e w8 ⟨g8, rfl, own8, hb8⟩
      have b8 := bt b7 hb8
      go_wp2_with fail
      refine (E1.out _ _ _ (own4.below (bt (bt (bt hb5 hb6) hb7) hb8)).rd own8.rd).mono ?_
      rintro e w9 ⟨rfl, hb9⟩
      have b9 := bt b8 hb9
      go_wp2_with fail
      refine (T2.out _ (hD.below b9)).mono ?_
      rintro e w10 ⟨g10, rfl, own10, hb10⟩
      have b10 := bt b9 hb10
      have q7 := bt (bt (bt hb7 hb8) hb9) hb10
      go_wp2_with fail
      refine (E2.out _ _ _ (own5.below (bt hb6 q7)).rd own10.rd).mono ?_
      rintro e w11 ⟨rfl, hb11⟩
      have b11 := bt b10 hb11
      have q11 := bt q7 hb11
      have k3 : Below w3.heap.size w3 w11 := bt (bt (bt hb4 hb5) hb6) q11
      have own4b := own4.below (bt (bt hb5 hb6) q11)
      have own5b := own5.below (bt hb6 q11)
      have own6b := own6.below q11
      have own6b' := own6'.below q11
      go_wp2_with fail
      refine (M1.out w3.heap.size _ _ own4b).mono ?_
      rintro e w12 ⟨rfl, -, hg12⟩
      have k12 : Below w3.heap.size w3 w12 := k3.trans (below_of_grown hg12 k3.size (R1.out _ _ _ own4b))
      have own5c := O1.out _ _ _ _ _ _ _ _ own5b own4 (Nat.le_refl _) hg12
      have own6c := O1.out _ _ _ _ _ _ _ _ own6b own4 hb5.size hg12
      have own6c' := O1.out _ _ _ _ _ _ _ _ own6b' own4 hb5.size hg12
      go_wp2_with fail
      refine (M2.out w4.heap.size _ _ own5c).mono ?_
      rintro e w13 ⟨rfl, -, hg13⟩
      have k13 : Below w3.heap.size w3 w13 := k12.trans (below_of_grown hg13 k12.size (fun g hg => Nat.le_trans hb4.size (R2.out _ _ _ own5c g hg)))
      have own6d := O2.out _ _ _ _ _ _ _ _ own6c own5 (Nat.le_refl _) hg13
      have own6d' := O2.out _ _ _ _ _ _ _ _ own6c' own5 (Nat.le_refl _) hg13
      have hkpos : ¬ (1 + (n : Int) + (n' : Int)) < 0 := by omega
      go_wp2_with fail
      refine (HEL.out _ _ _ _ _ own6d.rd (own0.below k13).rd).mono ?_
      rintro e w14a ⟨rfl, hb14a⟩
      have k14a : Below w3.heap.size w3 w14a := k13.trans (hb14a.mono k13.size)
      go_wp2_with fail
      refine (HEM.out _ _ _ _ _ (own6d'.below hb14a).rd (own0'.below k14a).rd).mono ?_
      rintro e w14 ⟨rfl, hb14b⟩
      have hb14 := bt hb14a hb14b
      have k14 : Below w3.heap.size w3 w14 := k13.trans (hb14.mono k13.size)
      have own14 := own6d.below hb14
      have own14' := own6d'.below hb14
      go_wp2_with fail
      refine (HML.out w5.heap.size _ _ _ own14).mono ?_
      rintro e w15a ⟨rfl, own15a, hg15a⟩
      have k15a : Below w3.heap.size w3 w15a := k14.trans (below_of_grown hg15a k14.size (fun g hg => Nat.le_trans (Nat.le_trans hb4.size hb5.size) (row_at own14 g hg)))
      have own15a' := own14'.apart hg15a HDis.out
      go_wp2_with fail
      refine (HMM.out w5.heap.size _ _ _ own15a').mono ?_
      rintro e w15 ⟨rfl, own15', hg15⟩
      have k15 : Below w3.heap.size w3 w15 := k15a.trans (below_of_grown hg15 k15a.size (fun g hg => Nat.le_trans (Nat.le_trans hb4.size hb5.size) (row_at own15a' g hg)))
      have own15 := own15a.apart hg15 (fun g g' h1 h2 => Ne.symm (HDis.out g' g (by rwa [hml.out] at h2) h1))
      go_wp2_with fail
      refine (HHL.out _ _ _ own15.rd).mono ?_
      rintro e w16a ⟨rfl, hb16a⟩
      go_wp2_with fail
      refine (HHM.out _ _ _ (own15'.below hb16a).rd).mono ?_
      rintro e w16 ⟨rfl, hb16b⟩
      have hb16 := bt hb16a hb16b
      have b16 : Below w.heap.size w w16 := b3.trans ((k15.trans (hb16.mono k15.size)).mono b3.size)
      go_wp2_with fail
      refine (T1.out _ (hA.below b16)).mono ?_
      rintro e w17 ⟨g17, rfl, own17, hb17⟩
      have b17 := bt b16 hb17
      go_wp2_with fail
      refine (T2.out _ (hD.below b17)).mono ?_
      rintro e w18 ⟨g18, rfl, own18, hb18⟩
      have b18 := bt b17 hb18
      go_wp2_with fail
      refine (HI.out _ _ _ (own17.below hb18).rd own18.rd).mono ?_
      rintro e w19 ⟨A19, c19, A19', c19', rfl, own19, own19', hb19, -⟩
      have b19 := bt b18 hb19
      have p16 := bt (bt (bt hb16 hb17) hb18) hb19
      have k19 : Below w3.heap.size w3 w19 := k15.trans (p16.mono k15.size)
      go_wp2_with fail
      refine (HEL.out _ _ _ _ _ own19.rd (own0.below k19).rd).mono ?_
      rintro e w20a ⟨rfl, hb20a⟩
      have k20a : Below w3.heap.size w3 w20a := k19.trans (hb20a.mono k19.size)
      go_wp2_with fail
      refine (HEM.out _ _ _ _ _ (own19'.below hb20a).rd (own0'.below k20a).rd).mono ?_
      rintro e w20 ⟨rfl, hb20b⟩
      have hb20 := bt hb20a hb20b
      have p20 := bt p16 hb20
      go_wp2_with fail
      refine (HHL.out _ _ _ (own15.below p20).rd).mono ?_
      rintro e w21a ⟨rfl, hb21a⟩
      go_wp2_with fail
      refine (HHM.out _ _ _ (own15'.below (bt p20 hb21a)).rd).mono ?_
      rintro e w21 ⟨rfl, hb21b⟩
      have hb21 := bt hb21a hb21b
      go_wp2
      go_ret
      exact ⟨rfl, bt (bt b19 hb20) hb21⟩
    · go_enter Try.func10, Try.ntmps10
      go_wp2
      go_ret
      exact ⟨rfl, Below.refl _ _⟩
  · go_enter Try.func10, Try.ntmps10
    go_wp2
    go_ret
    exact ⟨rfl, Below.refl _ _⟩
end Go.Proofs.Ytcdibaomjojdcaa
