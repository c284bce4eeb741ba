/-
  The model's EntryOf.
-/
import Derived.Test.YtennekieiioilaaGreatAtS
import Derived.Test.YtennekieiioilaaGreatIsM
namespace Go.Proofs.YtennekieiioilaaGreat
open Go.ChangeShapes Go.WideShapes Go.ChangeAt Go.RowKit
open Go.ChangeMaps (open_string shut_string)
set_option linter.unusedVariables false
set_option linter.unusedSimpArgs false
set_option maxRecDepth 4000

theorem none_ratX (B : Nat) (w w' : World) (h : Below w.heap.size w w') : MadeQ B (ofO none) w (.returned (.agg #[.bool false, .slice none 0 0, .slice none 0 0])) w' :=
  ⟨⟨none, 0, none, 0⟩, rfl, Nat.le_refl _, Nat.le_refl _, owns_l (noRows _ _ _ _ ⟨none, 0, none, 0⟩), (noApart _ ⟨none, 0, none, 0⟩).l, h⟩
attribute [local go_sem ↓] Go.wp_at_zero Go.wp_at_succ
set_option maxHeartbeats 4000000 in
theorem spec_entry (R : List MR) (A : Option Addr) (c : Nat) (x y : Int) (w : World) (hn : R.length ≤ 9223372036854775807) (hL : ∀ p, p ∈ R → LenX p) (hA : RdS w A (flatX R)) (hR : Rds w (lrowX R)) :
    Calls Tryz.prog 7 #[.agg #[.slice A R.length c], .int .i64 x, .int .i64 y] w (MadeQ w.heap.size (ofO (entR R x y)) w) := by
  have HIS : Hid (∀ W, Below w.heap.size w W → Calls Tryz.prog 25 #[.agg #[.slice A R.length c]] W (fun e w' => e = .returned (.bool (isMx R)) ∧ Below W.heap.size W w')) := Lib.hid (fun W hb => spec_isMatrix R A c W hn hL (hA.below hb) (hR.below hb))
  have HX := Lib.hid (fun W => in_any x 0 ((R.length : Int) - 1) W)
  have HY := Lib.hid (fun W => in_any y 0 ((R.length : Int) - 1) W)
  obtain ⟨T, hT⟩ : ∃ T, T = entR R x y := ⟨_, rfl⟩
  rw [← hT]
  have HAT : Hid (isMx R = true → (0 ≤ x ∧ x ≤ (R.length : Int) - 1) → (0 ≤ y ∧ y ≤ (R.length : Int) - 1) → ∀ W, Below w.heap.size w W → Calls Tryz.prog 27 #[.agg #[.slice A R.length c], .int .i64 x, .int .i64 y] W (MadeQ W.heap.size (ofO T) W)) := Lib.hid (fun h1 h2 h3 W hb => by
    obtain ⟨i, rfl⟩ : ∃ i : Nat, x = (i : Int) := ⟨x.toNat, by omega⟩
    obtain ⟨p, hp⟩ := getX (L := R) (i := i) (by omega)
    have hent : T = entO p y := by
      rw [hT]; unfold entR inX
      rw [if_pos ⟨h1, by simpa using h2, by simpa using h3⟩]
      show (match R[(i : Int).toNat]? with | some p => entO p y | none => none) = _
      rw [Int.toNat_natCast, hp]
    rw [hent]
    have hk : R.length ≤ 40 ∧ R.all (rowB R.length) = true := by
      unfold isMx at h1; simpa using h1
    have hrow := allB_at hk.2 hp
    unfold rowB at hrow
    simp only [Bool.and_eq_true, decide_eq_true_eq] at hrow
    have lp := hL p (List.mem_of_getElem? hp)
    exact spec_at R A c i p y W hp (fun v hv => by
      obtain ⟨r, h4, h5, h6⟩ := valx_yes (List.all_eq_true.1 hrow.2.1 v hv)
      have k := (fitO_some h6).len
      rw [← h5] at k
      show Short v.x
      unfold Short; omega) hrow.1 hrow.2.1 hk.1 (hA.below hb) (hR.below hb) lp.1)
  have hx0 : isMx R = false ∨ ¬ (0 ≤ x ∧ x ≤ (R.length : Int) - 1) ∨ ¬ (0 ≤ y ∧ y ≤ (R.length : Int) - 1) → T = none := fun h => by
    rw [hT]; unfold entR inX
    rw [if_neg]
    rintro ⟨h1, h2, h3⟩
    simp only [decide_eq_true_eq] at h2 h3
    rcases h with h | h | h
    · rw [h1] at h; cases h
    · exact h h2
    · exact h h3
  obtain ⟨mx, hmx⟩ : ∃ b, b = isMx R := ⟨_, rfl⟩
  rw [← hmx] at HIS HAT hx0
  obtain ⟨n, hnn⟩ : ∃ n, n = R.length := ⟨_, rfl⟩
  rw [← hnn] at HIS HX HY HAT hx0 hn ⊢
  have hw1 : IntKind.i64.wrap ((n : Int) - 1) = (n : Int) - 1 := by rw [IntKind.wrap_i64]; omega
  clear hA hR hL hT hmx hnn
  obtain ⟨P_a, P_o⟩ := blocks2 w (.cells #[.slice A n c] 34) (.cells #[.bool false, .slice none 0 0, .slice none 0 0] 30)
  have kb := ba2 w (.cells #[.slice A n c] 34) (.cells #[.bool false, .slice none 0 0, .slice none 0 0] 30)
  have a0 := rblk_cell P_a 0
  cases mx
  case false =>
    have hTn := hx0 (.inl rfl)
    subst hTn
    clear HX HY HAT hx0
    go_enter Tryz.func7, Tryz.ntmps7
    go_wp2_with fail
    clear a0
    generalize (w.alloc (.cells #[.slice A n c] 34)).alloc (.cells #[.bool false, .slice none 0 0, .slice none 0 0] 30) = W1 at kb P_a P_o ⊢
    refine (HIS.out _ kb).mono ?_
    rintro e w2 ⟨rfl, hb⟩
    replace P_a := rblk_below P_a hb
    replace P_o := rblk_below P_o hb
    replace kb := bt kb hb
    clear hb
    have c_o0 := rblk_cell P_o 0
    have c_o1 := rblk_cell P_o 1
    have c_o2 := rblk_cell P_o 2
    have f_o0 := rblk_free P_o 0
    have f_o1 := rblk_free P_o 1
    have f_o2 := rblk_free P_o 2
    go_wp2
    exact bodyPost_ret (v := .agg #[.bool false, .slice none 0 0, .slice none 0 0]) (by simp [results, Tryz.results7, go_sem, c_o0, c_o1, c_o2]) rfl (none_ratX _ _ _ (below_put3 kb (Nat.le_succ _) _ _ _))
  by_cases hx : 0 ≤ x ∧ x ≤ (n : Int) - 1
  case neg =>
    have hTn := hx0 (.inr (.inl hx))
    subst hTn
    rw [decide_eq_false hx] at HX
    clear HY HAT hx0 hx
    go_enter Tryz.func7, Tryz.ntmps7
    go_wp2_with fail
    clear a0
    generalize (w.alloc (.cells #[.slice A n c] 34)).alloc (.cells #[.bool false, .slice none 0 0, .slice none 0 0] 30) = W1 at kb P_a P_o ⊢
    refine (HIS.out _ kb).mono ?_
    rintro e w2 ⟨rfl, hb⟩
    replace P_a := rblk_below P_a hb
    replace P_o := rblk_below P_o hb
    replace kb := bt kb hb
    clear hb
    have a0 := rblk_cell P_a 0
    go_wp2_with fail
    clear a0
    refine (HX.out _).mono ?_
    rintro e w3 ⟨rfl, rfl⟩
    have c_o0 := rblk_cell P_o 0
    have c_o1 := rblk_cell P_o 1
    have c_o2 := rblk_cell P_o 2
    have f_o0 := rblk_free P_o 0
    have f_o1 := rblk_free P_o 1
    have f_o2 := rblk_free P_o 2
    go_wp2
    exact bodyPost_ret (v := .agg #[.bool false, .slice none 0 0, .slice none 0 0]) (by simp [results, Tryz.results7, go_sem, c_o0, c_o1, c_o2]) rfl (none_ratX _ _ _ (below_put3 kb (Nat.le_succ _) _ _ _))
  by_cases hy : 0 ≤ y ∧ y ≤ (n : Int) - 1
  case neg =>
    have hTn := hx0 (.inr (.inr hy))
    subst hTn
    rw [decide_eq_true hx] at HX
    rw [decide_eq_false hy] at HY
    clear HAT hx0 hx hy
    go_enter Tryz.func7, Tryz.ntmps7
    go_wp2_with fail
    clear a0
    generalize (w.alloc (.cells #[.slice A n c] 34)).alloc (.cells #[.bool false, .slice none 0 0, .slice none 0 0] 30) = W1 at kb P_a P_o ⊢
    refine (HIS.out _ kb).mono ?_
    rintro e w2 ⟨rfl, hb⟩
    replace P_a := rblk_below P_a hb
    replace P_o := rblk_below P_o hb
    replace kb := bt kb hb
    clear hb
    have a0 := rblk_cell P_a 0
    go_wp2_with fail
    clear a0
    refine (HX.out _).mono ?_
    rintro e w3 ⟨rfl, rfl⟩
    have a0 := rblk_cell P_a 0
    go_wp2_with fail
    clear a0
    refine (HY.out _).mono ?_
    rintro e w3 ⟨rfl, rfl⟩
    have c_o0 := rblk_cell P_o 0
    have c_o1 := rblk_cell P_o 1
    have c_o2 := rblk_cell P_o 2
    have f_o0 := rblk_free P_o 0
    have f_o1 := rblk_free P_o 1
    have f_o2 := rblk_free P_o 2
    go_wp2
    exact bodyPost_ret (v := .agg #[.bool false, .slice none 0 0, .slice none 0 0]) (by simp [results, Tryz.results7, go_sem, c_o0, c_o1, c_o2]) rfl (none_ratX _ _ _ (below_put3 kb (Nat.le_succ _) _ _ _))
  have HAT2 := Lib.hid (HAT.out rfl hx hy)
  rw [decide_eq_true hx] at HX
  rw [decide_eq_true hy] at HY
  obtain ⟨Q, hQ⟩ : ∃ Q, Q = ofO T := ⟨_, rfl⟩
  rw [← hQ] at HAT2 ⊢
  unfold MadeQ at HAT2
  clear HAT hx0 hx hy hQ
  go_enter Tryz.func7, Tryz.ntmps7
  go_wp2_with fail
  clear a0
  generalize (w.alloc (.cells #[.slice A n c] 34)).alloc (.cells #[.bool false, .slice none 0 0, .slice none 0 0] 30) = W1 at kb P_a P_o ⊢
  refine (HIS.out _ kb).mono ?_
  rintro e w2 ⟨rfl, hb⟩
  replace P_a := rblk_below P_a hb
  replace P_o := rblk_below P_o hb
  replace kb := bt kb hb
  clear hb
  have a0 := rblk_cell P_a 0
  go_wp2_with fail
  clear a0
  refine (HX.out _).mono ?_
  rintro e w3 ⟨rfl, rfl⟩
  have a0 := rblk_cell P_a 0
  go_wp2_with fail
  clear a0
  refine (HY.out _).mono ?_
  rintro e w3 ⟨rfl, rfl⟩
  have a0 := rblk_cell P_a 0
  go_wp2_with fail
  clear a0
  refine (HAT2.out _ kb).mono ?_
  rintro e w2 ⟨a, rfl, hx, hy, oa, hap, hb⟩
  have lo := rblk_lt P_o
  replace P_o := rblk_below P_o hb
  replace kb := bt kb hb
  clear hb P_a
  have r0 := rblk_cell P_o 0
  have r1 := rblk_cell P_o 1
  have r2 := rblk_cell P_o 2
  have f0 := rblk_free P_o 0
  have f1 := rblk_free P_o 1
  have f2 := rblk_free P_o 2
  have hz2 := Nat.le_trans (Nat.le_of_lt (Nat.lt_of_le_of_lt (Nat.le_succ _) lo)) (Nat.le_refl _)
  go_wp2
  exact bodyPost_ret (v := .agg #[.bool Q.p, .slice a.A Q.l.length a.c, .slice a.D Q.m.length a.d]) (by simp [results, Tryz.results7, go_sem, r0, r1, r2]) rfl ⟨a, rfl, hx, hy, owns_end3 oa (.inl lo) hz2 (Nat.le_refl _) _ _ _, hap, below_put3 kb (Nat.le_succ _) _ _ _⟩
end Go.Proofs.YtennekieiioilaaGreat
