/-
  'BigIntFloorDiv', of the model and of the program, whatever the arguments.
-/
import Derived.Test.YtnejpdlikdgnnaaBigW
namespace Go.Proofs.Ytnejpdlikdgnnaa
open Go.ChangeShapes Go.WideShapes Go.ChangeAt Go.RowKit
open Go.ChangeMaps (open_string shut_string)
set_option linter.unusedVariables false
set_option linter.unusedSimpArgs false
set_option maxRecDepth 4000

/-- Whether 'BigIntFloorDiv' has an answer, and the answer. -/
def okF (p : Bool) (l m : List Int) : Bool := okB p l && ok m && decide (m ≠ [])
def fdL (p : Bool) (l m : List Int) : List Int := if okF p l m then cap60 (fdQ p (val l) (val m)) else []
def fdM (p : Bool) (l m : List Int) : List Int := if okF p l m then nd (fdR p (val l) (val m)) else []
def fdS (p : Bool) (l m : List Int) : Bool := p && decide (fdL p l m ≠ [])
theorem fd_no {p : Bool} {l m : List Int} (h : okF p l m = false) : fdL p l m = [] ∧ fdM p l m = [] ∧ fdS p l m = false := by
  have h1 : fdL p l m = [] := by unfold fdL; rw [h]; rfl
  refine ⟨h1, by unfold fdM; rw [h]; rfl, ?_⟩
  unfold fdS
  rw [h1]
  simp
theorem fd_yes {p : Bool} {a b : Nat} (h : okF p (nd a) (nd b) = true) : fdL p (nd a) (nd b) = cap60 (fdQ p a b) ∧ fdM p (nd a) (nd b) = nd (fdR p a b) ∧ fdS p (nd a) (nd b) = (p && decide (cap60 (fdQ p a b) ≠ [])) := by
  unfold fdS fdL fdM
  rw [h, val_nd, val_nd]
  exact ⟨rfl, rfl, rfl⟩
theorem fd_len (p : Bool) (l m : List Int) : (fdL p l m).length ≤ 60 ∧ (fdM p l m).length ≤ 60 := by
  by_cases h : okF p l m = true
  · have h' := h
    unfold okF at h'
    rw [Bool.and_eq_true, Bool.and_eq_true] at h'
    obtain ⟨z, rfl, rfl, hz⟩ := okB_z h'.1.1
    obtain ⟨b, rfl, hb⟩ := ok_nd h'.1.2
    have hb0 : 0 < b := by
      rcases Nat.eq_zero_or_pos b with h0 | h0
      · subst h0; simp [nd_zero] at h'
      · exact h0
    unfold zm at h ⊢
    rw [(fd_yes h).1, (fd_yes h).2.1]
    refine ⟨cap60_len' _, ?_⟩
    rw [nd_length]
    have hm := Nat.mod_lt z.natAbs hb0
    have : fdR (zn z) z.natAbs b ≤ b := by unfold fdR; split <;> omega
    have := ln_mono this
    omega
  · have h' : okF p l m = false := by simpa using h
    rw [(fd_no h').1, (fd_no h').2.1]
    simp
theorem MadeBS.nil (B : Nat) (w w' : World) (hb : Below w.heap.size w w') : MadeBS B false [] [] w (.returned (.tuple #[.agg #[.bool false, .slice none 0 0], .slice none 0 0])) w' :=
  ⟨none, 0, none, 0, rfl, .inl rfl, .inl rfl, hb, fun g g' h => by simp [rowOf] at h⟩

set_option maxHeartbeats 1000000 in
theorem spec_fd_no (p : Bool) (l m : List Int) (A D : Option Addr) (n c n' d : Nat) (w : World) (hl : l.length = n) (hm : m.length = n') (hn : n ≤ 9223372036854775807) (hn' : n' ≤ 9223372036854775807) (hk : okF p l m = false) (hA : RdS w A (vi l)) (hD : RdS w D (vi m)) :
    Calls Try.prog 33 #[.agg #[.bool p, .slice A n c], .slice D n' d] w (MadeBS w.heap.size false [] [] w) := by
  have H1 := Lib.hid (fun W h => spec_bok p l A n c W hl hn h)
  have H2 := Lib.hid (fun W h => spec_ok m D n' d W hm hn' h)
  have HR : Hid (∀ W, Below w.heap.size w W → RdS W A (vi l) ∧ RdS W D (vi m)) := Lib.hid (fun W hb => ⟨hA.below hb, hD.below hb⟩)
  cases h1 : okB p l
  · rw [h1] at H1
    clear hk h1 H2 hl hm hA hD
    go_enter Try.func33, Try.ntmps33
    go_wp2_with fail
    generalize hW : (w.alloc (.cells #[.bool p, .slice A n c] 27)).alloc (.cells #[.bool false, .slice none 0 0] 27) = W3
    obtain ⟨k0, k1, kt, kb⟩ := boxes2 _ _ _ _ _ _ _ _ hW
    clear hW
    refine (H1.out _ (HR.out _ kb).1).mono ?_
    rintro e w4 ⟨rfl, hb4⟩
    replace kt := kt.below hb4
    replace kb := bt kb hb4
    obtain ⟨u0, u1, t1, t2, t3, t4⟩ := kt
    go_wp2
    exact bodyPost_ret (v := .tuple #[.agg #[.bool false, .slice none 0 0], .slice none 0 0]) (by simp [results, Try.results33, go_sem, t1, t2]) rfl (MadeBS.nil _ _ _ (below_put (below_put kb (by omega) _) (by omega) _))
  · cases h2 : ok m
    · rw [h1] at H1
      rw [h2] at H2
      clear hk h1 h2 hl hm hA hD
      go_enter Try.func33, Try.ntmps33
      go_wp2_with fail
      generalize hW : (w.alloc (.cells #[.bool p, .slice A n c] 27)).alloc (.cells #[.bool false, .slice none 0 0] 27) = W3
      obtain ⟨k0, k1, kt, kb⟩ := boxes2 _ _ _ _ _ _ _ _ hW
      clear hW
      refine (H1.out _ (HR.out _ kb).1).mono ?_
      rintro e w4 ⟨rfl, hb4⟩
      replace kt := kt.below hb4
      replace kb := bt kb hb4
      go_wp2_with fail
      refine (H2.out _ (HR.out _ kb).2).mono ?_
      rintro e w5 ⟨rfl, rfl⟩
      obtain ⟨u0, u1, t1, t2, t3, t4⟩ := kt
      go_wp2
      exact bodyPost_ret (v := .tuple #[.agg #[.bool false, .slice none 0 0], .slice none 0 0]) (by simp [results, Try.results33, go_sem, t1, t2]) rfl (MadeBS.nil _ _ _ (below_put (below_put kb (by omega) _) (by omega) _))
    · have h3 : n' = 0 := by
        unfold okF at hk
        rw [h1, h2] at hk
        have : m = [] := by simpa using hk
        rw [← hm, this]; rfl
      subst h3
      rw [h1] at H1
      rw [h2] at H2
      clear hk h1 h2 hl hm hA hD
      go_enter Try.func33, Try.ntmps33
      go_wp2_with fail
      generalize hW : (w.alloc (.cells #[.bool p, .slice A n c] 27)).alloc (.cells #[.bool false, .slice none 0 0] 27) = W3
      obtain ⟨k0, k1, kt, kb⟩ := boxes2 _ _ _ _ _ _ _ _ hW
      clear hW
      refine (H1.out _ (HR.out _ kb).1).mono ?_
      rintro e w4 ⟨rfl, hb4⟩
      replace kt := kt.below hb4
      replace kb := bt kb hb4
      go_wp2_with fail
      refine (H2.out _ (HR.out _ kb).2).mono ?_
      rintro e w5 ⟨rfl, rfl⟩
      obtain ⟨u0, u1, t1, t2, t3, t4⟩ := kt
      go_wp2
      exact bodyPost_ret (v := .tuple #[.agg #[.bool false, .slice none 0 0], .slice none 0 0]) (by simp [results, Try.results33, go_sem, t1, t2]) rfl (MadeBS.nil _ _ _ (below_put (below_put kb (by omega) _) (by omega) _))

theorem spec_fd (p : Bool) (l m : List Int) (A D : Option Addr) (n c n' d : Nat) (w : World) (hl : l.length = n) (hm : m.length = n') (hn : n ≤ 9223372036854775807) (hn' : n' ≤ 9223372036854775807) (hA : RdS w A (vi l)) (hD : RdS w D (vi m)) :
    Calls Try.prog 33 #[.agg #[.bool p, .slice A n c], .slice D n' d] w (MadeBS w.heap.size (fdS p l m) (fdL p l m) (fdM p l m) w) := by
  by_cases hk : okF p l m = true
  · have h' := hk
    unfold okF at h'
    rw [Bool.and_eq_true, Bool.and_eq_true] at h'
    have hB := h'.1.1
    have h1 := hB
    unfold okB at h1
    rw [Bool.and_eq_true] at h1
    obtain ⟨a, rfl, ha⟩ := ok_nd h1.1
    obtain ⟨b, rfl, hb⟩ := ok_nd h'.1.2
    have hb0 : 0 < n' := by
      rcases Nat.eq_zero_or_pos n' with h0 | h0
      · have : nd b = [] := List.eq_nil_of_length_eq_zero (hm.trans h0)
        simp [this] at h'
      · exact h0
    obtain ⟨e1, e2, e3⟩ := fd_yes hk
    rw [e1, e2, e3]
    rw [nd_length] at hl hm
    cases p
    · rw [(fd_pos a b).1, (fd_pos a b).2]
      exact spec_fd_pos a b A D n c n' d w hl hm (by omega) (by omega) hb0 hB hA hD
    · by_cases h0 : 0 < a % b
      · rw [(fd_up h0).1, (fd_up h0).2]
        exact spec_fd_up a b A D n c n' d w hl hm (by omega) (by omega) hb0 h0 hB hA hD
      · rw [(fd_even (p := true) (show a % b = 0 by omega)).1, (fd_even (p := true) (show a % b = 0 by omega)).2]
        exact spec_fd_even a b A D n c n' d w hl hm (by omega) (by omega) hb0 (by omega) hB hA hD
  · have hk' : okF p l m = false := by simpa using hk
    rw [(fd_no hk').1, (fd_no hk').2.1, (fd_no hk').2.2]
    exact spec_fd_no p l m A D n c n' d w hl hm hn hn' hk' hA hD

set_option maxHeartbeats 1000000 in
theorem impl_fd_no (p : Bool) (l m : List Int) (A D : Option Addr) (n c n' d : Nat) (w : World) (hl : l.length = n) (hm : m.length = n') (hn : n ≤ 9223372036854775807) (hn' : n' ≤ 9223372036854775807) (hk : okF p l m = false) (hA : RdS w A (vi l)) (hD : RdS w D (vi m)) :
    Calls Try.prog 35 #[.agg #[.bool p, .slice A n c], .slice D n' d] w (MadeBS w.heap.size false [] [] w) := by
  have H1 := Lib.hid (fun W h => impl_bok p l A n c W hl hn h)
  have H2 := Lib.hid (fun W h => impl_ok m D n' d W hm hn' h)
  have HR : Hid (∀ W, Below w.heap.size w W → RdS W A (vi l) ∧ RdS W D (vi m)) := Lib.hid (fun W hb => ⟨hA.below hb, hD.below hb⟩)
  cases h1 : okB p l
  · rw [h1] at H1
    clear hk h1 H2 hl hm hA hD
    go_enter Try.func35, Try.ntmps35
    go_wp2_with fail
    generalize hW : (w.alloc (.cells #[.bool p, .slice A n c] 27)).alloc (.cells #[.bool false, .slice none 0 0] 27) = W3
    obtain ⟨k0, k1, kt, kb⟩ := boxes2 _ _ _ _ _ _ _ _ hW
    clear hW
    refine (H1.out _ (HR.out _ kb).1).mono ?_
    rintro e w4 ⟨rfl, hb4⟩
    replace kt := kt.below hb4
    replace kb := bt kb hb4
    obtain ⟨u0, u1, t1, t2, t3, t4⟩ := kt
    go_wp2
    exact bodyPost_ret (v := .tuple #[.agg #[.bool false, .slice none 0 0], .slice none 0 0]) (by simp [results, Try.results35, go_sem, t1, t2]) rfl (MadeBS.nil _ _ _ (below_put (below_put kb (by omega) _) (by omega) _))
  · cases h2 : ok m
    · rw [h1] at H1
      rw [h2] at H2
      clear hk h1 h2 hl hm hA hD
      go_enter Try.func35, Try.ntmps35
      go_wp2_with fail
      generalize hW : (w.alloc (.cells #[.bool p, .slice A n c] 27)).alloc (.cells #[.bool false, .slice none 0 0] 27) = W3
      obtain ⟨k0, k1, kt, kb⟩ := boxes2 _ _ _ _ _ _ _ _ hW
      clear hW
      refine (H1.out _ (HR.out _ kb).1).mono ?_
      rintro e w4 ⟨rfl, hb4⟩
      replace kt := kt.below hb4
      replace kb := bt kb hb4
      go_wp2_with fail
      refine (H2.out _ (HR.out _ kb).2).mono ?_
      rintro e w5 ⟨rfl, rfl⟩
      obtain ⟨u0, u1, t1, t2, t3, t4⟩ := kt
      go_wp2
      exact bodyPost_ret (v := .tuple #[.agg #[.bool false, .slice none 0 0], .slice none 0 0]) (by simp [results, Try.results35, go_sem, t1, t2]) rfl (MadeBS.nil _ _ _ (below_put (below_put kb (by omega) _) (by omega) _))
    · have h3 : n' = 0 := by
        unfold okF at hk
        rw [h1, h2] at hk
        have : m = [] := by simpa using hk
        rw [← hm, this]; rfl
      subst h3
      rw [h1] at H1
      rw [h2] at H2
      clear hk h1 h2 hl hm hA hD
      go_enter Try.func35, Try.ntmps35
      go_wp2_with fail
      generalize hW : (w.alloc (.cells #[.bool p, .slice A n c] 27)).alloc (.cells #[.bool false, .slice none 0 0] 27) = W3
      obtain ⟨k0, k1, kt, kb⟩ := boxes2 _ _ _ _ _ _ _ _ hW
      clear hW
      refine (H1.out _ (HR.out _ kb).1).mono ?_
      rintro e w4 ⟨rfl, hb4⟩
      replace kt := kt.below hb4
      replace kb := bt kb hb4
      go_wp2_with fail
      refine (H2.out _ (HR.out _ kb).2).mono ?_
      rintro e w5 ⟨rfl, rfl⟩
      obtain ⟨u0, u1, t1, t2, t3, t4⟩ := kt
      go_wp2
      exact bodyPost_ret (v := .tuple #[.agg #[.bool false, .slice none 0 0], .slice none 0 0]) (by simp [results, Try.results35, go_sem, t1, t2]) rfl (MadeBS.nil _ _ _ (below_put (below_put kb (by omega) _) (by omega) _))

theorem impl_fd (p : Bool) (l m : List Int) (A D : Option Addr) (n c n' d : Nat) (w : World) (hl : l.length = n) (hm : m.length = n') (hn : n ≤ 9223372036854775807) (hn' : n' ≤ 9223372036854775807) (hA : RdS w A (vi l)) (hD : RdS w D (vi m)) :
    Calls Try.prog 35 #[.agg #[.bool p, .slice A n c], .slice D n' d] w (MadeBS w.heap.size (fdS p l m) (fdL p l m) (fdM p l m) w) := by
  by_cases hk : okF p l m = true
  · have h' := hk
    unfold okF at h'
    rw [Bool.and_eq_true, Bool.and_eq_true] at h'
    have hB := h'.1.1
    have h1 := hB
    unfold okB at h1
    rw [Bool.and_eq_true] at h1
    obtain ⟨a, rfl, ha⟩ := ok_nd h1.1
    obtain ⟨b, rfl, hb⟩ := ok_nd h'.1.2
    have hb0 : 0 < n' := by
      rcases Nat.eq_zero_or_pos n' with h0 | h0
      · have : nd b = [] := List.eq_nil_of_length_eq_zero (hm.trans h0)
        simp [this] at h'
      · exact h0
    obtain ⟨e1, e2, e3⟩ := fd_yes hk
    rw [e1, e2, e3]
    rw [nd_length] at hl hm
    cases p
    · rw [(fd_pos a b).1, (fd_pos a b).2]
      exact impl_fd_pos a b A D n c n' d w hl hm (by omega) (by omega) hb0 hB hA hD
    · by_cases h0 : 0 < a % b
      · rw [(fd_up h0).1, (fd_up h0).2]
        exact impl_fd_up a b A D n c n' d w hl hm (by omega) (by omega) hb0 h0 hB hA hD
      · rw [(fd_even (p := true) (show a % b = 0 by omega)).1, (fd_even (p := true) (show a % b = 0 by omega)).2]
        exact impl_fd_even a b A D n c n' d w hl hm (by omega) (by omega) hb0 (by omega) hB hA hD
  · have hk' : okF p l m = false := by simpa using hk
    rw [(fd_no hk').1, (fd_no hk').2.1, (fd_no hk').2.2]
    exact impl_fd_no p l m A D n c n' d w hl hm hn hn' hk' hA hD
end Go.Proofs.Ytnejpdlikdgnnaa
