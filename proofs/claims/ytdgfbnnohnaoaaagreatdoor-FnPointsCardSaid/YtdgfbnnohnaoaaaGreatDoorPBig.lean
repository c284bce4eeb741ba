/-
  'ParseBigInt', of the model and of the program.
-/
import Derived.Test.YtdgfbnnohnaoaaaGreatDoorDkD
import Derived.Test.YtdgfbnnohnaoaaaGreatDoorPNatL
namespace Go.Proofs.YtdgfbnnohnaoaaaGreatDoor
open Go.ChangeShapes Go.WideShapes Go.ChangeAt Go.RowKit
open Go.ChangeMaps (open_string shut_string)
set_option linter.unusedVariables false
set_option linter.unusedSimpArgs false
set_option maxRecDepth 4000

/-- A struct of a sign and a slice, and a bool. -/
def PairB (B : Nat) (p : Bool) (L : List Int) (b : Bool) (w : World) (e : Ending) (w' : World) : Prop :=
  ∃ A c, e = .returned (.tuple #[.agg #[.bool p, .slice A L.length c], .bool b]) ∧ L.length ≤ c ∧ OwnS B w' A (vi L) ∧ Below w.heap.size w w'
theorem PairB.nil (B : Nat) (w w' : World) (hb : Below w.heap.size w w') : PairB B false [] false w (.returned (.tuple #[.agg #[.bool false, .slice none 0 0], .bool false])) w' := ⟨none, 0, rfl, Nat.le_refl _, .inl rfl, hb⟩
/-- Whether the text is a big integer's, its limbs. -/
def pbB (p : Bool) (T : ByteArray) : Bool := okS T && !(p && decide (prsL T = []))
def pbL (p : Bool) (T : ByteArray) : List Int := if pbB p T then prsL T else []
theorem pb_no {p : Bool} {T : ByteArray} (h : pbB p T = false) : pbL p T = [] := by unfold pbL; rw [h]; rfl
theorem pb_yes {p : Bool} {T : ByteArray} (h : pbB p T = true) : pbL p T = prsL T := by unfold pbL; rw [h]; rfl
theorem prsL_ok {T : ByteArray} (h : okS T = true) : ok (prsL T) = true := by
  rw [prs_yes h]
  have h1 := prsL_len T
  rw [prs_yes h, nd_length] at h1
  exact nd_ok h1

set_option maxHeartbeats 800000 in
theorem impl_pb_neg_no (s T : ByteArray) (L : List Int) (w : World) (HC0 : ∀ W, Calls Tryz.prog 77 #[.string s, .string ⟨#[45]⟩] W fun e w' => e = .returned (.tuple #[.string T, .bool true]) ∧ W = w') (HP0 : ∀ W, Calls Tryz.prog 50 #[.string T] W (PairN W.heap.size L false W)) :
    Calls Tryz.prog 49 #[.string s] w (PairB w.heap.size false [] false w) := by
  have HP := Lib.hid HP0
  have HC := Lib.hid HC0
  clear HP0 HC0
  go_enter Tryz.func49, Tryz.ntmps49
  go_wp2_with fail
  have kt := boxT w 25 (.bool false) (.slice none 0 0)
  have kb := ba1 w (.cells #[.bool false, .slice none 0 0] 25)
  generalize w.alloc (.cells #[.bool false, .slice none 0 0] 25) = W1 at kt kb ⊢
  refine (HC.out _).mono ?_
  rintro e w3 ⟨rfl, rfl⟩
  go_wp2_with fail
  refine (HP.out _).mono ?_
  rintro e w4 ⟨A4, c4, rfl, hc4, hO4, hb4⟩
  have hlt := kt.lt
  replace kt := kt.below hb4
  replace kb := bt kb hb4
  have hal := ba1 w4 (.cells #[.bool true, .slice A4 L.length c4] 25)
  have hlt4 := kt.lt
  replace kt := kt.below hal
  replace kb := bt kb hal
  obtain ⟨u0, u1, t1, t2, t3, t4⟩ := kt
  go_wp2
  exact bodyPost_ret (v := .tuple #[.agg #[.bool false, .slice none 0 0], .bool false]) (by simp [results, Tryz.results49, go_sem, t1, t2]) rfl (PairB.nil _ _ _ (below_put (below_put kb (by omega) _) (by omega) _))

set_option maxHeartbeats 800000 in
theorem impl_pb_neg_ok (s T : ByteArray) (L : List Int) (w : World) (h6 : L.length ≤ 60) (hB : okB true L = true) (HC0 : ∀ W, Calls Tryz.prog 77 #[.string s, .string ⟨#[45]⟩] W fun e w' => e = .returned (.tuple #[.string T, .bool true]) ∧ W = w') (HP0 : ∀ W, Calls Tryz.prog 50 #[.string T] W (PairN W.heap.size L true W)) :
    Calls Tryz.prog 49 #[.string s] w (PairB w.heap.size true L true w) := by
  have HP := Lib.hid HP0
  have HC := Lib.hid HC0
  clear HP0 HC0
  have HK := Lib.hid (fun A c W h => impl_bok true L A L.length c W rfl (by omega) h)
  rw [hB] at HK
  clear hB
  go_enter Tryz.func49, Tryz.ntmps49
  go_wp2_with fail
  have kt := boxT w 25 (.bool false) (.slice none 0 0)
  have kb := ba1 w (.cells #[.bool false, .slice none 0 0] 25)
  generalize w.alloc (.cells #[.bool false, .slice none 0 0] 25) = W1 at kt kb ⊢
  refine (HC.out _).mono ?_
  rintro e w3 ⟨rfl, rfl⟩
  go_wp2_with fail
  refine (HP.out _).mono ?_
  rintro e w4 ⟨A4, c4, rfl, hc4, hO4, hb4⟩
  have hlt := kt.lt
  replace kt := kt.below hb4
  replace kb := bt kb hb4
  go_wp2_with fail
  have hal := ba1 w4 (.cells #[.bool true, .slice A4 L.length c4] 25)
  have kx0 := box0 w4 25 (.bool true) (.slice A4 L.length c4)
  have kx1 := box1 w4 25 (.bool true) (.slice A4 L.length c4)
  have hne : w.heap.size ≠ w4.heap.size := by have := kb.size; have := kt.lt; omega
  replace kt := kt.below hal
  replace kb := bt kb hal
  replace hO4 := hO4.below hal
  generalize w4.alloc (.cells #[.bool true, .slice A4 L.length c4] 25) = W5 at kt kb hO4 kx0 kx1 ⊢
  refine (HK.out _ _ _ hO4.rd).mono ?_
  rintro e w6 ⟨rfl, hb6⟩
  replace kt := kt.below hb6
  replace kb := bt kb hb6
  replace hO4 := hO4.below hb6
  replace kx0 := cell_kept kx0 hb6
  replace kx1 := cell_kept kx1 hb6
  obtain ⟨u0, u1, t1, t2, t3, t4⟩ := kt
  go_wp2
  exact bodyPost_ret (v := .tuple #[.agg #[.bool true, .slice A4 L.length c4], .bool true]) (by simp [results, Tryz.results49, go_sem, t1, t2]) rfl ⟨A4, c4, rfl, hc4, ((hO4.put hlt _).put hlt _).more (by omega), below_put (below_put kb (by omega) _) (by omega) _⟩

set_option maxHeartbeats 800000 in
theorem impl_pb_neg_zero (s T : ByteArray) (L : List Int) (w : World) (h6 : L.length ≤ 60) (hB : okB true L = false) (HC0 : ∀ W, Calls Tryz.prog 77 #[.string s, .string ⟨#[45]⟩] W fun e w' => e = .returned (.tuple #[.string T, .bool true]) ∧ W = w') (HP0 : ∀ W, Calls Tryz.prog 50 #[.string T] W (PairN W.heap.size L true W)) :
    Calls Tryz.prog 49 #[.string s] w (PairB w.heap.size false [] false w) := by
  have HP := Lib.hid HP0
  have HC := Lib.hid HC0
  clear HP0 HC0
  have HK := Lib.hid (fun A c W h => impl_bok true L A L.length c W rfl (by omega) h)
  rw [hB] at HK
  clear hB
  go_enter Tryz.func49, Tryz.ntmps49
  go_wp2_with fail
  have kt := boxT w 25 (.bool false) (.slice none 0 0)
  have kb := ba1 w (.cells #[.bool false, .slice none 0 0] 25)
  generalize w.alloc (.cells #[.bool false, .slice none 0 0] 25) = W1 at kt kb ⊢
  refine (HC.out _).mono ?_
  rintro e w3 ⟨rfl, rfl⟩
  go_wp2_with fail
  refine (HP.out _).mono ?_
  rintro e w4 ⟨A4, c4, rfl, hc4, hO4, hb4⟩
  have hlt := kt.lt
  replace kt := kt.below hb4
  replace kb := bt kb hb4
  go_wp2_with fail
  have hal := ba1 w4 (.cells #[.bool true, .slice A4 L.length c4] 25)
  have kx0 := box0 w4 25 (.bool true) (.slice A4 L.length c4)
  have kx1 := box1 w4 25 (.bool true) (.slice A4 L.length c4)
  have hne : w.heap.size ≠ w4.heap.size := by have := kb.size; have := kt.lt; omega
  replace kt := kt.below hal
  replace kb := bt kb hal
  replace hO4 := hO4.below hal
  generalize w4.alloc (.cells #[.bool true, .slice A4 L.length c4] 25) = W5 at kt kb hO4 kx0 kx1 ⊢
  refine (HK.out _ _ _ hO4.rd).mono ?_
  rintro e w6 ⟨rfl, hb6⟩
  replace kt := kt.below hb6
  replace kb := bt kb hb6
  replace hO4 := hO4.below hb6
  replace kx0 := cell_kept kx0 hb6
  replace kx1 := cell_kept kx1 hb6
  obtain ⟨u0, u1, t1, t2, t3, t4⟩ := kt
  go_wp2
  exact bodyPost_ret (v := .tuple #[.agg #[.bool false, .slice none 0 0], .bool false]) (by simp [results, Tryz.results49, go_sem, t1, t2]) rfl (PairB.nil _ _ _ (below_put (below_put kb (by omega) _) (by omega) _))

set_option maxHeartbeats 800000 in
theorem impl_pb_pos_no (s : ByteArray) (L : List Int) (w : World) (HC0 : ∀ W, Calls Tryz.prog 77 #[.string s, .string ⟨#[45]⟩] W fun e w' => e = .returned (.tuple #[.string s, .bool false]) ∧ W = w') (HP0 : ∀ W, Calls Tryz.prog 50 #[.string s] W (PairN W.heap.size L false W)) :
    Calls Tryz.prog 49 #[.string s] w (PairB w.heap.size false [] false w) := by
  have HP := Lib.hid HP0
  have HC := Lib.hid HC0
  clear HP0 HC0
  go_enter Tryz.func49, Tryz.ntmps49
  go_wp2_with fail
  have kt := boxT w 25 (.bool false) (.slice none 0 0)
  have kb := ba1 w (.cells #[.bool false, .slice none 0 0] 25)
  generalize w.alloc (.cells #[.bool false, .slice none 0 0] 25) = W1 at kt kb ⊢
  refine (HC.out _).mono ?_
  rintro e w3 ⟨rfl, rfl⟩
  go_wp2_with fail
  refine (HP.out _).mono ?_
  rintro e w4 ⟨A4, c4, rfl, hc4, hO4, hb4⟩
  have hlt := kt.lt
  replace kt := kt.below hb4
  replace kb := bt kb hb4
  have hal := ba1 w4 (.cells #[.bool false, .slice A4 L.length c4] 25)
  have hlt4 := kt.lt
  replace kt := kt.below hal
  replace kb := bt kb hal
  obtain ⟨u0, u1, t1, t2, t3, t4⟩ := kt
  go_wp2
  exact bodyPost_ret (v := .tuple #[.agg #[.bool false, .slice none 0 0], .bool false]) (by simp [results, Tryz.results49, go_sem, t1, t2]) rfl (PairB.nil _ _ _ (below_put (below_put kb (by omega) _) (by omega) _))

set_option maxHeartbeats 800000 in
theorem impl_pb_pos_ok (s : ByteArray) (L : List Int) (w : World) (h6 : L.length ≤ 60) (hB : okB false L = true) (HC0 : ∀ W, Calls Tryz.prog 77 #[.string s, .string ⟨#[45]⟩] W fun e w' => e = .returned (.tuple #[.string s, .bool false]) ∧ W = w') (HP0 : ∀ W, Calls Tryz.prog 50 #[.string s] W (PairN W.heap.size L true W)) :
    Calls Tryz.prog 49 #[.string s] w (PairB w.heap.size false L true w) := by
  have HP := Lib.hid HP0
  have HC := Lib.hid HC0
  clear HP0 HC0
  have HK := Lib.hid (fun A c W h => impl_bok false L A L.length c W rfl (by omega) h)
  rw [hB] at HK
  clear hB
  go_enter Tryz.func49, Tryz.ntmps49
  go_wp2_with fail
  have kt := boxT w 25 (.bool false) (.slice none 0 0)
  have kb := ba1 w (.cells #[.bool false, .slice none 0 0] 25)
  generalize w.alloc (.cells #[.bool false, .slice none 0 0] 25) = W1 at kt kb ⊢
  refine (HC.out _).mono ?_
  rintro e w3 ⟨rfl, rfl⟩
  go_wp2_with fail
  refine (HP.out _).mono ?_
  rintro e w4 ⟨A4, c4, rfl, hc4, hO4, hb4⟩
  have hlt := kt.lt
  replace kt := kt.below hb4
  replace kb := bt kb hb4
  go_wp2_with fail
  have hal := ba1 w4 (.cells #[.bool false, .slice A4 L.length c4] 25)
  have kx0 := box0 w4 25 (.bool false) (.slice A4 L.length c4)
  have kx1 := box1 w4 25 (.bool false) (.slice A4 L.length c4)
  have hne : w.heap.size ≠ w4.heap.size := by have := kb.size; have := kt.lt; omega
  replace kt := kt.below hal
  replace kb := bt kb hal
  replace hO4 := hO4.below hal
  generalize w4.alloc (.cells #[.bool false, .slice A4 L.length c4] 25) = W5 at kt kb hO4 kx0 kx1 ⊢
  refine (HK.out _ _ _ hO4.rd).mono ?_
  rintro e w6 ⟨rfl, hb6⟩
  replace kt := kt.below hb6
  replace kb := bt kb hb6
  replace hO4 := hO4.below hb6
  replace kx0 := cell_kept kx0 hb6
  replace kx1 := cell_kept kx1 hb6
  obtain ⟨u0, u1, t1, t2, t3, t4⟩ := kt
  go_wp2
  exact bodyPost_ret (v := .tuple #[.agg #[.bool false, .slice A4 L.length c4], .bool true]) (by simp [results, Tryz.results49, go_sem, t1, t2]) rfl ⟨A4, c4, rfl, hc4, ((hO4.put hlt _).put hlt _).more (by omega), below_put (below_put kb (by omega) _) (by omega) _⟩

/-- The text ahead of which a minus stands, or does not. -/
theorem minus_cases (s : ByteArray) : (∃ h : 0 < s.size, ((s[0]'h).toNat : Int) = 45 ∧ Lib.hasPrefix s.data.toList [45] = true ∧ (⟨(Lib.trimPrefix s.data.toList [45]).toArray⟩ : ByteArray) = s.extract 1 s.size) ∨
    ((∃ h : 0 < s.size, (((s[0]'h).toNat : Int) == 45) = false) ∨ ¬ 0 < s.size) ∧ Lib.hasPrefix s.data.toList [45] = false ∧ (⟨(Lib.trimPrefix s.data.toList [45]).toArray⟩ : ByteArray) = s := by
  by_cases h : 0 < s.size
  · have h0 := getD0 h
    obtain ⟨x, t, ht⟩ : ∃ x t, s.data.toList = x :: t := by
      cases e : s.data.toList with
      | nil => rw [← size_list, e] at h; simp at h
      | cons x t => exact ⟨x, t, rfl⟩
    rw [ht] at h0
    have h0' : x = s[0]'h := h0
    by_cases hx : x = 45
    · left
      refine ⟨h, by rw [← h0', hx]; rfl, by rw [ht, hx]; simp [Lib.hasPrefix], ?_⟩
      rw [ht, hx]
      have e1 : Lib.trimPrefix (45 :: t) [45] = t := by simp [Lib.trimPrefix, Lib.hasPrefix]
      rw [e1]
      have e2 := ext_list s 1 s.size
      rw [ht, List.take_of_length_le (by rw [← ht, size_list]; exact Nat.le_refl _)] at e2
      have e3 : (s.extract 1 s.size).data.toList = t := by rw [e2]; rfl
      generalize s.extract 1 s.size = u at e3
      obtain ⟨⟨d⟩⟩ := u
      have : d = t := e3
      rw [this]
    · right
      have hp : Lib.hasPrefix s.data.toList [45] = false := by
        rw [ht]
        have hne : ((45 : UInt8) == x) = false := by rw [beq_eq_false_iff_ne]; exact Ne.symm hx
        show (((45 : UInt8) == x) && List.isPrefixOf [] t) = false
        rw [hne]; rfl
      refine ⟨.inl ⟨h, ?_⟩, hp, ?_⟩
      · rw [beq_eq_false_iff_ne, ← h0']
        intro e
        apply hx
        exact UInt8.toNat_inj.1 (by rw [show x.toNat = 45 by omega]; rfl)
      · rw [Lib.trimPrefix, hp]; rfl
  · right
    have hn : s.data.toList = [] := List.eq_nil_of_length_eq_zero (by rw [size_list]; omega)
    have hp : Lib.hasPrefix s.data.toList [45] = false := by rw [hn]; rfl
    refine ⟨.inr h, hp, ?_⟩
    rw [Lib.trimPrefix, hp]; rfl
/-- The sign and what stands behind it. -/
def pbP (s : ByteArray) : Bool := Lib.hasPrefix s.data.toList [45]
def pbT (s : ByteArray) : ByteArray := ⟨(Lib.trimPrefix s.data.toList [45]).toArray⟩
theorem ext_size (s : ByteArray) : (s.extract 1 s.size).size ≤ s.size := by
  rw [← size_list, ext_list, List.length_drop, List.length_take, size_list]
  omega
theorem pb_out {s : ByteArray} {p : Bool} {T : ByteArray} (hp : pbP s = p) (hT : pbT s = T) : pbB (pbP s) (pbT s) = pbB p T ∧ pbL (pbP s) (pbT s) = pbL p T := by rw [hp, hT]; exact ⟨rfl, rfl⟩
theorem impl_pb (s : ByteArray) (w : World) (hs : s.size ≤ 1048576) :
    Calls Tryz.prog 49 #[.string s] w (PairB w.heap.size (pbP s && pbB (pbP s) (pbT s)) (pbL (pbP s) (pbT s)) (pbB (pbP s) (pbT s)) w) := by
  have HC := fun W => Tryz.strings_CutPrefix s ⟨#[45]⟩ W
  have hd : (ByteArray.mk #[45]).data.toList = [45] := rfl
  rw [hd] at HC
  rcases minus_cases s with ⟨h, hf, hp, hT⟩ | ⟨hk, hp, hT⟩
  · have h1 : pbP s = true := hp
    have h2 : pbT s = s.extract 1 s.size := hT
    rw [hp, hT] at HC
    rw [(pb_out h1 h2).1, (pb_out h1 h2).2, h1, Bool.true_and]
    have hsz := ext_size s
    generalize s.extract 1 s.size = T at hsz HC ⊢
    have HC' := fun W => (HC W).mono fun e w' ⟨he, hw⟩ => And.intro he hw.symm
    have HP := fun W => impl_prs T W (by omega)
    have h60 := prsL_len T
    by_cases ho : okS T = true
    · rw [ho] at HP
      have hok := prsL_ok ho
      by_cases hL : prsL T = []
      · have hb : pbB true T = false := by unfold pbB; rw [ho, hL]; rfl
        rw [pb_no hb, hb]
        exact impl_pb_neg_zero s T (prsL T) w h60 (by rw [hL]; rfl) HC' HP
      · have hb : pbB true T = true := by unfold pbB; rw [ho, decide_eq_false hL]; rfl
        rw [pb_yes hb, hb]
        exact impl_pb_neg_ok s T (prsL T) w h60 (by unfold okB; rw [hok, decide_eq_false hL]; rfl) HC' HP
    · have ho' : okS T = false := by simpa using ho
      rw [ho'] at HP
      have hb : pbB true T = false := by unfold pbB; rw [ho']; rfl
      rw [pb_no hb, hb]
      exact impl_pb_neg_no s T (prsL T) w HC' HP
  · have h1 : pbP s = false := hp
    have h2 : pbT s = s := hT
    rw [hp, hT] at HC
    rw [(pb_out h1 h2).1, (pb_out h1 h2).2, h1, Bool.false_and]
    have HC' := fun W => (HC W).mono fun e w' ⟨he, hw⟩ => And.intro he hw.symm
    have HP := fun W => impl_prs s W (by omega)
    have h60 := prsL_len s
    by_cases ho : okS s = true
    · rw [ho] at HP
      have hok := prsL_ok ho
      have hb : pbB false s = true := by unfold pbB; rw [ho]; rfl
      rw [pb_yes hb, hb]
      exact impl_pb_pos_ok s (prsL s) w h60 (by unfold okB; rw [hok]; rfl) HC' HP
    · have ho' : okS s = false := by simpa using ho
      rw [ho'] at HP
      have hb : pbB false s = false := by unfold pbB; rw [ho']; rfl
      rw [pb_no hb, hb]
      exact impl_pb_pos_no s (prsL s) w HC' HP
theorem pbL_len (p : Bool) (T : ByteArray) : (pbL p T).length ≤ 1048576 := by
  unfold pbL
  split
  · have := prsL_len T; omega
  · simp
end Go.Proofs.YtdgfbnnohnaoaaaGreatDoor

