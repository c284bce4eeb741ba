/-
  'ParseRat' of the model.
-/
import Derived.Test.YtkmfbanlkglkmabGreatDoorPRat
import Derived.Test.YtkmfbanlkglkmabGreatDoorDkF
namespace Go.Proofs.YtkmfbanlkglkmabGreatDoor
open Go.ChangeShapes Go.WideShapes Go.ChangeAt Go.RowKit
open Go.ChangeMaps (open_string shut_string)
set_option linter.unusedVariables false
set_option linter.unusedSimpArgs false
set_option maxRecDepth 4000

theorem tl_len (s : ByteArray) : ∀ (k i : Nat) (r : List UInt8), s.size - i = k → (ByteArray.toList.loop s i r).length = r.length + k
  | 0, i, r, h => by
    unfold ByteArray.toList.loop
    rw [if_neg (by omega)]; simp
  | k + 1, i, r, h => by
    unfold ByteArray.toList.loop
    rw [if_pos (by omega), tl_len s k (i + 1) _ (by omega)]
    simp; omega
theorem toList_len (s : ByteArray) : s.toList.length = s.size := by
  unfold ByteArray.toList
  rw [tl_len s s.size 0 [] (by omega)]; simp
theorem toList_ne {s : ByteArray} (h : s.data.toList ≠ []) : s.toList.isEmpty = false ∧ ¬ s.toList = [] := by
  have h1 : 0 < s.size := by
    have h2 : s.data.toList.length = s.size := by simp
    rcases Nat.eq_zero_or_pos s.size with h3 | h3
    · rw [h3] at h2; exact absurd (List.eq_nil_of_length_eq_zero h2) h
    · exact h3
  have h2 := toList_len s
  cases h3 : s.toList with
  | nil => rw [h3] at h2; simp at h2; omega
  | cons a b => exact ⟨rfl, by simp⟩
theorem toList_nil : (⟨#[]⟩ : ByteArray).toList.isEmpty = true ∧ (⟨#[]⟩ : ByteArray).toList = [] := by
  have h2 := toList_len ⟨#[]⟩
  have h3 := List.eq_nil_of_length_eq_zero h2
  exact ⟨by rw [h3]; rfl, h3⟩
theorem own_one {B g : Nat} {W : World} {t : TypeId} (h : W.heap[g]? = some (.cells #[.int .i64 1] t (0, 0))) (hB : B ≤ g) : OwnS B W (some ⟨g, 0, none⟩) (vi [1]) := by
  refine .inr ⟨g, rfl, hB, rblk_lt h, ?_, ?_⟩
  · intro j hj
    have h9 : j < 1 := hj
    obtain rfl : j = 0 := by omega
    exact rblk_cell h 0
  · intro j hj
    have h9 : j < 1 := hj
    obtain rfl : j = 0 := by omega
    exact rblk_free h 0

set_option maxHeartbeats 1000000 in
theorem spec_pr_s_n (s T V : ByteArray) (N : Nat) (hN1 : 0 < N) (hN2 : 1 < N) (hN3 : (1 : Int) < (N : Int)) (sg : Bool) (L M : List Int) (w : World) (b : Bool)
    (HC0 : ∀ W, Calls Tryz.prog 46 #[.string s, .string ⟨#[47]⟩] W fun e w' => ∃ g c, e = .returned (.slice (some ⟨g, 0, none⟩) N c) ∧ N ≤ c ∧ w'.cell? ⟨g, 0, none⟩ = some (.string T) ∧ w'.cell? ⟨g, 1, none⟩ = some (.string V) ∧ Below W.heap.size W w')
    (HP0 : ∀ W, Calls Tryz.prog 92 #[.string T] W (PairB W.heap.size sg L false W))
    (HN0 : ∀ W, Calls Tryz.prog 93 #[.string V] W (PairN W.heap.size M b W)) :
    Calls Tryz.prog 47 #[.string s] w (PairR w.heap.size false [] [] false w) := by
  have HC := Lib.hid HC0
  have HP := Lib.hid HP0
  have HN := Lib.hid HN0
  clear HC0 HP0 HN0
  go_enter Tryz.func47, Tryz.ntmps47
  go_wp2_with fail
  have kb := ba1 w (.cells #[.bool false, .slice none 0 0, .slice none 0 0] 33)
  have P_o := heap_alloc_new w (.cells #[.bool false, .slice none 0 0, .slice none 0 0] 33)
  generalize w.alloc (.cells #[.bool false, .slice none 0 0, .slice none 0 0] 33) = W1 at kb P_o ⊢
  obtain ⟨rr, hrr⟩ : ∃ r, r = w.heap.size := ⟨_, rfl⟩
  rw [← hrr] at P_o ⊢
  have hrr3 : w.heap.size ≤ rr := by omega
  clear hrr
  refine (HC.out _).mono ?_
  rintro e W2 ⟨g0, c0, rfl, hc0, k0, k1, hb⟩
  replace P_o := rblk_below P_o hb
  replace kb := bt kb hb
  clear hb
  go_wp2_with fail
  have ltr1 := rblk_lt P_o
  have b1 := kb.size
  refine (HP.out _).mono ?_
  rintro e W3 ⟨A1, c1, rfl, hc1, o1, hb⟩
  replace P_o := rblk_below P_o hb
  replace kb := bt kb hb
  have in1 := o1.inR (vi_length L); have z1 := hb.size; replace k0 := cell_kept k0 hb; replace k1 := cell_kept k1 hb
  clear hb
  have ltr2 := rblk_lt P_o
  have b2 := kb.size
  obtain ⟨P_x, P_e⟩ := blocks2 W3 (.cells #[.bool sg, .slice A1 L.length c1] 31) (.cells #[.int .i64 1] 3)
  have hb := ba2 W3 (.cells #[.bool sg, .slice A1 L.length c1] 31) (.cells #[.int .i64 1] 3)
  replace P_o := rblk_below P_o hb
  replace o1 := o1.below hb
  replace k1 := cell_kept k1 hb
  have z2 := hb.size
  replace kb := bt kb hb
  clear hb
  go_wp2_with fail
  generalize (W3.alloc (.cells #[.bool sg, .slice A1 L.length c1] 31)).alloc (.cells #[.int .i64 1] 3) = W4 at kb k1 z2 P_o P_x P_e o1 ⊢
  have ltr3 := rblk_lt P_o
  have b3 := kb.size
  refine (HN.out _).mono ?_
  rintro e W4 ⟨A2, c2, rfl, hc2, o2, hb⟩
  replace P_o := rblk_below P_o hb
  replace P_x := rblk_below P_x hb
  replace P_e := rblk_below P_e hb
  replace o1 := o1.below hb
  replace kb := bt kb hb
  have in2 := o2.inR (vi_length M); have z3 := hb.size
  clear hb
  have c_x0 : W4.cell? ⟨W3.heap.size, 0, none⟩ = some (.bool sg) := rblk_cell P_x 0
  have c_x1 : W4.cell? ⟨W3.heap.size, 1, none⟩ = some (.slice A1 L.length c1) := rblk_cell P_x 1
  have P_r := heap_alloc_new W4 (.cells #[.bool sg, .slice A1 L.length c1, .slice A2 M.length c2] 33)
  have hb := ba1 W4 (.cells #[.bool sg, .slice A1 L.length c1, .slice A2 M.length c2] 33)
  replace P_o := rblk_below P_o hb
  replace P_x := rblk_below P_x hb
  replace P_e := rblk_below P_e hb
  replace o1 := o1.below hb
  replace o2 := o2.below hb
  replace kb := bt kb hb
  clear hb
  have c_o0 : (W4.alloc (.cells #[.bool sg, .slice A1 L.length c1, .slice A2 M.length c2] 33)).cell? ⟨rr, 0, none⟩ = some (.bool false) := rblk_cell P_o 0
  have c_o1 : (W4.alloc (.cells #[.bool sg, .slice A1 L.length c1, .slice A2 M.length c2] 33)).cell? ⟨rr, 1, none⟩ = some (.slice none 0 0) := rblk_cell P_o 1
  have c_o2 : (W4.alloc (.cells #[.bool sg, .slice A1 L.length c1, .slice A2 M.length c2] 33)).cell? ⟨rr, 2, none⟩ = some (.slice none 0 0) := rblk_cell P_o 2
  have f_o0 := rblk_free P_o 0
  have f_o1 := rblk_free P_o 1
  have f_o2 := rblk_free P_o 2
  go_wp2
  exact bodyPost_ret (v := .tuple #[.agg #[.bool false, .slice none 0 0, .slice none 0 0], .bool false]) (by simp [results, Tryz.results47, go_sem, c_o0, c_o1, c_o2]) rfl ⟨none, 0, none, 0, rfl, Nat.le_refl _, Nat.le_refl _, .inl rfl, .inl rfl, (fun a h => by simp [rowOf] at h), below_put3 kb hrr3 _ _ _⟩

set_option maxHeartbeats 1000000 in
theorem spec_pr_s_d (s T V : ByteArray) (N : Nat) (hN1 : 0 < N) (hN2 : 1 < N) (hN3 : (1 : Int) < (N : Int)) (sg : Bool) (L M : List Int) (w : World)
    (HC0 : ∀ W, Calls Tryz.prog 46 #[.string s, .string ⟨#[47]⟩] W fun e w' => ∃ g c, e = .returned (.slice (some ⟨g, 0, none⟩) N c) ∧ N ≤ c ∧ w'.cell? ⟨g, 0, none⟩ = some (.string T) ∧ w'.cell? ⟨g, 1, none⟩ = some (.string V) ∧ Below W.heap.size W w')
    (HP0 : ∀ W, Calls Tryz.prog 92 #[.string T] W (PairB W.heap.size sg L true W))
    (HN0 : ∀ W, Calls Tryz.prog 93 #[.string V] W (PairN W.heap.size M false W)) :
    Calls Tryz.prog 47 #[.string s] w (PairR w.heap.size false [] [] false w) := by
  have HC := Lib.hid HC0
  have HP := Lib.hid HP0
  have HN := Lib.hid HN0
  clear HC0 HP0 HN0
  go_enter Tryz.func47, Tryz.ntmps47
  go_wp2_with fail
  have kb := ba1 w (.cells #[.bool false, .slice none 0 0, .slice none 0 0] 33)
  have P_o := heap_alloc_new w (.cells #[.bool false, .slice none 0 0, .slice none 0 0] 33)
  generalize w.alloc (.cells #[.bool false, .slice none 0 0, .slice none 0 0] 33) = W1 at kb P_o ⊢
  obtain ⟨rr, hrr⟩ : ∃ r, r = w.heap.size := ⟨_, rfl⟩
  rw [← hrr] at P_o ⊢
  have hrr3 : w.heap.size ≤ rr := by omega
  clear hrr
  refine (HC.out _).mono ?_
  rintro e W2 ⟨g0, c0, rfl, hc0, k0, k1, hb⟩
  replace P_o := rblk_below P_o hb
  replace kb := bt kb hb
  clear hb
  go_wp2_with fail
  have ltr1 := rblk_lt P_o
  have b1 := kb.size
  refine (HP.out _).mono ?_
  rintro e W3 ⟨A1, c1, rfl, hc1, o1, hb⟩
  replace P_o := rblk_below P_o hb
  replace kb := bt kb hb
  have in1 := o1.inR (vi_length L); have z1 := hb.size; replace k0 := cell_kept k0 hb; replace k1 := cell_kept k1 hb
  clear hb
  have ltr2 := rblk_lt P_o
  have b2 := kb.size
  obtain ⟨P_x, P_e⟩ := blocks2 W3 (.cells #[.bool sg, .slice A1 L.length c1] 31) (.cells #[.int .i64 1] 3)
  have hb := ba2 W3 (.cells #[.bool sg, .slice A1 L.length c1] 31) (.cells #[.int .i64 1] 3)
  replace P_o := rblk_below P_o hb
  replace o1 := o1.below hb
  replace k1 := cell_kept k1 hb
  have z2 := hb.size
  replace kb := bt kb hb
  clear hb
  go_wp2_with fail
  generalize (W3.alloc (.cells #[.bool sg, .slice A1 L.length c1] 31)).alloc (.cells #[.int .i64 1] 3) = W4 at kb k1 z2 P_o P_x P_e o1 ⊢
  have ltr3 := rblk_lt P_o
  have b3 := kb.size
  refine (HN.out _).mono ?_
  rintro e W4 ⟨A2, c2, rfl, hc2, o2, hb⟩
  replace P_o := rblk_below P_o hb
  replace P_x := rblk_below P_x hb
  replace P_e := rblk_below P_e hb
  replace o1 := o1.below hb
  replace kb := bt kb hb
  have in2 := o2.inR (vi_length M); have z3 := hb.size
  clear hb
  have c_x0 : W4.cell? ⟨W3.heap.size, 0, none⟩ = some (.bool sg) := rblk_cell P_x 0
  have c_x1 : W4.cell? ⟨W3.heap.size, 1, none⟩ = some (.slice A1 L.length c1) := rblk_cell P_x 1
  have P_r := heap_alloc_new W4 (.cells #[.bool sg, .slice A1 L.length c1, .slice A2 M.length c2] 33)
  have hb := ba1 W4 (.cells #[.bool sg, .slice A1 L.length c1, .slice A2 M.length c2] 33)
  replace P_o := rblk_below P_o hb
  replace P_x := rblk_below P_x hb
  replace P_e := rblk_below P_e hb
  replace o1 := o1.below hb
  replace o2 := o2.below hb
  replace kb := bt kb hb
  clear hb
  have c_o0 : (W4.alloc (.cells #[.bool sg, .slice A1 L.length c1, .slice A2 M.length c2] 33)).cell? ⟨rr, 0, none⟩ = some (.bool false) := rblk_cell P_o 0
  have c_o1 : (W4.alloc (.cells #[.bool sg, .slice A1 L.length c1, .slice A2 M.length c2] 33)).cell? ⟨rr, 1, none⟩ = some (.slice none 0 0) := rblk_cell P_o 1
  have c_o2 : (W4.alloc (.cells #[.bool sg, .slice A1 L.length c1, .slice A2 M.length c2] 33)).cell? ⟨rr, 2, none⟩ = some (.slice none 0 0) := rblk_cell P_o 2
  have f_o0 := rblk_free P_o 0
  have f_o1 := rblk_free P_o 1
  have f_o2 := rblk_free P_o 2
  go_wp2
  exact bodyPost_ret (v := .tuple #[.agg #[.bool false, .slice none 0 0, .slice none 0 0], .bool false]) (by simp [results, Tryz.results47, go_sem, c_o0, c_o1, c_o2]) rfl ⟨none, 0, none, 0, rfl, Nat.le_refl _, Nat.le_refl _, .inl rfl, .inl rfl, (fun a h => by simp [rowOf] at h), below_put3 kb hrr3 _ _ _⟩

set_option maxHeartbeats 1000000 in
theorem spec_pr_s_f (s T V : ByteArray) (N : Nat) (hN1 : 0 < N) (hN2 : 1 < N) (hN3 : (1 : Int) < (N : Int)) (sg : Bool) (L M : List Int) (w : World) (X : ByteArray) (hx1 : X.toList.isEmpty = true) (hx2 : X.toList = []) (HF0 : ∀ A c D d W, RdS W A (vi L) → RdS W D (vi M) → Calls Tryz.prog 41 #[.agg #[.bool sg, .slice A L.length c, .slice D M.length d]] W fun e w' => e = .returned (.string X) ∧ Below W.heap.size W w')
    (HC0 : ∀ W, Calls Tryz.prog 46 #[.string s, .string ⟨#[47]⟩] W fun e w' => ∃ g c, e = .returned (.slice (some ⟨g, 0, none⟩) N c) ∧ N ≤ c ∧ w'.cell? ⟨g, 0, none⟩ = some (.string T) ∧ w'.cell? ⟨g, 1, none⟩ = some (.string V) ∧ Below W.heap.size W w')
    (HP0 : ∀ W, Calls Tryz.prog 92 #[.string T] W (PairB W.heap.size sg L true W))
    (HN0 : ∀ W, Calls Tryz.prog 93 #[.string V] W (PairN W.heap.size M true W)) :
    Calls Tryz.prog 47 #[.string s] w (PairR w.heap.size false [] [] false w) := by
  have HC := Lib.hid HC0
  have HP := Lib.hid HP0
  have HN := Lib.hid HN0
  have HF := Lib.hid HF0
  clear HF0
  clear HC0 HP0 HN0
  go_enter Tryz.func47, Tryz.ntmps47
  go_wp2_with fail
  have kb := ba1 w (.cells #[.bool false, .slice none 0 0, .slice none 0 0] 33)
  have P_o := heap_alloc_new w (.cells #[.bool false, .slice none 0 0, .slice none 0 0] 33)
  generalize w.alloc (.cells #[.bool false, .slice none 0 0, .slice none 0 0] 33) = W1 at kb P_o ⊢
  obtain ⟨rr, hrr⟩ : ∃ r, r = w.heap.size := ⟨_, rfl⟩
  rw [← hrr] at P_o ⊢
  have hrr3 : w.heap.size ≤ rr := by omega
  clear hrr
  refine (HC.out _).mono ?_
  rintro e W2 ⟨g0, c0, rfl, hc0, k0, k1, hb⟩
  replace P_o := rblk_below P_o hb
  replace kb := bt kb hb
  clear hb
  go_wp2_with fail
  have ltr1 := rblk_lt P_o
  have b1 := kb.size
  refine (HP.out _).mono ?_
  rintro e W3 ⟨A1, c1, rfl, hc1, o1, hb⟩
  replace P_o := rblk_below P_o hb
  replace kb := bt kb hb
  have in1 := o1.inR (vi_length L); have z1 := hb.size; replace k0 := cell_kept k0 hb; replace k1 := cell_kept k1 hb
  clear hb
  have ltr2 := rblk_lt P_o
  have b2 := kb.size
  obtain ⟨P_x, P_e⟩ := blocks2 W3 (.cells #[.bool sg, .slice A1 L.length c1] 31) (.cells #[.int .i64 1] 3)
  have hb := ba2 W3 (.cells #[.bool sg, .slice A1 L.length c1] 31) (.cells #[.int .i64 1] 3)
  replace P_o := rblk_below P_o hb
  replace o1 := o1.below hb
  replace k1 := cell_kept k1 hb
  have z2 := hb.size
  replace kb := bt kb hb
  clear hb
  go_wp2_with fail
  generalize (W3.alloc (.cells #[.bool sg, .slice A1 L.length c1] 31)).alloc (.cells #[.int .i64 1] 3) = W4 at kb k1 z2 P_o P_x P_e o1 ⊢
  have ltr3 := rblk_lt P_o
  have b3 := kb.size
  refine (HN.out _).mono ?_
  rintro e W4 ⟨A2, c2, rfl, hc2, o2, hb⟩
  replace P_o := rblk_below P_o hb
  replace P_x := rblk_below P_x hb
  replace P_e := rblk_below P_e hb
  replace o1 := o1.below hb
  replace kb := bt kb hb
  have in2 := o2.inR (vi_length M); have z3 := hb.size
  clear hb
  have c_x0 : W4.cell? ⟨W3.heap.size, 0, none⟩ = some (.bool sg) := rblk_cell P_x 0
  have c_x1 : W4.cell? ⟨W3.heap.size, 1, none⟩ = some (.slice A1 L.length c1) := rblk_cell P_x 1
  have P_r := heap_alloc_new W4 (.cells #[.bool sg, .slice A1 L.length c1, .slice A2 M.length c2] 33)
  have hb := ba1 W4 (.cells #[.bool sg, .slice A1 L.length c1, .slice A2 M.length c2] 33)
  replace P_o := rblk_below P_o hb
  replace P_x := rblk_below P_x hb
  replace P_e := rblk_below P_e hb
  replace o1 := o1.below hb
  replace o2 := o2.below hb
  replace kb := bt kb hb
  clear hb
  go_wp2_with fail
  clear c_x0 c_x1
  generalize W4.alloc (.cells #[.bool sg, .slice A1 L.length c1, .slice A2 M.length c2] 33) = Wr at kb P_o P_x P_e P_r o1 o2 ⊢
  refine (HF.out _ _ _ _ _ o1.rd o2.rd).mono ?_
  rintro e W5 ⟨rfl, hb⟩
  replace P_o := rblk_below P_o hb
  replace P_x := rblk_below P_x hb
  replace P_e := rblk_below P_e hb
  replace P_r := rblk_below P_r hb
  replace o1 := o1.below hb
  replace o2 := o2.below hb
  replace kb := bt kb hb
  clear hb
  have c_o0 : W5.cell? ⟨rr, 0, none⟩ = some (.bool false) := rblk_cell P_o 0
  have c_o1 : W5.cell? ⟨rr, 1, none⟩ = some (.slice none 0 0) := rblk_cell P_o 1
  have c_o2 : W5.cell? ⟨rr, 2, none⟩ = some (.slice none 0 0) := rblk_cell P_o 2
  have f_o0 := rblk_free P_o 0
  have f_o1 := rblk_free P_o 1
  have f_o2 := rblk_free P_o 2
  go_wp2
  exact bodyPost_ret (v := .tuple #[.agg #[.bool false, .slice none 0 0, .slice none 0 0], .bool false]) (by simp [results, Tryz.results47, go_sem, c_o0, c_o1, c_o2]) rfl ⟨none, 0, none, 0, rfl, Nat.le_refl _, Nat.le_refl _, .inl rfl, .inl rfl, (fun a h => by simp [rowOf] at h), below_put3 kb hrr3 _ _ _⟩

set_option maxHeartbeats 1000000 in
theorem spec_pr_s_g (s T V : ByteArray) (N : Nat) (hN1 : 0 < N) (hN2 : 1 < N) (hN3 : (1 : Int) < (N : Int)) (sg : Bool) (L M : List Int) (w : World) (X : ByteArray) (hx1 : X.toList.isEmpty = false) (hx2 : ¬ X.toList = []) (hy : (X.toList == s.toList) = false) (HF0 : ∀ A c D d W, RdS W A (vi L) → RdS W D (vi M) → Calls Tryz.prog 41 #[.agg #[.bool sg, .slice A L.length c, .slice D M.length d]] W fun e w' => e = .returned (.string X) ∧ Below W.heap.size W w')
    (HC0 : ∀ W, Calls Tryz.prog 46 #[.string s, .string ⟨#[47]⟩] W fun e w' => ∃ g c, e = .returned (.slice (some ⟨g, 0, none⟩) N c) ∧ N ≤ c ∧ w'.cell? ⟨g, 0, none⟩ = some (.string T) ∧ w'.cell? ⟨g, 1, none⟩ = some (.string V) ∧ Below W.heap.size W w')
    (HP0 : ∀ W, Calls Tryz.prog 92 #[.string T] W (PairB W.heap.size sg L true W))
    (HN0 : ∀ W, Calls Tryz.prog 93 #[.string V] W (PairN W.heap.size M true W)) :
    Calls Tryz.prog 47 #[.string s] w (PairR w.heap.size false [] [] false w) := by
  have HC := Lib.hid HC0
  have HP := Lib.hid HP0
  have HN := Lib.hid HN0
  have HF := Lib.hid HF0
  clear HF0
  clear HC0 HP0 HN0
  go_enter Tryz.func47, Tryz.ntmps47
  go_wp2_with fail
  have kb := ba1 w (.cells #[.bool false, .slice none 0 0, .slice none 0 0] 33)
  have P_o := heap_alloc_new w (.cells #[.bool false, .slice none 0 0, .slice none 0 0] 33)
  generalize w.alloc (.cells #[.bool false, .slice none 0 0, .slice none 0 0] 33) = W1 at kb P_o ⊢
  obtain ⟨rr, hrr⟩ : ∃ r, r = w.heap.size := ⟨_, rfl⟩
  rw [← hrr] at P_o ⊢
  have hrr3 : w.heap.size ≤ rr := by omega
  clear hrr
  refine (HC.out _).mono ?_
  rintro e W2 ⟨g0, c0, rfl, hc0, k0, k1, hb⟩
  replace P_o := rblk_below P_o hb
  replace kb := bt kb hb
  clear hb
  go_wp2_with fail
  have ltr1 := rblk_lt P_o
  have b1 := kb.size
  refine (HP.out _).mono ?_
  rintro e W3 ⟨A1, c1, rfl, hc1, o1, hb⟩
  replace P_o := rblk_below P_o hb
  replace kb := bt kb hb
  have in1 := o1.inR (vi_length L); have z1 := hb.size; replace k0 := cell_kept k0 hb; replace k1 := cell_kept k1 hb
  clear hb
  have ltr2 := rblk_lt P_o
  have b2 := kb.size
  obtain ⟨P_x, P_e⟩ := blocks2 W3 (.cells #[.bool sg, .slice A1 L.length c1] 31) (.cells #[.int .i64 1] 3)
  have hb := ba2 W3 (.cells #[.bool sg, .slice A1 L.length c1] 31) (.cells #[.int .i64 1] 3)
  replace P_o := rblk_below P_o hb
  replace o1 := o1.below hb
  replace k1 := cell_kept k1 hb
  have z2 := hb.size
  replace kb := bt kb hb
  clear hb
  go_wp2_with fail
  generalize (W3.alloc (.cells #[.bool sg, .slice A1 L.length c1] 31)).alloc (.cells #[.int .i64 1] 3) = W4 at kb k1 z2 P_o P_x P_e o1 ⊢
  have ltr3 := rblk_lt P_o
  have b3 := kb.size
  refine (HN.out _).mono ?_
  rintro e W4 ⟨A2, c2, rfl, hc2, o2, hb⟩
  replace P_o := rblk_below P_o hb
  replace P_x := rblk_below P_x hb
  replace P_e := rblk_below P_e hb
  replace o1 := o1.below hb
  replace kb := bt kb hb
  have in2 := o2.inR (vi_length M); have z3 := hb.size
  clear hb
  have c_x0 : W4.cell? ⟨W3.heap.size, 0, none⟩ = some (.bool sg) := rblk_cell P_x 0
  have c_x1 : W4.cell? ⟨W3.heap.size, 1, none⟩ = some (.slice A1 L.length c1) := rblk_cell P_x 1
  have P_r := heap_alloc_new W4 (.cells #[.bool sg, .slice A1 L.length c1, .slice A2 M.length c2] 33)
  have hb := ba1 W4 (.cells #[.bool sg, .slice A1 L.length c1, .slice A2 M.length c2] 33)
  replace P_o := rblk_below P_o hb
  replace P_x := rblk_below P_x hb
  replace P_e := rblk_below P_e hb
  replace o1 := o1.below hb
  replace o2 := o2.below hb
  replace kb := bt kb hb
  clear hb
  go_wp2_with fail
  clear c_x0 c_x1
  generalize W4.alloc (.cells #[.bool sg, .slice A1 L.length c1, .slice A2 M.length c2] 33) = Wr at kb P_o P_x P_e P_r o1 o2 ⊢
  refine (HF.out _ _ _ _ _ o1.rd o2.rd).mono ?_
  rintro e W5 ⟨rfl, hb⟩
  replace P_o := rblk_below P_o hb
  replace P_x := rblk_below P_x hb
  replace P_e := rblk_below P_e hb
  replace P_r := rblk_below P_r hb
  replace o1 := o1.below hb
  replace o2 := o2.below hb
  replace kb := bt kb hb
  clear hb
  have c_r0 : W5.cell? ⟨W4.heap.size, 0, none⟩ = some (.bool sg) := rblk_cell P_r 0
  have c_r1 : W5.cell? ⟨W4.heap.size, 1, none⟩ = some (.slice A1 L.length c1) := rblk_cell P_r 1
  have c_r2 : W5.cell? ⟨W4.heap.size, 2, none⟩ = some (.slice A2 M.length c2) := rblk_cell P_r 2
  go_wp2_with fail
  clear c_r0 c_r1 c_r2
  refine (HF.out _ _ _ _ _ o1.rd o2.rd).mono ?_
  rintro e W6 ⟨rfl, hb⟩
  replace P_o := rblk_below P_o hb
  replace P_x := rblk_below P_x hb
  replace P_e := rblk_below P_e hb
  replace P_r := rblk_below P_r hb
  replace o1 := o1.below hb
  replace o2 := o2.below hb
  replace kb := bt kb hb
  clear hb
  have c_o0 : W6.cell? ⟨rr, 0, none⟩ = some (.bool false) := rblk_cell P_o 0
  have c_o1 : W6.cell? ⟨rr, 1, none⟩ = some (.slice none 0 0) := rblk_cell P_o 1
  have c_o2 : W6.cell? ⟨rr, 2, none⟩ = some (.slice none 0 0) := rblk_cell P_o 2
  have f_o0 := rblk_free P_o 0
  have f_o1 := rblk_free P_o 1
  have f_o2 := rblk_free P_o 2
  go_wp2
  exact bodyPost_ret (v := .tuple #[.agg #[.bool false, .slice none 0 0, .slice none 0 0], .bool false]) (by simp [results, Tryz.results47, go_sem, c_o0, c_o1, c_o2]) rfl ⟨none, 0, none, 0, rfl, Nat.le_refl _, Nat.le_refl _, .inl rfl, .inl rfl, (fun a h => by simp [rowOf] at h), below_put3 kb hrr3 _ _ _⟩

set_option maxHeartbeats 1000000 in
theorem spec_pr_s_y (s T V : ByteArray) (N : Nat) (hN1 : 0 < N) (hN2 : 1 < N) (hN3 : (1 : Int) < (N : Int)) (sg : Bool) (L M : List Int) (w : World) (X : ByteArray) (hx1 : X.toList.isEmpty = false) (hx2 : ¬ X.toList = []) (hy : (X.toList == s.toList) = true) (HF0 : ∀ A c D d W, RdS W A (vi L) → RdS W D (vi M) → Calls Tryz.prog 41 #[.agg #[.bool sg, .slice A L.length c, .slice D M.length d]] W fun e w' => e = .returned (.string X) ∧ Below W.heap.size W w')
    (HC0 : ∀ W, Calls Tryz.prog 46 #[.string s, .string ⟨#[47]⟩] W fun e w' => ∃ g c, e = .returned (.slice (some ⟨g, 0, none⟩) N c) ∧ N ≤ c ∧ w'.cell? ⟨g, 0, none⟩ = some (.string T) ∧ w'.cell? ⟨g, 1, none⟩ = some (.string V) ∧ Below W.heap.size W w')
    (HP0 : ∀ W, Calls Tryz.prog 92 #[.string T] W (PairB W.heap.size sg L true W))
    (HN0 : ∀ W, Calls Tryz.prog 93 #[.string V] W (PairN W.heap.size M true W)) :
    Calls Tryz.prog 47 #[.string s] w (PairR w.heap.size sg L M true w) := by
  have HC := Lib.hid HC0
  have HP := Lib.hid HP0
  have HN := Lib.hid HN0
  have HF := Lib.hid HF0
  clear HF0
  clear HC0 HP0 HN0
  go_enter Tryz.func47, Tryz.ntmps47
  go_wp2_with fail
  have kb := ba1 w (.cells #[.bool false, .slice none 0 0, .slice none 0 0] 33)
  have P_o := heap_alloc_new w (.cells #[.bool false, .slice none 0 0, .slice none 0 0] 33)
  generalize w.alloc (.cells #[.bool false, .slice none 0 0, .slice none 0 0] 33) = W1 at kb P_o ⊢
  obtain ⟨rr, hrr⟩ : ∃ r, r = w.heap.size := ⟨_, rfl⟩
  rw [← hrr] at P_o ⊢
  have hrr3 : w.heap.size ≤ rr := by omega
  clear hrr
  refine (HC.out _).mono ?_
  rintro e W2 ⟨g0, c0, rfl, hc0, k0, k1, hb⟩
  replace P_o := rblk_below P_o hb
  replace kb := bt kb hb
  clear hb
  go_wp2_with fail
  have ltr1 := rblk_lt P_o
  have b1 := kb.size
  refine (HP.out _).mono ?_
  rintro e W3 ⟨A1, c1, rfl, hc1, o1, hb⟩
  replace P_o := rblk_below P_o hb
  replace kb := bt kb hb
  have in1 := o1.inR (vi_length L); have z1 := hb.size; replace k0 := cell_kept k0 hb; replace k1 := cell_kept k1 hb
  clear hb
  have ltr2 := rblk_lt P_o
  have b2 := kb.size
  obtain ⟨P_x, P_e⟩ := blocks2 W3 (.cells #[.bool sg, .slice A1 L.length c1] 31) (.cells #[.int .i64 1] 3)
  have hb := ba2 W3 (.cells #[.bool sg, .slice A1 L.length c1] 31) (.cells #[.int .i64 1] 3)
  replace P_o := rblk_below P_o hb
  replace o1 := o1.below hb
  replace k1 := cell_kept k1 hb
  have z2 := hb.size
  replace kb := bt kb hb
  clear hb
  go_wp2_with fail
  generalize (W3.alloc (.cells #[.bool sg, .slice A1 L.length c1] 31)).alloc (.cells #[.int .i64 1] 3) = W4 at kb k1 z2 P_o P_x P_e o1 ⊢
  have ltr3 := rblk_lt P_o
  have b3 := kb.size
  refine (HN.out _).mono ?_
  rintro e W4 ⟨A2, c2, rfl, hc2, o2, hb⟩
  replace P_o := rblk_below P_o hb
  replace P_x := rblk_below P_x hb
  replace P_e := rblk_below P_e hb
  replace o1 := o1.below hb
  replace kb := bt kb hb
  have in2 := o2.inR (vi_length M); have z3 := hb.size
  clear hb
  have c_x0 : W4.cell? ⟨W3.heap.size, 0, none⟩ = some (.bool sg) := rblk_cell P_x 0
  have c_x1 : W4.cell? ⟨W3.heap.size, 1, none⟩ = some (.slice A1 L.length c1) := rblk_cell P_x 1
  have P_r := heap_alloc_new W4 (.cells #[.bool sg, .slice A1 L.length c1, .slice A2 M.length c2] 33)
  have hb := ba1 W4 (.cells #[.bool sg, .slice A1 L.length c1, .slice A2 M.length c2] 33)
  replace P_o := rblk_below P_o hb
  replace P_x := rblk_below P_x hb
  replace P_e := rblk_below P_e hb
  replace o1 := o1.below hb
  replace o2 := o2.below hb
  replace kb := bt kb hb
  clear hb
  go_wp2_with fail
  clear c_x0 c_x1
  generalize W4.alloc (.cells #[.bool sg, .slice A1 L.length c1, .slice A2 M.length c2] 33) = Wr at kb P_o P_x P_e P_r o1 o2 ⊢
  refine (HF.out _ _ _ _ _ o1.rd o2.rd).mono ?_
  rintro e W5 ⟨rfl, hb⟩
  replace P_o := rblk_below P_o hb
  replace P_x := rblk_below P_x hb
  replace P_e := rblk_below P_e hb
  replace P_r := rblk_below P_r hb
  replace o1 := o1.below hb
  replace o2 := o2.below hb
  replace kb := bt kb hb
  clear hb
  have c_r0 : W5.cell? ⟨W4.heap.size, 0, none⟩ = some (.bool sg) := rblk_cell P_r 0
  have c_r1 : W5.cell? ⟨W4.heap.size, 1, none⟩ = some (.slice A1 L.length c1) := rblk_cell P_r 1
  have c_r2 : W5.cell? ⟨W4.heap.size, 2, none⟩ = some (.slice A2 M.length c2) := rblk_cell P_r 2
  go_wp2_with fail
  clear c_r0 c_r1 c_r2
  refine (HF.out _ _ _ _ _ o1.rd o2.rd).mono ?_
  rintro e W6 ⟨rfl, hb⟩
  replace P_o := rblk_below P_o hb
  replace P_x := rblk_below P_x hb
  replace P_e := rblk_below P_e hb
  replace P_r := rblk_below P_r hb
  replace o1 := o1.below hb
  replace o2 := o2.below hb
  replace kb := bt kb hb
  clear hb
  have c_r0 : W6.cell? ⟨W4.heap.size, 0, none⟩ = some (.bool sg) := rblk_cell P_r 0
  have c_r1 : W6.cell? ⟨W4.heap.size, 1, none⟩ = some (.slice A1 L.length c1) := rblk_cell P_r 1
  have c_r2 : W6.cell? ⟨W4.heap.size, 2, none⟩ = some (.slice A2 M.length c2) := rblk_cell P_r 2
  have c_o0 : W6.cell? ⟨rr, 0, none⟩ = some (.bool false) := rblk_cell P_o 0
  have c_o1 : W6.cell? ⟨rr, 1, none⟩ = some (.slice none 0 0) := rblk_cell P_o 1
  have c_o2 : W6.cell? ⟨rr, 2, none⟩ = some (.slice none 0 0) := rblk_cell P_o 2
  have f_o0 := rblk_free P_o 0
  have f_o1 := rblk_free P_o 1
  have f_o2 := rblk_free P_o 2
  go_wp2
  exact bodyPost_ret (v := .tuple #[.agg #[.bool sg, .slice A1 L.length c1, .slice A2 M.length c2], .bool true]) (by simp [results, Tryz.results47, go_sem, c_o0, c_o1, c_o2, c_r0, c_r1, c_r2]) rfl ⟨A1, c1, A2, c2, rfl, hc1, hc2, (own_put3 o1 ltr1 _ _ _).more b1, (own_put3 o2 ltr3 _ _ _).more b3, (fun a h1 h2 => by have u1 := in1 a h1; have u2 := in2 a h2; omega), below_put3 kb hrr3 _ _ _⟩

set_option maxHeartbeats 1000000 in
theorem spec_pr_w_n (s T V : ByteArray) (sg : Bool) (L M : List Int) (w : World)
    (HC0 : ∀ W, Calls Tryz.prog 46 #[.string s, .string ⟨#[47]⟩] W fun e w' => ∃ g c, e = .returned (.slice (some ⟨g, 0, none⟩) 1 c) ∧ 1 ≤ c ∧ w'.cell? ⟨g, 0, none⟩ = some (.string T) ∧ True ∧ Below W.heap.size W w')
    (HP0 : ∀ W, Calls Tryz.prog 92 #[.string T] W (PairB W.heap.size sg L false W)) :
    Calls Tryz.prog 47 #[.string s] w (PairR w.heap.size false [] [] false w) := by
  have HC := Lib.hid HC0
  have HP := Lib.hid HP0
  clear HC0 HP0
  go_enter Tryz.func47, Tryz.ntmps47
  go_wp2_with fail
  have kb := ba1 w (.cells #[.bool false, .slice none 0 0, .slice none 0 0] 33)
  have P_o := heap_alloc_new w (.cells #[.bool false, .slice none 0 0, .slice none 0 0] 33)
  generalize w.alloc (.cells #[.bool false, .slice none 0 0, .slice none 0 0] 33) = W1 at kb P_o ⊢
  obtain ⟨rr, hrr⟩ : ∃ r, r = w.heap.size := ⟨_, rfl⟩
  rw [← hrr] at P_o ⊢
  have hrr3 : w.heap.size ≤ rr := by omega
  clear hrr
  refine (HC.out _).mono ?_
  rintro e W2 ⟨g0, c0, rfl, hc0, k0, k1, hb⟩
  replace P_o := rblk_below P_o hb
  replace kb := bt kb hb
  clear hb
  go_wp2_with fail
  have ltr1 := rblk_lt P_o
  have b1 := kb.size
  refine (HP.out _).mono ?_
  rintro e W3 ⟨A1, c1, rfl, hc1, o1, hb⟩
  replace P_o := rblk_below P_o hb
  replace kb := bt kb hb
  have in1 := o1.inR (vi_length L); have z1 := hb.size; replace k0 := cell_kept k0 hb
  clear hb
  have ltr2 := rblk_lt P_o
  have b2 := kb.size
  obtain ⟨P_x, P_e⟩ := blocks2 W3 (.cells #[.bool sg, .slice A1 L.length c1] 31) (.cells #[.int .i64 1] 3)
  have hb := ba2 W3 (.cells #[.bool sg, .slice A1 L.length c1] 31) (.cells #[.int .i64 1] 3)
  replace P_o := rblk_below P_o hb
  replace o1 := o1.below hb
  have z2 := hb.size
  replace kb := bt kb hb
  clear hb
  have o2 : OwnS W3.heap.size ((W3.alloc (.cells #[.bool sg, .slice A1 L.length c1] 31)).alloc (.cells #[.int .i64 1] 3)) (some ⟨W3.heap.size + 1, 0, none⟩) (vi [1]) := own_one P_e (by omega)
  have in2 : ∀ a, rowOf 1 (some ⟨W3.heap.size + 1, 0, none⟩) = some a → W3.heap.size ≤ a := fun a h => ((o2.inR (n := 1) rfl) a h).1
  have c_x0 : ((W3.alloc (.cells #[.bool sg, .slice A1 L.length c1] 31)).alloc (.cells #[.int .i64 1] 3)).cell? ⟨W3.heap.size, 0, none⟩ = some (.bool sg) := rblk_cell P_x 0
  have c_x1 : ((W3.alloc (.cells #[.bool sg, .slice A1 L.length c1] 31)).alloc (.cells #[.int .i64 1] 3)).cell? ⟨W3.heap.size, 1, none⟩ = some (.slice A1 L.length c1) := rblk_cell P_x 1
  have P_r := heap_alloc_new ((W3.alloc (.cells #[.bool sg, .slice A1 L.length c1] 31)).alloc (.cells #[.int .i64 1] 3)) (.cells #[.bool sg, .slice A1 L.length c1, .slice (some ⟨W3.heap.size + 1, 0, none⟩) 1 1] 33)
  have hb := ba1 ((W3.alloc (.cells #[.bool sg, .slice A1 L.length c1] 31)).alloc (.cells #[.int .i64 1] 3)) (.cells #[.bool sg, .slice A1 L.length c1, .slice (some ⟨W3.heap.size + 1, 0, none⟩) 1 1] 33)
  rw [show ((W3.alloc (.cells #[.bool sg, .slice A1 L.length c1] 31)).alloc (.cells #[.int .i64 1] 3)).heap.size = W3.heap.size + 1 + 1 by rw [sz1, sz1]] at P_r
  replace P_o := rblk_below P_o hb
  replace P_x := rblk_below P_x hb
  replace P_e := rblk_below P_e hb
  replace o1 := o1.below hb
  replace o2 := o2.below hb
  replace kb := bt kb hb
  clear hb
  have c_o0 : (((W3.alloc (.cells #[.bool sg, .slice A1 L.length c1] 31)).alloc (.cells #[.int .i64 1] 3)).alloc (.cells #[.bool sg, .slice A1 L.length c1, .slice (some ⟨W3.heap.size + 1, 0, none⟩) 1 1] 33)).cell? ⟨rr, 0, none⟩ = some (.bool false) := rblk_cell P_o 0
  have c_o1 : (((W3.alloc (.cells #[.bool sg, .slice A1 L.length c1] 31)).alloc (.cells #[.int .i64 1] 3)).alloc (.cells #[.bool sg, .slice A1 L.length c1, .slice (some ⟨W3.heap.size + 1, 0, none⟩) 1 1] 33)).cell? ⟨rr, 1, none⟩ = some (.slice none 0 0) := rblk_cell P_o 1
  have c_o2 : (((W3.alloc (.cells #[.bool sg, .slice A1 L.length c1] 31)).alloc (.cells #[.int .i64 1] 3)).alloc (.cells #[.bool sg, .slice A1 L.length c1, .slice (some ⟨W3.heap.size + 1, 0, none⟩) 1 1] 33)).cell? ⟨rr, 2, none⟩ = some (.slice none 0 0) := rblk_cell P_o 2
  have f_o0 := rblk_free P_o 0
  have f_o1 := rblk_free P_o 1
  have f_o2 := rblk_free P_o 2
  go_wp2
  exact bodyPost_ret (v := .tuple #[.agg #[.bool false, .slice none 0 0, .slice none 0 0], .bool false]) (by simp [results, Tryz.results47, go_sem, c_o0, c_o1, c_o2]) rfl ⟨none, 0, none, 0, rfl, Nat.le_refl _, Nat.le_refl _, .inl rfl, .inl rfl, (fun a h => by simp [rowOf] at h), below_put3 kb hrr3 _ _ _⟩

set_option maxHeartbeats 1000000 in
theorem spec_pr_w_f (s T V : ByteArray) (sg : Bool) (L M : List Int) (w : World) (X : ByteArray) (hx1 : X.toList.isEmpty = true) (hx2 : X.toList = []) (HF0 : ∀ A c D d W, RdS W A (vi L) → RdS W D (vi [1]) → Calls Tryz.prog 41 #[.agg #[.bool sg, .slice A L.length c, .slice D 1 d]] W fun e w' => e = .returned (.string X) ∧ Below W.heap.size W w')
    (HC0 : ∀ W, Calls Tryz.prog 46 #[.string s, .string ⟨#[47]⟩] W fun e w' => ∃ g c, e = .returned (.slice (some ⟨g, 0, none⟩) 1 c) ∧ 1 ≤ c ∧ w'.cell? ⟨g, 0, none⟩ = some (.string T) ∧ True ∧ Below W.heap.size W w')
    (HP0 : ∀ W, Calls Tryz.prog 92 #[.string T] W (PairB W.heap.size sg L true W)) :
    Calls Tryz.prog 47 #[.string s] w (PairR w.heap.size false [] [] false w) := by
  have HC := Lib.hid HC0
  have HP := Lib.hid HP0
  have HF := Lib.hid HF0
  clear HF0
  clear HC0 HP0
  go_enter Tryz.func47, Tryz.ntmps47
  go_wp2_with fail
  have kb := ba1 w (.cells #[.bool false, .slice none 0 0, .slice none 0 0] 33)
  have P_o := heap_alloc_new w (.cells #[.bool false, .slice none 0 0, .slice none 0 0] 33)
  generalize w.alloc (.cells #[.bool false, .slice none 0 0, .slice none 0 0] 33) = W1 at kb P_o ⊢
  obtain ⟨rr, hrr⟩ : ∃ r, r = w.heap.size := ⟨_, rfl⟩
  rw [← hrr] at P_o ⊢
  have hrr3 : w.heap.size ≤ rr := by omega
  clear hrr
  refine (HC.out _).mono ?_
  rintro e W2 ⟨g0, c0, rfl, hc0, k0, k1, hb⟩
  replace P_o := rblk_below P_o hb
  replace kb := bt kb hb
  clear hb
  go_wp2_with fail
  have ltr1 := rblk_lt P_o
  have b1 := kb.size
  refine (HP.out _).mono ?_
  rintro e W3 ⟨A1, c1, rfl, hc1, o1, hb⟩
  replace P_o := rblk_below P_o hb
  replace kb := bt kb hb
  have in1 := o1.inR (vi_length L); have z1 := hb.size; replace k0 := cell_kept k0 hb
  clear hb
  have ltr2 := rblk_lt P_o
  have b2 := kb.size
  obtain ⟨P_x, P_e⟩ := blocks2 W3 (.cells #[.bool sg, .slice A1 L.length c1] 31) (.cells #[.int .i64 1] 3)
  have hb := ba2 W3 (.cells #[.bool sg, .slice A1 L.length c1] 31) (.cells #[.int .i64 1] 3)
  replace P_o := rblk_below P_o hb
  replace o1 := o1.below hb
  have z2 := hb.size
  replace kb := bt kb hb
  clear hb
  have o2 : OwnS W3.heap.size ((W3.alloc (.cells #[.bool sg, .slice A1 L.length c1] 31)).alloc (.cells #[.int .i64 1] 3)) (some ⟨W3.heap.size + 1, 0, none⟩) (vi [1]) := own_one P_e (by omega)
  have in2 : ∀ a, rowOf 1 (some ⟨W3.heap.size + 1, 0, none⟩) = some a → W3.heap.size ≤ a := fun a h => ((o2.inR (n := 1) rfl) a h).1
  have c_x0 : ((W3.alloc (.cells #[.bool sg, .slice A1 L.length c1] 31)).alloc (.cells #[.int .i64 1] 3)).cell? ⟨W3.heap.size, 0, none⟩ = some (.bool sg) := rblk_cell P_x 0
  have c_x1 : ((W3.alloc (.cells #[.bool sg, .slice A1 L.length c1] 31)).alloc (.cells #[.int .i64 1] 3)).cell? ⟨W3.heap.size, 1, none⟩ = some (.slice A1 L.length c1) := rblk_cell P_x 1
  have P_r := heap_alloc_new ((W3.alloc (.cells #[.bool sg, .slice A1 L.length c1] 31)).alloc (.cells #[.int .i64 1] 3)) (.cells #[.bool sg, .slice A1 L.length c1, .slice (some ⟨W3.heap.size + 1, 0, none⟩) 1 1] 33)
  have hb := ba1 ((W3.alloc (.cells #[.bool sg, .slice A1 L.length c1] 31)).alloc (.cells #[.int .i64 1] 3)) (.cells #[.bool sg, .slice A1 L.length c1, .slice (some ⟨W3.heap.size + 1, 0, none⟩) 1 1] 33)
  rw [show ((W3.alloc (.cells #[.bool sg, .slice A1 L.length c1] 31)).alloc (.cells #[.int .i64 1] 3)).heap.size = W3.heap.size + 1 + 1 by rw [sz1, sz1]] at P_r
  replace P_o := rblk_below P_o hb
  replace P_x := rblk_below P_x hb
  replace P_e := rblk_below P_e hb
  replace o1 := o1.below hb
  replace o2 := o2.below hb
  replace kb := bt kb hb
  clear hb
  go_wp2_with fail
  clear c_x0 c_x1
  generalize ((W3.alloc (.cells #[.bool sg, .slice A1 L.length c1] 31)).alloc (.cells #[.int .i64 1] 3)).alloc (.cells #[.bool sg, .slice A1 L.length c1, .slice (some ⟨W3.heap.size + 1, 0, none⟩) 1 1] 33) = Wr at kb P_o P_x P_e P_r o1 o2 ⊢
  refine (HF.out _ _ _ _ _ o1.rd o2.rd).mono ?_
  rintro e W4 ⟨rfl, hb⟩
  replace P_o := rblk_below P_o hb
  replace P_x := rblk_below P_x hb
  replace P_e := rblk_below P_e hb
  replace P_r := rblk_below P_r hb
  replace o1 := o1.below hb
  replace o2 := o2.below hb
  replace kb := bt kb hb
  clear hb
  have c_o0 : W4.cell? ⟨rr, 0, none⟩ = some (.bool false) := rblk_cell P_o 0
  have c_o1 : W4.cell? ⟨rr, 1, none⟩ = some (.slice none 0 0) := rblk_cell P_o 1
  have c_o2 : W4.cell? ⟨rr, 2, none⟩ = some (.slice none 0 0) := rblk_cell P_o 2
  have f_o0 := rblk_free P_o 0
  have f_o1 := rblk_free P_o 1
  have f_o2 := rblk_free P_o 2
  go_wp2
  exact bodyPost_ret (v := .tuple #[.agg #[.bool false, .slice none 0 0, .slice none 0 0], .bool false]) (by simp [results, Tryz.results47, go_sem, c_o0, c_o1, c_o2]) rfl ⟨none, 0, none, 0, rfl, Nat.le_refl _, Nat.le_refl _, .inl rfl, .inl rfl, (fun a h => by simp [rowOf] at h), below_put3 kb hrr3 _ _ _⟩

set_option maxHeartbeats 1000000 in
theorem spec_pr_w_g (s T V : ByteArray) (sg : Bool) (L M : List Int) (w : World) (X : ByteArray) (hx1 : X.toList.isEmpty = false) (hx2 : ¬ X.toList = []) (hy : (X.toList == s.toList) = false) (HF0 : ∀ A c D d W, RdS W A (vi L) → RdS W D (vi [1]) → Calls Tryz.prog 41 #[.agg #[.bool sg, .slice A L.length c, .slice D 1 d]] W fun e w' => e = .returned (.string X) ∧ Below W.heap.size W w')
    (HC0 : ∀ W, Calls Tryz.prog 46 #[.string s, .string ⟨#[47]⟩] W fun e w' => ∃ g c, e = .returned (.slice (some ⟨g, 0, none⟩) 1 c) ∧ 1 ≤ c ∧ w'.cell? ⟨g, 0, none⟩ = some (.string T) ∧ True ∧ Below W.heap.size W w')
    (HP0 : ∀ W, Calls Tryz.prog 92 #[.string T] W (PairB W.heap.size sg L true W)) :
    Calls Tryz.prog 47 #[.string s] w (PairR w.heap.size false [] [] false w) := by
  have HC := Lib.hid HC0
  have HP := Lib.hid HP0
  have HF := Lib.hid HF0
  clear HF0
  clear HC0 HP0
  go_enter Tryz.func47, Tryz.ntmps47
  go_wp2_with fail
  have kb := ba1 w (.cells #[.bool false, .slice none 0 0, .slice none 0 0] 33)
  have P_o := heap_alloc_new w (.cells #[.bool false, .slice none 0 0, .slice none 0 0] 33)
  generalize w.alloc (.cells #[.bool false, .slice none 0 0, .slice none 0 0] 33) = W1 at kb P_o ⊢
  obtain ⟨rr, hrr⟩ : ∃ r, r = w.heap.size := ⟨_, rfl⟩
  rw [← hrr] at P_o ⊢
  have hrr3 : w.heap.size ≤ rr := by omega
  clear hrr
  refine (HC.out _).mono ?_
  rintro e W2 ⟨g0, c0, rfl, hc0, k0, k1, hb⟩
  replace P_o := rblk_below P_o hb
  replace kb := bt kb hb
  clear hb
  go_wp2_with fail
  have ltr1 := rblk_lt P_o
  have b1 := kb.size
  refine (HP.out _).mono ?_
  rintro e W3 ⟨A1, c1, rfl, hc1, o1, hb⟩
  replace P_o := rblk_below P_o hb
  replace kb := bt kb hb
  have in1 := o1.inR (vi_length L); have z1 := hb.size; replace k0 := cell_kept k0 hb
  clear hb
  have ltr2 := rblk_lt P_o
  have b2 := kb.size
  obtain ⟨P_x, P_e⟩ := blocks2 W3 (.cells #[.bool sg, .slice A1 L.length c1] 31) (.cells #[.int .i64 1] 3)
  have hb := ba2 W3 (.cells #[.bool sg, .slice A1 L.length c1] 31) (.cells #[.int .i64 1] 3)
  replace P_o := rblk_below P_o hb
  replace o1 := o1.below hb
  have z2 := hb.size
  replace kb := bt kb hb
  clear hb
  have o2 : OwnS W3.heap.size ((W3.alloc (.cells #[.bool sg, .slice A1 L.length c1] 31)).alloc (.cells #[.int .i64 1] 3)) (some ⟨W3.heap.size + 1, 0, none⟩) (vi [1]) := own_one P_e (by omega)
  have in2 : ∀ a, rowOf 1 (some ⟨W3.heap.size + 1, 0, none⟩) = some a → W3.heap.size ≤ a := fun a h => ((o2.inR (n := 1) rfl) a h).1
  have c_x0 : ((W3.alloc (.cells #[.bool sg, .slice A1 L.length c1] 31)).alloc (.cells #[.int .i64 1] 3)).cell? ⟨W3.heap.size, 0, none⟩ = some (.bool sg) := rblk_cell P_x 0
  have c_x1 : ((W3.alloc (.cells #[.bool sg, .slice A1 L.length c1] 31)).alloc (.cells #[.int .i64 1] 3)).cell? ⟨W3.heap.size, 1, none⟩ = some (.slice A1 L.length c1) := rblk_cell P_x 1
  have P_r := heap_alloc_new ((W3.alloc (.cells #[.bool sg, .slice A1 L.length c1] 31)).alloc (.cells #[.int .i64 1] 3)) (.cells #[.bool sg, .slice A1 L.length c1, .slice (some ⟨W3.heap.size + 1, 0, none⟩) 1 1] 33)
  have hb := ba1 ((W3.alloc (.cells #[.bool sg, .slice A1 L.length c1] 31)).alloc (.cells #[.int .i64 1] 3)) (.cells #[.bool sg, .slice A1 L.length c1, .slice (some ⟨W3.heap.size + 1, 0, none⟩) 1 1] 33)
  rw [show ((W3.alloc (.cells #[.bool sg, .slice A1 L.length c1] 31)).alloc (.cells #[.int .i64 1] 3)).heap.size = W3.heap.size + 1 + 1 by rw [sz1, sz1]] at P_r
  replace P_o := rblk_below P_o hb
  replace P_x := rblk_below P_x hb
  replace P_e := rblk_below P_e hb
  replace o1 := o1.below hb
  replace o2 := o2.below hb
  replace kb := bt kb hb
  clear hb
  go_wp2_with fail
  clear c_x0 c_x1
  generalize ((W3.alloc (.cells #[.bool sg, .slice A1 L.length c1] 31)).alloc (.cells #[.int .i64 1] 3)).alloc (.cells #[.bool sg, .slice A1 L.length c1, .slice (some ⟨W3.heap.size + 1, 0, none⟩) 1 1] 33) = Wr at kb P_o P_x P_e P_r o1 o2 ⊢
  refine (HF.out _ _ _ _ _ o1.rd o2.rd).mono ?_
  rintro e W4 ⟨rfl, hb⟩
  replace P_o := rblk_below P_o hb
  replace P_x := rblk_below P_x hb
  replace P_e := rblk_below P_e hb
  replace P_r := rblk_below P_r hb
  replace o1 := o1.below hb
  replace o2 := o2.below hb
  replace kb := bt kb hb
  clear hb
  have c_r0 : W4.cell? ⟨W3.heap.size + 1 + 1, 0, none⟩ = some (.bool sg) := rblk_cell P_r 0
  have c_r1 : W4.cell? ⟨W3.heap.size + 1 + 1, 1, none⟩ = some (.slice A1 L.length c1) := rblk_cell P_r 1
  have c_r2 : W4.cell? ⟨W3.heap.size + 1 + 1, 2, none⟩ = some (.slice (some ⟨W3.heap.size + 1, 0, none⟩) 1 1) := rblk_cell P_r 2
  go_wp2_with fail
  clear c_r0 c_r1 c_r2
  refine (HF.out _ _ _ _ _ o1.rd o2.rd).mono ?_
  rintro e W5 ⟨rfl, hb⟩
  replace P_o := rblk_below P_o hb
  replace P_x := rblk_below P_x hb
  replace P_e := rblk_below P_e hb
  replace P_r := rblk_below P_r hb
  replace o1 := o1.below hb
  replace o2 := o2.below hb
  replace kb := bt kb hb
  clear hb
  have c_o0 : W5.cell? ⟨rr, 0, none⟩ = some (.bool false) := rblk_cell P_o 0
  have c_o1 : W5.cell? ⟨rr, 1, none⟩ = some (.slice none 0 0) := rblk_cell P_o 1
  have c_o2 : W5.cell? ⟨rr, 2, none⟩ = some (.slice none 0 0) := rblk_cell P_o 2
  have f_o0 := rblk_free P_o 0
  have f_o1 := rblk_free P_o 1
  have f_o2 := rblk_free P_o 2
  go_wp2
  exact bodyPost_ret (v := .tuple #[.agg #[.bool false, .slice none 0 0, .slice none 0 0], .bool false]) (by simp [results, Tryz.results47, go_sem, c_o0, c_o1, c_o2]) rfl ⟨none, 0, none, 0, rfl, Nat.le_refl _, Nat.le_refl _, .inl rfl, .inl rfl, (fun a h => by simp [rowOf] at h), below_put3 kb hrr3 _ _ _⟩

set_option maxHeartbeats 1000000 in
theorem spec_pr_w_y (s T V : ByteArray) (sg : Bool) (L M : List Int) (w : World) (X : ByteArray) (hx1 : X.toList.isEmpty = false) (hx2 : ¬ X.toList = []) (hy : (X.toList == s.toList) = true) (HF0 : ∀ A c D d W, RdS W A (vi L) → RdS W D (vi [1]) → Calls Tryz.prog 41 #[.agg #[.bool sg, .slice A L.length c, .slice D 1 d]] W fun e w' => e = .returned (.string X) ∧ Below W.heap.size W w')
    (HC0 : ∀ W, Calls Tryz.prog 46 #[.string s, .string ⟨#[47]⟩] W fun e w' => ∃ g c, e = .returned (.slice (some ⟨g, 0, none⟩) 1 c) ∧ 1 ≤ c ∧ w'.cell? ⟨g, 0, none⟩ = some (.string T) ∧ True ∧ Below W.heap.size W w')
    (HP0 : ∀ W, Calls Tryz.prog 92 #[.string T] W (PairB W.heap.size sg L true W)) :
    Calls Tryz.prog 47 #[.string s] w (PairR w.heap.size sg L [1] true w) := by
  have HC := Lib.hid HC0
  have HP := Lib.hid HP0
  have HF := Lib.hid HF0
  clear HF0
  clear HC0 HP0
  go_enter Tryz.func47, Tryz.ntmps47
  go_wp2_with fail
  have kb := ba1 w (.cells #[.bool false, .slice none 0 0, .slice none 0 0] 33)
  have P_o := heap_alloc_new w (.cells #[.bool false, .slice none 0 0, .slice none 0 0] 33)
  generalize w.alloc (.cells #[.bool false, .slice none 0 0, .slice none 0 0] 33) = W1 at kb P_o ⊢
  obtain ⟨rr, hrr⟩ : ∃ r, r = w.heap.size := ⟨_, rfl⟩
  rw [← hrr] at P_o ⊢
  have hrr3 : w.heap.size ≤ rr := by omega
  clear hrr
  refine (HC.out _).mono ?_
  rintro e W2 ⟨g0, c0, rfl, hc0, k0, k1, hb⟩
  replace P_o := rblk_below P_o hb
  replace kb := bt kb hb
  clear hb
  go_wp2_with fail
  have ltr1 := rblk_lt P_o
  have b1 := kb.size
  refine (HP.out _).mono ?_
  rintro e W3 ⟨A1, c1, rfl, hc1, o1, hb⟩
  replace P_o := rblk_below P_o hb
  replace kb := bt kb hb
  have in1 := o1.inR (vi_length L); have z1 := hb.size; replace k0 := cell_kept k0 hb
  clear hb
  have ltr2 := rblk_lt P_o
  have b2 := kb.size
  obtain ⟨P_x, P_e⟩ := blocks2 W3 (.cells #[.bool sg, .slice A1 L.length c1] 31) (.cells #[.int .i64 1] 3)
  have hb := ba2 W3 (.cells #[.bool sg, .slice A1 L.length c1] 31) (.cells #[.int .i64 1] 3)
  replace P_o := rblk_below P_o hb
  replace o1 := o1.below hb
  have z2 := hb.size
  replace kb := bt kb hb
  clear hb
  have o2 : OwnS W3.heap.size ((W3.alloc (.cells #[.bool sg, .slice A1 L.length c1] 31)).alloc (.cells #[.int .i64 1] 3)) (some ⟨W3.heap.size + 1, 0, none⟩) (vi [1]) := own_one P_e (by omega)
  have in2 : ∀ a, rowOf 1 (some ⟨W3.heap.size + 1, 0, none⟩) = some a → W3.heap.size ≤ a := fun a h => ((o2.inR (n := 1) rfl) a h).1
  have c_x0 : ((W3.alloc (.cells #[.bool sg, .slice A1 L.length c1] 31)).alloc (.cells #[.int .i64 1] 3)).cell? ⟨W3.heap.size, 0, none⟩ = some (.bool sg) := rblk_cell P_x 0
  have c_x1 : ((W3.alloc (.cells #[.bool sg, .slice A1 L.length c1] 31)).alloc (.cells #[.int .i64 1] 3)).cell? ⟨W3.heap.size, 1, none⟩ = some (.slice A1 L.length c1) := rblk_cell P_x 1
  have P_r := heap_alloc_new ((W3.alloc (.cells #[.bool sg, .slice A1 L.length c1] 31)).alloc (.cells #[.int .i64 1] 3)) (.cells #[.bool sg, .slice A1 L.length c1, .slice (some ⟨W3.heap.size + 1, 0, none⟩) 1 1] 33)
  have hb := ba1 ((W3.alloc (.cells #[.bool sg, .slice A1 L.length c1] 31)).alloc (.cells #[.int .i64 1] 3)) (.cells #[.bool sg, .slice A1 L.length c1, .slice (some ⟨W3.heap.size + 1, 0, none⟩) 1 1] 33)
  rw [show ((W3.alloc (.cells #[.bool sg, .slice A1 L.length c1] 31)).alloc (.cells #[.int .i64 1] 3)).heap.size = W3.heap.size + 1 + 1 by rw [sz1, sz1]] at P_r
  replace P_o := rblk_below P_o hb
  replace P_x := rblk_below P_x hb
  replace P_e := rblk_below P_e hb
  replace o1 := o1.below hb
  replace o2 := o2.below hb
  replace kb := bt kb hb
  clear hb
  go_wp2_with fail
  clear c_x0 c_x1
  generalize ((W3.alloc (.cells #[.bool sg, .slice A1 L.length c1] 31)).alloc (.cells #[.int .i64 1] 3)).alloc (.cells #[.bool sg, .slice A1 L.length c1, .slice (some ⟨W3.heap.size + 1, 0, none⟩) 1 1] 33) = Wr at kb P_o P_x P_e P_r o1 o2 ⊢
  refine (HF.out _ _ _ _ _ o1.rd o2.rd).mono ?_
  rintro e W4 ⟨rfl, hb⟩
  replace P_o := rblk_below P_o hb
  replace P_x := rblk_below P_x hb
  replace P_e := rblk_below P_e hb
  replace P_r := rblk_below P_r hb
  replace o1 := o1.below hb
  replace o2 := o2.below hb
  replace kb := bt kb hb
  clear hb
  have c_r0 : W4.cell? ⟨W3.heap.size + 1 + 1, 0, none⟩ = some (.bool sg) := rblk_cell P_r 0
  have c_r1 : W4.cell? ⟨W3.heap.size + 1 + 1, 1, none⟩ = some (.slice A1 L.length c1) := rblk_cell P_r 1
  have c_r2 : W4.cell? ⟨W3.heap.size + 1 + 1, 2, none⟩ = some (.slice (some ⟨W3.heap.size + 1, 0, none⟩) 1 1) := rblk_cell P_r 2
  go_wp2_with fail
  clear c_r0 c_r1 c_r2
  refine (HF.out _ _ _ _ _ o1.rd o2.rd).mono ?_
  rintro e W5 ⟨rfl, hb⟩
  replace P_o := rblk_below P_o hb
  replace P_x := rblk_below P_x hb
  replace P_e := rblk_below P_e hb
  replace P_r := rblk_below P_r hb
  replace o1 := o1.below hb
  replace o2 := o2.below hb
  replace kb := bt kb hb
  clear hb
  have c_r0 : W5.cell? ⟨W3.heap.size + 1 + 1, 0, none⟩ = some (.bool sg) := rblk_cell P_r 0
  have c_r1 : W5.cell? ⟨W3.heap.size + 1 + 1, 1, none⟩ = some (.slice A1 L.length c1) := rblk_cell P_r 1
  have c_r2 : W5.cell? ⟨W3.heap.size + 1 + 1, 2, none⟩ = some (.slice (some ⟨W3.heap.size + 1, 0, none⟩) 1 1) := rblk_cell P_r 2
  have c_o0 : W5.cell? ⟨rr, 0, none⟩ = some (.bool false) := rblk_cell P_o 0
  have c_o1 : W5.cell? ⟨rr, 1, none⟩ = some (.slice none 0 0) := rblk_cell P_o 1
  have c_o2 : W5.cell? ⟨rr, 2, none⟩ = some (.slice none 0 0) := rblk_cell P_o 2
  have f_o0 := rblk_free P_o 0
  have f_o1 := rblk_free P_o 1
  have f_o2 := rblk_free P_o 2
  go_wp2
  exact bodyPost_ret (v := .tuple #[.agg #[.bool sg, .slice A1 L.length c1, .slice (some ⟨W3.heap.size + 1, 0, none⟩) 1 1], .bool true]) (by simp [results, Tryz.results47, go_sem, c_o0, c_o1, c_o2, c_r0, c_r1, c_r2]) rfl ⟨A1, c1, (some ⟨W3.heap.size + 1, 0, none⟩), 1, rfl, hc1, Nat.le_refl _, (own_put3 o1 ltr1 _ _ _).more b1, (own_put3 o2 ltr2 _ _ _).more b2, (fun a h1 h2 => by have u1 := in1 a h1; have u2 := in2 a h2; omega), below_put3 kb hrr3 _ _ _⟩
end Go.Proofs.YtkmfbanlkglkmabGreatDoor
