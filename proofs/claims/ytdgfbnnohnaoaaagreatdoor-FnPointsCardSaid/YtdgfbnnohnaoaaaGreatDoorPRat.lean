/-
  'ParseRat' of the program.
-/
import Derived.Test.YtdgfbnnohnaoaaaGreatDoorCut
import Derived.Test.YtdgfbnnohnaoaaaGreatDoorDkF
import Derived.Test.YtdgfbnnohnaoaaaGreatDoorRoundB
namespace Go.Proofs.YtdgfbnnohnaoaaaGreatDoor
open Go.ChangeShapes Go.WideShapes Go.ChangeAt Go.RowKit
open Go.ChangeMaps (open_string shut_string)
set_option linter.unusedVariables false
set_option linter.unusedSimpArgs false
set_option maxRecDepth 4000

/-- A fraction and a bool. -/
def PairR (B : Nat) (p : Bool) (L M : List Int) (b : Bool) (w : World) (e : Ending) (w' : World) : Prop :=
  ∃ A c D d, e = .returned (.tuple #[.agg #[.bool p, .slice A L.length c, .slice D M.length d], .bool b]) ∧ L.length ≤ c ∧ M.length ≤ d ∧ OwnS B w' A (vi L) ∧ OwnS B w' D (vi M) ∧ Apart L.length A M.length D ∧ Below w.heap.size w w'
/-- What 'strings.Cut' answers for a slash. -/
def ctT (s : ByteArray) : ByteArray := ⟨(Lib.cut s.data.toList [47]).1.toArray⟩
def ctU (s : ByteArray) : ByteArray := ⟨(Lib.cut s.data.toList [47]).2.1.toArray⟩
def ctQ (s : ByteArray) : Bool := (Lib.cut s.data.toList [47]).2.2
theorem cut_any (s : ByteArray) (m : Int) (w : World) (hs : s.size ≤ 1048576) (hm : w.cell? ⟨0, 0, none⟩ = some (.int .i64 m)) :
    Calls Tryz.prog 21 #[.string s, .string ⟨#[47]⟩] w fun e w' => e = .returned (.tuple #[.string (ctT s), .string (ctU s), .bool (ctQ s)]) ∧ Below w.heap.size w w' := by
  refine (Tryz.strings_Cut s ⟨#[47]⟩ m w (by omega) hm).mono ?_
  rintro e w' ⟨rfl, n, rfl⟩
  exact ⟨rfl, below_drewN (Below.refl _ _) n⟩

set_option maxHeartbeats 1000000 in
theorem impl_pr_s_n (s T U : ByteArray) (sg : Bool) (L M : List Int) (mx : Int) (w : World) (hm : w.cell? ⟨0, 0, none⟩ = some (.int .i64 mx)) (b : Bool)
    (HC0 : ∀ W, W.cell? ⟨0, 0, none⟩ = some (.int .i64 mx) → Calls Tryz.prog 21 #[.string s, .string ⟨#[47]⟩] W fun e w' => e = .returned (.tuple #[.string T, .string U, .bool true]) ∧ Below W.heap.size W w')
    (HP0 : ∀ W, Calls Tryz.prog 49 #[.string T] W (PairB W.heap.size sg L false W))
    (HN0 : ∀ W, Calls Tryz.prog 50 #[.string U] W (PairN W.heap.size M b W)) :
    Calls Tryz.prog 22 #[.string s] w (PairR w.heap.size false [] [] false w) := by
  have HC := Lib.hid HC0
  have HP := Lib.hid HP0
  have HN := Lib.hid HN0
  clear HC0 HP0 HN0
  go_enter Tryz.func22, Tryz.ntmps22
  go_wp2_with fail
  have kb := ba1 w (.cells #[.bool false, .slice none 0 0, .slice none 0 0] 27)
  have P_o := heap_alloc_new w (.cells #[.bool false, .slice none 0 0, .slice none 0 0] 27)
  generalize w.alloc (.cells #[.bool false, .slice none 0 0, .slice none 0 0] 27) = W1 at kb P_o ⊢
  obtain ⟨rr, hrr⟩ : ∃ r, r = w.heap.size := ⟨_, rfl⟩
  rw [← hrr] at P_o ⊢
  have hrr3 : w.heap.size ≤ rr := by omega
  clear hrr
  refine (HC.out _ (cell_kept hm kb)).mono ?_
  rintro e W2 ⟨rfl, hb⟩
  replace P_o := rblk_below P_o hb
  replace kb := bt kb hb
  clear hb
  go_wp2_with fail
  have ltr1 := rblk_lt P_o
  have b1 := kb.size
  refine (HP.out _).mono ?_
  rintro e W3 ⟨A1, c1, rfl, hc1, o1, hb⟩
  replace P_o := rblk_below P_o hb
  replace kb := bt kb hb
  have in1 := o1.inR (vi_length L); have z1 := hb.size
  clear hb
  have P_x := heap_alloc_new W3 (.cells #[.bool sg, .slice A1 L.length c1] 25)
  have hb := ba1 W3 (.cells #[.bool sg, .slice A1 L.length c1] 25)
  replace P_o := rblk_below P_o hb
  replace o1 := o1.below hb
  replace kb := bt kb hb
  clear hb
  go_wp2_with fail
  generalize W3.alloc (.cells #[.bool sg, .slice A1 L.length c1] 25) = W4 at kb P_o P_x o1 ⊢
  have ltr2 := rblk_lt P_o
  have b2 := kb.size
  have z2 := rblk_lt P_x
  refine (HN.out _).mono ?_
  rintro e W5 ⟨A2, c2, rfl, hc2, o2, hb⟩
  replace P_o := rblk_below P_o hb
  replace P_x := rblk_below P_x hb
  replace o1 := o1.below hb
  replace kb := bt kb hb
  have in2 := o2.inR (vi_length M); have z3 := hb.size
  clear hb
  have c_x0 : W5.cell? ⟨W3.heap.size, 0, none⟩ = some (.bool sg) := rblk_cell P_x 0
  have c_x1 : W5.cell? ⟨W3.heap.size, 1, none⟩ = some (.slice A1 L.length c1) := rblk_cell P_x 1
  have P_r := heap_alloc_new W5 (.cells #[.bool sg, .slice A1 L.length c1, .slice A2 M.length c2] 27)
  have hb := ba1 W5 (.cells #[.bool sg, .slice A1 L.length c1, .slice A2 M.length c2] 27)
  replace P_o := rblk_below P_o hb
  replace P_x := rblk_below P_x hb
  replace o1 := o1.below hb
  replace o2 := o2.below hb
  replace kb := bt kb hb
  clear hb
  have c_o0 : (W5.alloc (.cells #[.bool sg, .slice A1 L.length c1, .slice A2 M.length c2] 27)).cell? ⟨rr, 0, none⟩ = some (.bool false) := rblk_cell P_o 0
  have c_o1 : (W5.alloc (.cells #[.bool sg, .slice A1 L.length c1, .slice A2 M.length c2] 27)).cell? ⟨rr, 1, none⟩ = some (.slice none 0 0) := rblk_cell P_o 1
  have c_o2 : (W5.alloc (.cells #[.bool sg, .slice A1 L.length c1, .slice A2 M.length c2] 27)).cell? ⟨rr, 2, none⟩ = some (.slice none 0 0) := rblk_cell P_o 2
  have f_o0 := rblk_free P_o 0
  have f_o1 := rblk_free P_o 1
  have f_o2 := rblk_free P_o 2
  go_wp2
  exact bodyPost_ret (v := .tuple #[.agg #[.bool false, .slice none 0 0, .slice none 0 0], .bool false]) (by simp [results, Tryz.results22, go_sem, c_o0, c_o1, c_o2]) rfl ⟨none, 0, none, 0, rfl, Nat.le_refl _, Nat.le_refl _, .inl rfl, .inl rfl, (fun a h => by simp [rowOf] at h), below_put3 kb hrr3 _ _ _⟩

set_option maxHeartbeats 1000000 in
theorem impl_pr_s_d (s T U : ByteArray) (sg : Bool) (L M : List Int) (mx : Int) (w : World) (hm : w.cell? ⟨0, 0, none⟩ = some (.int .i64 mx))
    (HC0 : ∀ W, W.cell? ⟨0, 0, none⟩ = some (.int .i64 mx) → Calls Tryz.prog 21 #[.string s, .string ⟨#[47]⟩] W fun e w' => e = .returned (.tuple #[.string T, .string U, .bool true]) ∧ Below W.heap.size W w')
    (HP0 : ∀ W, Calls Tryz.prog 49 #[.string T] W (PairB W.heap.size sg L true W))
    (HN0 : ∀ W, Calls Tryz.prog 50 #[.string U] W (PairN W.heap.size M false W)) :
    Calls Tryz.prog 22 #[.string s] w (PairR w.heap.size false [] [] false w) := by
  have HC := Lib.hid HC0
  have HP := Lib.hid HP0
  have HN := Lib.hid HN0
  clear HC0 HP0 HN0
  go_enter Tryz.func22, Tryz.ntmps22
  go_wp2_with fail
  have kb := ba1 w (.cells #[.bool false, .slice none 0 0, .slice none 0 0] 27)
  have P_o := heap_alloc_new w (.cells #[.bool false, .slice none 0 0, .slice none 0 0] 27)
  generalize w.alloc (.cells #[.bool false, .slice none 0 0, .slice none 0 0] 27) = W1 at kb P_o ⊢
  obtain ⟨rr, hrr⟩ : ∃ r, r = w.heap.size := ⟨_, rfl⟩
  rw [← hrr] at P_o ⊢
  have hrr3 : w.heap.size ≤ rr := by omega
  clear hrr
  refine (HC.out _ (cell_kept hm kb)).mono ?_
  rintro e W2 ⟨rfl, hb⟩
  replace P_o := rblk_below P_o hb
  replace kb := bt kb hb
  clear hb
  go_wp2_with fail
  have ltr1 := rblk_lt P_o
  have b1 := kb.size
  refine (HP.out _).mono ?_
  rintro e W3 ⟨A1, c1, rfl, hc1, o1, hb⟩
  replace P_o := rblk_below P_o hb
  replace kb := bt kb hb
  have in1 := o1.inR (vi_length L); have z1 := hb.size
  clear hb
  have P_x := heap_alloc_new W3 (.cells #[.bool sg, .slice A1 L.length c1] 25)
  have hb := ba1 W3 (.cells #[.bool sg, .slice A1 L.length c1] 25)
  replace P_o := rblk_below P_o hb
  replace o1 := o1.below hb
  replace kb := bt kb hb
  clear hb
  go_wp2_with fail
  generalize W3.alloc (.cells #[.bool sg, .slice A1 L.length c1] 25) = W4 at kb P_o P_x o1 ⊢
  have ltr2 := rblk_lt P_o
  have b2 := kb.size
  have z2 := rblk_lt P_x
  refine (HN.out _).mono ?_
  rintro e W5 ⟨A2, c2, rfl, hc2, o2, hb⟩
  replace P_o := rblk_below P_o hb
  replace P_x := rblk_below P_x hb
  replace o1 := o1.below hb
  replace kb := bt kb hb
  have in2 := o2.inR (vi_length M); have z3 := hb.size
  clear hb
  have c_x0 : W5.cell? ⟨W3.heap.size, 0, none⟩ = some (.bool sg) := rblk_cell P_x 0
  have c_x1 : W5.cell? ⟨W3.heap.size, 1, none⟩ = some (.slice A1 L.length c1) := rblk_cell P_x 1
  have P_r := heap_alloc_new W5 (.cells #[.bool sg, .slice A1 L.length c1, .slice A2 M.length c2] 27)
  have hb := ba1 W5 (.cells #[.bool sg, .slice A1 L.length c1, .slice A2 M.length c2] 27)
  replace P_o := rblk_below P_o hb
  replace P_x := rblk_below P_x hb
  replace o1 := o1.below hb
  replace o2 := o2.below hb
  replace kb := bt kb hb
  clear hb
  have c_o0 : (W5.alloc (.cells #[.bool sg, .slice A1 L.length c1, .slice A2 M.length c2] 27)).cell? ⟨rr, 0, none⟩ = some (.bool false) := rblk_cell P_o 0
  have c_o1 : (W5.alloc (.cells #[.bool sg, .slice A1 L.length c1, .slice A2 M.length c2] 27)).cell? ⟨rr, 1, none⟩ = some (.slice none 0 0) := rblk_cell P_o 1
  have c_o2 : (W5.alloc (.cells #[.bool sg, .slice A1 L.length c1, .slice A2 M.length c2] 27)).cell? ⟨rr, 2, none⟩ = some (.slice none 0 0) := rblk_cell P_o 2
  have f_o0 := rblk_free P_o 0
  have f_o1 := rblk_free P_o 1
  have f_o2 := rblk_free P_o 2
  go_wp2
  exact bodyPost_ret (v := .tuple #[.agg #[.bool false, .slice none 0 0, .slice none 0 0], .bool false]) (by simp [results, Tryz.results22, go_sem, c_o0, c_o1, c_o2]) rfl ⟨none, 0, none, 0, rfl, Nat.le_refl _, Nat.le_refl _, .inl rfl, .inl rfl, (fun a h => by simp [rowOf] at h), below_put3 kb hrr3 _ _ _⟩

set_option maxHeartbeats 1000000 in
theorem impl_pr_s_r (s T U : ByteArray) (sg : Bool) (L M : List Int) (mx : Int) (w : World) (hm : w.cell? ⟨0, 0, none⟩ = some (.int .i64 mx)) (hL : L.length ≤ 1048576) (hM : M.length ≤ 1048576) (h1 : okR sg L M = false)
    (HC0 : ∀ W, W.cell? ⟨0, 0, none⟩ = some (.int .i64 mx) → Calls Tryz.prog 21 #[.string s, .string ⟨#[47]⟩] W fun e w' => e = .returned (.tuple #[.string T, .string U, .bool true]) ∧ Below W.heap.size W w')
    (HP0 : ∀ W, Calls Tryz.prog 49 #[.string T] W (PairB W.heap.size sg L true W))
    (HN0 : ∀ W, Calls Tryz.prog 50 #[.string U] W (PairN W.heap.size M true W)) :
    Calls Tryz.prog 22 #[.string s] w (PairR w.heap.size false [] [] false w) := by
  have HC := Lib.hid HC0
  have HP := Lib.hid HP0
  have HN := Lib.hid HN0
  clear HC0 HP0 HN0
  have HK := Lib.hid (fun A D c d W h h' => impl_rok sg L M A D L.length c M.length d W rfl rfl (by omega) (by omega) h h')
  rw [h1] at HK
  clear h1 hL hM
  go_enter Tryz.func22, Tryz.ntmps22
  go_wp2_with fail
  have kb := ba1 w (.cells #[.bool false, .slice none 0 0, .slice none 0 0] 27)
  have P_o := heap_alloc_new w (.cells #[.bool false, .slice none 0 0, .slice none 0 0] 27)
  generalize w.alloc (.cells #[.bool false, .slice none 0 0, .slice none 0 0] 27) = W1 at kb P_o ⊢
  obtain ⟨rr, hrr⟩ : ∃ r, r = w.heap.size := ⟨_, rfl⟩
  rw [← hrr] at P_o ⊢
  have hrr3 : w.heap.size ≤ rr := by omega
  clear hrr
  refine (HC.out _ (cell_kept hm kb)).mono ?_
  rintro e W2 ⟨rfl, hb⟩
  replace P_o := rblk_below P_o hb
  replace kb := bt kb hb
  clear hb
  go_wp2_with fail
  have ltr1 := rblk_lt P_o
  have b1 := kb.size
  refine (HP.out _).mono ?_
  rintro e W3 ⟨A1, c1, rfl, hc1, o1, hb⟩
  replace P_o := rblk_below P_o hb
  replace kb := bt kb hb
  have in1 := o1.inR (vi_length L); have z1 := hb.size
  clear hb
  have P_x := heap_alloc_new W3 (.cells #[.bool sg, .slice A1 L.length c1] 25)
  have hb := ba1 W3 (.cells #[.bool sg, .slice A1 L.length c1] 25)
  replace P_o := rblk_below P_o hb
  replace o1 := o1.below hb
  replace kb := bt kb hb
  clear hb
  go_wp2_with fail
  generalize W3.alloc (.cells #[.bool sg, .slice A1 L.length c1] 25) = W4 at kb P_o P_x o1 ⊢
  have ltr2 := rblk_lt P_o
  have b2 := kb.size
  have z2 := rblk_lt P_x
  refine (HN.out _).mono ?_
  rintro e W5 ⟨A2, c2, rfl, hc2, o2, hb⟩
  replace P_o := rblk_below P_o hb
  replace P_x := rblk_below P_x hb
  replace o1 := o1.below hb
  replace kb := bt kb hb
  have in2 := o2.inR (vi_length M); have z3 := hb.size
  clear hb
  have c_x0 : W5.cell? ⟨W3.heap.size, 0, none⟩ = some (.bool sg) := rblk_cell P_x 0
  have c_x1 : W5.cell? ⟨W3.heap.size, 1, none⟩ = some (.slice A1 L.length c1) := rblk_cell P_x 1
  have P_r := heap_alloc_new W5 (.cells #[.bool sg, .slice A1 L.length c1, .slice A2 M.length c2] 27)
  have hb := ba1 W5 (.cells #[.bool sg, .slice A1 L.length c1, .slice A2 M.length c2] 27)
  replace P_o := rblk_below P_o hb
  replace P_x := rblk_below P_x hb
  replace o1 := o1.below hb
  replace o2 := o2.below hb
  replace kb := bt kb hb
  clear hb
  go_wp2_with fail
  clear c_x0 c_x1
  generalize W5.alloc (.cells #[.bool sg, .slice A1 L.length c1, .slice A2 M.length c2] 27) = Wr at kb P_o P_x P_r o1 o2 ⊢
  refine (HK.out _ _ _ _ _ o1.rd o2.rd).mono ?_
  rintro e W6 ⟨rfl, hb⟩
  replace P_o := rblk_below P_o hb
  replace P_x := rblk_below P_x hb
  replace P_r := rblk_below P_r hb
  replace o1 := o1.below hb
  replace o2 := o2.below hb
  replace kb := bt kb hb
  clear hb
  have c_o0 : W6.cell? ⟨rr, 0, none⟩ = some (.bool false) := rblk_cell P_o 0
  have c_o1 : W6.cell? ⟨rr, 1, none⟩ = some (.slice none 0 0) := rblk_cell P_o 1
  have c_o2 : W6.cell? ⟨rr, 2, none⟩ = some (.slice none 0 0) := rblk_cell P_o 2
  have f_o0 := rblk_free P_o 0
  have f_o1 := rblk_free P_o 1
  have f_o2 := rblk_free P_o 2
  go_wp2
  exact bodyPost_ret (v := .tuple #[.agg #[.bool false, .slice none 0 0, .slice none 0 0], .bool false]) (by simp [results, Tryz.results22, go_sem, c_o0, c_o1, c_o2]) rfl ⟨none, 0, none, 0, rfl, Nat.le_refl _, Nat.le_refl _, .inl rfl, .inl rfl, (fun a h => by simp [rowOf] at h), below_put3 kb hrr3 _ _ _⟩

set_option maxHeartbeats 1000000 in
theorem impl_pr_s_o (s T U : ByteArray) (sg : Bool) (L M : List Int) (mx : Int) (w : World) (hm : w.cell? ⟨0, 0, none⟩ = some (.int .i64 mx)) (hL : L.length ≤ 1048576) (hM : M.length ≤ 1048576) (h1 : okR sg L M = true) (h2 : decide (M = [1]) = true)
    (HC0 : ∀ W, W.cell? ⟨0, 0, none⟩ = some (.int .i64 mx) → Calls Tryz.prog 21 #[.string s, .string ⟨#[47]⟩] W fun e w' => e = .returned (.tuple #[.string T, .string U, .bool true]) ∧ Below W.heap.size W w')
    (HP0 : ∀ W, Calls Tryz.prog 49 #[.string T] W (PairB W.heap.size sg L true W))
    (HN0 : ∀ W, Calls Tryz.prog 50 #[.string U] W (PairN W.heap.size M true W)) :
    Calls Tryz.prog 22 #[.string s] w (PairR w.heap.size false [] [] false w) := by
  have HC := Lib.hid HC0
  have HP := Lib.hid HP0
  have HN := Lib.hid HN0
  clear HC0 HP0 HN0
  have HK := Lib.hid (fun A D c d W h h' => impl_rok sg L M A D L.length c M.length d W rfl rfl (by omega) (by omega) h h')
  rw [h1] at HK
  have HO := Lib.hid (fun A c W h => isOne_any M A M.length c W rfl (by omega) h)
  rw [h2] at HO
  clear h1 hL hM h2
  go_enter Tryz.func22, Tryz.ntmps22
  go_wp2_with fail
  have kb := ba1 w (.cells #[.bool false, .slice none 0 0, .slice none 0 0] 27)
  have P_o := heap_alloc_new w (.cells #[.bool false, .slice none 0 0, .slice none 0 0] 27)
  generalize w.alloc (.cells #[.bool false, .slice none 0 0, .slice none 0 0] 27) = W1 at kb P_o ⊢
  obtain ⟨rr, hrr⟩ : ∃ r, r = w.heap.size := ⟨_, rfl⟩
  rw [← hrr] at P_o ⊢
  have hrr3 : w.heap.size ≤ rr := by omega
  clear hrr
  refine (HC.out _ (cell_kept hm kb)).mono ?_
  rintro e W2 ⟨rfl, hb⟩
  replace P_o := rblk_below P_o hb
  replace kb := bt kb hb
  clear hb
  go_wp2_with fail
  have ltr1 := rblk_lt P_o
  have b1 := kb.size
  refine (HP.out _).mono ?_
  rintro e W3 ⟨A1, c1, rfl, hc1, o1, hb⟩
  replace P_o := rblk_below P_o hb
  replace kb := bt kb hb
  have in1 := o1.inR (vi_length L); have z1 := hb.size
  clear hb
  have P_x := heap_alloc_new W3 (.cells #[.bool sg, .slice A1 L.length c1] 25)
  have hb := ba1 W3 (.cells #[.bool sg, .slice A1 L.length c1] 25)
  replace P_o := rblk_below P_o hb
  replace o1 := o1.below hb
  replace kb := bt kb hb
  clear hb
  go_wp2_with fail
  generalize W3.alloc (.cells #[.bool sg, .slice A1 L.length c1] 25) = W4 at kb P_o P_x o1 ⊢
  have ltr2 := rblk_lt P_o
  have b2 := kb.size
  have z2 := rblk_lt P_x
  refine (HN.out _).mono ?_
  rintro e W5 ⟨A2, c2, rfl, hc2, o2, hb⟩
  replace P_o := rblk_below P_o hb
  replace P_x := rblk_below P_x hb
  replace o1 := o1.below hb
  replace kb := bt kb hb
  have in2 := o2.inR (vi_length M); have z3 := hb.size
  clear hb
  have c_x0 : W5.cell? ⟨W3.heap.size, 0, none⟩ = some (.bool sg) := rblk_cell P_x 0
  have c_x1 : W5.cell? ⟨W3.heap.size, 1, none⟩ = some (.slice A1 L.length c1) := rblk_cell P_x 1
  have P_r := heap_alloc_new W5 (.cells #[.bool sg, .slice A1 L.length c1, .slice A2 M.length c2] 27)
  have hb := ba1 W5 (.cells #[.bool sg, .slice A1 L.length c1, .slice A2 M.length c2] 27)
  replace P_o := rblk_below P_o hb
  replace P_x := rblk_below P_x hb
  replace o1 := o1.below hb
  replace o2 := o2.below hb
  replace kb := bt kb hb
  clear hb
  go_wp2_with fail
  clear c_x0 c_x1
  generalize W5.alloc (.cells #[.bool sg, .slice A1 L.length c1, .slice A2 M.length c2] 27) = Wr at kb P_o P_x P_r o1 o2 ⊢
  refine (HK.out _ _ _ _ _ o1.rd o2.rd).mono ?_
  rintro e W6 ⟨rfl, hb⟩
  replace P_o := rblk_below P_o hb
  replace P_x := rblk_below P_x hb
  replace P_r := rblk_below P_r hb
  replace o1 := o1.below hb
  replace o2 := o2.below hb
  replace kb := bt kb hb
  clear hb
  go_wp2_with fail
  refine (HO.out _ _ _ o2.rd).mono ?_
  rintro e W7 ⟨rfl, hb⟩
  replace P_o := rblk_below P_o hb
  replace P_x := rblk_below P_x hb
  replace P_r := rblk_below P_r hb
  replace o1 := o1.below hb
  replace o2 := o2.below hb
  replace kb := bt kb hb
  clear hb
  have c_o0 : W7.cell? ⟨rr, 0, none⟩ = some (.bool false) := rblk_cell P_o 0
  have c_o1 : W7.cell? ⟨rr, 1, none⟩ = some (.slice none 0 0) := rblk_cell P_o 1
  have c_o2 : W7.cell? ⟨rr, 2, none⟩ = some (.slice none 0 0) := rblk_cell P_o 2
  have f_o0 := rblk_free P_o 0
  have f_o1 := rblk_free P_o 1
  have f_o2 := rblk_free P_o 2
  go_wp2
  exact bodyPost_ret (v := .tuple #[.agg #[.bool false, .slice none 0 0, .slice none 0 0], .bool false]) (by simp [results, Tryz.results22, go_sem, c_o0, c_o1, c_o2]) rfl ⟨none, 0, none, 0, rfl, Nat.le_refl _, Nat.le_refl _, .inl rfl, .inl rfl, (fun a h => by simp [rowOf] at h), below_put3 kb hrr3 _ _ _⟩

set_option maxHeartbeats 1000000 in
theorem impl_pr_s_y (s T U : ByteArray) (sg : Bool) (L M : List Int) (mx : Int) (w : World) (hm : w.cell? ⟨0, 0, none⟩ = some (.int .i64 mx)) (hL : L.length ≤ 1048576) (hM : M.length ≤ 1048576) (h1 : okR sg L M = true) (h2 : decide (M = [1]) = false)
    (HC0 : ∀ W, W.cell? ⟨0, 0, none⟩ = some (.int .i64 mx) → Calls Tryz.prog 21 #[.string s, .string ⟨#[47]⟩] W fun e w' => e = .returned (.tuple #[.string T, .string U, .bool true]) ∧ Below W.heap.size W w')
    (HP0 : ∀ W, Calls Tryz.prog 49 #[.string T] W (PairB W.heap.size sg L true W))
    (HN0 : ∀ W, Calls Tryz.prog 50 #[.string U] W (PairN W.heap.size M true W)) :
    Calls Tryz.prog 22 #[.string s] w (PairR w.heap.size sg L M true w) := by
  have HC := Lib.hid HC0
  have HP := Lib.hid HP0
  have HN := Lib.hid HN0
  clear HC0 HP0 HN0
  have HK := Lib.hid (fun A D c d W h h' => impl_rok sg L M A D L.length c M.length d W rfl rfl (by omega) (by omega) h h')
  rw [h1] at HK
  have HO := Lib.hid (fun A c W h => isOne_any M A M.length c W rfl (by omega) h)
  rw [h2] at HO
  clear h1 hL hM h2
  go_enter Tryz.func22, Tryz.ntmps22
  go_wp2_with fail
  have kb := ba1 w (.cells #[.bool false, .slice none 0 0, .slice none 0 0] 27)
  have P_o := heap_alloc_new w (.cells #[.bool false, .slice none 0 0, .slice none 0 0] 27)
  generalize w.alloc (.cells #[.bool false, .slice none 0 0, .slice none 0 0] 27) = W1 at kb P_o ⊢
  obtain ⟨rr, hrr⟩ : ∃ r, r = w.heap.size := ⟨_, rfl⟩
  rw [← hrr] at P_o ⊢
  have hrr3 : w.heap.size ≤ rr := by omega
  clear hrr
  refine (HC.out _ (cell_kept hm kb)).mono ?_
  rintro e W2 ⟨rfl, hb⟩
  replace P_o := rblk_below P_o hb
  replace kb := bt kb hb
  clear hb
  go_wp2_with fail
  have ltr1 := rblk_lt P_o
  have b1 := kb.size
  refine (HP.out _).mono ?_
  rintro e W3 ⟨A1, c1, rfl, hc1, o1, hb⟩
  replace P_o := rblk_below P_o hb
  replace kb := bt kb hb
  have in1 := o1.inR (vi_length L); have z1 := hb.size
  clear hb
  have P_x := heap_alloc_new W3 (.cells #[.bool sg, .slice A1 L.length c1] 25)
  have hb := ba1 W3 (.cells #[.bool sg, .slice A1 L.length c1] 25)
  replace P_o := rblk_below P_o hb
  replace o1 := o1.below hb
  replace kb := bt kb hb
  clear hb
  go_wp2_with fail
  generalize W3.alloc (.cells #[.bool sg, .slice A1 L.length c1] 25) = W4 at kb P_o P_x o1 ⊢
  have ltr2 := rblk_lt P_o
  have b2 := kb.size
  have z2 := rblk_lt P_x
  refine (HN.out _).mono ?_
  rintro e W5 ⟨A2, c2, rfl, hc2, o2, hb⟩
  replace P_o := rblk_below P_o hb
  replace P_x := rblk_below P_x hb
  replace o1 := o1.below hb
  replace kb := bt kb hb
  have in2 := o2.inR (vi_length M); have z3 := hb.size
  clear hb
  have c_x0 : W5.cell? ⟨W3.heap.size, 0, none⟩ = some (.bool sg) := rblk_cell P_x 0
  have c_x1 : W5.cell? ⟨W3.heap.size, 1, none⟩ = some (.slice A1 L.length c1) := rblk_cell P_x 1
  have P_r := heap_alloc_new W5 (.cells #[.bool sg, .slice A1 L.length c1, .slice A2 M.length c2] 27)
  have hb := ba1 W5 (.cells #[.bool sg, .slice A1 L.length c1, .slice A2 M.length c2] 27)
  replace P_o := rblk_below P_o hb
  replace P_x := rblk_below P_x hb
  replace o1 := o1.below hb
  replace o2 := o2.below hb
  replace kb := bt kb hb
  clear hb
  go_wp2_with fail
  clear c_x0 c_x1
  generalize W5.alloc (.cells #[.bool sg, .slice A1 L.length c1, .slice A2 M.length c2] 27) = Wr at kb P_o P_x P_r o1 o2 ⊢
  refine (HK.out _ _ _ _ _ o1.rd o2.rd).mono ?_
  rintro e W6 ⟨rfl, hb⟩
  replace P_o := rblk_below P_o hb
  replace P_x := rblk_below P_x hb
  replace P_r := rblk_below P_r hb
  replace o1 := o1.below hb
  replace o2 := o2.below hb
  replace kb := bt kb hb
  clear hb
  go_wp2_with fail
  refine (HO.out _ _ _ o2.rd).mono ?_
  rintro e W7 ⟨rfl, hb⟩
  replace P_o := rblk_below P_o hb
  replace P_x := rblk_below P_x hb
  replace P_r := rblk_below P_r hb
  replace o1 := o1.below hb
  replace o2 := o2.below hb
  replace kb := bt kb hb
  clear hb
  have c_r0 : W7.cell? ⟨W5.heap.size, 0, none⟩ = some (.bool sg) := rblk_cell P_r 0
  have c_r1 : W7.cell? ⟨W5.heap.size, 1, none⟩ = some (.slice A1 L.length c1) := rblk_cell P_r 1
  have c_r2 : W7.cell? ⟨W5.heap.size, 2, none⟩ = some (.slice A2 M.length c2) := rblk_cell P_r 2
  have c_o0 : W7.cell? ⟨rr, 0, none⟩ = some (.bool false) := rblk_cell P_o 0
  have c_o1 : W7.cell? ⟨rr, 1, none⟩ = some (.slice none 0 0) := rblk_cell P_o 1
  have c_o2 : W7.cell? ⟨rr, 2, none⟩ = some (.slice none 0 0) := rblk_cell P_o 2
  have f_o0 := rblk_free P_o 0
  have f_o1 := rblk_free P_o 1
  have f_o2 := rblk_free P_o 2
  go_wp2
  exact bodyPost_ret (v := .tuple #[.agg #[.bool sg, .slice A1 L.length c1, .slice A2 M.length c2], .bool true]) (by simp [results, Tryz.results22, go_sem, c_o0, c_o1, c_o2, c_r0, c_r1, c_r2]) rfl ⟨A1, c1, A2, c2, rfl, hc1, hc2, (own_put3 o1 ltr1 _ _ _).more b1, (own_put3 o2 ltr2 _ _ _).more b2, (fun a h1 h2 => by have u1 := in1 a h1; have u2 := in2 a h2; omega), below_put3 kb hrr3 _ _ _⟩

set_option maxHeartbeats 1000000 in
theorem impl_pr_w_n (s T U : ByteArray) (sg : Bool) (L M : List Int) (mx : Int) (w : World) (hm : w.cell? ⟨0, 0, none⟩ = some (.int .i64 mx)) (b : Bool)
    (HC0 : ∀ W, W.cell? ⟨0, 0, none⟩ = some (.int .i64 mx) → Calls Tryz.prog 21 #[.string s, .string ⟨#[47]⟩] W fun e w' => e = .returned (.tuple #[.string T, .string U, .bool false]) ∧ Below W.heap.size W w')
    (HP0 : ∀ W, Calls Tryz.prog 49 #[.string T] W (PairB W.heap.size sg L false W))
    (HN0 : ∀ W, Calls Tryz.prog 50 #[.string ⟨#[49]⟩] W (PairN W.heap.size M b W)) :
    Calls Tryz.prog 22 #[.string s] w (PairR w.heap.size false [] [] false w) := by
  have HC := Lib.hid HC0
  have HP := Lib.hid HP0
  have HN := Lib.hid HN0
  clear HC0 HP0 HN0
  go_enter Tryz.func22, Tryz.ntmps22
  go_wp2_with fail
  have kb := ba1 w (.cells #[.bool false, .slice none 0 0, .slice none 0 0] 27)
  have P_o := heap_alloc_new w (.cells #[.bool false, .slice none 0 0, .slice none 0 0] 27)
  generalize w.alloc (.cells #[.bool false, .slice none 0 0, .slice none 0 0] 27) = W1 at kb P_o ⊢
  obtain ⟨rr, hrr⟩ : ∃ r, r = w.heap.size := ⟨_, rfl⟩
  rw [← hrr] at P_o ⊢
  have hrr3 : w.heap.size ≤ rr := by omega
  clear hrr
  refine (HC.out _ (cell_kept hm kb)).mono ?_
  rintro e W2 ⟨rfl, hb⟩
  replace P_o := rblk_below P_o hb
  replace kb := bt kb hb
  clear hb
  go_wp2_with fail
  have ltr1 := rblk_lt P_o
  have b1 := kb.size
  refine (HP.out _).mono ?_
  rintro e W3 ⟨A1, c1, rfl, hc1, o1, hb⟩
  replace P_o := rblk_below P_o hb
  replace kb := bt kb hb
  have in1 := o1.inR (vi_length L); have z1 := hb.size
  clear hb
  have P_x := heap_alloc_new W3 (.cells #[.bool sg, .slice A1 L.length c1] 25)
  have hb := ba1 W3 (.cells #[.bool sg, .slice A1 L.length c1] 25)
  replace P_o := rblk_below P_o hb
  replace o1 := o1.below hb
  replace kb := bt kb hb
  clear hb
  go_wp2_with fail
  generalize W3.alloc (.cells #[.bool sg, .slice A1 L.length c1] 25) = W4 at kb P_o P_x o1 ⊢
  have ltr2 := rblk_lt P_o
  have b2 := kb.size
  have z2 := rblk_lt P_x
  refine (HN.out _).mono ?_
  rintro e W5 ⟨A2, c2, rfl, hc2, o2, hb⟩
  replace P_o := rblk_below P_o hb
  replace P_x := rblk_below P_x hb
  replace o1 := o1.below hb
  replace kb := bt kb hb
  have in2 := o2.inR (vi_length M); have z3 := hb.size
  clear hb
  have c_x0 : W5.cell? ⟨W3.heap.size, 0, none⟩ = some (.bool sg) := rblk_cell P_x 0
  have c_x1 : W5.cell? ⟨W3.heap.size, 1, none⟩ = some (.slice A1 L.length c1) := rblk_cell P_x 1
  have P_r := heap_alloc_new W5 (.cells #[.bool sg, .slice A1 L.length c1, .slice A2 M.length c2] 27)
  have hb := ba1 W5 (.cells #[.bool sg, .slice A1 L.length c1, .slice A2 M.length c2] 27)
  replace P_o := rblk_below P_o hb
  replace P_x := rblk_below P_x hb
  replace o1 := o1.below hb
  replace o2 := o2.below hb
  replace kb := bt kb hb
  clear hb
  have c_o0 : (W5.alloc (.cells #[.bool sg, .slice A1 L.length c1, .slice A2 M.length c2] 27)).cell? ⟨rr, 0, none⟩ = some (.bool false) := rblk_cell P_o 0
  have c_o1 : (W5.alloc (.cells #[.bool sg, .slice A1 L.length c1, .slice A2 M.length c2] 27)).cell? ⟨rr, 1, none⟩ = some (.slice none 0 0) := rblk_cell P_o 1
  have c_o2 : (W5.alloc (.cells #[.bool sg, .slice A1 L.length c1, .slice A2 M.length c2] 27)).cell? ⟨rr, 2, none⟩ = some (.slice none 0 0) := rblk_cell P_o 2
  have f_o0 := rblk_free P_o 0
  have f_o1 := rblk_free P_o 1
  have f_o2 := rblk_free P_o 2
  go_wp2
  exact bodyPost_ret (v := .tuple #[.agg #[.bool false, .slice none 0 0, .slice none 0 0], .bool false]) (by simp [results, Tryz.results22, go_sem, c_o0, c_o1, c_o2]) rfl ⟨none, 0, none, 0, rfl, Nat.le_refl _, Nat.le_refl _, .inl rfl, .inl rfl, (fun a h => by simp [rowOf] at h), below_put3 kb hrr3 _ _ _⟩

set_option maxHeartbeats 1000000 in
theorem impl_pr_w_d (s T U : ByteArray) (sg : Bool) (L M : List Int) (mx : Int) (w : World) (hm : w.cell? ⟨0, 0, none⟩ = some (.int .i64 mx))
    (HC0 : ∀ W, W.cell? ⟨0, 0, none⟩ = some (.int .i64 mx) → Calls Tryz.prog 21 #[.string s, .string ⟨#[47]⟩] W fun e w' => e = .returned (.tuple #[.string T, .string U, .bool false]) ∧ Below W.heap.size W w')
    (HP0 : ∀ W, Calls Tryz.prog 49 #[.string T] W (PairB W.heap.size sg L true W))
    (HN0 : ∀ W, Calls Tryz.prog 50 #[.string ⟨#[49]⟩] W (PairN W.heap.size M false W)) :
    Calls Tryz.prog 22 #[.string s] w (PairR w.heap.size false [] [] false w) := by
  have HC := Lib.hid HC0
  have HP := Lib.hid HP0
  have HN := Lib.hid HN0
  clear HC0 HP0 HN0
  go_enter Tryz.func22, Tryz.ntmps22
  go_wp2_with fail
  have kb := ba1 w (.cells #[.bool false, .slice none 0 0, .slice none 0 0] 27)
  have P_o := heap_alloc_new w (.cells #[.bool false, .slice none 0 0, .slice none 0 0] 27)
  generalize w.alloc (.cells #[.bool false, .slice none 0 0, .slice none 0 0] 27) = W1 at kb P_o ⊢
  obtain ⟨rr, hrr⟩ : ∃ r, r = w.heap.size := ⟨_, rfl⟩
  rw [← hrr] at P_o ⊢
  have hrr3 : w.heap.size ≤ rr := by omega
  clear hrr
  refine (HC.out _ (cell_kept hm kb)).mono ?_
  rintro e W2 ⟨rfl, hb⟩
  replace P_o := rblk_below P_o hb
  replace kb := bt kb hb
  clear hb
  go_wp2_with fail
  have ltr1 := rblk_lt P_o
  have b1 := kb.size
  refine (HP.out _).mono ?_
  rintro e W3 ⟨A1, c1, rfl, hc1, o1, hb⟩
  replace P_o := rblk_below P_o hb
  replace kb := bt kb hb
  have in1 := o1.inR (vi_length L); have z1 := hb.size
  clear hb
  have P_x := heap_alloc_new W3 (.cells #[.bool sg, .slice A1 L.length c1] 25)
  have hb := ba1 W3 (.cells #[.bool sg, .slice A1 L.length c1] 25)
  replace P_o := rblk_below P_o hb
  replace o1 := o1.below hb
  replace kb := bt kb hb
  clear hb
  go_wp2_with fail
  generalize W3.alloc (.cells #[.bool sg, .slice A1 L.length c1] 25) = W4 at kb P_o P_x o1 ⊢
  have ltr2 := rblk_lt P_o
  have b2 := kb.size
  have z2 := rblk_lt P_x
  refine (HN.out _).mono ?_
  rintro e W5 ⟨A2, c2, rfl, hc2, o2, hb⟩
  replace P_o := rblk_below P_o hb
  replace P_x := rblk_below P_x hb
  replace o1 := o1.below hb
  replace kb := bt kb hb
  have in2 := o2.inR (vi_length M); have z3 := hb.size
  clear hb
  have c_x0 : W5.cell? ⟨W3.heap.size, 0, none⟩ = some (.bool sg) := rblk_cell P_x 0
  have c_x1 : W5.cell? ⟨W3.heap.size, 1, none⟩ = some (.slice A1 L.length c1) := rblk_cell P_x 1
  have P_r := heap_alloc_new W5 (.cells #[.bool sg, .slice A1 L.length c1, .slice A2 M.length c2] 27)
  have hb := ba1 W5 (.cells #[.bool sg, .slice A1 L.length c1, .slice A2 M.length c2] 27)
  replace P_o := rblk_below P_o hb
  replace P_x := rblk_below P_x hb
  replace o1 := o1.below hb
  replace o2 := o2.below hb
  replace kb := bt kb hb
  clear hb
  have c_o0 : (W5.alloc (.cells #[.bool sg, .slice A1 L.length c1, .slice A2 M.length c2] 27)).cell? ⟨rr, 0, none⟩ = some (.bool false) := rblk_cell P_o 0
  have c_o1 : (W5.alloc (.cells #[.bool sg, .slice A1 L.length c1, .slice A2 M.length c2] 27)).cell? ⟨rr, 1, none⟩ = some (.slice none 0 0) := rblk_cell P_o 1
  have c_o2 : (W5.alloc (.cells #[.bool sg, .slice A1 L.length c1, .slice A2 M.length c2] 27)).cell? ⟨rr, 2, none⟩ = some (.slice none 0 0) := rblk_cell P_o 2
  have f_o0 := rblk_free P_o 0
  have f_o1 := rblk_free P_o 1
  have f_o2 := rblk_free P_o 2
  go_wp2
  exact bodyPost_ret (v := .tuple #[.agg #[.bool false, .slice none 0 0, .slice none 0 0], .bool false]) (by simp [results, Tryz.results22, go_sem, c_o0, c_o1, c_o2]) rfl ⟨none, 0, none, 0, rfl, Nat.le_refl _, Nat.le_refl _, .inl rfl, .inl rfl, (fun a h => by simp [rowOf] at h), below_put3 kb hrr3 _ _ _⟩

set_option maxHeartbeats 1000000 in
theorem impl_pr_w_r (s T U : ByteArray) (sg : Bool) (L M : List Int) (mx : Int) (w : World) (hm : w.cell? ⟨0, 0, none⟩ = some (.int .i64 mx)) (hL : L.length ≤ 1048576) (hM : M.length ≤ 1048576) (h1 : okR sg L M = false)
    (HC0 : ∀ W, W.cell? ⟨0, 0, none⟩ = some (.int .i64 mx) → Calls Tryz.prog 21 #[.string s, .string ⟨#[47]⟩] W fun e w' => e = .returned (.tuple #[.string T, .string U, .bool false]) ∧ Below W.heap.size W w')
    (HP0 : ∀ W, Calls Tryz.prog 49 #[.string T] W (PairB W.heap.size sg L true W))
    (HN0 : ∀ W, Calls Tryz.prog 50 #[.string ⟨#[49]⟩] W (PairN W.heap.size M true W)) :
    Calls Tryz.prog 22 #[.string s] w (PairR w.heap.size false [] [] false w) := by
  have HC := Lib.hid HC0
  have HP := Lib.hid HP0
  have HN := Lib.hid HN0
  clear HC0 HP0 HN0
  have HK := Lib.hid (fun A D c d W h h' => impl_rok sg L M A D L.length c M.length d W rfl rfl (by omega) (by omega) h h')
  rw [h1] at HK
  clear h1 hL hM
  go_enter Tryz.func22, Tryz.ntmps22
  go_wp2_with fail
  have kb := ba1 w (.cells #[.bool false, .slice none 0 0, .slice none 0 0] 27)
  have P_o := heap_alloc_new w (.cells #[.bool false, .slice none 0 0, .slice none 0 0] 27)
  generalize w.alloc (.cells #[.bool false, .slice none 0 0, .slice none 0 0] 27) = W1 at kb P_o ⊢
  obtain ⟨rr, hrr⟩ : ∃ r, r = w.heap.size := ⟨_, rfl⟩
  rw [← hrr] at P_o ⊢
  have hrr3 : w.heap.size ≤ rr := by omega
  clear hrr
  refine (HC.out _ (cell_kept hm kb)).mono ?_
  rintro e W2 ⟨rfl, hb⟩
  replace P_o := rblk_below P_o hb
  replace kb := bt kb hb
  clear hb
  go_wp2_with fail
  have ltr1 := rblk_lt P_o
  have b1 := kb.size
  refine (HP.out _).mono ?_
  rintro e W3 ⟨A1, c1, rfl, hc1, o1, hb⟩
  replace P_o := rblk_below P_o hb
  replace kb := bt kb hb
  have in1 := o1.inR (vi_length L); have z1 := hb.size
  clear hb
  have P_x := heap_alloc_new W3 (.cells #[.bool sg, .slice A1 L.length c1] 25)
  have hb := ba1 W3 (.cells #[.bool sg, .slice A1 L.length c1] 25)
  replace P_o := rblk_below P_o hb
  replace o1 := o1.below hb
  replace kb := bt kb hb
  clear hb
  go_wp2_with fail
  generalize W3.alloc (.cells #[.bool sg, .slice A1 L.length c1] 25) = W4 at kb P_o P_x o1 ⊢
  have ltr2 := rblk_lt P_o
  have b2 := kb.size
  have z2 := rblk_lt P_x
  refine (HN.out _).mono ?_
  rintro e W5 ⟨A2, c2, rfl, hc2, o2, hb⟩
  replace P_o := rblk_below P_o hb
  replace P_x := rblk_below P_x hb
  replace o1 := o1.below hb
  replace kb := bt kb hb
  have in2 := o2.inR (vi_length M); have z3 := hb.size
  clear hb
  have c_x0 : W5.cell? ⟨W3.heap.size, 0, none⟩ = some (.bool sg) := rblk_cell P_x 0
  have c_x1 : W5.cell? ⟨W3.heap.size, 1, none⟩ = some (.slice A1 L.length c1) := rblk_cell P_x 1
  have P_r := heap_alloc_new W5 (.cells #[.bool sg, .slice A1 L.length c1, .slice A2 M.length c2] 27)
  have hb := ba1 W5 (.cells #[.bool sg, .slice A1 L.length c1, .slice A2 M.length c2] 27)
  replace P_o := rblk_below P_o hb
  replace P_x := rblk_below P_x hb
  replace o1 := o1.below hb
  replace o2 := o2.below hb
  replace kb := bt kb hb
  clear hb
  go_wp2_with fail
  clear c_x0 c_x1
  generalize W5.alloc (.cells #[.bool sg, .slice A1 L.length c1, .slice A2 M.length c2] 27) = Wr at kb P_o P_x P_r o1 o2 ⊢
  refine (HK.out _ _ _ _ _ o1.rd o2.rd).mono ?_
  rintro e W6 ⟨rfl, hb⟩
  replace P_o := rblk_below P_o hb
  replace P_x := rblk_below P_x hb
  replace P_r := rblk_below P_r hb
  replace o1 := o1.below hb
  replace o2 := o2.below hb
  replace kb := bt kb hb
  clear hb
  have c_o0 : W6.cell? ⟨rr, 0, none⟩ = some (.bool false) := rblk_cell P_o 0
  have c_o1 : W6.cell? ⟨rr, 1, none⟩ = some (.slice none 0 0) := rblk_cell P_o 1
  have c_o2 : W6.cell? ⟨rr, 2, none⟩ = some (.slice none 0 0) := rblk_cell P_o 2
  have f_o0 := rblk_free P_o 0
  have f_o1 := rblk_free P_o 1
  have f_o2 := rblk_free P_o 2
  go_wp2
  exact bodyPost_ret (v := .tuple #[.agg #[.bool false, .slice none 0 0, .slice none 0 0], .bool false]) (by simp [results, Tryz.results22, go_sem, c_o0, c_o1, c_o2]) rfl ⟨none, 0, none, 0, rfl, Nat.le_refl _, Nat.le_refl _, .inl rfl, .inl rfl, (fun a h => by simp [rowOf] at h), below_put3 kb hrr3 _ _ _⟩

set_option maxHeartbeats 1000000 in
theorem impl_pr_w_y (s T U : ByteArray) (sg : Bool) (L M : List Int) (mx : Int) (w : World) (hm : w.cell? ⟨0, 0, none⟩ = some (.int .i64 mx)) (hL : L.length ≤ 1048576) (hM : M.length ≤ 1048576) (h1 : okR sg L M = true)
    (HC0 : ∀ W, W.cell? ⟨0, 0, none⟩ = some (.int .i64 mx) → Calls Tryz.prog 21 #[.string s, .string ⟨#[47]⟩] W fun e w' => e = .returned (.tuple #[.string T, .string U, .bool false]) ∧ Below W.heap.size W w')
    (HP0 : ∀ W, Calls Tryz.prog 49 #[.string T] W (PairB W.heap.size sg L true W))
    (HN0 : ∀ W, Calls Tryz.prog 50 #[.string ⟨#[49]⟩] W (PairN W.heap.size M true W)) :
    Calls Tryz.prog 22 #[.string s] w (PairR w.heap.size sg L M true w) := by
  have HC := Lib.hid HC0
  have HP := Lib.hid HP0
  have HN := Lib.hid HN0
  clear HC0 HP0 HN0
  have HK := Lib.hid (fun A D c d W h h' => impl_rok sg L M A D L.length c M.length d W rfl rfl (by omega) (by omega) h h')
  rw [h1] at HK
  clear h1 hL hM
  go_enter Tryz.func22, Tryz.ntmps22
  go_wp2_with fail
  have kb := ba1 w (.cells #[.bool false, .slice none 0 0, .slice none 0 0] 27)
  have P_o := heap_alloc_new w (.cells #[.bool false, .slice none 0 0, .slice none 0 0] 27)
  generalize w.alloc (.cells #[.bool false, .slice none 0 0, .slice none 0 0] 27) = W1 at kb P_o ⊢
  obtain ⟨rr, hrr⟩ : ∃ r, r = w.heap.size := ⟨_, rfl⟩
  rw [← hrr] at P_o ⊢
  have hrr3 : w.heap.size ≤ rr := by omega
  clear hrr
  refine (HC.out _ (cell_kept hm kb)).mono ?_
  rintro e W2 ⟨rfl, hb⟩
  replace P_o := rblk_below P_o hb
  replace kb := bt kb hb
  clear hb
  go_wp2_with fail
  have ltr1 := rblk_lt P_o
  have b1 := kb.size
  refine (HP.out _).mono ?_
  rintro e W3 ⟨A1, c1, rfl, hc1, o1, hb⟩
  replace P_o := rblk_below P_o hb
  replace kb := bt kb hb
  have in1 := o1.inR (vi_length L); have z1 := hb.size
  clear hb
  have P_x := heap_alloc_new W3 (.cells #[.bool sg, .slice A1 L.length c1] 25)
  have hb := ba1 W3 (.cells #[.bool sg, .slice A1 L.length c1] 25)
  replace P_o := rblk_below P_o hb
  replace o1 := o1.below hb
  replace kb := bt kb hb
  clear hb
  go_wp2_with fail
  generalize W3.alloc (.cells #[.bool sg, .slice A1 L.length c1] 25) = W4 at kb P_o P_x o1 ⊢
  have ltr2 := rblk_lt P_o
  have b2 := kb.size
  have z2 := rblk_lt P_x
  refine (HN.out _).mono ?_
  rintro e W5 ⟨A2, c2, rfl, hc2, o2, hb⟩
  replace P_o := rblk_below P_o hb
  replace P_x := rblk_below P_x hb
  replace o1 := o1.below hb
  replace kb := bt kb hb
  have in2 := o2.inR (vi_length M); have z3 := hb.size
  clear hb
  have c_x0 : W5.cell? ⟨W3.heap.size, 0, none⟩ = some (.bool sg) := rblk_cell P_x 0
  have c_x1 : W5.cell? ⟨W3.heap.size, 1, none⟩ = some (.slice A1 L.length c1) := rblk_cell P_x 1
  have P_r := heap_alloc_new W5 (.cells #[.bool sg, .slice A1 L.length c1, .slice A2 M.length c2] 27)
  have hb := ba1 W5 (.cells #[.bool sg, .slice A1 L.length c1, .slice A2 M.length c2] 27)
  replace P_o := rblk_below P_o hb
  replace P_x := rblk_below P_x hb
  replace o1 := o1.below hb
  replace o2 := o2.below hb
  replace kb := bt kb hb
  clear hb
  go_wp2_with fail
  clear c_x0 c_x1
  generalize W5.alloc (.cells #[.bool sg, .slice A1 L.length c1, .slice A2 M.length c2] 27) = Wr at kb P_o P_x P_r o1 o2 ⊢
  refine (HK.out _ _ _ _ _ o1.rd o2.rd).mono ?_
  rintro e W6 ⟨rfl, hb⟩
  replace P_o := rblk_below P_o hb
  replace P_x := rblk_below P_x hb
  replace P_r := rblk_below P_r hb
  replace o1 := o1.below hb
  replace o2 := o2.below hb
  replace kb := bt kb hb
  clear hb
  have c_r0 : W6.cell? ⟨W5.heap.size, 0, none⟩ = some (.bool sg) := rblk_cell P_r 0
  have c_r1 : W6.cell? ⟨W5.heap.size, 1, none⟩ = some (.slice A1 L.length c1) := rblk_cell P_r 1
  have c_r2 : W6.cell? ⟨W5.heap.size, 2, none⟩ = some (.slice A2 M.length c2) := rblk_cell P_r 2
  have c_o0 : W6.cell? ⟨rr, 0, none⟩ = some (.bool false) := rblk_cell P_o 0
  have c_o1 : W6.cell? ⟨rr, 1, none⟩ = some (.slice none 0 0) := rblk_cell P_o 1
  have c_o2 : W6.cell? ⟨rr, 2, none⟩ = some (.slice none 0 0) := rblk_cell P_o 2
  have f_o0 := rblk_free P_o 0
  have f_o1 := rblk_free P_o 1
  have f_o2 := rblk_free P_o 2
  go_wp2
  exact bodyPost_ret (v := .tuple #[.agg #[.bool sg, .slice A1 L.length c1, .slice A2 M.length c2], .bool true]) (by simp [results, Tryz.results22, go_sem, c_o0, c_o1, c_o2, c_r0, c_r1, c_r2]) rfl ⟨A1, c1, A2, c2, rfl, hc1, hc2, (own_put3 o1 ltr1 _ _ _).more b1, (own_put3 o2 ltr2 _ _ _).more b2, (fun a h1 h2 => by have u1 := in1 a h1; have u2 := in2 a h2; omega), below_put3 kb hrr3 _ _ _⟩
end Go.Proofs.YtdgfbnnohnaoaaaGreatDoor

