/-
  'ParsePoint', of the model and of the program.
-/
import Derived.Test.YtdgfbnnohnaoaaaGreatDoorPRatW
import Derived.Test.YtdgfbnnohnaoaaaGreatDoorPtE
namespace Go.Proofs.YtdgfbnnohnaoaaaGreatDoor
open Go.ChangeShapes Go.WideShapes Go.ChangeAt Go.RowKit
open Go.ChangeMaps (open_string shut_string)
set_option linter.unusedVariables false
set_option linter.unusedSimpArgs false
set_option maxRecDepth 4000

attribute [local go_sem ↓] Go.wp_at_zero Go.wp_at_succ

/-- No comma. -/
def NoSC (l : List UInt8) : Prop := ∀ c ∈ l, c ≠ 44
theorem cut_casesC (l : List UInt8) : (NoSC l ∧ Lib.cut l [44] = (l, [], false)) ∨ ∃ a b, NoSC a ∧ l = a ++ 44 :: b ∧ Lib.cut l [44] = (a, b, true) := by
  rcases Lib.index_spec l [44] with ⟨h, _⟩ | ⟨i, h, _, _, _⟩
  · left
    refine ⟨?_, by unfold Lib.cut; rw [h]; rfl⟩
    rw [Lib.index_one] at h
    intro c hc e
    subst e
    obtain ⟨k, hk, he⟩ := List.getElem_of_mem hc
    exact Lib.indexByte_none h k (by rw [List.getElem?_eq_getElem hk, he])
  · right
    have h' := h
    rw [Lib.index_one] at h'
    obtain ⟨h1, h2⟩ := Lib.indexByte_some h'
    have hlt : i < l.length := by
      rcases Nat.lt_or_ge i l.length with g | g
      · exact g
      · rw [List.getElem?_eq_none g] at h1; cases h1
    have hi : l[i] = 44 := by rw [List.getElem?_eq_getElem hlt] at h1; injection h1
    refine ⟨l.take i, l.drop (i + 1), ?_, ?_, ?_⟩
    · intro c hc e
      subst e
      obtain ⟨k, hk, he⟩ := List.getElem_of_mem hc
      rw [List.length_take] at hk
      refine h2 k (by omega) ?_
      rw [List.getElem_take] at he
      rw [List.getElem?_eq_getElem (by omega), he]
    · rw [← hi, List.getElem_cons_drop, List.take_append_drop]
    · unfold Lib.cut
      rw [h, if_pos (by omega)]
      simp
theorem comma_unique : ∀ {a a' b b' : List UInt8}, NoSC a → NoSC a' → a ++ 44 :: b = a' ++ 44 :: b' → a = a' ∧ b = b'
  | [], [], _, _, _, _, h => by injection h with _ h; exact ⟨rfl, h⟩
  | [], c :: r, _, _, _, h', h => by injection h with h1 _; exact absurd h1.symm (h' c (by simp))
  | c :: r, [], _, _, h', _, h => by injection h with h1 _; exact absurd h1 (h' c (by simp))
  | c :: r, c' :: r', b, b', h1, h2, h => by
    injection h with e1 e2
    obtain ⟨p, q⟩ := comma_unique (fun x hx => h1 x (by simp [hx])) (fun x hx => h2 x (by simp [hx])) e2
    exact ⟨by rw [e1, p], q⟩
/-- A fraction, a point, and a bool. -/
def PairQ (B : Nat) (x : R3) (b : Bool) (w : World) (e : Ending) (w' : World) : Prop :=
  ∃ a : Ad, e = .returned (.tuple #[.agg #[.bool x.p, .slice a.A x.l.length a.c, .slice a.D x.m.length a.d], .bool b]) ∧ x.l.length ≤ a.c ∧ x.m.length ≤ a.d ∧ Owns B w'.heap.size w' (rows x a) ∧ Aparts (rows x a) ∧ Below w.heap.size w w'
def PairP (B : Nat) (x y : R3) (q : Bool) (w : World) (e : Ending) (w' : World) : Prop :=
  ∃ a b : Ad, e = .returned (.tuple #[.agg #[.bool x.p, .slice a.A x.l.length a.c, .slice a.D x.m.length a.d, .bool y.p, .slice b.A y.l.length b.c, .slice b.D y.m.length b.d], .bool q]) ∧ (x.l.length ≤ a.c ∧ x.m.length ≤ a.d ∧ y.l.length ≤ b.c ∧ y.m.length ≤ b.d) ∧ Owns B w'.heap.size w' (rows x a ++ rows y b) ∧ Aparts (rows x a ++ rows y b) ∧ Below w.heap.size w w'
theorem PairR.toQ {B : Nat} {x : R3} {b : Bool} {w w' : World} {e : Ending} (h : PairR B x.p x.l x.m b w e w') : PairQ B x b w e w' := by
  obtain ⟨A, c, D, d, h1, h2, h3, h4, h5, h6, h7⟩ := h
  exact ⟨⟨A, c, D, d⟩, h1, h2, h3, owns2 h4 h5 (Nat.le_refl _), Aparts.two (by simpa [vi_length] using h6), h7⟩
theorem none_pair (B : Nat) (w w' : World) (h : Below w.heap.size w w') : PairP B noR noR false w (.returned (.tuple #[.agg #[.bool false, .slice none 0 0, .slice none 0 0, .bool false, .slice none 0 0, .slice none 0 0], .bool false])) w' :=
  ⟨⟨none, 0, none, 0⟩, ⟨none, 0, none, 0⟩, rfl, ⟨Nat.le_refl _, Nat.le_refl _, Nat.le_refl _, Nat.le_refl _⟩, noRows _ _ _ _ _, noApart _ _, h⟩
/-- The fraction that a text reads as. -/
def prR (s : ByteArray) : R3 := ⟨prP s, prL s, prM s⟩
def ctTC (s : ByteArray) : ByteArray := ⟨(Lib.cut s.data.toList [44]).1.toArray⟩
def ctUC (s : ByteArray) : ByteArray := ⟨(Lib.cut s.data.toList [44]).2.1.toArray⟩
def ctQC (s : ByteArray) : Bool := (Lib.cut s.data.toList [44]).2.2
theorem cutC_any (s : ByteArray) (m : Int) (w : World) (hs : s.size ≤ 1048576) (hm : w.cell? ⟨0, 0, none⟩ = some (.int .i64 m)) :
    Calls Tryz.prog 21 #[.string s, .string ⟨#[44]⟩] w fun e w' => e = .returned (.tuple #[.string (ctTC s), .string (ctUC s), .bool (ctQC s)]) ∧ Below w.heap.size w w' := by
  refine (Tryz.strings_Cut s ⟨#[44]⟩ m w (by omega) hm).mono ?_
  rintro e w' ⟨rfl, n, rfl⟩
  exact ⟨rfl, below_drewN (Below.refl _ _) n⟩
theorem cutC_size (s : ByteArray) : (ctTC s).size ≤ s.size ∧ (ctUC s).size ≤ s.size := by
  have h0 : s.data.toList.length = s.size := size_list s
  have h1 : (ctTC s).size = (Lib.cut s.data.toList [44]).1.length := rfl
  have h2 : (ctUC s).size = (Lib.cut s.data.toList [44]).2.1.length := rfl
  rw [h1, h2, ← h0]
  rcases cut_casesC s.data.toList with ⟨_, e⟩ | ⟨a, b, _, e, e'⟩
  · rw [e]; exact ⟨Nat.le_refl _, Nat.zero_le _⟩
  · rw [e', e]; simp only [List.length_append, List.length_cons]; omega
theorem dig_noC {c : UInt8} (h : Num.IsDig c) : c ≠ 44 := by
  rintro rfl
  have h1 : 48 ≤ (44 : UInt8).toNat ∧ (44 : UInt8).toNat ≤ 57 := h
  exact absurd h1.1 (by decide)
theorem fmtL_comma (l : List Int) : NoSC (fmtL l) := by
  unfold fmtL
  split
  · rename_i h
    obtain ⟨v, rfl, hv⟩ := ok_nd h
    rw [val_nd, fmtN_dec hv]
    exact fun c hc => dig_noC (Num.dec_digs _ c hc)
  · intro c hc; cases hc
theorem fmtB_comma (p : Bool) (l : List Int) : NoSC (fmtB p l) := by
  unfold fmtB
  split
  · split
    · intro c hc
      rcases List.mem_cons.1 hc with e | e
      · rw [e]; decide
      · exact fmtL_comma l c e
    · exact fmtL_comma l
  · intro c hc; cases hc
theorem okS_noC {T : ByteArray} (h : okS T = true) : NoSC T.data.toList := by
  unfold okS at h
  simp only [Bool.and_eq_true, Bool.or_eq_true, decide_eq_true_eq] at h
  obtain ⟨hdg, hpos⟩ := digs_isdig h.1.1
  exact fun c hc => dig_noC (hdg c hc)
/-- A text that reads as a fraction holds no comma and is not empty. -/
theorem prOk_text {t : ByteArray} (h : prOk t = true) : NoSC t.data.toList ∧ t.data.toList ≠ [] := by
  unfold prOk at h
  simp only [Bool.and_eq_true] at h
  obtain ⟨⟨⟨h1, h2⟩, _⟩, _⟩ := h
  have hT : NoSC (ctT t).data.toList := by rw [← canon_big h1]; exact fmtB_comma _ _
  have hne := pb_ne h1
  rcases cut_cases t.data.toList with ⟨_, hc⟩ | ⟨a, b, _, hl, hc⟩
  · have e : ctT t = t := byte_eq (by unfold ctT; rw [hc, mk_list])
    rw [e] at hT hne
    exact ⟨hT, hne⟩
  · have e : (ctT t).data.toList = a := by unfold ctT; rw [hc, mk_list]
    have hB : prB t = ⟨b.toArray⟩ := by unfold prB ctQ ctU; rw [hc]; rfl
    have hb := okS_noC h2
    rw [hB, mk_list] at hb
    rw [e] at hT
    refine ⟨fun c hcm => ?_, by rw [hl]; simp⟩
    rw [hl] at hcm
    rcases List.mem_append.1 hcm with g | g
    · exact hT c g
    · rcases List.mem_cons.1 g with g | g
      · rw [g]; decide
      · exact hb c g
def ppOk (s : ByteArray) : Bool := prOk (ctTC s) && prOk (ctUC s)
def ppX (s : ByteArray) : R3 := if ppOk s then prR (ctTC s) else noR
def ppY (s : ByteArray) : R3 := if ppOk s then prR (ctUC s) else noR
set_option maxHeartbeats 1000000 in
theorem impl_pp_n (s T U : ByteArray) (X Y : R3) (w : World) (q : Bool) (mx : Int) (b : Bool)
    (HC0 : ∀ W, W.cell? ⟨0, 0, none⟩ = some (.int .i64 mx) → Calls Tryz.prog 21 #[.string s, .string ⟨#[44]⟩] W fun e w' => e = .returned (.tuple #[.string T, .string U, .bool q]) ∧ Below W.heap.size W w') (hm : w.cell? ⟨0, 0, none⟩ = some (.int .i64 mx))
    (HX0 : ∀ W, W.cell? ⟨0, 0, none⟩ = some (.int .i64 mx) → Calls Tryz.prog 22 #[.string T] W (PairQ W.heap.size X false W))
    (HY0 : ∀ W, W.cell? ⟨0, 0, none⟩ = some (.int .i64 mx) → Calls Tryz.prog 22 #[.string U] W (PairQ W.heap.size Y b W)) :
    Calls Tryz.prog 5 #[.string s] w (PairP w.heap.size noR noR false w) := by
  have HC := Lib.hid HC0
  have HX := Lib.hid HX0
  have HY := Lib.hid HY0
  clear HC0 HX0 HY0
  go_enter Tryz.func5, Tryz.ntmps5
  go_wp2_with fail
  have kb := ba1 w (.cells #[.bool false, .slice none 0 0, .slice none 0 0, .bool false, .slice none 0 0, .slice none 0 0] 29)
  have P_o := heap_alloc_new w (.cells #[.bool false, .slice none 0 0, .slice none 0 0, .bool false, .slice none 0 0, .slice none 0 0] 29)
  generalize w.alloc (.cells #[.bool false, .slice none 0 0, .slice none 0 0, .bool false, .slice none 0 0, .slice none 0 0] 29) = W1 at kb P_o ⊢
  obtain ⟨rr, hrr⟩ : ∃ r, r = w.heap.size := ⟨_, rfl⟩
  rw [← hrr] at P_o ⊢
  have hrr3 : w.heap.size ≤ rr := by omega
  clear hrr
  refine (HC.out _ (cell_kept hm kb)).mono ?_
  rintro e W2 ⟨rfl, hb⟩
  replace P_o := rblk_below P_o hb
  replace kb := bt kb hb
  clear hb
  go_wp2_with fail
  have ltr1 := rblk_lt P_o
  have b1 := kb.size
  refine (HX.out _ (cell_kept hm kb)).mono ?_
  rintro e W3 ⟨a1, rfl, hc1, hc2, o1, hap1, hb⟩
  replace P_o := rblk_below P_o hb
  replace kb := bt kb hb
  have z1 := hb.size
  clear hb
  have P_x := heap_alloc_new W3 (.cells #[.bool X.p, .slice a1.A X.l.length a1.c, .slice a1.D X.m.length a1.d] 27)
  have hb := ba1 W3 (.cells #[.bool X.p, .slice a1.A X.l.length a1.c, .slice a1.D X.m.length a1.d] 27)
  replace P_o := rblk_below P_o hb
  replace o1 := o1.below hb
  replace kb := bt kb hb
  have z2 := hb.size
  clear hb
  go_wp2_with fail
  generalize W3.alloc (.cells #[.bool X.p, .slice a1.A X.l.length a1.c, .slice a1.D X.m.length a1.d] 27) = W4 at kb z2  P_o P_x o1 ⊢
  refine (HY.out _ (cell_kept hm kb)).mono ?_
  rintro e W4 ⟨a2, rfl, hc3, hc4, o2, hap2, hb⟩
  replace P_o := rblk_below P_o hb
  replace P_x := rblk_below P_x hb
  replace o1 := o1.below hb
  replace kb := bt kb hb
  have z3 := hb.size
  clear hb
  have P_y := heap_alloc_new W4 (.cells #[.bool Y.p, .slice a2.A Y.l.length a2.c, .slice a2.D Y.m.length a2.d] 27)
  have hb := ba1 W4 (.cells #[.bool Y.p, .slice a2.A Y.l.length a2.c, .slice a2.D Y.m.length a2.d] 27)
  replace P_o := rblk_below P_o hb
  replace P_x := rblk_below P_x hb
  replace o1 := o1.below hb
  replace o2 := o2.below hb
  replace kb := bt kb hb
  have z4 := hb.size
  clear hb
  have c_o0 : (W4.alloc (.cells #[.bool Y.p, .slice a2.A Y.l.length a2.c, .slice a2.D Y.m.length a2.d] 27)).cell? ⟨rr, 0, none⟩ = some (.bool false) := rblk_cell P_o 0
  have c_o1 : (W4.alloc (.cells #[.bool Y.p, .slice a2.A Y.l.length a2.c, .slice a2.D Y.m.length a2.d] 27)).cell? ⟨rr, 1, none⟩ = some (.slice none 0 0) := rblk_cell P_o 1
  have c_o2 : (W4.alloc (.cells #[.bool Y.p, .slice a2.A Y.l.length a2.c, .slice a2.D Y.m.length a2.d] 27)).cell? ⟨rr, 2, none⟩ = some (.slice none 0 0) := rblk_cell P_o 2
  have c_o3 : (W4.alloc (.cells #[.bool Y.p, .slice a2.A Y.l.length a2.c, .slice a2.D Y.m.length a2.d] 27)).cell? ⟨rr, 3, none⟩ = some (.bool false) := rblk_cell P_o 3
  have c_o4 : (W4.alloc (.cells #[.bool Y.p, .slice a2.A Y.l.length a2.c, .slice a2.D Y.m.length a2.d] 27)).cell? ⟨rr, 4, none⟩ = some (.slice none 0 0) := rblk_cell P_o 4
  have c_o5 : (W4.alloc (.cells #[.bool Y.p, .slice a2.A Y.l.length a2.c, .slice a2.D Y.m.length a2.d] 27)).cell? ⟨rr, 5, none⟩ = some (.slice none 0 0) := rblk_cell P_o 5
  have f_o0 := rblk_free P_o 0
  have f_o1 := rblk_free P_o 1
  have f_o2 := rblk_free P_o 2
  have f_o3 := rblk_free P_o 3
  have f_o4 := rblk_free P_o 4
  have f_o5 := rblk_free P_o 5
  go_wp2
  exact bodyPost_ret (v := .tuple #[.agg #[.bool false, .slice none 0 0, .slice none 0 0, .bool false, .slice none 0 0, .slice none 0 0], .bool false]) (by simp [results, Tryz.results5, go_sem, c_o0, c_o1, c_o2, c_o3, c_o4, c_o5]) rfl (none_pair _ _ _ (below_put6 kb hrr3 _ _ _ _ _ _))

set_option maxHeartbeats 1000000 in
theorem impl_pp_d (s T U : ByteArray) (X Y : R3) (w : World) (q : Bool) (mx : Int)
    (HC0 : ∀ W, W.cell? ⟨0, 0, none⟩ = some (.int .i64 mx) → Calls Tryz.prog 21 #[.string s, .string ⟨#[44]⟩] W fun e w' => e = .returned (.tuple #[.string T, .string U, .bool q]) ∧ Below W.heap.size W w') (hm : w.cell? ⟨0, 0, none⟩ = some (.int .i64 mx))
    (HX0 : ∀ W, W.cell? ⟨0, 0, none⟩ = some (.int .i64 mx) → Calls Tryz.prog 22 #[.string T] W (PairQ W.heap.size X true W))
    (HY0 : ∀ W, W.cell? ⟨0, 0, none⟩ = some (.int .i64 mx) → Calls Tryz.prog 22 #[.string U] W (PairQ W.heap.size Y false W)) :
    Calls Tryz.prog 5 #[.string s] w (PairP w.heap.size noR noR false w) := by
  have HC := Lib.hid HC0
  have HX := Lib.hid HX0
  have HY := Lib.hid HY0
  clear HC0 HX0 HY0
  go_enter Tryz.func5, Tryz.ntmps5
  go_wp2_with fail
  have kb := ba1 w (.cells #[.bool false, .slice none 0 0, .slice none 0 0, .bool false, .slice none 0 0, .slice none 0 0] 29)
  have P_o := heap_alloc_new w (.cells #[.bool false, .slice none 0 0, .slice none 0 0, .bool false, .slice none 0 0, .slice none 0 0] 29)
  generalize w.alloc (.cells #[.bool false, .slice none 0 0, .slice none 0 0, .bool false, .slice none 0 0, .slice none 0 0] 29) = W1 at kb P_o ⊢
  obtain ⟨rr, hrr⟩ : ∃ r, r = w.heap.size := ⟨_, rfl⟩
  rw [← hrr] at P_o ⊢
  have hrr3 : w.heap.size ≤ rr := by omega
  clear hrr
  refine (HC.out _ (cell_kept hm kb)).mono ?_
  rintro e W2 ⟨rfl, hb⟩
  replace P_o := rblk_below P_o hb
  replace kb := bt kb hb
  clear hb
  go_wp2_with fail
  have ltr1 := rblk_lt P_o
  have b1 := kb.size
  refine (HX.out _ (cell_kept hm kb)).mono ?_
  rintro e W3 ⟨a1, rfl, hc1, hc2, o1, hap1, hb⟩
  replace P_o := rblk_below P_o hb
  replace kb := bt kb hb
  have z1 := hb.size
  clear hb
  have P_x := heap_alloc_new W3 (.cells #[.bool X.p, .slice a1.A X.l.length a1.c, .slice a1.D X.m.length a1.d] 27)
  have hb := ba1 W3 (.cells #[.bool X.p, .slice a1.A X.l.length a1.c, .slice a1.D X.m.length a1.d] 27)
  replace P_o := rblk_below P_o hb
  replace o1 := o1.below hb
  replace kb := bt kb hb
  have z2 := hb.size
  clear hb
  go_wp2_with fail
  generalize W3.alloc (.cells #[.bool X.p, .slice a1.A X.l.length a1.c, .slice a1.D X.m.length a1.d] 27) = W4 at kb z2  P_o P_x o1 ⊢
  refine (HY.out _ (cell_kept hm kb)).mono ?_
  rintro e W4 ⟨a2, rfl, hc3, hc4, o2, hap2, hb⟩
  replace P_o := rblk_below P_o hb
  replace P_x := rblk_below P_x hb
  replace o1 := o1.below hb
  replace kb := bt kb hb
  have z3 := hb.size
  clear hb
  have P_y := heap_alloc_new W4 (.cells #[.bool Y.p, .slice a2.A Y.l.length a2.c, .slice a2.D Y.m.length a2.d] 27)
  have hb := ba1 W4 (.cells #[.bool Y.p, .slice a2.A Y.l.length a2.c, .slice a2.D Y.m.length a2.d] 27)
  replace P_o := rblk_below P_o hb
  replace P_x := rblk_below P_x hb
  replace o1 := o1.below hb
  replace o2 := o2.below hb
  replace kb := bt kb hb
  have z4 := hb.size
  clear hb
  have c_o0 : (W4.alloc (.cells #[.bool Y.p, .slice a2.A Y.l.length a2.c, .slice a2.D Y.m.length a2.d] 27)).cell? ⟨rr, 0, none⟩ = some (.bool false) := rblk_cell P_o 0
  have c_o1 : (W4.alloc (.cells #[.bool Y.p, .slice a2.A Y.l.length a2.c, .slice a2.D Y.m.length a2.d] 27)).cell? ⟨rr, 1, none⟩ = some (.slice none 0 0) := rblk_cell P_o 1
  have c_o2 : (W4.alloc (.cells #[.bool Y.p, .slice a2.A Y.l.length a2.c, .slice a2.D Y.m.length a2.d] 27)).cell? ⟨rr, 2, none⟩ = some (.slice none 0 0) := rblk_cell P_o 2
  have c_o3 : (W4.alloc (.cells #[.bool Y.p, .slice a2.A Y.l.length a2.c, .slice a2.D Y.m.length a2.d] 27)).cell? ⟨rr, 3, none⟩ = some (.bool false) := rblk_cell P_o 3
  have c_o4 : (W4.alloc (.cells #[.bool Y.p, .slice a2.A Y.l.length a2.c, .slice a2.D Y.m.length a2.d] 27)).cell? ⟨rr, 4, none⟩ = some (.slice none 0 0) := rblk_cell P_o 4
  have c_o5 : (W4.alloc (.cells #[.bool Y.p, .slice a2.A Y.l.length a2.c, .slice a2.D Y.m.length a2.d] 27)).cell? ⟨rr, 5, none⟩ = some (.slice none 0 0) := rblk_cell P_o 5
  have f_o0 := rblk_free P_o 0
  have f_o1 := rblk_free P_o 1
  have f_o2 := rblk_free P_o 2
  have f_o3 := rblk_free P_o 3
  have f_o4 := rblk_free P_o 4
  have f_o5 := rblk_free P_o 5
  go_wp2
  exact bodyPost_ret (v := .tuple #[.agg #[.bool false, .slice none 0 0, .slice none 0 0, .bool false, .slice none 0 0, .slice none 0 0], .bool false]) (by simp [results, Tryz.results5, go_sem, c_o0, c_o1, c_o2, c_o3, c_o4, c_o5]) rfl (none_pair _ _ _ (below_put6 kb hrr3 _ _ _ _ _ _))

set_option maxHeartbeats 1000000 in
theorem impl_pp_y (s T U : ByteArray) (X Y : R3) (w : World) (q : Bool) (mx : Int)
    (HC0 : ∀ W, W.cell? ⟨0, 0, none⟩ = some (.int .i64 mx) → Calls Tryz.prog 21 #[.string s, .string ⟨#[44]⟩] W fun e w' => e = .returned (.tuple #[.string T, .string U, .bool q]) ∧ Below W.heap.size W w') (hm : w.cell? ⟨0, 0, none⟩ = some (.int .i64 mx))
    (HX0 : ∀ W, W.cell? ⟨0, 0, none⟩ = some (.int .i64 mx) → Calls Tryz.prog 22 #[.string T] W (PairQ W.heap.size X true W))
    (HY0 : ∀ W, W.cell? ⟨0, 0, none⟩ = some (.int .i64 mx) → Calls Tryz.prog 22 #[.string U] W (PairQ W.heap.size Y true W)) :
    Calls Tryz.prog 5 #[.string s] w (PairP w.heap.size X Y true w) := by
  have HC := Lib.hid HC0
  have HX := Lib.hid HX0
  have HY := Lib.hid HY0
  clear HC0 HX0 HY0
  go_enter Tryz.func5, Tryz.ntmps5
  go_wp2_with fail
  have kb := ba1 w (.cells #[.bool false, .slice none 0 0, .slice none 0 0, .bool false, .slice none 0 0, .slice none 0 0] 29)
  have P_o := heap_alloc_new w (.cells #[.bool false, .slice none 0 0, .slice none 0 0, .bool false, .slice none 0 0, .slice none 0 0] 29)
  generalize w.alloc (.cells #[.bool false, .slice none 0 0, .slice none 0 0, .bool false, .slice none 0 0, .slice none 0 0] 29) = W1 at kb P_o ⊢
  obtain ⟨rr, hrr⟩ : ∃ r, r = w.heap.size := ⟨_, rfl⟩
  rw [← hrr] at P_o ⊢
  have hrr3 : w.heap.size ≤ rr := by omega
  clear hrr
  refine (HC.out _ (cell_kept hm kb)).mono ?_
  rintro e W2 ⟨rfl, hb⟩
  replace P_o := rblk_below P_o hb
  replace kb := bt kb hb
  clear hb
  go_wp2_with fail
  have ltr1 := rblk_lt P_o
  have b1 := kb.size
  refine (HX.out _ (cell_kept hm kb)).mono ?_
  rintro e W3 ⟨a1, rfl, hc1, hc2, o1, hap1, hb⟩
  replace P_o := rblk_below P_o hb
  replace kb := bt kb hb
  have z1 := hb.size
  clear hb
  have P_x := heap_alloc_new W3 (.cells #[.bool X.p, .slice a1.A X.l.length a1.c, .slice a1.D X.m.length a1.d] 27)
  have hb := ba1 W3 (.cells #[.bool X.p, .slice a1.A X.l.length a1.c, .slice a1.D X.m.length a1.d] 27)
  replace P_o := rblk_below P_o hb
  replace o1 := o1.below hb
  replace kb := bt kb hb
  have z2 := hb.size
  clear hb
  go_wp2_with fail
  generalize W3.alloc (.cells #[.bool X.p, .slice a1.A X.l.length a1.c, .slice a1.D X.m.length a1.d] 27) = W4 at kb z2  P_o P_x o1 ⊢
  refine (HY.out _ (cell_kept hm kb)).mono ?_
  rintro e W4 ⟨a2, rfl, hc3, hc4, o2, hap2, hb⟩
  replace P_o := rblk_below P_o hb
  replace P_x := rblk_below P_x hb
  replace o1 := o1.below hb
  replace kb := bt kb hb
  have z3 := hb.size
  clear hb
  have P_y := heap_alloc_new W4 (.cells #[.bool Y.p, .slice a2.A Y.l.length a2.c, .slice a2.D Y.m.length a2.d] 27)
  have hb := ba1 W4 (.cells #[.bool Y.p, .slice a2.A Y.l.length a2.c, .slice a2.D Y.m.length a2.d] 27)
  replace P_o := rblk_below P_o hb
  replace P_x := rblk_below P_x hb
  replace o1 := o1.below hb
  replace o2 := o2.below hb
  replace kb := bt kb hb
  have z4 := hb.size
  clear hb
  have c_x0 : (W4.alloc (.cells #[.bool Y.p, .slice a2.A Y.l.length a2.c, .slice a2.D Y.m.length a2.d] 27)).cell? ⟨W3.heap.size, 0, none⟩ = some (.bool X.p) := rblk_cell P_x 0
  have c_x1 : (W4.alloc (.cells #[.bool Y.p, .slice a2.A Y.l.length a2.c, .slice a2.D Y.m.length a2.d] 27)).cell? ⟨W3.heap.size, 1, none⟩ = some (.slice a1.A X.l.length a1.c) := rblk_cell P_x 1
  have c_x2 : (W4.alloc (.cells #[.bool Y.p, .slice a2.A Y.l.length a2.c, .slice a2.D Y.m.length a2.d] 27)).cell? ⟨W3.heap.size, 2, none⟩ = some (.slice a1.D X.m.length a1.d) := rblk_cell P_x 2
  have c_y0 : (W4.alloc (.cells #[.bool Y.p, .slice a2.A Y.l.length a2.c, .slice a2.D Y.m.length a2.d] 27)).cell? ⟨W4.heap.size, 0, none⟩ = some (.bool Y.p) := rblk_cell P_y 0
  have c_y1 : (W4.alloc (.cells #[.bool Y.p, .slice a2.A Y.l.length a2.c, .slice a2.D Y.m.length a2.d] 27)).cell? ⟨W4.heap.size, 1, none⟩ = some (.slice a2.A Y.l.length a2.c) := rblk_cell P_y 1
  have c_y2 : (W4.alloc (.cells #[.bool Y.p, .slice a2.A Y.l.length a2.c, .slice a2.D Y.m.length a2.d] 27)).cell? ⟨W4.heap.size, 2, none⟩ = some (.slice a2.D Y.m.length a2.d) := rblk_cell P_y 2
  have c_o0 : (W4.alloc (.cells #[.bool Y.p, .slice a2.A Y.l.length a2.c, .slice a2.D Y.m.length a2.d] 27)).cell? ⟨rr, 0, none⟩ = some (.bool false) := rblk_cell P_o 0
  have c_o1 : (W4.alloc (.cells #[.bool Y.p, .slice a2.A Y.l.length a2.c, .slice a2.D Y.m.length a2.d] 27)).cell? ⟨rr, 1, none⟩ = some (.slice none 0 0) := rblk_cell P_o 1
  have c_o2 : (W4.alloc (.cells #[.bool Y.p, .slice a2.A Y.l.length a2.c, .slice a2.D Y.m.length a2.d] 27)).cell? ⟨rr, 2, none⟩ = some (.slice none 0 0) := rblk_cell P_o 2
  have c_o3 : (W4.alloc (.cells #[.bool Y.p, .slice a2.A Y.l.length a2.c, .slice a2.D Y.m.length a2.d] 27)).cell? ⟨rr, 3, none⟩ = some (.bool false) := rblk_cell P_o 3
  have c_o4 : (W4.alloc (.cells #[.bool Y.p, .slice a2.A Y.l.length a2.c, .slice a2.D Y.m.length a2.d] 27)).cell? ⟨rr, 4, none⟩ = some (.slice none 0 0) := rblk_cell P_o 4
  have c_o5 : (W4.alloc (.cells #[.bool Y.p, .slice a2.A Y.l.length a2.c, .slice a2.D Y.m.length a2.d] 27)).cell? ⟨rr, 5, none⟩ = some (.slice none 0 0) := rblk_cell P_o 5
  have f_o0 := rblk_free P_o 0
  have f_o1 := rblk_free P_o 1
  have f_o2 := rblk_free P_o 2
  have f_o3 := rblk_free P_o 3
  have f_o4 := rblk_free P_o 4
  have f_o5 := rblk_free P_o 5
  go_wp2
  exact bodyPost_ret (v := .tuple #[.agg #[.bool X.p, .slice a1.A X.l.length a1.c, .slice a1.D X.m.length a1.d, .bool Y.p, .slice a2.A Y.l.length a2.c, .slice a2.D Y.m.length a2.d], .bool true]) (by simp [results, Tryz.results5, go_sem, c_o0, c_o1, c_o2, c_o3, c_o4, c_o5, c_x0, c_x1, c_x2, c_y0, c_y1, c_y2]) rfl ⟨a1, a2, rfl, ⟨hc1, hc2, hc3, hc4⟩, owns_end6 (Owns.app (o1.wide (Nat.le_refl _) (by omega)) (o2.wide (by omega) z4)) (.inl ltr1) b1 (Nat.le_refl _) _ _ _ _ _ _, Aparts.app hap1 hap2 (o1.wide (Nat.le_refl _) z2) o2, below_put6 kb hrr3 _ _ _ _ _ _⟩

theorem impl_prq (s : ByteArray) (mx : Int) (w : World) (hs : s.size ≤ 1048576) (hm : w.cell? ⟨0, 0, none⟩ = some (.int .i64 mx)) :
    Calls Tryz.prog 22 #[.string s] w (PairQ w.heap.size (prR s) (prOk s) w) := (impl_prat s mx w hs hm).mono fun e w' h => PairR.toQ (x := prR s) h
theorem impl_ppt (s : ByteArray) (mx : Int) (w : World) (hs : s.size ≤ 1048576) (hm : w.cell? ⟨0, 0, none⟩ = some (.int .i64 mx)) :
    Calls Tryz.prog 5 #[.string s] w (PairP w.heap.size (ppX s) (ppY s) (ppOk s) w) := by
  have h1 := (cutC_size s).1
  have h2 := (cutC_size s).2
  have HC := fun W h => cutC_any s mx W hs h
  have HX := fun W h => impl_prq (ctTC s) mx W (by omega) h
  have HY := fun W h => impl_prq (ctUC s) mx W (by omega) h
  cases e1 : prOk (ctTC s) with
  | false =>
    rw [e1] at HX
    have ho : ppOk s = false := by unfold ppOk; rw [e1]; rfl
    unfold ppX ppY
    rw [ho]
    exact impl_pp_n s _ _ _ _ w _ mx _ HC hm HX HY
  | true =>
    rw [e1] at HX
    cases e2 : prOk (ctUC s) with
    | false =>
      rw [e2] at HY
      have ho : ppOk s = false := by unfold ppOk; rw [e1, e2]; rfl
      unfold ppX ppY
      rw [ho]
      exact impl_pp_d s _ _ _ _ w _ mx HC hm HX HY
    | true =>
      rw [e2] at HY
      have ho : ppOk s = true := by unfold ppOk; rw [e1, e2]; rfl
      unfold ppX ppY
      rw [ho]
      exact impl_pp_y s _ _ _ _ w _ mx HC hm HX HY
end Go.Proofs.YtdgfbnnohnaoaaaGreatDoor

