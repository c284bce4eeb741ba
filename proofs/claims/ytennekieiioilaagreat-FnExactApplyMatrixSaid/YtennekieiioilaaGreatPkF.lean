/-
  Fractions of the program: the small methods ('exists', 'limited', 'divided', 'scaled', 'copied', 'negated', 'inverse', 'sign', 'order').
-/
import Derived.Test.YtennekieiioilaaGreatPkD
import Derived.Test.YtennekieiioilaaGreatPkB
import Derived.Deep.DrawnRows
import Derived.Deep.DeepCutAuto
namespace Go.Proofs.YtennekieiioilaaGreat
open Go.ChangeShapes Go.WideShapes Go.ChangeAt Go.RowKit
open Go.ChangeMaps (open_string shut_string)
set_option linter.unusedVariables false
set_option linter.unusedSimpArgs false
set_option maxRecDepth 4000

attribute [local go_sem ↓] Go.wp_at_zero Go.wp_at_succ

set_option maxHeartbeats 400000 in
theorem exists_any (p : Bool) (A D : Option Addr) (n k c d : Nat) (w : World) (hk : k ≤ 9223372036854775807) :
    Calls Tryz.prog 89 #[.agg #[.bool p, .slice A n c, .slice D k d]] w fun e w' => e = .returned (.bool (decide (0 < k))) ∧ Below w.heap.size w w' := by
  by_cases h : 0 < k
  · have hz : (0 : Int) < (k : Int) := by omega
    have hd : decide (0 < k) = true := decide_eq_true h
    go_enter Tryz.func89, Tryz.ntmps89
    go_wp2
    go_ret
    exact ⟨ret_bool' hd.symm, ba1 _ _⟩
  · have hz : ¬ (0 : Int) < (k : Int) := by omega
    have hd : decide (0 < k) = false := decide_eq_false h
    go_enter Tryz.func89, Tryz.ntmps89
    go_wp2
    go_ret
    exact ⟨by first | exact ret_bool' hd.symm | rfl, ba1 _ _⟩
set_option maxHeartbeats 400000 in
theorem divided_any (a b : Nat) (A D : Option Addr) (n c n' d : Nat) (w : World) (hn : ln a = n) (hn' : ln b = n') (h60 : n ≤ 60) (h60' : n' ≤ 60) (hb0 : 0 < n') (hA : RdS w A (vi (nd a))) (hD : RdS w D (vi (nd b))) :
    Calls Tryz.prog 94 #[.slice A n c, .slice D n' d] w (MadeI w.heap.size (nd (a / b)) w) := by
  have H := Lib.hid (impl_div a b A D n c n' d w hn hn' h60 h60' hb0 hA hD)
  clear hn hn' hb0 hA hD
  generalize nd (a / b) = L at H ⊢
  generalize nd (a % b) = M at H
  go_enter Tryz.func94, Tryz.ntmps94
  go_wp2_with fail
  refine H.out.mono ?_
  rintro e w1 ⟨A1, c1, D1, d1, rfl, hc1, hd1, o1, o2, hb, _⟩
  go_wp2
  go_ret
  exact ⟨A1, c1, rfl, hc1, o1, hb⟩
/-- 'bigInt' hands the row itself on. -/
theorem bigInt_same (p : Bool) (L : List Int) (A : Option Addr) (n c : Nat) (w : World) (hn : L.length = n) (h6 : n ≤ 1048576) (hc : n ≤ c) :
    Calls Tryz.prog 110 #[.agg #[.bool p, .slice A n c]] w fun e w' => ∃ A' c', e = .returned (.agg #[.bool (p && decide (L ≠ [])), .slice A' L.length c']) ∧ L.length ≤ c' ∧ (L = [] ∨ A' = A) ∧ Below w.heap.size w w' := by
  have H := fun W => Lib.hid (isZero_any A n c W h6)
  by_cases h0 : n = 0
  · have hL : L = [] := List.eq_nil_of_length_eq_zero (hn.trans h0)
    subst hL
    have hd : decide (n = 0) = true := decide_eq_true h0
    rw [hd] at H
    rw [show (p && decide (([] : List Int) ≠ [])) = false by simp]
    clear hn h0 hd
    go_enter Tryz.func110, Tryz.ntmps110
    go_wp2_with fail
    refine (H _).out.mono ?_
    rintro e w1 ⟨rfl, rfl⟩
    go_wp2
    exact bodyPost_ret (v := .agg #[.bool false, .slice none 0 0]) (by simp [results, Tryz.results110, go_sem]) rfl ⟨none, 0, rfl, Nat.le_refl _, (by simp), ba2 _ _ _⟩
  · have hd : decide (n = 0) = false := decide_eq_false h0
    rw [hd] at H
    have hL : decide (L ≠ []) = true := decide_eq_true (by rintro rfl; exact h0 hn.symm)
    rw [hL, Bool.and_true]
    have HN := Lib.hid hn
    clear hn h0 hd hL
    go_enter Tryz.func110, Tryz.ntmps110
    go_wp2_with fail
    refine (H _).out.mono ?_
    rintro e w1 ⟨rfl, rfl⟩
    go_wp2
    exact bodyPost_ret (v := .agg #[.bool p, .slice A n c]) (by simp [results, Tryz.results110, go_sem]) rfl ⟨A, c, by rw [HN.out], by rw [HN.out]; exact hc, .inr rfl, ba2 _ _ _⟩
theorem own_same {B : Nat} {w : World} {A A' : Option Addr} {L : List Int} (h : L = [] ∨ A' = A) (o : OwnS B w A (vi L)) : OwnS B w A' (vi L) := by
  rcases h with h | h
  · exact .inl (by rw [h]; rfl)
  · rw [h]; exact o
theorem apart_same {L : List Int} {A A' : Option Addr} {k : Nat} {D : Option Addr} (h : L = [] ∨ A' = A) (o : Apart L.length A k D) : Apart L.length A' k D := by
  rcases h with h | h
  · intro a ha; rw [h] at ha; simp [rowOf] at ha
  · rw [h]; exact o

set_option maxHeartbeats 1000000 in
theorem limited_yes (B : Nat) (p : Bool) (L M : List Int) (A D : Option Addr) (c d : Nat) (w : World) (hn : L.length ≤ 24) (hk : M.length ≤ 24) (hc : L.length ≤ c) (hd : M.length ≤ d) (oA : OwnS B w A (vi L)) (oD : OwnS B w D (vi M)) (hap : Apart L.length A M.length D) :
    Calls Tryz.prog 96 #[.agg #[.bool p, .slice A L.length c], .slice D M.length d] w (MadeR B (p && decide (L ≠ [])) L M w) := by
  have h1 : ¬ (24 : Int) < ((L.length : Nat) : Int) := by omega
  have h2 : ¬ (24 : Int) < ((M.length : Nat) : Int) := by omega
  have HB := Lib.hid (fun A c W hc => bigInt_same p L A L.length c W rfl (by omega) hc)
  generalize (p && decide (L ≠ [])) = sg at HB ⊢
  go_enter Tryz.func96, Tryz.ntmps96
  go_wp2_with fail
  have kb := ba2 w (.cells #[.bool p, .slice A L.length c] 106) (.cells #[.bool false, .slice none 0 0, .slice none 0 0] 30)
  obtain ⟨P_x, P_o⟩ := blocks2 w (.cells #[.bool p, .slice A L.length c] 106) (.cells #[.bool false, .slice none 0 0, .slice none 0 0] 30)
  generalize (w.alloc (.cells #[.bool p, .slice A L.length c] 106)).alloc (.cells #[.bool false, .slice none 0 0, .slice none 0 0] 30) = W1 at kb P_x P_o ⊢
  obtain ⟨rr, hrr⟩ : ∃ r, r = w.heap.size + 1 := ⟨_, rfl⟩
  rw [← hrr] at P_o ⊢
  have hrr3 : w.heap.size ≤ rr := by omega
  have nr_x : rr ≠ w.heap.size := by omega
  clear hrr
  refine (HB.out _ _ _ hc).mono ?_
  rintro e W2 ⟨A3, c3, rfl, hc3, hsame, hb⟩
  replace P_x := rblk_below P_x hb
  replace P_o := rblk_below P_o hb
  replace kb := bt kb hb
  clear hb
  have c_o0 : W2.cell? ⟨rr, 0, none⟩ = some (.bool false) := rblk_cell P_o 0
  have c_o1 : W2.cell? ⟨rr, 1, none⟩ = some (.slice none 0 0) := rblk_cell P_o 1
  have c_o2 : W2.cell? ⟨rr, 2, none⟩ = some (.slice none 0 0) := rblk_cell P_o 2
  have f_o0 := rblk_free P_o 0
  have f_o1 := rblk_free P_o 1
  have f_o2 := rblk_free P_o 2
  go_wp2
  exact bodyPost_ret (v := .agg #[.bool sg, .slice A3 L.length c3, .slice D M.length d]) (by simp [results, Tryz.results96, go_sem, c_o0, c_o1, c_o2]) rfl ⟨A3, c3, D, d, rfl, hc3, hd, own_same hsame (oA.below (below_put3 kb hrr3 _ _ _)), oD.below (below_put3 kb hrr3 _ _ _), apart_same hsame hap, below_put3 kb hrr3 _ _ _⟩

set_option maxHeartbeats 1000000 in
theorem limited_n (B : Nat) (p : Bool) (L M : List Int) (A D : Option Addr) (c d : Nat) (w : World) (hn : 24 < L.length) :
    Calls Tryz.prog 96 #[.agg #[.bool p, .slice A L.length c], .slice D M.length d] w (MadeR B false [] [] w) := by
  have h1 : (24 : Int) < ((L.length : Nat) : Int) := by omega
  go_enter Tryz.func96, Tryz.ntmps96
  go_wp2
  exact bodyPost_ret (v := .agg #[.bool false, .slice none 0 0, .slice none 0 0]) (by simp [results, Tryz.results96, go_sem]) rfl ⟨none, 0, none, 0, rfl, Nat.le_refl _, Nat.le_refl _, .inl rfl, .inl rfl, (fun a h => by simp [rowOf] at h), ba2 _ _ _⟩

set_option maxHeartbeats 1000000 in
theorem limited_k (B : Nat) (p : Bool) (L M : List Int) (A D : Option Addr) (c d : Nat) (w : World) (hn : L.length ≤ 24) (hk : 24 < M.length) :
    Calls Tryz.prog 96 #[.agg #[.bool p, .slice A L.length c], .slice D M.length d] w (MadeR B false [] [] w) := by
  have h1 : ¬ (24 : Int) < ((L.length : Nat) : Int) := by omega
  have h2 : (24 : Int) < ((M.length : Nat) : Int) := by omega
  go_enter Tryz.func96, Tryz.ntmps96
  go_wp2
  exact bodyPost_ret (v := .agg #[.bool false, .slice none 0 0, .slice none 0 0]) (by simp [results, Tryz.results96, go_sem]) rfl ⟨none, 0, none, 0, rfl, Nat.le_refl _, Nat.le_refl _, .inl rfl, .inl rfl, (fun a h => by simp [rowOf] at h), ba2 _ _ _⟩

/-- 'limited' of the parts of a fraction. -/
theorem limited_q (B : Nat) (v : Rat) (p : Bool) (A D : Option Addr) (c d : Nat) (w : World) (hp : (p && decide (nd v.num.natAbs ≠ [])) = zn v.num) (hc : (nd v.num.natAbs).length ≤ c) (hd : (nd v.den).length ≤ d) (oA : OwnS B w A (vi (nd v.num.natAbs))) (oD : OwnS B w D (vi (nd v.den))) (hap : Apart (nd v.num.natAbs).length A (nd v.den).length D) :
    Calls Tryz.prog 96 #[.agg #[.bool p, .slice A (nd v.num.natAbs).length c], .slice D (nd v.den).length d] w (MadeR B (qn (cutQ v)) (ql (cutQ v)) (qd (cutQ v)) w) := by
  by_cases h : Fit v
  · rw [cutQ_in h]
    have h1 := h.1; have h2 := h.2
    exact (limited_yes B p (nd v.num.natAbs) (nd v.den) A D c d w (by rw [nd_length]; exact h1) (by rw [nd_length]; exact h2) hc hd oA oD hap).mono fun e w' k => k.to hp.symm rfl rfl
  · rw [cutQ_out h]
    by_cases h1 : 24 < (nd v.num.natAbs).length
    · exact limited_n B p _ _ A D c d w h1
    · refine limited_k B p _ _ A D c d w (by omega) ?_
      rw [nd_length] at h1 ⊢
      unfold Fit at h
      omega
end Go.Proofs.YtennekieiioilaaGreat

namespace Go.Proofs.YtennekieiioilaaGreat
open Go.ChangeShapes Go.WideShapes Go.ChangeAt Go.RowKit
open Go.ChangeMaps (open_string shut_string)
set_option linter.unusedVariables false
set_option linter.unusedSimpArgs false
set_option maxRecDepth 4000

attribute [local go_sem ↓] Go.wp_at_zero Go.wp_at_succ

set_option maxHeartbeats 1000000 in
theorem scaled_any (x : Int) (f : Nat) (A D E : Option Addr) (n k m c d e : Nat) (w : World) (hn : ln x.natAbs = n) (hm : ln f = m) (h60 : n ≤ 60) (h60' : m ≤ 60) (hA : RdS w A (vi (nd x.natAbs))) (hE : RdS w E (vi (nd f))) :
    Calls Tryz.prog 93 #[.agg #[.bool (zn x), .slice A n c, .slice D k d], .slice E m e] w (MadeB w.heap.size (!(zn x == false)) (cap60 (x.natAbs * f)) w) := by
  have HT := Lib.hid (fun W h h' => times_any (zn x) false x.natAbs f A E n c m e W hn hm h60 h60' h h')
  have RR : Hid (∀ W, Below w.heap.size w W → RdS W A (vi (nd x.natAbs)) ∧ RdS W E (vi (nd f))) := Lib.hid (fun W hb => ⟨hA.below hb, hE.below hb⟩)
  clear hn hm hA hE
  generalize cap60 (x.natAbs * f) = L at HT ⊢
  generalize (!(zn x == false)) = sg at HT ⊢
  generalize zn x = pr at HT ⊢
  go_enter Tryz.func93, Tryz.ntmps93
  go_wp2_with fail
  have kb := ba2 w (.cells #[.bool pr, .slice A n c, .slice D k d] 30) (.cells #[.bool false, .slice none 0 0] 106)
  obtain ⟨P_r, P_o⟩ := blocks2 w (.cells #[.bool pr, .slice A n c, .slice D k d] 30) (.cells #[.bool false, .slice none 0 0] 106)
  generalize (w.alloc (.cells #[.bool pr, .slice A n c, .slice D k d] 30)).alloc (.cells #[.bool false, .slice none 0 0] 106) = W1 at kb P_r P_o ⊢
  obtain ⟨rr, hrr⟩ : ∃ r, r = w.heap.size + 1 := ⟨_, rfl⟩
  rw [← hrr] at P_o ⊢
  have hrr3 : w.heap.size ≤ rr := by omega
  have nr_r : rr ≠ w.heap.size := by omega
  clear hrr
  refine (signedOf_any _ _ _ _ _).mono ?_
  rintro e W2 ⟨rfl, hb⟩
  replace P_r := rblk_below P_r hb
  replace P_o := rblk_below P_o hb
  replace kb := bt kb hb
  clear hb
  go_wp2_with fail
  have hltr := rblk_lt P_o
  refine (HT.out _ (RR.out _ kb).1 (RR.out _ kb).2).mono ?_
  rintro e W3 ⟨A3, c3, rfl, hc3, o3, hb⟩
  replace P_r := rblk_below P_r hb
  replace P_o := rblk_below P_o hb
  replace kb := bt kb hb
  clear hb
  have c_o0 : W3.cell? ⟨rr, 0, none⟩ = some (.bool false) := rblk_cell P_o 0
  have c_o1 : W3.cell? ⟨rr, 1, none⟩ = some (.slice none 0 0) := rblk_cell P_o 1
  have f_o0 := rblk_free P_o 0
  have f_o1 := rblk_free P_o 1
  go_wp2
  exact bodyPost_ret (v := .agg #[.bool sg, .slice A3 L.length c3]) (by simp [results, Tryz.results93, go_sem, c_o0, c_o1]) rfl ⟨A3, c3, rfl, hc3, (own_put2 o3 hltr _ _).more (Nat.le_trans hrr3 (Nat.le_of_lt hltr)), below_put2 kb hrr3 _ _⟩

theorem zn_mul_pos (x : Int) (f : Nat) (hf : 0 < f) : zn (x * (f : Int)) = zn x := by
  unfold zn
  have hfi : (0 : Int) < (f : Int) := by omega
  by_cases h : x < 0
  · rw [decide_eq_true h, decide_eq_true (Int.mul_neg_of_neg_of_pos h hfi)]
  · have := Int.mul_nonneg (show 0 ≤ x by omega) (Int.le_of_lt hfi)
    rw [decide_eq_false h, decide_eq_false (by omega)]
theorem zm_mul (x : Int) (f : Nat) : zm (x * (f : Int)) = nd (x.natAbs * f) := by unfold zm; rw [Int.natAbs_mul, Int.natAbs_natCast]
theorem scaled_den (x : Int) (f : Nat) (A D E : Option Addr) (n k m c d e : Nat) (w : World) (hf : 0 < f) (hl : ln (x.natAbs * f) ≤ 60) (hn : ln x.natAbs = n) (hm : ln f = m) (h60 : n ≤ 60) (h60' : m ≤ 60) (hA : RdS w A (vi (nd x.natAbs))) (hE : RdS w E (vi (nd f))) :
    Calls Tryz.prog 93 #[.agg #[.bool (zn x), .slice A n c, .slice D k d], .slice E m e] w (MadeB w.heap.size (zn (x * (f : Int))) (zm (x * (f : Int))) w) := by
  have h := scaled_any x f A D E n k m c d e w hn hm h60 h60' hA hE
  rw [cap60_yes' hl, show (!(zn x == false)) = zn x by cases zn x <;> rfl] at h
  rw [zn_mul_pos x f hf, zm_mul]
  exact h

set_option maxHeartbeats 1000000 in
theorem sign_any (x : Int) (A D : Option Addr) (n k c d : Nat) (w : World) (hn : ln x.natAbs = n) (h60 : n ≤ 60) (hA : RdS w A (vi (nd x.natAbs))) :
    Calls Tryz.prog 78 #[.agg #[.bool (zn x), .slice A n c, .slice D k d]] w fun e w' => e = .returned (.int .i64 (cmpZ x 0)) ∧ Below w.heap.size w w' := by
  have HO := Lib.hid (fun W h => order_any x 0 A none n c 0 0 W hn (by rw [show (0 : Int).natAbs = 0 from rfl, ln_zero]) h60 (by omega) h (.inl (by rw [zm_zero]; rfl)))
  rw [zn_zero] at HO
  unfold zm at HO
  have RR : Hid (∀ W, Below w.heap.size w W → RdS W A (vi (nd x.natAbs))) := Lib.hid (fun W hb => hA.below hb)
  clear hn hA
  generalize nd x.natAbs = L at HO RR
  generalize cmpZ x 0 = v at HO ⊢
  generalize zn x = pr at HO ⊢
  go_enter Tryz.func78, Tryz.ntmps78
  go_wp2_with fail
  have kb := ba1 w (.cells #[.bool pr, .slice A n c, .slice D k d] 30)
  have P_r := heap_alloc_new w (.cells #[.bool pr, .slice A n c, .slice D k d] 30)
  generalize w.alloc (.cells #[.bool pr, .slice A n c, .slice D k d] 30) = W1 at kb P_r ⊢
  refine (signedOf_any _ _ _ _ _).mono ?_
  rintro e W2 ⟨rfl, hb⟩
  replace P_r := rblk_below P_r hb
  replace kb := bt kb hb
  clear hb
  go_wp2_with fail
  refine (HO.out _ (RR.out _ kb)).mono ?_
  rintro e W3 ⟨rfl, hb⟩
  replace P_r := rblk_below P_r hb
  replace kb := bt kb hb
  clear hb
  go_wp2
  go_ret
  exact ⟨rfl, kb⟩

end Go.Proofs.YtennekieiioilaaGreat

namespace Go.Proofs.YtennekieiioilaaGreat
open Go.ChangeShapes Go.WideShapes Go.ChangeAt Go.RowKit
open Go.ChangeMaps (open_string shut_string)
set_option linter.unusedVariables false
set_option linter.unusedSimpArgs false
set_option maxRecDepth 4000

attribute [local go_sem ↓] Go.wp_at_zero Go.wp_at_succ

set_option maxHeartbeats 1000000 in
theorem copied_any (pr : Bool) (a b : Nat) (A D : Option Addr) (n k c d : Nat) (w : World) (hn : ln a = n) (hk : ln b = k) (h6 : n ≤ 1048576) (h6' : k ≤ 1048576) (hA : RdS w A (vi (nd a))) (hD : RdS w D (vi (nd b))) :
    Calls Tryz.prog 60 #[.agg #[.bool pr, .slice A n c, .slice D k d]] w (MadeR w.heap.size pr (nd a) (nd b) w) := by
  have C1 := Lib.hid (fun W h => copy_zero a A n c W hn h6 h)
  have C2 := Lib.hid (fun W h => copy_zero b D k d W hk h6' h)
  have RR : Hid (∀ W, Below w.heap.size w W → RdS W A (vi (nd a)) ∧ RdS W D (vi (nd b))) := Lib.hid (fun W hb => ⟨hA.below hb, hD.below hb⟩)
  clear hn hk h6 h6' hA hD
  generalize nd a = LA at C1 RR ⊢
  generalize nd b = LD at C2 RR ⊢
  go_enter Tryz.func60, Tryz.ntmps60
  go_wp2_with fail
  have kb := ba2 w (.cells #[.bool pr, .slice A n c, .slice D k d] 30) (.cells #[.bool false, .slice none 0 0, .slice none 0 0] 30)
  obtain ⟨P_r, P_o⟩ := blocks2 w (.cells #[.bool pr, .slice A n c, .slice D k d] 30) (.cells #[.bool false, .slice none 0 0, .slice none 0 0] 30)
  generalize (w.alloc (.cells #[.bool pr, .slice A n c, .slice D k d] 30)).alloc (.cells #[.bool false, .slice none 0 0, .slice none 0 0] 30) = W1 at kb P_r P_o ⊢
  obtain ⟨rr, hrr⟩ : ∃ r, r = w.heap.size + 1 := ⟨_, rfl⟩
  rw [← hrr] at P_o ⊢
  have hrr3 : w.heap.size ≤ rr := by omega
  have nr_r : rr ≠ w.heap.size := by omega
  clear hrr
  have hlo1 := kb.size
  have hlt1 := rblk_lt P_o
  have SB : Hid (∀ w', Below W1.heap.size W1 w' → (w'.cell? ⟨w.heap.size, 0, none⟩ = some (.bool pr) ∧ w'.cell? ⟨w.heap.size, 1, none⟩ = some (.slice A n c) ∧ w'.cell? ⟨w.heap.size, 2, none⟩ = some (.slice D k d) ∧ Below W1.heap.size W1 w')) := Lib.hid (fun w' hB => ⟨rblk_cell (rblk_below P_r hB) 0, rblk_cell (rblk_below P_r hB) 1, rblk_cell (rblk_below P_r hB) 2, hB⟩)
  have KW := Lib.hid kb
  go_cut [3] (fun sv wx => CutP W1 28 (pr) (LA) sv wx)
  case first =>
    clear kb
    go_region_held3 (fun w' => w'.cell? ⟨w.heap.size, 0, none⟩ = some (.bool pr) ∧ w'.cell? ⟨w.heap.size, 1, none⟩ = some (.slice A n c) ∧ w'.cell? ⟨w.heap.size, 2, none⟩ = some (.slice D k d) ∧ Below W1.heap.size W1 w')
      (first | (exact SB.out _ (Below.refl _ _).drew) | (exact SB.out _ (ba1 _ _).drew) | (exact SB.out _ (ba1 _ _)) | (go_split_ands; exact SB.out _ (bt (by assumption : Below W1.heap.size W1 _) hb)) | (go_split_ands; exact SB.out _ (Below.alloc (by assumption : Below W1.heap.size W1 _) (Below.size (by assumption : Below W1.heap.size W1 _)) _)) | (go_split_ands; exact SB.out _ (below_put2 (by assumption : Below W1.heap.size W1 _) (by first | exact Nat.le_refl _ | assumption) _ _)))
      (first | (go_at_call 84; go_split_ands; ((with_reducible refine (C1.out _ (RR.out _ (bt KW.out (by assumption : Below W1.heap.size W1 _))).1).mono ?_); rintro e Wn0 ⟨Aa, ca, rfl, hca, oa, hb⟩; skip; have KB0 := (by assumption : Below W1.heap.size W1 _); have KB := bt KB0 hb; have hsC := KB.size; have hoa := oa.more KB0.size; (first | (have tt := (tt_a hb).1; have hgB := (tt_a hb).2) | (have tt := (tt_b hb).1; have hgB := (tt_b hb).2) | (have hgB := (tt_c tt hb).2; replace tt := (tt_c tt hb).1) | skip); (first | (have t0 := rblk_cell tt 0; have q0 := rblk_free tt 0; have t1 := rblk_cell tt 1; have q1 := rblk_free tt 1) | skip))))
    all_goals (go_wp2_with fail; go_meet; first | exact ⟨_, Aa, ca, rfl, hsC, hca, heap_alloc_new _ _, hoa.below (ba1 _ _), KB.alloc KB.size _⟩ | exact ⟨_, Aa, ca, rfl, (by first | exact Nat.le_refl _ | assumption), hca, rblk_set (rblk_set tt 0 _) 1 _, (own_put2 oa hgB _ _).more KB0.size, below_put2 KB (by first | exact Nat.le_refl _ | assumption) _ _⟩)
  case rest =>
    obtain ⟨g_m, Aa, ca, rfl, hlo_m, hca, P_m, oa, hb⟩ := hcut
    have nr_m : rr ≠ g_m := by have h1 := rblk_lt P_o; omega
    obtain ⟨W2, hWn⟩ : ∃ W', W' = wc := ⟨_, rfl⟩
    subst hWn
    replace P_r := rblk_below P_r hb
    replace P_o := rblk_below P_o hb
    replace kb := bt kb hb
    clear hb KW SB
    go_wp2_with fail
    have SB : Hid (∀ w', Keep3 W2 w' rr → (w'.cell? ⟨w.heap.size, 0, none⟩ = some (.bool pr) ∧ w'.cell? ⟨w.heap.size, 1, none⟩ = some (.slice A n c) ∧ w'.cell? ⟨w.heap.size, 2, none⟩ = some (.slice D k d) ∧ w'.cell? ⟨g_m, 0, none⟩ = some (.bool pr) ∧ w'.cell? ⟨g_m, 1, none⟩ = some (.slice Aa LA.length ca) ∧ Keep3 W2 w' rr)) := Lib.hid (fun w' hK => ⟨rblk_cell (hK.block P_r nr_r) 0, rblk_cell (hK.block P_r nr_r) 1, rblk_cell (hK.block P_r nr_r) 2, rblk_cell (hK.block P_m nr_m) 0, rblk_cell (hK.block P_m nr_m) 1, hK⟩)
    have KW := Lib.hid kb
    have KST := Keep3.start P_o
    clear kb
    go_region_held3 (fun w' => w'.cell? ⟨w.heap.size, 0, none⟩ = some (.bool pr) ∧ w'.cell? ⟨w.heap.size, 1, none⟩ = some (.slice A n c) ∧ w'.cell? ⟨w.heap.size, 2, none⟩ = some (.slice D k d) ∧ w'.cell? ⟨g_m, 0, none⟩ = some (.bool pr) ∧ w'.cell? ⟨g_m, 1, none⟩ = some (.slice Aa LA.length ca) ∧ Keep3 W2 w' rr)
      (first | (exact SB.out _ KST.drew) | (exact SB.out _ KST) | (exact SB.out _ (KST.below (ba1 _ _))) | (exact SB.out _ (KST.drew.below (ba1 _ _))) | (go_split_ands; exact SB.out _ (Keep3.below (by assumption : Keep3 W2 _ rr) hb)) | (go_split_ands; exact SB.out _ (Keep3.put3 (by assumption : Keep3 W2 _ rr) _ _ _)) | (go_split_ands; exact SB.out _ (Keep3.below (by assumption : Keep3 W2 _ rr) (ba1 _ _))))
      (first | (go_at_call 84; go_split_ands; ((with_reducible refine (C2.out _ (RR.out _ (Keep3.base (by assumption : Keep3 W2 _ rr) KW.out hrr3)).2).mono ?_); rintro e Wn1_0 ⟨Ab, cb, rfl, hcb, ob, hb⟩; have hltr := Keep3.lt (by assumption : Keep3 W2 _ rr); have KL := Keep3.below (by assumption : Keep3 W2 _ rr) hb; obtain ⟨u0, u1, u2, t0, t1, t2, t3, t4, t5⟩ := KL.cells; have hap := (oa.inR (vi_length LA)).apart (ob.inR (vi_length LD)) (.inl (Nat.le_refl _)); (first | replace oa := oa.below hb | replace oa := (OwnS.drew' oa).below hb | replace oa := (oa.below (ba1 _ _)).below hb | replace oa := (OwnS.drew' (oa.below (ba1 _ _))).below hb | replace oa := ((OwnS.drew' oa).below (ba1 _ _)).below hb))))
    all_goals
      have hfin := (‹_ ∧ _ ∧ _ ∧ _ ∧ _ ∧ Keep3 W2 _ rr›).2.2.2.2.2
      go_wp2
      exact bodyPost_ret (v := .agg #[.bool pr, .slice Aa LA.length ca, .slice Ab LD.length cb]) (by simp [results, Tryz.results60, go_sem, t0, t1, t2]) rfl ⟨Aa, ca, Ab, cb, rfl, hca, hcb, (own_put3 oa hlt1 _ _ _).more hlo1, (own_put3 ob hltr _ _ _).more (Nat.le_trans hrr3 (Nat.le_of_lt hltr)), hap, hfin.base KW.out hrr3⟩

/-- 'inverse' of a fraction. -/
def invQ (r : Rat) : Option Rat := if r.num = 0 then none else some r⁻¹
end Go.Proofs.YtennekieiioilaaGreat

namespace Go.Proofs.YtennekieiioilaaGreat
open Go.ChangeShapes Go.WideShapes Go.ChangeAt Go.RowKit
open Go.ChangeMaps (open_string shut_string)
set_option linter.unusedVariables false
set_option linter.unusedSimpArgs false
set_option maxRecDepth 4000

attribute [local go_sem ↓] Go.wp_at_zero Go.wp_at_succ

theorem ln_div (a g : Nat) : ln (a / g) ≤ ln a := ln_mono (Nat.div_le_self _ _)
theorem ln_gcd {a b : Nat} (hb : 0 < b) : ln (Nat.gcd a b) ≤ ln b := ln_mono (Nat.le_of_dvd hb (Nat.gcd_dvd_right a b))
theorem hp_mul (r s : Rat) (g h : Nat) (e1 : (r * s).num.natAbs = (r.num.natAbs / g) * (s.num.natAbs / h)) (e3 : zn (r * s).num = zn (r.num * s.num)) : ((!(zn r.num == zn s.num)) && decide (nd (r * s).num.natAbs ≠ [])) = zn (r * s).num := by
  by_cases h0 : (r * s).num = 0
  · rw [h0, show (0 : Int).natAbs = 0 from rfl, nd_zero, zn_zero]; simp
  · have hv : (r * s).num.natAbs ≠ 0 := by omega
    rw [decide_eq_true (nd_pos hv), Bool.and_true, e3]
    have hr0 : r.num.natAbs ≠ 0 := by rintro e; rw [e, Nat.zero_div, Nat.zero_mul] at e1; exact hv e1
    have hs0 : s.num.natAbs ≠ 0 := by rintro e; rw [e, Nat.zero_div, Nat.mul_zero] at e1; exact hv e1
    have := sgn_zn (!(zn r.num == zn s.num)) (r.num.natAbs * s.num.natAbs)
    rw [show sgn (!(zn r.num == zn s.num)) (r.num.natAbs * s.num.natAbs) = r.num * s.num from times_z r.num s.num, decide_eq_true (Nat.mul_ne_zero hr0 hs0), Bool.and_true] at this
    exact this.symm
set_option maxHeartbeats 2000000 in
theorem times_q (r s : Rat) (A D A' D' : Option Addr) (n k n' k' c d c' d' : Nat) (w : World) (hr : Fit r) (hs : Fit s) (hl : ln r.num.natAbs = n) (hm : ln r.den = k) (hl' : ln s.num.natAbs = n') (hm' : ln s.den = k')
    (hA : RdS w A (vi (nd r.num.natAbs))) (hD : RdS w D (vi (nd r.den))) (hA' : RdS w A' (vi (nd s.num.natAbs))) (hD' : RdS w D' (vi (nd s.den))) :
    Calls Tryz.prog 72 #[.agg #[.bool (zn r.num), .slice A n c, .slice D k d], .agg #[.bool (zn s.num), .slice A' n' c', .slice D' k' d']] w (MadeR w.heap.size (qn (mulQ r s)) (ql (mulQ r s)) (qd (mulQ r s)) w) := by
  have hr1 := hr.1; have hr2 := hr.2; have hs1 := hs.1; have hs2 := hs.2
  have hk0 : 0 < k := by have := r.den_pos; rw [← hm, ln_pos this]; omega
  have hk0' : 0 < k' := by have := s.den_pos; rw [← hm', ln_pos this]; omega
  have EX := Lib.hid (fun (p : Bool) (A D : Option Addr) (n k c d : Nat) W (h : Hid (0 < k ∧ k ≤ 24)) => show Calls Tryz.prog 89 #[.agg #[.bool p, .slice A n c, .slice D k d]] W (fun e w' => e = .returned (.bool true) ∧ Below W.heap.size W w') from by have := exists_any p A D n k c d W (by have := h.out; omega); rwa [decide_eq_true h.out.1] at this)
  have hk0 := Lib.hid (show 0 < k ∧ k ≤ 24 from ⟨hk0, by omega⟩)
  have hk0' := Lib.hid (show 0 < k' ∧ k' ≤ 24 from ⟨hk0', by omega⟩)
  obtain ⟨g, hg⟩ : ∃ g, g = Nat.gcd r.num.natAbs s.den := ⟨_, rfl⟩
  obtain ⟨h, hh⟩ : ∃ h, h = Nat.gcd s.num.natAbs r.den := ⟨_, rfl⟩
  obtain ⟨m1, m2, m3, hgp, hhp⟩ := mul_prog r s g h hg hh
  have lg : ln g ≤ 24 := by have := ln_gcd (a := r.num.natAbs) s.den_pos; rw [← hg] at this; omega
  have lh : ln h ≤ 24 := by have := ln_gcd (a := s.num.natAbs) r.den_pos; rw [← hh] at this; omega
  have lg0 : 0 < ln g := by rw [ln_pos hgp]; omega
  have lh0 : 0 < ln h := by rw [ln_pos hhp]; omega
  have l1 := ln_div r.num.natAbs g
  have l2 := ln_div s.num.natAbs h
  have l3 := ln_div r.den h
  have l4 := ln_div s.den g
  have l5 := ln_mul (r.num.natAbs / g) (s.num.natAbs / h)
  have l6 := ln_mul (r.den / h) (s.den / g)
  have G1 := Lib.hid (fun W h h' => impl_gcd r.num.natAbs s.den A D' n c k' d' W hl hm' (by omega) (by omega) h h')
  have G2 := Lib.hid (fun W h h' => impl_gcd s.num.natAbs r.den A' D n' c' k d W hl' hm (by omega) (by omega) h h')
  rw [← hg] at G1
  rw [← hh] at G2
  have D1 := Lib.hid (fun W B e h h' => divided_any r.num.natAbs g A B n c (nd g).length e W hl (nd_length _).symm (by omega) (by rw [nd_length]; omega) (by rw [nd_length]; omega) h h')
  have D2 := Lib.hid (fun W B e h' h'' => divided_any s.num.natAbs h A' B n' c' (nd h).length e W hl' (nd_length _).symm (by omega) (by rw [nd_length]; omega) (by rw [nd_length]; omega) h' h'')
  have D3 := Lib.hid (fun W B e h' h'' => divided_any r.den h D B k d (nd h).length e W hm (nd_length _).symm (by omega) (by rw [nd_length]; omega) (by rw [nd_length]; omega) h' h'')
  have D4 := Lib.hid (fun W B e h' h'' => divided_any s.den g D' B k' d' (nd g).length e W hm' (nd_length _).symm (by omega) (by rw [nd_length]; omega) (by rw [nd_length]; omega) h' h'')
  have HT := Lib.hid (fun W B e B' e' h' h'' => times_any (zn r.num) (zn s.num) (r.num.natAbs / g) (s.num.natAbs / h) B B' (nd (r.num.natAbs / g)).length e (nd (s.num.natAbs / h)).length e' W (nd_length _).symm (nd_length _).symm (by rw [nd_length]; omega) (by rw [nd_length]; omega) h' h'')
  rw [cap60_yes' (show ln ((r.num.natAbs / g) * (s.num.natAbs / h)) ≤ 60 by omega)] at HT
  have HM := Lib.hid (fun W B e B' e' h' h'' => impl_mul (r.den / h) (s.den / g) B B' (nd (r.den / h)).length e (nd (s.den / g)).length e' W (nd_length _).symm (nd_length _).symm (by rw [nd_length]; omega) (by rw [nd_length]; omega) h' h'')
  rw [cap60_yes' (show ln ((r.den / h) * (s.den / g)) ≤ 60 by omega)] at HM
  have HL := Lib.hid (fun C B B' e e' W h1 h2 h3 h4 h5 => limited_q C (r * s) (!(zn r.num == zn s.num)) B B' e e' W (hp_mul r s g h m1 m3) h1 h2 h3 h4 h5)
  rw [m1, m2] at HL
  rw [show cutQ (r * s) = mulQ r s from rfl] at HL
  have RR : Hid (∀ W, Below w.heap.size w W → RdS W A (vi (nd r.num.natAbs)) ∧ RdS W D (vi (nd r.den)) ∧ RdS W A' (vi (nd s.num.natAbs)) ∧ RdS W D' (vi (nd s.den))) := Lib.hid (fun W hb => ⟨hA.below hb, hD.below hb, hA'.below hb, hD'.below hb⟩)
  clear l1 l2 l3 l4 l5 l6 lg lh lg0 lh0 hgp hhp m1 m2 m3 hg hh hr1 hr2 hs1 hs2 hl hl' hm hm' hA hD hA' hD' hr hs
  generalize qn (mulQ r s) = sg at HL ⊢
  generalize ql (mulQ r s) = L at HL ⊢
  generalize qd (mulQ r s) = M at HL ⊢
  generalize nd ((r.num.natAbs / g) * (s.num.natAbs / h)) = Z at HT HL
  generalize nd ((r.den / h) * (s.den / g)) = V at HM HL
  generalize nd (r.num.natAbs / g) = X at D1 HT
  generalize nd (s.num.natAbs / h) = Y at D2 HT
  generalize nd (r.den / h) = U1 at D3 HM
  generalize nd (s.den / g) = U2 at D4 HM
  generalize nd g = G at G1 D1 D4
  generalize nd h = H at G2 D2 D3
  generalize nd r.num.natAbs = La at *
  generalize nd s.num.natAbs = Lb at *
  generalize nd r.den = Da at *
  generalize nd s.den = Db at *
  generalize zn r.num = pr at HT HL ⊢
  generalize zn s.num = ps at HT HL ⊢
  generalize (!(pr == ps)) = pz at HT HL
  go_enter Tryz.func72, Tryz.ntmps72
  go_wp2_with fail
  have kb := ba3 w (.cells #[.bool pr, .slice A n c, .slice D k d] 30) (.cells #[.bool ps, .slice A' n' c', .slice D' k' d'] 30) (.cells #[.bool false, .slice none 0 0, .slice none 0 0] 30)
  obtain ⟨P_r, P_s, P_o⟩ := blocks3 w (.cells #[.bool pr, .slice A n c, .slice D k d] 30) (.cells #[.bool ps, .slice A' n' c', .slice D' k' d'] 30) (.cells #[.bool false, .slice none 0 0, .slice none 0 0] 30)
  generalize ((w.alloc (.cells #[.bool pr, .slice A n c, .slice D k d] 30)).alloc (.cells #[.bool ps, .slice A' n' c', .slice D' k' d'] 30)).alloc (.cells #[.bool false, .slice none 0 0, .slice none 0 0] 30) = W1 at kb P_r P_s P_o ⊢
  obtain ⟨rr, hrr⟩ : ∃ r, r = w.heap.size + 1 + 1 := ⟨_, rfl⟩
  rw [← hrr] at P_o ⊢
  have hrr3 : w.heap.size ≤ rr := by omega
  have nr_r : rr ≠ w.heap.size := by omega
  have nr_s : rr ≠ w.heap.size + 1 := by omega
  clear hrr
  refine (EX.out _ _ _ _ _ _ _ _ hk0).mono ?_
  rintro e W2 ⟨rfl, hb⟩
  replace P_r := rblk_below P_r hb
  replace P_s := rblk_below P_s hb
  replace P_o := rblk_below P_o hb
  replace kb := bt kb hb
  clear hb
  have c_r0 : W2.cell? ⟨w.heap.size, 0, none⟩ = some (.bool pr) := rblk_cell P_r 0
  have c_r1 : W2.cell? ⟨w.heap.size, 1, none⟩ = some (.slice A n c) := rblk_cell P_r 1
  have c_r2 : W2.cell? ⟨w.heap.size, 2, none⟩ = some (.slice D k d) := rblk_cell P_r 2
  have c_s0 : W2.cell? ⟨w.heap.size + 1, 0, none⟩ = some (.bool ps) := rblk_cell P_s 0
  have c_s1 : W2.cell? ⟨w.heap.size + 1, 1, none⟩ = some (.slice A' n' c') := rblk_cell P_s 1
  have c_s2 : W2.cell? ⟨w.heap.size + 1, 2, none⟩ = some (.slice D' k' d') := rblk_cell P_s 2
  go_wp2_with fail
  clear c_r0 c_r1 c_r2 c_s0 c_s1 c_s2
  refine (EX.out _ _ _ _ _ _ _ _ hk0').mono ?_
  rintro e W3 ⟨rfl, hb⟩
  replace P_r := rblk_below P_r hb
  replace P_s := rblk_below P_s hb
  replace P_o := rblk_below P_o hb
  replace kb := bt kb hb
  clear hb
  go_wp2_with fail
  have SB : Hid (∀ w', Below W3.heap.size W3 w' → (w'.cell? ⟨w.heap.size, 0, none⟩ = some (.bool pr) ∧ w'.cell? ⟨w.heap.size, 1, none⟩ = some (.slice A n c) ∧ w'.cell? ⟨w.heap.size, 2, none⟩ = some (.slice D k d) ∧ w'.cell? ⟨w.heap.size + 1, 0, none⟩ = some (.bool ps) ∧ w'.cell? ⟨w.heap.size + 1, 1, none⟩ = some (.slice A' n' c') ∧ w'.cell? ⟨w.heap.size + 1, 2, none⟩ = some (.slice D' k' d') ∧ Below W3.heap.size W3 w')) := Lib.hid (fun w' hB => ⟨rblk_cell (rblk_below P_r hB) 0, rblk_cell (rblk_below P_r hB) 1, rblk_cell (rblk_below P_r hB) 2, rblk_cell (rblk_below P_s hB) 0, rblk_cell (rblk_below P_s hB) 1, rblk_cell (rblk_below P_s hB) 2, hB⟩)
  have KW := Lib.hid kb
  clear kb
  go_region_held3 (fun w' => w'.cell? ⟨w.heap.size, 0, none⟩ = some (.bool pr) ∧ w'.cell? ⟨w.heap.size, 1, none⟩ = some (.slice A n c) ∧ w'.cell? ⟨w.heap.size, 2, none⟩ = some (.slice D k d) ∧ w'.cell? ⟨w.heap.size + 1, 0, none⟩ = some (.bool ps) ∧ w'.cell? ⟨w.heap.size + 1, 1, none⟩ = some (.slice A' n' c') ∧ w'.cell? ⟨w.heap.size + 1, 2, none⟩ = some (.slice D' k' d') ∧ Below W3.heap.size W3 w')
    (first | (exact SB.out _ (Below.refl _ _).drew) | (exact SB.out _ (ba1 _ _).drew) | (exact SB.out _ (ba1 _ _)) | (go_split_ands; exact SB.out _ (bt (by assumption : Below W3.heap.size W3 _) hb)) | (go_split_ands; exact SB.out _ (Below.alloc (by assumption : Below W3.heap.size W3 _) (Below.size (by assumption : Below W3.heap.size W3 _)) _)))
    (first | (go_at_call 91; go_split_ands; ((with_reducible refine (G1.out _ (RR.out _ (bt KW.out (by assumption : Below W3.heap.size W3 _))).1 (RR.out _ (bt KW.out (by assumption : Below W3.heap.size W3 _))).2.2.2).mono ?_); rintro e Wn1_0 ⟨Ag, cg, rfl, og, hb⟩; skip)) | (go_at_call 91; go_split_ands; ((with_reducible refine (G2.out _ (RR.out _ (bt KW.out (by assumption : Below W3.heap.size W3 _))).2.2.1 (RR.out _ (bt KW.out (by assumption : Below W3.heap.size W3 _))).2.1).mono ?_); rintro e Wn1_1 ⟨Ah, ch, rfl, oh, hb⟩; (first | replace og := og.below hb | replace og := (OwnS.drew' og).below hb | replace og := (og.below (ba1 _ _)).below hb | replace og := (OwnS.drew' (og.below (ba1 _ _))).below hb | replace og := ((OwnS.drew' og).below (ba1 _ _)).below hb))))
  have kb := KW.out
  have hb := (‹_ ∧ _ ∧ _ ∧ _ ∧ _ ∧ _ ∧ Below W3.heap.size W3 _›).2.2.2.2.2.2
  replace P_r := rblk_below P_r hb
  replace P_s := rblk_below P_s hb
  replace P_o := rblk_below P_o hb
  replace kb := bt kb hb
  clear hb KW SB
  try clear ‹_ ∧ _›
  go_wp2_with fail
  have SB : Hid (∀ w', Below Wn1_1.heap.size Wn1_1 w' → (w'.cell? ⟨w.heap.size, 0, none⟩ = some (.bool pr) ∧ w'.cell? ⟨w.heap.size, 1, none⟩ = some (.slice A n c) ∧ w'.cell? ⟨w.heap.size, 2, none⟩ = some (.slice D k d) ∧ Below Wn1_1.heap.size Wn1_1 w')) := Lib.hid (fun w' hB => ⟨rblk_cell (rblk_below P_r hB) 0, rblk_cell (rblk_below P_r hB) 1, rblk_cell (rblk_below P_r hB) 2, hB⟩)
  have KW := Lib.hid kb
  go_cut [7] (fun sv wx => CutP Wn1_1 106 (pr) (X) sv wx)
  case first =>
    clear kb
    go_region_held3 (fun w' => w'.cell? ⟨w.heap.size, 0, none⟩ = some (.bool pr) ∧ w'.cell? ⟨w.heap.size, 1, none⟩ = some (.slice A n c) ∧ w'.cell? ⟨w.heap.size, 2, none⟩ = some (.slice D k d) ∧ Below Wn1_1.heap.size Wn1_1 w')
      (first | (exact SB.out _ (Below.refl _ _).drew) | (exact SB.out _ (ba1 _ _).drew) | (exact SB.out _ (ba1 _ _)) | (go_split_ands; exact SB.out _ (bt (by assumption : Below Wn1_1.heap.size Wn1_1 _) hb)) | (go_split_ands; exact SB.out _ (Below.alloc (by assumption : Below Wn1_1.heap.size Wn1_1 _) (Below.size (by assumption : Below Wn1_1.heap.size Wn1_1 _)) _)) | (go_split_ands; exact SB.out _ (below_put2 (by assumption : Below Wn1_1.heap.size Wn1_1 _) (by first | exact Nat.le_refl _ | assumption) _ _)))
      (first | (go_at_call 94; go_split_ands; ((with_reducible refine (D1.out _ _ _ (RR.out _ (bt KW.out (by assumption : Below Wn1_1.heap.size Wn1_1 _))).1 (by first | exact og.rd | exact (OwnS.drew' og).rd | exact (og.below (ba1 _ _)).rd | exact (OwnS.drew' (og.below (ba1 _ _))).rd | exact ((OwnS.drew' og).below (ba1 _ _)).rd)).mono ?_); rintro e Wn0 ⟨Ax, cx, rfl, hcx, ox, hb⟩; skip; have KB0 := (by assumption : Below Wn1_1.heap.size Wn1_1 _); have KB := bt KB0 hb; have hsC := KB.size; have hox := ox.more KB0.size; (first | (have tt := (tt_a hb).1; have hgB := (tt_a hb).2) | (have tt := (tt_b hb).1; have hgB := (tt_b hb).2) | (have hgB := (tt_c tt hb).2; replace tt := (tt_c tt hb).1) | skip); (first | (have t0 := rblk_cell tt 0; have q0 := rblk_free tt 0; have t1 := rblk_cell tt 1; have q1 := rblk_free tt 1) | skip))))
    all_goals (go_wp2_with fail; go_meet; first | exact ⟨_, Ax, cx, rfl, hsC, hcx, heap_alloc_new _ _, hox.below (ba1 _ _), KB.alloc KB.size _⟩ | exact ⟨_, Ax, cx, rfl, (by first | exact Nat.le_refl _ | assumption), hcx, rblk_set (rblk_set tt 0 _) 1 _, (own_put2 ox hgB _ _).more KB0.size, below_put2 KB (by first | exact Nat.le_refl _ | assumption) _ _⟩)
  case rest =>
    obtain ⟨g_x, Ax, cx, rfl, hlo_x, hcx, P_x, ox, hb⟩ := hcut
    have nr_x : rr ≠ g_x := by have h1 := rblk_lt P_o; omega
    obtain ⟨W4, hWn⟩ : ∃ W', W' = wc := ⟨_, rfl⟩
    subst hWn
    replace P_r := rblk_below P_r hb
    replace P_s := rblk_below P_s hb
    replace P_o := rblk_below P_o hb
    replace og := og.below hb
    replace oh := oh.below hb
    replace kb := bt kb hb
    clear hb KW SB
    go_wp2_with fail
    have SB : Hid (∀ w', Below W4.heap.size W4 w' → (w'.cell? ⟨w.heap.size + 1, 0, none⟩ = some (.bool ps) ∧ w'.cell? ⟨w.heap.size + 1, 1, none⟩ = some (.slice A' n' c') ∧ w'.cell? ⟨w.heap.size + 1, 2, none⟩ = some (.slice D' k' d') ∧ Below W4.heap.size W4 w')) := Lib.hid (fun w' hB => ⟨rblk_cell (rblk_below P_s hB) 0, rblk_cell (rblk_below P_s hB) 1, rblk_cell (rblk_below P_s hB) 2, hB⟩)
    have KW := Lib.hid kb
    go_cut [8] (fun sv wx => CutP W4 106 (ps) (Y) sv wx)
    case first =>
      clear kb
      go_region_held3 (fun w' => w'.cell? ⟨w.heap.size + 1, 0, none⟩ = some (.bool ps) ∧ w'.cell? ⟨w.heap.size + 1, 1, none⟩ = some (.slice A' n' c') ∧ w'.cell? ⟨w.heap.size + 1, 2, none⟩ = some (.slice D' k' d') ∧ Below W4.heap.size W4 w')
        (first | (exact SB.out _ (Below.refl _ _).drew) | (exact SB.out _ (ba1 _ _).drew) | (exact SB.out _ (ba1 _ _)) | (go_split_ands; exact SB.out _ (bt (by assumption : Below W4.heap.size W4 _) hb)) | (go_split_ands; exact SB.out _ (Below.alloc (by assumption : Below W4.heap.size W4 _) (Below.size (by assumption : Below W4.heap.size W4 _)) _)) | (go_split_ands; exact SB.out _ (below_put2 (by assumption : Below W4.heap.size W4 _) (by first | exact Nat.le_refl _ | assumption) _ _)))
        (first | (go_at_call 94; go_split_ands; ((with_reducible refine (D2.out _ _ _ (RR.out _ (bt KW.out (by assumption : Below W4.heap.size W4 _))).2.2.1 (by first | exact oh.rd | exact (OwnS.drew' oh).rd | exact (oh.below (ba1 _ _)).rd | exact (OwnS.drew' (oh.below (ba1 _ _))).rd | exact ((OwnS.drew' oh).below (ba1 _ _)).rd)).mono ?_); rintro e Wn0 ⟨Ay, cy, rfl, hcy, oy, hb⟩; skip; have KB0 := (by assumption : Below W4.heap.size W4 _); have KB := bt KB0 hb; have hsC := KB.size; have hoy := oy.more KB0.size; (first | (have tt := (tt_a hb).1; have hgB := (tt_a hb).2) | (have tt := (tt_b hb).1; have hgB := (tt_b hb).2) | (have hgB := (tt_c tt hb).2; replace tt := (tt_c tt hb).1) | skip); (first | (have t0 := rblk_cell tt 0; have q0 := rblk_free tt 0; have t1 := rblk_cell tt 1; have q1 := rblk_free tt 1) | skip))))
      all_goals (go_wp2_with fail; go_meet; first | exact ⟨_, Ay, cy, rfl, hsC, hcy, heap_alloc_new _ _, hoy.below (ba1 _ _), KB.alloc KB.size _⟩ | exact ⟨_, Ay, cy, rfl, (by first | exact Nat.le_refl _ | assumption), hcy, rblk_set (rblk_set tt 0 _) 1 _, (own_put2 oy hgB _ _).more KB0.size, below_put2 KB (by first | exact Nat.le_refl _ | assumption) _ _⟩)
    case rest =>
      obtain ⟨g_y, Ay, cy, rfl, hlo_y, hcy, P_y, oy, hb⟩ := hcut
      have nr_y : rr ≠ g_y := by have h1 := rblk_lt P_o; omega
      obtain ⟨W5, hWn⟩ : ∃ W', W' = wc := ⟨_, rfl⟩
      subst hWn
      replace P_r := rblk_below P_r hb
      replace P_s := rblk_below P_s hb
      replace P_o := rblk_below P_o hb
      replace P_x := rblk_below P_x hb
      replace og := og.below hb
      replace oh := oh.below hb
      replace ox := ox.below hb
      replace kb := bt kb hb
      clear hb KW SB
      go_wp2_with fail
      have hlt6 := rblk_lt P_o
      have hle6 := kb.size
      have SB : Hid (∀ w', Keep3 W5 w' rr → (w'.cell? ⟨w.heap.size, 0, none⟩ = some (.bool pr) ∧ w'.cell? ⟨w.heap.size, 1, none⟩ = some (.slice A n c) ∧ w'.cell? ⟨w.heap.size, 2, none⟩ = some (.slice D k d) ∧ w'.cell? ⟨w.heap.size + 1, 0, none⟩ = some (.bool ps) ∧ w'.cell? ⟨w.heap.size + 1, 1, none⟩ = some (.slice A' n' c') ∧ w'.cell? ⟨w.heap.size + 1, 2, none⟩ = some (.slice D' k' d') ∧ w'.cell? ⟨g_x, 0, none⟩ = some (.bool pr) ∧ w'.cell? ⟨g_x, 1, none⟩ = some (.slice Ax X.length cx) ∧ w'.cell? ⟨g_y, 0, none⟩ = some (.bool ps) ∧ w'.cell? ⟨g_y, 1, none⟩ = some (.slice Ay Y.length cy) ∧ Keep3 W5 w' rr)) := Lib.hid (fun w' hK => ⟨rblk_cell (hK.block P_r nr_r) 0, rblk_cell (hK.block P_r nr_r) 1, rblk_cell (hK.block P_r nr_r) 2, rblk_cell (hK.block P_s nr_s) 0, rblk_cell (hK.block P_s nr_s) 1, rblk_cell (hK.block P_s nr_s) 2, rblk_cell (hK.block P_x nr_x) 0, rblk_cell (hK.block P_x nr_x) 1, rblk_cell (hK.block P_y nr_y) 0, rblk_cell (hK.block P_y nr_y) 1, hK⟩)
      have KW := Lib.hid kb
      have KST := Keep3.start P_o
      clear kb
      go_region_held3 (fun w' => w'.cell? ⟨w.heap.size, 0, none⟩ = some (.bool pr) ∧ w'.cell? ⟨w.heap.size, 1, none⟩ = some (.slice A n c) ∧ w'.cell? ⟨w.heap.size, 2, none⟩ = some (.slice D k d) ∧ w'.cell? ⟨w.heap.size + 1, 0, none⟩ = some (.bool ps) ∧ w'.cell? ⟨w.heap.size + 1, 1, none⟩ = some (.slice A' n' c') ∧ w'.cell? ⟨w.heap.size + 1, 2, none⟩ = some (.slice D' k' d') ∧ w'.cell? ⟨g_x, 0, none⟩ = some (.bool pr) ∧ w'.cell? ⟨g_x, 1, none⟩ = some (.slice Ax X.length cx) ∧ w'.cell? ⟨g_y, 0, none⟩ = some (.bool ps) ∧ w'.cell? ⟨g_y, 1, none⟩ = some (.slice Ay Y.length cy) ∧ Keep3 W5 w' rr)
        (first | (exact SB.out _ KST.drew) | (exact SB.out _ KST) | (exact SB.out _ (KST.below (ba1 _ _))) | (exact SB.out _ (KST.drew.below (ba1 _ _))) | (go_split_ands; exact SB.out _ (Keep3.below (by assumption : Keep3 W5 _ rr) hb)) | (go_split_ands; exact SB.out _ (Keep3.put3 (by assumption : Keep3 W5 _ rr) _ _ _)) | (go_split_ands; exact SB.out _ (Keep3.below (by assumption : Keep3 W5 _ rr) (ba1 _ _))))
        (first | (go_at_call 98; go_split_ands; ((with_reducible refine (HT.out _ _ _ _ _ (by first | exact ox.rd | exact (OwnS.drew' ox).rd | exact (ox.below (ba1 _ _)).rd | exact (OwnS.drew' (ox.below (ba1 _ _))).rd | exact ((OwnS.drew' ox).below (ba1 _ _)).rd) (by first | exact oy.rd | exact (OwnS.drew' oy).rd | exact (oy.below (ba1 _ _)).rd | exact (OwnS.drew' (oy.below (ba1 _ _))).rd | exact ((OwnS.drew' oy).below (ba1 _ _)).rd)).mono ?_); rintro e Wn2_0 ⟨Az, cz, rfl, hcz, oz, hb⟩; replace oz := oz.more (Keep3.size (by assumption : Keep3 W5 _ rr)); have iz := oz.inR (vi_length Z); (first | replace og := og.below hb | replace og := (OwnS.drew' og).below hb | replace og := (og.below (ba1 _ _)).below hb | replace og := (OwnS.drew' (og.below (ba1 _ _))).below hb | replace og := ((OwnS.drew' og).below (ba1 _ _)).below hb); (first | replace oh := oh.below hb | replace oh := (OwnS.drew' oh).below hb | replace oh := (oh.below (ba1 _ _)).below hb | replace oh := (OwnS.drew' (oh.below (ba1 _ _))).below hb | replace oh := ((OwnS.drew' oh).below (ba1 _ _)).below hb))) | (go_at_call 94; go_split_ands; ((with_reducible refine (D3.out _ _ _ (RR.out _ (Keep3.base (by assumption : Keep3 W5 _ rr) KW.out hrr3)).2.1 (by first | exact oh.rd | exact (OwnS.drew' oh).rd | exact (oh.below (ba1 _ _)).rd | exact (OwnS.drew' (oh.below (ba1 _ _))).rd | exact ((OwnS.drew' oh).below (ba1 _ _)).rd)).mono ?_); rintro e Wn2_1 ⟨Ap, cp, rfl, hcp, op, hb⟩; have hz1 := hb.size; (first | replace og := og.below hb | replace og := (OwnS.drew' og).below hb | replace og := (og.below (ba1 _ _)).below hb | replace og := (OwnS.drew' (og.below (ba1 _ _))).below hb | replace og := ((OwnS.drew' og).below (ba1 _ _)).below hb); (first | replace oh := oh.below hb | replace oh := (OwnS.drew' oh).below hb | replace oh := (oh.below (ba1 _ _)).below hb | replace oh := (OwnS.drew' (oh.below (ba1 _ _))).below hb | replace oh := ((OwnS.drew' oh).below (ba1 _ _)).below hb); (first | replace oz := oz.below hb | replace oz := (OwnS.drew' oz).below hb | replace oz := (oz.below (ba1 _ _)).below hb | replace oz := (OwnS.drew' (oz.below (ba1 _ _))).below hb | replace oz := ((OwnS.drew' oz).below (ba1 _ _)).below hb))) | (go_at_call 94; go_split_ands; ((with_reducible refine (D4.out _ _ _ (RR.out _ (Keep3.base (by assumption : Keep3 W5 _ rr) KW.out hrr3)).2.2.2 (by first | exact og.rd | exact (OwnS.drew' og).rd | exact (og.below (ba1 _ _)).rd | exact (OwnS.drew' (og.below (ba1 _ _))).rd | exact ((OwnS.drew' og).below (ba1 _ _)).rd)).mono ?_); rintro e Wn2_2 ⟨Aq, cq, rfl, hcq, oq, hb⟩; have hz2 := hb.size; (first | replace oz := oz.below hb | replace oz := (OwnS.drew' oz).below hb | replace oz := (oz.below (ba1 _ _)).below hb | replace oz := (OwnS.drew' (oz.below (ba1 _ _))).below hb | replace oz := ((OwnS.drew' oz).below (ba1 _ _)).below hb); (first | replace op := op.below hb | replace op := (OwnS.drew' op).below hb | replace op := (op.below (ba1 _ _)).below hb | replace op := (OwnS.drew' (op.below (ba1 _ _))).below hb | replace op := ((OwnS.drew' op).below (ba1 _ _)).below hb))) | (go_at_call 97; go_split_ands; ((with_reducible refine (HM.out _ _ _ _ _ op.rd oq.rd).mono ?_); rintro e Wn2_3 ⟨Am, cm, rfl, hcm, om, hb⟩; have hap0 := iz.apart (om.inR (vi_length V)) (.inl (Nat.le_trans hz1 hz2)); replace om := om.more (Keep3.size (by assumption : Keep3 W5 _ rr)); (first | replace oz := oz.below hb | replace oz := (OwnS.drew' oz).below hb | replace oz := (oz.below (ba1 _ _)).below hb | replace oz := (OwnS.drew' (oz.below (ba1 _ _))).below hb | replace oz := ((OwnS.drew' oz).below (ba1 _ _)).below hb))) | (go_at_call 96; go_split_ands; ((with_reducible refine (HL.out _ _ _ _ _ _ hcz hcm oz om hap0).mono ?_); rintro e Wn2_4 ⟨A3, c3, D3, d3, rfl, hc3, hd3, o3, o4, hap3, hb⟩; have KL := Keep3.below (by assumption : Keep3 W5 _ rr) hb; obtain ⟨u0, u1, u2, t0, t1, t2, t3, t4, t5⟩ := KL.cells)))
      all_goals
        have hfin := (‹_ ∧ _ ∧ _ ∧ _ ∧ _ ∧ _ ∧ _ ∧ _ ∧ _ ∧ _ ∧ Keep3 W5 _ rr›).2.2.2.2.2.2.2.2.2.2
        go_wp2
        exact bodyPost_ret (v := .agg #[.bool sg, .slice A3 L.length c3, .slice D3 M.length d3]) (by simp [results, Tryz.results72, go_sem, t0, t1, t2]) rfl ⟨A3, c3, D3, d3, rfl, hc3, hd3, (own_put3 o3 hlt6 _ _ _).more hle6, (own_put3 o4 hlt6 _ _ _).more hle6, hap3, hfin.base KW.out hrr3⟩
end Go.Proofs.YtennekieiioilaaGreat

namespace Go.Proofs.YtennekieiioilaaGreat
open Go.ChangeShapes Go.WideShapes Go.ChangeAt Go.RowKit
open Go.ChangeMaps (open_string shut_string)
set_option linter.unusedVariables false
set_option linter.unusedSimpArgs false
set_option maxRecDepth 4000

attribute [local go_sem ↓] Go.wp_at_zero Go.wp_at_succ

theorem OwnS.putR {B lo hi b o : Nat} {w : World} {A : Option Addr} {l : List Int} (h : OwnS B w A (vi l)) (hr : InR l.length A lo hi) (hb : b < lo ∨ hi ≤ b) (v : Value) : OwnS B (w.setCell ⟨b, o, none⟩ v) A (vi l) := by
  rcases h with h | ⟨g, ha, hB, hs, hc, hf⟩
  · exact .inl h
  · by_cases h0 : l.length = 0
    · exact .inl (by rw [List.eq_nil_of_length_eq_zero h0]; rfl)
    · have hg := hr g (by rw [rowOf, if_neg h0, ha]; rfl)
      refine .inr ⟨g, ha, hB, by simpa [World.setCell] using hs, fun j hj => ?_, fun j hj => ?_⟩
      · rw [World.cell?_setCell_other w ⟨b, o, none⟩ ⟨g, j, none⟩ v (by intro q; injection q with q1 _; omega)]
        exact hc j hj
      · rw [World.frozen?_setCell]; exact hf j hj
theorem hp_add (p : Bool) (N : Int) (e : Nat) (h : sgn p N.natAbs = N) (he : 0 < e) (hd : e ∣ N.natAbs) : (p && decide (nd (N.natAbs / e) ≠ [])) = zn N := by
  have h1 := sgn_zn p N.natAbs
  rw [h] at h1
  rw [h1]
  congr 1
  by_cases h0 : N.natAbs = 0
  · rw [h0, Nat.zero_div, nd_zero]; simp
  · have := Nat.div_pos (Nat.le_of_dvd (by omega) hd) he
    rw [decide_eq_true h0, decide_eq_true (nd_pos (by omega))]
theorem plus_n (x y : Int) : plusN (zn x) x.natAbs (zn y) y.natAbs = (x + y).natAbs ∧ sgn (plusB (zn x) x.natAbs (zn y) y.natAbs) (x + y).natAbs = x + y := by
  have h : sgn (plusB (zn x) x.natAbs (zn y) y.natAbs) (plusN (zn x) x.natAbs (zn y) y.natAbs) = x + y := plus_z x y
  have h2 : plusN (zn x) x.natAbs (zn y) y.natAbs = (x + y).natAbs := by rw [← h, sgn_abs]
  rw [h2] at h
  exact ⟨h2, h⟩
set_option maxHeartbeats 4000000 in
theorem plus_q (r s : Rat) (A D A' D' : Option Addr) (n k n' k' c d c' d' : Nat) (w : World) (hr : Fit r) (hs : Fit s) (hl : ln r.num.natAbs = n) (hm : ln r.den = k) (hl' : ln s.num.natAbs = n') (hm' : ln s.den = k')
    (hA : RdS w A (vi (nd r.num.natAbs))) (hD : RdS w D (vi (nd r.den))) (hA' : RdS w A' (vi (nd s.num.natAbs))) (hD' : RdS w D' (vi (nd s.den))) :
    Calls Tryz.prog 71 #[.agg #[.bool (zn r.num), .slice A n c, .slice D k d], .agg #[.bool (zn s.num), .slice A' n' c', .slice D' k' d']] w (MadeR w.heap.size (qn (addQ r s)) (ql (addQ r s)) (qd (addQ r s)) w) := by
  have hr1 := hr.1; have hr2 := hr.2; have hs1 := hs.1; have hs2 := hs.2
  have hk0 : 0 < k := by have := r.den_pos; rw [← hm, ln_pos this]; omega
  have hk0' : 0 < k' := by have := s.den_pos; rw [← hm', ln_pos this]; omega
  have EX := Lib.hid (fun (p : Bool) (A D : Option Addr) (n k c d : Nat) W (h : Hid (0 < k ∧ k ≤ 24)) => show Calls Tryz.prog 89 #[.agg #[.bool p, .slice A n c, .slice D k d]] W (fun e w' => e = .returned (.bool true) ∧ Below W.heap.size W w') from by have := exists_any p A D n k c d W (by have := h.out; omega); rwa [decide_eq_true h.out.1] at this)
  have hk0 := Lib.hid (show 0 < k ∧ k ≤ 24 from ⟨hk0, by omega⟩)
  have hk0' := Lib.hid (show 0 < k' ∧ k' ≤ 24 from ⟨hk0', by omega⟩)
  obtain ⟨g, hg⟩ : ∃ g, g = Nat.gcd r.den s.den := ⟨_, rfl⟩
  obtain ⟨N, hN⟩ : ∃ N, N = r.num * ((s.den / g : Nat) : Int) + s.num * ((r.den / g : Nat) : Int) := ⟨_, rfl⟩
  obtain ⟨e, he⟩ : ∃ e, e = Nat.gcd N.natAbs g := ⟨_, rfl⟩
  obtain ⟨m1, m2, m3, hgp, hep⟩ := add_prog r s g N e hg hN he
  have hgr : g ∣ r.den := by rw [hg]; exact Nat.gcd_dvd_left _ _
  have hgs : g ∣ s.den := by rw [hg]; exact Nat.gcd_dvd_right _ _
  have heN : e ∣ N.natAbs := by rw [he]; exact Nat.gcd_dvd_left _ _
  have lg : ln g ≤ 24 := by have := ln_mono (Nat.le_of_dvd r.den_pos hgr); omega
  have le_ : ln e ≤ 24 := by have := ln_gcd (a := N.natAbs) hgp; rw [← he] at this; omega
  have lg0 : 0 < ln g := by rw [ln_pos hgp]; omega
  have le0 : 0 < ln e := by rw [ln_pos hep]; omega
  have la0 : 0 < r.den / g := Nat.div_pos (Nat.le_of_dvd r.den_pos hgr) hgp
  have lb0 : 0 < s.den / g := Nat.div_pos (Nat.le_of_dvd s.den_pos hgs) hgp
  have l1 := ln_div r.den g
  have l2 := ln_div s.den g
  have l3 := ln_div s.den e
  have l4 := ln_mul r.num.natAbs (s.den / g)
  have l5 := ln_mul s.num.natAbs (r.den / g)
  have l6 := ln_mul (r.den / g) (s.den / e)
  have l7 : ln N.natAbs ≤ 49 := by rw [hN]; exact ln_zadd (k := 48) (by rw [Int.natAbs_mul, Int.natAbs_natCast]; omega) (by rw [Int.natAbs_mul, Int.natAbs_natCast]; omega)
  have G1 := Lib.hid (fun W h h' => impl_gcd r.den s.den D D' k d k' d' W hm hm' (by omega) (by omega) h h')
  rw [← hg] at G1
  have E1 := Lib.hid (fun W B e h h' => divided_any s.den g D' B k' d' (nd g).length e W hm' (nd_length _).symm (by omega) (by rw [nd_length]; omega) (by rw [nd_length]; omega) h h')
  have E2 := Lib.hid (fun W B e h h' => divided_any r.den g D B k d (nd g).length e W hm (nd_length _).symm (by omega) (by rw [nd_length]; omega) (by rw [nd_length]; omega) h h')
  have SC1 := Lib.hid (fun W B e h h' => scaled_den r.num (s.den / g) A D B n k (nd (s.den / g)).length c d e W lb0 (by omega) hl (nd_length _).symm (by omega) (by rw [nd_length]; omega) h h')
  have SC2 := Lib.hid (fun W B e h h' => scaled_den s.num (r.den / g) A' D' B n' k' (nd (r.den / g)).length c' d' e W la0 (by omega) hl' (nd_length _).symm (by omega) (by rw [nd_length]; omega) h h')
  have HP := Lib.hid (fun W B e B' e' h h' => plus_any (zn (r.num * ((s.den / g : Nat) : Int))) (zn (s.num * ((r.den / g : Nat) : Int))) (r.num * ((s.den / g : Nat) : Int)).natAbs (s.num * ((r.den / g : Nat) : Int)).natAbs B B' (zm (r.num * ((s.den / g : Nat) : Int))).length e (zm (s.num * ((r.den / g : Nat) : Int))).length e' W (zm_length _).symm (zm_length _).symm (by rw [zm_length, Int.natAbs_mul, Int.natAbs_natCast]; omega) (by rw [zm_length, Int.natAbs_mul, Int.natAbs_natCast]; omega) h h')
  obtain ⟨q1, q2⟩ := plus_n (r.num * ((s.den / g : Nat) : Int)) (s.num * ((r.den / g : Nat) : Int))
  rw [← hN] at q1 q2
  rw [q1, cap60_yes' (show ln N.natAbs ≤ 60 by omega)] at HP
  simp only [show ∀ z : Int, nd z.natAbs = zm z from fun z => rfl] at HP
  have G2 := Lib.hid (fun W B e B' e' h h' => impl_gcd N.natAbs g B B' (zm N).length e (nd g).length e' W (zm_length _).symm (nd_length _).symm (by rw [zm_length]; omega) (by rw [nd_length]; omega) h h')
  rw [← he, show nd N.natAbs = zm N from rfl] at G2
  have D5 := Lib.hid (fun W A0 c0 B e' h h' => divided_any N.natAbs e A0 B (zm N).length c0 (nd e).length e' W (zm_length _).symm (nd_length _).symm (by rw [zm_length]; omega) (by rw [nd_length]; omega) (by rw [nd_length]; omega) h h')
  have D3 := Lib.hid (fun W B e h h' => divided_any r.den g D B k d (nd g).length e W hm (nd_length _).symm (by omega) (by rw [nd_length]; omega) (by rw [nd_length]; omega) h h')
  have D4 := Lib.hid (fun W B e' h h' => divided_any s.den e D' B k' d' (nd e).length e' W hm' (nd_length _).symm (by omega) (by rw [nd_length]; omega) (by rw [nd_length]; omega) h h')
  have HM := Lib.hid (fun W B e1 B' e' h' h'' => impl_mul (r.den / g) (s.den / e) B B' (nd (r.den / g)).length e1 (nd (s.den / e)).length e' W (nd_length _).symm (nd_length _).symm (by rw [nd_length]; omega) (by rw [nd_length]; omega) h' h'')
  rw [cap60_yes' (show ln ((r.den / g) * (s.den / e)) ≤ 60 by omega)] at HM
  have hp := hp_add _ N e q2 hep heN
  have HL := Lib.hid (fun C B B' e1 e' W h1 h2 h3 h4 h5 => limited_q C (r + s) (plusB (zn (r.num * ((s.den / g : Nat) : Int))) (r.num * ((s.den / g : Nat) : Int)).natAbs (zn (s.num * ((r.den / g : Nat) : Int))) (s.num * ((r.den / g : Nat) : Int)).natAbs) B B' e1 e' W (by rw [m1, m3]; exact hp) h1 h2 h3 h4 h5)
  rw [m1, m2] at HL
  rw [show cutQ (r + s) = addQ r s from rfl] at HL
  have RR : Hid (∀ W, Below w.heap.size w W → RdS W A (vi (nd r.num.natAbs)) ∧ RdS W D (vi (nd r.den)) ∧ RdS W A' (vi (nd s.num.natAbs)) ∧ RdS W D' (vi (nd s.den))) := Lib.hid (fun W hb => ⟨hA.below hb, hD.below hb, hA'.below hb, hD'.below hb⟩)
  clear hp q1 q2 l1 l2 l3 l4 l5 l6 l7 lg le_ lg0 le0 la0 lb0 hgr hgs heN hgp hep m1 m2 m3 hg hN he hr1 hr2 hs1 hs2 hl hl' hm hm' hA hD hA' hD' hr hs
  generalize qn (addQ r s) = sg at HL ⊢
  generalize ql (addQ r s) = L at HL ⊢
  generalize qd (addQ r s) = M at HL ⊢
  generalize plusB (zn (r.num * ((s.den / g : Nat) : Int))) (r.num * ((s.den / g : Nat) : Int)).natAbs (zn (s.num * ((r.den / g : Nat) : Int))) (s.num * ((r.den / g : Nat) : Int)).natAbs = pz at HP HL
  generalize zm (r.num * ((s.den / g : Nat) : Int)) = X1 at SC1 HP
  generalize zm (s.num * ((r.den / g : Nat) : Int)) = Y1 at SC2 HP
  generalize zn (r.num * ((s.den / g : Nat) : Int)) = z1 at SC1 HP
  generalize zn (s.num * ((r.den / g : Nat) : Int)) = z2 at SC2 HP
  simp only [show ∀ z : Int, nd z.natAbs = zm z from fun z => rfl] at D5
  generalize zm N = N1 at HP G2 D5
  generalize nd (N.natAbs / e) = SW at D5 HL
  generalize nd ((r.den / g) * (s.den / e)) = V at HM HL
  generalize nd (r.den / g) = U1 at E2 SC2 D3 HM
  generalize nd (s.den / e) = U2 at D4 HM
  generalize nd (s.den / g) = U3 at E1 SC1
  generalize nd g = G at G1 E1 E2 G2 D3
  generalize nd e = EE at G2 D5 D4
  generalize nd r.num.natAbs = La at *
  generalize nd s.num.natAbs = Lb at *
  generalize nd r.den = Da at *
  generalize nd s.den = Db at *
  generalize zn r.num = pr at SC1 ⊢
  generalize zn s.num = ps at SC2 ⊢
  go_enter Tryz.func71, Tryz.ntmps71
  go_wp2_with fail
  have kb := ba3 w (.cells #[.bool pr, .slice A n c, .slice D k d] 30) (.cells #[.bool ps, .slice A' n' c', .slice D' k' d'] 30) (.cells #[.bool false, .slice none 0 0, .slice none 0 0] 30)
  obtain ⟨P_r, P_s, P_o⟩ := blocks3 w (.cells #[.bool pr, .slice A n c, .slice D k d] 30) (.cells #[.bool ps, .slice A' n' c', .slice D' k' d'] 30) (.cells #[.bool false, .slice none 0 0, .slice none 0 0] 30)
  generalize ((w.alloc (.cells #[.bool pr, .slice A n c, .slice D k d] 30)).alloc (.cells #[.bool ps, .slice A' n' c', .slice D' k' d'] 30)).alloc (.cells #[.bool false, .slice none 0 0, .slice none 0 0] 30) = W1 at kb P_r P_s P_o ⊢
  obtain ⟨rr, hrr⟩ : ∃ r, r = w.heap.size + 1 + 1 := ⟨_, rfl⟩
  rw [← hrr] at P_o ⊢
  have hrr3 : w.heap.size ≤ rr := by omega
  have nr_r : rr ≠ w.heap.size := by omega
  have nr_s : rr ≠ w.heap.size + 1 := by omega
  clear hrr
  refine (EX.out _ _ _ _ _ _ _ _ hk0).mono ?_
  rintro e W2 ⟨rfl, hb⟩
  replace P_r := rblk_below P_r hb
  replace P_s := rblk_below P_s hb
  replace P_o := rblk_below P_o hb
  replace kb := bt kb hb
  clear hb
  have c_r0 : W2.cell? ⟨w.heap.size, 0, none⟩ = some (.bool pr) := rblk_cell P_r 0
  have c_r1 : W2.cell? ⟨w.heap.size, 1, none⟩ = some (.slice A n c) := rblk_cell P_r 1
  have c_r2 : W2.cell? ⟨w.heap.size, 2, none⟩ = some (.slice D k d) := rblk_cell P_r 2
  have c_s0 : W2.cell? ⟨w.heap.size + 1, 0, none⟩ = some (.bool ps) := rblk_cell P_s 0
  have c_s1 : W2.cell? ⟨w.heap.size + 1, 1, none⟩ = some (.slice A' n' c') := rblk_cell P_s 1
  have c_s2 : W2.cell? ⟨w.heap.size + 1, 2, none⟩ = some (.slice D' k' d') := rblk_cell P_s 2
  go_wp2_with fail
  clear c_r0 c_r1 c_r2 c_s0 c_s1 c_s2
  refine (EX.out _ _ _ _ _ _ _ _ hk0').mono ?_
  rintro e W3 ⟨rfl, hb⟩
  replace P_r := rblk_below P_r hb
  replace P_s := rblk_below P_s hb
  replace P_o := rblk_below P_o hb
  replace kb := bt kb hb
  clear hb
  have c_r0 : W3.cell? ⟨w.heap.size, 0, none⟩ = some (.bool pr) := rblk_cell P_r 0
  have c_r1 : W3.cell? ⟨w.heap.size, 1, none⟩ = some (.slice A n c) := rblk_cell P_r 1
  have c_r2 : W3.cell? ⟨w.heap.size, 2, none⟩ = some (.slice D k d) := rblk_cell P_r 2
  have c_s0 : W3.cell? ⟨w.heap.size + 1, 0, none⟩ = some (.bool ps) := rblk_cell P_s 0
  have c_s1 : W3.cell? ⟨w.heap.size + 1, 1, none⟩ = some (.slice A' n' c') := rblk_cell P_s 1
  have c_s2 : W3.cell? ⟨w.heap.size + 1, 2, none⟩ = some (.slice D' k' d') := rblk_cell P_s 2
  go_wp2_with fail
  clear c_r0 c_r1 c_r2 c_s0 c_s1 c_s2
  refine (G1.out _ (RR.out _ kb).2.1 (RR.out _ kb).2.2.2).mono ?_
  rintro e W4 ⟨Ag, cg, rfl, og, hb⟩
  replace P_r := rblk_below P_r hb
  replace P_s := rblk_below P_s hb
  replace P_o := rblk_below P_o hb
  replace kb := bt kb hb
  clear hb
  have in_og := og.inR (vi_length G)
  have hlt_r := rblk_lt P_r
  have hlt_s := rblk_lt P_s
  go_wp2_with fail
  have SB : Hid (∀ w', Below W4.heap.size W4 w' → (w'.cell? ⟨w.heap.size, 0, none⟩ = some (.bool pr) ∧ w'.cell? ⟨w.heap.size, 1, none⟩ = some (.slice A n c) ∧ w'.cell? ⟨w.heap.size, 2, none⟩ = some (.slice D k d) ∧ w'.cell? ⟨w.heap.size + 1, 0, none⟩ = some (.bool ps) ∧ w'.cell? ⟨w.heap.size + 1, 1, none⟩ = some (.slice A' n' c') ∧ w'.cell? ⟨w.heap.size + 1, 2, none⟩ = some (.slice D' k' d') ∧ Below W4.heap.size W4 w')) := Lib.hid (fun w' hB => ⟨rblk_cell (rblk_below P_r hB) 0, rblk_cell (rblk_below P_r hB) 1, rblk_cell (rblk_below P_r hB) 2, rblk_cell (rblk_below P_s hB) 0, rblk_cell (rblk_below P_s hB) 1, rblk_cell (rblk_below P_s hB) 2, hB⟩)
  have KW := Lib.hid kb
  go_cut [6] (fun sv wx => CutP W4 106 (pz) (N1) sv wx)
  case first =>
    clear kb
    go_region_held3 (fun w' => w'.cell? ⟨w.heap.size, 0, none⟩ = some (.bool pr) ∧ w'.cell? ⟨w.heap.size, 1, none⟩ = some (.slice A n c) ∧ w'.cell? ⟨w.heap.size, 2, none⟩ = some (.slice D k d) ∧ w'.cell? ⟨w.heap.size + 1, 0, none⟩ = some (.bool ps) ∧ w'.cell? ⟨w.heap.size + 1, 1, none⟩ = some (.slice A' n' c') ∧ w'.cell? ⟨w.heap.size + 1, 2, none⟩ = some (.slice D' k' d') ∧ Below W4.heap.size W4 w')
      (first | (exact SB.out _ (Below.refl _ _).drew) | (exact SB.out _ (ba1 _ _).drew) | (exact SB.out _ (ba1 _ _)) | (go_split_ands; exact SB.out _ (bt (by assumption : Below W4.heap.size W4 _) hb)) | (go_split_ands; exact SB.out _ (Below.alloc (by assumption : Below W4.heap.size W4 _) (Below.size (by assumption : Below W4.heap.size W4 _)) _)) | (go_split_ands; exact SB.out _ (below_put2 (by assumption : Below W4.heap.size W4 _) (by first | exact Nat.le_refl _ | assumption) _ _)))
      (first | (go_at_call 94; go_split_ands; ((with_reducible refine (E1.out _ _ _ (RR.out _ (bt KW.out (by assumption : Below W4.heap.size W4 _))).2.2.2 (by first | exact og.rd | exact (OwnS.drew' og).rd | exact (og.below (ba1 _ _)).rd | exact (OwnS.drew' (og.below (ba1 _ _))).rd | exact ((OwnS.drew' og).below (ba1 _ _)).rd)).mono ?_); rintro e Wn0 ⟨A1, c1, rfl, hc1, o1, hb⟩; have hs0 := (bt (by assumption : Below W4.heap.size W4 _) hb).size; (first | (have tt := (tt_a hb).1; have hgB := (tt_a hb).2) | (have tt := (tt_b hb).1; have hgB := (tt_b hb).2) | (have hgB := (tt_c tt hb).2; replace tt := (tt_c tt hb).1) | skip); (first | replace og := og.below hb | replace og := (OwnS.drew' og).below hb | replace og := (og.below (ba1 _ _)).below hb | replace og := (OwnS.drew' (og.below (ba1 _ _))).below hb | replace og := ((OwnS.drew' og).below (ba1 _ _)).below hb))) | (go_at_call 93; go_split_ands; ((with_reducible refine (SC1.out _ _ _ (RR.out _ (bt KW.out (by assumption : Below W4.heap.size W4 _))).1 (by first | exact o1.rd | exact (OwnS.drew' o1).rd | exact (o1.below (ba1 _ _)).rd | exact (OwnS.drew' (o1.below (ba1 _ _))).rd | exact ((OwnS.drew' o1).below (ba1 _ _)).rd)).mono ?_); rintro e Wn1 ⟨A2, c2, rfl, hc2, o2, hb⟩; have hs1 := (bt (by assumption : Below W4.heap.size W4 _) hb).size; (first | (have tt := (tt_a hb).1; have hgB := (tt_a hb).2) | (have tt := (tt_b hb).1; have hgB := (tt_b hb).2) | (have hgB := (tt_c tt hb).2; replace tt := (tt_c tt hb).1) | skip); (first | replace og := og.below hb | replace og := (OwnS.drew' og).below hb | replace og := (og.below (ba1 _ _)).below hb | replace og := (OwnS.drew' (og.below (ba1 _ _))).below hb | replace og := ((OwnS.drew' og).below (ba1 _ _)).below hb))) | (go_at_call 94; go_split_ands; ((with_reducible refine (E2.out _ _ _ (RR.out _ (bt KW.out (by assumption : Below W4.heap.size W4 _))).2.1 (by first | exact og.rd | exact (OwnS.drew' og).rd | exact (og.below (ba1 _ _)).rd | exact (OwnS.drew' (og.below (ba1 _ _))).rd | exact ((OwnS.drew' og).below (ba1 _ _)).rd)).mono ?_); rintro e Wn2 ⟨A4, c4, rfl, hc4, o4, hb⟩; have hs2 := (bt (by assumption : Below W4.heap.size W4 _) hb).size; (first | (have tt := (tt_a hb).1; have hgB := (tt_a hb).2) | (have tt := (tt_b hb).1; have hgB := (tt_b hb).2) | (have hgB := (tt_c tt hb).2; replace tt := (tt_c tt hb).1) | skip); (first | replace o2 := o2.below hb | replace o2 := (OwnS.drew' o2).below hb | replace o2 := (o2.below (ba1 _ _)).below hb | replace o2 := (OwnS.drew' (o2.below (ba1 _ _))).below hb | replace o2 := ((OwnS.drew' o2).below (ba1 _ _)).below hb))) | (go_at_call 93; go_split_ands; ((with_reducible refine (SC2.out _ _ _ (RR.out _ (bt KW.out (by assumption : Below W4.heap.size W4 _))).2.2.1 (by first | exact o4.rd | exact (OwnS.drew' o4).rd | exact (o4.below (ba1 _ _)).rd | exact (OwnS.drew' (o4.below (ba1 _ _))).rd | exact ((OwnS.drew' o4).below (ba1 _ _)).rd)).mono ?_); rintro e Wn3 ⟨A5, c5, rfl, hc5, o5, hb⟩; have hs3 := (bt (by assumption : Below W4.heap.size W4 _) hb).size; (first | (have tt := (tt_a hb).1; have hgB := (tt_a hb).2) | (have tt := (tt_b hb).1; have hgB := (tt_b hb).2) | (have hgB := (tt_c tt hb).2; replace tt := (tt_c tt hb).1) | skip); (first | replace o2 := o2.below hb | replace o2 := (OwnS.drew' o2).below hb | replace o2 := (o2.below (ba1 _ _)).below hb | replace o2 := (OwnS.drew' (o2.below (ba1 _ _))).below hb | replace o2 := ((OwnS.drew' o2).below (ba1 _ _)).below hb))) | (go_at_call 95; go_split_ands; ((with_reducible refine (HP.out _ _ _ _ _ (by first | exact o2.rd | exact (OwnS.drew' o2).rd | exact (o2.below (ba1 _ _)).rd | exact (OwnS.drew' (o2.below (ba1 _ _))).rd | exact ((OwnS.drew' o2).below (ba1 _ _)).rd) (by first | exact o5.rd | exact (OwnS.drew' o5).rd | exact (o5.below (ba1 _ _)).rd | exact (OwnS.drew' (o5.below (ba1 _ _))).rd | exact ((OwnS.drew' o5).below (ba1 _ _)).rd)).mono ?_); rintro e Wn4 ⟨Am, cm, rfl, hcm, om, hb⟩; skip; have KB0 := (by assumption : Below W4.heap.size W4 _); have KB := bt KB0 hb; have hsC := KB.size; have hom := om.more KB0.size; (first | (have tt := (tt_a hb).1; have hgB := (tt_a hb).2) | (have tt := (tt_b hb).1; have hgB := (tt_b hb).2) | (have hgB := (tt_c tt hb).2; replace tt := (tt_c tt hb).1) | skip); (first | (have t0 := rblk_cell tt 0; have q0 := rblk_free tt 0; have t1 := rblk_cell tt 1; have q1 := rblk_free tt 1) | skip))))
    all_goals (go_wp2_with fail; go_meet; first | exact ⟨_, Am, cm, rfl, hsC, hcm, heap_alloc_new _ _, hom.below (ba1 _ _), KB.alloc KB.size _⟩ | exact ⟨_, Am, cm, rfl, (by first | exact Nat.le_refl _ | assumption), hcm, rblk_set (rblk_set tt 0 _) 1 _, (own_put2 om hgB _ _).more KB0.size, below_put2 KB (by first | exact Nat.le_refl _ | assumption) _ _⟩)
  case rest =>
    obtain ⟨g_m, Am, cm, rfl, hlo_m, hcm, P_m, om, hb⟩ := hcut
    have nr_m : rr ≠ g_m := by have h1 := rblk_lt P_o; omega
    obtain ⟨W5, hWn⟩ : ∃ W', W' = wc := ⟨_, rfl⟩
    subst hWn
    replace P_r := rblk_below P_r hb
    replace P_s := rblk_below P_s hb
    replace P_o := rblk_below P_o hb
    replace og := og.below hb
    replace kb := bt kb hb
    clear hb KW SB
    skip
    have c_m0 : W5.cell? ⟨g_m, 0, none⟩ = some (.bool pz) := rblk_cell P_m 0
    have c_m1 : W5.cell? ⟨g_m, 1, none⟩ = some (.slice Am N1.length cm) := rblk_cell P_m 1
    go_wp2_with fail
    clear c_m0 c_m1
    have hltm0 := rblk_lt P_m
    refine (G2.out _ _ _ _ _ om.rd og.rd).mono ?_
    rintro e W6 ⟨Ae, ce, rfl, oe, hb⟩
    replace P_r := rblk_below P_r hb
    replace P_s := rblk_below P_s hb
    replace P_o := rblk_below P_o hb
    replace P_m := rblk_below P_m hb
    replace og := og.below hb
    replace om := om.below hb
    replace kb := bt kb hb
    clear hb
    have c_m0 : W6.cell? ⟨g_m, 0, none⟩ = some (.bool pz) := rblk_cell P_m 0
    have c_m1 : W6.cell? ⟨g_m, 1, none⟩ = some (.slice Am N1.length cm) := rblk_cell P_m 1
    go_wp2_with fail
    clear c_m0 c_m1
    have hltc := rblk_lt P_o
    have hlec := kb.size
    have hltm := rblk_lt P_m
    refine (D5.out _ _ _ _ _ om.rd oe.rd).mono ?_
    rintro e W7 ⟨Aw, cw, rfl, hcw, ow, hb⟩
    have hszw := hb.size
    replace P_r := rblk_below P_r hb
    replace P_s := rblk_below P_s hb
    replace P_o := rblk_below P_o hb
    replace P_m := rblk_below P_m hb
    replace og := og.below hb
    replace om := om.below hb
    replace oe := oe.below hb
    replace kb := bt kb hb
    clear hb
    have hW := kb.size
    have c_m0 : W7.cell? ⟨g_m, 0, none⟩ = some (.bool pz) := rblk_cell P_m 0
    have c_m1 : W7.cell? ⟨g_m, 1, none⟩ = some (.slice Am N1.length cm) := rblk_cell P_m 1
    have f_m0 := rblk_free P_m 0
    have f_m1 := rblk_free P_m 1
    go_wp2_with fail
    clear c_m0 c_m1 f_m0 f_m1
    replace P_r := rblk_other P_r 1 (.slice Aw SW.length cw) (show g_m ≠ w.heap.size by first | omega | exact Ne.symm nr_m | exact fun h => nr_m h.symm)
    replace P_s := rblk_other P_s 1 (.slice Aw SW.length cw) (show g_m ≠ w.heap.size + 1 by first | omega | exact Ne.symm nr_m | exact fun h => nr_m h.symm)
    replace P_o := rblk_other P_o 1 (.slice Aw SW.length cw) (show g_m ≠ rr by first | omega | exact Ne.symm nr_m | exact fun h => nr_m h.symm)
    replace P_m := rblk_set P_m 1 (.slice Aw SW.length cw)
    replace kb := below_put (o := 1) kb (show w.heap.size ≤ g_m by omega) (.slice Aw SW.length cw)
    replace og := og.putR in_og (.inr hlo_m) (o := 1) (.slice Aw SW.length cw)
    replace oe := oe.put (b := g_m) (o := 1) hltm0 (.slice Aw SW.length cw)
    replace ow := ow.put (b := g_m) (o := 1) hltm (.slice Aw SW.length cw)
    replace hszw : W6.heap.size ≤ (W7.setCell ⟨g_m, 1, none⟩ (.slice Aw SW.length cw)).heap.size := by rw [put_size]; exact hszw
    clear om
    generalize W7.setCell ⟨g_m, 1, none⟩ (.slice Aw SW.length cw) = W8 at kb P_r P_s P_o P_m og oe ow hszw ⊢
    have iw := ow.inR (vi_length SW)
    have hcw7 : W6.heap.size ≤ W8.heap.size := hszw
    have SB : Hid (∀ w', Keep3 W8 w' rr → (w'.cell? ⟨w.heap.size, 0, none⟩ = some (.bool pr) ∧ w'.cell? ⟨w.heap.size, 1, none⟩ = some (.slice A n c) ∧ w'.cell? ⟨w.heap.size, 2, none⟩ = some (.slice D k d) ∧ w'.cell? ⟨w.heap.size + 1, 0, none⟩ = some (.bool ps) ∧ w'.cell? ⟨w.heap.size + 1, 1, none⟩ = some (.slice A' n' c') ∧ w'.cell? ⟨w.heap.size + 1, 2, none⟩ = some (.slice D' k' d') ∧ w'.cell? ⟨g_m, 0, none⟩ = some (.bool pz) ∧ w'.cell? ⟨g_m, 1, none⟩ = some (.slice Aw SW.length cw) ∧ Keep3 W8 w' rr)) := Lib.hid (fun w' hK => ⟨rblk_cell (hK.block P_r nr_r) 0, rblk_cell (hK.block P_r nr_r) 1, rblk_cell (hK.block P_r nr_r) 2, rblk_cell (hK.block P_s nr_s) 0, rblk_cell (hK.block P_s nr_s) 1, rblk_cell (hK.block P_s nr_s) 2, rblk_cell (hK.block P_m nr_m) 0, rblk_cell (hK.block P_m nr_m) 1, hK⟩)
    have KW := Lib.hid kb
    have KST := Keep3.start P_o
    clear kb
    go_region_held3 (fun w' => w'.cell? ⟨w.heap.size, 0, none⟩ = some (.bool pr) ∧ w'.cell? ⟨w.heap.size, 1, none⟩ = some (.slice A n c) ∧ w'.cell? ⟨w.heap.size, 2, none⟩ = some (.slice D k d) ∧ w'.cell? ⟨w.heap.size + 1, 0, none⟩ = some (.bool ps) ∧ w'.cell? ⟨w.heap.size + 1, 1, none⟩ = some (.slice A' n' c') ∧ w'.cell? ⟨w.heap.size + 1, 2, none⟩ = some (.slice D' k' d') ∧ w'.cell? ⟨g_m, 0, none⟩ = some (.bool pz) ∧ w'.cell? ⟨g_m, 1, none⟩ = some (.slice Aw SW.length cw) ∧ Keep3 W8 w' rr)
      (first | (exact SB.out _ KST.drew) | (exact SB.out _ KST) | (exact SB.out _ (KST.below (ba1 _ _))) | (exact SB.out _ (KST.drew.below (ba1 _ _))) | (go_split_ands; exact SB.out _ (Keep3.below (by assumption : Keep3 W8 _ rr) hb)) | (go_split_ands; exact SB.out _ (Keep3.put3 (by assumption : Keep3 W8 _ rr) _ _ _)) | (go_split_ands; exact SB.out _ (Keep3.below (by assumption : Keep3 W8 _ rr) (ba1 _ _))))
      (first | (go_at_call 94; go_split_ands; ((with_reducible refine (D3.out _ _ _ (RR.out _ (Keep3.base (by assumption : Keep3 W8 _ rr) KW.out hrr3)).2.1 (by first | exact og.rd | exact (OwnS.drew' og).rd | exact (og.below (ba1 _ _)).rd | exact (OwnS.drew' (og.below (ba1 _ _))).rd | exact ((OwnS.drew' og).below (ba1 _ _)).rd)).mono ?_); rintro e Wn1_0 ⟨Ap, cp, rfl, hcp, op, hb⟩; (first | replace og := og.below hb | replace og := (OwnS.drew' og).below hb | replace og := (og.below (ba1 _ _)).below hb | replace og := (OwnS.drew' (og.below (ba1 _ _))).below hb | replace og := ((OwnS.drew' og).below (ba1 _ _)).below hb); (first | replace oe := oe.below hb | replace oe := (OwnS.drew' oe).below hb | replace oe := (oe.below (ba1 _ _)).below hb | replace oe := (OwnS.drew' (oe.below (ba1 _ _))).below hb | replace oe := ((OwnS.drew' oe).below (ba1 _ _)).below hb); (first | replace ow := ow.below hb | replace ow := (OwnS.drew' ow).below hb | replace ow := (ow.below (ba1 _ _)).below hb | replace ow := (OwnS.drew' (ow.below (ba1 _ _))).below hb | replace ow := ((OwnS.drew' ow).below (ba1 _ _)).below hb))) | (go_at_call 94; go_split_ands; ((with_reducible refine (D4.out _ _ _ (RR.out _ (Keep3.base (by assumption : Keep3 W8 _ rr) KW.out hrr3)).2.2.2 (by first | exact oe.rd | exact (OwnS.drew' oe).rd | exact (oe.below (ba1 _ _)).rd | exact (OwnS.drew' (oe.below (ba1 _ _))).rd | exact ((OwnS.drew' oe).below (ba1 _ _)).rd)).mono ?_); rintro e Wn1_1 ⟨Aq, cq, rfl, hcq, oq, hb⟩; (first | replace ow := ow.below hb | replace ow := (OwnS.drew' ow).below hb | replace ow := (ow.below (ba1 _ _)).below hb | replace ow := (OwnS.drew' (ow.below (ba1 _ _))).below hb | replace ow := ((OwnS.drew' ow).below (ba1 _ _)).below hb); (first | replace op := op.below hb | replace op := (OwnS.drew' op).below hb | replace op := (op.below (ba1 _ _)).below hb | replace op := (OwnS.drew' (op.below (ba1 _ _))).below hb | replace op := ((OwnS.drew' op).below (ba1 _ _)).below hb))) | (go_at_call 97; go_split_ands; ((with_reducible refine (HM.out _ _ _ _ _ op.rd oq.rd).mono ?_); rintro e Wn1_2 ⟨Ar, cr, rfl, hcr, or_, hb⟩; have hsz7 := Keep3.size (by assumption : Keep3 W8 _ rr); have hap0 := iw.apart (or_.inR (vi_length V)) (.inl hsz7); replace or_ := or_.more (Nat.le_trans hcw7 hsz7); (first | replace ow := ow.below hb | replace ow := (OwnS.drew' ow).below hb | replace ow := (ow.below (ba1 _ _)).below hb | replace ow := (OwnS.drew' (ow.below (ba1 _ _))).below hb | replace ow := ((OwnS.drew' ow).below (ba1 _ _)).below hb))) | (go_at_call 96; go_split_ands; ((with_reducible refine (HL.out _ _ _ _ _ _ hcw hcr ow or_ hap0).mono ?_); rintro e Wn1_3 ⟨A3, c3, D3, d3, rfl, hc3, hd3, o3, o6, hap3, hb⟩; have hltr := Keep3.lt (by assumption : Keep3 W8 _ rr); have KL := Keep3.below (by assumption : Keep3 W8 _ rr) hb; obtain ⟨u0, u1, u2, t0, t1, t2, t3, t4, t5⟩ := KL.cells)))
    all_goals
      have hfin := (‹_ ∧ _ ∧ _ ∧ _ ∧ _ ∧ _ ∧ _ ∧ _ ∧ Keep3 W8 _ rr›).2.2.2.2.2.2.2.2
      go_wp2
      exact bodyPost_ret (v := .agg #[.bool sg, .slice A3 L.length c3, .slice D3 M.length d3]) (by simp [results, Tryz.results71, go_sem, t0, t1, t2]) rfl ⟨A3, c3, D3, d3, rfl, hc3, hd3, (own_put3 o3 hltc _ _ _).more hlec, (own_put3 o6 hltc _ _ _).more hlec, hap3, hfin.base KW.out hrr3⟩
end Go.Proofs.YtennekieiioilaaGreat

namespace Go.Proofs.YtennekieiioilaaGreat
open Go.ChangeShapes Go.WideShapes Go.ChangeAt Go.RowKit
open Go.ChangeMaps (open_string shut_string)
set_option linter.unusedVariables false
set_option linter.unusedSimpArgs false
set_option maxRecDepth 4000

attribute [local go_sem ↓] Go.wp_at_zero Go.wp_at_succ

set_option maxHeartbeats 1000000 in
theorem times_none (pr ps : Bool) (A D A' D' : Option Addr) (n k n' c d c' d' : Nat) (w : World) (hk : 0 < k ∧ k ≤ 24) :
    Calls Tryz.prog 72 #[.agg #[.bool pr, .slice A n c, .slice D k d], .agg #[.bool ps, .slice A' n' c', .slice D' 0 d']] w (MadeR w.heap.size false [] [] w) := by
  have EX := Lib.hid (fun (p : Bool) (A D : Option Addr) (n k c d : Nat) W (h : Hid (0 < k ∧ k ≤ 24)) => show Calls Tryz.prog 89 #[.agg #[.bool p, .slice A n c, .slice D k d]] W (fun e w' => e = .returned (.bool true) ∧ Below W.heap.size W w') from by have := exists_any p A D n k c d W (by have := h.out; omega); rwa [decide_eq_true h.out.1] at this)
  have EN := Lib.hid (fun W => exists_any ps A' D' n' 0 c' d' W (by omega))
  rw [show decide (0 < 0) = false from rfl] at EN
  have hk0 := Lib.hid hk
  clear hk
  go_enter Tryz.func72, Tryz.ntmps72
  go_wp2_with fail
  have kb := ba3 w (.cells #[.bool pr, .slice A n c, .slice D k d] 30) (.cells #[.bool ps, .slice A' n' c', .slice D' 0 d'] 30) (.cells #[.bool false, .slice none 0 0, .slice none 0 0] 30)
  obtain ⟨P_r, P_s, P_o⟩ := blocks3 w (.cells #[.bool pr, .slice A n c, .slice D k d] 30) (.cells #[.bool ps, .slice A' n' c', .slice D' 0 d'] 30) (.cells #[.bool false, .slice none 0 0, .slice none 0 0] 30)
  generalize ((w.alloc (.cells #[.bool pr, .slice A n c, .slice D k d] 30)).alloc (.cells #[.bool ps, .slice A' n' c', .slice D' 0 d'] 30)).alloc (.cells #[.bool false, .slice none 0 0, .slice none 0 0] 30) = W1 at kb P_r P_s P_o ⊢
  obtain ⟨rr, hrr⟩ : ∃ r, r = w.heap.size + 1 + 1 := ⟨_, rfl⟩
  rw [← hrr] at P_o ⊢
  have hrr3 : w.heap.size ≤ rr := by omega
  have nr_r : rr ≠ w.heap.size := by omega
  have nr_s : rr ≠ w.heap.size + 1 := by omega
  clear hrr
  refine (EX.out _ _ _ _ _ _ _ _ hk0).mono ?_
  rintro e W2 ⟨rfl, hb⟩
  replace P_r := rblk_below P_r hb
  replace P_s := rblk_below P_s hb
  replace P_o := rblk_below P_o hb
  replace kb := bt kb hb
  clear hb
  have c_r0 : W2.cell? ⟨w.heap.size, 0, none⟩ = some (.bool pr) := rblk_cell P_r 0
  have c_r1 : W2.cell? ⟨w.heap.size, 1, none⟩ = some (.slice A n c) := rblk_cell P_r 1
  have c_r2 : W2.cell? ⟨w.heap.size, 2, none⟩ = some (.slice D k d) := rblk_cell P_r 2
  have c_s0 : W2.cell? ⟨w.heap.size + 1, 0, none⟩ = some (.bool ps) := rblk_cell P_s 0
  have c_s1 : W2.cell? ⟨w.heap.size + 1, 1, none⟩ = some (.slice A' n' c') := rblk_cell P_s 1
  have c_s2 : W2.cell? ⟨w.heap.size + 1, 2, none⟩ = some (.slice D' 0 d') := rblk_cell P_s 2
  go_wp2_with fail
  clear c_r0 c_r1 c_r2 c_s0 c_s1 c_s2
  refine (EN.out _).mono ?_
  rintro e W3 ⟨rfl, hb⟩
  replace P_r := rblk_below P_r hb
  replace P_s := rblk_below P_s hb
  replace P_o := rblk_below P_o hb
  replace kb := bt kb hb
  clear hb
  have c_r0 : W3.cell? ⟨w.heap.size, 0, none⟩ = some (.bool pr) := rblk_cell P_r 0
  have c_r1 : W3.cell? ⟨w.heap.size, 1, none⟩ = some (.slice A n c) := rblk_cell P_r 1
  have c_r2 : W3.cell? ⟨w.heap.size, 2, none⟩ = some (.slice D k d) := rblk_cell P_r 2
  have c_s0 : W3.cell? ⟨w.heap.size + 1, 0, none⟩ = some (.bool ps) := rblk_cell P_s 0
  have c_s1 : W3.cell? ⟨w.heap.size + 1, 1, none⟩ = some (.slice A' n' c') := rblk_cell P_s 1
  have c_s2 : W3.cell? ⟨w.heap.size + 1, 2, none⟩ = some (.slice D' 0 d') := rblk_cell P_s 2
  have c_o0 : W3.cell? ⟨rr, 0, none⟩ = some (.bool false) := rblk_cell P_o 0
  have c_o1 : W3.cell? ⟨rr, 1, none⟩ = some (.slice none 0 0) := rblk_cell P_o 1
  have c_o2 : W3.cell? ⟨rr, 2, none⟩ = some (.slice none 0 0) := rblk_cell P_o 2
  have f_o0 := rblk_free P_o 0
  have f_o1 := rblk_free P_o 1
  have f_o2 := rblk_free P_o 2
  go_wp2
  exact bodyPost_ret (v := .agg #[.bool false, .slice none 0 0, .slice none 0 0]) (by simp [results, Tryz.results72, go_sem, c_o0, c_o1, c_o2]) rfl ⟨none, 0, none, 0, rfl, Nat.le_refl _, Nat.le_refl _, .inl rfl, .inl rfl, (fun a h => by simp [rowOf] at h), below_put3 kb hrr3 _ _ _⟩

/-- 'times' where the second may be none. -/
def mulO (r : Rat) (o : Option Rat) : Option Rat := match o with
  | none => none
  | some s => mulQ r s
theorem times_o (r : Rat) (x : Option Rat) (A D A' D' : Option Addr) (n k n' k' c d c' d' : Nat) (w : World) (hr : Fit r) (hx : ∀ s, x = some s → Fit s) (hl : ln r.num.natAbs = n) (hm : ln r.den = k) (hl' : (ql x).length = n') (hm' : (qd x).length = k')
    (hA : RdS w A (vi (nd r.num.natAbs))) (hD : RdS w D (vi (nd r.den))) (hA' : RdS w A' (vi (ql x))) (hD' : RdS w D' (vi (qd x))) :
    Calls Tryz.prog 72 #[.agg #[.bool (zn r.num), .slice A n c, .slice D k d], .agg #[.bool (qn x), .slice A' n' c', .slice D' k' d']] w (MadeR w.heap.size (qn (mulO r x)) (ql (mulO r x)) (qd (mulO r x)) w) := by
  cases x with
  | none =>
    obtain rfl : k' = 0 := hm'.symm
    have h2 := hr.2
    exact times_none _ _ A D A' D' n k n' c d c' d' w ⟨by rw [← hm, ln_pos r.den_pos]; omega, by omega⟩
  | some s => exact times_q r s A D A' D' n k n' k' c d c' d' w hr (hx s rfl) hl hm (by rw [← nd_length]; exact hl') (by rw [← nd_length]; exact hm') hA hD hA' hD'
theorem invQ_fit {s : Rat} (h : Fit s) : ∀ t, invQ s = some t → Fit t := by
  intro t ht
  unfold invQ at ht
  split at ht
  · cases ht
  · injection ht with ht; rw [← ht]; exact inv_fit h (by assumption)
theorem mulO_inv (r s : Rat) : mulO r (invQ s) = quoQ r s := by
  unfold invQ quoQ
  split
  · rfl
  · show cutQ (r * s⁻¹) = cutQ (r / s)
    rw [Rat.div_def]
end Go.Proofs.YtennekieiioilaaGreat

namespace Go.Proofs.YtennekieiioilaaGreat
open Go.ChangeShapes Go.WideShapes Go.ChangeAt Go.RowKit
open Go.ChangeMaps (open_string shut_string)
set_option linter.unusedVariables false
set_option linter.unusedSimpArgs false
set_option maxRecDepth 4000

attribute [local go_sem ↓] Go.wp_at_zero Go.wp_at_succ

set_option maxHeartbeats 400000 in
theorem isOne_any (l : List Int) (A : Option Addr) (n c : Nat) (w : World) (hl : l.length = n) (hn : n ≤ 9223372036854775807) (hA : RdS w A (vi l)) :
    Calls Tryz.prog 90 #[.slice A n c] w fun e w' => e = .returned (.bool (decide (l = [1]))) ∧ Below w.heap.size w w' := by
  by_cases h1 : n = 1
  · subst h1
    obtain ⟨x, rfl⟩ : ∃ x, l = [x] := by
      match l, hl with
      | [x], _ => exact ⟨x, rfl⟩
    obtain ⟨b1, o1, rfl, hb1, e1⟩ := hA.int (k := 0) (x := x) rfl
    rw [Nat.add_zero] at e1
    clear hA
    have hq : decide ([x] = [1]) = (x == 1) := by by_cases h : x = 1 <;> simp [h]
    rw [hq]
    go_enter Tryz.func90, Tryz.ntmps90
    go_wp2
    go_ret
    exact ⟨rfl, Below.refl _ _⟩
  · have hq : decide (l = [1]) = false := decide_eq_false (fun h => h1 (by rw [← hl, h]; rfl))
    rw [hq]
    have hz : ((n : Int) == 1) = false := by rw [beq_eq_false_iff_ne]; omega
    clear hA hl
    go_enter Tryz.func90, Tryz.ntmps90
    go_wp2
    go_ret
    exact ⟨rfl, Below.refl _ _⟩


set_option maxHeartbeats 1000000 in
theorem iok_b (p : Bool) (l m : List Int) (A D : Option Addr) (n c k d : Nat) (w : World) (hl : l.length = n) (hm : m.length = k) (hn : n ≤ 9223372036854775807) (hk : k ≤ 9223372036854775807) (hb : okB p l = false) (hA : RdS w A (vi l)) (hD : RdS w D (vi m)) :
    Calls Tryz.prog 69 #[.agg #[.bool p, .slice A n c, .slice D k d]] w fun e w' => e = .returned (.bool (false)) ∧ Below w.heap.size w w' := by
  have HB := Lib.hid (fun W h => impl_bok p l A n c W hl hn h)
  rw [hb] at HB
  have RR : Hid (∀ W, Below w.heap.size w W → RdS W A (vi l) ∧ RdS W D (vi m)) := Lib.hid (fun W hb => ⟨hA.below hb, hD.below hb⟩)
  clear hl hm hb hA hD
  go_enter Tryz.func69, Tryz.ntmps69
  go_wp2_with fail
  have kb := ba1 w (.cells #[.bool p, .slice A n c, .slice D k d] 30)
  have P_r := heap_alloc_new w (.cells #[.bool p, .slice A n c, .slice D k d] 30)
  generalize w.alloc (.cells #[.bool p, .slice A n c, .slice D k d] 30) = W1 at kb P_r ⊢
  refine (HB.out _ (RR.out _ kb).1).mono ?_
  rintro e W2 ⟨rfl, hb⟩
  replace P_r := rblk_below P_r hb
  replace kb := bt kb hb
  clear hb
  have c_r0 : W2.cell? ⟨w.heap.size, 0, none⟩ = some (.bool p) := rblk_cell P_r 0
  have c_r1 : W2.cell? ⟨w.heap.size, 1, none⟩ = some (.slice A n c) := rblk_cell P_r 1
  have c_r2 : W2.cell? ⟨w.heap.size, 2, none⟩ = some (.slice D k d) := rblk_cell P_r 2
  go_wp2
  go_ret
  exact ⟨rfl, kb⟩

set_option maxHeartbeats 1000000 in
theorem iok_o (p : Bool) (l m : List Int) (A D : Option Addr) (n c k d : Nat) (w : World) (hl : l.length = n) (hm : m.length = k) (hn : n ≤ 9223372036854775807) (hk : k ≤ 9223372036854775807) (hb : okB p l = true) (ho : ok m = false) (hA : RdS w A (vi l)) (hD : RdS w D (vi m)) :
    Calls Tryz.prog 69 #[.agg #[.bool p, .slice A n c, .slice D k d]] w fun e w' => e = .returned (.bool (false)) ∧ Below w.heap.size w w' := by
  have HB := Lib.hid (fun W h => impl_bok p l A n c W hl hn h)
  have HO := Lib.hid (fun W h => impl_ok m D k d W hm hk h)
  rw [hb] at HB
  rw [ho] at HO
  have RR : Hid (∀ W, Below w.heap.size w W → RdS W A (vi l) ∧ RdS W D (vi m)) := Lib.hid (fun W hb => ⟨hA.below hb, hD.below hb⟩)
  clear hl hm hb ho hA hD
  go_enter Tryz.func69, Tryz.ntmps69
  go_wp2_with fail
  have kb := ba1 w (.cells #[.bool p, .slice A n c, .slice D k d] 30)
  have P_r := heap_alloc_new w (.cells #[.bool p, .slice A n c, .slice D k d] 30)
  generalize w.alloc (.cells #[.bool p, .slice A n c, .slice D k d] 30) = W1 at kb P_r ⊢
  refine (HB.out _ (RR.out _ kb).1).mono ?_
  rintro e W2 ⟨rfl, hb⟩
  replace P_r := rblk_below P_r hb
  replace kb := bt kb hb
  clear hb
  have c_r0 : W2.cell? ⟨w.heap.size, 0, none⟩ = some (.bool p) := rblk_cell P_r 0
  have c_r1 : W2.cell? ⟨w.heap.size, 1, none⟩ = some (.slice A n c) := rblk_cell P_r 1
  have c_r2 : W2.cell? ⟨w.heap.size, 2, none⟩ = some (.slice D k d) := rblk_cell P_r 2
  go_wp2_with fail
  clear c_r0 c_r1 c_r2
  refine (HO.out _ (RR.out _ kb).2).mono ?_
  rintro e _ ⟨rfl, rfl⟩
  go_wp2
  go_ret
  exact ⟨rfl, kb⟩

set_option maxHeartbeats 1000000 in
theorem iok_n (p : Bool) (l m : List Int) (A D : Option Addr) (n c k d : Nat) (w : World) (hl : l.length = n) (hm : m.length = k) (hn : n ≤ 9223372036854775807) (hk : k ≤ 9223372036854775807) (hb : okB p l = true) (ho : ok m = true) (h1 : 24 < n) (hA : RdS w A (vi l)) (hD : RdS w D (vi m)) :
    Calls Tryz.prog 69 #[.agg #[.bool p, .slice A n c, .slice D k d]] w fun e w' => e = .returned (.bool (false)) ∧ Below w.heap.size w w' := by
  have HB := Lib.hid (fun W h => impl_bok p l A n c W hl hn h)
  have HO := Lib.hid (fun W h => impl_ok m D k d W hm hk h)
  rw [hb] at HB
  rw [ho] at HO
  have RR : Hid (∀ W, Below w.heap.size w W → RdS W A (vi l) ∧ RdS W D (vi m)) := Lib.hid (fun W hb => ⟨hA.below hb, hD.below hb⟩)
  have h1' : (24 : Int) < (n : Int) := by omega
  clear hl hm hb ho hA hD h1
  go_enter Tryz.func69, Tryz.ntmps69
  go_wp2_with fail
  have kb := ba1 w (.cells #[.bool p, .slice A n c, .slice D k d] 30)
  have P_r := heap_alloc_new w (.cells #[.bool p, .slice A n c, .slice D k d] 30)
  generalize w.alloc (.cells #[.bool p, .slice A n c, .slice D k d] 30) = W1 at kb P_r ⊢
  refine (HB.out _ (RR.out _ kb).1).mono ?_
  rintro e W2 ⟨rfl, hb⟩
  replace P_r := rblk_below P_r hb
  replace kb := bt kb hb
  clear hb
  have c_r0 : W2.cell? ⟨w.heap.size, 0, none⟩ = some (.bool p) := rblk_cell P_r 0
  have c_r1 : W2.cell? ⟨w.heap.size, 1, none⟩ = some (.slice A n c) := rblk_cell P_r 1
  have c_r2 : W2.cell? ⟨w.heap.size, 2, none⟩ = some (.slice D k d) := rblk_cell P_r 2
  go_wp2_with fail
  clear c_r0 c_r1 c_r2
  refine (HO.out _ (RR.out _ kb).2).mono ?_
  rintro e _ ⟨rfl, rfl⟩
  have c_r0 : W2.cell? ⟨w.heap.size, 0, none⟩ = some (.bool p) := rblk_cell P_r 0
  have c_r1 : W2.cell? ⟨w.heap.size, 1, none⟩ = some (.slice A n c) := rblk_cell P_r 1
  have c_r2 : W2.cell? ⟨w.heap.size, 2, none⟩ = some (.slice D k d) := rblk_cell P_r 2
  go_wp2
  go_ret
  exact ⟨rfl, kb⟩

set_option maxHeartbeats 1000000 in
theorem iok_k (p : Bool) (l m : List Int) (A D : Option Addr) (n c k d : Nat) (w : World) (hl : l.length = n) (hm : m.length = k) (hn : n ≤ 9223372036854775807) (hk : k ≤ 9223372036854775807) (hb : okB p l = true) (ho : ok m = true) (h1 : ¬ 24 < n) (h2 : 24 < k) (hA : RdS w A (vi l)) (hD : RdS w D (vi m)) :
    Calls Tryz.prog 69 #[.agg #[.bool p, .slice A n c, .slice D k d]] w fun e w' => e = .returned (.bool (false)) ∧ Below w.heap.size w w' := by
  have HB := Lib.hid (fun W h => impl_bok p l A n c W hl hn h)
  have HO := Lib.hid (fun W h => impl_ok m D k d W hm hk h)
  rw [hb] at HB
  rw [ho] at HO
  have RR : Hid (∀ W, Below w.heap.size w W → RdS W A (vi l) ∧ RdS W D (vi m)) := Lib.hid (fun W hb => ⟨hA.below hb, hD.below hb⟩)
  have h1' : ¬ (24 : Int) < (n : Int) := by omega
  have h2' : (24 : Int) < (k : Int) := by omega
  clear hl hm hb ho hA hD h1 h2
  go_enter Tryz.func69, Tryz.ntmps69
  go_wp2_with fail
  have kb := ba1 w (.cells #[.bool p, .slice A n c, .slice D k d] 30)
  have P_r := heap_alloc_new w (.cells #[.bool p, .slice A n c, .slice D k d] 30)
  generalize w.alloc (.cells #[.bool p, .slice A n c, .slice D k d] 30) = W1 at kb P_r ⊢
  refine (HB.out _ (RR.out _ kb).1).mono ?_
  rintro e W2 ⟨rfl, hb⟩
  replace P_r := rblk_below P_r hb
  replace kb := bt kb hb
  clear hb
  have c_r0 : W2.cell? ⟨w.heap.size, 0, none⟩ = some (.bool p) := rblk_cell P_r 0
  have c_r1 : W2.cell? ⟨w.heap.size, 1, none⟩ = some (.slice A n c) := rblk_cell P_r 1
  have c_r2 : W2.cell? ⟨w.heap.size, 2, none⟩ = some (.slice D k d) := rblk_cell P_r 2
  go_wp2_with fail
  clear c_r0 c_r1 c_r2
  refine (HO.out _ (RR.out _ kb).2).mono ?_
  rintro e _ ⟨rfl, rfl⟩
  have c_r0 : W2.cell? ⟨w.heap.size, 0, none⟩ = some (.bool p) := rblk_cell P_r 0
  have c_r1 : W2.cell? ⟨w.heap.size, 1, none⟩ = some (.slice A n c) := rblk_cell P_r 1
  have c_r2 : W2.cell? ⟨w.heap.size, 2, none⟩ = some (.slice D k d) := rblk_cell P_r 2
  go_wp2
  go_ret
  exact ⟨rfl, kb⟩

set_option maxHeartbeats 1000000 in
theorem iok_e (p : Bool) (l m : List Int) (A D : Option Addr) (n c k d : Nat) (w : World) (hl : l.length = n) (hm : m.length = k) (hn : n ≤ 9223372036854775807) (hk : k ≤ 9223372036854775807) (hb : okB p l = true) (ho : ok m = true) (h1 : ¬ 24 < n) (h2 : k = 0) (hA : RdS w A (vi l)) (hD : RdS w D (vi m)) :
    Calls Tryz.prog 69 #[.agg #[.bool p, .slice A n c, .slice D k d]] w fun e w' => e = .returned (.bool (false)) ∧ Below w.heap.size w w' := by
  have HB := Lib.hid (fun W h => impl_bok p l A n c W hl hn h)
  have HO := Lib.hid (fun W h => impl_ok m D k d W hm hk h)
  rw [hb] at HB
  rw [ho] at HO
  have RR : Hid (∀ W, Below w.heap.size w W → RdS W A (vi l) ∧ RdS W D (vi m)) := Lib.hid (fun W hb => ⟨hA.below hb, hD.below hb⟩)
  have h1' : ¬ (24 : Int) < (n : Int) := by omega
  have h2' : ¬ (24 : Int) < (k : Int) := by omega
  have EX := Lib.hid (fun W => exists_any p A D n k c d W hk)
  rw [decide_eq_false (show ¬ 0 < k by omega)] at EX
  clear hl hm hb ho hA hD h1 h2
  go_enter Tryz.func69, Tryz.ntmps69
  go_wp2_with fail
  have kb := ba1 w (.cells #[.bool p, .slice A n c, .slice D k d] 30)
  have P_r := heap_alloc_new w (.cells #[.bool p, .slice A n c, .slice D k d] 30)
  generalize w.alloc (.cells #[.bool p, .slice A n c, .slice D k d] 30) = W1 at kb P_r ⊢
  refine (HB.out _ (RR.out _ kb).1).mono ?_
  rintro e W2 ⟨rfl, hb⟩
  replace P_r := rblk_below P_r hb
  replace kb := bt kb hb
  clear hb
  have c_r0 : W2.cell? ⟨w.heap.size, 0, none⟩ = some (.bool p) := rblk_cell P_r 0
  have c_r1 : W2.cell? ⟨w.heap.size, 1, none⟩ = some (.slice A n c) := rblk_cell P_r 1
  have c_r2 : W2.cell? ⟨w.heap.size, 2, none⟩ = some (.slice D k d) := rblk_cell P_r 2
  go_wp2_with fail
  clear c_r0 c_r1 c_r2
  refine (HO.out _ (RR.out _ kb).2).mono ?_
  rintro e _ ⟨rfl, rfl⟩
  have c_r0 : W2.cell? ⟨w.heap.size, 0, none⟩ = some (.bool p) := rblk_cell P_r 0
  have c_r1 : W2.cell? ⟨w.heap.size, 1, none⟩ = some (.slice A n c) := rblk_cell P_r 1
  have c_r2 : W2.cell? ⟨w.heap.size, 2, none⟩ = some (.slice D k d) := rblk_cell P_r 2
  go_wp2_with fail
  clear c_r0 c_r1 c_r2
  refine (EX.out _).mono ?_
  rintro e W3 ⟨rfl, hb⟩
  replace P_r := rblk_below P_r hb
  replace kb := bt kb hb
  clear hb
  go_wp2
  go_ret
  exact ⟨rfl, kb⟩

set_option maxHeartbeats 1000000 in
theorem iok_g (p : Bool) (l m : List Int) (A D : Option Addr) (n c k d : Nat) (w : World) (hl : l.length = n) (hm : m.length = k) (hn : n ≤ 9223372036854775807) (hk : k ≤ 9223372036854775807) (z b : Nat) (hz : l = nd z) (hbb : m = nd b) (hb : okB p l = true) (ho : ok m = true) (hk1 : 0 < k) (hk2 : k ≤ 24) (hn2 : n ≤ 24) (hA : RdS w A (vi l)) (hD : RdS w D (vi m)) :
    Calls Tryz.prog 69 #[.agg #[.bool p, .slice A n c, .slice D k d]] w fun e w' => e = .returned (.bool (decide (Nat.gcd z b = 1))) ∧ Below w.heap.size w w' := by
  have HB := Lib.hid (fun W h => impl_bok p l A n c W hl hn h)
  have HO := Lib.hid (fun W h => impl_ok m D k d W hm hk h)
  rw [hb] at HB
  rw [ho] at HO
  have hzn : ln z = n := by rw [← nd_length, ← hz, hl]
  have hbk : ln b = k := by rw [← nd_length, ← hbb, hm]
  have HG := Lib.hid (fun W h h' => impl_gcd z b A D n c k d W hzn hbk (by omega) (by omega) h h')
  rw [← hz, ← hbb] at HG
  have hgl : (nd (Nat.gcd z b)).length ≤ 9223372036854775807 := by
    rw [nd_length]
    have hb0 : 0 < b := by rcases Nat.eq_zero_or_pos b with h | h; (subst h; rw [ln_zero] at hbk; omega); exact h
    have := ln_mono (Nat.le_of_dvd hb0 (Nat.gcd_dvd_right z b)); omega
  have hq : decide (Nat.gcd z b = 1) = decide (nd (Nat.gcd z b) = [1]) := by
    have e1 : nd 1 = [1] := by unfold nd; rw [ln_pos (by decide), show 1 / 1000000000 = 0 by decide, ln_zero]; decide
    by_cases h : Nat.gcd z b = 1
    · rw [decide_eq_true h, decide_eq_true (show nd (Nat.gcd z b) = [1] by rw [h, e1])]
    · rw [decide_eq_false h, decide_eq_false (fun e => h (nd_inj (by rw [e, e1])))]
  rw [hq]
  generalize nd (Nat.gcd z b) = G at HG hgl ⊢
  have H1 := Lib.hid (fun A' c' W h => isOne_any G A' _ c' W rfl hgl h)
  generalize decide (G = [1]) = v at H1 ⊢
  have h2 : ¬ (24 : Int) < (k : Int) := by omega
  have h3 : ¬ (24 : Int) < (n : Int) := by omega
  have EX := Lib.hid (fun W => exists_any p A D n k c d W hk)
  rw [decide_eq_true hk1] at EX
  have RR : Hid (∀ W, Below w.heap.size w W → RdS W A (vi l) ∧ RdS W D (vi m)) := Lib.hid (fun W hb => ⟨hA.below hb, hD.below hb⟩)
  clear hq hgl hzn hbk hz hbb hl hm hb ho hA hD
  go_enter Tryz.func69, Tryz.ntmps69
  go_wp2_with fail
  have kb := ba1 w (.cells #[.bool p, .slice A n c, .slice D k d] 30)
  have P_r := heap_alloc_new w (.cells #[.bool p, .slice A n c, .slice D k d] 30)
  generalize w.alloc (.cells #[.bool p, .slice A n c, .slice D k d] 30) = W1 at kb P_r ⊢
  refine (HB.out _ (RR.out _ kb).1).mono ?_
  rintro e W2 ⟨rfl, hb⟩
  replace P_r := rblk_below P_r hb
  replace kb := bt kb hb
  clear hb
  have c_r0 : W2.cell? ⟨w.heap.size, 0, none⟩ = some (.bool p) := rblk_cell P_r 0
  have c_r1 : W2.cell? ⟨w.heap.size, 1, none⟩ = some (.slice A n c) := rblk_cell P_r 1
  have c_r2 : W2.cell? ⟨w.heap.size, 2, none⟩ = some (.slice D k d) := rblk_cell P_r 2
  go_wp2_with fail
  clear c_r0 c_r1 c_r2
  refine (HO.out _ (RR.out _ kb).2).mono ?_
  rintro e _ ⟨rfl, rfl⟩
  have c_r0 : W2.cell? ⟨w.heap.size, 0, none⟩ = some (.bool p) := rblk_cell P_r 0
  have c_r1 : W2.cell? ⟨w.heap.size, 1, none⟩ = some (.slice A n c) := rblk_cell P_r 1
  have c_r2 : W2.cell? ⟨w.heap.size, 2, none⟩ = some (.slice D k d) := rblk_cell P_r 2
  go_wp2_with fail
  clear c_r0 c_r1 c_r2
  refine (EX.out _).mono ?_
  rintro e W3 ⟨rfl, hb⟩
  replace P_r := rblk_below P_r hb
  replace kb := bt kb hb
  clear hb
  have c_r0 : W3.cell? ⟨w.heap.size, 0, none⟩ = some (.bool p) := rblk_cell P_r 0
  have c_r1 : W3.cell? ⟨w.heap.size, 1, none⟩ = some (.slice A n c) := rblk_cell P_r 1
  have c_r2 : W3.cell? ⟨w.heap.size, 2, none⟩ = some (.slice D k d) := rblk_cell P_r 2
  go_wp2_with fail
  clear c_r0 c_r1 c_r2
  refine (HG.out _ (RR.out _ kb).1 (RR.out _ kb).2).mono ?_
  rintro e W4 ⟨A5, c5, rfl, o5, hb⟩
  replace P_r := rblk_below P_r hb
  replace kb := bt kb hb
  clear hb
  go_wp2_with fail
  refine (H1.out _ _ _ o5.rd).mono ?_
  rintro e W5 ⟨rfl, hb⟩
  replace P_r := rblk_below P_r hb
  replace o5 := o5.below hb
  replace kb := bt kb hb
  clear hb
  go_wp2
  go_ret
  exact ⟨rfl, kb⟩

/-- 'RatOk' of the program. -/
theorem impl_rok (p : Bool) (l m : List Int) (A D : Option Addr) (n c k d : Nat) (w : World) (hl : l.length = n) (hm : m.length = k) (hn : n ≤ 9223372036854775807) (hk : k ≤ 9223372036854775807) (hA : RdS w A (vi l)) (hD : RdS w D (vi m)) :
    Calls Tryz.prog 69 #[.agg #[.bool p, .slice A n c, .slice D k d]] w fun e w' => e = .returned (.bool (okR p l m)) ∧ Below w.heap.size w w' := by
  by_cases h1 : okB p l = true
  · by_cases h2 : ok m = true
    · by_cases h3 : k = 0 ∨ 24 < k ∨ 24 < n
      · have e : okR p l m = false := by
          unfold okR
          rcases h3 with h | h | h
          · rw [decide_eq_false (show ¬ m ≠ [] from fun h0 => h0 (List.eq_nil_of_length_eq_zero (by omega)))]; simp
          · rw [decide_eq_false (show ¬ m.length ≤ 24 by omega)]; simp
          · rw [decide_eq_false (show ¬ l.length ≤ 24 by omega)]; simp
        rw [e]
        by_cases g1 : 24 < n
        · exact iok_n p l m A D n c k d w hl hm hn hk h1 h2 g1 hA hD
        · by_cases g2 : 24 < k
          · exact iok_k p l m A D n c k d w hl hm hn hk h1 h2 g1 g2 hA hD
          · exact iok_e p l m A D n c k d w hl hm hn hk h1 h2 g1 (by omega) hA hD
      · obtain ⟨z, _, hz, _⟩ := okB_z h1
        obtain ⟨b, hb, _⟩ := ok_nd h2
        have hm0 : m ≠ [] := fun e => by rw [e] at hm; simp at hm; omega
        have e : okR p l m = decide (Nat.gcd z.natAbs b = 1) := by
          unfold okR
          rw [h1, h2, decide_eq_true hm0, decide_eq_true (show m.length ≤ 24 by omega), decide_eq_true (show l.length ≤ 24 by omega), hz, hb, val_zm, val_nd]
          simp
        rw [e]
        exact iok_g p l m A D n c k d w hl hm hn hk z.natAbs b hz hb h1 h2 (by omega) (by omega) (by omega) hA hD
    · have h2' : ok m = false := by simpa using h2
      have e : okR p l m = false := by unfold okR; rw [h2']; simp
      rw [e]
      exact iok_o p l m A D n c k d w hl hm hn hk h1 h2' hA hD
  · have h1' : okB p l = false := by simpa using h1
    have e : okR p l m = false := by unfold okR; rw [h1']; simp
    rw [e]
    exact iok_b p l m A D n c k d w hl hm hn hk h1' hA hD

end Go.Proofs.YtennekieiioilaaGreat

namespace Go.Proofs.YtennekieiioilaaGreat
open Go.ChangeShapes Go.WideShapes Go.ChangeAt Go.RowKit
open Go.ChangeMaps (open_string shut_string)
set_option linter.unusedVariables false
set_option linter.unusedSimpArgs false
set_option maxRecDepth 4000

attribute [local go_sem ↓] Go.wp_at_zero Go.wp_at_succ

end Go.Proofs.YtennekieiioilaaGreat

