/-
  Big integers of the program: 'BigIntNeg', 'order', 'BigIntCmp', 'BigIntToInt', 'BigIntOf'.
-/
import Derived.Test.YtmmgcdfifcbabaaGreatDoorBigQ
import Derived.Test.YtmmgcdfifcbabaaGreatDoorToInt
import Derived.Test.YtmmgcdfifcbabaaGreatDoorNatOfI
namespace Go.Proofs.YtmmgcdfifcbabaaGreatDoor
open Go.ChangeShapes Go.WideShapes Go.ChangeAt Go.RowKit
open Go.ChangeMaps (open_string shut_string)
set_option linter.unusedVariables false
set_option linter.unusedSimpArgs false
set_option maxRecDepth 4000

theorem copy_zero (v : Nat) (A : Option Addr) (n c : Nat) (w : World) (hl : ln v = n) (hn : n ≤ 1048576) (hA : RdS w A (vi (nd v))) :
    Calls Tryz.prog 75 #[.slice A n c, .int .i64 0] w (MadeI w.heap.size (nd v) w) :=
  (copy_int v A n c 0 0 w rfl hl hn (by omega) hA).mono fun e w' ⟨g, hg, he, hB, hb⟩ => by
    have hr : row (n + 0) v = nd v := by unfold nd; rw [hl]; rfl
    rw [hr] at hB
    exact ⟨some ⟨g, 0, none⟩, n + 0, by rw [he, nd_length, hl]; rfl, by rw [nd_length, hl]; omega, hB.own hg, hb⟩
theorem kept2 {r b1 o1 b2 o2 : Nat} {v1 v2 : Value} {W W' w : World} (h1 : W.cell? ⟨b1, o1, none⟩ = some v1) (h2 : W.cell? ⟨b2, o2, none⟩ = some v2) (ht : Two W r) (hw : Below w.heap.size w W) (hb : Below W.heap.size W W') :
    W'.cell? ⟨b1, o1, none⟩ = some v1 ∧ W'.cell? ⟨b2, o2, none⟩ = some v2 ∧ Two W' r ∧ Below w.heap.size w W' :=
  ⟨cell_kept h1 hb, cell_kept h2 hb, ht.below hb, bt hw hb⟩
theorem put2 {r b1 o1 b2 o2 : Nat} {v1 v2 : Value} {W w : World} (u u' : Value) (h1 : W.cell? ⟨b1, o1, none⟩ = some v1) (h2 : W.cell? ⟨b2, o2, none⟩ = some v2) (ht : Two W r) (hw : Below w.heap.size w W) (hr : w.heap.size ≤ r) (n1 : r ≠ b1) (n2 : r ≠ b2) :
    ((W.setCell ⟨r, 0, none⟩ u).setCell ⟨r, 1, none⟩ u').cell? ⟨b1, o1, none⟩ = some v1 ∧ ((W.setCell ⟨r, 0, none⟩ u).setCell ⟨r, 1, none⟩ u').cell? ⟨b2, o2, none⟩ = some v2 ∧ Two ((W.setCell ⟨r, 0, none⟩ u).setCell ⟨r, 1, none⟩ u') r ∧ Below w.heap.size w ((W.setCell ⟨r, 0, none⟩ u).setCell ⟨r, 1, none⟩ u') :=
  ⟨cell_put (cell_put h1 n1) n1, cell_put (cell_put h2 n2) n2, ht.put.put, below_put (below_put hw hr _) hr _⟩
theorem boxes2 (w : World) (T1 T3 : TypeId) (x1 y1 x3 y3 : Value) (W : World) (hW : (w.alloc (.cells #[x1, y1] T1)).alloc (.cells #[x3, y3] T3) = W) :
    W.cell? ⟨w.heap.size, 0, none⟩ = some x1 ∧ W.cell? ⟨w.heap.size, 1, none⟩ = some y1 ∧ Two W (w.heap.size + 1) ∧ Below w.heap.size w W := by
  subst hW
  have h1 := ba1 (w.alloc (.cells #[x1, y1] T1)) (.cells #[x3, y3] T3)
  have e1 := sz1 w (.cells #[x1, y1] T1)
  refine ⟨cell_kept (box0 w T1 x1 y1) h1, cell_kept (box1 w T1 x1 y1) h1, ?_, ba2 _ _ _⟩
  have := boxT (w.alloc (.cells #[x1, y1] T1)) T3 x3 y3
  rw [e1] at this
  exact this

theorem neg_z (x : Int) : (if (!(zn x)) then -((x.natAbs : Nat) : Int) else ((x.natAbs : Nat) : Int)) = -x := by
  unfold zn
  by_cases hx : x < 0 <;> simp [hx] <;> omega
/-- The order of two integers. -/
def cmpZ (x y : Int) : Int := if x < y then -1 else if y < x then 1 else 0
theorem cmpZ_range (x y : Int) : -1 ≤ cmpZ x y ∧ cmpZ x y ≤ 1 := by
  unfold cmpZ
  split
  · omega
  · split <;> omega
theorem cmpZ_pos {x y : Int} (hx : ¬ x < 0) (hy : ¬ y < 0) : cmpN x.natAbs y.natAbs = cmpZ x y := by
  unfold cmpN cmpZ
  by_cases h1 : x < y
  · rw [if_pos (by omega), if_pos h1]
  · rw [if_neg (by omega), if_neg h1]
    by_cases h2 : y < x
    · rw [if_pos (by omega), if_pos h2]
    · rw [if_neg (by omega), if_neg h2]
theorem cmpZ_neg {x y : Int} (hx : x < 0) (hy : y < 0) : cmpN y.natAbs x.natAbs = cmpZ x y := by
  unfold cmpN cmpZ
  by_cases h1 : x < y
  · rw [if_pos (by omega), if_pos h1]
  · rw [if_neg (by omega), if_neg h1]
    by_cases h2 : y < x
    · rw [if_pos (by omega), if_pos h2]
    · rw [if_neg (by omega), if_neg h2]

set_option maxHeartbeats 1000000 in
theorem order_any (x y : Int) (A D : Option Addr) (n c n' d : Nat) (w : World) (hn : ln x.natAbs = n) (hn' : ln y.natAbs = n') (h60 : n ≤ 60) (h60' : n' ≤ 60) (hA : RdS w A (vi (zm x))) (hD : RdS w D (vi (zm y))) :
    Calls Tryz.prog 22 #[.agg #[.bool (zn x), .slice A n c], .agg #[.bool (zn y), .slice D n' d]] w fun e w' => e = .returned (.int .i64 (cmpZ x y)) ∧ Below w.heap.size w w' := by
  have H1 := Lib.hid (fun W h h' => mcmp_any x.natAbs y.natAbs A D n c n' d W hn hn' (by omega) (by omega) h h')
  have H2 := Lib.hid (fun W h h' => mcmp_any y.natAbs x.natAbs D A n' d n c W hn' hn (by omega) (by omega) h h')
  have HR : Hid (∀ W, Below w.heap.size w W → RdS W A (vi (nd x.natAbs)) ∧ RdS W D (vi (nd y.natAbs))) := Lib.hid (fun W hb => ⟨hA.below hb, hD.below hb⟩)
  clear hn hn' hA hD
  by_cases hx : x < 0
  · have ex : zn x = true := decide_eq_true hx
    by_cases hy : y < 0
    · have ey : zn y = true := decide_eq_true hy
      rw [cmpZ_neg hx hy] at H2
      rw [ex, ey]
      clear ex ey hx hy H1
      generalize cmpZ x y = r at H2 ⊢
      go_enter Tryz.func22, Tryz.ntmps22
      go_wp2_with fail
      refine (H2.out _ (HR.out _ (ba2 _ _ _)).2 (HR.out _ (ba2 _ _ _)).1).mono ?_
      rintro e w1 ⟨rfl, hb⟩
      have kb := (ba2 _ _ _).trans (hb.mono (by rw [sz2]; omega))
      go_wp2
      go_ret
      exact ⟨rfl, kb⟩
    · have ey : zn y = false := decide_eq_false hy
      have er : Hid (cmpZ x y = -1) := Lib.hid (if_pos (by omega))
      rw [ex, ey]
      clear ex ey hx hy H1 H2
      go_enter Tryz.func22, Tryz.ntmps22
      go_wp2
      go_ret
      exact ⟨ret_int' er.out.symm, ba2 _ _ _⟩
  · have ex : zn x = false := decide_eq_false hx
    by_cases hy : y < 0
    · have ey : zn y = true := decide_eq_true hy
      have er : Hid (cmpZ x y = 1) := Lib.hid (by unfold cmpZ; rw [if_neg (by omega), if_pos (by omega)])
      rw [ex, ey]
      clear ex ey hx hy H1 H2
      go_enter Tryz.func22, Tryz.ntmps22
      go_wp2
      go_ret
      exact ⟨ret_int' er.out.symm, ba2 _ _ _⟩
    · have ey : zn y = false := decide_eq_false hy
      rw [cmpZ_pos hx hy] at H1
      rw [ex, ey]
      clear ex ey hx hy H2
      generalize cmpZ x y = r at H1 ⊢
      go_enter Tryz.func22, Tryz.ntmps22
      go_wp2_with fail
      refine (H1.out _ (HR.out _ (ba2 _ _ _)).1 (HR.out _ (ba2 _ _ _)).2).mono ?_
      rintro e w1 ⟨rfl, hb⟩
      have kb := (ba2 _ _ _).trans (hb.mono (by rw [sz2]; omega))
      go_wp2
      go_ret
      exact ⟨rfl, kb⟩
/-- The answer of 'BigIntCmp'. -/
def cmpB (p : Bool) (l : List Int) (q : Bool) (m : List Int) : Int := binZ cmpZ p l q m
theorem held4 {b1 o1 b2 o2 b3 o3 b4 o4 : Nat} {v1 v2 v3 v4 : Value} {W W' w : World} (h1 : W.cell? ⟨b1, o1, none⟩ = some v1) (h2 : W.cell? ⟨b2, o2, none⟩ = some v2) (h3 : W.cell? ⟨b3, o3, none⟩ = some v3) (h4 : W.cell? ⟨b4, o4, none⟩ = some v4) (hw : Below w.heap.size w W) (hb : Below W.heap.size W W') :
    W'.cell? ⟨b1, o1, none⟩ = some v1 ∧ W'.cell? ⟨b2, o2, none⟩ = some v2 ∧ W'.cell? ⟨b3, o3, none⟩ = some v3 ∧ W'.cell? ⟨b4, o4, none⟩ = some v4 ∧ Below w.heap.size w W' :=
  ⟨cell_kept h1 hb, cell_kept h2 hb, cell_kept h3 hb, cell_kept h4 hb, bt hw hb⟩
theorem boxesP (w : World) (T1 T2 : TypeId) (x1 y1 x2 y2 : Value) (W : World) (hW : (w.alloc (.cells #[x1, y1] T1)).alloc (.cells #[x2, y2] T2) = W) :
    W.cell? ⟨w.heap.size, 0, none⟩ = some x1 ∧ W.cell? ⟨w.heap.size, 1, none⟩ = some y1 ∧ W.cell? ⟨w.heap.size + 1, 0, none⟩ = some x2 ∧ W.cell? ⟨w.heap.size + 1, 1, none⟩ = some y2 ∧ Below w.heap.size w W := by
  subst hW
  have h1 := ba1 (w.alloc (.cells #[x1, y1] T1)) (.cells #[x2, y2] T2)
  have e1 := sz1 w (.cells #[x1, y1] T1)
  refine ⟨cell_kept (box0 w T1 x1 y1) h1, cell_kept (box1 w T1 x1 y1) h1, ?_, ?_, ba2 _ _ _⟩
  · have := box0 (w.alloc (.cells #[x1, y1] T1)) T2 x2 y2
    rw [e1] at this
    exact this
  · have := box1 (w.alloc (.cells #[x1, y1] T1)) T2 x2 y2
    rw [e1] at this
    exact this

set_option maxHeartbeats 1000000 in
theorem impl_bcmp (p q : Bool) (l m : List Int) (A D : Option Addr) (n c n' d : Nat) (w : World) (hl : l.length = n) (hm : m.length = n') (hn : n ≤ 9223372036854775807) (hn' : n' ≤ 9223372036854775807) (hA : RdS w A (vi l)) (hD : RdS w D (vi m)) :
    Calls Tryz.prog 8 #[.agg #[.bool p, .slice A n c], .agg #[.bool q, .slice D n' d]] w fun e w' => e = .returned (.int .i64 (cmpB p l q m)) ∧ Below w.heap.size w w' := by
  have HK := Lib.hid (fun W h h' => are_big p q l m A D n c n' d W hl hm hn hn' h h')
  have HR : Hid (∀ W, Below w.heap.size w W → RdS W A (vi l) ∧ RdS W D (vi m)) := Lib.hid (fun W hb => ⟨hA.below hb, hD.below hb⟩)
  by_cases hk : (okB p l && okB q m) = true
  · rw [hk] at HK
    obtain ⟨h1, h2⟩ := okB_two hk
    obtain ⟨x, rfl, rfl, hx⟩ := okB_z h1
    obtain ⟨y, rfl, rfl, hy⟩ := okB_z h2
    have hR : cmpB (zn x) (zm x) (zn y) (zm y) = cmpZ x y := binZ_yes hx hy
    rw [hR]
    rw [zm_length] at hl hm
    have HS := Lib.hid (fun W h h' => order_any x y A D n c n' d W hl hm (by omega) (by omega) h h')
    clear hl hm hA hD hk h1 h2 hx hy hR
    generalize cmpZ x y = r at HS ⊢
    generalize zn x = p at HK HS ⊢
    generalize zn y = q at HK HS ⊢
    go_enter Tryz.func8, Tryz.ntmps8
    go_wp2_with fail
    generalize hW : (w.alloc (.cells #[.bool p, .slice A n c] 25)).alloc (.cells #[.bool q, .slice D n' d] 25) = W3
    obtain ⟨k0, k1, k2, k3, kb⟩ := boxesP _ _ _ _ _ _ _ _ hW
    clear hW
    refine (HK.out _ (HR.out _ kb).1 (HR.out _ kb).2).mono ?_
    rintro e w4 ⟨rfl, hb4⟩
    replace k0 := cell_kept k0 hb4
    replace k1 := cell_kept k1 hb4
    replace k2 := cell_kept k2 hb4
    replace k3 := cell_kept k3 hb4
    replace kb := bt kb hb4
    clear hb4
    go_wp2_with fail
    go_region_held3 (fun w' => w'.cell? ⟨w.heap.size, 0, none⟩ = some (.bool p) ∧ w'.cell? ⟨w.heap.size, 1, none⟩ = some (.slice A n c) ∧ w'.cell? ⟨w.heap.size + 1, 0, none⟩ = some (.bool q) ∧ w'.cell? ⟨w.heap.size + 1, 1, none⟩ = some (.slice D n' d) ∧ Below w.heap.size w w')
      (first | (exact ⟨k0, k1, k2, k3, kb.drew⟩) | (go_split_ands; exact held4 (by assumption) (by assumption) (by assumption) (by assumption) (by assumption) hbc))
      (first | (go_at_call 19; go_split_ands; refine (signedOf_any _ _ _ _ _).mono ?_; rintro e w5 ⟨rfl, hbc⟩) | (go_at_call 22; go_split_ands; refine (HS.out _ (HR.out _ (by assumption)).1 (HR.out _ (by assumption)).2).mono ?_; rintro e w5 ⟨rfl, hbc⟩))
    all_goals
      have hfin := (‹_ ∧ _ ∧ _ ∧ _ ∧ Below w.heap.size w _›).2.2.2.2
      go_wp2
      go_ret
      exact ⟨rfl, hfin⟩
  · have hk' : (okB p l && okB q m) = false := by simpa using hk
    rw [hk'] at HK
    have hR : cmpB p l q m = 0 := binZ_no hk'
    rw [hR]
    clear hl hm hA hD hk hk' hR
    go_enter Tryz.func8, Tryz.ntmps8
    go_wp2_with fail
    refine (HK.out _ (HR.out _ (ba2 _ _ _)).1 (HR.out _ (ba2 _ _ _)).2).mono ?_
    rintro e w1 ⟨rfl, hb⟩
    have kb := (ba2 _ _ _).trans (hb.mono (by rw [sz2]; omega))
    go_wp2
    go_ret
    exact ⟨rfl, kb⟩
end Go.Proofs.YtmmgcdfifcbabaaGreatDoor
