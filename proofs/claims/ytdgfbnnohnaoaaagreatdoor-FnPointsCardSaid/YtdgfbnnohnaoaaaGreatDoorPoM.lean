/-
  What the law of points asks of the program's functions, between opaque parts.
-/
import Derived.Test.YtdgfbnnohnaoaaaGreatDoorMkP
import Derived.Test.YtdgfbnnohnaoaaaGreatDoorPtKv
import Derived.Test.YtdgfbnnohnaoaaaGreatDoorPPt
import Derived.Test.YtdgfbnnohnaoaaaGreatDoorFPtD
import Derived.Test.YtdgfbnnohnaoaaaGreatDoorDkH
namespace Go.Proofs.YtdgfbnnohnaoaaaGreatDoor
open Go.ChangeShapes Go.WideShapes Go.ChangeAt Go.RowKit
open Go.ChangeMaps (open_string shut_string)
set_option linter.unusedVariables false
set_option linter.unusedSimpArgs false
set_option maxRecDepth 4000

theorem prat_round {q : Rat} (h : Fit q) {s : ByteArray} (hs : s.data.toList = fmtR (zn q.num) (zm q.num) (nd q.den)) : prP s = zn q.num ∧ prL s = zm q.num ∧ prM s = nd q.den ∧ prOk s = true := by
  have h60 : ln q.num.natAbs ≤ 60 := by have := h.1; omega
  have hd60 : ln q.den ≤ 60 := by have := h.2; omega
  have hk := okR_mk h
  obtain ⟨r1, r2, r3⟩ := round_big h60 rfl
  have fin : ∀ T : ByteArray, T = ⟨(fmtB (zn q.num) (zm q.num)).toArray⟩ → ctT s = T → okS (prB s) = true → prsL (prB s) = nd q.den → (ctQ s && decide (prsL (prB s) = [1])) = false → prP s = zn q.num ∧ prL s = zm q.num ∧ prM s = nd q.den ∧ prOk s = true := by
    rintro T rfl hT h2 h3 h4
    have hS : prS s = zn q.num := by unfold prS; rw [hT, r2, r1, Bool.and_true]
    have hN : prN s = zm q.num := by unfold prN; rw [hT, r3]
    have ho : prOk s = true := by unfold prOk; rw [hS, hN, hT, r2, h2, h4, h3, hk]; rfl
    unfold prP prL prM
    rw [ho, hS, hN, h3]
    exact ⟨rfl, rfl, rfl, rfl⟩
  by_cases h1 : nd q.den = [1]
  · rw [h1] at hk
    have hl : s.data.toList = fmtB (zn q.num) (zm q.num) := by rw [hs, h1, fmtR_one hk]
    rcases cut_cases s.data.toList with ⟨_, hc⟩ | ⟨a, b, _, e, _⟩
    · have hT : ctT s = s := byte_eq (by unfold ctT; rw [hc, mk_list])
      have hq : ctQ s = false := by unfold ctQ; rw [hc]
      have hB : prB s = ⟨#[49]⟩ := by unfold prB; rw [hq]; rfl
      exact fin s (byte_eq (by rw [hl])) hT (by rw [hB]; exact one_text.1) (by rw [hB, h1]; exact one_text.2) (by rw [hq]; rfl)
    · exact absurd rfl (fmtB_slash _ _ 47 (by rw [← hl, e]; simp))
  · have hl : s.data.toList = fmtB (zn q.num) (zm q.num) ++ 47 :: fmtL (nd q.den) := by rw [hs, fmtR_two hk h1]
    have hf : fmtL (nd q.den) = fmtN q.den := by unfold fmtL; rw [nd_ok hd60, val_nd]; rfl
    rcases cut_cases s.data.toList with ⟨hn, _⟩ | ⟨a, b, ha, e, hc⟩
    · exact absurd rfl (hn 47 (by rw [hl]; simp))
    · rw [hl] at e
      obtain ⟨e1, e2⟩ := slash_unique (fmtB_slash _ _) ha e
      have hT : ctT s = ⟨(fmtB (zn q.num) (zm q.num)).toArray⟩ := by unfold ctT; rw [hc, e1]
      have hq : ctQ s = true := by unfold ctQ; rw [hc]
      have hB : prB s = ⟨(fmtN q.den).toArray⟩ := by unfold prB ctU; rw [hq, hc, ← e2, hf]; rfl
      obtain ⟨g1, g2⟩ := round_nat hd60
      exact fin _ rfl hT (by rw [hB]; exact g1) (by rw [hB]; exact g2) (by rw [hq, hB, g2, decide_eq_false h1]; rfl)

theorem fmtN_len {a : Nat} (h60 : ln a ≤ 60) : (fmtN a).length ≤ 1000 := by
  unfold fmtN
  split
  · simp
  · have := ftx_len a (ln a) (ln a - 1)
    omega

theorem fmtR_len24 {x : Rat} (hx : Fit x) : (fmtR (zn x.num) (zm x.num) (nd x.den)).length ≤ 2500 := by
  have h60 : ln x.num.natAbs ≤ 60 := by have := hx.1; omega
  have hd60 : ln x.den ≤ 60 := by have := hx.2; omega
  have h1 := fmtN_len h60
  have h2 := fmtN_len hd60
  have hf : fmtL (nd x.den) = fmtN x.den := by unfold fmtL; rw [nd_ok hd60, val_nd]; rfl
  have hk := okR_mk hx
  have hB : (fmtB (zn x.num) (zm x.num)).length ≤ 1001 := by
    rw [fmtB_yes (okB_mk h60), fmtL_zm h60]
    split
    · rw [List.length_cons]; omega
    · omega
  by_cases h : nd x.den = [1]
  · rw [h] at hk ⊢
    rw [fmtR_one hk]; omega
  · rw [fmtR_two hk h, hf, List.length_append, List.length_cons]; omega

theorem own_addr {B : Nat} {W : World} {A : Option Addr} {l : List Int} (h : OwnS B W A (vi l)) : l.length = 0 ∨ ∃ g, A = some ⟨g, 0, none⟩ := by
  rcases h with h | ⟨g, ha, _⟩
  · left; rw [← vi_length l, h]; rfl
  · exact .inr ⟨g, ha⟩

theorem okL {k : Nat} {x : Rat} (h : Lg k x) (hk : k ≤ 216) : okx (ofO (some x)) = true := by rw [okx_ofO (fitO_some (h.fit hk))]; rfl
theorem vS {k : Nat} {x : Rat} (h : Lg k x) (hk : k ≤ 216) : valx (ofO (some x)) = some x := valx_ofO (fitO_some (h.fit hk))
theorem lS {k : Nat} {x : Rat} (h : Lg k x) (hk : k ≤ 216) : (ofO (some x)).l.length ≤ 24 ∧ (ofO (some x)).m.length ≤ 24 := (fitO_some (h.fit hk)).len
theorem l9 {n : Nat} (h : n ≤ 24) : n ≤ 9223372036854775807 := Nat.le_trans h (by omega)
theorem l20 {n : Nat} (h : n ≤ 24) : n ≤ 1048576 := Nat.le_trans h (by omega)
theorem ok4 {k : Nat} {x y u v : Rat} (hx : Lg k x) (hy : Lg k y) (hu : Lg k u) (hv : Lg k v) (hk : k ≤ 216) : (okx (ofO (some x)) && okx (ofO (some y)) && (okx (ofO (some u)) && okx (ofO (some v)))) = true := by
  rw [okL hx hk, okL hy hk, okL hu hk, okL hv hk]; rfl
theorem adS {k m : Nat} {x y : Rat} (hx : Lg k x) (hy : Lg m y) (h : k + m + 1 ≤ 216) : binQ addQ (some x) (some y) = some (x + y) := (hx.add hy).cut h
theorem suS {k m : Nat} {x y : Rat} (hx : Lg k x) (hy : Lg m y) (h : k + m + 1 ≤ 216) : binQ subQ (some x) (some y) = some (x - y) := (hx.sub hy).cut h
theorem muS {k m : Nat} {x y : Rat} (hx : Lg k x) (hy : Lg m y) (h : k + m ≤ 216) : binQ mulQ (some x) (some y) = some (x * y) := (hx.mul hy).cut h
theorem boS (x y : Rat) : bothX (some x) (some y) = some x ∧ bothY (some x) (some y) = some y := ⟨rfl, rfl⟩
/-- Twice the area of three points. -/
def det (a b c d e f : Rat) : Rat := (c - a) * (f - b) - (d - b) * (e - a)
theorem det_lg {k : Nat} {a b c d e f : Rat} (ha : Lg k a) (hb : Lg k b) (hc : Lg k c) (hd : Lg k d) (he : Lg k e) (hf : Lg k f) : Lg (8 * k + 5) (det a b c d e f) :=
  (((hc.sub ha).mul (hf.sub hb)).sub ((hd.sub hb).mul (he.sub ha))).more (by omega)
theorem half_q : ofQ 1 2 = some (mkRat 1 2) ∧ Lg 1 (mkRat 1 2) := by
  have hl : Lg 1 (mkRat 1 2) := lg_mk (by decide) (by decide) (by decide)
  refine ⟨?_, hl⟩
  unfold ofQ
  rw [makQ_yes (by have := ln_word (show (1 : Int).natAbs ≤ 9223372036854775808 by omega); omega) (by have := ln_word (show (2 : Int).natAbs ≤ 9223372036854775808 by omega); omega)]
  show (if 2 = 0 then none else cutQ (mkRat (sgn false 1) 2)) = _
  rw [if_neg (by decide)]
  exact hl.cut (by omega)
theorem two_half : ((2 : Int) : Rat) * mkRat 1 2 = 1 := by decide +kernel
theorem two_lg : Lg 8 ((2 : Int) : Rat) := ⟨by decide, by decide⟩
theorem rfi_two : rfi 2 = ofO (some ((2 : Int) : Rat)) := rfl
theorem area_c {k : Nat} {x y u v s t : Rat} (hx : Lg k x) (hy : Lg k y) (hu : Lg k u) (hv : Lg k v) (hs : Lg k s) (ht : Lg k t) (h5 : 8 * k + 5 ≤ 216) (a b c d e g : Ad) (W : World) (h : Rds W (rows (ofO (some x)) a ++ rows (ofO (some y)) b)) (h' : Rds W (rows (ofO (some u)) c ++ rows (ofO (some v)) d)) (h'' : Rds W (rows (ofO (some s)) e ++ rows (ofO (some t)) g)) :
    Calls Tryz.prog 7 #[.agg #[.bool (ofO (some x)).p, .slice a.A (ofO (some x)).l.length a.c, .slice a.D (ofO (some x)).m.length a.d, .bool (ofO (some y)).p, .slice b.A (ofO (some y)).l.length b.c, .slice b.D (ofO (some y)).m.length b.d], .agg #[.bool (ofO (some u)).p, .slice c.A (ofO (some u)).l.length c.c, .slice c.D (ofO (some u)).m.length c.d, .bool (ofO (some v)).p, .slice d.A (ofO (some v)).l.length d.c, .slice d.D (ofO (some v)).m.length d.d], .agg #[.bool (ofO (some s)).p, .slice e.A (ofO (some s)).l.length e.c, .slice e.D (ofO (some s)).m.length e.d, .bool (ofO (some t)).p, .slice g.A (ofO (some t)).l.length g.c, .slice g.D (ofO (some t)).m.length g.d]] W (MadeQ W.heap.size (ofO (some (det x y u v s t))) W) := by
  have hk : k ≤ 216 := by omega
  have K := impl_areaP _ _ _ _ _ _ a b c d e g W (l9 (lS hx hk).1) (l9 (lS hx hk).2) (l9 (lS hy hk).1) (l9 (lS hy hk).2) (l9 (lS hu hk).1) (l9 (lS hu hk).2) (l9 (lS hv hk).1) (l9 (lS hv hk).2) (l9 (lS hs hk).1) (l9 (lS hs hk).2) (l9 (lS ht hk).1) (l9 (lS ht hk).2) h h' h'' (by rw [okL hx hk, okL hy hk, okL hu hk, okL hv hk, okL hs hk, okL ht hk]; rfl)
  rw [vS hx hk, vS hy hk, vS hu hk, vS hv hk, vS hs hk, vS ht hk, suS hu hx (by omega), suS hv hy (by omega), suS hs hx (by omega), suS ht hy (by omega), (boS _ _).1, (boS _ _).2, (boS _ _).1, (boS _ _).2,
    muS (hu.sub hx) (ht.sub hy) (by omega), muS (hv.sub hy) (hs.sub hx) (by omega), suS ((hu.sub hx).mul (ht.sub hy)) ((hv.sub hy).mul (hs.sub hx)) (by omega)] at K
  exact K
theorem add_c {k : Nat} {x y u v : Rat} (hx : Lg k x) (hy : Lg k y) (hu : Lg k u) (hv : Lg k v) (h5 : 8 * k + 5 ≤ 216) (a b c d : Ad) (W : World) (h : Rds W (rows (ofO (some x)) a ++ rows (ofO (some y)) b)) (h' : Rds W (rows (ofO (some u)) c ++ rows (ofO (some v)) d)) :
    Calls Tryz.prog 13 #[.agg #[.bool (ofO (some x)).p, .slice a.A (ofO (some x)).l.length a.c, .slice a.D (ofO (some x)).m.length a.d, .bool (ofO (some y)).p, .slice b.A (ofO (some y)).l.length b.c, .slice b.D (ofO (some y)).m.length b.d], .agg #[.bool (ofO (some u)).p, .slice c.A (ofO (some u)).l.length c.c, .slice c.D (ofO (some u)).m.length c.d, .bool (ofO (some v)).p, .slice d.A (ofO (some v)).l.length d.c, .slice d.D (ofO (some v)).m.length d.d]] W (MadeP W.heap.size (ofO (some (x + u))) (ofO (some (y + v))) W) := by
  have hk : k ≤ 216 := by omega
  have K := impl_addP _ _ _ _ a b c d W (l9 (lS hx hk).1) (l9 (lS hx hk).2) (l9 (lS hy hk).1) (l9 (lS hy hk).2) (l9 (lS hu hk).1) (l9 (lS hu hk).2) (l9 (lS hv hk).1) (l9 (lS hv hk).2) h h' (ok4 hx hy hu hv hk)
  rw [vS hx hk, vS hy hk, vS hu hk, vS hv hk, adS hx hu (by omega), adS hy hv (by omega), (boS _ _).1, (boS _ _).2] at K
  exact K
theorem sub_c {k : Nat} {x y u v : Rat} (hx : Lg k x) (hy : Lg k y) (hu : Lg k u) (hv : Lg k v) (h5 : 8 * k + 5 ≤ 216) (a b c d : Ad) (W : World) (h : Rds W (rows (ofO (some x)) a ++ rows (ofO (some y)) b)) (h' : Rds W (rows (ofO (some u)) c ++ rows (ofO (some v)) d)) :
    Calls Tryz.prog 12 #[.agg #[.bool (ofO (some x)).p, .slice a.A (ofO (some x)).l.length a.c, .slice a.D (ofO (some x)).m.length a.d, .bool (ofO (some y)).p, .slice b.A (ofO (some y)).l.length b.c, .slice b.D (ofO (some y)).m.length b.d], .agg #[.bool (ofO (some u)).p, .slice c.A (ofO (some u)).l.length c.c, .slice c.D (ofO (some u)).m.length c.d, .bool (ofO (some v)).p, .slice d.A (ofO (some v)).l.length d.c, .slice d.D (ofO (some v)).m.length d.d]] W (MadeP W.heap.size (ofO (some (x - u))) (ofO (some (y - v))) W) := by
  have hk : k ≤ 216 := by omega
  have K := impl_subP _ _ _ _ a b c d W (l9 (lS hx hk).1) (l9 (lS hx hk).2) (l9 (lS hy hk).1) (l9 (lS hy hk).2) (l9 (lS hu hk).1) (l9 (lS hu hk).2) (l9 (lS hv hk).1) (l9 (lS hv hk).2) h h' (ok4 hx hy hu hv hk)
  rw [vS hx hk, vS hy hk, vS hu hk, vS hv hk, suS hx hu (by omega), suS hy hv (by omega), (boS _ _).1, (boS _ _).2] at K
  exact K
theorem mid_c {k : Nat} {x y u v : Rat} (hx : Lg k x) (hy : Lg k y) (hu : Lg k u) (hv : Lg k v) (h5 : 8 * k + 5 ≤ 216) (a b c d : Ad) (W : World) (h : Rds W (rows (ofO (some x)) a ++ rows (ofO (some y)) b)) (h' : Rds W (rows (ofO (some u)) c ++ rows (ofO (some v)) d)) :
    Calls Tryz.prog 8 #[.agg #[.bool (ofO (some x)).p, .slice a.A (ofO (some x)).l.length a.c, .slice a.D (ofO (some x)).m.length a.d, .bool (ofO (some y)).p, .slice b.A (ofO (some y)).l.length b.c, .slice b.D (ofO (some y)).m.length b.d], .agg #[.bool (ofO (some u)).p, .slice c.A (ofO (some u)).l.length c.c, .slice c.D (ofO (some u)).m.length c.d, .bool (ofO (some v)).p, .slice d.A (ofO (some v)).l.length d.c, .slice d.D (ofO (some v)).m.length d.d]] W (MadeP W.heap.size (ofO (some (mkRat 1 2 * (x + u)))) (ofO (some (mkRat 1 2 * (y + v)))) W) := by
  have hk : k ≤ 216 := by omega
  have K := impl_midP _ _ _ _ a b c d W (l9 (lS hx hk).1) (l9 (lS hx hk).2) (l9 (lS hy hk).1) (l9 (lS hy hk).2) (l9 (lS hu hk).1) (l9 (lS hu hk).2) (l9 (lS hv hk).1) (l9 (lS hv hk).2) h h' (ok4 hx hy hu hv hk)
  rw [vS hx hk, vS hy hk, vS hu hk, vS hv hk, half_q.1, adS hx hu (by omega), adS hy hv (by omega), (boS _ _).1, (boS _ _).2, muS half_q.2 (hx.add hu) (by omega), muS half_q.2 (hy.add hv) (by omega), (boS _ _).1, (boS _ _).2] at K
  exact K
theorem scale_c {k : Nat} {t x y : Rat} (ht : Lg k t) (hx : Lg k x) (hy : Lg k y) (h5 : 8 * k + 5 ≤ 216) (e a b : Ad) (W : World) (h : Rds W (rows (ofO (some t)) e)) (h' : Rds W (rows (ofO (some x)) a ++ rows (ofO (some y)) b)) :
    Calls Tryz.prog 15 #[.agg #[.bool (ofO (some t)).p, .slice e.A (ofO (some t)).l.length e.c, .slice e.D (ofO (some t)).m.length e.d], .agg #[.bool (ofO (some x)).p, .slice a.A (ofO (some x)).l.length a.c, .slice a.D (ofO (some x)).m.length a.d, .bool (ofO (some y)).p, .slice b.A (ofO (some y)).l.length b.c, .slice b.D (ofO (some y)).m.length b.d]] W (MadeP W.heap.size (ofO (some (t * x))) (ofO (some (t * y))) W) := by
  have hk : k ≤ 216 := by omega
  have K := impl_scaleP _ _ _ e a b W (l9 (lS ht hk).1) (l9 (lS ht hk).2) (l9 (lS hx hk).1) (l9 (lS hx hk).2) (l9 (lS hy hk).1) (l9 (lS hy hk).2) h h' (by rw [okL ht hk, okL hx hk, okL hy hk]; rfl)
  rw [vS hx hk, vS hy hk, vS ht hk, muS ht hx (by omega), muS ht hy (by omega), (boS _ _).1, (boS _ _).2] at K
  exact K
theorem inner_c {k : Nat} {x y u v : Rat} (hx : Lg k x) (hy : Lg k y) (hu : Lg k u) (hv : Lg k v) (h5 : 8 * k + 5 ≤ 216) (a b c d : Ad) (W : World) (h : Rds W (rows (ofO (some x)) a ++ rows (ofO (some y)) b)) (h' : Rds W (rows (ofO (some u)) c ++ rows (ofO (some v)) d)) :
    Calls Tryz.prog 17 #[.agg #[.bool (ofO (some x)).p, .slice a.A (ofO (some x)).l.length a.c, .slice a.D (ofO (some x)).m.length a.d, .bool (ofO (some y)).p, .slice b.A (ofO (some y)).l.length b.c, .slice b.D (ofO (some y)).m.length b.d], .agg #[.bool (ofO (some u)).p, .slice c.A (ofO (some u)).l.length c.c, .slice c.D (ofO (some u)).m.length c.d, .bool (ofO (some v)).p, .slice d.A (ofO (some v)).l.length d.c, .slice d.D (ofO (some v)).m.length d.d]] W (MadeQ W.heap.size (ofO (some (x * u + y * v))) W) := by
  have hk : k ≤ 216 := by omega
  have K := impl_innerP _ _ _ _ a b c d W (l9 (lS hx hk).1) (l9 (lS hx hk).2) (l9 (lS hy hk).1) (l9 (lS hy hk).2) (l9 (lS hu hk).1) (l9 (lS hu hk).2) (l9 (lS hv hk).1) (l9 (lS hv hk).2) h h' (ok4 hx hy hu hv hk)
  rw [vS hx hk, vS hy hk, vS hu hk, vS hv hk, muS hx hu (by omega), muS hy hv (by omega), adS (hx.mul hu) (hy.mul hv) (by omega)] at K
  exact K
theorem cross_c {k : Nat} {x y u v : Rat} (hx : Lg k x) (hy : Lg k y) (hu : Lg k u) (hv : Lg k v) (h5 : 8 * k + 5 ≤ 216) (a b c d : Ad) (W : World) (h : Rds W (rows (ofO (some x)) a ++ rows (ofO (some y)) b)) (h' : Rds W (rows (ofO (some u)) c ++ rows (ofO (some v)) d)) :
    Calls Tryz.prog 18 #[.agg #[.bool (ofO (some x)).p, .slice a.A (ofO (some x)).l.length a.c, .slice a.D (ofO (some x)).m.length a.d, .bool (ofO (some y)).p, .slice b.A (ofO (some y)).l.length b.c, .slice b.D (ofO (some y)).m.length b.d], .agg #[.bool (ofO (some u)).p, .slice c.A (ofO (some u)).l.length c.c, .slice c.D (ofO (some u)).m.length c.d, .bool (ofO (some v)).p, .slice d.A (ofO (some v)).l.length d.c, .slice d.D (ofO (some v)).m.length d.d]] W (MadeQ W.heap.size (ofO (some (x * v - y * u))) W) := by
  have hk : k ≤ 216 := by omega
  have K := impl_crossP _ _ _ _ a b c d W (l9 (lS hx hk).1) (l9 (lS hx hk).2) (l9 (lS hy hk).1) (l9 (lS hy hk).2) (l9 (lS hu hk).1) (l9 (lS hu hk).2) (l9 (lS hv hk).1) (l9 (lS hv hk).2) h h' (ok4 hx hy hu hv hk)
  rw [vS hx hk, vS hy hk, vS hu hk, vS hv hk, muS hx hv (by omega), muS hy hu (by omega), suS (hx.mul hv) (hy.mul hu) (by omega)] at K
  exact K
theorem eq_c {k : Nat} {x : Rat} (hx : Lg k x) (hk : k ≤ 216) (a b : Ad) (lo hi : Nat) (W : World) (h : Rds W (rows (ofO (some x)) a)) (h' : Owns lo hi W (rows (ofO (some x)) b)) :
    Calls Tryz.prog 10 #[.agg #[.bool (ofO (some x)).p, .slice a.A (ofO (some x)).l.length a.c, .slice a.D (ofO (some x)).m.length a.d], .agg #[.bool (ofO (some x)).p, .slice b.A (ofO (some x)).l.length b.c, .slice b.D (ofO (some x)).m.length b.d]] W (fun e w' => e = .returned (.bool true) ∧ Below W.heap.size W w') := by
  have hl := lS hx hk
  have h1 := impl_req (ofO (some x)).p (ofO (some x)).p (ofO (some x)).l (ofO (some x)).m (ofO (some x)).l (ofO (some x)).m a.A a.D b.A b.D _ _ _ _ a.c a.d b.c b.d W rfl rfl rfl rfl (Nat.le_trans hl.1 (by omega)) (Nat.le_trans hl.2 (by omega)) (Nat.le_trans hl.1 (by omega)) (Nat.le_trans hl.2 (by omega)) (own_addr h'.hd) (own_addr h'.tl.hd) (rows_rd h).1 (rows_rd h).2 (rows_rd h'.rds).1 (rows_rd h'.rds).2
  rw [decide_eq_true rfl, decide_eq_true rfl, decide_eq_true rfl] at h1
  exact h1
theorem same_c {k : Nat} {x y : Rat} (hx : Lg k x) (hy : Lg k y) (hk : k ≤ 216) (a b c d : Ad) (lo hi : Nat) (W : World) (h : Rds W (rows (ofO (some x)) a ++ rows (ofO (some y)) b)) (h' : Owns lo hi W (rows (ofO (some x)) c ++ rows (ofO (some y)) d)) :
    Calls Tryz.prog 9 #[.agg #[.bool (ofO (some x)).p, .slice a.A (ofO (some x)).l.length a.c, .slice a.D (ofO (some x)).m.length a.d, .bool (ofO (some y)).p, .slice b.A (ofO (some y)).l.length b.c, .slice b.D (ofO (some y)).m.length b.d], .agg #[.bool (ofO (some x)).p, .slice c.A (ofO (some x)).l.length c.c, .slice c.D (ofO (some x)).m.length c.d, .bool (ofO (some y)).p, .slice d.A (ofO (some y)).l.length d.c, .slice d.D (ofO (some y)).m.length d.d]] W (fun e w' => e = .returned (.bool true) ∧ Below W.heap.size W w') := by
  have s1 : Short (ofO (some x)) := ⟨l20 (lS hx hk).1, l20 (lS hx hk).2⟩
  have s2 : Short (ofO (some y)) := ⟨l20 (lS hy hk).1, l20 (lS hy hk).2⟩
  have K := impl_sameP _ _ _ _ a b c d W s1 s2 s1 s2 ⟨own_addr (owns_l h').hd, own_addr (owns_l h').tl.hd⟩ ⟨own_addr (owns_r h').hd, own_addr (owns_r h').tl.hd⟩ h h'.rds
  have e : ∀ z : R3, sameR z z = true := fun z => by unfold sameR; simp
  rw [e, e] at K
  exact K
theorem sign0_c (a : Ad) (W : World) (h : Rds W (rows (ofO (some (0 : Rat))) a)) : Calls Tryz.prog 14 #[.agg #[.bool (ofO (some (0 : Rat))).p, .slice a.A (ofO (some (0 : Rat))).l.length a.c, .slice a.D (ofO (some (0 : Rat))).m.length a.d]] W (fun e w' => e = .returned (.int .i64 0) ∧ Below W.heap.size W w') := by
  have l0 : Lg 1 (0 : Rat) := ⟨by decide, by decide⟩
  have hl := lS l0 (by omega)
  have h1 := impl_rsign (ofO (some (0 : Rat))).p (ofO (some (0 : Rat))).l (ofO (some (0 : Rat))).m a.A a.D _ _ a.c a.d W rfl rfl (l9 hl.1) (l9 hl.2) (rows_rd h).1 (rows_rd h).2
  rw [show sgnO (valQ (ofO (some (0 : Rat))).p (ofO (some (0 : Rat))).l (ofO (some (0 : Rat))).m) = 0 by
    rw [show valQ (ofO (some (0 : Rat))).p (ofO (some (0 : Rat))).l (ofO (some (0 : Rat))).m = some 0 from vS l0 (by omega)]; decide] at h1
  exact h1
theorem neg_c {k : Nat} {x : Rat} (hx : Lg k x) (hk : k ≤ 216) (a : Ad) (W : World) (h : Rds W (rows (ofO (some x)) a)) : Calls Tryz.prog 11 #[.agg #[.bool (ofO (some x)).p, .slice a.A (ofO (some x)).l.length a.c, .slice a.D (ofO (some x)).m.length a.d]] W (MadeQ W.heap.size (ofO (some (-x))) W) := by
  have hl := lS hx hk
  have h1 := impl_rneg_yes (ofO (some x)).p (ofO (some x)).l (ofO (some x)).m a.A a.D _ _ a.c a.d W rfl rfl (l9 hl.1) (l9 hl.2) (rows_rd h).1 (rows_rd h).2 (okL hx hk)
  rw [show valQ (ofO (some x)).p (ofO (some x)).l (ofO (some x)).m = some x from vS hx hk] at h1
  exact h1.mono fun e w' k => MadeR.toQ (x := ofO (some (-x))) k
/-- A point is read back from its text. -/
theorem pp_round {x y : Rat} (hx : Fit x) (hy : Fit y) {s : ByteArray} (hs : s.data.toList = fmtR (zn x.num) (zm x.num) (nd x.den) ++ 44 :: fmtR (zn y.num) (zm y.num) (nd y.den)) : ppX s = ofO (some x) ∧ ppY s = ofO (some y) ∧ ppOk s = true := by
  obtain ⟨x1, x2, x3, x4⟩ := prat_round (s := ⟨(fmtR (zn x.num) (zm x.num) (nd x.den)).toArray⟩) hx (mk_list _)
  obtain ⟨y1, y2, y3, y4⟩ := prat_round (s := ⟨(fmtR (zn y.num) (zm y.num) (nd y.den)).toArray⟩) hy (mk_list _)
  have nx := (prOk_text x4).1
  rw [mk_list] at nx
  have hT : ctTC s = ⟨(fmtR (zn x.num) (zm x.num) (nd x.den)).toArray⟩ ∧ ctUC s = ⟨(fmtR (zn y.num) (zm y.num) (nd y.den)).toArray⟩ := by
    rcases cut_casesC s.data.toList with ⟨hn, _⟩ | ⟨a, b, ha, e, hc⟩
    · exact absurd rfl (hn 44 (by rw [hs]; simp))
    · rw [hs] at e
      obtain ⟨e1, e2⟩ := comma_unique nx ha e
      unfold ctTC ctUC
      rw [hc, e1, e2]
      exact ⟨rfl, rfl⟩
  have ho : ppOk s = true := by unfold ppOk; rw [hT.1, hT.2, x4, y4]; rfl
  unfold ppX ppY
  rw [ho, if_pos rfl, if_pos rfl, hT.1, hT.2]
  unfold prR
  rw [x1, x2, x3, y1, y2, y3]
  exact ⟨rfl, rfl, rfl⟩

set_option maxHeartbeats 1000000 in
theorem all_points (px py qx qy rx ry : R3) (h1 : Dd 3 px) (h2 : Dd 3 py) (h3 : Dd 3 qx) (h4 : Dd 3 qy) (h5 : Dd 3 rx) (h6 : Dd 3 ry) : ∃ (T : ByteArray) (D N MX MY SX SY I Z : R3),
    (∀ a b W, Rds W (rows px a ++ rows py b) → Lib.TabIs Tryz.prog W "internal/strconv.uint64pow10" .u64 Lib.pow10Tab → Calls Tryz.prog 6 #[.agg #[.bool px.p, .slice a.A px.l.length a.c, .slice a.D px.m.length a.d, .bool py.p, .slice b.A py.l.length b.c, .slice b.D py.m.length b.d]] W (fun e w' => e = .returned (.string T) ∧ Below W.heap.size W w')) ∧
    (∀ mx W, W.cell? ⟨0, 0, none⟩ = some (.int .i64 mx) → Calls Tryz.prog 5 #[.string T] W (PairP W.heap.size px py true W)) ∧
    (∀ a b c d e g W, Rds W (rows px a ++ rows py b) → Rds W (rows qx c ++ rows qy d) → Rds W (rows rx e ++ rows ry g) → Calls Tryz.prog 7 #[.agg #[.bool px.p, .slice a.A px.l.length a.c, .slice a.D px.m.length a.d, .bool py.p, .slice b.A py.l.length b.c, .slice b.D py.m.length b.d], .agg #[.bool qx.p, .slice c.A qx.l.length c.c, .slice c.D qx.m.length c.d, .bool qy.p, .slice d.A qy.l.length d.c, .slice d.D qy.m.length d.d], .agg #[.bool rx.p, .slice e.A rx.l.length e.c, .slice e.D rx.m.length e.d, .bool ry.p, .slice g.A ry.l.length g.c, .slice g.D ry.m.length g.d]] W (MadeQ W.heap.size D W)) ∧
    (∀ a b c d e g W, Rds W (rows px a ++ rows py b) → Rds W (rows qx c ++ rows qy d) → Rds W (rows rx e ++ rows ry g) → Calls Tryz.prog 7 #[.agg #[.bool qx.p, .slice c.A qx.l.length c.c, .slice c.D qx.m.length c.d, .bool qy.p, .slice d.A qy.l.length d.c, .slice d.D qy.m.length d.d], .agg #[.bool rx.p, .slice e.A rx.l.length e.c, .slice e.D rx.m.length e.d, .bool ry.p, .slice g.A ry.l.length g.c, .slice g.D ry.m.length g.d], .agg #[.bool px.p, .slice a.A px.l.length a.c, .slice a.D px.m.length a.d, .bool py.p, .slice b.A py.l.length b.c, .slice b.D py.m.length b.d]] W (MadeQ W.heap.size D W)) ∧
    (∀ a b c d e g W, Rds W (rows px a ++ rows py b) → Rds W (rows qx c ++ rows qy d) → Rds W (rows rx e ++ rows ry g) → Calls Tryz.prog 7 #[.agg #[.bool qx.p, .slice c.A qx.l.length c.c, .slice c.D qx.m.length c.d, .bool qy.p, .slice d.A qy.l.length d.c, .slice d.D qy.m.length d.d], .agg #[.bool px.p, .slice a.A px.l.length a.c, .slice a.D px.m.length a.d, .bool py.p, .slice b.A py.l.length b.c, .slice b.D py.m.length b.d], .agg #[.bool rx.p, .slice e.A rx.l.length e.c, .slice e.D rx.m.length e.d, .bool ry.p, .slice g.A ry.l.length g.c, .slice g.D ry.m.length g.d]] W (MadeQ W.heap.size N W)) ∧
    (∀ a W, Rds W (rows D a) → Calls Tryz.prog 11 #[.agg #[.bool D.p, .slice a.A D.l.length a.c, .slice a.D D.m.length a.d]] W (MadeQ W.heap.size N W)) ∧
    (∀ a b c d W, Rds W (rows px a ++ rows py b) → Rds W (rows qx c ++ rows qy d) → Calls Tryz.prog 8 #[.agg #[.bool px.p, .slice a.A px.l.length a.c, .slice a.D px.m.length a.d, .bool py.p, .slice b.A py.l.length b.c, .slice b.D py.m.length b.d], .agg #[.bool qx.p, .slice c.A qx.l.length c.c, .slice c.D qx.m.length c.d, .bool qy.p, .slice d.A qy.l.length d.c, .slice d.D qy.m.length d.d]] W (MadeP W.heap.size MX MY W)) ∧
    (∀ a b c d e g W, Rds W (rows px a ++ rows py b) → Rds W (rows qx c ++ rows qy d) → Rds W (rows MX e ++ rows MY g) → Calls Tryz.prog 7 #[.agg #[.bool px.p, .slice a.A px.l.length a.c, .slice a.D px.m.length a.d, .bool py.p, .slice b.A py.l.length b.c, .slice b.D py.m.length b.d], .agg #[.bool qx.p, .slice c.A qx.l.length c.c, .slice c.D qx.m.length c.d, .bool qy.p, .slice d.A qy.l.length d.c, .slice d.D qy.m.length d.d], .agg #[.bool MX.p, .slice e.A MX.l.length e.c, .slice e.D MX.m.length e.d, .bool MY.p, .slice g.A MY.l.length g.c, .slice g.D MY.m.length g.d]] W (MadeQ W.heap.size Z W)) ∧
    (∀ a W, Rds W (rows Z a) → Calls Tryz.prog 14 #[.agg #[.bool Z.p, .slice a.A Z.l.length a.c, .slice a.D Z.m.length a.d]] W (fun e w' => e = .returned (.int .i64 0) ∧ Below W.heap.size W w')) ∧
    (∀ a b c d W, Rds W (rows px a ++ rows py b) → Rds W (rows qx c ++ rows qy d) → Calls Tryz.prog 13 #[.agg #[.bool px.p, .slice a.A px.l.length a.c, .slice a.D px.m.length a.d, .bool py.p, .slice b.A py.l.length b.c, .slice b.D py.m.length b.d], .agg #[.bool qx.p, .slice c.A qx.l.length c.c, .slice c.D qx.m.length c.d, .bool qy.p, .slice d.A qy.l.length d.c, .slice d.D qy.m.length d.d]] W (MadeP W.heap.size SX SY W)) ∧
    (∀ c d e g W, Rds W (rows SX e ++ rows SY g) → Rds W (rows qx c ++ rows qy d) → Calls Tryz.prog 12 #[.agg #[.bool SX.p, .slice e.A SX.l.length e.c, .slice e.D SX.m.length e.d, .bool SY.p, .slice g.A SY.l.length g.c, .slice g.D SY.m.length g.d], .agg #[.bool qx.p, .slice c.A qx.l.length c.c, .slice c.D qx.m.length c.d, .bool qy.p, .slice d.A qy.l.length d.c, .slice d.D qy.m.length d.d]] W (MadeP W.heap.size px py W)) ∧
    (∀ a e g W, Rds W (rows (rfi 2) a) → Rds W (rows MX e ++ rows MY g) → Calls Tryz.prog 15 #[.agg #[.bool (rfi 2).p, .slice a.A (rfi 2).l.length a.c, .slice a.D (rfi 2).m.length a.d], .agg #[.bool MX.p, .slice e.A MX.l.length e.c, .slice e.D MX.m.length e.d, .bool MY.p, .slice g.A MY.l.length g.c, .slice g.D MY.m.length g.d]] W (MadeP W.heap.size SX SY W)) ∧
    (∀ a b c d W, Rds W (rows px a ++ rows py b) → Rds W (rows qx c ++ rows qy d) → Calls Tryz.prog 17 #[.agg #[.bool px.p, .slice a.A px.l.length a.c, .slice a.D px.m.length a.d, .bool py.p, .slice b.A py.l.length b.c, .slice b.D py.m.length b.d], .agg #[.bool qx.p, .slice c.A qx.l.length c.c, .slice c.D qx.m.length c.d, .bool qy.p, .slice d.A qy.l.length d.c, .slice d.D qy.m.length d.d]] W (MadeQ W.heap.size I W)) ∧
    (∀ a b c d W, Rds W (rows px a ++ rows py b) → Rds W (rows qx c ++ rows qy d) → Calls Tryz.prog 17 #[.agg #[.bool qx.p, .slice c.A qx.l.length c.c, .slice c.D qx.m.length c.d, .bool qy.p, .slice d.A qy.l.length d.c, .slice d.D qy.m.length d.d], .agg #[.bool px.p, .slice a.A px.l.length a.c, .slice a.D px.m.length a.d, .bool py.p, .slice b.A py.l.length b.c, .slice b.D py.m.length b.d]] W (MadeQ W.heap.size I W)) ∧
    (∀ a b W, Rds W (rows px a ++ rows py b) → Calls Tryz.prog 18 #[.agg #[.bool px.p, .slice a.A px.l.length a.c, .slice a.D px.m.length a.d, .bool py.p, .slice b.A py.l.length b.c, .slice b.D py.m.length b.d], .agg #[.bool px.p, .slice a.A px.l.length a.c, .slice a.D px.m.length a.d, .bool py.p, .slice b.A py.l.length b.c, .slice b.D py.m.length b.d]] W (MadeQ W.heap.size Z W)) ∧
    (∀ a b lo hi W, Rds W (rows D a) → Owns lo hi W (rows D b) → Calls Tryz.prog 10 #[.agg #[.bool D.p, .slice a.A D.l.length a.c, .slice a.D D.m.length a.d], .agg #[.bool D.p, .slice b.A D.l.length b.c, .slice b.D D.m.length b.d]] W (fun e w' => e = .returned (.bool true) ∧ Below W.heap.size W w')) ∧
    (∀ a b lo hi W, Rds W (rows N a) → Owns lo hi W (rows N b) → Calls Tryz.prog 10 #[.agg #[.bool N.p, .slice a.A N.l.length a.c, .slice a.D N.m.length a.d], .agg #[.bool N.p, .slice b.A N.l.length b.c, .slice b.D N.m.length b.d]] W (fun e w' => e = .returned (.bool true) ∧ Below W.heap.size W w')) ∧
    (∀ a b lo hi W, Rds W (rows I a) → Owns lo hi W (rows I b) → Calls Tryz.prog 10 #[.agg #[.bool I.p, .slice a.A I.l.length a.c, .slice a.D I.m.length a.d], .agg #[.bool I.p, .slice b.A I.l.length b.c, .slice b.D I.m.length b.d]] W (fun e w' => e = .returned (.bool true) ∧ Below W.heap.size W w')) ∧
    (∀ a b c d lo hi W, Rds W (rows px a ++ rows py b) → Owns lo hi W (rows px c ++ rows py d) → Calls Tryz.prog 9 #[.agg #[.bool px.p, .slice a.A px.l.length a.c, .slice a.D px.m.length a.d, .bool py.p, .slice b.A py.l.length b.c, .slice b.D py.m.length b.d], .agg #[.bool px.p, .slice c.A px.l.length c.c, .slice c.D px.m.length c.d, .bool py.p, .slice d.A py.l.length d.c, .slice d.D py.m.length d.d]] W (fun e w' => e = .returned (.bool true) ∧ Below W.heap.size W w')) ∧
    (∀ a b c d lo hi W, Rds W (rows SX a ++ rows SY b) → Owns lo hi W (rows SX c ++ rows SY d) → Calls Tryz.prog 9 #[.agg #[.bool SX.p, .slice a.A SX.l.length a.c, .slice a.D SX.m.length a.d, .bool SY.p, .slice b.A SY.l.length b.c, .slice b.D SY.m.length b.d], .agg #[.bool SX.p, .slice c.A SX.l.length c.c, .slice c.D SX.m.length c.d, .bool SY.p, .slice d.A SY.l.length d.c, .slice d.D SY.m.length d.d]] W (fun e w' => e = .returned (.bool true) ∧ Below W.heap.size W w')) := by
  obtain ⟨a1, rfl, l1⟩ := h1
  obtain ⟨b1, rfl, l2⟩ := h2
  obtain ⟨c1, rfl, l3⟩ := h3
  obtain ⟨d1, rfl, l4⟩ := h4
  obtain ⟨e1, rfl, l5⟩ := h5
  obtain ⟨f1, rfl, l6⟩ := h6
  have lD : Lg 29 (det a1 b1 c1 d1 e1 f1) := (det_lg l1 l2 l3 l4 l5 l6).more (by omega)
  have lM : Lg 8 (mkRat 1 2 * (a1 + c1)) := (half_q.2.mul (l1.add l3)).more (by omega)
  have lN : Lg 8 (mkRat 1 2 * (b1 + d1)) := (half_q.2.mul (l2.add l4)).more (by omega)
  have lS1 : Lg 7 (a1 + c1) := (l1.add l3).more (by omega)
  have lS2 : Lg 7 (b1 + d1) := (l2.add l4).more (by omega)
  have lI : Lg 13 (a1 * c1 + b1 * d1) := ((l1.mul l3).add (l2.mul l4)).more (by omega)
  have hh := two_half
  have i1 : det c1 d1 e1 f1 a1 b1 = det a1 b1 c1 d1 e1 f1 := by unfold det; grind
  have i2 : det c1 d1 a1 b1 e1 f1 = - det a1 b1 c1 d1 e1 f1 := by unfold det; grind
  have i3 : det a1 b1 c1 d1 (mkRat 1 2 * (a1 + c1)) (mkRat 1 2 * (b1 + d1)) = 0 := by
    unfold det
    generalize mkRat 1 2 = t at hh
    rw [show ((2 : Int) : Rat) = 2 from rfl] at hh
    grind
  have i4 : ((2 : Int) : Rat) * (mkRat 1 2 * (a1 + c1)) = a1 + c1 := by rw [← Rat.mul_assoc, hh, Rat.one_mul]
  have i5 : ((2 : Int) : Rat) * (mkRat 1 2 * (b1 + d1)) = b1 + d1 := by rw [← Rat.mul_assoc, hh, Rat.one_mul]
  have i6 : a1 + c1 - c1 = a1 := by grind
  have i7 : b1 + d1 - d1 = b1 := by grind
  have i8 : c1 * a1 + d1 * b1 = a1 * c1 + b1 * d1 := by grind
  have i9 : a1 * b1 - b1 * a1 = 0 := by grind
  have l2' := two_lg
  have e2 := rfi_two
  have f1' := l1.fit (show 3 ≤ 216 by omega)
  have f2' := l2.fit (show 3 ≤ 216 by omega)
  have hT : (⟨(fmtR (zn a1.num) (zm a1.num) (nd a1.den) ++ 44 :: fmtR (zn b1.num) (zm b1.num) (nd b1.den)).toArray⟩ : ByteArray).size ≤ 1048576 := by
    have s1 : (fmtR (zn a1.num) (zm a1.num) (nd a1.den)).length ≤ 2500 := fmtR_len24 f1'
    have s2 : (fmtR (zn b1.num) (zm b1.num) (nd b1.den)).length ≤ 2500 := fmtR_len24 f2'
    show (fmtR (zn a1.num) (zm a1.num) (nd a1.den) ++ 44 :: fmtR (zn b1.num) (zm b1.num) (nd b1.den)).length ≤ 1048576
    rw [List.length_append, List.length_cons]; omega
  refine ⟨⟨(fmtR (zn a1.num) (zm a1.num) (nd a1.den) ++ 44 :: fmtR (zn b1.num) (zm b1.num) (nd b1.den)).toArray⟩, ofO (some (det a1 b1 c1 d1 e1 f1)), ofO (some (- det a1 b1 c1 d1 e1 f1)), ofO (some (mkRat 1 2 * (a1 + c1))), ofO (some (mkRat 1 2 * (b1 + d1))), ofO (some (a1 + c1)), ofO (some (b1 + d1)), ofO (some (a1 * c1 + b1 * d1)), ofO (some 0), ?_, ?_, ?_, ?_, ?_, ?_, ?_, ?_, ?_, ?_, ?_, ?_, ?_, ?_, ?_, ?_, ?_, ?_, ?_, ?_⟩
  · intro a b W h t
    exact impl_fmtP_yes (ofO (some a1)) (ofO (some b1)) a b W (l9 (lS l1 (by omega)).1) (l9 (lS l1 (by omega)).2) (l9 (lS l2 (by omega)).1) (l9 (lS l2 (by omega)).2) t h (by rw [okL l1 (by omega), okL l2 (by omega)]; rfl)
  · intro mx W h
    obtain ⟨z1, z2, z3⟩ := pp_round (s := ⟨(fmtR (zn a1.num) (zm a1.num) (nd a1.den) ++ 44 :: fmtR (zn b1.num) (zm b1.num) (nd b1.den)).toArray⟩) f1' f2' (mk_list _)
    have K := impl_ppt ⟨(fmtR (zn a1.num) (zm a1.num) (nd a1.den) ++ 44 :: fmtR (zn b1.num) (zm b1.num) (nd b1.den)).toArray⟩ mx W hT h
    rw [z1, z2, z3] at K; exact K
  · intro a b c d e g W h h' k
    exact area_c l1 l2 l3 l4 l5 l6 (by omega) a b c d e g W h h' k
  · intro a b c d e g W h h' k
    have K := area_c l3 l4 l5 l6 l1 l2 (by omega) c d e g a b W h' k h
    rw [i1] at K; exact K
  · intro a b c d e g W h h' k
    have K := area_c l3 l4 l1 l2 l5 l6 (by omega) c d a b e g W h' h k
    rw [i2] at K; exact K
  · intro a W h
    exact neg_c lD (by omega) a W h
  · intro a b c d W h h'
    exact mid_c l1 l2 l3 l4 (by omega) a b c d W h h'
  · intro a b c d e g W h h' k
    have K := area_c (l1.more (show 3 ≤ 8 by omega)) (l2.more (show 3 ≤ 8 by omega)) (l3.more (show 3 ≤ 8 by omega)) (l4.more (show 3 ≤ 8 by omega)) lM lN (by omega) a b c d e g W h h' k
    rw [i3] at K; exact K
  · intro a W h
    exact sign0_c a W h
  · intro a b c d W h h'
    exact add_c l1 l2 l3 l4 (by omega) a b c d W h h'
  · intro c d e g W h h'
    have K := sub_c lS1 lS2 (l3.more (show 3 ≤ 7 by omega)) (l4.more (show 3 ≤ 7 by omega)) (by omega) e g c d W h h'
    rw [i6, i7] at K; exact K
  · intro a e g W h h'
    rw [e2] at h ⊢
    have K := scale_c l2' lM lN (by omega) a e g W h h'
    rw [i4, i5] at K; exact K
  · intro a b c d W h h'
    exact inner_c l1 l2 l3 l4 (by omega) a b c d W h h'
  · intro a b c d W h h'
    have K := inner_c l3 l4 l1 l2 (by omega) c d a b W h' h
    rw [i8] at K; exact K
  · intro a b W h
    have K := cross_c l1 l2 l1 l2 (by omega) a b a b W h h
    rw [i9] at K; exact K
  · intro a b lo hi W h h'
    exact eq_c lD (by omega) a b lo hi W h h'
  · intro a b lo hi W h h'
    exact eq_c lD.neg (by omega) a b lo hi W h h'
  · intro a b lo hi W h h'
    exact eq_c lI (by omega) a b lo hi W h h'
  · intro a b c d lo hi W h h'
    exact same_c l1 l2 (by omega) a b c d lo hi W h h'
  · intro a b c d lo hi W h h'
    exact same_c lS1 lS2 (by omega) a b c d lo hi W h h'
end Go.Proofs.YtdgfbnnohnaoaaaGreatDoor

