/-
  What the law of small fractions asks of the program's functions, between opaque parts.
-/
import Derived.Test.YtkmfbanlkglkmabGreatDoorMkRat
import Derived.Test.YtkmfbanlkglkmabGreatDoorRatsM
import Derived.Test.YtkmfbanlkglkmabGreatDoorDkH
import Derived.Test.YtkmfbanlkglkmabGreatDoorPRatW
namespace Go.Proofs.YtkmfbanlkglkmabGreatDoor
open Go.ChangeShapes Go.WideShapes Go.ChangeAt Go.RowKit
open Go.ChangeMaps (open_string shut_string)
set_option linter.unusedVariables false
set_option linter.unusedSimpArgs false
set_option maxRecDepth 4000

/-- A fraction read back from its text. -/
theorem prat_round {q : Rat} (h : Fit q) {s : ByteArray} (hs : s.data.toList = fmtR (zn q.num) (zm q.num) (nd q.den)) : prP s = zn q.num ∧ prL s = zm q.num ∧ prM s = nd q.den ∧ prOk s = true := by
  have h60 : ln q.num.natAbs ≤ 60 := by have := h.1; omega
  have hd60 : ln q.den ≤ 60 := by have := h.2; omega
  have hk := okR_mk h
  obtain ⟨r1, r2, r3⟩ := round_big h60 rfl
  have fin : ∀ T : ByteArray, T = ⟨(fmtB (zn q.num) (zm q.num)).toArray⟩ → ctT s = T → okS (prB s) = true → prsL (prB s) = nd q.den → (ctQ s && decide (prsL (prB s) = [1])) = false → prP s = zn q.num ∧ prL s = zm q.num ∧ prM s = nd q.den ∧ prOk s = true := by
    rintro T rfl hT h2 h3 h4
    have hS : prS s = zn q.num := by unfold prS; rw [hT, r2, r1, Bool.and_true]
    have hN : prN s = zm q.num := by unfold prN; rw [hT, r3]
    have ho : prOk s = true := by unfold prOk; rw [hS, hN, hT, r2, h2, h4, h3, hk]; rfl
    unfold prP prL prM
    rw [ho, hS, hN, h3]
    exact ⟨rfl, rfl, rfl, rfl⟩
  by_cases h1 : nd q.den = [1]
  · rw [h1] at hk
    have hl : s.data.toList = fmtB (zn q.num) (zm q.num) := by rw [hs, h1, fmtR_one hk]
    rcases cut_cases s.data.toList with ⟨_, hc⟩ | ⟨a, b, _, e, _⟩
    · have hT : ctT s = s := byte_eq (by unfold ctT; rw [hc, mk_list])
      have hq : ctQ s = false := by unfold ctQ; rw [hc]
      have hB : prB s = ⟨#[49]⟩ := by unfold prB; rw [hq]; rfl
      exact fin s (byte_eq (by rw [hl])) hT (by rw [hB]; exact one_text.1) (by rw [hB, h1]; exact one_text.2) (by rw [hq]; rfl)
    · exact absurd rfl (fmtB_slash _ _ 47 (by rw [← hl, e]; simp))
  · have hl : s.data.toList = fmtB (zn q.num) (zm q.num) ++ 47 :: fmtL (nd q.den) := by rw [hs, fmtR_two hk h1]
    have hf : fmtL (nd q.den) = fmtN q.den := by unfold fmtL; rw [nd_ok hd60, val_nd]; rfl
    rcases cut_cases s.data.toList with ⟨hn, _⟩ | ⟨a, b, ha, e, hc⟩
    · exact absurd rfl (hn 47 (by rw [hl]; simp))
    · rw [hl] at e
      obtain ⟨e1, e2⟩ := slash_unique (fmtB_slash _ _) ha e
      have hT : ctT s = ⟨(fmtB (zn q.num) (zm q.num)).toArray⟩ := by unfold ctT; rw [hc, e1]
      have hq : ctQ s = true := by unfold ctQ; rw [hc]
      have hB : prB s = ⟨(fmtN q.den).toArray⟩ := by unfold prB ctU; rw [hq, hc, ← e2, hf]; rfl
      obtain ⟨g1, g2⟩ := round_nat hd60
      exact fin _ rfl hT (by rw [hB]; exact g1) (by rw [hB]; exact g2) (by rw [hq, hB, g2, decide_eq_false h1]; rfl)
theorem few_some {o : Option Rat} (h : Few o) : ∃ q, o = some q ∧ Sm 10 q := by
  obtain ⟨x, y, h1, h2, h3, h4, rfl⟩ := h
  have lx := ln_word (show x.natAbs ≤ 9223372036854775808 by omega)
  have ly := ln_word (show y.natAbs ≤ 9223372036854775808 by omega)
  unfold ofQ
  rw [makQ_yes (by omega) (by omega)]
  unfold lowQ
  rw [if_neg (by omega)]
  have hs : Sm 10 (mkRat (sgn (!(zn x == zn y)) x.natAbs) y.natAbs) := Sm.mk (by omega) (by rw [sgn_abs]; omega) (by omega)
  exact ⟨_, cutQ_in (hs.fit (by omega)), hs⟩
theorem fitl {q : Rat} (h : Fit q) : (zm q.num).length ≤ 24 ∧ (nd q.den).length ≤ 24 := by
  rw [zm_length, nd_length]; exact h
def IsQ (p : Bool) (l m : List Int) : Prop := ∃ q : Rat, Sm 10 q ∧ p = zn q.num ∧ l = zm q.num ∧ m = nd q.den
def BinC (f : FuncId) (p : Bool) (l m : List Int) (q : Bool) (l' m' : List Int) (r : Bool) (L M : List Int) : Prop :=
  ∀ W A c D d A' c' D' d', RdS W A (vi l) → RdS W D (vi m) → RdS W A' (vi l') → RdS W D' (vi m') → Calls Tryz.prog f #[.agg #[.bool p, .slice A l.length c, .slice D m.length d], .agg #[.bool q, .slice A' l'.length c', .slice D' m'.length d']] W (MadeR W.heap.size r L M W)
def CmpRC (p : Bool) (l m : List Int) (q : Bool) (l' m' : List Int) (v : Int) : Prop :=
  ∀ W A c D d A' c' D' d', RdS W A (vi l) → RdS W D (vi m) → RdS W A' (vi l') → RdS W D' (vi m') → Calls Tryz.prog 22 #[.agg #[.bool p, .slice A l.length c, .slice D m.length d], .agg #[.bool q, .slice A' l'.length c', .slice D' m'.length d']] W fun e w' => e = .returned (.int .i64 v) ∧ Below W.heap.size W w'
def SgnC (p : Bool) (l m : List Int) (v : Int) : Prop :=
  ∀ W A c D d, RdS W A (vi l) → RdS W D (vi m) → Calls Tryz.prog 23 #[.agg #[.bool p, .slice A l.length c, .slice D m.length d]] W fun e w' => e = .returned (.int .i64 v) ∧ Below W.heap.size W w'
def EqC (p : Bool) (l m : List Int) : Prop :=
  ∀ W A c D d A' c' D' d', RdS W A (vi l) → RdS W D (vi m) → RdS W A' (vi l) → RdS W D' (vi m) → (l.length = 0 ∨ ∃ g, A' = some ⟨g, 0, none⟩) → (m.length = 0 ∨ ∃ g, D' = some ⟨g, 0, none⟩) → Calls Tryz.prog 19 #[.agg #[.bool p, .slice A l.length c, .slice D m.length d], .agg #[.bool p, .slice A' l.length c', .slice D' m.length d']] W fun e w' => e = .returned (.bool true) ∧ Below W.heap.size W w'
def FmtRC (p : Bool) (l m : List Int) (s : ByteArray) : Prop :=
  ∀ W A c D d, RdS W A (vi l) → RdS W D (vi m) → Lib.TabIs Tryz.prog W "internal/strconv.uint64pow10" .u64 Lib.pow10Tab → Calls Tryz.prog 18 #[.agg #[.bool p, .slice A l.length c, .slice D m.length d]] W fun e w' => e = .returned (.string s) ∧ Below W.heap.size W w'
def PrsRC (s : ByteArray) (p : Bool) (l m : List Int) : Prop :=
  ∀ W mx, W.cell? ⟨0, 0, none⟩ = some (.int .i64 mx) → Calls Tryz.prog 17 #[.string s] W (PairR W.heap.size p l m true W)
theorem add_rc {x y z : Rat} (hx : Fit x) (hy : Fit y) (h : addQ x y = some z) : BinC 21 (zn x.num) (zm x.num) (nd x.den) (zn y.num) (zm y.num) (nd y.den) (zn z.num) (zm z.num) (nd z.den) := fun W A c D d A' c' D' d' a1 a2 a3 a4 => by
  have lx := fitl hx
  have ly := fitl hy
  have h1 := impl_radd (zn x.num) (zn y.num) (zm x.num) (nd x.den) (zm y.num) (nd y.den) A D A' D' _ _ _ _ c d c' d' W rfl rfl rfl rfl (by omega) (by omega) (by omega) (by omega) a1 a2 a3 a4
  rw [valQ_yes hx, valQ_yes hy, show binQ addQ (some x) (some y) = some z from h] at h1
  exact h1
theorem sub_rc {x y z : Rat} (hx : Fit x) (hy : Fit y) (h : subQ x y = some z) : BinC 20 (zn x.num) (zm x.num) (nd x.den) (zn y.num) (zm y.num) (nd y.den) (zn z.num) (zm z.num) (nd z.den) := fun W A c D d A' c' D' d' a1 a2 a3 a4 => by
  have lx := fitl hx
  have ly := fitl hy
  have h1 := impl_rsub (zn x.num) (zn y.num) (zm x.num) (nd x.den) (zm y.num) (nd y.den) A D A' D' _ _ _ _ c d c' d' W rfl rfl rfl rfl (by omega) (by omega) (by omega) (by omega) a1 a2 a3 a4
  rw [valQ_yes hx, valQ_yes hy, show binQ subQ (some x) (some y) = some z from h] at h1
  exact h1
theorem mul_rc {x y z : Rat} (hx : Fit x) (hy : Fit y) (h : mulQ x y = some z) : BinC 26 (zn x.num) (zm x.num) (nd x.den) (zn y.num) (zm y.num) (nd y.den) (zn z.num) (zm z.num) (nd z.den) := fun W A c D d A' c' D' d' a1 a2 a3 a4 => by
  have lx := fitl hx
  have ly := fitl hy
  have h1 := impl_rmul (zn x.num) (zn y.num) (zm x.num) (nd x.den) (zm y.num) (nd y.den) A D A' D' _ _ _ _ c d c' d' W rfl rfl rfl rfl (by omega) (by omega) (by omega) (by omega) a1 a2 a3 a4
  rw [valQ_yes hx, valQ_yes hy, show binQ mulQ (some x) (some y) = some z from h] at h1
  exact h1
theorem div_rc {x y z : Rat} (hx : Fit x) (hy : Fit y) (h : quoQ x y = some z) : BinC 27 (zn x.num) (zm x.num) (nd x.den) (zn y.num) (zm y.num) (nd y.den) (zn z.num) (zm z.num) (nd z.den) := fun W A c D d A' c' D' d' a1 a2 a3 a4 => by
  have lx := fitl hx
  have ly := fitl hy
  have h1 := impl_rdiv (zn x.num) (zn y.num) (zm x.num) (nd x.den) (zm y.num) (nd y.den) A D A' D' _ _ _ _ c d c' d' W rfl rfl rfl rfl (by omega) (by omega) (by omega) (by omega) a1 a2 a3 a4
  rw [valQ_yes hx, valQ_yes hy, show binQ quoQ (some x) (some y) = some z from h] at h1
  exact h1
theorem min_rc {x y z : Rat} (hx : Fit x) (hy : Fit y) (h : minQ x y = some z) : BinC 24 (zn x.num) (zm x.num) (nd x.den) (zn y.num) (zm y.num) (nd y.den) (zn z.num) (zm z.num) (nd z.den) := fun W A c D d A' c' D' d' a1 a2 a3 a4 => by
  have lx := fitl hx
  have ly := fitl hy
  have h1 := impl_rmin (zn x.num) (zn y.num) (zm x.num) (nd x.den) (zm y.num) (nd y.den) A D A' D' _ _ _ _ c d c' d' W rfl rfl rfl rfl (by omega) (by omega) (by omega) (by omega) a1 a2 a3 a4
  rw [valQ_yes hx, valQ_yes hy, show binQ minQ (some x) (some y) = some z from h] at h1
  exact h1
theorem max_rc {x y z : Rat} (hx : Fit x) (hy : Fit y) (h : maxQ x y = some z) : BinC 25 (zn x.num) (zm x.num) (nd x.den) (zn y.num) (zm y.num) (nd y.den) (zn z.num) (zm z.num) (nd z.den) := fun W A c D d A' c' D' d' a1 a2 a3 a4 => by
  have lx := fitl hx
  have ly := fitl hy
  have h1 := impl_rmax (zn x.num) (zn y.num) (zm x.num) (nd x.den) (zm y.num) (nd y.den) A D A' D' _ _ _ _ c d c' d' W rfl rfl rfl rfl (by omega) (by omega) (by omega) (by omega) a1 a2 a3 a4
  rw [valQ_yes hx, valQ_yes hy, show binQ maxQ (some x) (some y) = some z from h] at h1
  exact h1
theorem fmtN_len {a : Nat} (h60 : ln a ≤ 60) : (fmtN a).length ≤ 1000 := by
  unfold fmtN
  split
  · simp
  · have := ftx_len a (ln a) (ln a - 1)
    omega
theorem fmtR_size {x : Rat} (hx : Fit x) : (⟨(fmtR (zn x.num) (zm x.num) (nd x.den)).toArray⟩ : ByteArray).size ≤ 1048576 := by
  have h60 : ln x.num.natAbs ≤ 60 := by have := hx.1; omega
  have hd60 : ln x.den ≤ 60 := by have := hx.2; omega
  have h1 := fmtN_len h60
  have h2 := fmtN_len hd60
  have hf : fmtL (nd x.den) = fmtN x.den := by unfold fmtL; rw [nd_ok hd60, val_nd]; rfl
  have hk := okR_mk hx
  have hB : (fmtB (zn x.num) (zm x.num)).length ≤ 1001 := by
    rw [fmtB_yes (okB_mk h60), fmtL_zm h60]
    split
    · rw [List.length_cons]; omega
    · omega
  show (fmtR (zn x.num) (zm x.num) (nd x.den)).length ≤ 1048576
  by_cases h : nd x.den = [1]
  · rw [h] at hk ⊢
    rw [fmtR_one hk]; omega
  · rw [fmtR_two hk h, hf, List.length_append, List.length_cons]; omega
theorem cmp_rc {x y : Rat} (hx : Fit x) (hy : Fit y) : CmpRC (zn x.num) (zm x.num) (nd x.den) (zn y.num) (zm y.num) (nd y.den) (cmpQ x y) := fun W A c D d A' c' D' d' a1 a2 a3 a4 => by
  have lx := fitl hx
  have ly := fitl hy
  have h1 := impl_rcmp (zn x.num) (zn y.num) (zm x.num) (nd x.den) (zm y.num) (nd y.den) A D A' D' _ _ _ _ c d c' d' W rfl rfl rfl rfl (by omega) (by omega) (by omega) (by omega) a1 a2 a3 a4
  rw [valQ_yes hx, valQ_yes hy] at h1
  exact h1
theorem sgn_rc {x : Rat} (hx : Fit x) : SgnC (zn x.num) (zm x.num) (nd x.den) (cmpZ x.num 0) := fun W A c D d a1 a2 => by
  have lx := fitl hx
  have h1 := impl_rsign (zn x.num) (zm x.num) (nd x.den) A D _ _ c d W rfl rfl (by omega) (by omega) a1 a2
  rw [valQ_yes hx] at h1
  exact h1
theorem eq_rc {x : Rat} (hx : Fit x) : EqC (zn x.num) (zm x.num) (nd x.den) := fun W A c D d A' c' D' d' a1 a2 a3 a4 a5 a6 => by
  have lx := fitl hx
  have h1 := impl_req (zn x.num) (zn x.num) (zm x.num) (nd x.den) (zm x.num) (nd x.den) A D A' D' _ _ _ _ c d c' d' W rfl rfl rfl rfl (by omega) (by omega) (by omega) (by omega) a5 a6 a1 a2 a3 a4
  rw [decide_eq_true rfl, decide_eq_true rfl, decide_eq_true rfl] at h1
  exact h1
theorem fmt_rc {x : Rat} (hx : Fit x) : FmtRC (zn x.num) (zm x.num) (nd x.den) ⟨(fmtR (zn x.num) (zm x.num) (nd x.den)).toArray⟩ := fun W A c D d a1 a2 ht => by
  have lx := fitl hx
  exact impl_fmtR (zn x.num) (zm x.num) (nd x.den) A D _ _ c d W rfl rfl (by omega) (by omega) ht a1 a2
theorem prs_rc {x : Rat} (hx : Fit x) : PrsRC ⟨(fmtR (zn x.num) (zm x.num) (nd x.den)).toArray⟩ (zn x.num) (zm x.num) (nd x.den) := fun W mx hm => by
  obtain ⟨h1, h2, h3, h4⟩ := prat_round (s := ⟨(fmtR (zn x.num) (zm x.num) (nd x.den)).toArray⟩) hx (mk_list _)
  have h := impl_prat ⟨(fmtR (zn x.num) (zm x.num) (nd x.den)).toArray⟩ mx W (fmtR_size hx) hm
  rw [h1, h2, h3, h4] at h
  exact h
theorem cmpZ_sub (q t : Rat) : cmpZ (q - t).num 0 = cmpQ q t := by
  rw [cmp_sub, cmpQ_parts]
  unfold cmpZ
  simp
theorem own_addr {B : Nat} {W : World} {A : Option Addr} {l : List Int} (h : OwnS B W A (vi l)) : l.length = 0 ∨ ∃ g, A = some ⟨g, 0, none⟩ := by
  rcases h with h | ⟨g, ha, _⟩
  · left; rw [← vi_length l, h]; rfl
  · exact .inr ⟨g, ha⟩
theorem all_rc {pr ps : Bool} {lr mr ls ms : List Int} (hr : IsQ pr lr mr) (hs : IsQ ps ls ms) : ∃ (pa pd pn px : Bool) (la ma ld md lnn mn lx mx : List Int) (T : ByteArray) (v u : Int),
    BinC 21 pr lr mr ps ls ms pa la ma ∧ BinC 20 pa la ma ps ls ms pr lr mr ∧ BinC 20 pr lr mr ps ls ms pd ld md ∧
    BinC 24 pr lr mr ps ls ms pn lnn mn ∧ BinC 25 pr lr mr ps ls ms px lx mx ∧ BinC 21 pn lnn mn px lx mx pa la ma ∧
    CmpRC pr lr mr ps ls ms v ∧ SgnC pd ld md v ∧ SgnC ps ls ms u ∧ EqC pr lr mr ∧ EqC pa la ma ∧ FmtRC pr lr mr T ∧ PrsRC T pr lr mr ∧
    (u = 0 ∨ (u == 0) = false ∧ ∃ pv lv mv, BinC 27 pr lr mr ps ls ms pv lv mv ∧ BinC 26 pv lv mv ps ls ms pr lr mr) := by
  obtain ⟨q, hq, rfl, rfl, rfl⟩ := hr
  obtain ⟨t, ht, rfl, rfl, rfl⟩ := hs
  have fq := hq.fit (by omega)
  have ft := ht.fit (by omega)
  have fa := (hq.add ht).fit (by omega)
  have fd := (hq.sub ht).fit (by omega)
  obtain ⟨a, b, h1, h2, h3, h4, h5⟩ := @min_max q t
  have sa : Sm 10 a := by rcases h4 with rfl | rfl <;> assumption
  have sb : Sm 10 b := by rcases h5 with rfl | rfl <;> assumption
  have hab : addQ a b = some (q + t) := by rw [← h3]; exact add_small sa sb
  refine ⟨_, _, _, _, _, _, _, _, _, _, _, _, _, _, _, add_rc fq ft (add_small hq ht), sub_rc fa ft (back_small hq), sub_rc fq ft (sub_small hq ht), min_rc fq ft h1, max_rc fq ft h2, add_rc (sa.fit (by omega)) (sb.fit (by omega)) hab,
    cmp_rc fq ft, ?_, sgn_rc ft, eq_rc fq, eq_rc fa, fmt_rc fq, prs_rc fq, ?_⟩
  · have h := sgn_rc fd
    rw [cmpZ_sub] at h
    exact h
  · by_cases h0 : t.num = 0
    · left; rw [h0]; rfl
    · right
      refine ⟨?_, _, _, _, div_rc fq ft (quo_small hq ht h0), mul_rc ((hq.div ht h0).fit (by omega)) ft (mul_small hq h0)⟩
      rw [beq_eq_false_iff_ne]
      unfold cmpZ
      split
      · decide
      · split
        · decide
        · intro _; omega
/-- A drawn fraction with its parts named. -/
def NumQ (w : World) (e : Ending) (w' : World) : Prop := ∃ p l m A c D d, IsQ p l m ∧ e = .returned (.agg #[.bool p, .slice A l.length c, .slice D m.length d]) ∧ OwnS w.heap.size w' A (vi l) ∧ OwnS w.heap.size w' D (vi m) ∧ Below w.heap.size w w'
theorem make_q (k : Nat) (y : Int) (hy : y = (k : Int)) (A : Option Addr) (n c : Nat) (w : World) (hk : k ≤ 10) (hn : n ≤ 1048576) (hA : RdB w A n w.heap.size) :
    Calls Tryz.prog 16 #[.slice A n c, .int .i64 y] w (NumQ w) :=
  (makeRat_any k y hy A n c w hk hn hA).mono fun e w' ⟨⟨r, A', c', D', d', hF, he, ho, ho'⟩, hb⟩ => by
    obtain ⟨q, rfl, hq⟩ := few_some hF
    exact ⟨_, _, _, A', c', D', d', ⟨q, hq, rfl, rfl, rfl⟩, he, ho, ho', hb⟩
theorem RdB.belowB {w w' : World} {A : Option Addr} {n : Nat} (h : RdB w A n w.heap.size) (hb : Below w.heap.size w w') : RdB w' A n w'.heap.size := by
  rcases h with h0 | ⟨b, off, ha, hbg, hblt, hcs⟩
  · exact .inl h0
  · have := hb.size
    refine .inr ⟨b, off, ha, by omega, by omega, fun j hj => ?_⟩
    obtain ⟨u, hu, hcu⟩ := hcs j hj
    exact ⟨u, hu, cell_kept hcu hb⟩
end Go.Proofs.YtkmfbanlkglkmabGreatDoor
