/-
  The model's own long division.
-/
import Derived.Test.YtnejpdlikdgnnaaDivS2
namespace Go.Proofs.Ytnejpdlikdgnnaa
open Go.ChangeShapes Go.WideShapes Go.ChangeAt Go.RowKit
open Go.ChangeMaps (open_string shut_string)
set_option linter.unusedVariables false
set_option linter.unusedSimpArgs false
set_option maxRecDepth 4000

theorem OwnS.set_low {B g o : Nat} {w : World} {A : Option Addr} {l : List Value} {u : Value} (h : OwnS B w A l) (hg : g < B) : OwnS B (w.setCell ⟨g, o, none⟩ u) A l :=
  h.far (C := w.heap.size) (fun k hk _ => Below.heap_setCell w ⟨g, o, none⟩ u k (by intro e; simp at e; omega)) (Nat.le_refl _) (by simp [World.setCell])
theorem lit_int (B : Nat) (w : World) (x : Int) (hB : B ≤ w.heap.size) : (w.alloc (.cells #[.int .i64 x] 3)).ownsRow B 3 1 (.slice (some ⟨w.heap.size, 0, none⟩) 1 1) 1 (vi [x]) :=
  ⟨rfl, .inr ⟨w.heap.size, 1, #[.int .i64 x], rfl, hB, heap_alloc_new w _, Nat.le_refl _, by simp [maxLen], rfl, rfl⟩⟩
theorem cons_row {R z : Nat} (hz : z < 1000000000) : [(z : Int)] ++ nd R = row (1 + ln R) ((R * 1000000000 + z : Nat) : Int) := by
  rw [Nat.add_comm, row_cons]
  have h1 : ((R * 1000000000 + z : Nat) : Int) % 1000000000 = (z : Int) := by omega
  have h2 : ((R * 1000000000 + z : Nat) : Int) / 1000000000 = (R : Int) := by omega
  rw [h1, h2]
  rfl
theorem cons_ln {R z : Nat} (hz : z < 1000000000) : ln (R * 1000000000 + z) ≤ 1 + ln R := by
  refine pn_lt ?_
  have h := lt_pn (Nat.le_refl (ln R))
  have e : pn (1 + ln R) = pn (ln R) * 1000000000 := by rw [Nat.add_comm]; exact pn_succ _
  rw [e]
  omega
/-- Two rows as the model's division answers. -/
def PairS (L M : List Int) (w : World) (e : Ending) (w' : World) : Prop :=
  ∃ A c D d, e = .returned (.tuple #[.slice A L.length c, .slice D M.length d]) ∧ L.length ≤ c ∧ OwnS w.heap.size w' A (vi L) ∧ OwnS w.heap.size w' D (vi M) ∧ Below w.heap.size w w'

set_option maxHeartbeats 500000 in
theorem spec_div_long (a b : Nat) (A D : Option Addr) (n c n' d : Nat) (w : World) (hn : ln a = n) (hn' : ln b = n') (h60 : n ≤ 60) (h60' : n' ≤ 60) (hn2 : 2 ≤ n') (hA : RdS w A (vi (nd a))) (hD : RdS w D (vi (nd b))) :
    Calls Try.prog 60 #[.slice A n c, .slice D n' d] w (PairS (nd (a / b)) (nd (a % b)) w) := by
  obtain ⟨i0, hi, hz0, hz1, hz2⟩ := info_parts int_info
  have hap : a < pn n := lt_pn (by omega)
  have hbb := ln_big hn' (by omega)
  have hpp := pn_pos (n' - 1)
  have hb0 : 0 < b := by omega
  have HS0 : Hid (quoTo a b n = 0 ∧ a / pn n % b = 0) := Lib.hid ⟨quoTo_all (Nat.lt_of_lt_of_le hap (Nat.le_mul_of_pos_left _ hb0)), by rw [Nat.div_eq_of_lt hap, Nat.zero_mod]⟩
  have HN := Lib.hid hn
  have HN' := Lib.hid hn'
  have HL : Hid (ln (a / b) ≤ n) := Lib.hid (by have := ln_mono (Nat.div_le_self a b); omega)
  have hq1 : ((n' : Int) == 1) = false := by rw [beq_eq_false_iff_ne]; omega
  clear hn hn' hap hbb hpp
  go_enter Try.func60, Try.ntmps60
  go_wp2_with (first | (refine wpList_make_full _ rfl (.tmp 27) (.tmp 27) 22 rfl w.heap.size 3 i0 _ 1 Try.underlying22 hi hz0 hz1 .i64 .i64 (n : Int) (n : Int) n rfl rfl rfl rfl (by rw [hz2]; omega) (by simp only [maxLen]; omega) (Nat.le_refl _) ?_; intro w1 hown hg1; refine cut_here ?_))
  have hQ1 := Blk.of_made hown (zeros n)
  have hb1 : Below w.heap.size w w1 := below_of_grown hg1 (Nat.le_refl _) (fun g h => by cases h)
  rw [← HS0.out.1] at hQ1
  have hQ1' : Blk (w1.alloc (.cells #[] 3)) w.heap.size (row n (quoTo a b n)) := hQ1.below hQ1.lt ((Below.refl _ _).alloc (Nat.le_refl _) _)
  have hb1' : Below w.heap.size w (w1.alloc (.cells #[] 3)) := hb1.alloc hb1.size _
  have hO1 : OwnS (w.heap.size + 1) (w1.alloc (.cells #[] 3)) (some ⟨w1.heap.size, 0, none⟩) (vi (nd 0)) := .inl (by rw [nd_zero]; rfl)
  clear hown hg1 hQ1 hb1
  refine Cut.of ?_
  go_wp2_with fail
  go_loopw [9, 10] (fun r i w' => ∃ (k R c' : Nat) (x : Int) (ad : Addr), k ≤ n ∧ i = .int .i64 x ∧ x = (k : Int) - 1 ∧ r = .slice (some ad) (nd R).length c' ∧ R = a / pn k % b ∧ OwnS (w.heap.size + 1) w' (some ad) (vi (nd R)) ∧ Blk w' w.heap.size (row n (quoTo a b k)) ∧ Below w.heap.size w w') (fun _ i _ => (intOf i + 1).toNat)
  case atStart => exact ⟨n, 0, 0, _, ⟨w1.heap.size, 0, none⟩, Nat.le_refl _, rfl, rfl, by rw [nd_zero]; rfl, HS0.out.2.symm, hO1, hQ1', hb1'⟩
  case round =>
    clear hQ1' hb1' hO1 HS0
    obtain ⟨k, R, c', x, ad, hk, rfl, hx, rfl, hR, hO, hQ, hb⟩ := hrel
    rcases k with _ | j
    · obtain rfl : x = -1 := by omega
      clear hx
      obtain rfl : R = a % b := by rw [hR]; unfold pn; rw [Nat.pow_zero, Nat.div_one]
      clear hR
      rw [quoTo_zero] at hQ
      have HT := Lib.hid (trim_any w.heap.size n n (a / b) _ wr (hQ.own (Nat.le_refl _)) HL.out (Nat.le_refl _) (by omega))
      go_wp2_with fail
      refine HT.out.mono ?_
      intro e w3 hm
      obtain ⟨A2, c2, rfl, hc2, ho2, hb2⟩ := hm
      go_wp2_with fail
      go_ret2
      exact ⟨A2, c2, some ad, c', rfl, hc2, ho2, (hO.below hb2).more (Nat.le_succ _), bt hb hb2⟩
    · obtain rfl : x = (j : Int) := by omega
      clear hx
      have hlt : j < n := by omega
      obtain ⟨b1, o1, rfl, hbl, e1⟩ := (hA.below hb).int (nd_get (v := a) (i := j) (by rw [HN.out]; exact hlt))
      obtain ⟨z, hz⟩ : ∃ z : Nat, z = a / pn j % 1000000000 := ⟨_, rfl⟩
      have hzd : dgt a j = (z : Int) := by rw [hz]; unfold dgt; rw [pn_pw]; omega
      rw [hzd] at e1
      have hst := small_step (a := a) (d := b) (j := j) hb0
      rw [← hR, ← hz] at hst
      have hRb : R < b := by rw [hR]; exact Nat.mod_lt _ hb0
      have hzb : z < 1000000000 := by rw [hz]; exact Nat.mod_lt _ (by decide)
      obtain ⟨T, hT⟩ : ∃ T, T = R * 1000000000 + z := ⟨_, rfl⟩
      rw [← hT] at hst
      have hRl : ln R ≤ 60 := by have := ln_mono (Nat.le_of_lt hRb); have := HN'.out; omega
      have hTl : ln T ≤ 1 + ln R := by rw [hT]; exact cons_ln hzb
      have HRow : Hid ([(z : Int)] ++ nd R = row (1 + (nd R).length) (T : Int)) := Lib.hid (by rw [nd_length, hT]; exact cons_row hzb)
      have hTB : T < 1000000000 * b := by rw [hT]; omega
      have HST := Lib.hid hst
      have HRl := Lib.hid (nd_length R)
      have hi0 : (0 : Int) ≤ (j : Int) := by omega
      have hi1 : (j : Int) < (n : Int) := by omega
      have hB1 : w.heap.size + 1 ≤ wr.heap.size := hQ.lt
      have hlit := lit_int (w.heap.size + 1) wr (z : Int) hB1
      have hal : Below wr.heap.size wr (wr.alloc (.cells #[.int .i64 (z : Int)] 3)) := (Below.refl _ _).alloc (Nat.le_refl _) _
      have hOa := hO.below hal
      have hm60 : (nd R).length ≤ 60 := by rw [nd_length]; exact hRl
      clear hR hz hzd hst hT
      generalize hLR : nd R = LR at hOa hm60 HRow HRl
      clear hO
      go_wp2_with (at_builtin; refine append_ints rfl (.tmp 41) (.tmp 42) rfl (w.heap.size + 1) 1 LR.length c' _ [(z : Int)] LR ad (wr.alloc (.cells #[.int .i64 (z : Int)] 3)) rfl rfl hlit (by omega) (by omega) rfl hOa.rd (by simp; omega) ?_; intro v' w2 hown2 hb2 hs2; refine cut_here ?_)
      have hb2' : Below (w.heap.size + 1) wr w2 := (hal.mono hB1).trans hb2
      have hbw2 : Below w.heap.size w w2 := hb.trans (hb2'.mono (Nat.le_succ _))
      have hQ2 := hQ.below (Nat.lt_succ_self _) hb2'
      rw [HRow.out] at hown2
      obtain ⟨A2, c2, hv, hc2, hm2, hl2⟩ := own_len hown2
      have hO2 := OwnS.of_own (A := A2) (n := 1 + LR.length) (c := c2) (by rw [← hv]; exact hown2)
      subst hv
      clear hown2 hlit hal hOa
      have HTr := Lib.hid (trim_s (w.heap.size + 1) (1 + LR.length) c2 T A2 w2 (by omega) hO2 (by rw [HRl.out]; exact hTl) hc2 (by omega))
      have hTn : Hid ((nd T).length = ln T ∧ ln T ≤ 61) := Lib.hid ⟨nd_length T, by omega⟩
      have HCm := Lib.hid (fun adr c3 m W (hm : m = (nd T).length) (h : RdS W (some adr) (vi (nd T))) (h' : RdS W D (vi (nd b))) => spec_cmp T b (some adr) D m c3 n' d W (by rw [hm, nd_length]) HN'.out (by rw [hm, hTn.out.1]; have := hTn.out.2; omega) (by omega) h h')
      have HDg := Lib.hid (fun adr c3 m W (hm : m = (nd T).length) (h : RdS W (some adr) (vi (nd T))) (h' : RdS W D (vi (nd b))) => spec_digit T b (some adr) D m c3 n' d W (by rw [hm, nd_length]) HN'.out (by rw [hm, hTn.out.1]; have := hTn.out.2; omega) h60' hb0 hTB h h')
      have HSb := Lib.hid (fun adr c3 m A' c4 m' W (hTb : b ≤ T) (hm : m = (nd T).length) (hm' : m' = (nd (b * (T / b))).length) (h : RdS W (some adr) (vi (nd T))) (h' : RdS W A' (vi (nd (b * (T / b))))) => sub_s T (b * (T / b)) (some adr) A' m c3 m' c4 W (by rw [hm, nd_length]) (by rw [hm', nd_length]) (Nat.mul_div_le T b) (by rw [hm, nd_length, ln_pos (by omega)]; omega) (by rw [hm, hTn.out.1]; have := hTn.out.2; omega) (by rw [hm', nd_length]; have h1 := ln_mono (Nat.mul_div_le T b); have := hTn.out.2; omega) h h')
      have HMu := Lib.hid (fun A' c4 m' W (hm' : m' = (nd (T / b)).length) (h : RdS W D (vi (nd b))) (h' : RdS W A' (vi (nd (T / b)))) => spec_l02Mul b (T / b) D A' n' d m' c4 W HN'.out (by rw [hm', nd_length]) (by omega) (by rw [hm', nd_length]; have h1 := ln_mono (Nat.div_le_self T b); have := hTn.out.2; omega) h h')
      have hqB : T / b < 1000000000 := by rw [Nat.div_lt_iff_lt_mul hb0]; exact hTB
      have HNo := Lib.hid (fun W => spec_natOf (T / b) W (by omega))
      have hmod : Hid (T - b * (T / b) = a / pn j % b) := by
        refine Lib.hid ?_
        have h1 := Nat.div_add_mod T b
        have h2 := HST.out.2
        omega
      have HQs : Hid ((row n (quoTo a b (j + 1))).set j ((T / b : Nat) : Int) = row n (quoTo a b j)) := Lib.hid (by rw [HST.out.1, quoTo_step a b j]; exact row_set hlt (quoTo_mod a b (j + 1)) (by omega) (by have : quo a b j < 1000000000 := Nat.mod_lt _ (by decide); omega))
      have HQ0 : Hid (T < b → row n (quoTo a b (j + 1)) = row n (quoTo a b j)) := Lib.hid (fun h => by
        have h1 := HST.out.1
        rw [Nat.div_eq_of_lt h] at h1
        rw [quoTo_step a b j, ← h1]
        simp)
      have HT0 : Hid (T < b → T = a / pn j % b) := Lib.hid (fun h => by rw [← HST.out.2, Nat.mod_eq_of_lt h])
      have Hc : Hid ((T < b → cmpN T b < 0) ∧ (¬ T < b → ¬ cmpN T b < 0)) := by
        refine Lib.hid ⟨fun h => by rw [cmpN_lt h]; decide, fun h => ?_⟩
        rcases Nat.lt_or_ge b T with h5 | h5
        · rw [cmpN_gt h5]; decide
        · rw [cmpN_eq (by omega)]; decide
      obtain ⟨qq, hqq⟩ : ∃ q, q = T / b := ⟨_, rfl⟩
      rw [← hqq] at HDg HSb HMu HNo hmod HQs hqB
      clear hqq
      generalize cmpN T b = v at HCm Hc
      refine Cut.of ?_
      go_wp2_with fail
      refine HTr.out.mono ?_
      rintro e w3 ⟨ad3, c3, rfl, hc3, hO3, hb3⟩
      have hb3' : Below w.heap.size w w3 := bt hbw2 hb3
      have hQ3 := hQ2.below hQ2.lt hb3
      go_wp2_with fail
      refine (HCm.out _ _ _ _ rfl hO3.rd (hD.below hb3')).mono ?_
      rintro e w4 ⟨rfl, hb4⟩
      have hb4' := bt hb3' hb4
      have hQ4 := hQ3.below hQ3.lt hb4
      have hO4 := hO3.below hb4
      by_cases hTb : T < b
      · have hv := Hc.out.1 hTb
        rw [HQ0.out hTb] at hQ4
        go_wp2_with fail
        go_roundw
        case rel => exact ⟨j, T, c3, _, ad3, by omega, rfl, rfl, rfl, HT0.out hTb, hO4, hQ4, hb4'⟩
        case measure => simp [intOf]
      · have hv := Hc.out.2 hTb
        go_wp2_with fail
        refine (HDg.out _ _ _ _ rfl hO4.rd (hD.below hb4')).mono ?_
        rintro e w5 ⟨rfl, hb5⟩
        have hb5' := bt hb4' hb5
        have hQ5 := hQ4.below hQ4.lt hb5
        have hO5 := hO4.below hb5
        have hc1 := hQ5.cell (row_get (n := n) (quoTo a b (j + 1)) hlt)
        have hf1 := hQ5.free j
        have hQ6 := hQ5.set j (qq : Int)
        rw [HQs.out] at hQ6
        have hO6 : OwnS (w.heap.size + 1) (w5.setCell ⟨w.heap.size, j, none⟩ (.int .i64 (qq : Int))) (some ad3) (vi (nd T)) := hO5.set_low (Nat.lt_succ_self _)
        have hb6 : Below w.heap.size w (w5.setCell ⟨w.heap.size, j, none⟩ (.int .i64 (qq : Int))) := hb5'.setCell (Nat.le_refl _) _
        clear hQ5 hO5
        go_wp2_with fail
        refine (HNo.out _).mono ?_
        rintro e w7 ⟨A7, c7, rfl, hc7, hO7, hb7⟩
        have hb7' := bt hb6 hb7
        have hQ7 := hQ6.below hQ6.lt hb7
        have hO7' := hO6.below hb7
        go_wp2_with fail
        refine (HMu.out _ _ _ _ rfl (hD.below hb7') hO7.rd).mono ?_
        rintro e w8 ⟨A8, c8, rfl, hc8, hO8, hb8⟩
        have hb8' := bt hb7' hb8
        have hQ8 := hQ7.below hQ7.lt hb8
        have hO8' := hO7'.below hb8
        go_wp2_with fail
        refine (HSb.out _ _ _ _ _ _ _ (by omega) rfl rfl hO8'.rd hO8.rd).mono ?_
        rintro e w9 ⟨ad9, c9, rfl, hc9, hO9, hb9⟩
        have hb9' := bt hb8' hb9
        have hQ9 := hQ8.below hQ8.lt hb9
        have hsz : w.heap.size + 1 ≤ w8.heap.size := hQ8.lt
        go_wp2_with fail
        go_roundw
        case rel => exact ⟨j, T - b * qq, c9, _, ad9, by omega, rfl, rfl, rfl, hmod.out, hO9.more hsz, hQ9, hb9'⟩
        case measure => simp [intOf]
end Go.Proofs.Ytnejpdlikdgnnaa
