/-
  'divideRow' and 'NatDiv' of the program.
-/
import Derived.Test.YtnejpdlikdgnnaaDoorDivM
namespace Go.Proofs.YtnejpdlikdgnnaaDoor
open Go.ChangeShapes Go.WideShapes Go.ChangeAt Go.RowKit
open Go.ChangeMaps (open_string shut_string)
set_option linter.unusedVariables false
set_option linter.unusedSimpArgs false
set_option maxRecDepth 4000

theorem grown_set_new {w w1 : World} {row : Option Nat} {g : Nat} (h : w.grownBy w1 row) (hg : w.heap.size ≤ g) (o : Nat) (u : Value) : w.grownBy (w1.setCell ⟨g, o, none⟩ u) row :=
  ⟨h.os, h.tape, h.output, by simpa [World.setCell] using h.size, fun i hi hne => (Below.heap_setCell w1 ⟨g, o, none⟩ u i (by intro e; simp at e; omega)).trans (h.block i hi hne)⟩
theorem grown_trans {w w1 w2 : World} {row : Option Nat} (h : w.grownBy w1 row) (k : w1.grownBy w2 row) : w.grownBy w2 row :=
  ⟨k.os.trans h.os, k.tape.trans h.tape, k.output.trans h.output, Nat.le_trans h.size k.size, fun i hi hne => (k.block i (Nat.lt_of_lt_of_le hi h.size) hne).trans (h.block i hi hne)⟩
theorem Blk.kept {w w' : World} {g g' : Nat} {L : List Int} (h : Blk w g L) (hne : g ≠ g') (hg : w.grownBy w' (some g')) : Blk w' g L := by
  unfold Blk
  rw [hg.block g h.lt (by intro e; injection e with e; exact hne e)]
  exact h
theorem Blk.kept_set {w : World} {g g' o : Nat} {L : List Int} {u : Value} (h : Blk w g L) (hne : g ≠ g') : Blk (w.setCell ⟨g', o, none⟩ u) g L := by
  unfold Blk
  rw [Below.heap_setCell w ⟨g', o, none⟩ u g (by intro e; exact hne e)]
  exact h
theorem Blk.rd_at {w : World} {g N j n : Nat} {X T : Int} (h : Blk w g (row N X)) (hT : ∀ t, t < n → dgt T t = dgt X (j + t)) (hN : j + n ≤ N) : RdS w (some ⟨g, j, none⟩) (vi (row n T)) :=
  .inr ⟨g, j, rfl, h.lt, fun t ht => by
    rw [vi_length, row_length] at ht
    rw [h.cell (row_get X (by omega)), vi_get? (row_get T ht), hT t ht]⟩

theorem rest_pw {a b k n m : Nat} (hb : 0 < b) (hbn : b < pn n) (h : k + n ≤ m) : ((rest a b k : Nat) : Int) < pw m := by
  rw [pn_pw]
  have h1 := rest_lt (a := a) (k := k) hb
  have h2 : b * pn k ≤ pn n * pn k := Nat.mul_le_mul_right _ (Nat.le_of_lt hbn)
  have h3 : pn n * pn k = pn (n + k) := by unfold pn; rw [Nat.pow_add]
  have h4 : pn (n + k) ≤ pn m := Nat.pow_le_pow_right (by decide) (by omega)
  omega

/-- What 'divideRow' leaves. -/
def DivPost (a b N n g : Nat) (w : World) (e : Ending) (w' : World) : Prop :=
  ∃ gq, w.heap.size ≤ gq ∧ e = .returned (.slice (some ⟨gq, 0, none⟩) (N - n) (N - n)) ∧ Blk w' gq (row (N - n) ((a / b : Nat) : Int)) ∧ Blk w' g (row N ((a % b : Nat) : Int)) ∧ w.grownBy w' (some g)

set_option maxHeartbeats 1600000 in
theorem divideRow_any (a b N n g d : Nat) (D : Option Addr) (w : World) (hn : ln b = n) (h0 : 0 < n) (h60 : n ≤ 60) (hN : N ≤ 100) (ha : ln a + 1 ≤ N) (hB : Blk w g (row N a)) (hD : RdS w D (vi (nd b))) (hDg : ∀ bl o, D = some ⟨bl, o, none⟩ → bl ≠ g) :
    Calls Tryd.prog 27 #[.slice (some ⟨g, 0, none⟩) N N, .slice D n d] w (DivPost a b N n g w) := by
  obtain ⟨i0, hi, hz0, hz1, hz2⟩ := info_parts int_info
  have hbig := ln_big hn h0
  have hpb := pn_pos (n - 1)
  have hb0 : 0 < b := by omega
  have hbn : b < pn n := lt_pn (by omega)
  have hgw := hB.lt
  by_cases hnN : n ≤ N
  · obtain ⟨K, hK⟩ : ∃ K, K = N - n := ⟨_, rfl⟩
    have haK : a < b * pn K := by
      have h1 : a < pn (N - 1) := lt_pn (by omega)
      have h2 : pn (n - 1) * pn K = pn (N - 1) := by
        unfold pn
        rw [← Nat.pow_add]
        congr 1
        omega
      have h3 : pn (n - 1) * pn K ≤ b * pn K := Nat.mul_le_mul_right _ hbig
      omega
    have hstart : Hid (rest a b K = a ∧ quoTo a b K = 0) := Lib.hid ⟨rest_all haK, quoTo_all haK⟩
    have HF := Lib.hid (fun j (hj : j < K) => guess_facts (T := rest a b (j + 1) / pn j) hn h0 (top_lt hb0) (pn_lt (by
      have h1 := top_lt (a := a) (k := j) hb0
      rw [show n + 1 = n + 1 from rfl, pn_succ]
      omega)))
    have HTl := Lib.hid (fun j => (pn_lt (v := rest a b (j + 1) / pn j) (n := n + 1) (by
      have h1 := top_lt (a := a) (k := j) hb0
      rw [pn_succ]
      omega)))
    have HNn := Lib.hid hn
    have HDg := Lib.hid hDg
    have hsub : (N : Int) - (n : Int) = (K : Int) := by omega
    have hmax : max (K : Int) 0 = (K : Int) := by omega
    have hneg : ¬ (K : Int) < 0 := by omega
    have hKN : K + n = N := by omega
    unfold DivPost
    rw [← hK]
    clear hK haK hbig hpb hn hDg
    go_enter Tryd.func27, Tryd.ntmps27
    go_wp2_with (first | (refine wpList_make_full _ rfl (.tmp 16) (.tmp 16) 23 rfl w.heap.size 3 i0 _ 1 Tryd.underlying23 hi hz0 hz1 .i64 .i64 (K : Int) (K : Int) K rfl rfl rfl rfl (by rw [hz2]; omega) (by simp only [maxLen]; omega) (Nat.le_refl _) ?_; intro w1 hown hg1; refine cut_here ?_))
    have hq1 := Blk.of_made hown (zeros K)
    have hgr1 : w.grownBy w1 (some g) := ⟨hg1.os, hg1.tape, hg1.output, hg1.size, fun i hi _ => hg1.block i hi (by simp)⟩
    have hB1 : Blk w1 g (row N ((rest a b K : Nat) : Int)) := by
      rw [hstart.out.1]
      unfold Blk
      rw [hg1.block g hgw (by simp)]
      exact hB
    rw [← hstart.out.2] at hq1
    clear hown hg1 hB
    refine Cut.of ?_
    go_wp2_with fail
    go_loopw [7] (fun i w' => ∃ (k : Nat) (x : Int), k ≤ K ∧ i = .int .i64 x ∧ x = (k : Int) - 1 ∧ Blk w' g (row N ((rest a b k : Nat) : Int)) ∧ Blk w' w.heap.size (row K (quoTo a b k)) ∧ w.grownBy w' (some g)) (fun i _ => (intOf i + 1).toNat)
    case atStart => exact ⟨K, _, Nat.le_refl _, rfl, rfl, hB1, hq1, hgr1⟩
    case round =>
      clear hB1 hq1 hgr1 hstart
      obtain ⟨k, x, hk, rfl, hx, hB, hQ, hgr⟩ := hrel
      rcases k with _ | j
      · obtain rfl : x = -1 := by omega
        clear hx
        go_wp2_with fail
        go_ret
        rw [rest_zero] at hB
        rw [quoTo_zero] at hQ
        exact ⟨w.heap.size, Nat.le_refl _, rfl, hQ, hB, hgr⟩
      · obtain rfl : x = (j : Int) := by omega
        clear hx
        have hjK : j < K := by omega
        obtain ⟨T, hT⟩ : ∃ T, T = rest a b (j + 1) / pn j := ⟨_, rfl⟩
        have hTq : T / b = quo a b j := by rw [hT]; exact rest_step a b j
        have hf := HF.out j hjK
        have hTl := HTl.out j
        rw [← hT] at hf hTl
        have hTd : ∀ t, dgt (T : Int) t = dgt ((rest a b (j + 1) : Nat) : Int) (j + t) := fun t => by
          rw [← dgt_shift, hT, pn_pw, Int.natCast_ediv]
        have hTI : ((rest a b (j + 1) : Nat) : Int) / pw j = (T : Int) := by rw [hT, pn_pw, Int.natCast_ediv]
        obtain ⟨hf0, hf1, hf2, hf3⟩ := hf
        rw [hTq] at hf1 hf2
        have hlt : top3N T n / 18446744073709551616 < top2 b n := by
          have h1 : top3N T n < 1000000001 * top2 b n := (Nat.div_lt_iff_lt_mul hf0).1 (by omega)
          rw [Nat.div_lt_iff_lt_mul (by decide)]
          omega
        have HGu := Lib.hid (fun W (hA : RdS W (some ⟨g, j, none⟩) (vi (row (n + 1) T))) (hD' : RdS W D (vi (nd b))) => guess_any T b n (some ⟨g, j, none⟩) D (n + 1) d W HNn.out h0 (by omega) hTl hA hD' hf0 hlt (by omega))
        obtain ⟨Qh, hQh⟩ : ∃ Q, Q = top3N T n / top2 b n := ⟨_, rfl⟩
        rw [← hQh] at hf1 hf2 hf3 HGu
        have hqB : quo a b j < 1000000000 := Nat.mod_lt _ (by decide)
        have HQs : Hid ((row K (quoTo a b (j + 1))).set j (quo a b j : Int) = row K (quoTo a b j)) := Lib.hid (by rw [quoTo_step a b j]; exact row_set hjK (quoTo_mod a b (j + 1)) (by omega) (by omega))
        have HRs : Hid (lay (row N ((rest a b (j + 1) : Nat) : Int)) j ((T : Int) + -((quo a b j * b : Nat) : Int)) (n + 1) = row N ((rest a b j : Nat) : Int)) := by
          refine Lib.hid ?_
          rw [← hTI]
          refine lay_row (by omega) ?_ (by omega) (rest_pw hb0 hbn (by omega)) (by omega) (rest_pw hb0 hbn (by omega))
          have h1 := rest_rest a b j
          have h2 := rest_le a b j
          rw [Int.neg_mul, pn_pw, ← Int.natCast_mul]
          omega
        have hTB : T < 1000000000 * b := by rw [hT]; exact top_lt hb0
        have HCar : ∀ f : Int, car T b f (n + 1) = ((T : Int) + f * (b : Int)) / pw (n + 1) := fun f => car_all (by omega) (ln_le_iff.1 hTl) (by omega) (by rw [pn_pw]; have := pn_succ n; omega)
        have hTb := Nat.div_add_mod T b
        rw [hTq] at hTb
        have hTm := Nat.mod_lt T hb0
        have HP1 := Lib.hid (fun W (hBW : Blk W g (row N ((rest a b (j + 1) : Nat) : Int))) (hDW : RdS W D (vi (nd b))) =>
          pass_any g j (n + 1) N n (row N ((rest a b (j + 1) : Nat) : Int)) T b (-(Qh : Int)) D (n + 1) d W (row_length _ _) (by omega) (by omega) (by omega) (fun t ht => by rw [row_get _ (by omega), hTd t]) (by rw [nd, HNn.out] at hDW; exact hDW) (by omega) (ln_lt' HNn.out) (fun _ => HDg.out) hBW (by omega) (by omega))
        have HP2 := Lib.hid (fun W (hBW : Blk W g (lay (row N ((rest a b (j + 1) : Nat) : Int)) j ((T : Int) + -(Qh : Int) * (b : Int)) (n + 1))) (hDW : RdS W D (vi (nd b))) =>
          pass_any g j (n + 1) N n _ ((T : Int) + -(Qh : Int) * (b : Int)) b 1 D (n + 1) d W (by rw [lay_length _ (by rw [row_length]; omega), row_length]) (by omega) (by omega) (by omega) (fun t ht => lay_in _ (by rw [row_length]; omega) ht) (by rw [nd, HNn.out] at hDW; exact hDW) (by omega) (ln_lt' HNn.out) (fun _ => HDg.out) hBW (by omega) (by omega))
        have hrd : RdS wr (some ⟨g, j, none⟩) (vi (row (n + 1) (T : Int))) := hB.rd_at (fun t _ => hTd t) (by omega)
        have hDr : RdS wr D (vi (nd b)) := hD.grown HDg.out hgr
        have hjI : (j : Int) < (K : Int) := by omega
        have hj0 : (0 : Int) ≤ (j : Int) := by omega
        have hwQ : IntKind.i64.wrap (-(Qh : Int)) = -(Qh : Int) := by rw [IntKind.wrap_i64]; omega
        have hgq : w.heap.size ≠ g := by omega
        have hcase : Qh = quo a b j ∨ Qh = quo a b j + 1 := by omega
        have HC : Hid ((Qh = quo a b j → 0 ≤ car T b (-(Qh : Int)) (n + 1)) ∧ (Qh = quo a b j + 1 → car T b (-(Qh : Int)) (n + 1) < 0)) := by
          refine Lib.hid ⟨fun h => ?_, fun h => ?_⟩
          · rw [HCar, h]
            refine Int.ediv_nonneg ?_ (Int.le_of_lt (pw_pos _))
            rw [Int.neg_mul, ← Int.natCast_mul, Nat.mul_comm]
            omega
          · rw [HCar, h]
            refine Int.ediv_neg_of_neg_of_pos ?_ (pw_pos _)
            rw [Int.neg_mul, ← Int.natCast_mul, Nat.mul_comm, Nat.mul_add, Nat.mul_one]
            omega
        have HE1 : Hid (Qh = quo a b j → (T : Int) + -(Qh : Int) * (b : Int) = (T : Int) + -((quo a b j * b : Nat) : Int)) := Lib.hid (fun h => by rw [h, Int.neg_mul, Int.natCast_mul])
        have HE2 : Hid (Qh = quo a b j + 1 → (T : Int) + -(Qh : Int) * (b : Int) + 1 * (b : Int) = (T : Int) + -((quo a b j * b : Nat) : Int)) := Lib.hid (fun h => by rw [h, Int.neg_mul, ← Int.natCast_mul, Nat.add_mul]; omega)
        have HcQ := Lib.hid (row_get (n := K) (quoTo a b (j + 1)) hjK)
        obtain ⟨cc, hcc⟩ : ∃ c, c = car T b (-(Qh : Int)) (n + 1) := ⟨_, rfl⟩
        rw [← hcc] at HC HP1
        obtain ⟨qq, hqq⟩ : ∃ q, q = quo a b j := ⟨_, rfl⟩
        rw [← hqq] at hf1 hf2 hqB HQs HRs hcase HC HE1 HE2
        clear hcc hqq hTq hT hTI hTb hTm HCar hQh hlt hf0 hTB hTd hTl
        go_wp2_with fail
        refine (window_int g N j (n + 1) _ _ wr (by omega) (by omega) (by omega) (by omega) (by omega)).mono ?_
        rintro e w2 ⟨rfl, rfl⟩
        go_wp2_with fail
        refine (HGu.out _ hrd hDr).mono ?_
        rintro e w2 ⟨rfl, hb2⟩
        have hB2 := hB.below hB.lt hb2
        have hQ2 := hQ.below hQ.lt hb2
        have hgr2 := grown_below hgr hb2
        have hDr2 := hDr.below hb2
        go_wp2_with fail
        refine (HP1.out _ hB2 hDr2).mono ?_
        rintro e w3 ⟨rfl, hB3, hg3⟩
        have hQ3 := hQ2.kept hgq hg3
        have hgr3 := grown_trans hgr2 hg3
        have hDr3 := hDr2.grown HDg.out hg3
        clear hrd hDr hB hQ hB2 hQ2 HGu HP1 hDr2
        rcases hcase with hc | hc
        · have hcn := HC.out.1 hc
          have hE := HE1.out hc
          rw [hE, HRs.out] at hB3
          subst hc
          have hcc : ¬ cc < 0 := by omega
          have hc1 := hQ3.cell HcQ.out
          have hf1' := hQ3.free j
          clear HC HE1 HE2 HP2 hE hcn
          go_wp2_with fail
          go_roundw
          case rel => exact ⟨j, _, by omega, rfl, rfl, hB3.kept_set (Ne.symm hgq), by have := hQ3.set j (Qh : Int); rwa [HQs.out] at this, grown_set_new hgr3 (Nat.le_refl _) _ _⟩
          case measure => simp [intOf]
        · have hcn := HC.out.2 hc
          have hE := HE2.out hc
          have HP2' := Lib.hid (HP2.out w3 hB3 hDr3)
          have hwq : IntKind.i64.wrap ((Qh : Int) - 1) = (qq : Int) := by rw [IntKind.wrap_i64]; omega
          have hwq' : (Qh : Int) - 1 = (qq : Int) := by omega
          clear HC HE1 HE2 HP2 hc
          go_wp2_with fail
          refine HP2'.out.mono ?_
          rintro e w4 ⟨rfl, hB4, hg4⟩
          rw [lay_lay _ _ (by rw [row_length]; omega), hE, HRs.out] at hB4
          have hQ4 := hQ3.kept hgq hg4
          have hgr4 := grown_trans hgr3 hg4
          have hc1 := hQ4.cell HcQ.out
          have hf1' := hQ4.free j
          go_wp2_with fail
          go_roundw
          case rel => exact ⟨j, _, by omega, rfl, rfl, hB4.kept_set (Ne.symm hgq), by have := hQ4.set j (qq : Int); rwa [HQs.out] at this, grown_set_new hgr4 (Nat.le_refl _) _ _⟩
          case measure => simp [intOf]
  · have hKz : N - n = 0 := by omega
    have hab : a < b := by
      have h1 : a < pn (N - 1) := lt_pn (by omega)
      have h2 : pn (N - 1) ≤ pn (n - 1) := Nat.pow_le_pow_right (by decide) (by omega)
      omega
    have hdm : a / b = 0 ∧ a % b = a := ⟨Nat.div_eq_of_lt hab, Nat.mod_eq_of_lt hab⟩
    have hsub : (N : Int) - (n : Int) < 0 := by omega
    have hmax : max ((N : Int) - (n : Int)) 0 = 0 := by omega
    unfold DivPost
    rw [hKz, hdm.1, hdm.2]
    clear hab hdm hbig hpb hn hDg
    go_enter Tryd.func27, Tryd.ntmps27
    go_wp2_with (first | (refine wpList_make_full _ rfl (.tmp 16) (.tmp 16) 23 rfl w.heap.size 3 i0 _ 1 Tryd.underlying23 hi hz0 hz1 .i64 .i64 0 0 0 rfl rfl rfl rfl (by omega) (by simp only [maxLen]; omega) (Nat.le_refl _) ?_; intro w1 hown hg1; refine cut_here ?_))
    have hq1 := Blk.of_made hown (zeros 0)
    have hgr1 : w.grownBy w1 (some g) := ⟨hg1.os, hg1.tape, hg1.output, hg1.size, fun i hi _ => hg1.block i hi (by simp)⟩
    have hB1 : Blk w1 g (row N (a : Int)) := by
      unfold Blk
      rw [hg1.block g hgw (by simp)]
      exact hB
    clear hown hg1 hB
    refine Cut.of ?_
    go_wp2_with fail
    go_loopw [7] (fun i w' => i = .int .i64 (-1) ∧ w1 = w') (fun i _ => 0)
    case atStart => exact ⟨rfl, rfl⟩
    case round =>
      obtain ⟨rfl, rfl⟩ := hrel
      go_wp2_with fail
      go_ret
      exact ⟨w.heap.size, Nat.le_refl _, rfl, hq1, hB1, hgr1⟩
end Go.Proofs.YtnejpdlikdgnnaaDoor
