/-
  The laws' drawn points: 'l05Point', 'MakePoint'. Only sizes are said of the values drawn.
-/
import Derived.Test.YtppdholccpgcpaaGreatWg
import Derived.Test.YtppdholccpgcpaaGreatLawP
import Derived.Test.YtppdholccpgcpaaGreatMkNatP
import Derived.Test.YtppdholccpgcpaaGreatLg
import Derived.Test.YtppdholccpgcpaaGreatPtS
import Derived.Test.YtppdholccpgcpaaGreatSl
import Derived.Test.YtppdholccpgcpaaGreatTk
namespace Go.Proofs.YtppdholccpgcpaaGreat
open Go.ChangeShapes Go.WideShapes Go.ChangeAt Go.RowKit
set_option linter.unusedVariables false
set_option linter.unusedSimpArgs false
set_option maxRecDepth 4000
theorem rblk_grown {w w' : World} {b g : Nat} {o : Obj} (h : w.heap[b]? = some o) (hg : w.grownBy w' (some g)) (hne : b ≠ g) : w'.heap[b]? = some o :=
  (hg.block b (rblk_lt h) (fun e => hne (by injection e))).trans h
def Dd (k : Nat) (x : R3) : Prop := ∃ r : Rat, x = ofO (some r) ∧ Lg k r
theorem Dd.fit {k : Nat} {x : R3} (h : Dd k x) (hk : k ≤ 216) : ∃ r : Rat, x = ofO (some r) ∧ Lg k r ∧ Fit r := by
  obtain ⟨r, e, l⟩ := h; exact ⟨r, e, l, l.fit hk⟩
theorem Dd.len {k : Nat} {x : R3} (h : Dd k x) (hk : k ≤ 216) : x.l.length ≤ 24 ∧ x.m.length ≤ 24 := by
  obtain ⟨r, rfl, _, f⟩ := h.fit hk; exact (fitO_some f).len
theorem Dd.more {k m : Nat} {x : R3} (h : Dd k x) (hk : k ≤ m) : Dd m x := by
  obtain ⟨r, e, l⟩ := h; exact ⟨r, e, l.more hk⟩
theorem turn_grown {g : Nat} {w w' : World} (h : w.grownBy w' (some g)) : Turn g (g + 1) w w' :=
  ⟨h.os, h.tape, h.output, h.size, fun k hk hd => h.block k hk (fun e => by injection e with e; omega)⟩
theorem owns_grownr {lo hi g : Nat} {w w' : World} {rs : List (Option Addr × List Value)} (h : Owns lo hi w rs) (hg : w.grownBy w' (some g)) (hlo : g < lo) : Owns lo hi w' rs :=
  h.turn (turn_grown hg) (.inr hlo)
theorem rfi_dd (x : Int) (h0 : -9 ≤ x) (h1 : x ≤ 9) : Dd 1 (rfi x) := by
  refine ⟨(x : Rat), rfl, ?_, ?_⟩
  · show x.natAbs < 10 ^ 1; omega
  · show 1 < 10 ^ 1; decide
theorem ofQ_dd (y : Int) (h0 : 1 ≤ y) (h1 : y ≤ 9) : Dd 1 (ofO (ofQ 1 y)) := by
  have lx := ln_word (show (1 : Int).natAbs ≤ 9223372036854775808 by omega)
  have ly := ln_word (show y.natAbs ≤ 9223372036854775808 by omega)
  have hl : Lg 1 (mkRat (sgn (!(zn 1 == zn y)) (1 : Int).natAbs) y.natAbs) := lg_mk (by omega) (by rw [sgn_abs]; omega) (by omega)
  refine ⟨_, ?_, hl⟩
  unfold ofQ
  rw [makQ_yes (by omega) (by omega)]
  unfold lowQ
  rw [if_neg (by omega), hl.cut (by omega)]
theorem add_dd {k m : Nat} {x y : R3} (hx : Dd k x) (hy : Dd m y) (h : k + m + 1 ≤ 216) : Dd (k + m + 1) (ofO (binQ addQ (valx x) (valx y))) := by
  obtain ⟨r, rfl, l, f⟩ := hx.fit (by omega)
  obtain ⟨s, rfl, l', f'⟩ := hy.fit (by omega)
  rw [valx_ofO (fitO_some f), valx_ofO (fitO_some f')]
  exact ⟨r + s, by rw [show binQ addQ (some r) (some s) = some (r + s) from (l.add l').cut h], l.add l'⟩
set_option maxHeartbeats 400000 in
theorem once_any (m : Int) (g : Nat) (A : Option Addr) (n c : Nat) (w : World) (hm0 : 0 < m) (hm1 : m ≤ 256) (hn : n ≤ 1048576) (hc : CurAt w g A n c) :
    Calls Tryz.prog 128 #[.pointer (some ⟨g, 0, none⟩), .int .i64 m] w fun e w' => ∃ b : Bool, e = .returned (.bool b) ∧ CurAt w' g A n c ∧ w.grownBy w' (some g) := by
  have H := Lib.hid (below_any m g A n c w hm0 hm1 hn hc)
  clear hc
  go_enter Tryz.func128, Tryz.ntmps128
  go_wp2_with fail
  refine (Hid.out H).mono ?_
  rintro e w1 ⟨x, hx0, hx1, rfl, hc1, hg1⟩
  go_wp2_with fail
  go_ret
  exact ⟨_, rfl, hc1, hg1⟩
def PtPost (B : Nat) (e : Ending) (w' : World) : Prop := ∃ (X Y : R3) (a b : Ad), (Dd 3 X ∧ Dd 3 Y) ∧ e = .returned (.agg (r6 X Y a b)) ∧ (X.l.length ≤ a.c ∧ X.m.length ≤ a.d ∧ Y.l.length ≤ b.c ∧ Y.m.length ≤ b.d) ∧ Owns B w'.heap.size w' (rows X a ++ rows Y b)
set_option maxHeartbeats 2000000 in
theorem point_any (g : Nat) (A : Option Addr) (n c : Nat) (w : World) (hn : n ≤ 1048576) (hc : CurAt w g A n c) :
    Calls Tryz.prog 61 #[.pointer (some ⟨g, 0, none⟩)] w fun e w' => PtPost w.heap.size e w' ∧ CurAt w' g A n c ∧ w.grownBy w' (some g) := by
  have hgw := hc.lt
  have hl0 := Lib.hid hc.low
  go_enter Tryz.func61, Tryz.ntmps61
  go_wp2_with fail
  have P_o := heap_alloc_new w (.cells z6 31)
  have kg : w.grownBy (w.alloc (.cells z6 31)) (some g) := grownB (grown_refl _ _) (ba1 w _)
  have kc := hc.alloc (.cells z6 31)
  have hne : w.heap.size ≠ g := by omega
  generalize w.alloc (.cells z6 31) = W1 at P_o kg kc ⊢
  refine (below_any 9 g A n c _ (by omega) (by omega) hn kc).mono ?_
  rintro e W2 ⟨x, hx0, hx1, rfl, kc, hg⟩
  replace P_o := rblk_grown P_o hg hne
  replace kg := grown2 kg hg
  clear hc hg
  go_wp2_with fail
  refine (below_any 9 g A n c _ (by omega) (by omega) hn kc).mono ?_
  rintro e W3 ⟨y, hy0, hy1, rfl, kc, hg⟩
  replace P_o := rblk_grown P_o hg hne
  replace kg := grown2 kg hg
  clear hg
  have HP := Lib.hid (fun W => spec_pointAt (x - 4) (y - 4) W ⟨by omega, by omega⟩ ⟨by omega, by omega⟩)
  have dX := Lib.hid (rfi_dd (x - 4) (by omega) (by omega))
  have dY := Lib.hid (rfi_dd (y - 4) (by omega) (by omega))
  unfold MadeP at HP
  go_wp2_with fail
  generalize rfi (x - 4) = X at HP dX
  generalize rfi (y - 4) = Y at HP dY
  clear hx0 hx1 hy0 hy1
  have hz3 : w.heap.size ≤ W3.heap.size := kg.size
  have hlo3 := rblk_lt P_o
  refine (HP.out _).mono ?_
  rintro e W4 ⟨a, b, rfl, hcap, oP, hap, hb⟩
  replace P_o := rblk_below P_o hb
  replace kg := grownB kg (hb.mono hz3)
  replace kc := kc.belowB hgw hl0.out (hb.mono hz3)
  have hz4 := hb.size
  clear hb hap HP
  have P_p := heap_alloc_new W4 (.cells (r6 X Y a b) 31)
  have hb := ba1 W4 (.cells (r6 X Y a b) 31)
  replace P_o := rblk_below P_o hb
  replace kc := kc.alloc (.cells (r6 X Y a b) 31)
  replace oP := oP.below hb
  replace kg := grownB kg (hb.mono kg.size)
  clear hb
  have hpo : w.heap.size ≠ W4.heap.size := by omega
  have hpg : W4.heap.size ≠ g := by omega
  have n_o : Hid (w.heap.size < W3.heap.size ∧ W3.heap.size ≤ W4.heap.size ∧ g < W3.heap.size) := Lib.hid ⟨hlo3, hz4, by omega⟩
  go_wp2_with fail
  generalize W4.alloc (.cells (r6 X Y a b) 31) = W5 at P_o P_p kc oP kg ⊢
  generalize W4.heap.size = gp at P_p oP hpo hpg n_o ⊢
  generalize W3.heap.size = lo at oP n_o
  clear hz3 hlo3 hz4
  refine (once_any 3 g A n c _ (by omega) (by omega) hn kc).mono ?_
  rintro e W6 ⟨bb, rfl, kc, hg⟩
  replace P_o := rblk_grown P_o hg hne
  replace P_p := rblk_grown P_p hg hpg
  replace oP := owns_grownr oP hg n_o.out.2.2
  replace kg := grown2 kg hg
  clear hg
  have hcap := Lib.hid hcap
  cases bb with
  | false =>
    have hzz : gp ≤ W6.heap.size := Nat.le_of_lt (rblk_lt P_p)
    have t0 := rblk_cell P_p 0
    have u0 := rblk_cell P_o 0
    have q0 := rblk_free P_o 0
    have t1 := rblk_cell P_p 1
    have u1 := rblk_cell P_o 1
    have q1 := rblk_free P_o 1
    have t2 := rblk_cell P_p 2
    have u2 := rblk_cell P_o 2
    have q2 := rblk_free P_o 2
    have t3 := rblk_cell P_p 3
    have u3 := rblk_cell P_o 3
    have q3 := rblk_free P_o 3
    have t4 := rblk_cell P_p 4
    have u4 := rblk_cell P_o 4
    have q4 := rblk_free P_o 4
    have t5 := rblk_cell P_p 5
    have u5 := rblk_cell P_o 5
    have q5 := rblk_free P_o 5
    go_wp2
    exact bodyPost_ret (v := .agg (r6 X Y a b)) (by simp [results, Tryz.results61, go_sem, u0, u1, u2, u3, u4, u5]) rfl ⟨⟨X, Y, a, b, ⟨dX.out.more (by omega), dY.out.more (by omega)⟩, rfl, hcap.out, owns_end6 (oP.wide (Nat.le_refl _) hzz) (.inl n_o.out.1) (Nat.le_of_lt n_o.out.1) (Nat.le_refl _) _ _ _ _ _ _⟩, kc.belowB hgw hl0.out (below_put6 (Below.refl w.heap.size _) (Nat.le_refl _) _ _ _ _ _ _), grownB kg (below_put6 (Below.refl _ _) (Nat.le_refl _) _ _ _ _ _ _)⟩
  | true =>
    go_wp2_with fail
    refine wp_region_held_drew (S := fun w' => True) (by kernel_rfl) trivial (fun hHeld => ?_)
    have hbd : Below W6.heap.size W6 W6.drew := (Below.refl _ _).drew
    replace kc := kc.belowB hgw hl0.out (hbd.mono kg.size)
    replace P_o := rblk_below P_o hbd
    replace P_p := rblk_below P_p hbd
    replace oP := oP.below hbd
    replace kg := grownB kg (hbd.mono kg.size)
    clear hbd
    have oX : Owns lo gp W6.drew (rows X a) := owns_l oP
    have oY : Owns lo gp W6.drew (rows Y b) := owns_r oP
    clear oP
    generalize W6.drew = Wd at *
    refine tk (i := 0) (v := ?vg1_1) rfl (by kernel_rfl) (fun _ _ _ h => h) (Or.inl ⟨by rfl, ?hg1_1⟩) hHeld ?_
    case hg1_1 => (intro w hSw; (try dsimp only at hSw); go_simp; (try with_reducible rfl))
    try simp only [ps]
    refine tk (i := 2) (v := ?vg1_2) rfl (by kernel_rfl) (fun _ _ _ h => h) (Or.inl ⟨by rfl, ?hg1_2⟩) hHeld ?_
    case hg1_2 => (intro w hSw; (try dsimp only at hSw); go_simp; (try with_reducible rfl))
    try simp only [ps]
    refine wpAnyH_ready (rs := [1, 3]) (by kernel_rfl) (by simp) ?_
    refine rc1 rfl (fun K hK => ?_) (rc1 rfl (fun K hK => ?_) AllReadyH.nil)
    · skip
      have t0 := rblk_cell P_p 0
      have t1 := rblk_cell P_p 1
      have t2 := rblk_cell P_p 2
      go_simp
      clear t0 t1 t2
      refine hK.out _ _ trivial (fun hH => ?_)
      replace hHeld := hH
      clear hK K hH
      try simp only [ps]
      refine rd1 (i := 3) (by kernel_rfl) rfl (fun K hK => ?_)
      go_simp
      (go_at_call 127; ((with_reducible refine (below_any 3 g A n c _ (by omega) (by omega) hn kc).mono ?_); rintro e Wr1_3 ⟨z, hz0, hz1, rfl, kc, hg⟩))
      replace P_o := rblk_grown P_o hg hne
      replace P_p := rblk_grown P_p hg hpg
      replace oX := owns_grownr oX hg n_o.out.2.2
      replace oY := owns_grownr oY hg n_o.out.2.2
      replace kg := grown2 kg hg
      clear hg
      refine hK.out _ _ trivial (fun hH => ?_)
      replace hHeld := hH
      clear hK K hH
      obtain ⟨s, zw, hs0, hs1⟩ : ∃ s : Int, IntKind.i64.wrap (2 + z) = s ∧ 1 ≤ s ∧ s ≤ 9 := ⟨2 + z, by rw [IntKind.wrap_i64]; omega, by omega, by omega⟩
      have HU := Lib.hid (fun W => show Calls Tryz.prog 118 #[.int .i64 1, .int .i64 s] W (MadeQ W.heap.size (ofO (ofQ 1 s)) W) from (spec_rof 1 s W ⟨by omega, by omega⟩ ⟨by omega, by omega⟩).mono fun e w' k => MadeR.toQ (x := ofO (ofQ 1 s)) k)
      have dU := Lib.hid (ofQ_dd s (by omega) (by omega))
      try simp only [ps]
      refine tk (i := 4) (v := ?vg1_4) rfl (by kernel_rfl) (fun _ _ _ h => h) (Or.inl ⟨by rfl, ?hg1_4⟩) hHeld ?_
      case hg1_4 => (intro w hSw; (try dsimp only at hSw); go_simp; (try with_reducible rfl))
      try simp only [ps]
      refine rd1 (i := 5) (by kernel_rfl) rfl (fun K hK => ?_)
      generalize ofO (ofQ 1 s) = U at HU dU
      unfold MadeQ at HU
      go_simp
      (go_at_call 118; ((with_reducible refine (HU.out _).mono ?_); rintro e Wr1_5 ⟨d, rfl, hcu1, hcu2, oU, hapU, hb⟩))
      replace P_o := rblk_below P_o hb
      replace P_p := rblk_below P_p hb
      replace oX := oX.below hb
      replace oY := oY.below hb
      replace kc := kc.belowB hgw hl0.out (hb.mono kg.size)
      replace kg := grownB kg (hb.mono kg.size)
      refine hK.out _ _ trivial (fun hH => ?_)
      replace hHeld := hH
      clear hK K hH
      clear hapU hcu1 hcu2 HU
      try simp only [ps]
      refine rd1 (i := 6) (by kernel_rfl) rfl (fun K hK => ?_)
      have lX := dX.out.len (by omega)
      have lU := dU.out.len (by omega)
      have HV := Lib.hid (fun W h h' => spec_radd_r X U a d W (by omega) (by omega) (by omega) (by omega) h h')
      have dV := Lib.hid (add_dd dX.out dU.out (by omega))
      generalize ofO (binQ addQ (valx X) (valx U)) = V at HV dV
      unfold MadeQ at HV
      clear lX lU
      go_simp
      (go_at_call 120; ((with_reducible refine (HV.out _ oX.rds oU.rds).mono ?_); rintro e Wr1_6 ⟨f, rfl, hcv1, hcv2, oV, hapV, hb⟩))
      have hlv := rblk_lt P_p
      replace P_o := rblk_below P_o hb
      replace P_p := rblk_below P_p hb
      replace oX := oX.below hb
      replace oY := oY.below hb
      replace kc := kc.belowB hgw hl0.out (hb.mono kg.size)
      replace kg := grownB kg (hb.mono kg.size)
      refine hK.out _ _ trivial (fun hH => ?_)
      replace hHeld := hH
      clear hK K hH
      have hsV := hb.size
      clear hb hapV HV oU
      try simp only [ps]
      refine tk (i := 7) (v := ?vg1_7) rfl (by kernel_rfl) (fun _ _ _ h => h) (Or.inl ⟨by rfl, ?hg1_7⟩) hHeld ?_
      case hg1_7 => (intro w hSw; (try dsimp only at hSw); go_simp; (try with_reducible rfl))
      try simp only [ps]
      refine rd1 (i := 8) (by kernel_rfl) rfl (fun K hK => ?_)
      have t0 := rblk_cell P_p 0
      have q0 := rblk_free P_p 0
      have t1 := rblk_cell P_p 1
      have q1 := rblk_free P_p 1
      have t2 := rblk_cell P_p 2
      have q2 := rblk_free P_p 2
      go_simp
      clear t0 t1 t2 q0 q1 q2
      replace P_o := rblk_other (rblk_other (rblk_other P_o 0 (.bool V.p) (show gp ≠ w.heap.size by omega)) 1 (.slice f.A V.l.length f.c) (show gp ≠ w.heap.size by omega)) 2 (.slice f.D V.m.length f.d) (show gp ≠ w.heap.size by omega)
      replace P_p := rblk_set (rblk_set (rblk_set P_p 0 (.bool V.p)) 1 (.slice f.A V.l.length f.c)) 2 (.slice f.D V.m.length f.d)
      replace kc := kc.belowB hgw hl0.out (below_put3 (r := gp) (Below.refl w.heap.size _) (Nat.le_trans (Nat.le_of_lt n_o.out.1) n_o.out.2.1) (.bool V.p) (.slice f.A V.l.length f.c) (.slice f.D V.m.length f.d))
      replace kg := grownB kg (below_put3 (r := gp) (Below.refl w.heap.size _) (Nat.le_trans (Nat.le_of_lt n_o.out.1) n_o.out.2.1) (.bool V.p) (.slice f.A V.l.length f.c) (.slice f.D V.m.length f.d))
      replace oV := owns_put3 (r := gp) oV (.inl hlv) (.bool V.p) (.slice f.A V.l.length f.c) (.slice f.D V.m.length f.d)
      replace oY := owns_put3 (r := gp) oY (.inr (Nat.le_refl _)) (.bool V.p) (.slice f.A V.l.length f.c) (.slice f.D V.m.length f.d)
      refine hK.out _ _ trivial (fun hH => ?_)
      replace hHeld := hH
      clear hK K hH
      try simp only [ps]
      refine wpAnyH_done (by kernel_rfl) ?_ _
      have oE := Owns.app (oV.wide (Nat.le_trans n_o.out.2.1 (Nat.le_of_lt hlv)) (Nat.le_refl _)) (oY.wide (Nat.le_refl _) (Nat.le_of_lt (Nat.lt_of_lt_of_le hlv hsV)))
      have t0 := rblk_cell P_p 0
      have u0 := rblk_cell P_o 0
      have q0 := rblk_free P_o 0
      have t1 := rblk_cell P_p 1
      have u1 := rblk_cell P_o 1
      have q1 := rblk_free P_o 1
      have t2 := rblk_cell P_p 2
      have u2 := rblk_cell P_o 2
      have q2 := rblk_free P_o 2
      have t3 := rblk_cell P_p 3
      have u3 := rblk_cell P_o 3
      have q3 := rblk_free P_o 3
      have t4 := rblk_cell P_p 4
      have u4 := rblk_cell P_o 4
      have q4 := rblk_free P_o 4
      have t5 := rblk_cell P_p 5
      have u5 := rblk_cell P_o 5
      have q5 := rblk_free P_o 5
      go_wp2
      exact bodyPost_ret (v := .agg (r6 V Y f b)) (by simp [results, Tryz.results61, go_sem, u0, u1, u2, u3, u4, u5]) rfl ⟨⟨V, Y, f, b, ⟨dV.out, dY.out.more (by omega)⟩, rfl, ⟨hcv1, hcv2, hcap.out.2.2.1, hcap.out.2.2.2⟩, owns_end6 oE (.inl n_o.out.1) (Nat.le_of_lt n_o.out.1) (by rw [size_put3]; exact Nat.le_refl _) _ _ _ _ _ _⟩, kc.belowB hgw hl0.out (below_put6 (Below.refl w.heap.size _) (Nat.le_refl _) _ _ _ _ _ _), grownB kg (below_put6 (Below.refl _ _) (Nat.le_refl _) _ _ _ _ _ _)⟩
    · skip
      go_simp
      (go_at_call 127; ((with_reducible refine (below_any 3 g A n c _ (by omega) (by omega) hn kc).mono ?_); rintro e Wr1_8 ⟨z, hz0, hz1, rfl, kc, hg⟩))
      replace P_o := rblk_grown P_o hg hne
      replace P_p := rblk_grown P_p hg hpg
      replace oX := owns_grownr oX hg n_o.out.2.2
      replace oY := owns_grownr oY hg n_o.out.2.2
      replace kg := grown2 kg hg
      clear hg
      refine hK.out _ _ trivial (fun hH => ?_)
      replace hHeld := hH
      clear hK K hH
      obtain ⟨s, zw, hs0, hs1⟩ : ∃ s : Int, IntKind.i64.wrap (2 + z) = s ∧ 1 ≤ s ∧ s ≤ 9 := ⟨2 + z, by rw [IntKind.wrap_i64]; omega, by omega, by omega⟩
      have HU := Lib.hid (fun W => show Calls Tryz.prog 118 #[.int .i64 1, .int .i64 s] W (MadeQ W.heap.size (ofO (ofQ 1 s)) W) from (spec_rof 1 s W ⟨by omega, by omega⟩ ⟨by omega, by omega⟩).mono fun e w' k => MadeR.toQ (x := ofO (ofQ 1 s)) k)
      have dU := Lib.hid (ofQ_dd s (by omega) (by omega))
      try simp only [ps]
      refine tk (i := 4) (v := ?vg1_9) rfl (by kernel_rfl) (fun _ _ _ h => h) (Or.inl ⟨by rfl, ?hg1_9⟩) hHeld ?_
      case hg1_9 => (intro w hSw; (try dsimp only at hSw); go_simp; (try with_reducible rfl))
      try simp only [ps]
      refine wpAnyH_ready (rs := [1, 5]) (by kernel_rfl) (by simp) ?_
      refine rc1 rfl (fun K hK => ?_) (rc1 rfl (fun K hK => ?_) AllReadyH.nil)
      · skip
        have t0 := rblk_cell P_p 0
        have t1 := rblk_cell P_p 1
        have t2 := rblk_cell P_p 2
        go_simp
        clear t0 t1 t2
        refine hK.out _ _ trivial (fun hH => ?_)
        replace hHeld := hH
        clear hK K hH
        try simp only [ps]
        refine rd1 (i := 5) (by kernel_rfl) rfl (fun K hK => ?_)
        generalize ofO (ofQ 1 s) = U at HU dU
        unfold MadeQ at HU
        go_simp
        (go_at_call 118; ((with_reducible refine (HU.out _).mono ?_); rintro e Wr1_10 ⟨d, rfl, hcu1, hcu2, oU, hapU, hb⟩))
        replace P_o := rblk_below P_o hb
        replace P_p := rblk_below P_p hb
        replace oX := oX.below hb
        replace oY := oY.below hb
        replace kc := kc.belowB hgw hl0.out (hb.mono kg.size)
        replace kg := grownB kg (hb.mono kg.size)
        refine hK.out _ _ trivial (fun hH => ?_)
        replace hHeld := hH
        clear hK K hH
        clear hapU hcu1 hcu2 HU
        try simp only [ps]
        refine rd1 (i := 6) (by kernel_rfl) rfl (fun K hK => ?_)
        have lX := dX.out.len (by omega)
        have lU := dU.out.len (by omega)
        have HV := Lib.hid (fun W h h' => spec_radd_r X U a d W (by omega) (by omega) (by omega) (by omega) h h')
        have dV := Lib.hid (add_dd dX.out dU.out (by omega))
        generalize ofO (binQ addQ (valx X) (valx U)) = V at HV dV
        unfold MadeQ at HV
        clear lX lU
        go_simp
        (go_at_call 120; ((with_reducible refine (HV.out _ oX.rds oU.rds).mono ?_); rintro e Wr1_11 ⟨f, rfl, hcv1, hcv2, oV, hapV, hb⟩))
        have hlv := rblk_lt P_p
        replace P_o := rblk_below P_o hb
        replace P_p := rblk_below P_p hb
        replace oX := oX.below hb
        replace oY := oY.below hb
        replace kc := kc.belowB hgw hl0.out (hb.mono kg.size)
        replace kg := grownB kg (hb.mono kg.size)
        refine hK.out _ _ trivial (fun hH => ?_)
        replace hHeld := hH
        clear hK K hH
        have hsV := hb.size
        clear hb hapV HV oU
        try simp only [ps]
        refine tk (i := 7) (v := ?vg1_12) rfl (by kernel_rfl) (fun _ _ _ h => h) (Or.inl ⟨by rfl, ?hg1_12⟩) hHeld ?_
        case hg1_12 => (intro w hSw; (try dsimp only at hSw); go_simp; (try with_reducible rfl))
        try simp only [ps]
        refine rd1 (i := 8) (by kernel_rfl) rfl (fun K hK => ?_)
        have t0 := rblk_cell P_p 0
        have q0 := rblk_free P_p 0
        have t1 := rblk_cell P_p 1
        have q1 := rblk_free P_p 1
        have t2 := rblk_cell P_p 2
        have q2 := rblk_free P_p 2
        go_simp
        clear t0 t1 t2 q0 q1 q2
        replace P_o := rblk_other (rblk_other (rblk_other P_o 0 (.bool V.p) (show gp ≠ w.heap.size by omega)) 1 (.slice f.A V.l.length f.c) (show gp ≠ w.heap.size by omega)) 2 (.slice f.D V.m.length f.d) (show gp ≠ w.heap.size by omega)
        replace P_p := rblk_set (rblk_set (rblk_set P_p 0 (.bool V.p)) 1 (.slice f.A V.l.length f.c)) 2 (.slice f.D V.m.length f.d)
        replace kc := kc.belowB hgw hl0.out (below_put3 (r := gp) (Below.refl w.heap.size _) (Nat.le_trans (Nat.le_of_lt n_o.out.1) n_o.out.2.1) (.bool V.p) (.slice f.A V.l.length f.c) (.slice f.D V.m.length f.d))
        replace kg := grownB kg (below_put3 (r := gp) (Below.refl w.heap.size _) (Nat.le_trans (Nat.le_of_lt n_o.out.1) n_o.out.2.1) (.bool V.p) (.slice f.A V.l.length f.c) (.slice f.D V.m.length f.d))
        replace oV := owns_put3 (r := gp) oV (.inl hlv) (.bool V.p) (.slice f.A V.l.length f.c) (.slice f.D V.m.length f.d)
        replace oY := owns_put3 (r := gp) oY (.inr (Nat.le_refl _)) (.bool V.p) (.slice f.A V.l.length f.c) (.slice f.D V.m.length f.d)
        refine hK.out _ _ trivial (fun hH => ?_)
        replace hHeld := hH
        clear hK K hH
        try simp only [ps]
        refine wpAnyH_done (by kernel_rfl) ?_ _
        have oE := Owns.app (oV.wide (Nat.le_trans n_o.out.2.1 (Nat.le_of_lt hlv)) (Nat.le_refl _)) (oY.wide (Nat.le_refl _) (Nat.le_of_lt (Nat.lt_of_lt_of_le hlv hsV)))
        have t0 := rblk_cell P_p 0
        have u0 := rblk_cell P_o 0
        have q0 := rblk_free P_o 0
        have t1 := rblk_cell P_p 1
        have u1 := rblk_cell P_o 1
        have q1 := rblk_free P_o 1
        have t2 := rblk_cell P_p 2
        have u2 := rblk_cell P_o 2
        have q2 := rblk_free P_o 2
        have t3 := rblk_cell P_p 3
        have u3 := rblk_cell P_o 3
        have q3 := rblk_free P_o 3
        have t4 := rblk_cell P_p 4
        have u4 := rblk_cell P_o 4
        have q4 := rblk_free P_o 4
        have t5 := rblk_cell P_p 5
        have u5 := rblk_cell P_o 5
        have q5 := rblk_free P_o 5
        go_wp2
        exact bodyPost_ret (v := .agg (r6 V Y f b)) (by simp [results, Tryz.results61, go_sem, u0, u1, u2, u3, u4, u5]) rfl ⟨⟨V, Y, f, b, ⟨dV.out, dY.out.more (by omega)⟩, rfl, ⟨hcv1, hcv2, hcap.out.2.2.1, hcap.out.2.2.2⟩, owns_end6 oE (.inl n_o.out.1) (Nat.le_of_lt n_o.out.1) (by rw [size_put3]; exact Nat.le_refl _) _ _ _ _ _ _⟩, kc.belowB hgw hl0.out (below_put6 (Below.refl w.heap.size _) (Nat.le_refl _) _ _ _ _ _ _), grownB kg (below_put6 (Below.refl _ _) (Nat.le_refl _) _ _ _ _ _ _)⟩
      · skip
        generalize ofO (ofQ 1 s) = U at HU dU
        unfold MadeQ at HU
        go_simp
        (go_at_call 118; ((with_reducible refine (HU.out _).mono ?_); rintro e Wr1_13 ⟨d, rfl, hcu1, hcu2, oU, hapU, hb⟩))
        replace P_o := rblk_below P_o hb
        replace P_p := rblk_below P_p hb
        replace oX := oX.below hb
        replace oY := oY.below hb
        replace kc := kc.belowB hgw hl0.out (hb.mono kg.size)
        replace kg := grownB kg (hb.mono kg.size)
        refine hK.out _ _ trivial (fun hH => ?_)
        replace hHeld := hH
        clear hK K hH
        clear hapU hcu1 hcu2 HU
        try simp only [ps]
        refine rd1 (i := 1) (by kernel_rfl) rfl (fun K hK => ?_)
        have t0 := rblk_cell P_p 0
        have t1 := rblk_cell P_p 1
        have t2 := rblk_cell P_p 2
        go_simp
        clear t0 t1 t2
        refine hK.out _ _ trivial (fun hH => ?_)
        replace hHeld := hH
        clear hK K hH
        try simp only [ps]
        refine rd1 (i := 6) (by kernel_rfl) rfl (fun K hK => ?_)
        have lX := dX.out.len (by omega)
        have lU := dU.out.len (by omega)
        have HV := Lib.hid (fun W h h' => spec_radd_r X U a d W (by omega) (by omega) (by omega) (by omega) h h')
        have dV := Lib.hid (add_dd dX.out dU.out (by omega))
        generalize ofO (binQ addQ (valx X) (valx U)) = V at HV dV
        unfold MadeQ at HV
        clear lX lU
        go_simp
        (go_at_call 120; ((with_reducible refine (HV.out _ oX.rds oU.rds).mono ?_); rintro e Wr1_14 ⟨f, rfl, hcv1, hcv2, oV, hapV, hb⟩))
        have hlv := rblk_lt P_p
        replace P_o := rblk_below P_o hb
        replace P_p := rblk_below P_p hb
        replace oX := oX.below hb
        replace oY := oY.below hb
        replace kc := kc.belowB hgw hl0.out (hb.mono kg.size)
        replace kg := grownB kg (hb.mono kg.size)
        refine hK.out _ _ trivial (fun hH => ?_)
        replace hHeld := hH
        clear hK K hH
        have hsV := hb.size
        clear hb hapV HV oU
        try simp only [ps]
        refine tk (i := 7) (v := ?vg1_15) rfl (by kernel_rfl) (fun _ _ _ h => h) (Or.inl ⟨by rfl, ?hg1_15⟩) hHeld ?_
        case hg1_15 => (intro w hSw; (try dsimp only at hSw); go_simp; (try with_reducible rfl))
        try simp only [ps]
        refine rd1 (i := 8) (by kernel_rfl) rfl (fun K hK => ?_)
        have t0 := rblk_cell P_p 0
        have q0 := rblk_free P_p 0
        have t1 := rblk_cell P_p 1
        have q1 := rblk_free P_p 1
        have t2 := rblk_cell P_p 2
        have q2 := rblk_free P_p 2
        go_simp
        clear t0 t1 t2 q0 q1 q2
        replace P_o := rblk_other (rblk_other (rblk_other P_o 0 (.bool V.p) (show gp ≠ w.heap.size by omega)) 1 (.slice f.A V.l.length f.c) (show gp ≠ w.heap.size by omega)) 2 (.slice f.D V.m.length f.d) (show gp ≠ w.heap.size by omega)
        replace P_p := rblk_set (rblk_set (rblk_set P_p 0 (.bool V.p)) 1 (.slice f.A V.l.length f.c)) 2 (.slice f.D V.m.length f.d)
        replace kc := kc.belowB hgw hl0.out (below_put3 (r := gp) (Below.refl w.heap.size _) (Nat.le_trans (Nat.le_of_lt n_o.out.1) n_o.out.2.1) (.bool V.p) (.slice f.A V.l.length f.c) (.slice f.D V.m.length f.d))
        replace kg := grownB kg (below_put3 (r := gp) (Below.refl w.heap.size _) (Nat.le_trans (Nat.le_of_lt n_o.out.1) n_o.out.2.1) (.bool V.p) (.slice f.A V.l.length f.c) (.slice f.D V.m.length f.d))
        replace oV := owns_put3 (r := gp) oV (.inl hlv) (.bool V.p) (.slice f.A V.l.length f.c) (.slice f.D V.m.length f.d)
        replace oY := owns_put3 (r := gp) oY (.inr (Nat.le_refl _)) (.bool V.p) (.slice f.A V.l.length f.c) (.slice f.D V.m.length f.d)
        refine hK.out _ _ trivial (fun hH => ?_)
        replace hHeld := hH
        clear hK K hH
        try simp only [ps]
        refine wpAnyH_done (by kernel_rfl) ?_ _
        have oE := Owns.app (oV.wide (Nat.le_trans n_o.out.2.1 (Nat.le_of_lt hlv)) (Nat.le_refl _)) (oY.wide (Nat.le_refl _) (Nat.le_of_lt (Nat.lt_of_lt_of_le hlv hsV)))
        have t0 := rblk_cell P_p 0
        have u0 := rblk_cell P_o 0
        have q0 := rblk_free P_o 0
        have t1 := rblk_cell P_p 1
        have u1 := rblk_cell P_o 1
        have q1 := rblk_free P_o 1
        have t2 := rblk_cell P_p 2
        have u2 := rblk_cell P_o 2
        have q2 := rblk_free P_o 2
        have t3 := rblk_cell P_p 3
        have u3 := rblk_cell P_o 3
        have q3 := rblk_free P_o 3
        have t4 := rblk_cell P_p 4
        have u4 := rblk_cell P_o 4
        have q4 := rblk_free P_o 4
        have t5 := rblk_cell P_p 5
        have u5 := rblk_cell P_o 5
        have q5 := rblk_free P_o 5
        go_wp2
        exact bodyPost_ret (v := .agg (r6 V Y f b)) (by simp [results, Tryz.results61, go_sem, u0, u1, u2, u3, u4, u5]) rfl ⟨⟨V, Y, f, b, ⟨dV.out, dY.out.more (by omega)⟩, rfl, ⟨hcv1, hcv2, hcap.out.2.2.1, hcap.out.2.2.2⟩, owns_end6 oE (.inl n_o.out.1) (Nat.le_of_lt n_o.out.1) (by rw [size_put3]; exact Nat.le_refl _) _ _ _ _ _ _⟩, kc.belowB hgw hl0.out (below_put6 (Below.refl w.heap.size _) (Nat.le_refl _) _ _ _ _ _ _), grownB kg (below_put6 (Below.refl _ _) (Nat.le_refl _) _ _ _ _ _ _)⟩
end Go.Proofs.YtppdholccpgcpaaGreat
