/-
  Points of the model.
-/
import Derived.Test.YtppdholccpgcpaaGreatWg
import Derived.Test.YtppdholccpgcpaaGreatLawP
import Derived.Test.YtppdholccpgcpaaGreatPtJ
import Derived.Test.YtppdholccpgcpaaGreatPkE
import Derived.Test.YtppdholccpgcpaaGreatPkH
namespace Go.Proofs.YtppdholccpgcpaaGreat
set_option maxHeartbeats 1000000
open Go.ChangeShapes Go.WideShapes Go.ChangeAt Go.RowKit
set_option linter.unusedVariables false
set_option linter.unusedSimpArgs false
set_option maxRecDepth 4000
attribute [local go_sem ↓] Go.wp_at_zero Go.wp_at_succ
theorem spec_rok_r (x : R3) (a : Ad) (w : World) (hxl : x.l.length ≤ 9223372036854775807) (hxm : x.m.length ≤ 9223372036854775807) (h : Rds w (rows x a)) :
    Calls Tryz.prog 161 #[.agg (r3 x a)] w (fun e w' => e = .returned (.bool (okx x)) ∧ Below w.heap.size w w') :=
  spec_rok x.p x.l x.m a.A a.D x.l.length a.c x.m.length a.d w rfl rfl hxl hxm (rows_rd h).1 (rows_rd h).2
theorem spec_radd_r (x u : R3) (a c : Ad) (w : World) (hxl : x.l.length ≤ 9223372036854775807) (hxm : x.m.length ≤ 9223372036854775807) (hul : u.l.length ≤ 9223372036854775807) (hum : u.m.length ≤ 9223372036854775807) (h : Rds w (rows x a)) (h' : Rds w (rows u c)) :
    Calls Tryz.prog 120 #[.agg (r3 x a), .agg (r3 u c)] w (MadeQ w.heap.size (ofO (binQ addQ (valx x) (valx u))) w) :=
  (spec_radd x.p u.p x.l x.m u.l u.m a.A a.D c.A c.D x.l.length x.m.length u.l.length u.m.length a.c a.d c.c c.d w rfl rfl rfl rfl hxl hxm hul hum (rows_rd h).1 (rows_rd h).2 (rows_rd h').1 (rows_rd h').2).mono fun e w' k => MadeR.toQ (x := ofO (binQ addQ (valx x) (valx u))) k
theorem spec_rmul_r (x u : R3) (a c : Ad) (w : World) (hxl : x.l.length ≤ 9223372036854775807) (hxm : x.m.length ≤ 9223372036854775807) (hul : u.l.length ≤ 9223372036854775807) (hum : u.m.length ≤ 9223372036854775807) (h : Rds w (rows x a)) (h' : Rds w (rows u c)) :
    Calls Tryz.prog 114 #[.agg (r3 x a), .agg (r3 u c)] w (MadeQ w.heap.size (ofO (binQ mulQ (valx x) (valx u))) w) :=
  (spec_rmul x.p u.p x.l x.m u.l u.m a.A a.D c.A c.D x.l.length x.m.length u.l.length u.m.length a.c a.d c.c c.d w rfl rfl rfl rfl hxl hxm hul hum (rows_rd h).1 (rows_rd h).2 (rows_rd h').1 (rows_rd h').2).mono fun e w' k => MadeR.toQ (x := ofO (binQ mulQ (valx x) (valx u))) k
theorem spec_rsub_r (x u : R3) (a c : Ad) (w : World) (hxl : x.l.length ≤ 9223372036854775807) (hxm : x.m.length ≤ 9223372036854775807) (hul : u.l.length ≤ 9223372036854775807) (hum : u.m.length ≤ 9223372036854775807) (hc1 : x.l.length ≤ a.c ∧ x.m.length ≤ a.d) (hc2 : u.l.length ≤ c.c ∧ u.m.length ≤ c.d) (h : Rds w (rows x a)) (h' : Rds w (rows u c)) :
    Calls Tryz.prog 102 #[.agg (r3 x a), .agg (r3 u c)] w (MadeQ w.heap.size (ofO (binQ subQ (valx x) (valx u))) w) :=
  (spec_rsub x.p u.p x.l x.m u.l u.m a.A a.D c.A c.D x.l.length x.m.length u.l.length u.m.length a.c a.d c.c c.d w rfl rfl rfl rfl hxl hxm hul hum hc1.1 hc1.2 hc2.1 hc2.2 (rows_rd h).1 (rows_rd h).2 (rows_rd h').1 (rows_rd h').2).mono fun e w' k => MadeR.toQ (x := ofO (binQ subQ (valx x) (valx u))) k
theorem spec_validP (x y : R3) (a b : Ad) (w : World) (hxl : x.l.length ≤ 9223372036854775807) (hxm : x.m.length ≤ 9223372036854775807) (hyl : y.l.length ≤ 9223372036854775807) (hym : y.m.length ≤ 9223372036854775807) (h : Rds w (rows x a ++ rows y b)) :
    Calls Tryz.prog 103 #[.agg (r6 x y a b)] w (fun e w' => e = .returned (.bool (okx x && okx y)) ∧ Below w.heap.size w w') := by
  have HX := Lib.hid (fun W h => spec_rok_r x a W hxl hxm h)
  have HY := Lib.hid (fun W h => spec_rok_r y b W hyl hym h)
  have RR : Hid (∀ W, Below w.heap.size w W → Rds W (rows x a) ∧ Rds W (rows y b)) := Lib.hid (fun W hb => ⟨(rds_l h).below hb, (rds_r h).below hb⟩)
  clear h hxl hxm hyl hym
  generalize okx x = r1 at HX ⊢
  generalize okx y = r2 at HY ⊢
  cases r1 with
  | false =>
    go_enter Tryz.func103, Tryz.ntmps103
    go_wp2_with fail
    have kb := ba1 w (.cells (r6 x y a b) 31)
    have P_p := heap_alloc_new w (.cells (r6 x y a b) 31)
    generalize w.alloc (.cells (r6 x y a b) 31) = W1 at kb P_p ⊢
    refine (HX.out _ (RR.out _ kb).1).mono ?_
    rintro e W2 ⟨rfl, hb⟩
    replace P_p := rblk_below P_p hb
    replace kb := bt kb hb
    clear hb
    go_wp2
    go_ret
    exact ⟨rfl, kb⟩
  | true =>
    cases r2 with
    | false =>
      go_enter Tryz.func103, Tryz.ntmps103
      go_wp2_with fail
      have kb := ba1 w (.cells (r6 x y a b) 31)
      have P_p := heap_alloc_new w (.cells (r6 x y a b) 31)
      generalize w.alloc (.cells (r6 x y a b) 31) = W1 at kb P_p ⊢
      refine (HX.out _ (RR.out _ kb).1).mono ?_
      rintro e W2 ⟨rfl, hb⟩
      replace P_p := rblk_below P_p hb
      replace kb := bt kb hb
      clear hb
      have c_p0 := rblk_cell P_p 0
      have c_p1 := rblk_cell P_p 1
      have c_p2 := rblk_cell P_p 2
      have c_p3 := rblk_cell P_p 3
      have c_p4 := rblk_cell P_p 4
      have c_p5 := rblk_cell P_p 5
      go_wp2_with fail
      clear c_p0 c_p1 c_p2 c_p3 c_p4 c_p5
      refine (HY.out _ (RR.out _ kb).2).mono ?_
      rintro e W3 ⟨rfl, hb⟩
      replace P_p := rblk_below P_p hb
      replace kb := bt kb hb
      clear hb
      go_wp2
      go_ret
      exact ⟨rfl, kb⟩
    | true =>
      go_enter Tryz.func103, Tryz.ntmps103
      go_wp2_with fail
      have kb := ba1 w (.cells (r6 x y a b) 31)
      have P_p := heap_alloc_new w (.cells (r6 x y a b) 31)
      generalize w.alloc (.cells (r6 x y a b) 31) = W1 at kb P_p ⊢
      refine (HX.out _ (RR.out _ kb).1).mono ?_
      rintro e W2 ⟨rfl, hb⟩
      replace P_p := rblk_below P_p hb
      replace kb := bt kb hb
      clear hb
      have c_p0 := rblk_cell P_p 0
      have c_p1 := rblk_cell P_p 1
      have c_p2 := rblk_cell P_p 2
      have c_p3 := rblk_cell P_p 3
      have c_p4 := rblk_cell P_p 4
      have c_p5 := rblk_cell P_p 5
      go_wp2_with fail
      clear c_p0 c_p1 c_p2 c_p3 c_p4 c_p5
      refine (HY.out _ (RR.out _ kb).2).mono ?_
      rintro e W3 ⟨rfl, hb⟩
      replace P_p := rblk_below P_p hb
      replace kb := bt kb hb
      clear hb
      go_wp2
      go_ret
      exact ⟨rfl, kb⟩
theorem spec_pointAt (x y : Int) (w : World) (h0 : -9223372036854775808 ≤ x ∧ x ≤ 9223372036854775807) (h1 : -9223372036854775808 ≤ y ∧ y ≤ 9223372036854775807) :
    Calls Tryz.prog 109 #[.int .i64 x, .int .i64 y] w (MadeP w.heap.size (rfi x) (rfi y) w) := by
  have HX := Lib.hid (fun W => show Calls Tryz.prog 119 #[.int .i64 x] W (MadeQ W.heap.size (rfi x) W) from (spec_rfi x W h0).mono fun e w' k => MadeR.toQ (x := rfi x) k)
  have HY := Lib.hid (fun W => show Calls Tryz.prog 119 #[.int .i64 y] W (MadeQ W.heap.size (rfi y) W) from (spec_rfi y W h1).mono fun e w' k => MadeR.toQ (x := rfi y) k)
  clear h0 h1
  generalize rfi x = X at HX ⊢
  generalize rfi y = Y at HY ⊢
  go_enter Tryz.func109, Tryz.ntmps109
  go_wp2_with fail
  have kb := ba1 w (.cells z6 31)
  have P_o := heap_alloc_new w (.cells z6 31)
  generalize w.alloc (.cells z6 31) = W1 at kb P_o ⊢
  obtain ⟨rr, hrr⟩ : ∃ r, r = w.heap.size := ⟨_, rfl⟩
  rw [← hrr] at P_o ⊢
  have hrr3 : w.heap.size ≤ rr := by omega
  clear hrr
  have hlt0 := rblk_lt P_o
  have hle0 := kb.size
  refine (HX.out _).mono ?_
  rintro e W2 ⟨a1, rfl, hc1, hc2, o1, hap1, hb⟩
  replace P_o := rblk_below P_o hb
  replace kb := bt kb hb
  have hz1 := hb.size
  clear hb
  go_wp2_with fail
  refine (HY.out _).mono ?_
  rintro e W3 ⟨b1, rfl, hc3, hc4, o2, hap2, hb⟩
  replace P_o := rblk_below P_o hb
  replace o1 := o1.below hb
  replace kb := bt kb hb
  have hz2 := hb.size
  clear hb
  have c_o0 := rblk_cell P_o 0
  have c_o1 := rblk_cell P_o 1
  have c_o2 := rblk_cell P_o 2
  have c_o3 := rblk_cell P_o 3
  have c_o4 := rblk_cell P_o 4
  have c_o5 := rblk_cell P_o 5
  have f_o0 := rblk_free P_o 0
  have f_o1 := rblk_free P_o 1
  have f_o2 := rblk_free P_o 2
  have f_o3 := rblk_free P_o 3
  have f_o4 := rblk_free P_o 4
  have f_o5 := rblk_free P_o 5
  go_wp2
  exact bodyPost_ret (v := .agg (r6 X Y a1 b1)) (by simp [results, Tryz.results109, go_sem, c_o0, c_o1, c_o2, c_o3, c_o4, c_o5]) rfl ⟨a1, b1, rfl, ⟨hc1, hc2, hc3, hc4⟩, owns_end6 (Owns.app (o1.wide (Nat.le_refl _) hz2) (o2.wide hz1 (Nat.le_refl _))) (.inl hlt0) hle0 (Nat.le_refl _) _ _ _ _ _ _, Aparts.app hap1 hap2 o1 o2, below_put6 kb hrr3 _ _ _ _ _ _⟩
theorem l05_yes (lo hi : Nat) (x y : R3) (a b : Ad) (w : World) (hxl : x.l.length ≤ 9223372036854775807) (hxm : x.m.length ≤ 9223372036854775807) (hyl : y.l.length ≤ 9223372036854775807) (hym : y.m.length ≤ 9223372036854775807) (ok : (okx x && okx y) = true) (hhi : hi ≤ w.heap.size) (hcs : x.l.length ≤ a.c ∧ x.m.length ≤ a.d ∧ y.l.length ≤ b.c ∧ y.m.length ≤ b.d) (h0 : Owns lo hi w (rows x a ++ rows y b)) (hap : Aparts (rows x a ++ rows y b)) :
    Calls Tryz.prog 172 #[.agg (r6 x y a b)] w (MadeP lo x y w) := by
  have HV := Lib.hid (fun W h => spec_validP x y a b W hxl hxm hyl hym h)
  rw [ok] at HV
  have RR : Hid (∀ W, Below w.heap.size w W → Rds W (rows x a ++ rows y b)) := Lib.hid (fun W hb => h0.rds.below hb)
  have h : Hid (∀ W, Below w.heap.size w W → Owns lo hi W (rows x a ++ rows y b)) := Lib.hid (fun W hb => h0.below hb)
  have hhj := hhi
  clear ok h0 hxl hxm hyl hym
  go_enter Tryz.func172, Tryz.ntmps172
  go_wp2_with fail
  have kb := ba2 w (.cells (r6 x y a b) 31) (.cells z6 31)
  obtain ⟨P_p, P_o⟩ := blocks2 w (.cells (r6 x y a b) 31) (.cells z6 31)
  generalize (w.alloc (.cells (r6 x y a b) 31)).alloc (.cells z6 31) = W1 at kb P_p P_o ⊢
  obtain ⟨rr, hrr⟩ : ∃ r, r = w.heap.size + 1 := ⟨_, rfl⟩
  rw [← hrr] at P_o ⊢
  have hrr3 : w.heap.size ≤ rr := by omega
  have hrr4 : hi ≤ rr := by omega
  clear hhi
  have nr_p : rr ≠ w.heap.size := by omega
  clear hrr
  refine (HV.out _ (RR.out _ kb)).mono ?_
  rintro e W2 ⟨rfl, hb⟩
  replace P_p := rblk_below P_p hb
  replace P_o := rblk_below P_o hb
  replace kb := bt kb hb
  clear hb
  have c_p0 := rblk_cell P_p 0
  have c_p1 := rblk_cell P_p 1
  have c_p2 := rblk_cell P_p 2
  have c_p3 := rblk_cell P_p 3
  have c_p4 := rblk_cell P_p 4
  have c_p5 := rblk_cell P_p 5
  have c_o0 := rblk_cell P_o 0
  have c_o1 := rblk_cell P_o 1
  have c_o2 := rblk_cell P_o 2
  have c_o3 := rblk_cell P_o 3
  have c_o4 := rblk_cell P_o 4
  have c_o5 := rblk_cell P_o 5
  have f_o0 := rblk_free P_o 0
  have f_o1 := rblk_free P_o 1
  have f_o2 := rblk_free P_o 2
  have f_o3 := rblk_free P_o 3
  have f_o4 := rblk_free P_o 4
  have f_o5 := rblk_free P_o 5
  go_wp2
  exact bodyPost_ret (v := .agg (r6 x y a b)) (by simp [results, Tryz.results172, go_sem, c_o0, c_o1, c_o2, c_o3, c_o4, c_o5]) rfl ⟨a, b, rfl, hcs, owns_old6 (h.out _ kb) hrr4 (below_put6 kb hrr3 _ _ _ _ _ _).size, hap, below_put6 kb hrr3 _ _ _ _ _ _⟩
theorem l05_no (lo : Nat) (x y : R3) (a b : Ad) (w : World) (hxl : x.l.length ≤ 9223372036854775807) (hxm : x.m.length ≤ 9223372036854775807) (hyl : y.l.length ≤ 9223372036854775807) (hym : y.m.length ≤ 9223372036854775807) (ok : (okx x && okx y) = false) (h0 : Rds w (rows x a ++ rows y b)) :
    Calls Tryz.prog 172 #[.agg (r6 x y a b)] w (MadeP lo noR noR w) := by
  have HV := Lib.hid (fun W h => spec_validP x y a b W hxl hxm hyl hym h)
  rw [ok] at HV
  have RR : Hid (∀ W, Below w.heap.size w W → Rds W (rows x a ++ rows y b)) := Lib.hid (fun W hb => h0.below hb)
  clear ok h0 hxl hxm hyl hym
  go_enter Tryz.func172, Tryz.ntmps172
  go_wp2_with fail
  have kb := ba2 w (.cells (r6 x y a b) 31) (.cells z6 31)
  obtain ⟨P_p, P_o⟩ := blocks2 w (.cells (r6 x y a b) 31) (.cells z6 31)
  generalize (w.alloc (.cells (r6 x y a b) 31)).alloc (.cells z6 31) = W1 at kb P_p P_o ⊢
  obtain ⟨rr, hrr⟩ : ∃ r, r = w.heap.size + 1 := ⟨_, rfl⟩
  rw [← hrr] at P_o ⊢
  have hrr3 : w.heap.size ≤ rr := by omega
  have nr_p : rr ≠ w.heap.size := by omega
  clear hrr
  refine (HV.out _ (RR.out _ kb)).mono ?_
  rintro e W2 ⟨rfl, hb⟩
  replace P_p := rblk_below P_p hb
  replace P_o := rblk_below P_o hb
  replace kb := bt kb hb
  clear hb
  have c_o0 := rblk_cell P_o 0
  have c_o1 := rblk_cell P_o 1
  have c_o2 := rblk_cell P_o 2
  have c_o3 := rblk_cell P_o 3
  have c_o4 := rblk_cell P_o 4
  have c_o5 := rblk_cell P_o 5
  have f_o0 := rblk_free P_o 0
  have f_o1 := rblk_free P_o 1
  have f_o2 := rblk_free P_o 2
  have f_o3 := rblk_free P_o 3
  have f_o4 := rblk_free P_o 4
  have f_o5 := rblk_free P_o 5
  go_wp2
  exact bodyPost_ret (v := .agg z6) (by simp [results, Tryz.results172, go_sem, c_o0, c_o1, c_o2, c_o3, c_o4, c_o5]) rfl (none_point _ _ _ (below_put6 kb hrr3 _ _ _ _ _ _))
theorem l05_any (lo hi : Nat) (x y : Option Rat) (a b : Ad) (w : World) (hx : FitO x) (hy : FitO y) (hhi : hi ≤ w.heap.size) (hcs : (ofO x).l.length ≤ a.c ∧ (ofO x).m.length ≤ a.d ∧ (ofO y).l.length ≤ b.c ∧ (ofO y).m.length ≤ b.d) (h0 : Owns lo hi w (rows (ofO x) a ++ rows (ofO y) b)) (hap : Aparts (rows (ofO x) a ++ rows (ofO y) b)) :
    Calls Tryz.prog 172 #[.agg (r6 (ofO x) (ofO y) a b)] w (MadeP lo (ofO (bothX x y)) (ofO (bothY x y)) w) := by
  have lx := hx.short; have ly := hy.short
  have k1 : (ofO x).l.length ≤ 9223372036854775807 := by have := lx.1; omega
  have k2 : (ofO x).m.length ≤ 9223372036854775807 := by have := lx.2; omega
  have k3 : (ofO y).l.length ≤ 9223372036854775807 := by have := ly.1; omega
  have k4 : (ofO y).m.length ≤ 9223372036854775807 := by have := ly.2; omega
  have ok : (okx (ofO x) && okx (ofO y)) = (x.isSome && y.isSome) := by rw [okx_ofO hx, okx_ofO hy]
  cases x with
  | none => rw [(both_n1 y).1, (both_n1 y).2]; exact l05_no lo noR (ofO y) a b w k1 k2 k3 k4 ok h0.rds
  | some r =>
    cases y with
    | none => rw [(both_n2 (some r)).1, (both_n2 (some r)).2]; exact l05_no lo (ofO (some r)) noR a b w k1 k2 k3 k4 ok h0.rds
    | some s => exact l05_yes lo hi (ofO (some r)) (ofO (some s)) a b w k1 k2 k3 k4 ok hhi hcs h0 hap
theorem spec_subP (x y u v : R3) (a b c d : Ad) (w : World) (hxl : x.l.length ≤ 9223372036854775807) (hxm : x.m.length ≤ 9223372036854775807) (hyl : y.l.length ≤ 9223372036854775807) (hym : y.m.length ≤ 9223372036854775807) (hul : u.l.length ≤ 9223372036854775807) (hum : u.m.length ≤ 9223372036854775807) (hvl : v.l.length ≤ 9223372036854775807) (hvm : v.m.length ≤ 9223372036854775807) (kx : x.l.length ≤ a.c ∧ x.m.length ≤ a.d) (ky : y.l.length ≤ b.c ∧ y.m.length ≤ b.d) (ku : u.l.length ≤ c.c ∧ u.m.length ≤ c.d) (kv : v.l.length ≤ d.c ∧ v.m.length ≤ d.d) (hp : Rds w (rows x a ++ rows y b)) (hq : Rds w (rows u c ++ rows v d)) :
    Calls Tryz.prog 164 #[.agg (r6 x y a b), .agg (r6 u v c d)] w (MadeP w.heap.size (ofO (bothX (binQ subQ (valx x) (valx u)) (binQ subQ (valx y) (valx v)))) (ofO (bothY (binQ subQ (valx x) (valx u)) (binQ subQ (valx y) (valx v)))) w) := by
  have HX := Lib.hid (fun W h h' => spec_rsub_r x u a c W hxl hxm hul hum kx ku h h')
  have HY := Lib.hid (fun W h h' => spec_rsub_r y v b d W hyl hym hvl hvm ky kv h h')
  have HP := Lib.hid (fun lo hi a b W hh hc hO hA => l05_any lo hi (binQ subQ (valx x) (valx u)) (binQ subQ (valx y) (valx v)) a b W (subO_fit _ _) (subO_fit _ _) hh hc hO hA)
  have RR : Hid (∀ W, Below w.heap.size w W → Rds W (rows x a) ∧ Rds W (rows y b) ∧ Rds W (rows u c) ∧ Rds W (rows v d)) := Lib.hid (fun W hb => ⟨(rds_l hp).below hb, (rds_r hp).below hb, (rds_l hq).below hb, (rds_r hq).below hb⟩)
  clear hp hq hxl hxm hyl hym hul hum hvl hvm kx ky ku kv
  generalize ofO (bothX (binQ subQ (valx x) (valx u)) (binQ subQ (valx y) (valx v))) = U at HP ⊢
  generalize ofO (bothY (binQ subQ (valx x) (valx u)) (binQ subQ (valx y) (valx v))) = V at HP ⊢
  generalize ofO (binQ subQ (valx x) (valx u)) = x1 at HX HP
  generalize ofO (binQ subQ (valx y) (valx v)) = y1 at HY HP
  go_enter Tryz.func164, Tryz.ntmps164
  go_wp2_with fail
  have kb := ba3 w (.cells (r6 x y a b) 31) (.cells (r6 u v c d) 31) (.cells z6 31)
  obtain ⟨P_p, P_q, P_o⟩ := blocks3 w (.cells (r6 x y a b) 31) (.cells (r6 u v c d) 31) (.cells z6 31)
  generalize ((w.alloc (.cells (r6 x y a b) 31)).alloc (.cells (r6 u v c d) 31)).alloc (.cells z6 31) = W1 at kb P_p P_q P_o ⊢
  obtain ⟨rr, hrr⟩ : ∃ r, r = w.heap.size + 1 + 1 := ⟨_, rfl⟩
  rw [← hrr] at P_o ⊢
  have hrr3 : w.heap.size ≤ rr := by omega
  have nr_p : rr ≠ w.heap.size := by omega
  have nr_q : rr ≠ w.heap.size + 1 := by omega
  clear hrr
  have hlt0 := rblk_lt P_o
  have hle0 := kb.size
  have SB : Hid (∀ w', Keep6 W1 w' rr → (w'.cell? ⟨w.heap.size, 0, none⟩ = some (.bool x.p) ∧ w'.cell? ⟨w.heap.size, 1, none⟩ = some (.slice a.A x.l.length a.c) ∧ w'.cell? ⟨w.heap.size, 2, none⟩ = some (.slice a.D x.m.length a.d) ∧ w'.cell? ⟨w.heap.size, 3, none⟩ = some (.bool y.p) ∧ w'.cell? ⟨w.heap.size, 4, none⟩ = some (.slice b.A y.l.length b.c) ∧ w'.cell? ⟨w.heap.size, 5, none⟩ = some (.slice b.D y.m.length b.d) ∧ w'.cell? ⟨w.heap.size + 1, 0, none⟩ = some (.bool u.p) ∧ w'.cell? ⟨w.heap.size + 1, 1, none⟩ = some (.slice c.A u.l.length c.c) ∧ w'.cell? ⟨w.heap.size + 1, 2, none⟩ = some (.slice c.D u.m.length c.d) ∧ w'.cell? ⟨w.heap.size + 1, 3, none⟩ = some (.bool v.p) ∧ w'.cell? ⟨w.heap.size + 1, 4, none⟩ = some (.slice d.A v.l.length d.c) ∧ w'.cell? ⟨w.heap.size + 1, 5, none⟩ = some (.slice d.D v.m.length d.d) ∧ Keep6 W1 w' rr)) := Lib.hid (fun w' hK => ⟨rblk_cell (hK.block P_p nr_p) 0, rblk_cell (hK.block P_p nr_p) 1, rblk_cell (hK.block P_p nr_p) 2, rblk_cell (hK.block P_p nr_p) 3, rblk_cell (hK.block P_p nr_p) 4, rblk_cell (hK.block P_p nr_p) 5, rblk_cell (hK.block P_q nr_q) 0, rblk_cell (hK.block P_q nr_q) 1, rblk_cell (hK.block P_q nr_q) 2, rblk_cell (hK.block P_q nr_q) 3, rblk_cell (hK.block P_q nr_q) 4, rblk_cell (hK.block P_q nr_q) 5, hK⟩)
  have KW := Lib.hid kb
  have KST := Keep6.start P_o
  clear kb
  go_region_held3 (fun w' => w'.cell? ⟨w.heap.size, 0, none⟩ = some (.bool x.p) ∧ w'.cell? ⟨w.heap.size, 1, none⟩ = some (.slice a.A x.l.length a.c) ∧ w'.cell? ⟨w.heap.size, 2, none⟩ = some (.slice a.D x.m.length a.d) ∧ w'.cell? ⟨w.heap.size, 3, none⟩ = some (.bool y.p) ∧ w'.cell? ⟨w.heap.size, 4, none⟩ = some (.slice b.A y.l.length b.c) ∧ w'.cell? ⟨w.heap.size, 5, none⟩ = some (.slice b.D y.m.length b.d) ∧ w'.cell? ⟨w.heap.size + 1, 0, none⟩ = some (.bool u.p) ∧ w'.cell? ⟨w.heap.size + 1, 1, none⟩ = some (.slice c.A u.l.length c.c) ∧ w'.cell? ⟨w.heap.size + 1, 2, none⟩ = some (.slice c.D u.m.length c.d) ∧ w'.cell? ⟨w.heap.size + 1, 3, none⟩ = some (.bool v.p) ∧ w'.cell? ⟨w.heap.size + 1, 4, none⟩ = some (.slice d.A v.l.length d.c) ∧ w'.cell? ⟨w.heap.size + 1, 5, none⟩ = some (.slice d.D v.m.length d.d) ∧ Keep6 W1 w' rr)
    (first | (with_reducible exact SB.out _ KST.drew) | (with_reducible exact SB.out _ KST) | (go_split_ands; with_reducible refine SB.out _ ?_; with_reducible refine Keep6.put6 ?_ _ _ _ _ _ _; with_reducible assumption) | (with_reducible exact SB.out _ (KST.below (ba1 _ _))) | (with_reducible exact SB.out _ (KST.drew.below (ba1 _ _))) | (go_split_ands; with_reducible exact SB.out _ (Keep6.below (by assumption : Keep6 W1 _ rr) hb)) | (go_split_ands; with_reducible exact SB.out _ (Keep6.below (by assumption : Keep6 W1 _ rr) (ba1 _ _))))
    (first | (go_at_call 102; go_split_ands; ((with_reducible refine (HX.out _ (RR.out _ (Keep6.base (by assumption : Keep6 W1 _ rr) KW.out hrr3)).1 (RR.out _ (Keep6.base (by assumption : Keep6 W1 _ rr) KW.out hrr3)).2.2.1).mono ?_); rintro e Wn1_0 ⟨a1, rfl, hc1, hc2, o1, hap1, hb⟩; have hz1 := hb.size)) | (go_at_call 102; go_split_ands; ((with_reducible refine (HY.out _ (RR.out _ (Keep6.base (by assumption : Keep6 W1 _ rr) KW.out hrr3)).2.1 (RR.out _ (Keep6.base (by assumption : Keep6 W1 _ rr) KW.out hrr3)).2.2.2).mono ?_); rintro e Wn1_1 ⟨b1, rfl, hc3, hc4, o2, hap2, hb⟩; have hz2 := hb.size; (first | replace o1 := o1.below hb | replace o1 := (Owns.drew o1).below hb | replace o1 := (o1.below (ba1 _ _)).below hb | replace o1 := (Owns.drew (o1.below (ba1 _ _))).below hb))) | (go_at_call 172; go_split_ands; ((with_reducible refine (HP.out _ _ _ _ _ (Nat.le_refl _) ⟨hc1, hc2, hc3, hc4⟩ (Owns.app (o1.wide (Nat.le_refl _) hz2) (o2.wide hz1 (Nat.le_refl _))) (Aparts.app hap1 hap2 o1 o2)).mono ?_); rintro e Wn1_2 ⟨a3, b3, rfl, hcs, o3, hap3, hb⟩; have KL := Keep6.below (by assumption : Keep6 W1 _ rr) hb; obtain ⟨u0, u1, u2, u3, u4, u5, t0, t1, t2, t3, t4, t5, t6, t7, t8, t9, t10, t11⟩ := KL.cells)))
  all_goals
    have hfin := (‹_ ∧ _ ∧ _ ∧ _ ∧ _ ∧ _ ∧ _ ∧ _ ∧ _ ∧ _ ∧ _ ∧ _ ∧ Keep6 W1 _ rr›).2.2.2.2.2.2.2.2.2.2.2.2
    go_wp2
    exact bodyPost_ret (v := .agg (r6 U V a3 b3)) (by simp [results, Tryz.results164, go_sem, t0, t1, t2, t3, t4, t5]) rfl ⟨a3, b3, rfl, hcs, owns_end6 o3 (.inl hlt0) hle0 (Nat.le_refl _) _ _ _ _ _ _, hap3, hfin.base KW.out hrr3⟩
theorem spec_crossP (x y u v : R3) (a b c d : Ad) (w : World) (hxl : x.l.length ≤ 9223372036854775807) (hxm : x.m.length ≤ 9223372036854775807) (hyl : y.l.length ≤ 9223372036854775807) (hym : y.m.length ≤ 9223372036854775807) (hul : u.l.length ≤ 9223372036854775807) (hum : u.m.length ≤ 9223372036854775807) (hvl : v.l.length ≤ 9223372036854775807) (hvm : v.m.length ≤ 9223372036854775807) (hp : Rds w (rows x a ++ rows y b)) (hq : Rds w (rows u c ++ rows v d)) :
    Calls Tryz.prog 163 #[.agg (r6 x y a b), .agg (r6 u v c d)] w (MadeQ w.heap.size (ofO (binQ subQ (binQ mulQ (valx x) (valx v)) (binQ mulQ (valx y) (valx u)))) w) := by
  have HX := Lib.hid (fun W h h' => spec_rmul_r x v a d W hxl hxm hvl hvm h h')
  have HY := Lib.hid (fun W h h' => spec_rmul_r y u b c W hyl hym hul hum h h')
  have lX := (mulO_fit (valx x) (valx v)).short
  have lY := (mulO_fit (valx y) (valx u)).short
  have HP := Lib.hid (fun a b W k k' h h' => spec_rsub_r (ofO (binQ mulQ (valx x) (valx v))) (ofO (binQ mulQ (valx y) (valx u))) a b W (by have := lX.1; omega) (by have := lX.2; omega) (by have := lY.1; omega) (by have := lY.2; omega) k k' h h')
  rw [valx_ofO (mulO_fit _ _), valx_ofO (mulO_fit _ _)] at HP
  clear lX lY
  have RR : Hid (∀ W, Below w.heap.size w W → Rds W (rows x a) ∧ Rds W (rows y b) ∧ Rds W (rows u c) ∧ Rds W (rows v d)) := Lib.hid (fun W hb => ⟨(rds_l hp).below hb, (rds_r hp).below hb, (rds_l hq).below hb, (rds_r hq).below hb⟩)
  clear hp hq hxl hxm hyl hym hul hum hvl hvm
  generalize ofO (binQ subQ (binQ mulQ (valx x) (valx v)) (binQ mulQ (valx y) (valx u))) = U at HP ⊢
  generalize ofO (binQ mulQ (valx x) (valx v)) = x1 at HX HP
  generalize ofO (binQ mulQ (valx y) (valx u)) = y1 at HY HP
  go_enter Tryz.func163, Tryz.ntmps163
  go_wp2_with fail
  have kb := ba3 w (.cells (r6 x y a b) 31) (.cells (r6 u v c d) 31) (.cells z3 29)
  obtain ⟨P_p, P_q, P_o⟩ := blocks3 w (.cells (r6 x y a b) 31) (.cells (r6 u v c d) 31) (.cells z3 29)
  generalize ((w.alloc (.cells (r6 x y a b) 31)).alloc (.cells (r6 u v c d) 31)).alloc (.cells z3 29) = W1 at kb P_p P_q P_o ⊢
  obtain ⟨rr, hrr⟩ : ∃ r, r = w.heap.size + 1 + 1 := ⟨_, rfl⟩
  rw [← hrr] at P_o ⊢
  have hrr3 : w.heap.size ≤ rr := by omega
  have nr_p : rr ≠ w.heap.size := by omega
  have nr_q : rr ≠ w.heap.size + 1 := by omega
  clear hrr
  have hlt0 := rblk_lt P_o
  have hle0 := kb.size
  have SB : Hid (∀ w', Keep3 W1 w' rr → (w'.cell? ⟨w.heap.size, 0, none⟩ = some (.bool x.p) ∧ w'.cell? ⟨w.heap.size, 1, none⟩ = some (.slice a.A x.l.length a.c) ∧ w'.cell? ⟨w.heap.size, 2, none⟩ = some (.slice a.D x.m.length a.d) ∧ w'.cell? ⟨w.heap.size, 3, none⟩ = some (.bool y.p) ∧ w'.cell? ⟨w.heap.size, 4, none⟩ = some (.slice b.A y.l.length b.c) ∧ w'.cell? ⟨w.heap.size, 5, none⟩ = some (.slice b.D y.m.length b.d) ∧ w'.cell? ⟨w.heap.size + 1, 0, none⟩ = some (.bool u.p) ∧ w'.cell? ⟨w.heap.size + 1, 1, none⟩ = some (.slice c.A u.l.length c.c) ∧ w'.cell? ⟨w.heap.size + 1, 2, none⟩ = some (.slice c.D u.m.length c.d) ∧ w'.cell? ⟨w.heap.size + 1, 3, none⟩ = some (.bool v.p) ∧ w'.cell? ⟨w.heap.size + 1, 4, none⟩ = some (.slice d.A v.l.length d.c) ∧ w'.cell? ⟨w.heap.size + 1, 5, none⟩ = some (.slice d.D v.m.length d.d) ∧ Keep3 W1 w' rr)) := Lib.hid (fun w' hK => ⟨rblk_cell (hK.block P_p nr_p) 0, rblk_cell (hK.block P_p nr_p) 1, rblk_cell (hK.block P_p nr_p) 2, rblk_cell (hK.block P_p nr_p) 3, rblk_cell (hK.block P_p nr_p) 4, rblk_cell (hK.block P_p nr_p) 5, rblk_cell (hK.block P_q nr_q) 0, rblk_cell (hK.block P_q nr_q) 1, rblk_cell (hK.block P_q nr_q) 2, rblk_cell (hK.block P_q nr_q) 3, rblk_cell (hK.block P_q nr_q) 4, rblk_cell (hK.block P_q nr_q) 5, hK⟩)
  have KW := Lib.hid kb
  have KST := Keep3.start P_o
  clear kb
  go_region_held3 (fun w' => w'.cell? ⟨w.heap.size, 0, none⟩ = some (.bool x.p) ∧ w'.cell? ⟨w.heap.size, 1, none⟩ = some (.slice a.A x.l.length a.c) ∧ w'.cell? ⟨w.heap.size, 2, none⟩ = some (.slice a.D x.m.length a.d) ∧ w'.cell? ⟨w.heap.size, 3, none⟩ = some (.bool y.p) ∧ w'.cell? ⟨w.heap.size, 4, none⟩ = some (.slice b.A y.l.length b.c) ∧ w'.cell? ⟨w.heap.size, 5, none⟩ = some (.slice b.D y.m.length b.d) ∧ w'.cell? ⟨w.heap.size + 1, 0, none⟩ = some (.bool u.p) ∧ w'.cell? ⟨w.heap.size + 1, 1, none⟩ = some (.slice c.A u.l.length c.c) ∧ w'.cell? ⟨w.heap.size + 1, 2, none⟩ = some (.slice c.D u.m.length c.d) ∧ w'.cell? ⟨w.heap.size + 1, 3, none⟩ = some (.bool v.p) ∧ w'.cell? ⟨w.heap.size + 1, 4, none⟩ = some (.slice d.A v.l.length d.c) ∧ w'.cell? ⟨w.heap.size + 1, 5, none⟩ = some (.slice d.D v.m.length d.d) ∧ Keep3 W1 w' rr)
    (first | (with_reducible exact SB.out _ KST.drew) | (with_reducible exact SB.out _ KST) | (go_split_ands; with_reducible refine SB.out _ ?_; with_reducible refine Keep3.put3 ?_ _ _ _; with_reducible assumption) | (with_reducible exact SB.out _ (KST.below (ba1 _ _))) | (with_reducible exact SB.out _ (KST.drew.below (ba1 _ _))) | (go_split_ands; with_reducible exact SB.out _ (Keep3.below (by assumption : Keep3 W1 _ rr) hb)) | (go_split_ands; with_reducible exact SB.out _ (Keep3.below (by assumption : Keep3 W1 _ rr) (ba1 _ _))))
    (first | (go_at_call 114; go_split_ands; ((with_reducible refine (HX.out _ (RR.out _ (Keep3.base (by assumption : Keep3 W1 _ rr) KW.out hrr3)).1 (RR.out _ (Keep3.base (by assumption : Keep3 W1 _ rr) KW.out hrr3)).2.2.2).mono ?_); rintro e Wn1_0 ⟨a1, rfl, hc1, hc2, o1, hap1, hb⟩; have hz1 := hb.size)) | (go_at_call 114; go_split_ands; ((with_reducible refine (HY.out _ (RR.out _ (Keep3.base (by assumption : Keep3 W1 _ rr) KW.out hrr3)).2.1 (RR.out _ (Keep3.base (by assumption : Keep3 W1 _ rr) KW.out hrr3)).2.2.1).mono ?_); rintro e Wn1_1 ⟨b1, rfl, hc3, hc4, o2, hap2, hb⟩; have hz2 := hb.size; (first | replace o1 := o1.below hb | replace o1 := (Owns.drew o1).below hb | replace o1 := (o1.below (ba1 _ _)).below hb | replace o1 := (Owns.drew (o1.below (ba1 _ _))).below hb))) | (go_at_call 102; go_split_ands; ((with_reducible refine (HP.out _ _ _ ⟨hc1, hc2⟩ ⟨hc3, hc4⟩ (by first | exact o1.rds | exact (Owns.drew o1).rds | exact (o1.below (ba1 _ _)).rds | exact (Owns.drew (o1.below (ba1 _ _))).rds) (by first | exact o2.rds | exact (Owns.drew o2).rds | exact (o2.below (ba1 _ _)).rds | exact (Owns.drew (o2.below (ba1 _ _))).rds)).mono ?_); rintro e Wn1_2 ⟨a3, rfl, hc5, hc6, o3, hap3, hb⟩; have hz0 := Keep3.size (by assumption : Keep3 W1 _ rr); have KL := Keep3.below (by assumption : Keep3 W1 _ rr) hb; obtain ⟨u0, u1, u2, t0, t1, t2, t3, t4, t5⟩ := KL.cells)))
  all_goals
    have hfin := (‹_ ∧ _ ∧ _ ∧ _ ∧ _ ∧ _ ∧ _ ∧ _ ∧ _ ∧ _ ∧ _ ∧ _ ∧ Keep3 W1 _ rr›).2.2.2.2.2.2.2.2.2.2.2.2
    go_wp2
    exact bodyPost_ret (v := .agg (r3 U a3)) (by simp [results, Tryz.results163, go_sem, t0, t1, t2]) rfl ⟨a3, rfl, hc5, hc6, owns_end3 o3 (.inl (Nat.lt_of_lt_of_le hlt0 hz0)) (Nat.le_trans hle0 hz0) (Nat.le_refl _) _ _ _, hap3, hfin.base KW.out hrr3⟩
end Go.Proofs.YtppdholccpgcpaaGreat
