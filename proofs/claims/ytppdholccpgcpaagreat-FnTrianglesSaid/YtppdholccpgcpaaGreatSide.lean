/-
  The program's SideOf for a proper triangle and a valid point.
-/
import Derived.Test.YtppdholccpgcpaaGreatTriW0
import Derived.Test.YtppdholccpgcpaaGreatTriW1
import Derived.Test.YtppdholccpgcpaaGreatTriW2
import Derived.Test.YtppdholccpgcpaaGreatLawP
import Derived.Test.YtppdholccpgcpaaGreatTk
namespace Go.Proofs.YtppdholccpgcpaaGreat
open Go.ChangeShapes Go.WideShapes Go.ChangeAt Go.RowKit
open Go.ChangeMaps (open_string shut_string)
set_option linter.unusedVariables false
set_option linter.unusedSimpArgs false
set_option maxRecDepth 4000
attribute [local go_sem ↓] Go.wp_at_zero Go.wp_at_succ
theorem m_pos' (b : Rat) : 0 < (ofO (some b)).m.length := by
  have h : nd b.den ≠ [] := nd_pos b.den_nz
  show 0 < (nd b.den).length
  exact List.length_pos_iff.2 h
def one3 {α : Type} (a b c : α) : Nat → α
  | 0 => a
  | 1 => b
  | _ => c
theorem one3_all {α : Type} {a b c : α} {Pr : α → Nat → Prop} (h0 : Pr a 0) (h1 : Pr b 1) (h2 : Pr c 2) (j : Nat) (hj : j < 3) : Pr (one3 a b c j) j := by
  match j, hj with
  | 0, _ => exact h0
  | 1, _ => exact h1
  | 2, _ => exact h2
def lst (s0 s1 s2 : Int) : Nat → Int
  | 0 => 1
  | n + 1 => min (lst s0 s1 s2 n) (one3 s0 s1 s2 n)
theorem lst_3 (s0 s1 s2 : Int) : lst s0 s1 s2 3 = min 1 (min s0 (min s1 s2)) := by
  show min (min (min 1 s0) s1) s2 = _
  omega
set_option maxHeartbeats 4000000 in
theorem side_m (p q r u : PV) (w : World) (ok3 : TriOk w p q r) (nu : NiceP u) (d0 d1 d2 : Rat) (e0 : aV p q u = some d0) (e1 : aV q r u = some d1) (e2 : aV r p u = some d2) (hU : Rds w (prow u)) :
    Calls Tryz.prog 81 #[.agg #[.bool p.x.p, .slice p.a.A p.x.l.length p.a.c, .slice p.a.D p.x.m.length p.a.d, .bool p.y.p, .slice p.b.A p.y.l.length p.b.c, .slice p.b.D p.y.m.length p.b.d, .bool q.x.p, .slice q.a.A q.x.l.length q.a.c, .slice q.a.D q.x.m.length q.a.d, .bool q.y.p, .slice q.b.A q.y.l.length q.b.c, .slice q.b.D q.y.m.length q.b.d, .bool r.x.p, .slice r.a.A r.x.l.length r.a.c, .slice r.a.D r.x.m.length r.a.d, .bool r.y.p, .slice r.b.A r.y.l.length r.b.c, .slice r.b.D r.y.m.length r.b.d], .agg #[.bool u.x.p, .slice u.a.A u.x.l.length u.a.c, .slice u.a.D u.x.m.length u.a.d, .bool u.y.p, .slice u.b.A u.y.l.length u.b.c, .slice u.b.D u.y.m.length u.b.d]] w (fun e w' => e = .returned (.int .i64 (min 1 (min (sgnO (some d0)) (min (sgnO (some d1)) (sgnO (some d2)))))) ∧ Below w.heap.size w w') := by
  have RT : Hid (∀ W, Below w.heap.size w W → TriOk W p q r) := Lib.hid (fun W hB => ok3.below hB)
  have RU : Hid (∀ W, Below w.heap.size w W → Rds W (prow u)) := Lib.hid (fun W hB => hU.below hB)
  have HI : Hid (∀ j : Nat, j < 3 → ∀ W, Below w.heap.size w W → Calls Tryz.prog 148 #[.agg #[.bool p.x.p, .slice p.a.A p.x.l.length p.a.c, .slice p.a.D p.x.m.length p.a.d, .bool p.y.p, .slice p.b.A p.y.l.length p.b.c, .slice p.b.D p.y.m.length p.b.d, .bool q.x.p, .slice q.a.A q.x.l.length q.a.c, .slice q.a.D q.x.m.length q.a.d, .bool q.y.p, .slice q.b.A q.y.l.length q.b.c, .slice q.b.D q.y.m.length q.b.d, .bool r.x.p, .slice r.a.A r.x.l.length r.a.c, .slice r.a.D r.x.m.length r.a.d, .bool r.y.p, .slice r.b.A r.y.l.length r.b.c, .slice r.b.D r.y.m.length r.b.d], .int .i64 (j : Int), .agg #[.bool u.x.p, .slice u.a.A u.x.l.length u.a.c, .slice u.a.D u.x.m.length u.a.d, .bool u.y.p, .slice u.b.A u.y.l.length u.b.c, .slice u.b.D u.y.m.length u.b.d]] W (MadeQ W.heap.size (ofO (some (one3 d0 d1 d2 j))) W)) := Lib.hid (fun j hj W hB => by
    have k0 := inward_0 p q r u W (RT.out W hB) nu (RU.out W hB)
    have k1 := inward_1 p q r u W (RT.out W hB) nu (RU.out W hB)
    have k2 := inward_2 p q r u W (RT.out W hB) nu (RU.out W hB)
    rw [e0] at k0
    rw [e1] at k1
    rw [e2] at k2
    exact one3_all (Pr := fun d j => Calls Tryz.prog 148 #[.agg #[.bool p.x.p, .slice p.a.A p.x.l.length p.a.c, .slice p.a.D p.x.m.length p.a.d, .bool p.y.p, .slice p.b.A p.y.l.length p.b.c, .slice p.b.D p.y.m.length p.b.d, .bool q.x.p, .slice q.a.A q.x.l.length q.a.c, .slice q.a.D q.x.m.length q.a.d, .bool q.y.p, .slice q.b.A q.y.l.length q.b.c, .slice q.b.D q.y.m.length q.b.d, .bool r.x.p, .slice r.a.A r.x.l.length r.a.c, .slice r.a.D r.x.m.length r.a.d, .bool r.y.p, .slice r.b.A r.y.l.length r.b.c, .slice r.b.D r.y.m.length r.b.d], .int .i64 (j : Int), .agg #[.bool u.x.p, .slice u.a.A u.x.l.length u.a.c, .slice u.a.D u.x.m.length u.a.d, .bool u.y.p, .slice u.b.A u.y.l.length u.b.c, .slice u.b.D u.y.m.length u.b.d]] W (MadeQ W.heap.size (ofO (some d)) W)) k0 k1 k2 j hj)
  have HL : Hid (∀ j : Nat, j < 3 → 0 < (ofO (some (one3 d0 d1 d2 j))).m.length ∧ (ofO (some (one3 d0 d1 d2 j))).m.length ≤ 9223372036854775807) := Lib.hid (one3_all (Pr := fun d _ => 0 < (ofO (some d)).m.length ∧ (ofO (some d)).m.length ≤ 9223372036854775807)
    ⟨m_pos' d0, by have h := aV_fit p q u; rw [e0] at h; exact Nat.le_trans h.len.2 (by omega)⟩ ⟨m_pos' d1, by have h := aV_fit q r u; rw [e1] at h; exact Nat.le_trans h.len.2 (by omega)⟩ ⟨m_pos' d2, by have h := aV_fit r p u; rw [e2] at h; exact Nat.le_trans h.len.2 (by omega)⟩)
  have HS : Hid (∀ j : Nat, j < 3 → ∀ (a : Ad) W, Rds W (rows (ofO (some (one3 d0 d1 d2 j))) a) → Calls Tryz.prog 72 #[.agg #[.bool (ofO (some (one3 d0 d1 d2 j))).p, .slice a.A (ofO (some (one3 d0 d1 d2 j))).l.length a.c, .slice a.D (ofO (some (one3 d0 d1 d2 j))).m.length a.d]] W (fun e w2 => e = .returned (.int .i64 (sgnO (some (one3 d0 d1 d2 j)))) ∧ Below W.heap.size W w2)) := Lib.hid (fun j hj a W h => sign_r (some (one3 d0 d1 d2 j)) a W (one3_all (Pr := fun d _ => FitO (some d)) (by have h := aV_fit p q u; rw [e0] at h; exact h) (by have h := aV_fit q r u; rw [e1] at h; exact h) (by have h := aV_fit r p u; rw [e2] at h; exact h) j hj) h)
  have E3 : Hid (∀ j : Nat, j < 3 → sgnO (some (one3 d0 d1 d2 j)) = one3 (sgnO (some d0)) (sgnO (some d1)) (sgnO (some d2)) j) := Lib.hid (one3_all (Pr := fun d j => sgnO (some d) = one3 (sgnO (some d0)) (sgnO (some d1)) (sgnO (some d2)) j) rfl rfl rfl)
  rw [← lst_3]
  generalize sgnO (some d0) = s0 at E3 ⊢
  generalize sgnO (some d1) = s1 at E3 ⊢
  generalize sgnO (some d2) = s2 at E3 ⊢
  generalize one3 d0 d1 d2 = dd at HI HL HS E3
  clear e0 e1 e2 ok3 hU nu
  unfold MadeQ at HI
  obtain ⟨P_t, P_u⟩ := blocks2 w (.cells #[.bool p.x.p, .slice p.a.A p.x.l.length p.a.c, .slice p.a.D p.x.m.length p.a.d, .bool p.y.p, .slice p.b.A p.y.l.length p.b.c, .slice p.b.D p.y.m.length p.b.d, .bool q.x.p, .slice q.a.A q.x.l.length q.a.c, .slice q.a.D q.x.m.length q.a.d, .bool q.y.p, .slice q.b.A q.y.l.length q.b.c, .slice q.b.D q.y.m.length q.b.d, .bool r.x.p, .slice r.a.A r.x.l.length r.a.c, .slice r.a.D r.x.m.length r.a.d, .bool r.y.p, .slice r.b.A r.y.l.length r.b.c, .slice r.b.D r.y.m.length r.b.d] 81) (.cells #[.bool u.x.p, .slice u.a.A u.x.l.length u.a.c, .slice u.a.D u.x.m.length u.a.d, .bool u.y.p, .slice u.b.A u.y.l.length u.b.c, .slice u.b.D u.y.m.length u.b.d] 31)
  have kb := ba2 w (.cells #[.bool p.x.p, .slice p.a.A p.x.l.length p.a.c, .slice p.a.D p.x.m.length p.a.d, .bool p.y.p, .slice p.b.A p.y.l.length p.b.c, .slice p.b.D p.y.m.length p.b.d, .bool q.x.p, .slice q.a.A q.x.l.length q.a.c, .slice q.a.D q.x.m.length q.a.d, .bool q.y.p, .slice q.b.A q.y.l.length q.b.c, .slice q.b.D q.y.m.length q.b.d, .bool r.x.p, .slice r.a.A r.x.l.length r.a.c, .slice r.a.D r.x.m.length r.a.d, .bool r.y.p, .slice r.b.A r.y.l.length r.b.c, .slice r.b.D r.y.m.length r.b.d] 81) (.cells #[.bool u.x.p, .slice u.a.A u.x.l.length u.a.c, .slice u.a.D u.x.m.length u.a.d, .bool u.y.p, .slice u.b.A u.y.l.length u.b.c, .slice u.b.D u.y.m.length u.b.d] 31)
  go_enter Tryz.func81, Tryz.ntmps81
  go_wp2
  generalize (w.alloc (.cells #[.bool p.x.p, .slice p.a.A p.x.l.length p.a.c, .slice p.a.D p.x.m.length p.a.d, .bool p.y.p, .slice p.b.A p.y.l.length p.b.c, .slice p.b.D p.y.m.length p.b.d, .bool q.x.p, .slice q.a.A q.x.l.length q.a.c, .slice q.a.D q.x.m.length q.a.d, .bool q.y.p, .slice q.b.A q.y.l.length q.b.c, .slice q.b.D q.y.m.length q.b.d, .bool r.x.p, .slice r.a.A r.x.l.length r.a.c, .slice r.a.D r.x.m.length r.a.d, .bool r.y.p, .slice r.b.A r.y.l.length r.b.c, .slice r.b.D r.y.m.length r.b.d] 81)).alloc (.cells #[.bool u.x.p, .slice u.a.A u.x.l.length u.a.c, .slice u.a.D u.x.m.length u.a.d, .bool u.y.p, .slice u.b.A u.y.l.length u.b.c, .slice u.b.D u.y.m.length u.b.d] 31) = W1 at P_t P_u kb ⊢
  go_loopw [8, 5] (fun k sv w' => ∃ (j : Nat) (v : Int), j ≤ 3 ∧ k = .int .i64 (j : Int) ∧ sv = .int .i64 v ∧ v = lst s0 s1 s2 j ∧ Below W1.heap.size W1 w') (fun k _ _ => 3 - (intOf k).toNat)
  case atStart => exact ⟨0, 1, by omega, rfl, rfl, rfl, Below.refl _ _⟩
  case round =>
    obtain ⟨j, v, hj, rfl, rfl, hv, hb⟩ := hrel
    have P_r := rblk_below P_t hb
    have P_v := rblk_below P_u hb
    have HB := Lib.hid hb
    have kr := bt kb hb
    clear hb
    by_cases hlt : j < 3
    · have hi0 : (0 : Int) ≤ (j : Int) := by omega
      have hi1 : (j : Int) < 3 := by omega
      have HJ := Lib.hid (And.intro hv hlt)
      have HIj := Lib.hid (HI.out j hlt)
      have HSj := Lib.hid (HS.out j hlt)
      have HLj := Lib.hid (HL.out j hlt)
      have HE := Lib.hid (E3.out j hlt)
      generalize sgnO (some (dd j)) = sj at HSj HE
      generalize ofO (some (dd j)) = D at HIj HSj HLj
      clear hv
      have hld := cells_row P_r
      have z0 : wr.cell? ⟨w.heap.size + 1, 0, none⟩ = some (.bool u.x.p) := rblk_cell P_v 0
      have z1 : wr.cell? ⟨w.heap.size + 1, 1, none⟩ = some (.slice u.a.A u.x.l.length u.a.c) := rblk_cell P_v 1
      have z2 : wr.cell? ⟨w.heap.size + 1, 2, none⟩ = some (.slice u.a.D u.x.m.length u.a.d) := rblk_cell P_v 2
      have z3 : wr.cell? ⟨w.heap.size + 1, 3, none⟩ = some (.bool u.y.p) := rblk_cell P_v 3
      have z4 : wr.cell? ⟨w.heap.size + 1, 4, none⟩ = some (.slice u.b.A u.y.l.length u.b.c) := rblk_cell P_v 4
      have z5 : wr.cell? ⟨w.heap.size + 1, 5, none⟩ = some (.slice u.b.D u.y.m.length u.b.d) := rblk_cell P_v 5
      go_wp2_with (refine wpList_load_at rfl 81 (.tmp 2) rfl (w.heap.size) 0 #[.bool p.x.p, .slice p.a.A p.x.l.length p.a.c, .slice p.a.D p.x.m.length p.a.d, .bool p.y.p, .slice p.b.A p.y.l.length p.b.c, .slice p.b.D p.y.m.length p.b.d, .bool q.x.p, .slice q.a.A q.x.l.length q.a.c, .slice q.a.D q.x.m.length q.a.d, .bool q.y.p, .slice q.b.A q.y.l.length q.b.c, .slice q.b.D q.y.m.length q.b.d, .bool r.x.p, .slice r.a.A r.x.l.length r.a.c, .slice r.a.D r.x.m.length r.a.d, .bool r.y.p, .slice r.b.A r.y.l.length r.b.c, .slice r.b.D r.y.m.length r.b.d] rfl tri_agg (run_size tri_size) hld ?_)
      clear hld z0 z1 z2 z3 z4 z5 P_r P_v
      refine (HIj.out _ kr).mono ?_
      rintro e Wa ⟨a1, rfl, hx, hy, o1, hap, hb⟩
      have k1 := hb
      clear hb hx hy hap
      have P_d := heap_alloc_new Wa (.cells #[.bool D.p, .slice a1.A D.l.length a1.c, .slice a1.D D.m.length a1.d] 29)
      have hb := ba1 Wa (.cells #[.bool D.p, .slice a1.A D.l.length a1.c, .slice a1.D D.m.length a1.d] 29)
      have o2 := (o1.below hb).rds
      have k2 := bt k1 hb
      clear o1 k1 hb
      have y0 : (Wa.alloc (.cells #[.bool D.p, .slice a1.A D.l.length a1.c, .slice a1.D D.m.length a1.d] 29)).cell? ⟨Wa.heap.size, 0, none⟩ = some (.bool D.p) := rblk_cell P_d 0
      have y1 : (Wa.alloc (.cells #[.bool D.p, .slice a1.A D.l.length a1.c, .slice a1.D D.m.length a1.d] 29)).cell? ⟨Wa.heap.size, 1, none⟩ = some (.slice a1.A D.l.length a1.c) := rblk_cell P_d 1
      have y2 : (Wa.alloc (.cells #[.bool D.p, .slice a1.A D.l.length a1.c, .slice a1.D D.m.length a1.d] 29)).cell? ⟨Wa.heap.size, 2, none⟩ = some (.slice a1.D D.m.length a1.d) := rblk_cell P_d 2
      go_wp2_with fail
      clear y0 y1 y2
      generalize Wa.alloc (.cells #[.bool D.p, .slice a1.A D.l.length a1.c, .slice a1.D D.m.length a1.d] 29) = Wb at P_d k2 o2 ⊢
      generalize Wa.heap.size = gd at P_d ⊢
      have EX := exists_any D.p a1.A a1.D D.l.length D.m.length a1.c a1.d Wb HLj.out.2
      rw [decide_eq_true HLj.out.1] at EX
      refine EX.mono ?_
      rintro e Wc ⟨rfl, hb⟩
      clear EX
      replace P_d := rblk_below P_d hb
      replace o2 := o2.below hb
      replace k2 := bt k2 hb
      clear hb
      have y0 : Wc.cell? ⟨gd, 0, none⟩ = some (.bool D.p) := rblk_cell P_d 0
      have y1 : Wc.cell? ⟨gd, 1, none⟩ = some (.slice a1.A D.l.length a1.c) := rblk_cell P_d 1
      have y2 : Wc.cell? ⟨gd, 2, none⟩ = some (.slice a1.D D.m.length a1.d) := rblk_cell P_d 2
      go_wp2_with fail
      clear y0 y1 y2
      refine (HSj.out _ _ o2).mono ?_
      rintro e Wd ⟨rfl, hb⟩
      have k3 := Lib.hid (bt HB.out (bt k2 hb))
      clear hb o2 P_d k2 kr
      go_wp2
      go_roundw
      case rel => exact ⟨j + 1, _, by omega, by go_num, rfl, by show _ = min (lst s0 s1 s2 j) (one3 s0 s1 s2 j); rw [← HE.out, ← HJ.out.1], k3.out⟩
      case measure => simp [intOf]; omega
    · obtain rfl : j = 3 := by omega
      have HR := Lib.hid (And.intro hv kr)
      clear hv kr P_r P_v
      go_wp2
      go_ret
      exact ⟨by rw [HR.out.1]; rfl, HR.out.2⟩
theorem rng {w : World} {A : Option Addr} {l : List Value} (h : RdS w A l) (h0 : 0 < l.length) : ∃ g o, A = some ⟨g, o, none⟩ ∧ ∀ W, Below w.heap.size w W → W.rangeAt g o l := by
  obtain ⟨g, o, ha, hg, hc⟩ := h.block h0
  refine ⟨g, o, ha, fun W hB j v hj => ?_⟩
  have hl : j < l.length := by
    rcases Nat.lt_or_ge j l.length with h1 | h1
    · exact h1
    · rw [List.getElem?_eq_none h1] at hj; cases hj
  have h1 := hc j hl
  rw [hj] at h1
  exact below_cell hB h1
set_option maxHeartbeats 4000000 in
theorem impl_side (p q r : PV) (A : Option Addr) (c : Nat) (w : World) (hpr : properB [p, q, r] = true) (lp : LenP p) (lq : LenP q) (lr : LenP r) (hA : RdS w A (flat [p, q, r])) (hR : Rds w (lrow [p, q, r])) (u : PV) (lu : LenP u) (nu : NiceP u) (hu : okP u = true) (d0 d1 d2 : Rat) (e0 : aV p q u = some d0) (e1 : aV q r u = some d1) (e2 : aV r p u = some d2) (hU : Rds w (prow u)) :
    Calls Tryz.prog 23 #[.slice A 3 c, .agg #[.bool u.x.p, .slice u.a.A u.x.l.length u.a.c, .slice u.a.D u.x.m.length u.a.d, .bool u.y.p, .slice u.b.A u.y.l.length u.b.c, .slice u.b.D u.y.m.length u.b.d]] w (fun e w' => e = .returned (.int .i64 (min 1 (min (sgnO (some d0)) (min (sgnO (some d1)) (sgnO (some d2)))))) ∧ Below w.heap.size w w') := by
  obtain ⟨t1, t2, t3⟩ := tri_yes hpr
  have ok3 : TriOk w p q r := by have k := tri_ok hR; rw [t1, t2, t3] at k; exact k
  have RU : Hid (∀ W, Below w.heap.size w W → Rds W (prow u)) := Lib.hid (fun W hB => hU.below hB)
  have HV := Lib.hid (fun W h => show Calls Tryz.prog 62 #[.agg #[.bool u.x.p, .slice u.a.A u.x.l.length u.a.c, .slice u.a.D u.x.m.length u.a.d, .bool u.y.p, .slice u.b.A u.y.l.length u.b.c, .slice u.b.D u.y.m.length u.b.d]] W (fun e w' => e = .returned (.bool true) ∧ Below W.heap.size W w') from by
    have K := impl_valid u.x u.y u.a u.b W lu.1.1 lu.1.2 lu.2.1 lu.2.2 h
    rw [show (okx u.x && okx u.y) = true from hu] at K; exact K)
  have HP : Hid (∀ W, Below w.heap.size w W → Calls Tryz.prog 15 #[.slice A 3 c] W (fun e w' => e = .returned (.bool true) ∧ Below W.heap.size W w')) := Lib.hid (fun W hB => by
    have K := impl_proper [p, q, r] A c W (by simp) (fun x hx => by
      simp only [List.mem_cons, List.not_mem_nil, or_false] at hx
      rcases hx with rfl | rfl | rfl <;> assumption) (hA.below hB) (hR.below hB)
    rw [hpr] at K; exact K)
  have HD := Lib.hid (fun W (hB : Below w.heap.size w W) => side_m p q r u W (ok3.below hB) nu d0 d1 d2 e0 e1 e2 (hU.below hB))
  obtain ⟨g, o, rfl, hrg⟩ := rng hA (by simp [flat, pcl])
  have RG := Lib.hid hrg
  clear hrg e0 e1 e2 hA hR hU ok3 t1 t2 t3 hpr lp lq lr lu nu hu
  generalize min 1 (min (sgnO (some d0)) (min (sgnO (some d1)) (sgnO (some d2)))) = sv at HD ⊢
  have hat : ∀ w, (Instr.arrayAt 81 (.slice (some ⟨g, o, none⟩) 3 c)).run Tryz.prog w = .ok (.pointer (some ⟨g, o, none⟩)) w := fun w => run_arrayAt w 81 _ 3 _ 3 c Tryz.underlying81 (by omega)
  have P_u := heap_alloc_new w (.cells #[.bool u.x.p, .slice u.a.A u.x.l.length u.a.c, .slice u.a.D u.x.m.length u.a.d, .bool u.y.p, .slice u.b.A u.y.l.length u.b.c, .slice u.b.D u.y.m.length u.b.d] 31)
  have kb := ba1 w (.cells #[.bool u.x.p, .slice u.a.A u.x.l.length u.a.c, .slice u.a.D u.x.m.length u.a.d, .bool u.y.p, .slice u.b.A u.y.l.length u.b.c, .slice u.b.D u.y.m.length u.b.d] 31)
  go_enter Tryz.func23, Tryz.ntmps23
  go_wp2_with fail
  generalize w.alloc (.cells #[.bool u.x.p, .slice u.a.A u.x.l.length u.a.c, .slice u.a.D u.x.m.length u.a.d, .bool u.y.p, .slice u.b.A u.y.l.length u.b.c, .slice u.b.D u.y.m.length u.b.d] 31) = W1 at P_u kb ⊢
  refine (HP.out _ kb).mono ?_
  rintro e W2 ⟨rfl, hb⟩
  replace P_u := rblk_below P_u hb
  replace kb := bt kb hb
  clear hb
  have z0 : W2.cell? ⟨w.heap.size, 0, none⟩ = some (.bool u.x.p) := rblk_cell P_u 0
  have z1 : W2.cell? ⟨w.heap.size, 1, none⟩ = some (.slice u.a.A u.x.l.length u.a.c) := rblk_cell P_u 1
  have z2 : W2.cell? ⟨w.heap.size, 2, none⟩ = some (.slice u.a.D u.x.m.length u.a.d) := rblk_cell P_u 2
  have z3 : W2.cell? ⟨w.heap.size, 3, none⟩ = some (.bool u.y.p) := rblk_cell P_u 3
  have z4 : W2.cell? ⟨w.heap.size, 4, none⟩ = some (.slice u.b.A u.y.l.length u.b.c) := rblk_cell P_u 4
  have z5 : W2.cell? ⟨w.heap.size, 5, none⟩ = some (.slice u.b.D u.y.m.length u.b.d) := rblk_cell P_u 5
  go_wp2_with fail
  clear z0 z1 z2 z3 z4 z5
  refine (HV.out _ (RU.out _ kb)).mono ?_
  rintro e W3 ⟨rfl, hb⟩
  replace P_u := rblk_below P_u hb
  replace kb := bt kb hb
  clear hb
  go_wp2_with fail
  refine wp_region_held_drew (S := fun w' => w'.heap[w.heap.size]? = some (.cells #[.bool u.x.p, .slice u.a.A u.x.l.length u.a.c, .slice u.a.D u.x.m.length u.a.d, .bool u.y.p, .slice u.b.A u.y.l.length u.b.c, .slice u.b.D u.y.m.length u.b.d] 31 (0, 0)) ∧ Below w.heap.size w w') (by kernel_rfl) ⟨P_u, kb.drew⟩ (fun hHeld => ?_)
  clear P_u kb
  generalize W3.drew = Wd at *
  refine tk (i := 0) (v := ?vg1_1) rfl (by kernel_rfl) (fun _ _ _ h => h) (Or.inl ⟨by rfl, ?hg1_1⟩) hHeld ?_
  case hg1_1 => (intro w hSw; (try dsimp only at hSw); clear hSw; go_simp; (try with_reducible rfl))
  try simp only [ps]
  refine tk (i := 1) (v := ?vg1_2) rfl (by kernel_rfl) (fun _ _ _ h => h) (Or.inl ⟨by rfl, ?hg1_2⟩) hHeld ?_
  case hg1_2 => (intro w hSw; (try dsimp only at hSw); clear hSw; go_simp; (try with_reducible rfl))
  try simp only [ps]
  refine tk (i := 2) (v := .agg #[.bool p.x.p, .slice p.a.A p.x.l.length p.a.c, .slice p.a.D p.x.m.length p.a.d, .bool p.y.p, .slice p.b.A p.y.l.length p.b.c, .slice p.b.D p.y.m.length p.b.d, .bool q.x.p, .slice q.a.A q.x.l.length q.a.c, .slice q.a.D q.x.m.length q.a.d, .bool q.y.p, .slice q.b.A q.y.l.length q.b.c, .slice q.b.D q.y.m.length q.b.d, .bool r.x.p, .slice r.a.A r.x.l.length r.a.c, .slice r.a.D r.x.m.length r.a.d, .bool r.y.p, .slice r.b.A r.y.l.length r.b.c, .slice r.b.D r.y.m.length r.b.d]) rfl (by kernel_rfl) (fun _ _ _ h => h) (yieldsIf_load_mid (by rfl) 81 (.tmp 14) rfl g o rfl [.bool p.x.p, .slice p.a.A p.x.l.length p.a.c, .slice p.a.D p.x.m.length p.a.d, .bool p.y.p, .slice p.b.A p.y.l.length p.b.c, .slice p.b.D p.y.m.length p.b.d, .bool q.x.p, .slice q.a.A q.x.l.length q.a.c, .slice q.a.D q.x.m.length q.a.d, .bool q.y.p, .slice q.b.A q.y.l.length q.b.c, .slice q.b.D q.y.m.length q.b.d, .bool r.x.p, .slice r.a.A r.x.l.length r.a.c, .slice r.a.D r.x.m.length r.a.d, .bool r.y.p, .slice r.b.A r.y.l.length r.b.c, .slice r.b.D r.y.m.length r.b.d] _ (fun w hSw => RG.out _ hSw.2) Tryz.underlying81 rfl tri_size) hHeld ?_
  try simp only [ps]
  refine tk (i := 3) (v := ?vg1_4) rfl (by kernel_rfl) (fun _ _ _ h => h) (Or.inl ⟨by rfl, ?hg1_4⟩) hHeld ?_
  case hg1_4 => (intro w hSw; (try dsimp only at hSw); have z0 := rblk_cell hSw.1 0; have z1 := rblk_cell hSw.1 1; have z2 := rblk_cell hSw.1 2; have z3 := rblk_cell hSw.1 3; have z4 := rblk_cell hSw.1 4; have z5 := rblk_cell hSw.1 5; clear hSw; go_simp; (try with_reducible rfl))
  try simp only [ps]
  refine rd1 (i := 4) (by kernel_rfl) rfl (fun K hK => ?_)
  go_simp
  (go_at_call 81; ((with_reducible refine (HD.out _ hHeld.2).mono ?_); rintro e Wr1_5 ⟨rfl, hb⟩))
  refine hK.out _ _ ⟨rblk_below hHeld.1 hb, bt hHeld.2 hb⟩ (fun hH => ?_)
  replace hHeld := hH
  clear hK K hH
  clear hb
  try simp only [ps]
  refine tk (i := 5) (v := ?vg1_6) rfl (by kernel_rfl) (fun _ _ _ h => h) (Or.inl ⟨by rfl, ?hg1_6⟩) hHeld ?_
  case hg1_6 => (intro w hSw; (try dsimp only at hSw); clear hSw; go_simp; (try with_reducible rfl))
  try simp only [ps]
  refine wpAnyH_done (by kernel_rfl) ?_ _
  have HR := Lib.hid hHeld.2
  clear hHeld
  go_wp2
  go_ret
  exact ⟨rfl, HR.out⟩
end Go.Proofs.YtppdholccpgcpaaGreat
