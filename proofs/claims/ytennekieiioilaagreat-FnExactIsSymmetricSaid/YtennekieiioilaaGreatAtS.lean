/-
  The model's l14At.
-/
import Derived.Test.YtennekieiioilaaGreatEntW
import Derived.Test.YtennekieiioilaaGreatCpM
import Derived.Test.YtennekieiioilaaGreatPkI
namespace Go.Proofs.YtennekieiioilaaGreat
open Go.ChangeShapes Go.WideShapes Go.ChangeAt Go.RowKit
open Go.ChangeMaps (open_string shut_string)
set_option linter.unusedVariables false
set_option linter.unusedSimpArgs false
set_option maxRecDepth 4000

attribute [local go_sem ↓] Go.wp_at_zero Go.wp_at_succ
set_option maxHeartbeats 4000000 in
theorem spec_at (R : List MR) (A : Option Addr) (c : Nat) (i : Nat) (p : MR) (y : Int) (w : World) (hp : R[i]? = some p) (hS : ∀ x, x ∈ p.V → ShortQ x) (hl : p.cs.length = p.V.length) (hv : validB p.V = true) (h40 : R.length ≤ 40) (hA : RdS w A (flatX R)) (hR : Rds w (lrowX R)) (hm63 : p.cs.length ≤ 9223372036854775807) :
    Calls Tryz.prog 27 #[.agg #[.slice A R.length c], .int .i64 (i : Int), .int .i64 y] w (MadeQ w.heap.size (ofO (entO p y)) w) := by
  have RX : Hid (∀ W, Below w.heap.size w W → RdS W A (flatX R) ∧ Rds W (rmx p)) := Lib.hid (fun W hb => ⟨hA.below hb, (hR.atX hp).below hb⟩)
  obtain ⟨T, hT⟩ : ∃ T, T = ofO (entO p y) := ⟨_, rfl⟩
  rw [← hT]
  obtain ⟨m, hm⟩ : ∃ m, m = p.cs.length := ⟨_, rfl⟩
  obtain ⟨n, hn⟩ : ∃ n, n = R.length := ⟨_, rfl⟩
  have HF : Hid (∀ k z v, entL (p.cs.drop k) ((datQ p.V).drop k) y = entO p y → p.cs[k]? = some z → p.V[k]? = some v → (z = y → T = v.x) ∧ (z ≠ y → entL (p.cs.drop (k + 1)) ((datQ p.V).drop (k + 1)) y = entO p y)) := Lib.hid (fun k z v h hz hv2 => by
    have hx : (datQ p.V)[k]? = some v.x := by unfold datQ; rw [List.getElem?_map, hv2]; rfl
    rw [entL_drop hz hx] at h
    refine ⟨fun e => ?_, fun e => ?_⟩
    · rw [if_pos e] at h
      obtain ⟨r, h1, h2, _⟩ := valx_yes (validB_at hv hv2)
      rw [hT, ← h, h1, ← h2]
    · rw [if_neg e] at h; exact h)
  have HE : Hid (entL (p.cs.drop m) ((datQ p.V).drop m) y = entO p y → T = ofO (some 0)) := Lib.hid (fun h => by rw [hT, ← h, hm, entL_end])
  have HM := Lib.hid (And.intro hm (hm.trans hl))
  have HS := Lib.hid hS
  have HP := Lib.hid hp
  have hi1 : (i : Int) < (n : Int) := by have := lt_of_getX hp; omega
  have hi0 : (0 : Int) ≤ (i : Int) := by omega
  obtain ⟨g, o, rfl, _, c0, c1⟩ := hA.two hp
  rw [← hm] at c0 hm63
  rw [← hl, ← hm] at c1
  rw [← hn]
  have LD : Hid (∀ W, Below w.heap.size w W → W.cell? ⟨g, o + i * 2, none⟩ = some (.slice p.A m p.c) ∧ W.cell? ⟨g, o + i * 2 + 1, none⟩ = some (.slice p.B m p.d)) := Lib.hid (fun W hb => ⟨below_cell hb c0, below_cell hb c1⟩)
  have HZ := Lib.hid (fun W => show Calls Tryz.prog 53 #[.int .i64 0] W (MadeQ W.heap.size (ofO (some 0)) W) from (spec_rfi 0 W (by decide)).mono fun e w' k => MadeR.toQ (x := ofO (some 0)) k)
  have HC : Hid (∀ v W, ShortQ v → Rds W (qrow v) → Calls Tryz.prog 52 #[.agg #[.bool v.x.p, .slice v.a.A v.x.l.length v.a.c, .slice v.a.D v.x.m.length v.a.d]] W (MadeQ W.heap.size v.x W)) := Lib.hid (fun v W hs h => lcopy_x v.x v.a W hs h)
  unfold MadeQ at HZ HC
  clear hA hR hT hm hn hl hv hS hp h40 c0 c1
  obtain ⟨P_a, P_r⟩ := blocks2 w (.cells #[.slice (some ⟨g, o, none⟩) n c] 34) (.cells #[.bool false, .slice none 0 0, .slice none 0 0] 30)
  have kb := ba2 w (.cells #[.slice (some ⟨g, o, none⟩) n c] 34) (.cells #[.bool false, .slice none 0 0, .slice none 0 0] 30)
  have a0 := rblk_cell P_a 0
  obtain ⟨c0, c1⟩ := LD.out _ kb
  go_enter Tryz.func27, Tryz.ntmps27
  go_wp2_with fail
  clear a0 c0 c1
  generalize (w.alloc (.cells #[.slice (some ⟨g, o, none⟩) n c] 34)).alloc (.cells #[.bool false, .slice none 0 0, .slice none 0 0] 30) = W1 at kb P_a P_r ⊢
  go_loopw [16] (fun k w' => ∃ j : Nat, j ≤ m ∧ k = .int .i64 (j : Int) ∧ entL (p.cs.drop j) ((datQ p.V).drop j) y = entO p y ∧ (w'.heap[w.heap.size]? = some (.cells #[.slice (some ⟨g, o, none⟩) n c] 34 (0, 0)) ∧ w'.heap[w.heap.size + 1]? = some (.cells #[.bool false, .slice none 0 0, .slice none 0 0] 30 (0, 0))) ∧ Below w.heap.size w w') (fun k _ => m - (intOf k).toNat)
  case atStart => exact ⟨0, Nat.zero_le _, rfl, rfl, ⟨P_a, P_r⟩, kb⟩
  case round =>
    clear P_a P_r kb
    obtain ⟨j, hj, rfl, hent, ⟨P_a, P_r⟩, kb⟩ := hrel
    by_cases hlj : j < m
    · obtain ⟨z, hz⟩ : ∃ z, p.cs[j]? = some z := ⟨p.cs[j]'(by rw [← HM.out.1]; exact hlj), List.getElem?_eq_getElem _⟩
      obtain ⟨v, hv⟩ := getQ (L := p.V) (i := j) (by rw [← HM.out.2]; exact hlj)
      have HJ := Lib.hid (HF.out j z v hent hz hv)
      have HV := Lib.hid (And.intro hv (HS.out v (List.mem_of_getElem? hv)))
      obtain ⟨gc, oc, ea, _, cz⟩ := vi_cell (RX.out _ kb).2.hd hz
      obtain ⟨gv, ov, eb, _, v0, v1, v2⟩ := (RX.out _ kb).2.tl.hd.three hv
      have hj0 : (0 : Int) ≤ (j : Int) := by omega
      have hj1 : (j : Int) < (m : Int) := by omega
      obtain ⟨c0, c1⟩ := LD.out _ kb
      rw [eb] at c1
      rw [ea] at c0 ⊢
      have a0 := rblk_cell P_a 0
      clear ea eb hent hz hv
      by_cases hzy : z = y
      · have hTv := HJ.out.1 hzy
        subst hTv
        have q : (z == y) = true := by simp [hzy]
        clear hzy HJ HF HE
        go_wp2_with fail
        clear a0 c0 c1 cz v0 v1 v2
        refine (HC.out v _ HV.out.2 ((RX.out _ kb).2.tl.tl.atQ HV.out.1)).mono ?_
        rintro e w2 ⟨a, rfl, hx, hy, oa, hap, hb⟩
        have lo := rblk_lt P_r
        replace P_r := rblk_below P_r hb
        replace kb := bt kb hb
        clear hb P_a
        have r0 := rblk_cell P_r 0
        have r1 := rblk_cell P_r 1
        have r2 := rblk_cell P_r 2
        have f0 := rblk_free P_r 0
        have f1 := rblk_free P_r 1
        have f2 := rblk_free P_r 2
        have hz2 := Nat.le_trans (Nat.le_of_lt (Nat.lt_of_le_of_lt (Nat.le_succ _) lo)) (Nat.le_refl _)
        go_wp2
        exact bodyPost_ret (v := .agg #[.bool v.x.p, .slice a.A v.x.l.length a.c, .slice a.D v.x.m.length a.d]) (by simp [results, Tryz.results27, go_sem, r0, r1, r2]) rfl ⟨a, rfl, hx, hy, owns_end3 oa (.inl lo) hz2 (Nat.le_refl _) _ _ _, hap, below_put3 kb (Nat.le_succ _) _ _ _⟩
      · have q : (z == y) = false := by rw [beq_eq_false_iff_ne]; exact hzy
        have HN := Lib.hid (HJ.out.2 hzy)
        clear hzy HJ v0 v1 v2
        go_wp2
        go_roundw
        case rel => exact ⟨j + 1, hlj, by go_num, HN.out, ⟨P_a, P_r⟩, kb⟩
        case measure => simp [intOf]; omega
    · obtain rfl : j = m := by omega
      have hTz := HE.out hent
      rw [← hTz] at HZ
      clear hTz hent HF HE
      go_wp2_with fail
      refine (HZ.out _).mono ?_
      rintro e w2 ⟨a, rfl, hx, hy, oa, hap, hb⟩
      have lo := rblk_lt P_r
      replace P_r := rblk_below P_r hb
      replace kb := bt kb hb
      clear hb P_a
      have r0 := rblk_cell P_r 0
      have r1 := rblk_cell P_r 1
      have r2 := rblk_cell P_r 2
      have f0 := rblk_free P_r 0
      have f1 := rblk_free P_r 1
      have f2 := rblk_free P_r 2
      have hz2 := Nat.le_trans (Nat.le_of_lt (Nat.lt_of_le_of_lt (Nat.le_succ _) lo)) (Nat.le_refl _)
      go_wp2
      exact bodyPost_ret (v := .agg #[.bool T.p, .slice a.A T.l.length a.c, .slice a.D T.m.length a.d]) (by simp [results, Tryz.results27, go_sem, r0, r1, r2]) rfl ⟨a, rfl, hx, hy, owns_end3 oa (.inl lo) hz2 (Nat.le_refl _) _ _ _, hap, below_put3 kb (Nat.le_succ _) _ _ _⟩
end Go.Proofs.YtennekieiioilaaGreat
