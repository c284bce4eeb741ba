/-
  The laws' drawn vectors: 'l04Few', 'MakeVector'.
-/
import Derived.Test.YtppdholccpgcpaaGreatWg
import Derived.Test.YtppdholccpgcpaaGreatLawP
import Derived.Test.YtppdholccpgcpaaGreatMkPt
import Derived.Test.YtppdholccpgcpaaGreatAppT
import Derived.Test.YtppdholccpgcpaaGreatPkI
namespace Go.Proofs.YtppdholccpgcpaaGreat
set_option maxHeartbeats 1000000
open Go.ChangeShapes Go.WideShapes Go.ChangeAt Go.RowKit
set_option linter.unusedVariables false
set_option linter.unusedSimpArgs false
set_option maxRecDepth 4000
def FiveS (w : World) (b : Nat) : Prop := b < w.heap.size ∧ ∀ j, j < 5 → ∃ x : Int, 1 ≤ x ∧ x ≤ 3 ∧ w.cell? ⟨b, j, none⟩ = some (.int .i64 x)
def SmallPost (g : Nat) (A : Option Addr) (n c : Nat) (w : World) (e : Ending) (w' : World) : Prop := ∃ x : Int, 1 ≤ x ∧ x ≤ 3 ∧ e = .returned (.int .i64 x) ∧ CurAt w' g A n c ∧ w.grownBy w' (some g)
theorem pick_five (g b : Nat) (A : Option Addr) (n c d : Nat) (w : World) (hn : n ≤ 1048576) (hc : CurAt w g A n c) (h5 : FiveS w b) (hne : b ≠ g) :
    Calls Tryz.prog 159 #[.pointer (some ⟨g, 0, none⟩), .slice (some ⟨b, 0, none⟩) 5 d] w (SmallPost g A n c w) := by
  have H := Lib.hid (below_any 5 g A n c w (by omega) (by omega) hn hc)
  have H5 := Lib.hid h5
  clear hc h5
  go_enter Tryz.func159, Tryz.ntmps159
  go_wp2_with fail
  refine (Hid.out H).mono ?_
  rintro e w1 ⟨x, hx0, hx1, rfl, hc1, hg1⟩
  obtain ⟨k, rfl⟩ := Int.eq_ofNat_of_zero_le hx0
  obtain ⟨s, hs0, hs1, hcs⟩ := H5.out.2 k (by omega)
  have hcs1 : w1.cell? ⟨b, k, none⟩ = some (.int .i64 s) := by
    rw [World.cell?_of_block (w := w) (a := ⟨b, k, none⟩) (hg1.block b H5.out.1 (fun e => hne (by injection e)))]; exact hcs
  clear hcs H
  go_wp2_with fail
  go_ret
  exact ⟨s, hs0, hs1, rfl, hc1, hg1⟩
def Few (r : Option Rat) : Prop := ∃ x y : Int, -10 ≤ x ∧ x ≤ 10 ∧ 1 ≤ y ∧ y ≤ 3 ∧ r = ofQ x y
def FewAt (g : Nat) (A : Option Addr) (n c : Nat) (w : World) (e : Ending) (w' : World) : Prop := ∃ (r : Option Rat) (a : Ad), Few r ∧ e = .returned (.agg (r3 (ofO r) a)) ∧ Owns w.heap.size w'.heap.size w' (rows (ofO r) a) ∧ Aparts (rows (ofO r) a) ∧ CurAt w' g A n c ∧ w.grownBy w' (some g)
theorem few_any (g : Nat) (A : Option Addr) (n c : Nat) (w : World) (hn : n ≤ 1048576) (hc : CurAt w g A n c) :
    Calls Tryz.prog 92 #[.pointer (some ⟨g, 0, none⟩)] w (FewAt g A n c w) := by
  have hgw := hc.lt
  have hl0 := Lib.hid hc.low
  go_enter Tryz.func92, Tryz.ntmps92
  go_wp2_with fail
  have P_o := heap_alloc_new w (.cells z3 29)
  have kg : w.grownBy (w.alloc (.cells z3 29)) (some g) := grownB (grown_refl _ _) (ba1 w _)
  have kc := hc.alloc (.cells z3 29)
  have hne : w.heap.size ≠ g := by omega
  generalize w.alloc (.cells z3 29) = W1 at P_o kg kc ⊢
  refine (below_any 21 g A n c _ (by omega) (by omega) hn kc).mono ?_
  rintro e w2 ⟨x, hx0, hx1, rfl, hc2, hg2⟩
  replace P_o := rblk_grown P_o hg2 hne
  replace kg := grown2 kg hg2
  clear hc kc hg2
  have hz2 : w.heap.size ≤ w2.heap.size := kg.size
  have P_l := heap_alloc_new w2 (.cells #[.int .i64 1, .int .i64 1, .int .i64 1, .int .i64 2, .int .i64 3] 3)
  have kc := hc2.alloc (.cells #[.int .i64 1, .int .i64 1, .int .i64 1, .int .i64 2, .int .i64 3] 3)
  have h5 : FiveS (w2.alloc (.cells #[.int .i64 1, .int .i64 1, .int .i64 1, .int .i64 2, .int .i64 3] 3)) w2.heap.size := ⟨rblk_lt P_l, fun j hj => by
    match j, hj with
    | 0, _ => exact ⟨1, by omega, by omega, rblk_cell P_l 0⟩
    | 1, _ => exact ⟨1, by omega, by omega, rblk_cell P_l 1⟩
    | 2, _ => exact ⟨1, by omega, by omega, rblk_cell P_l 2⟩
    | 3, _ => exact ⟨2, by omega, by omega, rblk_cell P_l 3⟩
    | 4, _ => exact ⟨3, by omega, by omega, rblk_cell P_l 4⟩⟩
  replace P_o := rblk_below P_o (ba1 w2 (.cells #[.int .i64 1, .int .i64 1, .int .i64 1, .int .i64 2, .int .i64 3] 3))
  replace kg := grownB kg ((ba1 w2 (.cells #[.int .i64 1, .int .i64 1, .int .i64 1, .int .i64 2, .int .i64 3] 3)).mono hz2)
  clear P_l hc2
  go_wp2_with fail
  generalize w2.alloc (.cells #[.int .i64 1, .int .i64 1, .int .i64 1, .int .i64 2, .int .i64 3] 3) = W2 at P_o kg kc h5 ⊢
  refine (pick_five g _ A n c _ _ hn kc h5 (by omega)).mono ?_
  rintro e w3 ⟨s, hs0, hs1, rfl, hc3, hg3⟩
  replace P_o := rblk_grown P_o hg3 hne
  replace kg := grown2 kg hg3
  clear kc h5 hg3
  have HR := Lib.hid (fun W => show Calls Tryz.prog 118 #[.int .i64 (x - 10), .int .i64 s] W (MadeQ W.heap.size (ofO (ofQ (x - 10) s)) W) from (spec_rof (x - 10) s W ⟨by omega, by omega⟩ ⟨by omega, by omega⟩).mono fun e w' k => MadeR.toQ (x := ofO (ofQ (x - 10) s)) k)
  have HF : Hid (Few (ofQ (x - 10) s)) := Lib.hid ⟨x - 10, s, by omega, by omega, by omega, by omega, rfl⟩
  unfold MadeQ at HR
  go_wp2_with fail
  generalize ofQ (x - 10) s = r at HR HF ⊢
  have hz3 : w.heap.size ≤ w3.heap.size := kg.size
  have hltr := rblk_lt P_o
  refine (HR.out _).mono ?_
  rintro e w4 ⟨a3, rfl, hcc, hdd, o3, hap, hb⟩
  replace P_o := rblk_below P_o hb
  replace kg := grownB kg (hb.mono hz3)
  have kc4 := hc3.belowB hgw hl0.out (hb.mono hz3)
  clear hb hc3
  have c0 := rblk_cell P_o 0
  have c1 := rblk_cell P_o 1
  have c2 := rblk_cell P_o 2
  have f0 := rblk_free P_o 0
  have f1 := rblk_free P_o 1
  have f2 := rblk_free P_o 2
  go_wp2
  exact bodyPost_ret (v := .agg (r3 (ofO r) a3)) (by simp [results, Tryz.results92, go_sem, c0, c1, c2]) rfl ⟨r, a3, HF.out, rfl, owns_end3 o3 (.inl hltr) hz3 (Nat.le_refl _) _ _ _, hap, kc4.belowB hgw hl0.out (below_put3 (Below.refl _ _) (Nat.le_refl _) _ _ _), grownB kg (below_put3 (Below.refl _ _) (Nat.le_refl _) _ _ _)⟩
theorem RdB.belowV {w w' : World} {A : Option Addr} {n : Nat} (h : RdB w A n w.heap.size) (hb : Below w.heap.size w w') : RdB w' A n w'.heap.size := by
  rcases h with h0 | ⟨b, off, ha, hbg, hblt, hcs⟩
  · exact .inl h0
  · have := hb.size
    refine .inr ⟨b, off, ha, by omega, by omega, fun j hj => ?_⟩
    obtain ⟨u, hu, hcu⟩ := hcs j hj
    exact ⟨u, hu, by rw [hb.cell (p := ⟨b, off + j, none⟩) hblt]; exact hcu⟩
theorem own3_grown {w w' : World} {B n g : Nat} {v : Value} {xs : List Value} (h : w.ownsRow B 29 3 v n xs) (hg : w.grownBy w' (some g)) (hgB : g < B) : w'.ownsRow B 29 3 v n xs := by
  rcases h with ⟨hl, h⟩
  refine ⟨hl, h.imp id ?_⟩
  rintro ⟨g', cap, cur, hv, hB, hh, r⟩
  exact ⟨g', cap, cur, hv, hB, by rw [hg.block g' (Array.getElem?_eq_some_iff.1 hh).1 (fun e => by injection e with e; omega)]; exact hh, r⟩
def VecPost (k : Nat) (w : World) (e : Ending) (w' : World) : Prop := ∃ (U : List RV) (D : Option Addr) (d : Nat), U.length = k ∧ (∀ p, p ∈ U → ∃ r, Few r ∧ p.x = ofO r) ∧ e = .returned (.slice D U.length d) ∧ w'.ownsRow w.heap.size 29 3 (.slice D U.length d) U.length (flatQ U) ∧ Owns w.heap.size w'.heap.size w' (lrowQ U) ∧ Aparts (lrowQ U) ∧ Below w.heap.size w w'
theorem makeVec_any (m k : Nat) (A : Option Addr) (n c : Nat) (w : World) (hm : m ≤ 100) (hk : k ≤ 1000) (hn : n ≤ 1048576) (hA : RdB w A n w.heap.size) :
    Calls Tryz.prog 31 #[.slice A n c, .int .i64 (m : Int), .int .i64 (k : Int)] w (VecPost k w) := by
  have HN := Lib.hid (new31_n (7 * m) ((7 : Int) * (m : Int)) A n c w (by omega) (by omega) hn hA)
  have HF := Lib.hid (fun g W h => few_any g A n c W hn h)
  unfold FewAt at HF
  have hmw : IntKind.i64.wrap ((7 : Int) * (m : Int)) = (7 : Int) * (m : Int) := by rw [IntKind.wrap_i64]; omega
  clear hA
  go_enter Tryz.func31, Tryz.ntmps31
  go_wp2_with fail
  refine (HN.out).mono ?_
  rintro e W1 ⟨rfl, kc, kb⟩
  have hg1 := kc.lt
  have hl1 := Lib.hid kc.low
  have HG : Hid (w.heap.size < W1.heap.size) := Lib.hid hg1
  have hr := World.ownsRow_made (base := W1.heap.size) (e := 29) (size := 3) W1 #[] 0 (Nat.le_refl _) (by decide) rfl
  have k3 := ba1 W1 (.cells #[] 29)
  have kc2 := kc.alloc (.cells #[] 29)
  have kb2 := bt kb k3
  clear kc kb hg1 hmw HN
  go_wp2_with fail
  go_loopw [8] (fun v w' => ∃ (M : List RV) (E : Option Addr) (e : Nat), M.length ≤ k ∧ v = .slice E M.length e ∧ w'.ownsRow W1.heap.size 29 3 (.slice E M.length e) M.length (flatQ M) ∧ (∀ p, p ∈ M → ∃ r, Few r ∧ p.x = ofO r) ∧ Owns W1.heap.size w'.heap.size w' (lrowQ M) ∧ Aparts (lrowQ M) ∧ CurAt w' w.heap.size A n c ∧ W1.heap.size ≤ w'.heap.size ∧ Below w.heap.size w w') (fun v _ => k - (match v with | .slice _ l _ => l | _ => 0))
  case atStart => exact ⟨[], _, _, Nat.zero_le _, rfl, hr, (fun p hp => by cases hp), Owns.nil _ _ _, Aparts.nil, kc2, k3.size, kb2⟩
  case round =>
    clear hr kc2 kb2 k3
    obtain ⟨M, E, e, hM, rfl, hr, hf, hO, hap, kc, hz, kb⟩ := hrel
    have HVZ : Hid (∀ g, (Value.slice E M.length e).ownBlock = some g → g < wr.heap.size) := Lib.hid (fun g h => (hr.lt g h).2)
    have HMF := Lib.hid (And.intro hf hap)
    clear hf hap
    by_cases hlt : M.length < k
    · have q : ((M.length : Int) < (k : Int)) := by omega
      go_wp2_with fail
      have hz2 := kc.lt
      refine (HF.out _ _ kc).mono ?_
      rintro e' W2 ⟨r, a, hfr, rfl, oq, apq, kc2, hg⟩
      have hr2 := own3_grown hr hg HG.out
      have hO2 := owns_grownr hO hg HG.out
      have hz3 := hg.size
      have kb3 : Below w.heap.size w W2 := below_own kb hg (Nat.le_refl _)
      have HQ := Lib.hid hfr
      have hl := hlt
      clear hr hO kc hg kb hfr
      have HXE : Hid (∃ X, X = ofO r) := Lib.hid ⟨_, rfl⟩
      obtain ⟨X, hX⟩ := HXE.out
      rw [← hX] at oq apq ⊢
      have HFX := Lib.hid (And.intro HQ.out hX)
      clear hX HXE HQ
      go_wp2_with (refine append_rt rfl (.tmp 18) (.tmp 21) rfl W1.heap.size M.length W1.heap.size wr.heap.size W2.heap.size (.slice E M.length e) M ⟨X, a⟩ W2 rfl rfl hr2 (by omega) (Nat.le_trans hz hz3) hO2 oq HMF.out.2 apq HVZ.out hz hz3 (Nat.le_refl _) ?_; intro v' w' hown' hb' hO' hap')
      obtain ⟨E2, e2, rfl⟩ := own_formQ hown'
      have HX := Lib.hid (And.intro hown' (And.intro hO' (And.intro hap' (And.intro (kc2.belowB HG.out hl1.out hb') (And.intro (Nat.le_trans (Nat.le_trans hz hz3) hb'.size) (kb3.trans (hb'.mono (Nat.le_of_lt HG.out))))))))
      clear hown' hb' hO' hap' kc2 kb3 hr2 hO2 oq apq hz hz2 hz3
      go_wp2
      go_roundw
      case rel =>
        refine ⟨M ++ [⟨X, a⟩], E2, e2, by rw [List.length_append]; exact hl, by rw [List.length_append]; rfl, by rw [List.length_append]; exact HX.out.1, fun p hp => ?_, HX.out.2⟩
        rcases List.mem_append.1 hp with h1 | h1
        · exact HMF.out.1 p h1
        · rw [List.mem_singleton] at h1
          subst h1
          exact ⟨r, HFX.out.1, HFX.out.2⟩
      case measure =>
        show k - (M.length + 1) < k - M.length
        omega
    · have he : M.length = k := by omega
      have q : ¬ ((M.length : Int) < (k : Int)) := by omega
      have HX := Lib.hid (show VecPost k w (.returned (.slice E M.length e)) wr from ⟨M, E, e, he, HMF.out.1, rfl, ⟨hr.1, hr.2.imp id (fun ⟨g, cap, cur, hv, hB, r⟩ => ⟨g, cap, cur, hv, Nat.le_trans (Nat.le_of_lt HG.out) hB, r⟩)⟩, hO.wide (Nat.le_of_lt HG.out) (Nat.le_refl _), HMF.out.2, kb⟩)
      clear hr hO kc hz kb he
      go_wp2
      go_ret
      exact HX.out
end Go.Proofs.YtppdholccpgcpaaGreat
