/-
  The program's ValueIn for valid arguments.
-/
import Derived.Test.YtppdholccpgcpaaGreatWg
import Derived.Test.YtppdholccpgcpaaGreatVaM
import Derived.Test.YtppdholccpgcpaaGreatInV
import Derived.Test.YtppdholccpgcpaaGreatLawP
import Derived.Test.YtppdholccpgcpaaGreatTriI
namespace Go.Proofs.YtppdholccpgcpaaGreat
open Go.ChangeShapes Go.WideShapes Go.ChangeAt Go.RowKit
set_option linter.unusedVariables false
set_option linter.unusedSimpArgs false
set_option maxRecDepth 4000
attribute [local go_sem ↓] Go.wp_at_zero Go.wp_at_succ
set_option maxHeartbeats 4000000 in
theorem impl_valueIn (L : List PV) (A : Option Addr) (c : Nat) (U : List RV) (D : Option Addr) (d : Nat) (z : PV) (w : World) (hn : L.length ≤ 9223372036854775807) (hL : ∀ p, p ∈ L → LenP p) (hA : RdS w A (flat L)) (hR : Rds w (lrow L))
    (hU3 : U.length = 3) (hL' : ∀ p, p ∈ U → LenQ p) (hvv : validB U = true) (hA' : RdS w D (flatQ U)) (hR' : Rds w (lrowQ U)) (lz : LenP z) (nz : NiceP z) (hz : okP z = true) (hRz : Rds w (prow z)) :
    Calls Tryz.prog 34 #[.slice A L.length c, .slice D 3 d, .agg (p6 z)] w (MadeQ w.heap.size (ofO (accV (cO (tri1 L) (tri2 L) (tri3 L) z) U 3)) w) := by
  have HT := Lib.hid (fun W (hB : Below w.heap.size w W) => show Calls Tryz.prog 63 #[.slice A L.length c] W (fun e w' => e = .returned (.agg (p18 (tri1 L) (tri2 L) (tri3 L))) ∧ Below W.heap.size W w') from tri_any L A c W hn hL (hA.below hB) (hR.below hB))
  have HM := Lib.hid (fun W (hB : Below w.heap.size w W) => value_m (tri1 L) (tri2 L) (tri3 L) z U D d W (tri_ok (hR.below hB)) nz (hRz.below hB) hU3 hL' hvv (hA'.below hB) (hR'.below hB))
  have HI := Lib.hid (fun W (hB : Below w.heap.size w W) => show Calls Tryz.prog 93 #[.slice D 3 d] W (fun e w' => e = .returned (.bool true) ∧ Below W.heap.size W w') from by
    have K := isLocal U D d W (by omega) hL' (hA'.below hB) (hR'.below hB)
    rw [hU3, hvv] at K; exact K)
  have HV := Lib.hid (fun W (hB : Below w.heap.size w W) => show Calls Tryz.prog 62 #[.agg (p6 z)] W (fun e w' => e = .returned (.bool true) ∧ Below W.heap.size W w') from by
    have K := impl_valid z.x z.y z.a z.b W lz.1.1 lz.1.2 lz.2.1 lz.2.2 (hRz.below hB)
    rw [show (okx z.x && okx z.y) = true from hz] at K; exact K)
  generalize ofO (accV (cO (tri1 L) (tri2 L) (tri3 L) z) U 3) = X at HM ⊢
  generalize tri1 L = p at HT HM
  generalize tri2 L = q at HT HM
  generalize tri3 L = r at HT HM
  generalize L.length = n at HT ⊢
  unfold MadeQ at HM
  clear hA hR hL hn hU3 hL' hvv hA' hR' lz nz hz hRz
  obtain ⟨P_z, P_o⟩ := blocks2 w (.cells (p6 z) 31) (.cells z3 29)
  have kb := ba2 w (.cells (p6 z) 31) (.cells z3 29)
  have s0 := rblk_cell P_z 0
  have s1 := rblk_cell P_z 1
  have s2 := rblk_cell P_z 2
  have s3 := rblk_cell P_z 3
  have s4 := rblk_cell P_z 4
  have s5 := rblk_cell P_z 5
  go_enter Tryz.func34, Tryz.ntmps34
  go_wp2_with fail
  clear s0 s1 s2 s3 s4 s5
  generalize (w.alloc (.cells (p6 z) 31)).alloc (.cells z3 29) = W1 at P_z P_o kb ⊢
  refine (HI.out _ kb).mono ?_
  rintro e W2 ⟨rfl, hb⟩
  replace P_z := rblk_below P_z hb
  replace P_o := rblk_below P_o hb
  replace kb := bt kb hb
  clear hb
  have s0 := rblk_cell P_z 0
  have s1 := rblk_cell P_z 1
  have s2 := rblk_cell P_z 2
  have s3 := rblk_cell P_z 3
  have s4 := rblk_cell P_z 4
  have s5 := rblk_cell P_z 5
  go_wp2_with fail
  clear s0 s1 s2 s3 s4 s5
  refine (HV.out _ kb).mono ?_
  rintro e W3 ⟨rfl, hb⟩
  replace P_z := rblk_below P_z hb
  replace P_o := rblk_below P_o hb
  replace kb := bt kb hb
  clear hb
  have HG : Hid (w.heap.size + 1 < W3.heap.size) := Lib.hid (rblk_lt P_o)
  go_wp2_with fail
  have hb : Below W3.heap.size W3 W3.drew := (Below.refl _ _).drew
  replace P_o := rblk_below P_o hb
  replace kb := bt kb hb
  have hzW : W3.heap.size ≤ W3.drew.heap.size := Nat.le_refl _
  clear hb
  refine wp_region_held_drew (S := fun w' => w'.heap[w.heap.size]? = some (.cells (p6 z) 31 (0, 0))) (by kernel_rfl) (P_z) (fun hHeld => ?_)
  clear P_z
  generalize W3.drew = Wd at *
  refine tk (i := 0) (v := ?vg3_1) rfl (by kernel_rfl) (fun _ _ _ h => h) (Or.inl ⟨by rfl, ?hg3_1⟩) hHeld ?_
  case hg3_1 => (intro w hSw; (try dsimp only at hSw); go_simp; (try with_reducible rfl))
  try simp only [ps]
  refine tk (i := 2) (v := ?vg3_2) rfl (by kernel_rfl) (fun _ _ _ h => h) (Or.inl ⟨by rfl, ?hg3_2⟩) hHeld ?_
  case hg3_2 => (intro w hSw; (try dsimp only at hSw); go_simp; (try with_reducible rfl))
  try simp only [ps]
  refine tk (i := 3) (v := ?vg3_3) rfl (by kernel_rfl) (fun _ _ _ h => h) (Or.inl ⟨by rfl, ?hg3_3⟩) hHeld ?_
  case hg3_3 => (intro w hSw; (try dsimp only at hSw); have t0 := rblk_cell hSw 0; have t1 := rblk_cell hSw 1; have t2 := rblk_cell hSw 2; have t3 := rblk_cell hSw 3; have t4 := rblk_cell hSw 4; have t5 := rblk_cell hSw 5; go_simp; (try with_reducible rfl))
  try simp only [ps]
  refine rd1 (i := 1) (by kernel_rfl) rfl (fun K hK => ?_)
  go_simp
  (go_at_call 63; ((with_reducible refine (HT.out _ kb).mono ?_); rintro e Wr3_4 ⟨rfl, hb⟩))
  refine hK.out _ _ (rblk_below hHeld hb) (fun hH => ?_)
  replace hHeld := hH
  clear hK K hH
  replace P_o := rblk_below P_o hb
  replace kb := bt kb hb
  have hz1 := hb.size
  clear hb
  try simp only [ps]
  refine rd1 (i := 4) (by kernel_rfl) rfl (fun K hK => ?_)
  go_simp
  (go_at_call 96; ((with_reducible refine (HM.out _ kb).mono ?_); rintro e Wr3_5 ⟨a3, rfl, hcx, hcy, o3, hap3, hb⟩))
  refine hK.out _ _ (rblk_below hHeld hb) (fun hH => ?_)
  replace hHeld := hH
  clear hK K hH
  replace P_o := rblk_below P_o hb
  replace kb := bt kb hb
  clear hb
  try simp only [ps]
  refine rd1 (i := 5) (by kernel_rfl) rfl (fun K hK => ?_)
  have t0 := rblk_cell P_o 0
  have q0 := rblk_free P_o 0
  have t1 := rblk_cell P_o 1
  have q1 := rblk_free P_o 1
  have t2 := rblk_cell P_o 2
  have q2 := rblk_free P_o 2
  go_simp
  clear t0 q0 t1 q1 t2 q2
  have ne : w.heap.size + 1 ≠ w.heap.size := by omega
  refine hK.out _ _ (rblk_other (rblk_other (rblk_other hHeld 0 (.bool X.p) ne) 1 (.slice a3.A X.l.length a3.c) ne) 2 (.slice a3.D X.m.length a3.d) ne) (fun hH => ?_)
  clear hK K hHeld
  have hHeld := hH
  clear hH
  have P_f := rblk_set (rblk_set (rblk_set P_o 0 (.bool X.p)) 1 (.slice a3.A X.l.length a3.c)) 2 (.slice a3.D X.m.length a3.d)
  try simp only [ps]
  refine wpAnyH_done (by kernel_rfl) ?_ _
  have o0 := rblk_cell P_f 0
  have o1 := rblk_cell P_f 1
  have o2 := rblk_cell P_f 2
  go_wp2
  exact bodyPost_ret (v := .agg (r3 X a3)) (by simp [results, Tryz.results34, go_sem, o0, o1, o2]) rfl ⟨a3, rfl, hcx, hcy, owns_end3 o3 (.inl (by have := HG.out; omega)) (by have := HG.out; omega) (Nat.le_refl _) _ _ _, hap3, below_put3 kb (by omega) _ _ _⟩
end Go.Proofs.YtppdholccpgcpaaGreat
