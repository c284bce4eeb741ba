/-
  The walk of the exact law of EntryOf.
-/
import Derived.Test.YtennekieiioilaaGreatLawZ
import Derived.Test.YtennekieiioilaaGreatTk
import Derived.Test.YtennekieiioilaaGreatEnS
import Derived.Test.YtennekieiioilaaGreatEnI
namespace Go.Proofs.YtennekieiioilaaGreat
open Go.ChangeShapes Go.WideShapes Go.ChangeAt Go.RowKit
open Go.ChangeMaps (open_string shut_string)
set_option linter.unusedVariables false
set_option linter.unusedSimpArgs false
set_option maxRecDepth 4000

set_option maxHeartbeats 4000000 in
theorem law_entry (L0 : List MR) (A0 : Option Addr) (c0 : Nat) (x1 : Int) (x2 : Int) (w : World) (hm0 : L0.length ≤ 9223372036854775807) (hL0 : ∀ p, p ∈ L0 → LenX p) (hA0 : RdS w A0 (flatX L0)) (hR0 : Rds w (lrowX L0)) (hx1 : (Lit.int .i64 x1).wf = true) (hx2 : (Lit.int .i64 x2).wf = true) :
    Calls Tryz.prog 3 #[.agg #[.slice A0 L0.length c0], .int .i64 x1, .int .i64 x2] w fun e w' => e = .returned (.bool true) ∧ Below w.heap.size w w' := by
  have R : Hid (∀ W, Below w.heap.size w W → (RdS W A0 (flatX L0) ∧ Rds W (lrowX L0))) := Lib.hid (fun W hb => ⟨hA0.below hb, hR0.below hb⟩)
  have hb1 : -9223372036854775808 ≤ x1 ∧ x1 ≤ 9223372036854775807 := by simpa [Lit.wf, IntKind.min, IntKind.max, IntKind.signed, IntKind.bits] using hx1
  clear hx1
  have hb2 : -9223372036854775808 ≤ x2 ∧ x2 ≤ 9223372036854775807 := by simpa [Lit.wf, IntKind.min, IntKind.max, IntKind.signed, IntKind.bits] using hx2
  clear hx2
  by_cases hg0 : ((L0.length : Int) + szrs L0) ≤ 1048576
  · have zp0 := szrs_pos L0
    obtain ⟨hn0, hS0⟩ := szrs_facts (L := L0) (by omega)
    have SZ0 := Lib.hid (fun W h h2 => szMx_y L0 A0 c0 1048576 W (by omega) (by omega) (by omega) h h2)
    obtain ⟨l1, hl_1⟩ : ∃ l : Int, l = 1048576 - (L0.length : Int) - szrs L0 := ⟨_, rfl⟩
    rw [← hl_1] at SZ0
    have hs1 : ¬ l1 < 0 := by omega
    have T0 := Lib.hid (fun W h h' => toMx_r L0 A0 c0 W hn0 hS0 h h')
    have E0 := Lib.hid (fun M M' A A' c c' W hd hd' h h' => eqMx_d L0 M M' A A' c c' W hn0 hS0 hd hd' h h')
    have MK0 : Hid (∀ (M : List MR) (B : Option Addr) (k : Nat) (lo hi : Nat) (W : World), datX M = datX L0 → hi ≤ W.heap.size → Owns lo hi W (srowX B M) → Aparts (srowX B M) → Calls Tryz.prog 12 #[.agg #[.slice B M.length k], .int .i64 1] W (fun e w' => e = .returned (.int .i64 (nxxs 1 L0)) ∧ True ∧ Turn lo hi W w')) := Lib.hid (fun M B k lo hi W hd hh ow ap => (markMx_r lo hi M B k 1 W (by rw [datX_len hd]; omega) (by omega) (by omega) (by rw [szrs_dat hd]; omega) hh ow ap).mono (fun e w' hm => ⟨by rw [hm.1, nxxs_dat 1 hd], trivial, hm.2.2⟩))
    have hkk0 : nxxs 1 L0 = _ := nxxs_eq 1 L0
    generalize nxxs 1 L0 = K1 at MK0 hkk0
    have hkp : ¬ K1 < 0 := by omega
    clear hkk0
    have shU : Short (ofO (entR L0 x1 x2)) := (entR_fit L0 x1 x2).short
    have HS : Hid (∀ (M0 : List MR) (B0 : Option Addr) (k0 : Nat) (W : World), datX M0 = datX L0 → (∀ p, p ∈ M0 → CapX p) → Rds W (srowX B0 M0) → Calls Tryz.prog 7 #[.agg #[.slice B0 M0.length k0], .int .i64 x1, .int .i64 x2] W (MadeQ W.heap.size (ofO (entR L0 x1 x2)) W)) := Lib.hid (fun M0 B0 k0 W hd0 hc0 h0 => by
      have K := spec_entry M0 B0 k0 x1 x2 W (by rw [datX_len hd0]; omega) (fun p hp => (shortX_dat hS0 hd0 p hp).len) h0.hd h0.tl
      rw [entR_dat hd0] at K; exact K)
    have HI : Hid (∀ (M0 : List MR) (B0 : Option Addr) (k0 : Nat) (W : World), datX M0 = datX L0 → (∀ p, p ∈ M0 → CapX p) → Rds W (srowX B0 M0) → Calls Tryz.prog 9 #[.agg #[.slice B0 M0.length k0], .int .i64 x1, .int .i64 x2] W (MadeQ W.heap.size (ofO (entR L0 x1 x2)) W)) := Lib.hid (fun M0 B0 k0 W hd0 hc0 h0 => by
      have K := impl_entry M0 B0 k0 x1 x2 W (by rw [datX_len hd0]; omega) (fun p hp => (shortX_dat hS0 hd0 p hp).len) h0.hd h0.tl
      rw [entR_dat hd0] at K; exact K)
    generalize ofO (entR L0 x1 x2) = U at HS HI shU
    have HE := Lib.hid (fun (a c : Ad) W h h' => eqRat_t U a c W shU h h')
    have hm1 := nxt_le 1 U
    have hm2 := nxt_up (Int.le_refl 1) shU
    have HM := Lib.hid (fun (a : Ad) lo hi W (hh : hi ≤ W.heap.size) ow ap => (markRat_r lo hi U a 1 W shU (by omega) (by omega) ow ap).mono (fun e w' hm => show e = .returned (.int .i64 (nxt 1 U)) ∧ Owns lo hi w' (rows (mkR 1 U) a) ∧ Turn lo hi W w' from ⟨hm.1, hm.2.1, turn_rows ow hm.2.2⟩))
    have HH := Lib.hid (fun (a : Ad) W h => heldRat_r U a 1 W shU (by omega) (by omega) h)
    have hl1' : ¬ nxt 1 U < 0 := by omega
    clear hm1 hm2
    generalize mkR 1 U = MU at HM HH
    generalize nxt 1 U = KM at HM HH hl1'
    have q3 : (KM != KM) = false := by simp
    clear shU
    unfold MadeQ at HS HI
    generalize hnn0 : L0.length = n0 at SZ0 T0 ⊢
    clear hnn0 hg0 hl_1 hA0 hR0 hL0 hn0 hS0 hm0 zp0
    clear hb1
    clear hb2
    unfold MadeMx at T0
    go_enter Tryz.func3, Tryz.ntmps3
    have kb := ba1 w (.cells #[.slice A0 n0 c0] 24)
    have P_bt3 := heap_alloc_new w (.cells #[.slice A0 n0 c0] 24)
    have c_bt30 : (w.alloc (.cells #[.slice A0 n0 c0] 24)).cell? ⟨w.heap.size, 0, none⟩ = some (.slice A0 n0 c0) := rblk_cell P_bt3 0
    go_wp2_with fail
    clear c_bt30
    have hzW1 : w.heap.size < (w.alloc (.cells #[.slice A0 n0 c0] 24)).heap.size := by simp only [sz1]; omega
    generalize w.alloc (.cells #[.slice A0 n0 c0] 24) = W1 at kb hzW1 P_bt3 ⊢
    refine (SZ0.out _ (R.out _ kb).1 (R.out _ kb).2).mono ?_
    rintro e W2 ⟨rfl, hb⟩
    have hzW2 : W1.heap.size ≤ W2.heap.size := hb.size
    replace P_bt3 := rblk_below P_bt3 hb
    replace kb := bt kb hb
    clear hb
    have c_bt30 : W2.cell? ⟨w.heap.size, 0, none⟩ = some (.slice A0 n0 c0) := rblk_cell P_bt3 0
    go_wp2_with fail
    clear c_bt30
    refine (T0.out _ (R.out _ kb).1 (R.out _ kb).2).mono ?_
    rintro e W3 ⟨M0az, A0az, c0az, rfl, hk0az, hd0az, hc0az, o0az, hap0az, hb⟩
    have hzW3 : W2.heap.size ≤ W3.heap.size := hb.size
    replace P_bt3 := rblk_below P_bt3 hb
    replace kb := bt kb hb
    clear hb
    go_wp2_with fail
    refine (HS.out M0az A0az c0az _ hd0az hc0az o0az.rds).mono ?_
    rintro e W4 ⟨abz, rfl, hxbz, hybz, obz, hapbz, hb⟩
    have hzW4 : W3.heap.size ≤ W4.heap.size := hb.size
    replace P_bt3 := rblk_below P_bt3 hb
    replace o0az := o0az.below hb
    replace kb := bt kb hb
    clear hb
    clear o0az
    have P_bt8 := heap_alloc_new W4 (.cells #[.bool U.p, .slice abz.A U.l.length abz.c, .slice abz.D U.m.length abz.d] 30)
    have hb := ba1 W4 (.cells #[.bool U.p, .slice abz.A U.l.length abz.c, .slice abz.D U.m.length abz.d] 30)
    replace P_bt3 := rblk_below P_bt3 hb
    replace obz := obz.below hb
    replace kb := bt kb hb
    clear hb
    have hzW5 : W4.heap.size < (W4.alloc (.cells #[.bool U.p, .slice abz.A U.l.length abz.c, .slice abz.D U.m.length abz.d] 30)).heap.size := by rw [sz1]; omega
    have c_bt30 : (W4.alloc (.cells #[.bool U.p, .slice abz.A U.l.length abz.c, .slice abz.D U.m.length abz.d] 30)).cell? ⟨w.heap.size, 0, none⟩ = some (.slice A0 n0 c0) := rblk_cell P_bt3 0
    go_wp2_with fail
    clear c_bt30
    generalize W4.alloc (.cells #[.bool U.p, .slice abz.A U.l.length abz.c, .slice abz.D U.m.length abz.d] 30) = W5 at kb hzW5 P_bt3 P_bt8 obz ⊢
    refine (T0.out _ (R.out _ kb).1 (R.out _ kb).2).mono ?_
    rintro e W6 ⟨M0cz, A0cz, c0cz, rfl, hk0cz, hd0cz, hc0cz, o0cz, hap0cz, hb⟩
    have hzW6 : W5.heap.size ≤ W6.heap.size := hb.size
    replace P_bt3 := rblk_below P_bt3 hb
    replace P_bt8 := rblk_below P_bt8 hb
    replace obz := obz.below hb
    replace kb := bt kb hb
    clear hb
    have P_bt9 := heap_alloc_new W6 (.cells #[.slice A0cz M0cz.length c0cz] 34)
    have hb := ba1 W6 (.cells #[.slice A0cz M0cz.length c0cz] 34)
    replace P_bt3 := rblk_below P_bt3 hb
    replace P_bt8 := rblk_below P_bt8 hb
    replace obz := obz.below hb
    replace o0cz := o0cz.below hb
    replace kb := bt kb hb
    clear hb
    have hzW7 : W6.heap.size < (W6.alloc (.cells #[.slice A0cz M0cz.length c0cz] 34)).heap.size := by rw [sz1]; omega
    have c_bt90 : (W6.alloc (.cells #[.slice A0cz M0cz.length c0cz] 34)).cell? ⟨W6.heap.size, 0, none⟩ = some (.slice A0cz M0cz.length c0cz) := rblk_cell P_bt9 0
    go_wp2_with fail
    clear c_bt90
    generalize W6.alloc (.cells #[.slice A0cz M0cz.length c0cz] 34) = W7 at kb hzW7 P_bt3 P_bt8 P_bt9 obz o0cz ⊢
    refine (HI.out M0cz A0cz c0cz _ hd0cz hc0cz o0cz.rds).mono ?_
    rintro e W8 ⟨adz, rfl, hxdz, hydz, odz, hapdz, hb⟩
    have hzW8 : W7.heap.size ≤ W8.heap.size := hb.size
    replace P_bt3 := rblk_below P_bt3 hb
    replace P_bt8 := rblk_below P_bt8 hb
    replace P_bt9 := rblk_below P_bt9 hb
    replace obz := obz.below hb
    replace o0cz := o0cz.below hb
    replace kb := bt kb hb
    clear hb
    have P_bt10 := heap_alloc_new W8 (.cells #[.bool U.p, .slice adz.A U.l.length adz.c, .slice adz.D U.m.length adz.d] 30)
    have hb := ba1 W8 (.cells #[.bool U.p, .slice adz.A U.l.length adz.c, .slice adz.D U.m.length adz.d] 30)
    replace P_bt3 := rblk_below P_bt3 hb
    replace P_bt8 := rblk_below P_bt8 hb
    replace P_bt9 := rblk_below P_bt9 hb
    replace obz := obz.below hb
    replace o0cz := o0cz.below hb
    replace odz := odz.below hb
    replace kb := bt kb hb
    clear hb
    have hzW9 : W8.heap.size < (W8.alloc (.cells #[.bool U.p, .slice adz.A U.l.length adz.c, .slice adz.D U.m.length adz.d] 30)).heap.size := by rw [sz1]; omega
    have c_bt100 : (W8.alloc (.cells #[.bool U.p, .slice adz.A U.l.length adz.c, .slice adz.D U.m.length adz.d] 30)).cell? ⟨W8.heap.size, 0, none⟩ = some (.bool U.p) := rblk_cell P_bt10 0
    have c_bt101 : (W8.alloc (.cells #[.bool U.p, .slice adz.A U.l.length adz.c, .slice adz.D U.m.length adz.d] 30)).cell? ⟨W8.heap.size, 1, none⟩ = some (.slice adz.A U.l.length adz.c) := rblk_cell P_bt10 1
    have c_bt102 : (W8.alloc (.cells #[.bool U.p, .slice adz.A U.l.length adz.c, .slice adz.D U.m.length adz.d] 30)).cell? ⟨W8.heap.size, 2, none⟩ = some (.slice adz.D U.m.length adz.d) := rblk_cell P_bt10 2
    have c_bt80 : (W8.alloc (.cells #[.bool U.p, .slice adz.A U.l.length adz.c, .slice adz.D U.m.length adz.d] 30)).cell? ⟨W4.heap.size, 0, none⟩ = some (.bool U.p) := rblk_cell P_bt8 0
    have c_bt81 : (W8.alloc (.cells #[.bool U.p, .slice adz.A U.l.length adz.c, .slice adz.D U.m.length adz.d] 30)).cell? ⟨W4.heap.size, 1, none⟩ = some (.slice abz.A U.l.length abz.c) := rblk_cell P_bt8 1
    have c_bt82 : (W8.alloc (.cells #[.bool U.p, .slice adz.A U.l.length adz.c, .slice adz.D U.m.length adz.d] 30)).cell? ⟨W4.heap.size, 2, none⟩ = some (.slice abz.D U.m.length abz.d) := rblk_cell P_bt8 2
    go_wp2_with fail
    clear c_bt100 c_bt101 c_bt102 c_bt80 c_bt81 c_bt82
    generalize W8.alloc (.cells #[.bool U.p, .slice adz.A U.l.length adz.c, .slice adz.D U.m.length adz.d] 30) = W9 at kb hzW9 P_bt3 P_bt8 P_bt9 P_bt10 obz o0cz odz ⊢
    refine (HE.out adz abz _ odz.rds obz.rds).mono ?_
    rintro e W10 ⟨rfl, hb⟩
    have hzW10 : W9.heap.size ≤ W10.heap.size := hb.size
    replace P_bt3 := rblk_below P_bt3 hb
    replace P_bt8 := rblk_below P_bt8 hb
    replace P_bt9 := rblk_below P_bt9 hb
    replace P_bt10 := rblk_below P_bt10 hb
    replace obz := obz.below hb
    replace o0cz := o0cz.below hb
    replace odz := odz.below hb
    replace kb := bt kb hb
    clear hb
    go_wp2_with fail
    have hdz := hzdrew W10
    have P_bt3' := rblk_below P_bt3 ((Below.refl W10.heap.size W10).drew)
    have P_bt8' := rblk_below P_bt8 ((Below.refl W10.heap.size W10).drew)
    have P_bt9' := rblk_below P_bt9 ((Below.refl W10.heap.size W10).drew)
    have P_bt10' := rblk_below P_bt10 ((Below.refl W10.heap.size W10).drew)
    replace obz := obz.below ((Below.refl W10.heap.size W10).drew)
    replace o0cz := o0cz.below ((Below.refl W10.heap.size W10).drew)
    replace odz := odz.below ((Below.refl W10.heap.size W10).drew)
    replace kb := bt kb ((Below.refl W10.heap.size W10).drew)
    refine wp_region_held_drew (S := fun w' => w'.heap[W6.heap.size]? = some (.cells #[.slice A0cz M0cz.length c0cz] 34 (0, 0)) ∧ w'.heap[w.heap.size]? = some (.cells #[.slice A0 n0 c0] 24 (0, 0))) (by kernel_rfl) ⟨P_bt9', P_bt3'⟩ (fun hHeld => ?_)
    clear P_bt3
    clear P_bt3'
    clear P_bt8
    have P_bt8 := P_bt8'
    clear P_bt8'
    clear P_bt9
    clear P_bt9'
    clear P_bt10
    have P_bt10 := P_bt10'
    clear P_bt10'
    generalize W10.drew = W11 at *
    refine tk (i := 0) (v := ?vg2_1) rfl (by kernel_rfl) (fun _ _ _ h => h) (Or.inl ⟨by rfl, ?hg2_1⟩) hHeld ?_
    case hg2_1 => (intro w hSw; (try dsimp only at hSw); have t0 := rblk_cell hSw.1 0; clear hSw; go_simp; (try with_reducible rfl))
    try simp only [ps]
    refine tk (i := 1) (v := ?vg2_2) rfl (by kernel_rfl) (fun _ _ _ h => h) (Or.inl ⟨by rfl, ?hg2_2⟩) hHeld ?_
    case hg2_2 => (intro w hSw; (try dsimp only at hSw); have t0 := rblk_cell hSw.2 0; clear hSw; go_simp; (try with_reducible rfl))
    try simp only [ps]
    refine rd1 (i := 2) (by kernel_rfl) rfl (fun K hK => ?_)
    go_simp
    (go_at_call 8; ((with_reducible refine (T0.out _ (R.out _ kb).1 (R.out _ kb).2).mono ?_); rintro e W12 ⟨M0ez, A0ez, c0ez, rfl, hk0ez, hd0ez, hc0ez, o0ez, hap0ez, hb⟩))
    have hzW12 : W11.heap.size ≤ W12.heap.size := hb.size
    refine hK.out _ _ ⟨rblk_below hHeld.1 hb, rblk_below hHeld.2 hb⟩ (fun hH => ?_)
    replace hHeld := hH
    clear hK K hH
    replace kb := bt kb hb
    replace P_bt8 := rblk_below P_bt8 hb
    replace P_bt10 := rblk_below P_bt10 hb
    replace obz := obz.below hb
    replace o0cz := o0cz.below hb
    replace odz := odz.below hb
    clear hb
    try simp only [ps]
    refine rd1 (i := 3) (by kernel_rfl) rfl (fun K hK => ?_)
    go_simp
    (go_at_call 11; ((with_reducible refine (E0.out M0cz M0ez A0cz A0ez c0cz c0ez _ hd0cz hd0ez o0cz.rds o0ez.rds).mono ?_); rintro e W13 ⟨rfl, hb⟩))
    have hzW13 : W12.heap.size ≤ W13.heap.size := hb.size
    refine hK.out _ _ ⟨rblk_below hHeld.1 hb, rblk_below hHeld.2 hb⟩ (fun hH => ?_)
    replace hHeld := hH
    clear hK K hH
    replace kb := bt kb hb
    replace P_bt8 := rblk_below P_bt8 hb
    replace P_bt10 := rblk_below P_bt10 hb
    replace obz := obz.below hb
    replace o0cz := o0cz.below hb
    replace odz := odz.below hb
    replace o0ez := o0ez.below hb
    clear hb
    try simp only [ps]
    refine tk (i := 4) (v := ?vg2_3) rfl (by kernel_rfl) (fun _ _ _ h => h) (Or.inl ⟨by rfl, ?hg2_3⟩) hHeld ?_
    case hg2_3 => (intro w hSw; (try dsimp only at hSw); clear hSw; go_simp; (try with_reducible rfl))
    try simp only [ps]
    refine wpAnyH_done (by kernel_rfl) ?_ _
    have P_bt9 := hHeld.1
    have P_bt3 := hHeld.2
    clear hHeld
    have c_bt90 : W13.cell? ⟨W6.heap.size, 0, none⟩ = some (.slice A0cz M0cz.length c0cz) := rblk_cell P_bt9 0
    go_wp2_with fail
    clear c_bt90
    refine (MK0.out M0cz A0cz c0cz _ _ _ hd0cz (by omega) o0cz hap0cz).mono ?_
    rintro e W14 ⟨rfl, -, hT⟩
    replace P_bt3 := hT.blk P_bt3 (by omega)
    replace P_bt8 := hT.blk P_bt8 (by omega)
    replace P_bt9 := hT.blk P_bt9 (by omega)
    replace P_bt10 := hT.blk P_bt10 (by omega)
    replace kb := hT.below kb (by omega) (by omega)
    replace obz := obz.turn hT (by omega)
    replace odz := odz.turn hT (by omega)
    have hzW14 : W13.heap.size ≤ W14.heap.size := hT.size
    clear hT
    clear o0cz
    have c_bt100 : W14.cell? ⟨W8.heap.size, 0, none⟩ = some (.bool U.p) := rblk_cell P_bt10 0
    have c_bt101 : W14.cell? ⟨W8.heap.size, 1, none⟩ = some (.slice adz.A U.l.length adz.c) := rblk_cell P_bt10 1
    have c_bt102 : W14.cell? ⟨W8.heap.size, 2, none⟩ = some (.slice adz.D U.m.length adz.d) := rblk_cell P_bt10 2
    have c_bt80 : W14.cell? ⟨W4.heap.size, 0, none⟩ = some (.bool U.p) := rblk_cell P_bt8 0
    have c_bt81 : W14.cell? ⟨W4.heap.size, 1, none⟩ = some (.slice abz.A U.l.length abz.c) := rblk_cell P_bt8 1
    have c_bt82 : W14.cell? ⟨W4.heap.size, 2, none⟩ = some (.slice abz.D U.m.length abz.d) := rblk_cell P_bt8 2
    go_wp2_with fail
    clear c_bt100 c_bt101 c_bt102 c_bt80 c_bt81 c_bt82
    refine (HE.out adz abz _ odz.rds obz.rds).mono ?_
    rintro e W15 ⟨rfl, hb⟩
    have hzW15 : W14.heap.size ≤ W15.heap.size := hb.size
    replace P_bt3 := rblk_below P_bt3 hb
    replace P_bt8 := rblk_below P_bt8 hb
    replace P_bt9 := rblk_below P_bt9 hb
    replace P_bt10 := rblk_below P_bt10 hb
    replace obz := obz.below hb
    replace odz := odz.below hb
    replace kb := bt kb hb
    clear hb
    have c_bt100 : W15.cell? ⟨W8.heap.size, 0, none⟩ = some (.bool U.p) := rblk_cell P_bt10 0
    have c_bt101 : W15.cell? ⟨W8.heap.size, 1, none⟩ = some (.slice adz.A U.l.length adz.c) := rblk_cell P_bt10 1
    have c_bt102 : W15.cell? ⟨W8.heap.size, 2, none⟩ = some (.slice adz.D U.m.length adz.d) := rblk_cell P_bt10 2
    go_wp2_with fail
    clear c_bt100 c_bt101 c_bt102
    refine (HM.out adz _ _ _ (by omega) odz hapdz).mono ?_
    rintro e W16 ⟨rfl, odzq, hT⟩
    replace P_bt3 := hT.blk P_bt3 (by omega)
    replace P_bt8 := hT.blk P_bt8 (by omega)
    replace P_bt9 := hT.blk P_bt9 (by omega)
    replace P_bt10 := hT.blk P_bt10 (by omega)
    replace kb := hT.below kb (by omega) (by omega)
    replace obz := obz.turn hT (by omega)
    have hzW16 : W15.heap.size ≤ W16.heap.size := hT.size
    clear hT
    clear odz
    have odz := odzq
    clear odzq
    have c_bt100 : W16.cell? ⟨W8.heap.size, 0, none⟩ = some (.bool U.p) := rblk_cell P_bt10 0
    have c_bt101 : W16.cell? ⟨W8.heap.size, 1, none⟩ = some (.slice adz.A U.l.length adz.c) := rblk_cell P_bt10 1
    have c_bt102 : W16.cell? ⟨W8.heap.size, 2, none⟩ = some (.slice adz.D U.m.length adz.d) := rblk_cell P_bt10 2
    go_wp2_with fail
    clear c_bt100 c_bt101 c_bt102
    refine (HH.out adz _ odz.rds).mono ?_
    rintro e W17 ⟨rfl, hb⟩
    have hzW17 : W16.heap.size ≤ W17.heap.size := hb.size
    replace P_bt3 := rblk_below P_bt3 hb
    replace P_bt8 := rblk_below P_bt8 hb
    replace P_bt9 := rblk_below P_bt9 hb
    replace P_bt10 := rblk_below P_bt10 hb
    replace obz := obz.below hb
    replace odz := odz.below hb
    replace kb := bt kb hb
    clear hb
    have c_bt30 : W17.cell? ⟨w.heap.size, 0, none⟩ = some (.slice A0 n0 c0) := rblk_cell P_bt3 0
    go_wp2_with fail
    clear c_bt30
    refine (T0.out _ (R.out _ kb).1 (R.out _ kb).2).mono ?_
    rintro e W18 ⟨M0fz, A0fz, c0fz, rfl, hk0fz, hd0fz, hc0fz, o0fz, hap0fz, hb⟩
    have hzW18 : W17.heap.size ≤ W18.heap.size := hb.size
    replace P_bt3 := rblk_below P_bt3 hb
    replace P_bt8 := rblk_below P_bt8 hb
    replace P_bt9 := rblk_below P_bt9 hb
    replace P_bt10 := rblk_below P_bt10 hb
    replace obz := obz.below hb
    replace odz := odz.below hb
    replace kb := bt kb hb
    clear hb
    go_wp2_with fail
    refine (HI.out M0fz A0fz c0fz _ hd0fz hc0fz o0fz.rds).mono ?_
    rintro e W19 ⟨agz, rfl, hxgz, hygz, ogz, hapgz, hb⟩
    have hzW19 : W18.heap.size ≤ W19.heap.size := hb.size
    replace P_bt3 := rblk_below P_bt3 hb
    replace P_bt8 := rblk_below P_bt8 hb
    replace P_bt9 := rblk_below P_bt9 hb
    replace P_bt10 := rblk_below P_bt10 hb
    replace obz := obz.below hb
    replace odz := odz.below hb
    replace o0fz := o0fz.below hb
    replace kb := bt kb hb
    clear hb
    clear o0fz
    have P_bt14 := heap_alloc_new W19 (.cells #[.bool U.p, .slice agz.A U.l.length agz.c, .slice agz.D U.m.length agz.d] 30)
    have hb := ba1 W19 (.cells #[.bool U.p, .slice agz.A U.l.length agz.c, .slice agz.D U.m.length agz.d] 30)
    replace P_bt3 := rblk_below P_bt3 hb
    replace P_bt8 := rblk_below P_bt8 hb
    replace P_bt9 := rblk_below P_bt9 hb
    replace P_bt10 := rblk_below P_bt10 hb
    replace obz := obz.below hb
    replace odz := odz.below hb
    replace ogz := ogz.below hb
    replace kb := bt kb hb
    clear hb
    have hzW20 : W19.heap.size < (W19.alloc (.cells #[.bool U.p, .slice agz.A U.l.length agz.c, .slice agz.D U.m.length agz.d] 30)).heap.size := by rw [sz1]; omega
    have c_bt140 : (W19.alloc (.cells #[.bool U.p, .slice agz.A U.l.length agz.c, .slice agz.D U.m.length agz.d] 30)).cell? ⟨W19.heap.size, 0, none⟩ = some (.bool U.p) := rblk_cell P_bt14 0
    have c_bt141 : (W19.alloc (.cells #[.bool U.p, .slice agz.A U.l.length agz.c, .slice agz.D U.m.length agz.d] 30)).cell? ⟨W19.heap.size, 1, none⟩ = some (.slice agz.A U.l.length agz.c) := rblk_cell P_bt14 1
    have c_bt142 : (W19.alloc (.cells #[.bool U.p, .slice agz.A U.l.length agz.c, .slice agz.D U.m.length agz.d] 30)).cell? ⟨W19.heap.size, 2, none⟩ = some (.slice agz.D U.m.length agz.d) := rblk_cell P_bt14 2
    have c_bt80 : (W19.alloc (.cells #[.bool U.p, .slice agz.A U.l.length agz.c, .slice agz.D U.m.length agz.d] 30)).cell? ⟨W4.heap.size, 0, none⟩ = some (.bool U.p) := rblk_cell P_bt8 0
    have c_bt81 : (W19.alloc (.cells #[.bool U.p, .slice agz.A U.l.length agz.c, .slice agz.D U.m.length agz.d] 30)).cell? ⟨W4.heap.size, 1, none⟩ = some (.slice abz.A U.l.length abz.c) := rblk_cell P_bt8 1
    have c_bt82 : (W19.alloc (.cells #[.bool U.p, .slice agz.A U.l.length agz.c, .slice agz.D U.m.length agz.d] 30)).cell? ⟨W4.heap.size, 2, none⟩ = some (.slice abz.D U.m.length abz.d) := rblk_cell P_bt8 2
    go_wp2_with fail
    clear c_bt140 c_bt141 c_bt142 c_bt80 c_bt81 c_bt82
    generalize W19.alloc (.cells #[.bool U.p, .slice agz.A U.l.length agz.c, .slice agz.D U.m.length agz.d] 30) = W20 at kb hzW20 P_bt3 P_bt8 P_bt9 P_bt10 P_bt14 obz odz ogz ⊢
    refine (HE.out agz abz _ ogz.rds obz.rds).mono ?_
    rintro e W21 ⟨rfl, hb⟩
    have hzW21 : W20.heap.size ≤ W21.heap.size := hb.size
    replace P_bt3 := rblk_below P_bt3 hb
    replace P_bt8 := rblk_below P_bt8 hb
    replace P_bt9 := rblk_below P_bt9 hb
    replace P_bt10 := rblk_below P_bt10 hb
    replace P_bt14 := rblk_below P_bt14 hb
    replace obz := obz.below hb
    replace odz := odz.below hb
    replace ogz := ogz.below hb
    replace kb := bt kb hb
    clear hb
    have c_bt100 : W21.cell? ⟨W8.heap.size, 0, none⟩ = some (.bool U.p) := rblk_cell P_bt10 0
    have c_bt101 : W21.cell? ⟨W8.heap.size, 1, none⟩ = some (.slice adz.A U.l.length adz.c) := rblk_cell P_bt10 1
    have c_bt102 : W21.cell? ⟨W8.heap.size, 2, none⟩ = some (.slice adz.D U.m.length adz.d) := rblk_cell P_bt10 2
    go_wp2_with fail
    clear c_bt100 c_bt101 c_bt102
    clear obz ogz
    refine (HH.out adz _ odz.rds).mono ?_
    rintro e W22 ⟨rfl, hb⟩
    have hzW22 : W21.heap.size ≤ W22.heap.size := hb.size
    replace P_bt3 := rblk_below P_bt3 hb
    replace P_bt8 := rblk_below P_bt8 hb
    replace P_bt9 := rblk_below P_bt9 hb
    replace P_bt10 := rblk_below P_bt10 hb
    replace P_bt14 := rblk_below P_bt14 hb
    replace odz := odz.below hb
    replace kb := bt kb hb
    clear hb
    go_wp2
    go_ret
    exact ⟨rfl, kb⟩
  · have SZ0 := Lib.hid (fun W h h2 => szMx_n L0 A0 c0 1048576 W hm0 hL0 (by omega) (by omega) (by omega) h h2)
    clear hg0 hm0 hL0 hA0 hR0 hb1 hb2
    generalize L0.length = n0 at SZ0 ⊢
    go_enter Tryz.func3, Tryz.ntmps3
    have kb := ba1 w (.cells #[.slice A0 n0 c0] 24)
    have P_bt3 := heap_alloc_new w (.cells #[.slice A0 n0 c0] 24)
    have c_bt30 : (w.alloc (.cells #[.slice A0 n0 c0] 24)).cell? ⟨w.heap.size, 0, none⟩ = some (.slice A0 n0 c0) := rblk_cell P_bt3 0
    go_wp2_with fail
    clear c_bt30
    generalize w.alloc (.cells #[.slice A0 n0 c0] 24) = W1 at kb P_bt3 ⊢
    refine (SZ0.out _ (R.out _ kb).1 (R.out _ kb).2).mono ?_
    rintro e W2 ⟨rfl, hb⟩
    have hzW2 : W1.heap.size ≤ W2.heap.size := hb.size
    replace P_bt3 := rblk_below P_bt3 hb
    replace kb := bt kb hb
    clear hb
    go_wp2
    go_ret
    exact ⟨rfl, kb⟩
end Go.Proofs.YtennekieiioilaaGreat
