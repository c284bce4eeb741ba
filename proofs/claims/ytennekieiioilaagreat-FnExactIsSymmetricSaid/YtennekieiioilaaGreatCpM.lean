/-
  Copies of rows whatever they hold: 'l04Copy'.
-/
import Derived.Test.YtennekieiioilaaGreatCpL
import Derived.Test.YtennekieiioilaaGreatPkI
namespace Go.Proofs.YtennekieiioilaaGreat
open Go.ChangeShapes Go.WideShapes Go.ChangeAt Go.RowKit
open Go.ChangeMaps (open_string shut_string)
set_option linter.unusedVariables false
set_option linter.unusedSimpArgs false
set_option maxRecDepth 4000

attribute [local go_sem ↓] Go.wp_at_zero Go.wp_at_succ

theorem new_drew2a (w : World) (o1 o2 : Obj) : ((w.alloc o1).alloc o2).drew.heap[w.heap.size]? = some o1 := (blocks2 w o1 o2).1
theorem new_drew2b (w : World) (o1 o2 : Obj) : ((w.alloc o1).alloc o2).drew.heap[w.heap.size + 1]? = some o2 := (blocks2 w o1 o2).2
theorem keep_e {w w' : World} {g g2 : Nat} {o : Obj} (h : w.heap[g2]? = some o) (hg : w.grownBy w' (some g)) (hne : g2 ≠ g) : w'.heap[g2]? = some o :=
  (hg.block g2 (rblk_lt h) (fun e => hne (by injection e))).trans h
set_option maxHeartbeats 4000000 in
theorem lcopy_l (pr : Bool) (LA LD : List Int) (A D : Option Addr) (n k c d : Nat) (w : World) (hl : LA.length = n) (hm : LD.length = k) (hn : n ≤ 1048576) (hk : k ≤ 1048576) (hA : RdS w A (vi (LA))) (hD : RdS w D (vi (LD))) :
    Calls Tryz.prog 52 #[.agg #[.bool pr, .slice A n c, .slice D k d]] w (MadeR w.heap.size pr (LA) (LD) w) := by
  have RR : Hid (∀ W, Below w.heap.size w W → RdS W A (vi (LA)) ∧ RdS W D (vi (LD))) := Lib.hid (fun W hb => ⟨hA.below hb, hD.below hb⟩)
  have HA := Lib.hid hl
  have HD := Lib.hid hm
  clear hl hm hA hD
  go_enter Tryz.func52, Tryz.ntmps52
  go_wp2_with fail
  have kb := ba2 w (.cells #[.bool pr, .slice A n c, .slice D k d] 30) (.cells #[.bool false, .slice none 0 0, .slice none 0 0] 30)
  obtain ⟨P_r, P_o⟩ := blocks2 w (.cells #[.bool pr, .slice A n c, .slice D k d] 30) (.cells #[.bool false, .slice none 0 0, .slice none 0 0] 30)
  generalize (w.alloc (.cells #[.bool pr, .slice A n c, .slice D k d] 30)).alloc (.cells #[.bool false, .slice none 0 0, .slice none 0 0] 30) = W1 at kb P_r P_o ⊢
  obtain ⟨rr, hrr⟩ : ∃ r, r = w.heap.size + 1 := ⟨_, rfl⟩
  rw [← hrr] at P_o ⊢
  have hrr3 : w.heap.size ≤ rr := by omega
  have nr_r : rr ≠ w.heap.size := by omega
  clear hrr
  have hlt0 := rblk_lt P_o
  have SB : Hid (∀ w', Keep3 W1 w' rr → (w'.cell? ⟨w.heap.size, 0, none⟩ = some (.bool pr) ∧ w'.cell? ⟨w.heap.size, 1, none⟩ = some (.slice A n c) ∧ w'.cell? ⟨w.heap.size, 2, none⟩ = some (.slice D k d) ∧ Keep3 W1 w' rr)) := Lib.hid (fun w' hK => ⟨rblk_cell (hK.block P_r nr_r) 0, rblk_cell (hK.block P_r nr_r) 1, rblk_cell (hK.block P_r nr_r) 2, hK⟩)
  have KW := Lib.hid kb
  have KST := Keep3.start P_o
  clear kb
  go_region_held3 (fun w' => w'.cell? ⟨w.heap.size, 0, none⟩ = some (.bool pr) ∧ w'.cell? ⟨w.heap.size, 1, none⟩ = some (.slice A n c) ∧ w'.cell? ⟨w.heap.size, 2, none⟩ = some (.slice D k d) ∧ Keep3 W1 w' rr)
    (first | (exact SB.out _ KST.drew) | (exact SB.out _ KST) | (exact SB.out _ (KST.below (ba1 _ _))) | (exact SB.out _ (KST.drew.below (ba1 _ _))) | (go_split_ands; exact SB.out _ (Keep3.below (by assumption : Keep3 W1 _ rr) hb)) | (go_split_ands; exact SB.out _ (Keep3.put3 (by assumption : Keep3 W1 _ rr) _ _ _)) | (go_split_ands; exact SB.out _ (Keep3.below (by assumption : Keep3 W1 _ rr) (ba1 _ _))) | (exact SB.out _ hK5) | (exact SB.out _ hK4) | (exact SB.out _ (hK4.below (ba1 _ _))) | (exact SB.out _ ((KST.below (ba1 _ _)).below (ba1 _ _))) | (exact SB.out _ ((KST.drew.below (ba1 _ _)).below (ba1 _ _))))
    (first | ((go_split_ands; refine step_append_e (by rfl) _ _ (by rfl) _ k d LD D _ (by rfl) (by rfl) (by first | exact hg2 | exact heap_alloc_new _ _) hk HD.out (RR.out _ (Keep3.base (by assumption : Keep3 W1 _ rr) KW.out hrr3)).2 ?_; intro A5 c5 W5 hap; obtain ⟨q1, q2, q3⟩ : OwnS W1.heap.size W5 A4 (vi LA) ∧ OwnS W1.heap.size W5 A5 (vi LD) ∧ Apart LA.length A4 k A5 := (by first | exact app_done p1 (Nat.le_refl _) hg2 hap (by first | exact Nat.le_refl _ | exact Nat.le_succ _) | exact app_done (p1.below (ba1 _ _)) (Nat.le_refl _) (heap_alloc_new _ _) hap hsz4); have hc5 := hap.1; have hK5 : Keep3 W1 W5 rr := (by first | exact Keep3.grown hK4 hap.2.2.1 (by first | exact Nat.le_refl _ | exact Nat.le_succ _) hlt0 | exact Keep3.grown (hK4.below (ba1 _ _)) hap.2.2.1 hsz4 hlt0); obtain ⟨u0, u1, u2, t0, t1, t2, t3, t4, t5⟩ := hK5.cells; clear hap)) | ((go_split_ands; refine step_append_e (by rfl) _ _ (by rfl) _ n c LA A _ (by rfl) (by rfl) (by first | exact heap_alloc_new _ _ | exact new_drew _ _ | exact new_drew2a _ _ _ | exact new_drew2b _ _ _ | exact (blocks2 _ _ _).1 | exact (blocks2 _ _ _).2) hn HA.out (RR.out _ (Keep3.base (by assumption : Keep3 W1 _ rr) KW.out hrr3)).1 ?_; intro A4 c4 W4 hap; have p1 : OwnS W1.heap.size W4 A4 (vi LA) := hap.2.1.more (by first | exact Nat.le_refl _ | exact Nat.le_succ _); have hc4 := hap.1; have hK4 := Keep3.grown (by assumption : Keep3 W1 _ rr) hap.2.2.1 (by first | exact Nat.le_refl _ | exact Nat.le_succ _) hlt0; have hsz4 := hK4.size; (first | (have hg2 := keep_e (new_drew2b _ _ _) hap.2.2.1 (Nat.ne_of_gt (Nat.lt_succ_self _))) | (have hg2 := keep_e (new_drew2a _ _ _) hap.2.2.1 (Nat.ne_of_lt (Nat.lt_succ_self _))) | (have hg2 := keep_e (blocks2 _ _ _).2 hap.2.2.1 (Nat.ne_of_gt (Nat.lt_succ_self _))) | (have hg2 := keep_e (blocks2 _ _ _).1 hap.2.2.1 (Nat.ne_of_lt (Nat.lt_succ_self _))) | skip); clear hap)))
  all_goals
    have hfin := (‹_ ∧ _ ∧ _ ∧ Keep3 W1 _ rr›).2.2.2
    go_wp2
    exact bodyPost_ret (v := .agg #[.bool pr, .slice A4 n c4, .slice A5 k c5]) (by simp [results, Tryz.results52, go_sem, t0, t1, t2]) rfl ⟨A4, c4, A5, c5, by rw [HA.out, HD.out], by rw [HA.out]; exact hc4, by rw [HD.out]; exact hc5, (own_put3 q1 hlt0 _ _ _).more KW.out.size, (own_put3 q2 hlt0 _ _ _).more KW.out.size, by rw [HD.out]; exact q3, hfin.base KW.out hrr3⟩
theorem lcopy_x (x : R3) (a : Ad) (w : World) (hs : Short x) (h : Rds w (rows x a)) :
    Calls Tryz.prog 52 #[.agg #[.bool x.p, .slice a.A x.l.length a.c, .slice a.D x.m.length a.d]] w (MadeQ w.heap.size x w) :=
  (lcopy_l x.p x.l x.m a.A a.D x.l.length x.m.length a.c a.d w rfl rfl hs.1 hs.2 (rows_rd h).1 (rows_rd h).2).mono fun e w' h => h.toQ
end Go.Proofs.YtennekieiioilaaGreat
