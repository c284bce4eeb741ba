/-
  Two arrays of three arrays of three bools compared.
-/
import Derived.Test.YtppdholccpgcpaaGreatArQ
import Derived.Test.YtppdholccpgcpaaGreatPtJ
namespace Go.Proofs.YtppdholccpgcpaaGreat
open Go.ChangeShapes Go.WideShapes Go.ChangeAt Go.RowKit
open Go.ChangeMaps (open_string shut_string)
set_option linter.unusedVariables false
set_option linter.unusedSimpArgs false
set_option maxRecDepth 4000
theorem b1_size : (Tryz.prog.info? 4).map (·.size) = some 1 := by kernel_rfl
theorem b3_size : (Tryz.prog.info? 168).map (·.size) = some 3 := by kernel_rfl
theorem b3_agg (w : World) : (isAgg 168).run Tryz.prog w = .ok true w := by simp [isAgg, run_underlying Tryz.underlying168]
theorem b1_agg (w : World) : (isAgg 4).run Tryz.prog w = .ok false w := by simp [isAgg, run_underlying Tryz.underlying4]
theorem b9_size : (Tryz.prog.info? 169).map (·.size) = some 9 := by kernel_rfl
theorem b9_agg (w : World) : (isAgg 169).run Tryz.prog w = .ok true w := by simp [isAgg, run_underlying Tryz.underlying169]
theorem run_eq3 (d : Nat) (a b c : Bool) (w : World) : (Op.equalIn (d + 2) 168 (.agg #[.bool a, .bool b, .bool c]) (.agg #[.bool false, .bool false, .bool false])).run Tryz.prog w = .ok (!(a || (b || c))) w := by
  have e : ∀ (x : Bool) (w : World), (Op.equalIn (d + 1) 4 (.bool x) (.bool false)).run Tryz.prog w = .ok (!x) w := fun x w => by
    rw [run_equalIn_bool' w d 4 x false Tryz.underlying4]; cases x <;> rfl
  rw [Op.equalIn]
  simp only [Sem.run_bind, run_underlying Tryz.underlying168, Result.andThen_ok, run_size b1_size]
  simp only [Std.Legacy.Range.forIn_eq_forIn_range', Std.Legacy.Range.size, Nat.sub_zero, Nat.add_sub_cancel, Nat.div_one, List.range'_succ, List.range'_zero, List.forIn_cons, List.forIn_nil]
  cases a <;> cases b <;> cases c <;> simp [Go.part, b1_agg, e]
theorem run_eq9 (b0 b1 b2 b3 b4 b5 b6 b7 b8 : Bool) (w : World) : (Op.equalIn 10000 169 (.agg #[.bool b0, .bool b1, .bool b2, .bool b3, .bool b4, .bool b5, .bool b6, .bool b7, .bool b8]) (.agg #[.bool false, .bool false, .bool false, .bool false, .bool false, .bool false, .bool false, .bool false, .bool false])).run Tryz.prog w = .ok (!((b0 || (b1 || b2)) || ((b3 || (b4 || b5)) || (b6 || (b7 || b8))))) w := by
  have e : ∀ (x y z : Bool) (w : World), (Op.equalIn 9999 168 (.agg #[.bool x, .bool y, .bool z]) (.agg #[.bool false, .bool false, .bool false])).run Tryz.prog w = .ok (!(x || (y || z))) w := fun x y z w => run_eq3 9997 x y z w
  rw [show (10000 : Nat) = 9999 + 1 from rfl, Op.equalIn]
  simp only [Sem.run_bind, run_underlying Tryz.underlying169, Result.andThen_ok, run_size b3_size]
  simp only [Std.Legacy.Range.forIn_eq_forIn_range', Std.Legacy.Range.size, Nat.sub_zero, Nat.add_sub_cancel, Nat.div_one, List.range'_succ, List.range'_zero, List.forIn_cons, List.forIn_nil]
  have e0 := e b0 b1 b2
  have e1 := e b3 b4 b5
  have e2 := e b6 b7 b8
  obtain ⟨x, hx⟩ : ∃ x, x = (b0 || (b1 || b2)) := ⟨_, rfl⟩
  obtain ⟨y, hy⟩ : ∃ x, x = (b3 || (b4 || b5)) := ⟨_, rfl⟩
  obtain ⟨z, hz⟩ : ∃ x, x = (b6 || (b7 || b8)) := ⟨_, rfl⟩
  rw [← hx] at e0 ⊢
  rw [← hy] at e1 ⊢
  rw [← hz] at e2 ⊢
  clear hx hy hz e
  cases x <;> cases y <;> cases z <;> simp [Go.part, b3_agg, run_size b3_size, e0, e1, e2]
end Go.Proofs.YtppdholccpgcpaaGreat
namespace Go.Proofs.YtppdholccpgcpaaGreat
open Go.ChangeShapes Go.WideShapes Go.ChangeAt Go.RowKit
open Go.ChangeMaps (open_string shut_string)
set_option linter.unusedVariables false
set_option linter.unusedSimpArgs false
set_option maxRecDepth 4000
attribute [local go_sem ↓] Go.wp_at_zero Go.wp_at_succ
set_option maxHeartbeats 1000000 in
theorem share_y (i j : Nat) (w : World) (h : i = j) :
    Calls Tryz.prog 152 #[.int .i64 (i : Int), .int .i64 (j : Int)] w (MadeQ w.heap.size (ofO (ofQ 1 6)) w) := by
  have HO := Lib.hid (fun W => show Calls Tryz.prog 82 #[.int .i64 1, .int .i64 6] W (MadeQ W.heap.size (ofO (ofQ 1 6)) W) from (impl_rof 1 6 W (by decide) (by decide)).mono fun e w' k => MadeR.toQ (x := ofO (ofQ 1 6)) k)
  have q : ((i : Int) == (j : Int)) = true := by simp [h]
  generalize ofO (ofQ 1 6) = U at HO ⊢
  unfold MadeQ at HO
  clear h
  have P_o := heap_alloc_new w (.cells #[.bool false, .slice none 0 0, .slice none 0 0] 29)
  have kb := ba1 w (.cells #[.bool false, .slice none 0 0, .slice none 0 0] 29)
  go_enter Tryz.func152, Tryz.ntmps152
  go_wp2_with fail
  generalize w.alloc (.cells #[.bool false, .slice none 0 0, .slice none 0 0] 29) = W1 at P_o kb ⊢
  have hlt := rblk_lt P_o
  refine (HO.out _).mono ?_
  rintro e W2 ⟨a3, rfl, hx, hy, o3, hap, hb⟩
  replace P_o := rblk_below P_o hb
  replace kb := bt kb hb
  clear hb
  have c0 : W2.cell? ⟨w.heap.size, 0, none⟩ = some (.bool false) := rblk_cell P_o 0
  have c1 : W2.cell? ⟨w.heap.size, 1, none⟩ = some (.slice none 0 0) := rblk_cell P_o 1
  have c2 : W2.cell? ⟨w.heap.size, 2, none⟩ = some (.slice none 0 0) := rblk_cell P_o 2
  have f0 := rblk_free P_o 0
  have f1 := rblk_free P_o 1
  have f2 := rblk_free P_o 2
  go_wp2
  exact bodyPost_ret (v := .agg #[.bool U.p, .slice a3.A U.l.length a3.c, .slice a3.D U.m.length a3.d]) (by simp [results, Tryz.results152, go_sem, c0, c1, c2]) rfl ⟨a3, rfl, hx, hy, owns_end3 o3 (.inl hlt) (Nat.le_of_lt hlt) (Nat.le_refl _) _ _ _, hap, below_put3 kb (Nat.le_refl _) _ _ _⟩
set_option maxHeartbeats 1000000 in
theorem share_n (i j : Nat) (w : World) (h : ¬ i = j) :
    Calls Tryz.prog 152 #[.int .i64 (i : Int), .int .i64 (j : Int)] w (MadeQ w.heap.size (ofO (ofQ 1 12)) w) := by
  have HO := Lib.hid (fun W => show Calls Tryz.prog 82 #[.int .i64 1, .int .i64 12] W (MadeQ W.heap.size (ofO (ofQ 1 12)) W) from (impl_rof 1 12 W (by decide) (by decide)).mono fun e w' k => MadeR.toQ (x := ofO (ofQ 1 12)) k)
  have q : ((i : Int) == (j : Int)) = false := by rw [beq_eq_false_iff_ne]; omega
  generalize ofO (ofQ 1 12) = U at HO ⊢
  unfold MadeQ at HO
  clear h
  have P_o := heap_alloc_new w (.cells #[.bool false, .slice none 0 0, .slice none 0 0] 29)
  have kb := ba1 w (.cells #[.bool false, .slice none 0 0, .slice none 0 0] 29)
  go_enter Tryz.func152, Tryz.ntmps152
  go_wp2_with fail
  generalize w.alloc (.cells #[.bool false, .slice none 0 0, .slice none 0 0] 29) = W1 at P_o kb ⊢
  have hlt := rblk_lt P_o
  refine (HO.out _).mono ?_
  rintro e W2 ⟨a3, rfl, hx, hy, o3, hap, hb⟩
  replace P_o := rblk_below P_o hb
  replace kb := bt kb hb
  clear hb
  have c0 : W2.cell? ⟨w.heap.size, 0, none⟩ = some (.bool false) := rblk_cell P_o 0
  have c1 : W2.cell? ⟨w.heap.size, 1, none⟩ = some (.slice none 0 0) := rblk_cell P_o 1
  have c2 : W2.cell? ⟨w.heap.size, 2, none⟩ = some (.slice none 0 0) := rblk_cell P_o 2
  have f0 := rblk_free P_o 0
  have f1 := rblk_free P_o 1
  have f2 := rblk_free P_o 2
  go_wp2
  exact bodyPost_ret (v := .agg #[.bool U.p, .slice a3.A U.l.length a3.c, .slice a3.D U.m.length a3.d]) (by simp [results, Tryz.results152, go_sem, c0, c1, c2]) rfl ⟨a3, rfl, hx, hy, owns_end3 o3 (.inl hlt) (Nat.le_of_lt hlt) (Nat.le_refl _) _ _ _, hap, below_put3 kb (Nat.le_refl _) _ _ _⟩
theorem share_any (i j : Nat) (w : World) : Calls Tryz.prog 152 #[.int .i64 (i : Int), .int .i64 (j : Int)] w (MadeQ w.heap.size (ofO (ofQ 1 (if i = j then 6 else 12))) w) := by
  by_cases h : i = j
  · rw [if_pos h]; exact share_y i j w h
  · rw [if_neg h]; exact share_n i j w h
end Go.Proofs.YtppdholccpgcpaaGreat
