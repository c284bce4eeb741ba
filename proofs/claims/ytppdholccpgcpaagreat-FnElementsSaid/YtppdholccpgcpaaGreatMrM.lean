/-
  The program's localMatrix.exists and rows.
-/
import Derived.Test.YtppdholccpgcpaaGreatMiM
import Derived.Test.YtppdholccpgcpaaGreatRmW
namespace Go.Proofs.YtppdholccpgcpaaGreat
set_option maxHeartbeats 4000000
open Go.ChangeShapes Go.WideShapes Go.ChangeAt Go.RowKit
set_option linter.unusedVariables false
set_option linter.unusedSimpArgs false
set_option maxRecDepth 4000
theorem fullQ_miss (M : List RV) : fullQ M = !((missB M).any id) := by
  induction M with
  | nil => rfl
  | cons p M ih =>
    show (decide (0 < p.x.m.length) && fullQ M) = !((!decide (0 < p.x.m.length)) || (missB M).any id)
    rw [ih]
    cases decide (0 < p.x.m.length) <;> cases (missB M).any id <;> rfl
attribute [local go_sem ↓] Go.wp_at_zero Go.wp_at_succ
attribute [local go_sem high] run_eq9
theorem exists_m (M : List RV) (w : World) (h9 : M.length = 9) (hL : ∀ p, p ∈ M → LenQ p) :
    Calls Tryz.prog 151 #[.agg (flatQ M).toArray] w (fun e w' => e = .returned (.bool (fullQ M)) ∧ Below w.heap.size w w') := by
  have HM := Lib.hid (fun W => missing_m M W h9 hL)
  unfold MadeB9 at HM
  have hsz : (flatQ M).toArray.size = 27 := by rw [List.size_toArray, flatQ_length, h9]
  rw [fullQ_miss]
  generalize missB M = L at HM ⊢
  generalize hC : (flatQ M).toArray = C at hsz HM ⊢
  clear hC hL h9
  have hz27 : (Tryz.prog.info? 100).map (·.size) = some C.size := by rw [hsz]; exact m9_size
  have P_m := heap_alloc_new w (.cells C 100)
  have kb := ba1 w (.cells C 100)
  have hld := cells_row P_m
  go_enter Tryz.func151, Tryz.ntmps151
  go_wp2_with (first | refine wpList_load_at rfl 100 (.tmp 1) rfl (w.heap.size) 0 C rfl m9_agg (run_size hz27) hld ?_)
  clear hld
  generalize w.alloc (.cells C 100) = W1 at P_m kb ⊢
  refine (HM.out _).mono ?_
  rintro e W2 ⟨b0, b1, b2, b3, b4, b5, b6, b7, b8, rfl, hl, hb⟩
  have HL : Hid ((!b0 && (!b1 && !b2) && (!b3 && (!b4 && !b5) && (!b6 && (!b7 && !b8)))) = !(L.any id)) := Lib.hid (by
    rw [← hl]; simp [Bool.and_assoc])
  have kb2 := bt kb hb
  clear hl hb kb P_m
  go_wp2
  go_ret
  exact ⟨by rw [← HL.out]; rfl, kb2⟩
theorem lr_info : (Tryz.prog.info? 33).map (fun i => (i.zero, i.size, i.bytes)) = some (some (.slice none 0 0), 1, 24) := by kernel_rfl
def MadeWin (M : List RV) (w : World) (e : Ending) (w' : World) : Prop :=
  ∃ gs : Nat, e = .returned (.slice (some ⟨gs, 0, none⟩) 3 3) ∧ w.heap.size < gs ∧ w'.heap[gs]? = some (.cells #[.slice (some ⟨w.heap.size, 0, none⟩) 3 3, .slice (some ⟨w.heap.size, 9, none⟩) 3 3, .slice (some ⟨w.heap.size, 18, none⟩) 3 3] 33 (0, 0)) ∧ w'.heap[w.heap.size]? = some (.cells (flatQ M).toArray 100 (0, 0)) ∧ Below w.heap.size w w'
theorem made3s : (madeCells (Value.slice none 0 0).cells (3 * 1)).toList = [.slice none 0 0, .slice none 0 0, .slice none 0 0] := by kernel_rfl
theorem blk_of_made1 {w : World} {base g n : Nat} {T : TypeId} {xs : List Value} (h : w.ownsRow base T 1 (.slice (some ⟨g, 0, none⟩) n n) n xs) : w.heap[g]? = some (.cells xs.toArray T (0, 0)) := by
  obtain ⟨hl, hr⟩ := h
  rcases hr with ⟨hv, _⟩ | ⟨g', cap, cur, hv, hbg, hh, hnc, hm, hsz, htake⟩
  · cases hv
  · injection hv with e1 e2 e3
    injection e1 with e1
    injection e1 with e1
    subst e1; subst e3
    have : cur = xs.toArray := by
      rw [← htake, List.take_of_length_le (by rw [Array.length_toList]; omega)]
    rw [hh, this]
theorem rows_n (M : List RV) (w : World) (h9 : M.length = 9) (hL : ∀ p, p ∈ M → LenQ p) (hf : fullQ M = false) :
    Calls Tryz.prog 85 #[.agg (flatQ M).toArray] w (fun e w' => e = .returned (.slice none 0 0) ∧ Below w.heap.size w w') := by
  have HM := Lib.hid (fun W => exists_m M W h9 hL)
  rw [hf] at HM
  have hsz : (flatQ M).toArray.size = 27 := by rw [List.size_toArray, flatQ_length, h9]
  generalize hC : (flatQ M).toArray = C at hsz HM ⊢
  clear hC hL h9 hf
  have hz27 : (Tryz.prog.info? 100).map (·.size) = some C.size := by rw [hsz]; exact m9_size
  have P_m := heap_alloc_new w (.cells C 100)
  have kb := ba1 w (.cells C 100)
  have hld := cells_row P_m
  go_enter Tryz.func85, Tryz.ntmps85
  go_wp2_with (first | refine wpList_load_at rfl 100 (.tmp 1) rfl (w.heap.size) 0 C rfl m9_agg (run_size hz27) hld ?_)
  clear hld
  generalize w.alloc (.cells C 100) = W1 at P_m kb ⊢
  refine (HM.out _).mono ?_
  rintro e W2 ⟨rfl, hb⟩
  have kb2 := bt kb hb
  clear hb kb P_m
  go_wp2
  go_ret
  exact ⟨rfl, kb2⟩
theorem rows_y (M : List RV) (w : World) (h9 : M.length = 9) (hL : ∀ p, p ∈ M → LenQ p) (hf : fullQ M = true) :
    Calls Tryz.prog 85 #[.agg (flatQ M).toArray] w (MadeWin M w) := by
  have HM := Lib.hid (fun W => exists_m M W h9 hL)
  rw [hf] at HM
  have hsz : (flatQ M).toArray.size = 27 := by rw [List.size_toArray, flatQ_length, h9]
  unfold MadeWin
  generalize hC : (flatQ M).toArray = C at hsz HM ⊢
  clear hC hL h9 hf
  have hz27 : (Tryz.prog.info? 100).map (·.size) = some C.size := by rw [hsz]; exact m9_size
  have P_m := heap_alloc_new w (.cells C 100)
  have kb := ba1 w (.cells C 100)
  have hld := cells_row P_m
  obtain ⟨i0, hi, hz0, hz1, hz2⟩ := info_parts lr_info
  go_enter Tryz.func85, Tryz.ntmps85
  go_wp2_with (first | refine wpList_load_at rfl 100 (.tmp 1) rfl (w.heap.size) 0 C rfl m9_agg (run_size hz27) hld ?_)
  clear hld
  generalize w.alloc (.cells C 100) = W1 at P_m kb ⊢
  refine (HM.out _).mono ?_
  rintro e W2 ⟨rfl, hb⟩
  replace P_m := rblk_below P_m hb
  replace kb := bt kb hb
  clear hb
  go_wp2_with (first | (refine wpList_make_full _ rfl (.const (.int .i64 3)) (.const (.int .i64 3)) 47 rfl W2.heap.size 33 i0 _ 1 Tryz.underlying47 hi hz0 hz1 .i64 .i64 3 3 3 rfl rfl rfl rfl (by rw [hz2]; omega) (by simp only [maxLen]; omega) (Nat.le_refl _) ?_; intro w1 hown hg))
  have hb1 : Below W2.heap.size W2 w1 := below_of_grown hg (Nat.le_refl _) (fun g h => by cases h)
  rw [made3s] at hown
  have P_s : w1.heap[W2.heap.size]? = some (.cells #[.slice none 0 0, .slice none 0 0, .slice none 0 0] 33 (0, 0)) := blk_of_made1 hown
  clear hown hg hi hz0 hz1 hz2
  have HG : Hid (w.heap.size < W2.heap.size) := Lib.hid (rblk_lt P_m)
  replace P_m := rblk_below P_m hb1
  replace kb := bt kb hb1
  clear hb1
  generalize W2.heap.size = gs at P_s HG ⊢
  go_wp2_with fail
  go_loopw [9] (fun k w' => ((k = .int .i64 (0 : Int) ∧ w'.heap[gs]? = some (.cells #[.slice none 0 0, .slice none 0 0, .slice none 0 0] 33 (0, 0))) ∨ (k = .int .i64 (1 : Int) ∧ w'.heap[gs]? = some (.cells #[.slice (some ⟨w.heap.size, 0, none⟩) 3 3, .slice none 0 0, .slice none 0 0] 33 (0, 0))) ∨ (k = .int .i64 (2 : Int) ∧ w'.heap[gs]? = some (.cells #[.slice (some ⟨w.heap.size, 0, none⟩) 3 3, .slice (some ⟨w.heap.size, 9, none⟩) 3 3, .slice none 0 0] 33 (0, 0))) ∨ (k = .int .i64 (3 : Int) ∧ w'.heap[gs]? = some (.cells #[.slice (some ⟨w.heap.size, 0, none⟩) 3 3, .slice (some ⟨w.heap.size, 9, none⟩) 3 3, .slice (some ⟨w.heap.size, 18, none⟩) 3 3] 33 (0, 0)))) ∧ w'.heap[w.heap.size]? = some (.cells C 100 (0, 0)) ∧ Below w.heap.size w w') (fun k _ => 3 - (intOf k).toNat)
  case atStart => exact ⟨.inl ⟨rfl, P_s⟩, P_m, kb⟩
  case round =>
    clear P_s P_m kb
    obtain ⟨hc, P_m, kb⟩ := hrel
    rcases hc with ⟨rfl, P_s⟩ | ⟨rfl, P_s⟩ | ⟨rfl, P_s⟩ | ⟨rfl, P_s⟩
    · have c0 := rblk_cell P_s 0
      have f0 := rblk_free P_s 0
      have ne : gs ≠ w.heap.size := by have := HG.out; omega
      have HF := Lib.hid (And.intro (rblk_set P_s 0 (.slice (some ⟨w.heap.size, 0, none⟩) 3 3)) (And.intro (rblk_other P_m 0 (.slice (some ⟨w.heap.size, 0, none⟩) 3 3) ne) (below_put (o := 0) kb (show w.heap.size ≤ gs by have := HG.out; omega) (.slice (some ⟨w.heap.size, 0, none⟩) 3 3))))
      clear P_s P_m kb ne
      go_wp2
      go_roundw
      case rel => exact ⟨.inr (.inl ⟨by go_num, HF.out.1⟩), HF.out.2.1, HF.out.2.2⟩
      case measure => simp [intOf]
    · have c0 := rblk_cell P_s 1
      have f0 := rblk_free P_s 1
      have ne : gs ≠ w.heap.size := by have := HG.out; omega
      have HF := Lib.hid (And.intro (rblk_set P_s 1 (.slice (some ⟨w.heap.size, 9, none⟩) 3 3)) (And.intro (rblk_other P_m 1 (.slice (some ⟨w.heap.size, 9, none⟩) 3 3) ne) (below_put (o := 1) kb (show w.heap.size ≤ gs by have := HG.out; omega) (.slice (some ⟨w.heap.size, 9, none⟩) 3 3))))
      clear P_s P_m kb ne
      go_wp2
      go_roundw
      case rel => exact ⟨.inr (.inr (.inl ⟨by go_num, HF.out.1⟩)), HF.out.2.1, HF.out.2.2⟩
      case measure => simp [intOf]
    · have c0 := rblk_cell P_s 2
      have f0 := rblk_free P_s 2
      have ne : gs ≠ w.heap.size := by have := HG.out; omega
      have HF := Lib.hid (And.intro (rblk_set P_s 2 (.slice (some ⟨w.heap.size, 18, none⟩) 3 3)) (And.intro (rblk_other P_m 2 (.slice (some ⟨w.heap.size, 18, none⟩) 3 3) ne) (below_put (o := 2) kb (show w.heap.size ≤ gs by have := HG.out; omega) (.slice (some ⟨w.heap.size, 18, none⟩) 3 3))))
      clear P_s P_m kb ne
      go_wp2
      go_roundw
      case rel => exact ⟨.inr (.inr (.inr ⟨by go_num, HF.out.1⟩)), HF.out.2.1, HF.out.2.2⟩
      case measure => simp [intOf]
    · have HF : Hid (w.heap.size < gs ∧ wr.heap[gs]? = some (.cells #[.slice (some ⟨w.heap.size, 0, none⟩) 3 3, .slice (some ⟨w.heap.size, 9, none⟩) 3 3, .slice (some ⟨w.heap.size, 18, none⟩) 3 3] 33 (0, 0)) ∧ wr.heap[w.heap.size]? = some (.cells C 100 (0, 0)) ∧ Below w.heap.size w wr) := Lib.hid ⟨HG.out, P_s, P_m, kb⟩
      clear P_s P_m kb HG
      go_wp2
      go_ret
      exact ⟨gs, rfl, HF.out⟩
end Go.Proofs.YtppdholccpgcpaaGreat
