/-
  The harness' copies of triangles and meshes.
-/
import Derived.Test.YtoknolholccamaaMs
import Derived.Test.YtoknolholccamaaSlT
namespace Go.Proofs.Ytoknolholccamaa
open Go.ChangeShapes Go.WideShapes Go.ChangeAt Go.RowKit
open Go.ChangeMaps (open_string shut_string)
set_option linter.unusedVariables false
set_option linter.unusedSimpArgs false
set_option maxRecDepth 4000

theorem triT_size : (Try.prog.info? 63).map (·.size) = some 5 := by kernel_rfl
theorem timp_agg (w : World) : (isAgg 63).run Try.prog w = .ok true w := by simp [isAgg, run_underlying Try.underlying63]
set_option maxHeartbeats 1000000 in
theorem toTri_r (t : TV) (w : World) : Calls Try.prog 40 #[.agg #[.int .i64 t.a, .int .i64 t.b, .int .i64 t.c, .int .i64 t.r, .int .i64 t.l]] w (fun e w' => e = .returned (.agg #[.int .i64 t.a, .int .i64 t.b, .int .i64 t.c, .int .i64 t.r, .int .i64 t.l]) ∧ Below w.heap.size w w') := by
  go_enter Try.func40, Try.ntmps40
  go_wp2
  exact bodyPost_ret (v := .agg #[.int .i64 t.a, .int .i64 t.b, .int .i64 t.c, .int .i64 t.r, .int .i64 t.l]) (by simp [results, Try.results40, go_sem]) rfl ⟨rfl, ba3 _ _ _ _⟩
theorem tri_info : (Try.prog.info? 63).map (fun i => (i.zero, i.size, i.bytes)) = some (some (.agg #[.int .i64 0, .int .i64 0, .int .i64 0, .int .i64 0, .int .i64 0]), 5, 40) := by kernel_rfl
set_option maxHeartbeats 1000000 in
theorem toTriS_r (L : List TV) (A : Option Addr) (c : Nat) (w : World) (hn' : L.length ≤ 1048576) (hA : RdS w A (flatT L)) :
    Calls Try.prog 26 #[.slice A L.length c] w (MadeTS w.heap.size L w) := by
  obtain ⟨n, hn⟩ : ∃ n, n = L.length := ⟨_, rfl⟩
  have HN := Lib.hid hn
  rw [← hn] at hn' ⊢
  clear hn
  obtain ⟨i0, hi, hz0, hz1, hz2⟩ := info_parts tri_info
  go_enter Try.func26, Try.ntmps26
  go_wp2_with (refine wpList_make_full _ rfl (.tmp 6) (.tmp 6) 32 rfl w.heap.size 63 i0 _ 5 Try.underlying32 hi hz0 hz1 .i64 .i64 n n n rfl rfl rfl rfl (by rw [hz2]; omega) (by simp only [maxLen]; omega) (Nat.le_refl _) ?_; intro w1 hown hg)
  have hb1 : Below w.heap.size w w1 := below_of_grown hg (Nat.le_refl _) (fun g h => by cases h)
  rw [made_flatT] at hown
  have hst := blk_of_made5 hown
  clear hown hg
  go_wp2
  go_loopw [4] (fun i w' => ∃ j : Nat, j ≤ n ∧ i = .int .i64 (j : Int) ∧ w'.heap[w.heap.size]? = some (.cells (flatT (L.take j ++ List.replicate (n - j) TV0)).toArray 63 (0, 0)) ∧ Below w.heap.size w w') (fun i _ => n - (intOf i).toNat)
  case atStart => exact ⟨0, Nat.zero_le _, rfl, hst, hb1⟩
  case round =>
    obtain ⟨j, hj, rfl, hO, hb⟩ := hrel
    clear hst
    by_cases hlt : j < n
    · obtain ⟨p, hp⟩ := getT (show j < L.length by rw [← HN.out]; exact hlt)
      obtain ⟨g, o, rfl, hg, c0, c1, c2, c3, c4⟩ := (hA.below hb).five hp
      have T : Hid (∀ W, Calls Try.prog 40 #[.agg #[.int .i64 p.a, .int .i64 p.b, .int .i64 p.c, .int .i64 p.r, .int .i64 p.l]] W (fun e w' => e = .returned (.agg #[.int .i64 p.a, .int .i64 p.b, .int .i64 p.c, .int .i64 p.r, .int .i64 p.l]) ∧ Below W.heap.size W w')) := Lib.hid (fun W => toTri_r p W)
      have hi0 : (0 : Int) ≤ (j : Int) := by omega
      have hi1 : (j : Int) < (n : Int) := by omega
      have HM : Hid ((L.take j).length = j) := Lib.hid (by rw [List.length_take, ← HN.out]; omega)
      have HZ : Hid ((L.take j ++ List.replicate (n - j) TV0)[j]? = some TV0) := Lib.hid (by
        rw [List.getElem?_append_right (by rw [HM.out]; omega), HM.out, Nat.sub_self]; exact repT_get _ (by omega))
      have hold : j * 5 + 5 ≤ (flatT (L.take j ++ List.replicate (n - j) TV0)).toArray.size := by
        rw [List.size_toArray, flatT_length, List.length_append, List.length_replicate, HM.out]; omega
      have HP := Lib.hid hp
      clear hp
      go_wp2_with fail
      refine (T.out _).mono ?_
      rintro e w2 ⟨rfl, hb2⟩
      replace hO := rblk_below hO hb2
      have hb3 := bt hb hb2
      go_wp2_with (refine wpList_store_at rfl 63 (.tmp 21) (.tmp 20) rfl w.heap.size (j * 5) #[.int .i64 p.a, .int .i64 p.b, .int .i64 p.c, .int .i64 p.r, .int .i64 p.l] rfl rfl 63 _ hO triT_size hold (by simp [Value.oneCell']) ?_)
      go_roundw
      case rel =>
        refine ⟨j + 1, hlt, by go_num, ?_, below_setRow hb3 (Nat.le_refl _) _⟩
        have h6 := flatT_store HZ.out p
        have hrep : List.replicate (n - j) TV0 = TV0 :: List.replicate (n - (j + 1)) TV0 := by rw [show n - j = (n - (j + 1)) + 1 by omega]; rfl
        have hs6 := setT_app (L.take j) j p TV0 (List.replicate (n - (j + 1)) TV0)
        rw [HM.out, ← hrep, ← take_succT HP.out] at hs6
        rw [hs6] at h6
        rw [← h6]
        exact rowV_set hO _
      case measure => simp [intOf]; omega
    · obtain rfl : j = n := by omega
      rw [Nat.sub_self, List.replicate_zero, List.append_nil] at hO
      have hown : OwnS w.heap.size wr (some ⟨w.heap.size, 0, none⟩) (flatT L) := by
        have h := OwnS.of_row hO (Nat.le_refl w.heap.size)
        rw [HN.out, List.take_length] at h
        simpa using h
      have hsz0 := rblk_lt hO
      have HF : Hid (MadeTS w.heap.size L w (.returned (.slice (some ⟨w.heap.size, 0, none⟩) j j)) wr) := Lib.hid (by
        refine ⟨some ⟨w.heap.size, 0, none⟩, j, by rw [HN.out], by rw [HN.out]; exact Nat.le_refl _, Owns.cons hown (fun g hg => by
            unfold rowOf at hg
            split at hg
            · cases hg
            · simp at hg; omega) (Owns.nil _ _ _), hb⟩)
      clear hO hown
      go_wp2
      go_ret
      exact HF.out
set_option maxHeartbeats 1000000 in
theorem toMesh_r (m : MV) (w : World) (hm : ShortM m) (hA : Rds w (srow m.A m.L)) (hB : RdS w m.B (flatT m.T)) :
    Calls Try.prog 13 #[.agg #[.slice m.A m.L.length m.c, .slice m.B m.T.length m.d]] w (MadeM w.heap.size m w) := by
  have TP : Hid (∀ W, Below w.heap.size w W → Calls Try.prog 25 #[.slice m.A m.L.length m.c] W (MadePSp W.heap.size m.L W)) := Lib.hid (fun W hb => toPS_p m.L m.A m.c W hm.1 hm.2.2 (hA.hd.below hb) (hA.tl.below hb))
  have TT : Hid (∀ W, Below w.heap.size w W → Calls Try.prog 26 #[.slice m.B m.T.length m.d] W (MadeTS W.heap.size m.T W)) := Lib.hid (fun W hb => toTriS_r m.T m.B m.d W hm.2.1 (hB.below hb))
  unfold MadePSp at TP
  unfold MadeTS at TT
  clear hA hB hm
  go_enter Try.func13, Try.ntmps13
  go_wp2_with fail
  have kb := ba3 w (.cells #[.slice m.A m.L.length m.c, .slice m.B m.T.length m.d] 25) (.cells #[.slice none 0 0, .slice none 0 0] 34) (.cells #[.slice none 0 0, .slice none 0 0] 34)
  obtain ⟨P_a, P_r, P_o⟩ := blocks3 w (.cells #[.slice m.A m.L.length m.c, .slice m.B m.T.length m.d] 25) (.cells #[.slice none 0 0, .slice none 0 0] 34) (.cells #[.slice none 0 0, .slice none 0 0] 34)
  generalize ((w.alloc (.cells #[.slice m.A m.L.length m.c, .slice m.B m.T.length m.d] 25)).alloc (.cells #[.slice none 0 0, .slice none 0 0] 34)).alloc (.cells #[.slice none 0 0, .slice none 0 0] 34) = W1 at kb P_a P_r P_o ⊢
  have hszS := rblk_lt P_o
  refine (TP.out _ kb).mono ?_
  rintro e W2 ⟨M, A, c, rfl, hc1, hd, hcap, o1, hap1, hb⟩
  replace P_a := rblk_below P_a hb
  replace P_r := rblk_below P_r hb
  replace P_o := rblk_below P_o hb
  replace kb := bt kb hb
  have hszA := hb.size
  have hltO := rblk_lt P_o
  clear hb
  have c_o0 : W2.cell? ⟨w.heap.size + 1 + 1, 0, none⟩ = some (.slice none 0 0) := rblk_cell P_o 0
  have c_o1 : W2.cell? ⟨w.heap.size + 1 + 1, 1, none⟩ = some (.slice none 0 0) := rblk_cell P_o 1
  have c_a0 : W2.cell? ⟨w.heap.size, 0, none⟩ = some (.slice m.A m.L.length m.c) := rblk_cell P_a 0
  have c_a1 : W2.cell? ⟨w.heap.size, 1, none⟩ = some (.slice m.B m.T.length m.d) := rblk_cell P_a 1
  have f_o0 := rblk_free P_o 0
  have f_o1 := rblk_free P_o 1
  go_wp2_with fail
  clear c_o0 c_o1 c_a0 c_a1 f_o0 f_o1
  replace P_a := rblk_other P_a 0 (.slice A M.length c) (show w.heap.size + 1 + 1 ≠ w.heap.size by omega)
  replace P_r := rblk_other P_r 0 (.slice A M.length c) (show w.heap.size + 1 + 1 ≠ w.heap.size + 1 by omega)
  replace P_o := rblk_set P_o 0 (.slice A M.length c)
  replace o1 := o1.put (b := w.heap.size + 1 + 1) (o := 0) (by omega) (.slice A M.length c)
  replace kb := below_put (o := 0) kb (show w.heap.size ≤ w.heap.size + 1 + 1 by omega) (.slice A M.length c)
  have hszW3 : W2.heap.size = (W2.setCell ⟨w.heap.size + 1 + 1, 0, none⟩ (.slice A M.length c)).heap.size := by simp only [put_size]
  generalize W2.setCell ⟨w.heap.size + 1 + 1, 0, none⟩ (.slice A M.length c) = W3 at kb hszW3 P_a P_r P_o o1 ⊢
  refine (TT.out _ kb).mono ?_
  rintro e W4 ⟨B, d, rfl, hc2, o2, hb⟩
  replace P_a := rblk_below P_a hb
  replace P_r := rblk_below P_r hb
  replace P_o := rblk_below P_o hb
  replace o1 := o1.below hb
  replace kb := bt kb hb
  have hszB := hb.size
  clear hb
  have c_o0 : W4.cell? ⟨w.heap.size + 1 + 1, 0, none⟩ = some (.slice A M.length c) := rblk_cell P_o 0
  have c_o1 : W4.cell? ⟨w.heap.size + 1 + 1, 1, none⟩ = some (.slice none 0 0) := rblk_cell P_o 1
  have c_r0 : W4.cell? ⟨w.heap.size + 1, 0, none⟩ = some (.slice none 0 0) := rblk_cell P_r 0
  have c_r1 : W4.cell? ⟨w.heap.size + 1, 1, none⟩ = some (.slice none 0 0) := rblk_cell P_r 1
  have f_o0 := rblk_free P_o 0
  have f_o1 := rblk_free P_o 1
  have f_r0 := rblk_free P_r 0
  have f_r1 := rblk_free P_r 1
  go_wp2
  exact bodyPost_ret (v := .agg #[.slice A M.length c, .slice B m.T.length d]) (by simp [results, Try.results13, go_sem, c_r0, c_r1]) rfl ⟨⟨M, A, c, m.T, B, d⟩, W3.heap.size, rfl, by unfold datM; rw [hd], ⟨hc1, hc2, hcap⟩, ⟨by omega, by simp only [put_size]; omega⟩, Owns.wide (((o1.put (by omega) _).put (by omega) _).put (by omega) _) (by omega) (by omega), Owns.wide (((o2.put (by omega) _).put (by omega) _).put (by omega) _) (by omega) (by simp only [put_size]; omega), hap1, (below_put (below_put (below_put kb (by omega) _) (by omega) _) (by omega) _)⟩
end Go.Proofs.Ytoknolholccamaa
