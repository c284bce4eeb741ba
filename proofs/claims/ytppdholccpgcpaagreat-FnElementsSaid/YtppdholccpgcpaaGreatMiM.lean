/-
  The program's localMatrix.missing: which elements are missing.
-/
import Derived.Test.YtppdholccpgcpaaGreatWp
import Derived.Test.YtppdholccpgcpaaGreatEq9
import Derived.Test.YtppdholccpgcpaaGreatConQ
import Derived.Test.YtppdholccpgcpaaGreatWg
import Derived.Test.YtppdholccpgcpaaGreatTriC
namespace Go.Proofs.YtppdholccpgcpaaGreat
open Go.ChangeShapes Go.WideShapes Go.ChangeAt Go.RowKit
set_option linter.unusedVariables false
set_option linter.unusedSimpArgs false
set_option maxRecDepth 4000
def bl (L : List Bool) : List Value := L.map Value.bool
theorem bl_set {L : List Bool} {n k : Nat} (hL : L.length = k) (b : Bool) : (bl (L ++ List.replicate (n + 1) false)).toArray.setIfInBounds k (.bool b) = (bl ((L ++ [b]) ++ List.replicate n false)).toArray := by
  subst hL
  rw [List.setIfInBounds_toArray]
  congr 1
  unfold bl
  rw [List.replicate_succ, List.map_append, List.map_cons, List.map_append, List.map_append, List.set_append_right _ _ (by rw [List.length_map]; exact Nat.le_refl _), List.length_map, Nat.sub_self]
  simp
theorem bl_get {L : List Bool} {n k : Nat} (hL : L.length = k) : (bl (L ++ List.replicate (n + 1) false)).toArray[k]? = some (.bool false) := by
  subst hL
  unfold bl
  simp [List.getElem?_append_right]
theorem nine_b {L : List Bool} (h : L.length = 9) : ∃ b0 b1 b2 b3 b4 b5 b6 b7 b8, L = [b0, b1, b2, b3, b4, b5, b6, b7, b8] := by
  match L, h with
  | [b0, b1, b2, b3, b4, b5, b6, b7, b8], _ => exact ⟨b0, b1, b2, b3, b4, b5, b6, b7, b8, rfl⟩
def missB (M : List RV) : List Bool := M.map (fun p => !decide (0 < p.x.m.length))
theorem missB_take {M : List RV} {k : Nat} {p : RV} (h : M[k]? = some p) : (missB M).take (k + 1) = (missB M).take k ++ [!decide (0 < p.x.m.length)] := by
  unfold missB
  rw [List.take_add_one, List.getElem?_map, h]; rfl
def MadeB9 (M : List RV) (w : World) (e : Ending) (w' : World) : Prop := ∃ b0 b1 b2 b3 b4 b5 b6 b7 b8 : Bool, e = .returned (.agg #[.bool b0, .bool b1, .bool b2, .bool b3, .bool b4, .bool b5, .bool b6, .bool b7, .bool b8]) ∧ [b0, b1, b2, b3, b4, b5, b6, b7, b8] = missB M ∧ Below w.heap.size w w'
attribute [local go_sem ↓] Go.wp_at_zero Go.wp_at_succ
set_option maxHeartbeats 4000000 in
theorem missing_m (M : List RV) (w : World) (h9 : M.length = 9) (hL : ∀ p, p ∈ M → LenQ p) :
    Calls Tryz.prog 191 #[.agg (flatQ M).toArray] w (MadeB9 M w) := by
  have hsz : (flatQ M).toArray.size = 27 := by rw [List.size_toArray, flatQ_length, h9]
  have HI := Lib.hid (fun (i : Nat) (hi : i < 3) W => run_idxM h9 (i := i) hi W)
  have HR : Hid (∀ i, i < 3 → ((M.drop (3 * i)).take 3).length = 3 ∧ ∀ j, j < 3 → ((M.drop (3 * i)).take 3)[j]? = M[3 * i + j]?) := Lib.hid (fun i hi => by
    refine ⟨by rw [List.length_take, List.length_drop]; omega, fun j hj => ?_⟩
    rw [List.getElem?_take, if_pos hj, List.getElem?_drop])
  have HLL := Lib.hid hL
  have H9 := Lib.hid h9
  clear hL h9
  generalize hC : (flatQ M).toArray = C at hsz HI ⊢
  clear hC
  have hz27 : (Tryz.prog.info? 100).map (·.size) = some C.size := by rw [hsz]; exact m9_size
  have hcl : (Value.agg C).cells = C := rfl
  obtain ⟨P_m, P_o, P_s⟩ := blocks3 w (.cells C 100) (.cells #[.bool false, .bool false, .bool false, .bool false, .bool false, .bool false, .bool false, .bool false, .bool false] 169) (.cells #[.bool false, .bool false, .bool false, .bool false, .bool false, .bool false, .bool false, .bool false, .bool false] 169)
  have kb := ba3 w (.cells C 100) (.cells #[.bool false, .bool false, .bool false, .bool false, .bool false, .bool false, .bool false, .bool false, .bool false] 169) (.cells #[.bool false, .bool false, .bool false, .bool false, .bool false, .bool false, .bool false, .bool false, .bool false] 169)
  go_enter Tryz.func191, Tryz.ntmps191
  go_upto_region 2 with fail
  generalize ((w.alloc (.cells C 100)).alloc (.cells #[.bool false, .bool false, .bool false, .bool false, .bool false, .bool false, .bool false, .bool false, .bool false] 169)).alloc (.cells #[.bool false, .bool false, .bool false, .bool false, .bool false, .bool false, .bool false, .bool false, .bool false] 169) = W1 at P_m P_o P_s kb ⊢
  have HGS : Hid (w.heap.size < w.heap.size + 1 + 1 ∧ w.heap.size + 1 < w.heap.size + 1 + 1 ∧ w.heap.size < w.heap.size + 1) := Lib.hid (by omega)
  have P_s : W1.heap[w.heap.size + 1 + 1]? = some (.cells (bl ([] ++ List.replicate (9 - 3 * 0) false)).toArray 169 (0, 0)) := P_s
  generalize hgs : w.heap.size + 1 + 1 = gs at P_s HGS ⊢
  generalize hgo : w.heap.size + 1 = go at P_o HGS ⊢
  clear hgs hgo hcl
  have hld := cells_row P_m
  go_wp2_with (first | refine wpList_load_at rfl 100 (.tmp 1) rfl (w.heap.size) 0 C rfl m9_agg (run_size hz27) hld ?_)
  clear hld P_m
  go_loopw [9] (fun k w' => ∃ (i : Nat) (L : List Bool), i ≤ 3 ∧ k = .int .i64 (i : Int) ∧ L.length = 3 * i ∧ L = (missB M).take (3 * i) ∧ w'.heap[gs]? = some (.cells (bl (L ++ List.replicate (9 - 3 * i) false)).toArray 169 (0, 0)) ∧ w'.heap[go]? = some (.cells #[.bool false, .bool false, .bool false, .bool false, .bool false, .bool false, .bool false, .bool false, .bool false] 169 (0, 0)) ∧ Below w.heap.size w w') (fun k _ => 3 - (intOf k).toNat)
  case atStart => exact ⟨0, [], by omega, rfl, rfl, rfl, P_s, P_o, kb⟩
  case round =>
    clear P_s P_o kb
    obtain ⟨i, L, hi, rfl, hL, hd, P_s, P_o, kb⟩ := hrel
    by_cases hli : i < 3
    · have hi0 : (0 : Int) ≤ (i : Int) := by omega
      have hi1 : (i : Int) < 3 := by omega
      have hidx := HI.out i hli
      obtain ⟨h3, hg3⟩ := HR.out i hli
      have hsz9 : (flatQ ((M.drop (3 * i)).take 3)).toArray.size = 9 := by rw [List.size_toArray, flatQ_length, h3]
      have hone := flatQ_one1 ((M.drop (3 * i)).take 3)
      have HJ := Lib.hid (fun (j : Nat) (p : RV) h W => run_idxR h3 (j := j) (p := p) h W)
      have HG3 := Lib.hid hg3
      clear hg3 h3
      generalize hD : (flatQ ((M.drop (3 * i)).take 3)).toArray = D at hidx hsz9 HJ hone
      clear hD
      have hz9 : (Tryz.prog.info? 79).map (·.size) = some D.size := by rw [hsz9]; exact r3_size
      have P_n := heap_alloc_new wr (.cells #[.bool false, .slice none 0 0, .slice none 0 0, .bool false, .slice none 0 0, .slice none 0 0, .bool false, .slice none 0 0, .slice none 0 0] 79)
      have P_d := rowV_set P_n D
      have HGE : Hid (gs < wr.heap.size ∧ go < wr.heap.size) := Lib.hid ⟨rblk_lt P_s, rblk_lt P_o⟩
      have hb := ba1 wr (.cells #[.bool false, .slice none 0 0, .slice none 0 0, .bool false, .slice none 0 0, .slice none 0 0, .bool false, .slice none 0 0, .slice none 0 0] 79)
      have ne1 : wr.heap.size ≠ gs := by have := HGE.out.1; omega
      have ne2 : wr.heap.size ≠ go := by have := HGE.out.2; omega
      replace P_s := rowV_other (rblk_below P_s hb) ne1 D
      replace P_o := rowV_other (rblk_below P_o hb) ne2 D
      replace kb := below_setRow (bt kb hb) kb.size D
      clear hb ne1 ne2
      have hld := cells_row P_d
      go_wp2_with (first | simp only [hidx] | refine wpList_store_row rfl 79 (.tmp 5) (.tmp 12) rfl (wr.heap.size) D rfl rfl 79 _ P_n hz9 hsz9.symm hone ?_ | refine wpList_load_at rfl 79 (.tmp 5) rfl (wr.heap.size) 0 D rfl r3_agg (run_size hz9) hld ?_)
      clear hld P_n P_d hidx hone hsz9 hz9
      generalize (wr.alloc (.cells #[.bool false, .slice none 0 0, .slice none 0 0, .bool false, .slice none 0 0, .slice none 0 0, .bool false, .slice none 0 0, .slice none 0 0] 79)).setRow wr.heap.size D = Wq at P_s P_o kb ⊢
      clear HGE
      go_loopw [14] (fun k w' => ∃ (j : Nat) (L : List Bool), j ≤ 3 ∧ k = .int .i64 (j : Int) ∧ L.length = 3 * i + j ∧ L = (missB M).take (3 * i + j) ∧ w'.heap[gs]? = some (.cells (bl (L ++ List.replicate (9 - (3 * i + j)) false)).toArray 169 (0, 0)) ∧ w'.heap[go]? = some (.cells #[.bool false, .bool false, .bool false, .bool false, .bool false, .bool false, .bool false, .bool false, .bool false] 169 (0, 0)) ∧ Below w.heap.size w w') (fun k _ => 3 - (intOf k).toNat)
      case atStart => exact ⟨0, L, by omega, rfl, hL, hd, P_s, P_o, kb⟩
      case round =>
        clear P_s P_o kb hL hd
        obtain ⟨j, L, hj, rfl, hL, hd, P_s, P_o, kb⟩ := hrel
        have HF := Lib.hid (And.intro hL hd)
        clear hL hd
        by_cases hlt : j < 3
        · have hj0 : (0 : Int) ≤ (j : Int) := by omega
          have hj1 : (j : Int) < 3 := by omega
          obtain ⟨n, hn⟩ : ∃ n, 9 - (3 * i + j) = n + 1 := ⟨8 - (3 * i + j), by omega⟩
          have HNn : Hid (9 - (3 * i + (j + 1)) = n ∧ j < 3 ∧ i * 3 + j = 3 * i + j) := Lib.hid ⟨by omega, hlt, by omega⟩
          rw [hn] at P_s
          clear hn
          obtain ⟨p, hp⟩ := getQ (L := M) (i := 3 * i + j) (by rw [H9.out]; omega)
          have hjdx := HJ.out j p ((HG3.out j hlt).trans hp)
          have lp := HLL.out p (List.mem_of_getElem? hp)
          have HE := Lib.hid (fun W => exists_any p.x.p p.a.A p.a.D p.x.l.length p.x.m.length p.a.c p.a.d W lp.2)
          have HUV := Lib.hid (missB_take hp)
          generalize decide (0 < p.x.m.length) = b at HE HUV
          have P_e := heap_alloc_new wr (.cells (r3 p.x p.a) 29)
          have hb := ba1 wr (.cells (r3 p.x p.a) 29)
          have HGF : Hid (gs < wr.heap.size ∧ go < wr.heap.size) := Lib.hid ⟨rblk_lt P_s, rblk_lt P_o⟩
          replace P_s := rblk_below P_s hb
          replace P_o := rblk_below P_o hb
          replace kb := bt kb hb
          clear hb hp lp
          go_wp2_with (simp only [hjdx])
          clear hjdx
          generalize wr.alloc (.cells (r3 p.x p.a) 29) = Wr at P_e P_s P_o kb ⊢
          generalize wr.heap.size = gf at P_e HGF ⊢
          have hb : Below Wr.heap.size Wr Wr.drew := (Below.refl _ _).drew
          replace P_s := rblk_below P_s hb
          replace P_o := rblk_below P_o hb
          replace kb := bt kb hb
          clear hb
          refine wp_region_held_drew (S := fun w' => w'.heap[gf]? = some (.cells (r3 p.x p.a) 29 (0, 0))) (by kernel_rfl) (P_e) (fun hHeld => ?_)
          clear P_e
          generalize Wr.drew = Wd at *
          refine tk (i := 0) (v := ?vg1_1) rfl (by kernel_rfl) (fun _ _ _ h => h) (Or.inl ⟨by rfl, ?hg1_1⟩) hHeld ?_
          case hg1_1 => (intro w hSw; (try dsimp only at hSw); go_simp; (try with_reducible rfl))
          try simp only [ps]
          refine tk (i := 1) (v := ?vg1_2) rfl (by kernel_rfl) (fun _ _ _ h => h) (Or.inl ⟨by rfl, ?hg1_2⟩) hHeld ?_
          case hg1_2 => (intro w hSw; (try dsimp only at hSw); go_simp; (try with_reducible rfl))
          try simp only [ps]
          refine tk (i := 2) (v := ?vg1_3) rfl (by kernel_rfl) (fun _ _ _ h => h) (Or.inl ⟨by rfl, ?hg1_3⟩) hHeld ?_
          case hg1_3 => (intro w hSw; (try dsimp only at hSw); have t0 := rblk_cell hSw 0; have t1 := rblk_cell hSw 1; have t2 := rblk_cell hSw 2; go_simp; (try with_reducible rfl))
          try simp only [ps]
          refine tk (i := 5) (v := .pointer (some ⟨gs, i * 3, none⟩)) rfl (by kernel_rfl) (fun _ _ _ h => h) (Or.inl ⟨by rfl, ?hg1_4⟩) hHeld ?_
          case hg1_4 => (intro w hSw; (try dsimp only at hSw); go_simp; (try rfl))
          try simp only [ps]
          refine rd1 (i := 3) (by kernel_rfl) rfl (fun K hK => ?_)
          go_simp
          (go_at_call 66; ((with_reducible refine (HE.out _).mono ?_); rintro e Wr1_5 ⟨rfl, hb⟩))
          refine hK.out _ _ (rblk_below hHeld hb) (fun hH => ?_)
          replace hHeld := hH
          clear hK K hH
          replace P_s := rblk_below P_s hb
          replace P_o := rblk_below P_o hb
          replace kb := bt kb hb
          clear hb
          try simp only [ps]
          refine tk (i := 4) (v := ?vg1_6) rfl (by kernel_rfl) (fun _ _ _ h => h) (Or.inl ⟨by rfl, ?hg1_6⟩) hHeld ?_
          case hg1_6 => (intro w hSw; (try dsimp only at hSw); go_simp; (try with_reducible rfl))
          try simp only [ps]
          refine tk (i := 6) (v := .pointer (some ⟨gs, i * 3 + j, none⟩)) rfl (by kernel_rfl) (fun _ _ _ h => h) (Or.inl ⟨by rfl, ?hg1_7⟩) hHeld ?_
          case hg1_7 => (intro w hSw; (try dsimp only at hSw); go_simp; (try rfl))
          try simp only [ps]
          refine rd1 (i := 7) (by kernel_rfl) rfl (fun K hK => ?_)
          have ck : Wr1_5.cell? ⟨gs, i * 3 + j, none⟩ = some (.bool false) := by rw [HNn.out.2.2, cell_of_row Wr1_5 gs _ _ 169 (0, 0) P_s]; exact bl_get HF.out.1
          have fk : Wr1_5.frozen? ⟨gs, i * 3 + j, none⟩ = false := by simp [World.frozen?, P_s]
          go_simp
          clear ck fk
          have ngo : gs ≠ go := by have := HGS.out.2.1; omega
          have ngf : gs ≠ gf := by have := HGF.out.1; omega
          have P_s2 := rblk_set P_s (i * 3 + j) (.bool (!b))
          replace P_o := rblk_other P_o (i * 3 + j) (.bool (!b)) ngo
          have k3 := below_put (o := i * 3 + j) kb (show w.heap.size ≤ gs by have := HGS.out.1; omega) (.bool (!b))
          refine hK.out _ _ (rblk_other hHeld (i * 3 + j) (.bool (!b)) ngf) (fun hH => ?_)
          replace hHeld := hH
          clear hK K hH P_s kb ngo ngf
          generalize Wr1_5.setCell ⟨gs, i * 3 + j, none⟩ (.bool (!b)) = Ws at hHeld P_s2 P_o k3 ⊢
          try simp only [ps]
          refine wpAnyH_done (by kernel_rfl) ?_ _
          have HRz := Lib.hid (And.intro P_s2 (And.intro P_o k3))
          clear P_s2 P_o k3 hHeld
          go_wp2
          go_roundw
          case rel => exact ⟨j + 1, L ++ [!b], HNn.out.2.1, by go_num, by rw [List.length_append, HF.out.1]; rfl, by rw [HF.out.2]; exact HUV.out.symm, by have z := HRz.out.1; rw [HNn.out.2.2, bl_set HF.out.1] at z; rw [HNn.out.1]; exact z, HRz.out.2.1, HRz.out.2.2⟩
          case measure => simp [intOf]; omega
        · obtain rfl : j = 3 := by omega
          have HE := Lib.hid (And.intro HF.out.1 (And.intro HF.out.2 (And.intro P_s (And.intro P_o kb))))
          clear P_s P_o kb HF
          go_wp2
          go_roundw
          case rel => exact ⟨i + 1, L, hli, by go_num, HE.out.1, HE.out.2.1, HE.out.2.2.1, HE.out.2.2.2.1, HE.out.2.2.2.2⟩
          case measure => simp [intOf]; omega
    · obtain rfl : i = 3 := by omega
      have e : L ++ List.replicate (9 - 3 * 3) false = L := List.append_nil L
      rw [e] at P_s
      clear e
      obtain ⟨b0, b1, b2, b3, b4, b5, b6, b7, b8, rfl⟩ := nine_b hL
      have P_s : wr.heap[gs]? = some (.cells #[.bool b0, .bool b1, .bool b2, .bool b3, .bool b4, .bool b5, .bool b6, .bool b7, .bool b8] 169 (0, 0)) := P_s
      have HR2 : Hid ([b0, b1, b2, b3, b4, b5, b6, b7, b8] = missB M) := Lib.hid (by
        rw [hd]; exact List.take_of_length_le (by unfold missB; rw [List.length_map, H9.out]; exact Nat.le_refl _))
      have hld := cells_row P_s
      have hgo : w.heap.size ≤ go := by have := HGS.out.2.2; omega
      clear hL hd
      go_wp2_with (first | refine wpList_load_at rfl 169 (.tmp 3) rfl gs 0 #[.bool b0, .bool b1, .bool b2, .bool b3, .bool b4, .bool b5, .bool b6, .bool b7, .bool b8] rfl b9_agg (run_size b9_size) hld ?_ | refine wpList_store_row rfl 169 (.tmp 2) (.tmp 27) rfl go #[.bool b0, .bool b1, .bool b2, .bool b3, .bool b4, .bool b5, .bool b6, .bool b7, .bool b8] rfl rfl 169 _ P_o b9_size rfl (by simp [Value.oneCell', r3]) ?_)
      exact bodyPost_ret (v := .agg #[.bool b0, .bool b1, .bool b2, .bool b3, .bool b4, .bool b5, .bool b6, .bool b7, .bool b8]) (results_row Tryz.results191 _ _ go #[.bool b0, .bool b1, .bool b2, .bool b3, .bool b4, .bool b5, .bool b6, .bool b7, .bool b8] rfl b9_agg (run_size b9_size) (rowV_set P_o _)) rfl ⟨b0, b1, b2, b3, b4, b5, b6, b7, b8, rfl, HR2.out, below_setRow kb hgo _⟩
end Go.Proofs.YtppdholccpgcpaaGreat
