/-
  'FormatPoint', of the model and of the program.
-/
import Derived.Test.YtdgfbnnohnaoaaaGreatDoorDkF
import Derived.Test.YtdgfbnnohnaoaaaGreatDoorPtSv
namespace Go.Proofs.YtdgfbnnohnaoaaaGreatDoor
open Go.ChangeShapes Go.WideShapes Go.ChangeAt Go.RowKit
open Go.ChangeMaps (open_string shut_string)
set_option linter.unusedVariables false
set_option linter.unusedSimpArgs false
set_option maxRecDepth 4000

theorem fmtR_len (p : Bool) (l m : List Int) : (fmtR p l m).length ≤ 3145730 := by
  have h1 := fmtB_len p l
  have h2 := fmtL_len m
  unfold fmtR
  split
  · split
    · omega
    · rw [List.length_append, List.length_cons]; omega
  · simp
theorem joinParts_comma (a b : List UInt8) (bk c : Nat) (w : World) (h0 : w.cell? ⟨bk, 0, none⟩ = some (.string ⟨a.toArray⟩)) (h1 : w.cell? ⟨bk, 1, none⟩ = some (.string ⟨b.toArray⟩)) (hbk : bk < w.heap.size) (hc : 2 ≤ c) (hlen : a.length + b.length + 1 ≤ 140737488355328) :
    Calls Tryz.prog 24 #[.string ⟨#[44]⟩, .slice (some ⟨bk, 0, none⟩) 2 c] w fun e w' => e = .returned (.string ⟨(a ++ 44 :: b).toArray⟩) ∧ Below w.heap.size w w' := by
  have hj : Lib.join (([⟨a.toArray⟩, ⟨b.toArray⟩] : List ByteArray).map (·.data.toList)) (ByteArray.mk #[44]).data.toList = a ++ 44 :: b := by simp [Lib.join, List.intercalate]
  have hc' := Tryz.strings_Join bk 0 c [⟨a.toArray⟩, ⟨b.toArray⟩] ⟨#[44]⟩ w (fun j x hx => by
    rw [Nat.zero_add]
    match j, hx with
    | 0, hx => simp at hx; rw [← hx]; exact h0
    | 1, hx => simp at hx; rw [← hx]; exact h1) hbk (by simp) (by simpa using hc) (by rw [hj, List.length_append, List.length_cons]; omega)
  rw [hj] at hc'
  have H := Lib.hid hc'
  clear hc' hj h0 h1 hlen
  go_enter Tryz.func24, Tryz.ntmps24
  go_wp2_with fail
  refine (Hid.out H).mono ?_
  rintro e w1 ⟨rfl, hb⟩
  go_wp2
  go_ret
  exact ⟨rfl, hb⟩

set_option maxHeartbeats 1000000 in
theorem impl_fmtP_yes (x y : R3) (a b : Ad) (w : World) (hxl : x.l.length ≤ 9223372036854775807) (hxm : x.m.length ≤ 9223372036854775807) (hyl : y.l.length ≤ 9223372036854775807) (hym : y.m.length ≤ 9223372036854775807) (htab : Lib.TabIs Tryz.prog w "internal/strconv.uint64pow10" .u64 Lib.pow10Tab) (h : Rds w (rows x a ++ rows y b)) (ok : (okx x && okx y) = true) :
    Calls Tryz.prog 6 #[.agg #[.bool x.p, .slice a.A x.l.length a.c, .slice a.D x.m.length a.d, .bool y.p, .slice b.A y.l.length b.c, .slice b.D y.m.length b.d]] w (fun e w' => e = .returned (.string ⟨(fmtR x.p x.l x.m ++ 44 :: fmtR y.p y.l y.m).toArray⟩) ∧ Below w.heap.size w w') := by
  have HV := Lib.hid (fun W h => impl_valid x y a b W hxl hxm hyl hym h)
  rw [ok] at HV
  have RV : Hid (∀ W, Below w.heap.size w W → Rds W (rows x a ++ rows y b)) := Lib.hid (fun W hb => h.below hb)
  have HX := Lib.hid (fun W (h : Rds W (rows x a)) (ht : Lib.TabIs Tryz.prog W "internal/strconv.uint64pow10" .u64 Lib.pow10Tab) => show Calls Tryz.prog 25 #[.agg #[.bool x.p, .slice a.A x.l.length a.c, .slice a.D x.m.length a.d]] W (fun e w' => e = .returned (.string ⟨(fmtR x.p x.l x.m).toArray⟩) ∧ Below W.heap.size W w') from impl_fmtR x.p x.l x.m a.A a.D x.l.length x.m.length a.c a.d W rfl rfl hxl hxm ht (rows_rd h).1 (rows_rd h).2)
  have HY := Lib.hid (fun W (h : Rds W (rows y b)) (ht : Lib.TabIs Tryz.prog W "internal/strconv.uint64pow10" .u64 Lib.pow10Tab) => show Calls Tryz.prog 25 #[.agg #[.bool y.p, .slice b.A y.l.length b.c, .slice b.D y.m.length b.d]] W (fun e w' => e = .returned (.string ⟨(fmtR y.p y.l y.m).toArray⟩) ∧ Below W.heap.size W w') from impl_fmtR y.p y.l y.m b.A b.D y.l.length y.m.length b.c b.d W rfl rfl hyl hym ht (rows_rd h).1 (rows_rd h).2)
  have RR : Hid (∀ W, Below w.heap.size w W → Rds W (rows x a) ∧ Rds W (rows y b) ∧ Lib.TabIs Tryz.prog W "internal/strconv.uint64pow10" .u64 Lib.pow10Tab) := Lib.hid (fun W hb => ⟨(rds_l h).below hb, (rds_r h).below hb, tab_below hb htab⟩)
  have hT := fmtR_len x.p x.l x.m
  have hU := fmtR_len y.p y.l y.m
  clear ok h hxl hxm hyl hym htab
  generalize fmtR x.p x.l x.m = T at HX hT ⊢
  generalize fmtR y.p y.l y.m = U at HY hU ⊢
  have HJ := Lib.hid (fun bk W h0 h1 h2 => joinParts_comma T U bk 2 W h0 h1 h2 (Nat.le_refl _) (by omega))
  go_enter Tryz.func6, Tryz.ntmps6
  go_wp2_with fail
  have kb := ba1 w (.cells #[.bool x.p, .slice a.A x.l.length a.c, .slice a.D x.m.length a.d, .bool y.p, .slice b.A y.l.length b.c, .slice b.D y.m.length b.d] 29)
  have P_p := heap_alloc_new w (.cells #[.bool x.p, .slice a.A x.l.length a.c, .slice a.D x.m.length a.d, .bool y.p, .slice b.A y.l.length b.c, .slice b.D y.m.length b.d] 29)
  generalize w.alloc (.cells #[.bool x.p, .slice a.A x.l.length a.c, .slice a.D x.m.length a.d, .bool y.p, .slice b.A y.l.length b.c, .slice b.D y.m.length b.d] 29) = W1 at kb P_p ⊢
  refine (HV.out _ (RV.out _ kb)).mono ?_
  rintro e W2 ⟨rfl, hb⟩
  replace P_p := rblk_below P_p hb
  replace kb := bt kb hb
  clear hb
  go_wp2_with fail
  have z1 : ¬ 9223372036854775807 < T.length + 1 := by omega
  have z2 : ¬ 9223372036854775807 < T.length + 1 + U.length := by omega
  have SB : Hid (∀ w', Below W2.heap.size W2 w' → (w'.cell? ⟨w.heap.size, 0, none⟩ = some (.bool x.p) ∧ w'.cell? ⟨w.heap.size, 1, none⟩ = some (.slice a.A x.l.length a.c) ∧ w'.cell? ⟨w.heap.size, 2, none⟩ = some (.slice a.D x.m.length a.d) ∧ w'.cell? ⟨w.heap.size, 3, none⟩ = some (.bool y.p) ∧ w'.cell? ⟨w.heap.size, 4, none⟩ = some (.slice b.A y.l.length b.c) ∧ w'.cell? ⟨w.heap.size, 5, none⟩ = some (.slice b.D y.m.length b.d) ∧ Below W2.heap.size W2 w')) := Lib.hid (fun w' hB => ⟨rblk_cell (rblk_below P_p hB) 0, rblk_cell (rblk_below P_p hB) 1, rblk_cell (rblk_below P_p hB) 2, rblk_cell (rblk_below P_p hB) 3, rblk_cell (rblk_below P_p hB) 4, rblk_cell (rblk_below P_p hB) 5, hB⟩)
  have KW := Lib.hid kb
  clear kb
  go_region_held3 (fun w' => w'.cell? ⟨w.heap.size, 0, none⟩ = some (.bool x.p) ∧ w'.cell? ⟨w.heap.size, 1, none⟩ = some (.slice a.A x.l.length a.c) ∧ w'.cell? ⟨w.heap.size, 2, none⟩ = some (.slice a.D x.m.length a.d) ∧ w'.cell? ⟨w.heap.size, 3, none⟩ = some (.bool y.p) ∧ w'.cell? ⟨w.heap.size, 4, none⟩ = some (.slice b.A y.l.length b.c) ∧ w'.cell? ⟨w.heap.size, 5, none⟩ = some (.slice b.D y.m.length b.d) ∧ Below W2.heap.size W2 w')
    (first | (with_reducible exact SB.out _ (Below.refl _ _).drew) | (with_reducible exact SB.out _ (ba1 _ _).drew) | (with_reducible exact SB.out _ (ba1 _ _)) | (go_split_ands; with_reducible exact SB.out _ (bt (by assumption : Below W2.heap.size W2 _) hb)) | (go_split_ands; with_reducible exact SB.out _ (Below.alloc (by assumption : Below W2.heap.size W2 _) (Below.size (by assumption : Below W2.heap.size W2 _)) _)))
    (first | (go_at_call 25; go_split_ands; ((with_reducible refine (HX.out _ (RR.out _ (bt KW.out (by assumption : Below W2.heap.size W2 _))).1 (RR.out _ (bt KW.out (by assumption : Below W2.heap.size W2 _))).2.2).mono ?_); rintro e Wn1_0 ⟨rfl, hb⟩; skip)) | (go_at_call 25; go_split_ands; ((with_reducible refine (HY.out _ (RR.out _ (bt KW.out (by assumption : Below W2.heap.size W2 _))).2.1 (RR.out _ (bt KW.out (by assumption : Below W2.heap.size W2 _))).2.2).mono ?_); rintro e Wn1_1 ⟨rfl, hb⟩; skip)) | (go_at_call 24; go_split_ands; ((with_reducible refine (HJ.out _ _ (box0 _ _ _ _) (box1 _ _ _ _) (by simp)).mono ?_); rintro e Wn1_2 ⟨rfl, hb⟩; skip)))
  have hfin := (‹_ ∧ _ ∧ _ ∧ _ ∧ _ ∧ _ ∧ Below W2.heap.size W2 _›).2.2.2.2.2.2
  go_wp2
  go_ret
  exact ⟨rfl, bt KW.out hfin⟩

end Go.Proofs.YtdgfbnnohnaoaaaGreatDoor

