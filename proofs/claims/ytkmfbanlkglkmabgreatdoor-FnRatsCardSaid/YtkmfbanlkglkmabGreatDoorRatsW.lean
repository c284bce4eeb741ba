/-
  'FnRats': a fraction is read back from its text, and sums, differences, products and quotients satisfy their laws.
-/
import Derived.Test.YtkmfbanlkglkmabGreatDoorRats
import Derived.Deep.RegionHeld3
namespace Go.Proofs.YtkmfbanlkglkmabGreatDoor
open Go.ChangeShapes Go.WideShapes Go.ChangeAt Go.RowKit
open Go.ChangeMaps (open_string shut_string)
set_option linter.unusedVariables false
set_option linter.unusedSimpArgs false
set_option maxRecDepth 4000

/-- An operation that yields in every world that meets S comes up first. -/
theorem tk {P : Program} {ops : Array Oper} {Q : Exit → Act → World → Prop} {md : Region.Mode} {S : World → Prop} {i : Nat} {oi : Oper} {v : Value} {fuel : Nat} {listed : Array Bool} {a : Act} {w : World} (hi : ops[i]? = some oi)
    (hb : (Region.noSelect ops && (Region.free md ops listed i && (Region.ready md ops listed).contains i)) = true)
    (hQ : ∀ c a w, Q (.panic c) (a.put oi.dst v) w → Q (.panic c) a w) (hy : YieldsIf P ops S oi v a) (hS : S w)
    (h : wpAnyH P md ops Q S fuel (listed.setIfInBounds i true) (a.put oi.dst v) w) : wpAnyH P md ops Q S (fuel + 1) listed a w := by
  simp only [Bool.and_eq_true] at hb
  exact wpAnyH_take hi hb.1 hb.2.1 hb.2.2 hQ hy hS h
set_option maxHeartbeats 4000000 in
theorem law_rats (A : Option Addr) (n c : Nat) (w : World) (mx : Int) (hn : n ≤ 9223372036854775807) (hA : RdB w A n w.heap.size) (htab : Lib.TabIs Tryz.prog w "internal/strconv.uint64pow10" .u64 Lib.pow10Tab) (hmx : w.cell? ⟨0, 0, none⟩ = some (.int .i64 mx)) :
    Calls Tryz.prog 5 #[.slice A n c] w fun e w' => e = .returned (.bool true) ∧ Below w.heap.size w w' := by
  by_cases hg : (1048576 : Int) < (n : Int)
  · go_enter Tryz.func5, Tryz.ntmps5
    go_wp2
    go_ret
    exact ⟨rfl, Below.refl _ _⟩
  have hn2 : n ≤ 1048576 := by omega
  have HM := Lib.hid (fun k y W hy hk h => make_q k y hy A n c W hk hn2 h)
  have HA : Hid (∀ W, Below w.heap.size w W → RdB W A n W.heap.size) := Lib.hid (fun W hb => hA.belowB hb)
  have HT := Lib.hid htab
  have HX := Lib.hid hmx
  clear hA htab hmx
  go_enter Tryz.func5, Tryz.ntmps5
  go_wp2_with fail
  have kb := Below.refl w.heap.size w
  refine (HM.out 0 _ _ rfl (by omega) (HA.out _ kb)).mono ?_
  rintro e W1 ⟨pr, lr, mr, Ar, cr, Dr, dr, hr, rfl, oAr, oDr, hb⟩
  replace kb := bt kb hb
  clear hb
  have P_r := heap_alloc_new W1 (.cells #[.bool pr, .slice Ar lr.length cr, .slice Dr mr.length dr] 33)
  have hb := ba1 W1 (.cells #[.bool pr, .slice Ar lr.length cr, .slice Dr mr.length dr] 33)
  replace oAr := oAr.below hb
  replace oDr := oDr.below hb
  replace kb := bt kb hb
  clear hb
  go_wp2_with fail
  generalize W1.alloc (.cells #[.bool pr, .slice Ar lr.length cr, .slice Dr mr.length dr] 33) = W2 at kb P_r oAr oDr ⊢
  refine (HM.out 1 _ _ rfl (by omega) (HA.out _ kb)).mono ?_
  rintro e W3 ⟨ps, ls, ms, As, cs, Ds, ds, hs, rfl, oAs, oDs, hb⟩
  replace P_r := rblk_below P_r hb
  replace oAr := oAr.below hb
  replace oDr := oDr.below hb
  replace kb := bt kb hb
  clear hb
  obtain ⟨pa, pd, pn, px, la, ma, ld, md, ln1, mn, lx, mx1, T, v, u, b0, b1, b2, b3, b4, b5, b6, b7, b8, b9, b10, b11, b12, hu⟩ := all_rc hr hs
  have HAdd := Lib.hid (fun W A c D d A' c' D' d' a1 a2 a3 a4 => b0 W A c D d A' c' D' d' a1 a2 a3 a4)
  have HSas := Lib.hid (fun W A c D d A' c' D' d' a1 a2 a3 a4 => b1 W A c D d A' c' D' d' a1 a2 a3 a4)
  have HSrs := Lib.hid (fun W A c D d A' c' D' d' a1 a2 a3 a4 => b2 W A c D d A' c' D' d' a1 a2 a3 a4)
  have HMin := Lib.hid (fun W A c D d A' c' D' d' a1 a2 a3 a4 => b3 W A c D d A' c' D' d' a1 a2 a3 a4)
  have HMax := Lib.hid (fun W A c D d A' c' D' d' a1 a2 a3 a4 => b4 W A c D d A' c' D' d' a1 a2 a3 a4)
  have HAnm := Lib.hid (fun W A c D d A' c' D' d' a1 a2 a3 a4 => b5 W A c D d A' c' D' d' a1 a2 a3 a4)
  have HCmp := Lib.hid (fun W A c D d A' c' D' d' a1 a2 a3 a4 => b6 W A c D d A' c' D' d' a1 a2 a3 a4)
  have HGd := Lib.hid (fun W A c D d a1 a2 => b7 W A c D d a1 a2)
  have HGs := Lib.hid (fun W A c D d a1 a2 => b8 W A c D d a1 a2)
  have HEr := Lib.hid (fun W A c D d A' c' D' d' a1 a2 a3 a4 a5 a6 => b9 W A c D d A' c' D' d' a1 a2 a3 a4 a5 a6)
  have HEa := Lib.hid (fun W A c D d A' c' D' d' a1 a2 a3 a4 a5 a6 => b10 W A c D d A' c' D' d' a1 a2 a3 a4 a5 a6)
  have HF := Lib.hid (fun W A c D d a1 a2 ht => b11 W A c D d a1 a2 ht)
  have HP := Lib.hid (fun W mx hm => b12 W mx hm)
  have q1 : (v == v) = true := by simp
  have HU := Lib.hid hu
  clear hr hs hu HM b0 b1 b2 b3 b4 b5 b6 b7 b8 b9 b10 b11 b12
  have adr : Hid ((lr.length = 0 ∨ ∃ g, Ar = some ⟨g, 0, none⟩) ∧ (mr.length = 0 ∨ ∃ g, Dr = some ⟨g, 0, none⟩)) := Lib.hid ⟨own_addr oAr, own_addr oDr⟩
  have P_s := heap_alloc_new W3 (.cells #[.bool ps, .slice As ls.length cs, .slice Ds ms.length ds] 33)
  have hb := ba1 W3 (.cells #[.bool ps, .slice As ls.length cs, .slice Ds ms.length ds] 33)
  replace P_r := rblk_below P_r hb
  replace oAr := oAr.below hb
  replace oDr := oDr.below hb
  replace oAs := oAs.below hb
  replace oDs := oDs.below hb
  replace kb := bt kb hb
  clear hb
  have c_r0 : (W3.alloc (.cells #[.bool ps, .slice As ls.length cs, .slice Ds ms.length ds] 33)).cell? ⟨W1.heap.size, 0, none⟩ = some (.bool pr) := rblk_cell P_r 0
  have c_r1 : (W3.alloc (.cells #[.bool ps, .slice As ls.length cs, .slice Ds ms.length ds] 33)).cell? ⟨W1.heap.size, 1, none⟩ = some (.slice Ar lr.length cr) := rblk_cell P_r 1
  have c_r2 : (W3.alloc (.cells #[.bool ps, .slice As ls.length cs, .slice Ds ms.length ds] 33)).cell? ⟨W1.heap.size, 2, none⟩ = some (.slice Dr mr.length dr) := rblk_cell P_r 2
  go_wp2_with fail
  clear c_r0 c_r1 c_r2
  generalize W3.alloc (.cells #[.bool ps, .slice As ls.length cs, .slice Ds ms.length ds] 33) = W4 at kb P_r P_s oAr oDr oAs oDs ⊢
  refine (HF.out _ _ _ _ _ oAr.rd oDr.rd (tab_below kb HT.out)).mono ?_
  rintro e W5 ⟨rfl, hb⟩
  replace P_r := rblk_below P_r hb
  replace P_s := rblk_below P_s hb
  replace oAr := oAr.below hb
  replace oDr := oDr.below hb
  replace oAs := oAs.below hb
  replace oDs := oDs.below hb
  replace kb := bt kb hb
  clear hb
  go_wp2_with fail
  refine (HP.out _ _ (cell_kept HX.out kb)).mono ?_
  rintro e W6 ⟨Ax, cx, Dx, dx, rfl, hcx, hdx, oAx, oDx, hapx, hb⟩
  replace P_r := rblk_below P_r hb
  replace P_s := rblk_below P_s hb
  replace oAr := oAr.below hb
  replace oDr := oDr.below hb
  replace oAs := oAs.below hb
  replace oDs := oDs.below hb
  replace kb := bt kb hb
  clear hb
  have P_x := heap_alloc_new W6 (.cells #[.bool pr, .slice Ax lr.length cx, .slice Dx mr.length dx] 33)
  have hb := ba1 W6 (.cells #[.bool pr, .slice Ax lr.length cx, .slice Dx mr.length dx] 33)
  replace P_r := rblk_below P_r hb
  replace P_s := rblk_below P_s hb
  replace oAr := oAr.below hb
  replace oDr := oDr.below hb
  replace oAs := oAs.below hb
  replace oDs := oDs.below hb
  replace oAx := oAx.below hb
  replace oDx := oDx.below hb
  replace kb := bt kb hb
  clear hb
  have c_r0 : (W6.alloc (.cells #[.bool pr, .slice Ax lr.length cx, .slice Dx mr.length dx] 33)).cell? ⟨W1.heap.size, 0, none⟩ = some (.bool pr) := rblk_cell P_r 0
  have c_r1 : (W6.alloc (.cells #[.bool pr, .slice Ax lr.length cx, .slice Dx mr.length dx] 33)).cell? ⟨W1.heap.size, 1, none⟩ = some (.slice Ar lr.length cr) := rblk_cell P_r 1
  have c_r2 : (W6.alloc (.cells #[.bool pr, .slice Ax lr.length cx, .slice Dx mr.length dx] 33)).cell? ⟨W1.heap.size, 2, none⟩ = some (.slice Dr mr.length dr) := rblk_cell P_r 2
  have c_s0 : (W6.alloc (.cells #[.bool pr, .slice Ax lr.length cx, .slice Dx mr.length dx] 33)).cell? ⟨W3.heap.size, 0, none⟩ = some (.bool ps) := rblk_cell P_s 0
  have c_s1 : (W6.alloc (.cells #[.bool pr, .slice Ax lr.length cx, .slice Dx mr.length dx] 33)).cell? ⟨W3.heap.size, 1, none⟩ = some (.slice As ls.length cs) := rblk_cell P_s 1
  have c_s2 : (W6.alloc (.cells #[.bool pr, .slice Ax lr.length cx, .slice Dx mr.length dx] 33)).cell? ⟨W3.heap.size, 2, none⟩ = some (.slice Ds ms.length ds) := rblk_cell P_s 2
  go_wp2_with fail
  clear c_r0 c_r1 c_r2 c_s0 c_s1 c_s2
  generalize W6.alloc (.cells #[.bool pr, .slice Ax lr.length cx, .slice Dx mr.length dx] 33) = W7 at kb P_r P_s P_x oAr oDr oAs oDs oAx oDx ⊢
  have R : Hid (∀ W, Below W7.heap.size W7 W → RdS W Ar (vi lr) ∧ RdS W Dr (vi mr) ∧ RdS W As (vi ls) ∧ RdS W Ds (vi ms) ∧ RdS W Ax (vi lr) ∧ RdS W Dx (vi mr)) := Lib.hid (fun W hb => ⟨(oAr.below hb).rd, (oDr.below hb).rd, (oAs.below hb).rd, (oDs.below hb).rd, (oAx.below hb).rd, (oDx.below hb).rd⟩)
  clear oAr oDr oAs oDs oAx oDx hapx hcx hdx
  rcases HU.out with h0 | ⟨h1, pv, lv, mv, e1, e2⟩
  · subst h0
    clear HU
    have SB : Hid (∀ w', Below W7.heap.size W7 w' → (w'.cell? ⟨W1.heap.size, 0, none⟩ = some (.bool pr) ∧ w'.cell? ⟨W1.heap.size, 1, none⟩ = some (.slice Ar lr.length cr) ∧ w'.cell? ⟨W1.heap.size, 2, none⟩ = some (.slice Dr mr.length dr) ∧ w'.cell? ⟨W3.heap.size, 0, none⟩ = some (.bool ps) ∧ w'.cell? ⟨W3.heap.size, 1, none⟩ = some (.slice As ls.length cs) ∧ w'.cell? ⟨W3.heap.size, 2, none⟩ = some (.slice Ds ms.length ds) ∧ w'.cell? ⟨W6.heap.size, 0, none⟩ = some (.bool pr) ∧ w'.cell? ⟨W6.heap.size, 1, none⟩ = some (.slice Ax lr.length cx) ∧ w'.cell? ⟨W6.heap.size, 2, none⟩ = some (.slice Dx mr.length dx) ∧ Below W7.heap.size W7 w')) := Lib.hid (fun w' hB => ⟨rblk_cell (rblk_below P_r hB) 0, rblk_cell (rblk_below P_r hB) 1, rblk_cell (rblk_below P_r hB) 2, rblk_cell (rblk_below P_s hB) 0, rblk_cell (rblk_below P_s hB) 1, rblk_cell (rblk_below P_s hB) 2, rblk_cell (rblk_below P_x hB) 0, rblk_cell (rblk_below P_x hB) 1, rblk_cell (rblk_below P_x hB) 2, hB⟩)
    have KW := Lib.hid kb
    clear kb
    refine wp_region_held_drew (S := fun w' => w'.cell? ⟨W1.heap.size, 0, none⟩ = some (.bool pr) ∧ w'.cell? ⟨W1.heap.size, 1, none⟩ = some (.slice Ar lr.length cr) ∧ w'.cell? ⟨W1.heap.size, 2, none⟩ = some (.slice Dr mr.length dr) ∧ w'.cell? ⟨W3.heap.size, 0, none⟩ = some (.bool ps) ∧ w'.cell? ⟨W3.heap.size, 1, none⟩ = some (.slice As ls.length cs) ∧ w'.cell? ⟨W3.heap.size, 2, none⟩ = some (.slice Ds ms.length ds) ∧ w'.cell? ⟨W6.heap.size, 0, none⟩ = some (.bool pr) ∧ w'.cell? ⟨W6.heap.size, 1, none⟩ = some (.slice Ax lr.length cx) ∧ w'.cell? ⟨W6.heap.size, 2, none⟩ = some (.slice Dx mr.length dx) ∧ Below W7.heap.size W7 w') (by kernel_rfl) (SB.out _ (Below.refl _ _).drew) (fun hHeld => ?_)
    have hCur : Below W7.heap.size W7 W7.drew := (Below.refl _ _).drew
    refine tk (i := 0) (oi := ⟨some 20, .move (.tmp 6), 4, "laws.go:61", #[], none⟩) (v := ?vz0) rfl (by kernel_rfl) (fun _ _ _ h => h) (Or.inl ⟨by rfl, ?hyz0⟩) hHeld ?_
    case hyz0 => (intro w hSw; (try dsimp only at hSw); go_simp; (try with_reducible rfl))
    try simp only [Act.put, List.setIfInBounds_toArray, List.set_cons_zero, List.set_cons_succ]
    refine tk (i := 1) (oi := ⟨some 21, .move (.tmp 20), 4, "laws.go:61", #[⟨0, .data⟩], none⟩) (v := ?vz1) rfl (by kernel_rfl) (fun _ _ _ h => h) (Or.inl ⟨by rfl, ?hyz1⟩) hHeld ?_
    case hyz1 => (intro w hSw; (try dsimp only at hSw); go_simp; (try with_reducible rfl))
    try simp only [Act.put, List.setIfInBounds_toArray, List.set_cons_zero, List.set_cons_succ]
    refine tk (i := 2) (oi := ⟨some 22, .load 33 (.tmp 5), 33, "laws.go:61", #[⟨1, .guard⟩], some (1, true)⟩) (v := ?vz2) rfl (by kernel_rfl) (fun _ _ _ h => h) (Or.inl ⟨by rfl, ?hyz2⟩) hHeld ?_
    case hyz2 => (intro w hSw; (try dsimp only at hSw); go_simp; (try with_reducible rfl))
    try simp only [Act.put, List.setIfInBounds_toArray, List.set_cons_zero, List.set_cons_succ]
    refine tk (i := 3) (oi := ⟨some 23, .load 33 (.tmp 3), 33, "laws.go:61", #[⟨1, .guard⟩], some (1, true)⟩) (v := ?vz3) rfl (by kernel_rfl) (fun _ _ _ h => h) (Or.inl ⟨by rfl, ?hyz3⟩) hHeld ?_
    case hyz3 => (intro w hSw; (try dsimp only at hSw); go_simp; (try with_reducible rfl))
    try simp only [Act.put, List.setIfInBounds_toArray, List.set_cons_zero, List.set_cons_succ]
    refine wpAnyH_ready (rs := [4]) (by kernel_rfl) (by simp) ?_
    refine AllReadyH.cons (o := ⟨some 24, .call { callee := .value (.func 19), args := #[.tmp 22, .tmp 23], argTypes := #[33, 33] }, 4, "laws.go:61", #[⟨2, .data⟩, ⟨3, .data⟩, ⟨1, .chain⟩, ⟨1, .guard⟩], some (1, true)⟩) rfl (fun K hK => ?_) AllReadyH.nil
    go_simp
    (go_at_call 19; ((with_reducible refine (HEr.out _ _ _ _ _ _ _ _ _ (R.out _ hCur).2.2.2.2.1 (R.out _ hCur).2.2.2.2.2 (R.out _ hCur).1 (R.out _ hCur).2.1 adr.out.1 adr.out.2).mono ?_); rintro e Wz1 ⟨rfl, hb⟩; skip))
    refine hK.out _ _ (SB.out _ (bt hCur hb)) (fun hHeld' => ?_)
    clear hK K hHeld
    have hHeld := hHeld'
    clear hHeld'
    replace hCur := bt hCur hb
    clear hb
    try simp only [Act.put, List.setIfInBounds_toArray, List.set_cons_zero, List.set_cons_succ]
    refine tk (i := 5) (oi := ⟨some 25, .pick (.tmp 21) (.tmp 24) (.const (.bool false)), 4, "laws.go:61", #[⟨1, .data⟩, ⟨4, .data⟩], none⟩) (v := ?vz5) rfl (by kernel_rfl) (fun _ _ _ h => h) (Or.inl ⟨by rfl, ?hyz5⟩) hHeld ?_
    case hyz5 => (intro w hSw; (try dsimp only at hSw); go_simp; (try with_reducible rfl))
    try simp only [Act.put, List.setIfInBounds_toArray, List.set_cons_zero, List.set_cons_succ]
    refine tk (i := 6) (oi := ⟨some 26, .move (.tmp 25), 4, "laws.go:61", #[⟨5, .data⟩, ⟨4, .chain⟩], none⟩) (v := ?vz6) rfl (by kernel_rfl) (fun _ _ _ h => h) (Or.inl ⟨by rfl, ?hyz6⟩) hHeld ?_
    case hyz6 => (intro w hSw; (try dsimp only at hSw); go_simp; (try with_reducible rfl))
    try simp only [Act.put, List.setIfInBounds_toArray, List.set_cons_zero, List.set_cons_succ]
    refine tk (i := 7) (oi := ⟨some 27, .load 33 (.tmp 3), 33, "laws.go:61", #[⟨6, .guard⟩], some (6, true)⟩) (v := ?vz7) rfl (by kernel_rfl) (fun _ _ _ h => h) (Or.inl ⟨by rfl, ?hyz7⟩) hHeld ?_
    case hyz7 => (intro w hSw; (try dsimp only at hSw); go_simp; (try with_reducible rfl))
    try simp only [Act.put, List.setIfInBounds_toArray, List.set_cons_zero, List.set_cons_succ]
    refine tk (i := 8) (oi := ⟨some 28, .load 33 (.tmp 4), 33, "laws.go:61", #[⟨6, .guard⟩], some (6, true)⟩) (v := ?vz8) rfl (by kernel_rfl) (fun _ _ _ h => h) (Or.inl ⟨by rfl, ?hyz8⟩) hHeld ?_
    case hyz8 => (intro w hSw; (try dsimp only at hSw); go_simp; (try with_reducible rfl))
    try simp only [Act.put, List.setIfInBounds_toArray, List.set_cons_zero, List.set_cons_succ]
    refine tk (i := 10) (oi := ⟨some 30, .load 33 (.tmp 4), 33, "laws.go:61", #[⟨6, .guard⟩], some (6, true)⟩) (v := ?vz10) rfl (by kernel_rfl) (fun _ _ _ h => h) (Or.inl ⟨by rfl, ?hyz10⟩) hHeld ?_
    case hyz10 => (intro w hSw; (try dsimp only at hSw); go_simp; (try with_reducible rfl))
    try simp only [Act.put, List.setIfInBounds_toArray, List.set_cons_zero, List.set_cons_succ]
    refine tk (i := 12) (oi := ⟨some 32, .load 33 (.tmp 3), 33, "laws.go:61", #[⟨6, .guard⟩], some (6, true)⟩) (v := ?vz12) rfl (by kernel_rfl) (fun _ _ _ h => h) (Or.inl ⟨by rfl, ?hyz12⟩) hHeld ?_
    case hyz12 => (intro w hSw; (try dsimp only at hSw); go_simp; (try with_reducible rfl))
    try simp only [Act.put, List.setIfInBounds_toArray, List.set_cons_zero, List.set_cons_succ]
    refine wpAnyH_ready (rs := [9]) (by kernel_rfl) (by simp) ?_
    refine AllReadyH.cons (o := ⟨some 29, .call { callee := .value (.func 21), args := #[.tmp 27, .tmp 28], argTypes := #[33, 33] }, 33, "laws.go:61", #[⟨7, .data⟩, ⟨8, .data⟩, ⟨6, .chain⟩, ⟨6, .guard⟩], some (6, true)⟩) rfl (fun K hK => ?_) AllReadyH.nil
    go_simp
    (go_at_call 21; ((with_reducible refine (HAdd.out _ _ _ _ _ _ _ _ _ (R.out _ hCur).1 (R.out _ hCur).2.1 (R.out _ hCur).2.2.1 (R.out _ hCur).2.2.2.1).mono ?_); rintro e Wz2 ⟨Aa, ca, Da, da, rfl, hca, hda, oAa, oDa, hapa, hb⟩; (first | ((replace oAb := oAb.below hb); (replace oDb := oDb.below hb)) | skip)))
    refine hK.out _ _ (SB.out _ (bt hCur hb)) (fun hHeld' => ?_)
    clear hK K hHeld
    have hHeld := hHeld'
    clear hHeld'
    replace hCur := bt hCur hb
    clear hb
    try simp only [Act.put, List.setIfInBounds_toArray, List.set_cons_zero, List.set_cons_succ]
    refine wpAnyH_ready (rs := [11]) (by kernel_rfl) (by simp) ?_
    refine AllReadyH.cons (o := ⟨some 31, .call { callee := .value (.func 20), args := #[.tmp 29, .tmp 30], argTypes := #[33, 33] }, 33, "laws.go:61", #[⟨9, .data⟩, ⟨10, .data⟩, ⟨9, .chain⟩, ⟨6, .guard⟩], some (6, true)⟩) rfl (fun K hK => ?_) AllReadyH.nil
    go_simp
    (go_at_call 20; ((with_reducible refine (HSas.out _ _ _ _ _ _ _ _ _ oAa.rd oDa.rd (R.out _ hCur).2.2.1 (R.out _ hCur).2.2.2.1).mono ?_); rintro e Wz3 ⟨Ay, cy, Dy, dy, rfl, hcy, hdy, oAy, oDy, hapy, hb⟩; skip))
    refine hK.out _ _ (SB.out _ (bt hCur hb)) (fun hHeld' => ?_)
    clear hK K hHeld
    have hHeld := hHeld'
    clear hHeld'
    replace hCur := bt hCur hb
    clear hb
    try simp only [Act.put, List.setIfInBounds_toArray, List.set_cons_zero, List.set_cons_succ]
    refine wpAnyH_ready (rs := [13]) (by kernel_rfl) (by simp) ?_
    refine AllReadyH.cons (o := ⟨some 33, .call { callee := .value (.func 19), args := #[.tmp 31, .tmp 32], argTypes := #[33, 33] }, 4, "laws.go:61", #[⟨11, .data⟩, ⟨12, .data⟩, ⟨11, .chain⟩, ⟨6, .guard⟩], some (6, true)⟩) rfl (fun K hK => ?_) AllReadyH.nil
    go_simp
    (go_at_call 19; ((with_reducible refine (HEr.out _ _ _ _ _ _ _ _ _ oAy.rd oDy.rd (R.out _ hCur).1 (R.out _ hCur).2.1 adr.out.1 adr.out.2).mono ?_); rintro e Wz4 ⟨rfl, hb⟩; skip))
    refine hK.out _ _ (SB.out _ (bt hCur hb)) (fun hHeld' => ?_)
    clear hK K hHeld
    have hHeld := hHeld'
    clear hHeld'
    replace hCur := bt hCur hb
    clear hb
    try simp only [Act.put, List.setIfInBounds_toArray, List.set_cons_zero, List.set_cons_succ]
    refine tk (i := 14) (oi := ⟨some 34, .pick (.tmp 26) (.tmp 33) (.const (.bool false)), 4, "laws.go:61", #[⟨6, .data⟩, ⟨13, .data⟩], none⟩) (v := ?vz14) rfl (by kernel_rfl) (fun _ _ _ h => h) (Or.inl ⟨by rfl, ?hyz14⟩) hHeld ?_
    case hyz14 => (intro w hSw; (try dsimp only at hSw); go_simp; (try with_reducible rfl))
    try simp only [Act.put, List.setIfInBounds_toArray, List.set_cons_zero, List.set_cons_succ]
    refine tk (i := 15) (oi := ⟨some 35, .move (.tmp 34), 4, "laws.go:61", #[⟨14, .data⟩, ⟨13, .chain⟩], none⟩) (v := ?vz15) rfl (by kernel_rfl) (fun _ _ _ h => h) (Or.inl ⟨by rfl, ?hyz15⟩) hHeld ?_
    case hyz15 => (intro w hSw; (try dsimp only at hSw); go_simp; (try with_reducible rfl))
    try simp only [Act.put, List.setIfInBounds_toArray, List.set_cons_zero, List.set_cons_succ]
    refine tk (i := 16) (oi := ⟨some 36, .load 33 (.tmp 3), 33, "laws.go:61", #[⟨15, .guard⟩], some (15, true)⟩) (v := ?vz16) rfl (by kernel_rfl) (fun _ _ _ h => h) (Or.inl ⟨by rfl, ?hyz16⟩) hHeld ?_
    case hyz16 => (intro w hSw; (try dsimp only at hSw); go_simp; (try with_reducible rfl))
    try simp only [Act.put, List.setIfInBounds_toArray, List.set_cons_zero, List.set_cons_succ]
    refine tk (i := 17) (oi := ⟨some 37, .load 33 (.tmp 4), 33, "laws.go:61", #[⟨15, .guard⟩], some (15, true)⟩) (v := ?vz17) rfl (by kernel_rfl) (fun _ _ _ h => h) (Or.inl ⟨by rfl, ?hyz17⟩) hHeld ?_
    case hyz17 => (intro w hSw; (try dsimp only at hSw); go_simp; (try with_reducible rfl))
    try simp only [Act.put, List.setIfInBounds_toArray, List.set_cons_zero, List.set_cons_succ]
    refine tk (i := 19) (oi := ⟨some 39, .load 33 (.tmp 3), 33, "laws.go:61", #[⟨15, .guard⟩], some (15, true)⟩) (v := ?vz19) rfl (by kernel_rfl) (fun _ _ _ h => h) (Or.inl ⟨by rfl, ?hyz19⟩) hHeld ?_
    case hyz19 => (intro w hSw; (try dsimp only at hSw); go_simp; (try with_reducible rfl))
    try simp only [Act.put, List.setIfInBounds_toArray, List.set_cons_zero, List.set_cons_succ]
    refine tk (i := 20) (oi := ⟨some 40, .load 33 (.tmp 4), 33, "laws.go:61", #[⟨15, .guard⟩], some (15, true)⟩) (v := ?vz20) rfl (by kernel_rfl) (fun _ _ _ h => h) (Or.inl ⟨by rfl, ?hyz20⟩) hHeld ?_
    case hyz20 => (intro w hSw; (try dsimp only at hSw); go_simp; (try with_reducible rfl))
    try simp only [Act.put, List.setIfInBounds_toArray, List.set_cons_zero, List.set_cons_succ]
    refine wpAnyH_ready (rs := [18]) (by kernel_rfl) (by simp) ?_
    refine AllReadyH.cons (o := ⟨some 38, .call { callee := .value (.func 22), args := #[.tmp 36, .tmp 37], argTypes := #[33, 33] }, 3, "laws.go:61", #[⟨16, .data⟩, ⟨17, .data⟩, ⟨15, .chain⟩, ⟨15, .guard⟩], some (15, true)⟩) rfl (fun K hK => ?_) AllReadyH.nil
    go_simp
    (go_at_call 22; ((with_reducible refine (HCmp.out _ _ _ _ _ _ _ _ _ (R.out _ hCur).1 (R.out _ hCur).2.1 (R.out _ hCur).2.2.1 (R.out _ hCur).2.2.2.1).mono ?_); rintro e Wz5 ⟨rfl, hb⟩; skip))
    refine hK.out _ _ (SB.out _ (bt hCur hb)) (fun hHeld' => ?_)
    clear hK K hHeld
    have hHeld := hHeld'
    clear hHeld'
    replace hCur := bt hCur hb
    clear hb
    try simp only [Act.put, List.setIfInBounds_toArray, List.set_cons_zero, List.set_cons_succ]
    refine wpAnyH_ready (rs := [21]) (by kernel_rfl) (by simp) ?_
    refine AllReadyH.cons (o := ⟨some 41, .call { callee := .value (.func 20), args := #[.tmp 39, .tmp 40], argTypes := #[33, 33] }, 33, "laws.go:61", #[⟨19, .data⟩, ⟨20, .data⟩, ⟨18, .chain⟩, ⟨15, .guard⟩], some (15, true)⟩) rfl (fun K hK => ?_) AllReadyH.nil
    go_simp
    (go_at_call 20; ((with_reducible refine (HSrs.out _ _ _ _ _ _ _ _ _ (R.out _ hCur).1 (R.out _ hCur).2.1 (R.out _ hCur).2.2.1 (R.out _ hCur).2.2.2.1).mono ?_); rintro e Wz6 ⟨Ad, cd, Dd, dd, rfl, hcd, hdd, oAd, oDd, hapd, hb⟩; skip))
    refine hK.out _ _ (SB.out _ (bt hCur hb)) (fun hHeld' => ?_)
    clear hK K hHeld
    have hHeld := hHeld'
    clear hHeld'
    replace hCur := bt hCur hb
    clear hb
    try simp only [Act.put, List.setIfInBounds_toArray, List.set_cons_zero, List.set_cons_succ]
    refine wpAnyH_ready (rs := [22]) (by kernel_rfl) (by simp) ?_
    refine AllReadyH.cons (o := ⟨some 42, .call { callee := .value (.func 23), args := #[.tmp 41], argTypes := #[33] }, 3, "laws.go:61", #[⟨21, .data⟩, ⟨21, .chain⟩, ⟨15, .guard⟩], some (15, true)⟩) rfl (fun K hK => ?_) AllReadyH.nil
    go_simp
    (go_at_call 23; ((with_reducible refine (HGd.out _ _ _ _ _ oAd.rd oDd.rd).mono ?_); rintro e Wz7 ⟨rfl, hb⟩; skip))
    refine hK.out _ _ (SB.out _ (bt hCur hb)) (fun hHeld' => ?_)
    clear hK K hHeld
    have hHeld := hHeld'
    clear hHeld'
    replace hCur := bt hCur hb
    clear hb
    try simp only [Act.put, List.setIfInBounds_toArray, List.set_cons_zero, List.set_cons_succ]
    refine tk (i := 23) (oi := ⟨some 43, .binOp .eql 3 (.tmp 38) (.tmp 42) 3, 4, "laws.go:61", #[⟨18, .data⟩, ⟨22, .data⟩, ⟨15, .guard⟩], some (15, true)⟩) (v := ?vz23) rfl (by kernel_rfl) (fun _ _ _ h => h) (Or.inl ⟨by rfl, ?hyz23⟩) hHeld ?_
    case hyz23 => (intro w hSw; (try dsimp only at hSw); go_simp; (try with_reducible rfl))
    try simp only [Act.put, List.setIfInBounds_toArray, List.set_cons_zero, List.set_cons_succ]
    refine tk (i := 24) (oi := ⟨some 44, .pick (.tmp 35) (.tmp 43) (.const (.bool false)), 4, "laws.go:61", #[⟨15, .data⟩, ⟨23, .data⟩], none⟩) (v := ?vz24) rfl (by kernel_rfl) (fun _ _ _ h => h) (Or.inl ⟨by rfl, ?hyz24⟩) hHeld ?_
    case hyz24 => (intro w hSw; (try dsimp only at hSw); go_simp; (try with_reducible rfl))
    try simp only [Act.put, List.setIfInBounds_toArray, List.set_cons_zero, List.set_cons_succ]
    refine tk (i := 25) (oi := ⟨some 45, .move (.tmp 44), 4, "laws.go:61", #[⟨24, .data⟩, ⟨22, .chain⟩], none⟩) (v := ?vz25) rfl (by kernel_rfl) (fun _ _ _ h => h) (Or.inl ⟨by rfl, ?hyz25⟩) hHeld ?_
    case hyz25 => (intro w hSw; (try dsimp only at hSw); go_simp; (try with_reducible rfl))
    try simp only [Act.put, List.setIfInBounds_toArray, List.set_cons_zero, List.set_cons_succ]
    refine tk (i := 26) (oi := ⟨some 46, .load 33 (.tmp 3), 33, "laws.go:61", #[⟨25, .guard⟩], some (25, true)⟩) (v := ?vz26) rfl (by kernel_rfl) (fun _ _ _ h => h) (Or.inl ⟨by rfl, ?hyz26⟩) hHeld ?_
    case hyz26 => (intro w hSw; (try dsimp only at hSw); go_simp; (try with_reducible rfl))
    try simp only [Act.put, List.setIfInBounds_toArray, List.set_cons_zero, List.set_cons_succ]
    refine tk (i := 27) (oi := ⟨some 47, .load 33 (.tmp 4), 33, "laws.go:61", #[⟨25, .guard⟩], some (25, true)⟩) (v := ?vz27) rfl (by kernel_rfl) (fun _ _ _ h => h) (Or.inl ⟨by rfl, ?hyz27⟩) hHeld ?_
    case hyz27 => (intro w hSw; (try dsimp only at hSw); go_simp; (try with_reducible rfl))
    try simp only [Act.put, List.setIfInBounds_toArray, List.set_cons_zero, List.set_cons_succ]
    refine tk (i := 29) (oi := ⟨some 49, .load 33 (.tmp 3), 33, "laws.go:61", #[⟨25, .guard⟩], some (25, true)⟩) (v := ?vz29) rfl (by kernel_rfl) (fun _ _ _ h => h) (Or.inl ⟨by rfl, ?hyz29⟩) hHeld ?_
    case hyz29 => (intro w hSw; (try dsimp only at hSw); go_simp; (try with_reducible rfl))
    try simp only [Act.put, List.setIfInBounds_toArray, List.set_cons_zero, List.set_cons_succ]
    refine tk (i := 30) (oi := ⟨some 50, .load 33 (.tmp 4), 33, "laws.go:61", #[⟨25, .guard⟩], some (25, true)⟩) (v := ?vz30) rfl (by kernel_rfl) (fun _ _ _ h => h) (Or.inl ⟨by rfl, ?hyz30⟩) hHeld ?_
    case hyz30 => (intro w hSw; (try dsimp only at hSw); go_simp; (try with_reducible rfl))
    try simp only [Act.put, List.setIfInBounds_toArray, List.set_cons_zero, List.set_cons_succ]
    refine tk (i := 33) (oi := ⟨some 53, .load 33 (.tmp 3), 33, "laws.go:61", #[⟨25, .guard⟩], some (25, true)⟩) (v := ?vz33) rfl (by kernel_rfl) (fun _ _ _ h => h) (Or.inl ⟨by rfl, ?hyz33⟩) hHeld ?_
    case hyz33 => (intro w hSw; (try dsimp only at hSw); go_simp; (try with_reducible rfl))
    try simp only [Act.put, List.setIfInBounds_toArray, List.set_cons_zero, List.set_cons_succ]
    refine tk (i := 34) (oi := ⟨some 54, .load 33 (.tmp 4), 33, "laws.go:61", #[⟨25, .guard⟩], some (25, true)⟩) (v := ?vz34) rfl (by kernel_rfl) (fun _ _ _ h => h) (Or.inl ⟨by rfl, ?hyz34⟩) hHeld ?_
    case hyz34 => (intro w hSw; (try dsimp only at hSw); go_simp; (try with_reducible rfl))
    try simp only [Act.put, List.setIfInBounds_toArray, List.set_cons_zero, List.set_cons_succ]
    refine wpAnyH_ready (rs := [28]) (by kernel_rfl) (by simp) ?_
    refine AllReadyH.cons (o := ⟨some 48, .call { callee := .value (.func 24), args := #[.tmp 46, .tmp 47], argTypes := #[33, 33] }, 33, "laws.go:61", #[⟨26, .data⟩, ⟨27, .data⟩, ⟨25, .chain⟩, ⟨25, .guard⟩], some (25, true)⟩) rfl (fun K hK => ?_) AllReadyH.nil
    go_simp
    (go_at_call 24; ((with_reducible refine (HMin.out _ _ _ _ _ _ _ _ _ (R.out _ hCur).1 (R.out _ hCur).2.1 (R.out _ hCur).2.2.1 (R.out _ hCur).2.2.2.1).mono ?_); rintro e Wz8 ⟨An, cn, Dn, dn, rfl, hcn, hdn, oAn, oDn, hapn, hb⟩; skip))
    refine hK.out _ _ (SB.out _ (bt hCur hb)) (fun hHeld' => ?_)
    clear hK K hHeld
    have hHeld := hHeld'
    clear hHeld'
    replace hCur := bt hCur hb
    clear hb
    try simp only [Act.put, List.setIfInBounds_toArray, List.set_cons_zero, List.set_cons_succ]
    refine wpAnyH_ready (rs := [31]) (by kernel_rfl) (by simp) ?_
    refine AllReadyH.cons (o := ⟨some 51, .call { callee := .value (.func 25), args := #[.tmp 49, .tmp 50], argTypes := #[33, 33] }, 33, "laws.go:61", #[⟨29, .data⟩, ⟨30, .data⟩, ⟨28, .chain⟩, ⟨25, .guard⟩], some (25, true)⟩) rfl (fun K hK => ?_) AllReadyH.nil
    go_simp
    (go_at_call 25; ((with_reducible refine (HMax.out _ _ _ _ _ _ _ _ _ (R.out _ hCur).1 (R.out _ hCur).2.1 (R.out _ hCur).2.2.1 (R.out _ hCur).2.2.2.1).mono ?_); rintro e Wz9 ⟨Am, cm, Dm, dm, rfl, hcm, hdm, oAm, oDm, hapm, hb⟩; (first | ((replace oAn := oAn.below hb); (replace oDn := oDn.below hb)) | skip)))
    refine hK.out _ _ (SB.out _ (bt hCur hb)) (fun hHeld' => ?_)
    clear hK K hHeld
    have hHeld := hHeld'
    clear hHeld'
    replace hCur := bt hCur hb
    clear hb
    try simp only [Act.put, List.setIfInBounds_toArray, List.set_cons_zero, List.set_cons_succ]
    refine wpAnyH_ready (rs := [32]) (by kernel_rfl) (by simp) ?_
    refine AllReadyH.cons (o := ⟨some 52, .call { callee := .value (.func 21), args := #[.tmp 48, .tmp 51], argTypes := #[33, 33] }, 33, "laws.go:61", #[⟨28, .data⟩, ⟨31, .data⟩, ⟨31, .chain⟩, ⟨25, .guard⟩], some (25, true)⟩) rfl (fun K hK => ?_) AllReadyH.nil
    go_simp
    (go_at_call 21; ((with_reducible refine (HAnm.out _ _ _ _ _ _ _ _ _ oAn.rd oDn.rd oAm.rd oDm.rd).mono ?_); rintro e Wz10 ⟨Ab, cb, Db, db, rfl, hcb, hdb, oAb, oDb, hapb, hb⟩; skip))
    refine hK.out _ _ (SB.out _ (bt hCur hb)) (fun hHeld' => ?_)
    clear hK K hHeld
    have hHeld := hHeld'
    clear hHeld'
    replace hCur := bt hCur hb
    clear hb
    try simp only [Act.put, List.setIfInBounds_toArray, List.set_cons_zero, List.set_cons_succ]
    refine wpAnyH_ready (rs := [35]) (by kernel_rfl) (by simp) ?_
    refine AllReadyH.cons (o := ⟨some 55, .call { callee := .value (.func 21), args := #[.tmp 53, .tmp 54], argTypes := #[33, 33] }, 33, "laws.go:61", #[⟨33, .data⟩, ⟨34, .data⟩, ⟨32, .chain⟩, ⟨25, .guard⟩], some (25, true)⟩) rfl (fun K hK => ?_) AllReadyH.nil
    go_simp
    (go_at_call 21; ((with_reducible refine (HAdd.out _ _ _ _ _ _ _ _ _ (R.out _ hCur).1 (R.out _ hCur).2.1 (R.out _ hCur).2.2.1 (R.out _ hCur).2.2.2.1).mono ?_); rintro e Wz11 ⟨Aa, ca, Da, da, rfl, hca, hda, oAa, oDa, hapa, hb⟩; (first | ((replace oAb := oAb.below hb); (replace oDb := oDb.below hb)) | skip)))
    refine hK.out _ _ (SB.out _ (bt hCur hb)) (fun hHeld' => ?_)
    clear hK K hHeld
    have hHeld := hHeld'
    clear hHeld'
    replace hCur := bt hCur hb
    clear hb
    try simp only [Act.put, List.setIfInBounds_toArray, List.set_cons_zero, List.set_cons_succ]
    refine wpAnyH_ready (rs := [36]) (by kernel_rfl) (by simp) ?_
    refine AllReadyH.cons (o := ⟨some 56, .call { callee := .value (.func 19), args := #[.tmp 52, .tmp 55], argTypes := #[33, 33] }, 4, "laws.go:61", #[⟨32, .data⟩, ⟨35, .data⟩, ⟨35, .chain⟩, ⟨25, .guard⟩], some (25, true)⟩) rfl (fun K hK => ?_) AllReadyH.nil
    go_simp
    (go_at_call 19; ((with_reducible refine (HEa.out _ _ _ _ _ _ _ _ _ oAb.rd oDb.rd oAa.rd oDa.rd (own_addr oAa) (own_addr oDa)).mono ?_); rintro e Wz12 ⟨rfl, hb⟩; skip))
    refine hK.out _ _ (SB.out _ (bt hCur hb)) (fun hHeld' => ?_)
    clear hK K hHeld
    have hHeld := hHeld'
    clear hHeld'
    replace hCur := bt hCur hb
    clear hb
    try simp only [Act.put, List.setIfInBounds_toArray, List.set_cons_zero, List.set_cons_succ]
    refine tk (i := 37) (oi := ⟨some 57, .pick (.tmp 45) (.tmp 56) (.const (.bool false)), 4, "laws.go:61", #[⟨25, .data⟩, ⟨36, .data⟩], none⟩) (v := ?vz37) rfl (by kernel_rfl) (fun _ _ _ h => h) (Or.inl ⟨by rfl, ?hyz37⟩) hHeld ?_
    case hyz37 => (intro w hSw; (try dsimp only at hSw); go_simp; (try with_reducible rfl))
    try simp only [Act.put, List.setIfInBounds_toArray, List.set_cons_zero, List.set_cons_succ]
    refine tk (i := 38) (oi := ⟨some 58, .move (.tmp 57), 4, "laws.go:61", #[⟨37, .data⟩, ⟨36, .chain⟩], none⟩) (v := ?vz38) rfl (by kernel_rfl) (fun _ _ _ h => h) (Or.inl ⟨by rfl, ?hyz38⟩) hHeld ?_
    case hyz38 => (intro w hSw; (try dsimp only at hSw); go_simp; (try with_reducible rfl))
    try simp only [Act.put, List.setIfInBounds_toArray, List.set_cons_zero, List.set_cons_succ]
    refine tk (i := 39) (oi := ⟨some 59, .load 33 (.tmp 4), 33, "laws.go:61", #[⟨38, .guard⟩], some (38, true)⟩) (v := ?vz39) rfl (by kernel_rfl) (fun _ _ _ h => h) (Or.inl ⟨by rfl, ?hyz39⟩) hHeld ?_
    case hyz39 => (intro w hSw; (try dsimp only at hSw); go_simp; (try with_reducible rfl))
    try simp only [Act.put, List.setIfInBounds_toArray, List.set_cons_zero, List.set_cons_succ]
    refine wpAnyH_ready (rs := [40]) (by kernel_rfl) (by simp) ?_
    refine AllReadyH.cons (o := ⟨some 60, .call { callee := .value (.func 23), args := #[.tmp 59], argTypes := #[33] }, 3, "laws.go:61", #[⟨39, .data⟩, ⟨38, .chain⟩, ⟨38, .guard⟩], some (38, true)⟩) rfl (fun K hK => ?_) AllReadyH.nil
    go_simp
    (go_at_call 23; ((with_reducible refine (HGs.out _ _ _ _ _ (R.out _ hCur).2.2.1 (R.out _ hCur).2.2.2.1).mono ?_); rintro e Wz13 ⟨rfl, hb⟩; skip))
    refine hK.out _ _ (SB.out _ (bt hCur hb)) (fun hHeld' => ?_)
    clear hK K hHeld
    have hHeld := hHeld'
    clear hHeld'
    replace hCur := bt hCur hb
    clear hb
    try simp only [Act.put, List.setIfInBounds_toArray, List.set_cons_zero, List.set_cons_succ]
    refine tk (i := 41) (oi := ⟨some 61, .binOp .eql 3 (.tmp 60) (.const (.int Go.IntKind.i64 0)) 3, 4, "laws.go:61", #[⟨40, .data⟩, ⟨38, .guard⟩], some (38, true)⟩) (v := ?vz41) rfl (by kernel_rfl) (fun _ _ _ h => h) (Or.inl ⟨by rfl, ?hyz41⟩) hHeld ?_
    case hyz41 => (intro w hSw; (try dsimp only at hSw); go_simp; (try with_reducible rfl))
    try simp only [Act.put, List.setIfInBounds_toArray, List.set_cons_zero, List.set_cons_succ]
    refine tk (i := 42) (oi := ⟨some 62, .move (.tmp 61), 4, "laws.go:61", #[⟨41, .data⟩, ⟨40, .chain⟩, ⟨38, .guard⟩], some (38, true)⟩) (v := ?vz42) rfl (by kernel_rfl) (fun _ _ _ h => h) (Or.inl ⟨by rfl, ?hyz42⟩) hHeld ?_
    case hyz42 => (intro w hSw; (try dsimp only at hSw); go_simp; (try with_reducible rfl))
    try simp only [Act.put, List.setIfInBounds_toArray, List.set_cons_zero, List.set_cons_succ]
    refine tk (i := 43) (oi := ⟨some 63, .load 33 (.tmp 3), 33, "laws.go:61", #[⟨42, .guard⟩], some (42, false)⟩) (v := undef) rfl (by kernel_rfl) (fun _ _ _ h => h) (Or.inr ⟨by rfl, rfl⟩) hHeld ?_
    try simp only [Act.put, List.setIfInBounds_toArray, List.set_cons_zero, List.set_cons_succ]
    refine tk (i := 44) (oi := ⟨some 64, .load 33 (.tmp 4), 33, "laws.go:61", #[⟨42, .guard⟩], some (42, false)⟩) (v := undef) rfl (by kernel_rfl) (fun _ _ _ h => h) (Or.inr ⟨by rfl, rfl⟩) hHeld ?_
    try simp only [Act.put, List.setIfInBounds_toArray, List.set_cons_zero, List.set_cons_succ]
    refine tk (i := 46) (oi := ⟨some 66, .load 33 (.tmp 4), 33, "laws.go:61", #[⟨42, .guard⟩], some (42, false)⟩) (v := undef) rfl (by kernel_rfl) (fun _ _ _ h => h) (Or.inr ⟨by rfl, rfl⟩) hHeld ?_
    try simp only [Act.put, List.setIfInBounds_toArray, List.set_cons_zero, List.set_cons_succ]
    refine tk (i := 48) (oi := ⟨some 68, .load 33 (.tmp 3), 33, "laws.go:61", #[⟨42, .guard⟩], some (42, false)⟩) (v := undef) rfl (by kernel_rfl) (fun _ _ _ h => h) (Or.inr ⟨by rfl, rfl⟩) hHeld ?_
    try simp only [Act.put, List.setIfInBounds_toArray, List.set_cons_zero, List.set_cons_succ]
    refine tk (i := 45) (oi := ⟨some 65, .call { callee := .value (.func 27), args := #[.tmp 63, .tmp 64], argTypes := #[33, 33] }, 33, "laws.go:61", #[⟨43, .data⟩, ⟨44, .data⟩, ⟨42, .chain⟩, ⟨42, .guard⟩], some (42, false)⟩) (v := undef) rfl (by kernel_rfl) (fun _ _ _ h => h) (Or.inr ⟨by rfl, rfl⟩) hHeld ?_
    try simp only [Act.put, List.setIfInBounds_toArray, List.set_cons_zero, List.set_cons_succ]
    refine tk (i := 47) (oi := ⟨some 67, .call { callee := .value (.func 26), args := #[.tmp 65, .tmp 66], argTypes := #[33, 33] }, 33, "laws.go:61", #[⟨45, .data⟩, ⟨46, .data⟩, ⟨45, .chain⟩, ⟨42, .guard⟩], some (42, false)⟩) (v := undef) rfl (by kernel_rfl) (fun _ _ _ h => h) (Or.inr ⟨by rfl, rfl⟩) hHeld ?_
    try simp only [Act.put, List.setIfInBounds_toArray, List.set_cons_zero, List.set_cons_succ]
    refine tk (i := 49) (oi := ⟨some 69, .call { callee := .value (.func 19), args := #[.tmp 67, .tmp 68], argTypes := #[33, 33] }, 4, "laws.go:61", #[⟨47, .data⟩, ⟨48, .data⟩, ⟨47, .chain⟩, ⟨42, .guard⟩], some (42, false)⟩) (v := undef) rfl (by kernel_rfl) (fun _ _ _ h => h) (Or.inr ⟨by rfl, rfl⟩) hHeld ?_
    try simp only [Act.put, List.setIfInBounds_toArray, List.set_cons_zero, List.set_cons_succ]
    refine tk (i := 50) (oi := ⟨some 70, .pick (.tmp 62) (.const (.bool true)) (.tmp 69), 4, "laws.go:61", #[⟨42, .data⟩, ⟨49, .data⟩, ⟨38, .guard⟩], some (38, true)⟩) (v := ?vz50) rfl (by kernel_rfl) (fun _ _ _ h => h) (Or.inl ⟨by rfl, ?hyz50⟩) hHeld ?_
    case hyz50 => (intro w hSw; (try dsimp only at hSw); go_simp; (try with_reducible rfl))
    try simp only [Act.put, List.setIfInBounds_toArray, List.set_cons_zero, List.set_cons_succ]
    refine tk (i := 51) (oi := ⟨some 71, .pick (.tmp 58) (.tmp 70) (.const (.bool false)), 4, "laws.go:61", #[⟨38, .data⟩, ⟨50, .data⟩], none⟩) (v := ?vz51) rfl (by kernel_rfl) (fun _ _ _ h => h) (Or.inl ⟨by rfl, ?hyz51⟩) hHeld ?_
    case hyz51 => (intro w hSw; (try dsimp only at hSw); go_simp; (try with_reducible rfl))
    try simp only [Act.put, List.setIfInBounds_toArray, List.set_cons_zero, List.set_cons_succ]
    refine tk (i := 52) (oi := ⟨some 2, .assign (.tmp 71), 4, "laws.go:61", #[⟨51, .data⟩, ⟨49, .chain⟩, ⟨0, .phase⟩, ⟨1, .phase⟩, ⟨2, .phase⟩, ⟨3, .phase⟩, ⟨4, .phase⟩, ⟨5, .phase⟩, ⟨6, .phase⟩, ⟨7, .phase⟩, ⟨8, .phase⟩, ⟨9, .phase⟩, ⟨10, .phase⟩, ⟨11, .phase⟩, ⟨12, .phase⟩, ⟨13, .phase⟩, ⟨14, .phase⟩, ⟨15, .phase⟩, ⟨16, .phase⟩, ⟨17, .phase⟩, ⟨18, .phase⟩, ⟨19, .phase⟩, ⟨20, .phase⟩, ⟨21, .phase⟩, ⟨22, .phase⟩, ⟨23, .phase⟩, ⟨24, .phase⟩, ⟨25, .phase⟩, ⟨26, .phase⟩, ⟨27, .phase⟩, ⟨28, .phase⟩, ⟨29, .phase⟩, ⟨30, .phase⟩, ⟨31, .phase⟩, ⟨32, .phase⟩, ⟨33, .phase⟩, ⟨34, .phase⟩, ⟨35, .phase⟩, ⟨36, .phase⟩, ⟨37, .phase⟩, ⟨38, .phase⟩, ⟨39, .phase⟩, ⟨40, .phase⟩, ⟨41, .phase⟩, ⟨42, .phase⟩, ⟨43, .phase⟩, ⟨44, .phase⟩, ⟨45, .phase⟩, ⟨46, .phase⟩, ⟨47, .phase⟩, ⟨48, .phase⟩, ⟨49, .phase⟩, ⟨50, .phase⟩, ⟨51, .phase⟩], none⟩) (v := ?vz52) rfl (by kernel_rfl) (fun _ _ _ h => h) (Or.inl ⟨by rfl, ?hyz52⟩) hHeld ?_
    case hyz52 => (intro w hSw; (try dsimp only at hSw); go_simp; (try with_reducible rfl))
    try simp only [Act.put, List.setIfInBounds_toArray, List.set_cons_zero, List.set_cons_succ]
    refine wpAnyH_done (by kernel_rfl) ?_ _
    go_wp2
    go_ret
    exact ⟨rfl, bt KW.out hCur⟩
  · have HDiv := Lib.hid (fun W A c D d A' c' D' d' a1 a2 a3 a4 => e1 W A c D d A' c' D' d' a1 a2 a3 a4)
    have HMul := Lib.hid (fun W A c D d A' c' D' d' a1 a2 a3 a4 => e2 W A c D d A' c' D' d' a1 a2 a3 a4)
    clear e1 e2
    clear HU
    have SB : Hid (∀ w', Below W7.heap.size W7 w' → (w'.cell? ⟨W1.heap.size, 0, none⟩ = some (.bool pr) ∧ w'.cell? ⟨W1.heap.size, 1, none⟩ = some (.slice Ar lr.length cr) ∧ w'.cell? ⟨W1.heap.size, 2, none⟩ = some (.slice Dr mr.length dr) ∧ w'.cell? ⟨W3.heap.size, 0, none⟩ = some (.bool ps) ∧ w'.cell? ⟨W3.heap.size, 1, none⟩ = some (.slice As ls.length cs) ∧ w'.cell? ⟨W3.heap.size, 2, none⟩ = some (.slice Ds ms.length ds) ∧ w'.cell? ⟨W6.heap.size, 0, none⟩ = some (.bool pr) ∧ w'.cell? ⟨W6.heap.size, 1, none⟩ = some (.slice Ax lr.length cx) ∧ w'.cell? ⟨W6.heap.size, 2, none⟩ = some (.slice Dx mr.length dx) ∧ Below W7.heap.size W7 w')) := Lib.hid (fun w' hB => ⟨rblk_cell (rblk_below P_r hB) 0, rblk_cell (rblk_below P_r hB) 1, rblk_cell (rblk_below P_r hB) 2, rblk_cell (rblk_below P_s hB) 0, rblk_cell (rblk_below P_s hB) 1, rblk_cell (rblk_below P_s hB) 2, rblk_cell (rblk_below P_x hB) 0, rblk_cell (rblk_below P_x hB) 1, rblk_cell (rblk_below P_x hB) 2, hB⟩)
    have KW := Lib.hid kb
    clear kb
    refine wp_region_held_drew (S := fun w' => w'.cell? ⟨W1.heap.size, 0, none⟩ = some (.bool pr) ∧ w'.cell? ⟨W1.heap.size, 1, none⟩ = some (.slice Ar lr.length cr) ∧ w'.cell? ⟨W1.heap.size, 2, none⟩ = some (.slice Dr mr.length dr) ∧ w'.cell? ⟨W3.heap.size, 0, none⟩ = some (.bool ps) ∧ w'.cell? ⟨W3.heap.size, 1, none⟩ = some (.slice As ls.length cs) ∧ w'.cell? ⟨W3.heap.size, 2, none⟩ = some (.slice Ds ms.length ds) ∧ w'.cell? ⟨W6.heap.size, 0, none⟩ = some (.bool pr) ∧ w'.cell? ⟨W6.heap.size, 1, none⟩ = some (.slice Ax lr.length cx) ∧ w'.cell? ⟨W6.heap.size, 2, none⟩ = some (.slice Dx mr.length dx) ∧ Below W7.heap.size W7 w') (by kernel_rfl) (SB.out _ (Below.refl _ _).drew) (fun hHeld => ?_)
    have hCur : Below W7.heap.size W7 W7.drew := (Below.refl _ _).drew
    refine tk (i := 0) (oi := ⟨some 20, .move (.tmp 6), 4, "laws.go:61", #[], none⟩) (v := ?vy0) rfl (by kernel_rfl) (fun _ _ _ h => h) (Or.inl ⟨by rfl, ?hyy0⟩) hHeld ?_
    case hyy0 => (intro w hSw; (try dsimp only at hSw); go_simp; (try with_reducible rfl))
    try simp only [Act.put, List.setIfInBounds_toArray, List.set_cons_zero, List.set_cons_succ]
    refine tk (i := 1) (oi := ⟨some 21, .move (.tmp 20), 4, "laws.go:61", #[⟨0, .data⟩], none⟩) (v := ?vy1) rfl (by kernel_rfl) (fun _ _ _ h => h) (Or.inl ⟨by rfl, ?hyy1⟩) hHeld ?_
    case hyy1 => (intro w hSw; (try dsimp only at hSw); go_simp; (try with_reducible rfl))
    try simp only [Act.put, List.setIfInBounds_toArray, List.set_cons_zero, List.set_cons_succ]
    refine tk (i := 2) (oi := ⟨some 22, .load 33 (.tmp 5), 33, "laws.go:61", #[⟨1, .guard⟩], some (1, true)⟩) (v := ?vy2) rfl (by kernel_rfl) (fun _ _ _ h => h) (Or.inl ⟨by rfl, ?hyy2⟩) hHeld ?_
    case hyy2 => (intro w hSw; (try dsimp only at hSw); go_simp; (try with_reducible rfl))
    try simp only [Act.put, List.setIfInBounds_toArray, List.set_cons_zero, List.set_cons_succ]
    refine tk (i := 3) (oi := ⟨some 23, .load 33 (.tmp 3), 33, "laws.go:61", #[⟨1, .guard⟩], some (1, true)⟩) (v := ?vy3) rfl (by kernel_rfl) (fun _ _ _ h => h) (Or.inl ⟨by rfl, ?hyy3⟩) hHeld ?_
    case hyy3 => (intro w hSw; (try dsimp only at hSw); go_simp; (try with_reducible rfl))
    try simp only [Act.put, List.setIfInBounds_toArray, List.set_cons_zero, List.set_cons_succ]
    refine wpAnyH_ready (rs := [4]) (by kernel_rfl) (by simp) ?_
    refine AllReadyH.cons (o := ⟨some 24, .call { callee := .value (.func 19), args := #[.tmp 22, .tmp 23], argTypes := #[33, 33] }, 4, "laws.go:61", #[⟨2, .data⟩, ⟨3, .data⟩, ⟨1, .chain⟩, ⟨1, .guard⟩], some (1, true)⟩) rfl (fun K hK => ?_) AllReadyH.nil
    go_simp
    (go_at_call 19; ((with_reducible refine (HEr.out _ _ _ _ _ _ _ _ _ (R.out _ hCur).2.2.2.2.1 (R.out _ hCur).2.2.2.2.2 (R.out _ hCur).1 (R.out _ hCur).2.1 adr.out.1 adr.out.2).mono ?_); rintro e Wy1 ⟨rfl, hb⟩; skip))
    refine hK.out _ _ (SB.out _ (bt hCur hb)) (fun hHeld' => ?_)
    clear hK K hHeld
    have hHeld := hHeld'
    clear hHeld'
    replace hCur := bt hCur hb
    clear hb
    try simp only [Act.put, List.setIfInBounds_toArray, List.set_cons_zero, List.set_cons_succ]
    refine tk (i := 5) (oi := ⟨some 25, .pick (.tmp 21) (.tmp 24) (.const (.bool false)), 4, "laws.go:61", #[⟨1, .data⟩, ⟨4, .data⟩], none⟩) (v := ?vy5) rfl (by kernel_rfl) (fun _ _ _ h => h) (Or.inl ⟨by rfl, ?hyy5⟩) hHeld ?_
    case hyy5 => (intro w hSw; (try dsimp only at hSw); go_simp; (try with_reducible rfl))
    try simp only [Act.put, List.setIfInBounds_toArray, List.set_cons_zero, List.set_cons_succ]
    refine tk (i := 6) (oi := ⟨some 26, .move (.tmp 25), 4, "laws.go:61", #[⟨5, .data⟩, ⟨4, .chain⟩], none⟩) (v := ?vy6) rfl (by kernel_rfl) (fun _ _ _ h => h) (Or.inl ⟨by rfl, ?hyy6⟩) hHeld ?_
    case hyy6 => (intro w hSw; (try dsimp only at hSw); go_simp; (try with_reducible rfl))
    try simp only [Act.put, List.setIfInBounds_toArray, List.set_cons_zero, List.set_cons_succ]
    refine tk (i := 7) (oi := ⟨some 27, .load 33 (.tmp 3), 33, "laws.go:61", #[⟨6, .guard⟩], some (6, true)⟩) (v := ?vy7) rfl (by kernel_rfl) (fun _ _ _ h => h) (Or.inl ⟨by rfl, ?hyy7⟩) hHeld ?_
    case hyy7 => (intro w hSw; (try dsimp only at hSw); go_simp; (try with_reducible rfl))
    try simp only [Act.put, List.setIfInBounds_toArray, List.set_cons_zero, List.set_cons_succ]
    refine tk (i := 8) (oi := ⟨some 28, .load 33 (.tmp 4), 33, "laws.go:61", #[⟨6, .guard⟩], some (6, true)⟩) (v := ?vy8) rfl (by kernel_rfl) (fun _ _ _ h => h) (Or.inl ⟨by rfl, ?hyy8⟩) hHeld ?_
    case hyy8 => (intro w hSw; (try dsimp only at hSw); go_simp; (try with_reducible rfl))
    try simp only [Act.put, List.setIfInBounds_toArray, List.set_cons_zero, List.set_cons_succ]
    refine tk (i := 10) (oi := ⟨some 30, .load 33 (.tmp 4), 33, "laws.go:61", #[⟨6, .guard⟩], some (6, true)⟩) (v := ?vy10) rfl (by kernel_rfl) (fun _ _ _ h => h) (Or.inl ⟨by rfl, ?hyy10⟩) hHeld ?_
    case hyy10 => (intro w hSw; (try dsimp only at hSw); go_simp; (try with_reducible rfl))
    try simp only [Act.put, List.setIfInBounds_toArray, List.set_cons_zero, List.set_cons_succ]
    refine tk (i := 12) (oi := ⟨some 32, .load 33 (.tmp 3), 33, "laws.go:61", #[⟨6, .guard⟩], some (6, true)⟩) (v := ?vy12) rfl (by kernel_rfl) (fun _ _ _ h => h) (Or.inl ⟨by rfl, ?hyy12⟩) hHeld ?_
    case hyy12 => (intro w hSw; (try dsimp only at hSw); go_simp; (try with_reducible rfl))
    try simp only [Act.put, List.setIfInBounds_toArray, List.set_cons_zero, List.set_cons_succ]
    refine wpAnyH_ready (rs := [9]) (by kernel_rfl) (by simp) ?_
    refine AllReadyH.cons (o := ⟨some 29, .call { callee := .value (.func 21), args := #[.tmp 27, .tmp 28], argTypes := #[33, 33] }, 33, "laws.go:61", #[⟨7, .data⟩, ⟨8, .data⟩, ⟨6, .chain⟩, ⟨6, .guard⟩], some (6, true)⟩) rfl (fun K hK => ?_) AllReadyH.nil
    go_simp
    (go_at_call 21; ((with_reducible refine (HAdd.out _ _ _ _ _ _ _ _ _ (R.out _ hCur).1 (R.out _ hCur).2.1 (R.out _ hCur).2.2.1 (R.out _ hCur).2.2.2.1).mono ?_); rintro e Wy2 ⟨Aa, ca, Da, da, rfl, hca, hda, oAa, oDa, hapa, hb⟩; (first | ((replace oAb := oAb.below hb); (replace oDb := oDb.below hb)) | skip)))
    refine hK.out _ _ (SB.out _ (bt hCur hb)) (fun hHeld' => ?_)
    clear hK K hHeld
    have hHeld := hHeld'
    clear hHeld'
    replace hCur := bt hCur hb
    clear hb
    try simp only [Act.put, List.setIfInBounds_toArray, List.set_cons_zero, List.set_cons_succ]
    refine wpAnyH_ready (rs := [11]) (by kernel_rfl) (by simp) ?_
    refine AllReadyH.cons (o := ⟨some 31, .call { callee := .value (.func 20), args := #[.tmp 29, .tmp 30], argTypes := #[33, 33] }, 33, "laws.go:61", #[⟨9, .data⟩, ⟨10, .data⟩, ⟨9, .chain⟩, ⟨6, .guard⟩], some (6, true)⟩) rfl (fun K hK => ?_) AllReadyH.nil
    go_simp
    (go_at_call 20; ((with_reducible refine (HSas.out _ _ _ _ _ _ _ _ _ oAa.rd oDa.rd (R.out _ hCur).2.2.1 (R.out _ hCur).2.2.2.1).mono ?_); rintro e Wy3 ⟨Ay, cy, Dy, dy, rfl, hcy, hdy, oAy, oDy, hapy, hb⟩; skip))
    refine hK.out _ _ (SB.out _ (bt hCur hb)) (fun hHeld' => ?_)
    clear hK K hHeld
    have hHeld := hHeld'
    clear hHeld'
    replace hCur := bt hCur hb
    clear hb
    try simp only [Act.put, List.setIfInBounds_toArray, List.set_cons_zero, List.set_cons_succ]
    refine wpAnyH_ready (rs := [13]) (by kernel_rfl) (by simp) ?_
    refine AllReadyH.cons (o := ⟨some 33, .call { callee := .value (.func 19), args := #[.tmp 31, .tmp 32], argTypes := #[33, 33] }, 4, "laws.go:61", #[⟨11, .data⟩, ⟨12, .data⟩, ⟨11, .chain⟩, ⟨6, .guard⟩], some (6, true)⟩) rfl (fun K hK => ?_) AllReadyH.nil
    go_simp
    (go_at_call 19; ((with_reducible refine (HEr.out _ _ _ _ _ _ _ _ _ oAy.rd oDy.rd (R.out _ hCur).1 (R.out _ hCur).2.1 adr.out.1 adr.out.2).mono ?_); rintro e Wy4 ⟨rfl, hb⟩; skip))
    refine hK.out _ _ (SB.out _ (bt hCur hb)) (fun hHeld' => ?_)
    clear hK K hHeld
    have hHeld := hHeld'
    clear hHeld'
    replace hCur := bt hCur hb
    clear hb
    try simp only [Act.put, List.setIfInBounds_toArray, List.set_cons_zero, List.set_cons_succ]
    refine tk (i := 14) (oi := ⟨some 34, .pick (.tmp 26) (.tmp 33) (.const (.bool false)), 4, "laws.go:61", #[⟨6, .data⟩, ⟨13, .data⟩], none⟩) (v := ?vy14) rfl (by kernel_rfl) (fun _ _ _ h => h) (Or.inl ⟨by rfl, ?hyy14⟩) hHeld ?_
    case hyy14 => (intro w hSw; (try dsimp only at hSw); go_simp; (try with_reducible rfl))
    try simp only [Act.put, List.setIfInBounds_toArray, List.set_cons_zero, List.set_cons_succ]
    refine tk (i := 15) (oi := ⟨some 35, .move (.tmp 34), 4, "laws.go:61", #[⟨14, .data⟩, ⟨13, .chain⟩], none⟩) (v := ?vy15) rfl (by kernel_rfl) (fun _ _ _ h => h) (Or.inl ⟨by rfl, ?hyy15⟩) hHeld ?_
    case hyy15 => (intro w hSw; (try dsimp only at hSw); go_simp; (try with_reducible rfl))
    try simp only [Act.put, List.setIfInBounds_toArray, List.set_cons_zero, List.set_cons_succ]
    refine tk (i := 16) (oi := ⟨some 36, .load 33 (.tmp 3), 33, "laws.go:61", #[⟨15, .guard⟩], some (15, true)⟩) (v := ?vy16) rfl (by kernel_rfl) (fun _ _ _ h => h) (Or.inl ⟨by rfl, ?hyy16⟩) hHeld ?_
    case hyy16 => (intro w hSw; (try dsimp only at hSw); go_simp; (try with_reducible rfl))
    try simp only [Act.put, List.setIfInBounds_toArray, List.set_cons_zero, List.set_cons_succ]
    refine tk (i := 17) (oi := ⟨some 37, .load 33 (.tmp 4), 33, "laws.go:61", #[⟨15, .guard⟩], some (15, true)⟩) (v := ?vy17) rfl (by kernel_rfl) (fun _ _ _ h => h) (Or.inl ⟨by rfl, ?hyy17⟩) hHeld ?_
    case hyy17 => (intro w hSw; (try dsimp only at hSw); go_simp; (try with_reducible rfl))
    try simp only [Act.put, List.setIfInBounds_toArray, List.set_cons_zero, List.set_cons_succ]
    refine tk (i := 19) (oi := ⟨some 39, .load 33 (.tmp 3), 33, "laws.go:61", #[⟨15, .guard⟩], some (15, true)⟩) (v := ?vy19) rfl (by kernel_rfl) (fun _ _ _ h => h) (Or.inl ⟨by rfl, ?hyy19⟩) hHeld ?_
    case hyy19 => (intro w hSw; (try dsimp only at hSw); go_simp; (try with_reducible rfl))
    try simp only [Act.put, List.setIfInBounds_toArray, List.set_cons_zero, List.set_cons_succ]
    refine tk (i := 20) (oi := ⟨some 40, .load 33 (.tmp 4), 33, "laws.go:61", #[⟨15, .guard⟩], some (15, true)⟩) (v := ?vy20) rfl (by kernel_rfl) (fun _ _ _ h => h) (Or.inl ⟨by rfl, ?hyy20⟩) hHeld ?_
    case hyy20 => (intro w hSw; (try dsimp only at hSw); go_simp; (try with_reducible rfl))
    try simp only [Act.put, List.setIfInBounds_toArray, List.set_cons_zero, List.set_cons_succ]
    refine wpAnyH_ready (rs := [18]) (by kernel_rfl) (by simp) ?_
    refine AllReadyH.cons (o := ⟨some 38, .call { callee := .value (.func 22), args := #[.tmp 36, .tmp 37], argTypes := #[33, 33] }, 3, "laws.go:61", #[⟨16, .data⟩, ⟨17, .data⟩, ⟨15, .chain⟩, ⟨15, .guard⟩], some (15, true)⟩) rfl (fun K hK => ?_) AllReadyH.nil
    go_simp
    (go_at_call 22; ((with_reducible refine (HCmp.out _ _ _ _ _ _ _ _ _ (R.out _ hCur).1 (R.out _ hCur).2.1 (R.out _ hCur).2.2.1 (R.out _ hCur).2.2.2.1).mono ?_); rintro e Wy5 ⟨rfl, hb⟩; skip))
    refine hK.out _ _ (SB.out _ (bt hCur hb)) (fun hHeld' => ?_)
    clear hK K hHeld
    have hHeld := hHeld'
    clear hHeld'
    replace hCur := bt hCur hb
    clear hb
    try simp only [Act.put, List.setIfInBounds_toArray, List.set_cons_zero, List.set_cons_succ]
    refine wpAnyH_ready (rs := [21]) (by kernel_rfl) (by simp) ?_
    refine AllReadyH.cons (o := ⟨some 41, .call { callee := .value (.func 20), args := #[.tmp 39, .tmp 40], argTypes := #[33, 33] }, 33, "laws.go:61", #[⟨19, .data⟩, ⟨20, .data⟩, ⟨18, .chain⟩, ⟨15, .guard⟩], some (15, true)⟩) rfl (fun K hK => ?_) AllReadyH.nil
    go_simp
    (go_at_call 20; ((with_reducible refine (HSrs.out _ _ _ _ _ _ _ _ _ (R.out _ hCur).1 (R.out _ hCur).2.1 (R.out _ hCur).2.2.1 (R.out _ hCur).2.2.2.1).mono ?_); rintro e Wy6 ⟨Ad, cd, Dd, dd, rfl, hcd, hdd, oAd, oDd, hapd, hb⟩; skip))
    refine hK.out _ _ (SB.out _ (bt hCur hb)) (fun hHeld' => ?_)
    clear hK K hHeld
    have hHeld := hHeld'
    clear hHeld'
    replace hCur := bt hCur hb
    clear hb
    try simp only [Act.put, List.setIfInBounds_toArray, List.set_cons_zero, List.set_cons_succ]
    refine wpAnyH_ready (rs := [22]) (by kernel_rfl) (by simp) ?_
    refine AllReadyH.cons (o := ⟨some 42, .call { callee := .value (.func 23), args := #[.tmp 41], argTypes := #[33] }, 3, "laws.go:61", #[⟨21, .data⟩, ⟨21, .chain⟩, ⟨15, .guard⟩], some (15, true)⟩) rfl (fun K hK => ?_) AllReadyH.nil
    go_simp
    (go_at_call 23; ((with_reducible refine (HGd.out _ _ _ _ _ oAd.rd oDd.rd).mono ?_); rintro e Wy7 ⟨rfl, hb⟩; skip))
    refine hK.out _ _ (SB.out _ (bt hCur hb)) (fun hHeld' => ?_)
    clear hK K hHeld
    have hHeld := hHeld'
    clear hHeld'
    replace hCur := bt hCur hb
    clear hb
    try simp only [Act.put, List.setIfInBounds_toArray, List.set_cons_zero, List.set_cons_succ]
    refine tk (i := 23) (oi := ⟨some 43, .binOp .eql 3 (.tmp 38) (.tmp 42) 3, 4, "laws.go:61", #[⟨18, .data⟩, ⟨22, .data⟩, ⟨15, .guard⟩], some (15, true)⟩) (v := ?vy23) rfl (by kernel_rfl) (fun _ _ _ h => h) (Or.inl ⟨by rfl, ?hyy23⟩) hHeld ?_
    case hyy23 => (intro w hSw; (try dsimp only at hSw); go_simp; (try with_reducible rfl))
    try simp only [Act.put, List.setIfInBounds_toArray, List.set_cons_zero, List.set_cons_succ]
    refine tk (i := 24) (oi := ⟨some 44, .pick (.tmp 35) (.tmp 43) (.const (.bool false)), 4, "laws.go:61", #[⟨15, .data⟩, ⟨23, .data⟩], none⟩) (v := ?vy24) rfl (by kernel_rfl) (fun _ _ _ h => h) (Or.inl ⟨by rfl, ?hyy24⟩) hHeld ?_
    case hyy24 => (intro w hSw; (try dsimp only at hSw); go_simp; (try with_reducible rfl))
    try simp only [Act.put, List.setIfInBounds_toArray, List.set_cons_zero, List.set_cons_succ]
    refine tk (i := 25) (oi := ⟨some 45, .move (.tmp 44), 4, "laws.go:61", #[⟨24, .data⟩, ⟨22, .chain⟩], none⟩) (v := ?vy25) rfl (by kernel_rfl) (fun _ _ _ h => h) (Or.inl ⟨by rfl, ?hyy25⟩) hHeld ?_
    case hyy25 => (intro w hSw; (try dsimp only at hSw); go_simp; (try with_reducible rfl))
    try simp only [Act.put, List.setIfInBounds_toArray, List.set_cons_zero, List.set_cons_succ]
    refine tk (i := 26) (oi := ⟨some 46, .load 33 (.tmp 3), 33, "laws.go:61", #[⟨25, .guard⟩], some (25, true)⟩) (v := ?vy26) rfl (by kernel_rfl) (fun _ _ _ h => h) (Or.inl ⟨by rfl, ?hyy26⟩) hHeld ?_
    case hyy26 => (intro w hSw; (try dsimp only at hSw); go_simp; (try with_reducible rfl))
    try simp only [Act.put, List.setIfInBounds_toArray, List.set_cons_zero, List.set_cons_succ]
    refine tk (i := 27) (oi := ⟨some 47, .load 33 (.tmp 4), 33, "laws.go:61", #[⟨25, .guard⟩], some (25, true)⟩) (v := ?vy27) rfl (by kernel_rfl) (fun _ _ _ h => h) (Or.inl ⟨by rfl, ?hyy27⟩) hHeld ?_
    case hyy27 => (intro w hSw; (try dsimp only at hSw); go_simp; (try with_reducible rfl))
    try simp only [Act.put, List.setIfInBounds_toArray, List.set_cons_zero, List.set_cons_succ]
    refine tk (i := 29) (oi := ⟨some 49, .load 33 (.tmp 3), 33, "laws.go:61", #[⟨25, .guard⟩], some (25, true)⟩) (v := ?vy29) rfl (by kernel_rfl) (fun _ _ _ h => h) (Or.inl ⟨by rfl, ?hyy29⟩) hHeld ?_
    case hyy29 => (intro w hSw; (try dsimp only at hSw); go_simp; (try with_reducible rfl))
    try simp only [Act.put, List.setIfInBounds_toArray, List.set_cons_zero, List.set_cons_succ]
    refine tk (i := 30) (oi := ⟨some 50, .load 33 (.tmp 4), 33, "laws.go:61", #[⟨25, .guard⟩], some (25, true)⟩) (v := ?vy30) rfl (by kernel_rfl) (fun _ _ _ h => h) (Or.inl ⟨by rfl, ?hyy30⟩) hHeld ?_
    case hyy30 => (intro w hSw; (try dsimp only at hSw); go_simp; (try with_reducible rfl))
    try simp only [Act.put, List.setIfInBounds_toArray, List.set_cons_zero, List.set_cons_succ]
    refine tk (i := 33) (oi := ⟨some 53, .load 33 (.tmp 3), 33, "laws.go:61", #[⟨25, .guard⟩], some (25, true)⟩) (v := ?vy33) rfl (by kernel_rfl) (fun _ _ _ h => h) (Or.inl ⟨by rfl, ?hyy33⟩) hHeld ?_
    case hyy33 => (intro w hSw; (try dsimp only at hSw); go_simp; (try with_reducible rfl))
    try simp only [Act.put, List.setIfInBounds_toArray, List.set_cons_zero, List.set_cons_succ]
    refine tk (i := 34) (oi := ⟨some 54, .load 33 (.tmp 4), 33, "laws.go:61", #[⟨25, .guard⟩], some (25, true)⟩) (v := ?vy34) rfl (by kernel_rfl) (fun _ _ _ h => h) (Or.inl ⟨by rfl, ?hyy34⟩) hHeld ?_
    case hyy34 => (intro w hSw; (try dsimp only at hSw); go_simp; (try with_reducible rfl))
    try simp only [Act.put, List.setIfInBounds_toArray, List.set_cons_zero, List.set_cons_succ]
    refine wpAnyH_ready (rs := [28]) (by kernel_rfl) (by simp) ?_
    refine AllReadyH.cons (o := ⟨some 48, .call { callee := .value (.func 24), args := #[.tmp 46, .tmp 47], argTypes := #[33, 33] }, 33, "laws.go:61", #[⟨26, .data⟩, ⟨27, .data⟩, ⟨25, .chain⟩, ⟨25, .guard⟩], some (25, true)⟩) rfl (fun K hK => ?_) AllReadyH.nil
    go_simp
    (go_at_call 24; ((with_reducible refine (HMin.out _ _ _ _ _ _ _ _ _ (R.out _ hCur).1 (R.out _ hCur).2.1 (R.out _ hCur).2.2.1 (R.out _ hCur).2.2.2.1).mono ?_); rintro e Wy8 ⟨An, cn, Dn, dn, rfl, hcn, hdn, oAn, oDn, hapn, hb⟩; skip))
    refine hK.out _ _ (SB.out _ (bt hCur hb)) (fun hHeld' => ?_)
    clear hK K hHeld
    have hHeld := hHeld'
    clear hHeld'
    replace hCur := bt hCur hb
    clear hb
    try simp only [Act.put, List.setIfInBounds_toArray, List.set_cons_zero, List.set_cons_succ]
    refine wpAnyH_ready (rs := [31]) (by kernel_rfl) (by simp) ?_
    refine AllReadyH.cons (o := ⟨some 51, .call { callee := .value (.func 25), args := #[.tmp 49, .tmp 50], argTypes := #[33, 33] }, 33, "laws.go:61", #[⟨29, .data⟩, ⟨30, .data⟩, ⟨28, .chain⟩, ⟨25, .guard⟩], some (25, true)⟩) rfl (fun K hK => ?_) AllReadyH.nil
    go_simp
    (go_at_call 25; ((with_reducible refine (HMax.out _ _ _ _ _ _ _ _ _ (R.out _ hCur).1 (R.out _ hCur).2.1 (R.out _ hCur).2.2.1 (R.out _ hCur).2.2.2.1).mono ?_); rintro e Wy9 ⟨Am, cm, Dm, dm, rfl, hcm, hdm, oAm, oDm, hapm, hb⟩; (first | ((replace oAn := oAn.below hb); (replace oDn := oDn.below hb)) | skip)))
    refine hK.out _ _ (SB.out _ (bt hCur hb)) (fun hHeld' => ?_)
    clear hK K hHeld
    have hHeld := hHeld'
    clear hHeld'
    replace hCur := bt hCur hb
    clear hb
    try simp only [Act.put, List.setIfInBounds_toArray, List.set_cons_zero, List.set_cons_succ]
    refine wpAnyH_ready (rs := [32]) (by kernel_rfl) (by simp) ?_
    refine AllReadyH.cons (o := ⟨some 52, .call { callee := .value (.func 21), args := #[.tmp 48, .tmp 51], argTypes := #[33, 33] }, 33, "laws.go:61", #[⟨28, .data⟩, ⟨31, .data⟩, ⟨31, .chain⟩, ⟨25, .guard⟩], some (25, true)⟩) rfl (fun K hK => ?_) AllReadyH.nil
    go_simp
    (go_at_call 21; ((with_reducible refine (HAnm.out _ _ _ _ _ _ _ _ _ oAn.rd oDn.rd oAm.rd oDm.rd).mono ?_); rintro e Wy10 ⟨Ab, cb, Db, db, rfl, hcb, hdb, oAb, oDb, hapb, hb⟩; skip))
    refine hK.out _ _ (SB.out _ (bt hCur hb)) (fun hHeld' => ?_)
    clear hK K hHeld
    have hHeld := hHeld'
    clear hHeld'
    replace hCur := bt hCur hb
    clear hb
    try simp only [Act.put, List.setIfInBounds_toArray, List.set_cons_zero, List.set_cons_succ]
    refine wpAnyH_ready (rs := [35]) (by kernel_rfl) (by simp) ?_
    refine AllReadyH.cons (o := ⟨some 55, .call { callee := .value (.func 21), args := #[.tmp 53, .tmp 54], argTypes := #[33, 33] }, 33, "laws.go:61", #[⟨33, .data⟩, ⟨34, .data⟩, ⟨32, .chain⟩, ⟨25, .guard⟩], some (25, true)⟩) rfl (fun K hK => ?_) AllReadyH.nil
    go_simp
    (go_at_call 21; ((with_reducible refine (HAdd.out _ _ _ _ _ _ _ _ _ (R.out _ hCur).1 (R.out _ hCur).2.1 (R.out _ hCur).2.2.1 (R.out _ hCur).2.2.2.1).mono ?_); rintro e Wy11 ⟨Aa, ca, Da, da, rfl, hca, hda, oAa, oDa, hapa, hb⟩; (first | ((replace oAb := oAb.below hb); (replace oDb := oDb.below hb)) | skip)))
    refine hK.out _ _ (SB.out _ (bt hCur hb)) (fun hHeld' => ?_)
    clear hK K hHeld
    have hHeld := hHeld'
    clear hHeld'
    replace hCur := bt hCur hb
    clear hb
    try simp only [Act.put, List.setIfInBounds_toArray, List.set_cons_zero, List.set_cons_succ]
    refine wpAnyH_ready (rs := [36]) (by kernel_rfl) (by simp) ?_
    refine AllReadyH.cons (o := ⟨some 56, .call { callee := .value (.func 19), args := #[.tmp 52, .tmp 55], argTypes := #[33, 33] }, 4, "laws.go:61", #[⟨32, .data⟩, ⟨35, .data⟩, ⟨35, .chain⟩, ⟨25, .guard⟩], some (25, true)⟩) rfl (fun K hK => ?_) AllReadyH.nil
    go_simp
    (go_at_call 19; ((with_reducible refine (HEa.out _ _ _ _ _ _ _ _ _ oAb.rd oDb.rd oAa.rd oDa.rd (own_addr oAa) (own_addr oDa)).mono ?_); rintro e Wy12 ⟨rfl, hb⟩; skip))
    refine hK.out _ _ (SB.out _ (bt hCur hb)) (fun hHeld' => ?_)
    clear hK K hHeld
    have hHeld := hHeld'
    clear hHeld'
    replace hCur := bt hCur hb
    clear hb
    try simp only [Act.put, List.setIfInBounds_toArray, List.set_cons_zero, List.set_cons_succ]
    refine tk (i := 37) (oi := ⟨some 57, .pick (.tmp 45) (.tmp 56) (.const (.bool false)), 4, "laws.go:61", #[⟨25, .data⟩, ⟨36, .data⟩], none⟩) (v := ?vy37) rfl (by kernel_rfl) (fun _ _ _ h => h) (Or.inl ⟨by rfl, ?hyy37⟩) hHeld ?_
    case hyy37 => (intro w hSw; (try dsimp only at hSw); go_simp; (try with_reducible rfl))
    try simp only [Act.put, List.setIfInBounds_toArray, List.set_cons_zero, List.set_cons_succ]
    refine tk (i := 38) (oi := ⟨some 58, .move (.tmp 57), 4, "laws.go:61", #[⟨37, .data⟩, ⟨36, .chain⟩], none⟩) (v := ?vy38) rfl (by kernel_rfl) (fun _ _ _ h => h) (Or.inl ⟨by rfl, ?hyy38⟩) hHeld ?_
    case hyy38 => (intro w hSw; (try dsimp only at hSw); go_simp; (try with_reducible rfl))
    try simp only [Act.put, List.setIfInBounds_toArray, List.set_cons_zero, List.set_cons_succ]
    refine tk (i := 39) (oi := ⟨some 59, .load 33 (.tmp 4), 33, "laws.go:61", #[⟨38, .guard⟩], some (38, true)⟩) (v := ?vy39) rfl (by kernel_rfl) (fun _ _ _ h => h) (Or.inl ⟨by rfl, ?hyy39⟩) hHeld ?_
    case hyy39 => (intro w hSw; (try dsimp only at hSw); go_simp; (try with_reducible rfl))
    try simp only [Act.put, List.setIfInBounds_toArray, List.set_cons_zero, List.set_cons_succ]
    refine wpAnyH_ready (rs := [40]) (by kernel_rfl) (by simp) ?_
    refine AllReadyH.cons (o := ⟨some 60, .call { callee := .value (.func 23), args := #[.tmp 59], argTypes := #[33] }, 3, "laws.go:61", #[⟨39, .data⟩, ⟨38, .chain⟩, ⟨38, .guard⟩], some (38, true)⟩) rfl (fun K hK => ?_) AllReadyH.nil
    go_simp
    (go_at_call 23; ((with_reducible refine (HGs.out _ _ _ _ _ (R.out _ hCur).2.2.1 (R.out _ hCur).2.2.2.1).mono ?_); rintro e Wy13 ⟨rfl, hb⟩; skip))
    refine hK.out _ _ (SB.out _ (bt hCur hb)) (fun hHeld' => ?_)
    clear hK K hHeld
    have hHeld := hHeld'
    clear hHeld'
    replace hCur := bt hCur hb
    clear hb
    try simp only [Act.put, List.setIfInBounds_toArray, List.set_cons_zero, List.set_cons_succ]
    refine tk (i := 41) (oi := ⟨some 61, .binOp .eql 3 (.tmp 60) (.const (.int Go.IntKind.i64 0)) 3, 4, "laws.go:61", #[⟨40, .data⟩, ⟨38, .guard⟩], some (38, true)⟩) (v := ?vy41) rfl (by kernel_rfl) (fun _ _ _ h => h) (Or.inl ⟨by rfl, ?hyy41⟩) hHeld ?_
    case hyy41 => (intro w hSw; (try dsimp only at hSw); go_simp; (try with_reducible rfl))
    try simp only [Act.put, List.setIfInBounds_toArray, List.set_cons_zero, List.set_cons_succ]
    refine tk (i := 42) (oi := ⟨some 62, .move (.tmp 61), 4, "laws.go:61", #[⟨41, .data⟩, ⟨40, .chain⟩, ⟨38, .guard⟩], some (38, true)⟩) (v := ?vy42) rfl (by kernel_rfl) (fun _ _ _ h => h) (Or.inl ⟨by rfl, ?hyy42⟩) hHeld ?_
    case hyy42 => (intro w hSw; (try dsimp only at hSw); go_simp; (try with_reducible rfl))
    try simp only [Act.put, List.setIfInBounds_toArray, List.set_cons_zero, List.set_cons_succ]
    refine tk (i := 43) (oi := ⟨some 63, .load 33 (.tmp 3), 33, "laws.go:61", #[⟨42, .guard⟩], some (42, false)⟩) (v := ?vy43) rfl (by kernel_rfl) (fun _ _ _ h => h) (Or.inl ⟨by rfl, ?hyy43⟩) hHeld ?_
    case hyy43 => (intro w hSw; (try dsimp only at hSw); go_simp; (try with_reducible rfl))
    try simp only [Act.put, List.setIfInBounds_toArray, List.set_cons_zero, List.set_cons_succ]
    refine tk (i := 44) (oi := ⟨some 64, .load 33 (.tmp 4), 33, "laws.go:61", #[⟨42, .guard⟩], some (42, false)⟩) (v := ?vy44) rfl (by kernel_rfl) (fun _ _ _ h => h) (Or.inl ⟨by rfl, ?hyy44⟩) hHeld ?_
    case hyy44 => (intro w hSw; (try dsimp only at hSw); go_simp; (try with_reducible rfl))
    try simp only [Act.put, List.setIfInBounds_toArray, List.set_cons_zero, List.set_cons_succ]
    refine tk (i := 46) (oi := ⟨some 66, .load 33 (.tmp 4), 33, "laws.go:61", #[⟨42, .guard⟩], some (42, false)⟩) (v := ?vy46) rfl (by kernel_rfl) (fun _ _ _ h => h) (Or.inl ⟨by rfl, ?hyy46⟩) hHeld ?_
    case hyy46 => (intro w hSw; (try dsimp only at hSw); go_simp; (try with_reducible rfl))
    try simp only [Act.put, List.setIfInBounds_toArray, List.set_cons_zero, List.set_cons_succ]
    refine tk (i := 48) (oi := ⟨some 68, .load 33 (.tmp 3), 33, "laws.go:61", #[⟨42, .guard⟩], some (42, false)⟩) (v := ?vy48) rfl (by kernel_rfl) (fun _ _ _ h => h) (Or.inl ⟨by rfl, ?hyy48⟩) hHeld ?_
    case hyy48 => (intro w hSw; (try dsimp only at hSw); go_simp; (try with_reducible rfl))
    try simp only [Act.put, List.setIfInBounds_toArray, List.set_cons_zero, List.set_cons_succ]
    refine wpAnyH_ready (rs := [45]) (by kernel_rfl) (by simp) ?_
    refine AllReadyH.cons (o := ⟨some 65, .call { callee := .value (.func 27), args := #[.tmp 63, .tmp 64], argTypes := #[33, 33] }, 33, "laws.go:61", #[⟨43, .data⟩, ⟨44, .data⟩, ⟨42, .chain⟩, ⟨42, .guard⟩], some (42, false)⟩) rfl (fun K hK => ?_) AllReadyH.nil
    go_simp
    (go_at_call 27; ((with_reducible refine (HDiv.out _ _ _ _ _ _ _ _ _ (R.out _ hCur).1 (R.out _ hCur).2.1 (R.out _ hCur).2.2.1 (R.out _ hCur).2.2.2.1).mono ?_); rintro e Wy14 ⟨Av, cv, Dv, dv, rfl, hcv, hdv, oAv, oDv, hapv, hb⟩; skip))
    refine hK.out _ _ (SB.out _ (bt hCur hb)) (fun hHeld' => ?_)
    clear hK K hHeld
    have hHeld := hHeld'
    clear hHeld'
    replace hCur := bt hCur hb
    clear hb
    try simp only [Act.put, List.setIfInBounds_toArray, List.set_cons_zero, List.set_cons_succ]
    refine wpAnyH_ready (rs := [47]) (by kernel_rfl) (by simp) ?_
    refine AllReadyH.cons (o := ⟨some 67, .call { callee := .value (.func 26), args := #[.tmp 65, .tmp 66], argTypes := #[33, 33] }, 33, "laws.go:61", #[⟨45, .data⟩, ⟨46, .data⟩, ⟨45, .chain⟩, ⟨42, .guard⟩], some (42, false)⟩) rfl (fun K hK => ?_) AllReadyH.nil
    go_simp
    (go_at_call 26; ((with_reducible refine (HMul.out _ _ _ _ _ _ _ _ _ oAv.rd oDv.rd (R.out _ hCur).2.2.1 (R.out _ hCur).2.2.2.1).mono ?_); rintro e Wy15 ⟨Az, cz, Dz, dz, rfl, hcz, hdz, oAz, oDz, hapz, hb⟩; skip))
    refine hK.out _ _ (SB.out _ (bt hCur hb)) (fun hHeld' => ?_)
    clear hK K hHeld
    have hHeld := hHeld'
    clear hHeld'
    replace hCur := bt hCur hb
    clear hb
    try simp only [Act.put, List.setIfInBounds_toArray, List.set_cons_zero, List.set_cons_succ]
    refine wpAnyH_ready (rs := [49]) (by kernel_rfl) (by simp) ?_
    refine AllReadyH.cons (o := ⟨some 69, .call { callee := .value (.func 19), args := #[.tmp 67, .tmp 68], argTypes := #[33, 33] }, 4, "laws.go:61", #[⟨47, .data⟩, ⟨48, .data⟩, ⟨47, .chain⟩, ⟨42, .guard⟩], some (42, false)⟩) rfl (fun K hK => ?_) AllReadyH.nil
    go_simp
    (go_at_call 19; ((with_reducible refine (HEr.out _ _ _ _ _ _ _ _ _ oAz.rd oDz.rd (R.out _ hCur).1 (R.out _ hCur).2.1 adr.out.1 adr.out.2).mono ?_); rintro e Wy16 ⟨rfl, hb⟩; skip))
    refine hK.out _ _ (SB.out _ (bt hCur hb)) (fun hHeld' => ?_)
    clear hK K hHeld
    have hHeld := hHeld'
    clear hHeld'
    replace hCur := bt hCur hb
    clear hb
    try simp only [Act.put, List.setIfInBounds_toArray, List.set_cons_zero, List.set_cons_succ]
    refine tk (i := 50) (oi := ⟨some 70, .pick (.tmp 62) (.const (.bool true)) (.tmp 69), 4, "laws.go:61", #[⟨42, .data⟩, ⟨49, .data⟩, ⟨38, .guard⟩], some (38, true)⟩) (v := ?vy50) rfl (by kernel_rfl) (fun _ _ _ h => h) (Or.inl ⟨by rfl, ?hyy50⟩) hHeld ?_
    case hyy50 => (intro w hSw; (try dsimp only at hSw); go_simp; (try with_reducible rfl))
    try simp only [Act.put, List.setIfInBounds_toArray, List.set_cons_zero, List.set_cons_succ]
    refine tk (i := 51) (oi := ⟨some 71, .pick (.tmp 58) (.tmp 70) (.const (.bool false)), 4, "laws.go:61", #[⟨38, .data⟩, ⟨50, .data⟩], none⟩) (v := ?vy51) rfl (by kernel_rfl) (fun _ _ _ h => h) (Or.inl ⟨by rfl, ?hyy51⟩) hHeld ?_
    case hyy51 => (intro w hSw; (try dsimp only at hSw); go_simp; (try with_reducible rfl))
    try simp only [Act.put, List.setIfInBounds_toArray, List.set_cons_zero, List.set_cons_succ]
    refine tk (i := 52) (oi := ⟨some 2, .assign (.tmp 71), 4, "laws.go:61", #[⟨51, .data⟩, ⟨49, .chain⟩, ⟨0, .phase⟩, ⟨1, .phase⟩, ⟨2, .phase⟩, ⟨3, .phase⟩, ⟨4, .phase⟩, ⟨5, .phase⟩, ⟨6, .phase⟩, ⟨7, .phase⟩, ⟨8, .phase⟩, ⟨9, .phase⟩, ⟨10, .phase⟩, ⟨11, .phase⟩, ⟨12, .phase⟩, ⟨13, .phase⟩, ⟨14, .phase⟩, ⟨15, .phase⟩, ⟨16, .phase⟩, ⟨17, .phase⟩, ⟨18, .phase⟩, ⟨19, .phase⟩, ⟨20, .phase⟩, ⟨21, .phase⟩, ⟨22, .phase⟩, ⟨23, .phase⟩, ⟨24, .phase⟩, ⟨25, .phase⟩, ⟨26, .phase⟩, ⟨27, .phase⟩, ⟨28, .phase⟩, ⟨29, .phase⟩, ⟨30, .phase⟩, ⟨31, .phase⟩, ⟨32, .phase⟩, ⟨33, .phase⟩, ⟨34, .phase⟩, ⟨35, .phase⟩, ⟨36, .phase⟩, ⟨37, .phase⟩, ⟨38, .phase⟩, ⟨39, .phase⟩, ⟨40, .phase⟩, ⟨41, .phase⟩, ⟨42, .phase⟩, ⟨43, .phase⟩, ⟨44, .phase⟩, ⟨45, .phase⟩, ⟨46, .phase⟩, ⟨47, .phase⟩, ⟨48, .phase⟩, ⟨49, .phase⟩, ⟨50, .phase⟩, ⟨51, .phase⟩], none⟩) (v := ?vy52) rfl (by kernel_rfl) (fun _ _ _ h => h) (Or.inl ⟨by rfl, ?hyy52⟩) hHeld ?_
    case hyy52 => (intro w hSw; (try dsimp only at hSw); go_simp; (try with_reducible rfl))
    try simp only [Act.put, List.setIfInBounds_toArray, List.set_cons_zero, List.set_cons_succ]
    refine wpAnyH_done (by kernel_rfl) ?_ _
    go_wp2
    go_ret
    exact ⟨rfl, bt KW.out hCur⟩
end Go.Proofs.YtkmfbanlkglkmabGreatDoor
