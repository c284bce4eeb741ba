/-
  'FnBigInts': a big integer is read back from its text, and sums and products satisfy their laws.
-/
import Derived.Test.YtmmgcdfifcbabaaGreatDoorMkBig
import Derived.Test.YtmmgcdfifcbabaaGreatDoorRoundB
import Derived.Deep.RegionHeld3
namespace Go.Proofs.YtmmgcdfifcbabaaGreatDoor
open Go.ChangeShapes Go.WideShapes Go.ChangeAt Go.RowKit
open Go.ChangeMaps (open_string shut_string)
set_option linter.unusedVariables false
set_option linter.unusedSimpArgs false
set_option maxRecDepth 4000

/-- The contracts between opaque signs and limbs. -/
def IsZ (p : Bool) (L : List Int) : Prop := ∃ z : Int, ln z.natAbs ≤ 3 ∧ p = zn z ∧ L = zm z
def AddC (p : Bool) (L : List Int) (q : Bool) (M : List Int) (r : Bool) (R : List Int) : Prop :=
  ∀ W A c D d, RdS W A (vi L) → RdS W D (vi M) → Calls Tryz.prog 7 #[.agg #[.bool p, .slice A L.length c], .agg #[.bool q, .slice D M.length d]] W (MadeB W.heap.size r R W)
def SubC (p : Bool) (L : List Int) (q : Bool) (M : List Int) (r : Bool) (R : List Int) : Prop :=
  ∀ W A c D d, RdS W A (vi L) → RdS W D (vi M) → Calls Tryz.prog 9 #[.agg #[.bool p, .slice A L.length c], .agg #[.bool q, .slice D M.length d]] W (MadeB W.heap.size r R W)
def MulC (p : Bool) (L : List Int) (q : Bool) (M : List Int) (r : Bool) (R : List Int) : Prop :=
  ∀ W A c D d, RdS W A (vi L) → RdS W D (vi M) → Calls Tryz.prog 10 #[.agg #[.bool p, .slice A L.length c], .agg #[.bool q, .slice D M.length d]] W (MadeB W.heap.size r R W)
def CmpC (p : Bool) (L : List Int) : Prop :=
  ∀ W A c D d, RdS W A (vi L) → RdS W D (vi L) → Calls Tryz.prog 8 #[.agg #[.bool p, .slice A L.length c], .agg #[.bool p, .slice D L.length d]] W fun e w' => e = .returned (.int .i64 0) ∧ Below W.heap.size W w'
def FmtC (p : Bool) (L : List Int) (s : ByteArray) : Prop :=
  ∀ W A c, RdS W A (vi L) → Lib.TabIs Tryz.prog W "internal/strconv.uint64pow10" .u64 Lib.pow10Tab → Calls Tryz.prog 6 #[.agg #[.bool p, .slice A L.length c]] W fun e w' => e = .returned (.string s) ∧ Below W.heap.size W w'
def PrsC (s : ByteArray) (p : Bool) (L : List Int) : Prop :=
  ∀ W, Calls Tryz.prog 5 #[.string s] W (PairB W.heap.size p L true W)
theorem zl {z : Int} (h : ln z.natAbs ≤ 60) : (zm z).length ≤ 9223372036854775807 := by rw [zm_length]; omega
theorem add_c {x y z : Int} (hx : ln x.natAbs ≤ 60) (hy : ln y.natAbs ≤ 60) (hz : ln z.natAbs ≤ 60) (h : x + y = z) : AddC (zn x) (zm x) (zn y) (zm y) (zn z) (zm z) := fun W A c D d hA hD => by
  have h1 := impl_badd (zn x) (zn y) (zm x) (zm y) A D _ c _ d W rfl rfl (zl hx) (zl hy) hA hD
  rw [binZ_yes hx hy, h, czi_in hz] at h1
  exact h1
theorem sub_c {x y z : Int} (hx : ln x.natAbs ≤ 60) (hy : ln y.natAbs ≤ 60) (hz : ln z.natAbs ≤ 60) (h : x - y = z) : SubC (zn x) (zm x) (zn y) (zm y) (zn z) (zm z) := fun W A c D d hA hD => by
  have h1 := impl_bsub (zn x) (zn y) (zm x) (zm y) A D _ c _ d W rfl rfl (zl hx) (zl hy) hA hD
  rw [binZ_yes hx hy, h, czi_in hz] at h1
  exact h1
theorem mul_c {x y z : Int} (hx : ln x.natAbs ≤ 60) (hy : ln y.natAbs ≤ 60) (hz : ln z.natAbs ≤ 60) (h : x * y = z) : MulC (zn x) (zm x) (zn y) (zm y) (zn z) (zm z) := fun W A c D d hA hD => by
  have h1 := impl_bmul (zn x) (zn y) (zm x) (zm y) A D _ c _ d W rfl rfl (zl hx) (zl hy) hA hD
  rw [binZ_yes hx hy, h, czi_in hz] at h1
  exact h1
theorem cmp_c {x : Int} (hx : ln x.natAbs ≤ 60) : CmpC (zn x) (zm x) := fun W A c D d hA hD => by
  have h1 := impl_bcmp (zn x) (zn x) (zm x) (zm x) A D _ c _ d W rfl rfl (zl hx) (zl hx) hA hD
  have h0 : cmpB (zn x) (zm x) (zn x) (zm x) = 0 := by
    unfold cmpB
    rw [binZ_yes hx hx]
    unfold cmpZ
    rw [if_neg (by omega), if_neg (by omega)]
  rw [h0] at h1
  exact h1
theorem fmt_c {x : Int} (hx : ln x.natAbs ≤ 60) : FmtC (zn x) (zm x) ⟨(fmtB (zn x) (zm x)).toArray⟩ := fun W A c hA ht => impl_fmtB (zn x) (zm x) A _ c W rfl (zl hx) hA ht
theorem prs_c {x : Int} (hx : ln x.natAbs ≤ 60) : PrsC ⟨(fmtB (zn x) (zm x)).toArray⟩ (zn x) (zm x) := fun W => by
  obtain ⟨h1, h2, h3⟩ := round_big hx rfl
  have h := impl_pb ⟨(fmtB (zn x) (zm x)).toArray⟩ W (fmtB_size hx)
  rw [h2, h3, h1, Bool.and_true] at h
  exact h
theorem all_c {px py : Bool} {Lx Ly : List Int} (hx : IsZ px Lx) (hy : IsZ py Ly) : ∃ (ps pm pt pk : Bool) (Ls Lm Lt Lk : List Int) (st : ByteArray), AddC px Lx py Ly ps Ls ∧ SubC ps Ls px Lx py Ly ∧ MulC px Lx py Ly pm Lm ∧ MulC py Ly px Lx pm Lm ∧ MulC ps Ls py Ly pt Lt ∧ MulC py Ly py Ly pk Lk ∧ AddC pm Lm pk Lk pt Lt ∧ CmpC px Lx ∧ CmpC py Ly ∧ CmpC pm Lm ∧ CmpC pt Lt ∧ FmtC px Lx st ∧ PrsC st px Lx := by
  obtain ⟨x, hx3, rfl, rfl⟩ := hx
  obtain ⟨y, hy3, rfl, rfl⟩ := hy
  obtain ⟨h1, h2, h3, h4⟩ := law_sizes hx3 hy3
  have hx : ln x.natAbs ≤ 60 := by omega
  have hy : ln y.natAbs ≤ 60 := by omega
  exact ⟨zn (x + y), zn (x * y), zn ((x + y) * y), zn (y * y), zm (x + y), zm (x * y), zm ((x + y) * y), zm (y * y), _,
    add_c hx hy h1 rfl, sub_c h1 hx hy (by omega), mul_c hx hy h2 rfl, mul_c hy hx h2 (Int.mul_comm _ _), mul_c h1 hy h4 rfl, mul_c hy hy h3 rfl, add_c h2 h3 h4 (Int.add_mul _ _ _).symm,
    cmp_c hx, cmp_c hy, cmp_c h2, cmp_c h4, fmt_c hx, prs_c hx⟩
/-- A drawn number with its parts named. -/
def NumZ (w : World) (e : Ending) (w' : World) : Prop := ∃ p L A c, IsZ p L ∧ e = .returned (.agg #[.bool p, .slice A L.length c]) ∧ OwnS w.heap.size w' A (vi L) ∧ Below w.heap.size w w'
theorem make_z (k : Nat) (y : Int) (hy : y = (k : Int)) (A : Option Addr) (n c : Nat) (w : World) (hk : k ≤ 10) (hn : n ≤ 1048576) (hA : RdB w A n w.heap.size) :
    Calls Tryz.prog 4 #[.slice A n c, .int .i64 y] w (NumZ w) :=
  (makeBig_any k y hy A n c w hk hn hA).mono fun e w' ⟨⟨z, A', c', h3, he, ho⟩, hb⟩ => ⟨zn z, zm z, A', c', ⟨z, h3, rfl, rfl⟩, he, ho, hb⟩
theorem RdB.belowB {w w' : World} {A : Option Addr} {n : Nat} (h : RdB w A n w.heap.size) (hb : Below w.heap.size w w') : RdB w' A n w'.heap.size := by
  rcases h with h0 | ⟨b, off, ha, hbg, hblt, hcs⟩
  · exact .inl h0
  · have := hb.size
    refine .inr ⟨b, off, ha, by omega, by omega, fun j hj => ?_⟩
    obtain ⟨u, hu, hcu⟩ := hcs j hj
    exact ⟨u, hu, by rw [hb.cell (p := ⟨b, off + j, none⟩) hblt]; exact hcu⟩

set_option maxHeartbeats 1600000 in
theorem law_bigs (A : Option Addr) (n c : Nat) (w : World) (hn : n ≤ 9223372036854775807) (hA : RdB w A n w.heap.size) (htab : Lib.TabIs Tryz.prog w "internal/strconv.uint64pow10" .u64 Lib.pow10Tab) :
    Calls Tryz.prog 3 #[.slice A n c] w fun e w' => e = .returned (.bool true) ∧ Below w.heap.size w w' := by
  by_cases hg : n ≤ 1048576
  · have hg' : ¬ (1048576 : Int) < (n : Int) := by omega
    have HM := Lib.hid (fun k y W hy hk (h : RdB W A n W.heap.size) => make_z k y hy A n c W hk hg h)
    have HA := Lib.hid (fun W (hb : Below w.heap.size w W) => hA.belowB hb)
    have HT := Lib.hid (fun W (hb : Below w.heap.size w W) => tab_below hb htab)
    clear hA htab
    go_enter Tryz.func3, Tryz.ntmps3
    go_wp2_with fail
    refine (HM.out 0 _ _ rfl (by omega) (HA.out _ (Below.refl _ _))).mono ?_
    rintro e w1 ⟨px, Lx, Ax, cx, hzx, rfl, ox, kb⟩
    have HX := Lib.hid hzx
    clear hzx
    have F := Fr.nil w1
    replace F : Fr (w1.alloc (.cells #[.bool px, .slice Ax Lx.length cx] 25)) _ := F.alloc 25 [.bool px, .slice Ax Lx.length cx]
    replace kb := kb.alloc kb.size (.cells #[.bool px, .slice Ax Lx.length cx] 25)
    replace ox := ox.below (ba1 w1 (.cells #[.bool px, .slice Ax Lx.length cx] 25))
    go_wp2_with fail
    generalize w1.alloc (.cells #[.bool px, .slice Ax Lx.length cx] 25) = W1 at F kb ox ⊢
    refine (HM.out 1 _ _ rfl (by omega) (HA.out _ kb)).mono ?_
    rintro e w2 ⟨py, Ly, Ay, cy, hzy, rfl, oy, hb⟩
    replace F := F.below hb
    replace ox := ox.below hb
    replace kb := bt kb hb
    clear hb
    replace F : Fr (w2.alloc (.cells #[.bool py, .slice Ay Ly.length cy] 25)) _ := F.alloc 25 [.bool py, .slice Ay Ly.length cy]
    replace kb := kb.alloc kb.size (.cells #[.bool py, .slice Ay Ly.length cy] 25)
    replace ox := ox.below (ba1 w2 (.cells #[.bool py, .slice Ay Ly.length cy] 25))
    replace oy := oy.below (ba1 w2 (.cells #[.bool py, .slice Ay Ly.length cy] 25))
    obtain ⟨ps, pm, pt, pk, Ls, Lm, Lt, Lk, st, a1, a2, a3, a4, a5, a6, a7, a8, a9, a10, a11, a12, a13⟩ := all_c HX.out hzy
    have HAxy := Lib.hid (fun W A c D d h h' => a1 W A c D d h h')
    have HSsx := Lib.hid (fun W A c D d h h' => a2 W A c D d h h')
    have HMxy := Lib.hid (fun W A c D d h h' => a3 W A c D d h h')
    have HMyx := Lib.hid (fun W A c D d h h' => a4 W A c D d h h')
    have HMsy := Lib.hid (fun W A c D d h h' => a5 W A c D d h h')
    have HMyy := Lib.hid (fun W A c D d h h' => a6 W A c D d h h')
    have HAmk := Lib.hid (fun W A c D d h h' => a7 W A c D d h h')
    have HCx := Lib.hid (fun W A c D d h h' => a8 W A c D d h h')
    have HCy := Lib.hid (fun W A c D d h h' => a9 W A c D d h h')
    have HCm := Lib.hid (fun W A c D d h h' => a10 W A c D d h h')
    have HCt := Lib.hid (fun W A c D d h h' => a11 W A c D d h h')
    have HF := Lib.hid (fun W A c h ht => a12 W A c h ht)
    have HP := Lib.hid (fun W => a13 W)
    clear a1 a2 a3 a4 a5 a6 a7 a8 a9 a10 a11 a12 a13 hzy HX HM
    have e_x0 := F.get 1 0 rfl rfl
    have e_x1 := F.get 1 1 rfl rfl
    go_wp2_with fail
    clear e_x0 e_x1
    generalize w2.alloc (.cells #[.bool py, .slice Ay Ly.length cy] 25) = W2 at F kb ox oy ⊢
    refine (HF.out _ _ _ ox.rd (HT.out _ kb)).mono ?_
    rintro e w3 ⟨rfl, hb⟩
    replace F := F.below hb
    replace ox := ox.below hb
    replace oy := oy.below hb
    replace kb := bt kb hb
    clear hb
    go_wp2_with fail
    refine (HP.out _).mono ?_
    rintro e w4 ⟨Az, cz, rfl, hcz, oz, hb⟩
    replace F := F.below hb
    replace ox := ox.below hb
    replace oy := oy.below hb
    replace kb := bt kb hb
    clear hb hcz
    replace F : Fr (w4.alloc (.cells #[.bool px, .slice Az Lx.length cz] 25)) _ := F.alloc 25 [.bool px, .slice Az Lx.length cz]
    replace kb := kb.alloc kb.size (.cells #[.bool px, .slice Az Lx.length cz] 25)
    replace ox := ox.below (ba1 w4 (.cells #[.bool px, .slice Az Lx.length cz] 25))
    replace oy := oy.below (ba1 w4 (.cells #[.bool px, .slice Az Lx.length cz] 25))
    replace oz := oz.below (ba1 w4 (.cells #[.bool px, .slice Az Lx.length cz] 25))
    have e_x0 := F.get 2 0 rfl rfl
    have e_x1 := F.get 2 1 rfl rfl
    have e_y0 := F.get 1 0 rfl rfl
    have e_y1 := F.get 1 1 rfl rfl
    go_wp2_with fail
    clear e_x0 e_x1 e_y0 e_y1
    generalize w4.alloc (.cells #[.bool px, .slice Az Lx.length cz] 25) = W4 at F kb ox oy oz ⊢
    refine (HAxy.out _ _ _ _ _ ox.rd oy.rd).mono ?_
    rintro e w5 ⟨As, cs, rfl, hcs, os, hb⟩
    replace F := F.below hb
    replace ox := ox.below hb
    replace oy := oy.below hb
    replace oz := oz.below hb
    replace kb := bt kb hb
    clear hb hcs
    replace F : Fr (w5.alloc (.cells #[.bool ps, .slice As Ls.length cs] 25)) _ := F.alloc 25 [.bool ps, .slice As Ls.length cs]
    replace kb := kb.alloc kb.size (.cells #[.bool ps, .slice As Ls.length cs] 25)
    replace ox := ox.below (ba1 w5 (.cells #[.bool ps, .slice As Ls.length cs] 25))
    replace oy := oy.below (ba1 w5 (.cells #[.bool ps, .slice As Ls.length cs] 25))
    replace oz := oz.below (ba1 w5 (.cells #[.bool ps, .slice As Ls.length cs] 25))
    replace os := os.below (ba1 w5 (.cells #[.bool ps, .slice As Ls.length cs] 25))
    go_wp2_with fail
    generalize w5.alloc (.cells #[.bool ps, .slice As Ls.length cs] 25) = W5 at F kb ox oy oz os ⊢
    have e_x0 := F.get 3 0 rfl rfl
    have e_x1 := F.get 3 1 rfl rfl
    have e_y0 := F.get 2 0 rfl rfl
    have e_y1 := F.get 2 1 rfl rfl
    have e_z0 := F.get 1 0 rfl rfl
    have e_z1 := F.get 1 1 rfl rfl
    have e_s0 := F.get 0 0 rfl rfl
    have e_s1 := F.get 0 1 rfl rfl
    have RX := ox.rd
    have RY := oy.rd
    have RZ := oz.rd
    have RS := os.rd
    have R : Hid (∀ W, Below W5.heap.size W5 W → RdS W Ax (vi Lx) ∧ RdS W Ay (vi Ly) ∧ RdS W Az (vi Lx) ∧ RdS W As (vi Ls)) := Lib.hid (fun W hb => ⟨RX.below hb, RY.below hb, RZ.below hb, RS.below hb⟩)
    have SB : Hid (∀ w', Below W5.heap.size W5 w' → w'.cell? ⟨w1.heap.size, 0, none⟩ = some (.bool px) ∧ w'.cell? ⟨w1.heap.size, 1, none⟩ = some (.slice Ax Lx.length cx) ∧ w'.cell? ⟨w2.heap.size, 0, none⟩ = some (.bool py) ∧ w'.cell? ⟨w2.heap.size, 1, none⟩ = some (.slice Ay Ly.length cy) ∧ w'.cell? ⟨w4.heap.size, 0, none⟩ = some (.bool px) ∧ w'.cell? ⟨w4.heap.size, 1, none⟩ = some (.slice Az Lx.length cz) ∧ w'.cell? ⟨w5.heap.size, 0, none⟩ = some (.bool ps) ∧ w'.cell? ⟨w5.heap.size, 1, none⟩ = some (.slice As Ls.length cs) ∧ Below W5.heap.size W5 w') := Lib.hid (fun w' hB => ⟨cell_kept e_x0 hB, cell_kept e_x1 hB, cell_kept e_y0 hB, cell_kept e_y1 hB, cell_kept e_z0 hB, cell_kept e_z1 hB, cell_kept e_s0 hB, cell_kept e_s1 hB, hB⟩)
    clear RX RY RZ RS ox oy oz os F
    have HK := Lib.hid kb
    clear kb
    go_region_held3 (fun w' => w'.cell? ⟨w1.heap.size, 0, none⟩ = some (.bool px) ∧ w'.cell? ⟨w1.heap.size, 1, none⟩ = some (.slice Ax Lx.length cx) ∧ w'.cell? ⟨w2.heap.size, 0, none⟩ = some (.bool py) ∧ w'.cell? ⟨w2.heap.size, 1, none⟩ = some (.slice Ay Ly.length cy) ∧ w'.cell? ⟨w4.heap.size, 0, none⟩ = some (.bool px) ∧ w'.cell? ⟨w4.heap.size, 1, none⟩ = some (.slice Az Lx.length cz) ∧ w'.cell? ⟨w5.heap.size, 0, none⟩ = some (.bool ps) ∧ w'.cell? ⟨w5.heap.size, 1, none⟩ = some (.slice As Ls.length cs) ∧ Below W5.heap.size W5 w')
      (first | (exact SB.out _ (Below.refl _ _).drew) | (go_split_ands; exact SB.out _ (bt (by assumption : Below W5.heap.size W5 _) hb)))
      (first | (go_at_call 8; go_split_ands; ((with_reducible refine (HCx.out _ _ _ _ _ (R.out _ (by assumption : Below W5.heap.size W5 _)).2.2.1 (R.out _ (by assumption : Below W5.heap.size W5 _)).1).mono ?_); rintro e Wn ⟨rfl, hb⟩; skip)) | (go_at_call 9; go_split_ands; ((with_reducible refine (HSsx.out _ _ _ _ _ (R.out _ (by assumption : Below W5.heap.size W5 _)).2.2.2 (R.out _ (by assumption : Below W5.heap.size W5 _)).1).mono ?_); rintro e Wn ⟨Ad, cd, rfl, hcd, od, hb⟩; skip)) | (go_at_call 8; go_split_ands; ((with_reducible refine (HCy.out _ _ _ _ _ od.rd (R.out _ (by assumption : Below W5.heap.size W5 _)).2.1).mono ?_); rintro e Wn ⟨rfl, hb⟩; skip)) | (go_at_call 10; go_split_ands; ((with_reducible refine (HMxy.out _ _ _ _ _ (R.out _ (by assumption : Below W5.heap.size W5 _)).1 (R.out _ (by assumption : Below W5.heap.size W5 _)).2.1).mono ?_); rintro e Wn ⟨Am, cm, rfl, hcm, om, hb⟩; (first | (replace ot := ot.below hb) | skip))) | (go_at_call 10; go_split_ands; ((with_reducible refine (HMyx.out _ _ _ _ _ (R.out _ (by assumption : Below W5.heap.size W5 _)).2.1 (R.out _ (by assumption : Below W5.heap.size W5 _)).1).mono ?_); rintro e Wn ⟨An, cn, rfl, hcn, on, hb⟩; (first | (replace om := om.below hb) | skip))) | (go_at_call 8; go_split_ands; ((with_reducible refine (HCm.out _ _ _ _ _ om.rd on.rd).mono ?_); rintro e Wn ⟨rfl, hb⟩; skip)) | (go_at_call 10; go_split_ands; ((with_reducible refine (HMsy.out _ _ _ _ _ (R.out _ (by assumption : Below W5.heap.size W5 _)).2.2.2 (R.out _ (by assumption : Below W5.heap.size W5 _)).2.1).mono ?_); rintro e Wn ⟨At, ct, rfl, hct, ot, hb⟩; skip)) | (go_at_call 10; go_split_ands; ((with_reducible refine (HMyy.out _ _ _ _ _ (R.out _ (by assumption : Below W5.heap.size W5 _)).2.1 (R.out _ (by assumption : Below W5.heap.size W5 _)).2.1).mono ?_); rintro e Wn ⟨Ak, ck, rfl, hck, ok, hb⟩; (first | (replace ot := ot.below hb) | skip); (first | (replace om := om.below hb) | skip))) | (go_at_call 7; go_split_ands; ((with_reducible refine (HAmk.out _ _ _ _ _ om.rd ok.rd).mono ?_); rintro e Wn ⟨Aq, cq, rfl, hcq, oq, hb⟩; (first | (replace ot := ot.below hb) | skip))) | (go_at_call 8; go_split_ands; ((with_reducible refine (HCt.out _ _ _ _ _ ot.rd oq.rd).mono ?_); rintro e Wn ⟨rfl, hb⟩; skip)))
    have hfin := (‹_ ∧ _ ∧ _ ∧ _ ∧ _ ∧ _ ∧ _ ∧ _ ∧ Below W5.heap.size W5 _›).2.2.2.2.2.2.2.2
    go_wp2
    go_ret
    exact ⟨rfl, bt HK.out hfin⟩
  · have hg' : (1048576 : Int) < (n : Int) := by omega
    go_enter Tryz.func3, Tryz.ntmps3
    go_wp2
    go_ret
    exact ⟨rfl, Below.refl _ _⟩
end Go.Proofs.YtmmgcdfifcbabaaGreatDoor
