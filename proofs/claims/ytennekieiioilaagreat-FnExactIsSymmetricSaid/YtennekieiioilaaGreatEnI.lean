/-
  The program's EntryOf.
-/
import Derived.Test.YtennekieiioilaaGreatBsI
import Derived.Test.YtennekieiioilaaGreatCpL
import Derived.Test.YtennekieiioilaaGreatEnS
namespace Go.Proofs.YtennekieiioilaaGreat
open Go.ChangeShapes Go.WideShapes Go.ChangeAt Go.RowKit
open Go.ChangeMaps (open_string shut_string)
set_option linter.unusedVariables false
set_option linter.unusedSimpArgs false
set_option maxRecDepth 4000

attribute [local go_sem ↓] Go.wp_at_zero Go.wp_at_succ
set_option maxHeartbeats 4000000 in
theorem impl_ent (R : List MR) (A : Option Addr) (c : Nat) (i : Nat) (p : MR) (y : Int) (w : World) (hp : R[i]? = some p) (hS : ∀ x, x ∈ p.V → ShortQ x) (hB : ∃ N, N ≤ 40 ∧ rowB N p = true) (h40 : R.length ≤ 40) (hA : RdS w A (flatX R)) (hR : Rds w (lrowX R)) :
    Calls Tryz.prog 31 #[.agg #[.slice A R.length c], .int .i64 (i : Int), .int .i64 y] w (MadeQ w.heap.size (ofO (entO p y)) w) := by
  obtain ⟨N, hN, hB⟩ := hB
  obtain ⟨hinc, hlen, hl, hv⟩ := row_inc hB
  have RX : Hid (∀ W, Below w.heap.size w W → RdS W A (flatX R) ∧ Rds W (rmx p)) := Lib.hid (fun W hb => ⟨hA.below hb, (hR.atX hp).below hb⟩)
  obtain ⟨T, hT⟩ : ∃ T, T = ofO (entO p y) := ⟨_, rfl⟩
  rw [← hT]
  obtain ⟨m, hm⟩ : ∃ m, m = p.cs.length := ⟨_, rfl⟩
  obtain ⟨n, hn⟩ : ∃ n, n = R.length := ⟨_, rfl⟩
  have HE := entL_bs p.cs (datQ p.V) y (by unfold datQ; rw [List.length_map]; exact hl) hinc
  have HBS : Hid (∀ W, Below w.heap.size w W → Calls Tryz.prog 58 #[.slice p.A m p.c, .int .i64 y] W (fun e w' => e = .returned (.tuple #[.int .i64 ((p.cs.countP (· < y) : Nat) : Int), .bool (p.cs.contains y)]) ∧ Below W.heap.size W w')) := Lib.hid (fun W hb => by
    have K := bs_r p.cs p.A p.c y W (by omega) hinc (RX.out W hb).2.hd
    rw [← hm] at K; exact K)
  have HFD : Hid (p.cs.contains y = true → ∃ v, p.V[p.cs.countP (· < y)]? = some v ∧ T = v.x ∧ (p.cs.countP (· < y) < m)) := Lib.hid (fun h => by
    obtain ⟨x, h1, h2, h3⟩ := HE.1 h
    unfold datQ at h2
    rw [List.getElem?_map] at h2
    cases hv2 : p.V[p.cs.countP (· < y)]? with
    | none => rw [hv2] at h2; cases h2
    | some v =>
      rw [hv2] at h2
      have h4 : v.x = x := Option.some.inj h2
      obtain ⟨r, h5, h6, _⟩ := valx_yes (validB_at hv hv2)
      have h7 := lt_of_getQ hv2
      exact ⟨v, rfl, by rw [hT]; unfold entO; rw [h3, ← h4, h5, ← h6], by omega⟩)
  have HNF : Hid (p.cs.contains y = false → T = ofO (some 0)) := Lib.hid (fun h => by rw [hT]; unfold entO; rw [HE.2 h])
  generalize p.cs.countP (· < y) = k at HBS HFD
  generalize p.cs.contains y = b at HBS HFD HNF
  have HS := Lib.hid hS
  have hi1 : (i : Int) < (n : Int) := by have := lt_of_getX hp; omega
  have hi0 : (0 : Int) ≤ (i : Int) := by omega
  obtain ⟨g, o, rfl, _, c0, c1⟩ := hA.two hp
  rw [← hm] at c0
  rw [← hl, ← hm] at c1
  rw [← hn]
  have HZ := Lib.hid (fun W => show Calls Tryz.prog 59 #[.int .i64 0] W (MadeQ W.heap.size (ofO (some 0)) W) from (impl_rfi 0 W (by decide)).mono fun e w' k => MadeR.toQ (x := ofO (some 0)) k)
  have HC : Hid (∀ v W, ShortQ v → Rds W (qrow v) → Calls Tryz.prog 60 #[.agg #[.bool v.x.p, .slice v.a.A v.x.l.length v.a.c, .slice v.a.D v.x.m.length v.a.d]] W (MadeQ W.heap.size v.x W)) := Lib.hid (fun v W hs h => copied_x v.x v.a W hs h)
  unfold MadeQ at HZ HC
  have c0 := below_cell (ba2 w (.cells #[.slice (some ⟨g, o, none⟩) n c] 34) (.cells #[.bool false, .slice none 0 0, .slice none 0 0] 30)) c0
  have c1 := below_cell (ba2 w (.cells #[.slice (some ⟨g, o, none⟩) n c] 34) (.cells #[.bool false, .slice none 0 0, .slice none 0 0] 30)) c1
  have a0 := rblk_cell (blocks2 w (.cells #[.slice (some ⟨g, o, none⟩) n c] 34) (.cells #[.bool false, .slice none 0 0, .slice none 0 0] 30)).1 0
  obtain ⟨P_a, P_r, P_e⟩ := blocks3 w (.cells #[.slice (some ⟨g, o, none⟩) n c] 34) (.cells #[.bool false, .slice none 0 0, .slice none 0 0] 30) (.cells #[.slice p.A m p.c, .slice p.B m p.d] 71)
  have kb := ba3 w (.cells #[.slice (some ⟨g, o, none⟩) n c] 34) (.cells #[.bool false, .slice none 0 0, .slice none 0 0] 30) (.cells #[.slice p.A m p.c, .slice p.B m p.d] 71)
  have e0 := rblk_cell P_e 0
  clear hA hR hT hm hn hl hv hS hp h40 hinc hlen hB hN HE P_a
  go_enter Tryz.func31, Tryz.ntmps31
  go_wp2_with fail
  clear a0 c0 c1 e0
  generalize ((w.alloc (.cells #[.slice (some ⟨g, o, none⟩) n c] 34)).alloc (.cells #[.bool false, .slice none 0 0, .slice none 0 0] 30)).alloc (.cells #[.slice p.A m p.c, .slice p.B m p.d] 71) = W1 at kb P_r P_e ⊢
  refine (HBS.out _ kb).mono ?_
  rintro e w2 ⟨rfl, hb⟩
  replace P_e := rblk_below P_e hb
  replace P_r := rblk_below P_r hb
  replace kb := bt kb hb
  clear hb HBS
  cases b with
  | false =>
    have hTz := HNF.out rfl
    rw [← hTz] at HZ
    clear HFD HNF hTz HC P_e
    go_wp2_with fail
    refine (HZ.out _).mono ?_
    rintro e w3 ⟨a, rfl, hx, hy, oa, hap, hb⟩
    have lo := rblk_lt P_r
    replace P_r := rblk_below P_r hb
    replace kb := bt kb hb
    clear hb
    have r0 := rblk_cell P_r 0
    have r1 := rblk_cell P_r 1
    have r2 := rblk_cell P_r 2
    have f0 := rblk_free P_r 0
    have f1 := rblk_free P_r 1
    have f2 := rblk_free P_r 2
    have hz2 := Nat.le_trans (Nat.le_of_lt (Nat.lt_of_le_of_lt (Nat.le_succ _) lo)) (Nat.le_refl _)
    go_wp2
    exact bodyPost_ret (v := .agg #[.bool T.p, .slice a.A T.l.length a.c, .slice a.D T.m.length a.d]) (by simp [results, Tryz.results31, go_sem, r0, r1, r2]) rfl ⟨a, rfl, hx, hy, owns_end3 oa (.inl lo) hz2 (Nat.le_refl _) _ _ _, hap, below_put3 kb (Nat.le_succ _) _ _ _⟩
  | true =>
    obtain ⟨v, hv, hTv, hkm⟩ := HFD.out rfl
    have hs := HS.out v (List.mem_of_getElem? hv)
    have HC2 : Hid (∀ W, Below w.heap.size w W → Calls Tryz.prog 60 #[.agg #[.bool v.x.p, .slice v.a.A v.x.l.length v.a.c, .slice v.a.D v.x.m.length v.a.d]] W (MadeQ W.heap.size v.x W)) := Lib.hid (fun W hb => HC.out v W hs ((RX.out W hb).2.tl.tl.atQ hv))
    obtain ⟨gv, ov, eb, _, v0, v1, v2⟩ := (RX.out _ kb).2.tl.hd.three hv
    rw [eb] at P_e
    have e1 := rblk_cell P_e 1
    have hk0 : (0 : Int) ≤ (k : Int) := by omega
    have hk1 : (k : Int) < (m : Int) := by omega
    unfold MadeQ at HC2
    rw [← hTv] at HC2 v0 v1 v2
    clear HFD HNF hTv HC HZ P_e hs hv eb hkm
    go_wp2_with fail
    clear e1 v0 v1 v2
    refine (HC2.out _ kb).mono ?_
    rintro e w3 ⟨a, rfl, hx, hy, oa, hap, hb⟩
    have lo := rblk_lt P_r
    replace P_r := rblk_below P_r hb
    replace kb := bt kb hb
    clear hb
    have r0 := rblk_cell P_r 0
    have r1 := rblk_cell P_r 1
    have r2 := rblk_cell P_r 2
    have f0 := rblk_free P_r 0
    have f1 := rblk_free P_r 1
    have f2 := rblk_free P_r 2
    have hz2 := Nat.le_trans (Nat.le_of_lt (Nat.lt_of_le_of_lt (Nat.le_succ _) lo)) (Nat.le_refl _)
    go_wp2
    exact bodyPost_ret (v := .agg #[.bool T.p, .slice a.A T.l.length a.c, .slice a.D T.m.length a.d]) (by simp [results, Tryz.results31, go_sem, r0, r1, r2]) rfl ⟨a, rfl, hx, hy, owns_end3 oa (.inl lo) hz2 (Nat.le_refl _) _ _ _, hap, below_put3 kb (Nat.le_succ _) _ _ _⟩
set_option maxHeartbeats 4000000 in
theorem impl_entry (R : List MR) (A : Option Addr) (c : Nat) (x y : Int) (w : World) (hn : R.length ≤ 9223372036854775807) (hL : ∀ p, p ∈ R → LenX p) (hA : RdS w A (flatX R)) (hR : Rds w (lrowX R)) :
    Calls Tryz.prog 9 #[.agg #[.slice A R.length c], .int .i64 x, .int .i64 y] w (MadeQ w.heap.size (ofO (entR R x y)) w) := by
  have HIS : Hid (∀ W, Below w.heap.size w W → Calls Tryz.prog 29 #[.agg #[.slice A R.length c]] W (fun e w' => e = .returned (.bool (isMx R)) ∧ Below W.heap.size W w')) := Lib.hid (fun W hb => impl_isMatrix R A c W hn hL (hA.below hb) (hR.below hb))
  have HX := Lib.hid (fun W => isIdx_r x R.length W)
  have HY := Lib.hid (fun W => isIdx_r y R.length W)
  obtain ⟨T, hT⟩ : ∃ T, T = entR R x y := ⟨_, rfl⟩
  rw [← hT]
  have HAT : Hid (isMx R = true → (0 ≤ x ∧ x ≤ (R.length : Int) - 1) → (0 ≤ y ∧ y ≤ (R.length : Int) - 1) → ∀ W, Below w.heap.size w W → Calls Tryz.prog 31 #[.agg #[.slice A R.length c], .int .i64 x, .int .i64 y] W (MadeQ W.heap.size (ofO T) W)) := Lib.hid (fun h1 h2 h3 W hb => by
    obtain ⟨i, rfl⟩ : ∃ i : Nat, x = (i : Int) := ⟨x.toNat, by omega⟩
    obtain ⟨p, hp⟩ := getX (L := R) (i := i) (by omega)
    have hent : T = entO p y := by
      rw [hT]; unfold entR inX
      rw [if_pos ⟨h1, by simpa using h2, by simpa using h3⟩]
      show (match R[(i : Int).toNat]? with | some p => entO p y | none => none) = _
      rw [Int.toNat_natCast, hp]
    rw [hent]
    have hk : R.length ≤ 40 ∧ R.all (rowB R.length) = true := by
      unfold isMx at h1; simpa using h1
    have hrow := allB_at hk.2 hp
    have lp := hL p (List.mem_of_getElem? hp)
    exact impl_ent R A c i p y W hp (fun v hv => by
      obtain ⟨r, h4, h5, h6⟩ := valx_yes (List.all_eq_true.1 (row_inc hrow).2.2.2 v hv)
      have k := (fitO_some h6).len
      rw [← h5] at k
      show Short v.x
      unfold Short; omega) ⟨_, hk.1, hrow⟩ hk.1 (hA.below hb) (hR.below hb))
  have hx0 : isMx R = false ∨ ¬ (0 ≤ x ∧ x ≤ (R.length : Int) - 1) ∨ ¬ (0 ≤ y ∧ y ≤ (R.length : Int) - 1) → T = none := fun h => by
    rw [hT]; unfold entR inX
    rw [if_neg]
    rintro ⟨h1, h2, h3⟩
    simp only [decide_eq_true_eq] at h2 h3
    rcases h with h | h | h
    · rw [h1] at h; cases h
    · exact h h2
    · exact h h3
  obtain ⟨mx, hmx⟩ : ∃ b, b = isMx R := ⟨_, rfl⟩
  rw [← hmx] at HIS HAT hx0
  obtain ⟨n, hnn⟩ : ∃ n, n = R.length := ⟨_, rfl⟩
  rw [← hnn] at HIS HX HY HAT hx0 hn ⊢
  have hw1 : IntKind.i64.wrap ((n : Int) - 1) = (n : Int) - 1 := by rw [IntKind.wrap_i64]; omega
  clear hA hR hL hT hmx hnn
  obtain ⟨P_a, P_o⟩ := blocks2 w (.cells #[.slice A n c] 34) (.cells #[.bool false, .slice none 0 0, .slice none 0 0] 30)
  have kb := ba2 w (.cells #[.slice A n c] 34) (.cells #[.bool false, .slice none 0 0, .slice none 0 0] 30)
  have a0 := rblk_cell P_a 0
  cases mx
  case false =>
    have hTn := hx0 (.inl rfl)
    subst hTn
    clear HX HY HAT hx0
    go_enter Tryz.func9, Tryz.ntmps9
    go_wp2_with fail
    clear a0
    generalize (w.alloc (.cells #[.slice A n c] 34)).alloc (.cells #[.bool false, .slice none 0 0, .slice none 0 0] 30) = W1 at kb P_a P_o ⊢
    refine (HIS.out _ kb).mono ?_
    rintro e w2 ⟨rfl, hb⟩
    replace P_a := rblk_below P_a hb
    replace P_o := rblk_below P_o hb
    replace kb := bt kb hb
    clear hb
    have c_o0 := rblk_cell P_o 0
    have c_o1 := rblk_cell P_o 1
    have c_o2 := rblk_cell P_o 2
    have f_o0 := rblk_free P_o 0
    have f_o1 := rblk_free P_o 1
    have f_o2 := rblk_free P_o 2
    go_wp2
    exact bodyPost_ret (v := .agg #[.bool false, .slice none 0 0, .slice none 0 0]) (by simp [results, Tryz.results9, go_sem, c_o0, c_o1, c_o2]) rfl (none_ratX _ _ _ (below_put3 kb (Nat.le_succ _) _ _ _))
  by_cases hx : 0 ≤ x ∧ x ≤ (n : Int) - 1
  case neg =>
    have hTn := hx0 (.inr (.inl hx))
    subst hTn
    unfold inX at HX
    rw [decide_eq_false hx] at HX
    clear HY HAT hx0 hx
    go_enter Tryz.func9, Tryz.ntmps9
    go_wp2_with fail
    clear a0
    generalize (w.alloc (.cells #[.slice A n c] 34)).alloc (.cells #[.bool false, .slice none 0 0, .slice none 0 0] 30) = W1 at kb P_a P_o ⊢
    refine (HIS.out _ kb).mono ?_
    rintro e w2 ⟨rfl, hb⟩
    replace P_a := rblk_below P_a hb
    replace P_o := rblk_below P_o hb
    replace kb := bt kb hb
    clear hb
    have a0 := rblk_cell P_a 0
    go_wp2_with fail
    clear a0
    refine (HX.out _).mono ?_
    rintro e w3 ⟨rfl, hb⟩
    replace P_a := rblk_below P_a hb
    replace P_o := rblk_below P_o hb
    replace kb := bt kb hb
    clear hb
    have c_o0 := rblk_cell P_o 0
    have c_o1 := rblk_cell P_o 1
    have c_o2 := rblk_cell P_o 2
    have f_o0 := rblk_free P_o 0
    have f_o1 := rblk_free P_o 1
    have f_o2 := rblk_free P_o 2
    go_wp2
    exact bodyPost_ret (v := .agg #[.bool false, .slice none 0 0, .slice none 0 0]) (by simp [results, Tryz.results9, go_sem, c_o0, c_o1, c_o2]) rfl (none_ratX _ _ _ (below_put3 kb (Nat.le_succ _) _ _ _))
  by_cases hy : 0 ≤ y ∧ y ≤ (n : Int) - 1
  case neg =>
    have hTn := hx0 (.inr (.inr hy))
    subst hTn
    unfold inX at HX HY
    rw [decide_eq_true hx] at HX
    rw [decide_eq_false hy] at HY
    clear HAT hx0 hx hy
    go_enter Tryz.func9, Tryz.ntmps9
    go_wp2_with fail
    clear a0
    generalize (w.alloc (.cells #[.slice A n c] 34)).alloc (.cells #[.bool false, .slice none 0 0, .slice none 0 0] 30) = W1 at kb P_a P_o ⊢
    refine (HIS.out _ kb).mono ?_
    rintro e w2 ⟨rfl, hb⟩
    replace P_a := rblk_below P_a hb
    replace P_o := rblk_below P_o hb
    replace kb := bt kb hb
    clear hb
    have a0 := rblk_cell P_a 0
    go_wp2_with fail
    clear a0
    refine (HX.out _).mono ?_
    rintro e w3 ⟨rfl, hb⟩
    replace P_a := rblk_below P_a hb
    replace P_o := rblk_below P_o hb
    replace kb := bt kb hb
    clear hb
    have a0 := rblk_cell P_a 0
    go_wp2_with fail
    clear a0
    refine (HY.out _).mono ?_
    rintro e w3 ⟨rfl, hb⟩
    replace P_a := rblk_below P_a hb
    replace P_o := rblk_below P_o hb
    replace kb := bt kb hb
    clear hb
    have c_o0 := rblk_cell P_o 0
    have c_o1 := rblk_cell P_o 1
    have c_o2 := rblk_cell P_o 2
    have f_o0 := rblk_free P_o 0
    have f_o1 := rblk_free P_o 1
    have f_o2 := rblk_free P_o 2
    go_wp2
    exact bodyPost_ret (v := .agg #[.bool false, .slice none 0 0, .slice none 0 0]) (by simp [results, Tryz.results9, go_sem, c_o0, c_o1, c_o2]) rfl (none_ratX _ _ _ (below_put3 kb (Nat.le_succ _) _ _ _))
  have HAT2 := Lib.hid (HAT.out rfl hx hy)
  unfold inX at HX HY
  rw [decide_eq_true hx] at HX
  rw [decide_eq_true hy] at HY
  obtain ⟨Q, hQ⟩ : ∃ Q, Q = ofO T := ⟨_, rfl⟩
  rw [← hQ] at HAT2 ⊢
  unfold MadeQ at HAT2
  clear HAT hx0 hx hy hQ
  go_enter Tryz.func9, Tryz.ntmps9
  go_wp2_with fail
  clear a0
  generalize (w.alloc (.cells #[.slice A n c] 34)).alloc (.cells #[.bool false, .slice none 0 0, .slice none 0 0] 30) = W1 at kb P_a P_o ⊢
  refine (HIS.out _ kb).mono ?_
  rintro e w2 ⟨rfl, hb⟩
  replace P_a := rblk_below P_a hb
  replace P_o := rblk_below P_o hb
  replace kb := bt kb hb
  clear hb
  have a0 := rblk_cell P_a 0
  go_wp2_with fail
  clear a0
  refine (HX.out _).mono ?_
  rintro e w3 ⟨rfl, hb⟩
  replace P_a := rblk_below P_a hb
  replace P_o := rblk_below P_o hb
  replace kb := bt kb hb
  clear hb
  have a0 := rblk_cell P_a 0
  go_wp2_with fail
  clear a0
  refine (HY.out _).mono ?_
  rintro e w3 ⟨rfl, hb⟩
  replace P_a := rblk_below P_a hb
  replace P_o := rblk_below P_o hb
  replace kb := bt kb hb
  clear hb
  have a0 := rblk_cell P_a 0
  go_wp2_with fail
  clear a0
  refine (HAT2.out _ kb).mono ?_
  rintro e w2 ⟨a, rfl, hx, hy, oa, hap, hb⟩
  have lo := rblk_lt P_o
  replace P_o := rblk_below P_o hb
  replace kb := bt kb hb
  clear hb P_a
  have r0 := rblk_cell P_o 0
  have r1 := rblk_cell P_o 1
  have r2 := rblk_cell P_o 2
  have f0 := rblk_free P_o 0
  have f1 := rblk_free P_o 1
  have f2 := rblk_free P_o 2
  have hz2 := Nat.le_trans (Nat.le_of_lt (Nat.lt_of_le_of_lt (Nat.le_succ _) lo)) (Nat.le_refl _)
  go_wp2
  exact bodyPost_ret (v := .agg #[.bool Q.p, .slice a.A Q.l.length a.c, .slice a.D Q.m.length a.d]) (by simp [results, Tryz.results9, go_sem, r0, r1, r2]) rfl ⟨a, rfl, hx, hy, owns_end3 oa (.inl lo) hz2 (Nat.le_refl _) _ _ _, hap, below_put3 kb (Nat.le_succ _) _ _ _⟩
end Go.Proofs.YtennekieiioilaaGreat
