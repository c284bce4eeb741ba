/-
  Big integers of the model: 'l03Make', 'BigIntOk'.
-/
import Derived.Test.YtmmgcdfifcbabaaGreatDoorBigP
import Derived.Test.YtmmgcdfifcbabaaGreatDoorAppS
import Derived.Test.YtmmgcdfifcbabaaGreatDoorArD
namespace Go.Proofs.YtmmgcdfifcbabaaGreatDoor
open Go.ChangeShapes Go.WideShapes Go.ChangeAt Go.RowKit
open Go.ChangeMaps (open_string shut_string)
set_option linter.unusedVariables false
set_option linter.unusedSimpArgs false
set_option maxRecDepth 4000

/-- A slice that reads as L. -/
def CapR (L : List Int) (w : World) (e : Ending) (w' : World) : Prop := ∃ A c, e = .returned (.slice A L.length c) ∧ RdS w' A (vi L) ∧ Below w.heap.size w w'
theorem MadeI.capR {B : Nat} {L : List Int} {w w' : World} {e : Ending} (h : MadeI B L w e w') : CapR L w e w' := by
  obtain ⟨A, c, he, _, ho, hb⟩ := h
  exact ⟨A, c, he, ho.rd, hb⟩

set_option maxHeartbeats 800000 in
theorem trim_rd (v n c : Nat) (A : Option Addr) (w : World) (hn : ln v = n) (h6 : n ≤ 1048576) (hc : n ≤ c) (hA : RdS w A (vi (nd v))) :
    Calls Tryz.prog 49 #[.slice A n c] w (CapR (nd v) w) := by
  by_cases h0 : n = 0
  · subst h0
    have hz : nd v = [] := by unfold nd; rw [hn]; rfl
    rw [hz]
    clear hA
    cases A with
    | none =>
      go_enter Tryz.func49, Tryz.ntmps49
      go_wp2
      go_loop [3] (fun i => i = .int .i64 0) (fun i => 0)
      case atStart => exact rfl
      case round =>
        obtain rfl := hrel
        go_wp2
        go_ret
        exact ⟨_, _, rfl, .inl rfl, Below.refl _ _⟩
    | some ad =>
      go_enter Tryz.func49, Tryz.ntmps49
      go_wp2
      go_loop [3] (fun i => i = .int .i64 0) (fun i => 0)
      case atStart => exact rfl
      case round =>
        obtain rfl := hrel
        go_wp2
        go_ret
        exact ⟨_, _, rfl, .inl rfl, Below.refl _ _⟩
  · obtain ⟨b1, o1, rfl, hb1, e1⟩ := hA.int (nd_get (v := v) (i := n - 1) (by omega))
    have hv0 : 0 < v := by rcases Nat.eq_zero_or_pos v with h | h; (subst h; rw [ln_zero] at hn; omega); exact h
    have hne : dgt v (n - 1) ≠ 0 := by have := top_ne hv0; rwa [hn] at this
    have HA := Lib.hid hA
    have hk1 : ((n : Int) - 1) = ((n - 1 : Nat) : Int) := by omega
    have hp : 0 < n := by omega
    have HN : Hid ((nd v).length = n) := Lib.hid (by rw [nd_length, hn])
    clear hA hn
    generalize dgt v (n - 1) = x at e1 hne
    have q : (x == 0) = false := by rw [beq_eq_false_iff_ne]; exact hne
    go_enter Tryz.func49, Tryz.ntmps49
    go_wp2
    go_loop [3] (fun i => i = .int .i64 (n : Int)) (fun i => 0)
    case atStart => exact rfl
    case round =>
      obtain rfl := hrel
      go_wp2
      go_ret
      exact ⟨_, _, by rw [HN.out]; rfl, HA.out, Below.refl _ _⟩

set_option maxHeartbeats 800000 in
theorem cap_rd (v n c : Nat) (A : Option Addr) (w : World) (hn : ln v = n) (h6 : n ≤ 1048576) (hc : n ≤ c) (hA : RdS w A (vi (nd v))) :
    Calls Tryz.prog 47 #[.slice A n c] w (CapR (cap60 v) w) := by
  have H := Lib.hid (trim_rd v n c A w hn h6 hc hA)
  clear hA
  have hl : (nd v).length = n := by rw [nd_length, hn]
  by_cases h60 : n ≤ 60
  · rw [cap60_yes' (by omega)]
    have hl60 : (nd v).length ≤ 60 := by omega
    clear hn hl
    generalize nd v = L at H hl60 ⊢
    go_enter Tryz.func47, Tryz.ntmps47
    go_wp2_with fail
    refine H.out.mono ?_
    rintro e w1 ⟨A', c', rfl, ho', hb'⟩
    go_wp2
    go_ret
    exact ⟨A', c', rfl, ho', hb'⟩
  · rw [cap60_no' (by omega)]
    have hl60 : 60 < (nd v).length := by omega
    clear hn hl
    generalize nd v = L at H hl60
    go_enter Tryz.func47, Tryz.ntmps47
    go_wp2_with fail
    refine H.out.mono ?_
    rintro e w1 ⟨A', c', rfl, ho', hb'⟩
    go_wp2
    go_ret
    exact ⟨none, 0, rfl, .inl rfl, hb'⟩

/-- 'append' of nothing onto a row of the call's own. -/
theorem run_app_nil (w : World) (ty : TypeId) (B n c : Nat) (v : Value) (xs : List Value) (hown : w.ownsRow B 3 1 v n xs) : (Builtin.append_ #[23, 23] ty #[v, .slice none 0 c]).run Tryz.prog w = .ok v w := by
  obtain ⟨i0, hi, hz0, hz1, hz2⟩ := info_parts int_info
  have hu := run_underlying (P := Tryz.prog) Tryz.underlying23
  have hr := hown.2
  clear hown
  rcases hr with ⟨hv, _⟩ | ⟨g, cap, cur, hv, _, _, hnc, _⟩
  · subst hv
    simp [Builtin.append_, hu, sizeOf, typeInfo, hi, Builtin.lenOf, Builtin.firstCells]
  · subst hv
    simp [Builtin.append_, hu, sizeOf, typeInfo, hi, Builtin.lenOf, Builtin.firstCells, hnc, storeCells]
theorem append_rd {ops : Array Oper} {rest : List Oper} {o : Oper} {a : Act} {Q : Exit → Act → World → Prop} (hgd : o.guard = none) (f x : Operand)
    (ho : o.op = .call { callee := .builtin .append, args := #[f, x], argTypes := #[23, 23] })
    (B n m c : Nat) (v : Value) (xs ys : List Int) (A : Option Addr) (w : World) (hf : a.eval f = v) (hx : a.eval x = .slice A m c)
    (hown : w.ownsRow B 3 1 v n (vi xs)) (hn : n ≤ 1048576) (hm : m ≤ 1048576) (hl : ys.length = m) (hr : RdS w A (vi ys)) (hB : B ≤ w.heap.size)
    (h : ∀ v' w', w'.ownsRow B 3 1 v' (n + m) (vi (xs ++ ys)) → Below B w w' → w.heap.size ≤ w'.heap.size → wpList Tryz.prog ops Q rest (a.put o.dst v') w') :
    wpList Tryz.prog ops Q (o :: rest) a w := by
  cases A with
  | some ad => exact append_ints hgd f x ho B n m c v xs ys ad w hf hx hown hn hm hl hr hB h
  | none =>
    have hy : ys = [] := by
      rcases hr with hr | ⟨b, off, ha, _⟩
      · cases ys with
        | nil => rfl
        | cons y t => simp [vi] at hr
      · cases ha
    subst hy
    obtain rfl : m = 0 := hl.symm
    refine wpList_plain hgd fun K hK => ?_
    have hrun := run_app_nil w o.type B n c v (vi xs) hown
    unfold Oper.wp
    simp [execOp, ho, resolve, invoke, builtin, hf, hx, hrun, Result.andThen]
    exact hK _ _ (h v w (by simpa using hown) (Below.refl _ _) (Nat.le_refl _))

set_option maxHeartbeats 1000000 in
theorem make_pos (L : List Int) (A : Option Addr) (n c : Nat) (w : World) (HC : ∀ W, Below w.heap.size w W → Calls Tryz.prog 47 #[.slice A n c] W (CapR L W)) (hL : L.length ≤ 1048576) :
    Calls Tryz.prog 28 #[.bool false, .slice A n c] w (MadeB w.heap.size false L w) := by
  have HC' := Lib.hid HC
  clear HC
  go_enter Tryz.func28, Tryz.ntmps28
  go_wp2_with fail
  have kt := boxT w 25 (.bool false) (.slice none 0 0)
  have kb := ba1 w (.cells #[.bool false, .slice none 0 0] 25)
  generalize w.alloc (.cells #[.bool false, .slice none 0 0] 25) = W1 at kt kb ⊢
  refine (HC'.out _ kb).mono ?_
  rintro e w1 ⟨A1, c1, rfl, hr1, hb1⟩
  replace kt := kt.below hb1
  replace kb := bt kb hb1
  have hal : Below w1.heap.size w1 (w1.alloc (.cells #[] 3)) := ba1 _ _
  have hs1 : (w1.alloc (.cells #[] 3)).ownsRow w1.heap.size 3 1 (.slice (some ⟨w1.heap.size, 0, none⟩) 0 0) 0 (vi []) := World.ownsRow_made w1 #[] 0 (by omega) (by simp [maxLen]) rfl
  go_wp2_with (at_builtin; refine append_rd rfl (.tmp 14) (.tmp 15) rfl w1.heap.size 0 L.length c1 _ [] L A1 (w1.alloc (.cells #[] 3)) rfl rfl hs1 (by omega) hL rfl (hr1.below hal) (by simp) ?_; intro v2 w2 hown2 hb2 hsz2; refine cut_here ?_)
  have hb12 : Below w1.heap.size w1 w2 := hal.trans hb2
  obtain ⟨A2, c2, hv2, hc2, _, _⟩ := own_len hown2
  have hO2 := OwnS.of_own (A := A2) (n := 0 + L.length) (c := c2) (by rw [← hv2]; exact hown2)
  subst hv2
  rw [Nat.zero_add] at hc2 ⊢
  rw [List.nil_append] at hO2
  have hlt := kt.lt
  obtain ⟨u0, u1, t1, t2, t3, t4⟩ := kt.below hb12
  have hbw := bt kb hb12
  clear hown2 hs1 hal hb2 hsz2
  refine Cut.of ?_
  go_wp2
  exact bodyPost_ret (v := .agg #[.bool false, .slice A2 L.length c2]) (by simp [results, Tryz.results28, go_sem, t1, t2]) rfl ⟨A2, c2, rfl, hc2, ((hO2.put (by omega) _).put (by omega) _).more (by omega), below_put (below_put hbw (by omega) _) (by omega) _⟩

set_option maxHeartbeats 1000000 in
theorem make_neg (L : List Int) (A : Option Addr) (n c : Nat) (w : World) (HC : ∀ W, Below w.heap.size w W → Calls Tryz.prog 47 #[.slice A n c] W (CapR L W)) (hL : L.length ≤ 1048576) (h0 : 0 < L.length) :
    Calls Tryz.prog 28 #[.bool true, .slice A n c] w (MadeB w.heap.size true L w) := by
  have HC' := Lib.hid HC
  clear HC
  go_enter Tryz.func28, Tryz.ntmps28
  go_wp2_with fail
  have kt := boxT w 25 (.bool false) (.slice none 0 0)
  have kb := ba1 w (.cells #[.bool false, .slice none 0 0] 25)
  generalize w.alloc (.cells #[.bool false, .slice none 0 0] 25) = W1 at kt kb ⊢
  refine (HC'.out _ kb).mono ?_
  rintro e w1 ⟨A1, c1, rfl, hr1, hb1⟩
  replace kt := kt.below hb1
  replace kb := bt kb hb1
  have hal : Below w1.heap.size w1 (w1.alloc (.cells #[] 3)) := ba1 _ _
  have hs1 : (w1.alloc (.cells #[] 3)).ownsRow w1.heap.size 3 1 (.slice (some ⟨w1.heap.size, 0, none⟩) 0 0) 0 (vi []) := World.ownsRow_made w1 #[] 0 (by omega) (by simp [maxLen]) rfl
  go_wp2_with (at_builtin; refine append_rd rfl (.tmp 14) (.tmp 15) rfl w1.heap.size 0 L.length c1 _ [] L A1 (w1.alloc (.cells #[] 3)) rfl rfl hs1 (by omega) hL rfl (hr1.below hal) (by simp) ?_; intro v2 w2 hown2 hb2 hsz2; refine cut_here ?_)
  have hb12 : Below w1.heap.size w1 w2 := hal.trans hb2
  obtain ⟨A2, c2, hv2, hc2, _, _⟩ := own_len hown2
  have hO2 := OwnS.of_own (A := A2) (n := 0 + L.length) (c := c2) (by rw [← hv2]; exact hown2)
  subst hv2
  rw [Nat.zero_add] at hc2 ⊢
  rw [List.nil_append] at hO2
  have hlt := kt.lt
  obtain ⟨u0, u1, t1, t2, t3, t4⟩ := kt.below hb12
  have hbw := bt kb hb12
  clear hown2 hs1 hal hb2 hsz2
  refine Cut.of ?_
  go_wp2
  exact bodyPost_ret (v := .agg #[.bool true, .slice A2 L.length c2]) (by simp [results, Tryz.results28, go_sem, t1, t2]) rfl ⟨A2, c2, rfl, hc2, ((hO2.put (by omega) _).put (by omega) _).more (by omega), below_put (below_put hbw (by omega) _) (by omega) _⟩

set_option maxHeartbeats 1000000 in
theorem make_nul (L : List Int) (A : Option Addr) (n c : Nat) (w : World) (HC : ∀ W, Below w.heap.size w W → Calls Tryz.prog 47 #[.slice A n c] W (CapR L W)) (hL : L.length ≤ 1048576) (h0 : ¬ 0 < L.length) :
    Calls Tryz.prog 28 #[.bool true, .slice A n c] w (MadeB w.heap.size false L w) := by
  have HC' := Lib.hid HC
  clear HC
  go_enter Tryz.func28, Tryz.ntmps28
  go_wp2_with fail
  have kt := boxT w 25 (.bool false) (.slice none 0 0)
  have kb := ba1 w (.cells #[.bool false, .slice none 0 0] 25)
  generalize w.alloc (.cells #[.bool false, .slice none 0 0] 25) = W1 at kt kb ⊢
  refine (HC'.out _ kb).mono ?_
  rintro e w1 ⟨A1, c1, rfl, hr1, hb1⟩
  replace kt := kt.below hb1
  replace kb := bt kb hb1
  have hal : Below w1.heap.size w1 (w1.alloc (.cells #[] 3)) := ba1 _ _
  have hs1 : (w1.alloc (.cells #[] 3)).ownsRow w1.heap.size 3 1 (.slice (some ⟨w1.heap.size, 0, none⟩) 0 0) 0 (vi []) := World.ownsRow_made w1 #[] 0 (by omega) (by simp [maxLen]) rfl
  go_wp2_with (at_builtin; refine append_rd rfl (.tmp 14) (.tmp 15) rfl w1.heap.size 0 L.length c1 _ [] L A1 (w1.alloc (.cells #[] 3)) rfl rfl hs1 (by omega) hL rfl (hr1.below hal) (by simp) ?_; intro v2 w2 hown2 hb2 hsz2; refine cut_here ?_)
  have hb12 : Below w1.heap.size w1 w2 := hal.trans hb2
  obtain ⟨A2, c2, hv2, hc2, _, _⟩ := own_len hown2
  have hO2 := OwnS.of_own (A := A2) (n := 0 + L.length) (c := c2) (by rw [← hv2]; exact hown2)
  subst hv2
  rw [Nat.zero_add] at hc2 ⊢
  rw [List.nil_append] at hO2
  have hlt := kt.lt
  obtain ⟨u0, u1, t1, t2, t3, t4⟩ := kt.below hb12
  have hbw := bt kb hb12
  clear hown2 hs1 hal hb2 hsz2
  refine Cut.of ?_
  go_wp2
  exact bodyPost_ret (v := .agg #[.bool false, .slice A2 L.length c2]) (by simp [results, Tryz.results28, go_sem, t1, t2]) rfl ⟨A2, c2, rfl, hc2, ((hO2.put (by omega) _).put (by omega) _).more (by omega), below_put (below_put hbw (by omega) _) (by omega) _⟩
theorem make_any (p : Bool) (L : List Int) (A : Option Addr) (n c : Nat) (w : World) (HC : ∀ W, Below w.heap.size w W → Calls Tryz.prog 47 #[.slice A n c] W (CapR L W)) (hL : L.length ≤ 1048576) :
    Calls Tryz.prog 28 #[.bool p, .slice A n c] w (MadeB w.heap.size (p && decide (L ≠ [])) L w) := by
  cases p
  · exact make_pos L A n c w HC hL
  · by_cases h0 : 0 < L.length
    · have h := make_neg L A n c w HC hL h0
      rw [show (true && decide (L ≠ [])) = true by rw [Bool.true_and]; exact decide_eq_true (by rintro rfl; simp at h0)]
      exact h
    · have h := make_nul L A n c w HC hL h0
      have hz : L = [] := List.eq_nil_of_length_eq_zero (by omega)
      rw [show (true && decide (L ≠ [])) = false by rw [hz]; rfl]
      exact h
/-- 'l03Make' of limbs that read as v, without a zero at the end. -/
theorem make_rd (p : Bool) (v n c : Nat) (A : Option Addr) (w : World) (hn : ln v = n) (h6 : n ≤ 1048576) (hc : n ≤ c) (hA : RdS w A (vi (nd v))) :
    Calls Tryz.prog 28 #[.bool p, .slice A n c] w (MadeB w.heap.size (p && decide (cap60 v ≠ [])) (cap60 v) w) :=
  make_any p (cap60 v) A n c w (fun W hb => cap_rd v n c A W hn h6 hc (hA.below hb)) (by have := cap60_len v; omega)
/-- 'l03Make' of a row of the call's own. -/
theorem make_row (p : Bool) (B T n c : Nat) (A : Option Addr) (w : World) (hT : ln T ≤ n) (h6 : n ≤ 1048576) (hc : n ≤ c) (ho : OwnS B w A (vi (row n T))) :
    Calls Tryz.prog 28 #[.bool p, .slice A n c] w (MadeB w.heap.size (p && decide (cap60 T ≠ [])) (cap60 T) w) :=
  make_any p (cap60 T) A n c w (fun W hb => (cap_any B n c T A W (ho.below hb) hT hc h6).mono fun e w' h => h.capR) (by have := cap60_len T; omega)

end Go.Proofs.YtmmgcdfifcbabaaGreatDoor
