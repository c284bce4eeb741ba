/-
  'ParseNat', of the model and of the program.
-/
import Derived.Test.YtkmfbanlkglkmabGreatDoorPNatMath
import Derived.Test.YtkmfbanlkglkmabGreatDoorNatRow
import Derived.Test.YtkmfbanlkglkmabGreatDoorDkA
import Derived.Test.YtkmfbanlkglkmabGreatDoorDigI
import Derived.Test.YtkmfbanlkglkmabGreatDoorShelf
namespace Go.Proofs.YtkmfbanlkglkmabGreatDoor
open Go.ChangeShapes Go.WideShapes Go.ChangeAt Go.RowKit
open Go.ChangeMaps (open_string shut_string)
set_option linter.unusedVariables false
set_option linter.unusedSimpArgs false
set_option maxRecDepth 4000

/-- The text is a numeral without a zero ahead, of at most 540 digits. -/
def okS (s : ByteArray) : Bool := digs s && decide (s.size ≤ 540) && (decide (s.size ≤ 1) || decide (s.data.toList.getD 0 0 ≠ 48))
/-- The answer. -/
def prsL (s : ByteArray) : List Int := if okS s then nd (Num.val s.data.toList) else []
def PairN (B : Nat) (L : List Int) (b : Bool) (w : World) (e : Ending) (w' : World) : Prop :=
  ∃ A c, e = .returned (.tuple #[.slice A L.length c, .bool b]) ∧ L.length ≤ c ∧ OwnS B w' A (vi L) ∧ Below w.heap.size w w'
theorem PairN.nil (B : Nat) (w : World) : PairN B [] false w (.returned (.tuple #[.slice none 0 0, .bool false])) w := ⟨none, 0, rfl, Nat.le_refl _, .inl rfl, Below.refl _ _⟩
theorem PairN.after {B : Nat} {L : List Int} {b : Bool} {w w1 w2 : World} {e : Ending} (h : PairN B L b w1 e w2) (hb : Below w.heap.size w w1) : PairN B L b w e w2 := by
  obtain ⟨A, c, he, hc, ho, hb2⟩ := h
  exact ⟨A, c, he, hc, ho, bt hb hb2⟩
theorem digs_isdig {s : ByteArray} (h : digs s = true) : (∀ c ∈ s.data.toList, Num.IsDig c) ∧ 0 < s.size := by
  unfold digs at h
  rw [Bool.and_eq_true, decide_eq_true_eq, List.all_eq_true] at h
  refine ⟨fun c hc => ?_, h.1⟩
  have := h.2 c hc
  simp only [Bool.and_eq_true, decide_eq_true_eq] at this
  unfold Num.IsDig
  omega
theorem size_list (s : ByteArray) : s.data.toList.length = s.size := by simp
theorem ext_list (s : ByteArray) (a b : Nat) : (s.extract a b).data.toList = (s.data.toList.take b).drop a := by
  simp [ByteArray.data_extract, List.extract_eq_take_drop, List.drop_take]
theorem getD0 {s : ByteArray} (h : 0 < s.size) : s.data.toList.getD 0 0 = s[0]'h := by
  rw [List.getD_eq_getElem?_getD, List.getElem?_eq_getElem (by simpa using h)]; rfl

/-- The bytes from place lo up to place j. -/
def mid (l : List UInt8) (lo j : Nat) : List UInt8 := (l.take j).drop lo
theorem mid_nil (l : List UInt8) (lo : Nat) : mid l lo lo = [] := by
  unfold mid
  exact List.drop_of_length_le (by rw [List.length_take]; omega)
theorem mid_succ {l : List UInt8} {lo j : Nat} (h0 : lo ≤ j) (hj : j < l.length) : Num.val (mid l lo (j + 1)) = Num.val (mid l lo j) * 10 + (l[j].toNat - 48) := by
  unfold mid
  rw [List.take_succ_eq_append_getElem hj, List.drop_append_of_le_length (by rw [List.length_take]; omega), Num.val_snoc]
theorem mid_lt {l : List UInt8} (h : ∀ c ∈ l, Num.IsDig c) {lo j : Nat} (h9 : j ≤ lo + 9) (_ : True ∨ True) : Num.val (mid l lo j) < 1000000000 := by
  have h1 := val_lt (mid l lo j) (fun c hc => h c (List.mem_of_mem_take (List.mem_of_mem_drop hc)))
  have h2 : (mid l lo j).length ≤ 9 := by unfold mid; rw [List.length_drop, List.length_take]; omega
  have h3 : 10 ^ (mid l lo j).length ≤ 10 ^ 9 := Nat.pow_le_pow_right (by decide) h2
  exact Nat.lt_of_lt_of_le h1 h3
theorem Num_get (s : ByteArray) (j : Nat) (h : j < s.size) : s.data.toList[j]'(by simpa using h) = s[j]'h := rfl

set_option maxHeartbeats 1000000 in
theorem spec_prs_main (s : ByteArray) (w : World) (hd : digs s = true) (h540 : s.size ≤ 540) (hz : s.size ≤ 1 ∨ ¬ s.data.toList.getD 0 0 = 48) :
    Calls Tryz.prog 93 #[.string s] w (PairN w.heap.size (nd (Num.val s.data.toList)) true w) := by
  obtain ⟨hdig, hpos⟩ := digs_isdig hd
  have HD := Lib.hid hdig
  have HLN := Lib.hid (fun k hk => val_ln hdig (k := k) hk)
  have H1 := spec_digits s w (by simp only [maxLen]; omega)
  rw [hd] at H1
  have hz' : ¬ 1 < s.size ∨ ¬ ((s[0]'hpos).toNat : Int) = 48 := by
    rcases hz with h | h
    · exact .inl (by omega)
    · right
      intro e
      apply h
      rw [getD0 hpos]
      exact UInt8.toNat_inj.1 (by rw [show (s[0]'hpos).toNat = 48 by omega]; rfl)
  have hstart : (w.alloc (.cells #[] 3)).ownsRow w.heap.size 3 1 (.slice (some ⟨w.heap.size, 0, none⟩) 0 0) 0 (vi (row 0 ((Num.val s.data.toList : Nat) : Int))) := World.ownsRow_made w #[] 0 (by omega) (by simp [maxLen]) rfl
  clear hd hz hdig
  by_cases h1 : 1 < s.size
  · have hq : ((((s[0]'hpos).toNat : Nat) : Int) == 48) = false := by
      rw [beq_eq_false_iff_ne]
      rcases hz' with h | h
      · exact absurd h1 h
      · exact h
    clear hz'
    go_enter Tryz.func93, Tryz.ntmps93
    go_wp2_with fail
    refine H1.mono ?_
    rintro e w1 ⟨rfl, rfl⟩
    go_wp2_with fail
    go_loopw [4, 5] (fun v i w' => ∃ (k : Nat) (x : Int), k ≤ 60 ∧ 9 * k ≤ s.size + 8 ∧ i = .int .i64 x ∧ x = (s.size : Int) - 9 * (k : Int) ∧ w'.ownsRow w.heap.size 3 1 v k (vi (row k ((Num.val s.data.toList : Nat) : Int))) ∧ Below w.heap.size w w') (fun _ i _ => (intOf i).toNat)
    case atStart => exact ⟨0, _, Nat.zero_le _, by omega, rfl, by omega, hstart, (Below.refl _ _).alloc (Nat.le_refl _) _⟩
    case round =>
      clear hstart
      obtain ⟨k, x, hk60, hk8, rfl, hx, hown, hb⟩ := hrel
      by_cases hxp : 0 < x
      · have hk59 : k < 60 := by omega
        by_cases h9 : x < 9
        · obtain ⟨p, rfl⟩ : ∃ p : Nat, x = (p : Int) := ⟨x.toNat, by omega⟩
          have hpk : Hid (p = s.size - 9 * k) := Lib.hid (by omega)
          have hps : p ≤ s.size := by omega
          have hk9 : 9 * k ≤ s.size := by omega
          have h9' : p < 9 := by omega
          have hlo : (p : Int) - 9 < 0 := by omega
          clear hx h9
          go_wp2_with fail
          go_loopw [7, 8] (fun q i w' => ∃ (j : Nat) (y : Int), 0 ≤ j ∧ j ≤ p ∧ i = .int .i64 (j : Int) ∧ q = .int .i64 y ∧ y = (Num.val (mid s.data.toList (0) j) : Int) ∧ wr = w') (fun _ i _ => p - (intOf i).toNat)
          case atStart => exact ⟨0, 0, Nat.le_refl _, by omega, rfl, rfl, by rw [mid_nil]; rfl, rfl⟩
          case round =>
            obtain ⟨j, y, hj0, hj1, rfl, rfl, hy, rfl⟩ := hrel
            by_cases hjl : j < p
            · have hlt : j < s.size := by omega
              have hjp : (j : Int) < (p : Int) := by omega
              have hdd : 48 ≤ (s[j]'hlt).toNat ∧ (s[j]'hlt).toNat ≤ 57 := HD.out (s[j]'hlt) (by rw [← Num_get s j hlt]; exact List.getElem_mem _)
              have hb9 := mid_lt HD.out (lo := 0) (j := j) (by omega) (.inl trivial)
              have hst := Lib.hid (mid_succ (l := s.data.toList) (lo := 0) (j := j) hj0 (by rw [size_list]; exact hlt))
              rw [Num_get s j hlt] at hst
              obtain ⟨hd1, hd2⟩ := hdd
              have hy0 : 0 ≤ y := by omega
              have hy1 : y < 1000000000 := by omega
              have HY := Lib.hid hy
              clear hy hb9
              have hi0 : (0 : Int) ≤ (j : Int) := by omega
              have hi1 : (j : Int) < (s.size : Int) := by omega
              go_wp2
              go_roundw
              case rel => exact ⟨j + 1, _, by omega, by omega, by go_num, rfl, by rw [hst.out, HY.out]; omega, by first | rfl | trivial⟩
              case measure => simp [intOf] <;> omega
            · have hjp : ¬ (j : Int) < (p : Int) := by omega
              have hdk : Hid (dgt (Num.val s.data.toList : Int) k = y) := by
                refine Lib.hid ?_
                rw [grp_dgt HD.out (by rw [size_list]; omega), hy, size_list, ← hpk.out]
                have e1 : j = p := by omega
                have e2 : p - 9 = 0 := by omega
                unfold grp mid
                rw [e2, e1]
              clear hy hjl hj1
              go_wp2_with (at_builtin; refine append_int rfl (.tmp 52) (.tmp 54) rfl w.heap.size _ _ (row k ((Num.val s.data.toList : Nat) : Int)) y wr rfl rfl hown (by omega) hb.size ?_; intro v' w1 hown1 hbb hs1)
              go_roundw
              case rel => exact ⟨k + 1, _, by omega, by have := hpk.out; omega, rfl, by have := hpk.out; omega, by rw [row_succ, hdk.out]; exact hown1, hb.trans hbb⟩
              case measure => simp [intOf] <;> omega
        · obtain ⟨lo, rfl⟩ : ∃ lo : Nat, x = (lo : Int) + 9 := ⟨(x - 9).toNat, by omega⟩
          have hpk : Hid (lo + 9 = s.size - 9 * k) := Lib.hid (by omega)
          have hps : lo + 9 ≤ s.size := by omega
          have hk9 : 9 * k ≤ s.size := by omega
          clear hx h9
          go_wp2_with fail
          go_loopw [7, 8] (fun q i w' => ∃ (j : Nat) (y : Int), lo ≤ j ∧ j ≤ (lo + 9) ∧ i = .int .i64 (j : Int) ∧ q = .int .i64 y ∧ y = (Num.val (mid s.data.toList (lo) j) : Int) ∧ wr = w') (fun _ i _ => (lo + 9) - (intOf i).toNat)
          case atStart => exact ⟨lo, 0, Nat.le_refl _, by omega, rfl, rfl, by rw [mid_nil]; rfl, rfl⟩
          case round =>
            obtain ⟨j, y, hj0, hj1, rfl, rfl, hy, rfl⟩ := hrel
            by_cases hjl : j < (lo + 9)
            · have hlt : j < s.size := by omega
              have hjp : (j : Int) < (lo : Int) + 9 := by omega
              have hdd : 48 ≤ (s[j]'hlt).toNat ∧ (s[j]'hlt).toNat ≤ 57 := HD.out (s[j]'hlt) (by rw [← Num_get s j hlt]; exact List.getElem_mem _)
              have hb9 := mid_lt HD.out (lo := lo) (j := j) (by omega) (.inl trivial)
              have hst := Lib.hid (mid_succ (l := s.data.toList) (lo := lo) (j := j) hj0 (by rw [size_list]; exact hlt))
              rw [Num_get s j hlt] at hst
              obtain ⟨hd1, hd2⟩ := hdd
              have hy0 : 0 ≤ y := by omega
              have hy1 : y < 1000000000 := by omega
              have HY := Lib.hid hy
              clear hy hb9
              have hi0 : (0 : Int) ≤ (j : Int) := by omega
              have hi1 : (j : Int) < (s.size : Int) := by omega
              go_wp2
              go_roundw
              case rel => exact ⟨j + 1, _, by omega, by omega, by go_num, rfl, by rw [hst.out, HY.out]; omega, by first | rfl | trivial⟩
              case measure => simp [intOf] <;> omega
            · have hjp : ¬ (j : Int) < (lo : Int) + 9 := by omega
              have hdk : Hid (dgt (Num.val s.data.toList : Int) k = y) := by
                refine Lib.hid ?_
                rw [grp_dgt HD.out (by rw [size_list]; omega), hy, size_list, ← hpk.out]
                have e1 : j = (lo + 9) := by omega
                have e2 : (lo + 9) - 9 = lo := by omega
                unfold grp mid
                rw [e2, e1]
              clear hy hjl hj1
              go_wp2_with (at_builtin; refine append_int rfl (.tmp 52) (.tmp 54) rfl w.heap.size _ _ (row k ((Num.val s.data.toList : Nat) : Int)) y wr rfl rfl hown (by omega) hb.size ?_; intro v' w1 hown1 hbb hs1)
              go_roundw
              case rel => exact ⟨k + 1, _, by omega, by have := hpk.out; omega, rfl, by have := hpk.out; omega, by rw [row_succ, hdk.out]; exact hown1, hb.trans hbb⟩
              case measure => simp [intOf] <;> omega
      · have hk1 : 1 ≤ k := by omega
        have hL := Lib.hid (HLN.out k (by rw [size_list]; omega))
        clear hx
        obtain ⟨A', c', hv, hc', hm', hl'⟩ := own_len hown
        have ho := OwnS.of_own (A := A') (n := k) (c := c') (by rw [← hv]; exact hown)
        subst hv
        clear hown
        go_wp2_with fail
        refine (trim_any w.heap.size k c' (Num.val s.data.toList) A' wr ho hL.out hc' (by omega)).mono ?_
        intro e w3 hm
        obtain ⟨A2, c2, rfl, hc2, ho2, hb2⟩ := hm
        go_wp2_with fail
        go_ret2
        exact ⟨A2, c2, rfl, hc2, ho2, bt hb hb2⟩
  · clear hz'
    go_enter Tryz.func93, Tryz.ntmps93
    go_wp2_with fail
    refine H1.mono ?_
    rintro e w1 ⟨rfl, rfl⟩
    go_wp2_with fail
    go_loopw [4, 5] (fun v i w' => ∃ (k : Nat) (x : Int), k ≤ 60 ∧ 9 * k ≤ s.size + 8 ∧ i = .int .i64 x ∧ x = (s.size : Int) - 9 * (k : Int) ∧ w'.ownsRow w.heap.size 3 1 v k (vi (row k ((Num.val s.data.toList : Nat) : Int))) ∧ Below w.heap.size w w') (fun _ i _ => (intOf i).toNat)
    case atStart => exact ⟨0, _, Nat.zero_le _, by omega, rfl, by omega, hstart, (Below.refl _ _).alloc (Nat.le_refl _) _⟩
    case round =>
      clear hstart
      obtain ⟨k, x, hk60, hk8, rfl, hx, hown, hb⟩ := hrel
      by_cases hxp : 0 < x
      · have hk59 : k < 60 := by omega
        by_cases h9 : x < 9
        · obtain ⟨p, rfl⟩ : ∃ p : Nat, x = (p : Int) := ⟨x.toNat, by omega⟩
          have hpk : Hid (p = s.size - 9 * k) := Lib.hid (by omega)
          have hps : p ≤ s.size := by omega
          have hk9 : 9 * k ≤ s.size := by omega
          have h9' : p < 9 := by omega
          have hlo : (p : Int) - 9 < 0 := by omega
          clear hx h9
          go_wp2_with fail
          go_loopw [7, 8] (fun q i w' => ∃ (j : Nat) (y : Int), 0 ≤ j ∧ j ≤ p ∧ i = .int .i64 (j : Int) ∧ q = .int .i64 y ∧ y = (Num.val (mid s.data.toList (0) j) : Int) ∧ wr = w') (fun _ i _ => p - (intOf i).toNat)
          case atStart => exact ⟨0, 0, Nat.le_refl _, by omega, rfl, rfl, by rw [mid_nil]; rfl, rfl⟩
          case round =>
            obtain ⟨j, y, hj0, hj1, rfl, rfl, hy, rfl⟩ := hrel
            by_cases hjl : j < p
            · have hlt : j < s.size := by omega
              have hjp : (j : Int) < (p : Int) := by omega
              have hdd : 48 ≤ (s[j]'hlt).toNat ∧ (s[j]'hlt).toNat ≤ 57 := HD.out (s[j]'hlt) (by rw [← Num_get s j hlt]; exact List.getElem_mem _)
              have hb9 := mid_lt HD.out (lo := 0) (j := j) (by omega) (.inl trivial)
              have hst := Lib.hid (mid_succ (l := s.data.toList) (lo := 0) (j := j) hj0 (by rw [size_list]; exact hlt))
              rw [Num_get s j hlt] at hst
              obtain ⟨hd1, hd2⟩ := hdd
              have hy0 : 0 ≤ y := by omega
              have hy1 : y < 1000000000 := by omega
              have HY := Lib.hid hy
              clear hy hb9
              have hi0 : (0 : Int) ≤ (j : Int) := by omega
              have hi1 : (j : Int) < (s.size : Int) := by omega
              go_wp2
              go_roundw
              case rel => exact ⟨j + 1, _, by omega, by omega, by go_num, rfl, by rw [hst.out, HY.out]; omega, by first | rfl | trivial⟩
              case measure => simp [intOf] <;> omega
            · have hjp : ¬ (j : Int) < (p : Int) := by omega
              have hdk : Hid (dgt (Num.val s.data.toList : Int) k = y) := by
                refine Lib.hid ?_
                rw [grp_dgt HD.out (by rw [size_list]; omega), hy, size_list, ← hpk.out]
                have e1 : j = p := by omega
                have e2 : p - 9 = 0 := by omega
                unfold grp mid
                rw [e2, e1]
              clear hy hjl hj1
              go_wp2_with (at_builtin; refine append_int rfl (.tmp 52) (.tmp 54) rfl w.heap.size _ _ (row k ((Num.val s.data.toList : Nat) : Int)) y wr rfl rfl hown (by omega) hb.size ?_; intro v' w1 hown1 hbb hs1)
              go_roundw
              case rel => exact ⟨k + 1, _, by omega, by have := hpk.out; omega, rfl, by have := hpk.out; omega, by rw [row_succ, hdk.out]; exact hown1, hb.trans hbb⟩
              case measure => simp [intOf] <;> omega
        · obtain ⟨lo, rfl⟩ : ∃ lo : Nat, x = (lo : Int) + 9 := ⟨(x - 9).toNat, by omega⟩
          have hpk : Hid (lo + 9 = s.size - 9 * k) := Lib.hid (by omega)
          have hps : lo + 9 ≤ s.size := by omega
          have hk9 : 9 * k ≤ s.size := by omega
          clear hx h9
          exact absurd hps (by omega)
      · have hk1 : 1 ≤ k := by omega
        have hL := Lib.hid (HLN.out k (by rw [size_list]; omega))
        clear hx
        obtain ⟨A', c', hv, hc', hm', hl'⟩ := own_len hown
        have ho := OwnS.of_own (A := A') (n := k) (c := c') (by rw [← hv]; exact hown)
        subst hv
        clear hown
        go_wp2_with fail
        refine (trim_any w.heap.size k c' (Num.val s.data.toList) A' wr ho hL.out hc' (by omega)).mono ?_
        intro e w3 hm
        obtain ⟨A2, c2, rfl, hc2, ho2, hb2⟩ := hm
        go_wp2_with fail
        go_ret2
        exact ⟨A2, c2, rfl, hc2, ho2, bt hb hb2⟩
end Go.Proofs.YtkmfbanlkglkmabGreatDoor
