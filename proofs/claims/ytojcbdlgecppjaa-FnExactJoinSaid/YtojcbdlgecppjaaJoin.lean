/-
  'impl.Join' answers as 'spec.Join' does, for every list of strings and every separator.
-/
import Derived.Test.YtojcbdlgecppjaaPad
import Derived.Test.YtojcbdlgecppjaaSplit
namespace Go.Proofs.Ytojcbdlgecppjaa
open Go.ChangeShapes Go.WideShapes Go.ChangeAt Go.RowKit
open Go.ChangeMaps (open_string shut_string)
set_option linter.unusedVariables false
set_option linter.unusedSimpArgs false

/-- The strings' sizes, added up. -/
def total (l : List ByteArray) : Nat := (l.map ByteArray.size).sum
theorem total_take_succ {l : List ByteArray} {k : Nat} (h : k < l.length) : total (l.take (k + 1)) = total (l.take k) + l[k].size := by
  rw [List.take_succ_eq_append_getElem h]
  unfold total
  rw [List.map_append, List.sum_append]
  rfl
theorem total_all (l : List ByteArray) : total (l.take l.length) = total l := by rw [List.take_length]
/-- What the harness' count of a list leaves: where it is not negative, the list is short. -/
def SzPost (l : List ByteArray) (w : World) (e : Ending) (w' : World) : Prop := ∃ r : Int, e = .returned (.int .i64 r) ∧ (0 ≤ r → l.length + total l ≤ 1048576) ∧ -1 ≤ r ∧ r ≤ 1048576 ∧ w = w'

set_option maxHeartbeats 400000 in
theorem szStringS_any (l : List ByteArray) (A : Option Addr) (n c : Nat) (w : World) (hl : l.length = n) (hn : n ≤ 9223372036854775807) (hs : ∀ s ∈ l, s.size ≤ 9223372036854775807) (hA : RdS w A (vs l)) :
    Calls Try.prog 20 #[.slice A n c, .int .i64 1048576] w (SzPost l w) := by
  have HL := Lib.hid hl
  have HS := Lib.hid hs
  clear hl hs
  by_cases hbig : 1048576 < n
  · have h1 : (1048576 : Int) - (n : Int) < 0 := by omega
    have h2 : -9223372036854775808 ≤ (1048576 : Int) - (n : Int) := by omega
    go_enter Try.func20, Try.ntmps20
    go_wp2
    go_ret
    exact ⟨-1, rfl, by omega, by omega, by omega, rfl⟩
  · have h1 : (0 : Int) ≤ (1048576 : Int) - (n : Int) := by omega
    go_enter Try.func20, Try.ntmps20
    go_wp2
    go_loop [1, 5] (fun q i => ∃ (j : Nat) (r : Int), j ≤ n ∧ i = .int .i64 (j : Int) ∧ q = .int .i64 r ∧ 0 ≤ r ∧ r ≤ 1048576 ∧ r + (n : Int) + (total (l.take j) : Int) = 1048576) (fun _ i => n - (intOf i).toNat)
    case atStart => exact ⟨0, _, Nat.zero_le _, rfl, rfl, by omega, by omega, by simp [total]⟩
    case round =>
      obtain ⟨j, r, hj, rfl, rfl, hr0, hr1, hr⟩ := hrel
      have HR := Lib.hid hr
      clear hr
      by_cases hlt : j < n
      · obtain ⟨b1, o1, rfl, hb1, hc1⟩ := hA.block (by rw [vs_length, HL.out]; omega)
        have e1 := hc1 j (by rw [vs_length, HL.out]; exact hlt)
        have hjl : j < l.length := by rw [HL.out]; exact hlt
        rw [vs_get hjl] at e1
        have hsz := HS.out l[j] (List.getElem_mem hjl)
        have ht := Lib.hid (total_take_succ hjl)
        generalize hsx : l[j] = s at e1 hsz ht
        clear hsx hjl hc1
        have hi0 : (0 : Int) ≤ (j : Int) := by omega
        have hi1 : (j : Int) < (n : Int) := by omega
        have hr2 : -9223372036854775808 ≤ r - (s.size : Int) := by omega
        by_cases hlow : r - (s.size : Int) < 0
        · go_wp2
          go_ret
          exact ⟨-1, rfl, by omega, by omega, by omega, rfl⟩
        · have hlow' : 0 ≤ r - (s.size : Int) := by omega
          go_wp2
          go_round
          case rel =>
            refine ⟨j + 1, _, by omega, by go_num, rfl, by omega, by omega, ?_⟩
            have h1 := HR.out
            have h2 := ht.out
            omega
          case measure => simp [intOf]; omega
      · obtain rfl : j = n := by omega
        go_wp2
        go_ret
        refine ⟨r, rfl, fun _ => ?_, by omega, by omega, rfl⟩
        have h1 := HR.out
        have h2 := total_all l
        rw [HL.out] at h2 ⊢
        omega

set_option maxHeartbeats 400000 in
theorem toStringS_any (l : List ByteArray) (A : Option Addr) (n c : Nat) (w : World) (hl : l.length = n) (hn : n ≤ 1048576) (hA : RdS w A (vs l)) :
    Calls Try.prog 22 #[.slice A n c] w fun e w' => ∃ g, e = .returned (.slice (some ⟨g, 0, none⟩) n n) ∧ OwnS w.heap.size w' (some ⟨g, 0, none⟩) (vs l) ∧ Below w.heap.size w w' := by
  obtain ⟨i0, hi, hz0, hz1, hz2⟩ := info_parts string_info
  have HL := Lib.hid hl
  clear hl
  go_enter Try.func22, Try.ntmps22
  go_wp2_with (refine wpList_make_full _ rfl (.tmp 6) (.tmp 6) 23 rfl w.heap.size 9 i0 _ 1 Try.underlying23 hi hz0 hz1 .i64 .i64 n n n rfl rfl rfl rfl (by rw [hz2]; omega) (by simp only [maxLen]; omega) (Nat.le_refl _) ?_; intro w1 hown hg)
  have hb1 : Below w.heap.size w w1 := below_of_grown hg (Nat.le_refl _) (fun g h => by cases h)
  have hln : (madeCells (Value.string ⟨#[]⟩).cells (n * 1)).toList.length = n := by rw [Array.length_toList, size_madeCells, Nat.mul_one]
  have hst := Filling.start (OwnS.of_own hown) hln (fun j => .string (l.getD j ⟨#[]⟩))
  clear hown hg hln
  go_wp2
  go_loopw [4] (fun i w' => ∃ j : Nat, j ≤ n ∧ i = .int .i64 (j : Int) ∧ Filling w.heap.size w1 w' (some ⟨w.heap.size, 0, none⟩) n (fun j => .string (l.getD j ⟨#[]⟩)) j) (fun i _ => n - (intOf i).toNat)
  case atStart => exact ⟨0, Nat.zero_le _, rfl, hst⟩
  case round =>
    obtain ⟨j, hj, rfl, hfl⟩ := hrel
    clear hst
    have hbw : Below w.heap.size w wr := hb1.trans (below_of_grown hfl.1 hb1.size (fun g hg => by
      unfold rowOf at hg
      split at hg
      · cases hg
      · simp at hg; omega))
    by_cases hlt : j < n
    · obtain ⟨g, u, hgg, hg, hcu, hfr⟩ := hfl.at_ hlt
      obtain rfl : g = w.heap.size := by injection hgg with e; injection e with e1 _ _; exact e1.symm
      clear hgg
      obtain ⟨b1, o1, rfl, hb1', hc1⟩ := (hA.below hbw).block (by rw [vs_length, HL.out]; omega)
      have e1 := hc1 j (by rw [vs_length, HL.out]; exact hlt)
      have hjl : j < l.length := by rw [HL.out]; exact hlt
      rw [vs_get hjl] at e1
      have hx : Hid (Value.string l[j] = Value.string (l.getD j ⟨#[]⟩)) := Lib.hid (by rw [List.getD_eq_getElem?_getD, List.getElem?_eq_getElem hjl]; rfl)
      generalize hsx : l[j] = s at e1 hx
      clear hsx hjl hc1
      have hi0 : (0 : Int) ≤ (j : Int) := by omega
      have hi1 : (j : Int) < (n : Int) := by omega
      go_wp2
      go_roundw
      case rel => exact ⟨j + 1, by omega, by go_num, hfl.step hlt hx.out⟩
      case measure => simp [intOf]; omega
    · obtain rfl : j = n := by omega
      go_wp2
      go_ret
      refine ⟨_, rfl, ?_, hbw⟩
      have := hfl.done
      have e : (List.range j).map (fun i => Value.string (l.getD i ⟨#[]⟩)) = vs l := by
        apply List.ext_getElem?
        intro i
        rw [List.getElem?_map, ← HL.out]
        rcases Nat.lt_or_ge i l.length with h | h
        · rw [vs_get h, List.getElem?_range h]
          simp [List.getD_eq_getElem?_getD, List.getElem?_eq_getElem h]
        · rw [List.getElem?_eq_none (l := List.range l.length) (by simpa using h), List.getElem?_eq_none (by rw [vs_length]; exact h)]
          rfl
      rw [e] at this
      exact this

/-- The first k strings, joined. -/
def jn (l : List ByteArray) (sep : List UInt8) (k : Nat) : List UInt8 := Lib.join ((l.map (·.data.toList)).take k) sep
theorem jn_zero (l : List ByteArray) (sep : List UInt8) : jn l sep 0 = [] := rfl
theorem jn_succ {l : List ByteArray} {sep : List UInt8} {k : Nat} (h : k < l.length) : jn l sep (k + 1) = (if k = 0 then jn l sep k else jn l sep k ++ sep) ++ l[k].data.toList := by
  unfold jn
  obtain _ | ⟨x, r⟩ := l
  · simp at h
  · rw [List.map_cons]
    obtain _ | k := k
    · simp [Lib.join_one, Lib.join_nil]
    · have hr : (r.map (·.data.toList))[k]? = some (r[k]'(by simpa using h)).data.toList := by
        rw [List.getElem?_map, List.getElem?_eq_getElem (by simpa using h)]; rfl
      rw [List.take_succ_cons, List.take_succ_cons, Lib.join_cons, Lib.join_cons, Lib.joinTail_take_succ sep _ k _ hr, if_neg (by omega)]
      simp
theorem jn_all (l : List ByteArray) (sep : List UInt8) : jn l sep l.length = Lib.join (l.map (·.data.toList)) sep := by
  unfold jn
  rw [List.take_of_length_le (by simp)]
theorem jn_len (l : List ByteArray) (sep : List UInt8) : ∀ k, k ≤ l.length → (jn l sep k).length ≤ total (l.take k) + sep.length * k
  | 0, _ => by rw [jn_zero]; simp
  | k + 1, h => by
    have ih := jn_len l sep k (by omega)
    rw [jn_succ (by omega), total_take_succ (by omega), List.length_append]
    have hs : (l[k]'(by omega)).data.toList.length = (l[k]'(by omega)).size := by simp
    rw [hs, Nat.mul_add, Nat.mul_one]
    split
    · omega
    · rw [List.length_append]; omega
theorem total_take_le (l : List ByteArray) : ∀ k, k ≤ l.length → total (l.take k) ≤ total l
  | k, h => by
    have : l = l.take k ++ l.drop k := (List.take_append_drop k l).symm
    have e : total l = total (l.take k) + total (l.drop k) := by
      unfold total
      rw [← List.sum_append, ← List.map_append, List.take_append_drop]
    omega
theorem jn_bound {l : List ByteArray} {sep : List UInt8} (ht : l.length + total l ≤ 1048576) (hs : sep.length ≤ 1048576) {k : Nat} (hk : k ≤ l.length) : (jn l sep k).length ≤ 2199023255552 := by
  have h1 := jn_len l sep k hk
  have h2 := total_take_le l k hk
  have h3 : sep.length * k ≤ 1048576 * 1048576 := Nat.mul_le_mul hs (by omega)
  omega
theorem app_data (a : List UInt8) (b : ByteArray) : ByteArray.mk a.toArray ++ b = ⟨(a ++ b.data.toList).toArray⟩ := by
  obtain ⟨⟨b⟩⟩ := b
  exact ByteArray.mk_append_mk a b

set_option maxHeartbeats 400000 in
theorem spec_join (l : List ByteArray) (sep : List UInt8) (A : Option Addr) (n c : Nat) (w : World) (hl : l.length = n) (ht : l.length + total l ≤ 1048576) (hs : sep.length ≤ 1048576) (hA : RdS w A (vs l)) :
    Calls Try.prog 21 #[.slice A n c, .string ⟨sep.toArray⟩] w fun e w' => e = .returned (.string ⟨(jn l sep n).toArray⟩) ∧ w = w' := by
  have hn : n ≤ 1048576 := by omega
  have HL := Lib.hid hl
  have HT := Lib.hid ht
  clear hl ht
  go_enter Try.func21, Try.ntmps21
  go_wp2
  go_loop [5, 10] (fun q i => ∃ (j : Nat) (t : List UInt8), j ≤ n ∧ i = .int .i64 (j : Int) ∧ q = .string ⟨t.toArray⟩ ∧ t = jn l sep j) (fun _ i => n - (intOf i).toNat)
  case atStart => exact ⟨0, [], Nat.zero_le _, rfl, rfl, rfl⟩
  case round =>
    obtain ⟨j, t, hj, rfl, rfl, ht0⟩ := hrel
    have hb := jn_bound HT.out hs (k := j) (by rw [HL.out]; exact hj)
    rw [← ht0] at hb
    have Ht := Lib.hid ht0
    clear ht0
    by_cases hlt : j < n
    · obtain ⟨b1, o1, rfl, hb1', hc1⟩ := hA.block (by rw [vs_length, HL.out]; omega)
      have e1 := hc1 j (by rw [vs_length, HL.out]; exact hlt)
      have hjl : j < l.length := by rw [HL.out]; exact hlt
      rw [vs_get hjl] at e1
      have hx := Lib.hid (jn_succ (sep := sep) hjl)
      have hsz : l[j].size ≤ 1048576 := by
        have h1 := total_take_succ hjl
        have h2 := total_take_le l (j + 1) hjl
        have h3 := HT.out
        omega
      generalize hsx : l[j] = s at e1 hx hsz
      clear hsx hjl hc1
      have hi0 : (0 : Int) ≤ (j : Int) := by omega
      have hi1 : (j : Int) < (n : Int) := by omega
      by_cases h0 : 0 < j
      · have hz1 : t.length + sep.length ≤ 9223372036854775807 := by omega
        have hz2 : t.length + sep.length + s.size ≤ 9223372036854775807 := by omega
        go_wp2
        go_round
        case rel =>
          refine ⟨j + 1, (t ++ sep) ++ s.data.toList, by omega, by go_num, ?_, ?_⟩
          · rw [ByteArray.mk_append_mk, app_data]
          · rw [hx.out, if_neg (by omega), Ht.out]
        case measure => simp [intOf]; omega
      · obtain rfl : j = 0 := by omega
        have hz2 : t.length + s.size ≤ 9223372036854775807 := by omega
        rw [Nat.add_zero] at e1
        go_wp2
        go_round
        case rel =>
          refine ⟨1, t ++ s.data.toList, by omega, by go_num, ?_, ?_⟩
          · rw [app_data]
          · rw [show (1 : Nat) = 0 + 1 from rfl, hx.out, if_pos rfl, Ht.out]
        case measure => simp [intOf]; omega
    · obtain rfl : j = n := by omega
      go_wp2
      go_ret
      exact ⟨ret_str Ht.out, rfl⟩

theorem joinParts_any (l : List ByteArray) (sep : List UInt8) (A : Option Addr) (n c : Nat) (w : World) (hl : l.length = n) (hc : n ≤ c) (ht : l.length + total l ≤ 1048576) (hs : sep.length ≤ 1048576) (hA : RdS w A (vs l)) :
    Calls Try.prog 30 #[.string ⟨sep.toArray⟩, .slice A n c] w fun e w' => e = .returned (.string ⟨(jn l sep n).toArray⟩) ∧ Below w.heap.size w w' := by
  have hj : Lib.join (l.map (·.data.toList)) (ByteArray.mk sep.toArray).data.toList = jn l sep n := by rw [← hl, jn_all]
  have hb := jn_bound ht hs (k := l.length) (Nat.le_refl _)
  rw [hl] at hb
  have H : Hid (Calls Try.prog 32 #[.slice A n c, .string ⟨sep.toArray⟩] w fun e w' => e = .returned (.string ⟨(jn l sep n).toArray⟩) ∧ Below w.heap.size w w') := by
    rcases Nat.eq_zero_or_pos n with h0 | h0
    · subst h0
      exact (Try.strings_Join_none A c ⟨sep.toArray⟩ w).mono fun e w' ⟨he, hw⟩ => ⟨by rw [he, jn_zero], by rw [hw]; exact Below.refl _ _⟩
    · obtain ⟨bk, o, rfl, hbk, hcell⟩ := hA.block (by rw [vs_length]; omega)
      have hS := Try.strings_Join bk o c l ⟨sep.toArray⟩ w (fun j x hx => by
        have hjl := (List.getElem?_eq_some_iff.1 hx).1
        rw [hcell j (by rw [vs_length]; exact hjl), vs_get hjl, (List.getElem?_eq_some_iff.1 hx).2]) hbk (by omega) (by omega) (by rw [hj]; omega)
      rw [hj, hl] at hS
      exact hS
  clear hj hb ht hA
  go_enter Try.func30, Try.ntmps30
  go_wp2_with fail
  refine (Hid.out H).mono ?_
  rintro e w1 ⟨rfl, hb⟩
  go_wp2
  go_ret
  exact ⟨rfl, hb⟩
theorem impl_join (l : List ByteArray) (sep : List UInt8) (A : Option Addr) (n c : Nat) (w : World) (hl : l.length = n) (hc : n ≤ c) (ht : l.length + total l ≤ 1048576) (hs : sep.length ≤ 1048576) (hA : RdS w A (vs l)) :
    Calls Try.prog 23 #[.slice A n c, .string ⟨sep.toArray⟩] w fun e w' => e = .returned (.string ⟨(jn l sep n).toArray⟩) ∧ Below w.heap.size w w' := by
  have H := Lib.hid (joinParts_any l sep A n c w hl hc ht hs hA)
  clear hl hc ht hA
  go_enter Try.func23, Try.ntmps23
  go_wp2_with fail
  refine (Hid.out H).mono ?_
  rintro e w1 ⟨rfl, hb⟩
  go_wp2
  go_ret
  exact ⟨rfl, hb⟩

set_option maxHeartbeats 800000 in
theorem law_join (l : List ByteArray) (y : ByteArray) (A : Option Addr) (n c : Nat) (w : World) (hl : l.length = n) (hn : n ≤ 9223372036854775807) (hs : ∀ s ∈ l, s.size ≤ 9223372036854775807) (hA : RdS w A (vs l)) (hy : y.size ≤ maxLen) :
    Calls Try.prog 7 #[.slice A n c, .string y] w fun e w' => e = .returned (.bool true) ∧ Below w.heap.size w w' := by
  unfold maxLen at hy
  obtain ⟨⟨sep⟩⟩ := y
  have hsz : (ByteArray.mk sep.toArray).size = sep.length := by simp [ByteArray.size]
  have hy' : sep.length ≤ 9223372036854775807 := by
    have : (ByteArray.mk sep.toArray).size ≤ 2 ^ 63 - 1 := hy
    rw [hsz] at this
    omega
  clear hsz hy
  show Calls Try.prog 7 #[.slice A n c, .string ⟨sep.toArray⟩] w _
  have H1 := Lib.hid (szStringS_any l A n c w hl hn hs hA)
  have HL := Lib.hid hl
  clear hl hs
  by_cases hg : sep.length ≤ 1048576
  · go_enter Try.func7, Try.ntmps7
    go_wp2_with fail
    refine (Hid.out H1).mono ?_
    rintro e w0 ⟨r, rfl, ht0, hr1, hr2, rfl⟩
    have HT := Lib.hid ht0
    clear ht0 H1
    by_cases hr : r < 0
    · go_wp2
      go_ret
      exact ⟨rfl, Below.refl _ _⟩
    · have hr0 : 0 ≤ r := by omega
      have ht : l.length + total l ≤ 1048576 := HT.out hr0
      have hn' : n ≤ 1048576 := by have := HL.out; omega
      have H2 : Hid (∀ W, RdS W A (vs l) → Calls Try.prog 22 #[.slice A n c] W fun e w' => ∃ g, e = .returned (.slice (some ⟨g, 0, none⟩) n n) ∧ OwnS W.heap.size w' (some ⟨g, 0, none⟩) (vs l) ∧ Below W.heap.size W w') := Lib.hid (fun W h => toStringS_any l A n c W HL.out hn' h)
      have H3 := Lib.hid (fun g W h => spec_join l sep (some ⟨g, 0, none⟩) n n W HL.out ht hg h)
      have H4 := Lib.hid (fun g W h => impl_join l sep (some ⟨g, 0, none⟩) n n W HL.out (Nat.le_refl _) ht hg h)
      have H5 := Lib.hid (fun g g' W h h' => eqStringS_any l l (some ⟨g, 0, none⟩) (some ⟨g', 0, none⟩) n n n n W HL.out HL.out (by omega) (by omega) h h')
      clear HT ht
      generalize jn l sep n = J at H3 H4
      go_wp2_with fail
      refine (H2.out _ hA).mono ?_
      rintro e w1 ⟨g1, rfl, own1, hb1⟩
      go_wp2_with fail
      refine (H3.out _ _ own1.rd).mono ?_
      rintro e w1' ⟨rfl, rfl⟩
      go_wp2_with fail
      refine (H2.out _ (hA.below hb1)).mono ?_
      rintro e w2 ⟨g2, rfl, own2, hb2⟩
      go_wp2_with fail
      refine (H4.out _ _ own2.rd).mono ?_
      rintro e w3 ⟨rfl, hb3⟩
      go_wp2_with fail
      refine (H2.out _ (((hA.below hb1).below hb2).below hb3)).mono ?_
      rintro e w4 ⟨g4, rfl, own4, hb4⟩
      go_wp2_with fail
      refine (H5.out _ _ _ ((own2.below hb3).below hb4).rd own4.rd).mono ?_
      rintro e w5 ⟨rfl, hb5⟩
      go_wp2
      go_ret
      have s1 := hb1.size
      have s2 := hb2.size
      have s3 := hb3.size
      have s4 := hb4.size
      exact ⟨rfl, hb1.trans ((hb2.trans ((hb3.trans ((hb4.trans (hb5.mono s4)).mono s3)).mono s2)).mono s1)⟩
  · go_enter Try.func7, Try.ntmps7
    go_wp2
    go_ret
    exact ⟨rfl, Below.refl _ _⟩
end Go.Proofs.Ytojcbdlgecppjaa
