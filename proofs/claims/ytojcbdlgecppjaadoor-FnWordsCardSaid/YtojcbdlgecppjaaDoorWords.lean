/-
  'FnWords': the number drawn is read back from its text, and the text drawn is joined again from its parts.
-/
import Derived.Test.YtojcbdlgecppjaaDoorDraw
import Derived.Test.YtojcbdlgecppjaaDoorParse
import Derived.Test.YtojcbdlgecppjaaDoorNamImpl
import Derived.Test.YtojcbdlgecppjaaDoorLinesImpl
import Derived.Test.YtojcbdlgecppjaaDoorJoinImpl
import Derived.Lib.ItoaLen
namespace Go.Proofs.YtojcbdlgecppjaaDoor
open Go.ChangeShapes Go.WideShapes Go.ChangeAt Go.RowKit
open Go.ChangeMaps (open_string shut_string)
set_option linter.unusedVariables false
set_option linter.unusedSimpArgs false

theorem CurAt.alloc {w : World} {g : Nat} {A : Option Addr} {n c : Nat} (h : CurAt w g A n c) (o : Obj) : CurAt (w.alloc o) g A n c := by
  obtain ⟨i, hh, hi, hb, hr⟩ := h
  have hg : g < w.heap.size := (Array.getElem?_eq_some_iff.1 hb).1
  refine ⟨i, hh, hi, by rw [Below.heap_alloc w o g hg]; exact hb, ?_⟩
  rcases hr with h0 | ⟨b, off, ha, hbg, hblt, hcs⟩
  · exact .inl h0
  · refine .inr ⟨b, off, ha, hbg, by simp; omega, fun j hj => ?_⟩
    obtain ⟨u, hu, hcu⟩ := hcs j hj
    exact ⟨u, hu, by rw [World.cell?_alloc_lt w _ ⟨b, off + j, none⟩ hblt]; exact hcu⟩
theorem five_new (w : World) : Five (w.alloc (.cells #[.string ⟨#[97]⟩, .string ⟨#[98, 99]⟩, .string ⟨#[32]⟩, .string ⟨#[44]⟩, .string ⟨#[120, 49]⟩] 9)) w.heap.size := by
  refine ⟨by simp, fun j hj => ?_⟩
  rw [World.cell?_alloc_new]
  match j, hj with
  | 0, _ => exact ⟨_, by decide, rfl⟩
  | 1, _ => exact ⟨_, by decide, rfl⟩
  | 2, _ => exact ⟨_, by decide, rfl⟩
  | 3, _ => exact ⟨_, by decide, rfl⟩
  | 4, _ => exact ⟨_, by decide, rfl⟩

def TextPost (w : World) (e : Ending) (w' : World) : Prop := ∃ s : ByteArray, s.size ≤ 14 ∧ e = .returned (.string s) ∧ Below w.heap.size w w'
set_option maxHeartbeats 800000 in
theorem makeText_any (A : Option Addr) (n c : Nat) (w : World) (hn : n ≤ 1048576) (hA : RdB w A n w.heap.size) :
    Calls Tryd.prog 9 #[.slice A n c] w (TextPost w) := by
  have H := Lib.hid (new_any A n c w hn hA)
  clear hA
  go_enter Tryd.func9, Tryd.ntmps9
  go_wp2_with fail
  refine (Hid.out H).mono ?_
  rintro e w1 ⟨rfl, hc1, hb1, _⟩
  go_wp2_with fail
  refine (below_any 8 _ A n c _ (by omega) (by omega) hn hc1).mono ?_
  rintro e w2 ⟨x, hx0, hx1, rfl, hc2, hg2⟩
  have hb2 := below_own hb1 hg2 (Nat.le_refl _)
  obtain ⟨k, rfl⟩ := Int.eq_ofNat_of_zero_le hx0
  clear hc1 hb1 hg2 H
  go_wp2_with fail
  go_loopw [4, 5] (fun q i w' => ∃ (m : Nat) (s : ByteArray), m ≤ 7 ∧ i = .int .i64 (m : Int) ∧ q = .string s ∧ s.size + 2 * m ≤ 14 ∧ CurAt w' w.heap.size A n c ∧ Below w.heap.size w w') (fun _ i _ => (intOf i).toNat)
  case atStart => exact ⟨k, ⟨#[]⟩, by omega, rfl, rfl, by show (0 : Nat) + 2 * k ≤ 14; omega, hc2, hb2⟩
  case round =>
    clear hc2 hb2
    obtain ⟨m, s, hm, rfl, rfl, hsz, hc, hb⟩ := hrel
    by_cases hlt : 0 < m
    · have hlt' : (0 : Int) < (m : Int) := by omega
      have hgs : w.heap.size < wr.heap.size := by
        obtain ⟨_, _, _, hbb, _⟩ := hc
        exact (Array.getElem?_eq_some_iff.1 hbb).1
      go_wp2_with fail
      refine (str_any w.heap.size wr.heap.size A n c 5 _ hn (hc.alloc _) (five_new wr) (by omega)).mono ?_
      rintro e w3 ⟨t, ht, rfl, hc3, hg3⟩
      have hb3 : Below w.heap.size w w3 := below_own (hb.alloc hb.size _) hg3 (Nat.le_refl _)
      have h1 : s.size + t.size ≤ 9223372036854775807 := by omega
      go_wp2_with fail
      go_roundw
      case rel => exact ⟨m - 1, s ++ t, by omega, by go_num, rfl, by rw [ByteArray.size_append]; omega, hc3, hb3⟩
      case measure => simp [intOf]; omega
    · obtain rfl : m = 0 := by omega
      go_wp2_with fail
      go_ret
      exact ⟨s, by omega, rfl, hb⟩

/-! Joining what was split. -/
theorem join_snoc {L : List (List UInt8)} (hL : L ≠ []) (x sep : List UInt8) : Lib.join (L ++ [x]) sep = Lib.join L sep ++ sep ++ x := by
  cases L with
  | nil => exact absurd rfl hL
  | cons a r =>
    rw [List.cons_append, Lib.join_cons, Lib.join_cons]
    simp [Lib.joinTail, List.append_assoc]
theorem join_more (L : List (List UInt8)) (x z sep : List UInt8) : Lib.join (L ++ [x ++ z]) sep = Lib.join (L ++ [x]) sep ++ z := by
  cases L with
  | nil => simp [Lib.join_one]
  | cons a r =>
    rw [join_snoc (by simp), join_snoc (by simp)]
    simp [List.append_assoc]
theorem extract_list (s : ByteArray) (a b : Nat) : (s.extract a b).data.toList = (s.data.toList.take b).drop a := by
  simp [ByteArray.data_extract, List.extract_eq_take_drop, List.drop_take]
theorem split_join (s : ByteArray) (c : UInt8) : ∀ k, k ≤ s.size → Lib.join ((pts s ⟨#[c]⟩ k ++ [s.extract (frm s ⟨#[c]⟩ k) k]).map (·.data.toList)) [c] = s.data.toList.take k
  | 0, _ => by
    show Lib.join [(s.extract 0 0).data.toList] [c] = _
    rw [Lib.join_one, extract_list]; simp
  | k + 1, h => by
    have ih := split_join s c k (by omega)
    have hk : k < s.data.toList.length := by
      have : s.data.toList.length = s.size := by simp
      omega
    have hf := frm_le s ⟨#[c]⟩ k
    rw [List.map_append] at ih ⊢
    by_cases hs : sepAt s ⟨#[c]⟩ k = true
    · have hc : s.data.toList[k] = c := by
        have h1 := hs
        unfold sepAt at h1
        rw [getD_byte (by omega)] at h1
        have : s[k]'(by omega) = c := by simpa using h1
        exact this
      rw [pts_yes hs, frm_yes hs, List.map_append]
      rw [show ([s.extract (k + 1) (k + 1)].map (·.data.toList)) = [[]] from by simp [extract_list]]
      rw [join_snoc (by simp)]
      rw [ih, List.take_succ_eq_append_getElem hk, hc]
      simp
    · have hs' : sepAt s ⟨#[c]⟩ k = false := by simpa using hs
      rw [pts_no hs', frm_no hs']
      have e : ([s.extract (frm s ⟨#[c]⟩ k) (k + 1)].map (·.data.toList)) = [(s.extract (frm s ⟨#[c]⟩ k) k).data.toList ++ [s.data.toList[k]]] := by
        rw [List.map_cons, List.map_nil, extract_list, extract_list, List.take_succ_eq_append_getElem hk, List.drop_append_of_le_length (by simp; omega)]
      rw [e, join_more]
      have e2 : ([s.extract (frm s ⟨#[c]⟩ k) k].map (·.data.toList)) = [(s.extract (frm s ⟨#[c]⟩ k) k).data.toList] := rfl
      rw [e2] at ih
      rw [ih, List.take_succ_eq_append_getElem hk]
theorem splits_join (s : ByteArray) (c : UInt8) : jn (splits s ⟨#[c]⟩) [c] (splits s ⟨#[c]⟩).length = s.data.toList := by
  rw [jn_all]
  have h := split_join s c s.size (Nat.le_refl _)
  unfold splits
  rw [h, List.take_of_length_le (by simp)]
theorem sizes_le (s y : ByteArray) : ∀ k, ∀ t ∈ pts s y k ++ [s.extract (frm s y s.size) s.size], t.size ≤ s.size
  | 0, t, ht => by
    obtain rfl : t = s.extract (frm s y s.size) s.size := by simpa [pts] using ht
    simp
  | k + 1, t, ht => by
    have ih := sizes_le s y k
    rw [List.mem_append] at ht
    rcases ht with ht | ht
    · unfold pts at ht
      split at ht
      · rw [List.mem_append] at ht
        rcases ht with ht | ht
        · exact ih t (List.mem_append_left _ ht)
        · obtain rfl : t = s.extract (frm s y k) k := by simpa using ht
          simp
          omega
      · exact ih t (List.mem_append_left _ ht)
    · exact ih t (List.mem_append_right _ ht)
theorem total_le (l : List ByteArray) (B : Nat) (h : ∀ t ∈ l, t.size ≤ B) : total l ≤ l.length * B := by
  induction l with
  | nil => simp [total]
  | cons a r ih =>
    have h1 := ih (fun t ht => h t (by simp [ht]))
    have h2 := h a (by simp)
    unfold total at h1 ⊢
    rw [List.map_cons, List.sum_cons, List.length_cons, Nat.succ_mul]
    omega
theorem splits_short (s y : ByteArray) (h : s.size ≤ 14) : (splits s y).length + total (splits s y) ≤ 1048576 := by
  have h1 := (splits_length s y).2
  rw [vs_length] at h1
  have h2 := total_le (splits s y) 14 (fun t ht => Nat.le_trans (sizes_le s y s.size t ht) h)
  omega
theorem nams_x1 : nams ⟨#[120, 49]⟩ = true := by
  refine nams_true (by decide) (by decide) (fun j hj => ?_)
  have hj2 : j < 2 := hj
  match j, hj2 with
  | 0, _ => exact ⟨by decide, .inl ⟨by decide, by decide⟩⟩
  | 1, _ => exact ⟨by decide, .inr ⟨by omega, by decide, by decide⟩⟩
theorem lines_two : (vs (lines ⟨#[97, 10, 98, 10]⟩)).length = 2 := by
  rw [vs_length]
  have h0 : ¬ 0 < (lastPart ⟨#[97, 10, 98, 10]⟩).size := by decide +kernel
  rw [lines_no h0]
  decide +kernel

theorem RdB.later {w w' : World} {A : Option Addr} {n : Nat} (h : RdB w A n w.heap.size) (hb : Below w.heap.size w w') : RdB w' A n w'.heap.size := by
  have hs := hb.size
  rcases h with h0 | ⟨b, off, ha, hbg, hblt, hcs⟩
  · exact .inl h0
  · refine .inr ⟨b, off, ha, by omega, by omega, fun j hj => ?_⟩
    obtain ⟨u, hu, hcu⟩ := hcs j hj
    exact ⟨u, hu, by rw [hb.cell (p := ⟨b, off + j, none⟩) hblt]; exact hcu⟩

set_option maxHeartbeats 1600000 in
theorem law_words (A : Option Addr) (n c : Nat) (w : World) (hn : n ≤ 9223372036854775807) (hA : RdB w A n w.heap.size) (hL : Laid w) :
    Calls Tryd.prog 3 #[.slice A n c] w fun e w' => e = .returned (.bool true) ∧ Below w.heap.size w w' := by
  have HL := Lib.hid hL
  have HA := Lib.hid hA
  clear hL hA
  by_cases hg : n ≤ 1048576
  · have hnb : (n : Int) ≤ 1048576 := by omega
    have H1 := Lib.hid (makeNum_any A n c w hg HA.out)
    go_enter Tryd.func3, Tryd.ntmps3
    go_wp2_with fail
    refine (Hid.out H1).mono ?_
    rintro e w1 ⟨x, hx0, hx1, rfl, hb1⟩
    clear H1
    have h1 : -9223372036854775808 ≤ x - 30000 := by omega
    have h2 : x - 30000 ≤ 9223372036854775807 := by omega
    go_wp2_with fail
    refine (impl_fmt _ _ h1 h2 (HL.out.below hb1).1).mono ?_
    rintro e w2 ⟨rfl, hb2⟩
    have hl := Lib.itoa_length_le _ h1 h2
    have hp := Num.parsed_yes h1 h2
    have H2 : Hid (Calls Tryd.prog 7 #[.string ⟨(Lib.itoa (x - 30000)).toArray⟩] w2 fun e w' => e = .returned (.tuple #[.int .i64 (x - 30000), .bool true]) ∧ Below w2.heap.size w2 w') := Lib.hid ((impl_parse ⟨(Lib.itoa (x - 30000)).toArray⟩ w2 (by simp [ByteArray.size]; omega) ((HL.out.below hb1).below (hb2.mono (Nat.le_refl _)))).mono fun e w' ⟨v, b, hq, he, hb⟩ => by
      have hq' : Num.parsed (Lib.itoa (x - 30000)) = (v, b) := hq
      rw [hp] at hq'
      injection hq' with e1 e2
      subst e1
      subst e2
      exact ⟨he, hb⟩)
    clear hp hl
    generalize Lib.itoa (x - 30000) = L at H2
    go_wp2_with fail
    refine (Hid.out H2).mono ?_
    rintro e w3 ⟨rfl, hb3⟩
    clear H2
    have hb03 : Below w.heap.size w w3 := hb1.trans ((hb2.trans (hb3.mono hb2.size)).mono hb1.size)
    go_wp2_with fail
    refine (makeText_any A n c _ hg (HA.out.later hb03)).mono ?_
    rintro e w4 ⟨s, hs, rfl, hb4⟩
    have hb04 : Below w.heap.size w w4 := hb03.trans (hb4.mono hb03.size)
    have HS := Lib.hid (fun W => impl_split s ⟨#[32]⟩ W (by omega) (by decide))
    have HJ : Hid (∀ A c W, RdS W A (vs (splits s ⟨#[32]⟩)) → (vs (splits s ⟨#[32]⟩)).length ≤ c → Calls Tryd.prog 10 #[.slice A (vs (splits s ⟨#[32]⟩)).length c, .string ⟨#[32]⟩] W fun e w' => e = .returned (.string s) ∧ Below W.heap.size W w') := Lib.hid (fun A c W hr hc =>
      (impl_join (splits s ⟨#[32]⟩) [32] A _ c W (vs_length _).symm hc (splits_short s _ hs) (by decide) hr).mono fun e w' ⟨he, hb⟩ => ⟨by rw [he, vs_length, splits_join, ← ba_list], hb⟩)
    have HM : Hid (∀ W, Calls Tryd.prog 12 #[.string ⟨#[120, 49]⟩] W fun e w' => e = .returned (.bool true) ∧ Below W.heap.size W w') := Lib.hid (fun W => (impl_name ⟨#[120, 49]⟩ W (by decide)).mono fun e w' ⟨he, hb⟩ => ⟨by rw [he, nams_x1], hb⟩)
    have HT : Hid (∀ W, Calls Tryd.prog 13 #[.string ⟨#[97, 10, 98, 10]⟩] W fun e w' => ∃ A c, e = .returned (.slice A 2 c) ∧ Below W.heap.size W w') := Lib.hid (fun W => (impl_lines ⟨#[97, 10, 98, 10]⟩ W (by decide)).mono fun e w' ⟨A, c, he, _, _, hb⟩ => ⟨A, c, by rw [he, lines_two], hb⟩)
    generalize splits s ⟨#[32]⟩ = l at HS HJ
    clear hb1 hb2 hb3 hb4 hb03
    go_wp2_with fail
    refine (HS.out _).mono ?_
    rintro e w5 ⟨A5, c5, rfl, hc5, own5, hb5⟩
    go_wp2_with fail
    refine (HJ.out _ _ _ own5.rd hc5).mono ?_
    rintro e w6 ⟨rfl, hb6⟩
    go_wp2_with fail
    refine (HM.out _).mono ?_
    rintro e w7 ⟨rfl, hb7⟩
    go_wp2_with fail
    refine (HT.out _).mono ?_
    rintro e w8 ⟨A8, c8, rfl, hb8⟩
    go_wp2_with fail
    go_ret
    have s5 := hb5.size
    have s6 := hb6.size
    have s7 := hb7.size
    exact ⟨rfl, hb04.trans ((hb5.trans ((hb6.trans ((hb7.trans (hb8.mono s7)).mono s6)).mono s5)).mono hb04.size)⟩
  · go_enter Tryd.func3, Tryd.ntmps3
    go_wp2_with fail
    go_ret
    exact ⟨rfl, Below.refl _ _⟩
end Go.Proofs.YtojcbdlgecppjaaDoor
