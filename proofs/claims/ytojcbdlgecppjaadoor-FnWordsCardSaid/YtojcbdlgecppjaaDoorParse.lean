/-
  'impl.ParseInt' answers as 'spec.ParseInt' does, for every string.
-/
import Derived.Test.YtojcbdlgecppjaaDoorFmt
import Derived.Test.YtojcbdlgecppjaaDoorDigDefs
import Derived.Test.YtojcbdlgecppjaaDoorParseMath
import Derived.Lib.IndexBytes
namespace Go.Proofs.YtojcbdlgecppjaaDoor
open Go.ChangeShapes Go.WideShapes Go.ChangeAt Go.RowKit
open Go.ChangeMaps (open_string shut_string)
set_option linter.unusedVariables false
set_option linter.unusedSimpArgs false

theorem digs_list (t : List UInt8) : digs ⟨t.toArray⟩ = true ↔ t ≠ [] ∧ ∀ c ∈ t, Num.IsDig c := by
  unfold digs Num.IsDig
  rw [Bool.and_eq_true, decide_eq_true_eq, List.all_eq_true]
  have e : (ByteArray.mk t.toArray).size = t.length := by simp [ByteArray.size]
  rw [e]
  refine and_congr (by cases t <;> simp) ⟨fun h c hc => ?_, fun h c hc => ?_⟩
  · have := h c (by simpa using hc)
    simp at this
    omega
  · have := h c (by simpa using hc)
    simp
    omega
theorem ba_list (B : ByteArray) : B = ⟨B.data.toList.toArray⟩ := by
  obtain ⟨⟨b⟩⟩ := B
  rfl
/-- What is parsed, as two results. -/
def PP (l : List UInt8) (w : World) (e : Ending) (w' : World) : Prop := ∃ v b, Num.parsed l = (v, b) ∧ e = .returned (.tuple #[.int .i64 v, .bool b]) ∧ Below w.heap.size w w'

theorem bare_neg {s : ByteArray} (h0 : 0 < s.size) (hc : s[0]'h0 = 45) : (s.extract 1 s.size).data.toList = Num.bare s.data.toList := by
  obtain ⟨⟨l⟩⟩ := s
  cases l with
  | nil => simp [ByteArray.size] at h0
  | cons c r =>
    have : c = 45 := hc
    subst this
    rw [Lib.extract_to_end]
    rfl
theorem bare_pos {s : ByteArray} (h0 : 0 < s.size) (hc : ¬ s[0]'h0 = 45) : s.data.toList = Num.bare s.data.toList ∧ ¬ s.data.toList.head? = some 45 := by
  obtain ⟨⟨l⟩⟩ := s
  cases l with
  | nil => simp [ByteArray.size] at h0
  | cons c r =>
    have : ¬ c = 45 := hc
    simp [Num.bare, this]
theorem head_neg {s : ByteArray} (h0 : 0 < s.size) (hc : s[0]'h0 = 45) : s.data.toList.head? = some 45 := by
  obtain ⟨⟨l⟩⟩ := s
  cases l with
  | nil => simp [ByteArray.size] at h0
  | cons c r =>
    have : c = 45 := hc
    simp [this]

theorem tdiv_min {c : Nat} (h1 : 48 ≤ (c : Int)) (h2 : (c : Int) ≤ 57) : (-9223372036854775808 + ((c : Int) - 48)).tdiv 10 = -(((9223372036854775808 - (c - 48)) / 10 : Nat) : Int) := by
  rw [show (-9223372036854775808 + ((c : Int) - 48)) = -((9223372036854775808 - (c - 48) : Nat) : Int) from by omega]
  exact tdiv_neg _
theorem step_ok {c V : Nat} (h1 : 48 ≤ (c : Int)) (h2 : (c : Int) ≤ 57) (h : V * 10 + (c - 48) ≤ 9223372036854775808) : (-9223372036854775808 + ((c : Int) - 48)).tdiv 10 ≤ -(V : Int) := by
  rw [tdiv_min h1 h2]; omega
theorem step_no {c V : Nat} (h1 : 48 ≤ (c : Int)) (h2 : (c : Int) ≤ 57) (h : ¬ V * 10 + (c - 48) ≤ 9223372036854775808) : -(V : Int) < (-9223372036854775808 + ((c : Int) - 48)).tdiv 10 := by
  rw [tdiv_min h1 h2]; omega
theorem get_list (B : ByteArray) (k : Nat) (h : k < B.size) : B.data.toList[k]'(by simpa using h) = B[k]'h := rfl
theorem str_ne {L : List UInt8} {s : ByteArray} (h : ¬ L = s.data.toList) : (L == s.toList) = false := by
  rw [beq_eq_false_iff_ne, ByteArray.toList_eq]
  exact h
theorem eq_str {L : List UInt8} {s : ByteArray} (h : L = s.data.toList) : s = ⟨L.toArray⟩ := by rw [h]
/-- Two results. -/
theorem ret_pair {v v' : Int} {b b' : Bool} (h : (v, b) = (v', b')) : Ending.returned (.tuple #[.int .i64 v, .bool b]) = .returned (.tuple #[.int .i64 v', .bool b']) := by injection h with h1 h2; rw [h1, h2]

set_option maxHeartbeats 1000000 in
theorem spec_parse (s : ByteArray) (w : World) (hs : s.size ≤ 1048576) :
    Calls Tryd.prog 15 #[.string s] w (PP s.data.toList w) := by
  by_cases h0 : 0 < s.size
  · have hi1 : (0 : Int) < (s.size : Int) := by omega
    by_cases hc : s[0]'h0 = 45
    · have q : (((s[0]'h0).toNat : Int) == 45) = true := by rw [hc]; rfl
      have HT := Lib.hid (bare_neg h0 hc)
      have HH := Lib.hid (head_neg h0 hc)
      have hbs : (s.extract 1 s.size).size ≤ 1048576 := by simp; omega
      go_enter Tryd.func15, Tryd.ntmps15
      go_wp2_with fail
      generalize s.extract 1 s.size = B at HT hbs
      clear q hc
      refine (spec_digits B _ (by unfold maxLen; omega)).mono ?_
      rintro e w1 ⟨rfl, rfl⟩
      by_cases hd : digs B = true
      · have hdl := (digs_iff B).1 hd
        have HD := Lib.hid hdl.2
        clear hdl
        by_cases hlen : B.size ≤ 19
        · go_wp2_with fail
          go_loop [6, 7] (fun n i => ∃ (k V : Nat), k ≤ B.size ∧ i = .int .i64 (k : Int) ∧ n = .int .i64 (-(V : Int)) ∧ V ≤ 9223372036854775808 ∧ V = Num.val (B.data.toList.take k)) (fun _ i => B.size - (intOf i).toNat)
          case atStart => exact ⟨0, 0, Nat.zero_le _, rfl, rfl, by omega, rfl⟩
          case round =>
            obtain ⟨k, V, hk, rfl, rfl, hV, hv0⟩ := hrel
            have HV := Lib.hid hv0
            clear hv0
            by_cases hlt : k < B.size
            · obtain ⟨_, hg1, hg2⟩ := HD.out k hlt
              have hstep := Num.val_take_succ (l := B.data.toList) (k := k) (by simpa using hlt)
              rw [← HV.out, get_list B k hlt] at hstep
              have HS := Lib.hid hstep
              clear hstep
              by_cases hov : V * 10 + ((B[k]'hlt).toNat - 48) ≤ 9223372036854775808
              · have hle := step_ok hg1 hg2 hov
                have b1 : -9223372036854775808 ≤ -(V : Int) * 10 := by omega
                have b2 : -(V : Int) * 10 ≤ 9223372036854775807 := by omega
                have b3 : -9223372036854775808 ≤ -(V : Int) * 10 - (((B[k]'hlt).toNat : Int) - 48) := by omega
                have b4 : -(V : Int) * 10 - (((B[k]'hlt).toNat : Int) - 48) ≤ 9223372036854775807 := by omega
                have e5 : Hid (-(V : Int) * 10 - (((B[k]'hlt).toNat : Int) - 48) = -((V * 10 + ((B[k]'hlt).toNat - 48) : Nat) : Int)) := Lib.hid (by omega)
                go_wp2_with fail
                go_round
                case rel => exact ⟨k + 1, _, by omega, by go_num, by rw [e5.out], hov, HS.out.symm⟩
                case measure => simp [intOf]; omega
              · have hgt := step_no hg1 hg2 hov
                have HN := Lib.hid (Num.parsed_no (Num.noNum_great (l := s.data.toList) (by
                  have h1 := Num.val_take_le B.data.toList (k + 1)
                  rw [HS.out] at h1
                  rw [← HT.out]
                  omega)))
                clear hov
                go_wp2_with fail
                go_ret2
                exact ⟨0, false, HN.out, rfl, Below.refl _ _⟩
            · obtain rfl : k = B.size := by omega
              have HW : Hid (V = Num.val (Num.bare s.data.toList)) := Lib.hid (by rw [HV.out, ← HT.out, List.take_of_length_le (by simp)])
              have h1 : -9223372036854775808 ≤ -(V : Int) := by omega
              have h2 : -(V : Int) ≤ 9223372036854775807 := by omega
              go_wp2_with fail
              refine (spec_fmt _ _ h1 h2).mono ?_
              rintro e w2 ⟨rfl, hb⟩
              by_cases he : Lib.itoa (-(V : Int)) = s.data.toList
              · have HN : Hid (Num.parsed s.data.toList = (-(V : Int), true)) := Lib.hid (by rw [← he]; exact Num.parsed_yes h1 h2)
                have hsL := eq_str he
                clear he HT HH HW
                generalize Lib.itoa (-(V : Int)) = L at hsL
                subst hsL
                go_wp2_with fail
                go_ret2
                exact ⟨_, true, HN.out, rfl, hb⟩
              · have HN := Lib.hid (Num.parsed_no (Num.noNum_neg HH.out (by rw [← HW.out]; exact he)))
                have q := str_ne he
                clear he
                go_wp2_with fail
                go_ret2
                exact ⟨0, false, HN.out, rfl, hb⟩
        · have HN := Lib.hid (Num.parsed_no (Num.noNum_long (l := s.data.toList) (by rw [← HT.out]; simp; omega)))
          go_wp2_with fail
          go_ret2
          exact ⟨0, false, HN.out, rfl, Below.refl _ _⟩
      · have hd' : digs B = false := by simpa using hd
        have HN := Lib.hid (Num.parsed_no (Num.noNum_digs (l := s.data.toList) (by
          rw [← HT.out, ← digs_list, ← ba_list]; simp [hd'])))
        clear hd
        go_wp2_with fail
        go_ret2
        exact ⟨0, false, HN.out, rfl, Below.refl _ _⟩
    · have q : (((s[0]'h0).toNat : Int) == 45) = false := by
        rw [beq_eq_false_iff_ne]; intro e; apply hc; apply UInt8.toNat_inj.1; exact Int.ofNat_inj.1 e
      have HT := Lib.hid (bare_pos h0 hc).1
      have HH := Lib.hid (bare_pos h0 hc).2
      have hbs := hs
      go_enter Tryd.func15, Tryd.ntmps15
      go_wp2_with fail
      clear q hc
      refine (spec_digits s _ (by unfold maxLen; omega)).mono ?_
      rintro e w1 ⟨rfl, rfl⟩
      by_cases hd : digs s = true
      · have hdl := (digs_iff s).1 hd
        have HD := Lib.hid hdl.2
        clear hdl
        by_cases hlen : s.size ≤ 19
        · go_wp2_with fail
          go_loop [6, 7] (fun n i => ∃ (k V : Nat), k ≤ s.size ∧ i = .int .i64 (k : Int) ∧ n = .int .i64 (-(V : Int)) ∧ V ≤ 9223372036854775808 ∧ V = Num.val (s.data.toList.take k)) (fun _ i => s.size - (intOf i).toNat)
          case atStart => exact ⟨0, 0, Nat.zero_le _, rfl, rfl, by omega, rfl⟩
          case round =>
            obtain ⟨k, V, hk, rfl, rfl, hV, hv0⟩ := hrel
            have HV := Lib.hid hv0
            clear hv0
            by_cases hlt : k < s.size
            · obtain ⟨_, hg1, hg2⟩ := HD.out k hlt
              have hstep := Num.val_take_succ (l := s.data.toList) (k := k) (by simpa using hlt)
              rw [← HV.out, get_list s k hlt] at hstep
              have HS := Lib.hid hstep
              clear hstep
              by_cases hov : V * 10 + ((s[k]'hlt).toNat - 48) ≤ 9223372036854775808
              · have hle := step_ok hg1 hg2 hov
                have b1 : -9223372036854775808 ≤ -(V : Int) * 10 := by omega
                have b2 : -(V : Int) * 10 ≤ 9223372036854775807 := by omega
                have b3 : -9223372036854775808 ≤ -(V : Int) * 10 - (((s[k]'hlt).toNat : Int) - 48) := by omega
                have b4 : -(V : Int) * 10 - (((s[k]'hlt).toNat : Int) - 48) ≤ 9223372036854775807 := by omega
                have e5 : Hid (-(V : Int) * 10 - (((s[k]'hlt).toNat : Int) - 48) = -((V * 10 + ((s[k]'hlt).toNat - 48) : Nat) : Int)) := Lib.hid (by omega)
                go_wp2_with fail
                go_round
                case rel => exact ⟨k + 1, _, by omega, by go_num, by rw [e5.out], hov, HS.out.symm⟩
                case measure => simp [intOf]; omega
              · have hgt := step_no hg1 hg2 hov
                have HN := Lib.hid (Num.parsed_no (Num.noNum_great (l := s.data.toList) (by
                  have h1 := Num.val_take_le s.data.toList (k + 1)
                  rw [HS.out] at h1
                  rw [← HT.out]
                  omega)))
                clear hov
                go_wp2_with fail
                go_ret2
                exact ⟨0, false, HN.out, rfl, Below.refl _ _⟩
            · obtain rfl : k = s.size := by omega
              have HW : Hid (V = Num.val (Num.bare s.data.toList)) := Lib.hid (by rw [HV.out, ← HT.out, List.take_of_length_le (by simp)])
              by_cases hm : V = 9223372036854775808
              · have HN := Lib.hid (Num.parsed_no (Num.noNum_least HH.out (by rw [← HW.out]; exact hm)))
                have q : (-(V : Int) == -9223372036854775808) = true := by rw [beq_iff_eq]; omega
                clear hm
                go_wp2_with fail
                go_ret2
                exact ⟨0, false, HN.out, rfl, Below.refl _ _⟩
              · have h2 : (V : Int) ≤ 9223372036854775807 := by omega
                have h1 : -9223372036854775808 ≤ (V : Int) := by omega
                have q : (-(V : Int) == -9223372036854775808) = false := by rw [beq_eq_false_iff_ne]; omega
                clear hm
                go_wp2_with fail
                refine (spec_fmt _ _ h1 h2).mono ?_
                rintro e w2 ⟨rfl, hb⟩
                by_cases he : Lib.itoa (V : Int) = s.data.toList
                · have HN : Hid (Num.parsed s.data.toList = ((V : Int), true)) := Lib.hid (by rw [← he]; exact Num.parsed_yes h1 h2)
                  have hsL := eq_str he
                  clear he HT HH HW
                  generalize Lib.itoa (V : Int) = L at hsL
                  subst hsL
                  go_wp2_with fail
                  go_ret2
                  exact ⟨_, true, HN.out, rfl, hb⟩
                · have HN := Lib.hid (Num.parsed_no (Num.noNum_pos HH.out (by rw [← HW.out]; exact he)))
                  have q2 := str_ne he
                  clear he
                  go_wp2_with fail
                  go_ret2
                  exact ⟨0, false, HN.out, rfl, hb⟩
        · have HN := Lib.hid (Num.parsed_no (Num.noNum_long (l := s.data.toList) (by rw [← HT.out]; simp; omega)))
          go_wp2_with fail
          go_ret2
          exact ⟨0, false, HN.out, rfl, Below.refl _ _⟩
      · have hd' : digs s = false := by simpa using hd
        have HN := Lib.hid (Num.parsed_no (Num.noNum_digs (l := s.data.toList) (by
          rw [← HT.out, ← digs_list, ← ba_list]; simp [hd'])))
        clear hd
        go_wp2_with fail
        go_ret2
        exact ⟨0, false, HN.out, rfl, Below.refl _ _⟩
  · have hN : Num.parsed s.data.toList = (0, false) := Num.parsed_no (Num.noNum_digs (by
      have h2 : s.data.toList.length = s.size := by simp
      have : s.data.toList = [] := List.eq_nil_of_length_eq_zero (by omega)
      rw [this]
      rintro ⟨h, _⟩
      exact h rfl))
    have HN := Lib.hid hN
    clear hN
    have hd := Lib.hid (digs_empty h0)
    go_enter Tryd.func15, Tryd.ntmps15
    go_wp2_with fail
    refine (spec_digits s _ (by unfold maxLen; omega)).mono ?_
    rintro e w1 ⟨rfl, rfl⟩
    have hd' := hd.out
    go_wp2_with fail
    go_ret2
    exact ⟨0, false, HN.out, rfl, Below.refl _ _⟩

/-- What the laid variables give: the table of powers, the two errors. -/
def Laid (w : World) : Prop := Lib.TabIs Tryd.prog w "internal/strconv.uint64pow10" .u64 Lib.pow10Tab ∧ (∃ tp p, w.var? Tryd.prog "strconv.ErrSyntax" = some #[.iface tp p]) ∧ ∃ tp p, w.var? Tryd.prog "strconv.ErrRange" = some #[.iface tp p]
theorem var_lt {w : World} {n : String} {g : Nat} {cs : Array Value} (hg : Tryd.prog.globalNamed n = some g) (h : w.var? Tryd.prog n = some cs) : g < w.heap.size := by
  unfold World.var? at h
  simp only [hg, Option.bind_some] at h
  rcases Nat.lt_or_ge g w.heap.size with h' | h'
  · exact h'
  · simp [Array.getElem?_eq_none h'] at h
theorem Laid.below {W W' : World} (h : Laid W) (hb : Below W.heap.size W W') : Laid W' := by
  obtain ⟨h1, ⟨tp, p, h2⟩, tp', p', h3⟩ := h
  have g2 : Tryd.prog.globalNamed "strconv.ErrSyntax" = some 0 := by kernel_rfl
  have g3 : Tryd.prog.globalNamed "strconv.ErrRange" = some 1 := by kernel_rfl
  exact ⟨tab_below hb h1, ⟨tp, p, var?_below hb g2 (var_lt g2 h2) h2⟩, tp', p', var?_below hb g3 (var_lt g3 h3) h3⟩

set_option maxHeartbeats 800000 in
theorem impl_parse (s : ByteArray) (w : World) (hs : s.size ≤ 1048576) (hL : Laid w) :
    Calls Tryd.prog 7 #[.string s] w (PP s.data.toList w) := by
  have HL := Lib.hid hL
  clear hL
  cases ha : Lib.atoiAll s.data.toList with
  | ok v =>
    obtain ⟨h1, h2⟩ := Lib.atoiAll_bounds ha
    have HA := Lib.hid (Tryd.strconv_Atoi_ok s (by omega) v ha w)
    have HO := Lib.hid (fun h => Num.parsed_no (Num.noNum_of_other (l := s.data.toList) ha h))
    clear ha
    go_enter Tryd.func7, Tryd.ntmps7
    go_wp2_with fail
    refine (Hid.out HA).mono ?_
    rintro e w1 ⟨rfl, hw⟩
    have hb1 : Below w.heap.size w w1 := by
      rcases hw with rfl | ⟨t, rfl⟩
      · exact Below.refl _ _
      · exact Lib.bytesWorld_below _ _ _
    clear hw HA
    go_wp2_with fail
    refine (impl_fmt v _ h1 h2 (HL.out.below hb1).1).mono ?_
    rintro e w2 ⟨rfl, hb2⟩
    by_cases he : Lib.itoa v = s.data.toList
    · have HN : Hid (Num.parsed s.data.toList = (v, true)) := Lib.hid (by rw [← he]; exact Num.parsed_yes h1 h2)
      have hsL := eq_str he
      clear he HO
      generalize Lib.itoa v = L at hsL
      subst hsL
      go_wp2_with fail
      go_ret2
      exact ⟨_, true, HN.out, rfl, hb1.trans (hb2.mono hb1.size)⟩
    · have HN := Lib.hid (HO.out he)
      have q := str_ne he
      clear he HO
      go_wp2_with fail
      go_ret2
      exact ⟨0, false, HN.out, rfl, hb1.trans (hb2.mono hb1.size)⟩
  | range =>
    obtain ⟨_, _, tp, p, hv⟩ := HL.out
    have HA := Lib.hid (Tryd.strconv_Atoi_range_var s (by omega) ha tp p w hv)
    have HN := Lib.hid (Num.parsed_no (Num.noNum_of_atoi (l := s.data.toList) (fun v h => by rw [ha] at h; cases h)))
    clear ha hv
    go_enter Tryd.func7, Tryd.ntmps7
    go_wp2_with fail
    refine (Hid.out HA).mono ?_
    rintro e w1 ⟨N, rfl, _, _, hb1⟩
    go_wp2_with fail
    go_ret2
    exact ⟨0, false, HN.out, rfl, hb1⟩
  | _ =>
    obtain ⟨_, ⟨tp, p, hv⟩, _⟩ := HL.out
    have HA := Lib.hid (Tryd.strconv_Atoi_bad_var s (by omega) (fun v h => by rw [ha] at h; cases h) (fun h => by rw [ha] at h; cases h) tp p w hv)
    have HN := Lib.hid (Num.parsed_no (Num.noNum_of_atoi (l := s.data.toList) (fun v h => by rw [ha] at h; cases h)))
    clear ha hv
    go_enter Tryd.func7, Tryd.ntmps7
    go_wp2_with fail
    refine (Hid.out HA).mono ?_
    rintro e w1 ⟨N, rfl, _, _, hb1⟩
    go_wp2_with fail
    go_ret2
    exact ⟨0, false, HN.out, rfl, hb1⟩

set_option maxHeartbeats 400000 in
theorem law_parse (s : ByteArray) (w : World) (hs : s.size ≤ maxLen) (hL : Laid w) :
    Calls Tryd.prog 5 #[.string s] w fun e w' => e = .returned (.bool true) ∧ Below w.heap.size w w' := by
  have hs' := hs
  unfold maxLen at hs'
  have HL := Lib.hid hL
  clear hL
  by_cases hg : s.size ≤ 1048576
  · have H1 := Lib.hid (fun w => spec_parse s w hg)
    have H2 := Lib.hid (fun w h => impl_parse s w hg h)
    go_enter Tryd.func5, Tryd.ntmps5
    go_wp2_with fail
    refine (H1.out _).mono ?_
    rintro e w1 ⟨v, b, hp, rfl, hb1⟩
    have HP := Lib.hid hp
    clear hp
    go_wp2_with fail
    refine (H2.out _ (HL.out.below hb1)).mono ?_
    rintro e w2 ⟨v', b', hp', rfl, hb2⟩
    rw [HP.out] at hp'
    injection hp' with e1 e2
    subst e1
    subst e2
    go_wp2_with fail
    go_ret
    exact ⟨rfl, hb1.trans (hb2.mono hb1.size)⟩
  · go_enter Tryd.func5, Tryd.ntmps5
    go_wp2_with fail
    go_ret
    exact ⟨rfl, Below.refl _ _⟩
end Go.Proofs.YtojcbdlgecppjaaDoor
