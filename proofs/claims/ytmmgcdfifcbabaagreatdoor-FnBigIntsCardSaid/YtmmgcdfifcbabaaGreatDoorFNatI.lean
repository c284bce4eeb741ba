/-
  'impl.FormatNat' and its exact law.
-/
import Derived.Test.YtmmgcdfifcbabaaGreatDoorFNat
import Derived.Test.YtmmgcdfifcbabaaGreatDoorAtL
import Derived.Test.YtmmgcdfifcbabaaGreatDoorAppI
namespace Go.Proofs.YtmmgcdfifcbabaaGreatDoor
open Go.ChangeShapes Go.WideShapes Go.ChangeAt Go.RowKit
open Go.ChangeMaps (open_string shut_string)
set_option linter.unusedVariables false
set_option linter.unusedSimpArgs false
set_option maxRecDepth 4000

theorem string_info : (Tryz.prog.info? 9).map (fun i => (i.zero, i.size, i.bytes)) = some (some (.string ⟨#[]⟩), 1, 16) := by kernel_rfl

/-- 'append(out, t)' of one string, onto a row of the call's own. -/
theorem append_str {ops : Array Oper} {rest : List Oper} {o : Oper} {a : Act} {Q : Exit → Act → World → Prop} (hgd : o.guard = none) (f x : Operand)
    (ho : o.op = .call { callee := .builtin .append, args := #[f, x], argTypes := #[68, 68] })
    (B n : Nat) (v : Value) (xs : List ByteArray) (t : ByteArray) (w : World) (hf : a.eval f = v) (hx : a.eval x = .slice (some ⟨w.heap.size, 0, none⟩) 1 1)
    (hown : w.ownsRow B 9 1 v n (vs xs)) (hn : n ≤ 1099511627776) (hB : B ≤ w.heap.size)
    (h : ∀ v' w', w'.ownsRow B 9 1 v' (n + 1) (vs (xs ++ [t])) → Below B w w' → wpList Tryz.prog ops Q rest (a.put o.dst v') w') :
    wpList Tryz.prog ops Q (o :: rest) a (w.alloc (.cells #[.string t] 9)) := by
  obtain ⟨i0, hi, hz0, hz1, hz2⟩ := info_parts string_info
  refine wpList_append_own (w.alloc (.cells #[.string t] 9)) hgd f x 68 ho B 9 i0 _ 1 16 Tryz.underlying68 hi hz0 hz1 hz2 rfl (by decide) v n (vs xs) hf (hown.alloc _) ⟨w.heap.size, 0, none⟩ 1 1 [.string t] hx rfl ?_ ?_ (by simp only [maxLen]; omega) (by omega) (by simp; omega) ?_
  · intro j u hu
    have hj : j = 0 := by
      have := (List.getElem?_eq_some_iff.1 hu).1
      simpa using this
    subst hj
    simp at hu
    subst hu
    exact World.cell?_alloc_new _ _ _ _
  · simp [Value.oneCell']
  · intro v' w' h1 h2 _
    refine h v' w' (by rw [vs_append]; exact h1) ?_
    refine ((Below.refl B w).alloc hB _).grown h2 (by simp; omega) (fun g hg => ?_)
    rcases hown.2 with ⟨rfl, _⟩ | ⟨g', cap, cur, rfl, hbg, _⟩
    · simp [Value.ownBlock] at hg
    · simp [Value.ownBlock] at hg
      omega


theorem lit_row (B : Nat) (w : World) (s : ByteArray) (hB : B ≤ w.heap.size) : (w.alloc (.cells #[.string s] 9)).ownsRow B 9 1 (.slice (some ⟨w.heap.size, 0, none⟩) 1 1) 1 (vs [s]) :=
  ⟨rfl, .inr ⟨w.heap.size, 1, #[.string s], rfl, hB, heap_alloc_new w _, Nat.le_refl _, by simp [maxLen], rfl, rfl⟩⟩

set_option maxHeartbeats 800000 in
theorem impl_fmtNat (l : List Int) (A : Option Addr) (n c : Nat) (w : World) (hl : l.length = n) (hn : n ≤ 9223372036854775807) (hA : RdS w A (vi l)) (htab : Lib.TabIs Tryz.prog w "internal/strconv.uint64pow10" .u64 Lib.pow10Tab) :
    Calls Tryz.prog 16 #[.slice A n c] w fun e w' => e = .returned (.string ⟨(fmtL l).toArray⟩) ∧ Below w.heap.size w w' := by
  have H1 := impl_ok l A n c w hl hn hA
  have HT := Lib.hid htab
  clear htab
  by_cases hk : ok l = true
  · rw [hk] at H1
    have hf : fmtL l = fmtN (val l) := by unfold fmtL; rw [hk]; rfl
    obtain ⟨a, rfl, ha⟩ := ok_nd hk
    rw [val_nd] at hf
    rw [nd_length] at hl
    clear hk
    by_cases h0 : n = 0
    · have hF : Hid (fmtL (nd a) = [48]) := Lib.hid (by rw [hf, fmtN, if_pos (ln_eq_zero.1 (by omega))])
      subst h0
      clear hf hl ha
      go_enter Tryz.func16, Tryz.ntmps16
      go_wp2_with fail
      refine H1.mono ?_
      rintro e w1 ⟨rfl, rfl⟩
      go_wp2
      go_ret
      exact ⟨ret_str hF.out.symm, Below.refl _ _⟩
    · have hF : Hid (fmtL (nd a) = ftx a n (n - 1)) := Lib.hid (by rw [hf, fmtN, if_neg (fun e => h0 (by rw [← hl]; exact ln_eq_zero.2 e)), hl])
      have HN := Lib.hid hl
      have hn60 : n ≤ 60 := by omega
      have hkz : ((n : Int) == 0) = false := by rw [beq_eq_false_iff_ne]; omega
      have HI : Hid (∀ j W, Below w.heap.size w W → Calls Tryz.prog 38 #[.int .i64 (dgt a j)] W fun e w' => e = .returned (.string ⟨(dpart a j).toArray⟩) ∧ Below W.heap.size W w') :=
        Lib.hid (fun j W hb => impl_fmt (dgt a j) W (by have := dgt_nonneg a j; omega) (by have := dgt_lt a j; omega) (tab_below hb HT.out))
      have HP : Hid (∀ j W, Calls Tryz.prog 39 #[.string ⟨(dpart a j).toArray⟩, .int .i64 9] W fun e w' => e = .returned (.string ⟨(padL (dpart a j) 9).toArray⟩) ∧ Below W.heap.size W w') :=
        Lib.hid (fun j W => impl_pad (dpart a j) 9 W (by have := dpart_len a j; omega) (by omega))
      have HJ : Hid (∀ A' c' W, n ≤ c' → RdS W A' (vs (fps a n (n - 1))) → Calls Tryz.prog 40 #[.slice A' n c', .string ⟨#[]⟩] W fun e w' => e = .returned (.string ⟨(ftx a n (n - 1)).toArray⟩) ∧ Below W.heap.size W w') :=
        Lib.hid (fun A' c' W hc' hR => by
          have h1 := fps_join a n (n - 1)
          have h2 := fps_total a n (n - 1)
          have h3 := fps_length a n (n - 1)
          have h4 := impl_join (fps a n (n - 1)) [] A' n c' W (by omega) hc' (by omega) (by simp) hR
          rw [show n - 1 + 1 = n by omega] at h1
          rw [h1] at h4
          exact h4)
      clear hf hl ha
      obtain ⟨b1, o1, rfl, hb1, e1⟩ := hA.int (nd_get (v := a) (i := n - 1) (by rw [HN.out]; omega))
      have hi0 : (0 : Int) ≤ (n : Int) - 1 := by omega
      have hi1 : (n : Int) - 1 < (n : Int) := by omega
      have hkt : ((n : Int) - 1).toNat = n - 1 := by omega
      have hnp : 0 < n := by omega
      have hI0 := Lib.hid (HI.out (n - 1) w (Below.refl _ _))
      have hf0 : Hid (fps a n 0 = [⟨(dpart a (n - 1)).toArray⟩]) := Lib.hid rfl
      generalize dpart a (n - 1) = L0 at hI0 hf0
      generalize dgt a (n - 1) = x0 at e1 hI0
      go_enter Tryz.func16, Tryz.ntmps16
      go_wp2_with fail
      refine H1.mono ?_
      rintro e w1 ⟨rfl, rfl⟩
      go_wp2_with fail
      refine hI0.out.mono ?_
      rintro e w1 ⟨rfl, hbw⟩
      have hA0 := Lib.hid hA
      have hrow := lit_row w.heap.size w1 ⟨L0.toArray⟩ hbw.size
      have hbw2 : Below w.heap.size w (w1.alloc (.cells #[.string ⟨L0.toArray⟩] 9)) := hbw.alloc hbw.size _
      clear hA e1 hI0 hb1 hbw
      go_wp2_with fail
      go_loopw [4, 5] (fun v i w' => ∃ (t : Nat) (x : Int) (P : List ByteArray), t ≤ n - 1 ∧ P = fps a n t ∧ P.length = t + 1 ∧ w'.ownsRow w.heap.size 9 1 v (t + 1) (vs P) ∧ i = .int .i64 x ∧ x = (n : Int) - 2 - (t : Int) ∧ Below w.heap.size w w') (fun _ i _ => (intOf i + 1).toNat)
      case atStart => exact ⟨0, _, [⟨L0.toArray⟩], Nat.zero_le _, hf0.out.symm, rfl, hrow, rfl, by omega, hbw2⟩
      case round =>
        clear hf0 hrow hbw2
        obtain ⟨t, x, P, ht, hP, hPl, hown, rfl, hx, hb⟩ := hrel
        have HPP := Lib.hid hP
        clear hP
        by_cases hlt : t < n - 1
        · obtain ⟨j, hj⟩ : ∃ j, j = n - 2 - t := ⟨_, rfl⟩
          obtain rfl : x = (j : Int) := by omega
          clear hx
          obtain ⟨b2, o2, hbo, hb2, e2⟩ := (hA0.out.below hb).int (nd_get (v := a) (i := j) (by rw [HN.out]; omega))
          injection hbo with hbo
          injection hbo with hbo1 hbo2
          subst hbo1
          subst hbo2
          have hi0 : (0 : Int) ≤ (j : Int) := by omega
          have hi1 : (j : Int) < (n : Int) := by omega
          have hIj := Lib.hid (HI.out j wr hb)
          have hPj := Lib.hid (fun W => HP.out j W)
          have hfj : Hid (fps a n (t + 1) = P ++ [⟨(padL (dpart a j) 9).toArray⟩]) := Lib.hid (by rw [fps, ← hj, HPP.out])
          have hj' := Lib.hid hj
          clear hj
          generalize padL (dpart a j) 9 = M at hPj hfj
          generalize dpart a j = N' at hIj hPj
          generalize dgt a j = y at e2 hIj
          go_wp2_with fail
          refine hIj.out.mono ?_
          rintro e w2 ⟨rfl, hb2'⟩
          go_wp2_with fail
          refine (hPj.out _).mono ?_
          rintro e w3 ⟨rfl, hb3⟩
          have hbc := bt hb2' hb3
          have hb23 := bt hb hbc
          have hown3 := owns_below hown hbc
          go_wp2_with (at_builtin; refine append_str rfl (.tmp 27) (.tmp 34) rfl w.heap.size _ _ P ⟨M.toArray⟩ w3 rfl rfl hown3 (by omega) hb23.size ?_; intro v' w4 hown4 hb4)
          go_roundw
          case rel => exact ⟨t + 1, _, P ++ [⟨M.toArray⟩], by omega, hfj.out.symm, by rw [List.length_append, hPl]; rfl, hown4, rfl, by have := hj'.out; omega, hb23.trans hb4⟩
          case measure => simp [intOf]
        · obtain rfl : t = n - 1 := by omega
          have hx0 : x < 0 := by omega
          clear hx
          obtain ⟨A', c', rfl, hc', hm', hl'⟩ := own_len hown
          have ho := OwnS.of_own hown
          have hrd : RdS wr A' (vs (fps a n (n - 1))) := by rw [← HPP.out]; exact ho.rd
          have hJ := Lib.hid (HJ.out A' c' wr (by omega) hrd)
          rw [show n - 1 + 1 = n by omega]
          clear hown ho hrd
          go_wp2_with fail
          refine hJ.out.mono ?_
          rintro e w2 ⟨rfl, hb2'⟩
          go_wp2
          go_ret
          exact ⟨ret_str hF.out.symm, bt hb hb2'⟩
  · have hk' : ok l = false := by simpa using hk
    rw [hk'] at H1
    have hF : Hid (fmtL l = []) := Lib.hid (by unfold fmtL; rw [hk']; rfl)
    clear hk hk' hl
    go_enter Tryz.func16, Tryz.ntmps16
    go_wp2_with fail
    refine H1.mono ?_
    rintro e w1 ⟨rfl, rfl⟩
    go_wp2
    go_ret
    exact ⟨ret_str hF.out.symm, Below.refl _ _⟩

end Go.Proofs.YtmmgcdfifcbabaaGreatDoor
