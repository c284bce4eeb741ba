/-
  'FormatNat', of the model and of the program: the numeral of the highest limb, then nine digits for each limb below it.
-/
import Derived.Test.YtnejpdlikdgnnaaDoorPad
import Derived.Test.YtnejpdlikdgnnaaDoorJoinImpl
import Derived.Test.YtnejpdlikdgnnaaDoorCmp
namespace Go.Proofs.YtnejpdlikdgnnaaDoor
open Go.ChangeShapes Go.WideShapes Go.ChangeAt Go.RowKit
open Go.ChangeMaps (open_string shut_string)
set_option linter.unusedVariables false
set_option linter.unusedSimpArgs false
set_option maxRecDepth 4000

/-- The numeral of limb j. -/
def dpart (a j : Nat) : List UInt8 := Lib.itoa (dgt a j)
/-- The text when t limbs below the highest of n are written. -/
def ftx (a n : Nat) : Nat → List UInt8
  | 0 => dpart a (n - 1)
  | t + 1 => ftx a n t ++ padL (dpart a (n - 2 - t)) 9
/-- Its parts. -/
def fps (a n : Nat) : Nat → List ByteArray
  | 0 => [⟨(dpart a (n - 1)).toArray⟩]
  | t + 1 => fps a n t ++ [⟨(padL (dpart a (n - 2 - t)) 9).toArray⟩]
def fmtN (a : Nat) : List UInt8 := if a = 0 then [48] else ftx a (ln a) (ln a - 1)
def fmtL (l : List Int) : List UInt8 := if ok l then fmtN (val l) else []
theorem dec_pow : ∀ (k u : Nat), u < 10 ^ (k + 1) → (Lib.decDigits u).length ≤ k + 1
  | 0, u, h => by
    rw [dec_small (by omega)]
    simp
  | k + 1, u, h => by
    by_cases h1 : u < 10
    · rw [dec_small h1]; simp
    · rw [dec_big h1, List.length_append]
      have := dec_pow k (u / 10) (by rw [Nat.pow_succ] at h; omega)
      simp
      omega
theorem dpart_len (a j : Nat) : (dpart a j).length ≤ 9 := by
  have h0 := dgt_nonneg a j
  have h1 := dgt_lt a j
  unfold dpart
  rw [Lib.itoa, if_neg (by omega)]
  exact dec_pow 8 _ (by omega)
theorem pad9_len {l : List UInt8} (h : l.length ≤ 9) : (padL l 9).length = 9 := by
  rw [padL_long (by decide), List.length_append, List.length_replicate]
  have : (9 : Int).toNat = 9 := rfl
  omega
theorem ftx_len (a n : Nat) : ∀ t, (ftx a n t).length ≤ 9 * (t + 1)
  | 0 => dpart_len _ _
  | t + 1 => by
    have := ftx_len a n t
    rw [ftx, List.length_append, pad9_len (dpart_len _ _)]
    omega
theorem fps_length (a n : Nat) : ∀ t, (fps a n t).length = t + 1
  | 0 => rfl
  | t + 1 => by rw [fps, List.length_append, fps_length a n t]; rfl
theorem total_append (l m : List ByteArray) : total (l ++ m) = total l + total m := by unfold total; rw [List.map_append, List.sum_append]
theorem fps_total (a n : Nat) : ∀ t, total (fps a n t) ≤ 9 * (t + 1)
  | 0 => by
    have := dpart_len a (n - 1)
    simp [fps, total, ByteArray.size]
    omega
  | t + 1 => by
    have := fps_total a n t
    have h9 := pad9_len (dpart_len a (n - 2 - t))
    rw [fps, total_append]
    have : total [(⟨(padL (dpart a (n - 2 - t)) 9).toArray⟩ : ByteArray)] = 9 := by simp [total, ByteArray.size, h9]
    omega
theorem jn_append (l : List ByteArray) (x : ByteArray) : jn (l ++ [x]) [] (l.length + 1) = jn l [] l.length ++ x.data.toList := by
  rw [jn_succ (by simp)]
  have h1 : (l ++ [x])[l.length]'(by simp) = x := by simp
  have h2 : jn (l ++ [x]) [] l.length = jn l [] l.length := by
    unfold jn
    rw [List.map_append, List.take_append_of_le_length (by simp)]
  rw [h1, h2]
  split <;> simp
theorem fps_join (a n : Nat) : ∀ t, jn (fps a n t) [] (t + 1) = ftx a n t
  | 0 => by
    have h := jn_append [] ⟨(dpart a (n - 1)).toArray⟩
    simpa [fps, ftx, jn_zero] using h
  | t + 1 => by
    have h := jn_append (fps a n t) ⟨(padL (dpart a (n - 2 - t)) 9).toArray⟩
    rw [fps_length] at h
    rw [fps, h, fps_join a n t, ftx]

set_option maxHeartbeats 800000 in
theorem spec_fmtNat (l : List Int) (A : Option Addr) (n c : Nat) (w : World) (hl : l.length = n) (hn : n ≤ 9223372036854775807) (hA : RdS w A (vi l)) :
    Calls Tryd.prog 43 #[.slice A n c] w fun e w' => e = .returned (.string ⟨(fmtL l).toArray⟩) ∧ Below w.heap.size w w' := by
  have H1 := spec_ok l A n c w hl hn hA
  by_cases hk : ok l = true
  · rw [hk] at H1
    have hf : fmtL l = fmtN (val l) := by unfold fmtL; rw [hk]; rfl
    obtain ⟨a, rfl, ha⟩ := ok_nd hk
    rw [val_nd] at hf
    rw [nd_length] at hl
    clear hk
    by_cases h0 : n = 0
    · have hF : Hid (fmtL (nd a) = [48]) := Lib.hid (by rw [hf, fmtN, if_pos (ln_eq_zero.1 (by omega))])
      subst h0
      clear hf hl ha
      go_enter Tryd.func43, Tryd.ntmps43
      go_wp2_with fail
      refine H1.mono ?_
      rintro e w1 ⟨rfl, rfl⟩
      go_wp2
      go_ret
      exact ⟨ret_str hF.out.symm, Below.refl _ _⟩
    · have hF : Hid (fmtL (nd a) = ftx a n (n - 1)) := Lib.hid (by rw [hf, fmtN, if_neg (fun e => h0 (by rw [← hl]; exact ln_eq_zero.2 e)), hl])
      have HN := Lib.hid hl
      have hn60 : n ≤ 60 := by omega
      have hkz : ((n : Int) == 0) = false := by rw [beq_eq_false_iff_ne]; omega
      have HI : Hid (∀ j W, Calls Tryd.prog 68 #[.int .i64 (dgt a j)] W fun e w' => e = .returned (.string ⟨(dpart a j).toArray⟩) ∧ Below W.heap.size W w') :=
        Lib.hid (fun j W => spec_fmt (dgt a j) W (by have := dgt_nonneg a j; omega) (by have := dgt_lt a j; omega))
      have HP : Hid (∀ j W, Calls Tryd.prog 69 #[.string ⟨(dpart a j).toArray⟩, .int .i64 9] W fun e w' => e = .returned (.string ⟨(padL (dpart a j) 9).toArray⟩) ∧ W = w') :=
        Lib.hid (fun j W => spec_pad (dpart a j) 9 W (by have := dpart_len a j; omega) (by omega))
      clear hf hl ha
      obtain ⟨b1, o1, rfl, hb1, e1⟩ := hA.int (nd_get (v := a) (i := n - 1) (by rw [HN.out]; omega))
      have hi0 : (0 : Int) ≤ (n : Int) - 1 := by omega
      have hi1 : (n : Int) - 1 < (n : Int) := by omega
      have hkt : ((n : Int) - 1).toNat = n - 1 := by omega
      have hnp : 0 < n := by omega
      have hI0 := Lib.hid (fun W => HI.out (n - 1) W)
      have hf0 : Hid (dpart a (n - 1) = ftx a n 0) := Lib.hid rfl
      have hlen0 := dpart_len a (n - 1)
      generalize dpart a (n - 1) = L0 at hI0 hf0 hlen0
      generalize dgt a (n - 1) = x0 at e1 hI0
      go_enter Tryd.func43, Tryd.ntmps43
      go_wp2_with fail
      refine H1.mono ?_
      rintro e w1 ⟨rfl, rfl⟩
      go_wp2_with fail
      refine (hI0.out _).mono ?_
      rintro e w1 ⟨rfl, hbw⟩
      have hA0 := Lib.hid hA
      clear hA e1 hI0 hb1
      go_wp2_with fail
      go_loopw [3, 4] (fun v i w' => ∃ (t : Nat) (x : Int) (L : List UInt8), t ≤ n - 1 ∧ v = .string ⟨L.toArray⟩ ∧ L = ftx a n t ∧ L.length ≤ 9 * (t + 1) ∧ i = .int .i64 x ∧ x = (n : Int) - 2 - (t : Int) ∧ Below w.heap.size w w') (fun _ i _ => (intOf i + 1).toNat)
      case atStart => exact ⟨0, _, L0, Nat.zero_le _, rfl, hf0.out, by omega, rfl, by omega, hbw⟩
      case round =>
        clear hf0 hlen0 hbw
        obtain ⟨t, x, L, ht, rfl, hL, hLl, rfl, hx, hb⟩ := hrel
        have HL := Lib.hid hL
        clear hL
        by_cases hlt : t < n - 1
        · obtain ⟨j, hj⟩ : ∃ j, j = n - 2 - t := ⟨_, rfl⟩
          obtain rfl : x = (j : Int) := by omega
          clear hx
          obtain ⟨b2, o2, hbo, hb2, e2⟩ := (hA0.out.below hb).int (nd_get (v := a) (i := j) (by rw [HN.out]; omega))
          injection hbo with hbo
          injection hbo with hbo1 hbo2
          subst hbo1
          subst hbo2
          have hi0 : (0 : Int) ≤ (j : Int) := by omega
          have hi1 : (j : Int) < (n : Int) := by omega
          have hIj := Lib.hid (fun W => HI.out j W)
          have hPj := Lib.hid (fun W => HP.out j W)
          have hfj : Hid (ftx a n (t + 1) = L ++ padL (dpart a j) 9) := Lib.hid (by rw [ftx, ← hj, HL.out])
          have h9 := pad9_len (dpart_len a j)
          have hj' := Lib.hid hj
          clear hj
          generalize padL (dpart a j) 9 = M at hPj hfj h9
          generalize dpart a j = N' at hIj hPj
          generalize dgt a j = y at e2 hIj
          have hov : L.length + M.length ≤ 9223372036854775807 := by omega
          go_wp2_with fail
          refine (hIj.out _).mono ?_
          rintro e w2 ⟨rfl, hb2'⟩
          go_wp2_with fail
          refine (hPj.out _).mono ?_
          rintro e w3 ⟨rfl, rfl⟩
          go_wp2_with fail
          go_roundw
          case rel => exact ⟨t + 1, _, L ++ M, by omega, by rw [ByteArray.mk_append_mk], hfj.out.symm, by rw [List.length_append]; omega, rfl, by have := hj'.out; omega, bt hb hb2'⟩
          case measure => simp [intOf]
        · obtain rfl : t = n - 1 := by omega
          have hx0 : x < 0 := by omega
          clear hx
          go_wp2
          go_ret
          exact ⟨ret_str (by rw [hF.out, HL.out]), hb⟩
  · have hk' : ok l = false := by simpa using hk
    rw [hk'] at H1
    have hF : Hid (fmtL l = []) := Lib.hid (by unfold fmtL; rw [hk']; rfl)
    clear hk hk' hl
    go_enter Tryd.func43, Tryd.ntmps43
    go_wp2_with fail
    refine H1.mono ?_
    rintro e w1 ⟨rfl, rfl⟩
    go_wp2
    go_ret
    exact ⟨ret_str hF.out.symm, Below.refl _ _⟩
end Go.Proofs.YtnejpdlikdgnnaaDoor
