/-
  'impl.FormatInt' answers as 'spec.FormatInt' does, for every int: both give the decimal numeral.
-/
import Derived.Test.YtdgfbnnohnaoaaaGreatDoorDkA
import Derived.Test.YtdgfbnnohnaoaaaGreatDoorShelf
import Derived.Outline
import Derived.IntWalk
import Derived.WalkSmall
import Derived.RegionCalls
import Derived.Deep.RegionWith
import Derived.Test.YtdgfbnnohnaoaaaGreatDoorJoinImpl
namespace Go.Proofs.YtdgfbnnohnaoaaaGreatDoor
open Go.ChangeShapes Go.WideShapes Go.ChangeAt Go.RowKit
open Go.ChangeMaps (open_string shut_string)
set_option linter.unusedVariables false
set_option linter.unusedSimpArgs false
set_option maxRecDepth 4000

/-- The last digit. -/
def d8 (k : Nat) : UInt8 := UInt8.ofNat (48 + k % 10)
theorem dec_small {u : Nat} (h : u < 10) : Lib.decDigits u = [d8 u] := by
  rw [Lib.decDigits, dif_pos h, d8, Nat.mod_eq_of_lt h]
theorem dec_big {u : Nat} (h : ¬ u < 10) : Lib.decDigits u = Lib.decDigits (u / 10) ++ [d8 u] := by
  rw [Lib.decDigits, dif_neg h, d8]
theorem ret_str {a b : List UInt8} (h : a = b) : Ending.returned (.string ⟨a.toArray⟩) = .returned (.string ⟨b.toArray⟩) := by rw [h]
theorem below_grow (w : World) (k : Nat) (os : Array Obj) : Below w.heap.size w (Sort.grow (w.drewN k) os) :=
  ⟨rfl, rfl, rfl, by show w.heap.size ≤ (w.heap ++ os).size; simp, fun i hi => by show (w.heap ++ os)[i]? = _; rw [Array.getElem?_append_left hi]⟩

/-- 'impl.FormatInt' hands on 'strconv.Itoa'. -/
theorem impl_fmt (n : Int) (w : World) (h0 : -9223372036854775808 ≤ n) (h1 : n ≤ 9223372036854775807) (htab : Lib.TabIs Tryz.prog w "internal/strconv.uint64pow10" .u64 Lib.pow10Tab) :
    Calls Tryz.prog 84 #[.int .i64 n] w fun e w' => e = .returned (.string ⟨(Lib.itoa n).toArray⟩) ∧ Below w.heap.size w w' := by
  have H := Lib.hid (Tryz.strconv_Itoa n h0 h1 w htab)
  clear htab
  go_enter Tryz.func84, Tryz.ntmps84
  go_wp2_with fail
  refine (Hid.out H).mono ?_
  rintro e w1 ⟨rfl, k, os, rfl⟩
  go_wp2
  go_ret
  exact ⟨rfl, below_grow w k os⟩
theorem tab_below {W W' : World} (hb : Below W.heap.size W W') (h : Lib.TabIs Tryz.prog W "internal/strconv.uint64pow10" .u64 Lib.pow10Tab) : Lib.TabIs Tryz.prog W' "internal/strconv.uint64pow10" .u64 Lib.pow10Tab := by
  have hg : Tryz.prog.globalNamed "internal/strconv.uint64pow10" = some 5 := by kernel_rfl
  have hc := h.cell hg 0 (by decide)
  exact var?_below hb hg (World.block_lt_of_cell? W _ hc) h

end Go.Proofs.YtdgfbnnohnaoaaaGreatDoor

namespace Go.Proofs.YtdgfbnnohnaoaaaGreatDoor
open Go.ChangeShapes Go.WideShapes Go.ChangeAt Go.RowKit
open Go.ChangeMaps (open_string shut_string)
set_option linter.unusedVariables false
set_option linter.unusedSimpArgs false
set_option maxRecDepth 4000

/-- The answer. -/
def padL (l : List UInt8) (n : Int) : List UInt8 := if n ≤ 2000 then List.replicate (n.toNat - l.length) 48 ++ l else l
theorem padL_big {l : List UInt8} {n : Int} (h : 2000 < n) : padL l n = l := by rw [padL, if_neg (by omega)]
theorem padL_short {l : List UInt8} {n : Int} (h : n ≤ (l.length : Int)) : padL l n = l := by
  unfold padL
  split
  · rw [show n.toNat - l.length = 0 from by omega]; rfl
  · rfl
theorem padL_long {l : List UInt8} {n : Int} (h : n ≤ 2000) : padL l n = List.replicate (n.toNat - l.length) 48 ++ l := by rw [padL, if_pos h]
theorem joinParts_two (a b : List UInt8) (bk c : Nat) (w : World) (h0 : w.cell? ⟨bk, 0, none⟩ = some (.string ⟨a.toArray⟩)) (h1 : w.cell? ⟨bk, 1, none⟩ = some (.string ⟨b.toArray⟩)) (hbk : bk < w.heap.size) (hc : 2 ≤ c) (hlen : a.length + b.length ≤ 140737488355328) :
    Calls Tryz.prog 24 #[.string ⟨#[]⟩, .slice (some ⟨bk, 0, none⟩) 2 c] w fun e w' => e = .returned (.string ⟨(a ++ b).toArray⟩) ∧ Below w.heap.size w w' := by
  have hj : Lib.join (([⟨a.toArray⟩, ⟨b.toArray⟩] : List ByteArray).map (·.data.toList)) (ByteArray.mk #[]).data.toList = a ++ b := by simp [Lib.join, List.intercalate]
  have hc' := Tryz.strings_Join bk 0 c [⟨a.toArray⟩, ⟨b.toArray⟩] ⟨#[]⟩ w (fun j x hx => by
    rw [Nat.zero_add]
    match j, hx with
    | 0, hx => simp at hx; rw [← hx]; exact h0
    | 1, hx => simp at hx; rw [← hx]; exact h1) hbk (by simp) (by simpa using hc) (by rw [hj, List.length_append]; exact hlen)
  rw [hj] at hc'
  have H := Lib.hid hc'
  clear hc' hj h0 h1 hlen
  go_enter Tryz.func24, Tryz.ntmps24
  go_wp2_with fail
  refine (Hid.out H).mono ?_
  rintro e w1 ⟨rfl, hb⟩
  go_wp2
  go_ret
  exact ⟨rfl, hb⟩
theorem repeatL_one (c : UInt8) : ∀ n, Lib.repeatL [c] n = List.replicate n c
  | 0 => rfl
  | n + 1 => by rw [Lib.repeatL, repeatL_one c n, List.replicate_succ]; rfl

set_option maxHeartbeats 400000 in
theorem impl_pad (l : List UInt8) (n : Int) (w : World) (hl : l.length ≤ 1048576) (hn : -9223372036854775808 ≤ n ∧ n ≤ 9223372036854775807) :
    Calls Tryz.prog 85 #[.string ⟨l.toArray⟩, .int .i64 n] w fun e w' => e = .returned (.string ⟨(padL l n).toArray⟩) ∧ Below w.heap.size w w' := by
  obtain ⟨hn1, hn2⟩ := hn
  by_cases hs : n ≤ (l.length : Int)
  · have HE := Lib.hid (padL_short (l := l) hs)
    go_enter Tryz.func85, Tryz.ntmps85
    go_wp2
    go_ret
    exact ⟨ret_str HE.out.symm, Below.refl _ _⟩
  by_cases hb : 2000 < n
  · have HE := Lib.hid (padL_big (l := l) hb)
    go_enter Tryz.func85, Tryz.ntmps85
    go_wp2
    go_ret
    exact ⟨ret_str HE.out.symm, Below.refl _ _⟩
  · have HE := Lib.hid (padL_long (l := l) (n := n) (by omega))
    obtain ⟨k, hk0⟩ : ∃ k : Nat, n = (l.length : Int) + (k : Int) := ⟨(n - l.length).toNat, by omega⟩
    subst hk0
    have hk1 : k ≤ 2000 := by omega
    have HR : Hid (Lib.repeatL (ByteArray.mk [(48 : UInt8)].toArray).data.toList k = List.replicate k 48) := repeatL_one 48 k
    go_enter Tryz.func85, Tryz.ntmps85
    go_wp2_with fail
    rw [show ((l.length : Int) + (k : Int) - (l.length : Int)) = (k : Int) from by omega]
    refine (Tryz.strings_Repeat ⟨#[48]⟩ k _ (by omega) (by show (1 : Nat) * k ≤ 140737488355328; omega)).mono ?_
    rintro e w1 ⟨rfl, hb1⟩
    rw [show Lib.repeatL (ByteArray.mk #[48]).data.toList k = List.replicate k 48 from HR.out]
    go_wp2_with fail
    refine (joinParts_two (List.replicate k 48) l w1.heap.size 2 _ ?_ ?_ ?_ (Nat.le_refl _) (by rw [List.length_replicate]; omega)).mono ?_
    · exact World.cell?_alloc_new _ _ _ _
    · exact World.cell?_alloc_new _ _ _ _
    · simp
    rintro e w2 ⟨rfl, hb2⟩
    go_wp2
    go_ret
    refine ⟨ret_str ?_, hb1.trans (((Below.refl _ _).alloc (Nat.le_refl _) _).trans (hb2.mono (by simp)) |>.mono hb1.size)⟩
    rw [HE.out, show ((l.length : Int) + (k : Int)).toNat - l.length = k from by omega]
end Go.Proofs.YtdgfbnnohnaoaaaGreatDoor

namespace Go.Proofs.YtdgfbnnohnaoaaaGreatDoor
open Go.ChangeShapes Go.WideShapes Go.ChangeAt Go.RowKit
open Go.ChangeMaps (open_string shut_string)
set_option linter.unusedVariables false
set_option linter.unusedSimpArgs false
set_option maxRecDepth 4000

/-- The numeral of limb j. -/
def dpart (a j : Nat) : List UInt8 := Lib.itoa (dgt a j)
/-- The text when t limbs below the highest of n are written. -/
def ftx (a n : Nat) : Nat → List UInt8
  | 0 => dpart a (n - 1)
  | t + 1 => ftx a n t ++ padL (dpart a (n - 2 - t)) 9
/-- Its parts. -/
def fps (a n : Nat) : Nat → List ByteArray
  | 0 => [⟨(dpart a (n - 1)).toArray⟩]
  | t + 1 => fps a n t ++ [⟨(padL (dpart a (n - 2 - t)) 9).toArray⟩]
def fmtN (a : Nat) : List UInt8 := if a = 0 then [48] else ftx a (ln a) (ln a - 1)
def fmtL (l : List Int) : List UInt8 := if ok l then fmtN (val l) else []
theorem dec_pow : ∀ (k u : Nat), u < 10 ^ (k + 1) → (Lib.decDigits u).length ≤ k + 1
  | 0, u, h => by
    rw [dec_small (by omega)]
    simp
  | k + 1, u, h => by
    by_cases h1 : u < 10
    · rw [dec_small h1]; simp
    · rw [dec_big h1, List.length_append]
      have := dec_pow k (u / 10) (by rw [Nat.pow_succ] at h; omega)
      simp
      omega
theorem dpart_len (a j : Nat) : (dpart a j).length ≤ 9 := by
  have h0 := dgt_nonneg a j
  have h1 := dgt_lt a j
  unfold dpart
  rw [Lib.itoa, if_neg (by omega)]
  exact dec_pow 8 _ (by omega)
theorem pad9_len {l : List UInt8} (h : l.length ≤ 9) : (padL l 9).length = 9 := by
  rw [padL_long (by decide), List.length_append, List.length_replicate]
  have : (9 : Int).toNat = 9 := rfl
  omega
theorem ftx_len (a n : Nat) : ∀ t, (ftx a n t).length ≤ 9 * (t + 1)
  | 0 => dpart_len _ _
  | t + 1 => by
    have := ftx_len a n t
    rw [ftx, List.length_append, pad9_len (dpart_len _ _)]
    omega
theorem fps_length (a n : Nat) : ∀ t, (fps a n t).length = t + 1
  | 0 => rfl
  | t + 1 => by rw [fps, List.length_append, fps_length a n t]; rfl
theorem total_append (l m : List ByteArray) : total (l ++ m) = total l + total m := by unfold total; rw [List.map_append, List.sum_append]
theorem fps_total (a n : Nat) : ∀ t, total (fps a n t) ≤ 9 * (t + 1)
  | 0 => by
    have := dpart_len a (n - 1)
    simp [fps, total, ByteArray.size]
    omega
  | t + 1 => by
    have := fps_total a n t
    have h9 := pad9_len (dpart_len a (n - 2 - t))
    rw [fps, total_append]
    have : total [(⟨(padL (dpart a (n - 2 - t)) 9).toArray⟩ : ByteArray)] = 9 := by simp [total, ByteArray.size, h9]
    omega
theorem jn_append (l : List ByteArray) (x : ByteArray) : jn (l ++ [x]) [] (l.length + 1) = jn l [] l.length ++ x.data.toList := by
  rw [jn_succ (by simp)]
  have h1 : (l ++ [x])[l.length]'(by simp) = x := by simp
  have h2 : jn (l ++ [x]) [] l.length = jn l [] l.length := by
    unfold jn
    rw [List.map_append, List.take_append_of_le_length (by simp)]
  rw [h1, h2]
  split <;> simp
theorem fps_join (a n : Nat) : ∀ t, jn (fps a n t) [] (t + 1) = ftx a n t
  | 0 => by
    have h := jn_append [] ⟨(dpart a (n - 1)).toArray⟩
    simpa [fps, ftx, jn_zero] using h
  | t + 1 => by
    have h := jn_append (fps a n t) ⟨(padL (dpart a (n - 2 - t)) 9).toArray⟩
    rw [fps_length] at h
    rw [fps, h, fps_join a n t, ftx]

end Go.Proofs.YtdgfbnnohnaoaaaGreatDoor

namespace Go.Proofs.YtdgfbnnohnaoaaaGreatDoor
open Go.ChangeShapes Go.WideShapes Go.ChangeAt Go.RowKit
open Go.ChangeMaps (open_string shut_string)
set_option linter.unusedVariables false
set_option linter.unusedSimpArgs false
set_option maxRecDepth 4000

theorem string_info : (Tryz.prog.info? 9).map (fun i => (i.zero, i.size, i.bytes)) = some (some (.string ⟨#[]⟩), 1, 16) := by kernel_rfl

/-- 'append(out, t)' of one string, onto a row of the call's own. -/
theorem append_str {ops : Array Oper} {rest : List Oper} {o : Oper} {a : Act} {Q : Exit → Act → World → Prop} (hgd : o.guard = none) (f x : Operand)
    (ho : o.op = .call { callee := .builtin .append, args := #[f, x], argTypes := #[77, 77] })
    (B n : Nat) (v : Value) (xs : List ByteArray) (t : ByteArray) (w : World) (hf : a.eval f = v) (hx : a.eval x = .slice (some ⟨w.heap.size, 0, none⟩) 1 1)
    (hown : w.ownsRow B 9 1 v n (vs xs)) (hn : n ≤ 1099511627776) (hB : B ≤ w.heap.size)
    (h : ∀ v' w', w'.ownsRow B 9 1 v' (n + 1) (vs (xs ++ [t])) → Below B w w' → wpList Tryz.prog ops Q rest (a.put o.dst v') w') :
    wpList Tryz.prog ops Q (o :: rest) a (w.alloc (.cells #[.string t] 9)) := by
  obtain ⟨i0, hi, hz0, hz1, hz2⟩ := info_parts string_info
  refine wpList_append_own (w.alloc (.cells #[.string t] 9)) hgd f x 77 ho B 9 i0 _ 1 16 Tryz.underlying77 hi hz0 hz1 hz2 rfl (by decide) v n (vs xs) hf (hown.alloc _) ⟨w.heap.size, 0, none⟩ 1 1 [.string t] hx rfl ?_ ?_ (by simp only [maxLen]; omega) (by omega) (by simp; omega) ?_
  · intro j u hu
    have hj : j = 0 := by
      have := (List.getElem?_eq_some_iff.1 hu).1
      simpa using this
    subst hj
    simp at hu
    subst hu
    exact World.cell?_alloc_new _ _ _ _
  · simp [Value.oneCell']
  · intro v' w' h1 h2 _
    refine h v' w' (by rw [vs_append]; exact h1) ?_
    refine ((Below.refl B w).alloc hB _).grown h2 (by simp; omega) (fun g hg => ?_)
    rcases hown.2 with ⟨rfl, _⟩ | ⟨g', cap, cur, rfl, hbg, _⟩
    · simp [Value.ownBlock] at hg
    · simp [Value.ownBlock] at hg
      omega


theorem lit_row (B : Nat) (w : World) (s : ByteArray) (hB : B ≤ w.heap.size) : (w.alloc (.cells #[.string s] 9)).ownsRow B 9 1 (.slice (some ⟨w.heap.size, 0, none⟩) 1 1) 1 (vs [s]) :=
  ⟨rfl, .inr ⟨w.heap.size, 1, #[.string s], rfl, hB, heap_alloc_new w _, Nat.le_refl _, by simp [maxLen], rfl, rfl⟩⟩

set_option maxHeartbeats 800000 in
theorem impl_fmtNat (l : List Int) (A : Option Addr) (n c : Nat) (w : World) (hl : l.length = n) (hn : n ≤ 9223372036854775807) (hA : RdS w A (vi l)) (htab : Lib.TabIs Tryz.prog w "internal/strconv.uint64pow10" .u64 Lib.pow10Tab) :
    Calls Tryz.prog 55 #[.slice A n c] w fun e w' => e = .returned (.string ⟨(fmtL l).toArray⟩) ∧ Below w.heap.size w w' := by
  have H1 := impl_ok l A n c w hl hn hA
  have HT := Lib.hid htab
  clear htab
  by_cases hk : ok l = true
  · rw [hk] at H1
    have hf : fmtL l = fmtN (val l) := by unfold fmtL; rw [hk]; rfl
    obtain ⟨a, rfl, ha⟩ := ok_nd hk
    rw [val_nd] at hf
    rw [nd_length] at hl
    clear hk
    by_cases h0 : n = 0
    · have hF : Hid (fmtL (nd a) = [48]) := Lib.hid (by rw [hf, fmtN, if_pos (ln_eq_zero.1 (by omega))])
      subst h0
      clear hf hl ha
      go_enter Tryz.func55, Tryz.ntmps55
      go_wp2_with fail
      refine H1.mono ?_
      rintro e w1 ⟨rfl, rfl⟩
      go_wp2
      go_ret
      exact ⟨ret_str hF.out.symm, Below.refl _ _⟩
    · have hF : Hid (fmtL (nd a) = ftx a n (n - 1)) := Lib.hid (by rw [hf, fmtN, if_neg (fun e => h0 (by rw [← hl]; exact ln_eq_zero.2 e)), hl])
      have HN := Lib.hid hl
      have hn60 : n ≤ 60 := by omega
      have hkz : ((n : Int) == 0) = false := by rw [beq_eq_false_iff_ne]; omega
      have HI : Hid (∀ j W, Below w.heap.size w W → Calls Tryz.prog 84 #[.int .i64 (dgt a j)] W fun e w' => e = .returned (.string ⟨(dpart a j).toArray⟩) ∧ Below W.heap.size W w') :=
        Lib.hid (fun j W hb => impl_fmt (dgt a j) W (by have := dgt_nonneg a j; omega) (by have := dgt_lt a j; omega) (tab_below hb HT.out))
      have HP : Hid (∀ j W, Calls Tryz.prog 85 #[.string ⟨(dpart a j).toArray⟩, .int .i64 9] W fun e w' => e = .returned (.string ⟨(padL (dpart a j) 9).toArray⟩) ∧ Below W.heap.size W w') :=
        Lib.hid (fun j W => impl_pad (dpart a j) 9 W (by have := dpart_len a j; omega) (by omega))
      have HJ : Hid (∀ A' c' W, n ≤ c' → RdS W A' (vs (fps a n (n - 1))) → Calls Tryz.prog 86 #[.slice A' n c', .string ⟨#[]⟩] W fun e w' => e = .returned (.string ⟨(ftx a n (n - 1)).toArray⟩) ∧ Below W.heap.size W w') :=
        Lib.hid (fun A' c' W hc' hR => by
          have h1 := fps_join a n (n - 1)
          have h2 := fps_total a n (n - 1)
          have h3 := fps_length a n (n - 1)
          have h4 := impl_join (fps a n (n - 1)) [] A' n c' W (by omega) hc' (by omega) (by simp) hR
          rw [show n - 1 + 1 = n by omega] at h1
          rw [h1] at h4
          exact h4)
      clear hf hl ha
      obtain ⟨b1, o1, rfl, hb1, e1⟩ := hA.int (nd_get (v := a) (i := n - 1) (by rw [HN.out]; omega))
      have hi0 : (0 : Int) ≤ (n : Int) - 1 := by omega
      have hi1 : (n : Int) - 1 < (n : Int) := by omega
      have hkt : ((n : Int) - 1).toNat = n - 1 := by omega
      have hnp : 0 < n := by omega
      have hI0 := Lib.hid (HI.out (n - 1) w (Below.refl _ _))
      have hf0 : Hid (fps a n 0 = [⟨(dpart a (n - 1)).toArray⟩]) := Lib.hid rfl
      generalize dpart a (n - 1) = L0 at hI0 hf0
      generalize dgt a (n - 1) = x0 at e1 hI0
      go_enter Tryz.func55, Tryz.ntmps55
      go_wp2_with fail
      refine H1.mono ?_
      rintro e w1 ⟨rfl, rfl⟩
      go_wp2_with fail
      refine hI0.out.mono ?_
      rintro e w1 ⟨rfl, hbw⟩
      have hA0 := Lib.hid hA
      have hrow := lit_row w.heap.size w1 ⟨L0.toArray⟩ hbw.size
      have hbw2 : Below w.heap.size w (w1.alloc (.cells #[.string ⟨L0.toArray⟩] 9)) := hbw.alloc hbw.size _
      clear hA e1 hI0 hb1 hbw
      go_wp2_with fail
      go_loopw [4, 5] (fun v i w' => ∃ (t : Nat) (x : Int) (P : List ByteArray), t ≤ n - 1 ∧ P = fps a n t ∧ P.length = t + 1 ∧ w'.ownsRow w.heap.size 9 1 v (t + 1) (vs P) ∧ i = .int .i64 x ∧ x = (n : Int) - 2 - (t : Int) ∧ Below w.heap.size w w') (fun _ i _ => (intOf i + 1).toNat)
      case atStart => exact ⟨0, _, [⟨L0.toArray⟩], Nat.zero_le _, hf0.out.symm, rfl, hrow, rfl, by omega, hbw2⟩
      case round =>
        clear hf0 hrow hbw2
        obtain ⟨t, x, P, ht, hP, hPl, hown, rfl, hx, hb⟩ := hrel
        have HPP := Lib.hid hP
        clear hP
        by_cases hlt : t < n - 1
        · obtain ⟨j, hj⟩ : ∃ j, j = n - 2 - t := ⟨_, rfl⟩
          obtain rfl : x = (j : Int) := by omega
          clear hx
          obtain ⟨b2, o2, hbo, hb2, e2⟩ := (hA0.out.below hb).int (nd_get (v := a) (i := j) (by rw [HN.out]; omega))
          injection hbo with hbo
          injection hbo with hbo1 hbo2
          subst hbo1
          subst hbo2
          have hi0 : (0 : Int) ≤ (j : Int) := by omega
          have hi1 : (j : Int) < (n : Int) := by omega
          have hIj := Lib.hid (HI.out j wr hb)
          have hPj := Lib.hid (fun W => HP.out j W)
          have hfj : Hid (fps a n (t + 1) = P ++ [⟨(padL (dpart a j) 9).toArray⟩]) := Lib.hid (by rw [fps, ← hj, HPP.out])
          have hj' := Lib.hid hj
          clear hj
          generalize padL (dpart a j) 9 = M at hPj hfj
          generalize dpart a j = N' at hIj hPj
          generalize dgt a j = y at e2 hIj
          go_wp2_with fail
          refine hIj.out.mono ?_
          rintro e w2 ⟨rfl, hb2'⟩
          go_wp2_with fail
          refine (hPj.out _).mono ?_
          rintro e w3 ⟨rfl, hb3⟩
          have hbc := bt hb2' hb3
          have hb23 := bt hb hbc
          have hown3 := owns_below hown hbc
          go_wp2_with (at_builtin; refine append_str rfl (.tmp 27) (.tmp 34) rfl w.heap.size _ _ P ⟨M.toArray⟩ w3 rfl rfl hown3 (by omega) hb23.size ?_; intro v' w4 hown4 hb4)
          go_roundw
          case rel => exact ⟨t + 1, _, P ++ [⟨M.toArray⟩], by omega, hfj.out.symm, by rw [List.length_append, hPl]; rfl, hown4, rfl, by have := hj'.out; omega, hb23.trans hb4⟩
          case measure => simp [intOf]
        · obtain rfl : t = n - 1 := by omega
          have hx0 : x < 0 := by omega
          clear hx
          obtain ⟨A', c', rfl, hc', hm', hl'⟩ := own_len hown
          have ho := OwnS.of_own hown
          have hrd : RdS wr A' (vs (fps a n (n - 1))) := by rw [← HPP.out]; exact ho.rd
          have hJ := Lib.hid (HJ.out A' c' wr (by omega) hrd)
          rw [show n - 1 + 1 = n by omega]
          clear hown ho hrd
          go_wp2_with fail
          refine hJ.out.mono ?_
          rintro e w2 ⟨rfl, hb2'⟩
          go_wp2
          go_ret
          exact ⟨ret_str hF.out.symm, bt hb hb2'⟩
  · have hk' : ok l = false := by simpa using hk
    rw [hk'] at H1
    have hF : Hid (fmtL l = []) := Lib.hid (by unfold fmtL; rw [hk']; rfl)
    clear hk hk' hl
    go_enter Tryz.func55, Tryz.ntmps55
    go_wp2_with fail
    refine H1.mono ?_
    rintro e w1 ⟨rfl, rfl⟩
    go_wp2
    go_ret
    exact ⟨ret_str hF.out.symm, Below.refl _ _⟩

end Go.Proofs.YtdgfbnnohnaoaaaGreatDoor


