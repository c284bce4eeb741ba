/-
  What the harness' own functions of the exact laws do over slices of strings: 'eqStringS', 'markStringS', 'heldStringS'.
-/
import Derived.Test.YtojcbdlgecppjaaOwn
import Derived.Test.YtojcbdlgecppjaaMark
import Derived.Outline
import Derived.Deep.RegionHeld3
namespace Go.Proofs.Ytojcbdlgecppjaa
open Go.ChangeShapes Go.WideShapes Go.ChangeAt Go.RowKit
open Go.ChangeMaps (open_string shut_string)
set_option linter.unusedVariables false
set_option linter.unusedSimpArgs false

theorem ret_bool' {a b : Bool} (h : a = b) : Ending.returned (.bool a) = .returned (.bool b) := by rw [h]

theorem toList_ne {s t : ByteArray} (h : ¬ s = t) : (s.toList == t.toList) = false := by
  rw [beq_eq_false_iff_ne]
  intro e
  rw [ByteArray.toList_eq, ByteArray.toList_eq] at e
  apply h
  obtain ⟨⟨a⟩⟩ := s
  obtain ⟨⟨b⟩⟩ := t
  simpa using e

set_option maxHeartbeats 800000 in
theorem eqStringS_any (l m : List ByteArray) (A D : Option Addr) (n n' c d : Nat) (w : World) (hl : l.length = n) (hm : m.length = n') (hn : n ≤ 4611686018427387904) (hn' : n' ≤ 4611686018427387904)
    (hA : RdS w A (vs l)) (hD : RdS w D (vs m)) :
    Calls Try.prog 15 #[.slice A n c, .slice D n' d] w fun e w' => e = .returned (.bool (decide (l = m))) ∧ Below w.heap.size w w' := by
  have HL := Lib.hid hl
  have HM := Lib.hid hm
  clear hl hm
  by_cases hne : n = n'
  · subst hne
    go_enter Try.func15, Try.ntmps15
    go_wp2
    go_loopw [5] (fun i w' => ∃ k : Nat, k ≤ n ∧ i = .int .i64 k ∧ AgreeTo l m k ∧ Below w.heap.size w w') (fun i _ => n - (intOf i).toNat)
    case atStart => exact ⟨0, Nat.zero_le _, rfl, AgreeTo.zero _ _, Below.refl _ _⟩
    case round =>
      obtain ⟨k, hk, rfl, hag0, hb⟩ := hrel
      have hag := Lib.hid hag0
      clear hag0
      by_cases hlt : k < n
      · obtain ⟨b1, o1, rfl, hb1, hc1⟩ := (hA.below hb).block (by rw [vs_length, HL.out]; omega)
        obtain ⟨b2, o2, rfl, hb2, hc2⟩ := (hD.below hb).block (by rw [vs_length, HM.out]; omega)
        have e1 := hc1 k (by rw [vs_length, HL.out]; exact hlt)
        have e2 := hc2 k (by rw [vs_length, HM.out]; exact hlt)
        rw [vs_get (by rw [HL.out]; exact hlt)] at e1
        rw [vs_get (by rw [HM.out]; exact hlt)] at e2
        clear hc1 hc2
        have hi0 : (0 : Int) ≤ (k : Int) := by omega
        have hi1 : (k : Int) < (n : Int) := by omega
        generalize hs : l[k]'(by rw [HL.out]; exact hlt) = s at e1
        generalize ht : m[k]'(by rw [HM.out]; exact hlt) = t at e2
        have Hs := Lib.hid hs
        have Ht := Lib.hid ht
        clear hs ht
        by_cases hst : s = t
        · subst hst
          go_wp2
          go_quiet (fail)
          go_wp2
          go_roundw
          case rel =>
            refine ⟨k + 1, by omega, by go_num, hag.out.succ ?_, below_drewN hb _⟩
            rw [List.getElem?_eq_getElem (by rw [HL.out]; exact hlt), List.getElem?_eq_getElem (by rw [HM.out]; exact hlt), Hs.out, Ht.out]
          case measure => simp [intOf]; omega
        · have q := toList_ne hst
          have Hf : Hid (decide (l = m) = false) := by
            refine Lib.hid (decide_eq_false (fun h => hst ?_))
            rw [← Hs.out, ← Ht.out]
            simp only [h]
          clear hst
          go_wp2
          go_quiet (fail)
          go_wp2
          go_ret
          exact ⟨ret_bool' (by rw [Hf.out]), below_drewN hb _⟩
      · obtain rfl : k = n := by omega
        have Hf : Hid (decide (l = m) = true) := by
          refine Lib.hid (decide_eq_true (AgreeTo.all ?_ (by rw [HL.out, HM.out])))
          rw [HL.out]; exact hag.out
        go_wp2
        go_ret
        exact ⟨ret_bool' (by rw [Hf.out]), hb⟩
  · have Hf : Hid (decide (l = m) = false) := Lib.hid (decide_eq_false (fun h => hne (by rw [← HL.out, ← HM.out, h])))
    have q : ((n : Int) != (n' : Int)) = true := by rw [bne_iff_ne]; omega
    go_enter Try.func15, Try.ntmps15
    go_wp2
    go_ret
    exact ⟨ret_bool' (by rw [Hf.out]), Below.refl _ _⟩

/-- The marks k, k + 1, .. of n places. -/
def marks (k n : Nat) : List ByteArray := (List.range n).map (fun i => mt (k + i))
theorem marks_length (k n : Nat) : (marks k n).length = n := by simp [marks]
theorem marks_get {k n j : Nat} (h : j < n) : (vs (marks k n))[j]? = some (.string (mt (k + j))) := by simp [vs, marks, h]

theorem vs_marks (k n : Nat) : vs (marks k n) = (List.range n).map (fun j => Value.string (mt (k + j))) := by simp [vs, marks]

set_option maxHeartbeats 800000 in
theorem markStringS_any (B : Nat) (l : List Value) (A : Option Addr) (n c k : Nat) (w : World) (hl : l.length = n) (hk : 0 < k) (hn : k + n ≤ 4611686018427387904) (hA : OwnS B w A l) :
    Calls Try.prog 16 #[.slice A n c, .int .i64 (k : Int)] w fun e w' => e = .returned (.int .i64 ((k + n : Nat) : Int)) ∧ OwnS B w' A (vs (marks k n)) ∧ w.grownBy w' (rowOf n A) := by
  have hst := Filling.start hA hl (fun j => .string (mt (k + j)))
  clear hl hA
  go_enter Try.func16, Try.ntmps16
  go_wp2
  go_loopw [1, 5] (fun q i w' => ∃ j : Nat, j ≤ n ∧ i = .int .i64 (j : Int) ∧ q = .int .i64 ((k : Int) + (j : Int)) ∧ Filling B w w' A n (fun j => .string (mt (k + j))) j) (fun _ i _ => n - (intOf i).toNat)
  case atStart => exact ⟨0, Nat.zero_le _, rfl, by go_num, hst⟩
  case round =>
    obtain ⟨j, hj, rfl, rfl, hfl⟩ := hrel
    clear hst
    by_cases hlt : j < n
    · obtain ⟨g, u, rfl, hg, hcu, hfr⟩ := hfl.at_ hlt
      have h1 : (0 : Int) < (k : Int) + (j : Int) := by omega
      have h2 : (k : Int) + (j : Int) ≤ 4611686018427387904 := by omega
      go_wp2_with fail
      refine (markText_sum _ _ _ h1 h2).mono ?_
      rintro e w1 ⟨rfl, hb1⟩
      have hc1 : w1.cell? ⟨g, j, none⟩ = some u := by rw [hb1.cell (p := ⟨g, j, none⟩) hg]; exact hcu
      have hf1 : w1.frozen? ⟨g, j, none⟩ = false := by rw [hb1.frozen (p := ⟨g, j, none⟩) hg]; exact hfr
      go_wp2
      go_roundw
      case rel => exact ⟨j + 1, by omega, by go_num, by go_num, (hfl.below hb1).step hlt rfl⟩
      case measure => simp [intOf]; omega
    · obtain rfl : j = n := by omega
      go_wp2
      go_ret
      exact ⟨by go_num, by rw [vs_marks]; exact hfl.done, hfl.1⟩

theorem held_keep {wr W w1 : World} {a : Addr} {v : Value} (hl : a.block < wr.heap.size) (h1 : W.cell? a = some v) (h2 : Below wr.heap.size wr W) (hb : Below W.heap.size W w1) : w1.cell? a = some v ∧ Below wr.heap.size wr w1 :=
  ⟨by rw [hb.cell (p := a) (Nat.lt_of_lt_of_le hl h2.size)]; exact h1, h2.trans (hb.mono h2.size)⟩

set_option maxHeartbeats 800000 in
theorem heldStringS_any (A : Option Addr) (n c k : Nat) (w : World) (hk : 0 < k) (hn : k + n ≤ 4611686018427387904) (hA : RdS w A (vs (marks k n))) :
    Calls Try.prog 17 #[.slice A n c, .int .i64 (k : Int)] w fun e w' => e = .returned (.int .i64 ((k + n : Nat) : Int)) ∧ Below w.heap.size w w' := by
  go_enter Try.func17, Try.ntmps17
  go_wp2
  go_loopw [1, 5] (fun q i w' => ∃ j : Nat, j ≤ n ∧ i = .int .i64 (j : Int) ∧ q = .int .i64 ((k : Int) + (j : Int)) ∧ Below w.heap.size w w') (fun _ i _ => n - (intOf i).toNat)
  case atStart => exact ⟨0, Nat.zero_le _, rfl, by go_num, Below.refl _ _⟩
  case round =>
    obtain ⟨j, hj, rfl, rfl, hb⟩ := hrel
    by_cases hlt : j < n
    · obtain ⟨b1, o1, rfl, hbl, hc1⟩ := (hA.below hb).block (by rw [vs_length, marks_length]; omega)
      have e1 := hc1 j (by rw [vs_length, marks_length]; exact hlt)
      rw [marks_get hlt] at e1
      clear hc1 hA
      have h1 : (0 : Int) < (k : Int) + (j : Int) := by omega
      have h2 : (k : Int) + (j : Int) ≤ 4611686018427387904 := by omega
      have hi0 : (0 : Int) ≤ (j : Int) := by omega
      have hi1 : (j : Int) < (n : Int) := by omega
      go_wp2_with fail
      go_region_held3 (fun w' => w'.cell? ⟨b1, o1 + j, none⟩ = some (.string (mt (k + j))) ∧ Below wr.heap.size wr w')
        (first | (exact ⟨e1, (Below.refl _ _).drew⟩) | (go_split_ands; exact held_keep hbl (by assumption) (by assumption) hbc))
        ((go_at_call 29; refine (markText_sum _ _ _ h1 h2).mono ?_; rintro e w1 ⟨rfl, hbc⟩))
      have hbw : Below w.heap.size w w1 := hb.trans ((‹_ ∧ Below wr.heap.size wr w1›).2.mono hb.size)
      go_wp2
      go_roundw
      case rel => exact ⟨j + 1, by omega, by go_num, by go_num, hbw⟩
      case measure => simp [intOf]; omega
    · obtain rfl : j = n := by omega
      go_wp2
      go_ret
      exact ⟨by go_num, hb⟩

/-- One more than the number of places: what the harness counts up to. -/
def mk1 (n : Nat) : Int := 1 + (n : Int)
theorem mk1_nonneg (n : Nat) : 0 ≤ mk1 n := by unfold mk1; omega
/-- The harness' three at their calls in the laws. -/
theorem eqStringS_same (l : List ByteArray) (A D : Option Addr) (c d : Nat) (w : World) (hn : (vs l).length ≤ 4611686018427387904) (hA : RdS w A (vs l)) (hD : RdS w D (vs l)) :
    Calls Try.prog 15 #[.slice A (vs l).length c, .slice D (vs l).length d] w fun e w' => e = .returned (.bool true) ∧ Below w.heap.size w w' :=
  (eqStringS_any l l A D _ _ c d w (vs_length l).symm (vs_length l).symm hn hn hA hD).mono fun e w' ⟨he, hb⟩ => ⟨by rw [he, decide_eq_true rfl], hb⟩
theorem markStringS_one (B : Nat) (l : List Value) (A : Option Addr) (c : Nat) (w : World) (hn : l.length ≤ 4611686018427387) (hA : OwnS B w A l) :
    Calls Try.prog 16 #[.slice A l.length c, .int .i64 1] w fun e w' => e = .returned (.int .i64 (mk1 l.length)) ∧ OwnS B w' A (vs (marks 1 l.length)) ∧ w.grownBy w' (rowOf l.length A) :=
  (markStringS_any B l A l.length c 1 w rfl (by omega) (by omega) hA).mono fun e w' ⟨he, h1, h2⟩ => ⟨by rw [he]; rfl, h1, h2⟩
theorem heldStringS_one (A : Option Addr) (n c : Nat) (w : World) (hn : n ≤ 4611686018427387) (hA : RdS w A (vs (marks 1 n))) :
    Calls Try.prog 17 #[.slice A n c, .int .i64 1] w fun e w' => e = .returned (.int .i64 (mk1 n)) ∧ Below w.heap.size w w' :=
  (heldStringS_any A n c 1 w (by omega) (by omega) hA).mono fun e w' ⟨he, h1⟩ => ⟨by rw [he]; rfl, h1⟩
end Go.Proofs.Ytojcbdlgecppjaa
