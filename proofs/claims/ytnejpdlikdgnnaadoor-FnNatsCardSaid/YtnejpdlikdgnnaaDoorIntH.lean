/-
  What the harness' own functions of the exact laws do over slices of ints: 'toIntS', 'eqIntS', 'markIntS', 'heldIntS'.
-/
import Derived.Test.YtnejpdlikdgnnaaDoorInts
import Derived.Outline
namespace Go.Proofs.YtnejpdlikdgnnaaDoor
open Go.ChangeShapes Go.WideShapes Go.ChangeAt Go.RowKit
open Go.ChangeMaps (open_string shut_string)
set_option linter.unusedVariables false
set_option linter.unusedSimpArgs false
set_option maxRecDepth 4000

theorem ret_bool' {a b : Bool} (h : a = b) : Ending.returned (.bool a) = .returned (.bool b) := by rw [h]
theorem int_info : (Tryd.prog.info? 3).map (fun i => (i.zero, i.size, i.bytes)) = some (some (.int .i64 0), 1, 8) := by kernel_rfl
/-- A slice value, whatever its capacity, that reads as l in a row of the call's own. -/
def MadeI (B : Nat) (L : List Int) (w : World) (e : Ending) (w' : World) : Prop :=
  ∃ A c, e = .returned (.slice A L.length c) ∧ L.length ≤ c ∧ OwnS B w' A (vi L) ∧ Below w.heap.size w w'
/-- The first k elements agree. -/
def AgI (l m : List Int) (k : Nat) : Prop := ∀ j, j < k → l[j]? = m[j]?
theorem AgI.zero (l m : List Int) : AgI l m 0 := fun _ h => absurd h (by omega)
theorem AgI.succ {l m : List Int} {k : Nat} (h : AgI l m k) (h1 : l[k]? = m[k]?) : AgI l m (k + 1) := fun j hj => by
  rcases Nat.lt_or_ge j k with h2 | h2
  · exact h j h2
  · obtain rfl : j = k := by omega
    exact h1
theorem AgI.all {l m : List Int} (h : AgI l m l.length) (hl : l.length = m.length) : l = m := by
  apply List.ext_getElem?
  intro j
  rcases Nat.lt_or_ge j l.length with h2 | h2
  · exact h j h2
  · rw [List.getElem?_eq_none h2, List.getElem?_eq_none (by omega)]

set_option maxHeartbeats 800000 in
theorem eqIntS_any (l m : List Int) (A D : Option Addr) (n n' c d : Nat) (w : World) (hl : l.length = n) (hm : m.length = n') (hn : n ≤ 4611686018427387904) (hn' : n' ≤ 4611686018427387904)
    (hA : RdS w A (vi l)) (hD : RdS w D (vi m)) :
    Calls Tryd.prog 47 #[.slice A n c, .slice D n' d] w fun e w' => e = .returned (.bool (decide (l = m))) ∧ Below w.heap.size w w' := by
  have HL := Lib.hid hl
  have HM := Lib.hid hm
  clear hl hm
  by_cases hne : n = n'
  · subst hne
    go_enter Tryd.func47, Tryd.ntmps47
    go_wp2
    go_loopw [5] (fun i w' => ∃ k : Nat, k ≤ n ∧ i = .int .i64 k ∧ AgI l m k ∧ Below w.heap.size w w') (fun i _ => n - (intOf i).toNat)
    case atStart => exact ⟨0, Nat.zero_le _, rfl, AgI.zero _ _, Below.refl _ _⟩
    case round =>
      obtain ⟨k, hk, rfl, hag0, hb⟩ := hrel
      have hag := Lib.hid hag0
      clear hag0
      by_cases hlt : k < n
      · have hs0 : l[k]? = some (l[k]'(by rw [HL.out]; exact hlt)) := List.getElem?_eq_getElem _
        have ht0 : m[k]? = some (m[k]'(by rw [HM.out]; exact hlt)) := List.getElem?_eq_getElem _
        obtain ⟨b1, o1, rfl, hb1, e1⟩ := (hA.below hb).int hs0
        obtain ⟨b2, o2, rfl, hb2, e2⟩ := (hD.below hb).int ht0
        have hi0 : (0 : Int) ≤ (k : Int) := by omega
        have hi1 : (k : Int) < (n : Int) := by omega
        generalize l[k]'(by rw [HL.out]; exact hlt) = s at e1 hs0
        generalize m[k]'(by rw [HM.out]; exact hlt) = t at e2 ht0
        have Hs := Lib.hid hs0
        have Ht := Lib.hid ht0
        clear hs0 ht0
        by_cases hst : s = t
        · subst hst
          go_wp2
          go_quiet (fail)
          go_wp2
          go_roundw
          case rel => exact ⟨k + 1, by omega, by go_num, hag.out.succ (by rw [Hs.out, Ht.out]), below_drewN hb _⟩
          case measure => simp [intOf]; omega
        · have q : (s != t) = true := by rw [bne_iff_ne]; exact hst
          have Hf : Hid (decide (l = m) = false) := by
            refine Lib.hid (decide_eq_false (fun h => hst ?_))
            have h1 := Hs.out
            rw [h, Ht.out] at h1
            injection h1 with h1
            exact h1.symm
          clear hst
          go_wp2
          go_quiet (fail)
          go_wp2
          go_ret
          exact ⟨ret_bool' (by rw [Hf.out]), below_drewN hb _⟩
      · obtain rfl : k = n := by omega
        have Hf : Hid (decide (l = m) = true) := by
          refine Lib.hid (decide_eq_true (AgI.all ?_ (by rw [HL.out, HM.out])))
          rw [HL.out]; exact hag.out
        go_wp2
        go_ret
        exact ⟨ret_bool' (by rw [Hf.out]), hb⟩
  · have Hf : Hid (decide (l = m) = false) := Lib.hid (decide_eq_false (fun h => hne (by rw [← HL.out, ← HM.out, h])))
    have q : ((n : Int) != (n' : Int)) = true := by rw [bne_iff_ne]; omega
    go_enter Tryd.func47, Tryd.ntmps47
    go_wp2
    go_ret
    exact ⟨ret_bool' (by rw [Hf.out]), Below.refl _ _⟩
theorem eqIntS_same (l : List Int) (A D : Option Addr) (n c d : Nat) (w : World) (hl : l.length = n) (hn : n ≤ 4611686018427387904) (hA : RdS w A (vi l)) (hD : RdS w D (vi l)) :
    Calls Tryd.prog 47 #[.slice A n c, .slice D n d] w fun e w' => e = .returned (.bool true) ∧ Below w.heap.size w w' :=
  (eqIntS_any l l A D _ _ c d w hl hl hn hn hA hD).mono fun e w' ⟨he, hb⟩ => ⟨by rw [he, decide_eq_true rfl], hb⟩

/-- The marks k, k + 1, .. of n places. -/
def marks (k : Int) (n : Nat) : List Int := (List.range n).map (fun (i : Nat) => k + (i : Int))
theorem marks_length (k : Int) (n : Nat) : (marks k n).length = n := by simp [marks]
theorem marks_get {k : Int} {n j : Nat} (h : j < n) : (marks k n)[j]? = some (k + (j : Int)) := by simp [marks, h]
theorem vi_marks (k : Int) (n : Nat) : vi (marks k n) = (List.range n).map (fun (j : Nat) => Value.int .i64 (k + (j : Int))) := by simp [vi, marks]

set_option maxHeartbeats 800000 in
theorem markIntS_any (B : Nat) (l : List Value) (A : Option Addr) (n c : Nat) (k : Int) (w : World) (hl : l.length = n) (hk : 0 < k) (hn : k + n ≤ 4611686018427387904) (hA : OwnS B w A l) :
    Calls Tryd.prog 50 #[.slice A n c, .int .i64 k] w fun e w' => e = .returned (.int .i64 (k + (n : Int))) ∧ OwnS B w' A (vi (marks k n)) ∧ w.grownBy w' (rowOf n A) := by
  have hst := Filling.start hA hl (fun (j : Nat) => .int .i64 (k + (j : Int)))
  clear hl hA
  go_enter Tryd.func50, Tryd.ntmps50
  go_wp2
  go_loopw [1, 5] (fun q i w' => ∃ j : Nat, j ≤ n ∧ i = .int .i64 (j : Int) ∧ q = .int .i64 (k + (j : Int)) ∧ Filling B w w' A n (fun (j : Nat) => .int .i64 (k + (j : Int))) j) (fun _ i _ => n - (intOf i).toNat)
  case atStart => exact ⟨0, Nat.zero_le _, rfl, by go_num, hst⟩
  case round =>
    obtain ⟨j, hj, rfl, rfl, hfl⟩ := hrel
    clear hst
    by_cases hlt : j < n
    · obtain ⟨g, u, rfl, hg, hcu, hfr⟩ := hfl.at_ hlt
      have h1 : (0 : Int) < k + (j : Int) := by omega
      have h2 : k + (j : Int) ≤ 4611686018427387904 := by omega
      have hi0 : (0 : Int) ≤ (j : Int) := by omega
      have hi1 : (j : Int) < (n : Int) := by omega
      go_wp2
      go_roundw
      case rel => exact ⟨j + 1, by omega, by go_num, by go_num, hfl.step hlt rfl⟩
      case measure => simp [intOf]; omega
    · obtain rfl : j = n := by omega
      go_wp2
      go_ret
      exact ⟨rfl, by rw [vi_marks]; exact hfl.done, hfl.1⟩

set_option maxHeartbeats 800000 in
theorem heldIntS_any (A : Option Addr) (n c : Nat) (k : Int) (w : World) (hk : 0 < k) (hn : k + n ≤ 4611686018427387904) (hA : RdS w A (vi (marks k n))) :
    Calls Tryd.prog 51 #[.slice A n c, .int .i64 k] w fun e w' => e = .returned (.int .i64 (k + (n : Int))) ∧ Below w.heap.size w w' := by
  go_enter Tryd.func51, Tryd.ntmps51
  go_wp2
  go_loopw [1, 5] (fun q i w' => ∃ j : Nat, j ≤ n ∧ i = .int .i64 (j : Int) ∧ q = .int .i64 (k + (j : Int)) ∧ Below w.heap.size w w') (fun _ i _ => n - (intOf i).toNat)
  case atStart => exact ⟨0, Nat.zero_le _, rfl, by go_num, Below.refl _ _⟩
  case round =>
    obtain ⟨j, hj, rfl, rfl, hb⟩ := hrel
    by_cases hlt : j < n
    · obtain ⟨b1, o1, rfl, hbl, e1⟩ := (hA.below hb).int (marks_get hlt)
      clear hA
      have h1 : (0 : Int) < k + (j : Int) := by omega
      have h2 : k + (j : Int) ≤ 4611686018427387904 := by omega
      have hi0 : (0 : Int) ≤ (j : Int) := by omega
      have hi1 : (j : Int) < (n : Int) := by omega
      go_wp2
      go_roundw
      case rel => exact ⟨j + 1, by omega, by go_num, by go_num, hb⟩
      case measure => simp [intOf]; omega
    · obtain rfl : j = n := by omega
      go_wp2
      go_ret
      exact ⟨rfl, hb⟩

/-- One more than the number of places: what the harness counts up to. -/
def mk1 (n : Nat) : Int := 1 + (n : Int)
theorem mk1_pos (n : Nat) : 0 < mk1 n := by unfold mk1; omega
theorem mk1_le (n : Nat) (h : n ≤ 1048576) : mk1 n ≤ 1048577 := by unfold mk1; omega
theorem markIntS_one (B : Nat) (l : List Int) (A : Option Addr) (n c : Nat) (w : World) (hl : l.length = n) (hn : n ≤ 1048576) (hA : OwnS B w A (vi l)) :
    Calls Tryd.prog 50 #[.slice A n c, .int .i64 1] w fun e w' => e = .returned (.int .i64 (mk1 n)) ∧ OwnS B w' A (vi (marks 1 n)) ∧ w.grownBy w' (rowOf n A) :=
  (markIntS_any B (vi l) A n c 1 w (by rw [vi_length, hl]) (by omega) (by omega) hA).mono fun e w' ⟨he, h1, h2⟩ => ⟨by rw [he]; rfl, h1, h2⟩
theorem heldIntS_one (A : Option Addr) (n c : Nat) (w : World) (hn : n ≤ 1048576) (hA : RdS w A (vi (marks 1 n))) :
    Calls Tryd.prog 51 #[.slice A n c, .int .i64 1] w fun e w' => e = .returned (.int .i64 (mk1 n)) ∧ Below w.heap.size w w' :=
  (heldIntS_any A n c 1 w (by omega) (by omega) hA).mono fun e w' ⟨he, h1⟩ => ⟨by rw [he]; rfl, h1⟩

theorem dgt_zero (i : Nat) : dgt 0 i = 0 := by unfold dgt; rw [Int.zero_ediv]; rfl
theorem zeros (n : Nat) : (madeCells (Value.int .i64 0).cells (n * 1)).toList = vi (row n 0) := by
  have h1 : ∀ i : Nat, (Value.int IntKind.i64 0).cells[i % (Value.int IntKind.i64 0).cells.size]! = Value.int .i64 0 := by
    intro i
    show (#[Value.int IntKind.i64 0])[i % 1]! = _
    rw [Nat.mod_one]
    rfl
  apply List.ext_getElem?
  intro j
  rw [Nat.mul_one]
  simp only [madeCells, vi, row, Array.toList_map, Array.toList_range, List.map_map, List.getElem?_map]
  congr 1
  funext i
  simp only [Function.comp_apply, dgt_zero]
  exact h1 i

set_option maxHeartbeats 400000 in
theorem toIntS_any (l : List Int) (A : Option Addr) (n c : Nat) (w : World) (hl : l.length = n) (hn : n ≤ 1048576) (hA : RdS w A (vi l)) :
    Calls Tryd.prog 44 #[.slice A n c] w fun e w' => ∃ g, e = .returned (.slice (some ⟨g, 0, none⟩) n n) ∧ OwnS w.heap.size w' (some ⟨g, 0, none⟩) (vi l) ∧ Below w.heap.size w w' := by
  obtain ⟨i0, hi, hz0, hz1, hz2⟩ := info_parts int_info
  have HL := Lib.hid hl
  clear hl
  go_enter Tryd.func44, Tryd.ntmps44
  go_wp2_with (refine wpList_make_full _ rfl (.tmp 6) (.tmp 6) 23 rfl w.heap.size 3 i0 _ 1 Tryd.underlying23 hi hz0 hz1 .i64 .i64 n n n rfl rfl rfl rfl (by rw [hz2]; omega) (by simp only [maxLen]; omega) (Nat.le_refl _) ?_; intro w1 hown hg)
  have hb1 : Below w.heap.size w w1 := below_of_grown hg (Nat.le_refl _) (fun g h => by cases h)
  have hln : (madeCells (Value.int .i64 0).cells (n * 1)).toList.length = n := by rw [Array.length_toList, size_madeCells, Nat.mul_one]
  have hst := Filling.start (OwnS.of_own hown) hln (fun j => .int .i64 (l.getD j 0))
  clear hown hg hln
  go_wp2
  go_loopw [4] (fun i w' => ∃ j : Nat, j ≤ n ∧ i = .int .i64 (j : Int) ∧ Filling w.heap.size w1 w' (some ⟨w.heap.size, 0, none⟩) n (fun j => .int .i64 (l.getD j 0)) j) (fun i _ => n - (intOf i).toNat)
  case atStart => exact ⟨0, Nat.zero_le _, rfl, hst⟩
  case round =>
    obtain ⟨j, hj, rfl, hfl⟩ := hrel
    clear hst
    have hbw : Below w.heap.size w wr := hb1.trans (below_of_grown hfl.1 hb1.size (fun g hg => by
      unfold rowOf at hg
      split at hg
      · cases hg
      · simp at hg; omega))
    by_cases hlt : j < n
    · obtain ⟨g, u, hgg, hg, hcu, hfr⟩ := hfl.at_ hlt
      obtain rfl : g = w.heap.size := by injection hgg with e; injection e with e1 _ _; exact e1.symm
      clear hgg
      have hjl : j < l.length := by rw [HL.out]; exact hlt
      obtain ⟨b1, o1, rfl, hb1', e1⟩ := (hA.below hbw).int (getElem_of? hjl)
      have hx : Hid (Value.int .i64 l[j] = Value.int .i64 (l.getD j 0)) := Lib.hid (by rw [List.getD_eq_getElem?_getD, List.getElem?_eq_getElem hjl]; rfl)
      generalize hsx : l[j] = s at e1 hx
      clear hsx hjl
      have hi0 : (0 : Int) ≤ (j : Int) := by omega
      have hi1 : (j : Int) < (n : Int) := by omega
      go_wp2
      go_roundw
      case rel => exact ⟨j + 1, by omega, by go_num, hfl.step hlt hx.out⟩
      case measure => simp [intOf]; omega
    · obtain rfl : j = n := by omega
      go_wp2
      go_ret
      refine ⟨_, rfl, ?_, hbw⟩
      have := hfl.done
      have e : (List.range j).map (fun i => Value.int .i64 (l.getD i 0)) = vi l := by
        apply List.ext_getElem?
        intro i
        rw [List.getElem?_map, ← HL.out]
        rcases Nat.lt_or_ge i l.length with h | h
        · rw [vi_get h, List.getElem?_range h]
          simp [List.getD_eq_getElem?_getD, List.getElem?_eq_getElem h]
        · rw [List.getElem?_eq_none (l := List.range l.length) (by simpa using h), List.getElem?_eq_none (by rw [vi_length]; exact h)]
          rfl
      rw [e] at this
      exact this
end Go.Proofs.YtnejpdlikdgnnaaDoor
