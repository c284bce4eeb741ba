/-
  What 'impl.SplitAny' answers.
-/
import Derived.Test.YtojcbdlgecppjaaDoorOwn
namespace Go.Proofs.YtojcbdlgecppjaaDoor
open Go.ChangeShapes Go.WideShapes Go.ChangeAt Go.RowKit
open Go.ChangeMaps (open_string shut_string)
set_option linter.unusedVariables false
set_option linter.unusedSimpArgs false

/-- Byte i of s occurs in y. -/
def sepAt (s y : ByteArray) (i : Nat) : Bool := y.data.toList.contains (s.data.toList.getD i 0)
/-- Where the part begins that holds place i. -/
def frm (s y : ByteArray) : Nat → Nat
  | 0 => 0
  | i + 1 => if sepAt s y i then i + 1 else frm s y i
/-- The parts that end ahead of place i. -/
def pts (s y : ByteArray) : Nat → List ByteArray
  | 0 => []
  | i + 1 => if sepAt s y i then pts s y i ++ [s.extract (frm s y i) i] else pts s y i
/-- The answer. -/
def splits (s y : ByteArray) : List ByteArray := pts s y s.size ++ [s.extract (frm s y s.size) s.size]
theorem frm_le (s y : ByteArray) : ∀ i, frm s y i ≤ i
  | 0 => Nat.le_refl _
  | i + 1 => by
    have := frm_le s y i
    unfold frm
    split <;> omega
theorem pts_le (s y : ByteArray) : ∀ i, (pts s y i).length ≤ i
  | 0 => Nat.le_refl _
  | i + 1 => by
    have := pts_le s y i
    unfold pts
    split
    · simp; omega
    · omega
theorem frm_yes {s y : ByteArray} {i : Nat} (h : sepAt s y i = true) : frm s y (i + 1) = i + 1 := by rw [frm, if_pos h]
theorem frm_no {s y : ByteArray} {i : Nat} (h : sepAt s y i = false) : frm s y (i + 1) = frm s y i := by rw [frm, if_neg (by simp [h])]
theorem pts_yes {s y : ByteArray} {i : Nat} (h : sepAt s y i = true) : pts s y (i + 1) = pts s y i ++ [s.extract (frm s y i) i] := by rw [pts, if_pos h]
theorem pts_no {s y : ByteArray} {i : Nat} (h : sepAt s y i = false) : pts s y (i + 1) = pts s y i := by rw [pts, if_neg (by simp [h])]
theorem getD_byte {s : ByteArray} {i : Nat} (h : i < s.size) : s.data.toList.getD i 0 = s[i]'h := by
  rw [List.getD_eq_getElem?_getD, List.getElem?_eq_getElem (by simpa using h)]; rfl
theorem sep_yes {s y : ByteArray} {i j : Nat} (h : i < s.size) (hj : j < y.size) (he : s[i]'h = y[j]'hj) : sepAt s y i = true := by
  unfold sepAt
  rw [getD_byte h, he, List.contains_iff_mem]
  exact List.mem_of_getElem (i := j) (h := by simpa using hj) rfl
/-- None of the first j bytes of y is byte i of s. -/
def NoSep (s y : ByteArray) (i j : Nat) : Prop := ∀ t, t < j → ∀ (h : i < s.size) (ht : t < y.size), s[i]'h ≠ y[t]'ht
theorem NoSep.zero (s y : ByteArray) (i : Nat) : NoSep s y i 0 := fun _ h => absurd h (by omega)
theorem NoSep.succ {s y : ByteArray} {i j : Nat} (h : NoSep s y i j) (h1 : ∀ (h : i < s.size) (ht : j < y.size), s[i]'h ≠ y[j]'ht) : NoSep s y i (j + 1) := fun t ht => by
  rcases Nat.lt_or_ge t j with h2 | h2
  · exact h t h2
  · obtain rfl : t = j := by omega
    exact h1
theorem NoSep.no {s y : ByteArray} {i : Nat} (h : NoSep s y i y.size) (hi : i < s.size) : sepAt s y i = false := by
  unfold sepAt
  rw [getD_byte hi, ← Bool.not_eq_true, List.contains_iff_mem]
  intro hm
  obtain ⟨t, ht, he⟩ := List.getElem_of_mem hm
  exact h t (by simpa using ht) hi (by simpa using ht) he.symm
theorem byte_ne {a b : UInt8} (h : ¬ a = b) : ((a.toNat : Int) == (b.toNat : Int)) = false := by
  rw [beq_eq_false_iff_ne]
  intro e
  apply h
  apply UInt8.toNat_inj.1
  omega

theorem string_info : (Tryd.prog.info? 9).map (fun i => (i.zero, i.size, i.bytes)) = some (some (.string ⟨#[]⟩), 1, 16) := by kernel_rfl

/-- A slice value, whatever its capacity, that reads as l in a row of the call's own. -/
def Made (B : Nat) (l : List Value) (w : World) (e : Ending) (w' : World) : Prop :=
  ∃ A c, e = .returned (.slice A l.length c) ∧ l.length ≤ c ∧ OwnS B w' A l ∧ Below w.heap.size w w'

/-- 'append(out, t)' of one string, onto a row of the call's own. -/
theorem append_str {ops : Array Oper} {rest : List Oper} {o : Oper} {a : Act} {Q : Exit → Act → World → Prop} (hgd : o.guard = none) (f x : Operand)
    (ho : o.op = .call { callee := .builtin .append, args := #[f, x], argTypes := #[29, 29] })
    (B n : Nat) (v : Value) (xs : List ByteArray) (t : ByteArray) (w : World) (hf : a.eval f = v) (hx : a.eval x = .slice (some ⟨w.heap.size, 0, none⟩) 1 1)
    (hown : w.ownsRow B 9 1 v n (vs xs)) (hn : n ≤ 1099511627776) (hB : B ≤ w.heap.size)
    (h : ∀ v' w', w'.ownsRow B 9 1 v' (n + 1) (vs (xs ++ [t])) → Below B w w' → wpList Tryd.prog ops Q rest (a.put o.dst v') w') :
    wpList Tryd.prog ops Q (o :: rest) a (w.alloc (.cells #[.string t] 9)) := by
  obtain ⟨i0, hi, hz0, hz1, hz2⟩ := info_parts string_info
  refine wpList_append_own (w.alloc (.cells #[.string t] 9)) hgd f x 29 ho B 9 i0 _ 1 16 Tryd.underlying29 hi hz0 hz1 hz2 rfl (by decide) v n (vs xs) hf (hown.alloc _) ⟨w.heap.size, 0, none⟩ 1 1 [.string t] hx rfl ?_ ?_ (by simp only [maxLen]; omega) (by omega) (by simp; omega) ?_
  · intro j u hu
    have hj : j = 0 := by
      have := (List.getElem?_eq_some_iff.1 hu).1
      simpa using this
    subst hj
    simp at hu
    subst hu
    exact World.cell?_alloc_new _ _ _ _
  · simp [Value.oneCell']
  · intro v' w' h1 h2 _
    refine h v' w' (by rw [vs_append]; exact h1) ?_
    refine ((Below.refl B w).alloc hB _).grown h2 (by simp; omega) (fun g hg => ?_)
    rcases hown.2 with ⟨rfl, _⟩ | ⟨g', cap, cur, rfl, hbg, _⟩
    · simp [Value.ownBlock] at hg
    · simp [Value.ownBlock] at hg
      omega

/-- The local table: one cell for each byte. -/
def tab0 : Array Value := Array.replicate 256 (.bool false)
theorem run_alloc_tab (w : World) : (Instr.alloc 46 true (.tuple #[])).run Tryd.prog w = .ok (.pointer (some ⟨w.heap.size, 0, none⟩)) (w.alloc (.cells tab0 46)) := by kernel_rfl
theorem alloc_tab {ops : Array Oper} {rest : List Oper} {o : Oper} {a : Act} {Q : Exit → Act → World → Prop} (hgd : o.guard = none) (ho : o.op = .alloc 46) (w : World)
    (h : wpList Tryd.prog ops Q rest (a.put o.dst (.pointer (some ⟨w.heap.size, 0, none⟩))) (w.alloc (.cells tab0 46))) : wpList Tryd.prog ops Q (o :: rest) a w :=
  wpList_plain hgd fun _ hK => by
    unfold Oper.wp execOp
    simp only [ho, Sem.run_bind, Sem.run_pure, Result.andThen_ok, run_alloc_tab]
    exact hK _ _ h

/-- The table at block g says of each byte whether f holds of it. -/
def TabAt (g : Nat) (wr : World) (f : Nat → Bool) : Prop :=
  g < wr.heap.size ∧ (∀ c, c < 256 → wr.cell? ⟨g, c, none⟩ = some (.bool (f c))) ∧ ∀ c, c < 256 → wr.frozen? ⟨g, c, none⟩ = false
theorem TabAt.new (w : World) : TabAt w.heap.size (w.alloc (.cells tab0 46)) (fun _ => false) := by
  have hh : (w.alloc (.cells tab0 46)).heap[w.heap.size]? = some (.cells tab0 46 (0, 0)) := heap_alloc_new w _
  refine ⟨by simp, fun c hc => ?_, fun c hc => by unfold World.frozen?; rw [hh]; simp⟩
  rw [World.cell?_alloc_new w tab0 46 c]
  simp [tab0, hc]
theorem TabAt.set_ {g : Nat} {wr : World} {f f' : Nat → Bool} (h : TabAt g wr f) {c : Nat} (hc : c < 256) (hf : ∀ d, d < 256 → f' d = (f d || d == c)) : TabAt g (wr.setCell ⟨g, c, none⟩ (.bool true)) f' := by
  obtain ⟨h1, h2, h3⟩ := h
  refine ⟨by simpa using h1, fun d hd => ?_, fun d hd => by rw [World.frozen?_setCell]; exact h3 d hd⟩
  rw [hf d hd]
  by_cases e : d = c
  · subst e
    rw [World.cell?_setCell_same wr ⟨g, d, none⟩ _ (h2 d hd)]
    simp
  · rw [World.cell?_setCell_other wr ⟨g, c, none⟩ ⟨g, d, none⟩ _ (by intro q; injection q with _ q2; exact e q2.symm), h2 d hd]
    simp [e]
theorem TabAt.below {g : Nat} {wr w' : World} {f : Nat → Bool} (h : TabAt g wr f) {B : Nat} (hB : g < B) (hb : Below B wr w') : TabAt g w' f := by
  obtain ⟨h1, h2, h3⟩ := h
  exact ⟨Nat.lt_of_lt_of_le h1 hb.size, fun c hc => by rw [hb.cell (p := ⟨g, c, none⟩) hB]; exact h2 c hc, fun c hc => by rw [hb.frozen (p := ⟨g, c, none⟩) hB]; exact h3 c hc⟩
/-- Byte c is among the first j of y. -/
def amongTo (y : ByteArray) (j c : Nat) : Bool := (y.data.toList.take j).contains (UInt8.ofNat c)
theorem amongTo_zero (y : ByteArray) : amongTo y 0 = fun _ => false := by funext c; simp [amongTo]
theorem amongTo_succ {y : ByteArray} {j : Nat} (h : j < y.size) (d : Nat) (hd : d < 256) : amongTo y (j + 1) d = (amongTo y j d || d == (y[j]'h).toNat) := by
  unfold amongTo
  rw [List.take_succ_eq_append_getElem (by simpa using h), List.contains_append]
  congr 1
  have e : (y.data.toList[j]'(by simpa using h)) = y[j]'h := rfl
  rw [e, Bool.eq_iff_iff]
  simp only [List.contains_cons, List.contains_nil, Bool.or_false, beq_iff_eq]
  constructor
  · intro q
    rw [← q, UInt8.toNat_ofNat_of_lt' (by simpa [UInt8.size] using hd)]
  · intro q
    rw [q, UInt8.ofNat_toNat]
theorem amongTo_all {s y : ByteArray} {k : Nat} (h : k < s.size) : amongTo y y.size (s[k]'h).toNat = sepAt s y k := by
  unfold amongTo sepAt
  rw [getD_byte h, UInt8.ofNat_toNat, List.take_of_length_le (by simp)]

set_option maxHeartbeats 1600000 in
theorem impl_split (s y : ByteArray) (w : World) (hs : s.size ≤ 1048576) (hy : y.size ≤ 1048576) :
    Calls Tryd.prog 11 #[.string s, .string y] w (Made w.heap.size (vs (splits s y)) w) := by
  have ht0 := TabAt.new w
  rw [← amongTo_zero y] at ht0
  go_enter Tryd.func11, Tryd.ntmps11
  go_wp2_with (refine alloc_tab rfl rfl _ ?_)
  go_loopw [12] (fun i w' => ∃ j : Nat, j ≤ y.size ∧ i = .int .i64 (j : Int) ∧ TabAt w.heap.size w' (amongTo y j) ∧ Below w.heap.size w w') (fun i _ => y.size - (intOf i).toNat)
  case atStart => exact ⟨0, Nat.zero_le _, rfl, ht0, (Below.refl _ _).alloc (Nat.le_refl _) _⟩
  case round =>
    obtain ⟨j, hj, rfl, ht, hb⟩ := hrel
    clear ht0
    by_cases hlt : j < y.size
    · have hi2 : (0 : Int) ≤ (j : Int) := by omega
      have hi3 : (j : Int) < (y.size : Int) := by omega
      have hcl := (y[j]'hlt).toNat_lt
      have hc1 : (((y[j]'hlt).toNat : Nat) : Int) < 256 := by omega
      have hcell := ht.2.1 (y[j]'hlt).toNat hcl
      have hfree := ht.2.2 (y[j]'hlt).toNat hcl
      go_wp2
      go_roundw
      case rel => exact ⟨j + 1, by omega, by go_num, ht.set_ hcl (amongTo_succ hlt), hb.setCell (Nat.le_refl _) _⟩
      case measure => simp [intOf]; omega
    · obtain rfl : j = y.size := by omega
      obtain ⟨w2, rfl⟩ : ∃ w2 : World, w2 = wr := ⟨_, rfl⟩
      have hsz := ht.1
      have hstart : (w2.alloc (.cells #[] 9)).ownsRow (w.heap.size + 1) 9 1 (.slice (some ⟨w2.heap.size, 0, none⟩) 0 0) (pts s y 0).length (vs (pts s y 0)) := World.ownsRow_made w2 #[] 0 (by omega) (by simp [maxLen]) rfl
      have ht1 : TabAt w.heap.size (w2.alloc (.cells #[] 9)) (amongTo y y.size) := ht.below (B := w2.heap.size) hsz ((Below.refl _ _).alloc (Nat.le_refl _) _)
      have hb1 : Below w.heap.size w (w2.alloc (.cells #[] 9)) := hb.alloc hb.size _
      clear ht hb
      go_wp2
      go_loopw [7, 8, 23] (fun o f i w' => ∃ k : Nat, k ≤ s.size ∧ i = .int .i64 (k : Int) ∧ f = .int .i64 (frm s y k : Int) ∧ w'.ownsRow (w.heap.size + 1) 9 1 o (pts s y k).length (vs (pts s y k)) ∧ TabAt w.heap.size w' (amongTo y y.size) ∧ Below w.heap.size w w') (fun _ _ i _ => s.size - (intOf i).toNat)
      case atStart => exact ⟨0, Nat.zero_le _, rfl, rfl, hstart, ht1, hb1⟩
      case round =>
        clear hstart ht1 hb1
        obtain ⟨k, hk, rfl, rfl, hown, ht, hb⟩ := hrel
        have hsz := ht.1
        have hf := frm_le s y k
        have hp := pts_le s y k
        by_cases hlt : k < s.size
        · have hi0 : (0 : Int) ≤ (k : Int) := by omega
          have hi1 : (k : Int) < (s.size : Int) := by omega
          have hcl := (s[k]'hlt).toNat_lt
          have hc1 : (((s[k]'hlt).toNat : Nat) : Int) < 256 := by omega
          have hcell := ht.2.1 (s[k]'hlt).toNat hcl
          rw [amongTo_all hlt] at hcell
          by_cases hsep : sepAt s y k = true
          · rw [hsep] at hcell
            have hf1 := Lib.hid (frm_yes hsep)
            have hp1 := Lib.hid (pts_yes hsep)
            clear hsep
            go_wp2_with (at_builtin; refine append_str rfl (.tmp 31) (.tmp 36) rfl (w.heap.size + 1) _ _ (pts s y k) (s.extract (frm s y k) k) wr rfl rfl hown (by omega) (by omega) ?_; intro v' w1 hown1 hb1)
            go_roundw
            case rel => exact ⟨k + 1, by omega, by go_num, by rw [hf1.out]; go_num, by rw [hp1.out, List.length_append]; exact hown1, ht.below (Nat.lt_succ_self _) hb1, hb.trans (hb1.mono (Nat.le_succ _))⟩
            case measure => simp [intOf]; omega
          · have hsep' : sepAt s y k = false := by simpa using hsep
            rw [hsep'] at hcell
            have hf1 := Lib.hid (frm_no hsep')
            have hp1 := Lib.hid (pts_no hsep')
            clear hsep hsep'
            go_wp2
            go_roundw
            case rel => exact ⟨k + 1, by omega, by go_num, by rw [hf1.out], by rw [hp1.out]; exact hown, ht, hb⟩
            case measure => simp [intOf]; omega
        · obtain rfl : k = s.size := by omega
          go_wp2_with (at_builtin; refine append_str rfl (.tmp 41) (.tmp 45) rfl (w.heap.size + 1) _ _ (pts s y s.size) (s.extract (frm s y s.size) s.size) wr rfl rfl hown (by omega) (by omega) ?_; intro v' w1 hown1 hb1)
          go_ret
          have hl : (vs (splits s y)).length = (pts s y s.size).length + 1 := by rw [vs_length]; simp [splits]
          obtain ⟨A, c, rfl, hc, _, _⟩ := own_len hown1
          exact ⟨A, c, by rw [hl]; rfl, by rw [hl]; exact hc, (OwnS.of_own hown1).more (Nat.le_succ _), hb.trans (hb1.mono (Nat.le_succ _))⟩

theorem splits_length (s y : ByteArray) : 0 < (vs (splits s y)).length ∧ (vs (splits s y)).length ≤ s.size + 1 := by
  have := pts_le s y s.size
  rw [vs_length, splits, List.length_append]
  simp
  omega

end Go.Proofs.YtojcbdlgecppjaaDoor
