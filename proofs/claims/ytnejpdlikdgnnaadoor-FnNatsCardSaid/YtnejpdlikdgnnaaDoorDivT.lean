/-
  The model's own division: rows that are known to have an address, and 'append' of a whole row.
-/
import Derived.Test.YtnejpdlikdgnnaaDoorDivN
import Derived.Test.YtnejpdlikdgnnaaDoorArD
namespace Go.Proofs.YtnejpdlikdgnnaaDoor
open Go.ChangeShapes Go.WideShapes Go.ChangeAt Go.RowKit
open Go.ChangeMaps (open_string shut_string)
set_option linter.unusedVariables false
set_option linter.unusedSimpArgs false
set_option maxRecDepth 4000

/-- As MadeI; and the slice has an address. -/
def MadeS (B : Nat) (L : List Int) (w : World) (e : Ending) (w' : World) : Prop :=
  ∃ ad c, e = .returned (.slice (some ad) L.length c) ∧ L.length ≤ c ∧ OwnS B w' (some ad) (vi L) ∧ Below w.heap.size w w'
theorem MadeS.after {B : Nat} {L : List Int} {w w1 w2 : World} {e : Ending} (h : MadeS B L w1 e w2) (hb : Below w.heap.size w w1) : MadeS B L w e w2 := by
  obtain ⟨A, c, he, hc, ho, hb2⟩ := h
  exact ⟨A, c, he, hc, ho, bt hb hb2⟩

theorem append_ints {ops : Array Oper} {rest : List Oper} {o : Oper} {a : Act} {Q : Exit → Act → World → Prop} (hgd : o.guard = none) (f x : Operand)
    (ho : o.op = .call { callee := .builtin .append, args := #[f, x], argTypes := #[23, 23] })
    (B n m c : Nat) (v : Value) (xs ys : List Int) (ad : Addr) (w : World) (hf : a.eval f = v) (hx : a.eval x = .slice (some ad) m c)
    (hown : w.ownsRow B 3 1 v n (vi xs)) (hn : n ≤ 1048576) (hm : m ≤ 1048576) (hl : ys.length = m) (hr : RdS w (some ad) (vi ys)) (hB : B ≤ w.heap.size)
    (h : ∀ v' w', w'.ownsRow B 3 1 v' (n + m) (vi (xs ++ ys)) → Below B w w' → w.heap.size ≤ w'.heap.size → wpList Tryd.prog ops Q rest (a.put o.dst v') w') :
    wpList Tryd.prog ops Q (o :: rest) a w := by
  obtain ⟨i0, hi, hz0, hz1, hz2⟩ := info_parts int_info
  refine wpList_append_own w hgd f x 23 ho B 3 i0 _ 1 8 Tryd.underlying23 hi hz0 hz1 hz2 rfl (by decide) v n (vi xs) hf hown ad m c (vi ys) hx (by rw [vi_length, hl, Nat.mul_one]) ?_ ?_ (by simp only [maxLen]; omega) (by omega) hB ?_
  · intro j u hu
    have hj : j < (vi ys).length := (List.getElem?_eq_some_iff.1 hu).1
    obtain ⟨b', o', ha, _, hc⟩ := hr.block (by omega)
    injection ha with ha
    subst ha
    rw [add_plain, hc j hj, hu]
  · intro u hu
    obtain ⟨y, _, rfl⟩ := List.mem_map.1 hu
    rfl
  · intro v' w' h1 h2 _
    refine h v' w' (by rw [vi_append]; exact h1) ?_ h2.size
    refine (Below.refl B w).grown h2 hB (fun g hg => ?_)
    rcases hown.2 with ⟨rfl, _⟩ | ⟨g', cap, cur, rfl, hbg, _⟩
    · simp [Value.ownBlock] at hg
    · simp [Value.ownBlock] at hg
      omega

set_option maxHeartbeats 400000 in
theorem trim_s (B n c T : Nat) (A : Option Addr) (w : World) (h0n : 0 < n) (ho : OwnS B w A (vi (row n T))) (hT : ln T ≤ n) (hc : n ≤ c) (hn : n ≤ 1048576) :
    Calls Tryd.prog 54 #[.slice A n c] w (MadeS B (nd T) w) := by
  obtain ⟨g, rfl, hBg, hgw, hcell, hfr⟩ := ho.block (by rw [vi_length, row_length]; omega)
  have hrd := ho.rd
  have HO := Lib.hid ho
  clear ho hcell hfr
  go_enter Tryd.func54, Tryd.ntmps54
  go_wp2
  go_loop [3] (fun i => ∃ k : Nat, k ≤ n ∧ ln T ≤ k ∧ i = .int .i64 (k : Int)) (fun i => (intOf i).toNat)
  case atStart => exact ⟨n, Nat.le_refl _, hT, rfl⟩
  case round =>
    obtain ⟨k, hk, hTk, rfl⟩ := hrel
    by_cases hz : 0 < k ∧ dgt T (k - 1) = 0
    · have hc1 := hrd.int_at (row_get (n := n) (i := k - 1) T (by omega))
      rw [Nat.zero_add] at hc1
      have h2 := trim_step hz.1 hTk hz.2
      have hp := hz.1
      rw [hz.2] at hc1
      have hk1 : ((k : Int) - 1) = ((k - 1 : Nat) : Int) := by omega
      have hk0 : (0 : Int) ≤ (k : Int) - 1 := by omega
      have hk2 : (k : Int) - 1 < (n : Int) := by omega
      have hkt : ((k : Int) - 1).toNat = k - 1 := by omega
      clear hz
      go_wp2
      go_round
      case rel => exact ⟨k - 1, by omega, h2, by go_num⟩
      case measure => simp [intOf]; omega
    · have hkT : Hid (ln T = k) := by
        refine Lib.hid ?_
        by_cases h0 : 0 < k
        · exact trim_stop h0 hTk (fun e => hz ⟨h0, e⟩)
        · omega
      have fin : MadeS B (nd T) w (.returned (.slice (some ⟨g, 0, none⟩) k c)) w := by
        refine ⟨⟨g, 0, none⟩, c, by rw [nd_length, hkT.out], by rw [nd_length, hkT.out]; omega, ?_, Below.refl _ _⟩
        have h1 := HO.out.take k
        rw [← vi_take, row_take T hk] at h1
        unfold nd
        rw [hkT.out]
        exact h1
      by_cases h0 : 0 < k
      · have hc1 := hrd.int_at (row_get (n := n) (i := k - 1) T (by omega))
        rw [Nat.zero_add] at hc1
        have hne : dgt T (k - 1) ≠ 0 := fun e => hz ⟨h0, e⟩
        have hk1 : ((k : Int) - 1) = ((k - 1 : Nat) : Int) := by omega
        clear hz
        generalize dgt T (k - 1) = x at hc1 hne
        have q : (x == 0) = false := by rw [beq_eq_false_iff_ne]; exact hne
        go_wp2
        go_ret
        exact fin
      · obtain rfl : k = 0 := by omega
        go_wp2
        go_ret
        exact fin

end Go.Proofs.YtnejpdlikdgnnaaDoor

namespace Go.Proofs.YtnejpdlikdgnnaaDoor
open Go.ChangeShapes Go.WideShapes Go.ChangeAt Go.RowKit
open Go.ChangeMaps (open_string shut_string)
set_option linter.unusedVariables false
set_option linter.unusedSimpArgs false
set_option maxRecDepth 4000

theorem small_gen {A x z d B : Nat} (h : A = z + d * (x * B)) (hd : 0 < d) (h7 : z / d < B) : A / d % B = z / d ∧ A % d = z % d := by
  subst h
  exact ⟨by rw [Nat.add_mul_div_left _ _ hd, Nat.add_mul_mod_self_right, Nat.mod_eq_of_lt h7], by rw [Nat.add_mul_mod_self_left]⟩
/-- One limb more of the number: its quotient's limb and what is left. -/
theorem small_step {a d j : Nat} (hd : 0 < d) :
    ((a / pn (j + 1) % d) * 1000000000 + a / pn j % 1000000000) / d = quo a d j ∧ ((a / pn (j + 1) % d) * 1000000000 + a / pn j % 1000000000) % d = a / pn j % d := by
  have h1 : a / pn (j + 1) = a / pn j / 1000000000 := by rw [pn_succ, Nat.div_div_eq_div_mul]
  have h2 := Nat.div_add_mod (a / pn j) 1000000000
  have h3 := Nat.div_add_mod (a / pn (j + 1)) d
  have h4 := Nat.mod_lt (a / pn (j + 1)) hd
  rw [← h1] at h2
  generalize a / pn (j + 1) / d = x at h3
  generalize a / pn (j + 1) % d = r at h3 h4 ⊢
  generalize a / pn (j + 1) = A' at h2 h3
  have h5 : a / pn j = (r * 1000000000 + a / pn j % 1000000000) + d * (x * 1000000000) := by
    have : d * (x * 1000000000) = d * x * 1000000000 := (Nat.mul_assoc _ _ _).symm
    omega
  have h6 : quo a d j = (a / pn j) / d % 1000000000 := by unfold quo; rw [Nat.div_div_eq_div_mul, Nat.div_div_eq_div_mul, Nat.mul_comm]
  have h7 : (r * 1000000000 + a / pn j % 1000000000) / d < 1000000000 := by
    rw [Nat.div_lt_iff_lt_mul hd]
    have h8 := Nat.mod_lt (a / pn j) (show 0 < 1000000000 by decide)
    have h9 : (r + 1) * 1000000000 ≤ d * 1000000000 := Nat.mul_le_mul_right _ h4
    rw [Nat.mul_comm 1000000000]
    omega
  have h8 := small_gen h5 hd h7
  rw [h6]
  exact ⟨h8.1.symm, h8.2.symm⟩

end Go.Proofs.YtnejpdlikdgnnaaDoor

namespace Go.Proofs.YtnejpdlikdgnnaaDoor
open Go.ChangeShapes Go.WideShapes Go.ChangeAt Go.RowKit
open Go.ChangeMaps (open_string shut_string)
set_option linter.unusedVariables false
set_option linter.unusedSimpArgs false
set_option maxRecDepth 4000

end Go.Proofs.YtnejpdlikdgnnaaDoor

namespace Go.Proofs.YtnejpdlikdgnnaaDoor
open Go.ChangeShapes Go.WideShapes Go.ChangeAt Go.RowKit
open Go.ChangeMaps (open_string shut_string)
set_option linter.unusedVariables false
set_option linter.unusedSimpArgs false
set_option maxRecDepth 4000

theorem OwnS.set_low {B g o : Nat} {w : World} {A : Option Addr} {l : List Value} {u : Value} (h : OwnS B w A l) (hg : g < B) : OwnS B (w.setCell ⟨g, o, none⟩ u) A l :=
  h.far (C := w.heap.size) (fun k hk _ => Below.heap_setCell w ⟨g, o, none⟩ u k (by intro e; simp at e; omega)) (Nat.le_refl _) (by simp [World.setCell])
theorem lit_int (B : Nat) (w : World) (x : Int) (hB : B ≤ w.heap.size) : (w.alloc (.cells #[.int .i64 x] 3)).ownsRow B 3 1 (.slice (some ⟨w.heap.size, 0, none⟩) 1 1) 1 (vi [x]) :=
  ⟨rfl, .inr ⟨w.heap.size, 1, #[.int .i64 x], rfl, hB, heap_alloc_new w _, Nat.le_refl _, by simp [maxLen], rfl, rfl⟩⟩
theorem cons_row {R z : Nat} (hz : z < 1000000000) : [(z : Int)] ++ nd R = row (1 + ln R) ((R * 1000000000 + z : Nat) : Int) := by
  rw [Nat.add_comm, row_cons]
  have h1 : ((R * 1000000000 + z : Nat) : Int) % 1000000000 = (z : Int) := by omega
  have h2 : ((R * 1000000000 + z : Nat) : Int) / 1000000000 = (R : Int) := by omega
  rw [h1, h2]
  rfl
theorem cons_ln {R z : Nat} (hz : z < 1000000000) : ln (R * 1000000000 + z) ≤ 1 + ln R := by
  refine pn_lt ?_
  have h := lt_pn (Nat.le_refl (ln R))
  have e : pn (1 + ln R) = pn (ln R) * 1000000000 := by rw [Nat.add_comm]; exact pn_succ _
  rw [e]
  omega
/-- Two rows as the model's division answers. -/
def PairS (L M : List Int) (w : World) (e : Ending) (w' : World) : Prop :=
  ∃ A c D d, e = .returned (.tuple #[.slice A L.length c, .slice D M.length d]) ∧ L.length ≤ c ∧ OwnS w.heap.size w' A (vi L) ∧ OwnS w.heap.size w' D (vi M) ∧ Below w.heap.size w w'

end Go.Proofs.YtnejpdlikdgnnaaDoor

namespace Go.Proofs.YtnejpdlikdgnnaaDoor
open Go.ChangeShapes Go.WideShapes Go.ChangeAt Go.RowKit
open Go.ChangeMaps (open_string shut_string)
set_option linter.unusedVariables false
set_option linter.unusedSimpArgs false
set_option maxRecDepth 4000

/-- Whether 'NatDiv' has an answer. -/
def okD (l m : List Int) : Bool := ok l && ok m && decide (m ≠ [])
def divQ (l m : List Int) : List Int := if okD l m then nd (val l / val m) else []
def divR (l m : List Int) : List Int := if okD l m then nd (val l % val m) else []
theorem div_no {l m : List Int} (h : okD l m = false) : divQ l m = [] ∧ divR l m = [] := by unfold divQ divR; rw [h]; exact ⟨rfl, rfl⟩
theorem div_yes {a b : Nat} (h : okD (nd a) (nd b) = true) : divQ (nd a) (nd b) = nd (a / b) ∧ divR (nd a) (nd b) = nd (a % b) := by unfold divQ divR; rw [h, val_nd, val_nd]; exact ⟨rfl, rfl⟩
theorem PairS.nil (w : World) : PairS [] [] w (.returned (.tuple #[.slice none 0 0, .slice none 0 0])) w := ⟨none, 0, none, 0, rfl, Nat.le_refl _, .inl rfl, .inl rfl, Below.refl _ _⟩
theorem div_len (l m : List Int) : (divQ l m).length ≤ 60 ∧ (divR l m).length ≤ 60 := by
  by_cases h : okD l m = true
  · have h' := h
    unfold okD at h'
    simp only [Bool.and_eq_true] at h'
    obtain ⟨a, rfl, ha⟩ := ok_nd h'.1.1
    obtain ⟨b, rfl, hb⟩ := ok_nd h'.1.2
    rw [(div_yes h).1, (div_yes h).2, nd_length, nd_length]
    have h1 := ln_mono (Nat.div_le_self a b)
    have h2 := ln_mono (Nat.mod_le a b)
    omega
  · have h' : okD l m = false := by simpa using h
    rw [(div_no h').1, (div_no h').2]
    simp

set_option maxHeartbeats 500000 in
theorem impl_divL (l m : List Int) (A D : Option Addr) (n c n' d : Nat) (w : World) (hl : l.length = n) (hm : m.length = n') (hn : n ≤ 9223372036854775807) (hn' : n' ≤ 9223372036854775807) (hA : RdS w A (vi l)) (hD : RdS w D (vi m)) :
    Calls Tryd.prog 7 #[.slice A n c, .slice D n' d] w (Pair2 w.heap.size (divQ l m) (divR l m) w) := by
  have H1 := are_any l m A D n c n' d w hl hm hn hn' hA hD
  by_cases h : (ok l && ok m) = true
  · by_cases h3 : n' = 0
    · rw [h] at H1
      have hk : okD l m = false := by unfold okD; rw [List.eq_nil_of_length_eq_zero (hm.trans h3)]; simp
      rw [(div_no hk).1, (div_no hk).2]
      subst h3
      clear hk h hl hm
      go_enter Tryd.func7, Tryd.ntmps7
      go_wp2_with fail
      refine H1.mono ?_
      rintro e w1 ⟨rfl, rfl⟩
      go_wp2_with fail
      go_ret2
      exact Pair2.nil _ _
    · have hk : okD l m = true := by
        unfold okD
        rw [h, decide_eq_true (by rintro rfl; exact h3 hm.symm)]
        rfl
      rw [Bool.and_eq_true] at h
      obtain ⟨a, rfl, ha⟩ := ok_nd h.1
      obtain ⟨b, rfl, hb⟩ := ok_nd h.2
      rw [(div_yes hk).1, (div_yes hk).2]
      rw [nd_length] at hl hm
      exact impl_div a b A D n c n' d w hl hm (by omega) (by omega) (by omega) hA hD
  · have h' : (ok l && ok m) = false := by simpa using h
    rw [h'] at H1
    have hk : okD l m = false := by unfold okD; rw [h']; rfl
    rw [(div_no hk).1, (div_no hk).2]
    clear h h' hl hm hk
    go_enter Tryd.func7, Tryd.ntmps7
    go_wp2_with fail
    refine H1.mono ?_
    rintro e w1 ⟨rfl, rfl⟩
    go_wp2_with fail
    go_ret2
    exact Pair2.nil _ _
end Go.Proofs.YtnejpdlikdgnnaaDoor

