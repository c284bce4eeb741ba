/-
  'append' of one int onto a row of the call's own.
-/
import Derived.Test.YtmmgcdfifcbabaaGreatDoorIntH
import Derived.WalkSmall
namespace Go.Proofs.YtmmgcdfifcbabaaGreatDoor
open Go.ChangeShapes Go.WideShapes Go.ChangeAt Go.RowKit
open Go.ChangeMaps (open_string shut_string)
set_option linter.unusedVariables false
set_option linter.unusedSimpArgs false
set_option maxRecDepth 4000

theorem append_int {ops : Array Oper} {rest : List Oper} {o : Oper} {a : Act} {Q : Exit → Act → World → Prop} (hgd : o.guard = none) (f x : Operand)
    (ho : o.op = .call { callee := .builtin .append, args := #[f, x], argTypes := #[23, 23] })
    (B n : Nat) (v : Value) (xs : List Int) (t : Int) (w : World) (hf : a.eval f = v) (hx : a.eval x = .slice (some ⟨w.heap.size, 0, none⟩) 1 1)
    (hown : w.ownsRow B 3 1 v n (vi xs)) (hn : n ≤ 1099511627776) (hB : B ≤ w.heap.size)
    (h : ∀ v' w', w'.ownsRow B 3 1 v' (n + 1) (vi (xs ++ [t])) → Below B w w' → w.heap.size ≤ w'.heap.size → wpList Tryz.prog ops Q rest (a.put o.dst v') w') :
    wpList Tryz.prog ops Q (o :: rest) a (w.alloc (.cells #[.int .i64 t] 3)) := by
  obtain ⟨i0, hi, hz0, hz1, hz2⟩ := info_parts int_info
  refine wpList_append_own (w.alloc (.cells #[.int .i64 t] 3)) hgd f x 23 ho B 3 i0 _ 1 8 Tryz.underlying23 hi hz0 hz1 hz2 rfl (by decide) v n (vi xs) hf (hown.alloc _) ⟨w.heap.size, 0, none⟩ 1 1 [.int .i64 t] hx rfl ?_ ?_ (by simp only [maxLen]; omega) (by omega) (by simp; omega) ?_
  · intro j u hu
    have hj : j = 0 := by
      have := (List.getElem?_eq_some_iff.1 hu).1
      simpa using this
    subst hj
    simp at hu
    subst hu
    exact World.cell?_alloc_new _ _ _ _
  · simp [Value.oneCell']
  · intro v' w' h1 h2 _
    refine h v' w' (by rw [vi_append]; exact h1) ?_ (by have := h2.size; simp at this; omega)
    refine ((Below.refl B w).alloc hB _).grown h2 (by simp; omega) (fun g hg => ?_)
    rcases hown.2 with ⟨rfl, _⟩ | ⟨g', cap, cur, rfl, hbg, _⟩
    · simp [Value.ownBlock] at hg
    · simp [Value.ownBlock] at hg
      omega

theorem owns_below {w w' : World} {B n : Nat} {e : TypeId} {v : Value} {xs : List Value} (h : w.ownsRow B e 1 v n xs) (hb : Below w.heap.size w w') : w'.ownsRow B e 1 v n xs :=
  ⟨h.1, h.2.imp id (fun ⟨g, cap, cur, hv, hB, hh, r⟩ => ⟨g, cap, cur, hv, hB, by rw [hb.block g (Array.getElem?_eq_some_iff.1 hh).1]; exact hh, r⟩)⟩
theorem made_own {B n : Nat} {w w' : World} {v : Value} {L : List Int} (h : w'.ownsRow B 3 1 v n (vi L)) (hb : Below w.heap.size w w') : MadeI B L w (.returned v) w' := by
  obtain ⟨A, c, rfl, hc, _, hl⟩ := own_len h
  rw [vi_length] at hl
  subst hl
  exact ⟨A, c, rfl, hc, OwnS.of_own h, hb⟩
theorem row_succ (k : Nat) (T : Int) : row (k + 1) T = row k T ++ [dgt T k] := by simp [row, List.range_succ]
theorem ln_stop {N k : Nat} (h : (N : Int) / pw k = 0) (hk : k ≤ ln N) : k = ln N := by
  have h1 := Int.mul_ediv_add_emod (N : Int) (pw k)
  have h2 := mod_lt (N : Int) k
  rw [h, Int.mul_zero] at h1
  have : ln N ≤ k := ln_le_iff.2 (by omega)
  omega
theorem ln_more {N k : Nat} (h : 0 < (N : Int) / pw k) : k < ln N := by
  rcases Nat.lt_or_ge k (ln N) with h1 | h1
  · exact h1
  · have := ln_le_iff.1 h1
    rw [div_small (by omega) this] at h
    omega
theorem ln_small (N : Nat) (h : N ≤ 9223372036854775807) : ln N ≤ 3 := by
  rw [ln_le_iff]
  have : pw 3 = 1000000000000000000000000000 := by decide
  omega

end Go.Proofs.YtmmgcdfifcbabaaGreatDoor
