/-
  'append' of a whole row onto a row of the call's own.
-/
import Derived.Test.YtmmgcdfifcbabaaGreatDoorArM
import Derived.Test.YtmmgcdfifcbabaaGreatDoorAppI
namespace Go.Proofs.YtmmgcdfifcbabaaGreatDoor
open Go.ChangeShapes Go.WideShapes Go.ChangeAt Go.RowKit
open Go.ChangeMaps (open_string shut_string)
set_option linter.unusedVariables false
set_option linter.unusedSimpArgs false
set_option maxRecDepth 4000

theorem append_ints {ops : Array Oper} {rest : List Oper} {o : Oper} {a : Act} {Q : Exit → Act → World → Prop} (hgd : o.guard = none) (f x : Operand)
    (ho : o.op = .call { callee := .builtin .append, args := #[f, x], argTypes := #[23, 23] })
    (B n m c : Nat) (v : Value) (xs ys : List Int) (ad : Addr) (w : World) (hf : a.eval f = v) (hx : a.eval x = .slice (some ad) m c)
    (hown : w.ownsRow B 3 1 v n (vi xs)) (hn : n ≤ 1048576) (hm : m ≤ 1048576) (hl : ys.length = m) (hr : RdS w (some ad) (vi ys)) (hB : B ≤ w.heap.size)
    (h : ∀ v' w', w'.ownsRow B 3 1 v' (n + m) (vi (xs ++ ys)) → Below B w w' → w.heap.size ≤ w'.heap.size → wpList Tryz.prog ops Q rest (a.put o.dst v') w') :
    wpList Tryz.prog ops Q (o :: rest) a w := by
  obtain ⟨i0, hi, hz0, hz1, hz2⟩ := info_parts int_info
  refine wpList_append_own w hgd f x 23 ho B 3 i0 _ 1 8 Tryz.underlying23 hi hz0 hz1 hz2 rfl (by decide) v n (vi xs) hf hown ad m c (vi ys) hx (by rw [vi_length, hl, Nat.mul_one]) ?_ ?_ (by simp only [maxLen]; omega) (by omega) hB ?_
  · intro j u hu
    have hj : j < (vi ys).length := (List.getElem?_eq_some_iff.1 hu).1
    obtain ⟨b', o', ha, _, hc⟩ := hr.block (by omega)
    injection ha with ha
    subst ha
    rw [add_plain, hc j hj, hu]
  · intro u hu
    obtain ⟨y, _, rfl⟩ := List.mem_map.1 hu
    rfl
  · intro v' w' h1 h2 _
    refine h v' w' (by rw [vi_append]; exact h1) ?_ h2.size
    refine (Below.refl B w).grown h2 hB (fun g hg => ?_)
    rcases hown.2 with ⟨rfl, _⟩ | ⟨g', cap, cur, rfl, hbg, _⟩
    · simp [Value.ownBlock] at hg
    · simp [Value.ownBlock] at hg
      omega

end Go.Proofs.YtmmgcdfifcbabaaGreatDoor
