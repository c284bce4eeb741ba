/-
  'impl.PadZeros' answers as 'spec.PadZeros' does, for every string and every int.
-/
import Derived.Test.YtmmgcdfifcbabaaGreatDoorFmt
import Derived.Test.YtmmgcdfifcbabaaGreatDoorShelf
namespace Go.Proofs.YtmmgcdfifcbabaaGreatDoor
open Go.ChangeShapes Go.WideShapes Go.ChangeAt Go.RowKit
open Go.ChangeMaps (open_string shut_string)
set_option linter.unusedVariables false
set_option linter.unusedSimpArgs false
set_option maxRecDepth 4000

/-- The answer. -/
def padL (l : List UInt8) (n : Int) : List UInt8 := if n ≤ 2000 then List.replicate (n.toNat - l.length) 48 ++ l else l
theorem padL_big {l : List UInt8} {n : Int} (h : 2000 < n) : padL l n = l := by rw [padL, if_neg (by omega)]
theorem padL_short {l : List UInt8} {n : Int} (h : n ≤ (l.length : Int)) : padL l n = l := by
  unfold padL
  split
  · rw [show n.toNat - l.length = 0 from by omega]; rfl
  · rfl
theorem padL_long {l : List UInt8} {n : Int} (h : n ≤ 2000) : padL l n = List.replicate (n.toNat - l.length) 48 ++ l := by rw [padL, if_pos h]
/-- Some of the zeros stand. -/
def Padded (l : List UInt8) (n : Int) (t : List UInt8) : Prop := ∃ k, t = List.replicate k 48 ++ l ∧ k ≤ n.toNat - l.length
theorem Padded.start (l : List UInt8) (n : Int) : Padded l n l := ⟨0, rfl, Nat.zero_le _⟩
theorem Padded.step {l t : List UInt8} {n : Int} (h : Padded l n t) (ht : (t.length : Int) < n) : Padded l n (48 :: t) := by
  obtain ⟨k, rfl, hk⟩ := h
  refine ⟨k + 1, by rw [List.replicate_succ]; rfl, ?_⟩
  rw [List.length_append, List.length_replicate] at ht
  omega
theorem Padded.done {l t : List UInt8} {n : Int} (h : Padded l n t) (ht : ¬ (t.length : Int) < n) (hn : n ≤ 2000) : padL l n = t := by
  obtain ⟨k, rfl, hk⟩ := h
  rw [List.length_append, List.length_replicate] at ht
  rw [padL_long hn, show n.toNat - l.length = k from by omega]
def strLen : Value → Nat | .string s => s.size | _ => 0
theorem strLen_mk (l : List UInt8) : strLen (.string ⟨l.toArray⟩) = l.length := by simp [strLen, ByteArray.size]

theorem joinParts_two (a b : List UInt8) (bk c : Nat) (w : World) (h0 : w.cell? ⟨bk, 0, none⟩ = some (.string ⟨a.toArray⟩)) (h1 : w.cell? ⟨bk, 1, none⟩ = some (.string ⟨b.toArray⟩)) (hbk : bk < w.heap.size) (hc : 2 ≤ c) (hlen : a.length + b.length ≤ 140737488355328) :
    Calls Tryz.prog 17 #[.string ⟨#[]⟩, .slice (some ⟨bk, 0, none⟩) 2 c] w fun e w' => e = .returned (.string ⟨(a ++ b).toArray⟩) ∧ Below w.heap.size w w' := by
  have hj : Lib.join (([⟨a.toArray⟩, ⟨b.toArray⟩] : List ByteArray).map (·.data.toList)) (ByteArray.mk #[]).data.toList = a ++ b := by simp [Lib.join, List.intercalate]
  have hc' := Tryz.strings_Join bk 0 c [⟨a.toArray⟩, ⟨b.toArray⟩] ⟨#[]⟩ w (fun j x hx => by
    rw [Nat.zero_add]
    match j, hx with
    | 0, hx => simp at hx; rw [← hx]; exact h0
    | 1, hx => simp at hx; rw [← hx]; exact h1) hbk (by simp) (by simpa using hc) (by rw [hj, List.length_append]; exact hlen)
  rw [hj] at hc'
  have H := Lib.hid hc'
  clear hc' hj h0 h1 hlen
  go_enter Tryz.func17, Tryz.ntmps17
  go_wp2_with fail
  refine (Hid.out H).mono ?_
  rintro e w1 ⟨rfl, hb⟩
  go_wp2
  go_ret
  exact ⟨rfl, hb⟩
theorem repeatL_one (c : UInt8) : ∀ n, Lib.repeatL [c] n = List.replicate n c
  | 0 => rfl
  | n + 1 => by rw [Lib.repeatL, repeatL_one c n, List.replicate_succ]; rfl

set_option maxHeartbeats 400000 in
theorem impl_pad (l : List UInt8) (n : Int) (w : World) (hl : l.length ≤ 1048576) (hn : -9223372036854775808 ≤ n ∧ n ≤ 9223372036854775807) :
    Calls Tryz.prog 39 #[.string ⟨l.toArray⟩, .int .i64 n] w fun e w' => e = .returned (.string ⟨(padL l n).toArray⟩) ∧ Below w.heap.size w w' := by
  obtain ⟨hn1, hn2⟩ := hn
  by_cases hs : n ≤ (l.length : Int)
  · have HE := Lib.hid (padL_short (l := l) hs)
    go_enter Tryz.func39, Tryz.ntmps39
    go_wp2
    go_ret
    exact ⟨ret_str HE.out.symm, Below.refl _ _⟩
  by_cases hb : 2000 < n
  · have HE := Lib.hid (padL_big (l := l) hb)
    go_enter Tryz.func39, Tryz.ntmps39
    go_wp2
    go_ret
    exact ⟨ret_str HE.out.symm, Below.refl _ _⟩
  · have HE := Lib.hid (padL_long (l := l) (n := n) (by omega))
    obtain ⟨k, hk0⟩ : ∃ k : Nat, n = (l.length : Int) + (k : Int) := ⟨(n - l.length).toNat, by omega⟩
    subst hk0
    have hk1 : k ≤ 2000 := by omega
    have HR : Hid (Lib.repeatL (ByteArray.mk [(48 : UInt8)].toArray).data.toList k = List.replicate k 48) := repeatL_one 48 k
    go_enter Tryz.func39, Tryz.ntmps39
    go_wp2_with fail
    rw [show ((l.length : Int) + (k : Int) - (l.length : Int)) = (k : Int) from by omega]
    refine (Tryz.strings_Repeat ⟨#[48]⟩ k _ (by omega) (by show (1 : Nat) * k ≤ 140737488355328; omega)).mono ?_
    rintro e w1 ⟨rfl, hb1⟩
    rw [show Lib.repeatL (ByteArray.mk #[48]).data.toList k = List.replicate k 48 from HR.out]
    go_wp2_with fail
    refine (joinParts_two (List.replicate k 48) l w1.heap.size 2 _ ?_ ?_ ?_ (Nat.le_refl _) (by rw [List.length_replicate]; omega)).mono ?_
    · exact World.cell?_alloc_new _ _ _ _
    · exact World.cell?_alloc_new _ _ _ _
    · simp
    rintro e w2 ⟨rfl, hb2⟩
    go_wp2
    go_ret
    refine ⟨ret_str ?_, hb1.trans (((Below.refl _ _).alloc (Nat.le_refl _) _).trans (hb2.mono (by simp)) |>.mono hb1.size)⟩
    rw [HE.out, show ((l.length : Int) + (k : Int)).toNat - l.length = k from by omega]
end Go.Proofs.YtmmgcdfifcbabaaGreatDoor
