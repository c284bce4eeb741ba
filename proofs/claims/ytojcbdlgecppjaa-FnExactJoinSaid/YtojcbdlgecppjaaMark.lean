/-
  What the harness' own functions of the exact laws do: 'markText'.
-/
import Derived.Test.YtojcbdlgecppjaaKit
import Derived.Outline
namespace Go.Proofs.Ytojcbdlgecppjaa
open Go.ChangeShapes Go.WideShapes Go.ChangeAt Go.RowKit
open Go.ChangeMaps (open_string shut_string)
set_option linter.unusedVariables false
set_option linter.unusedSimpArgs false

/-- The last digit. -/
def d8 (k : Nat) : UInt8 := UInt8.ofNat (48 + k % 10)
/-- The decimal digits of a positive number. -/
def dg (k : Nat) : List UInt8 := if h : k = 0 then [] else dg (k / 10) ++ [d8 k]
termination_by k
decreasing_by omega
theorem dg_zero : dg 0 = [] := by rw [dg]; rfl
theorem dg_pos {k : Nat} (h : 0 < k) : dg k = dg (k / 10) ++ [d8 k] := by
  rw [dg, dif_neg (by omega)]
theorem dg_len (k : Nat) : (dg k).length ≤ k := by
  induction k using Nat.strongRecOn with
  | _ k ih =>
    by_cases h : 0 < k
    · rw [dg_pos h, List.length_append]
      have := ih (k / 10) (by omega)
      simp
      omega
    · obtain rfl : k = 0 := by omega
      rw [dg_zero]
      simp
/-- The mark of k: the letter m and k's digits. -/
def mt (k : Nat) : ByteArray := ⟨((109 : UInt8) :: dg k).toArray⟩

theorem d8_toNat (j : Nat) : ((d8 j).toNat : Int) = 48 + (j : Int) % 10 := by
  unfold d8
  rw [UInt8.toNat_ofNat_of_lt' (by simp only [UInt8.size]; omega)]
  omega
/-- 'string([]byte{c})' over the one-cell block that the literal laid. -/
theorem conv_one (w : World) (u : UInt8) :
    (convert 39 9 (.slice (some ⟨w.heap.size, 0, none⟩) 1 1)).run Try.prog (w.alloc (.cells #[.int .u8 (u.toNat : Int)] 5)) = .ok (.string ⟨#[u]⟩) (w.alloc (.cells #[.int .u8 (u.toNat : Int)] 5)) :=
  run_convert_bytes_back (P := Try.prog) (w.alloc (.cells #[.int .u8 (u.toNat : Int)] 5)) 39 9 5 ⟨w.heap.size, 0, none⟩ 1 [u] Try.underlying39 Try.underlying5 Try.underlying9 (fun j hj => by
    obtain rfl : j = 0 := by simpa using hj
    exact World.cell?_alloc_new _ _ _ _)

set_option maxHeartbeats 800000 in
theorem markText_any (n : Nat) (w : World) (h0 : 0 < n) (hn : n ≤ 4611686018427387904) :
    Calls Try.prog 29 #[.int .i64 (n : Int)] w fun e w' => e = .returned (.string (mt n)) ∧ Below w.heap.size w w' := by
  go_enter Try.func29, Try.ntmps29
  go_wp2
  go_loopw [0, 3] (fun k o w' => ∃ (j : Nat) (l : List UInt8), j ≤ n ∧ k = .int .i64 (j : Int) ∧ o = .string ⟨l.toArray⟩ ∧ dg n = dg j ++ l ∧ Below w.heap.size w w') (fun k _ _ => (intOf k).toNat)
  case atStart => exact ⟨n, [], Nat.le_refl _, rfl, rfl, by simp, Below.refl _ _⟩
  case round =>
    obtain ⟨j, l, hj, rfl, rfl, hd0, hb⟩ := hrel
    have hl : l.length ≤ n := by
      have h1 := dg_len n
      rw [hd0, List.length_append] at h1
      omega
    have hl1 : 1 + l.length ≤ 9223372036854775807 := by omega
    have hd := Lib.hid hd0
    clear hd0
    by_cases hp : 0 < j
    · have hcv := conv_one wr (d8 j)
      rw [d8_toNat] at hcv
      go_wp2
      go_roundw
      case rel =>
        refine ⟨j / 10, d8 j :: l, by omega, by go_num, ?_, ?_, hb.alloc hb.size _⟩
        · show Value.string (ByteArray.mk [d8 j].toArray ++ ByteArray.mk l.toArray) = _
          rw [ByteArray.mk_append_mk]
          rfl
        · rw [hd.out, dg_pos hp]
          simp
      case measure => simp [intOf]; omega
    · obtain rfl : j = 0 := by omega
      go_wp2
      go_ret
      refine ⟨?_, hb⟩
      show Ending.returned (.string (ByteArray.mk [(109 : UInt8)].toArray ++ ByteArray.mk l.toArray)) = _
      rw [ByteArray.mk_append_mk, mt, hd.out, dg_zero]
      rfl

theorem markText_int (x : Int) (w : World) (h0 : 0 < x) (hn : x ≤ 4611686018427387904) :
    Calls Try.prog 29 #[.int .i64 x] w fun e w' => e = .returned (.string (mt x.toNat)) ∧ Below w.heap.size w w' := by
  obtain ⟨n, rfl⟩ := Int.eq_ofNat_of_zero_le (Int.le_of_lt h0)
  rw [Int.toNat_natCast]
  exact markText_any n w (by omega) (by omega)
theorem markText_sum (k j : Nat) (w : World) (h0 : (0 : Int) < (k : Int) + (j : Int)) (hn : (k : Int) + (j : Int) ≤ 4611686018427387904) :
    Calls Try.prog 29 #[.int .i64 ((k : Int) + (j : Int))] w fun e w' => e = .returned (.string (mt (k + j))) ∧ Below w.heap.size w w' := by
  rw [show (k : Int) + (j : Int) = ((k + j : Nat) : Int) from by omega]
  exact markText_any (k + j) w (by omega) (by omega)
end Go.Proofs.Ytojcbdlgecppjaa
