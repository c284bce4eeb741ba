/-
  'impl.FormatInt' answers as 'spec.FormatInt' does, for every int: both give the decimal numeral.
-/
import Derived.Test.YtmmgcdfifcbabaaGreatDoorKit
import Derived.Test.YtmmgcdfifcbabaaGreatDoorShelf
import Derived.Outline
import Derived.IntWalk
import Derived.WalkSmall
import Derived.RegionCalls
import Derived.Deep.RegionWith
namespace Go.Proofs.YtmmgcdfifcbabaaGreatDoor
open Go.ChangeShapes Go.WideShapes Go.ChangeAt Go.RowKit
open Go.ChangeMaps (open_string shut_string)
set_option linter.unusedVariables false
set_option linter.unusedSimpArgs false
set_option maxRecDepth 4000

/-- The last digit. -/
def d8 (k : Nat) : UInt8 := UInt8.ofNat (48 + k % 10)
theorem d8_toNat (j : Nat) : ((d8 j).toNat : Int) = 48 + (j : Int) % 10 := by
  unfold d8
  rw [UInt8.toNat_ofNat_of_lt' (by simp only [UInt8.size]; omega)]
  omega
theorem dec_small {u : Nat} (h : u < 10) : Lib.decDigits u = [d8 u] := by
  rw [Lib.decDigits, dif_pos h, d8, Nat.mod_eq_of_lt h]
theorem dec_big {u : Nat} (h : ¬ u < 10) : Lib.decDigits u = Lib.decDigits (u / 10) ++ [d8 u] := by
  rw [Lib.decDigits, dif_neg h, d8]
theorem dec_len (u : Nat) : (Lib.decDigits u).length ≤ u + 1 := by
  induction u using Nat.strongRecOn with
  | _ u ih =>
    by_cases h : u < 10
    · rw [dec_small h]; simp
    · rw [dec_big h, List.length_append]
      have := ih (u / 10) (by omega)
      simp
      omega
theorem dec_len20 (u : Nat) (h : u ≤ 9223372036854775808) : (Lib.decDigits u).length ≤ 9223372036854775806 := by
  by_cases h1 : u < 10
  · rw [dec_small h1]; simp
  · rw [dec_big h1, List.length_append]
    have := dec_len (u / 10)
    simp
    omega
theorem ret_str {a b : List UInt8} (h : a = b) : Ending.returned (.string ⟨a.toArray⟩) = .returned (.string ⟨b.toArray⟩) := by rw [h]
/-- 'string([]byte{c})' over the one-cell block that the literal laid. -/
theorem conv_at (w : World) (b : Nat) (u : UInt8) (hc : w.cell? ⟨b, 0, none⟩ = some (.int .u8 (u.toNat : Int))) :
    (convert 22 9 (.slice (some ⟨b, 0, none⟩) 1 1)).run Tryz.prog w = .ok (.string ⟨#[u]⟩) w :=
  run_convert_bytes_back (P := Tryz.prog) w 22 9 5 ⟨b, 0, none⟩ 1 [u] Tryz.underlying22 Tryz.underlying5 Tryz.underlying9 (fun j hj => by
    obtain rfl : j = 0 := by simpa using hj
    exact hc)
theorem conv_one (w : World) (u : UInt8) :
    (convert 22 9 (.slice (some ⟨w.heap.size, 0, none⟩) 1 1)).run Tryz.prog (w.alloc (.cells #[.int .u8 (u.toNat : Int)] 5)) = .ok (.string ⟨#[u]⟩) (w.alloc (.cells #[.int .u8 (u.toNat : Int)] 5)) :=
  conv_at _ _ _ (World.cell?_alloc_new _ _ _ _)

theorem tdiv_neg (n : Nat) : (-(n : Int)).tdiv 10 = -((n / 10 : Nat) : Int) := by rw [Int.neg_tdiv]; rfl
theorem tmod_neg (n : Nat) : (-(n : Int)).tmod 10 = -((n % 10 : Nat) : Int) := by rw [Int.neg_tmod]; rfl

theorem lit_kept {w w1 : World} {v : Value} (hb : Below ((w.alloc (.cells #[v] 5)).drew).heap.size ((w.alloc (.cells #[v] 5)).drew) w1) : w1.cell? ⟨w.heap.size, 0, none⟩ = some v := by
  rw [hb.cell (p := ⟨w.heap.size, 0, none⟩) (by show w.heap.size < (w.heap.push _).size; simp)]
  exact World.cell?_alloc_new _ _ _ _

theorem below_lit_after {w w1 : World} {o : Obj} (hb : Below w.drew.heap.size w.drew w1) : Below w.heap.size w (w1.alloc o) := by
  have h : Below w.heap.size w w1 := (Below.refl _ _).drew.trans hb
  exact h.alloc h.size _
theorem below_lit_before {w w1 : World} {o : Obj} (hb : Below (w.alloc o).drew.heap.size (w.alloc o).drew w1) : Below w.heap.size w w1 :=
  (((Below.refl w.heap.size w).alloc (Nat.le_refl _) o).drew).trans (hb.mono (by show w.heap.size ≤ (w.heap.push _).size; simp))

theorem below_grow (w : World) (k : Nat) (os : Array Obj) : Below w.heap.size w (Sort.grow (w.drewN k) os) :=
  ⟨rfl, rfl, rfl, by show w.heap.size ≤ (w.heap ++ os).size; simp, fun i hi => by show (w.heap ++ os)[i]? = _; rw [Array.getElem?_append_left hi]⟩

/-- 'impl.FormatInt' hands on 'strconv.Itoa'. -/
theorem impl_fmt (n : Int) (w : World) (h0 : -9223372036854775808 ≤ n) (h1 : n ≤ 9223372036854775807) (htab : Lib.TabIs Tryz.prog w "internal/strconv.uint64pow10" .u64 Lib.pow10Tab) :
    Calls Tryz.prog 38 #[.int .i64 n] w fun e w' => e = .returned (.string ⟨(Lib.itoa n).toArray⟩) ∧ Below w.heap.size w w' := by
  have H := Lib.hid (Tryz.strconv_Itoa n h0 h1 w htab)
  clear htab
  go_enter Tryz.func38, Tryz.ntmps38
  go_wp2_with fail
  refine (Hid.out H).mono ?_
  rintro e w1 ⟨rfl, k, os, rfl⟩
  go_wp2
  go_ret
  exact ⟨rfl, below_grow w k os⟩
theorem tab_below {W W' : World} (hb : Below W.heap.size W W') (h : Lib.TabIs Tryz.prog W "internal/strconv.uint64pow10" .u64 Lib.pow10Tab) : Lib.TabIs Tryz.prog W' "internal/strconv.uint64pow10" .u64 Lib.pow10Tab := by
  have hg : Tryz.prog.globalNamed "internal/strconv.uint64pow10" = some 3 := by kernel_rfl
  have hc := h.cell hg 0 (by decide)
  exact var?_below hb hg (World.block_lt_of_cell? W _ hc) h

end Go.Proofs.YtmmgcdfifcbabaaGreatDoor
