/-
  'impl.FormatInt' answers as 'spec.FormatInt' does, for every int: both give the decimal numeral.
-/
import Derived.Test.YtnejpdlikdgnnaaDoorKit
import Derived.Test.YtnejpdlikdgnnaaDoorShelf
import Derived.Outline
import Derived.IntWalk
import Derived.WalkSmall
import Derived.RegionCalls
import Derived.Deep.RegionWith
namespace Go.Proofs.YtnejpdlikdgnnaaDoor
open Go.ChangeShapes Go.WideShapes Go.ChangeAt Go.RowKit
open Go.ChangeMaps (open_string shut_string)
set_option linter.unusedVariables false
set_option linter.unusedSimpArgs false
set_option maxRecDepth 4000

/-- The last digit. -/
def d8 (k : Nat) : UInt8 := UInt8.ofNat (48 + k % 10)
theorem d8_toNat (j : Nat) : ((d8 j).toNat : Int) = 48 + (j : Int) % 10 := by
  unfold d8
  rw [UInt8.toNat_ofNat_of_lt' (by simp only [UInt8.size]; omega)]
  omega
theorem dec_small {u : Nat} (h : u < 10) : Lib.decDigits u = [d8 u] := by
  rw [Lib.decDigits, dif_pos h, d8, Nat.mod_eq_of_lt h]
theorem dec_big {u : Nat} (h : ¬ u < 10) : Lib.decDigits u = Lib.decDigits (u / 10) ++ [d8 u] := by
  rw [Lib.decDigits, dif_neg h, d8]
theorem dec_len (u : Nat) : (Lib.decDigits u).length ≤ u + 1 := by
  induction u using Nat.strongRecOn with
  | _ u ih =>
    by_cases h : u < 10
    · rw [dec_small h]; simp
    · rw [dec_big h, List.length_append]
      have := ih (u / 10) (by omega)
      simp
      omega
theorem dec_len20 (u : Nat) (h : u ≤ 9223372036854775808) : (Lib.decDigits u).length ≤ 9223372036854775806 := by
  by_cases h1 : u < 10
  · rw [dec_small h1]; simp
  · rw [dec_big h1, List.length_append]
    have := dec_len (u / 10)
    simp
    omega
theorem ret_str {a b : List UInt8} (h : a = b) : Ending.returned (.string ⟨a.toArray⟩) = .returned (.string ⟨b.toArray⟩) := by rw [h]
/-- 'string([]byte{c})' over the one-cell block that the literal laid. -/
theorem conv_at (w : World) (b : Nat) (u : UInt8) (hc : w.cell? ⟨b, 0, none⟩ = some (.int .u8 (u.toNat : Int))) :
    (convert 22 9 (.slice (some ⟨b, 0, none⟩) 1 1)).run Tryd.prog w = .ok (.string ⟨#[u]⟩) w :=
  run_convert_bytes_back (P := Tryd.prog) w 22 9 5 ⟨b, 0, none⟩ 1 [u] Tryd.underlying22 Tryd.underlying5 Tryd.underlying9 (fun j hj => by
    obtain rfl : j = 0 := by simpa using hj
    exact hc)
theorem conv_one (w : World) (u : UInt8) :
    (convert 22 9 (.slice (some ⟨w.heap.size, 0, none⟩) 1 1)).run Tryd.prog (w.alloc (.cells #[.int .u8 (u.toNat : Int)] 5)) = .ok (.string ⟨#[u]⟩) (w.alloc (.cells #[.int .u8 (u.toNat : Int)] 5)) :=
  conv_at _ _ _ (World.cell?_alloc_new _ _ _ _)

set_option maxHeartbeats 400000 in
theorem spec_fmt_nat (n : Nat) (w : World) (hn : n ≤ 9223372036854775807) :
    Calls Tryd.prog 68 #[.int .i64 (n : Int)] w fun e w' => e = .returned (.string ⟨(Lib.decDigits n).toArray⟩) ∧ Below w.heap.size w w' := by
  have hlen := dec_len20 n (by omega)
  go_enter Tryd.func68, Tryd.ntmps68
  go_wp2_with fail
  go_loopw [0, 3] (fun k o w' => ∃ (j : Nat) (l : List UInt8), j ≤ n ∧ k = .int .i64 (j : Int) ∧ o = .string ⟨l.toArray⟩ ∧ Lib.decDigits n = Lib.decDigits j ++ l ∧ Below w.heap.size w w') (fun k _ _ => (intOf k).toNat)
  case atStart => exact ⟨n, [], Nat.le_refl _, rfl, rfl, by simp, Below.refl _ _⟩
  case round =>
    obtain ⟨j, l, hj, rfl, rfl, hd0, hb⟩ := hrel
    have hl1 : 1 + l.length ≤ 9223372036854775807 := by
      rw [hd0, List.length_append] at hlen
      omega
    have hd := Lib.hid hd0
    clear hd0 hlen
    by_cases hp : 9 < j
    · have hcv := conv_one wr (d8 j)
      rw [d8_toNat] at hcv
      go_wp2_with fail
      go_roundw
      case rel =>
        refine ⟨j / 10, d8 j :: l, by omega, by go_num, ?_, ?_, hb.alloc hb.size _⟩
        · show Value.string (ByteArray.mk [d8 j].toArray ++ ByteArray.mk l.toArray) = _
          rw [ByteArray.mk_append_mk]
          rfl
        · rw [hd.out, dec_big (by omega)]
          simp
      case measure => simp [intOf]; omega
    · have hcv := conv_one wr (d8 j)
      rw [d8_toNat, show (48 : Int) + (j : Int) % 10 = 48 + (j : Int) from by omega] at hcv
      go_wp2_with fail
      go_ret
      refine ⟨?_, hb.alloc hb.size _⟩
      show Ending.returned (.string (ByteArray.mk [d8 j].toArray ++ ByteArray.mk l.toArray)) = _
      rw [ByteArray.mk_append_mk, hd.out, dec_small (by omega)]

theorem tdiv_neg (n : Nat) : (-(n : Int)).tdiv 10 = -((n / 10 : Nat) : Int) := by rw [Int.neg_tdiv]; rfl
theorem tmod_neg (n : Nat) : (-(n : Int)).tmod 10 = -((n % 10 : Nat) : Int) := by rw [Int.neg_tmod]; rfl

theorem lit_kept {w w1 : World} {v : Value} (hb : Below ((w.alloc (.cells #[v] 5)).drew).heap.size ((w.alloc (.cells #[v] 5)).drew) w1) : w1.cell? ⟨w.heap.size, 0, none⟩ = some v := by
  rw [hb.cell (p := ⟨w.heap.size, 0, none⟩) (by show w.heap.size < (w.heap.push _).size; simp)]
  exact World.cell?_alloc_new _ _ _ _

theorem below_lit_after {w w1 : World} {o : Obj} (hb : Below w.drew.heap.size w.drew w1) : Below w.heap.size w (w1.alloc o) := by
  have h : Below w.heap.size w w1 := (Below.refl _ _).drew.trans hb
  exact h.alloc h.size _
theorem below_lit_before {w w1 : World} {o : Obj} (hb : Below (w.alloc o).drew.heap.size (w.alloc o).drew w1) : Below w.heap.size w w1 :=
  (((Below.refl w.heap.size w).alloc (Nat.le_refl _) o).drew).trans (hb.mono (by show w.heap.size ≤ (w.heap.push _).size; simp))

set_option maxHeartbeats 800000 in
theorem spec_fmt_neg (k : Nat) : ∀ (n : Nat) (w : World), n ≤ k → 0 < n → n ≤ 9223372036854775808 →
    Calls Tryd.prog 68 #[.int .i64 (-(n : Int))] w fun e w' => e = .returned (.string ⟨(45 :: Lib.decDigits n).toArray⟩) ∧ Below w.heap.size w w' := by
  induction k with
  | zero => intro n w h1 h2; omega
  | succ k ih =>
    intro n w hk h0 hn
    by_cases hs : n < 10
    · have hcv := conv_one w (d8 n)
      rw [d8_toNat, show (48 : Int) + (n : Int) % 10 = 48 + (n : Int) from by omega] at hcv
      have q1 : (-(n : Int)).tdiv 10 = 0 := by rw [tdiv_neg]; omega
      go_enter Tryd.func68, Tryd.ntmps68
      go_wp2_with fail
      go_ret
      refine ⟨?_, (Below.refl _ _).alloc (Nat.le_refl _) _⟩
      show Ending.returned (.string (ByteArray.mk [(45 : UInt8)].toArray ++ ByteArray.mk [d8 n].toArray)) = _
      rw [ByteArray.mk_append_mk, dec_small hs]
      rfl
    · have hcv : ∀ (W : World) (b : Nat), W.cell? ⟨b, 0, none⟩ = some (.int .u8 (48 + (n : Int) % 10)) → (convert 22 9 (.slice (some ⟨b, 0, none⟩) 1 1)).run Tryd.prog W = .ok (.string ⟨#[d8 n]⟩) W := fun W b h => conv_at W b (d8 n) (by rw [d8_toNat]; exact h)
      have q1 : (-(n : Int)).tdiv 10 = -((n / 10 : Nat) : Int) := tdiv_neg n
      have q2 : (-(n : Int)).tmod 10 = -((n % 10 : Nat) : Int) := tmod_neg n
      have hI : Hid (∀ W, Calls Tryd.prog 68 #[.int .i64 (-((n : Int) / 10))] W fun e w' => e = .returned (.string ⟨(45 :: Lib.decDigits (n / 10)).toArray⟩) ∧ Below W.heap.size W w') := Lib.hid (fun W => by
        have h := ih (n / 10) W (by omega) (by omega) (by omega)
        rwa [show ((n / 10 : Nat) : Int) = (n : Int) / 10 from by omega] at h)
      clear ih
      have HE : Hid (45 :: Lib.decDigits n = (45 :: Lib.decDigits (n / 10)) ++ [d8 n]) := Lib.hid (by rw [dec_big hs]; rfl)
      have hl : (45 :: Lib.decDigits (n / 10)).length + 1 ≤ 9223372036854775807 := by
        have := dec_len (n / 10)
        rw [List.length_cons]
        omega
      generalize 45 :: Lib.decDigits (n / 10) = L at hI HE hl
      go_enter Tryd.func68, Tryd.ntmps68
      go_wp2_with fail
      have w1 : IntKind.i64.wrap (-((n : Int) / 10)) = -((n : Int) / 10) := IntWalk.i64_in _ (by omega)
      have w2 : IntKind.i64.wrap (-((n : Int) % 10)) = -((n : Int) % 10) := IntWalk.i64_in _ (by omega)
      have w3 : IntKind.i64.wrap (48 - -((n : Int) % 10)) = 48 + (n : Int) % 10 := by rw [IntWalk.i64_in _ (by omega)]; omega
      have w4 : IntKind.i64.wrap (48 + (n : Int) % 10) = 48 + (n : Int) % 10 := IntWalk.i64_in _ (by omega)
      have w5 : IntKind.u8.wrap (48 + (n : Int) % 10) = 48 + (n : Int) % 10 := by simp only [IntKind.wrap_u8]; omega
      go_region_with ((go_at_call 68; refine (hI.out _).mono ?_; rintro e w1 ⟨rfl, hb1⟩; try (have hc1 := lit_kept hb1)))
      all_goals
        go_wp2_with fail
        go_ret
        refine ⟨?_, ?_⟩
        · show Ending.returned (.string (ByteArray.mk L.toArray ++ ByteArray.mk [d8 n].toArray)) = _
          rw [ByteArray.mk_append_mk, HE.out]
        · first
            | exact below_lit_after hb1
            | exact below_lit_before hb1

theorem spec_fmt (n : Int) (w : World) (h0 : -9223372036854775808 ≤ n) (h1 : n ≤ 9223372036854775807) :
    Calls Tryd.prog 68 #[.int .i64 n] w fun e w' => e = .returned (.string ⟨(Lib.itoa n).toArray⟩) ∧ Below w.heap.size w w' := by
  by_cases hn : n < 0
  · have h := spec_fmt_neg n.natAbs n.natAbs w (Nat.le_refl _) (by omega) (by omega)
    rw [show -(n.natAbs : Int) = n from by omega] at h
    rw [Lib.itoa, if_pos hn]
    exact h
  · have h := spec_fmt_nat n.toNat w (by omega)
    rw [show (n.toNat : Int) = n from by omega] at h
    rw [Lib.itoa, if_neg hn]
    exact h

theorem below_grow (w : World) (k : Nat) (os : Array Obj) : Below w.heap.size w (Sort.grow (w.drewN k) os) :=
  ⟨rfl, rfl, rfl, by show w.heap.size ≤ (w.heap ++ os).size; simp, fun i hi => by show (w.heap ++ os)[i]? = _; rw [Array.getElem?_append_left hi]⟩

/-- 'impl.FormatInt' hands on 'strconv.Itoa'. -/
theorem impl_fmt (n : Int) (w : World) (h0 : -9223372036854775808 ≤ n) (h1 : n ≤ 9223372036854775807) (htab : Lib.TabIs Tryd.prog w "internal/strconv.uint64pow10" .u64 Lib.pow10Tab) :
    Calls Tryd.prog 32 #[.int .i64 n] w fun e w' => e = .returned (.string ⟨(Lib.itoa n).toArray⟩) ∧ Below w.heap.size w w' := by
  have H := Lib.hid (Tryd.strconv_Itoa n h0 h1 w htab)
  clear htab
  go_enter Tryd.func32, Tryd.ntmps32
  go_wp2_with fail
  refine (Hid.out H).mono ?_
  rintro e w1 ⟨rfl, k, os, rfl⟩
  go_wp2
  go_ret
  exact ⟨rfl, below_grow w k os⟩
theorem tab_below {W W' : World} (hb : Below W.heap.size W W') (h : Lib.TabIs Tryd.prog W "internal/strconv.uint64pow10" .u64 Lib.pow10Tab) : Lib.TabIs Tryd.prog W' "internal/strconv.uint64pow10" .u64 Lib.pow10Tab := by
  have hg : Tryd.prog.globalNamed "internal/strconv.uint64pow10" = some 4 := by kernel_rfl
  have hc := h.cell hg 0 (by decide)
  exact var?_below hb hg (World.block_lt_of_cell? W _ hc) h

end Go.Proofs.YtnejpdlikdgnnaaDoor
