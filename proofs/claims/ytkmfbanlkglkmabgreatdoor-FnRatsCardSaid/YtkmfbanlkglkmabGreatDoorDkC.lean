/-
  'impl.FormatInt' answers as 'spec.FormatInt' does, for every int: both give the decimal numeral.
-/
import Derived.Test.YtkmfbanlkglkmabGreatDoorDkA
import Derived.Test.YtkmfbanlkglkmabGreatDoorShelf
import Derived.Outline
import Derived.IntWalk
import Derived.WalkSmall
import Derived.RegionCalls
import Derived.Deep.RegionWith
import Derived.Test.YtkmfbanlkglkmabGreatDoorJoinImpl
namespace Go.Proofs.YtkmfbanlkglkmabGreatDoor
open Go.ChangeShapes Go.WideShapes Go.ChangeAt Go.RowKit
open Go.ChangeMaps (open_string shut_string)
set_option linter.unusedVariables false
set_option linter.unusedSimpArgs false
set_option maxRecDepth 4000

/-- The last digit. -/
def d8 (k : Nat) : UInt8 := UInt8.ofNat (48 + k % 10)
theorem d8_toNat (j : Nat) : ((d8 j).toNat : Int) = 48 + (j : Int) % 10 := by
  unfold d8
  rw [UInt8.toNat_ofNat_of_lt' (by simp only [UInt8.size]; omega)]
  omega
theorem dec_small {u : Nat} (h : u < 10) : Lib.decDigits u = [d8 u] := by
  rw [Lib.decDigits, dif_pos h, d8, Nat.mod_eq_of_lt h]
theorem dec_big {u : Nat} (h : ¬ u < 10) : Lib.decDigits u = Lib.decDigits (u / 10) ++ [d8 u] := by
  rw [Lib.decDigits, dif_neg h, d8]
theorem dec_len (u : Nat) : (Lib.decDigits u).length ≤ u + 1 := by
  induction u using Nat.strongRecOn with
  | _ u ih =>
    by_cases h : u < 10
    · rw [dec_small h]; simp
    · rw [dec_big h, List.length_append]
      have := ih (u / 10) (by omega)
      simp
      omega
theorem dec_len20 (u : Nat) (h : u ≤ 9223372036854775808) : (Lib.decDigits u).length ≤ 9223372036854775806 := by
  by_cases h1 : u < 10
  · rw [dec_small h1]; simp
  · rw [dec_big h1, List.length_append]
    have := dec_len (u / 10)
    simp
    omega
theorem ret_str {a b : List UInt8} (h : a = b) : Ending.returned (.string ⟨a.toArray⟩) = .returned (.string ⟨b.toArray⟩) := by rw [h]
/-- 'string([]byte{c})' over the one-cell block that the literal laid. -/
theorem conv_at (w : World) (b : Nat) (u : UInt8) (hc : w.cell? ⟨b, 0, none⟩ = some (.int .u8 (u.toNat : Int))) :
    (convert 43 9 (.slice (some ⟨b, 0, none⟩) 1 1)).run Tryz.prog w = .ok (.string ⟨#[u]⟩) w :=
  run_convert_bytes_back (P := Tryz.prog) w 43 9 5 ⟨b, 0, none⟩ 1 [u] Tryz.underlying43 Tryz.underlying5 Tryz.underlying9 (fun j hj => by
    obtain rfl : j = 0 := by simpa using hj
    exact hc)
theorem conv_one (w : World) (u : UInt8) :
    (convert 43 9 (.slice (some ⟨w.heap.size, 0, none⟩) 1 1)).run Tryz.prog (w.alloc (.cells #[.int .u8 (u.toNat : Int)] 5)) = .ok (.string ⟨#[u]⟩) (w.alloc (.cells #[.int .u8 (u.toNat : Int)] 5)) :=
  conv_at _ _ _ (World.cell?_alloc_new _ _ _ _)

set_option maxHeartbeats 400000 in
theorem spec_fmt_nat (n : Nat) (w : World) (hn : n ≤ 9223372036854775807) :
    Calls Tryz.prog 136 #[.int .i64 (n : Int)] w fun e w' => e = .returned (.string ⟨(Lib.decDigits n).toArray⟩) ∧ Below w.heap.size w w' := by
  have hlen := dec_len20 n (by omega)
  go_enter Tryz.func136, Tryz.ntmps136
  go_wp2_with fail
  go_loopw [0, 3] (fun k o w' => ∃ (j : Nat) (l : List UInt8), j ≤ n ∧ k = .int .i64 (j : Int) ∧ o = .string ⟨l.toArray⟩ ∧ Lib.decDigits n = Lib.decDigits j ++ l ∧ Below w.heap.size w w') (fun k _ _ => (intOf k).toNat)
  case atStart => exact ⟨n, [], Nat.le_refl _, rfl, rfl, by simp, Below.refl _ _⟩
  case round =>
    obtain ⟨j, l, hj, rfl, rfl, hd0, hb⟩ := hrel
    have hl1 : 1 + l.length ≤ 9223372036854775807 := by
      rw [hd0, List.length_append] at hlen
      omega
    have hd := Lib.hid hd0
    clear hd0 hlen
    by_cases hp : 9 < j
    · have hcv := conv_one wr (d8 j)
      rw [d8_toNat] at hcv
      go_wp2_with fail
      go_roundw
      case rel =>
        refine ⟨j / 10, d8 j :: l, by omega, by go_num, ?_, ?_, hb.alloc hb.size _⟩
        · show Value.string (ByteArray.mk [d8 j].toArray ++ ByteArray.mk l.toArray) = _
          rw [ByteArray.mk_append_mk]
          rfl
        · rw [hd.out, dec_big (by omega)]
          simp
      case measure => simp [intOf]; omega
    · have hcv := conv_one wr (d8 j)
      rw [d8_toNat, show (48 : Int) + (j : Int) % 10 = 48 + (j : Int) from by omega] at hcv
      go_wp2_with fail
      go_ret
      refine ⟨?_, hb.alloc hb.size _⟩
      show Ending.returned (.string (ByteArray.mk [d8 j].toArray ++ ByteArray.mk l.toArray)) = _
      rw [ByteArray.mk_append_mk, hd.out, dec_small (by omega)]

theorem tdiv_neg (n : Nat) : (-(n : Int)).tdiv 10 = -((n / 10 : Nat) : Int) := by rw [Int.neg_tdiv]; rfl
theorem tmod_neg (n : Nat) : (-(n : Int)).tmod 10 = -((n % 10 : Nat) : Int) := by rw [Int.neg_tmod]; rfl

theorem lit_kept {w w1 : World} {v : Value} (hb : Below ((w.alloc (.cells #[v] 5)).drew).heap.size ((w.alloc (.cells #[v] 5)).drew) w1) : w1.cell? ⟨w.heap.size, 0, none⟩ = some v := by
  rw [hb.cell (p := ⟨w.heap.size, 0, none⟩) (by show w.heap.size < (w.heap.push _).size; simp)]
  exact World.cell?_alloc_new _ _ _ _

theorem below_lit_after {w w1 : World} {o : Obj} (hb : Below w.drew.heap.size w.drew w1) : Below w.heap.size w (w1.alloc o) := by
  have h : Below w.heap.size w w1 := (Below.refl _ _).drew.trans hb
  exact h.alloc h.size _
theorem below_lit_before {w w1 : World} {o : Obj} (hb : Below (w.alloc o).drew.heap.size (w.alloc o).drew w1) : Below w.heap.size w w1 :=
  (((Below.refl w.heap.size w).alloc (Nat.le_refl _) o).drew).trans (hb.mono (by show w.heap.size ≤ (w.heap.push _).size; simp))

set_option maxHeartbeats 800000 in
theorem spec_fmt_neg (k : Nat) : ∀ (n : Nat) (w : World), n ≤ k → 0 < n → n ≤ 9223372036854775808 →
    Calls Tryz.prog 136 #[.int .i64 (-(n : Int))] w fun e w' => e = .returned (.string ⟨(45 :: Lib.decDigits n).toArray⟩) ∧ Below w.heap.size w w' := by
  induction k with
  | zero => intro n w h1 h2; omega
  | succ k ih =>
    intro n w hk h0 hn
    by_cases hs : n < 10
    · have hcv := conv_one w (d8 n)
      rw [d8_toNat, show (48 : Int) + (n : Int) % 10 = 48 + (n : Int) from by omega] at hcv
      have q1 : (-(n : Int)).tdiv 10 = 0 := by rw [tdiv_neg]; omega
      go_enter Tryz.func136, Tryz.ntmps136
      go_wp2_with fail
      go_ret
      refine ⟨?_, (Below.refl _ _).alloc (Nat.le_refl _) _⟩
      show Ending.returned (.string (ByteArray.mk [(45 : UInt8)].toArray ++ ByteArray.mk [d8 n].toArray)) = _
      rw [ByteArray.mk_append_mk, dec_small hs]
      rfl
    · have hcv : ∀ (W : World) (b : Nat), W.cell? ⟨b, 0, none⟩ = some (.int .u8 (48 + (n : Int) % 10)) → (convert 43 9 (.slice (some ⟨b, 0, none⟩) 1 1)).run Tryz.prog W = .ok (.string ⟨#[d8 n]⟩) W := fun W b h => conv_at W b (d8 n) (by rw [d8_toNat]; exact h)
      have q1 : (-(n : Int)).tdiv 10 = -((n / 10 : Nat) : Int) := tdiv_neg n
      have q2 : (-(n : Int)).tmod 10 = -((n % 10 : Nat) : Int) := tmod_neg n
      have hI : Hid (∀ W, Calls Tryz.prog 136 #[.int .i64 (-((n : Int) / 10))] W fun e w' => e = .returned (.string ⟨(45 :: Lib.decDigits (n / 10)).toArray⟩) ∧ Below W.heap.size W w') := Lib.hid (fun W => by
        have h := ih (n / 10) W (by omega) (by omega) (by omega)
        rwa [show ((n / 10 : Nat) : Int) = (n : Int) / 10 from by omega] at h)
      clear ih
      have HE : Hid (45 :: Lib.decDigits n = (45 :: Lib.decDigits (n / 10)) ++ [d8 n]) := Lib.hid (by rw [dec_big hs]; rfl)
      have hl : (45 :: Lib.decDigits (n / 10)).length + 1 ≤ 9223372036854775807 := by
        have := dec_len (n / 10)
        rw [List.length_cons]
        omega
      generalize 45 :: Lib.decDigits (n / 10) = L at hI HE hl
      go_enter Tryz.func136, Tryz.ntmps136
      go_wp2_with fail
      have w1 : IntKind.i64.wrap (-((n : Int) / 10)) = -((n : Int) / 10) := IntWalk.i64_in _ (by omega)
      have w2 : IntKind.i64.wrap (-((n : Int) % 10)) = -((n : Int) % 10) := IntWalk.i64_in _ (by omega)
      have w3 : IntKind.i64.wrap (48 - -((n : Int) % 10)) = 48 + (n : Int) % 10 := by rw [IntWalk.i64_in _ (by omega)]; omega
      have w4 : IntKind.i64.wrap (48 + (n : Int) % 10) = 48 + (n : Int) % 10 := IntWalk.i64_in _ (by omega)
      have w5 : IntKind.u8.wrap (48 + (n : Int) % 10) = 48 + (n : Int) % 10 := by simp only [IntKind.wrap_u8]; omega
      go_region_with ((go_at_call 136; refine (hI.out _).mono ?_; rintro e w1 ⟨rfl, hb1⟩; try (have hc1 := lit_kept hb1)))
      all_goals
        go_wp2_with fail
        go_ret
        refine ⟨?_, ?_⟩
        · show Ending.returned (.string (ByteArray.mk L.toArray ++ ByteArray.mk [d8 n].toArray)) = _
          rw [ByteArray.mk_append_mk, HE.out]
        · first
            | exact below_lit_after hb1
            | exact below_lit_before hb1

theorem spec_fmt (n : Int) (w : World) (h0 : -9223372036854775808 ≤ n) (h1 : n ≤ 9223372036854775807) :
    Calls Tryz.prog 136 #[.int .i64 n] w fun e w' => e = .returned (.string ⟨(Lib.itoa n).toArray⟩) ∧ Below w.heap.size w w' := by
  by_cases hn : n < 0
  · have h := spec_fmt_neg n.natAbs n.natAbs w (Nat.le_refl _) (by omega) (by omega)
    rw [show -(n.natAbs : Int) = n from by omega] at h
    rw [Lib.itoa, if_pos hn]
    exact h
  · have h := spec_fmt_nat n.toNat w (by omega)
    rw [show (n.toNat : Int) = n from by omega] at h
    rw [Lib.itoa, if_neg hn]
    exact h

theorem below_grow (w : World) (k : Nat) (os : Array Obj) : Below w.heap.size w (Sort.grow (w.drewN k) os) :=
  ⟨rfl, rfl, rfl, by show w.heap.size ≤ (w.heap ++ os).size; simp, fun i hi => by show (w.heap ++ os)[i]? = _; rw [Array.getElem?_append_left hi]⟩

/-- 'impl.FormatInt' hands on 'strconv.Itoa'. -/
theorem impl_fmt (n : Int) (w : World) (h0 : -9223372036854775808 ≤ n) (h1 : n ≤ 9223372036854775807) (htab : Lib.TabIs Tryz.prog w "internal/strconv.uint64pow10" .u64 Lib.pow10Tab) :
    Calls Tryz.prog 112 #[.int .i64 n] w fun e w' => e = .returned (.string ⟨(Lib.itoa n).toArray⟩) ∧ Below w.heap.size w w' := by
  have H := Lib.hid (Tryz.strconv_Itoa n h0 h1 w htab)
  clear htab
  go_enter Tryz.func112, Tryz.ntmps112
  go_wp2_with fail
  refine (Hid.out H).mono ?_
  rintro e w1 ⟨rfl, k, os, rfl⟩
  go_wp2
  go_ret
  exact ⟨rfl, below_grow w k os⟩
theorem tab_below {W W' : World} (hb : Below W.heap.size W W') (h : Lib.TabIs Tryz.prog W "internal/strconv.uint64pow10" .u64 Lib.pow10Tab) : Lib.TabIs Tryz.prog W' "internal/strconv.uint64pow10" .u64 Lib.pow10Tab := by
  have hg : Tryz.prog.globalNamed "internal/strconv.uint64pow10" = some 5 := by kernel_rfl
  have hc := h.cell hg 0 (by decide)
  exact var?_below hb hg (World.block_lt_of_cell? W _ hc) h

end Go.Proofs.YtkmfbanlkglkmabGreatDoor

namespace Go.Proofs.YtkmfbanlkglkmabGreatDoor
open Go.ChangeShapes Go.WideShapes Go.ChangeAt Go.RowKit
open Go.ChangeMaps (open_string shut_string)
set_option linter.unusedVariables false
set_option linter.unusedSimpArgs false
set_option maxRecDepth 4000

/-- The answer. -/
def padL (l : List UInt8) (n : Int) : List UInt8 := if n ≤ 2000 then List.replicate (n.toNat - l.length) 48 ++ l else l
theorem padL_big {l : List UInt8} {n : Int} (h : 2000 < n) : padL l n = l := by rw [padL, if_neg (by omega)]
theorem padL_short {l : List UInt8} {n : Int} (h : n ≤ (l.length : Int)) : padL l n = l := by
  unfold padL
  split
  · rw [show n.toNat - l.length = 0 from by omega]; rfl
  · rfl
theorem padL_long {l : List UInt8} {n : Int} (h : n ≤ 2000) : padL l n = List.replicate (n.toNat - l.length) 48 ++ l := by rw [padL, if_pos h]
/-- Some of the zeros stand. -/
def Padded (l : List UInt8) (n : Int) (t : List UInt8) : Prop := ∃ k, t = List.replicate k 48 ++ l ∧ k ≤ n.toNat - l.length
theorem Padded.start (l : List UInt8) (n : Int) : Padded l n l := ⟨0, rfl, Nat.zero_le _⟩
theorem Padded.step {l t : List UInt8} {n : Int} (h : Padded l n t) (ht : (t.length : Int) < n) : Padded l n (48 :: t) := by
  obtain ⟨k, rfl, hk⟩ := h
  refine ⟨k + 1, by rw [List.replicate_succ]; rfl, ?_⟩
  rw [List.length_append, List.length_replicate] at ht
  omega
theorem Padded.done {l t : List UInt8} {n : Int} (h : Padded l n t) (ht : ¬ (t.length : Int) < n) (hn : n ≤ 2000) : padL l n = t := by
  obtain ⟨k, rfl, hk⟩ := h
  rw [List.length_append, List.length_replicate] at ht
  rw [padL_long hn, show n.toNat - l.length = k from by omega]
def strLen : Value → Nat | .string s => s.size | _ => 0
theorem strLen_mk (l : List UInt8) : strLen (.string ⟨l.toArray⟩) = l.length := by simp [strLen, ByteArray.size]

set_option maxHeartbeats 400000 in
theorem spec_pad (l : List UInt8) (n : Int) (w : World) (hl : l.length ≤ 1048576) (hn : -9223372036854775808 ≤ n ∧ n ≤ 9223372036854775807) :
    Calls Tryz.prog 137 #[.string ⟨l.toArray⟩, .int .i64 n] w fun e w' => e = .returned (.string ⟨(padL l n).toArray⟩) ∧ w = w' := by
  obtain ⟨hn1, hn2⟩ := hn
  by_cases hb : 2000 < n
  · have HE := Lib.hid (padL_big (l := l) hb)
    go_enter Tryz.func137, Tryz.ntmps137
    go_wp2
    go_ret
    exact ⟨ret_str HE.out.symm, rfl⟩
  · go_enter Tryz.func137, Tryz.ntmps137
    go_wp2
    go_loop [0] (fun v => ∃ t : List UInt8, v = .string ⟨t.toArray⟩ ∧ Padded l n t) (fun v => n.toNat - strLen v)
    case atStart => exact ⟨l, rfl, Padded.start _ _⟩
    case round =>
      obtain ⟨t, rfl, hp0⟩ := hrel
      have hp := Lib.hid hp0
      clear hp0
      by_cases hlt : (t.length : Int) < n
      · have h1 : 1 + t.length ≤ 9223372036854775807 := by omega
        go_wp2
        go_round
        case rel =>
          refine ⟨48 :: t, ?_, hp.out.step hlt⟩
          show Value.string (ByteArray.mk [(48 : UInt8)].toArray ++ ByteArray.mk t.toArray) = _
          rw [ByteArray.mk_append_mk]
          rfl
        case measure =>
          show n.toNat - strLen (Value.string (ByteArray.mk [(48 : UInt8)].toArray ++ ByteArray.mk t.toArray)) < n.toNat - strLen (Value.string (ByteArray.mk t.toArray))
          rw [ByteArray.mk_append_mk, strLen_mk, strLen_mk, List.length_append]
          simp
          omega
      · have HE := Lib.hid (hp.out.done hlt (by omega))
        go_wp2
        go_ret
        exact ⟨ret_str HE.out.symm, rfl⟩

theorem joinParts_two (a b : List UInt8) (bk c : Nat) (w : World) (h0 : w.cell? ⟨bk, 0, none⟩ = some (.string ⟨a.toArray⟩)) (h1 : w.cell? ⟨bk, 1, none⟩ = some (.string ⟨b.toArray⟩)) (hbk : bk < w.heap.size) (hc : 2 ≤ c) (hlen : a.length + b.length ≤ 140737488355328) :
    Calls Tryz.prog 44 #[.string ⟨#[]⟩, .slice (some ⟨bk, 0, none⟩) 2 c] w fun e w' => e = .returned (.string ⟨(a ++ b).toArray⟩) ∧ Below w.heap.size w w' := by
  have hj : Lib.join (([⟨a.toArray⟩, ⟨b.toArray⟩] : List ByteArray).map (·.data.toList)) (ByteArray.mk #[]).data.toList = a ++ b := by simp [Lib.join, List.intercalate]
  have hc' := Tryz.strings_Join bk 0 c [⟨a.toArray⟩, ⟨b.toArray⟩] ⟨#[]⟩ w (fun j x hx => by
    rw [Nat.zero_add]
    match j, hx with
    | 0, hx => simp at hx; rw [← hx]; exact h0
    | 1, hx => simp at hx; rw [← hx]; exact h1) hbk (by simp) (by simpa using hc) (by rw [hj, List.length_append]; exact hlen)
  rw [hj] at hc'
  have H := Lib.hid hc'
  clear hc' hj h0 h1 hlen
  go_enter Tryz.func44, Tryz.ntmps44
  go_wp2_with fail
  refine (Hid.out H).mono ?_
  rintro e w1 ⟨rfl, hb⟩
  go_wp2
  go_ret
  exact ⟨rfl, hb⟩
theorem repeatL_one (c : UInt8) : ∀ n, Lib.repeatL [c] n = List.replicate n c
  | 0 => rfl
  | n + 1 => by rw [Lib.repeatL, repeatL_one c n, List.replicate_succ]; rfl

set_option maxHeartbeats 400000 in
theorem impl_pad (l : List UInt8) (n : Int) (w : World) (hl : l.length ≤ 1048576) (hn : -9223372036854775808 ≤ n ∧ n ≤ 9223372036854775807) :
    Calls Tryz.prog 113 #[.string ⟨l.toArray⟩, .int .i64 n] w fun e w' => e = .returned (.string ⟨(padL l n).toArray⟩) ∧ Below w.heap.size w w' := by
  obtain ⟨hn1, hn2⟩ := hn
  by_cases hs : n ≤ (l.length : Int)
  · have HE := Lib.hid (padL_short (l := l) hs)
    go_enter Tryz.func113, Tryz.ntmps113
    go_wp2
    go_ret
    exact ⟨ret_str HE.out.symm, Below.refl _ _⟩
  by_cases hb : 2000 < n
  · have HE := Lib.hid (padL_big (l := l) hb)
    go_enter Tryz.func113, Tryz.ntmps113
    go_wp2
    go_ret
    exact ⟨ret_str HE.out.symm, Below.refl _ _⟩
  · have HE := Lib.hid (padL_long (l := l) (n := n) (by omega))
    obtain ⟨k, hk0⟩ : ∃ k : Nat, n = (l.length : Int) + (k : Int) := ⟨(n - l.length).toNat, by omega⟩
    subst hk0
    have hk1 : k ≤ 2000 := by omega
    have HR : Hid (Lib.repeatL (ByteArray.mk [(48 : UInt8)].toArray).data.toList k = List.replicate k 48) := repeatL_one 48 k
    go_enter Tryz.func113, Tryz.ntmps113
    go_wp2_with fail
    rw [show ((l.length : Int) + (k : Int) - (l.length : Int)) = (k : Int) from by omega]
    refine (Tryz.strings_Repeat ⟨#[48]⟩ k _ (by omega) (by show (1 : Nat) * k ≤ 140737488355328; omega)).mono ?_
    rintro e w1 ⟨rfl, hb1⟩
    rw [show Lib.repeatL (ByteArray.mk #[48]).data.toList k = List.replicate k 48 from HR.out]
    go_wp2_with fail
    refine (joinParts_two (List.replicate k 48) l w1.heap.size 2 _ ?_ ?_ ?_ (Nat.le_refl _) (by rw [List.length_replicate]; omega)).mono ?_
    · exact World.cell?_alloc_new _ _ _ _
    · exact World.cell?_alloc_new _ _ _ _
    · simp
    rintro e w2 ⟨rfl, hb2⟩
    go_wp2
    go_ret
    refine ⟨ret_str ?_, hb1.trans (((Below.refl _ _).alloc (Nat.le_refl _) _).trans (hb2.mono (by simp)) |>.mono hb1.size)⟩
    rw [HE.out, show ((l.length : Int) + (k : Int)).toNat - l.length = k from by omega]
end Go.Proofs.YtkmfbanlkglkmabGreatDoor

namespace Go.Proofs.YtkmfbanlkglkmabGreatDoor
open Go.ChangeShapes Go.WideShapes Go.ChangeAt Go.RowKit
open Go.ChangeMaps (open_string shut_string)
set_option linter.unusedVariables false
set_option linter.unusedSimpArgs false
set_option maxRecDepth 4000

/-- The numeral of limb j. -/
def dpart (a j : Nat) : List UInt8 := Lib.itoa (dgt a j)
/-- The text when t limbs below the highest of n are written. -/
def ftx (a n : Nat) : Nat → List UInt8
  | 0 => dpart a (n - 1)
  | t + 1 => ftx a n t ++ padL (dpart a (n - 2 - t)) 9
/-- Its parts. -/
def fps (a n : Nat) : Nat → List ByteArray
  | 0 => [⟨(dpart a (n - 1)).toArray⟩]
  | t + 1 => fps a n t ++ [⟨(padL (dpart a (n - 2 - t)) 9).toArray⟩]
def fmtN (a : Nat) : List UInt8 := if a = 0 then [48] else ftx a (ln a) (ln a - 1)
def fmtL (l : List Int) : List UInt8 := if ok l then fmtN (val l) else []
theorem dec_pow : ∀ (k u : Nat), u < 10 ^ (k + 1) → (Lib.decDigits u).length ≤ k + 1
  | 0, u, h => by
    rw [dec_small (by omega)]
    simp
  | k + 1, u, h => by
    by_cases h1 : u < 10
    · rw [dec_small h1]; simp
    · rw [dec_big h1, List.length_append]
      have := dec_pow k (u / 10) (by rw [Nat.pow_succ] at h; omega)
      simp
      omega
theorem dpart_len (a j : Nat) : (dpart a j).length ≤ 9 := by
  have h0 := dgt_nonneg a j
  have h1 := dgt_lt a j
  unfold dpart
  rw [Lib.itoa, if_neg (by omega)]
  exact dec_pow 8 _ (by omega)
theorem pad9_len {l : List UInt8} (h : l.length ≤ 9) : (padL l 9).length = 9 := by
  rw [padL_long (by decide), List.length_append, List.length_replicate]
  have : (9 : Int).toNat = 9 := rfl
  omega
theorem ftx_len (a n : Nat) : ∀ t, (ftx a n t).length ≤ 9 * (t + 1)
  | 0 => dpart_len _ _
  | t + 1 => by
    have := ftx_len a n t
    rw [ftx, List.length_append, pad9_len (dpart_len _ _)]
    omega
theorem fps_length (a n : Nat) : ∀ t, (fps a n t).length = t + 1
  | 0 => rfl
  | t + 1 => by rw [fps, List.length_append, fps_length a n t]; rfl
theorem total_append (l m : List ByteArray) : total (l ++ m) = total l + total m := by unfold total; rw [List.map_append, List.sum_append]
theorem fps_total (a n : Nat) : ∀ t, total (fps a n t) ≤ 9 * (t + 1)
  | 0 => by
    have := dpart_len a (n - 1)
    simp [fps, total, ByteArray.size]
    omega
  | t + 1 => by
    have := fps_total a n t
    have h9 := pad9_len (dpart_len a (n - 2 - t))
    rw [fps, total_append]
    have : total [(⟨(padL (dpart a (n - 2 - t)) 9).toArray⟩ : ByteArray)] = 9 := by simp [total, ByteArray.size, h9]
    omega
theorem jn_append (l : List ByteArray) (x : ByteArray) : jn (l ++ [x]) [] (l.length + 1) = jn l [] l.length ++ x.data.toList := by
  rw [jn_succ (by simp)]
  have h1 : (l ++ [x])[l.length]'(by simp) = x := by simp
  have h2 : jn (l ++ [x]) [] l.length = jn l [] l.length := by
    unfold jn
    rw [List.map_append, List.take_append_of_le_length (by simp)]
  rw [h1, h2]
  split <;> simp
theorem fps_join (a n : Nat) : ∀ t, jn (fps a n t) [] (t + 1) = ftx a n t
  | 0 => by
    have h := jn_append [] ⟨(dpart a (n - 1)).toArray⟩
    simpa [fps, ftx, jn_zero] using h
  | t + 1 => by
    have h := jn_append (fps a n t) ⟨(padL (dpart a (n - 2 - t)) 9).toArray⟩
    rw [fps_length] at h
    rw [fps, h, fps_join a n t, ftx]

set_option maxHeartbeats 800000 in
theorem spec_fmtNat (l : List Int) (A : Option Addr) (n c : Nat) (w : World) (hl : l.length = n) (hn : n ≤ 9223372036854775807) (hA : RdS w A (vi l)) :
    Calls Tryz.prog 86 #[.slice A n c] w fun e w' => e = .returned (.string ⟨(fmtL l).toArray⟩) ∧ Below w.heap.size w w' := by
  have H1 := spec_ok l A n c w hl hn hA
  by_cases hk : ok l = true
  · rw [hk] at H1
    have hf : fmtL l = fmtN (val l) := by unfold fmtL; rw [hk]; rfl
    obtain ⟨a, rfl, ha⟩ := ok_nd hk
    rw [val_nd] at hf
    rw [nd_length] at hl
    clear hk
    by_cases h0 : n = 0
    · have hF : Hid (fmtL (nd a) = [48]) := Lib.hid (by rw [hf, fmtN, if_pos (ln_eq_zero.1 (by omega))])
      subst h0
      clear hf hl ha
      go_enter Tryz.func86, Tryz.ntmps86
      go_wp2_with fail
      refine H1.mono ?_
      rintro e w1 ⟨rfl, rfl⟩
      go_wp2
      go_ret
      exact ⟨ret_str hF.out.symm, Below.refl _ _⟩
    · have hF : Hid (fmtL (nd a) = ftx a n (n - 1)) := Lib.hid (by rw [hf, fmtN, if_neg (fun e => h0 (by rw [← hl]; exact ln_eq_zero.2 e)), hl])
      have HN := Lib.hid hl
      have hn60 : n ≤ 60 := by omega
      have hkz : ((n : Int) == 0) = false := by rw [beq_eq_false_iff_ne]; omega
      have HI : Hid (∀ j W, Calls Tryz.prog 136 #[.int .i64 (dgt a j)] W fun e w' => e = .returned (.string ⟨(dpart a j).toArray⟩) ∧ Below W.heap.size W w') :=
        Lib.hid (fun j W => spec_fmt (dgt a j) W (by have := dgt_nonneg a j; omega) (by have := dgt_lt a j; omega))
      have HP : Hid (∀ j W, Calls Tryz.prog 137 #[.string ⟨(dpart a j).toArray⟩, .int .i64 9] W fun e w' => e = .returned (.string ⟨(padL (dpart a j) 9).toArray⟩) ∧ W = w') :=
        Lib.hid (fun j W => spec_pad (dpart a j) 9 W (by have := dpart_len a j; omega) (by omega))
      clear hf hl ha
      obtain ⟨b1, o1, rfl, hb1, e1⟩ := hA.int (nd_get (v := a) (i := n - 1) (by rw [HN.out]; omega))
      have hi0 : (0 : Int) ≤ (n : Int) - 1 := by omega
      have hi1 : (n : Int) - 1 < (n : Int) := by omega
      have hkt : ((n : Int) - 1).toNat = n - 1 := by omega
      have hnp : 0 < n := by omega
      have hI0 := Lib.hid (fun W => HI.out (n - 1) W)
      have hf0 : Hid (dpart a (n - 1) = ftx a n 0) := Lib.hid rfl
      have hlen0 := dpart_len a (n - 1)
      generalize dpart a (n - 1) = L0 at hI0 hf0 hlen0
      generalize dgt a (n - 1) = x0 at e1 hI0
      go_enter Tryz.func86, Tryz.ntmps86
      go_wp2_with fail
      refine H1.mono ?_
      rintro e w1 ⟨rfl, rfl⟩
      go_wp2_with fail
      refine (hI0.out _).mono ?_
      rintro e w1 ⟨rfl, hbw⟩
      have hA0 := Lib.hid hA
      clear hA e1 hI0 hb1
      go_wp2_with fail
      go_loopw [3, 4] (fun v i w' => ∃ (t : Nat) (x : Int) (L : List UInt8), t ≤ n - 1 ∧ v = .string ⟨L.toArray⟩ ∧ L = ftx a n t ∧ L.length ≤ 9 * (t + 1) ∧ i = .int .i64 x ∧ x = (n : Int) - 2 - (t : Int) ∧ Below w.heap.size w w') (fun _ i _ => (intOf i + 1).toNat)
      case atStart => exact ⟨0, _, L0, Nat.zero_le _, rfl, hf0.out, by omega, rfl, by omega, hbw⟩
      case round =>
        clear hf0 hlen0 hbw
        obtain ⟨t, x, L, ht, rfl, hL, hLl, rfl, hx, hb⟩ := hrel
        have HL := Lib.hid hL
        clear hL
        by_cases hlt : t < n - 1
        · obtain ⟨j, hj⟩ : ∃ j, j = n - 2 - t := ⟨_, rfl⟩
          obtain rfl : x = (j : Int) := by omega
          clear hx
          obtain ⟨b2, o2, hbo, hb2, e2⟩ := (hA0.out.below hb).int (nd_get (v := a) (i := j) (by rw [HN.out]; omega))
          injection hbo with hbo
          injection hbo with hbo1 hbo2
          subst hbo1
          subst hbo2
          have hi0 : (0 : Int) ≤ (j : Int) := by omega
          have hi1 : (j : Int) < (n : Int) := by omega
          have hIj := Lib.hid (fun W => HI.out j W)
          have hPj := Lib.hid (fun W => HP.out j W)
          have hfj : Hid (ftx a n (t + 1) = L ++ padL (dpart a j) 9) := Lib.hid (by rw [ftx, ← hj, HL.out])
          have h9 := pad9_len (dpart_len a j)
          have hj' := Lib.hid hj
          clear hj
          generalize padL (dpart a j) 9 = M at hPj hfj h9
          generalize dpart a j = N' at hIj hPj
          generalize dgt a j = y at e2 hIj
          have hov : L.length + M.length ≤ 9223372036854775807 := by omega
          go_wp2_with fail
          refine (hIj.out _).mono ?_
          rintro e w2 ⟨rfl, hb2'⟩
          go_wp2_with fail
          refine (hPj.out _).mono ?_
          rintro e w3 ⟨rfl, rfl⟩
          go_wp2_with fail
          go_roundw
          case rel => exact ⟨t + 1, _, L ++ M, by omega, by rw [ByteArray.mk_append_mk], hfj.out.symm, by rw [List.length_append]; omega, rfl, by have := hj'.out; omega, bt hb hb2'⟩
          case measure => simp [intOf]
        · obtain rfl : t = n - 1 := by omega
          have hx0 : x < 0 := by omega
          clear hx
          go_wp2
          go_ret
          exact ⟨ret_str (by rw [hF.out, HL.out]), hb⟩
  · have hk' : ok l = false := by simpa using hk
    rw [hk'] at H1
    have hF : Hid (fmtL l = []) := Lib.hid (by unfold fmtL; rw [hk']; rfl)
    clear hk hk' hl
    go_enter Tryz.func86, Tryz.ntmps86
    go_wp2_with fail
    refine H1.mono ?_
    rintro e w1 ⟨rfl, rfl⟩
    go_wp2
    go_ret
    exact ⟨ret_str hF.out.symm, Below.refl _ _⟩
end Go.Proofs.YtkmfbanlkglkmabGreatDoor

namespace Go.Proofs.YtkmfbanlkglkmabGreatDoor
open Go.ChangeShapes Go.WideShapes Go.ChangeAt Go.RowKit
open Go.ChangeMaps (open_string shut_string)
set_option linter.unusedVariables false
set_option linter.unusedSimpArgs false
set_option maxRecDepth 4000

theorem string_info : (Tryz.prog.info? 9).map (fun i => (i.zero, i.size, i.bytes)) = some (some (.string ⟨#[]⟩), 1, 16) := by kernel_rfl

/-- 'append(out, t)' of one string, onto a row of the call's own. -/
theorem append_str {ops : Array Oper} {rest : List Oper} {o : Oper} {a : Act} {Q : Exit → Act → World → Prop} (hgd : o.guard = none) (f x : Operand)
    (ho : o.op = .call { callee := .builtin .append, args := #[f, x], argTypes := #[64, 64] })
    (B n : Nat) (v : Value) (xs : List ByteArray) (t : ByteArray) (w : World) (hf : a.eval f = v) (hx : a.eval x = .slice (some ⟨w.heap.size, 0, none⟩) 1 1)
    (hown : w.ownsRow B 9 1 v n (vs xs)) (hn : n ≤ 1099511627776) (hB : B ≤ w.heap.size)
    (h : ∀ v' w', w'.ownsRow B 9 1 v' (n + 1) (vs (xs ++ [t])) → Below B w w' → wpList Tryz.prog ops Q rest (a.put o.dst v') w') :
    wpList Tryz.prog ops Q (o :: rest) a (w.alloc (.cells #[.string t] 9)) := by
  obtain ⟨i0, hi, hz0, hz1, hz2⟩ := info_parts string_info
  refine wpList_append_own (w.alloc (.cells #[.string t] 9)) hgd f x 64 ho B 9 i0 _ 1 16 Tryz.underlying64 hi hz0 hz1 hz2 rfl (by decide) v n (vs xs) hf (hown.alloc _) ⟨w.heap.size, 0, none⟩ 1 1 [.string t] hx rfl ?_ ?_ (by simp only [maxLen]; omega) (by omega) (by simp; omega) ?_
  · intro j u hu
    have hj : j = 0 := by
      have := (List.getElem?_eq_some_iff.1 hu).1
      simpa using this
    subst hj
    simp at hu
    subst hu
    exact World.cell?_alloc_new _ _ _ _
  · simp [Value.oneCell']
  · intro v' w' h1 h2 _
    refine h v' w' (by rw [vs_append]; exact h1) ?_
    refine ((Below.refl B w).alloc hB _).grown h2 (by simp; omega) (fun g hg => ?_)
    rcases hown.2 with ⟨rfl, _⟩ | ⟨g', cap, cur, rfl, hbg, _⟩
    · simp [Value.ownBlock] at hg
    · simp [Value.ownBlock] at hg
      omega


theorem lit_row (B : Nat) (w : World) (s : ByteArray) (hB : B ≤ w.heap.size) : (w.alloc (.cells #[.string s] 9)).ownsRow B 9 1 (.slice (some ⟨w.heap.size, 0, none⟩) 1 1) 1 (vs [s]) :=
  ⟨rfl, .inr ⟨w.heap.size, 1, #[.string s], rfl, hB, heap_alloc_new w _, Nat.le_refl _, by simp [maxLen], rfl, rfl⟩⟩

set_option maxHeartbeats 800000 in
theorem impl_fmtNat (l : List Int) (A : Option Addr) (n c : Nat) (w : World) (hl : l.length = n) (hn : n ≤ 9223372036854775807) (hA : RdS w A (vi l)) (htab : Lib.TabIs Tryz.prog w "internal/strconv.uint64pow10" .u64 Lib.pow10Tab) :
    Calls Tryz.prog 58 #[.slice A n c] w fun e w' => e = .returned (.string ⟨(fmtL l).toArray⟩) ∧ Below w.heap.size w w' := by
  have H1 := impl_ok l A n c w hl hn hA
  have HT := Lib.hid htab
  clear htab
  by_cases hk : ok l = true
  · rw [hk] at H1
    have hf : fmtL l = fmtN (val l) := by unfold fmtL; rw [hk]; rfl
    obtain ⟨a, rfl, ha⟩ := ok_nd hk
    rw [val_nd] at hf
    rw [nd_length] at hl
    clear hk
    by_cases h0 : n = 0
    · have hF : Hid (fmtL (nd a) = [48]) := Lib.hid (by rw [hf, fmtN, if_pos (ln_eq_zero.1 (by omega))])
      subst h0
      clear hf hl ha
      go_enter Tryz.func58, Tryz.ntmps58
      go_wp2_with fail
      refine H1.mono ?_
      rintro e w1 ⟨rfl, rfl⟩
      go_wp2
      go_ret
      exact ⟨ret_str hF.out.symm, Below.refl _ _⟩
    · have hF : Hid (fmtL (nd a) = ftx a n (n - 1)) := Lib.hid (by rw [hf, fmtN, if_neg (fun e => h0 (by rw [← hl]; exact ln_eq_zero.2 e)), hl])
      have HN := Lib.hid hl
      have hn60 : n ≤ 60 := by omega
      have hkz : ((n : Int) == 0) = false := by rw [beq_eq_false_iff_ne]; omega
      have HI : Hid (∀ j W, Below w.heap.size w W → Calls Tryz.prog 112 #[.int .i64 (dgt a j)] W fun e w' => e = .returned (.string ⟨(dpart a j).toArray⟩) ∧ Below W.heap.size W w') :=
        Lib.hid (fun j W hb => impl_fmt (dgt a j) W (by have := dgt_nonneg a j; omega) (by have := dgt_lt a j; omega) (tab_below hb HT.out))
      have HP : Hid (∀ j W, Calls Tryz.prog 113 #[.string ⟨(dpart a j).toArray⟩, .int .i64 9] W fun e w' => e = .returned (.string ⟨(padL (dpart a j) 9).toArray⟩) ∧ Below W.heap.size W w') :=
        Lib.hid (fun j W => impl_pad (dpart a j) 9 W (by have := dpart_len a j; omega) (by omega))
      have HJ : Hid (∀ A' c' W, n ≤ c' → RdS W A' (vs (fps a n (n - 1))) → Calls Tryz.prog 114 #[.slice A' n c', .string ⟨#[]⟩] W fun e w' => e = .returned (.string ⟨(ftx a n (n - 1)).toArray⟩) ∧ Below W.heap.size W w') :=
        Lib.hid (fun A' c' W hc' hR => by
          have h1 := fps_join a n (n - 1)
          have h2 := fps_total a n (n - 1)
          have h3 := fps_length a n (n - 1)
          have h4 := impl_join (fps a n (n - 1)) [] A' n c' W (by omega) hc' (by omega) (by simp) hR
          rw [show n - 1 + 1 = n by omega] at h1
          rw [h1] at h4
          exact h4)
      clear hf hl ha
      obtain ⟨b1, o1, rfl, hb1, e1⟩ := hA.int (nd_get (v := a) (i := n - 1) (by rw [HN.out]; omega))
      have hi0 : (0 : Int) ≤ (n : Int) - 1 := by omega
      have hi1 : (n : Int) - 1 < (n : Int) := by omega
      have hkt : ((n : Int) - 1).toNat = n - 1 := by omega
      have hnp : 0 < n := by omega
      have hI0 := Lib.hid (HI.out (n - 1) w (Below.refl _ _))
      have hf0 : Hid (fps a n 0 = [⟨(dpart a (n - 1)).toArray⟩]) := Lib.hid rfl
      generalize dpart a (n - 1) = L0 at hI0 hf0
      generalize dgt a (n - 1) = x0 at e1 hI0
      go_enter Tryz.func58, Tryz.ntmps58
      go_wp2_with fail
      refine H1.mono ?_
      rintro e w1 ⟨rfl, rfl⟩
      go_wp2_with fail
      refine hI0.out.mono ?_
      rintro e w1 ⟨rfl, hbw⟩
      have hA0 := Lib.hid hA
      have hrow := lit_row w.heap.size w1 ⟨L0.toArray⟩ hbw.size
      have hbw2 : Below w.heap.size w (w1.alloc (.cells #[.string ⟨L0.toArray⟩] 9)) := hbw.alloc hbw.size _
      clear hA e1 hI0 hb1 hbw
      go_wp2_with fail
      go_loopw [4, 5] (fun v i w' => ∃ (t : Nat) (x : Int) (P : List ByteArray), t ≤ n - 1 ∧ P = fps a n t ∧ P.length = t + 1 ∧ w'.ownsRow w.heap.size 9 1 v (t + 1) (vs P) ∧ i = .int .i64 x ∧ x = (n : Int) - 2 - (t : Int) ∧ Below w.heap.size w w') (fun _ i _ => (intOf i + 1).toNat)
      case atStart => exact ⟨0, _, [⟨L0.toArray⟩], Nat.zero_le _, hf0.out.symm, rfl, hrow, rfl, by omega, hbw2⟩
      case round =>
        clear hf0 hrow hbw2
        obtain ⟨t, x, P, ht, hP, hPl, hown, rfl, hx, hb⟩ := hrel
        have HPP := Lib.hid hP
        clear hP
        by_cases hlt : t < n - 1
        · obtain ⟨j, hj⟩ : ∃ j, j = n - 2 - t := ⟨_, rfl⟩
          obtain rfl : x = (j : Int) := by omega
          clear hx
          obtain ⟨b2, o2, hbo, hb2, e2⟩ := (hA0.out.below hb).int (nd_get (v := a) (i := j) (by rw [HN.out]; omega))
          injection hbo with hbo
          injection hbo with hbo1 hbo2
          subst hbo1
          subst hbo2
          have hi0 : (0 : Int) ≤ (j : Int) := by omega
          have hi1 : (j : Int) < (n : Int) := by omega
          have hIj := Lib.hid (HI.out j wr hb)
          have hPj := Lib.hid (fun W => HP.out j W)
          have hfj : Hid (fps a n (t + 1) = P ++ [⟨(padL (dpart a j) 9).toArray⟩]) := Lib.hid (by rw [fps, ← hj, HPP.out])
          have hj' := Lib.hid hj
          clear hj
          generalize padL (dpart a j) 9 = M at hPj hfj
          generalize dpart a j = N' at hIj hPj
          generalize dgt a j = y at e2 hIj
          go_wp2_with fail
          refine hIj.out.mono ?_
          rintro e w2 ⟨rfl, hb2'⟩
          go_wp2_with fail
          refine (hPj.out _).mono ?_
          rintro e w3 ⟨rfl, hb3⟩
          have hbc := bt hb2' hb3
          have hb23 := bt hb hbc
          have hown3 := owns_below hown hbc
          go_wp2_with (at_builtin; refine append_str rfl (.tmp 27) (.tmp 34) rfl w.heap.size _ _ P ⟨M.toArray⟩ w3 rfl rfl hown3 (by omega) hb23.size ?_; intro v' w4 hown4 hb4)
          go_roundw
          case rel => exact ⟨t + 1, _, P ++ [⟨M.toArray⟩], by omega, hfj.out.symm, by rw [List.length_append, hPl]; rfl, hown4, rfl, by have := hj'.out; omega, hb23.trans hb4⟩
          case measure => simp [intOf]
        · obtain rfl : t = n - 1 := by omega
          have hx0 : x < 0 := by omega
          clear hx
          obtain ⟨A', c', rfl, hc', hm', hl'⟩ := own_len hown
          have ho := OwnS.of_own hown
          have hrd : RdS wr A' (vs (fps a n (n - 1))) := by rw [← HPP.out]; exact ho.rd
          have hJ := Lib.hid (HJ.out A' c' wr (by omega) hrd)
          rw [show n - 1 + 1 = n by omega]
          clear hown ho hrd
          go_wp2_with fail
          refine hJ.out.mono ?_
          rintro e w2 ⟨rfl, hb2'⟩
          go_wp2
          go_ret
          exact ⟨ret_str hF.out.symm, bt hb hb2'⟩
  · have hk' : ok l = false := by simpa using hk
    rw [hk'] at H1
    have hF : Hid (fmtL l = []) := Lib.hid (by unfold fmtL; rw [hk']; rfl)
    clear hk hk' hl
    go_enter Tryz.func58, Tryz.ntmps58
    go_wp2_with fail
    refine H1.mono ?_
    rintro e w1 ⟨rfl, rfl⟩
    go_wp2
    go_ret
    exact ⟨ret_str hF.out.symm, Below.refl _ _⟩

end Go.Proofs.YtkmfbanlkglkmabGreatDoor

