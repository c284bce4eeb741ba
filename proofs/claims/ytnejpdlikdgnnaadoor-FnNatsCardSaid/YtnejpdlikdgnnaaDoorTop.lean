/-
  'divideTop' and 'guessQuotient' of the program.
-/
import Derived.Test.YtnejpdlikdgnnaaDoorDiv64b
import Derived.Shelf.Spec.BitsCarry
namespace Go.Proofs.YtnejpdlikdgnnaaDoor
open Go.ChangeShapes Go.WideShapes Go.ChangeAt Go.RowKit
open Go.ChangeMaps (open_string shut_string)
set_option linter.unusedVariables false
set_option linter.unusedSimpArgs false
set_option maxRecDepth 4000

theorem dgz_nonneg (T : Int) (i : Int) : 0 ≤ dgz T i := by unfold dgz; split; exact Int.le_refl _; exact dgt_nonneg _ _
theorem dgz_lt (T : Int) (i : Int) : dgz T i < 1000000000 := by unfold dgz; split; decide; exact dgt_lt _ _

theorem add64_run (x y : Nat) (w : World) : (callFunc 90 #[.int .u64 (x : Int), .int .u64 (y : Int), .int .u64 0]).run Tryd.prog w =
    .ok (.value (.tuple #[.int .u64 (((x + y) % 18446744073709551616 : Nat) : Int), .int .u64 (((x + y) / 18446744073709551616 : Nat) : Int)])) w := by
  rw [run_callFunc_extern Tryd.func90 (by kernel_rfl) (by kernel_rfl) (by kernel_rfl) (e := add64Entry) (by kernel_rfl), run_add64 x y 0 (by omega) (by omega) (by omega) (by omega)]
  simp only [Result.andThen]
  congr 5 <;> omega

set_option maxHeartbeats 800000 in
theorem divideTop_any (T m dd : Nat) (A : Option Addr) (i : Int) (d N : Nat) (w : World) (hm : m ≤ 1048576) (hT : ln T ≤ m) (hA : RdS w A (vi (row m T))) (hi0 : -1000 ≤ i) (hi1 : i ≤ 1048576)
    (hd0 : 0 < d) (hd1 : d < 9223372036854775808) (hN : (N : Int) = (dgz T i * 1000000000 + dgz T (i - 1)) * 1000000000 + dgz T (i - 2)) (hlt : N / 18446744073709551616 < d) (hq : N / d < 9223372036854775808) :
    Calls Tryd.prog 65 #[.slice A m dd, .int .i64 i, .int .i64 (d : Int)] w fun e w' => e = .returned (.int .i64 ((N / d : Nat) : Int)) ∧ Below w.heap.size w w' := by
  have H0 := Lib.hid (fun W h => limbAt_any T m dd A i W hm hT h)
  have H1 := Lib.hid (fun W h => limbAt_any T m dd A (i - 1) W hm hT h)
  have H2 := Lib.hid (fun W h => limbAt_any T m dd A (i - 2) W hm hT h)
  have a0 := dgz_nonneg T i
  have a1 := dgz_lt T i
  have b0 := dgz_nonneg T (i - 1)
  have b1 := dgz_lt T (i - 1)
  have z0 := dgz_nonneg T (i - 2)
  have z1 := dgz_lt T (i - 2)
  generalize dgz T i = a at H0 a0 a1 hN
  generalize dgz T (i - 1) = b at H1 b0 b1 hN
  generalize dgz T (i - 2) = c at H2 z0 z1 hN
  obtain ⟨X, hX⟩ : ∃ X : Nat, a * 1000000000 + b = (X : Int) := ⟨(a * 1000000000 + b).toNat, by omega⟩
  obtain ⟨Z, hZ⟩ : ∃ Z : Nat, c = (Z : Int) := ⟨c.toNat, by omega⟩
  subst hZ
  have hXb : X < 1000000000000000000 := by omega
  have hNX : N = X * 1000000000 + Z := by omega
  have HM := Tryd.bits_Mul64 X 1000000000 (by omega) (by omega)
  obtain ⟨MH, hMH⟩ : ∃ H, H = X * 1000000000 / 18446744073709551616 := ⟨_, rfl⟩
  obtain ⟨ML, hML⟩ : ∃ L, L = X * 1000000000 % 18446744073709551616 := ⟨_, rfl⟩
  rw [← hMH, ← hML] at HM
  obtain ⟨SL, hSL⟩ : ∃ L, L = (ML + Z) % 18446744073709551616 := ⟨_, rfl⟩
  obtain ⟨SC, hSC⟩ : ∃ L, L = (ML + Z) / 18446744073709551616 := ⟨_, rfl⟩
  have hNN : (MH + SC) * 18446744073709551616 + SL = N := by omega
  have hDv := div64_any (MH + SC) SL d
  rw [hNN] at hDv
  have HD := Lib.hid (fun W => hDv W (by omega) (by omega) (by omega))
  obtain ⟨Q, hQ⟩ : ∃ Q, Q = N / d := ⟨_, rfl⟩
  rw [← hQ] at HD hq ⊢
  have fX := wrapU X (by omega)
  have fZ := wrapU Z (by omega)
  have fd := wrapU d (by omega)
  have fs : IntKind.u64.wrap ((MH : Int) + (SC : Int)) = ((MH + SC : Nat) : Int) := by rw [← Int.natCast_add]; exact wrapU _ (by omega)
  have hA' := Lib.hid hA
  have HMM := Lib.hid HM
  clear hNX hMH hML hNN hDv hN hlt hQ HM hA
  go_enter Tryd.func65, Tryd.ntmps65
  go_wp2_with fail
  refine (H0.out _ hA'.out).mono ?_
  rintro e w1 ⟨rfl, rfl⟩
  go_wp2_with fail
  refine (H1.out _ hA'.out).mono ?_
  rintro e w1 ⟨rfl, rfl⟩
  go_wp2_with fail
  refine (HMM.out _).mono ?_
  rintro e w1 ⟨rfl, rfl⟩
  go_wp2_with fail
  refine (H2.out _ hA'.out).mono ?_
  rintro e w1 ⟨rfl, rfl⟩
  have HR := add64_run ML Z w1
  rw [← hSL, ← hSC] at HR
  clear hSL hSC
  go_wp2_with (simp only [HR])
  refine (HD.out _).mono ?_
  rintro e w2 ⟨r, rfl, hb⟩
  go_wp2_with fail
  go_ret
  exact ⟨rfl, hb⟩

theorem held_one {wr W w1 : World} {a : Addr} {v : Value} (hl : a.block < wr.heap.size) (h1 : W.cell? a = some v) (h2 : Below wr.heap.size wr W) (hb : Below W.heap.size W w1) : w1.cell? a = some v ∧ Below wr.heap.size wr w1 :=
  ⟨by rw [hb.cell (p := a) (Nat.lt_of_lt_of_le hl h2.size)]; exact h1, h2.trans (hb.mono h2.size)⟩

theorem limbAt_b (T : Nat) (m d : Nat) (A : Option Addr) (i : Int) (w : World) (hm : m ≤ 1048576) (hT : ln T ≤ m) (hA : RdS w A (vi (row m T))) :
    Calls Tryd.prog 75 #[.slice A m d, .int .i64 i] w fun e w' => e = .returned (.int .i64 (dgz T i)) ∧ Below w.heap.size w w' :=
  (limbAt_any T m d A i w hm hT hA).mono fun e w' ⟨h1, h2⟩ => ⟨h1, by subst h2; exact Below.refl _ _⟩

/-- The two highest limbs of b, and the number of the three highest places of T. -/
def top2 (b n : Nat) : Nat := (dgt b (n - 1) * 1000000000 + dgz b ((n : Int) - 2)).toNat
def top3N (T n : Nat) : Nat := ((dgz T n * 1000000000 + dgz T ((n : Int) - 1)) * 1000000000 + dgz T ((n : Int) - 2)).toNat

set_option maxHeartbeats 800000 in
theorem guess_any (T b n : Nat) (A D : Option Addr) (c d : Nat) (w : World) (hn : ln b = n) (h0 : 0 < n) (h60 : n ≤ 1000) (hT : ln T ≤ n + 1) (hA : RdS w A (vi (row (n + 1) T))) (hD : RdS w D (vi (nd b)))
    (hd0 : 0 < top2 b n) (hlt : top3N T n / 18446744073709551616 < top2 b n) (hq : top3N T n / top2 b n < 9223372036854775808) :
    Calls Tryd.prog 57 #[.slice A (n + 1) c, .slice D n d] w fun e w' => e = .returned (.int .i64 ((top3N T n / top2 b n : Nat) : Int)) ∧ Below w.heap.size w w' := by
  have hx0 := dgt_nonneg b (n - 1)
  have hx1 := dgt_lt b (n - 1)
  have hy0 := dgz_nonneg b ((n : Int) - 2)
  have hy1 := dgz_lt b ((n : Int) - 2)
  have hN : ((top3N T n : Nat) : Int) = (dgz T n * 1000000000 + dgz T ((n : Int) - 1)) * 1000000000 + dgz T ((n : Int) - 2) := by
    have := dgz_nonneg T n
    have := dgz_nonneg T ((n : Int) - 1)
    have := dgz_nonneg T ((n : Int) - 2)
    unfold top3N
    omega
  have hdd : dgt b (n - 1) * 1000000000 + dgz b ((n : Int) - 2) = ((top2 b n : Nat) : Int) := by unfold top2; omega
  have hdb : top2 b n < 9223372036854775808 := by omega
  have HT := Lib.hid (fun W (hb : Below w.heap.size w W) => divideTop_any T (n + 1) c A (n : Int) (top2 b n) (top3N T n) W (by omega) hT (hA.below hb) (by omega) (by omega) hd0 hdb hN hlt hq)
  have HL := Lib.hid (fun W (hb : Below w.heap.size w W) => limbAt_b b n d D ((n : Int) - 2) W (by omega) (by omega) (by have := hD.below hb; rwa [nd, hn] at this))
  obtain ⟨b1, o1, rfl, hbl, e1⟩ := hD.int (nd_get (v := b) (i := n - 1) (by omega))
  generalize dgt b (n - 1) = x at hx0 hx1 hdd e1
  generalize dgz b ((n : Int) - 2) = y at hy0 hy1 hdd HL
  generalize top2 b n = dv at HT hdd hdb
  generalize (top3N T n / dv : Nat) = Q at HT
  have hi0 : (0 : Int) ≤ (n : Int) - 1 := by omega
  have hi1 : (n : Int) - 1 < (n : Int) := by omega
  have hkt : ((n : Int) - 1).toNat = n - 1 := by omega
  have hn1 : (1 : Int) ≤ (n : Int) := by omega
  have w1 : IntKind.i64.wrap ((n : Int) - 1) = (n : Int) - 1 := by rw [IntKind.wrap_i64]; omega
  have w2 : IntKind.i64.wrap ((n : Int) - 2) = (n : Int) - 2 := by rw [IntKind.wrap_i64]; omega
  have w3 : IntKind.i64.wrap (x * 1000000000) = x * 1000000000 := by rw [IntKind.wrap_i64]; omega
  have w4 : IntKind.i64.wrap (x * 1000000000 + y) = (dv : Int) := by rw [IntKind.wrap_i64]; omega
  clear hA hD hN hT hn hd0 hlt hq hdd
  go_enter Tryd.func57, Tryd.ntmps57
  go_wp2_with fail
  go_region_held3 (fun w' => w'.cell? ⟨b1, o1 + (n - 1), none⟩ = some (.int .i64 x) ∧ Below w.heap.size w w')
    (first | (exact ⟨e1, (Below.refl _ _).drew⟩) | (go_split_ands; exact held_one hbl (by assumption) (by assumption) hbc))
    (first | (go_at_call 75; go_split_ands; refine (HL.out _ (by assumption)).mono ?_; rintro e w1 ⟨rfl, hbc⟩) | (go_at_call 65; go_split_ands; refine (HT.out _ (by assumption)).mono ?_; rintro e w1 ⟨rfl, hbc⟩))
  all_goals
    have hbw := (‹_ ∧ Below w.heap.size w _›).2
    go_wp2
    go_ret
    exact ⟨rfl, hbw⟩
end Go.Proofs.YtnejpdlikdgnnaaDoor
