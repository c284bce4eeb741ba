/-
  'addMultiple', 'copyRow', 'natOfRow', 'window': what the program's own functions over rows do.
-/
import Derived.Test.YtmmgcdfifcbabaaGreatDoorCmp
import Derived.Laws.CopyOwn
namespace Go.Proofs.YtmmgcdfifcbabaaGreatDoor
open Go.ChangeShapes Go.WideShapes Go.ChangeAt Go.RowKit
open Go.ChangeMaps (open_string shut_string)
set_option linter.unusedVariables false
set_option linter.unusedSimpArgs false

/-- Go's division and remainder, mended for a negative number. -/
theorem quo_rem (s : Int) : (0 ≤ s.tmod 1000000000 → s.tmod 1000000000 = s % 1000000000 ∧ s.tdiv 1000000000 = s / 1000000000) ∧ (s.tmod 1000000000 < 0 → s.tmod 1000000000 + 1000000000 = s % 1000000000 ∧ s.tdiv 1000000000 - 1 = s / 1000000000) := by
  have h1 := Int.mul_tdiv_add_tmod s 1000000000
  have h2 := Int.tmod_lt_of_pos s (show (0 : Int) < 1000000000 by decide)
  have h3 := Int.lt_tmod_of_pos s (show (0 : Int) < 1000000000 by decide)
  generalize s.tmod 1000000000 = t at h1 h2 h3 ⊢
  generalize s.tdiv 1000000000 = q at h1 ⊢
  constructor <;> intro h <;> omega
theorem wrap_in {x : Int} (h0 : -9223372036854775808 ≤ x) (h1 : x ≤ 9223372036854775807) : wrap64 x = x := by unfold wrap64; omega
theorem Blk.lay1 {w : World} {g off k : Nat} {L : List Int} {T y : Int} (h : Blk w g (lay L off T k)) (hl : off + k < L.length) (hy : y = dgt T k) : Blk (w.setCell ⟨g, off + k, none⟩ (.int .i64 y)) g (lay L off T (k + 1)) := by
  have := h.set (off + k) y
  rw [hy, lay_set T hl] at this
  rw [hy]
  exact this
theorem Blk.lay2 {w : World} {g off k : Nat} {L : List Int} {T x y : Int} (h : Blk w g (lay L off T k)) (hl : off + k < L.length) (hy : y = dgt T k) : Blk ((w.setCell ⟨g, off + k, none⟩ (.int .i64 x)).setCell ⟨g, off + k, none⟩ (.int .i64 y)) g (lay L off T (k + 1)) := by
  have := (h.set (off + k) x).set (off + k) y
  rw [set_set, hy, lay_set T hl] at this
  rw [hy]
  exact this

set_option maxHeartbeats 1600000 in
theorem pass_any (g off n N m : Nat) (L : List Int) (v u f : Int) (A : Option Addr) (c d : Nat) (w : World)
    (hL : L.length = N) (hN : off + n ≤ N) (hN' : N ≤ 1048576) (hm : m ≤ 1048576)
    (hv : ∀ j, j < n → L[off + j]? = some (dgt v j)) (hA : RdS w A (vi (row m u))) (hu0 : 0 ≤ u) (hu : u < pw m)
    (hAg : 0 < m → ∀ b o, A = some ⟨b, o, none⟩ → b ≠ g) (hB : Blk w g L) (hf : -1000000000 ≤ f) (hf' : f ≤ 1000000000) :
    Calls Tryz.prog 76 #[.slice (some ⟨g, off, none⟩) n c, .slice A m d, .int .i64 f] w fun e w' => e = .returned (.int .i64 (car v u f n)) ∧ Blk w' g (lay L off (v + f * u) n) ∧ w.grownBy w' (some g) := by
  have HL := Lib.hid hL
  have HV := Lib.hid hv
  have HU := Lib.hid (And.intro hu0 hu)
  have HG := Lib.hid hAg
  clear hL hv hu0 hu hAg
  go_enter Tryz.func76, Tryz.ntmps76
  go_wp2
  go_loopw [7, 11] (fun q i w' => ∃ (k : Nat) (x : Int), k ≤ n ∧ i = .int .i64 (k : Int) ∧ q = .int .i64 x ∧ x = car v u f k ∧ Blk w' g (lay L off (v + f * u) k) ∧ w.grownBy w' (some g)) (fun _ i _ => n - (intOf i).toNat)
  case atStart => exact ⟨0, 0, Nat.zero_le _, rfl, rfl, (car_zero _ _ _).symm, by rw [lay_zero]; exact hB, grown_refl _ _⟩
  case round =>
    clear hB
    obtain ⟨k, x, hk, rfl, rfl, hx0, hb, hgr⟩ := hrel
    have hcb := car_bound (v := v) (w := u) hf hf' k
    rw [← hx0] at hcb
    obtain ⟨hx1, hx2⟩ := hcb
    have hX := Lib.hid hx0
    clear hx0
    by_cases hlt : k < n
    · have hi0 : (0 : Int) ≤ (k : Int) := by omega
      have hi1 : (k : Int) < (n : Int) := by omega
      have hat : (lay L off (v + f * u) k)[off + k]? = some (dgt v k) := by rw [lay_at _ (by rw [HL.out]; omega), HV.out k hlt]
      have hc1 := hb.cell hat
      have hf1 := hb.free (off + k)
      have hd0 := dgt_nonneg v k
      have hd1 := dgt_lt v k
      have hcs := Lib.hid (car_succ v u f k)
      have hds := Lib.hid (dgt_pass v u f k)
      by_cases hkm : k < m
      · obtain ⟨b1, o1, rfl, hb1, e1⟩ := (hA.grown (HG.out (by omega)) hgr).int (row_get (n := m) u hkm)
        have hp := prod_bound (w := u) hf hf' k
        obtain ⟨hp1, hp2⟩ := hp
        have hi2 : (k : Int) < (m : Int) := by omega
        generalize dgt v k = y at hc1 hd0 hd1 hcs hds hat
        generalize dgt u k = z at e1 hp1 hp2 hcs hds
        go_wp2
        · have hneg : (x + y + f * z).tmod 1000000000 < 0 := by assumption
          have hqr := ((quo_rem (x + y + f * z)).2 hneg)
          have hm0 := Int.emod_nonneg (x + y + f * z) (show (1000000000 : Int) ≠ 0 by decide)
          have hm1 := Int.emod_lt_of_pos (x + y + f * z) (show (0 : Int) < 1000000000 by decide)
          have w1 := wrap_in (x := (x + y + f * z).tmod 1000000000 + 1000000000) (by omega) (by omega)
          have w2 := wrap_in (x := (x + y + f * z).tdiv 1000000000 - 1) (by omega) (by omega)
          go_roundw
          case rel => exact ⟨k + 1, _, by omega, by go_num, rfl, by rw [w2, hqr.2, hcs.out, hX.out], hb.lay2 (by rw [HL.out]; omega) (by rw [w1, hqr.1, hds.out, hX.out]), grown_setCell (grown_setCell hgr _ _) _ _⟩
          case measure => simp [intOf]; omega
        · have hqr := ((quo_rem (x + y + f * z)).1 (by assumption))
          go_roundw
          case rel => exact ⟨k + 1, _, by omega, by go_num, rfl, by rw [hqr.2, hcs.out, hX.out], hb.lay1 (by rw [HL.out]; omega) (by rw [hqr.1, hds.out, hX.out]), grown_setCell hgr _ _⟩
          case measure => simp [intOf]; omega
      · have hu := dgt_small (n := m) (i := k) HU.out.1 HU.out.2 (by omega)
        have hi2 : ¬ (k : Int) < (m : Int) := by omega
        rw [hu, Int.mul_zero, Int.add_zero] at hcs hds
        clear hu
        generalize dgt v k = y at hc1 hd0 hd1 hcs hds hat
        go_wp2
        · have hneg : (x + y).tmod 1000000000 < 0 := by assumption
          have hqr := ((quo_rem (x + y)).2 hneg)
          have hm0 := Int.emod_nonneg (x + y) (show (1000000000 : Int) ≠ 0 by decide)
          have hm1 := Int.emod_lt_of_pos (x + y) (show (0 : Int) < 1000000000 by decide)
          have w1 := wrap_in (x := (x + y).tmod 1000000000 + 1000000000) (by omega) (by omega)
          have w2 := wrap_in (x := (x + y).tdiv 1000000000 - 1) (by omega) (by omega)
          go_roundw
          case rel => exact ⟨k + 1, _, by omega, by go_num, rfl, by rw [w2, hqr.2, hcs.out, hX.out], hb.lay2 (by rw [HL.out]; omega) (by rw [w1, hqr.1, hds.out, hX.out]), grown_setCell (grown_setCell hgr _ _) _ _⟩
          case measure => simp [intOf]; omega
        · have hqr := ((quo_rem (x + y)).1 (by assumption))
          go_roundw
          case rel => exact ⟨k + 1, _, by omega, by go_num, rfl, by rw [hqr.2, hcs.out, hX.out], hb.lay1 (by rw [HL.out]; omega) (by rw [hqr.1, hds.out, hX.out]), grown_setCell hgr _ _⟩
          case measure => simp [intOf]; omega
    · obtain rfl : k = n := by omega
      go_wp2
      go_ret
      exact ⟨ret_int' hX.out, hb, hgr⟩
end Go.Proofs.YtmmgcdfifcbabaaGreatDoor
