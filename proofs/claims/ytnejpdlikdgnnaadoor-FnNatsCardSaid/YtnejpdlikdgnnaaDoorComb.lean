/-
  'combine' of the program.
-/
import Derived.Test.YtnejpdlikdgnnaaDoorCert
namespace Go.Proofs.YtnejpdlikdgnnaaDoor
open Go.ChangeShapes Go.WideShapes Go.ChangeAt Go.RowKit
open Go.ChangeMaps (open_string shut_string)
set_option linter.unusedVariables false
set_option linter.unusedSimpArgs false
set_option maxRecDepth 4000

set_option maxHeartbeats 600000 in
theorem comb_any (a b Z : Nat) (f g : Int) (A D : Option Addr) (n c n' d : Nat) (w : World) (hn : ln a = n) (hn' : ln b = n') (h60 : n ≤ 60) (h60' : n' ≤ 60) (hZ : f * (a : Int) + g * (b : Int) = (Z : Int)) (hZn : ln Z ≤ n)
    (hf0 : -1000000000 ≤ f) (hf1 : f ≤ 1000000000) (hg0 : -1000000000 ≤ g) (hg1 : g ≤ 1000000000) (hA : RdS w A (vi (nd a))) (hD : RdS w D (vi (nd b))) :
    Calls Tryd.prog 66 #[.int .i64 f, .slice A n c, .int .i64 g, .slice D n' d] w (MadeI w.heap.size (nd Z) w) := by
  obtain ⟨i0, hi, hz0, hz1, hz2⟩ := info_parts int_info
  have HP1 := Lib.hid (fun W (hB : Blk W w.heap.size (row n 0)) (hb : Below w.heap.size w W) =>
    pass_any w.heap.size 0 n n n (row n 0) 0 a f A n c W (row_length _ _) (by omega) (by omega) (by omega) (fun j hj => by rw [Nat.zero_add]; exact row_get _ hj) (by have := hA.below hb; rwa [nd, hn] at this) (by omega) (ln_lt' hn) (by have := hA.apart (Nat.le_refl _); rwa [nd_length, hn] at this) hB hf0 hf1)
  have HP2 := Lib.hid (fun W (hB : Blk W w.heap.size (row n (0 + f * (a : Int)))) (hb : Below w.heap.size w W) =>
    pass_any w.heap.size 0 n n n' (row n (0 + f * (a : Int))) (0 + f * (a : Int)) b g D n d W (row_length _ _) (by omega) (by omega) (by omega) (fun j hj => by rw [Nat.zero_add]; exact row_get _ hj) (by have := hD.below hb; rwa [nd, hn'] at this) (by omega) (ln_lt' hn') (by have := hD.apart (Nat.le_refl _); rwa [nd_length, hn'] at this) hB hg0 hg1)
  have HZ : Hid (0 + f * (a : Int) + g * (b : Int) = (Z : Int)) := Lib.hid (by omega)
  have HC : Hid (cap60 Z = nd Z) := Lib.hid (cap60_in (by omega))
  clear hn hn' hA hD hZ
  go_enter Tryd.func66, Tryd.ntmps66
  go_wp2_with (first | (refine wpList_make_full _ rfl (.tmp 11) (.tmp 11) 23 rfl w.heap.size 3 i0 _ 1 Tryd.underlying23 hi hz0 hz1 .i64 .i64 (n : Int) (n : Int) n rfl rfl rfl rfl (by rw [hz2]; omega) (by simp only [maxLen]; omega) (Nat.le_refl _) ?_; intro w1 hown hg1; refine cut_here ?_))
  have hB1 := Blk.of_made hown (zeros n)
  have hb1 : Below w.heap.size w w1 := below_of_grown hg1 (Nat.le_refl _) (fun g h => by cases h)
  clear hown hg1
  refine Cut.of ?_
  go_wp2_with fail
  refine (HP1.out w1 hB1 hb1).mono ?_
  rintro e w2 ⟨rfl, hB2, hg2⟩
  rw [lay_all _ _ (row_length _ _)] at hB2
  have hb2 := below_g hb1 (Nat.le_refl _) hg2
  go_wp2_with fail
  refine (HP2.out w2 hB2 hb2).mono ?_
  rintro e w3 ⟨rfl, hB3, hg3⟩
  rw [lay_all _ _ (row_length _ _), HZ.out] at hB3
  have hb3 := below_g hb2 (Nat.le_refl _) hg3
  go_wp2_with fail
  refine (natOfRow_any w.heap.size w.heap.size n n Z w3 (Nat.le_refl _) hB3 hZn (Nat.le_refl _) (by omega) (by omega)).mono ?_
  intro e w4 hm
  rw [HC.out] at hm
  obtain ⟨A4, c4, rfl, hc4, ho4, hb4⟩ := hm.after hb3
  go_wp2
  go_ret
  exact ⟨A4, c4, rfl, hc4, ho4, hb4⟩
end Go.Proofs.YtnejpdlikdgnnaaDoor
