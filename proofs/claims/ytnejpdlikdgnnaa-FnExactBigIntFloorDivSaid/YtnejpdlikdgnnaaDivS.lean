/-
  The model's own division: rows that are known to have an address, and 'append' of a whole row.
-/
import Derived.Test.YtnejpdlikdgnnaaDivN
import Derived.Test.YtnejpdlikdgnnaaArC
namespace Go.Proofs.Ytnejpdlikdgnnaa
open Go.ChangeShapes Go.WideShapes Go.ChangeAt Go.RowKit
open Go.ChangeMaps (open_string shut_string)
set_option linter.unusedVariables false
set_option linter.unusedSimpArgs false
set_option maxRecDepth 4000

/-- As MadeI; and the slice has an address. -/
def MadeS (B : Nat) (L : List Int) (w : World) (e : Ending) (w' : World) : Prop :=
  ∃ ad c, e = .returned (.slice (some ad) L.length c) ∧ L.length ≤ c ∧ OwnS B w' (some ad) (vi L) ∧ Below w.heap.size w w'
theorem MadeS.after {B : Nat} {L : List Int} {w w1 w2 : World} {e : Ending} (h : MadeS B L w1 e w2) (hb : Below w.heap.size w w1) : MadeS B L w e w2 := by
  obtain ⟨A, c, he, hc, ho, hb2⟩ := h
  exact ⟨A, c, he, hc, ho, bt hb hb2⟩

theorem append_ints {ops : Array Oper} {rest : List Oper} {o : Oper} {a : Act} {Q : Exit → Act → World → Prop} (hgd : o.guard = none) (f x : Operand)
    (ho : o.op = .call { callee := .builtin .append, args := #[f, x], argTypes := #[22, 22] })
    (B n m c : Nat) (v : Value) (xs ys : List Int) (ad : Addr) (w : World) (hf : a.eval f = v) (hx : a.eval x = .slice (some ad) m c)
    (hown : w.ownsRow B 3 1 v n (vi xs)) (hn : n ≤ 1048576) (hm : m ≤ 1048576) (hl : ys.length = m) (hr : RdS w (some ad) (vi ys)) (hB : B ≤ w.heap.size)
    (h : ∀ v' w', w'.ownsRow B 3 1 v' (n + m) (vi (xs ++ ys)) → Below B w w' → w.heap.size ≤ w'.heap.size → wpList Try.prog ops Q rest (a.put o.dst v') w') :
    wpList Try.prog ops Q (o :: rest) a w := by
  obtain ⟨i0, hi, hz0, hz1, hz2⟩ := info_parts int_info
  refine wpList_append_own w hgd f x 22 ho B 3 i0 _ 1 8 Try.underlying22 hi hz0 hz1 hz2 rfl (by decide) v n (vi xs) hf hown ad m c (vi ys) hx (by rw [vi_length, hl, Nat.mul_one]) ?_ ?_ (by simp only [maxLen]; omega) (by omega) hB ?_
  · intro j u hu
    have hj : j < (vi ys).length := (List.getElem?_eq_some_iff.1 hu).1
    obtain ⟨b', o', ha, _, hc⟩ := hr.block (by omega)
    injection ha with ha
    subst ha
    rw [add_plain, hc j hj, hu]
  · intro u hu
    obtain ⟨y, _, rfl⟩ := List.mem_map.1 hu
    rfl
  · intro v' w' h1 h2 _
    refine h v' w' (by rw [vi_append]; exact h1) ?_ h2.size
    refine (Below.refl B w).grown h2 hB (fun g hg => ?_)
    rcases hown.2 with ⟨rfl, _⟩ | ⟨g', cap, cur, rfl, hbg, _⟩
    · simp [Value.ownBlock] at hg
    · simp [Value.ownBlock] at hg
      omega

set_option maxHeartbeats 400000 in
theorem trim_s (B n c T : Nat) (A : Option Addr) (w : World) (h0n : 0 < n) (ho : OwnS B w A (vi (row n T))) (hT : ln T ≤ n) (hc : n ≤ c) (hn : n ≤ 1048576) :
    Calls Try.prog 71 #[.slice A n c] w (MadeS B (nd T) w) := by
  obtain ⟨g, rfl, hBg, hgw, hcell, hfr⟩ := ho.block (by rw [vi_length, row_length]; omega)
  have hrd := ho.rd
  have HO := Lib.hid ho
  clear ho hcell hfr
  go_enter Try.func71, Try.ntmps71
  go_wp2
  go_loop [3] (fun i => ∃ k : Nat, k ≤ n ∧ ln T ≤ k ∧ i = .int .i64 (k : Int)) (fun i => (intOf i).toNat)
  case atStart => exact ⟨n, Nat.le_refl _, hT, rfl⟩
  case round =>
    obtain ⟨k, hk, hTk, rfl⟩ := hrel
    by_cases hz : 0 < k ∧ dgt T (k - 1) = 0
    · have hc1 := hrd.int_at (row_get (n := n) (i := k - 1) T (by omega))
      rw [Nat.zero_add] at hc1
      have h2 := trim_step hz.1 hTk hz.2
      have hp := hz.1
      rw [hz.2] at hc1
      have hk1 : ((k : Int) - 1) = ((k - 1 : Nat) : Int) := by omega
      have hk0 : (0 : Int) ≤ (k : Int) - 1 := by omega
      have hk2 : (k : Int) - 1 < (n : Int) := by omega
      have hkt : ((k : Int) - 1).toNat = k - 1 := by omega
      clear hz
      go_wp2
      go_round
      case rel => exact ⟨k - 1, by omega, h2, by go_num⟩
      case measure => simp [intOf]; omega
    · have hkT : Hid (ln T = k) := by
        refine Lib.hid ?_
        by_cases h0 : 0 < k
        · exact trim_stop h0 hTk (fun e => hz ⟨h0, e⟩)
        · omega
      have fin : MadeS B (nd T) w (.returned (.slice (some ⟨g, 0, none⟩) k c)) w := by
        refine ⟨⟨g, 0, none⟩, c, by rw [nd_length, hkT.out], by rw [nd_length, hkT.out]; omega, ?_, Below.refl _ _⟩
        have h1 := HO.out.take k
        rw [← vi_take, row_take T hk] at h1
        unfold nd
        rw [hkT.out]
        exact h1
      by_cases h0 : 0 < k
      · have hc1 := hrd.int_at (row_get (n := n) (i := k - 1) T (by omega))
        rw [Nat.zero_add] at hc1
        have hne : dgt T (k - 1) ≠ 0 := fun e => hz ⟨h0, e⟩
        have hk1 : ((k : Int) - 1) = ((k - 1 : Nat) : Int) := by omega
        clear hz
        generalize dgt T (k - 1) = x at hc1 hne
        have q : (x == 0) = false := by rw [beq_eq_false_iff_ne]; exact hne
        go_wp2
        go_ret
        exact fin
      · obtain rfl : k = 0 := by omega
        go_wp2
        go_ret
        exact fin

set_option maxHeartbeats 1000000 in
theorem sub_s (a b : Nat) (A D : Option Addr) (n c n' d : Nat) (w : World) (hn : ln a = n) (hn' : ln b = n') (hba : b ≤ a) (h0n : 0 < n) (h60 : n ≤ 1048576) (h60' : n' ≤ 1048576) (hA : RdS w A (vi (nd a))) (hD : RdS w D (vi (nd b))) :
    Calls Try.prog 62 #[.slice A n c, .slice D n' d] w (MadeS w.heap.size (nd (a - b)) w) := by
  have hstart : (w.alloc (.cells #[] 3)).ownsRow w.heap.size 3 1 (.slice (some ⟨w.heap.size, 0, none⟩) 0 0) 0 (vi (row 0 ((a - b : Nat) : Int))) := World.ownsRow_made w #[] 0 (by omega) (by simp [maxLen]) rfl
  have HN := Lib.hid hn
  have HN' := Lib.hid hn'
  have E1 : Hid ((a : Int) + (-1) * (b : Int) = ((a - b : Nat) : Int)) := Lib.hid (by omega)
  have HL : Hid (ln (a - b) ≤ n) := Lib.hid (by have := ln_mono (show a - b ≤ a by omega); omega)
  clear hn hn' hba
  go_enter Try.func62, Try.ntmps62
  go_wp2
  go_loopw [5, 6, 12] (fun v q i w' => ∃ (k : Nat) (x : Int), k ≤ n ∧ i = .int .i64 (k : Int) ∧ q = .int .i64 x ∧ x = - car a b (-1) k ∧ 0 ≤ x ∧ x ≤ 1 ∧ w'.ownsRow w.heap.size 3 1 v k (vi (row k ((a - b : Nat) : Int))) ∧ Below w.heap.size w w') (fun _ _ i _ => n - (intOf i).toNat)
  case atStart => exact ⟨0, 0, Nat.zero_le _, rfl, rfl, by rw [car_zero]; rfl, by omega, by omega, hstart, (Below.refl _ _).alloc (Nat.le_refl _) _⟩
  case round =>
    clear hstart
    obtain ⟨k, x, hk, rfl, rfl, hx, hx0, hx1, hown, hb⟩ := hrel
    have hcs : Hid (car a b (-1) (k + 1) = (dgt a k - x - dgt b k) / 1000000000) := Lib.hid (by rw [car_succ]; congr 1; omega)
    have hds : Hid (dgt ((a - b : Nat) : Int) k = (dgt a k - x - dgt b k) % 1000000000) := Lib.hid (by rw [← E1.out, dgt_pass]; congr 1; omega)
    clear hx
    have hi0 : (0 : Int) ≤ (k : Int) := by omega
    have hd0 := dgt_nonneg a k
    have hd1 := dgt_lt a k
    have hz0 := dgt_nonneg b k
    have hz1 := dgt_lt b k
    by_cases hka : k < n
    · obtain ⟨b1, o1, rfl, hb1, e1⟩ := (hA.below hb).int (nd_get (v := a) (i := k) (by rw [HN.out]; exact hka))
      have hia : (k : Int) < (n : Int) := by omega
      generalize dgt a k = y at e1 hd0 hd1 hcs hds
      by_cases hkb : k < n'
      · obtain ⟨b2, o2, rfl, hb2, e2⟩ := (hD.below hb).int (nd_get (v := b) (i := k) (by rw [HN'.out]; exact hkb))
        have hib : (k : Int) < (n' : Int) := by omega
        generalize dgt b k = z at e2 hz0 hz1 hcs hds
        by_cases hs0 : y - x - z < 0
        · go_wp2_with (at_builtin; refine append_int rfl (.tmp 35) (.tmp 37) rfl w.heap.size _ _ (row k ((a - b : Nat) : Int)) (y - x - z + 1000000000) wr rfl rfl hown (by omega) hb.size ?_; intro v' w1 hown1 hb1 hs1)
          go_roundw
          case rel => exact ⟨k + 1, 1, by omega, by go_num, rfl, by rw [hcs.out]; omega, by omega, by omega, by rw [row_succ, hds.out, show (y - x - z) % 1000000000 = y - x - z + 1000000000 by omega]; exact hown1, hb.trans hb1⟩
          case measure => simp [intOf]; omega
        · have hs0' : 0 ≤ y - x - z := by omega
          go_wp2_with (at_builtin; refine append_int rfl (.tmp 35) (.tmp 37) rfl w.heap.size _ _ (row k ((a - b : Nat) : Int)) (y - x - z) wr rfl rfl hown (by omega) hb.size ?_; intro v' w1 hown1 hb1 hs1)
          go_roundw
          case rel => exact ⟨k + 1, 0, by omega, by go_num, rfl, by rw [hcs.out]; omega, by omega, by omega, by rw [row_succ, hds.out, show (y - x - z) % 1000000000 = y - x - z by omega]; exact hown1, hb.trans hb1⟩
          case measure => simp [intOf]; omega
      · have hzz : dgt b k = 0 := dgt_small (n := n') (by omega) (ln_lt' HN'.out) (by omega)
        rw [hzz, Int.sub_zero] at hcs hds
        clear hzz hz0 hz1
        have hib : ¬ (k : Int) < (n' : Int) := by omega
        by_cases hs0 : y - x < 0
        · go_wp2_with (at_builtin; refine append_int rfl (.tmp 35) (.tmp 37) rfl w.heap.size _ _ (row k ((a - b : Nat) : Int)) (y - x + 1000000000) wr rfl rfl hown (by omega) hb.size ?_; intro v' w1 hown1 hb1 hs1)
          go_roundw
          case rel => exact ⟨k + 1, 1, by omega, by go_num, rfl, by rw [hcs.out]; omega, by omega, by omega, by rw [row_succ, hds.out, show (y - x) % 1000000000 = y - x + 1000000000 by omega]; exact hown1, hb.trans hb1⟩
          case measure => simp [intOf]; omega
        · have hs0' : 0 ≤ y - x := by omega
          go_wp2_with (at_builtin; refine append_int rfl (.tmp 35) (.tmp 37) rfl w.heap.size _ _ (row k ((a - b : Nat) : Int)) (y - x) wr rfl rfl hown (by omega) hb.size ?_; intro v' w1 hown1 hb1 hs1)
          go_roundw
          case rel => exact ⟨k + 1, 0, by omega, by go_num, rfl, by rw [hcs.out]; omega, by omega, by omega, by rw [row_succ, hds.out, show (y - x) % 1000000000 = y - x by omega]; exact hown1, hb.trans hb1⟩
          case measure => simp [intOf]; omega
    · obtain rfl : k = n := by omega
      obtain ⟨A', c', hv, hc', hm', hl'⟩ := own_len hown
      have ho := OwnS.of_own (A := A') (n := k) (c := c') (by rw [← hv]; exact hown)
      subst hv
      clear hown
      go_wp2_with fail
      refine (trim_s w.heap.size k c' (a - b) A' wr h0n ho HL.out hc' h60).mono ?_
      intro e w3 hm
      obtain ⟨A2, c2, rfl, hc2, ho2, hb2⟩ := hm.after hb
      go_wp2
      go_ret
      exact ⟨A2, c2, rfl, hc2, ho2, hb2⟩
end Go.Proofs.Ytnejpdlikdgnnaa
