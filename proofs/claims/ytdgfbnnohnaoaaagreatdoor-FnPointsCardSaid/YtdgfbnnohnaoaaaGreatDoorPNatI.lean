/-
  'impl.ParseNat': the numeral's main way.
-/
import Derived.Test.YtdgfbnnohnaoaaaGreatDoorPNat
namespace Go.Proofs.YtdgfbnnohnaoaaaGreatDoor
open Go.ChangeShapes Go.WideShapes Go.ChangeAt Go.RowKit
open Go.ChangeMaps (open_string shut_string)
set_option linter.unusedVariables false
set_option linter.unusedSimpArgs false
set_option maxRecDepth 4000

set_option maxHeartbeats 1000000 in
theorem impl_prs_main (s : ByteArray) (w : World) (hd : digs s = true) (h540 : s.size ≤ 540) (hz : ¬ s.data.toList.getD 0 0 = 48) :
    Calls Tryz.prog 50 #[.string s] w (PairN w.heap.size (nd (Num.val s.data.toList)) true w) := by
  obtain ⟨hdig, hpos⟩ := digs_isdig hd
  have HD := Lib.hid hdig
  have HLN := Lib.hid (fun k hk => val_ln hdig (k := k) hk)
  have H1 := impl_digits s w (by simp only [maxLen]; omega)
  rw [hd] at H1
  have hq : ((((s[0]'hpos).toNat : Nat) : Int) == 48) = false := by
    rw [beq_eq_false_iff_ne]
    intro e
    apply hz
    rw [getD0 hpos]
    exact UInt8.toNat_inj.1 (by rw [show (s[0]'hpos).toNat = 48 by omega]; rfl)
  clear hd hz hdig
  go_enter Tryz.func50, Tryz.ntmps50
  go_wp2_with fail
  refine H1.mono ?_
  rintro e w1 ⟨rfl, hb0⟩
  have hrow0 : w1.ownsRow w.heap.size 3 1 (.slice none 0 0) 0 (vi (row 0 ((Num.val s.data.toList : Nat) : Int))) := World.ownsRow_nil _ _ _ _
  go_wp2_with fail
  go_loopw [4, 5] (fun v i w' => ∃ (k : Nat) (x : Int), k ≤ 60 ∧ 9 * k ≤ s.size + 8 ∧ i = .int .i64 x ∧ x = (s.size : Int) - 9 * (k : Int) ∧ w'.ownsRow w.heap.size 3 1 v k (vi (row k ((Num.val s.data.toList : Nat) : Int))) ∧ Below w.heap.size w w') (fun _ i _ => (intOf i).toNat)
  case atStart => exact ⟨0, _, Nat.zero_le _, by omega, rfl, by omega, hrow0, hb0⟩
  case round =>
    clear hrow0 hb0
    obtain ⟨k, x, hk60, hk8, rfl, hx, hown, hb⟩ := hrel
    by_cases hxp : 0 < x
    · have hk59 : k < 60 := by omega
      by_cases h9 : x < 9
      · obtain ⟨p, rfl⟩ : ∃ p : Nat, x = (p : Int) := ⟨x.toNat, by omega⟩
        have hpk : Hid (p = s.size - 9 * k) := Lib.hid (by omega)
        have hps : p ≤ s.size := by omega
        have hk9 : 9 * k ≤ s.size := by omega
        have h9' : p < 9 := by omega
        have hlo : (p : Int) - 9 < 0 := by omega
        have hmax : max ((p : Int) - 9) 0 = 0 := by omega
        have hpi : (p : Int) ≤ (s.size : Int) := by omega
        have hp0 : (0 : Int) ≤ (p : Int) := by omega
        clear hx h9
        have hG : (s.extract 0 p).data.toList = mid s.data.toList (0) (p) := ext_list s _ _
        have hGl : (mid s.data.toList (0) (p)).length = p - 0 := by unfold mid; rw [List.length_drop, List.length_take, size_list]; omega
        have hGv := mid_lt HD.out (lo := 0) (j := p) (by omega) (.inl trivial)
        have hGd : ∀ c ∈ mid s.data.toList (0) (p), Num.IsDig c := fun c hc => HD.out c (List.mem_of_mem_take (List.mem_of_mem_drop hc))
        have hdk : Hid (dgt (Num.val s.data.toList : Int) k = (Num.val (mid s.data.toList (0) (p)) : Int)) := by
          refine Lib.hid ?_
          rw [grp_dgt HD.out (by rw [size_list]; omega), size_list, ← hpk.out]
          have e2 : p - 9 = 0 := by omega
          unfold grp mid
          rw [e2]
        have HA := Lib.hid (Tryz.strconv_Atoi_ok (s.extract 0 (p)) (by rw [← size_list, hG, hGl]; omega) _ (by rw [hG]; exact atoi_dig hGd (by intro e; rw [e] at hGl; simp at hGl <;> omega) hGv) wr)
        have hv0 : 0 ≤ (Num.val (mid s.data.toList (0) (p)) : Int) := by omega
        clear hG hGl hGd hGv
        generalize (Num.val (mid s.data.toList (0) (p)) : Int) = v at hdk HA hv0
        go_wp2_with fail
        refine HA.out.mono ?_
        rintro e w2 ⟨rfl, hw⟩
        have hb2 : Below wr.heap.size wr w2 := by
          rcases hw with rfl | ⟨t, rfl⟩
          · exact Below.refl _ _
          · exact Lib.bytesWorld_below _ _ _
        clear hw HA
        have hown2 := owns_below hown hb2
        have hbw := bt hb hb2
        go_wp2_with (at_builtin; refine append_int rfl (.tmp 41) (.tmp 43) rfl w.heap.size _ _ (row k ((Num.val s.data.toList : Nat) : Int)) v w2 rfl rfl hown2 (by omega) hbw.size ?_; intro v' w3 hown3 hbb hs3)
        go_roundw
        case rel => exact ⟨k + 1, _, by omega, by have := hpk.out; omega, rfl, by have := hpk.out; omega, by rw [row_succ, hdk.out]; exact hown3, hbw.trans hbb⟩
        case measure => simp [intOf] <;> omega
      · obtain ⟨p, rfl⟩ : ∃ p : Nat, x = (p : Int) := ⟨x.toNat, by omega⟩
        obtain ⟨lo, hlop⟩ : ∃ lo : Nat, (p : Int) - 9 = (lo : Int) := ⟨p - 9, by omega⟩
        have hpk : Hid (p = s.size - 9 * k) := Lib.hid (by omega)
        have hps : p ≤ s.size := by omega
        have hk9 : 9 * k ≤ s.size := by omega
        have hlo : ¬ (lo : Int) < 0 := by omega
        have hpi : (p : Int) ≤ (s.size : Int) := by omega
        have hlp : (lo : Int) ≤ (p : Int) := by omega
        have hlp' : lo ≤ p := by omega
        clear hx h9
        have hG : (s.extract lo p).data.toList = mid s.data.toList (lo) (p) := ext_list s _ _
        have hGl : (mid s.data.toList (lo) (p)).length = p - lo := by unfold mid; rw [List.length_drop, List.length_take, size_list]; omega
        have hGv := mid_lt HD.out (lo := lo) (j := p) (by omega) (.inl trivial)
        have hGd : ∀ c ∈ mid s.data.toList (lo) (p), Num.IsDig c := fun c hc => HD.out c (List.mem_of_mem_take (List.mem_of_mem_drop hc))
        have hdk : Hid (dgt (Num.val s.data.toList : Int) k = (Num.val (mid s.data.toList (lo) (p)) : Int)) := by
          refine Lib.hid ?_
          rw [grp_dgt HD.out (by rw [size_list]; omega), size_list, ← hpk.out]
          have e2 : p - 9 = lo := by omega
          unfold grp mid
          rw [e2]
        have HA := Lib.hid (Tryz.strconv_Atoi_ok (s.extract lo (p)) (by rw [← size_list, hG, hGl]; omega) _ (by rw [hG]; exact atoi_dig hGd (by intro e; rw [e] at hGl; simp at hGl <;> omega) hGv) wr)
        have hv0 : 0 ≤ (Num.val (mid s.data.toList (lo) (p)) : Int) := by omega
        clear hG hGl hGd hGv
        generalize (Num.val (mid s.data.toList (lo) (p)) : Int) = v at hdk HA hv0
        go_wp2_with fail
        refine HA.out.mono ?_
        rintro e w2 ⟨rfl, hw⟩
        have hb2 : Below wr.heap.size wr w2 := by
          rcases hw with rfl | ⟨t, rfl⟩
          · exact Below.refl _ _
          · exact Lib.bytesWorld_below _ _ _
        clear hw HA
        have hown2 := owns_below hown hb2
        have hbw := bt hb hb2
        go_wp2_with (at_builtin; refine append_int rfl (.tmp 41) (.tmp 43) rfl w.heap.size _ _ (row k ((Num.val s.data.toList : Nat) : Int)) v w2 rfl rfl hown2 (by omega) hbw.size ?_; intro v' w3 hown3 hbb hs3)
        go_roundw
        case rel => exact ⟨k + 1, _, by omega, by have := hpk.out; omega, rfl, by have := hpk.out; omega, by rw [row_succ, hdk.out]; exact hown3, hbw.trans hbb⟩
        case measure => simp [intOf] <;> omega
    · have hk1 : 1 ≤ k := by omega
      have hL := Lib.hid (HLN.out k (by rw [size_list]; omega))
      have hcap : Hid (cap60 (Num.val s.data.toList) = nd (Num.val s.data.toList)) := Lib.hid (cap60_yes (Nat.le_trans hL.out hk60))
      clear hx
      obtain ⟨A', c', hv, hc', hm', hl'⟩ := own_len hown
      have ho := OwnS.of_own (A := A') (n := k) (c := c') (by rw [← hv]; exact hown)
      subst hv
      clear hown
      obtain ⟨g, rfl, _, _, _, _⟩ := ho.block (by rw [vi_length, row_length]; omega)
      go_wp2_with fail
      refine (natOfRow_own w.heap.size g k c' (Num.val s.data.toList) wr ho hL.out hc' (by omega)).mono ?_
      intro e w3 hm
      rw [hcap.out] at hm
      obtain ⟨A2, c2, rfl, hc2, ho2, hb2⟩ := hm
      go_wp2_with fail
      go_ret2
      exact ⟨A2, c2, rfl, hc2, ho2, bt hb hb2⟩

set_option maxHeartbeats 1000000 in
theorem impl_prs_zero (w : World) :
    Calls Tryz.prog 50 #[.string ⟨#[48]⟩] w (PairN w.heap.size [] true w) := by
  have H1 := impl_digits ⟨#[48]⟩ w (by simp [maxLen, ByteArray.size])
  rw [show digs ⟨#[48]⟩ = true by decide] at H1
  go_enter Tryz.func50, Tryz.ntmps50
  go_wp2_with fail
  refine H1.mono ?_
  rintro e w1 ⟨rfl, hb0⟩
  have hrow0 : w1.ownsRow w.heap.size 3 1 (.slice none 0 0) 0 (vi (row 0 0)) := World.ownsRow_nil _ _ _ _
  have HA := Lib.hid (fun W => Tryz.strconv_Atoi_ok ((ByteArray.mk #[48]).extract 0 1) (by decide) 0 (by decide) W)
  go_wp2_with fail
  go_loopw [4, 5] (fun v i w' => ∃ (k : Nat) (x : Int), (k = 0 ∧ x = 1 ∨ k = 1 ∧ x = -8) ∧ i = .int .i64 x ∧ w'.ownsRow w.heap.size 3 1 v k (vi (row k 0)) ∧ Below w.heap.size w w') (fun _ i _ => (intOf i).toNat)
  case atStart => exact ⟨0, 1, .inl ⟨rfl, rfl⟩, rfl, hrow0, hb0⟩
  case round =>
    clear hrow0 hb0
    obtain ⟨k, x, hkx, rfl, hown, hb⟩ := hrel
    rcases hkx with ⟨rfl, rfl⟩ | ⟨rfl, rfl⟩
    · have hmax : max (-8 : Int) 0 = 0 := by decide
      go_wp2_with fail
      refine (HA.out _).mono ?_
      rintro e w2 ⟨rfl, hw⟩
      have hb2 : Below wr.heap.size wr w2 := by
        rcases hw with rfl | ⟨t, rfl⟩
        · exact Below.refl _ _
        · exact Lib.bytesWorld_below _ _ _
      clear hw
      have hown2 := owns_below hown hb2
      have hbw := bt hb hb2
      go_wp2_with (at_builtin; refine append_int rfl (.tmp 41) (.tmp 43) rfl w.heap.size _ _ (row 0 0) 0 w2 rfl rfl hown2 (by omega) hbw.size ?_; intro v' w3 hown3 hbb hs3)
      go_roundw
      case rel => exact ⟨1, _, .inr ⟨rfl, rfl⟩, rfl, hown3, hbw.trans hbb⟩
      case measure => simp [intOf]
    · obtain ⟨A', c', hv, hc', hm', hl'⟩ := own_len hown
      have ho := OwnS.of_own (A := A') (n := 1) (c := c') (by rw [← hv]; exact hown)
      subst hv
      clear hown
      obtain ⟨g, rfl, _, _, _, _⟩ := ho.block (by decide)
      go_wp2_with fail
      refine (natOfRow_own w.heap.size g 1 c' 0 wr ho (by rw [ln_zero]; omega) hc' (by omega)).mono ?_
      intro e w3 hm
      rw [cap60_yes (show ln 0 ≤ 60 by rw [ln_zero]; omega), nd_zero] at hm
      obtain ⟨A2, c2, rfl, hc2, ho2, hb2⟩ := hm
      go_wp2_with fail
      go_ret2
      exact ⟨A2, c2, rfl, hc2, ho2, bt hb hb2⟩
end Go.Proofs.YtdgfbnnohnaoaaaGreatDoor

