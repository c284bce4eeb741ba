/-
  The harness' copy of a list of points.
-/
import Derived.Test.YtoknolholccamaaSlH
import Derived.Test.YtoknolholccamaaStore
namespace Go.Proofs.Ytoknolholccamaa
open Go.ChangeShapes Go.WideShapes Go.ChangeAt Go.RowKit
open Go.ChangeMaps (open_string shut_string)
set_option linter.unusedVariables false
set_option linter.unusedSimpArgs false
set_option maxRecDepth 4000

theorem pt_info : (Try.prog.info? 60).map (fun i => (i.zero, i.size, i.bytes)) = some (some (.agg #[.bool false, .slice none 0 0, .slice none 0 0, .bool false, .slice none 0 0, .slice none 0 0]), 6, 112) := by kernel_rfl
/-- A list of points whose rows all begin at a block's first cell. -/
def MadePSp (B : Nat) (L : List PV) (w : World) (e : Ending) (w' : World) : Prop :=
  ∃ (M : List PV) (A : Option Addr) (c : Nat), e = .returned (.slice A M.length c) ∧ M.length ≤ c ∧ dat M = dat L ∧ (∀ p, p ∈ M → CapP p ∧ Pin p.a ∧ Pin p.b) ∧ Owns B w'.heap.size w' (srow A M) ∧ Aparts (srow A M) ∧ Below w.heap.size w w'
set_option maxHeartbeats 1000000 in
theorem toPS_p (L : List PV) (A : Option Addr) (c : Nat) (w : World) (hn' : L.length ≤ 1048576) (hS : ∀ p, p ∈ L → ShortP p) (hA : RdS w A (flat L)) (hR : Rds w (lrow L)) :
    Calls Try.prog 25 #[.slice A L.length c] w (MadePSp w.heap.size L w) := by
  obtain ⟨n, hn⟩ : ∃ n, n = L.length := ⟨_, rfl⟩
  rw [← hn] at hn' ⊢
  have HN := Lib.hid hn
  clear hn
  obtain ⟨i0, hi, hz0, hz1, hz2⟩ := info_parts pt_info
  go_enter Try.func25, Try.ntmps25
  go_wp2_with (refine wpList_make_full _ rfl (.tmp 6) (.tmp 6) 31 rfl w.heap.size 60 i0 _ 6 Try.underlying31 hi hz0 hz1 .i64 .i64 n n n rfl rfl rfl rfl (by rw [hz2]; omega) (by simp only [maxLen]; omega) (Nat.le_refl _) ?_; intro w1 hown hg)
  have hb1 : Below w.heap.size w w1 := below_of_grown hg (Nat.le_refl _) (fun g h => by cases h)
  rw [made_flat] at hown
  have hst := blk_of_made6 hown
  clear hown hg
  go_wp2
  go_loopw [4] (fun i w' => ∃ (j : Nat) (M : List PV), j ≤ n ∧ i = .int .i64 (j : Int) ∧ M.length = j ∧ dat M = dat (L.take j) ∧ (∀ p, p ∈ M → CapP p ∧ Pin p.a ∧ Pin p.b) ∧ w'.heap[w.heap.size]? = some (.cells (flat (M ++ List.replicate (n - j) PV0)).toArray 60 (0, 0)) ∧ Owns (w.heap.size + 1) w'.heap.size w' (lrow M) ∧ Aparts (lrow M) ∧ Below w.heap.size w w') (fun i _ => n - (intOf i).toNat)
  case atStart => exact ⟨0, [], Nat.zero_le _, rfl, rfl, by simp [dat], (fun p hp => by cases hp), hst, Owns.nil _ _ _, Aparts.nil, hb1⟩
  case round =>
    obtain ⟨j, M, hj, rfl, hM, hd, hcap, hO, hOl, hap, hb⟩ := hrel
    clear hst
    by_cases hlt : j < n
    · obtain ⟨p, hp⟩ := getP (show j < L.length by rw [← HN.out]; exact hlt)
      obtain ⟨g, o, rfl, hg, c0, c1, c2, c3, c4, c5⟩ := (hA.below hb).six hp
      have HR := Lib.hid ((hR.below hb).at hp)
      have T : Hid (∀ W, Rds W (prow p) → Calls Try.prog 39 #[.agg #[.bool p.x.p, .slice p.a.A p.x.l.length p.a.c, .slice p.a.D p.x.m.length p.a.d, .bool p.y.p, .slice p.b.A p.y.l.length p.b.c, .slice p.b.D p.y.m.length p.b.d]] W (MadePp W.heap.size p.x p.y W)) := Lib.hid (fun W h => toPt_p p.x p.y p.a p.b W (hS p (List.mem_of_getElem? hp)).1 (hS p (List.mem_of_getElem? hp)).2 h)
      have hi0 : (0 : Int) ≤ (j : Int) := by omega
      have hi1 : (j : Int) < (n : Int) := by omega
      have HZ : Hid ((M ++ List.replicate (n - j) PV0)[j]? = some PV0) := Lib.hid (by
        rw [List.getElem?_append_right (by omega), hM, Nat.sub_self]; exact rep_get _ (by omega))
      have hsz0 := rblk_lt hO
      have HP := Lib.hid hp
      have HD := Lib.hid hd
      have HC := Lib.hid hcap
      have HM := Lib.hid hM
      have hold : j * 6 + 6 ≤ (flat (M ++ List.replicate (n - j) PV0)).toArray.size := by
        rw [List.size_toArray, flat_length, List.length_append, List.length_replicate, hM]; omega
      clear hp hd hcap hM
      go_wp2_with fail
      refine (T.out _ HR.out).mono ?_
      rintro e w2 ⟨a', b', hpin, rfl, hcs, o2, hap2, hb2⟩
      replace hO := rblk_below hO hb2
      replace hOl := hOl.below hb2
      have hb3 := bt hb hb2
      have hz2 := hb2.size
      go_wp2_with (refine wpList_store_at rfl 60 (.tmp 21) (.tmp 20) rfl w.heap.size (j * 6) #[.bool p.x.p, .slice a'.A p.x.l.length a'.c, .slice a'.D p.x.m.length a'.d, .bool p.y.p, .slice b'.A p.y.l.length b'.c, .slice b'.D p.y.m.length b'.d] rfl rfl 60 _ hO pt_size hold (by simp [Value.oneCell']) ?_)
      go_roundw
      case rel =>
        refine ⟨j + 1, M ++ [⟨p.x, p.y, a', b'⟩], hlt, by go_num, by simp [HM.out], ?_, ?_, ?_, ?_, ?_, ?_⟩
        · rw [take_succP HP.out, dat_app, dat_app, HD.out]; rfl
        · intro q hq
          rcases List.mem_append.1 hq with h | h
          · exact HC.out q h
          · rw [List.mem_singleton] at h; subst h; exact ⟨hcs, hpin⟩
        · have h6 := flat_store HZ.out ⟨p.x, p.y, a', b'⟩
          have hrep : List.replicate (n - j) PV0 = PV0 :: List.replicate (n - (j + 1)) PV0 := by rw [show n - j = (n - (j + 1)) + 1 by omega]; rfl
          have hs6 := set_app M j ⟨p.x, p.y, a', b'⟩ PV0 (List.replicate (n - (j + 1)) PV0)
          rw [HM.out, ← hrep] at hs6
          rw [hs6] at h6
          rw [← h6]
          exact rowV_set hO _
        · rw [lrow_app, lrow_one]
          exact Owns.app (Owns.wide (hOl.setRow (.inl (Nat.lt_succ_self _)) _) (Nat.le_refl _) (by rw [setRow_size]; exact hz2)) (Owns.wide (o2.setRow (.inl hsz0) _) hsz0 (by rw [setRow_size]; exact Nat.le_refl _))
        · rw [lrow_app, lrow_one]
          exact Aparts.app hap hap2 hOl o2
        · exact below_setRow hb3 (Nat.le_refl _) _
      case measure => simp [intOf]; omega
    · obtain rfl : j = n := by omega
      rw [Nat.sub_self, List.replicate_zero, List.append_nil] at hO
      have hown : OwnS w.heap.size wr (some ⟨w.heap.size, 0, none⟩) (flat M) := by
        have h := OwnS.of_row hO (Nat.le_refl w.heap.size)
        simpa using h
      have hsz0 := rblk_lt hO
      have HF : Hid (MadePSp w.heap.size L w (.returned (.slice (some ⟨w.heap.size, 0, none⟩) j j)) wr) := Lib.hid (by
        refine ⟨M, some ⟨w.heap.size, 0, none⟩, j, by rw [hM], by omega, by rw [hd, HN.out, List.take_length], hcap, ?_, ?_, hb⟩
        · exact Owns.cons hown (fun g hg => by
            unfold rowOf at hg
            split at hg
            · cases hg
            · simp at hg; omega) (hOl.wide (by omega) (Nat.le_refl _))
        · refine List.Pairwise.cons (fun s hs => ?_) hap
          have h1 := (hOl s hs).2
          exact InR.apart (lo := w.heap.size) (hi := w.heap.size + 1) (fun g hg => by
            unfold rowOf at hg
            split at hg
            · cases hg
            · simp at hg; omega) h1 (.inl (Nat.le_refl _)))
      clear hO hown hM hd hcap hOl hap
      go_wp2
      go_ret
      exact HF.out
theorem toPS_r (L : List PV) (A : Option Addr) (c : Nat) (w : World) (hn' : L.length ≤ 1048576) (hS : ∀ p, p ∈ L → ShortP p) (hA : RdS w A (flat L)) (hR : Rds w (lrow L)) :
    Calls Try.prog 25 #[.slice A L.length c] w (MadePS w.heap.size L w) :=
  (toPS_p L A c w hn' hS hA hR).mono fun e w' ⟨M, A, c, h1, h2, h3, h4, h5⟩ => ⟨M, A, c, h1, h2, h3, fun p hp => (h4 p hp).1, h5⟩
end Go.Proofs.Ytoknolholccamaa
