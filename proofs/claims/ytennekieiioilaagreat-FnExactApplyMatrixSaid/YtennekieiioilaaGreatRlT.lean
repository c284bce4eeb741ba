/-
  The harness' copy of a list of fractions.
-/
import Derived.Test.YtennekieiioilaaGreatRlH
import Derived.Test.YtennekieiioilaaGreatStore
namespace Go.Proofs.YtennekieiioilaaGreat
open Go.ChangeShapes Go.WideShapes Go.ChangeAt Go.RowKit
open Go.ChangeMaps (open_string shut_string)
set_option linter.unusedVariables false
set_option linter.unusedSimpArgs false
set_option maxRecDepth 4000

theorem rt_info : (Tryz.prog.info? 30).map (fun i => (i.zero, i.size, i.bytes)) = some (some (.agg #[.bool false, .slice none 0 0, .slice none 0 0]), 3, 56) := by kernel_rfl
theorem rat_size : (Tryz.prog.info? 30).map (·.size) = some 3 := by kernel_rfl
theorem rat_agg (w : World) : (isAgg 30).run Tryz.prog w = .ok true w := by simp [isAgg, run_underlying Tryz.underlying30]
theorem blk_of_made3 {w : World} {base g n : Nat} {T : TypeId} {xs : List Value} (h : w.ownsRow base T 3 (.slice (some ⟨g, 0, none⟩) n n) n xs) : w.heap[g]? = some (.cells xs.toArray T (0, 0)) := by
  obtain ⟨hl, hr⟩ := h
  rcases hr with ⟨hv, _⟩ | ⟨g', cap, cur, hv, hbg, hh, hnc, hm, hsz, htake⟩
  · cases hv
  · injection hv with e1 e2 e3
    injection e1 with e1
    injection e1 with e1
    subst e1; subst e3
    have : cur = xs.toArray := by
      rw [← htake, List.take_of_length_le (by rw [Array.length_toList]; omega)]
    rw [hh, this]
theorem flatQ_store {L : List RV} {i : Nat} {p : RV} (h : L[i]? = some p) (q : RV) : ((flatQ L).toArray.toList.take (i * 3) ++ ((#[.bool q.x.p, .slice q.a.A q.x.l.length q.a.c, .slice q.a.D q.x.m.length q.a.d] : Array Value).toList ++ (flatQ L).toArray.toList.drop (i * 3 + (#[.bool q.x.p, .slice q.a.A q.x.l.length q.a.c, .slice q.a.D q.x.m.length q.a.d] : Array Value).size))).toArray = (flatQ (L.set i q)).toArray := by
  have hl := lt_of_getQ h
  have hq : (L.set i q)[i]? = some q := List.getElem?_set_self hl
  have hlen : (flatQ (L.take i)).length = i * 3 := by rw [flatQ_length, List.length_take, Nat.min_eq_left (by omega)]
  have e1 : (L.set i q).take i = L.take i := List.take_set_of_le (Nat.le_refl _)
  have e2 : (L.set i q).drop (i + 1) = L.drop (i + 1) := List.drop_set_of_lt (Nat.lt_succ_self _)
  rw [flatQ_split hq, e1, e2]
  congr 1
  show (flatQ L).take (i * 3) ++ (qcl q ++ (flatQ L).drop (i * 3 + 3)) = _
  have h3 : (flatQ L).take (i * 3) = flatQ (L.take i) := by rw [flatQ_split h, List.take_append_of_le_length (by omega), List.take_of_length_le (by omega)]
  have h4 : (flatQ L).drop (i * 3 + 3) = flatQ (L.drop (i + 1)) := by
    rw [flatQ_split h, List.drop_append, List.drop_of_length_le (by omega), hlen, List.nil_append, show i * 3 + 3 - i * 3 = 3 by omega]
    rfl
  rw [h3, h4]
/-- A list of fractions whose rows all begin at a block's first cell. -/
def MadeRSp (B : Nat) (L : List RV) (w : World) (e : Ending) (w' : World) : Prop :=
  ∃ (M : List RV) (A : Option Addr) (c : Nat), e = .returned (.slice A M.length c) ∧ M.length ≤ c ∧ datQ M = datQ L ∧ (∀ p, p ∈ M → CapQ p ∧ Pin p.a) ∧ Owns B w'.heap.size w' (srowQ A M) ∧ Aparts (srowQ A M) ∧ Below w.heap.size w w'
set_option maxHeartbeats 1000000 in
theorem toRS_p (L : List RV) (A : Option Addr) (c : Nat) (w : World) (hn' : L.length ≤ 1048576) (hS : ∀ p, p ∈ L → ShortQ p) (hA : RdS w A (flatQ L)) (hR : Rds w (lrowQ L)) :
    Calls Tryz.prog 17 #[.slice A L.length c] w (MadeRSp w.heap.size L w) := by
  obtain ⟨n, hn⟩ : ∃ n, n = L.length := ⟨_, rfl⟩
  rw [← hn] at hn' ⊢
  have HN := Lib.hid hn
  clear hn
  obtain ⟨i0, hi, hz0, hz1, hz2⟩ := info_parts rt_info
  go_enter Tryz.func17, Tryz.ntmps17
  go_wp2_with (refine wpList_make_full _ rfl (.tmp 6) (.tmp 6) 43 rfl w.heap.size 30 i0 _ 3 Tryz.underlying43 hi hz0 hz1 .i64 .i64 n n n rfl rfl rfl rfl (by rw [hz2]; omega) (by simp only [maxLen]; omega) (Nat.le_refl _) ?_; intro w1 hown hg)
  have hb1 : Below w.heap.size w w1 := below_of_grown hg (Nat.le_refl _) (fun g h => by cases h)
  rw [made_flatQ] at hown
  have hst := blk_of_made3 hown
  clear hown hg
  go_wp2
  go_loopw [4] (fun i w' => ∃ (j : Nat) (M : List RV), j ≤ n ∧ i = .int .i64 (j : Int) ∧ M.length = j ∧ datQ M = datQ (L.take j) ∧ (∀ p, p ∈ M → CapQ p ∧ Pin p.a) ∧ w'.heap[w.heap.size]? = some (.cells (flatQ (M ++ List.replicate (n - j) RV0)).toArray 30 (0, 0)) ∧ Owns (w.heap.size + 1) w'.heap.size w' (lrowQ M) ∧ Aparts (lrowQ M) ∧ Below w.heap.size w w') (fun i _ => n - (intOf i).toNat)
  case atStart => exact ⟨0, [], Nat.zero_le _, rfl, rfl, by simp [datQ], (fun p hp => by cases hp), hst, Owns.nil _ _ _, Aparts.nil, hb1⟩
  case round =>
    obtain ⟨j, M, hj, rfl, hM, hd, hcap, hO, hOl, hap, hb⟩ := hrel
    clear hst
    by_cases hlt : j < n
    · obtain ⟨p, hp⟩ := getQ (show j < L.length by rw [← HN.out]; exact hlt)
      obtain ⟨g, o, rfl, hg, c0, c1, c2⟩ := (hA.below hb).three hp
      have HR := Lib.hid ((hR.below hb).atQ hp)
      have T : Hid (∀ W, Rds W (qrow p) → Calls Tryz.prog 44 #[.agg #[.bool p.x.p, .slice p.a.A p.x.l.length p.a.c, .slice p.a.D p.x.m.length p.a.d]] W (MadeQp W.heap.size p.x W)) := Lib.hid (fun W h => toRat_p p.x p.a W (hS p (List.mem_of_getElem? hp)) h)
      have hi0 : (0 : Int) ≤ (j : Int) := by omega
      have hi1 : (j : Int) < (n : Int) := by omega
      have HZ : Hid ((M ++ List.replicate (n - j) RV0)[j]? = some RV0) := Lib.hid (by
        rw [List.getElem?_append_right (by omega), hM, Nat.sub_self]; exact rep_getQ _ (by omega))
      have hsz0 := rblk_lt hO
      have HP := Lib.hid hp
      have HD := Lib.hid hd
      have HC := Lib.hid hcap
      have HM := Lib.hid hM
      have hold : j * 3 + 3 ≤ (flatQ (M ++ List.replicate (n - j) RV0)).toArray.size := by
        rw [List.size_toArray, flatQ_length, List.length_append, List.length_replicate, hM]; omega
      clear hp hd hcap hM
      go_wp2_with fail
      refine (T.out _ HR.out).mono ?_
      rintro e w2 ⟨a', hpin, rfl, hc1, hc2, o2, hap2, hb2⟩
      replace hO := rblk_below hO hb2
      replace hOl := hOl.below hb2
      have hb3 := bt hb hb2
      have hz2 := hb2.size
      go_wp2_with (refine wpList_store_at rfl 30 (.tmp 21) (.tmp 20) rfl w.heap.size (j * 3) #[.bool p.x.p, .slice a'.A p.x.l.length a'.c, .slice a'.D p.x.m.length a'.d] rfl rfl 30 _ hO rat_size hold (by simp [Value.oneCell']) ?_)
      go_roundw
      case rel =>
        refine ⟨j + 1, M ++ [⟨p.x, a'⟩], hlt, by go_num, by simp [HM.out], ?_, ?_, ?_, ?_, ?_, ?_⟩
        · rw [take_succQ HP.out, datQ_app, datQ_app, HD.out]; rfl
        · intro q hq
          rcases List.mem_append.1 hq with h | h
          · exact HC.out q h
          · rw [List.mem_singleton] at h; subst h; exact ⟨⟨hc1, hc2⟩, hpin⟩
        · have h6 := flatQ_store HZ.out ⟨p.x, a'⟩
          have hrep : List.replicate (n - j) RV0 = RV0 :: List.replicate (n - (j + 1)) RV0 := by rw [show n - j = (n - (j + 1)) + 1 by omega]; rfl
          have hs6 := set_appQ M j ⟨p.x, a'⟩ RV0 (List.replicate (n - (j + 1)) RV0)
          rw [HM.out, ← hrep] at hs6
          rw [hs6] at h6
          rw [← h6]
          exact rowV_set hO _
        · rw [lrowQ_app, lrowQ_one]
          exact Owns.app (Owns.wide (hOl.setRow (.inl (Nat.lt_succ_self _)) _) (Nat.le_refl _) (by rw [setRow_size]; exact hz2)) (Owns.wide (o2.setRow (.inl hsz0) _) hsz0 (by rw [setRow_size]; exact Nat.le_refl _))
        · rw [lrowQ_app, lrowQ_one]
          exact Aparts.app hap hap2 hOl o2
        · exact below_setRow hb3 (Nat.le_refl _) _
      case measure => simp [intOf]; omega
    · obtain rfl : j = n := by omega
      rw [Nat.sub_self, List.replicate_zero, List.append_nil] at hO
      have hown : OwnS w.heap.size wr (some ⟨w.heap.size, 0, none⟩) (flatQ M) := by
        have h := OwnS.of_row hO (Nat.le_refl w.heap.size)
        simpa using h
      have hsz0 := rblk_lt hO
      have HF : Hid (MadeRSp w.heap.size L w (.returned (.slice (some ⟨w.heap.size, 0, none⟩) j j)) wr) := Lib.hid (by
        refine ⟨M, some ⟨w.heap.size, 0, none⟩, j, by rw [hM], by omega, by rw [hd, HN.out, List.take_length], hcap, ?_, ?_, hb⟩
        · exact Owns.cons hown (fun g hg => by
            unfold rowOf at hg
            split at hg
            · cases hg
            · simp at hg; omega) (hOl.wide (by omega) (Nat.le_refl _))
        · refine List.Pairwise.cons (fun s hs => ?_) hap
          have h1 := (hOl s hs).2
          exact InR.apart (lo := w.heap.size) (hi := w.heap.size + 1) (fun g hg => by
            unfold rowOf at hg
            split at hg
            · cases hg
            · simp at hg; omega) h1 (.inl (Nat.le_refl _)))
      clear hO hown hM hd hcap hOl hap
      go_wp2
      go_ret
      exact HF.out
theorem toRS_r (L : List RV) (A : Option Addr) (c : Nat) (w : World) (hn' : L.length ≤ 1048576) (hS : ∀ p, p ∈ L → ShortQ p) (hA : RdS w A (flatQ L)) (hR : Rds w (lrowQ L)) :
    Calls Tryz.prog 17 #[.slice A L.length c] w (MadeRS w.heap.size L w) :=
  (toRS_p L A c w hn' hS hA hR).mono fun e w' ⟨M, A, c, h1, h2, h3, h4, h5⟩ => ⟨M, A, c, h1, h2, h3, fun p hp => (h4 p hp).1, h5⟩
end Go.Proofs.YtennekieiioilaaGreat
