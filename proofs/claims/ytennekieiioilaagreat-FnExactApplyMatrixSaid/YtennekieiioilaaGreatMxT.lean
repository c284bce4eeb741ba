/-
  The harness' copy of a matrix.
-/
import Derived.Test.YtennekieiioilaaGreatMx
import Derived.Test.YtennekieiioilaaGreatStore
namespace Go.Proofs.YtennekieiioilaaGreat
open Go.ChangeShapes Go.WideShapes Go.ChangeAt Go.RowKit
open Go.ChangeMaps (open_string shut_string)
set_option linter.unusedVariables false
set_option linter.unusedSimpArgs false
set_option maxRecDepth 4000

theorem mr_info : (Tryz.prog.info? 71).map (fun i => (i.zero, i.size, i.bytes)) = some (some (.agg #[.slice none 0 0, .slice none 0 0]), 2, 48) := by kernel_rfl
theorem mr_size : (Tryz.prog.info? 71).map (·.size) = some 2 := by kernel_rfl
/-- One row in rows of the call's own. -/
def MadeMR (B : Nat) (p : MR) (w : World) (e : Ending) (w' : World) : Prop := ∃ q : MR, e = .returned (.agg #[.slice q.A q.cs.length q.c, .slice q.B q.V.length q.d]) ∧ (q.cs = p.cs ∧ datQ q.V = datQ p.V) ∧ CapX q ∧ Owns B w'.heap.size w' (rmx q) ∧ Aparts (rmx q) ∧ Below w.heap.size w w'
set_option maxHeartbeats 2000000 in
theorem toRow_r (p : MR) (w : World) (hS : ShortX p) (hR : Rds w (rmx p)) :
    Calls Tryz.prog 54 #[(.agg #[.slice p.A p.cs.length p.c, .slice p.B p.V.length p.d])] w (MadeMR w.heap.size p w) := by
  obtain ⟨s1, s2, s3⟩ := hS
  have T1 := Lib.hid (fun W h => toIntS_any p.cs p.A p.cs.length p.c W rfl s1 h)
  have T2 := Lib.hid (fun W h h' => toRS_r p.V p.B p.d W s2 s3 h h')
  unfold MadeRS at T2
  have RR : Hid (∀ W, Below w.heap.size w W → Rds W (rmx p)) := Lib.hid (fun W hb => hR.below hb)
  clear hR s1 s2 s3
  obtain ⟨P_p, P_r, P_o⟩ := blocks3 w (.cells #[.slice p.A p.cs.length p.c, .slice p.B p.V.length p.d] 75) (.cells #[.slice none 0 0, .slice none 0 0] 71) (.cells #[.slice none 0 0, .slice none 0 0] 71)
  have kb := ba3 w (.cells #[.slice p.A p.cs.length p.c, .slice p.B p.V.length p.d] 75) (.cells #[.slice none 0 0, .slice none 0 0] 71) (.cells #[.slice none 0 0, .slice none 0 0] 71)
  go_enter Tryz.func54, Tryz.ntmps54
  have p0 := rblk_cell P_p 0
  go_wp2_with fail
  clear p0
  generalize ((w.alloc (.cells #[.slice p.A p.cs.length p.c, .slice p.B p.V.length p.d] 75)).alloc (.cells #[.slice none 0 0, .slice none 0 0] 71)).alloc (.cells #[.slice none 0 0, .slice none 0 0] 71) = W1 at kb P_p P_r P_o ⊢
  refine (T1.out _ (RR.out _ kb).hd).mono ?_
  rintro e W2 ⟨g1, rfl, o1, hb⟩
  have hz1 := kb.size
  have lo1 := rblk_lt P_o
  have HW12 := Lib.hid hb.size
  have hg1 : InR (vi p.cs).length (some ⟨g1, 0, none⟩) W1.heap.size W2.heap.size := o1.inR rfl
  replace P_p := rblk_below P_p hb
  replace P_r := rblk_below P_r hb
  replace P_o := rblk_below P_o hb
  replace kb := bt kb hb
  clear hb
  have q0 := rblk_cell P_o 0
  have f0 := rblk_free P_o 0
  have p1 := rblk_cell P_p 1
  go_wp2_with fail
  clear q0 f0 p1
  have P_o2 := rblk_set P_o 0 (.slice (some ⟨g1, 0, none⟩) p.cs.length p.cs.length)
  have P_p2 := rblk_other P_p 0 (.slice (some ⟨g1, 0, none⟩) p.cs.length p.cs.length) (show w.heap.size + 1 + 1 ≠ w.heap.size by omega)
  have P_r2 := rblk_other P_r 0 (.slice (some ⟨g1, 0, none⟩) p.cs.length p.cs.length) (show w.heap.size + 1 + 1 ≠ w.heap.size + 1 by omega)
  have oI : Owns W1.heap.size W2.heap.size W2 [(some ⟨g1, 0, none⟩, vi p.cs)] := Owns.cons o1 hg1 (Owns.nil _ _ _)
  have oI2 := oI.put (b := w.heap.size + 1 + 1) (o := 0) (.inl lo1) (.slice (some ⟨g1, 0, none⟩) p.cs.length p.cs.length)
  have kb2 := below_put (o := 0) kb (show w.heap.size ≤ w.heap.size + 1 + 1 by omega) (.slice (some ⟨g1, 0, none⟩) p.cs.length p.cs.length)
  have hz2 : W2.heap.size ≤ (W2.setCell ⟨w.heap.size + 1 + 1, 0, none⟩ (.slice (some ⟨g1, 0, none⟩) p.cs.length p.cs.length)).heap.size := by simp [World.setCell]
  clear P_o P_p P_r oI kb o1 hg1
  generalize W2.setCell ⟨w.heap.size + 1 + 1, 0, none⟩ (.slice (some ⟨g1, 0, none⟩) p.cs.length p.cs.length) = W3 at P_o2 P_p2 P_r2 oI2 kb2 hz2 ⊢
  refine (T2.out _ (RR.out _ kb2).tl.hd (RR.out _ kb2).tl.tl).mono ?_
  rintro e W4 ⟨V, B, d, rfl, hkd, hdV, hcV, oV, apV, hb⟩
  have P_o3 : W4.heap[w.heap.size + 1 + 1]? = some (.cells #[.slice (some ⟨g1, 0, none⟩) p.cs.length p.cs.length, .slice none 0 0] 71 (0, 0)) := rblk_below P_o2 hb
  have P_r3 := rblk_below P_r2 hb
  have oI3 := oI2.below hb
  have kb3 := bt kb2 hb
  have hz4 := hb.size
  clear P_o2 P_p2 P_r2 oI2 kb2 hb
  have HF := Lib.hid (And.intro hkd (And.intro hdV hcV))
  have HZ := Lib.hid (And.intro lo1 (And.intro hz1 (And.intro hz2 hz4)))
  have HO := Lib.hid (And.intro oI3 (And.intro oV apV))
  clear hkd hdV hcV lo1 hz1 hz2 hz4 oI3 oV apV
  have q0 := rblk_cell P_o3 0
  have q1 := rblk_cell P_o3 1
  have f1 := rblk_free P_o3 1
  have r0 := rblk_cell P_r3 0
  have r1 := rblk_cell P_r3 1
  have s0 := rblk_free P_r3 0
  have s1 := rblk_free P_r3 1
  go_wp2
  have oA : Owns W1.heap.size W4.heap.size W4 ((some ⟨g1, 0, none⟩, vi p.cs) :: srowQ B V) := (HO.out.1.wide (Nat.le_refl _) (Nat.le_trans HZ.out.2.2.1 HZ.out.2.2.2)).app (HO.out.2.1.wide (Nat.le_trans (Nat.le_trans HW12.out HZ.out.2.2.1) (Nat.le_refl _)) (Nat.le_refl _))
  exact bodyPost_ret (v := .agg #[.slice (some ⟨g1, 0, none⟩) p.cs.length p.cs.length, .slice B V.length d]) (by simp [results, Tryz.results54, go_sem, q0, q1, r0, r1, s0, s1]) rfl ⟨⟨p.cs, some ⟨g1, 0, none⟩, p.cs.length, V, B, d⟩, rfl, ⟨rfl, HF.out.2.1⟩, ⟨Nat.le_refl _, HF.out.1, HF.out.2.2⟩, (((oA.put (.inl HZ.out.1) _).put (.inl (by have := HZ.out.1; omega)) _).put (.inl (by have := HZ.out.1; omega)) _).wide HZ.out.2.1 (by simp [World.setCell]), Aparts.app (Aparts.one _) HO.out.2.2 HO.out.1 (HO.out.2.1.wide HZ.out.2.2.1 (Nat.le_refl _)), below_put (below_put (below_put kb3 (by omega) _) (by omega) _) (by omega) _⟩
/-- A matrix in rows of the call's own, with the data of L. -/
def MadeMx (B : Nat) (L : List MR) (w : World) (e : Ending) (w' : World) : Prop :=
  ∃ (M : List MR) (A : Option Addr) (c : Nat), e = .returned (.agg #[.slice A M.length c]) ∧ M.length ≤ c ∧ datX M = datX L ∧ (∀ p, p ∈ M → CapX p) ∧ Owns B w'.heap.size w' (srowX A M) ∧ Aparts (srowX A M) ∧ Below w.heap.size w w'
theorem blk_of_made2 {w : World} {base g n : Nat} {T : TypeId} {xs : List Value} (h : w.ownsRow base T 2 (.slice (some ⟨g, 0, none⟩) n n) n xs) : w.heap[g]? = some (.cells xs.toArray T (0, 0)) := by
  obtain ⟨hl, hr⟩ := h
  rcases hr with ⟨hv, _⟩ | ⟨g', cap, cur, hv, hbg, hh, hnc, hm, hsz, htake⟩
  · cases hv
  · injection hv with e1 e2 e3
    injection e1 with e1
    injection e1 with e1
    subst e1; subst e3
    have : cur = xs.toArray := by
      rw [← htake, List.take_of_length_le (by rw [Array.length_toList]; omega)]
    rw [hh, this]
theorem flatX_store {L : List MR} {i : Nat} {p : MR} (h : L[i]? = some p) (q : MR) : ((flatX L).toArray.toList.take (i * 2) ++ ((#[.slice q.A q.cs.length q.c, .slice q.B q.V.length q.d] : Array Value).toList ++ (flatX L).toArray.toList.drop (i * 2 + (#[.slice q.A q.cs.length q.c, .slice q.B q.V.length q.d] : Array Value).size))).toArray = (flatX (L.set i q)).toArray := by
  have hl := lt_of_getX h
  have hq : (L.set i q)[i]? = some q := List.getElem?_set_self hl
  have hlen : (flatX (L.take i)).length = i * 2 := by rw [flatX_length, List.length_take, Nat.min_eq_left (by omega)]
  have e1 : (L.set i q).take i = L.take i := List.take_set_of_le (Nat.le_refl _)
  have e2 : (L.set i q).drop (i + 1) = L.drop (i + 1) := List.drop_set_of_lt (Nat.lt_succ_self _)
  rw [flatX_split hq, e1, e2]
  congr 1
  show (flatX L).take (i * 2) ++ (mcl q ++ (flatX L).drop (i * 2 + 2)) = _
  have h3 : (flatX L).take (i * 2) = flatX (L.take i) := by rw [flatX_split h, List.take_append_of_le_length (by omega), List.take_of_length_le (by omega)]
  have h4 : (flatX L).drop (i * 2 + 2) = flatX (L.drop (i + 1)) := by
    rw [flatX_split h, List.drop_append, List.drop_of_length_le (by omega), hlen, List.nil_append, show i * 2 + 2 - i * 2 = 2 by omega]
    rfl
  rw [h3, h4]
set_option maxHeartbeats 1000000 in
theorem toMS_r (L : List MR) (A : Option Addr) (c : Nat) (w : World) (hn' : L.length ≤ 1048576) (hS : ∀ p, p ∈ L → ShortX p) (hA : RdS w A (flatX L)) (hR : Rds w (lrowX L)) :
    Calls Tryz.prog 28 #[.slice A L.length c] w (MadeMS w.heap.size L w) := by
  obtain ⟨n, hn⟩ : ∃ n, n = L.length := ⟨_, rfl⟩
  rw [← hn] at hn' ⊢
  have HN := Lib.hid hn
  clear hn
  obtain ⟨i0, hi, hz0, hz1, hz2⟩ := info_parts mr_info
  go_enter Tryz.func28, Tryz.ntmps28
  go_wp2_with (refine wpList_make_full _ rfl (.tmp 6) (.tmp 6) 32 rfl w.heap.size 71 i0 _ 2 Tryz.underlying32 hi hz0 hz1 .i64 .i64 n n n rfl rfl rfl rfl (by rw [hz2]; omega) (by simp only [maxLen]; omega) (Nat.le_refl _) ?_; intro w1 hown hg)
  have hb1 : Below w.heap.size w w1 := below_of_grown hg (Nat.le_refl _) (fun g h => by cases h)
  rw [made_flatX] at hown
  have hst := blk_of_made2 hown
  clear hown hg
  go_wp2
  go_loopw [4] (fun i w' => ∃ (j : Nat) (M : List MR), j ≤ n ∧ i = .int .i64 (j : Int) ∧ M.length = j ∧ datX M = datX (L.take j) ∧ (∀ p, p ∈ M → CapX p ) ∧ w'.heap[w.heap.size]? = some (.cells (flatX (M ++ List.replicate (n - j) MR0)).toArray 71 (0, 0)) ∧ Owns (w.heap.size + 1) w'.heap.size w' (lrowX M) ∧ Aparts (lrowX M) ∧ Below w.heap.size w w') (fun i _ => n - (intOf i).toNat)
  case atStart => exact ⟨0, [], Nat.zero_le _, rfl, rfl, by simp [datX], (fun p hp => by cases hp), hst, Owns.nil _ _ _, Aparts.nil, hb1⟩
  case round =>
    obtain ⟨j, M, hj, rfl, hM, hd, hcap, hO, hOl, hap, hb⟩ := hrel
    clear hst
    by_cases hlt : j < n
    · obtain ⟨p, hp⟩ := getX (show j < L.length by rw [← HN.out]; exact hlt)
      obtain ⟨g, o, rfl, hg, c0, c1⟩ := (hA.below hb).two hp
      have HR := Lib.hid ((hR.below hb).atX hp)
      have T := Lib.hid (fun W hh => toRow_r p W (hS p (List.mem_of_getElem? hp)) hh)
      unfold MadeMR at T
      have hi0 : (0 : Int) ≤ (j : Int) := by omega
      have hi1 : (j : Int) < (n : Int) := by omega
      have HZ : Hid ((M ++ List.replicate (n - j) MR0)[j]? = some MR0) := Lib.hid (by
        rw [List.getElem?_append_right (by omega), hM, Nat.sub_self]; exact rep_getX _ (by omega))
      have hsz0 := rblk_lt hO
      have HP := Lib.hid hp
      have HD := Lib.hid hd
      have HC := Lib.hid hcap
      have HM := Lib.hid hM
      have hold : j * 2 + 2 ≤ (flatX (M ++ List.replicate (n - j) MR0)).toArray.size := by
        rw [List.size_toArray, flatX_length, List.length_append, List.length_replicate, hM]; omega
      clear hp hd hcap hM
      go_wp2_with fail
      refine (T.out _ HR.out).mono ?_
      rintro e w2 ⟨q', rfl, hqq, hcq, o2, hap2, hb2⟩
      have HQ := Lib.hid hqq
      clear hqq
      replace hO := rblk_below hO hb2
      replace hOl := hOl.below hb2
      have hb3 := bt hb hb2
      have hz2 := hb2.size
      go_wp2_with (refine wpList_store_at rfl 71 (.tmp 21) (.tmp 20) rfl w.heap.size (j * 2) #[.slice q'.A q'.cs.length q'.c, .slice q'.B q'.V.length q'.d] rfl rfl 71 _ hO mr_size hold (by simp [Value.oneCell']) ?_)
      go_roundw
      case rel =>
        refine ⟨j + 1, M ++ [q'], hlt, by go_num, by simp [HM.out], ?_, ?_, ?_, ?_, ?_, ?_⟩
        · rw [take_succX HP.out, datX_app, datX_app, HD.out]; show _ ++ [(q'.cs, datQ q'.V)] = _ ++ [(p.cs, datQ p.V)]; rw [HQ.out.1, HQ.out.2]
        · intro q hq
          rcases List.mem_append.1 hq with h | h
          · exact HC.out q h
          · rw [List.mem_singleton] at h; subst h; exact hcq
        · have h6 := flatX_store HZ.out q'
          have hrep : List.replicate (n - j) MR0 = MR0 :: List.replicate (n - (j + 1)) MR0 := by rw [show n - j = (n - (j + 1)) + 1 by omega]; rfl
          have hs6 := set_appX M j q' MR0 (List.replicate (n - (j + 1)) MR0)
          rw [HM.out, ← hrep] at hs6
          rw [hs6] at h6
          rw [← h6]
          exact rowV_set hO _
        · rw [lrowX_app, lrowX_one]
          exact Owns.app (Owns.wide (hOl.setRow (.inl (Nat.lt_succ_self _)) _) (Nat.le_refl _) (by rw [setRow_size]; exact hz2)) (Owns.wide (o2.setRow (.inl hsz0) _) hsz0 (by rw [setRow_size]; exact Nat.le_refl _))
        · rw [lrowX_app, lrowX_one]
          exact Aparts.app hap hap2 hOl o2
        · exact below_setRow hb3 (Nat.le_refl _) _
      case measure => simp [intOf]; omega
    · obtain rfl : j = n := by omega
      rw [Nat.sub_self, List.replicate_zero, List.append_nil] at hO
      have hown : OwnS w.heap.size wr (some ⟨w.heap.size, 0, none⟩) (flatX M) := by
        have h := OwnS.of_row hO (Nat.le_refl w.heap.size)
        simpa using h
      have hsz0 := rblk_lt hO
      have HF : Hid (MadeMS w.heap.size L w (.returned (.slice (some ⟨w.heap.size, 0, none⟩) j j)) wr) := Lib.hid (by
        refine ⟨M, some ⟨w.heap.size, 0, none⟩, j, by rw [hM], by omega, by rw [hd, HN.out, List.take_length], hcap, ?_, ?_, hb⟩
        · exact Owns.cons hown (fun g hg => by
            unfold rowOf at hg
            split at hg
            · cases hg
            · simp at hg; omega) (hOl.wide (by omega) (Nat.le_refl _))
        · refine List.Pairwise.cons (fun s hs => ?_) hap
          have h1 := (hOl s hs).2
          exact InR.apart (lo := w.heap.size) (hi := w.heap.size + 1) (fun g hg => by
            unfold rowOf at hg
            split at hg
            · cases hg
            · simp at hg; omega) h1 (.inl (Nat.le_refl _)))
      clear hO hown hM hd hcap hOl hap
      go_wp2
      go_ret
      exact HF.out
set_option maxHeartbeats 1000000 in
theorem toMx_r (L : List MR) (A : Option Addr) (c : Nat) (w : World) (hn' : L.length ≤ 1048576) (hS : ∀ p, p ∈ L → ShortX p) (hA : RdS w A (flatX L)) (hR : Rds w (lrowX L)) :
    Calls Tryz.prog 8 #[.agg #[.slice A L.length c]] w (MadeMx w.heap.size L w) := by
  have S := Lib.hid (fun W (hb : Below w.heap.size w W) => toMS_r L A c W hn' hS (hA.below hb) (hR.below hb))
  unfold MadeMS at S
  clear hA hR hS
  generalize L.length = n at *
  obtain ⟨P_p, P_r, P_o⟩ := blocks3 w (.cells #[.slice A n c] 24) (.cells #[.slice none 0 0] 34) (.cells #[.slice none 0 0] 34)
  have kb := ba3 w (.cells #[.slice A n c] 24) (.cells #[.slice none 0 0] 34) (.cells #[.slice none 0 0] 34)
  go_enter Tryz.func8, Tryz.ntmps8
  have p0 := rblk_cell P_p 0
  go_wp2_with fail
  clear p0
  generalize ((w.alloc (.cells #[.slice A n c] 24)).alloc (.cells #[.slice none 0 0] 34)).alloc (.cells #[.slice none 0 0] 34) = W1 at kb P_p P_r P_o ⊢
  have lo1 := rblk_lt P_o
  have hz1 := kb.size
  refine (S.out _ kb).mono ?_
  rintro e W2 ⟨M, B, d, rfl, hkd, hdM, hcM, oM, apM, hb⟩
  replace P_r := rblk_below P_r hb
  replace P_o := rblk_below P_o hb
  replace kb := bt kb hb
  clear P_p hb
  have HF := Lib.hid (And.intro hkd (And.intro hdM (And.intro hcM (And.intro oM apM))))
  have HZ := Lib.hid (And.intro lo1 hz1)
  clear hkd hdM hcM oM apM lo1 hz1
  have q0 := rblk_cell P_o 0
  have f0 := rblk_free P_o 0
  have r0 := rblk_cell P_r 0
  have s0 := rblk_free P_r 0
  go_wp2
  exact bodyPost_ret (v := .agg #[.slice B M.length d]) (by simp [results, Tryz.results8, go_sem, q0, r0, s0]) rfl ⟨M, B, d, rfl, HF.out.1, HF.out.2.1, HF.out.2.2.1, ((HF.out.2.2.2.1.put (.inl HZ.out.1) _).put (.inl (by have := HZ.out.1; omega)) _).wide HZ.out.2 (by simp [World.setCell]), HF.out.2.2.2.2, below_put (below_put kb (by omega) _) (by omega) _⟩
end Go.Proofs.YtennekieiioilaaGreat
