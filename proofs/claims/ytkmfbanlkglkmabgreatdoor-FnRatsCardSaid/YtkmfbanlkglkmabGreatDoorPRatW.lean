/-
  'ParseRat' of the model answers as the program does.
-/
import Derived.Test.YtkmfbanlkglkmabGreatDoorPRatV
namespace Go.Proofs.YtkmfbanlkglkmabGreatDoor
open Go.ChangeShapes Go.WideShapes Go.ChangeAt Go.RowKit
open Go.ChangeMaps (open_string shut_string)
set_option linter.unusedVariables false
set_option linter.unusedSimpArgs false
set_option maxRecDepth 4000

/-- What the model asks of its parts. -/
def okM (s : ByteArray) (S : Bool) (L : List Int) (b1 : Bool) (M : List Int) (b2 : Bool) : Bool := b1 && b2 && !decide (fmtR S L M = []) && decide (fmtR S L M = s.data.toList)
theorem fmtR_no {S : Bool} {L M : List Int} (h : okR S L M = false) : fmtR S L M = [] := by unfold fmtR; rw [h]; rfl
theorem fmtR_one {S : Bool} {L : List Int} (h : okR S L [1] = true) : fmtR S L [1] = fmtB S L := by unfold fmtR; rw [h, if_pos rfl, if_pos rfl]
theorem fmtR_two {S : Bool} {L M : List Int} (h : okR S L M = true) (h1 : M ≠ [1]) : fmtR S L M = fmtB S L ++ 47 :: fmtL M := by unfold fmtR; rw [h, if_pos rfl, if_neg h1]
theorem mk_list (l : List UInt8) : (⟨l.toArray⟩ : ByteArray).data.toList = l := by simp
theorem eq_yes {l : List UInt8} {s : ByteArray} (h : l = s.data.toList) : ((⟨l.toArray⟩ : ByteArray).toList == s.toList) = true := by
  rw [ByteArray.toList_eq, ByteArray.toList_eq, mk_list, h]; exact beq_self_eq_true _
theorem eq_no {l : List UInt8} {s : ByteArray} (h : l ≠ s.data.toList) : ((⟨l.toArray⟩ : ByteArray).toList == s.toList) = false := by
  rw [ByteArray.toList_eq, ByteArray.toList_eq, mk_list, beq_eq_false_iff_ne]; exact h
theorem spec_comb_s (s T V : ByteArray) (N : Nat) (hN : 2 ≤ N) (S b1 b2 : Bool) (L D : List Int) (w : World) (hL : L.length ≤ 1048576) (hM : D.length ≤ 1048576)
    (HC : ∀ W, Calls Tryz.prog 46 #[.string s, .string ⟨#[47]⟩] W fun e w' => ∃ g c, e = .returned (.slice (some ⟨g, 0, none⟩) N c) ∧ N ≤ c ∧ w'.cell? ⟨g, 0, none⟩ = some (.string T) ∧ w'.cell? ⟨g, 1, none⟩ = some (.string V) ∧ Below W.heap.size W w')
    (HP : ∀ W, Calls Tryz.prog 92 #[.string T] W (PairB W.heap.size S L b1 W))
    (HN : ∀ W, Calls Tryz.prog 93 #[.string V] W (PairN W.heap.size D b2 W)) :
    Calls Tryz.prog 47 #[.string s] w (PairO w.heap.size (okM s S L b1 D b2) S L D w) := by
  have hN1 : 0 < N := by omega
  have hN2 : 1 < N := by omega
  have hN3 : (1 : Int) < (N : Int) := by omega
  have HF := fun A c Dd d W h h' => spec_fmtR S L D A Dd L.length D.length c d W rfl rfl (by omega) (by omega) h h'
  cases b1
  · exact spec_pr_s_n s T V N hN1 hN2 hN3 S L D w b2 HC HP HN
  · cases b2
    · exact spec_pr_s_d s T V N hN1 hN2 hN3 S L D w HC HP HN
    · by_cases h1 : fmtR S L D = []
      · rw [h1] at HF
        rw [show okM s S L true D true = false by unfold okM; rw [decide_eq_true h1]; rfl]
        exact spec_pr_s_f s T V N hN1 hN2 hN3 S L D w ⟨#[]⟩ toList_nil.1 toList_nil.2 HF HC HP HN
      · have hx := toList_ne (s := ⟨(fmtR S L D).toArray⟩) (by rw [mk_list]; exact h1)
        by_cases h2 : fmtR S L D = s.data.toList
        · rw [show okM s S L true D true = true by unfold okM; rw [decide_eq_false h1, decide_eq_true h2]; rfl, PairO.yes]
          exact spec_pr_s_y s T V N hN1 hN2 hN3 S L D w _ hx.1 hx.2 (eq_yes h2) HF HC HP HN
        · rw [show okM s S L true D true = false by unfold okM; rw [decide_eq_false h2]; simp]
          exact spec_pr_s_g s T V N hN1 hN2 hN3 S L D w _ hx.1 hx.2 (eq_no h2) HF HC HP HN
theorem spec_comb_w (s T V : ByteArray) (S b1 : Bool) (L : List Int) (w : World) (hL : L.length ≤ 1048576)
    (HC : ∀ W, Calls Tryz.prog 46 #[.string s, .string ⟨#[47]⟩] W fun e w' => ∃ g c, e = .returned (.slice (some ⟨g, 0, none⟩) 1 c) ∧ 1 ≤ c ∧ w'.cell? ⟨g, 0, none⟩ = some (.string T) ∧ True ∧ Below W.heap.size W w')
    (HP : ∀ W, Calls Tryz.prog 92 #[.string T] W (PairB W.heap.size S L b1 W)) :
    Calls Tryz.prog 47 #[.string s] w (PairO w.heap.size (okM s S L b1 [1] true) S L [1] w) := by
  have HF := fun A c Dd d W h h' => spec_fmtR S L [1] A Dd L.length 1 c d W rfl rfl (by omega) (by omega) h h'
  cases b1
  · exact spec_pr_w_n s T V S L [1] w HC HP
  · by_cases h1 : fmtR S L [1] = []
    · rw [h1] at HF
      rw [show okM s S L true [1] true = false by unfold okM; rw [decide_eq_true h1]; rfl]
      exact spec_pr_w_f s T V S L [1] w ⟨#[]⟩ toList_nil.1 toList_nil.2 HF HC HP
    · have hx := toList_ne (s := ⟨(fmtR S L [1]).toArray⟩) (by rw [mk_list]; exact h1)
      by_cases h2 : fmtR S L [1] = s.data.toList
      · rw [show okM s S L true [1] true = true by unfold okM; rw [decide_eq_false h1, decide_eq_true h2]; rfl, PairO.yes]
        exact spec_pr_w_y s T V S L [1] w _ hx.1 hx.2 (eq_yes h2) HF HC HP
      · rw [show okM s S L true [1] true = false by unfold okM; rw [decide_eq_false h2]; simp]
        exact spec_pr_w_g s T V S L [1] w _ hx.1 hx.2 (eq_no h2) HF HC HP
/-- What is left of a split, in memory. -/
theorem split_two {B : Nat} {T V : ByteArray} {r : List ByteArray} {W w' : World} {e : Ending} (h : Made B (vs (T :: V :: r)) W e w') : ∃ g c, e = .returned (.slice (some ⟨g, 0, none⟩) (r.length + 2) c) ∧ r.length + 2 ≤ c ∧ w'.cell? ⟨g, 0, none⟩ = some (.string T) ∧ w'.cell? ⟨g, 1, none⟩ = some (.string V) ∧ Below W.heap.size W w' := by
  obtain ⟨A, c, he, hc, ho, hb⟩ := h
  have hl : (vs (T :: V :: r)).length = r.length + 2 := by rw [vs_length]; rfl
  rw [hl] at he hc
  obtain ⟨g, rfl, _, _, hcl, _⟩ := ho.block (by rw [hl]; omega)
  exact ⟨g, c, he, hc, hcl 0 (by rw [hl]; omega), hcl 1 (by rw [hl]; omega), hb⟩
theorem split_one {B : Nat} {T : ByteArray} {W w' : World} {e : Ending} (h : Made B (vs [T]) W e w') : ∃ g c, e = .returned (.slice (some ⟨g, 0, none⟩) 1 c) ∧ 1 ≤ c ∧ w'.cell? ⟨g, 0, none⟩ = some (.string T) ∧ True ∧ Below W.heap.size W w' := by
  obtain ⟨A, c, he, hc, ho, hb⟩ := h
  have hl : (vs [T]).length = 1 := rfl
  rw [hl] at he hc
  obtain ⟨g, rfl, _, _, hcl, _⟩ := ho.block (by rw [hl]; omega)
  exact ⟨g, c, he, hc, hcl 0 (by rw [hl]; omega), trivial, hb⟩
theorem ext_le (s : ByteArray) (i j : Nat) : (s.extract i j).size ≤ s.size := by
  rw [← size_list, ext_list, List.length_drop, List.length_take, size_list]; omega
theorem pts_sz (s : ByteArray) : ∀ k, ∀ x ∈ pts s slash k, x.size ≤ s.size
  | 0, x, h => by cases h
  | k + 1, x, h => by
    by_cases hs : sepAt s slash k = true
    · rw [pts_yes hs] at h
      rcases List.mem_append.1 h with h | h
      · exact pts_sz s k x h
      · rw [List.mem_singleton.1 h]; exact ext_le _ _ _
    · rw [pts_no (by simpa using hs)] at h
      exact pts_sz s k x h
theorem splits_sz {s x : ByteArray} (h : x ∈ splits s slash) : x.size ≤ s.size := by
  unfold splits at h
  rcases List.mem_append.1 h with h | h
  · exact pts_sz s _ x h
  · rw [List.mem_singleton.1 h]; exact ext_le _ _ _
theorem okS_nos {T : ByteArray} (h : okS T = true) : NoS T.data.toList := by
  unfold okS at h
  simp only [Bool.and_eq_true, Bool.or_eq_true, decide_eq_true_eq] at h
  obtain ⟨hdg, hpos⟩ := digs_isdig h.1.1
  exact fun c hc => dig_no (hdg c hc)
theorem pb_ne {T : ByteArray} (h : pbB (pbP T) (pbT T) = true) : T.data.toList ≠ [] := by
  intro e
  have : T = ⟨#[]⟩ := byte_eq (by rw [e])
  subst this
  exact absurd h (by decide)
/-- No slash in the text. -/
theorem ok_whole {s : ByteArray} (h : NoS s.data.toList) : okM s (pbP s && pbB (pbP s) (pbT s)) (pbL (pbP s) (pbT s)) (pbB (pbP s) (pbT s)) [1] true = okP false (pbP s && pbB (pbP s) (pbT s)) (pbL (pbP s) (pbT s)) (pbB (pbP s) (pbT s)) [1] true := by
  unfold okM okP
  by_cases h1 : pbB (pbP s) (pbT s) = true
  · have hc := canon_big h1
    have hne := pb_ne h1
    rw [h1, Bool.and_true (pbP s)]
    by_cases h2 : okR (pbP s) (pbL (pbP s) (pbT s)) [1] = true
    · rw [fmtR_one h2, hc, h2, decide_eq_false hne, decide_eq_true rfl]; rfl
    · have h2' : okR (pbP s) (pbL (pbP s) (pbT s)) [1] = false := by simpa using h2
      rw [fmtR_no h2', h2', decide_eq_true rfl]; rfl
  · have h1' : pbB (pbP s) (pbT s) = false := by simpa using h1
    rw [h1']; rfl
/-- A slash, and the part behind it up to the next. -/
theorem ok_parts {s T V : ByteArray} {b : List UInt8} (hl : s.data.toList = T.data.toList ++ 47 :: b) (ha : NoS T.data.toList) :
    okM s (pbP T && pbB (pbP T) (pbT T)) (pbL (pbP T) (pbT T)) (pbB (pbP T) (pbT T)) (prsL V) (okS V) = (decide (V.data.toList = b) && okP true (pbP T && pbB (pbP T) (pbT T)) (pbL (pbP T) (pbT T)) (pbB (pbP T) (pbT T)) (prsL V) (okS V)) := by
  unfold okM okP
  by_cases h1 : pbB (pbP T) (pbT T) = true
  · by_cases h2 : okS V = true
    · have hc := canon_big h1
      have hd := canon_nat h2
      have hne := pb_ne h1
      rw [h1, h2, Bool.and_true (pbP T)]
      by_cases h3 : okR (pbP T) (pbL (pbP T) (pbT T)) (prsL V) = true
      · by_cases h4 : prsL V = [1]
        · rw [h4] at h3 ⊢
          rw [fmtR_one h3, hc, h3, decide_eq_false hne]
          have : T.data.toList ≠ s.data.toList := by
            intro e
            have h5 : (47 : UInt8) ∈ T.data.toList := by rw [e, hl]; simp
            exact ha 47 h5 rfl
          rw [decide_eq_false this]
          simp
        · rw [fmtR_two h3 h4, hc, hd, h3, decide_eq_false h4, hl, decide_eq_false (by simp : T.data.toList ++ 47 :: V.data.toList ≠ [])]
          by_cases h5 : V.data.toList = b
          · rw [h5, decide_eq_true rfl, decide_eq_true rfl]; rfl
          · rw [decide_eq_false h5, decide_eq_false (by intro e; exact h5 (List.cons.inj (List.append_cancel_left e)).2)]
            simp
      · have h3' : okR (pbP T) (pbL (pbP T) (pbT T)) (prsL V) = false := by simpa using h3
        rw [fmtR_no h3', h3', decide_eq_true rfl]
        simp
    · have h2' : okS V = false := by simpa using h2
      rw [h2']
      simp
  · have h1' : pbB (pbP T) (pbT T) = false := by simpa using h1
    rw [h1']
    simp
theorem PairO.cast {B : Nat} {a b S : Bool} {L D L' D' : List Int} {S' : Bool} {w w' : World} {e : Ending} (h : PairO B a S L D w e w') (hab : a = b) (hs : b = true → S = S' ∧ L = L' ∧ D = D') : PairO B b S' L' D' w e w' := by
  subst hab
  cases a
  · exact h
  · obtain ⟨rfl, rfl, rfl⟩ := hs rfl
    exact h
theorem spec_prat (s : ByteArray) (w : World) (hs : s.size ≤ 1048576) :
    Calls Tryz.prog 47 #[.string s] w (PairR w.heap.size (prP s) (prL s) (prM s) (prOk s) w) := by
  have HS : ∀ W, Calls Tryz.prog 46 #[.string s, .string ⟨#[47]⟩] W (Made W.heap.size (vs (splits s slash)) W) := fun W => spec_split s slash W hs (by exact (by decide : (1 : Nat) ≤ 1048576))
  rw [pr_out]
  rcases cut_cases s.data.toList with ⟨hn, hc⟩ | ⟨a, b, ha, hl, hc⟩
  · have hT : ctT s = s := byte_eq (by unfold ctT; rw [hc, mk_list])
    have hq : ctQ s = false := by unfold ctQ; rw [hc]
    have hB : prB s = ⟨#[49]⟩ := by unfold prB; rw [hq]; rfl
    have ho : prOk s = okP false (pbP s && pbB (pbP s) (pbT s)) (pbL (pbP s) (pbT s)) (pbB (pbP s) (pbT s)) [1] true := by
      unfold prOk prS prN okP; rw [hT, hq, hB, one_text.1, one_text.2]
    rw [splits_none hn] at HS
    have HC := fun W => (HS W).mono fun e w' h => split_one h
    have HP := fun W => spec_pb s W hs
    refine (spec_comb_w s s s _ _ _ w (pbL_len _ _) HC HP).mono fun e w' h => h.cast ((ok_whole hn).trans ho.symm) (fun _ => ?_)
    unfold prS prN
    rw [hT, hB, one_text.2]
    exact ⟨rfl, rfl, rfl⟩
  · have hT : ctT s = ⟨a.toArray⟩ := by unfold ctT; rw [hc]
    have hU : ctU s = ⟨b.toArray⟩ := by unfold ctU; rw [hc]
    have hq : ctQ s = true := by unfold ctQ; rw [hc]
    have hB : prB s = ⟨b.toArray⟩ := by unfold prB; rw [hq, hU]; rfl
    have hTs : (⟨a.toArray⟩ : ByteArray).size ≤ s.size := by rw [← hT]; exact (cut_size s).1
    have HP := fun W => spec_pb ⟨a.toArray⟩ W (by omega)
    have ho : prOk s = okP true (pbP ⟨a.toArray⟩ && pbB (pbP ⟨a.toArray⟩) (pbT ⟨a.toArray⟩)) (pbL (pbP ⟨a.toArray⟩) (pbT ⟨a.toArray⟩)) (pbB (pbP ⟨a.toArray⟩) (pbT ⟨a.toArray⟩)) (prsL ⟨b.toArray⟩) (okS ⟨b.toArray⟩) := by
      unfold prOk prS prN okP; rw [hT, hq, hB]
    have hST : prS s = (pbP ⟨a.toArray⟩ && pbB (pbP ⟨a.toArray⟩) (pbT ⟨a.toArray⟩)) := by unfold prS; rw [hT]
    have hLT : prN s = pbL (pbP ⟨a.toArray⟩) (pbT ⟨a.toArray⟩) := by unfold prN; rw [hT]
    have hl' : s.data.toList = (⟨a.toArray⟩ : ByteArray).data.toList ++ 47 :: b := by rw [mk_list]; exact hl
    have ha' : NoS (⟨a.toArray⟩ : ByteArray).data.toList := by rw [mk_list]; exact ha
    obtain ⟨V, r, hsp, hV⟩ : ∃ V r, splits s slash = ⟨a.toArray⟩ :: V :: r ∧ (NoS b → V = ⟨b.toArray⟩) := by
      by_cases hb : NoS b
      · exact ⟨⟨b.toArray⟩, [], splits_one hl ha hb, fun _ => rfl⟩
      · obtain ⟨V, r, h⟩ := splits_many hl ha
        exact ⟨V, r, h, fun h => absurd h hb⟩
    have hVs : V.size ≤ s.size := splits_sz (by rw [hsp]; simp)
    rw [hsp] at HS
    have HC := fun W => (HS W).mono fun e w' h => split_two h
    have HN := fun W => spec_prs V W (by omega)
    have hokM := ok_parts (V := V) hl' ha'
    have heq : (decide (V.data.toList = b) && okP true (pbP ⟨a.toArray⟩ && pbB (pbP ⟨a.toArray⟩) (pbT ⟨a.toArray⟩)) (pbL (pbP ⟨a.toArray⟩) (pbT ⟨a.toArray⟩)) (pbB (pbP ⟨a.toArray⟩) (pbT ⟨a.toArray⟩)) (prsL V) (okS V)) = prOk s := by
      rw [ho]
      by_cases hb : V.data.toList = b
      · have : V = ⟨b.toArray⟩ := byte_eq (by rw [hb])
        rw [this, mk_list, decide_eq_true rfl, Bool.true_and]
      · have hnb : ¬ NoS b := fun h => hb (by rw [hV h])
        have hoS : okS ⟨b.toArray⟩ = false := by
          cases e : okS (⟨b.toArray⟩ : ByteArray) with
          | false => rfl
          | true => exact absurd (by have := okS_nos e; rwa [mk_list] at this) hnb
        rw [decide_eq_false hb, Bool.false_and]
        unfold okP
        rw [hoS]
        simp
    refine (spec_comb_s s ⟨a.toArray⟩ V (r.length + 2) (by omega) _ _ _ _ _ w (pbL_len _ _) (by have := prsL_len V; omega) HC HP HN).mono fun e w' h => h.cast (hokM.trans heq) (fun ht => ?_)
    rw [hST, hLT, hB]
    refine ⟨rfl, rfl, ?_⟩
    rw [← heq] at ht
    have hb : V.data.toList = b := by
      have := (Bool.and_eq_true _ _).mp ht
      exact of_decide_eq_true this.1
    have : V = ⟨b.toArray⟩ := byte_eq (by rw [hb])
    rw [this]
theorem prL_len (s : ByteArray) : (prL s).length ≤ 1048576 := by
  unfold prL
  split
  · exact pbL_len _ _
  · simp
theorem prM_len (s : ByteArray) : (prM s).length ≤ 1048576 := by
  unfold prM
  split
  · have := prsL_len (prB s); omega
  · simp
end Go.Proofs.YtkmfbanlkglkmabGreatDoor
