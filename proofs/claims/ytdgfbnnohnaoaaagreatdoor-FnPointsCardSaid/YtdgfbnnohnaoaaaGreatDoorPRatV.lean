/-
  'ParseRat' of the model and of the program answer the same for every text.
-/
import Derived.Test.YtdgfbnnohnaoaaaGreatDoorPRatS
namespace Go.Proofs.YtdgfbnnohnaoaaaGreatDoor
open Go.ChangeShapes Go.WideShapes Go.ChangeAt Go.RowKit
open Go.ChangeMaps (open_string shut_string)
set_option linter.unusedVariables false
set_option linter.unusedSimpArgs false
set_option maxRecDepth 4000

/-- The text of the denominator: of a whole number 1. -/
def prB (s : ByteArray) : ByteArray := if ctQ s then ctU s else ⟨#[49]⟩
def prS (s : ByteArray) : Bool := pbP (ctT s) && pbB (pbP (ctT s)) (pbT (ctT s))
def prN (s : ByteArray) : List Int := pbL (pbP (ctT s)) (pbT (ctT s))
/-- Whether the text is a fraction's. -/
def prOk (s : ByteArray) : Bool := pbB (pbP (ctT s)) (pbT (ctT s)) && okS (prB s) && okR (prS s) (prN s) (prsL (prB s)) && !(ctQ s && decide (prsL (prB s) = [1]))
def prP (s : ByteArray) : Bool := prOk s && prS s
def prL (s : ByteArray) : List Int := if prOk s then prN s else []
def prM (s : ByteArray) : List Int := if prOk s then prsL (prB s) else []
/-- What is answered when the parts are these. -/
def okP (q S : Bool) (L : List Int) (b1 : Bool) (D : List Int) (b2 : Bool) : Bool := b1 && b2 && okR S L D && !(q && decide (D = [1]))
def PairO (B : Nat) (ok S : Bool) (L D : List Int) (w : World) : Ending → World → Prop := PairR B (ok && S) (if ok then L else []) (if ok then D else []) ok w
theorem PairO.yes {B : Nat} {S : Bool} {L D : List Int} {w : World} : PairO B true S L D w = PairR B S L D true w := by unfold PairO; rfl
theorem pr_out (B : Nat) (s : ByteArray) (w : World) : PairR B (prP s) (prL s) (prM s) (prOk s) w = PairO B (prOk s) (prS s) (prN s) (prsL (prB s)) w := rfl
theorem cut_size (s : ByteArray) : (ctT s).size ≤ s.size ∧ (ctU s).size ≤ s.size := by
  have h0 : s.data.toList.length = s.size := size_list s
  have h1 : (ctT s).size = (Lib.cut s.data.toList [47]).1.length := rfl
  have h2 : (ctU s).size = (Lib.cut s.data.toList [47]).2.1.length := rfl
  rw [h1, h2, ← h0]
  rcases cut_cases s.data.toList with ⟨_, e⟩ | ⟨a, b, _, e, e'⟩
  · rw [e]; exact ⟨Nat.le_refl _, Nat.zero_le _⟩
  · rw [e', e]; simp only [List.length_append, List.length_cons]; omega
theorem one_text : okS ⟨#[49]⟩ = true ∧ prsL ⟨#[49]⟩ = [1] := by
  have h1 : okS ⟨#[49]⟩ = true := okS_yes (by decide) (by decide) (.inl (by decide))
  refine ⟨h1, ?_⟩
  rw [prs_yes h1, show Num.val (ByteArray.mk #[49]).data.toList = 1 by decide]
  unfold nd; rw [ln_pos (by decide), show 1 / 1000000000 = 0 by decide, ln_zero]; decide
theorem impl_comb_s (s T U : ByteArray) (S b1 b2 : Bool) (L D : List Int) (mx : Int) (w : World) (hm : w.cell? ⟨0, 0, none⟩ = some (.int .i64 mx)) (hL : L.length ≤ 1048576) (hM : D.length ≤ 1048576)
    (HC : ∀ W, W.cell? ⟨0, 0, none⟩ = some (.int .i64 mx) → Calls Tryz.prog 21 #[.string s, .string ⟨#[47]⟩] W fun e w' => e = .returned (.tuple #[.string T, .string U, .bool true]) ∧ Below W.heap.size W w')
    (HP : ∀ W, Calls Tryz.prog 49 #[.string T] W (PairB W.heap.size S L b1 W))
    (HN : ∀ W, Calls Tryz.prog 50 #[.string U] W (PairN W.heap.size D b2 W)) :
    Calls Tryz.prog 22 #[.string s] w (PairO w.heap.size (okP true S L b1 D b2) S L D w) := by
  cases b1
  · exact impl_pr_s_n s T U S L D mx w hm b2 HC HP HN
  · cases b2
    · exact impl_pr_s_d s T U S L D mx w hm HC HP HN
    · by_cases h3 : okR S L D = true
      · by_cases h4 : decide (D = [1]) = true
        · rw [show okP true S L true D true = false by unfold okP; rw [h3, h4]; rfl]
          exact impl_pr_s_o s T U S L D mx w hm hL hM h3 h4 HC HP HN
        · have h4' : decide (D = [1]) = false := by simpa using h4
          rw [show okP true S L true D true = true by unfold okP; rw [h3, h4']; rfl, PairO.yes]
          exact impl_pr_s_y s T U S L D mx w hm hL hM h3 h4' HC HP HN
      · have h3' : okR S L D = false := by simpa using h3
        rw [show okP true S L true D true = false by unfold okP; rw [h3']; rfl]
        exact impl_pr_s_r s T U S L D mx w hm hL hM h3' HC HP HN
theorem impl_comb_w (s T U : ByteArray) (S b1 b2 : Bool) (L D : List Int) (mx : Int) (w : World) (hm : w.cell? ⟨0, 0, none⟩ = some (.int .i64 mx)) (hL : L.length ≤ 1048576) (hM : D.length ≤ 1048576)
    (HC : ∀ W, W.cell? ⟨0, 0, none⟩ = some (.int .i64 mx) → Calls Tryz.prog 21 #[.string s, .string ⟨#[47]⟩] W fun e w' => e = .returned (.tuple #[.string T, .string U, .bool false]) ∧ Below W.heap.size W w')
    (HP : ∀ W, Calls Tryz.prog 49 #[.string T] W (PairB W.heap.size S L b1 W))
    (HN : ∀ W, Calls Tryz.prog 50 #[.string ⟨#[49]⟩] W (PairN W.heap.size D b2 W)) :
    Calls Tryz.prog 22 #[.string s] w (PairO w.heap.size (okP false S L b1 D b2) S L D w) := by
  cases b1
  · exact impl_pr_w_n s T U S L D mx w hm b2 HC HP HN
  · cases b2
    · exact impl_pr_w_d s T U S L D mx w hm HC HP HN
    · by_cases h3 : okR S L D = true
      · rw [show okP false S L true D true = true by unfold okP; rw [h3]; rfl, PairO.yes]
        exact impl_pr_w_y s T U S L D mx w hm hL hM h3 HC HP HN
      · have h3' : okR S L D = false := by simpa using h3
        rw [show okP false S L true D true = false by unfold okP; rw [h3']; rfl]
        exact impl_pr_w_r s T U S L D mx w hm hL hM h3' HC HP HN
theorem impl_prat (s : ByteArray) (mx : Int) (w : World) (hs : s.size ≤ 1048576) (hm : w.cell? ⟨0, 0, none⟩ = some (.int .i64 mx)) :
    Calls Tryz.prog 22 #[.string s] w (PairR w.heap.size (prP s) (prL s) (prM s) (prOk s) w) := by
  have hT := (cut_size s).1
  have hU := (cut_size s).2
  have HC := fun W h => cut_any s mx W hs h
  have HP : ∀ W, Calls Tryz.prog 49 #[.string (ctT s)] W (PairB W.heap.size (prS s) (prN s) (pbB (pbP (ctT s)) (pbT (ctT s))) W) := fun W => impl_pb (ctT s) W (by omega)
  have hz : (prB s).size ≤ 1048576 := by
    unfold prB
    split
    · omega
    · exact (by decide : (1 : Nat) ≤ 1048576)
  have HN := fun W => impl_prs (prB s) W hz
  have hL : (prN s).length ≤ 1048576 := pbL_len _ _
  have hM : (prsL (prB s)).length ≤ 1048576 := by have := prsL_len (prB s); omega
  rw [pr_out]
  have ho : prOk s = okP (ctQ s) (prS s) (prN s) (pbB (pbP (ctT s)) (pbT (ctT s))) (prsL (prB s)) (okS (prB s)) := rfl
  rw [ho]
  clear ho
  generalize pbB (pbP (ctT s)) (pbT (ctT s)) = b1 at HP ⊢
  generalize prS s = S at HP ⊢
  generalize prN s = L at HP hL ⊢
  generalize okS (prB s) = b2 at HN ⊢
  generalize prsL (prB s) = D at HN hM ⊢
  by_cases hq : ctQ s = true
  · have hb : prB s = ctU s := by unfold prB; rw [hq]; rfl
    rw [hb] at HN
    rw [hq] at HC ⊢
    exact impl_comb_s s (ctT s) (ctU s) S b1 b2 L D mx w hm hL hM HC HP HN
  · have hq' : ctQ s = false := by simpa using hq
    have hb : prB s = ⟨#[49]⟩ := by unfold prB; rw [hq']; rfl
    rw [hb] at HN
    rw [hq'] at HC ⊢
    exact impl_comb_w s (ctT s) (ctU s) S b1 b2 L D mx w hm hL hM HC HP HN
end Go.Proofs.YtdgfbnnohnaoaaaGreatDoor

