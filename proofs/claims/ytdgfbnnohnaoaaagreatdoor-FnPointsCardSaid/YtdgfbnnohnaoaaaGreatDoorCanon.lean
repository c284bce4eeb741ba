/-
  A decimal text without zeros ahead is the one that is printed for its value; what is printed bears no slash. Plain mathematics.
-/
import Derived.Test.YtdgfbnnohnaoaaaGreatDoorRound
import Derived.Test.YtdgfbnnohnaoaaaGreatDoorDkF
import Derived.Test.YtdgfbnnohnaoaaaGreatDoorPBig
namespace Go.Proofs.YtdgfbnnohnaoaaaGreatDoor
open Go.ChangeShapes Go.WideShapes Go.ChangeAt Go.RowKit
open Go.ChangeMaps (open_string shut_string)
set_option linter.unusedVariables false
set_option linter.unusedSimpArgs false
set_option maxRecDepth 4000

theorem getD_append_left' {l m : List UInt8} (h : 0 < l.length) : (l ++ m).getD 0 0 = l.getD 0 0 := by
  cases l with
  | nil => simp at h
  | cons a r => rfl
theorem dig_back {c : UInt8} (h : Num.IsDig c) : UInt8.ofNat (48 + (c.toNat - 48)) = c := by
  have h1 : 48 ≤ c.toNat ∧ c.toNat ≤ 57 := h
  rw [show 48 + (c.toNat - 48) = c.toNat by omega]
  exact UInt8.ofNat_toNat
/-- Digits without a zero ahead are the digits of their value. -/
theorem canon_dec : ∀ (n : Nat) (l : List UInt8), l.length = n → l ≠ [] → (∀ c ∈ l, Num.IsDig c) → (l.length ≤ 1 ∨ l.getD 0 0 ≠ 48) → Lib.decDigits (Num.val l) = l
  | 0, l, hl, hne, _, _ => absurd (List.eq_nil_of_length_eq_zero hl) hne
  | n + 1, l, hl, hne, hd, hz => by
    obtain ⟨r, c, rfl⟩ : ∃ r c, l = r ++ [c] := ⟨l.dropLast, l.getLast hne, (List.dropLast_concat_getLast hne).symm⟩
    have hc : Num.IsDig c := hd c (by simp)
    have hc' : 48 ≤ c.toNat ∧ c.toNat ≤ 57 := hc
    rw [Num.val_snoc]
    by_cases hr : r = []
    · subst hr
      have : Num.val [] = 0 := rfl
      rw [this, Nat.zero_mul, Nat.zero_add, Num.dec_small (by omega), dig_back hc]
      rfl
    · have hrl : 0 < r.length := by cases r with | nil => exact absurd rfl hr | cons _ _ => simp
      have hz' : r.getD 0 0 ≠ 48 := by
        rcases hz with h | h
        · rw [List.length_append] at h; simp only [List.length_cons, List.length_nil] at h; omega
        · rwa [getD_append_left' hrl] at h
      have ih := canon_dec n r (by simpa using hl) hr (fun x hx => hd x (by simp [hx])) (.inr hz')
      have hv : 0 < Num.val r := by
        rcases Nat.eq_zero_or_pos (Num.val r) with h | h
        · rw [h, Num.dec_small (by decide)] at ih
          rw [← ih] at hz'
          exact absurd rfl hz'
        · exact h
      rw [Num.dec_big (by omega), show (Num.val r * 10 + (c.toNat - 48)) / 10 = Num.val r by omega, show (Num.val r * 10 + (c.toNat - 48)) % 10 = c.toNat - 48 by omega, ih, dig_back hc]
theorem fmtN_dec {a : Nat} (h60 : ln a ≤ 60) : fmtN a = Lib.decDigits a := by
  by_cases h0 : a = 0
  · subst h0
    rw [Num.dec_small (by decide)]; unfold fmtN; rw [if_pos rfl]; rfl
  · have e : fmtN a = ftx a (ln a) (ln a - 1) := by unfold fmtN; rw [if_neg h0]
    have hn0 : 0 < ln a := by rcases Nat.eq_zero_or_pos (ln a) with h | h; (exact absurd (ln_eq_zero.1 h) h0); exact h
    have hd := top_ne (show 0 < a by omega)
    have hv := ftx_val rfl hn0 (ln a - 1) (Nat.le_refl _)
    rw [Nat.sub_self, div_zero] at hv
    have hval : Num.val (fmtN a) = a := by rw [e]; omega
    have hdg : ∀ c ∈ fmtN a, Num.IsDig c := by rw [e]; exact ftx_digs _ _ _
    have hne : fmtN a ≠ [] := by
      intro h
      rw [h] at hval
      have : Num.val [] = 0 := rfl
      omega
    have hhead : (fmtN a).getD 0 0 ≠ 48 := by rw [e]; exact ftx_head hd _
    have := canon_dec _ (fmtN a) rfl hne hdg (.inr hhead)
    rw [hval] at this
    exact this.symm
/-- A natural number's text is the one that is printed for it. -/
theorem canon_nat {T : ByteArray} (h : okS T = true) : fmtL (prsL T) = T.data.toList := by
  have h0 := h
  unfold okS at h0
  simp only [Bool.and_eq_true, Bool.or_eq_true, decide_eq_true_eq] at h0
  obtain ⟨⟨hd, hs⟩, hz⟩ := h0
  obtain ⟨hdg, hpos⟩ := digs_isdig hd
  have hlen : T.data.toList.length = T.size := by simp
  have hln : ln (Num.val T.data.toList) ≤ 60 := val_ln hdg (by omega)
  rw [prs_yes h]
  unfold fmtL
  rw [nd_ok hln, if_pos rfl, val_nd, fmtN_dec hln]
  refine canon_dec _ _ rfl (fun e => by rw [e] at hlen; simp at hlen; omega) hdg ?_
  rcases hz with h1 | h1
  · exact .inl (by omega)
  · exact .inr h1
theorem dig_no {c : UInt8} (h : Num.IsDig c) : c ≠ 47 := by
  rintro rfl
  have h1 : 48 ≤ (47 : UInt8).toNat ∧ (47 : UInt8).toNat ≤ 57 := h
  exact absurd h1.1 (by decide)
theorem fmtL_slash (l : List Int) : ∀ c ∈ fmtL l, c ≠ 47 := by
  unfold fmtL
  split
  · rename_i h
    obtain ⟨v, rfl, hv⟩ := ok_nd h
    rw [val_nd, fmtN_dec hv]
    exact fun c hc => dig_no (Num.dec_digs _ c hc)
  · intro c hc; cases hc
theorem fmtB_slash (p : Bool) (l : List Int) : ∀ c ∈ fmtB p l, c ≠ 47 := by
  unfold fmtB
  split
  · split
    · intro c hc
      rcases List.mem_cons.1 hc with e | e
      · rw [e]; decide
      · exact fmtL_slash l c e
    · exact fmtL_slash l
  · intro c hc; cases hc
/-- The text ahead of the first slash, the text behind it up to the next, and whether there is one more. -/
theorem pre_list (l : List UInt8) : (Lib.hasPrefix l [45] = true ∧ l = 45 :: Lib.trimPrefix l [45]) ∨ (Lib.hasPrefix l [45] = false ∧ Lib.trimPrefix l [45] = l) := by
  cases l with
  | nil => right; exact ⟨rfl, rfl⟩
  | cons c r =>
    by_cases h : c = 45
    · subst h
      left
      exact ⟨rfl, rfl⟩
    · right
      have e : Lib.hasPrefix (c :: r) [45] = false := by
        unfold Lib.hasPrefix
        simp [List.isPrefixOf]
        exact fun e => h e.symm
      refine ⟨e, ?_⟩
      unfold Lib.trimPrefix
      rw [e]
      rfl
/-- A big integer's text is the one that is printed for it. -/
theorem canon_big {s : ByteArray} (h : pbB (pbP s) (pbT s) = true) : fmtB (pbP s) (pbL (pbP s) (pbT s)) = s.data.toList := by
  rw [pb_yes h]
  unfold pbB at h
  rw [Bool.and_eq_true] at h
  obtain ⟨h1, h2⟩ := h
  have hc := canon_nat h1
  have hk : okB (pbP s) (prsL (pbT s)) = true := by
    unfold okB
    rw [prsL_ok h1, h2]
    rfl
  rw [fmtB_yes hk, hc]
  have hT : (pbT s).data.toList = Lib.trimPrefix s.data.toList [45] := by unfold pbT; simp
  rw [hT]
  unfold pbP
  rcases pre_list s.data.toList with ⟨a, b⟩ | ⟨a, b⟩
  · rw [a, if_pos rfl]; exact b.symm
  · rw [a, if_neg (by decide), b]
end Go.Proofs.YtdgfbnnohnaoaaaGreatDoor

