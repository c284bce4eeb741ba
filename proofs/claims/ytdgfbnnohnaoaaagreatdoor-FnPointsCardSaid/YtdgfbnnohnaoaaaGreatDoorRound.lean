/-
  A natural number is read back from its text: plain mathematics.
-/
import Derived.Test.YtdgfbnnohnaoaaaGreatDoorDkC
import Derived.Test.YtdgfbnnohnaoaaaGreatDoorPNatL
namespace Go.Proofs.YtdgfbnnohnaoaaaGreatDoor
open Go.ChangeShapes Go.WideShapes Go.ChangeAt Go.RowKit
open Go.ChangeMaps (open_string shut_string)
set_option linter.unusedVariables false
set_option linter.unusedSimpArgs false
set_option maxRecDepth 4000

theorem val_zeros : ∀ k, Num.val (List.replicate k 48) = 0
  | 0 => rfl
  | k + 1 => by
    rw [List.replicate_succ', Num.val_snoc, val_zeros k]
    rfl
theorem pad9_val {l : List UInt8} (h : l.length ≤ 9) : Num.val (padL l 9) = Num.val l := by
  rw [padL_long (by decide), val_append, val_zeros, Nat.zero_mul, Nat.zero_add]
theorem dpart_dec (a j : Nat) : dpart a j = Lib.decDigits (dgt a j).toNat := by
  have h0 := dgt_nonneg a j
  unfold dpart
  rw [Lib.itoa, if_neg (by omega)]
theorem dpart_val (a j : Nat) : (Num.val (dpart a j) : Int) = dgt a j := by
  have h0 := dgt_nonneg a j
  rw [dpart_dec, Num.val_dec]
  omega
theorem dpart_digs (a j : Nat) : ∀ c ∈ dpart a j, Num.IsDig c := by rw [dpart_dec]; exact Num.dec_digs _
theorem pad9_digs {l : List UInt8} (h : ∀ c ∈ l, Num.IsDig c) : ∀ c ∈ padL l 9, Num.IsDig c := by
  rw [padL_long (by decide)]
  intro c hc
  rw [List.mem_append] at hc
  rcases hc with hc | hc
  · have := (List.mem_replicate.1 hc).2
    subst this
    exact ⟨by decide, by decide⟩
  · exact h c hc
theorem ftx_digs (a n : Nat) : ∀ t, ∀ c ∈ ftx a n t, Num.IsDig c
  | 0 => dpart_digs _ _
  | t + 1 => by
    intro c hc
    rw [ftx, List.mem_append] at hc
    rcases hc with hc | hc
    · exact ftx_digs a n t c hc
    · exact pad9_digs (dpart_digs _ _) c hc
theorem ftx_val {a n : Nat} (hn : ln a = n) (h0 : 0 < n) : ∀ t, t ≤ n - 1 → (Num.val (ftx a n t) : Int) = (a : Int) / pw (n - 1 - t)
  | 0, _ => by
    have h1 : (a : Int) < pw n := by have := ln_lt a; rwa [hn] at this
    rw [ftx, dpart_val, Nat.sub_zero]
    have h2 := div_split (a : Int) (n - 1)
    rw [show n - 1 + 1 = n by omega, div_small (by omega) h1, Int.zero_mul, Int.zero_add] at h2
    exact h2.symm
  | t + 1, ht => by
    have ih := ftx_val hn h0 t (by omega)
    have hl := dpart_len a (n - 2 - t)
    rw [ftx, val_append, pad9_len hl, pad9_val hl, Int.natCast_add, Int.natCast_mul, ih, dpart_val]
    have h2 := div_split (a : Int) (n - 2 - t)
    rw [show n - 2 - t + 1 = n - 1 - t by omega] at h2
    rw [show n - 1 - (t + 1) = n - 2 - t by omega, h2]
    rfl
theorem dec_head : ∀ u : Nat, 0 < u → (Lib.decDigits u).getD 0 0 ≠ 48 := by
  intro u
  induction u using Nat.strongRecOn with
  | ind u ih =>
    intro h0
    by_cases h : u < 10
    · rw [Num.dec_small h]
      intro e
      have e' : UInt8.ofNat (48 + u) = 48 := e
      have e2 := congrArg UInt8.toNat e'
      rw [Num.dig_toNat h] at e2
      have : (48 : UInt8).toNat = 48 := rfl
      omega
    · rw [Num.dec_big h]
      have h1 := ih (u / 10) (by omega) (by omega)
      have hne := Num.dec_ne (u / 10)
      cases hd : Lib.decDigits (u / 10) with
      | nil => exact absurd hd hne
      | cons x t =>
        rw [hd] at h1
        exact h1
theorem ftx_head {a n : Nat} (hd : dgt a (n - 1) ≠ 0) : ∀ t, (ftx a n t).getD 0 0 ≠ 48
  | 0 => by
    rw [ftx, dpart_dec]
    have := dgt_nonneg a (n - 1)
    exact dec_head _ (by omega)
  | t + 1 => by
    have ih := ftx_head hd t
    rw [ftx]
    cases h : ftx a n t with
    | nil =>
      exfalso
      have hl : ∀ t, ftx a n t ≠ [] := fun t => by
        cases t with
        | zero => rw [ftx, dpart_dec]; exact Num.dec_ne _
        | succ t => rw [ftx]; intro e; have := List.append_eq_nil_iff.1 e; have h2 := pad9_len (dpart_len a (n - 2 - t)); rw [this.2] at h2; simp at h2
      exact hl t h
    | cons x r =>
      rw [h] at ih
      exact ih
theorem digs_of {l : List UInt8} (h : ∀ c ∈ l, Num.IsDig c) (h0 : l ≠ []) : digs ⟨l.toArray⟩ = true := by
  unfold digs
  rw [Bool.and_eq_true, decide_eq_true_eq, List.all_eq_true]
  refine ⟨?_, fun c hc => ?_⟩
  · have : 0 < l.length := by cases l with | nil => exact absurd rfl h0 | cons _ _ => simp
    simpa [ByteArray.size] using this
  · have := h c hc
    simp only [Bool.and_eq_true, decide_eq_true_eq]
    unfold Num.IsDig at this
    omega
theorem round_nat {a : Nat} (h60 : ln a ≤ 60) : okS ⟨(fmtN a).toArray⟩ = true ∧ prsL ⟨(fmtN a).toArray⟩ = nd a := by
  by_cases h0 : a = 0
  · subst h0
    have e : fmtN 0 = [48] := by unfold fmtN; rw [if_pos rfl]
    rw [e]
    have ho : okS ⟨[48].toArray⟩ = true := by decide
    refine ⟨ho, ?_⟩
    rw [prs_yes ho]
    have : Num.val (ByteArray.mk [48].toArray).data.toList = 0 := by decide
    rw [this]
  · have e : fmtN a = ftx a (ln a) (ln a - 1) := by unfold fmtN; rw [if_neg h0]
    have hn0 : 0 < ln a := by rcases Nat.eq_zero_or_pos (ln a) with h | h; (exact absurd (ln_eq_zero.1 h) h0); exact h
    have hd := top_ne (show 0 < a by omega)
    have hv := ftx_val rfl hn0 (ln a - 1) (Nat.le_refl _)
    rw [Nat.sub_self, div_zero] at hv
    have hval : Num.val (fmtN a) = a := by rw [e]; omega
    have hdg : ∀ c ∈ fmtN a, Num.IsDig c := by rw [e]; exact ftx_digs _ _ _
    have hne : fmtN a ≠ [] := by
      intro h
      rw [h] at hval
      have : Num.val [] = 0 := rfl
      omega
    have hlen : (fmtN a).length ≤ 540 := by rw [e]; have := ftx_len a (ln a) (ln a - 1); omega
    have hhead : (fmtN a).getD 0 0 ≠ 48 := by rw [e]; exact ftx_head hd _
    have ho : okS ⟨(fmtN a).toArray⟩ = true := okS_yes (digs_of hdg hne) (by simpa [ByteArray.size] using hlen) (.inr hhead)
    refine ⟨ho, ?_⟩
    rw [prs_yes ho]
    show nd (Num.val (fmtN a)) = nd a
    rw [hval]
end Go.Proofs.YtdgfbnnohnaoaaaGreatDoor

