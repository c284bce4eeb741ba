/-
  A big integer is read back from its text: plain mathematics.
-/
import Derived.Test.YtdgfbnnohnaoaaaGreatDoorRound
import Derived.Test.YtdgfbnnohnaoaaaGreatDoorDkE
import Derived.Test.YtdgfbnnohnaoaaaGreatDoorPBig
namespace Go.Proofs.YtdgfbnnohnaoaaaGreatDoor
open Go.ChangeShapes Go.WideShapes Go.ChangeAt Go.RowKit
open Go.ChangeMaps (open_string shut_string)
set_option linter.unusedVariables false
set_option linter.unusedSimpArgs false
set_option maxRecDepth 4000

theorem fmtL_zm {z : Int} (h60 : ln z.natAbs ≤ 60) : fmtL (zm z) = fmtN z.natAbs := by
  unfold fmtL zm
  rw [nd_ok h60, val_nd]
  rfl
theorem no_minus {s : ByteArray} (h : okS s = true) : pbP s = false ∧ pbT s = s := by
  have hd : digs s = true := by
    unfold okS at h
    rw [Bool.and_eq_true, Bool.and_eq_true] at h
    exact h.1.1
  obtain ⟨h1, h2⟩ := digs_isdig hd
  rcases minus_cases s with ⟨h3, hf, _, _⟩ | ⟨_, hp, hT⟩
  · exfalso
    have h0 := getD0 h3
    cases e : s.data.toList with
    | nil => rw [← size_list, e] at h3; simp at h3
    | cons x t =>
      have hx := h1 x (by rw [e]; simp)
      rw [e] at h0
      have h0' : x = s[0]'h3 := h0
      rw [← h0'] at hf
      unfold Num.IsDig at hx
      omega
  · exact ⟨hp, hT⟩
theorem round_big {z : Int} (h60 : ln z.natAbs ≤ 60) {s : ByteArray} (hs : s = ⟨(fmtB (zn z) (zm z)).toArray⟩) : pbP s = zn z ∧ pbB (pbP s) (pbT s) = true ∧ pbL (pbP s) (pbT s) = zm z := by
  obtain ⟨r1, r2⟩ := round_nat (a := z.natAbs) h60
  rw [fmtB_yes (okB_mk h60), fmtL_zm h60] at hs
  by_cases hz : z < 0
  · have hn : zn z = true := by unfold zn; exact decide_eq_true hz
    rw [hn] at hs ⊢
    have hp : pbP s = true := by rw [hs]; simp [pbP, Lib.hasPrefix]
    have hT : pbT s = ⟨(fmtN z.natAbs).toArray⟩ := by rw [hs]; simp [pbT, Lib.trimPrefix, Lib.hasPrefix]
    have hne : nd z.natAbs ≠ [] := by intro h; have := nd_nil_iff.1 h; omega
    have hb : pbB (pbP s) (pbT s) = true := by
      rw [hp, hT]
      unfold pbB
      rw [r1, r2, decide_eq_false hne]
      rfl
    refine ⟨hp, hb, ?_⟩
    rw [pb_yes hb, hT, r2]
    rfl
  · have hn : zn z = false := by unfold zn; exact decide_eq_false hz
    rw [hn] at hs ⊢
    have hs' : s = ⟨(fmtN z.natAbs).toArray⟩ := hs
    rw [← hs'] at r1 r2
    obtain ⟨hp, hT⟩ := no_minus r1
    have hb : pbB (pbP s) (pbT s) = true := by
      rw [hp, hT]
      unfold pbB
      rw [r1]
      rfl
    refine ⟨hp, hb, ?_⟩
    rw [pb_yes hb, hT, r2]
    rfl
end Go.Proofs.YtdgfbnnohnaoaaaGreatDoor

