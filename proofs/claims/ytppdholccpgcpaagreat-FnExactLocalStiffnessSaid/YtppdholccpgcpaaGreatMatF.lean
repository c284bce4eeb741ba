/-
  Rows of values that a function gives: words for matrices of a few rows.
-/
import Derived.Test.YtppdholccpgcpaaGreatWp
import Derived.Test.YtppdholccpgcpaaGreatRm
namespace Go.Proofs.YtppdholccpgcpaaGreat
open Go.ChangeShapes Go.WideShapes Go.ChangeAt Go.RowKit
set_option linter.unusedVariables false
set_option linter.unusedSimpArgs false
set_option maxRecDepth 4000
def rowF (f : Nat → Option Rat) (n : Nat) : List RV := (List.range n).map (fun k => ⟨ofO (f k), noA⟩)
def matF (f : Nat → Nat → Option Rat) (m n : Nat) : List SV := (List.range m).map (fun i => ⟨rowF (f i) n, none, 0⟩)
def okF (f : Nat → Nat → Option Rat) (m n : Nat) : Bool := (List.range m).all (fun i => (List.range n).all (fun k => (f i k).isSome))
def fullM (f : Nat → Nat → Option Rat) (m n : Nat) : List SV := if okF f m n = true then matF f m n else []
def fullB (R : List SV) : Bool := R.all (fun p => validB p.L)
theorem fullB_at {R : List SV} (h : fullB R = true) {i : Nat} {p : SV} (hp : R[i]? = some p) : validB p.L = true := List.all_eq_true.1 h p (List.mem_of_getElem? hp)
theorem fullB_take {R : List SV} {j : Nat} {p : SV} (hp : R[j]? = some p) (h : fullB (R.take j) = true) : fullB (R.take (j + 1)) = validB p.L := by
  unfold fullB at h ⊢
  rw [take_succS hp, List.all_append, h]; simp
def LenS (p : SV) : Prop := p.L.length ≤ 9223372036854775807 ∧ ∀ x, x ∈ p.L → LenQ x
theorem rowF_len (f : Nat → Option Rat) (n : Nat) : (rowF f n).length = n := by simp [rowF]
theorem matF_len (f : Nat → Nat → Option Rat) (m n : Nat) : (matF f m n).length = m := by simp [matF]
theorem rowF_succ (f : Nat → Option Rat) (n : Nat) : rowF f (n + 1) = rowF f n ++ [⟨ofO (f n), noA⟩] := by simp [rowF, List.range_succ]
theorem matF_succ (f : Nat → Nat → Option Rat) (m n : Nat) : matF f (m + 1) n = matF f m n ++ [⟨rowF (f m) n, none, 0⟩] := by simp [matF, List.range_succ]
theorem datS_app (R T : List SV) : datS (R ++ T) = datS R ++ datS T := by simp [datS]
theorem rowF_put {f : Nat → Option Rat} {n : Nat} {M : List RV} (h : datQ M = datQ (rowF f n)) (q : RV) (hq : q.x = ofO (f n)) : datQ (M ++ [q]) = datQ (rowF f (n + 1)) := by
  rw [rowF_succ, datQ_app, datQ_app, h]
  show _ ++ [q.x] = _ ++ [ofO (f n)]
  rw [hq]
theorem matF_put {f : Nat → Nat → Option Rat} {m n : Nat} {R : List SV} (h : datS R = datS (matF f m n)) (q : SV) (hq : datQ q.L = datQ (rowF (f m) n)) : datS (R ++ [q]) = datS (matF f (m + 1) n) := by
  rw [matF_succ, datS_app, datS_app, h]
  show _ ++ [datQ q.L] = _ ++ [datQ (rowF (f m) n)]
  rw [hq]
theorem validB_rowF {f : Nat → Option Rat} (hf : ∀ k, FitO (f k)) (n : Nat) : validB (rowF f n) = (List.range n).all (fun k => (f k).isSome) := by
  unfold validB rowF
  rw [List.all_map]
  congr 1
  funext k
  exact okx_ofO (hf k)
theorem fullB_dat {R T : List SV} (h : datS T = datS R) : fullB T = fullB R := by
  have e : ∀ K : List SV, fullB K = (datS K).all (fun l => l.all okx) := fun K => by
    unfold fullB datS
    rw [List.all_map]
    congr 1
    funext p
    show validB p.L = (datQ p.L).all okx
    unfold validB datQ
    rw [List.all_map]; rfl
  rw [e, e, h]
theorem fullB_matF {f : Nat → Nat → Option Rat} (hf : ∀ i k, FitO (f i k)) (m n : Nat) : fullB (matF f m n) = okF f m n := by
  unfold fullB matF okF
  rw [List.all_map]
  congr 1
  funext i
  exact validB_rowF (hf i) n
theorem rowF_mem {f : Nat → Option Rat} (hf : ∀ k, FitO (f k)) {n : Nat} {p : RV} (h : p ∈ rowF f n) : p.x.l.length ≤ 24 ∧ p.x.m.length ≤ 24 := by
  unfold rowF at h
  obtain ⟨k, _, rfl⟩ := List.mem_map.1 h
  exact (hf k).len
theorem rowF_sz {f : Nat → Option Rat} (hf : ∀ k, FitO (f k)) (n : Nat) : szqs (rowF f n) ≤ 48 * (n : Int) := by
  induction n with
  | zero => exact Int.le_refl _
  | succ n ih =>
    have h := (hf n).len
    rw [rowF_succ, szqs_app]
    have e : szqs [⟨ofO (f n), noA⟩] = ((ofO (f n)).l.length : Int) + ((ofO (f n)).m.length : Int) := by simp [szqs, szq, szx]
    rw [e]
    omega
theorem matF_sz {f : Nat → Nat → Option Rat} (hf : ∀ i k, FitO (f i k)) (m n : Nat) (hm : m ≤ 3) (hn : n ≤ 3) : szm2 (matF f m n) ≤ 147 * (m : Int) := by
  induction m with
  | zero => exact Int.le_refl _
  | succ m ih =>
    have h := rowF_sz (hf m) n
    have := ih (by omega)
    rw [matF_succ, szm2_app]
    have e : szm2 [⟨rowF (f m) n, none, 0⟩] = (n : Int) + szqs (rowF (f m) n) := by simp [szm2, rowF_len]
    rw [e]
    omega
theorem fullM_size {f : Nat → Nat → Option Rat} (hf : ∀ i k, FitO (f i k)) (m n : Nat) (hm : m ≤ 3) (hn : n ≤ 3) : szm2 (fullM f m n) ≤ 1048576 ∧ ((fullM f m n).length ≤ 1048576 ∧ ∀ p, p ∈ (fullM f m n) → ShortS p) := by
  unfold fullM
  split
  · refine ⟨by have := matF_sz hf m n hm hn; omega, by rw [matF_len]; omega, fun p hp => ?_⟩
    unfold matF at hp
    obtain ⟨i, _, rfl⟩ := List.mem_map.1 hp
    exact ⟨by show (rowF (f i) n).length ≤ _; rw [rowF_len]; omega, fun x hx => by have := rowF_mem (hf i) hx; exact ⟨by omega, by omega⟩⟩
  · exact ⟨by show (0 : Int) ≤ _; omega, by simp, fun p hp => by cases hp⟩
theorem fullM_ext {f g : Nat → Nat → Option Rat} {m n : Nat} (h : ∀ i k, i < m → k < n → f i k = g i k) : fullM f m n = fullM g m n := by
  have e1 : matF f m n = matF g m n := by
    unfold matF
    refine List.map_congr_left fun i hi => ?_
    have : rowF (f i) n = rowF (g i) n := List.map_congr_left fun k hk => by rw [h i k (List.mem_range.1 hi) (List.mem_range.1 hk)]
    rw [this]
  have e2 : okF f m n = okF g m n := by
    unfold okF
    rw [Bool.eq_iff_iff]
    simp only [List.all_eq_true, List.mem_range]
    constructor
    · intro hh i hi k hk; rw [← h i k hi hk]; exact hh i hi k hk
    · intro hh i hi k hk; rw [h i k hi hk]; exact hh i hi k hk
  unfold fullM
  rw [e1, e2]
end Go.Proofs.YtppdholccpgcpaaGreat
