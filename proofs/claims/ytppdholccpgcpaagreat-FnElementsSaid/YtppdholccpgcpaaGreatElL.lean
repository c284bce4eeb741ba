/-
  What the law of local matrices asks of the program's functions, between opaque parts.
-/
import Derived.Test.YtppdholccpgcpaaGreatWp
import Derived.Test.YtppdholccpgcpaaGreatElM
import Derived.Test.YtppdholccpgcpaaGreatPkI
import Derived.Test.YtppdholccpgcpaaGreatTriI
import Derived.Test.YtppdholccpgcpaaGreatLmI
import Derived.Test.YtppdholccpgcpaaGreatRmW
namespace Go.Proofs.YtppdholccpgcpaaGreat
open Go.ChangeShapes Go.WideShapes Go.ChangeAt Go.RowKit
set_option linter.unusedVariables false
set_option linter.unusedSimpArgs false
set_option maxRecDepth 4000
def MadeX (X : Nat → Nat → R3) (w : World) (e : Ending) (w' : World) : Prop := ∃ (M : List SV) (A : Option Addr) (c : Nat), e = .returned (.slice A M.length c) ∧ MatX M X ∧ Rds w' (srowS A M) ∧ Below w.heap.size w w'
theorem MadeRSW.toX {w w' : World} {e : Ending} {F : Nat → Nat → Option Rat} (h : MadeRSW w.heap.size (matF F 3 3) w e w') : MadeX (fun i j => ofO (F i j)) w e w' := by
  obtain ⟨M, A, c, Z, he, hd, hz, ho, _, hb⟩ := h
  exact ⟨M, A, c, he, matX_of hd, rdsW hz ho.rds, hb⟩
theorem MadeX.to {w w' : World} {e : Ending} {X Y : Nat → Nat → R3} (h : MadeX X w e w') (hxy : ∀ i j, i < 3 → j < 3 → X i j = Y i j) : MadeX Y w e w' := by
  obtain ⟨M, A, c, he, hm, ho, hb⟩ := h
  refine ⟨M, A, c, he, ⟨hm.1, fun i p hp => ⟨(hm.2 i p hp).1, fun j q hq => ?_⟩⟩, ho, hb⟩
  rw [(hm.2 i p hp).2 j q hq]
  have h1 := lt_of_getS hp
  have h2 := lt_of_getQ hq
  exact hxy i j (by rw [hm.1] at h1; exact h1) (by rw [(hm.2 i p hp).1] at h2; exact h2)
theorem eq_any (x : R3) (h1 : x.l.length ≤ 24) (h2 : x.m.length ≤ 24) (a b : Ad) (W : World) (h : Rds W (rows x a)) (h' : Rds W (rows x b)) :
    Calls Tryz.prog 20 #[.agg (r3 x a), .agg (r3 x b)] W (fun e w' => e = .returned (.bool true) ∧ Below W.heap.size W w') := by
  have k := impl_req3 x.p x.p x.l x.m x.l x.m a.A a.D b.A b.D _ _ _ _ a.c a.d b.c b.d W rfl rfl rfl rfl (by omega) (by omega) (by omega) (by omega) (rows_rd h).1 (rows_rd h).2 (rows_rd h').1 (rows_rd h').2
  rw [decide_eq_true rfl, decide_eq_true rfl, decide_eq_true rfl] at k
  exact k
theorem add_f {x y z : Rat} (hx : Fit x) (hy : Fit y) (hz : Fit z) (e : x + y = z) (a b : Ad) (W : World) (h : Rds W (rows (ofO (some x)) a)) (h' : Rds W (rows (ofO (some y)) b)) :
    Calls Tryz.prog 21 #[.agg (r3 (ofO (some x)) a), .agg (r3 (ofO (some y)) b)] W (MadeQ W.heap.size (ofO (some z)) W) := by
  have l1 := (fitO_some hx).len
  have l2 := (fitO_some hy).len
  have k := impl_radd (ofO (some x)).p (ofO (some y)).p (ofO (some x)).l (ofO (some x)).m (ofO (some y)).l (ofO (some y)).m a.A a.D b.A b.D _ _ _ _ a.c a.d b.c b.d W rfl rfl rfl rfl (by omega) (by omega) (by omega) (by omega) (rows_rd h).1 (rows_rd h).2 (rows_rd h').1 (rows_rd h').2
  have e1 : valQ (ofO (some x)).p (ofO (some x)).l (ofO (some x)).m = some x := valx_ofO (fitO_some hx)
  have e2 : valQ (ofO (some y)).p (ofO (some y)).l (ofO (some y)).m = some y := valx_ofO (fitO_some hy)
  have e3 : binQ addQ (some x) (some y) = some z := by
    show cutQ (x + y) = some z
    rw [e]; exact cutQ_in hz
  rw [e1, e2, e3] at k
  exact k.mono fun e w' k => MadeR.toQ (x := ofO (some z)) k
theorem len3' {p q r : PV} (h1 : LenP p) (h2 : LenP q) (h3 : LenP r) : ∀ x, x ∈ [p, q, r] → LenP x := fun x hx => by
  simp only [List.mem_cons, List.not_mem_nil, or_false] at hx
  rcases hx with rfl | rfl | rfl <;> assumption
set_option maxHeartbeats 1000000 in
theorem all_elements (p q r : PV) (hp : DdP 3 p) (hq : DdP 3 q) (hr : DdP 3 r) (hpr : properB [p, q, r] = true) : ∃ (KX MX SX : Nat → Nat → R3) (AX : Nat → R3),
    (∀ i, SX i 0 = AX 0) ∧
    (∀ A W, RdS W A (flat [p, q, r]) → Rds W (lrow [p, q, r]) → Calls Tryz.prog 26 #[.slice A 3 3] W (MadeX KX W)) ∧
    (∀ A W, RdS W A (flat [p, q, r]) → Rds W (lrow [p, q, r]) → Calls Tryz.prog 27 #[.slice A 3 3] W (MadeX MX W)) ∧
    (∀ W, Calls Tryz.prog 22 #[.int .i64 0] W (MadeQ W.heap.size (AX 0) W)) ∧
    (∀ i j, i < 3 → j < 3 → ∀ a b W, Rds W (rows (SX i j) a) → Rds W (rows (KX i j) b) → Calls Tryz.prog 21 #[.agg (r3 (SX i j) a), .agg (r3 (KX i j) b)] W (MadeQ W.heap.size (SX i (j + 1)) W)) ∧
    (∀ i j, i < 3 → j < 3 → ∀ a b W, Rds W (rows (AX (3 * i + j)) a) → Rds W (rows (MX i j) b) → Calls Tryz.prog 21 #[.agg (r3 (AX (3 * i + j)) a), .agg (r3 (MX i j) b)] W (MadeQ W.heap.size (AX (3 * i + j + 1)) W)) ∧
    (∀ i j, i < 3 → j < 3 → ∀ a b W, Rds W (rows (KX i j) a) → Rds W (rows (KX j i) b) → Calls Tryz.prog 20 #[.agg (r3 (KX i j) a), .agg (r3 (KX j i) b)] W (fun e w' => e = .returned (.bool true) ∧ Below W.heap.size W w')) ∧
    (∀ i, i < 3 → ∀ a W, Rds W (rows (SX i 3) a) → Calls Tryz.prog 28 #[.agg (r3 (SX i 3) a)] W (fun e w' => e = .returned (.int .i64 0) ∧ Below W.heap.size W w')) ∧
    (∀ i, i < 3 → ∀ a W, Rds W (rows (SX i 3) a) → Calls Tryz.prog 29 #[.agg (r3 (SX i 3) a)] W (fun e w' => e = .returned (.bool true) ∧ Below W.heap.size W w')) ∧
    (∀ A W, RdS W A (flat [p, q, r]) → Rds W (lrow [p, q, r]) → Calls Tryz.prog 30 #[.slice A 3 3] W (MadeQ W.heap.size (AX 9) W)) ∧
    (∀ a b W, Rds W (rows (AX 9) a) → Rds W (rows (AX 9) b) → Calls Tryz.prog 20 #[.agg (r3 (AX 9) a), .agg (r3 (AX 9) b)] W (fun e w' => e = .returned (.bool true) ∧ Below W.heap.size W w')) := by
  have lp := hp.len (by omega)
  have lq := hq.len (by omega)
  have lr := hr.len (by omega)
  obtain ⟨A, gx, gy, lA, pA, eA, lg, sx, sy, eG⟩ := el_grad p q r hp hq hr hpr
  have hK := stiff_at lA eA lg eG
  have hM := mass_at lA eA
  have okK : okF (stiffF [p, q, r]) 3 3 = true := okF_all (fun i j hi hj => (hK i j hi hj).1)
  have okM : okF (massF [p, q, r]) 3 3 = true := okF_all (fun i j _ _ => (hM i j).1)
  have eK : stiffL [p, q, r] = matF (stiffF [p, q, r]) 3 3 := by unfold stiffL fullM; rw [show (gradL [p, q, r]).length = 3 by rw [eG]; rfl, if_pos okK]
  have eM : massL [p, q, r] = matF (massF [p, q, r]) 3 3 := by unfold massL fullM; rw [if_pos okM]
  have hL3 := len3' lp lq lr
  have n3 : ([p, q, r] : List PV).length ≤ 9223372036854775807 := by simp
  have fS : ∀ i j, j ≤ 3 → Fit (sumS A gx gy i j) := fun i j hj => ((sumS_facts lA lg sx sy i).2 j hj).fit (by omega)
  have fA : ∀ t, t ≤ 9 → Fit (sumA A t) := fun t ht => ((sumA_facts lA).2 t ht).fit (by omega)
  have fK : ∀ i j, i < 3 → j < 3 → Fit (stf A gx gy i j) := fun i j hi hj => (hK i j hi hj).2.fit (by omega)
  have fM : ∀ i j, Fit (mst A i j) := fun i j => (hM i j).2.fit (by omega)
  refine ⟨fun i j => ofO (some (stf A gx gy i j)), fun i j => ofO (some (mst A i j)), fun i j => ofO (some (sumS A gx gy i j)), fun t => ofO (some (sumA A t)), fun _ => rfl, ?_, ?_, ?_, ?_, ?_, ?_, ?_, ?_, ?_, ?_⟩
  · intro B W h h'
    have k := impl_localStiffness [p, q, r] B 3 W n3 hL3 h h'
    rw [eK] at k
    exact k.mono fun e w' k => k.toX.to (fun i j hi hj => by rw [(hK i j hi hj).1])
  · intro B W h h'
    have k := impl_localMass [p, q, r] B 3 W n3 hL3 h h'
    rw [eM] at k
    exact k.mono fun e w' k => k.toX.to (fun i j hi hj => by rw [(hM i j).1])
  · intro W
    exact (impl_rfi 0 W (by decide)).mono fun e w' k => MadeR.toQ (x := ofO (some 0)) k
  · intro i j hi hj a b W h h'
    exact add_f (fS i j (by omega)) (fK i j hi hj) (fS i (j + 1) (by omega)) rfl a b W h h'
  · intro i j hi hj a b W h h'
    exact add_f (fA (3 * i + j) (by omega)) (fM i j) (fA (3 * i + j + 1) (by omega)) (by show _ = sumA A (3 * i + j) + mst A ((3 * i + j) / 3) ((3 * i + j) % 3); rw [show (3 * i + j) / 3 = i by omega, show (3 * i + j) % 3 = j by omega]) a b W h h'
  · intro i j hi hj a b W h h'
    have e : stf A gx gy j i = stf A gx gy i j := by unfold stf; grind
    dsimp only at h' ⊢
    rw [e] at h' ⊢
    have l := (fitO_some (fK i j hi hj)).len
    exact eq_any _ l.1 l.2 a b W h h'
  · intro i hi a W h
    have l := (fitO_some (fS i 3 (by omega))).len
    have k := impl_rsign (ofO (some (sumS A gx gy i 3))).p (ofO (some (sumS A gx gy i 3))).l (ofO (some (sumS A gx gy i 3))).m a.A a.D _ _ a.c a.d W rfl rfl (by omega) (by omega) (rows_rd h).1 (rows_rd h).2
    rw [show valQ (ofO (some (sumS A gx gy i 3))).p (ofO (some (sumS A gx gy i 3))).l (ofO (some (sumS A gx gy i 3))).m = some (sumS A gx gy i 3) from valx_ofO (fitO_some (fS i 3 (by omega))), (sumS_facts lA lg sx sy i).1, sgn_zero] at k
    dsimp only
    rw [(sumS_facts lA lg sx sy i).1]
    exact k
  · intro i hi a W h
    have l := (fitO_some (fS i 3 (by omega))).len
    have k := impl_rok (ofO (some (sumS A gx gy i 3))).p (ofO (some (sumS A gx gy i 3))).l (ofO (some (sumS A gx gy i 3))).m a.A a.D _ a.c _ a.d W rfl rfl (by omega) (by omega) (rows_rd h).1 (rows_rd h).2
    rw [show okR (ofO (some (sumS A gx gy i 3))).p (ofO (some (sumS A gx gy i 3))).l (ofO (some (sumS A gx gy i 3))).m = true from okx_ofO (fitO_some (fS i 3 (by omega)))] at k
    exact k
  · intro B W h h'
    have k := impl_areaOf [p, q, r] B 3 W n3 hL3 h h'
    rw [show halfA [p, q, r] = some (sumA A 9) by rw [(sumA_facts lA).1]; exact eA] at k
    exact k
  · intro a b W h h'
    have l := (fitO_some (fA 9 (by omega))).len
    exact eq_any _ l.1 l.2 a b W h h'
end Go.Proofs.YtppdholccpgcpaaGreat
