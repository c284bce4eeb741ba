/-
  Does a side of a triangle have another one outside? Do two triangles overlap?
-/
import Derived.Test.YtaohiacpdljacaaGreatTriR
import Derived.Test.YtaohiacpdljacaaGreatTriW0
import Derived.Test.YtaohiacpdljacaaGreatTriW1
import Derived.Test.YtaohiacpdljacaaGreatTriW2
namespace Go.Proofs.YtaohiacpdljacaaGreat
set_option maxHeartbeats 4000000
open Go.ChangeShapes Go.WideShapes Go.ChangeAt Go.RowKit
set_option linter.unusedVariables false
set_option linter.unusedSimpArgs false
set_option maxRecDepth 4000
attribute [local go_sem ↓] Go.wp_at_zero Go.wp_at_succ
theorem separates_any (p q r u v s : PV) (w : World) (h : TriOk w p q r) (h' : TriOk w u v s) :
    Calls Tryz.prog 80 #[.agg #[.bool p.x.p, .slice p.a.A p.x.l.length p.a.c, .slice p.a.D p.x.m.length p.a.d, .bool p.y.p, .slice p.b.A p.y.l.length p.b.c, .slice p.b.D p.y.m.length p.b.d, .bool q.x.p, .slice q.a.A q.x.l.length q.a.c, .slice q.a.D q.x.m.length q.a.d, .bool q.y.p, .slice q.b.A q.y.l.length q.b.c, .slice q.b.D q.y.m.length q.b.d, .bool r.x.p, .slice r.a.A r.x.l.length r.a.c, .slice r.a.D r.x.m.length r.a.d, .bool r.y.p, .slice r.b.A r.y.l.length r.b.c, .slice r.b.D r.y.m.length r.b.d], .agg #[.bool u.x.p, .slice u.a.A u.x.l.length u.a.c, .slice u.a.D u.x.m.length u.a.d, .bool u.y.p, .slice u.b.A u.y.l.length u.b.c, .slice u.b.D u.y.m.length u.b.d, .bool v.x.p, .slice v.a.A v.x.l.length v.a.c, .slice v.a.D v.x.m.length v.a.d, .bool v.y.p, .slice v.b.A v.y.l.length v.b.c, .slice v.b.D v.y.m.length v.b.d, .bool s.x.p, .slice s.a.A s.x.l.length s.a.c, .slice s.a.D s.x.m.length s.a.d, .bool s.y.p, .slice s.b.A s.y.l.length s.b.c, .slice s.b.D s.y.m.length s.b.d]] w (fun e w' => e = .returned (.bool (sepB p q r u v s)) ∧ Below w.heap.size w w') := by
  have HR_0 : Hid (∀ W, Below w.heap.size w W → Calls Tryz.prog 121 #[.agg #[.bool p.x.p, .slice p.a.A p.x.l.length p.a.c, .slice p.a.D p.x.m.length p.a.d, .bool p.y.p, .slice p.b.A p.y.l.length p.b.c, .slice p.b.D p.y.m.length p.b.d, .bool q.x.p, .slice q.a.A q.x.l.length q.a.c, .slice q.a.D q.x.m.length q.a.d, .bool q.y.p, .slice q.b.A q.y.l.length q.b.c, .slice q.b.D q.y.m.length q.b.d, .bool r.x.p, .slice r.a.A r.x.l.length r.a.c, .slice r.a.D r.x.m.length r.a.d, .bool r.y.p, .slice r.b.A r.y.l.length r.b.c, .slice r.b.D r.y.m.length r.b.d], .int .i64 0, .agg #[.bool u.x.p, .slice u.a.A u.x.l.length u.a.c, .slice u.a.D u.x.m.length u.a.d, .bool u.y.p, .slice u.b.A u.y.l.length u.b.c, .slice u.b.D u.y.m.length u.b.d, .bool v.x.p, .slice v.a.A v.x.l.length v.a.c, .slice v.a.D v.x.m.length v.a.d, .bool v.y.p, .slice v.b.A v.y.l.length v.b.c, .slice v.b.D v.y.m.length v.b.d, .bool s.x.p, .slice s.a.A s.x.l.length s.a.c, .slice s.a.D s.x.m.length s.a.d, .bool s.y.p, .slice s.b.A s.y.l.length s.b.c, .slice s.b.D s.y.m.length s.b.d]] W (fun e w' => e = .returned (.bool (reachB p q u v s)) ∧ Below W.heap.size W w')) := Lib.hid (fun W hB => reaches_any 0 p q p q r u v s W (h.below hB) (h'.below hB) (fun x W h1 h2 h3 => isEnd_0 p q r x W h1 h2 h3) (fun x W h1 h2 h3 => inward_0 p q r x W h1 h2 h3))
  have HR_1 : Hid (∀ W, Below w.heap.size w W → Calls Tryz.prog 121 #[.agg #[.bool p.x.p, .slice p.a.A p.x.l.length p.a.c, .slice p.a.D p.x.m.length p.a.d, .bool p.y.p, .slice p.b.A p.y.l.length p.b.c, .slice p.b.D p.y.m.length p.b.d, .bool q.x.p, .slice q.a.A q.x.l.length q.a.c, .slice q.a.D q.x.m.length q.a.d, .bool q.y.p, .slice q.b.A q.y.l.length q.b.c, .slice q.b.D q.y.m.length q.b.d, .bool r.x.p, .slice r.a.A r.x.l.length r.a.c, .slice r.a.D r.x.m.length r.a.d, .bool r.y.p, .slice r.b.A r.y.l.length r.b.c, .slice r.b.D r.y.m.length r.b.d], .int .i64 1, .agg #[.bool u.x.p, .slice u.a.A u.x.l.length u.a.c, .slice u.a.D u.x.m.length u.a.d, .bool u.y.p, .slice u.b.A u.y.l.length u.b.c, .slice u.b.D u.y.m.length u.b.d, .bool v.x.p, .slice v.a.A v.x.l.length v.a.c, .slice v.a.D v.x.m.length v.a.d, .bool v.y.p, .slice v.b.A v.y.l.length v.b.c, .slice v.b.D v.y.m.length v.b.d, .bool s.x.p, .slice s.a.A s.x.l.length s.a.c, .slice s.a.D s.x.m.length s.a.d, .bool s.y.p, .slice s.b.A s.y.l.length s.b.c, .slice s.b.D s.y.m.length s.b.d]] W (fun e w' => e = .returned (.bool (reachB q r u v s)) ∧ Below W.heap.size W w')) := Lib.hid (fun W hB => reaches_any 1 q r p q r u v s W (h.below hB) (h'.below hB) (fun x W h1 h2 h3 => isEnd_1 p q r x W h1 h2 h3) (fun x W h1 h2 h3 => inward_1 p q r x W h1 h2 h3))
  have HR_2 : Hid (∀ W, Below w.heap.size w W → Calls Tryz.prog 121 #[.agg #[.bool p.x.p, .slice p.a.A p.x.l.length p.a.c, .slice p.a.D p.x.m.length p.a.d, .bool p.y.p, .slice p.b.A p.y.l.length p.b.c, .slice p.b.D p.y.m.length p.b.d, .bool q.x.p, .slice q.a.A q.x.l.length q.a.c, .slice q.a.D q.x.m.length q.a.d, .bool q.y.p, .slice q.b.A q.y.l.length q.b.c, .slice q.b.D q.y.m.length q.b.d, .bool r.x.p, .slice r.a.A r.x.l.length r.a.c, .slice r.a.D r.x.m.length r.a.d, .bool r.y.p, .slice r.b.A r.y.l.length r.b.c, .slice r.b.D r.y.m.length r.b.d], .int .i64 2, .agg #[.bool u.x.p, .slice u.a.A u.x.l.length u.a.c, .slice u.a.D u.x.m.length u.a.d, .bool u.y.p, .slice u.b.A u.y.l.length u.b.c, .slice u.b.D u.y.m.length u.b.d, .bool v.x.p, .slice v.a.A v.x.l.length v.a.c, .slice v.a.D v.x.m.length v.a.d, .bool v.y.p, .slice v.b.A v.y.l.length v.b.c, .slice v.b.D v.y.m.length v.b.d, .bool s.x.p, .slice s.a.A s.x.l.length s.a.c, .slice s.a.D s.x.m.length s.a.d, .bool s.y.p, .slice s.b.A s.y.l.length s.b.c, .slice s.b.D s.y.m.length s.b.d]] W (fun e w' => e = .returned (.bool (reachB r p u v s)) ∧ Below W.heap.size W w')) := Lib.hid (fun W hB => reaches_any 2 r p p q r u v s W (h.below hB) (h'.below hB) (fun x W h1 h2 h3 => isEnd_2 p q r x W h1 h2 h3) (fun x W h1 h2 h3 => inward_2 p q r x W h1 h2 h3))
  unfold sepB
  clear h h'
  generalize reachB p q u v s = b_0 at HR_0 ⊢
  generalize reachB q r u v s = b_1 at HR_1 ⊢
  generalize reachB r p u v s = b_2 at HR_2 ⊢
  obtain ⟨P_t, P_u⟩ := blocks2 w (.cells #[.bool p.x.p, .slice p.a.A p.x.l.length p.a.c, .slice p.a.D p.x.m.length p.a.d, .bool p.y.p, .slice p.b.A p.y.l.length p.b.c, .slice p.b.D p.y.m.length p.b.d, .bool q.x.p, .slice q.a.A q.x.l.length q.a.c, .slice q.a.D q.x.m.length q.a.d, .bool q.y.p, .slice q.b.A q.y.l.length q.b.c, .slice q.b.D q.y.m.length q.b.d, .bool r.x.p, .slice r.a.A r.x.l.length r.a.c, .slice r.a.D r.x.m.length r.a.d, .bool r.y.p, .slice r.b.A r.y.l.length r.b.c, .slice r.b.D r.y.m.length r.b.d] 53) (.cells #[.bool u.x.p, .slice u.a.A u.x.l.length u.a.c, .slice u.a.D u.x.m.length u.a.d, .bool u.y.p, .slice u.b.A u.y.l.length u.b.c, .slice u.b.D u.y.m.length u.b.d, .bool v.x.p, .slice v.a.A v.x.l.length v.a.c, .slice v.a.D v.x.m.length v.a.d, .bool v.y.p, .slice v.b.A v.y.l.length v.b.c, .slice v.b.D v.y.m.length v.b.d, .bool s.x.p, .slice s.a.A s.x.l.length s.a.c, .slice s.a.D s.x.m.length s.a.d, .bool s.y.p, .slice s.b.A s.y.l.length s.b.c, .slice s.b.D s.y.m.length s.b.d] 53)
  have kb := ba2 w (.cells #[.bool p.x.p, .slice p.a.A p.x.l.length p.a.c, .slice p.a.D p.x.m.length p.a.d, .bool p.y.p, .slice p.b.A p.y.l.length p.b.c, .slice p.b.D p.y.m.length p.b.d, .bool q.x.p, .slice q.a.A q.x.l.length q.a.c, .slice q.a.D q.x.m.length q.a.d, .bool q.y.p, .slice q.b.A q.y.l.length q.b.c, .slice q.b.D q.y.m.length q.b.d, .bool r.x.p, .slice r.a.A r.x.l.length r.a.c, .slice r.a.D r.x.m.length r.a.d, .bool r.y.p, .slice r.b.A r.y.l.length r.b.c, .slice r.b.D r.y.m.length r.b.d] 53) (.cells #[.bool u.x.p, .slice u.a.A u.x.l.length u.a.c, .slice u.a.D u.x.m.length u.a.d, .bool u.y.p, .slice u.b.A u.y.l.length u.b.c, .slice u.b.D u.y.m.length u.b.d, .bool v.x.p, .slice v.a.A v.x.l.length v.a.c, .slice v.a.D v.x.m.length v.a.d, .bool v.y.p, .slice v.b.A v.y.l.length v.b.c, .slice v.b.D v.y.m.length v.b.d, .bool s.x.p, .slice s.a.A s.x.l.length s.a.c, .slice s.a.D s.x.m.length s.a.d, .bool s.y.p, .slice s.b.A s.y.l.length s.b.c, .slice s.b.D s.y.m.length s.b.d] 53)
  go_enter Tryz.func80, Tryz.ntmps80
  go_wp2_with fail
  generalize (w.alloc (.cells #[.bool p.x.p, .slice p.a.A p.x.l.length p.a.c, .slice p.a.D p.x.m.length p.a.d, .bool p.y.p, .slice p.b.A p.y.l.length p.b.c, .slice p.b.D p.y.m.length p.b.d, .bool q.x.p, .slice q.a.A q.x.l.length q.a.c, .slice q.a.D q.x.m.length q.a.d, .bool q.y.p, .slice q.b.A q.y.l.length q.b.c, .slice q.b.D q.y.m.length q.b.d, .bool r.x.p, .slice r.a.A r.x.l.length r.a.c, .slice r.a.D r.x.m.length r.a.d, .bool r.y.p, .slice r.b.A r.y.l.length r.b.c, .slice r.b.D r.y.m.length r.b.d] 53)).alloc (.cells #[.bool u.x.p, .slice u.a.A u.x.l.length u.a.c, .slice u.a.D u.x.m.length u.a.d, .bool u.y.p, .slice u.b.A u.y.l.length u.b.c, .slice u.b.D u.y.m.length u.b.d, .bool v.x.p, .slice v.a.A v.x.l.length v.a.c, .slice v.a.D v.x.m.length v.a.d, .bool v.y.p, .slice v.b.A v.y.l.length v.b.c, .slice v.b.D v.y.m.length v.b.d, .bool s.x.p, .slice s.a.A s.x.l.length s.a.c, .slice s.a.D s.x.m.length s.a.d, .bool s.y.p, .slice s.b.A s.y.l.length s.b.c, .slice s.b.D s.y.m.length s.b.d] 53) = W1 at P_t P_u kb ⊢
  go_loopw [6] (fun k w' => ∃ j : Nat, j ≤ 3 ∧ k = .int .i64 (j : Int) ∧ (0 < j → b_0 = true) ∧ (1 < j → b_1 = true) ∧ (2 < j → b_2 = true) ∧ Below W1.heap.size W1 w') (fun k _ => 3 - (intOf k).toNat)
  case atStart => exact ⟨0, by omega, rfl, (fun h => by omega), (fun h => by omega), (fun h => by omega), Below.refl _ _⟩
  case round =>
    obtain ⟨j, hj, rfl, n0, n1, n2, hb⟩ := hrel
    have P_r := rblk_below P_t hb
    have P_s := rblk_below P_u hb
    have kr := kb.trans (hb.mono kb.size)
    have HB := Lib.hid hb
    clear hb P_t P_u kb
    have hjc : j = 0 ∨ j = 1 ∨ j = 2 ∨ j = 3 := by omega
    rcases hjc with rfl | rfl | rfl | rfl
    · have N0 := Lib.hid (And.intro n0 (And.intro n1 n2))
      clear n0 n1 n2
      have hld := cells_row P_r
      have hle := cells_row P_s
      go_wp2_with (first | refine wpList_load_at rfl 53 (.tmp 2) rfl (w.heap.size) 0 #[.bool p.x.p, .slice p.a.A p.x.l.length p.a.c, .slice p.a.D p.x.m.length p.a.d, .bool p.y.p, .slice p.b.A p.y.l.length p.b.c, .slice p.b.D p.y.m.length p.b.d, .bool q.x.p, .slice q.a.A q.x.l.length q.a.c, .slice q.a.D q.x.m.length q.a.d, .bool q.y.p, .slice q.b.A q.y.l.length q.b.c, .slice q.b.D q.y.m.length q.b.d, .bool r.x.p, .slice r.a.A r.x.l.length r.a.c, .slice r.a.D r.x.m.length r.a.d, .bool r.y.p, .slice r.b.A r.y.l.length r.b.c, .slice r.b.D r.y.m.length r.b.d] rfl tri_agg (run_size tri_size) hld ?_ | refine wpList_load_at rfl 53 (.tmp 3) rfl (w.heap.size + 1) 0 #[.bool u.x.p, .slice u.a.A u.x.l.length u.a.c, .slice u.a.D u.x.m.length u.a.d, .bool u.y.p, .slice u.b.A u.y.l.length u.b.c, .slice u.b.D u.y.m.length u.b.d, .bool v.x.p, .slice v.a.A v.x.l.length v.a.c, .slice v.a.D v.x.m.length v.a.d, .bool v.y.p, .slice v.b.A v.y.l.length v.b.c, .slice v.b.D v.y.m.length v.b.d, .bool s.x.p, .slice s.a.A s.x.l.length s.a.c, .slice s.a.D s.x.m.length s.a.d, .bool s.y.p, .slice s.b.A s.y.l.length s.b.c, .slice s.b.D s.y.m.length s.b.d] rfl tri_agg (run_size tri_size) hle ?_)
      clear hld hle
      refine (HR_0.out _ kr).mono ?_
      rintro e w2 ⟨rfl, hb2⟩
      have k2 := bt kr hb2
      have z2 := bt HB.out hb2
      clear kr hb2
      cases b_0 with
      | false =>
        go_wp2
        go_ret
        exact ⟨by simp, k2⟩
      | true =>
        go_wp2
        go_roundw
        case rel => exact ⟨1, by omega, by go_num, (fun _ => by first | rfl | trivial), (fun h => by omega), (fun h => by omega), z2⟩
        case measure => simp [intOf]
    · have N0 := Lib.hid (And.intro n0 (And.intro n1 n2))
      clear n0 n1 n2
      have hld := cells_row P_r
      have hle := cells_row P_s
      go_wp2_with (first | refine wpList_load_at rfl 53 (.tmp 2) rfl (w.heap.size) 0 #[.bool p.x.p, .slice p.a.A p.x.l.length p.a.c, .slice p.a.D p.x.m.length p.a.d, .bool p.y.p, .slice p.b.A p.y.l.length p.b.c, .slice p.b.D p.y.m.length p.b.d, .bool q.x.p, .slice q.a.A q.x.l.length q.a.c, .slice q.a.D q.x.m.length q.a.d, .bool q.y.p, .slice q.b.A q.y.l.length q.b.c, .slice q.b.D q.y.m.length q.b.d, .bool r.x.p, .slice r.a.A r.x.l.length r.a.c, .slice r.a.D r.x.m.length r.a.d, .bool r.y.p, .slice r.b.A r.y.l.length r.b.c, .slice r.b.D r.y.m.length r.b.d] rfl tri_agg (run_size tri_size) hld ?_ | refine wpList_load_at rfl 53 (.tmp 3) rfl (w.heap.size + 1) 0 #[.bool u.x.p, .slice u.a.A u.x.l.length u.a.c, .slice u.a.D u.x.m.length u.a.d, .bool u.y.p, .slice u.b.A u.y.l.length u.b.c, .slice u.b.D u.y.m.length u.b.d, .bool v.x.p, .slice v.a.A v.x.l.length v.a.c, .slice v.a.D v.x.m.length v.a.d, .bool v.y.p, .slice v.b.A v.y.l.length v.b.c, .slice v.b.D v.y.m.length v.b.d, .bool s.x.p, .slice s.a.A s.x.l.length s.a.c, .slice s.a.D s.x.m.length s.a.d, .bool s.y.p, .slice s.b.A s.y.l.length s.b.c, .slice s.b.D s.y.m.length s.b.d] rfl tri_agg (run_size tri_size) hle ?_)
      clear hld hle
      refine (HR_1.out _ kr).mono ?_
      rintro e w2 ⟨rfl, hb2⟩
      have k2 := bt kr hb2
      have z2 := bt HB.out hb2
      clear kr hb2
      cases b_1 with
      | false =>
        go_wp2
        go_ret
        exact ⟨by simp, k2⟩
      | true =>
        go_wp2
        go_roundw
        case rel => exact ⟨2, by omega, by go_num, (fun _ => N0.out.1 (by omega)), (fun _ => by first | rfl | trivial), (fun h => by omega), z2⟩
        case measure => simp [intOf]
    · have N0 := Lib.hid (And.intro n0 (And.intro n1 n2))
      clear n0 n1 n2
      have hld := cells_row P_r
      have hle := cells_row P_s
      go_wp2_with (first | refine wpList_load_at rfl 53 (.tmp 2) rfl (w.heap.size) 0 #[.bool p.x.p, .slice p.a.A p.x.l.length p.a.c, .slice p.a.D p.x.m.length p.a.d, .bool p.y.p, .slice p.b.A p.y.l.length p.b.c, .slice p.b.D p.y.m.length p.b.d, .bool q.x.p, .slice q.a.A q.x.l.length q.a.c, .slice q.a.D q.x.m.length q.a.d, .bool q.y.p, .slice q.b.A q.y.l.length q.b.c, .slice q.b.D q.y.m.length q.b.d, .bool r.x.p, .slice r.a.A r.x.l.length r.a.c, .slice r.a.D r.x.m.length r.a.d, .bool r.y.p, .slice r.b.A r.y.l.length r.b.c, .slice r.b.D r.y.m.length r.b.d] rfl tri_agg (run_size tri_size) hld ?_ | refine wpList_load_at rfl 53 (.tmp 3) rfl (w.heap.size + 1) 0 #[.bool u.x.p, .slice u.a.A u.x.l.length u.a.c, .slice u.a.D u.x.m.length u.a.d, .bool u.y.p, .slice u.b.A u.y.l.length u.b.c, .slice u.b.D u.y.m.length u.b.d, .bool v.x.p, .slice v.a.A v.x.l.length v.a.c, .slice v.a.D v.x.m.length v.a.d, .bool v.y.p, .slice v.b.A v.y.l.length v.b.c, .slice v.b.D v.y.m.length v.b.d, .bool s.x.p, .slice s.a.A s.x.l.length s.a.c, .slice s.a.D s.x.m.length s.a.d, .bool s.y.p, .slice s.b.A s.y.l.length s.b.c, .slice s.b.D s.y.m.length s.b.d] rfl tri_agg (run_size tri_size) hle ?_)
      clear hld hle
      refine (HR_2.out _ kr).mono ?_
      rintro e w2 ⟨rfl, hb2⟩
      have k2 := bt kr hb2
      have z2 := bt HB.out hb2
      clear kr hb2
      cases b_2 with
      | false =>
        go_wp2
        go_ret
        exact ⟨by simp, k2⟩
      | true =>
        go_wp2
        go_roundw
        case rel => exact ⟨3, by omega, by go_num, (fun _ => N0.out.1 (by omega)), (fun _ => N0.out.2.1 (by omega)), (fun _ => by first | rfl | trivial), z2⟩
        case measure => simp [intOf]
    · have N0 := Lib.hid (And.intro (n0 (by omega)) (And.intro (n1 (by omega)) (n2 (by omega))))
      clear n0 n1 n2
      go_wp2
      go_ret
      exact ⟨by rw [N0.out.1, N0.out.2.1, N0.out.2.2]; rfl, kr⟩
theorem overlaps_any (p q r u v s : PV) (w : World) (h : TriOk w p q r) (h' : TriOk w u v s) :
    Calls Tryz.prog 38 #[.agg #[.bool p.x.p, .slice p.a.A p.x.l.length p.a.c, .slice p.a.D p.x.m.length p.a.d, .bool p.y.p, .slice p.b.A p.y.l.length p.b.c, .slice p.b.D p.y.m.length p.b.d, .bool q.x.p, .slice q.a.A q.x.l.length q.a.c, .slice q.a.D q.x.m.length q.a.d, .bool q.y.p, .slice q.b.A q.y.l.length q.b.c, .slice q.b.D q.y.m.length q.b.d, .bool r.x.p, .slice r.a.A r.x.l.length r.a.c, .slice r.a.D r.x.m.length r.a.d, .bool r.y.p, .slice r.b.A r.y.l.length r.b.c, .slice r.b.D r.y.m.length r.b.d], .agg #[.bool u.x.p, .slice u.a.A u.x.l.length u.a.c, .slice u.a.D u.x.m.length u.a.d, .bool u.y.p, .slice u.b.A u.y.l.length u.b.c, .slice u.b.D u.y.m.length u.b.d, .bool v.x.p, .slice v.a.A v.x.l.length v.a.c, .slice v.a.D v.x.m.length v.a.d, .bool v.y.p, .slice v.b.A v.y.l.length v.b.c, .slice v.b.D v.y.m.length v.b.d, .bool s.x.p, .slice s.a.A s.x.l.length s.a.c, .slice s.a.D s.x.m.length s.a.d, .bool s.y.p, .slice s.b.A s.y.l.length s.b.c, .slice s.b.D s.y.m.length s.b.d]] w (fun e w' => e = .returned (.bool (!sepB p q r u v s && !sepB u v s p q r)) ∧ Below w.heap.size w w') := by
  have HS1 : Hid (∀ W, Below w.heap.size w W → Calls Tryz.prog 80 #[.agg #[.bool p.x.p, .slice p.a.A p.x.l.length p.a.c, .slice p.a.D p.x.m.length p.a.d, .bool p.y.p, .slice p.b.A p.y.l.length p.b.c, .slice p.b.D p.y.m.length p.b.d, .bool q.x.p, .slice q.a.A q.x.l.length q.a.c, .slice q.a.D q.x.m.length q.a.d, .bool q.y.p, .slice q.b.A q.y.l.length q.b.c, .slice q.b.D q.y.m.length q.b.d, .bool r.x.p, .slice r.a.A r.x.l.length r.a.c, .slice r.a.D r.x.m.length r.a.d, .bool r.y.p, .slice r.b.A r.y.l.length r.b.c, .slice r.b.D r.y.m.length r.b.d], .agg #[.bool u.x.p, .slice u.a.A u.x.l.length u.a.c, .slice u.a.D u.x.m.length u.a.d, .bool u.y.p, .slice u.b.A u.y.l.length u.b.c, .slice u.b.D u.y.m.length u.b.d, .bool v.x.p, .slice v.a.A v.x.l.length v.a.c, .slice v.a.D v.x.m.length v.a.d, .bool v.y.p, .slice v.b.A v.y.l.length v.b.c, .slice v.b.D v.y.m.length v.b.d, .bool s.x.p, .slice s.a.A s.x.l.length s.a.c, .slice s.a.D s.x.m.length s.a.d, .bool s.y.p, .slice s.b.A s.y.l.length s.b.c, .slice s.b.D s.y.m.length s.b.d]] W (fun e w' => e = .returned (.bool (sepB p q r u v s)) ∧ Below W.heap.size W w')) := Lib.hid (fun W hB => separates_any _ _ _ _ _ _ W (h.below hB) (h'.below hB))
  have HS2 : Hid (∀ W, Below w.heap.size w W → Calls Tryz.prog 80 #[.agg #[.bool u.x.p, .slice u.a.A u.x.l.length u.a.c, .slice u.a.D u.x.m.length u.a.d, .bool u.y.p, .slice u.b.A u.y.l.length u.b.c, .slice u.b.D u.y.m.length u.b.d, .bool v.x.p, .slice v.a.A v.x.l.length v.a.c, .slice v.a.D v.x.m.length v.a.d, .bool v.y.p, .slice v.b.A v.y.l.length v.b.c, .slice v.b.D v.y.m.length v.b.d, .bool s.x.p, .slice s.a.A s.x.l.length s.a.c, .slice s.a.D s.x.m.length s.a.d, .bool s.y.p, .slice s.b.A s.y.l.length s.b.c, .slice s.b.D s.y.m.length s.b.d], .agg #[.bool p.x.p, .slice p.a.A p.x.l.length p.a.c, .slice p.a.D p.x.m.length p.a.d, .bool p.y.p, .slice p.b.A p.y.l.length p.b.c, .slice p.b.D p.y.m.length p.b.d, .bool q.x.p, .slice q.a.A q.x.l.length q.a.c, .slice q.a.D q.x.m.length q.a.d, .bool q.y.p, .slice q.b.A q.y.l.length q.b.c, .slice q.b.D q.y.m.length q.b.d, .bool r.x.p, .slice r.a.A r.x.l.length r.a.c, .slice r.a.D r.x.m.length r.a.d, .bool r.y.p, .slice r.b.A r.y.l.length r.b.c, .slice r.b.D r.y.m.length r.b.d]] W (fun e w' => e = .returned (.bool (sepB u v s p q r)) ∧ Below W.heap.size W w')) := Lib.hid (fun W hB => separates_any _ _ _ _ _ _ W (h'.below hB) (h.below hB))
  clear h h'
  generalize sepB p q r u v s = b1 at HS1 ⊢
  generalize sepB u v s p q r = b2 at HS2 ⊢
  obtain ⟨P_t, P_u⟩ := blocks2 w (.cells #[.bool p.x.p, .slice p.a.A p.x.l.length p.a.c, .slice p.a.D p.x.m.length p.a.d, .bool p.y.p, .slice p.b.A p.y.l.length p.b.c, .slice p.b.D p.y.m.length p.b.d, .bool q.x.p, .slice q.a.A q.x.l.length q.a.c, .slice q.a.D q.x.m.length q.a.d, .bool q.y.p, .slice q.b.A q.y.l.length q.b.c, .slice q.b.D q.y.m.length q.b.d, .bool r.x.p, .slice r.a.A r.x.l.length r.a.c, .slice r.a.D r.x.m.length r.a.d, .bool r.y.p, .slice r.b.A r.y.l.length r.b.c, .slice r.b.D r.y.m.length r.b.d] 53) (.cells #[.bool u.x.p, .slice u.a.A u.x.l.length u.a.c, .slice u.a.D u.x.m.length u.a.d, .bool u.y.p, .slice u.b.A u.y.l.length u.b.c, .slice u.b.D u.y.m.length u.b.d, .bool v.x.p, .slice v.a.A v.x.l.length v.a.c, .slice v.a.D v.x.m.length v.a.d, .bool v.y.p, .slice v.b.A v.y.l.length v.b.c, .slice v.b.D v.y.m.length v.b.d, .bool s.x.p, .slice s.a.A s.x.l.length s.a.c, .slice s.a.D s.x.m.length s.a.d, .bool s.y.p, .slice s.b.A s.y.l.length s.b.c, .slice s.b.D s.y.m.length s.b.d] 53)
  have kb := ba2 w (.cells #[.bool p.x.p, .slice p.a.A p.x.l.length p.a.c, .slice p.a.D p.x.m.length p.a.d, .bool p.y.p, .slice p.b.A p.y.l.length p.b.c, .slice p.b.D p.y.m.length p.b.d, .bool q.x.p, .slice q.a.A q.x.l.length q.a.c, .slice q.a.D q.x.m.length q.a.d, .bool q.y.p, .slice q.b.A q.y.l.length q.b.c, .slice q.b.D q.y.m.length q.b.d, .bool r.x.p, .slice r.a.A r.x.l.length r.a.c, .slice r.a.D r.x.m.length r.a.d, .bool r.y.p, .slice r.b.A r.y.l.length r.b.c, .slice r.b.D r.y.m.length r.b.d] 53) (.cells #[.bool u.x.p, .slice u.a.A u.x.l.length u.a.c, .slice u.a.D u.x.m.length u.a.d, .bool u.y.p, .slice u.b.A u.y.l.length u.b.c, .slice u.b.D u.y.m.length u.b.d, .bool v.x.p, .slice v.a.A v.x.l.length v.a.c, .slice v.a.D v.x.m.length v.a.d, .bool v.y.p, .slice v.b.A v.y.l.length v.b.c, .slice v.b.D v.y.m.length v.b.d, .bool s.x.p, .slice s.a.A s.x.l.length s.a.c, .slice s.a.D s.x.m.length s.a.d, .bool s.y.p, .slice s.b.A s.y.l.length s.b.c, .slice s.b.D s.y.m.length s.b.d] 53)
  have hla := cells_row P_t
  have hlb := cells_row P_u
  go_enter Tryz.func38, Tryz.ntmps38
  go_wp2_with (first | refine wpList_load_at rfl 53 (.tmp 2) rfl (w.heap.size) 0 #[.bool p.x.p, .slice p.a.A p.x.l.length p.a.c, .slice p.a.D p.x.m.length p.a.d, .bool p.y.p, .slice p.b.A p.y.l.length p.b.c, .slice p.b.D p.y.m.length p.b.d, .bool q.x.p, .slice q.a.A q.x.l.length q.a.c, .slice q.a.D q.x.m.length q.a.d, .bool q.y.p, .slice q.b.A q.y.l.length q.b.c, .slice q.b.D q.y.m.length q.b.d, .bool r.x.p, .slice r.a.A r.x.l.length r.a.c, .slice r.a.D r.x.m.length r.a.d, .bool r.y.p, .slice r.b.A r.y.l.length r.b.c, .slice r.b.D r.y.m.length r.b.d] rfl tri_agg (run_size tri_size) hla ?_ | refine wpList_load_at rfl 53 (.tmp 3) rfl (w.heap.size + 1) 0 #[.bool u.x.p, .slice u.a.A u.x.l.length u.a.c, .slice u.a.D u.x.m.length u.a.d, .bool u.y.p, .slice u.b.A u.y.l.length u.b.c, .slice u.b.D u.y.m.length u.b.d, .bool v.x.p, .slice v.a.A v.x.l.length v.a.c, .slice v.a.D v.x.m.length v.a.d, .bool v.y.p, .slice v.b.A v.y.l.length v.b.c, .slice v.b.D v.y.m.length v.b.d, .bool s.x.p, .slice s.a.A s.x.l.length s.a.c, .slice s.a.D s.x.m.length s.a.d, .bool s.y.p, .slice s.b.A s.y.l.length s.b.c, .slice s.b.D s.y.m.length s.b.d] rfl tri_agg (run_size tri_size) hlb ?_)
  clear hla hlb
  generalize (w.alloc (.cells #[.bool p.x.p, .slice p.a.A p.x.l.length p.a.c, .slice p.a.D p.x.m.length p.a.d, .bool p.y.p, .slice p.b.A p.y.l.length p.b.c, .slice p.b.D p.y.m.length p.b.d, .bool q.x.p, .slice q.a.A q.x.l.length q.a.c, .slice q.a.D q.x.m.length q.a.d, .bool q.y.p, .slice q.b.A q.y.l.length q.b.c, .slice q.b.D q.y.m.length q.b.d, .bool r.x.p, .slice r.a.A r.x.l.length r.a.c, .slice r.a.D r.x.m.length r.a.d, .bool r.y.p, .slice r.b.A r.y.l.length r.b.c, .slice r.b.D r.y.m.length r.b.d] 53)).alloc (.cells #[.bool u.x.p, .slice u.a.A u.x.l.length u.a.c, .slice u.a.D u.x.m.length u.a.d, .bool u.y.p, .slice u.b.A u.y.l.length u.b.c, .slice u.b.D u.y.m.length u.b.d, .bool v.x.p, .slice v.a.A v.x.l.length v.a.c, .slice v.a.D v.x.m.length v.a.d, .bool v.y.p, .slice v.b.A v.y.l.length v.b.c, .slice v.b.D v.y.m.length v.b.d, .bool s.x.p, .slice s.a.A s.x.l.length s.a.c, .slice s.a.D s.x.m.length s.a.d, .bool s.y.p, .slice s.b.A s.y.l.length s.b.c, .slice s.b.D s.y.m.length s.b.d] 53) = W1 at P_t P_u kb ⊢
  refine (HS1.out _ kb).mono ?_
  rintro e W2 ⟨rfl, hb⟩
  replace P_t := rblk_below P_t hb
  replace P_u := rblk_below P_u hb
  replace kb := bt kb hb
  clear hb
  cases b1 with
  | true =>
    clear P_t P_u
    go_wp2
    go_ret
    exact ⟨rfl, kb⟩
  | false =>
    have hla := cells_row P_t
    have hlb := cells_row P_u
    go_wp2_with (first | refine wpList_load_want (by rfl) 53 (.tmp 2) rfl (w.heap.size) 0 #[.bool p.x.p, .slice p.a.A p.x.l.length p.a.c, .slice p.a.D p.x.m.length p.a.d, .bool p.y.p, .slice p.b.A p.y.l.length p.b.c, .slice p.b.D p.y.m.length p.b.d, .bool q.x.p, .slice q.a.A q.x.l.length q.a.c, .slice q.a.D q.x.m.length q.a.d, .bool q.y.p, .slice q.b.A q.y.l.length q.b.c, .slice q.b.D q.y.m.length q.b.d, .bool r.x.p, .slice r.a.A r.x.l.length r.a.c, .slice r.a.D r.x.m.length r.a.d, .bool r.y.p, .slice r.b.A r.y.l.length r.b.c, .slice r.b.D r.y.m.length r.b.d] rfl tri_agg (run_size tri_size) hla ?_ | refine wpList_load_want (by rfl) 53 (.tmp 3) rfl (w.heap.size + 1) 0 #[.bool u.x.p, .slice u.a.A u.x.l.length u.a.c, .slice u.a.D u.x.m.length u.a.d, .bool u.y.p, .slice u.b.A u.y.l.length u.b.c, .slice u.b.D u.y.m.length u.b.d, .bool v.x.p, .slice v.a.A v.x.l.length v.a.c, .slice v.a.D v.x.m.length v.a.d, .bool v.y.p, .slice v.b.A v.y.l.length v.b.c, .slice v.b.D v.y.m.length v.b.d, .bool s.x.p, .slice s.a.A s.x.l.length s.a.c, .slice s.a.D s.x.m.length s.a.d, .bool s.y.p, .slice s.b.A s.y.l.length s.b.c, .slice s.b.D s.y.m.length s.b.d] rfl tri_agg (run_size tri_size) hlb ?_)
    clear hla hlb P_t P_u
    refine (HS2.out _ kb).mono ?_
    rintro e W3 ⟨rfl, hb⟩
    replace kb := bt kb hb
    clear hb
    go_wp2
    go_ret
    exact ⟨by simp, kb⟩
/-- Do the triangles of two lists overlap? -/
def ovB (L M : List PV) : Bool := !sepB (tri1 L) (tri2 L) (tri3 L) (tri1 M) (tri2 M) (tri3 M) && !sepB (tri1 M) (tri2 M) (tri3 M) (tri1 L) (tri2 L) (tri3 L)
theorem impl_overlap (L M : List PV) (A D : Option Addr) (c d : Nat) (w : World) (hn : L.length ≤ 9223372036854775807) (hL : ∀ p, p ∈ L → LenP p) (hA : RdS w A (flat L)) (hR : Rds w (lrow L)) (hn' : M.length ≤ 9223372036854775807) (hL' : ∀ p, p ∈ M → LenP p) (hA' : RdS w D (flat M)) (hR' : Rds w (lrow M)) :
    Calls Tryz.prog 13 #[.slice A L.length c, .slice D M.length d] w (fun e w' => e = .returned (.bool (ovB L M)) ∧ Below w.heap.size w w') := by
  have HT1 := Lib.hid (fun W h h' => tri_any L A c W hn hL h h')
  have HT2 := Lib.hid (fun W h h' => tri_any M D d W hn' hL' h h')
  have RR : Hid (∀ W, Below w.heap.size w W → (RdS W A (flat L) ∧ Rds W (lrow L)) ∧ RdS W D (flat M) ∧ Rds W (lrow M)) := Lib.hid (fun W hB => ⟨⟨hA.below hB, hR.below hB⟩, hA'.below hB, hR'.below hB⟩)
  have HO : Hid (∀ W, Below w.heap.size w W → Calls Tryz.prog 38 #[.agg #[.bool (tri1 L).x.p, .slice (tri1 L).a.A (tri1 L).x.l.length (tri1 L).a.c, .slice (tri1 L).a.D (tri1 L).x.m.length (tri1 L).a.d, .bool (tri1 L).y.p, .slice (tri1 L).b.A (tri1 L).y.l.length (tri1 L).b.c, .slice (tri1 L).b.D (tri1 L).y.m.length (tri1 L).b.d, .bool (tri2 L).x.p, .slice (tri2 L).a.A (tri2 L).x.l.length (tri2 L).a.c, .slice (tri2 L).a.D (tri2 L).x.m.length (tri2 L).a.d, .bool (tri2 L).y.p, .slice (tri2 L).b.A (tri2 L).y.l.length (tri2 L).b.c, .slice (tri2 L).b.D (tri2 L).y.m.length (tri2 L).b.d, .bool (tri3 L).x.p, .slice (tri3 L).a.A (tri3 L).x.l.length (tri3 L).a.c, .slice (tri3 L).a.D (tri3 L).x.m.length (tri3 L).a.d, .bool (tri3 L).y.p, .slice (tri3 L).b.A (tri3 L).y.l.length (tri3 L).b.c, .slice (tri3 L).b.D (tri3 L).y.m.length (tri3 L).b.d], .agg #[.bool (tri1 M).x.p, .slice (tri1 M).a.A (tri1 M).x.l.length (tri1 M).a.c, .slice (tri1 M).a.D (tri1 M).x.m.length (tri1 M).a.d, .bool (tri1 M).y.p, .slice (tri1 M).b.A (tri1 M).y.l.length (tri1 M).b.c, .slice (tri1 M).b.D (tri1 M).y.m.length (tri1 M).b.d, .bool (tri2 M).x.p, .slice (tri2 M).a.A (tri2 M).x.l.length (tri2 M).a.c, .slice (tri2 M).a.D (tri2 M).x.m.length (tri2 M).a.d, .bool (tri2 M).y.p, .slice (tri2 M).b.A (tri2 M).y.l.length (tri2 M).b.c, .slice (tri2 M).b.D (tri2 M).y.m.length (tri2 M).b.d, .bool (tri3 M).x.p, .slice (tri3 M).a.A (tri3 M).x.l.length (tri3 M).a.c, .slice (tri3 M).a.D (tri3 M).x.m.length (tri3 M).a.d, .bool (tri3 M).y.p, .slice (tri3 M).b.A (tri3 M).y.l.length (tri3 M).b.c, .slice (tri3 M).b.D (tri3 M).y.m.length (tri3 M).b.d]] W (fun e w' => e = .returned (.bool (!sepB (tri1 L) (tri2 L) (tri3 L) (tri1 M) (tri2 M) (tri3 M) && !sepB (tri1 M) (tri2 M) (tri3 M) (tri1 L) (tri2 L) (tri3 L))) ∧ Below W.heap.size W w')) := Lib.hid (fun W hB => overlaps_any _ _ _ _ _ _ W (tri_ok (hR.below hB)) (tri_ok (hR'.below hB)))
  unfold ovB
  generalize (!sepB (tri1 L) (tri2 L) (tri3 L) (tri1 M) (tri2 M) (tri3 M) && !sepB (tri1 M) (tri2 M) (tri3 M) (tri1 L) (tri2 L) (tri3 L)) = b at HO ⊢
  generalize tri1 L = p at HT1 HO
  generalize tri2 L = q at HT1 HO
  generalize tri3 L = r at HT1 HO
  generalize tri1 M = u at HT2 HO
  generalize tri2 M = v at HT2 HO
  generalize tri3 M = s at HT2 HO
  generalize L.length = n at HT1 ⊢
  generalize M.length = m at HT2 ⊢
  clear hn hL hA hR hn' hL' hA' hR'
  go_enter Tryz.func13, Tryz.ntmps13
  go_wp2_with fail
  refine (HT1.out _ (RR.out _ (Below.refl _ _)).1.1 (RR.out _ (Below.refl _ _)).1.2).mono ?_
  rintro e W1 ⟨rfl, kb⟩
  go_wp2_with fail
  refine (HT2.out _ (RR.out _ kb).2.1 (RR.out _ kb).2.2).mono ?_
  rintro e W2 ⟨rfl, hb⟩
  replace kb := bt kb hb
  clear hb
  go_wp2_with fail
  refine (HO.out _ kb).mono ?_
  rintro e W3 ⟨rfl, hb⟩
  replace kb := bt kb hb
  clear hb
  go_wp2
  go_ret
  exact ⟨rfl, kb⟩
end Go.Proofs.YtaohiacpdljacaaGreat
