/-
  The walks over the laws' own intervals: copied field by field, compared field by field.
-/
import Derived.Test.YtdfmidihghoilaaDoorRows
import Derived.Test.YtdfmidihghoilaaDoorHeld
import Derived.Test.YtdfmidihghoilaaDoorFrLaw
import Derived.WalkKit
import Derived.WalkSpells
import Derived.WalkLawsBesides
import Derived.IntWalk
import Derived.Lib.Hide
namespace Go.Proofs.YtdfmidihghoilaaDoor
open Go.RowKit

set_option maxRecDepth 8000 in
set_option maxHeartbeats 3200000 in
theorem law_toI (x y u v : Int) (w : World) :
    Calls Tryd.prog 7 #[.agg #[.int .i64 x, .int .i64 y, .int .i64 u, .int .i64 v]] w fun e w' => e = .returned (.agg #[.int .i64 x, .int .i64 y, .int .i64 u, .int .i64 v]) ∧ Below w.heap.size w w' := by
  go_enter Tryd.func7, Tryd.ntmps7
  go_wp2_with fail
  have K0 := (((Kept.start w).alloc4 (.int .i64 x) (.int .i64 y) (.int .i64 u) (.int .i64 v) 25 _ rfl).alloc4 (.int .i64 0) (.int .i64 0) (.int .i64 0) (.int .i64 0) 29 (w.heap.size + 1) (by simp)).alloc4 (.int .i64 0) (.int .i64 0) (.int .i64 0) (.int .i64 0) 29 (w.heap.size + 1 + 1) (by simp)
  refine (law_to _ _ _).mono ?_
  rintro e w1 ⟨rfl, hb⟩
  have K1 := K0.step hb
  clear hb K0
  have K2 := Kept.set (p := []) K1 (.int .i64 x) (by simp only; omega) (by simp only [List.cons_append, List.nil_append, List.mem_cons, List.not_mem_nil, or_false]; rintro c (rfl | rfl | rfl | rfl | rfl | rfl | rfl | rfl | rfl | rfl | rfl) <;> simp)
  have K3 := Kept.set (p := [(⟨w.heap.size + 1 + 1, 0, none⟩, .int .i64 x)]) K2 (.int .i64 y) (by simp only; omega) (by simp only [List.cons_append, List.nil_append, List.mem_cons, List.not_mem_nil, or_false]; rintro c (rfl | rfl | rfl | rfl | rfl | rfl | rfl | rfl | rfl | rfl | rfl) <;> simp)
  have k0 := K1.get 0 rfl
  have k1 := K1.get 1 rfl
  have f0 := K1.fz 0 rfl
  have f1 := K1.fz 1 rfl
  have p0 := K3.get 8 rfl
  have p1 := K3.get 9 rfl
  have p2 := K3.get 10 rfl
  have p3 := K3.get 11 rfl
  have c0 := K3.get 0 rfl
  have c1 := K3.get 1 rfl
  go_wp2_with fail
  refine (law_to _ _ _).mono ?_
  rintro e w2 ⟨rfl, hb⟩
  have K4 := K3.step hb
  clear hb K3 K2 K1 k0 k1 f0 f1 p0 p1 p2 p3 c0 c1
  have k0 := K4.get 0 rfl
  have k1 := K4.get 1 rfl
  have k2 := K4.get 2 rfl
  have k3 := K4.get 3 rfl
  have f2 := K4.fz 2 rfl
  have f3 := K4.fz 3 rfl
  have r0 := K4.get 4 rfl
  have r1 := K4.get 5 rfl
  have r2 := K4.get 6 rfl
  have r3 := K4.get 7 rfl
  have g0 := K4.fz 4 rfl
  have g1 := K4.fz 5 rfl
  have g2 := K4.fz 6 rfl
  have g3 := K4.fz 7 rfl
  have z := K4.lt 4 rfl
  go_wp2
  exact bodyPost_ret (v := .agg #[.int .i64 x, .int .i64 y, .int .i64 u, .int .i64 v]) (by simp [results, Tryd.results7, go_sem, k0, k1, k2, k3, r0, r1, r2, r3, z]) rfl
    ⟨rfl, (((((K4.1.setCell (p := ⟨w.heap.size + 1 + 1, 2, none⟩) (by simp only; omega) _).setCell (p := ⟨w.heap.size + 1 + 1, 3, none⟩) (by simp only; omega) _).setCell (p := ⟨w.heap.size + 1, 0, none⟩) (Nat.le_succ _) _).setCell (p := ⟨w.heap.size + 1, 1, none⟩) (Nat.le_succ _) _).setCell (p := ⟨w.heap.size + 1, 2, none⟩) (Nat.le_succ _) _).setCell (p := ⟨w.heap.size + 1, 3, none⟩) (Nat.le_succ _) _⟩

theorem law_eqI (x y u v : Int) (w : World) :
    Calls Tryd.prog 11 #[.agg #[.int .i64 x, .int .i64 y, .int .i64 u, .int .i64 v], .agg #[.int .i64 x, .int .i64 y, .int .i64 u, .int .i64 v]] w fun e w' => e = .returned (.bool true) ∧ Below w.heap.size w w' := by
  go_enter Tryd.func11, Tryd.ntmps11
  go_wp2_with fail
  have K0 := ((Kept.start w).alloc4 (.int .i64 x) (.int .i64 y) (.int .i64 u) (.int .i64 v) 29 _ rfl).alloc4 (.int .i64 x) (.int .i64 y) (.int .i64 u) (.int .i64 v) 29 (w.heap.size + 1) (by simp)
  refine (law_eq _ _ _).mono ?_
  rintro e w1 ⟨rfl, hb⟩
  have K1 := K0.step hb
  clear hb K0
  have k2 := K1.get 2 rfl
  have k3 := K1.get 3 rfl
  have k6 := K1.get 6 rfl
  have k7 := K1.get 7 rfl
  go_wp2_with fail
  refine (law_eq _ _ _).mono ?_
  rintro e w2 ⟨rfl, hb⟩
  have K2 := K1.step hb
  clear hb K1 k2 k3 k6 k7
  go_wp2
  go_ret
  exact ⟨rfl, K2.1⟩
end Go.Proofs.YtdfmidihghoilaaDoor
