/-
  The walks over SubtractFracs, the project's.
-/
import Derived.Test.YtdfmidihghoilaaDoorRows
import Derived.Test.YtdfmidihghoilaaDoorPlain
import Derived.Test.YtdfmidihghoilaaDoorKeep
import Derived.Test.YtdfmidihghoilaaDoorFsAns
import Derived.Test.YtdfmidihghoilaaDoorRdImpl
import Derived.WalkKit
import Derived.WalkSpells
import Derived.WalkLawsBesides
import Derived.IntWalk
import Derived.Lib.Hide
namespace Go.Proofs.YtdfmidihghoilaaDoor
open Go.RowKit Num

set_option maxRecDepth 8000 in
set_option maxHeartbeats 3200000 in
theorem impl_sub (n d m e : Int) (w : World) : Calls Tryd.prog 48 #[.agg #[.int .i64 n, .int .i64 d], .agg #[.int .i64 m, .int .i64 e]] w (SubAns n d m e w) := by
  have IA0 := fun w => impl_isf n d w
  have IB0 := fun w => impl_isf m e w
  cases h1 : frB n d
  · have ZZ := Lib.hid (fun w w' => @SubAns.no n d m e w w' (subB_no1 h1))
    rw [h1] at IA0
    have IA := Lib.hid IA0
    clear IA0 IB0 h1
    go_enter Tryd.func48, Tryd.ntmps48
    go_wp2_with fail
    have K0 := ((((Kept.start w).alloc2 (.int .i64 n) (.int .i64 d) 27 _ rfl).alloc2 (.int .i64 m) (.int .i64 e) 27 (w.heap.size + 1) (by simp))).alloc2 (.int .i64 0) (.int .i64 0) 27 (w.heap.size + 1 + 1) (by simp)
    refine (IA.out _).mono ?_
    rintro r w1 ⟨rfl, hb1⟩
    have K1 := K0.step hb1
    clear hb1 K0
    have f1 := K1.fz 0 rfl
    have f2 := K1.fz 1 rfl
    have c1 := K1.get 0 rfl
    have c2 := K1.get 1 rfl
    have z1 := K1.lt 0 rfl
    go_wp2
    exact bodyPost_ret (v := .tuple #[.agg #[.int .i64 0, .int .i64 0], .bool false]) (by simp [results, Tryd.results48, go_sem, c1, c2, z1]) rfl (ZZ.out _ _ ((K1.1.setCell (by show w.heap.size ≤ w.heap.size + 1 + 1; omega) _).setCell (by show w.heap.size ≤ w.heap.size + 1 + 1; omega) _))
  · cases h2 : frB m e
    · have ZZ := Lib.hid (fun w w' => @SubAns.no n d m e w w' (subB_no2 h2))
      rw [h1] at IA0
      rw [h2] at IB0
      have IA := Lib.hid IA0
      have IB := Lib.hid IB0
      clear IA0 IB0 h1 h2
      go_enter Tryd.func48, Tryd.ntmps48
      go_wp2_with fail
      have K0 := ((((Kept.start w).alloc2 (.int .i64 n) (.int .i64 d) 27 _ rfl).alloc2 (.int .i64 m) (.int .i64 e) 27 (w.heap.size + 1) (by simp))).alloc2 (.int .i64 0) (.int .i64 0) 27 (w.heap.size + 1 + 1) (by simp)
      refine (IA.out _).mono ?_
      rintro r w1 ⟨rfl, hb1⟩
      have K1 := K0.step hb1
      clear hb1 K0
      have k1 := K1.get 2 rfl
      have k2 := K1.get 3 rfl
      go_wp2_with fail
      refine (IB.out _).mono ?_
      rintro r w2 ⟨rfl, hb2⟩
      have K2 := K1.step hb2
      clear hb2 K1 k1 k2
      have f1 := K2.fz 0 rfl
      have f2 := K2.fz 1 rfl
      have c1 := K2.get 0 rfl
      have c2 := K2.get 1 rfl
      have z1 := K2.lt 0 rfl
      go_wp2
      exact bodyPost_ret (v := .tuple #[.agg #[.int .i64 0, .int .i64 0], .bool false]) (by simp [results, Tryd.results48, go_sem, c1, c2, z1]) rfl (ZZ.out _ _ ((K2.1.setCell (by show w.heap.size ≤ w.heap.size + 1 + 1; omega) _).setCell (by show w.heap.size ≤ w.heap.size + 1 + 1; omega) _))
    · obtain ⟨⟨n1, n2, d1, d2⟩, _⟩ := frB_of h1
      obtain ⟨⟨m1, m2, e1, e2⟩, _⟩ := frB_of h2
      obtain ⟨p1, p2⟩ := mul_bd n1 n2 e1 e2
      obtain ⟨q1, q2⟩ := mul_bd m1 m2 d1 d2
      obtain ⟨t1, t2⟩ := mul_bd2 d1 d2 e1 e2
      have SB := subB_in h1 h2
      have Y := @SubAns.yes n d m e
      have Z := @SubAns.no n d m e
      rw [SB] at Y Z
      clear SB
      rw [h1] at IA0
      rw [h2] at IB0
      have IA := Lib.hid IA0
      have IB := Lib.hid IB0
      clear IA0 IB0 h1 h2 n1 n2 m1 m2 d1 d2 e1 e2
      obtain ⟨p, hp⟩ : ∃ p, n * e = p := ⟨_, rfl⟩
      obtain ⟨q, hq⟩ : ∃ q, m * d = q := ⟨_, rfl⟩
      obtain ⟨k, hk⟩ : ∃ k : Nat, d * e = (k : Int) := Int.eq_ofNat_of_zero_le (by omega)
      rw [hp] at p1 p2 Y Z
      rw [hq] at q1 q2 Y Z
      rw [hk] at t1 t2 Y Z
      have R0 := fun w => impl_reduce (p - q) k w (by omega) (by omega) (by omega) (by omega) (by omega)
      unfold RdAns at R0
      obtain ⟨x, hx⟩ : ∃ x, x = rN (p - q) k := ⟨_, rfl⟩
      obtain ⟨y, hy⟩ : ∃ y, y = rD (p - q) k := ⟨_, rfl⟩
      obtain ⟨b, hb⟩ : ∃ b, b = limB (rN (p - q) k) (rD (p - q) k) := ⟨_, rfl⟩
      rw [← hb, ← hx, ← hy] at R0 Y
      rw [← hb] at Z
      have YY := Lib.hid Y
      have ZZ := Lib.hid Z
      clear hx hy hb Y Z
      cases b
      · rw [if_neg (by simp)] at R0
        have R := Lib.hid R0
        clear R0
        go_enter Tryd.func48, Tryd.ntmps48
        go_wp2_with fail
        have K0 := ((((Kept.start w).alloc2 (.int .i64 n) (.int .i64 d) 27 _ rfl).alloc2 (.int .i64 m) (.int .i64 e) 27 (w.heap.size + 1) (by simp))).alloc2 (.int .i64 0) (.int .i64 0) 27 (w.heap.size + 1 + 1) (by simp)
        refine (IA.out _).mono ?_
        rintro r w1 ⟨rfl, hb1⟩
        have K1 := K0.step hb1
        clear hb1 K0
        have k1 := K1.get 2 rfl
        have k2 := K1.get 3 rfl
        go_wp2_with fail
        refine (IB.out _).mono ?_
        rintro r w2 ⟨rfl, hb2⟩
        have K2 := K1.step hb2
        clear hb2 K1 k1 k2
        have k1 := K2.get 2 rfl
        have k2 := K2.get 3 rfl
        have k3 := K2.get 4 rfl
        have k4 := K2.get 5 rfl
        go_wp2_with fail
        refine (R.out _).mono ?_
        rintro r w3 ⟨rfl, hb3⟩
        have K3 := K2.step hb3
        clear hb3 K2 k1 k2 k3 k4
        have f1 := K3.fz 0 rfl
        have f2 := K3.fz 1 rfl
        have c1 := K3.get 0 rfl
        have c2 := K3.get 1 rfl
        have z1 := K3.lt 0 rfl
        go_wp2
        exact bodyPost_ret (v := .tuple #[.agg #[.int .i64 0, .int .i64 0], .bool false]) (by simp [results, Tryd.results48, go_sem, c1, c2, z1]) rfl (ZZ.out _ _ (by simp) ((K3.1.setCell (by show w.heap.size ≤ w.heap.size + 1 + 1; omega) _).setCell (by show w.heap.size ≤ w.heap.size + 1 + 1; omega) _))
      · rw [if_pos rfl] at R0
        have R := Lib.hid R0
        clear R0
        go_enter Tryd.func48, Tryd.ntmps48
        go_wp2_with fail
        have K0 := ((((Kept.start w).alloc2 (.int .i64 n) (.int .i64 d) 27 _ rfl).alloc2 (.int .i64 m) (.int .i64 e) 27 (w.heap.size + 1) (by simp))).alloc2 (.int .i64 0) (.int .i64 0) 27 (w.heap.size + 1 + 1) (by simp)
        refine (IA.out _).mono ?_
        rintro r w1 ⟨rfl, hb1⟩
        have K1 := K0.step hb1
        clear hb1 K0
        have k1 := K1.get 2 rfl
        have k2 := K1.get 3 rfl
        go_wp2_with fail
        refine (IB.out _).mono ?_
        rintro r w2 ⟨rfl, hb2⟩
        have K2 := K1.step hb2
        clear hb2 K1 k1 k2
        have k1 := K2.get 2 rfl
        have k2 := K2.get 3 rfl
        have k3 := K2.get 4 rfl
        have k4 := K2.get 5 rfl
        go_wp2_with fail
        refine (R.out _).mono ?_
        rintro r w3 ⟨rfl, hb3⟩
        have K3 := K2.step hb3
        clear hb3 K2 k1 k2 k3 k4
        have f1 := K3.fz 0 rfl
        have f2 := K3.fz 1 rfl
        have c1 := K3.get 0 rfl
        have c2 := K3.get 1 rfl
        have z1 := K3.lt 0 rfl
        go_wp2
        exact bodyPost_ret (v := .tuple #[.agg #[.int .i64 x, .int .i64 y], .bool true]) (by simp [results, Tryd.results48, go_sem, c1, c2, z1]) rfl (YY.out _ _ (by simp) ((K3.1.setCell (by show w.heap.size ≤ w.heap.size + 1 + 1; omega) _).setCell (by show w.heap.size ≤ w.heap.size + 1 + 1; omega) _))
end Go.Proofs.YtdfmidihghoilaaDoor
