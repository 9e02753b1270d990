/-
  The walks over CompareFracs, the model's.
-/
import Derived.Test.YtdfmidihghoilaaDoorRows
import Derived.Test.YtdfmidihghoilaaDoorPlain
import Derived.Test.YtdfmidihghoilaaDoorKeep
import Derived.Test.YtdfmidihghoilaaDoorFrSpec
import Derived.WalkKit
import Derived.WalkSpells
import Derived.WalkLawsBesides
import Derived.IntWalk
import Derived.Lib.Hide
namespace Go.Proofs.YtdfmidihghoilaaDoor
open Go.RowKit Num

set_option maxRecDepth 8000 in
set_option maxHeartbeats 1600000 in
theorem spec_cmp (n d m e : Int) (w : World) (n0 : -9223372036854775808 ≤ n ∧ n ≤ 9223372036854775807) (m0 : -9223372036854775808 ≤ m ∧ m ≤ 9223372036854775807) :
    Calls Tryd.prog 41 #[.agg #[.int .i64 n, .int .i64 d], .agg #[.int .i64 m, .int .i64 e]] w fun r w' => r = .returned (.int .i64 (cmpA n d m e)) ∧ Below w.heap.size w w' := by
  have IA0 := fun w => spec_isf n d w n0.1 n0.2
  have IB0 := fun w => spec_isf m e w m0.1 m0.2
  cases h1 : frB n d
  · rw [cmpA_no1 h1]
    rw [h1] at IA0
    have IA := Lib.hid IA0
    clear IA0 IB0 h1
    go_enter Tryd.func41, Tryd.ntmps41
    go_wp2_with fail
    have K0 := ((Kept.start w).alloc2 (.int .i64 n) (.int .i64 d) 27 _ rfl).alloc2 (.int .i64 m) (.int .i64 e) 27 (w.heap.size + 1) (by simp)
    refine (IA.out _).mono ?_
    rintro r w1 ⟨rfl, hb1⟩
    have K1 := K0.step hb1
    clear hb1 K0
    go_wp2
    go_ret
    exact ⟨rfl, K1.1⟩
  · cases h2 : frB m e
    · rw [cmpA_no2 h2]
      rw [h1] at IA0
      rw [h2] at IB0
      have IA := Lib.hid IA0
      have IB := Lib.hid IB0
      clear IA0 IB0 h1 h2
      go_enter Tryd.func41, Tryd.ntmps41
      go_wp2_with fail
      have K0 := ((Kept.start w).alloc2 (.int .i64 n) (.int .i64 d) 27 _ rfl).alloc2 (.int .i64 m) (.int .i64 e) 27 (w.heap.size + 1) (by simp)
      refine (IA.out _).mono ?_
      rintro r w1 ⟨rfl, hb1⟩
      have K1 := K0.step hb1
      clear hb1 K0
      have k1 := K1.get 0 rfl
      have k2 := K1.get 1 rfl
      go_wp2_with fail
      refine (IB.out _).mono ?_
      rintro r w2 ⟨rfl, hb2⟩
      have K2 := K1.step hb2
      clear hb2 K1 k1 k2
      go_wp2
      go_ret
      exact ⟨rfl, K2.1⟩
    · obtain ⟨⟨n1, n2, d1, d2⟩, _⟩ := frB_of h1
      obtain ⟨⟨m1, m2, e1, e2⟩, _⟩ := frB_of h2
      obtain ⟨p1, p2⟩ := mul_bd n1 n2 e1 e2
      obtain ⟨q1, q2⟩ := mul_bd m1 m2 d1 d2
      rw [cmpA_yes h1 h2]
      rw [h1] at IA0
      rw [h2] at IB0
      obtain ⟨p, hp⟩ : ∃ p, n * e = p := ⟨_, rfl⟩
      obtain ⟨q, hq⟩ : ∃ q, m * d = q := ⟨_, rfl⟩
      rw [hp] at p1 p2
      rw [hq] at q1 q2
      rw [hp, hq]
      have IA := Lib.hid IA0
      have IB := Lib.hid IB0
      clear IA0 IB0 h1 h2
      rcases Int.lt_trichotomy p q with h | h | h
      · have E := Lib.hid (ci_lt h)
        have t1 : p < q := h
        have HH := Lib.hid h
        clear h
        go_enter Tryd.func41, Tryd.ntmps41
        go_wp2_with fail
        have K0 := ((Kept.start w).alloc2 (.int .i64 n) (.int .i64 d) 27 _ rfl).alloc2 (.int .i64 m) (.int .i64 e) 27 (w.heap.size + 1) (by simp)
        refine (IA.out _).mono ?_
        rintro r w1 ⟨rfl, hb1⟩
        have K1 := K0.step hb1
        clear hb1 K0
        have k1 := K1.get 0 rfl
        have k2 := K1.get 1 rfl
        go_wp2_with fail
        refine (IB.out _).mono ?_
        rintro r w2 ⟨rfl, hb2⟩
        have K2 := K1.step hb2
        clear hb2 K1 k1 k2
        have k1 := K2.get 0 rfl
        have k2 := K2.get 1 rfl
        have k3 := K2.get 2 rfl
        have k4 := K2.get 3 rfl
        go_wp2
        go_ret
        exact ⟨by rw [E.out]; rfl, K2.1⟩
      · have E := Lib.hid (ci_eq h)
        have t1 : decide (p < q) = false := decide_eq_false (by omega)
        have t2 : decide (q < p) = false := decide_eq_false (by omega)
        have HH := Lib.hid h
        clear h
        go_enter Tryd.func41, Tryd.ntmps41
        go_wp2_with fail
        have K0 := ((Kept.start w).alloc2 (.int .i64 n) (.int .i64 d) 27 _ rfl).alloc2 (.int .i64 m) (.int .i64 e) 27 (w.heap.size + 1) (by simp)
        refine (IA.out _).mono ?_
        rintro r w1 ⟨rfl, hb1⟩
        have K1 := K0.step hb1
        clear hb1 K0
        have k1 := K1.get 0 rfl
        have k2 := K1.get 1 rfl
        go_wp2_with fail
        refine (IB.out _).mono ?_
        rintro r w2 ⟨rfl, hb2⟩
        have K2 := K1.step hb2
        clear hb2 K1 k1 k2
        have k1 := K2.get 0 rfl
        have k2 := K2.get 1 rfl
        have k3 := K2.get 2 rfl
        have k4 := K2.get 3 rfl
        go_wp2
        go_ret
        exact ⟨by rw [E.out]; rfl, K2.1⟩
      · have E := Lib.hid (ci_gt h)
        have t1 : decide (p < q) = false := decide_eq_false (by omega)
        have t2 : q < p := h
        have HH := Lib.hid h
        clear h
        go_enter Tryd.func41, Tryd.ntmps41
        go_wp2_with fail
        have K0 := ((Kept.start w).alloc2 (.int .i64 n) (.int .i64 d) 27 _ rfl).alloc2 (.int .i64 m) (.int .i64 e) 27 (w.heap.size + 1) (by simp)
        refine (IA.out _).mono ?_
        rintro r w1 ⟨rfl, hb1⟩
        have K1 := K0.step hb1
        clear hb1 K0
        have k1 := K1.get 0 rfl
        have k2 := K1.get 1 rfl
        go_wp2_with fail
        refine (IB.out _).mono ?_
        rintro r w2 ⟨rfl, hb2⟩
        have K2 := K1.step hb2
        clear hb2 K1 k1 k2
        have k1 := K2.get 0 rfl
        have k2 := K2.get 1 rfl
        have k3 := K2.get 2 rfl
        have k4 := K2.get 3 rfl
        go_wp2
        go_ret
        exact ⟨by rw [E.out]; rfl, K2.1⟩
end Go.Proofs.YtdfmidihghoilaaDoor
