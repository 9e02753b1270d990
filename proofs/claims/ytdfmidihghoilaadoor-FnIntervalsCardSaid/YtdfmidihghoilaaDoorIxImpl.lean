/-
  The walk over the project's IsExact.
-/
import Derived.Test.YtdfmidihghoilaaDoorRows
import Derived.Test.YtdfmidihghoilaaDoorPlain
import Derived.Test.YtdfmidihghoilaaDoorIiImpl
import Derived.Test.YtdfmidihghoilaaDoorKeep
import Derived.WalkKit
import Derived.WalkSpells
import Derived.WalkLawsBesides
import Derived.IntWalk
import Derived.Lib.Hide
namespace Go.Proofs.YtdfmidihghoilaaDoor
open Go.RowKit Num

set_option maxRecDepth 8000 in
set_option maxHeartbeats 3200000 in
theorem impl_ex (a b c d : Int) (w : World) :
    Calls Tryd.prog 26 #[.agg #[.int .i64 a, .int .i64 b, .int .i64 c, .int .i64 d]] w fun r w' => r = .returned (.bool (exB a b c d)) ∧ Below w.heap.size w w' := by
  have D1 := fun w => impl_iv a b c d w
  have E0 : exB a b c d = (ivB a b c d && (decide (a = c) && decide (b = d))) := rfl
  obtain ⟨q1, hq1⟩ : ∃ q, q = ivB a b c d := ⟨_, rfl⟩
  rw [← hq1] at D1 E0
  have DD1 := Lib.hid D1
  clear D1 hq1
  cases q1
  · have E := Lib.hid E0
    clear E0
    go_enter Tryd.func26, Tryd.ntmps26
    go_wp2_with fail
    have K0 := (Kept.start w).alloc4 (.int .i64 a) (.int .i64 b) (.int .i64 c) (.int .i64 d) 29 _ rfl
    refine (DD1.out _).mono ?_
    rintro r w1 ⟨rfl, hb⟩
    have K1 := K0.step hb
    clear hb K0
    go_wp2
    go_ret
    exact ⟨by rw [E.out]; rfl, K1.1⟩
  · by_cases h1 : a = c
    · by_cases h2 : b = d
      · subst h1 h2
        have E := Lib.hid (E0.trans (show _ = true by simp))
        clear E0
        go_enter Tryd.func26, Tryd.ntmps26
        go_wp2_with fail
        have K0 := (Kept.start w).alloc4 (.int .i64 a) (.int .i64 b) (.int .i64 a) (.int .i64 b) 29 _ rfl
        refine (DD1.out _).mono ?_
        rintro r w1 ⟨rfl, hb⟩
        have K1 := K0.step hb
        clear hb K0
        have k0 := K1.get 0 rfl
        have k1 := K1.get 1 rfl
        have k2 := K1.get 2 rfl
        have k3 := K1.get 3 rfl
        go_wp2
        go_ret
        exact ⟨by rw [E.out]; rfl, K1.1⟩
      · subst h1
        have q : (b == d) = false := beq_eq_false_iff_ne.2 h2
        have E := Lib.hid (E0.trans (show _ = false by rw [decide_eq_false h2]; simp))
        have H2 := Lib.hid h2
        clear E0 h2
        go_enter Tryd.func26, Tryd.ntmps26
        go_wp2_with fail
        have K0 := (Kept.start w).alloc4 (.int .i64 a) (.int .i64 b) (.int .i64 a) (.int .i64 d) 29 _ rfl
        refine (DD1.out _).mono ?_
        rintro r w1 ⟨rfl, hb⟩
        have K1 := K0.step hb
        clear hb K0
        have k0 := K1.get 0 rfl
        have k1 := K1.get 1 rfl
        have k2 := K1.get 2 rfl
        have k3 := K1.get 3 rfl
        go_wp2
        go_ret
        exact ⟨by rw [E.out]; rfl, K1.1⟩
    · have q : (a == c) = false := beq_eq_false_iff_ne.2 h1
      have E := Lib.hid (E0.trans (show _ = false by rw [decide_eq_false h1]; simp))
      have H1 := Lib.hid h1
      clear E0 h1
      go_enter Tryd.func26, Tryd.ntmps26
      go_wp2_with fail
      have K0 := (Kept.start w).alloc4 (.int .i64 a) (.int .i64 b) (.int .i64 c) (.int .i64 d) 29 _ rfl
      refine (DD1.out _).mono ?_
      rintro r w1 ⟨rfl, hb⟩
      have K1 := K0.step hb
      clear hb K0
      have k0 := K1.get 0 rfl
      have k1 := K1.get 1 rfl
      have k2 := K1.get 2 rfl
      have k3 := K1.get 3 rfl
      go_wp2
      go_ret
      exact ⟨by rw [E.out]; rfl, K1.1⟩

end Go.Proofs.YtdfmidihghoilaaDoor
