/-
  The two forms of Meet's answer are one.
-/
import Derived.Test.YtdfmidihghoilaaDoorPlain
import Derived.Test.YtdfmidihghoilaaDoorIvMeet
namespace Go.Proofs.YtdfmidihghoilaaDoor
open Go Num

theorem mtL_eq {a b e f : Int} (h1 : frB a b = true) (h2 : frB e f = true) : mtL a b e f = mjL a b e f := by
  unfold mtL mjL
  have fl := cmpA_flip a b e f
  by_cases p : 0 < cmpA a b e f
  · rw [if_pos p, if_neg (by omega)]
  · rw [if_neg p]
    by_cases q : 0 < cmpA e f a b
    · rw [if_pos q]
    · rw [if_neg q]
      obtain ⟨rfl, rfl⟩ := cmpA_same h1 h2 (by omega)
      rfl
theorem mtH_eq {c d g h : Int} (h1 : frB c d = true) (h2 : frB g h = true) : mtH c d g h = mjH c d g h := by
  unfold mtH mjH
  have fl := cmpA_flip c d g h
  by_cases p : cmpA c d g h < 0
  · rw [if_pos p, if_neg (by omega)]
  · rw [if_neg p]
    by_cases q : cmpA g h c d < 0
    · rw [if_pos q]
    · rw [if_neg q]
      obtain ⟨rfl, rfl⟩ := cmpA_same h1 h2 (by omega)
      rfl

theorem mtB_eq (a b c d e f g h : Int) : mtB a b c d e f g h = mjB a b c d e f g h := by
  cases hx : ivB a b c d
  · unfold mtB mjB; rw [hx]; rfl
  · cases hy : ivB e f g h
    · unfold mtB mjB; rw [hx, hy]; rfl
    · obtain ⟨x1, x2, x3⟩ := ivB_of hx
      obtain ⟨y1, y2, y3⟩ := ivB_of hy
      have fl1 := cmpA_flip c d e f
      have fl2 := cmpA_flip g h a b
      have fl3 := cmpA_flip e f a b
      have fl4 := cmpA_flip g h c d
      have key : mjB a b c d e f g h = (!decide (cmpA c d e f < 0) && !decide (cmpA g h a b < 0)) := by unfold mjB; rw [hx, hy]; rfl
      rw [key]
      have key2 : mtB a b c d e f g h = ivB (mtL a b e f).1 (mtL a b e f).2 (mtH c d g h).1 (mtH c d g h).2 := mt_and hx hy
      rw [key2]
      unfold mtL mtH
      by_cases p : 0 < cmpA e f a b
      · rw [if_pos p]
        have hae : cmpA a b e f ≤ 0 := by omega
        have r2 : ¬ cmpA g h a b < 0 := by have := cmpA_trans x1 y1 y2 hae y3; omega
        rw [decide_eq_false r2]
        by_cases q : cmpA g h c d < 0
        · rw [if_pos q]
          have r1 : ¬ cmpA c d e f < 0 := by have := cmpA_trans y1 y2 x2 y3 (by omega); omega
          rw [decide_eq_false r1]
          exact hy
        · rw [if_neg q]
          by_cases r : cmpA c d e f < 0
          · rw [decide_eq_true r, ivB_no3 (show ¬ cmpA e f c d ≤ 0 by omega)]; rfl
          · rw [decide_eq_false r, ivB_yes y1 x2 (by omega)]; rfl
      · rw [if_neg p]
        have r1 : ¬ cmpA c d e f < 0 := by have := cmpA_trans y1 x1 x2 (by omega) x3; omega
        rw [decide_eq_false r1]
        by_cases q : cmpA g h c d < 0
        · rw [if_pos q]
          by_cases r : cmpA g h a b < 0
          · rw [decide_eq_true r, ivB_no3 (show ¬ cmpA a b g h ≤ 0 by omega)]; rfl
          · rw [decide_eq_false r, ivB_yes x1 y2 (by omega)]; rfl
        · rw [if_neg q]
          have r2 : ¬ cmpA g h a b < 0 := by have := cmpA_trans x1 x2 y2 x3 (by omega); omega
          rw [decide_eq_false r2]
          exact hx
end Go.Proofs.YtdfmidihghoilaaDoor
