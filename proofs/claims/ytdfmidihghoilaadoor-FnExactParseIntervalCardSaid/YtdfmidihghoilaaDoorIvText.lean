/-
  Plain mathematics of the format of an interval. No program is named here.
-/
import Derived.Test.YtdfmidihghoilaaDoorIvPlain
import Derived.Test.YtdfmidihghoilaaDoorFrText
namespace Go.Proofs.YtdfmidihghoilaaDoor.Num
open Go

/-- The format of a / b to c / d. -/
def fmtI (a b c d : Int) : List UInt8 := if ivB a b c d = true then (if a = c ∧ b = d then fmtF a b else fmtF a b ++ 46 :: 46 :: fmtF c d) else []
theorem fmtI_no {a b c d : Int} (h : ivB a b c d = false) : fmtI a b c d = [] := by unfold fmtI; rw [if_neg (by rw [h]; simp)]
theorem fmtI_one {a b : Int} (h : ivB a b a b = true) : fmtI a b a b = fmtF a b := by unfold fmtI; rw [if_pos h, if_pos ⟨rfl, rfl⟩]
theorem fmtI_two {a b c d : Int} (h : ivB a b c d = true) (hne : ¬ (a = c ∧ b = d)) : fmtI a b c d = fmtF a b ++ 46 :: 46 :: fmtF c d := by unfold fmtI; rw [if_pos h, if_neg hne]

theorem itoa_dot (n : Int) : (46 : UInt8) ∉ Lib.itoa n := by
  intro h
  unfold Lib.itoa at h
  split at h
  · rcases List.mem_cons.1 h with h | h
    · cases h
    · have := dec_all _ _ h; unfold isD at this; simp at this
  · have := dec_all _ _ h; unfold isD at this; simp at this

theorem fmtF_dot (n d : Int) : (46 : UInt8) ∉ fmtF n d := by
  unfold fmtF
  split
  · split
    · exact itoa_dot n
    · simp only [List.mem_append, List.mem_cons, not_or]
      exact ⟨itoa_dot n, by decide, itoa_dot d⟩
  · simp

theorem fmtF_ne {n d : Int} (h : frB n d = true) : fmtF n d ≠ [] := by
  intro e
  by_cases hd : d = 1
  · subst hd; rw [fmtF_one h] at e; exact itoa_ne n e
  · rw [fmtF_two h hd] at e; simp at e

/-- What ParseInterval answers. -/
def PIv (l : List UInt8) (a b c d : Int) (ok : Bool) : Prop := (ok = true ∧ ivB a b c d = true ∧ l = fmtI a b c d) ∨ (ok = false ∧ a = 0 ∧ b = 0 ∧ c = 0 ∧ d = 0 ∧ ∀ x y u v, ivB x y u v = true → l ≠ fmtI x y u v)

/-- A format is read back: the text ahead of the first point, and what follows the second. -/
theorem fmtI_cut {x y u v : Int} (h : ivB x y u v = true) {p q : List UInt8} {has : Bool} (hc : CutOn 46 (fmtI x y u v) p q has) :
    p = fmtF x y ∧ ((x = u ∧ y = v ∧ has = false) ∨ (¬ (x = u ∧ y = v) ∧ has = true ∧ q = 46 :: fmtF u v)) := by
  by_cases he : x = u ∧ y = v
  · obtain ⟨rfl, rfl⟩ := he
    rw [fmtI_one h] at hc
    obtain ⟨hm, ⟨rfl, e⟩ | ⟨rfl, e, _⟩⟩ := hc
    · exact absurd (by rw [e]; simp) (fmtF_dot x y)
    · exact ⟨e.symm, .inl ⟨rfl, rfl, rfl⟩⟩
  · rw [fmtI_two h he] at hc
    obtain ⟨hm, ⟨rfl, e⟩ | ⟨rfl, e, _⟩⟩ := hc
    · obtain ⟨rfl, rfl⟩ := app_unique (fmtF_dot x y) hm e
      exact ⟨rfl, .inr ⟨he, rfl, rfl⟩⟩
    · rw [← e] at hm
      exact absurd (by simp) hm

theorem fmtI_unique {a b c d x y u v : Int} (h : ivB a b c d = true) (h' : ivB x y u v = true) (heq : fmtI a b c d = fmtI x y u v) : a = x ∧ b = y ∧ c = u ∧ d = v := by
  obtain ⟨p, q, has, hc⟩ := cut_any 46 (fmtI a b c d)
  obtain ⟨p1, q1⟩ := fmtI_cut h hc
  rw [heq] at hc
  obtain ⟨p2, q2⟩ := fmtI_cut h' hc
  obtain ⟨f1, f2, _⟩ := ivB_of h
  obtain ⟨g1, g2, _⟩ := ivB_of h'
  obtain ⟨rfl, rfl⟩ := fmt_unique f1 g1 (by rw [← p1, ← p2])
  rcases q1 with ⟨rfl, rfl, h1⟩ | ⟨_, h1, r1⟩ <;> rcases q2 with ⟨rfl, rfl, h2⟩ | ⟨_, h2, r2⟩
  · exact ⟨rfl, rfl, rfl, rfl⟩
  · rw [h1] at h2; cases h2
  · rw [h1] at h2; cases h2
  · rw [r1] at r2
    obtain ⟨rfl, rfl⟩ := fmt_unique f2 g2 (List.cons.inj r2).2
    exact ⟨rfl, rfl, rfl, rfl⟩

theorem PIv_unique {l : List UInt8} {a b c d x y u v : Int} {j k : Bool} (h : PIv l a b c d j) (h' : PIv l x y u v k) : a = x ∧ b = y ∧ c = u ∧ d = v ∧ j = k := by
  rcases h with ⟨rfl, h, e1⟩ | ⟨rfl, rfl, rfl, rfl, rfl, h⟩ <;> rcases h' with ⟨rfl, h', e2⟩ | ⟨rfl, rfl, rfl, rfl, rfl, h'⟩
  · obtain ⟨r1, r2, r3, r4⟩ := fmtI_unique h h' (by rw [← e1, ← e2])
    exact ⟨r1, r2, r3, r4, rfl⟩
  · exact absurd e1 (h' _ _ _ _ h)
  · exact absurd e2 (h _ _ _ _ h')
  · exact ⟨rfl, rfl, rfl, rfl, rfl⟩
end Go.Proofs.YtdfmidihghoilaaDoor.Num
