/-
  Plain mathematics of the format of a fraction: no program is named here.
-/
import Derived.Test.YtdfmidihghoilaaDoorPiPlain
import Derived.Test.YtdfmidihghoilaaDoorFrPlain
import Derived.Test.YtdfmidihghoilaaDoorCutPlain
namespace Go.Proofs.YtdfmidihghoilaaDoor.Num
open Go

/-- The format of n / d. -/
def fmtF (n d : Int) : List UInt8 := if frB n d = true then (if d = 1 then Lib.itoa n else Lib.itoa n ++ 47 :: Lib.itoa d) else []

theorem fmtF_no {n d : Int} (h : frB n d = false) : fmtF n d = [] := by unfold fmtF; rw [h]; rfl
theorem fmtF_one {n : Int} (h : frB n 1 = true) : fmtF n 1 = Lib.itoa n := by unfold fmtF; rw [if_pos h, if_pos rfl]
theorem fmtF_two {n d : Int} (h : frB n d = true) (hd : d ≠ 1) : fmtF n d = Lib.itoa n ++ 47 :: Lib.itoa d := by unfold fmtF; rw [if_pos h, if_neg hd]

theorem itoa_slash (n : Int) : (47 : UInt8) ∉ Lib.itoa n := by
  intro h
  unfold Lib.itoa at h
  split at h
  · rcases List.mem_cons.1 h with h | h
    · cases h
    · have := dec_all _ _ h; unfold isD at this; simp at this
  · have := dec_all _ _ h; unfold isD at this; simp at this

theorem itoa_ne (n : Int) : Lib.itoa n ≠ [] := by
  unfold Lib.itoa
  split
  · simp
  · exact dec_ne _

theorem frB_one {n : Int} (h1 : -999999999 ≤ n) (h2 : n ≤ 999999999) : frB n 1 = true := frB_yes ⟨h1, h2, by omega, by omega⟩ (by simp)

theorem fmt_cut {n d : Int} (h : frB n d = true) {a b : List UInt8} {has : Bool} (hc : CutOn 47 (fmtF n d) a b has) :
    PIok a n ∧ ((d = 1 ∧ has = false) ∨ (d ≠ 1 ∧ has = true ∧ PIok b d)) := by
  obtain ⟨⟨l1, l2, l3, l4⟩, _⟩ := frB_of h
  by_cases hd : d = 1
  · subst hd
    rw [fmtF_one h] at hc
    obtain ⟨hm, ⟨rfl, e⟩ | ⟨rfl, e, _⟩⟩ := hc
    · exact absurd (by rw [e]; simp) (itoa_slash n)
    · exact ⟨⟨l1, l2, e.symm⟩, .inl ⟨rfl, rfl⟩⟩
  · rw [fmtF_two h hd] at hc
    obtain ⟨hm, ⟨rfl, e⟩ | ⟨rfl, e, _⟩⟩ := hc
    · obtain ⟨rfl, rfl⟩ := app_unique (itoa_slash n) hm e
      exact ⟨⟨l1, l2, rfl⟩, .inr ⟨hd, rfl, by omega, by omega, rfl⟩⟩
    · rw [← e] at hm
      exact absurd (by simp) hm

/-- What both functions read: a fraction, or that there is none. -/
def PFans (l : List UInt8) (n d : Int) (ok : Bool) : Prop := (ok = true ∧ frB n d = true ∧ l = fmtF n d) ∨ (ok = false ∧ n = 0 ∧ d = 0 ∧ ∀ m e, frB m e = true → l ≠ fmtF m e)

theorem cut_any (c : UInt8) (l : List UInt8) : ∃ a b has, CutOn c l a b has := ⟨_, _, _, cut_on c l⟩

theorem fmt_unique {n d m e : Int} (h : frB n d = true) (h' : frB m e = true) (heq : fmtF n d = fmtF m e) : n = m ∧ d = e := by
  obtain ⟨a, b, has, hc⟩ := cut_any 47 (fmtF n d)
  obtain ⟨p1, q1⟩ := fmt_cut h hc
  rw [heq] at hc
  obtain ⟨p2, q2⟩ := fmt_cut h' hc
  refine ⟨PIok_unique p1 p2, ?_⟩
  rcases q1 with ⟨rfl, h1⟩ | ⟨_, h1, r1⟩ <;> rcases q2 with ⟨rfl, h2⟩ | ⟨_, h2, r2⟩
  · rfl
  · rw [h1] at h2; cases h2
  · rw [h1] at h2; cases h2
  · exact PIok_unique r1 r2

theorem PFans_unique {l : List UInt8} {n d m e : Int} {x y : Bool} (h : PFans l n d x) (h' : PFans l m e y) : n = m ∧ d = e ∧ x = y := by
  rcases h with ⟨rfl, h, e1⟩ | ⟨rfl, rfl, rfl, h⟩ <;> rcases h' with ⟨rfl, h', e2⟩ | ⟨rfl, rfl, rfl, h'⟩
  · obtain ⟨r1, r2⟩ := fmt_unique h h' (by rw [← e1, ← e2])
    exact ⟨r1, r2, rfl⟩
  · exact absurd e1 (h' _ _ h)
  · exact absurd e2 (h _ _ h')
  · exact ⟨rfl, rfl, rfl⟩

/-- The numbers ahead of and behind the stroke (1 where there is none). -/
def DenAns (b : List UInt8) (has : Bool) (den : Int) : Prop := (has = false ∧ den = 1) ∨ (has = true ∧ ∃ k, PIans b den k)

theorem pf_no {l a b : List UInt8} {has k : Bool} {num den : Int} (hc : CutOn 47 l a b has) (ha : PIans a num k) (hb : DenAns b has den) (hne : l ≠ fmtF num den) : PFans l 0 0 false := by
  refine .inr ⟨rfl, rfl, rfl, fun m e h heq => hne ?_⟩
  rw [heq] at hc
  obtain ⟨p1, q1⟩ := fmt_cut h hc
  have hm : num = m := by
    rcases ha with ⟨_, ha⟩ | ⟨_, _, ha⟩
    · exact PIok_unique ha p1
    · exact absurd p1 (ha m)
  have he : den = e := by
    rcases q1 with ⟨rfl, h1⟩ | ⟨_, h1, r1⟩ <;> rcases hb with ⟨h2, h3⟩ | ⟨h2, k, h3⟩
    · exact h3
    · rw [h1] at h2; cases h2
    · rw [h1] at h2; cases h2
    · rcases h3 with ⟨_, h3⟩ | ⟨_, _, h3⟩
      · exact PIok_unique h3 r1
      · exact absurd r1 (h3 e)
  rw [hm, he]; exact heq

theorem pf_yes {l : List UInt8} {num den : Int} (hl : l ≠ []) (he : l = fmtF num den) : PFans l num den true := by
  refine .inl ⟨rfl, ?_, he⟩
  cases h : frB num den
  · exact absurd (by rw [he, fmtF_no h]) hl
  · rfl

theorem pf_nil : PFans [] 0 0 false := by
  refine .inr ⟨rfl, rfl, rfl, fun m e h heq => ?_⟩
  obtain ⟨p1, _⟩ := fmt_cut (a := []) (b := []) (has := false) h (by rw [← heq]; exact ⟨by simp, .inr ⟨rfl, rfl, rfl⟩⟩)
  exact itoa_ne m p1.2.2.symm

theorem pf_badnum {l a b : List UInt8} {has : Bool} (hc : CutOn 47 l a b has) (ha : PIans a 0 false) : PFans l 0 0 false := by
  refine .inr ⟨rfl, rfl, rfl, fun m e h heq => ?_⟩
  rw [heq] at hc
  obtain ⟨p1, _⟩ := fmt_cut h hc
  rcases ha with ⟨h', _⟩ | ⟨_, _, ha⟩
  · cases h'
  · exact ha m p1

theorem pf_badden {l a b : List UInt8} (hc : CutOn 47 l a b true) (hb : PIans b 0 false) : PFans l 0 0 false := by
  refine .inr ⟨rfl, rfl, rfl, fun m e h heq => ?_⟩
  rw [heq] at hc
  obtain ⟨_, ⟨_, h1⟩ | ⟨_, _, r1⟩⟩ := fmt_cut h hc
  · cases h1
  · rcases hb with ⟨h', _⟩ | ⟨_, _, hb⟩
    · cases h'
    · exact hb e r1

theorem pf_three {l a b a' b' : List UInt8} (hc : CutOn 47 l a b true) (hc' : CutOn 47 b a' b' true) : PFans l 0 0 false := by
  refine .inr ⟨rfl, rfl, rfl, fun m e h heq => ?_⟩
  rw [heq] at hc
  obtain ⟨_, ⟨_, h1⟩ | ⟨_, _, r1⟩⟩ := fmt_cut h hc
  · cases h1
  · obtain ⟨_, ⟨_, e'⟩ | ⟨h1, _⟩⟩ := hc'
    · refine itoa_slash e ?_
      rw [← r1.2.2, e']
      simp
    · cases h1
end Go.Proofs.YtdfmidihghoilaaDoor.Num
