/-
  Plain mathematics of reading a row by cuts. No program is named here.
-/
import Derived.Test.YtndebdimjlfepaaDoorRows
import Derived.Test.YtndebdimjlfepaaDoorPlain
namespace Go.Proofs.YtndebdimjlfepaaDoor
open Go Num

/-- What a text says of X: the word null, or a number. -/
def ValAns (d : List UInt8) (x : Int) (nl ok : Bool) : Prop := (d = nullW ∧ x = 0 ∧ nl = true ∧ ok = true) ∨ (d ≠ nullW ∧ nl = false ∧ PIans d x ok)

theorem cutOn_at {c : UInt8} {l a b a' b' : List UInt8} {has : Bool} (h : CutOn c l a b has) (ha : c ∉ a') (hl : l = a' ++ c :: b') : a = a' ∧ b = b' := by
  obtain ⟨hn, ⟨_, h2⟩ | ⟨_, h2, _⟩⟩ := h
  · rw [hl] at h2
    have := app_unique ha hn h2
    exact ⟨this.1.symm, this.2.symm⟩
  · rw [← h2, hl] at hn
    simp at hn

theorem cutOn_nil {c : UInt8} {a b : List UInt8} {has : Bool} (h : CutOn c [] a b has) : a = [] := by
  obtain ⟨_, ⟨_, h2⟩ | ⟨_, h2, _⟩⟩ := h
  · simp at h2
  · exact h2.symm

theorem cutOn_full {c : UInt8} {l a b : List UInt8} {has : Bool} (h : CutOn c l a b has) (hb : b ≠ []) : l = a ++ c :: b := by
  obtain ⟨_, ⟨_, h2⟩ | ⟨_, _, h2⟩⟩ := h
  · exact h2
  · exact absurd h2 hb

theorem PIans_ne {l : List UInt8} {n : Int} (h : PIans l n true) : l ≠ [] := by
  rcases h with ⟨_, _, _, he⟩ | ⟨he, _⟩
  · rw [he]; exact itoa_ne n
  · cases he
theorem PIans_eq {l : List UInt8} {n : Int} (h : PIans l n true) : l = Lib.itoa n := by
  rcases h with ⟨_, _, _, he⟩ | ⟨he, _⟩
  · exact he
  · cases he
theorem PIans_at {n m : Int} {k : Bool} (h : PIans (Lib.itoa n) m k) (h1 : -99 ≤ n) (h2 : n ≤ 99) : k = true ∧ m = n := by
  have := PIans_unique h (.inl ⟨rfl, PIok_small h1 h2⟩)
  exact ⟨this.2, this.1⟩

/-- The four texts of a row's format. -/
theorem row_cuts {l a r b r2 c d : List UInt8} {h1 h2 h3 : Bool} (c1 : CutOn 58 l a r h1) (c2 : CutOn 44 r b r2 h2) (c3 : CutOn 44 r2 c d h3) {i g y x : Int} {nl : Bool} (hv : rowB i g y x nl = true) (he : l = fmtR i g y x nl) :
    a = Lib.itoa i ∧ b = Lib.itoa g ∧ c = Lib.itoa y ∧ d = xT x nl := by
  rw [fmtR_yes hv] at he
  obtain ⟨rfl, hr⟩ := cutOn_at c1 (itoa_colon i) he
  obtain ⟨rfl, hr2⟩ := cutOn_at c2 (itoa_comma g) hr
  obtain ⟨rfl, hd⟩ := cutOn_at c3 (itoa_comma y) hr2
  exact ⟨rfl, rfl, rfl, hd⟩

theorem val_at {d : List UInt8} {x x' : Int} {nl nl' ok : Bool} (h : ValAns d x nl ok) (hd : d = xT x' nl') (h1 : -99 ≤ x') (h2 : x' ≤ 99) (h0 : nl' = true → x' = 0) : ok = true ∧ x = x' ∧ nl = nl' := by
  rcases h with ⟨h, rfl, rfl, rfl⟩ | ⟨h, rfl, hp⟩
  · cases nl'
    · exact absurd (hd.symm.trans h) (by unfold xT; simpa using itoa_null x')
    · exact ⟨rfl, (h0 rfl).symm, rfl⟩
  · cases nl'
    · rw [hd] at hp
      have := PIans_at (show PIans (Lib.itoa x') x ok from by simpa [xT] using hp) h1 h2
      exact ⟨this.1, this.2, rfl⟩
    · exact absurd (by rw [hd]; rfl) h

/-- What the cuts, the numbers and the value say of every row of which the text is the format. -/
theorem row_told {l a r b r2 c d : List UInt8} {h1 h2 h3 : Bool} (c1 : CutOn 58 l a r h1) (c2 : CutOn 44 r b r2 h2) (c3 : CutOn 44 r2 c d h3) {i g y x : Int} {nl k1 k2 k3 k4 : Bool}
    (p1 : PIans a i k1) (p2 : PIans b g k2) (p3 : PIans c y k3) (p4 : ValAns d x nl k4) {i' g' y' x' : Int} {nl' : Bool} (hv : rowB i' g' y' x' nl' = true) (he : l = fmtR i' g' y' x' nl') :
    (k1 = true ∧ k2 = true ∧ k3 = true ∧ k4 = true) ∧ rowB i g y x nl = true := by
  obtain ⟨b1, b2, b3, b4, b5⟩ := rowB_of hv
  obtain ⟨e1, e2, e3, e4⟩ := row_cuts c1 c2 c3 hv he
  rw [e1] at p1
  rw [e2] at p2
  rw [e3] at p3
  obtain ⟨q1, rfl⟩ := PIans_at p1 (by omega) (by omega)
  obtain ⟨q2, rfl⟩ := PIans_at p2 (by omega) (by omega)
  obtain ⟨q3, rfl⟩ := PIans_at p3 (by omega) (by omega)
  obtain ⟨q4, rfl, rfl⟩ := val_at p4 e4 b4.1 b4.2 b5
  exact ⟨⟨q1, q2, q3, q4⟩, hv⟩

theorem row_bad {l a r b r2 c d : List UInt8} {h1 h2 h3 : Bool} (c1 : CutOn 58 l a r h1) (c2 : CutOn 44 r b r2 h2) (c3 : CutOn 44 r2 c d h3) {i g y x : Int} {nl k1 k2 k3 k4 : Bool}
    (p1 : PIans a i k1) (p2 : PIans b g k2) (p3 : PIans c y k3) (p4 : ValAns d x nl k4) (hk : ¬ (k1 = true ∧ k2 = true ∧ k3 = true ∧ k4 = true)) : PRow l 0 0 0 0 false false :=
  PRow_no fun _ _ _ _ _ hv he => hk (row_told c1 c2 c3 p1 p2 p3 p4 hv he).1

theorem row_out {l a r b r2 c d : List UInt8} {h1 h2 h3 : Bool} (c1 : CutOn 58 l a r h1) (c2 : CutOn 44 r b r2 h2) (c3 : CutOn 44 r2 c d h3) {i g y x : Int} {nl k1 k2 k3 k4 : Bool}
    (p1 : PIans a i k1) (p2 : PIans b g k2) (p3 : PIans c y k3) (p4 : ValAns d x nl k4) (hk : rowB i g y x nl = false) : PRow l 0 0 0 0 false false :=
  PRow_no fun _ _ _ _ _ hv he => by rw [(row_told c1 c2 c3 p1 p2 p3 p4 hv he).2] at hk; cases hk

theorem row_read {l a r b r2 c d : List UInt8} {h1 h2 h3 : Bool} (c1 : CutOn 58 l a r h1) (c2 : CutOn 44 r b r2 h2) (c3 : CutOn 44 r2 c d h3) {i g y x : Int} {nl : Bool}
    (p1 : PIans a i true) (p2 : PIans b g true) (p3 : PIans c y true) (p4 : ValAns d x nl true) (hk : rowB i g y x nl = true) : PRow l i g y x nl true := by
  have hd : d = xT x nl := by
    rcases p4 with ⟨h, rfl, rfl, _⟩ | ⟨_, rfl, hp⟩
    · exact h
    · rw [PIans_eq hp]; rfl
  have hdn : d ≠ [] := by
    rw [hd]; cases nl
    · exact itoa_ne x
    · intro h; cases h
  have e3 := cutOn_full c3 hdn
  have hr2 : r2 ≠ [] := by rw [e3]; simp
  have e2 := cutOn_full c2 hr2
  have hr : r ≠ [] := by rw [e2]; simp
  have e1 := cutOn_full c1 hr
  refine .inl ⟨rfl, hk, ?_⟩
  rw [fmtR_yes hk, e1, e2, e3, PIans_eq p1, PIans_eq p2, PIans_eq p3, hd]
end Go.Proofs.YtndebdimjlfepaaDoor
