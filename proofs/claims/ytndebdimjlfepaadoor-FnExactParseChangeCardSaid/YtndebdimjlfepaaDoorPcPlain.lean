/-
  Plain mathematics of reading a change: its words as the model and as the project cut them.
-/
import Derived.Test.YtndebdimjlfepaaDoorRows
import Derived.Test.YtndebdimjlfepaaDoorChPlain
import Derived.Test.YtndebdimjlfepaaDoorPrPlain
import Derived.Test.YtndebdimjlfepaaDoorPrCut
namespace Go.Proofs.YtndebdimjlfepaaDoor
open Go Num

/-- A row as ParseRow reads it. -/
def RdR (t : List UInt8) (r : Rw) (ok : Bool) : Prop := PRow t r.i r.g r.y r.x r.nl ok
theorem rdR_fmt {r d : Rw} {ok : Bool} (h : RdR d.fmt r ok) (hd : d.ok = true) : r = d ∧ ok = true := by
  obtain ⟨e1, e2, e3, e4, e5, e6⟩ := PRow_unique h (show PRow d.fmt d.i d.g d.y d.x d.nl true from .inl ⟨rfl, hd, rfl⟩)
  exact ⟨Rw.ext' e1 e2 e3 e4 e5, e6⟩
theorem rdR_yes {t : List UInt8} {r : Rw} (h : RdR t r true) : r.ok = true ∧ t = r.fmt := by
  rcases h with ⟨_, h1, h2⟩ | ⟨h1, _⟩
  · exact ⟨h1, h2⟩
  · cases h1
theorem wA_ne : wAppend ≠ wCorrect ∧ wAppend ≠ wDelete ∧ wAppend ≠ wRetain ∧ wCorrect ≠ wDelete ∧ wCorrect ≠ wRetain ∧ wDelete ≠ wRetain := by
  unfold wAppend wCorrect wDelete wRetain; decide

/-- The head of a valid change's words tells its kind. -/
theorem words_head {d : Cg} (hd : ChOk d) {p0 : List UInt8} {ps : List (List UInt8)} (h : p0 :: ps = wordsC d) :
    (d.k = 1 ∧ p0 = wAppend ∧ ps = [Lib.itoa d.b, d.r.fmt]) ∨ (d.k = 2 ∧ p0 = wCorrect ∧ ps = [d.r.fmt]) ∨ (d.k = 3 ∧ p0 = wDelete ∧ ps = [Lib.itoa d.r.i]) ∨ (d.k = 4 ∧ p0 = wRetain ∧ ps = [Lib.itoa d.b]) := by
  rcases hd.kind with hk | hk | hk | hk <;> simp [wordsC, hk] at h
  · exact .inl ⟨hk, h.1, h.2⟩
  · exact .inr (.inl ⟨hk, h.1, h.2⟩)
  · exact .inr (.inr (.inl ⟨hk, h.1, h.2⟩))
  · exact .inr (.inr (.inr ⟨hk, h.1, h.2⟩))

/-- What the model makes of the words: the change that is then compared. -/
def CandC (p0 p1 pl : List UInt8) (c : Cg) : Prop :=
  (p0 = wAppend ∧ ∃ n r ok, NumAns p1 n ∧ RdR pl r ok ∧ c = ⟨1, n, r⟩) ∨ (p0 = wCorrect ∧ ∃ r ok, RdR p1 r ok ∧ c = ⟨2, 0, r⟩) ∨ (p0 = wDelete ∧ ∃ n, NumAns p1 n ∧ c = ⟨3, 0, ⟨n, 0, 0, 0, false⟩⟩) ∨ (p0 = wRetain ∧ ∃ n, NumAns p1 n ∧ c = ⟨4, n, rw0⟩) ∨ (p0 ≠ wAppend ∧ p0 ≠ wCorrect ∧ p0 ≠ wDelete ∧ p0 ≠ wRetain ∧ c = cg0)
theorem bare_rw {r : Rw} (h : Bare r) : r = ⟨r.i, 0, 0, 0, false⟩ := by
  obtain ⟨h1, h2, h3, h4⟩ := h
  exact Rw.ext' rfl h1 h2 h3 h4
theorem cand_no {t p0 p1 pl : List UInt8} {ps : List (List UInt8)} {c : Cg} (hp : pieces 32 t = p0 :: p1 :: ps) (hl : pl = (p1 :: ps).getLast (by simp)) (hc : CandC p0 p1 pl c) (hne : t ≠ fmtC c) : NoCh t := by
  refine noCh_words (c := c) (fun d hd e => ?_) hne
  rw [hp] at e
  obtain ⟨a1, a2, a3, a4, a5, a6⟩ := wA_ne
  rcases words_head hd e with ⟨hk, h0, hs⟩ | ⟨hk, h0, hs⟩ | ⟨hk, h0, hs⟩ | ⟨hk, h0, hs⟩
  · obtain ⟨e1, e2⟩ := List.cons.inj hs
    obtain ⟨hb, hr⟩ := hd.one hk
    rcases hc with ⟨_, n, r, ok, hn, hr', rfl⟩ | ⟨h9, _⟩ | ⟨h9, _⟩ | ⟨h9, _⟩ | ⟨h9, _⟩
    · subst e2
      simp only [List.getLast_cons_cons, List.getLast_singleton] at hl
      subst hl e1
      obtain ⟨rfl, _⟩ := rdR_fmt hr' hr
      have := numAns_itoa hn (by omega) (by omega)
      subst this
      exact Cg.ext' hk.symm rfl rfl
    · exact absurd (h0.symm.trans h9) a1
    · exact absurd (h0.symm.trans h9) a2
    · exact absurd (h0.symm.trans h9) a3
    · exact absurd h0 h9
  · obtain ⟨e1, e2⟩ := List.cons.inj hs
    obtain ⟨hb, hr⟩ := hd.two hk
    rcases hc with ⟨h9, _⟩ | ⟨_, r, ok, hr', rfl⟩ | ⟨h9, _⟩ | ⟨h9, _⟩ | ⟨_, h9, _⟩
    · exact absurd (h9.symm.trans h0) a1
    · subst e1
      obtain ⟨rfl, _⟩ := rdR_fmt hr' hr
      exact Cg.ext' hk.symm hb.symm rfl
    · exact absurd (h0.symm.trans h9) a4
    · exact absurd (h0.symm.trans h9) a5
    · exact absurd h0 h9
  · obtain ⟨e1, e2⟩ := List.cons.inj hs
    obtain ⟨hb, hi, hbr⟩ := hd.three hk
    rcases hc with ⟨h9, _⟩ | ⟨h9, _⟩ | ⟨_, n, hn, rfl⟩ | ⟨h9, _⟩ | ⟨_, _, h9, _⟩
    · exact absurd (h9.symm.trans h0) a2
    · exact absurd (h9.symm.trans h0) a4
    · subst e1
      have := numAns_itoa hn (by omega) (by omega)
      subst this
      exact Cg.ext' hk.symm hb.symm (bare_rw hbr).symm
    · exact absurd (h0.symm.trans h9) a6
    · exact absurd h0 h9
  · obtain ⟨e1, e2⟩ := List.cons.inj hs
    obtain ⟨hb, hi, hbr⟩ := hd.four hk
    rcases hc with ⟨h9, _⟩ | ⟨h9, _⟩ | ⟨h9, _⟩ | ⟨_, n, hn, rfl⟩ | ⟨_, _, _, h9, _⟩
    · exact absurd (h9.symm.trans h0) a3
    · exact absurd (h9.symm.trans h0) a5
    · exact absurd (h9.symm.trans h0) a6
    · subst e1
      have := numAns_itoa hn (by omega) (by omega)
      subst this
      refine Cg.ext' hk.symm rfl ?_
      rw [bare_rw hbr, hi]; rfl
    · exact absurd h0 h9

/-- What the project's parseKind answers. -/
def KindAns (a r : List UInt8) (c : Cg) (ok : Bool) : Prop :=
  (a = wAppend ∧ ∃ b q h n k1 row k2, CutOn 32 r b q h ∧ PIans b n k1 ∧ RdR q row k2 ∧ c = ⟨1, n, row⟩ ∧ ok = (k1 && k2)) ∨ (a = wCorrect ∧ ∃ row, RdR r row ok ∧ c = ⟨2, 0, row⟩) ∨ (a = wDelete ∧ ∃ n, PIans r n ok ∧ c = ⟨3, 0, ⟨n, 0, 0, 0, false⟩⟩) ∨ (a = wRetain ∧ ∃ n, PIans r n ok ∧ c = ⟨4, n, rw0⟩) ∨ (a ≠ wAppend ∧ a ≠ wCorrect ∧ a ≠ wDelete ∧ a ≠ wRetain ∧ c = cg0 ∧ ok = false)
theorem fmtR_ne {r : Rw} (h : r.ok = true) : r.fmt ≠ [] := by
  have hh : rowB r.i r.g r.y r.x r.nl = true := h
  show fmtR r.i r.g r.y r.x r.nl ≠ []
  rw [fmtR_yes hh]
  simp
theorem kind_yes {t a r : List UInt8} {h : Bool} {c : Cg} (hc : CutOn 32 t a r h) (hk : KindAns a r c true) (hv : ChOk c) : t = fmtC c := by
  rw [fmtC_yes hv]
  rcases hk with ⟨rfl, b, q, h', n, k1, row, k2, hc', hp, hr, rfl, e⟩ | ⟨rfl, row, hr, rfl⟩ | ⟨rfl, n, hp, rfl⟩ | ⟨rfl, n, hp, rfl⟩ | ⟨_, _, _, _, _, e⟩
  · obtain rfl : k1 = true := by cases k1 <;> simp at e ⊢
    obtain rfl : k2 = true := by simpa using e.symm
    obtain ⟨ro, rfl⟩ := rdR_yes hr
    have er := cutOn_full hc' (fmtR_ne ro)
    have et := cutOn_full hc (show r ≠ [] by rw [er]; simp)
    rw [et, er, PIans_eq hp]
    simp [joinW, wordsC]
  · obtain ⟨ro, rfl⟩ := rdR_yes hr
    have et := cutOn_full hc (fmtR_ne ro)
    rw [et]
    simp [joinW, wordsC]
  · have et := cutOn_full hc (PIans_ne hp)
    rw [et, PIans_eq hp]
    simp [joinW, wordsC]
  · have et := cutOn_full hc (PIans_ne hp)
    rw [et, PIans_eq hp]
    simp [joinW, wordsC]
  · cases e
theorem kind_no {t a r : List UInt8} {h : Bool} {c : Cg} {ok : Bool} (hc : CutOn 32 t a r h) (hk : KindAns a r c ok) (hn : ¬ (ok = true ∧ ChOk c)) : NoCh t := by
  intro d hd e
  apply hn
  rw [fmtC_yes hd] at e
  obtain ⟨a1, a2, a3, a4, a5, a6⟩ := wA_ne
  have sp := words_space d
  rcases hd.kind with hdk | hdk | hdk | hdk
  · obtain ⟨hb, hr⟩ := hd.one hdk
    have ew : wordsC d = [wAppend, Lib.itoa d.b, d.r.fmt] := by simp [wordsC, hdk]
    rw [ew] at e sp
    obtain ⟨rfl, rfl⟩ := cutOn_at (a' := wAppend) (b' := Lib.itoa d.b ++ 32 :: d.r.fmt) hc (sp _ (by simp)) (by rw [e]; simp [joinW])
    rcases hk with ⟨_, b, q, h', n, k1, row, k2, hc', hp, hr', rfl, rfl⟩ | ⟨h9, _⟩ | ⟨h9, _⟩ | ⟨h9, _⟩ | ⟨h9, _⟩
    · obtain ⟨rfl, rfl⟩ := cutOn_at (a' := Lib.itoa d.b) (b' := d.r.fmt) hc' (sp _ (by simp)) rfl
      obtain ⟨rfl, rfl⟩ := PIans_at hp (by omega) (by omega)
      obtain ⟨rfl, rfl⟩ := rdR_fmt hr' hr
      refine ⟨rfl, ?_⟩
      rw [show (⟨1, d.b, d.r⟩ : Cg) = d from Cg.ext' hdk.symm rfl rfl]
      exact hd
    · exact absurd h9 a1
    · exact absurd h9 a2
    · exact absurd h9 a3
    · exact absurd rfl h9
  · obtain ⟨hb, hr⟩ := hd.two hdk
    have ew : wordsC d = [wCorrect, d.r.fmt] := by simp [wordsC, hdk]
    rw [ew] at e sp
    obtain ⟨rfl, rfl⟩ := cutOn_at (a' := wCorrect) (b' := d.r.fmt) hc (sp _ (by simp)) (by rw [e]; simp [joinW])
    rcases hk with ⟨h9, _⟩ | ⟨_, row, hr', rfl⟩ | ⟨h9, _⟩ | ⟨h9, _⟩ | ⟨_, h9, _⟩
    · exact absurd h9.symm a1
    · obtain ⟨rfl, rfl⟩ := rdR_fmt hr' hr
      refine ⟨rfl, ?_⟩
      rw [show (⟨2, 0, d.r⟩ : Cg) = d from Cg.ext' hdk.symm hb.symm rfl]
      exact hd
    · exact absurd h9 a4
    · exact absurd h9 a5
    · exact absurd rfl h9
  · obtain ⟨hb, hi, hbr⟩ := hd.three hdk
    have ew : wordsC d = [wDelete, Lib.itoa d.r.i] := by simp [wordsC, hdk]
    rw [ew] at e sp
    obtain ⟨rfl, rfl⟩ := cutOn_at (a' := wDelete) (b' := Lib.itoa d.r.i) hc (sp _ (by simp)) (by rw [e]; simp [joinW])
    rcases hk with ⟨h9, _⟩ | ⟨h9, _⟩ | ⟨_, n, hp, rfl⟩ | ⟨h9, _⟩ | ⟨_, _, h9, _⟩
    · exact absurd h9.symm a2
    · exact absurd h9.symm a4
    · obtain ⟨rfl, rfl⟩ := PIans_at hp (by omega) (by omega)
      refine ⟨rfl, ?_⟩
      rw [show (⟨3, 0, ⟨d.r.i, 0, 0, 0, false⟩⟩ : Cg) = d from Cg.ext' hdk.symm hb.symm (bare_rw hbr).symm]
      exact hd
    · exact absurd h9 a6
    · exact absurd rfl h9
  · obtain ⟨hb, hi, hbr⟩ := hd.four hdk
    have ew : wordsC d = [wRetain, Lib.itoa d.b] := by simp [wordsC, hdk]
    rw [ew] at e sp
    obtain ⟨rfl, rfl⟩ := cutOn_at (a' := wRetain) (b' := Lib.itoa d.b) hc (sp _ (by simp)) (by rw [e]; simp [joinW])
    rcases hk with ⟨h9, _⟩ | ⟨h9, _⟩ | ⟨h9, _⟩ | ⟨_, n, hp, rfl⟩ | ⟨_, _, _, h9, _⟩
    · exact absurd h9.symm a3
    · exact absurd h9.symm a5
    · exact absurd h9.symm a6
    · obtain ⟨rfl, rfl⟩ := PIans_at hp (by omega) (by omega)
      refine ⟨rfl, ?_⟩
      rw [show (⟨4, d.b, rw0⟩ : Cg) = d from Cg.ext' hdk.symm rfl (by rw [bare_rw hbr, hi]; rfl)]
      exact hd
    · exact absurd rfl h9
end Go.Proofs.YtndebdimjlfepaaDoor
