/-
  Plain mathematics of changes: when one is valid; its format; what is read from a text.
-/
import Derived.Test.YtndebdimjlfepaaRows
import Derived.Test.YtndebdimjlfepaaBkPlain
import Derived.Test.YtndebdimjlfepaaTtPlain
namespace Go.Proofs.Ytndebdimjlfepaa
open Go Num

/-- A change. -/
structure Cg where
  k : Int
  b : Int
  r : Rw
def rw0 : Rw := ⟨0, 0, 0, 0, false⟩
def cg0 : Cg := ⟨0, 0, rw0⟩
theorem Cg.ext' {c d : Cg} (h1 : c.k = d.k) (h2 : c.b = d.b) (h3 : c.r = d.r) : c = d := by cases c; cases d; simp only at h1 h2 h3; subst h1 h2 h3; rfl
/-- A row with its ID alone. -/
def Bare (r : Rw) : Prop := r.g = 0 ∧ r.y = 0 ∧ r.x = 0 ∧ r.nl = false
/-- When a change is valid. -/
def ChOk (c : Cg) : Prop :=
  (c.k = 1 ∧ (1 ≤ c.b ∧ c.b ≤ 20) ∧ c.r.ok = true) ∨ (c.k = 2 ∧ c.b = 0 ∧ c.r.ok = true) ∨ (c.k = 3 ∧ c.b = 0 ∧ (1 ≤ c.r.i ∧ c.r.i ≤ 99) ∧ Bare c.r) ∨ (c.k = 4 ∧ (1 ≤ c.b ∧ c.b ≤ 20) ∧ c.r.i = 0 ∧ Bare c.r)
theorem ChOk.kind {c : Cg} (h : ChOk c) : c.k = 1 ∨ c.k = 2 ∨ c.k = 3 ∨ c.k = 4 := by
  rcases h with h | h | h | h
  · exact .inl h.1
  · exact .inr (.inl h.1)
  · exact .inr (.inr (.inl h.1))
  · exact .inr (.inr (.inr h.1))
theorem ChOk.one {c : Cg} (h : ChOk c) (hk : c.k = 1) : (1 ≤ c.b ∧ c.b ≤ 20) ∧ c.r.ok = true := by
  rcases h with h | h | h | h
  · exact h.2
  · omega
  · omega
  · omega
theorem ChOk.two {c : Cg} (h : ChOk c) (hk : c.k = 2) : c.b = 0 ∧ c.r.ok = true := by
  rcases h with h | h | h | h
  · omega
  · exact h.2
  · omega
  · omega
theorem ChOk.three {c : Cg} (h : ChOk c) (hk : c.k = 3) : c.b = 0 ∧ (1 ≤ c.r.i ∧ c.r.i ≤ 99) ∧ Bare c.r := by
  rcases h with h | h | h | h
  · omega
  · omega
  · exact h.2
  · omega
theorem ChOk.four {c : Cg} (h : ChOk c) (hk : c.k = 4) : (1 ≤ c.b ∧ c.b ≤ 20) ∧ c.r.i = 0 ∧ Bare c.r := by
  rcases h with h | h | h | h
  · omega
  · omega
  · omega
  · exact h.2

def wAppend : List UInt8 := [97, 112, 112, 101, 110, 100]
def wCorrect : List UInt8 := [99, 111, 114, 114, 101, 99, 116]
def wDelete : List UInt8 := [100, 101, 108, 101, 116, 101]
def wRetain : List UInt8 := [114, 101, 116, 97, 105, 110]
/-- The words of a change's format. -/
def wordsC (c : Cg) : List (List UInt8) :=
  if c.k = 1 then [wAppend, Lib.itoa c.b, c.r.fmt] else if c.k = 2 then [wCorrect, c.r.fmt] else if c.k = 3 then [wDelete, Lib.itoa c.r.i] else [wRetain, Lib.itoa c.b]
/-- Words, a space between each two. -/
def joinW : List (List UInt8) → List UInt8
  | [] => []
  | w :: ws => w ++ (ws.map fun t => 32 :: t).flatten
open Classical in
/-- The format of a change. -/
noncomputable def fmtC (c : Cg) : List UInt8 := if ChOk c then joinW (wordsC c) else []
theorem fmtC_no {c : Cg} (h : ¬ ChOk c) : fmtC c = [] := by unfold fmtC; rw [if_neg h]
theorem fmtC_yes {c : Cg} (h : ChOk c) : fmtC c = joinW (wordsC c) := by unfold fmtC; rw [if_pos h]
theorem words_space (c : Cg) : ∀ w ∈ wordsC c, (32 : UInt8) ∉ w := fun w hw => by
  unfold wordsC at hw
  split at hw
  · simp only [List.mem_cons, List.not_mem_nil, or_false] at hw
    rcases hw with rfl | rfl | rfl
    · unfold wAppend; decide
    · exact itoa_space _
    · exact fmtR_space _
  · split at hw
    · simp only [List.mem_cons, List.not_mem_nil, or_false] at hw
      rcases hw with rfl | rfl
      · unfold wCorrect; decide
      · exact fmtR_space _
    · split at hw
      · simp only [List.mem_cons, List.not_mem_nil, or_false] at hw
        rcases hw with rfl | rfl
        · unfold wDelete; decide
        · exact itoa_space _
      · simp only [List.mem_cons, List.not_mem_nil, or_false] at hw
        rcases hw with rfl | rfl
        · unfold wRetain; decide
        · exact itoa_space _
theorem words_cons (c : Cg) : ∃ w ws, wordsC c = w :: ws := by
  unfold wordsC
  split
  · exact ⟨_, _, rfl⟩
  · split
    · exact ⟨_, _, rfl⟩
    · split
      · exact ⟨_, _, rfl⟩
      · exact ⟨_, _, rfl⟩
theorem pieces_fmtC {c : Cg} (h : ChOk c) : pieces 32 (fmtC c) = wordsC c := by
  rw [fmtC_yes h]
  obtain ⟨w, ws, e⟩ := words_cons c
  have hs := words_space c
  rw [e] at hs ⊢
  exact pieces_all 32 ws w (hs w (by simp)) (fun p hp => hs p (by simp [hp]))

/-- Two valid changes of one format are one. -/
theorem wordsC_unique {c d : Cg} (h : ChOk c) (h' : ChOk d) (e : wordsC c = wordsC d) : c = d := by
  have it : ∀ {x y : Int}, -99 ≤ x → x ≤ 99 → -99 ≤ y → y ≤ 99 → Lib.itoa x = Lib.itoa y → x = y := fun h1 h2 h3 h4 e => PIok_unique (PIok_small h1 h2) (by rw [e]; exact PIok_small h3 h4)
  have fr : ∀ {r s : Rw}, r.ok = true → s.ok = true → r.fmt = s.fmt → r = s := fun h1 h2 e => by
    obtain ⟨r1, r2, r3, r4, r5⟩ := fmtR_unique (show rowB _ _ _ _ _ = true from h1) (show rowB _ _ _ _ _ = true from h2) e
    exact Rw.ext' r1 r2 r3 r4 r5
  rcases h.kind with hk | hk | hk | hk <;> rcases h'.kind with hk' | hk' | hk' | hk' <;> simp only [wordsC, hk, hk'] at e
  · simp at e
    obtain ⟨a1, a2⟩ := h.one hk
    obtain ⟨b1, b2⟩ := h'.one hk'
    exact Cg.ext' (hk.trans hk'.symm) (it (by omega) (by omega) (by omega) (by omega) e.1) (fr a2 b2 e.2)
  · simp at e
  · simp at e
  · simp at e
  · simp at e
  · simp at e
    obtain ⟨a1, a2⟩ := h.two hk
    obtain ⟨b1, b2⟩ := h'.two hk'
    exact Cg.ext' (hk.trans hk'.symm) (a1.trans b1.symm) (fr a2 b2 e)
  · simp [wCorrect, wDelete] at e
  · simp [wCorrect, wRetain] at e
  · simp at e
  · simp [wCorrect, wDelete] at e
  · simp at e
    obtain ⟨a1, a2, a3, a4, a5, a6⟩ := h.three hk
    obtain ⟨b1, b2, b3, b4, b5, b6⟩ := h'.three hk'
    exact Cg.ext' (hk.trans hk'.symm) (a1.trans b1.symm) (Rw.ext' (it (by omega) (by omega) (by omega) (by omega) e) (a3.trans b3.symm) (a4.trans b4.symm) (a5.trans b5.symm) (a6.trans b6.symm))
  · simp [wDelete, wRetain] at e
  · simp at e
  · simp [wCorrect, wRetain] at e
  · simp [wDelete, wRetain] at e
  · simp at e
    obtain ⟨a1, a2, a3, a4, a5, a6⟩ := h.four hk
    obtain ⟨b1, b2, b3, b4, b5, b6⟩ := h'.four hk'
    exact Cg.ext' (hk.trans hk'.symm) (it (by omega) (by omega) (by omega) (by omega) e) (Rw.ext' (a2.trans b2.symm) (a3.trans b3.symm) (a4.trans b4.symm) (a5.trans b5.symm) (a6.trans b6.symm))
theorem fmtC_unique {c d : Cg} (h : ChOk c) (h' : ChOk d) (e : fmtC c = fmtC d) : c = d := wordsC_unique h h' (by rw [← pieces_fmtC h, ← pieces_fmtC h', e])
theorem fmtC_ne {c : Cg} (h : ChOk c) : fmtC c ≠ [] := fun e => by
  have := pieces_fmtC h
  rw [e] at this
  have h1 : pieces 32 ([] : List UInt8) = [[]] := rfl
  rw [h1] at this
  rcases h.kind with hk | hk | hk | hk <;> simp [wordsC, hk] at this

/-- What ParseChange answers. -/
def PCh (t : List UInt8) (c : Cg) (ok : Bool) : Prop := (ok = true ∧ ChOk c ∧ t = fmtC c) ∨ (ok = false ∧ c = cg0 ∧ ∀ d, ChOk d → t ≠ fmtC d)
theorem PCh_unique {t : List UInt8} {c d : Cg} {ok ok' : Bool} (h : PCh t c ok) (h' : PCh t d ok') : c = d ∧ ok = ok' := by
  rcases h with ⟨rfl, h, e⟩ | ⟨rfl, rfl, h⟩ <;> rcases h' with ⟨rfl, h', e'⟩ | ⟨rfl, rfl, h'⟩
  · exact ⟨fmtC_unique h h' (by rw [← e, ← e']), rfl⟩
  · exact absurd e (h' _ h)
  · exact absurd e' (h _ h')
  · exact ⟨rfl, rfl⟩
def NoCh (t : List UInt8) : Prop := ∀ d, ChOk d → t ≠ fmtC d
theorem PCh.of {t : List UInt8} {c : Cg} (hne : t ≠ []) (h : t = fmtC c) : PCh t c true := .inl ⟨rfl, by
  by_cases hc : ChOk c
  · exact hc
  · rw [fmtC_no hc] at h; exact absurd h hne, h⟩
theorem noCh_count {t : List UInt8} (h : (pieces 32 t).length < 2 ∨ 3 < (pieces 32 t).length) : NoCh t := fun d hd e => by
  rw [e, pieces_fmtC hd] at h
  rcases hd.kind with hk | hk | hk | hk <;> simp [wordsC, hk] at h
/-- What is made of the words is the change, or there is none: ks: the word's number (0: none of the four). -/
theorem noCh_words {t : List UInt8} {c : Cg} (h : ∀ d, ChOk d → pieces 32 t = wordsC d → c = d) (hne : t ≠ fmtC c) : NoCh t := fun d hd e => hne (by
  have := h d hd (by rw [e, pieces_fmtC hd])
  rw [this]; exact e)
end Go.Proofs.Ytndebdimjlfepaa
