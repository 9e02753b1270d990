/-
  Plain mathematics of cutting a text at a byte: no program is named here.
-/
import Derived.Lib.IndexMore
namespace Go.Proofs.YtdfmidihghoilaaDoor.Num
open Go

/-- a is what stands in l ahead of the first c, b what stands behind it; 'has': there is one. -/
def CutOn (c : UInt8) (l a b : List UInt8) (has : Bool) : Prop := c ∉ a ∧ ((has = true ∧ l = a ++ c :: b) ∨ (has = false ∧ l = a ∧ b = []))

theorem index1 (c : UInt8) : ∀ l : List UInt8, (Lib.index l [c] = -1 ∧ c ∉ l) ∨ ∃ a b, l = a ++ c :: b ∧ c ∉ a ∧ Lib.index l [c] = (a.length : Int)
  | [] => .inl ⟨rfl, by simp⟩
  | x :: l => by
    by_cases hx : x = c
    · subst hx
      exact .inr ⟨[], l, rfl, by simp, by unfold Lib.index; simp [List.isPrefixOf]⟩
    · have h0 : ([c] : List UInt8).isPrefixOf (x :: l) = false := by simp [List.isPrefixOf]; exact fun e => hx e.symm
      rcases index1 c l with ⟨h1, h2⟩ | ⟨a, b, rfl, h2, h3⟩
      · exact .inl ⟨by unfold Lib.index; rw [h0, h1]; rfl, by simp; exact ⟨fun e => hx e.symm, h2⟩⟩
      · refine .inr ⟨x :: a, b, rfl, by simp; exact ⟨fun e => hx e.symm, h2⟩, ?_⟩
        unfold Lib.index
        rw [h0, h3]
        have : ((a.length : Int) == -1) = false := by rw [beq_eq_false_iff_ne]; omega
        rw [this]
        simp

theorem cut_on (c : UInt8) (l : List UInt8) : CutOn c l (Lib.cut l [c]).1 (Lib.cut l [c]).2.1 (Lib.cut l [c]).2.2 := by
  unfold Lib.cut
  rcases index1 c l with ⟨h1, h2⟩ | ⟨a, b, rfl, h2, h3⟩
  · rw [h1]
    exact ⟨h2, .inr ⟨rfl, rfl, rfl⟩⟩
  · rw [h3, if_pos (by omega)]
    have e : ((a.length : Int)).toNat = a.length := by omega
    have e2 : a ++ c :: b = (a ++ [c]) ++ b := by simp
    refine ⟨?_, .inl ⟨rfl, ?_⟩⟩
    · simpa [e] using h2
    · simp only [e, List.length_singleton]
      rw [List.take_left' rfl, e2, List.drop_left' (by simp)]
      exact e2.symm

theorem app_unique {c : UInt8} : ∀ {a a' b b' : List UInt8}, c ∉ a → c ∉ a' → a ++ c :: b = a' ++ c :: b' → a = a' ∧ b = b'
  | [], [], b, b', _, _, h => ⟨rfl, by simpa using h⟩
  | [], x :: a', b, b', _, h', h => by simp at h; simp [h.1] at h'
  | x :: a, [], b, b', h', _, h => by simp at h; simp [h.1] at h'
  | x :: a, y :: a', b, b', h1, h2, h => by
    simp only [List.cons_append, List.cons.injEq] at h
    simp only [List.mem_cons, not_or] at h1 h2
    obtain ⟨e1, e2⟩ := app_unique h1.2 h2.2 h.2
    exact ⟨by rw [h.1, e1], e2⟩

/-- The pieces of l between the c. -/
def pieces (c : UInt8) : List UInt8 → List (List UInt8)
  | [] => [[]]
  | b :: l => if b = c then [] :: pieces c l else match pieces c l with | [] => [[b]] | p :: r => (b :: p) :: r

theorem pieces_cut (c : UInt8) : ∀ (a b : List UInt8), c ∉ a → pieces c (a ++ c :: b) = a :: pieces c b
  | [], b, _ => by simp [pieces]
  | x :: a, b, h => by
    simp only [List.mem_cons, not_or] at h
    rw [List.cons_append, pieces, if_neg (fun e => h.1 e.symm), pieces_cut c a b h.2]

theorem pieces_none (c : UInt8) : ∀ (a : List UInt8), c ∉ a → pieces c a = [a]
  | [], _ => rfl
  | x :: a, h => by
    simp only [List.mem_cons, not_or] at h
    rw [pieces, if_neg (fun e => h.1 e.symm), pieces_none c a h.2]

theorem pieces_len (c : UInt8) : ∀ (l : List UInt8), 1 ≤ (pieces c l).length ∧ (pieces c l).length ≤ l.length + 1
  | [] => by simp [pieces]
  | x :: l => by
    have ih := pieces_len c l
    rw [pieces]
    split
    · simp only [List.length_cons]; omega
    · split
      · next h => rw [h] at ih; simp at ih
      · next h => rw [h] at ih; simp only [List.length_cons] at ih ⊢; omega
end Go.Proofs.YtdfmidihghoilaaDoor.Num
