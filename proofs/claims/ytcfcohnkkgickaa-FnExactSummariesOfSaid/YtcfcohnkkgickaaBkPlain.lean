/-
  Plain mathematics of blocks. No program is named here.
-/
import Derived.Test.YtcfcohnkkgickaaPlain
import Derived.Test.YtcfcohnkkgickaaRwsOwn
import Derived.Test.YtcfcohnkkgickaaArSpec
namespace Go.Proofs.Ytcfcohnkkgickaa
open Go Num

/-- Whether a block is valid: its ID, its rows, their number. -/
def blkB (id : Int) (n : Nat) (R : Nat → Rw) : Bool := decide (1 ≤ id ∧ id ≤ 20) && (areB R n && decide (n ≤ 6))

/-- A row's format. -/
def Rw.fmt (r : Rw) : List UInt8 := fmtR r.i r.g r.y r.x r.nl

/-- The rows' formats, each behind a space. -/
def fmtRows (R : Nat → Rw) : Nat → List UInt8
  | 0 => []
  | k + 1 => fmtRows R k ++ 32 :: (R k).fmt

/-- The format of a block. -/
def fmtB (id : Int) (n : Nat) (R : Nat → Rw) : List UInt8 := if blkB id n R = true then 35 :: (Lib.itoa id ++ fmtRows R n) else []

theorem blkB_of {id : Int} {n : Nat} {R : Nat → Rw} (h : blkB id n R = true) : (1 ≤ id ∧ id ≤ 20) ∧ areB R n = true ∧ n ≤ 6 := by
  unfold blkB at h
  rw [Bool.and_eq_true, Bool.and_eq_true] at h
  exact ⟨of_decide_eq_true h.1, h.2.1, of_decide_eq_true h.2.2⟩
theorem fmtB_no {id : Int} {n : Nat} {R : Nat → Rw} (h : blkB id n R = false) : fmtB id n R = [] := by unfold fmtB; rw [if_neg (by rw [h]; simp)]
theorem fmtB_yes {id : Int} {n : Nat} {R : Nat → Rw} (h : blkB id n R = true) : fmtB id n R = 35 :: (Lib.itoa id ++ fmtRows R n) := by unfold fmtB; rw [if_pos h]

/-- Rows that agree have one format, one validity. -/
theorem areB_congr {R R' : Nat → Rw} : ∀ n : Nat, (∀ k, k < n → R k = R' k) → areB R n = areB R' n
  | 0, _ => rfl
  | n + 1, h => by
    have ih := areB_congr n (fun k hk => h k (by omega))
    have e := h n (by omega)
    have e' : R (n - 1) = R' (n - 1) := h (n - 1) (by omega)
    show (areB R n && ((R n).ok && (decide (n = 0) || decide ((R (n - 1)).i < (R n).i)))) = (areB R' n && ((R' n).ok && (decide (n = 0) || decide ((R' (n - 1)).i < (R' n).i))))
    rw [ih, e, e']
theorem fmtRows_congr {R R' : Nat → Rw} : ∀ n : Nat, (∀ k, k < n → R k = R' k) → fmtRows R n = fmtRows R' n
  | 0, _ => rfl
  | n + 1, h => by
    show fmtRows R n ++ 32 :: (R n).fmt = fmtRows R' n ++ 32 :: (R' n).fmt
    rw [fmtRows_congr n (fun k hk => h k (by omega)), h n (by omega)]

theorem areB_rows {R : Nat → Rw} : ∀ n : Nat, areB R n = true → ∀ k, k < n → (R k).ok = true
  | 0, _, k, hk => by omega
  | n + 1, h, k, hk => by
    have h' : (areB R n && ((R n).ok && (decide (n = 0) || decide ((R (n - 1)).i < (R n).i)))) = true := h
    rw [Bool.and_eq_true, Bool.and_eq_true] at h'
    by_cases e : k < n
    · exact areB_rows n h'.1 k e
    · obtain rfl : k = n := by omega
      exact h'.2.1

/-- A valid row's format has no space in it. -/
theorem itoa_space (n : Int) : (32 : UInt8) ∉ Lib.itoa n := itoa_not (by decide) (by unfold isD; decide) n
theorem fmtR_space (r : Rw) : (32 : UInt8) ∉ r.fmt := by
  unfold Rw.fmt
  cases h : rowB r.i r.g r.y r.x r.nl
  · rw [fmtR_no h]; simp
  · rw [fmtR_yes h]
    simp only [List.mem_append, List.mem_cons, not_or]
    refine ⟨itoa_space _, by decide, itoa_space _, by decide, itoa_space _, by decide, ?_⟩
    unfold xT nullW
    split
    · decide
    · exact itoa_space _

theorem pieces_app (c : UInt8) (a b : List UInt8) (h : c ∉ b) : ∀ (P : List (List UInt8)), pieces c a = P → pieces c (a ++ c :: b) = P ++ [b] := by
  intro P hP
  subst hP
  induction a with
  | nil => simp [pieces, pieces_none c b h]
  | cons x a ih =>
    rw [List.cons_append, pieces, pieces]
    split
    · rw [ih]; rfl
    · rw [ih]
      cases hp : pieces c a with
      | nil => have := pieces_len c a; rw [hp] at this; simp at this
      | cons p r => rfl

/-- The pieces of a valid block's format. -/
theorem pieces_fmtRows (h : List UInt8) (hs : (32 : UInt8) ∉ h) (R : Nat → Rw) : ∀ n : Nat, pieces 32 (h ++ fmtRows R n) = h :: (List.range n).map fun k => (R k).fmt
  | 0 => by show pieces 32 (h ++ []) = _; rw [List.append_nil, pieces_none 32 h hs]; rfl
  | n + 1 => by
    show pieces 32 (h ++ (fmtRows R n ++ 32 :: (R n).fmt)) = _
    rw [← List.append_assoc, pieces_app 32 _ _ (fmtR_space _) _ (pieces_fmtRows h hs R n), List.range_succ]
    simp

theorem Rw.ext' {r r' : Rw} (h1 : r.i = r'.i) (h2 : r.g = r'.g) (h3 : r.y = r'.y) (h4 : r.x = r'.x) (h5 : r.nl = r'.nl) : r = r' := by
  cases r; cases r'; simp only at h1 h2 h3 h4 h5; subst h1 h2 h3 h4 h5; rfl

theorem headB_space (id : Int) : (32 : UInt8) ∉ (35 : UInt8) :: Lib.itoa id := by
  simp only [List.mem_cons, not_or]
  exact ⟨by decide, itoa_space id⟩

theorem pieces_fmtB {id : Int} {n : Nat} {R : Nat → Rw} (h : blkB id n R = true) : pieces 32 (fmtB id n R) = (35 :: Lib.itoa id) :: (List.range n).map fun k => (R k).fmt := by
  rw [fmtB_yes h]
  exact pieces_fmtRows (35 :: Lib.itoa id) (headB_space id) R n

/-- Two valid blocks of one format are one. -/
theorem fmtB_unique {id id' : Int} {n n' : Nat} {R R' : Nat → Rw} (h : blkB id n R = true) (h' : blkB id' n' R' = true) (he : fmtB id n R = fmtB id' n' R') : id = id' ∧ n = n' ∧ ∀ k, k < n → R k = R' k := by
  obtain ⟨a1, a2, a3⟩ := blkB_of h
  obtain ⟨b1, b2, b3⟩ := blkB_of h'
  have p := pieces_fmtB h
  rw [he, pieces_fmtB h'] at p
  simp only [List.cons.injEq, true_and] at p
  obtain ⟨p1, p2⟩ := p
  have e1 : id = id' := PIok_unique (PIok_small (by omega) (by omega)) (by rw [← p1]; exact PIok_small (by omega) (by omega))
  have e2 : n' = n := by have := congrArg List.length p2; simpa using this
  subst e2
  refine ⟨e1, rfl, fun k hk => ?_⟩
  have q := congrArg (fun l => l[k]?) p2
  simp only [List.getElem?_map, List.getElem?_range hk, Option.map_some, Option.some.injEq] at q
  have v1 : rowB (R k).i (R k).g (R k).y (R k).x (R k).nl = true := areB_rows n' a2 k hk
  have v2 : rowB (R' k).i (R' k).g (R' k).y (R' k).x (R' k).nl = true := areB_rows n' b2 k hk
  obtain ⟨r1, r2, r3, r4, r5⟩ := fmtR_unique v1 v2 (show fmtR _ _ _ _ _ = fmtR _ _ _ _ _ from q.symm)
  exact Rw.ext' r1 r2 r3 r4 r5

/-- What ParseBlock answers. -/
def PBlk (l : List UInt8) (id : Int) (n : Nat) (R : Nat → Rw) (ok : Bool) : Prop := (ok = true ∧ blkB id n R = true ∧ l = fmtB id n R) ∨ (ok = false ∧ id = 0 ∧ n = 0 ∧ ∀ id' n' R', blkB id' n' R' = true → l ≠ fmtB id' n' R')
theorem PBlk_unique {l : List UInt8} {id id' : Int} {n n' : Nat} {R R' : Nat → Rw} {ok ok' : Bool} (h : PBlk l id n R ok) (h' : PBlk l id' n' R' ok') : id = id' ∧ n = n' ∧ ok = ok' ∧ ∀ k, k < n → R k = R' k := by
  rcases h with ⟨rfl, h, e⟩ | ⟨rfl, rfl, rfl, h⟩ <;> rcases h' with ⟨rfl, h', e'⟩ | ⟨rfl, rfl, rfl, h'⟩
  · obtain ⟨r1, r2, r3⟩ := fmtB_unique h h' (by rw [← e, ← e'])
    exact ⟨r1, r2, rfl, r3⟩
  · exact absurd e (h' _ _ _ h)
  · exact absurd e' (h _ _ _ h')
  · exact ⟨rfl, rfl, rfl, fun k hk => by omega⟩
end Go.Proofs.Ytcfcohnkkgickaa
