/-
  The plain mathematics of reading a decimal numeral: no program is named here.
-/
import Derived.Test.YtdfmidihghoilaaDoorFiPlain
namespace Go.Proofs.YtdfmidihghoilaaDoor.Num
open Go

theorem decD_small {u : Nat} (h : u < 10) : Lib.decDigits u = [UInt8.ofNat (48 + u)] := by rw [Lib.decDigits, dif_pos h]
theorem decD_big {u : Nat} (h : ¬ u < 10) : Lib.decDigits u = Lib.decDigits (u / 10) ++ [UInt8.ofNat (48 + u % 10)] := by rw [Lib.decDigits, dif_neg h]

/-- A byte is a digit. -/
def isD (b : UInt8) : Prop := 48 ≤ b.toNat ∧ b.toNat ≤ 57
instance (b : UInt8) : Decidable (isD b) := inferInstanceAs (Decidable (_ ∧ _))

/-- The number that a list of digits writes. -/
def val (l : List UInt8) : Nat := l.foldl (fun n b => n * 10 + (b.toNat - 48)) 0
theorem val_snoc (l : List UInt8) (b : UInt8) : val (l ++ [b]) = val l * 10 + (b.toNat - 48) := by unfold val; rw [List.foldl_append]; rfl

theorem dec_all : ∀ (u : Nat), ∀ b ∈ Lib.decDigits u, isD b := by
  intro u
  induction u using Nat.strongRecOn with
  | _ u ih =>
    intro b hb
    by_cases h : u < 10
    · rw [decD_small h, List.mem_singleton] at hb
      subst hb
      unfold isD
      rw [u8m _ (by omega)]
      omega
    · rw [decD_big h, List.mem_append] at hb
      rcases hb with hb | hb
      · exact ih (u / 10) (by omega) b hb
      · rw [List.mem_singleton] at hb
        subst hb
        unfold isD
        rw [u8m _ (by omega)]
        omega

theorem dec_val : ∀ (u : Nat), val (Lib.decDigits u) = u := by
  intro u
  induction u using Nat.strongRecOn with
  | _ u ih =>
    by_cases h : u < 10
    · rw [decD_small h]
      show 0 * 10 + ((UInt8.ofNat (48 + u)).toNat - 48) = u
      rw [u8m _ (by omega)]
      omega
    · rw [decD_big h, val_snoc, ih (u / 10) (by omega), u8m _ (by omega)]
      omega

theorem dec_len : ∀ (k u : Nat), u < 10 ^ (k + 1) → (Lib.decDigits u).length ≤ k + 1
  | 0, u, h => by rw [decD_small (by simpa using h)]; simp
  | k + 1, u, h => by
    by_cases hs : u < 10
    · rw [decD_small hs]; simp
    · rw [decD_big hs]
      have := dec_len k (u / 10) (by rw [Nat.pow_succ] at h; omega)
      simp; omega

theorem dec_len9 (u : Nat) (h : u ≤ 999999999) : (Lib.decDigits u).length ≤ 9 := by
  have e : (10 : Nat) ^ (8 + 1) = 1000000000 := by decide
  exact dec_len 8 u (by omega)

theorem dec_ne (u : Nat) : Lib.decDigits u ≠ [] := by
  by_cases h : u < 10
  · rw [decD_small h]; simp
  · rw [decD_big h]; simp

theorem val_bd : ∀ (k : Nat) (l : List UInt8), (∀ b ∈ l, isD b) → l.length ≤ k → val l < 10 ^ k := by
  intro k l
  have H : ∀ (r : List UInt8) (a : Nat), (∀ b ∈ r, isD b) → r.foldl (fun n b => n * 10 + (b.toNat - 48)) a < (a + 1) * 10 ^ r.length := by
    intro r
    induction r with
    | nil => intro a _; simp
    | cons c r ih =>
      intro a hd
      have hc := hd c (by simp)
      unfold isD at hc
      have h := ih (a * 10 + (c.toNat - 48)) (fun b hb => hd b (by simp [hb]))
      rw [List.foldl_cons, List.length_cons, Nat.pow_succ]
      refine Nat.lt_of_lt_of_le h ?_
      rw [Nat.mul_comm (10 ^ r.length) 10, ← Nat.mul_assoc]
      exact Nat.mul_le_mul_right _ (by omega)
  intro hd hl
  have := H l 0 hd
  simp only [Nat.zero_add, Nat.one_mul] at this
  exact Nat.lt_of_lt_of_le this (Nat.pow_le_pow_right (by decide) hl)

/-- What ParseInt reads. -/
def PIok (l : List UInt8) (n : Int) : Prop := -999999999 ≤ n ∧ n ≤ 999999999 ∧ l = Lib.itoa n

/-- A text as sign and rest. -/
def Cut (l d : List UInt8) (neg : Bool) : Prop := (neg = true ∧ l = 45 :: d) ∨ (neg = false ∧ l = d ∧ d.head? ≠ some 45)

/-- The number of sign and rest. -/
def sg (neg : Bool) (u : Nat) : Int := if neg then -(u : Int) else u

theorem cut_ok {l d : List UInt8} {neg : Bool} (hc : Cut l d neg) {m : Int} (h : PIok l m) : ∃ u : Nat, u ≤ 999999999 ∧ d = Lib.decDigits u ∧ m = sg neg u := by
  obtain ⟨h1, h2, h3⟩ := h
  rcases Int.lt_or_le m 0 with hm | hm
  · obtain ⟨u, rfl⟩ : ∃ u : Nat, m = -(u : Int) := ⟨m.natAbs, by omega⟩
    rw [Lib.itoa_neg u (by omega)] at h3
    rcases hc with ⟨rfl, hc⟩ | ⟨rfl, rfl, hc⟩
    · rw [hc] at h3
      exact ⟨u, by omega, (List.cons.inj h3).2, rfl⟩
    · rw [h3] at hc
      simp at hc
  · obtain ⟨u, rfl⟩ := Int.eq_ofNat_of_zero_le hm
    rw [Lib.itoa_nonneg] at h3
    rcases hc with ⟨rfl, hc⟩ | ⟨rfl, rfl, hc⟩
    · rw [hc] at h3
      have := dec_all u 45 (by rw [← h3]; simp)
      unfold isD at this
      simp at this
    · exact ⟨u, by omega, h3, rfl⟩

theorem PIok_unique {l : List UInt8} {n m : Int} (h : PIok l n) (h' : PIok l m) : n = m := by
  have hcut : ∃ d neg, Cut l d neg := by
    cases l with
    | nil => exact ⟨[], false, .inr ⟨rfl, rfl, by simp⟩⟩
    | cons b r =>
      by_cases hb : b = 45
      · subst hb; exact ⟨r, true, .inl ⟨rfl, rfl⟩⟩
      · exact ⟨b :: r, false, .inr ⟨rfl, rfl, by simpa using hb⟩⟩
  obtain ⟨d, neg, hc⟩ := hcut
  obtain ⟨u, _, h1, rfl⟩ := cut_ok hc h
  obtain ⟨v, _, h2, rfl⟩ := cut_ok hc h'
  have : u = v := by rw [← dec_val u, ← h1, h2, dec_val]
  rw [this]

/-- What both functions answer: the number, or that there is none. -/
def PIans (l : List UInt8) (n : Int) (ok : Bool) : Prop := (ok = true ∧ PIok l n) ∨ (ok = false ∧ n = 0 ∧ ∀ m, ¬ PIok l m)

theorem PIans_unique {l : List UInt8} {n m : Int} {a b : Bool} (h : PIans l n a) (h' : PIans l m b) : n = m ∧ a = b := by
  rcases h with ⟨rfl, h⟩ | ⟨rfl, rfl, h⟩ <;> rcases h' with ⟨rfl, h'⟩ | ⟨rfl, rfl, h'⟩
  · exact ⟨PIok_unique h h', rfl⟩
  · exact absurd h (h' n)
  · exact absurd h' (h m)
  · exact ⟨rfl, rfl⟩

/-! The model counts digits wherever they stand. -/
def fN (l : List UInt8) : Nat := l.foldl (fun n b => if isD b then n * 10 + (b.toNat - 48) else n) 0
def fK (l : List UInt8) : Nat := l.foldl (fun n b => if isD b then n + 1 else n) 0
theorem fN_snoc (l : List UInt8) (b : UInt8) : fN (l ++ [b]) = if isD b then fN l * 10 + (b.toNat - 48) else fN l := by unfold fN; rw [List.foldl_append]; rfl
theorem fK_snoc (l : List UInt8) (b : UInt8) : fK (l ++ [b]) = if isD b then fK l + 1 else fK l := by unfold fK; rw [List.foldl_append]; rfl

theorem fN_digits (l : List UInt8) (a : Nat) (h : ∀ b ∈ l, isD b) : l.foldl (fun n b => if isD b then n * 10 + (b.toNat - 48) else n) a = l.foldl (fun n b => n * 10 + (b.toNat - 48)) a := by
  induction l generalizing a with
  | nil => rfl
  | cons c l ih =>
    rw [List.foldl_cons, List.foldl_cons, if_pos (h c (by simp))]
    exact ih _ (fun b hb => h b (by simp [hb]))
theorem fK_digits (l : List UInt8) (a : Nat) (h : ∀ b ∈ l, isD b) : l.foldl (fun n b => if isD b then n + 1 else n) a = a + l.length := by
  induction l generalizing a with
  | nil => rfl
  | cons c l ih =>
    rw [List.foldl_cons, if_pos (h c (by simp)), ih _ (fun b hb => h b (by simp [hb])), List.length_cons]
    omega

theorem cut_fold {l d : List UInt8} {neg : Bool} (hc : Cut l d neg) (hd : ∀ b ∈ d, isD b) : fN l = val d ∧ fK l = d.length := by
  have hN : fN d = val d := fN_digits d 0 hd
  have hK : fK d = d.length := by have := fK_digits d 0 hd; rw [Nat.zero_add] at this; exact this
  rcases hc with ⟨_, rfl⟩ | ⟨_, rfl, _⟩
  · have n45 : ¬ isD 45 := by decide
    constructor
    · rw [← hN]; unfold fN; rw [List.foldl_cons, if_neg n45]
    · rw [← hK]; unfold fK; rw [List.foldl_cons, if_neg n45]
  · exact ⟨hN, hK⟩

theorem fN_bd (l : List UInt8) : fN l < 10 ^ fK l := by
  have H : ∀ (r : List UInt8) (a k : Nat), a < 10 ^ k → r.foldl (fun n b => if isD b then n * 10 + (b.toNat - 48) else n) a < 10 ^ (r.foldl (fun n b => if isD b then n + 1 else n) k) := by
    intro r
    induction r with
    | nil => intro a k h; exact h
    | cons c r ih =>
      intro a k h
      rw [List.foldl_cons, List.foldl_cons]
      by_cases hc : isD c
      · rw [if_pos hc, if_pos hc]
        refine ih _ _ ?_
        unfold isD at hc
        rw [Nat.pow_succ]
        omega
      · rw [if_neg hc, if_neg hc]
        exact ih _ _ h
  exact H l 0 0 (by decide)

theorem fK_le (l : List UInt8) : fK l ≤ l.length := by
  have H : ∀ (r : List UInt8) (k : Nat), r.foldl (fun n b => if isD b then n + 1 else n) k ≤ k + r.length := by
    intro r
    induction r with
    | nil => intro k; simp
    | cons c r ih =>
      intro k
      rw [List.foldl_cons, List.length_cons]
      by_cases hc : isD c
      · rw [if_pos hc]; have := ih (k + 1); omega
      · rw [if_neg hc]; have := ih k; omega
  have := H l 0
  rw [Nat.zero_add] at this
  exact this

theorem pi_none {l d : List UInt8} {neg : Bool} (hc : Cut l d neg) (h : ∀ u, u ≤ 999999999 → d = Lib.decDigits u → l = Lib.itoa (sg neg u) → False) : PIans l 0 false :=
  .inr ⟨rfl, rfl, fun m hm => by
    obtain ⟨u, h1, h2, h3⟩ := cut_ok hc hm
    exact h u h1 h2 (by rw [← h3]; exact hm.2.2)⟩

theorem pi_many {l d : List UInt8} {neg : Bool} (hc : Cut l d neg) (hk : 9 < fK l) : PIans l 0 false := by
  refine pi_none hc fun u h1 h2 _ => ?_
  have := (cut_fold hc (by rw [h2]; exact dec_all u)).2
  have := dec_len9 u h1
  rw [← h2] at this
  omega

theorem pi_long {l d : List UInt8} {neg : Bool} (hc : Cut l d neg) (hk : 10 < l.length) : PIans l 0 false := by
  refine pi_none hc fun u h1 h2 _ => ?_
  have := dec_len9 u h1
  rw [← h2] at this
  rcases hc with ⟨_, rfl⟩ | ⟨_, rfl, _⟩
  · simp at hk; omega
  · omega

theorem pi_other {l d : List UInt8} {neg : Bool} (hc : Cut l d neg) (hne : ¬ l = Lib.itoa (sg neg (fN l))) : PIans l 0 false := by
  refine pi_none hc fun u h1 h2 h3 => hne ?_
  have := (cut_fold hc (by rw [h2]; exact dec_all u)).1
  rw [h2, dec_val] at this
  rw [this]
  exact h3

theorem pi_yes {l : List UInt8} {neg : Bool} (hk : fK l ≤ 9) (he : l = Lib.itoa (sg neg (fN l))) : PIans l (sg neg (fN l)) true := by
  have h1 := fN_bd l
  have h2 : 10 ^ fK l ≤ 10 ^ 9 := Nat.pow_le_pow_right (by decide) hk
  have e : (10 : Nat) ^ 9 = 1000000000 := by decide
  refine .inl ⟨rfl, ?_, ?_, he⟩
  · unfold sg; split <;> omega
  · unfold sg; split <;> omega
end Go.Proofs.YtdfmidihghoilaaDoor.Num
