/-
  The plain mathematics of reading a varint: no program is named here.
-/
import Derived.Test.YtmdakincddeccaaDoorVarPlain
namespace Go.Proofs.YtmdakincddeccaaDoor.Num
open Go

/-- The number that groups of seven bits write, the lowest first. -/
def valL : List UInt8 → Nat
  | [] => 0
  | b :: l => b.toNat % 128 + 128 * valL l

theorem valL_bd : ∀ l : List UInt8, valL l < 128 ^ l.length
  | [] => by simp [valL]
  | b :: l => by
    have := valL_bd l
    rw [List.length_cons, Nat.pow_succ]
    simp only [valL]
    omega

theorem valL_max (l : List UInt8) (h : l.length ≤ 7) : valL l ≤ 562949953421311 := by
  have := valL_bd l
  have h2 : 128 ^ l.length ≤ 128 ^ 7 := Nat.pow_le_pow_right (by decide) h
  have e : (128 : Nat) ^ 7 = 562949953421312 := by decide
  omega

/-- A canonical varint: it is what its value is written as. -/
def VCan (l : List UInt8) : Prop := vlist (valL l) = l

theorem u8_ext {a b : UInt8} (h : a.toNat = b.toNat) : a = b := UInt8.toNat_inj.mp h

theorem can_iff (x : UInt8) : ∀ a : List UInt8, VCan (a ++ [x]) ↔ ((∀ b ∈ a, 128 ≤ b.toNat) ∧ x.toNat < 128 ∧ (a = [] ∨ x.toNat ≠ 0))
  | [] => by
    have hx : x.toNat < 256 := x.toNat_lt
    unfold VCan
    simp only [List.nil_append, valL, Nat.mul_zero, Nat.add_zero]
    rw [vlist_small _ (by omega)]
    constructor
    · intro h
      have h1 : (UInt8.ofNat (x.toNat % 128)).toNat = x.toNat := by rw [List.cons.inj h |>.1]
      rw [u8n _ (by omega)] at h1
      exact ⟨by simp, by omega, by simp⟩
    · rintro ⟨_, h, _⟩
      rw [Nat.mod_eq_of_lt h]
      congr 1
      exact u8_ext (u8n _ (by omega))
  | y :: a => by
    have hy : y.toNat < 256 := y.toNat_lt
    have hx : x.toNat < 256 := x.toNat_lt
    have ih := can_iff x a
    unfold VCan at ih ⊢
    simp only [List.cons_append, valL]
    have hMx : valL (a ++ [x]) = 0 → x.toNat % 128 = 0 := by
      intro h
      have : ∀ l : List UInt8, valL (l ++ [x]) = 0 → x.toNat % 128 = 0 := by
        intro l
        induction l with
        | nil => intro h; simpa [valL] using h
        | cons c l ihl => intro h; simp only [List.cons_append, valL] at h; exact ihl (by omega)
      exact this a h
    by_cases hM : valL (a ++ [x]) = 0
    · rw [hM, Nat.mul_zero, Nat.add_zero, vlist_small _ (by omega)]
      constructor
      · intro h
        have := congrArg List.length h
        simp at this
      · rintro ⟨_, h1, h2⟩
        have := hMx hM
        rcases h2 with h2 | h2
        · cases h2
        · omega
    · rw [vlist_big _ (by omega)]
      have e1 : (y.toNat % 128 + 128 * valL (a ++ [x])) % 128 = y.toNat % 128 := by omega
      have e2 : (y.toNat % 128 + 128 * valL (a ++ [x])) / 128 = valL (a ++ [x]) := by omega
      rw [e1, e2]
      constructor
      · intro h
        obtain ⟨h1, h2⟩ := List.cons.inj h
        have h3 : (UInt8.ofNat (y.toNat % 128 + 128)).toNat = y.toNat := by rw [h1]
        rw [u8n _ (by omega)] at h3
        obtain ⟨i1, i2, i3⟩ := ih.1 h2
        refine ⟨?_, i2, .inr ?_⟩
        · intro b hb
          rcases List.mem_cons.1 hb with rfl | hb
          · omega
          · exact i1 b hb
        · rcases i3 with i3 | i3
          · subst i3
            intro h0
            exact hM (by simp [valL, h0])
          · exact i3
      · rintro ⟨h1, h2, h3⟩
        have hy1 := h1 y (by simp)
        have hx0 : x.toNat ≠ 0 := by
          rcases h3 with h3 | h3
          · cases h3
          · exact h3
        rw [ih.2 ⟨fun b hb => h1 b (by simp [hb]), h2, .inr hx0⟩]
        congr 1
        exact u8_ext (by rw [u8n _ (by omega)]; omega)

/-- What DecodeVarint answers. -/
def DV (l : List UInt8) (n k : Nat) : Prop :=
  (k = 0 ∧ n = 0 ∧ ∀ j, 1 ≤ j → j ≤ 7 → j ≤ l.length → ¬ VCan (l.take j)) ∨ (1 ≤ k ∧ k ≤ 7 ∧ k ≤ l.length ∧ VCan (l.take k) ∧ n = valL (l.take k))

theorem can_take (l : List UInt8) (k : Nat) (h : k < l.length) : VCan (l.take (k + 1)) ↔ ((∀ i (hi : i < k), 128 ≤ (l[i]'(by omega)).toNat) ∧ l[k].toNat < 128 ∧ (k = 0 ∨ l[k].toNat ≠ 0)) := by
  rw [List.take_succ_eq_append_getElem h, can_iff]
  constructor
  · rintro ⟨h1, h2, h3⟩
    refine ⟨fun i hi => h1 _ ?_, h2, ?_⟩
    · rw [List.mem_take_iff_getElem]
      exact ⟨i, by omega, rfl⟩
    · rcases h3 with h3 | h3
      · left
        have := congrArg List.length h3
        rw [List.length_take, List.length_nil] at this
        omega
      · exact .inr h3
  · rintro ⟨h1, h2, h3⟩
    refine ⟨fun b hb => ?_, h2, ?_⟩
    · rw [List.mem_take_iff_getElem] at hb
      obtain ⟨i, hi, rfl⟩ := hb
      exact h1 i (by omega)
    · rcases h3 with h3 | h3
      · left; subst h3; rfl
      · exact .inr h3

theorem can_unique (l : List UInt8) (j k : Nat) (hj : j < k) (hk : k < l.length) (h1 : VCan (l.take (j + 1))) (h2 : VCan (l.take (k + 1))) : False := by
  have a := (can_take l j (by omega)).1 h1
  have b := (can_take l k hk).1 h2
  have := b.1 j hj
  omega

theorem DV_unique {l : List UInt8} {n k n' k' : Nat} (h : DV l n k) (h' : DV l n' k') : n = n' ∧ k = k' := by
  rcases h with ⟨rfl, rfl, h⟩ | ⟨h1, h2, h3, h4, rfl⟩
  · rcases h' with ⟨rfl, rfl, h'⟩ | ⟨h1, h2, h3, h4, rfl⟩
    · exact ⟨rfl, rfl⟩
    · exact absurd h4 (h k' h1 h2 h3)
  · rcases h' with ⟨rfl, rfl, h'⟩ | ⟨h1', h2', h3', h4', rfl⟩
    · exact absurd h4 (h' k h1 h2 h3)
    · have : k = k' := by
        obtain ⟨k, rfl⟩ : ∃ q, k = q + 1 := ⟨k - 1, by omega⟩
        obtain ⟨k', rfl⟩ : ∃ q, k' = q + 1 := ⟨k' - 1, by omega⟩
        rcases Nat.lt_trichotomy k k' with h | h | h
        · exact (can_unique l k k' h (by omega) h4 h4').elim
        · rw [h]
        · exact (can_unique l k' k h (by omega) h4' h4).elim
      subst this
      exact ⟨rfl, rfl⟩
end Go.Proofs.YtmdakincddeccaaDoor.Num
