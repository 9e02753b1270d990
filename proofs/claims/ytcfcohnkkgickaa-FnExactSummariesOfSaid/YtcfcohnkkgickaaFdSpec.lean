/-
  The walks over the model's FindRow and over the laws' own comparison of rows.
-/
import Derived.Test.YtcfcohnkkgickaaRows
import Derived.Test.YtcfcohnkkgickaaArSpec
import Derived.WalkKit
import Derived.WalkSpells
import Derived.WalkLawsBesides
import Derived.IntWalk
import Derived.Lib.Hide
import Derived.Deep.RegionHeld3
namespace Go.Proofs.Ytcfcohnkkgickaa
open Go.RowKit Num

/-- What FindRow answers: the index of the first row with this ID, or -1. -/
def FdAns (R : Nat → Rw) (id : Int) (n : Nat) (v : Int) : Prop := (∃ k : Nat, k < n ∧ (R k).i = id ∧ (∀ j, j < k → (R j).i ≠ id) ∧ v = (k : Int)) ∨ ((∀ j, j < n → (R j).i ≠ id) ∧ v = -1)
theorem FdAns_unique {R : Nat → Rw} {id v v' : Int} {n : Nat} (h : FdAns R id n v) (h' : FdAns R id n v') : v = v' := by
  rcases h with ⟨k, hk, he, hl, rfl⟩ | ⟨hl, rfl⟩ <;> rcases h' with ⟨k', hk', he', hl', rfl⟩ | ⟨hl', rfl⟩
  · have h1 : ¬ k < k' := fun h => hl' k h he
    have h2 : ¬ k' < k := fun h => hl k' h he'
    omega
  · exact absurd he (hl' k hk)
  · exact absurd he' (hl k' hk')
  · rfl
def FdPost (R : Nat → Rw) (id : Int) (n : Nat) (w : World) (e : Ending) (w' : World) : Prop := ∃ v : Int, FdAns R id n v ∧ e = .returned (.int .i64 v) ∧ Below w.heap.size w w'

set_option maxRecDepth 8000 in
set_option maxHeartbeats 3200000 in
theorem spec_fdV (ao : Option Addr) (n cap : Nat) (id : Int) (R : Nat → Rw) (w : World) (hn : n ≤ 1048576) (hV : n = 0 ∨ ∃ g, ao = some ⟨g, 0, none⟩ ∧ ∀ k, k < n → RowIn w g k (R k)) :
    Calls Try.prog 80 #[.slice ao n cap, .int .i64 id] w (FdPost R id n w) := by
  have HO := Lib.hid hV
  clear hV
  have hnI : (n : Int) ≤ 1048576 := by omega
  go_enter Try.func80, Try.ntmps80
  go_wp2_with fail
  go_loop [5] (fun iv => ∃ k : Nat, k ≤ n ∧ iv = .int .i64 k ∧ Hid (∀ j, j < k → (R j).i ≠ id)) (fun iv => n - (intOf iv).toNat)
  case atStart => exact ⟨0, Nat.zero_le _, rfl, (fun j hj => by omega)⟩
  case round =>
    obtain ⟨k, hk, rfl, HA⟩ := hrel
    by_cases hlt : k < n
    · have hkI : (k : Int) < (n : Int) := by omega
      obtain ⟨g, rfl, hR⟩ : ∃ g, ao = some ⟨g, 0, none⟩ ∧ ∀ k, k < n → RowIn w g k (R k) := HO.out.resolve_left (by omega)
      obtain ⟨c0, c1, c2, c3, c4⟩ := hR k hlt
      clear hR
      by_cases he : (R k).i = id
      · have q : ((R k).i == id) = true := by rw [he]; exact beq_self_eq_true id
        have AN := Lib.hid (show FdPost R id n w (.returned (.int .i64 (k : Int))) w from ⟨k, .inl ⟨k, hlt, he, HA.out, rfl⟩, rfl, Below.refl _ _⟩)
        have HE := Lib.hid he
        clear he
        go_wp2
        go_ret
        exact AN.out
      · have q : ((R k).i == id) = false := beq_eq_false_iff_ne.2 he
        have HN := Lib.hid (show ∀ j, j < k + 1 → (R j).i ≠ id from fun j hj => by
          by_cases h : j < k
          · exact HA.out j h
          · obtain rfl : j = k := by omega
            exact he)
        have HE := Lib.hid he
        clear he
        go_wp2
        go_round
        case rel => exact ⟨k + 1, by omega, by go_num, HN.out⟩
        case measure => simp [intOf]; omega
    · obtain rfl : k = n := by omega
      have hsd : decide ((k : Int) < (k : Int)) = false := decide_eq_false (by omega)
      go_wp2
      go_ret
      exact ⟨-1, .inr ⟨HA.out, rfl⟩, rfl, Below.refl _ _⟩

theorem spec_fd (g n cap : Nat) (id : Int) (R : Nat → Rw) (w : World) (hn : n ≤ 1048576) (hR : ∀ k, k < n → RowIn w g k (R k)) :
    Calls Try.prog 80 #[.slice (some ⟨g, 0, none⟩) n cap, .int .i64 id] w (FdPost R id n w) :=
  spec_fdV _ n cap id R w hn (.inr ⟨g, rfl, hR⟩)
end Go.Proofs.Ytcfcohnkkgickaa
