/-
  The walk over the project's FindRow.
-/
import Derived.Test.YtcfcohnkkgickaaRows
import Derived.Test.YtcfcohnkkgickaaMgA
namespace Go.Proofs.Ytcfcohnkkgickaa
open Go.RowKit Num

set_option maxRecDepth 8000 in
set_option maxHeartbeats 3200000 in
theorem impl_fdV (ao : Option Addr) (n cap : Nat) (id : Int) (R : Nat → Rw) (w : World) (hn : n ≤ 1048576) (hV : RowsVal w ao n R) :
    Calls Try.prog 172 #[.slice ao n cap, .int .i64 id] w (FdPost R id n w) := by
  have HO := Lib.hid hV
  clear hV
  have hnI : (n : Int) ≤ 1048576 := by omega
  go_enter Try.func172, Try.ntmps172
  go_wp2_with fail
  go_loopw [9] (fun iv wr => ∃ k : Nat, k ≤ n ∧ iv = .int .i64 k ∧ Hid (∀ j, j < k → (R j).i ≠ id) ∧ Hid (Below w.heap.size w wr)) (fun iv _ => n - (intOf iv).toNat)
  case atStart => exact ⟨0, Nat.zero_le _, rfl, (fun j hj => by omega), Below.refl _ _⟩
  case round =>
    obtain ⟨k, hk, rfl, HA, HB⟩ := hrel
    by_cases hlt : k < n
    · have hkI : (k : Int) < (n : Int) := by omega
      obtain ⟨g, rfl, hg, hR⟩ : ∃ g, ao = some ⟨g, 0, none⟩ ∧ g < w.heap.size ∧ ∀ k, k < n → RowIn w g k (R k) := HO.out.resolve_left (by omega)
      have HR := Lib.hid hR
      clear hR
      have hgr : g < wr.heap.size := Nat.lt_of_lt_of_le hg HB.out.size
      obtain ⟨c0, c1, c2, c3, c4⟩ := (HR.out k hlt).below HB.out hg
      have HB2 := Lib.hid (fun o => HB.out.alloc HB.out.size o)
      by_cases he : (R k).i = id
      · have q : ((R k).i == id) = true := by rw [he]; exact beq_self_eq_true id
        have AN := Lib.hid (show FdAns R id n (k : Int) from .inl ⟨k, hlt, he, HA.out, rfl⟩)
        have HE := Lib.hid he
        clear he
        go_wp2
        go_ret
        exact ⟨_, AN.out, rfl, HB2.out _⟩
      · have q : ((R k).i == id) = false := beq_eq_false_iff_ne.2 he
        have HN := Lib.hid (show ∀ j, j < k + 1 → (R j).i ≠ id from fun j hj => by
          by_cases h : j < k
          · exact HA.out j h
          · obtain rfl : j = k := by omega
            exact he)
        have HE := Lib.hid he
        clear he
        go_wp2
        go_roundw
        case rel => exact ⟨k + 1, by omega, by go_num, HN.out, HB2.out _⟩
        case measure => simp [intOf]; omega
    · obtain rfl : k = n := by omega
      have hsd : decide ((k : Int) < (k : Int)) = false := decide_eq_false (by omega)
      go_wp2
      go_ret
      exact ⟨-1, .inr ⟨HA.out, rfl⟩, rfl, HB.out⟩

theorem impl_fd (g n cap : Nat) (id : Int) (R : Nat → Rw) (w : World) (hn : n ≤ 1048576) (hg : g < w.heap.size) (hR : ∀ k, k < n → RowIn w g k (R k)) :
    Calls Try.prog 172 #[.slice (some ⟨g, 0, none⟩) n cap, .int .i64 id] w (FdPost R id n w) :=
  impl_fdV _ n cap id R w hn (.inr ⟨g, rfl, hg, hR⟩)
end Go.Proofs.Ytcfcohnkkgickaa
