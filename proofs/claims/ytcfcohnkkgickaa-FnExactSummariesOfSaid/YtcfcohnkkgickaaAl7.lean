/-
  A box of seven cells beside what is kept.
-/
import Derived.Test.YtcfcohnkkgickaaRows
import Derived.Test.YtcfcohnkkgickaaKeep
import Derived.WalkKit
import Derived.WalkSpells
import Derived.WalkLawsBesides
import Derived.IntWalk
import Derived.Lib.Hide
namespace Go.Proofs.Ytcfcohnkkgickaa
open Go.RowKit

theorem Kept.alloc7 {W w : World} {l : List (Addr × Value)} (h : Kept W w l) (x y u v z p q : Value) (t : TypeId) (B : Nat) (hB : w.heap.size = B) :
    Kept W (w.alloc (.cells #[x, y, u, v, z, p, q] t)) ((⟨B, 0, none⟩, x) :: (⟨B, 1, none⟩, y) :: (⟨B, 2, none⟩, u) :: (⟨B, 3, none⟩, v) :: (⟨B, 4, none⟩, z) :: (⟨B, 5, none⟩, p) :: (⟨B, 6, none⟩, q) :: l) := by
  subst hB
  have h1 := h.step ((Below.refl w.heap.size w).alloc (Nat.le_refl _) (.cells #[x, y, u, v, z, p, q] t))
  refine ⟨h1.1, fun p hp => ?_⟩
  simp only [List.mem_cons] at hp
  rcases hp with rfl | rfl | rfl | rfl | rfl | rfl | rfl | hp
  · exact ⟨by simp, by go_simp, by go_simp⟩
  · exact ⟨by simp, by go_simp, by go_simp⟩
  · exact ⟨by simp, by go_simp, by go_simp⟩
  · exact ⟨by simp, by go_simp, by go_simp⟩
  · exact ⟨by simp, by go_simp, by go_simp⟩
  · exact ⟨by simp, by go_simp, by go_simp⟩
  · exact ⟨by simp, by go_simp, by go_simp⟩
  · exact h1.2 p hp
end Go.Proofs.Ytcfcohnkkgickaa
