/-
  A struct of seven cells stored into a law's box.
-/
import Derived.Test.YtcfcohnkkgickaaRows
import Derived.Test.YtcfcohnkkgickaaSmFold
import Derived.Test.YtcfcohnkkgickaaSmLaw
namespace Go.Proofs.Ytcfcohnkkgickaa
open Go.RowKit Num

theorem Inv.setB7 {W w : World} {g : Nat} {v0 v1 v2 v3 v4 v5 v6 : Value} {L : List (Addr × Value)} {S : List Own} (h : Inv W w ((⟨g, 0, none⟩, v0) :: (⟨g, 1, none⟩, v1) :: (⟨g, 2, none⟩, v2) :: (⟨g, 3, none⟩, v3) :: (⟨g, 4, none⟩, v4) :: (⟨g, 5, none⟩, v5) :: (⟨g, 6, none⟩, v6) :: L) S) (x0 x1 x2 x3 x4 x5 x6 : Value) (hW : W.heap.size ≤ g) (hl : ∀ c ∈ L, c.1.block ≠ g) :
    Inv W (((((((w.setCell ⟨g, 0, none⟩ x0).setCell ⟨g, 1, none⟩ x1).setCell ⟨g, 2, none⟩ x2).setCell ⟨g, 3, none⟩ x3).setCell ⟨g, 4, none⟩ x4).setCell ⟨g, 5, none⟩ x5).setCell ⟨g, 6, none⟩ x6) ((⟨g, 0, none⟩, x0) :: (⟨g, 1, none⟩, x1) :: (⟨g, 2, none⟩, x2) :: (⟨g, 3, none⟩, x3) :: (⟨g, 4, none⟩, x4) :: (⟨g, 5, none⟩, x5) :: (⟨g, 6, none⟩, x6) :: L) S := by
  have hn : ∀ s ∈ S, g ∉ s.fp := fun s hs => h.2.2.2 (⟨g, 0, none⟩, v0) (by simp) s hs
  refine ⟨h.1.setB7 x0 x1 x2 x3 x4 x5 x6 hW hl, fun s hs => ⟨s.keep (h.2.1 s hs).1 (fun k hk => ?_), (h.2.1 s hs).2⟩, h.2.2.1, fun p hp s hs => ?_⟩
  · have hne : k ≠ g := fun e => hn s hs (by rw [← e]; exact hk)
    rw [Below.heap_setCell _ _ _ _ hne, Below.heap_setCell _ _ _ _ hne, Below.heap_setCell _ _ _ _ hne, Below.heap_setCell _ _ _ _ hne, Below.heap_setCell _ _ _ _ hne, Below.heap_setCell _ _ _ _ hne, Below.heap_setCell _ _ _ _ hne]
  · simp only [List.mem_cons] at hp
    rcases hp with rfl | rfl | rfl | rfl | rfl | rfl | rfl | hp
    · exact hn s hs
    · exact hn s hs
    · exact hn s hs
    · exact hn s hs
    · exact hn s hs
    · exact hn s hs
    · exact hn s hs
    · exact h.2.2.2 p (by simp [hp]) s hs
end Go.Proofs.Ytcfcohnkkgickaa
