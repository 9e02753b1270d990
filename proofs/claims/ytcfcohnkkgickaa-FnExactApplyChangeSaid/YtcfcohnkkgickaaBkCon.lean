/-
  The contracts of the model's AddRow and RemoveRow over what a block holds.
-/
import Derived.Test.YtcfcohnkkgickaaRows
import Derived.Test.YtcfcohnkkgickaaRmSpec
import Derived.Test.YtcfcohnkkgickaaMgA
namespace Go.Proofs.Ytcfcohnkkgickaa
open Go.RowKit Num

/-- What AddRow leaves. -/
def AddPost (id : Int) (l : List Rw) (r : Rw) (w : World) (e : Ending) (w' : World) : Prop := ∃ l' ok, (l' = addAns id l r ∧ ok = addOk id l r) ∧ BlkRes id l' ok w e w'
theorem add_unique {id : Int} {l l1 l2 : List Rw} {r : Rw} {a b : Bool} (h : l1 = addAns id l r ∧ a = addOk id l r) (h' : l2 = addAns id l r ∧ b = addOk id l r) : l1 = l2 ∧ a = b := ⟨h.1.trans h'.1.symm, h.2.trans h'.2.symm⟩
theorem add_len {id : Int} {l l1 : List Rw} {r : Rw} {a : Bool} (h : l1 = addAns id l r ∧ a = addOk id l r) (hl : l.length ≤ 1048576) : l1.length ≤ 1048576 := by
  rw [h.1]
  unfold addAns
  split
  · next h => unfold addOk at h; rw [Bool.and_eq_true] at h; have := (blkL_of h.2).2.2; omega
  · exact hl
theorem rem_len {id x : Int} {l l1 : List Rw} {a : Bool} (h : RemAns id l x l1 a) (hl : l.length ≤ 1048576) : l1.length ≤ 1048576 := by
  rcases h with ⟨_, _, k, _, rfl⟩ | ⟨_, rfl, _⟩
  · rw [List.length_append, List.length_take, List.length_drop]; omega
  · exact hl

theorem spec_addO (id : Int) (g n c : Nat) (l : List Rw) (fp : List Nat) (r : Rw) (w : World) (hn : l.length ≤ 1048576) (h : SliceRep rowTy w (.slice (some ⟨g, 0, none⟩) n c) l fp) :
    Calls Try.prog 129 #[.agg #[.int .i64 id, .slice (some ⟨g, 0, none⟩) n c], .agg #[.int .i64 r.i, .int .i64 r.g, .int .i64 r.y, .int .i64 r.x, .bool r.nl]] w (AddPost id l r w) := by
  obtain ⟨rfl, hc, hV⟩ := rows_headV h
  exact (spec_add id g c l r w hn hc hV).mono fun e w' hh => ⟨_, _, ⟨rfl, rfl⟩, hh⟩
theorem spec_remO (id : Int) (g n c : Nat) (l : List Rw) (fp : List Nat) (x : Int) (w : World) (hn : l.length ≤ 1048576) (h : SliceRep rowTy w (.slice (some ⟨g, 0, none⟩) n c) l fp) :
    Calls Try.prog 81 #[.agg #[.int .i64 id, .slice (some ⟨g, 0, none⟩) n c], .int .i64 x] w (RemPost id l x w) := by
  obtain ⟨rfl, hc, hV⟩ := rows_headV h
  exact spec_rem id g c l x w hn hc hV
end Go.Proofs.Ytcfcohnkkgickaa
