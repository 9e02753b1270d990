/-
  The laws' copies of ints, told for what they are; a value and nothing else.
-/
import Derived.Test.YtcfcohnkkgickaaRows
import Derived.Test.YtcfcohnkkgickaaIntArg
import Derived.Test.YtcfcohnkkgickaaRwRep
import Derived.Test.YtcfcohnkkgickaaInv
namespace Go.Proofs.Ytcfcohnkkgickaa
open Go.RowKit Num

theorem ints_val {w : World} {ao : Option Addr} {n cap : Nat} {l : List Int} {fp : List Nat} (h : SliceRep intTy w (.slice ao n cap) l fp) : IntsVal w ao l := by
  obtain ⟨ao', cap', e, _, hV⟩ := ints_open h
  simp only [Value.slice.injEq] at e
  rw [e.1]; exact hV
theorem rows_val {w : World} {ao : Option Addr} {n cap : Nat} {l : List Rw} {fp : List Nat} (h : SliceRep rowTy w (.slice ao n cap) l fp) : RowsVal w ao n (Rn l) := by
  obtain ⟨ao', cap', e, _, hV⟩ := rows_open h
  simp only [Value.slice.injEq] at e
  rw [e.1, e.2.1]; exact hV
theorem law_toIsO (ao : Option Addr) (n cap : Nat) (R : Nat → Int) (w : World) (hn : n ≤ 1048576) (hA : IntsArg w ao n R) :
    Calls Try.prog 117 #[.slice ao n cap] w fun e w' => ∃ g fp, e = .returned (.slice (some ⟨g, 0, none⟩) n n) ∧ SliceRep intTy w' (.slice (some ⟨g, 0, none⟩) n n) (lsI n R) fp ∧ (∀ k ∈ fp, w.heap.size ≤ k) ∧ Below w.heap.size w w' :=
  (law_toIs ao n cap R w hn hA).mono fun _ _ ⟨h1, h2, h3⟩ => ⟨_, _, h1, h2, fun k hk => by rw [List.mem_singleton.1 hk]; exact Nat.le_refl _, h3⟩
/-- A value and nothing else. -/
def ValOut (v : Value) (w : World) (e : Ending) (w' : World) : Prop := e = .returned v ∧ Below w.heap.size w w'
theorem val_out {P : Program} {f : FuncId} {args : Array Value} {w : World} {v : Value} (h : Calls P f args w fun e w' => e = .returned v ∧ w = w') : Calls P f args w (ValOut v w) :=
  h.mono fun _ _ ⟨h1, h2⟩ => ⟨h1, by subst h2; exact Below.refl _ _⟩
end Go.Proofs.Ytcfcohnkkgickaa
