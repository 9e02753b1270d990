/-
  What ParseFrac leaves.
-/
import Derived.Test.YtdfmidihghoilaaDoorPlain
import Derived.WalkKit
import Derived.Below
namespace Go.Proofs.YtdfmidihghoilaaDoor
open Go.RowKit Num

/-- What both functions leave. -/
def PfPost (s : ByteArray) (w : World) (e : Ending) (w' : World) : Prop := (∃ (n d : Int) (ok : Bool), PFans s.data.toList n d ok ∧ e = .returned (.tuple #[.agg #[.int .i64 n, .int .i64 d], .bool ok])) ∧ Below w.heap.size w w'

theorem PfPost.mk {s : ByteArray} {w w' : World} {n d : Int} {ok : Bool} (h : PFans s.data.toList n d ok) (hb : Below w.heap.size w w') : PfPost s w (.returned (.tuple #[.agg #[.int .i64 n, .int .i64 d], .bool ok])) w' := ⟨⟨n, d, ok, h, rfl⟩, hb⟩

theorem fmt_bd {n d : Int} : (fmtF n d).length ≤ 60 := by
  unfold fmtF
  split
  · next h =>
    obtain ⟨⟨a1, a2, a3, a4⟩, _⟩ := frB_of h
    have l1 := Lib.itoa_length_le n (by omega) (by omega)
    have l2 := Lib.itoa_length_le d (by omega) (by omega)
    split
    · omega
    · simp; omega
  · simp

theorem PIans_rng {l : List UInt8} {n : Int} {k : Bool} (h : PIans l n k) : -999999999 ≤ n ∧ n ≤ 999999999 := by
  rcases h with ⟨_, h1, h2, _⟩ | ⟨_, rfl, _⟩ <;> omega
end Go.Proofs.YtdfmidihghoilaaDoor
