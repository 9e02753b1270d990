/-
  What a region keeps; blocks compared.
-/
import Derived.Test.YtmjcfkaiheajaaaRows
import Derived.Test.YtmjcfkaiheajaaaTbFind
import Derived.Test.YtmjcfkaiheajaaaEbSpec
import Derived.WalkKit
import Derived.WalkSpells
import Derived.WalkLawsBesides
import Derived.IntWalk
import Derived.Lib.Hide
import Derived.Deep.RegionHeld3
namespace Go.Proofs.Ytmjcfkaiheajaaa
open Go.RowKit Num

/-- Six cells stay. -/
theorem t6_at {w w' : World} {a0 a1 a2 a3 a4 a5 : Addr} {v0 v1 v2 v3 v4 v5 : Value} (q : w.cell? a0 = some v0 ∧ w.cell? a1 = some v1 ∧ w.cell? a2 = some v2 ∧ w.cell? a3 = some v3 ∧ w.cell? a4 = some v4 ∧ w.cell? a5 = some v5) (hb : Below w.heap.size w w') : w'.cell? a0 = some v0 ∧ w'.cell? a1 = some v1 ∧ w'.cell? a2 = some v2 ∧ w'.cell? a3 = some v3 ∧ w'.cell? a4 = some v4 ∧ w'.cell? a5 = some v5 ∧ Below w.heap.size w w' :=
  have k := fun (a : Addr) (v : Value) (h : w.cell? a = some v) => (hb.cell (World.block_lt_of_cell? w _ h)).trans h
  ⟨k _ _ q.1, k _ _ q.2.1, k _ _ q.2.2.1, k _ _ q.2.2.2.1, k _ _ q.2.2.2.2.1, k _ _ q.2.2.2.2.2, hb⟩
theorem t6_keep {w w' w1 : World} {a0 a1 a2 a3 a4 a5 : Addr} {v0 v1 v2 v3 v4 v5 : Value} (q : w.cell? a0 = some v0 ∧ w.cell? a1 = some v1 ∧ w.cell? a2 = some v2 ∧ w.cell? a3 = some v3 ∧ w.cell? a4 = some v4 ∧ w.cell? a5 = some v5) (p : w'.cell? a0 = some v0 ∧ w'.cell? a1 = some v1 ∧ w'.cell? a2 = some v2 ∧ w'.cell? a3 = some v3 ∧ w'.cell? a4 = some v4 ∧ w'.cell? a5 = some v5 ∧ Below w.heap.size w w') (hb : Below w'.heap.size w' w1) : w1.cell? a0 = some v0 ∧ w1.cell? a1 = some v1 ∧ w1.cell? a2 = some v2 ∧ w1.cell? a3 = some v3 ∧ w1.cell? a4 = some v4 ∧ w1.cell? a5 = some v5 ∧ Below w.heap.size w w1 :=
  t6_at q (p.2.2.2.2.2.2.trans (hb.mono p.2.2.2.2.2.2.size))
theorem t6_b {w w' : World} {p0 p1 p2 p3 p4 p5 : Prop} (q : p0 ∧ p1 ∧ p2 ∧ p3 ∧ p4 ∧ p5 ∧ Below w.heap.size w w') : Below w.heap.size w w' := q.2.2.2.2.2.2

theorem eqBlk_iff (b b' : Blk) : EqBlk b.id b'.id b.rows.length b'.rows.length (Rn b.rows) (Rn b'.rows) ↔ b = b' := by
  constructor
  · rintro ⟨e1, e2, e3⟩
    cases b with | mk i r => cases b' with | mk i' r' =>
    simp only at e1 e2 e3
    subst e1
    congr 1
    refine List.ext_getElem e2 fun k h1 h2 => ?_
    rw [← Rn_at h1, ← Rn_at h2]
    exact e3 k h1
  · rintro rfl
    exact ⟨rfl, rfl, fun _ _ => rfl⟩
theorem blks_ext {l l' : List Blk} (hl : l.length = l'.length) (h : ∀ k, k < l.length → Bn l k = Bn l' k) : l = l' := by
  refine List.ext_getElem hl fun k h1 h2 => ?_
  rw [← Bn_at h1, ← Bn_at h2]
  exact h k h1

end Go.Proofs.Ytmjcfkaiheajaaa
