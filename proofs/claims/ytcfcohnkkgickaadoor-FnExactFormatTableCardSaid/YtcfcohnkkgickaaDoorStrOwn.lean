/-
  Slices of strings that the call itself made: what they own as a list of texts; append of one text to them; their elements.
-/
import Derived.Test.YtcfcohnkkgickaaDoorRows
import Derived.Test.YtcfcohnkkgickaaDoorKeep
import Derived.WalkKit
import Derived.WalkSpells
import Derived.WalkLawsBesides
import Derived.Laws.IdiomStrings
import Derived.Laws.OwnMore
namespace Go.Proofs.YtcfcohnkkgickaaDoor
open Go.RowKit

/-- The cells of the texts l. -/
def scells (l : List (List UInt8)) : List Value := l.map fun b => Value.string ⟨b.toArray⟩

/-- The slice v owns the texts l among the blocks from B on. -/
def Strs (w : World) (B : Nat) (v : Value) (l : List (List UInt8)) : Prop := w.ownsRow B 9 1 v l.length (scells l)

theorem Tryd.infoStr : (Tryd.prog.info? 9).map (fun i => (i.zero, i.size, i.bytes)) = some (some (.string ByteArray.empty), 1, 16) := by kernel_rfl

theorem Strs.nil (w : World) (B : Nat) : Strs w B (.slice none 0 0) [] := ⟨rfl, .inl ⟨rfl, rfl⟩⟩

theorem Strs.lit (w : World) (B : Nat) (hB : B ≤ w.heap.size) : Strs (w.alloc (.cells #[] 9)) B (.slice (some ⟨w.heap.size, 0, none⟩) 0 0) [] :=
  World.ownsRow_lit w #[] 0 hB (by decide) rfl

theorem scells_append (l m : List (List UInt8)) : scells (l ++ m) = scells l ++ scells m := by simp [scells]
theorem scells_len (l : List (List UInt8)) : (scells l).length = l.length := by simp [scells]

/-- 'append(out, s)': the new text lies in a new block of its own. -/
theorem wpList_append_text {ops : Array Oper} {rest : List Oper} {o : Oper} {a : Act} {Q : Exit → Act → World → Prop} {W w : World} (hgd : o.guard = none) (s x : Operand)
    (ho : o.op = .call { callee := .builtin .append, args := #[s, x], argTypes := #[61, 61] })
    (B : Nat) (v : Value) (l : List (List UInt8)) (b : List UInt8) (hs : a.eval s = v) (hown : Strs w B v l) (cs : Array Value) (hcs : cs = #[.string ⟨b.toArray⟩]) (c : Nat)
    (hx : a.eval x = .slice (some ⟨w.heap.size, 0, none⟩) 1 c) (hlen : (l.length + 1) * 16 ≤ 140737488355328) (hB : B ≤ w.heap.size) (hbel : Below B W w)
    (h : ∀ v' w', Strs w' B v' (l ++ [b]) → Below B W w' → wpList Tryd.prog ops Q rest (a.put o.dst v') w') : wpList Tryd.prog ops Q (o :: rest) a (w.alloc (.cells cs 9)) := by
  obtain ⟨i0, hi, hz0, hz1, hz2⟩ := info_parts Tryd.infoStr
  subst hcs
  have hlt : ∀ k, v.ownBlock = some k → B ≤ k := fun k hk => (World.ownsRow.lt hown k hk).1
  refine wpList_append_own _ hgd s x 61 ho B 9 i0 (.string ByteArray.empty) 1 16 Tryd.underlying61 hi hz0 hz1 hz2 rfl (by decide) v l.length (scells l) hs (World.ownsRow.alloc hown _)
    ⟨w.heap.size, 0, none⟩ 1 c (scells [b]) hx (by simp [scells]) ?_ ?_ (by unfold maxLen; omega) (by omega) (by simp; omega) ?_
  · intro j u hj
    have hadd : (⟨w.heap.size, 0, none⟩ : Addr).add j = ⟨w.heap.size, j, none⟩ := by unfold Addr.add; split <;> simp_all
    rw [hadd, cell_of_row _ w.heap.size j #[.string ⟨b.toArray⟩] 9 (0, 0) (heap_alloc_new w _), ← hj]
    simp [scells]
  · intro u hu
    simp only [scells, List.map_cons, List.map_nil, List.mem_singleton] at hu
    subst hu
    rfl
  · intro v' w' h1 h2 _
    refine h v' w' ?_ ((hbel.alloc hB _).grown h2 (by simp; omega) hlt)
    unfold Strs
    rw [List.length_append, scells_append]
    exact h1

/-- An owned row that is not empty, written out. -/
theorem Strs.form {w : World} {B : Nat} {v : Value} {l : List (List UInt8)} (h : Strs w B v l) (hn : 0 < l.length) :
    ∃ g cap, v = .slice (some ⟨g, 0, none⟩) l.length cap ∧ B ≤ g ∧ g < w.heap.size ∧ l.length ≤ cap ∧ ∀ j (hj : j < l.length), w.cell? ⟨g, j, none⟩ = some (.string ⟨(l[j]).toArray⟩) ∧ w.frozen? ⟨g, j, none⟩ = false := by
  have h0 := h
  rcases h.2 with ⟨_, hz⟩ | ⟨g, cap, cur, rfl, hb, hg, hnc, _, _, _⟩
  · omega
  · refine ⟨g, cap, rfl, hb, (World.ownsRow.lt h0 g rfl).2, hnc, fun j hj => ⟨?_, World.ownsRow.frozenAt h0 j⟩⟩
    rw [World.ownsRow.cellAt h0 j (by omega)]
    simp [scells, hj]
end Go.Proofs.YtcfcohnkkgickaaDoor
