/-
  Small laws of worlds and contracts.
-/
import Derived.Test.YtdfmidihghoilaaDoorRows
import Derived.WalkKit
import Derived.WalkSpells
import Derived.WalkLawsBesides
import Derived.Below
import Derived.Deep.QuietTactic
namespace Go.Proofs.YtdfmidihghoilaaDoor
open Go.RowKit

theorem below_drewN {B : Nat} {a w : World} (h : Below B a w) (n : Nat) : Below B a (w.drewN n) := ⟨h.os, h.tape, h.output, h.size, h.block⟩

/-- A contract 'w = w'' for a quiet region. -/
theorem calls_flip {P : Program} {f : FuncId} {args : Array Value} {w : World} {v : Value} (h : Calls P f args w fun e w' => e = .returned v ∧ w = w') : Calls P f args w fun e w' => e = .returned v ∧ w' = w :=
  h.mono fun _ _ ⟨a, b⟩ => ⟨a, b.symm⟩

theorem calls_quiet {P : Program} {f : FuncId} {args : Array Value} {w : World} {n : Nat} {v : Value} (h : Calls P f args (w.drewN n) fun e w' => e = .returned v ∧ w.drewN n = w') : Calls P f args (w.drewN n) fun e w'' => e = .returned v ∧ ∃ m, w'' = w.drewN m :=
  Calls.quiet_of_same (calls_flip h)

theorem ret_bool {a b : Bool} (h : a = b) : Ending.returned (.bool a) = .returned (.bool b) := by rw [h]
theorem ret_int {a b : Int} (h : a = b) : Ending.returned (.int .i64 a) = .returned (.int .i64 b) := by rw [h]
theorem bcell {W w1 : World} (hb : Below W.heap.size W w1) : (∀ b o, b < W.heap.size → w1.cell? ⟨b, o, none⟩ = W.cell? ⟨b, o, none⟩) ∧ (∀ b o, b < W.heap.size → w1.frozen? ⟨b, o, none⟩ = W.frozen? ⟨b, o, none⟩) :=
  ⟨fun b o h => hb.cell (p := ⟨b, o, none⟩) h, fun b o h => hb.frozen (p := ⟨b, o, none⟩) h⟩

theorem box2_start (w : World) (x y : Value) (t : TypeId) :
    (w.alloc (.cells #[x, y] t)).drew.cell? ⟨w.heap.size, 0, none⟩ = some x ∧ (w.alloc (.cells #[x, y] t)).drew.cell? ⟨w.heap.size, 1, none⟩ = some y ∧ Below w.heap.size w (w.alloc (.cells #[x, y] t)).drew ∧ w.heap.size < (w.alloc (.cells #[x, y] t)).drew.heap.size := by
  refine ⟨by go_simp, by go_simp, ((Below.refl _ _).alloc (Nat.le_refl _) _).drew, ?_⟩
  show w.heap.size < (w.alloc (.cells #[x, y] t)).heap.size
  simp

theorem box2_keep {W w0 w1 : World} {x y : Option Value} {B : Nat} (h : w0.cell? ⟨B, 0, none⟩ = x ∧ w0.cell? ⟨B, 1, none⟩ = y ∧ Below B W w0 ∧ B < w0.heap.size) (hb : Below w0.heap.size w0 w1) :
    w1.cell? ⟨B, 0, none⟩ = x ∧ w1.cell? ⟨B, 1, none⟩ = y ∧ Below B W w1 ∧ B < w1.heap.size := by
  obtain ⟨h1, h2, h3, h4⟩ := h
  refine ⟨?_, ?_, h3.trans (hb.mono (by omega)), Nat.lt_of_lt_of_le h4 hb.size⟩
  · rw [hb.cell (p := ⟨B, 0, none⟩) h4]; exact h1
  · rw [hb.cell (p := ⟨B, 1, none⟩) h4]; exact h2

theorem i64_rng {a : Int} (h : (Lit.int .i64 a).wf = true) : -9223372036854775808 ≤ a ∧ a ≤ 9223372036854775807 := by
  simp only [Lit.wf, Bool.and_eq_true, decide_eq_true_eq] at h
  have e1 : IntKind.i64.min = -9223372036854775808 := by decide
  have e2 : IntKind.i64.max = 9223372036854775807 := by decide
  omega

/-- The world has at most new blocks since W, and the cells l hold what they held and may be written. -/
def Kept (W w : World) (l : List (Addr × Value)) : Prop := Below W.heap.size W w ∧ ∀ p ∈ l, p.1.block < w.heap.size ∧ w.cell? p.1 = some p.2 ∧ w.frozen? p.1 = false

theorem Kept.start (W : World) : Kept W W [] := ⟨Below.refl _ _, fun _ h => by cases h⟩

theorem Kept.step {W w w1 : World} {l : List (Addr × Value)} (h : Kept W w l) (hb : Below w.heap.size w w1) : Kept W w1 l :=
  ⟨h.1.trans (hb.mono h.1.size), fun p hp => ⟨Nat.lt_of_lt_of_le (h.2 p hp).1 hb.size, by rw [hb.cell (h.2 p hp).1]; exact (h.2 p hp).2.1, by rw [hb.frozen (h.2 p hp).1]; exact (h.2 p hp).2.2⟩⟩

theorem Kept.alloc2 {W w : World} {l : List (Addr × Value)} (h : Kept W w l) (x y : Value) (t : TypeId) (B : Nat) (hB : w.heap.size = B) :
    Kept W (w.alloc (.cells #[x, y] t)) ((⟨B, 0, none⟩, x) :: (⟨B, 1, none⟩, y) :: l) := by
  subst hB
  have h1 := h.step ((Below.refl w.heap.size w).alloc (Nat.le_refl _) (.cells #[x, y] t))
  refine ⟨h1.1, fun p hp => ?_⟩
  simp only [List.mem_cons] at hp
  rcases hp with rfl | rfl | hp
  · exact ⟨by simp, by go_simp, by go_simp⟩
  · exact ⟨by simp, by go_simp, by go_simp⟩
  · exact h1.2 p hp

theorem Kept.drew {W w : World} {l : List (Addr × Value)} (h : Kept W w l) : Kept W w.drew l := h.step (Below.refl _ _).drew

theorem Kept.get {W w : World} {l : List (Addr × Value)} (h : Kept W w l) (i : Nat) {a : Addr} {v : Value} (hi : l[i]? = some (a, v)) : w.cell? a = some v :=
  (h.2 (a, v) (List.mem_of_getElem? hi)).2.1
theorem Kept.fz {W w : World} {l : List (Addr × Value)} (h : Kept W w l) (i : Nat) {a : Addr} {v : Value} (hi : l[i]? = some (a, v)) : w.frozen? a = false :=
  (h.2 (a, v) (List.mem_of_getElem? hi)).2.2
theorem Kept.lt {W w : World} {l : List (Addr × Value)} (h : Kept W w l) (i : Nat) {a : Addr} {v : Value} (hi : l[i]? = some (a, v)) : a.block < w.heap.size :=
  (h.2 (a, v) (List.mem_of_getElem? hi)).1
end Go.Proofs.YtdfmidihghoilaaDoor
