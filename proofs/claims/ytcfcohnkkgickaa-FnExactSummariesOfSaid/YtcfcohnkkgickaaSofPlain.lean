/-
  What SummariesOf answers.
-/
import Derived.Test.YtcfcohnkkgickaaRows
import Derived.Test.YtcfcohnkkgickaaSmApp
import Derived.Test.YtcfcohnkkgickaaTtPlain
import Derived.Test.YtcfcohnkkgickaaBkLaw
namespace Go.Proofs.Ytcfcohnkkgickaa
open Go.RowKit Num

/-- The summaries of the first n blocks. -/
def sofN (l : List Blk) (n : Nat) : List Sm := (List.range n).map fun k => sumB (Bn l k).id (Bn l k).rows
theorem sofN_len (l : List Blk) (n : Nat) : (sofN l n).length = n := by unfold sofN; simp
theorem sofN_succ (l : List Blk) (n : Nat) : sofN l n ++ [sumB (Bn l n).id (Bn l n).rows] = sofN l (n + 1) := by unfold sofN; rw [List.range_succ]; simp
theorem sofN_h {l : List Blk} {n : Nat} : ∀ s ∈ sofN l n, s.h.length = 12 := by
  intro s hs
  unfold sofN at hs
  obtain ⟨k, _, rfl⟩ := List.mem_map.1 hs
  exact sumB_len _ _
open Classical in
/-- What SummariesOf answers. -/
noncomputable def sofT (ver : Int) (l : List Blk) : List Sm := if TblOk ver l l.length then sofN l l.length else []
theorem sofT_no {ver : Int} {l : List Blk} (h : ¬ TblOk ver l l.length) : sofT ver l = [] := by unfold sofT; rw [if_neg h]
theorem sofT_yes {ver : Int} {l : List Blk} (h : TblOk ver l l.length) : sofT ver l = sofN l l.length := by unfold sofT; rw [if_pos h]
theorem sofT_zero {ver : Int} {l : List Blk} (h : l.length = 0) : sofT ver l = [] := by
  unfold sofT
  split
  · rw [h]; rfl
  · rfl
theorem sofT_h {ver : Int} {l : List Blk} : ∀ s ∈ sofT ver l, s.h.length = 12 := by
  intro s hs
  unfold sofT at hs
  split at hs
  · exact sofN_h s hs
  · cases hs
theorem sofT_len {ver : Int} {l : List Blk} : (sofT ver l).length ≤ 6 := by
  unfold sofT
  split
  · next h => rw [sofN_len]; exact h.2.1
  · exact Nat.zero_le _
/-- What a function leaves that hands back summaries of its own. -/
def SofOut (L : List Sm) (w : World) (e : Ending) (w' : World) : Prop := ∃ v f, e = .returned v ∧ OwnM w' w.heap.size v L f ∧ Below w.heap.size w w'
theorem KM.lit {W X : World} {B N : Nat} {L : List (Addr × Value)} (h : Kept W X L) (hN : X.heap.size = N) (hB : B ≤ N) : KM W (X.alloc (.cells #[] 77)) B L (.slice (some ⟨N, 0, none⟩) 0 0) [] [] := by
  refine ⟨h.step ((Below.refl _ _).alloc (Nat.le_refl _) _), ⟨[], ?_, rfl, (fun k hk => by cases hk), List.nodup_nil, fun k hk => by cases hk⟩, fun p hp => ⟨fun e => ?_, fun e => by cases e⟩⟩
  · subst hN
    exact World.ownsRow_lit X #[] 0 hB (by decide) rfl
  · have h1 := (h.2 p hp).1
    have h2 : N = p.1.block := Option.some.inj e
    omega
theorem ownM_made {w w1 : World} {n : Nat} (hown : w1.ownsRow w.heap.size 77 7 (.slice (some ⟨w.heap.size, 0, none⟩) 0 n) 0 []) : OwnM w1 w.heap.size (.slice (some ⟨w.heap.size, 0, none⟩) 0 n) [] [] :=
  ⟨[], hown, rfl, (fun k hk => by cases hk), List.nodup_nil, fun k hk => by cases hk⟩
theorem OwnM.base {w : World} {B B' : Nat} {v : Value} {l : List Sm} {f : List Nat} (h : OwnM w B v l f) (hB : B' ≤ B) : OwnM w B' v l f := by
  obtain ⟨vs, h1, h2, h3, h4⟩ := h
  exact ⟨vs, ⟨h1.1, h1.2.imp id fun ⟨g, cap, cur, e, hb, r⟩ => ⟨g, cap, cur, e, Nat.le_trans hB hb, r⟩⟩, h2, fun k hk => Nat.le_trans hB (h3 k hk), h4⟩
theorem sc_cells {W w : World} {N : Nat} {b : Sm} {v : Value} {L : List (Addr × Value)} (h : Kept W w ((⟨N, 0, none⟩, .int .i64 b.b) :: (⟨N, 1, none⟩, .int .i64 b.c) :: (⟨N, 2, none⟩, .int .i64 b.u) :: (⟨N, 3, none⟩, .int .i64 b.mn) :: (⟨N, 4, none⟩, .int .i64 b.mx) :: (⟨N, 5, none⟩, .int .i64 b.sm) :: (⟨N, 6, none⟩, v) :: L)) :
    ∀ j u, (sc b v)[j]? = some u → w.cell? ⟨N, j, none⟩ = some u := by
  intro j u hj
  match j, hj with
  | 0, hj => cases hj; exact h.get 0 rfl
  | 1, hj => cases hj; exact h.get 1 rfl
  | 2, hj => cases hj; exact h.get 2 rfl
  | 3, hj => cases hj; exact h.get 3 rfl
  | 4, hj => cases hj; exact h.get 4 rfl
  | 5, hj => cases hj; exact h.get 5 rfl
  | 6, hj => cases hj; exact h.get 6 rfl
  | j + 7, hj => cases hj
end Go.Proofs.Ytcfcohnkkgickaa
