/-
  The walks over the model's l5Copy, AddRow and RemoveRow.
-/
import Derived.Test.YtcfcohnkkgickaaRows
import Derived.Test.YtcfcohnkkgickaaMgB
import Derived.Test.YtcfcohnkkgickaaMgA
import Derived.Deep.RegionHeld3
import Derived.Deep.DeepCutAuto
namespace Go.Proofs.Ytcfcohnkkgickaa
open Go.RowKit Num

/-- What copies of a block leave. -/
def BlkCopy (id : Int) (l : List Rw) (w : World) (e : Ending) (w' : World) : Prop :=
  ∃ v fp, e = .returned (.agg #[.int .i64 id, v]) ∧ SliceRep rowTy w' v l fp ∧ (∀ k ∈ fp, w.heap.size ≤ k) ∧ fp.Nodup ∧ Below w.heap.size w w'

theorem blkCopy_mk {id : Int} {l m : List Rw} {w W2 w1 : World} {N : Nat} {ao : Option Addr} {n cap : Nat} (h2 : Below w.heap.size w W2) (hb : Below W2.heap.size W2 w1) (ho : OwnR w1 W2.heap.size (.slice ao n cap) m) (_hN : N < w1.heap.size) (hw : w.heap.size ≤ N) (x y : Value) (hN2 : N < W2.heap.size) (hm : m = l) :
    BlkCopy id l w (.returned (.agg #[.int .i64 id, .slice ao n cap])) ((w1.setCell ⟨N, 0, none⟩ x).setCell ⟨N, 1, none⟩ y) := by
  subst hm
  obtain ⟨fp, h1, h3, h4⟩ := OwnR.rep ((ho.setb (a := ⟨N, 0, none⟩) hN2 x).setb (a := ⟨N, 1, none⟩) hN2 y)
  exact ⟨_, fp, rfl, h1, fun k hk => Nat.le_trans h2.size (h3 k hk), h4, ((h2.trans (hb.mono h2.size)).setCell hw x).setCell hw y⟩

set_option maxRecDepth 8000 in
set_option maxHeartbeats 3200000 in
theorem spec_copy (id : Int) (ao : Option Addr) (cap : Nat) (l : List Rw) (w : World) (hn : l.length ≤ 1048576) (hs : SrcR w (.slice ao l.length cap) l) :
    Calls Try.prog 126 #[.agg #[.int .i64 id, .slice ao l.length cap]] w (BlkCopy id l w) := by
  have HS := Lib.hid hs
  clear hs
  go_enter Try.func126, Try.ntmps126
  go_wp2_with fail
  have K0 := ((Kept.start w).alloc2 (.int .i64 id) (.slice ao l.length cap) 80 _ rfl).alloc2 (.int .i64 0) (.slice none 0 0) 80 (w.heap.size + 1) (by simp)
  generalize ((w.alloc (.cells #[.int .i64 id, .slice ao l.length cap] 80)).alloc (.cells #[.int .i64 0, .slice none 0 0] 80)) = W2 at K0 ⊢
  have K1 := K0.sub (l' := [(⟨w.heap.size, 0, none⟩, .int .i64 id), (⟨w.heap.size, 1, none⟩, .slice ao l.length cap)]) (by intro p9 hp9; simp only [List.mem_cons, List.not_mem_nil, or_false] at hp9; rcases hp9 with rfl | rfl <;> simp)
  have H2 := Lib.hid (HS.out.keep K0.1)
  go_region_held3 (fun w' => w'.cell? ⟨w.heap.size, 0, none⟩ = some (.int .i64 id) ∧ w'.cell? ⟨w.heap.size, 1, none⟩ = some (.slice ao l.length cap)) (first | assumption | exact c2c K1 (Below.refl _ _).drew | exact c2c K1 (by assumption) | exact c2c_alloc (by assumption) | exact c2c_set2 (by assumption) (by simp) (by simp)) (first | (refine step_append_rows (W := W2) rfl _ _ rfl W2.heap.size (.slice (some ⟨W2.heap.size, 0, none⟩) 0 0) (.slice ao l.length cap) [] l ?_ ?_ ?_ ?_ ?_ ?_ ?_ ?_; (· rfl); (· rfl); (· exact OwnR.lit_at rfl (Nat.le_refl _)); (· exact H2.out.keep ((Below.refl _ _).drew.alloc (Nat.le_refl _) _)); (· simp; omega); (· simp); (· exact (Below.refl _ _).drew.alloc (Nat.le_refl _) _); intro v' w1 hown' hbel'; obtain ⟨ao', cap', hv'⟩ := hown'.shape; subst hv'; have K9 := K0.step hbel'; have r0 := K9.get 0 rfl; have r1 := K9.get 1 rfl; have q0 := K9.fz 0 rfl; have q1 := K9.fz 1 rfl))
  all_goals
    have AN := Lib.hid (blkCopy_mk (id := id) (l := l) (N := w.heap.size + 1) K0.1 hbel' hown' (K9.lt 0 rfl) (Nat.le_succ _) (.int .i64 id) (.slice ao' l.length cap') (by have := K0.lt 0 rfl; simpa using this) (by simp))
    have K8 := Kept.set2 K9 (.int .i64 id) (.slice ao' l.length cap') (Nat.le_succ _) (by simp only [List.mem_cons, List.not_mem_nil, or_false]; rintro c9 (rfl | rfl) <;> simp)
    have r0' := K8.get 0 rfl
    have r1' := K8.get 1 rfl
    have yy := K8.lt 0 rfl
    clear K9 K1 K0 r0 r1 q0 q1 hown' hbel'
    go_wp2
    exact bodyPost_ret (v := .agg #[.int .i64 id, .slice ao' l.length cap']) (by simp [results, Try.results126, go_sem, r0', r1', yy]) rfl AN.out
end Go.Proofs.Ytcfcohnkkgickaa
