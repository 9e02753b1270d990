/-
  The walks over the project's removal of a row from a list of rows, and over its copy of a block.
-/
import Derived.Test.YtcfcohnkkgickaaRows
import Derived.Test.YtcfcohnkkgickaaCpImpl
import Derived.Test.YtcfcohnkkgickaaMgB
import Derived.Test.YtcfcohnkkgickaaAdSpec
import Derived.Test.YtcfcohnkkgickaaMgA
import Derived.Deep.RegionHeld3
import Derived.IntWalk
namespace Go.Proofs.Ytcfcohnkkgickaa
open Go.RowKit Num

set_option maxRecDepth 8000 in
set_option maxHeartbeats 6400000 in
theorem impl_without (h cap : Nat) (l : List Rw) (k : Nat) (w : World) (hn : l.length ≤ 1048576) (hk : k < l.length) (hcap : l.length ≤ cap) (hV : RowsVal w (some ⟨h, 0, none⟩) l.length (Rn l)) :
    Calls Try.prog 177 #[.slice (some ⟨h, 0, none⟩) l.length cap, .int .i64 k] w (RowsOut (l.take k ++ l.drop (k + 1)) w) := by
  have SA := Lib.hid (RowsVal.src (c := cap) (o := 0) (m := k) hV (by omega))
  obtain ⟨p, hpk⟩ : ∃ p, p = k + 1 := ⟨_, rfl⟩
  have SB0 := RowsVal.tail (c := cap - p) (p := p) (cap := cap) hV (by omega) hcap
  have hw9 : IntKind.i64.wrap ((k : Int) + 1) = (p : Int) := by rw [IntWalk.i64_in _ (by omega)]; omega
  rw [List.drop_zero, Nat.zero_mul] at SA
  have i1 : (k : Int) < (l.length : Int) := by omega
  have i2 : (k : Int) ≤ (cap : Int) := by omega
  have i3 : (l.length : Int) ≤ (cap : Int) := by omega
  have i4 : (0 : Int) ≤ (k : Int) := by omega
  have i5 : (p : Int) ≤ (l.length : Int) := by omega
  have i6 : (p : Int) ≤ (cap : Int) := by omega
  have i7 : (0 : Int) ≤ (p : Int) := by omega
  have hlA := Lib.hid (show k = (l.take k).length by rw [List.length_take]; omega)
  have hlB : (l.drop p).length = l.length - p := List.length_drop ..
  have HLB := Lib.hid hlB
  have hpl : p ≤ l.length := by omega
  rw [← hpk]
  clear hpk hV hlB
  by_cases hcp : cap = p
  · subst hcp
    rw [if_pos rfl, show l.length - cap = 0 by omega, Nat.sub_self] at SB0
    have SB := Lib.hid SB0
    clear SB0
    go_enter Try.func177, Try.ntmps177
    go_wp2_with fail
    go_region_held3 (fun w' => Below w.heap.size w w') (first | assumption | exact (Below.refl _ _).drew | exact hbel1 | exact hbel2) (first | (go_at_call 144; (with_reducible refine (impl_cpN _ _ _ (l.take k) _ hlA.out (by rw [← hlA.out]; omega) ?_).mono ?_); (exact SA.out.keep (by assumption)); rintro e9 w1 ⟨v1, rfl, hown1, hb⟩; have hbel1 := below_via hb (‹Below w.heap.size w _›)) | (refine step_append_rowsT (W := w) rfl (.tmp 8) (.tmp 12) 176 rfl (by kernel_rfl) w.heap.size v1 _ (l.take k) (l.drop cap) rfl rfl (hown1.mono (by first | (exact (Below.refl _ _).drew.size) | simp)) ?_ ?_ ?_ ?_ ?_; (· exact SB.out.keep hbel1); (· rw [HLB.out, ← hlA.out]; omega); (· exact hbel1.size); (· exact hbel1); intro v2 w2 hown2 hbel2))
    all_goals
      go_wp2
      all_goals
        go_ret
        exact ⟨_, rfl, hown2, hbel2⟩
  · rw [if_neg hcp] at SB0
    have SB := Lib.hid SB0
    clear SB0
    go_enter Try.func177, Try.ntmps177
    go_wp2_with fail
    go_region_held3 (fun w' => Below w.heap.size w w') (first | assumption | exact (Below.refl _ _).drew | exact hbel1 | exact hbel2) (first | (go_at_call 144; (with_reducible refine (impl_cpN _ _ _ (l.take k) _ hlA.out (by rw [← hlA.out]; omega) ?_).mono ?_); (exact SA.out.keep (by assumption)); rintro e9 w1 ⟨v1, rfl, hown1, hb⟩; have hbel1 := below_via hb (‹Below w.heap.size w _›)) | (refine step_append_rowsT (W := w) rfl (.tmp 8) (.tmp 12) 176 rfl (by kernel_rfl) w.heap.size v1 _ (l.take k) (l.drop p) rfl rfl (hown1.mono (by first | (exact (Below.refl _ _).drew.size) | simp)) ?_ ?_ ?_ ?_ ?_; (· exact SB.out.keep hbel1); (· rw [HLB.out, ← hlA.out]; omega); (· exact hbel1.size); (· exact hbel1); intro v2 w2 hown2 hbel2))
    all_goals
      go_wp2
      all_goals
        go_ret
        exact ⟨_, rfl, hown2, hbel2⟩

set_option maxRecDepth 8000 in
set_option maxHeartbeats 6400000 in
theorem impl_bc (id : Int) (ao : Option Addr) (cap : Nat) (l : List Rw) (w : World) (hn : l.length ≤ 1048576) (hs : SrcR w (.slice ao l.length cap) l) :
    Calls Try.prog 130 #[.agg #[.int .i64 id, .slice ao l.length cap]] w (BlkCopy id l w) := by
  have HS := Lib.hid hs
  clear hs
  go_enter Try.func130, Try.ntmps130
  go_wp2_with fail
  have K0 := ((Kept.start w).alloc2 (.int .i64 id) (.slice ao l.length cap) 80 _ rfl).alloc2 (.int .i64 0) (.slice none 0 0) 80 (w.heap.size + 1) (by simp)
  generalize ((w.alloc (.cells #[.int .i64 id, .slice ao l.length cap] 80)).alloc (.cells #[.int .i64 0, .slice none 0 0] 80)) = W2 at K0 ⊢
  have K1 := K0.sub (l' := [(⟨w.heap.size, 0, none⟩, .int .i64 id), (⟨w.heap.size, 1, none⟩, .slice ao l.length cap)]) (by intro p9 hp9; simp only [List.mem_cons, List.not_mem_nil, or_false] at hp9; rcases hp9 with rfl | rfl <;> simp)
  have H2 := Lib.hid (HS.out.keep K0.1)
  go_region_held3 (fun w' => w'.cell? ⟨w.heap.size, 0, none⟩ = some (.int .i64 id) ∧ w'.cell? ⟨w.heap.size, 1, none⟩ = some (.slice ao l.length cap)) (first | assumption | exact c2c K1 (Below.refl _ _).drew | exact c2c K1 hbel1 | exact c2c_set2 (c2c K1 hbel1) (by simp) (by simp)) (first | (go_simp; go_at_call 144; (with_reducible refine (impl_cp _ _ l _ hn ?_).mono ?_); (exact H2.out.keep (Below.refl _ _).drew); rintro e9 w1 ⟨v1, rfl, hown1, hb⟩; have hbel1 := below_via hb (Below.refl W2.heap.size W2).drew; obtain ⟨ao', cap', hv'⟩ := hown1.shape; subst hv'; have K9 := K0.step hbel1; have r0 := K9.get 0 rfl; have r1 := K9.get 1 rfl; have q0 := K9.fz 0 rfl; have q1 := K9.fz 1 rfl))
  all_goals
    have AN := Lib.hid (blkCopy_mk (id := id) (l := l) (N := w.heap.size + 1) K0.1 hbel1 (hown1.mono (by simp)) (K9.lt 0 rfl) (Nat.le_succ _) (.int .i64 id) (.slice ao' l.length cap') (by have := K0.lt 0 rfl; simpa using this) rfl)
    have K8 := Kept.set2 K9 (.int .i64 id) (.slice ao' l.length cap') (Nat.le_succ _) (by simp only [List.mem_cons, List.not_mem_nil, or_false]; rintro c9 (rfl | rfl) <;> simp)
    have r0' := K8.get 0 rfl
    have r1' := K8.get 1 rfl
    have yy := K8.lt 0 rfl
    clear K9 K1 K0 r0 r1 q0 q1 hown1 hbel1
    go_wp2
    exact bodyPost_ret (v := .agg #[.int .i64 id, .slice ao' l.length cap']) (by simp [results, Try.results130, go_sem, r0', r1', yy]) rfl AN.out
end Go.Proofs.Ytcfcohnkkgickaa
