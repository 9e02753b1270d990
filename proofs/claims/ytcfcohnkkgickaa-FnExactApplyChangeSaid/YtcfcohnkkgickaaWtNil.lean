/-
  The walk over the project's insertion of a row into nil rows; at rows as a call owns them.
-/
import Derived.Test.YtcfcohnkkgickaaRows
import Derived.Test.YtcfcohnkkgickaaWtImpl
namespace Go.Proofs.Ytcfcohnkkgickaa
open Go.RowKit Num

set_option maxRecDepth 8000 in
set_option maxHeartbeats 6400000 in
theorem impl_with0 (r : Rw) (w : World) :
    Calls Try.prog 166 #[.slice none 0 0, .agg #[.int .i64 r.i, .int .i64 r.g, .int .i64 r.y, .int .i64 r.x, .bool r.nl]] w (RowsOut (addL [] r) w) := by
  go_enter Try.func166, Try.ntmps166
  go_upto_block 0 with fail
  have K0 := (Kept.start w).alloc5 (.int .i64 r.i) (.int .i64 r.g) (.int .i64 r.y) (.int .i64 r.x) (.bool r.nl) 36 _ rfl
  generalize (w.alloc (.cells #[.int .i64 r.i, .int .i64 r.g, .int .i64 r.y, .int .i64 r.x, .bool r.nl] 36)) = W2 at K0 ⊢
  go_cut [5] (fun kv wx => kv = .int .i64 0 ∧ Kept w wx [(⟨w.heap.size, 0, none⟩, .int .i64 r.i), (⟨w.heap.size, 1, none⟩, .int .i64 r.g), (⟨w.heap.size, 2, none⟩, .int .i64 r.y), (⟨w.heap.size, 3, none⟩, .int .i64 r.x), (⟨w.heap.size, 4, none⟩, .bool r.nl)])
  case first =>
    go_wp2_with fail
    go_loopw [5] (fun kv wr => kv = .int .i64 0 ∧ Hid (Kept w wr [(⟨w.heap.size, 0, none⟩, .int .i64 r.i), (⟨w.heap.size, 1, none⟩, .int .i64 r.g), (⟨w.heap.size, 2, none⟩, .int .i64 r.y), (⟨w.heap.size, 3, none⟩, .int .i64 r.x), (⟨w.heap.size, 4, none⟩, .bool r.nl)])) (fun _ _ => 0)
    case atStart => exact ⟨rfl, K0⟩
    case round =>
      obtain ⟨rfl, HK⟩ := hrel
      clear K0
      have hsd : decide ((0 : Int) < (0 : Int)) = false := by decide
      go_wp2_with fail
      go_quiet (fail)
      go_wp2_with fail
      go_meet
      exact ⟨rfl, HK.out.step (below_drewN (Below.refl _ _) _)⟩
  case rest =>
    obtain ⟨rfl, K1⟩ := hcut
    go_wp2_with fail
    go_region_held3 (fun w' => w'.cell? ⟨w.heap.size, 0, none⟩ = some (.int .i64 r.i) ∧ w'.cell? ⟨w.heap.size, 1, none⟩ = some (.int .i64 r.g) ∧ w'.cell? ⟨w.heap.size, 2, none⟩ = some (.int .i64 r.y) ∧ w'.cell? ⟨w.heap.size, 3, none⟩ = some (.int .i64 r.x) ∧ w'.cell? ⟨w.heap.size, 4, none⟩ = some (.bool r.nl) ∧ Below wc.heap.size wc w') (first | assumption | exact k5_at K1 hbel2 | exact k5_at K1 hbel1 | exact k5_at K1 (Below.refl _ _).drew | exact k5_keep K1 (by assumption) ((Below.refl _ _).alloc (Nat.le_refl _) _)) (first | (refine step_grow_rows (W := wc) rfl (.tmp 25) (.tmp 27) 176 rfl (by kernel_rfl) none 0 [] [r] _ rfl rfl ?_ ?_ ?_ ?_ wc.heap.size ?_ ?_ ?_; (· exact .inl ⟨rfl, rfl⟩); (· first | exact SrcR.cells ((K1.alloc5 _ _ _ _ _ _ _ rfl).drew.get 0 rfl) ((K1.alloc5 _ _ _ _ _ _ _ rfl).drew.get 1 rfl) ((K1.alloc5 _ _ _ _ _ _ _ rfl).drew.get 2 rfl) ((K1.alloc5 _ _ _ _ _ _ _ rfl).drew.get 3 rfl) ((K1.alloc5 _ _ _ _ _ _ _ rfl).drew.get 4 rfl) | exact SrcR.cells ((K1.drew.alloc5 _ _ _ _ _ _ _ rfl).get 0 rfl) ((K1.drew.alloc5 _ _ _ _ _ _ _ rfl).get 1 rfl) ((K1.drew.alloc5 _ _ _ _ _ _ _ rfl).get 2 rfl) ((K1.drew.alloc5 _ _ _ _ _ _ _ rfl).get 3 rfl) ((K1.drew.alloc5 _ _ _ _ _ _ _ rfl).get 4 rfl)); (· simp); (· simp); (· exact (k5_b (by assumption)).size); (· exact k5_b (by assumption)); intro v1 w1 hown1 hbel1) | (refine step_append_rowsT (W := wc) rfl (.tmp 28) (.tmp 31) 176 rfl (by kernel_rfl) wc.heap.size v1 _ ([] ++ [r]) [] rfl rfl hown1 ?_ ?_ ?_ ?_ ?_; (· exact .inl ⟨rfl, rfl⟩); (· simp); (· exact hbel1.size); (· exact hbel1); intro v2 w2 hown2 hbel2))
    all_goals
      go_wp2
      all_goals
        go_ret
        exact ⟨_, rfl, by have h : addL [] r = [] ++ [r] ++ [] := rfl; rw [h]; exact hown2.mono K1.1.size, K1.1.trans (hbel2.mono K1.1.size)⟩

/-- At rows as a call owns them: nil, or a head. -/
theorem impl_withV (v : Value) (l : List Rw) (fp : List Nat) (r : Rw) (w : World) (hn : l.length ≤ 1048576) (hs : SliceRep rowTy w v l fp) :
    Calls Try.prog 166 #[v, .agg #[.int .i64 r.i, .int .i64 r.g, .int .i64 r.y, .int .i64 r.x, .bool r.nl]] w (RowsOut (addL l r) w) := by
  have h0 := hs
  rcases hs with ⟨rfl, _, rfl | ⟨g, cap, rfl⟩⟩ | ⟨g, cap, f, rfl, hc, ho, he, _⟩
  · exact impl_with0 r w
  · exact impl_with g cap [] r w hn (Nat.zero_le _) (.inl rfl)
  · obtain ⟨ao, cap', e, _, hV⟩ := rows_open h0
    simp only [Value.slice.injEq, true_and] at e
    obtain ⟨rfl, rfl⟩ := e
    exact impl_with g cap l r w hn hc hV
end Go.Proofs.Ytcfcohnkkgickaa
