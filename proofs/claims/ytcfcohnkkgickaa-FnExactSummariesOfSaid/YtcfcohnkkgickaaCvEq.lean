/-
  Comparing arrays of twelve ints.
-/
import Derived.Test.YtcfcohnkkgickaaRows
import Derived.Test.YtcfcohnkkgickaaCvPlain
namespace Go.Proofs.Ytcfcohnkkgickaa
open Go.RowKit Num

theorem part_cells {l : List Int} (hl : l.length = 12) : ∀ k : Nat, k < 12 → ∀ w : World, (part 3 (cv l) (k * 1)).run Try.prog w = .ok (.int .i64 (l.getD k 0)) w := by
  obtain ⟨a, b, c, d, e, f, g, i, j, k', m, n, rfl⟩ := list12 hl
  have i0 : ∀ w : World, (part 3 (cv [a, b, c, d, e, f, g, i, j, k', m, n]) (0 * 1)).run Try.prog w = .ok (.int .i64 a) w := fun _ => by kernel_rfl
  have i1 : ∀ w : World, (part 3 (cv [a, b, c, d, e, f, g, i, j, k', m, n]) (1 * 1)).run Try.prog w = .ok (.int .i64 b) w := fun _ => by kernel_rfl
  have i2 : ∀ w : World, (part 3 (cv [a, b, c, d, e, f, g, i, j, k', m, n]) (2 * 1)).run Try.prog w = .ok (.int .i64 c) w := fun _ => by kernel_rfl
  have i3 : ∀ w : World, (part 3 (cv [a, b, c, d, e, f, g, i, j, k', m, n]) (3 * 1)).run Try.prog w = .ok (.int .i64 d) w := fun _ => by kernel_rfl
  have i4 : ∀ w : World, (part 3 (cv [a, b, c, d, e, f, g, i, j, k', m, n]) (4 * 1)).run Try.prog w = .ok (.int .i64 e) w := fun _ => by kernel_rfl
  have i5 : ∀ w : World, (part 3 (cv [a, b, c, d, e, f, g, i, j, k', m, n]) (5 * 1)).run Try.prog w = .ok (.int .i64 f) w := fun _ => by kernel_rfl
  have i6 : ∀ w : World, (part 3 (cv [a, b, c, d, e, f, g, i, j, k', m, n]) (6 * 1)).run Try.prog w = .ok (.int .i64 g) w := fun _ => by kernel_rfl
  have i7 : ∀ w : World, (part 3 (cv [a, b, c, d, e, f, g, i, j, k', m, n]) (7 * 1)).run Try.prog w = .ok (.int .i64 i) w := fun _ => by kernel_rfl
  have i8 : ∀ w : World, (part 3 (cv [a, b, c, d, e, f, g, i, j, k', m, n]) (8 * 1)).run Try.prog w = .ok (.int .i64 j) w := fun _ => by kernel_rfl
  have i9 : ∀ w : World, (part 3 (cv [a, b, c, d, e, f, g, i, j, k', m, n]) (9 * 1)).run Try.prog w = .ok (.int .i64 k') w := fun _ => by kernel_rfl
  have i10 : ∀ w : World, (part 3 (cv [a, b, c, d, e, f, g, i, j, k', m, n]) (10 * 1)).run Try.prog w = .ok (.int .i64 m) w := fun _ => by kernel_rfl
  have i11 : ∀ w : World, (part 3 (cv [a, b, c, d, e, f, g, i, j, k', m, n]) (11 * 1)).run Try.prog w = .ok (.int .i64 n) w := fun _ => by kernel_rfl
  intro k hk w
  have h12 : k = 0 ∨ k = 1 ∨ k = 2 ∨ k = 3 ∨ k = 4 ∨ k = 5 ∨ k = 6 ∨ k = 7 ∨ k = 8 ∨ k = 9 ∨ k = 10 ∨ k = 11 := by omega
  rcases h12 with rfl | rfl | rfl | rfl | rfl | rfl | rfl | rfl | rfl | rfl | rfl | rfl
  · exact i0 w
  · exact i1 w
  · exact i2 w
  · exact i3 w
  · exact i4 w
  · exact i5 w
  · exact i6 w
  · exact i7 w
  · exact i8 w
  · exact i9 w
  · exact i10 w
  · exact i11 w

theorem eq_loop (d : Nat) {l r : List Int} (hl : l.length = 12) (hr : r.length = 12) (w : World) : ∀ is : List Nat, (∀ i ∈ is, i < 12) →
    ((forIn is ((none : Option Bool), ()) fun i __s => do
      let __do_lift ← part 3 (cv l) (i * 1)
      let __do_lift_1 ← part 3 (cv r) (i * 1)
      let __do_lift ← Op.equalIn (d + 1) 3 __do_lift __do_lift_1
      if (!__do_lift) = true then pure (ForInStep.done (some false, ())) else pure (ForInStep.yield (none, ()))) : Sem (Option Bool × Unit)).run Try.prog w
      = .ok (if (∀ i ∈ is, l.getD i 0 = r.getD i 0) then (none, ()) else (some false, ())) w
  | [], _ => by simp
  | i :: is, h => by
    have hi := h i (by simp)
    have ih := eq_loop d hl hr w is (fun j hj => h j (by simp [hj]))
    rw [List.forIn_cons]
    simp only [Sem.run_bind, part_cells hl i hi, part_cells hr i hi, Result.andThen_ok, run_equalIn_int w d 3 .i64 .i64 _ _ Try.underlying3]
    by_cases he : l.getD i 0 = r.getD i 0
    · rw [beq_iff_eq.2 he]
      simp only [Bool.not_true, Bool.false_eq_true, if_false, Sem.run_pure, Result.andThen_ok]
      rw [ih]
      congr 1
      simp only [List.mem_cons, forall_eq_or_imp, he, true_and]
    · rw [beq_eq_false_iff_ne.2 he]
      simp only [Bool.not_false, if_true, Sem.run_pure, Result.andThen_ok]
      rw [if_neg (fun hh => he (hh i (by simp)))]

theorem run_eq_cells (d : Nat) (l r : List Int) (hl : l.length = 12) (hr : r.length = 12) (w : World) :
    (Op.equalIn (d + 1 + 1) 126 (.agg (cv l)) (.agg (cv r))).run Try.prog w = .ok (decide (l = r)) w := by
  have hs : (sizeOf 3).run Try.prog w = .ok 1 w := by kernel_rfl
  rw [Op.equalIn]
  simp only [Sem.run_bind, run_underlying Try.underlying126, Result.andThen_ok, hs]
  rw [Std.Legacy.Range.forIn_eq_forIn_range']
  have hL := eq_loop d hl hr w (List.range' 0 12 1) (fun i hi => by simp [List.mem_range'] at hi; omega)
  have hz : ([:12] : Std.Legacy.Range).size = 12 := by decide
  simp only [hz]
  erw [hL]
  simp only [Result.andThen_ok]
  by_cases h : l = r
  · subst h
    rw [if_pos (fun _ _ => rfl)]
    simp
  · rw [if_neg (fun hh => h (List.ext_getElem (by rw [hl, hr]) fun k h1 h2 => by
      have h3 := hh k (by simp [List.mem_range']; omega)
      rwa [getD_at h1, getD_at h2] at h3))]
    simp [h]
end Go.Proofs.Ytcfcohnkkgickaa
