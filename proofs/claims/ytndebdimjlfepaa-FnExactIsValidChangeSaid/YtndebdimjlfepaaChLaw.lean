/-
  The walks over the laws' own changes: copied and compared field by field.
-/
import Derived.Test.YtndebdimjlfepaaRows
import Derived.Test.YtndebdimjlfepaaChVal
import Derived.Test.YtndebdimjlfepaaRwLaw
import Derived.Test.YtndebdimjlfepaaChPlain
import Derived.Test.YtndebdimjlfepaaIvcSpec
import Derived.WalkKit
import Derived.WalkSpells
import Derived.WalkLawsBesides
import Derived.IntWalk
import Derived.Lib.Hide
namespace Go.Proofs.Ytndebdimjlfepaa
open Go.RowKit Num

set_option maxRecDepth 8000 in
set_option maxHeartbeats 3200000 in
theorem law_toC (k b i g y x : Int) (nl : Bool) (w : World) :
    Calls Try.prog 22 #[.agg #[.int .i64 k, .int .i64 b, .int .i64 i, .int .i64 g, .int .i64 y, .int .i64 x, .bool nl]] w fun e w' => e = .returned (.agg #[.int .i64 k, .int .i64 b, .int .i64 i, .int .i64 g, .int .i64 y, .int .i64 x, .bool nl]) ∧ Below w.heap.size w w' := by
  go_enter Try.func22, Try.ntmps22
  go_wp2_with fail
  have K0 := (((Kept.start w).alloc7 (.int .i64 k) (.int .i64 b) (.int .i64 i) (.int .i64 g) (.int .i64 y) (.int .i64 x) (.bool nl) 28 _ rfl).alloc7 (.int .i64 0) (.int .i64 0) (.int .i64 0) (.int .i64 0) (.int .i64 0) (.int .i64 0) (.bool false) 38 (w.heap.size + 1) (by simp)).alloc7 (.int .i64 k) (.int .i64 b) (.int .i64 0) (.int .i64 0) (.int .i64 0) (.int .i64 0) (.bool false) 38 (w.heap.size + 1 + 1) (by simp)
  refine (law_toR _ _ _ _ _ _).mono ?_
  rintro e w1 ⟨rfl, hb⟩
  have K1 := K0.step hb
  clear hb K0
  have Q0 := K1.sub (l' := [(⟨w.heap.size + 1 + 1, 0, none⟩, .int .i64 k), (⟨w.heap.size + 1 + 1, 1, none⟩, .int .i64 b), (⟨w.heap.size + 1 + 1, 2, none⟩, .int .i64 0), (⟨w.heap.size + 1 + 1, 3, none⟩, .int .i64 0), (⟨w.heap.size + 1 + 1, 4, none⟩, .int .i64 0), (⟨w.heap.size + 1 + 1, 5, none⟩, .int .i64 0), (⟨w.heap.size + 1 + 1, 6, none⟩, .bool false), (⟨w.heap.size + 1, 0, none⟩, .int .i64 0), (⟨w.heap.size + 1, 1, none⟩, .int .i64 0), (⟨w.heap.size + 1, 2, none⟩, .int .i64 0), (⟨w.heap.size + 1, 3, none⟩, .int .i64 0), (⟨w.heap.size + 1, 4, none⟩, .int .i64 0), (⟨w.heap.size + 1, 5, none⟩, .int .i64 0), (⟨w.heap.size + 1, 6, none⟩, .bool false)]) (by intro p9 hp9; simp only [List.mem_cons, List.not_mem_nil, or_false] at hp9; rcases hp9 with rfl | rfl | rfl | rfl | rfl | rfl | rfl | rfl | rfl | rfl | rfl | rfl | rfl | rfl <;> simp)
  have Q1 := Kept.set (p := [(⟨w.heap.size + 1 + 1, 0, none⟩, .int .i64 k), (⟨w.heap.size + 1 + 1, 1, none⟩, .int .i64 b)]) Q0 (.int .i64 i) (by simp only; omega) (by simp only [List.cons_append, List.nil_append, List.mem_cons, List.not_mem_nil, or_false]; rintro c (rfl | rfl | rfl | rfl | rfl | rfl | rfl | rfl | rfl | rfl | rfl | rfl | rfl) <;> simp)
  have Q2 := Kept.set (p := [(⟨w.heap.size + 1 + 1, 0, none⟩, .int .i64 k), (⟨w.heap.size + 1 + 1, 1, none⟩, .int .i64 b), (⟨w.heap.size + 1 + 1, 2, none⟩, .int .i64 i)]) Q1 (.int .i64 g) (by simp only; omega) (by simp only [List.cons_append, List.nil_append, List.mem_cons, List.not_mem_nil, or_false]; rintro c (rfl | rfl | rfl | rfl | rfl | rfl | rfl | rfl | rfl | rfl | rfl | rfl | rfl) <;> simp)
  have Q3 := Kept.set (p := [(⟨w.heap.size + 1 + 1, 0, none⟩, .int .i64 k), (⟨w.heap.size + 1 + 1, 1, none⟩, .int .i64 b), (⟨w.heap.size + 1 + 1, 2, none⟩, .int .i64 i), (⟨w.heap.size + 1 + 1, 3, none⟩, .int .i64 g)]) Q2 (.int .i64 y) (by simp only; omega) (by simp only [List.cons_append, List.nil_append, List.mem_cons, List.not_mem_nil, or_false]; rintro c (rfl | rfl | rfl | rfl | rfl | rfl | rfl | rfl | rfl | rfl | rfl | rfl | rfl) <;> simp)
  have Q4 := Kept.set (p := [(⟨w.heap.size + 1 + 1, 0, none⟩, .int .i64 k), (⟨w.heap.size + 1 + 1, 1, none⟩, .int .i64 b), (⟨w.heap.size + 1 + 1, 2, none⟩, .int .i64 i), (⟨w.heap.size + 1 + 1, 3, none⟩, .int .i64 g), (⟨w.heap.size + 1 + 1, 4, none⟩, .int .i64 y)]) Q3 (.int .i64 x) (by simp only; omega) (by simp only [List.cons_append, List.nil_append, List.mem_cons, List.not_mem_nil, or_false]; rintro c (rfl | rfl | rfl | rfl | rfl | rfl | rfl | rfl | rfl | rfl | rfl | rfl | rfl) <;> simp)
  have Q5 := Kept.set (p := [(⟨w.heap.size + 1 + 1, 0, none⟩, .int .i64 k), (⟨w.heap.size + 1 + 1, 1, none⟩, .int .i64 b), (⟨w.heap.size + 1 + 1, 2, none⟩, .int .i64 i), (⟨w.heap.size + 1 + 1, 3, none⟩, .int .i64 g), (⟨w.heap.size + 1 + 1, 4, none⟩, .int .i64 y), (⟨w.heap.size + 1 + 1, 5, none⟩, .int .i64 x)]) Q4 (.bool nl) (by simp only; omega) (by simp only [List.cons_append, List.nil_append, List.mem_cons, List.not_mem_nil, or_false]; rintro c (rfl | rfl | rfl | rfl | rfl | rfl | rfl | rfl | rfl | rfl | rfl | rfl | rfl) <;> simp)
  have f2 := Q0.fz 2 rfl
  have f3 := Q0.fz 3 rfl
  have f4 := Q0.fz 4 rfl
  have f5 := Q0.fz 5 rfl
  have f6 := Q0.fz 6 rfl
  have z2 := Q0.get 2 rfl
  have z3 := Q0.get 3 rfl
  have z4 := Q0.get 4 rfl
  have z5 := Q0.get 5 rfl
  have z6 := Q0.get 6 rfl
  have c0 := Q5.get 0 rfl
  have c1 := Q5.get 1 rfl
  have c2 := Q5.get 2 rfl
  have c3 := Q5.get 3 rfl
  have c4 := Q5.get 4 rfl
  have c5 := Q5.get 5 rfl
  have c6 := Q5.get 6 rfl
  have g0 := Q5.fz 7 rfl
  have g1 := Q5.fz 8 rfl
  have g2 := Q5.fz 9 rfl
  have g3 := Q5.fz 10 rfl
  have g4 := Q5.fz 11 rfl
  have g5 := Q5.fz 12 rfl
  have g6 := Q5.fz 13 rfl
  have r0 := Q5.get 7 rfl
  have r1 := Q5.get 8 rfl
  have r2 := Q5.get 9 rfl
  have r3 := Q5.get 10 rfl
  have r4 := Q5.get 11 rfl
  have r5 := Q5.get 12 rfl
  have r6 := Q5.get 13 rfl
  have p0 := Q0.get 0 rfl
  have p1 := Q0.get 1 rfl
  have p2 := Q0.get 2 rfl
  have p3 := Q0.get 3 rfl
  have p4 := Q0.get 4 rfl
  have p5 := Q0.get 5 rfl
  have p6 := Q0.get 6 rfl
  have p7 := Q0.get 7 rfl
  have p8 := Q0.get 8 rfl
  have p9 := Q0.get 9 rfl
  have p10 := Q0.get 10 rfl
  have p11 := Q0.get 11 rfl
  have p12 := Q0.get 12 rfl
  have p13 := Q0.get 13 rfl
  have y0 := Q0.lt 0 rfl
  have y1 := Q0.lt 7 rfl
  go_wp2
  clear c0 g0 r0 c1 g1 r1 c2 g2 r2 c3 g3 r3 c4 g4 r4 c5 g5 r5 c6 g6 r6
  exact bodyPost_ret (v := .agg #[.int .i64 k, .int .i64 b, .int .i64 i, .int .i64 g, .int .i64 y, .int .i64 x, .bool nl]) (by simp [results, Try.results22, go_sem, p0, p1, p2, p3, p4, p5, p6, p7, p8, p9, p10, p11, p12, p13, y0, y1]) rfl
    ⟨rfl, (((((((Q5.1.setCell (p := ⟨w.heap.size + 1, 0, none⟩) (Nat.le_succ _) _).setCell (p := ⟨w.heap.size + 1, 1, none⟩) (Nat.le_succ _) _).setCell (p := ⟨w.heap.size + 1, 2, none⟩) (Nat.le_succ _) _).setCell (p := ⟨w.heap.size + 1, 3, none⟩) (Nat.le_succ _) _).setCell (p := ⟨w.heap.size + 1, 4, none⟩) (Nat.le_succ _) _).setCell (p := ⟨w.heap.size + 1, 5, none⟩) (Nat.le_succ _) _).setCell (p := ⟨w.heap.size + 1, 6, none⟩) (Nat.le_succ _) _)⟩
end Go.Proofs.Ytndebdimjlfepaa
