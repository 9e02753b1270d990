/-
  The walk over the model's IsValidChange.
-/
import Derived.Test.YtndebdimjlfepaaDoorRows
import Derived.Test.YtndebdimjlfepaaDoorPlain
import Derived.Test.YtndebdimjlfepaaDoorKeep
import Derived.Test.YtndebdimjlfepaaDoorRvSpec
import Derived.Test.YtndebdimjlfepaaDoorChPlain
import Derived.WalkKit
import Derived.WalkSpells
import Derived.WalkLawsBesides
import Derived.IntWalk
import Derived.Lib.Hide
namespace Go.Proofs.YtndebdimjlfepaaDoor
open Go.RowKit Num

set_option maxRecDepth 8000 in
set_option maxHeartbeats 3200000 in
theorem spec_none (i g y x : Int) (nl : Bool) (w : World) :
    Calls Tryd.prog 91 #[.agg #[.int .i64 i, .int .i64 g, .int .i64 y, .int .i64 x, .bool nl]] w fun r9 w' => r9 = .returned (.bool ((i == 0) && ((g == 0) && ((y == 0) && ((x == 0) && (nl == false)))))) ∧ Below w.heap.size w w' := by
  go_enter Tryd.func91, Tryd.ntmps91
  have K0 := ((Kept.start w).alloc5 (.int .i64 i) (.int .i64 g) (.int .i64 y) (.int .i64 x) (.bool nl) 25 _ rfl).alloc5 (.int .i64 0) (.int .i64 0) (.int .i64 0) (.int .i64 0) (.bool false) 25 (w.heap.size + 1) (by simp)
  go_wp2_with fail
  all_goals
    try have hnl : nl = false := by simpa using ‹¬ nl = true›
    try subst hnl
    subst_vars
    go_ret
    exact ⟨by simp_all, K0.1⟩

theorem Kept.alloc7 {W w : World} {l : List (Addr × Value)} (h : Kept W w l) (x y u v z p q : Value) (t : TypeId) (B : Nat) (hB : w.heap.size = B) :
    Kept W (w.alloc (.cells #[x, y, u, v, z, p, q] t)) ((⟨B, 0, none⟩, x) :: (⟨B, 1, none⟩, y) :: (⟨B, 2, none⟩, u) :: (⟨B, 3, none⟩, v) :: (⟨B, 4, none⟩, z) :: (⟨B, 5, none⟩, p) :: (⟨B, 6, none⟩, q) :: l) := by
  subst hB
  have h1 := h.step ((Below.refl w.heap.size w).alloc (Nat.le_refl _) (.cells #[x, y, u, v, z, p, q] t))
  refine ⟨h1.1, fun p hp => ?_⟩
  simp only [List.mem_cons] at hp
  rcases hp with rfl | rfl | rfl | rfl | rfl | rfl | rfl | hp
  · exact ⟨by simp, by go_simp, by go_simp⟩
  · exact ⟨by simp, by go_simp, by go_simp⟩
  · exact ⟨by simp, by go_simp, by go_simp⟩
  · exact ⟨by simp, by go_simp, by go_simp⟩
  · exact ⟨by simp, by go_simp, by go_simp⟩
  · exact ⟨by simp, by go_simp, by go_simp⟩
  · exact ⟨by simp, by go_simp, by go_simp⟩
  · exact h1.2 p hp

theorem ivc1 {b : Int} {r : Rw} {v : Bool} (h : v = true ↔ (1 ≤ b ∧ b ≤ 20) ∧ r.ok = true) : v = true ↔ ChOk ⟨1, b, r⟩ := by
  rw [h]
  constructor
  · intro h1; exact .inl ⟨rfl, h1⟩
  · intro h1; exact h1.one rfl
theorem ivc2 {b : Int} {r : Rw} {v : Bool} (h : v = true ↔ b = 0 ∧ r.ok = true) : v = true ↔ ChOk ⟨2, b, r⟩ := by
  rw [h]
  constructor
  · intro h1; exact .inr (.inl ⟨rfl, h1⟩)
  · intro h1; exact h1.two rfl
theorem ivc3 {b : Int} {r : Rw} {v : Bool} (h : v = true ↔ b = 0 ∧ (1 ≤ r.i ∧ r.i ≤ 99) ∧ Bare r) : v = true ↔ ChOk ⟨3, b, r⟩ := by
  rw [h]
  constructor
  · intro h1; exact .inr (.inr (.inl ⟨rfl, h1⟩))
  · intro h1; exact h1.three rfl
theorem ivc4 {b : Int} {r : Rw} {v : Bool} (h : v = true ↔ (1 ≤ b ∧ b ≤ 20) ∧ r.i = 0 ∧ Bare r) : v = true ↔ ChOk ⟨4, b, r⟩ := by
  rw [h]
  constructor
  · intro h1; exact .inr (.inr (.inr ⟨rfl, h1⟩))
  · intro h1; exact h1.four rfl
theorem ivc0 {k b : Int} {r : Rw} (h1 : k ≠ 1) (h2 : k ≠ 2) (h3 : k ≠ 3) (h4 : k ≠ 4) : false = true ↔ ChOk ⟨k, b, r⟩ := by
  constructor
  · intro h; cases h
  · intro h
    rcases h.kind with h | h | h | h
    · exact (h1 h).elim
    · exact (h2 h).elim
    · exact (h3 h).elim
    · exact (h4 h).elim

def IvPost (c : Cg) (w : World) (r : Ending) (w' : World) : Prop := (∃ v : Bool, (v = true ↔ ChOk c) ∧ r = .returned (.bool v)) ∧ Below w.heap.size w w'

set_option maxRecDepth 8000 in
set_option maxHeartbeats 3200000 in
theorem spec_ivc1 (b i g y x : Int) (nl : Bool) (w : World) :
    Calls Tryd.prog 84 #[.agg #[.int .i64 1, .int .i64 b, .int .i64 i, .int .i64 g, .int .i64 y, .int .i64 x, .bool nl]] w (IvPost ⟨1, b, ⟨i, g, y, x, nl⟩⟩ w) := by
  have D0 := fun w => l1In_b b 1 20 w
  have R0 := fun w => spec_rv i g y x nl w
  obtain ⟨q1, hq1⟩ : ∃ q, q = decide (1 ≤ b ∧ b ≤ 20) := ⟨_, rfl⟩
  obtain ⟨q2, hq2⟩ : ∃ q, q = rowB i g y x nl := ⟨_, rfl⟩
  rw [← hq1] at D0
  rw [← hq2] at R0
  have D := Lib.hid D0
  have R := Lib.hid R0
  have E := Lib.hid (show (q1 && q2) = true ↔ ChOk ⟨1, b, ⟨i, g, y, x, nl⟩⟩ from ivc1 (by rw [hq1, hq2]; unfold Rw.ok; simp))
  clear D0 R0 hq1 hq2
  go_enter Tryd.func84, Tryd.ntmps84
  have K0 := (Kept.start w).alloc7 (.int .i64 1) (.int .i64 b) (.int .i64 i) (.int .i64 g) (.int .i64 y) (.int .i64 x) (.bool nl) 61 _ rfl
  have k0 := K0.get 0 rfl
  have k1 := K0.get 1 rfl
  have k2 := K0.get 2 rfl
  have k3 := K0.get 3 rfl
  have k4 := K0.get 4 rfl
  have k5 := K0.get 5 rfl
  have k6 := K0.get 6 rfl
  cases q1
  · go_wp2_with fail
    refine (D.out _).mono ?_
    rintro r9 w1 ⟨rfl, rfl⟩
    go_wp2
    go_ret
    exact ⟨⟨_, E.out, rfl⟩, K0.1⟩
  · go_wp2_with fail
    refine (D.out _).mono ?_
    rintro r9 w1 ⟨rfl, rfl⟩
    go_wp2_with fail
    refine (R.out _).mono ?_
    rintro r9 w2 ⟨rfl, hb⟩
    have K1 := K0.step hb
    clear hb
    go_wp2
    go_ret
    exact ⟨⟨_, E.out, by simp⟩, K1.1⟩
set_option maxRecDepth 8000 in
set_option maxHeartbeats 3200000 in
theorem spec_ivc2 (b i g y x : Int) (nl : Bool) (w : World) :
    Calls Tryd.prog 84 #[.agg #[.int .i64 2, .int .i64 b, .int .i64 i, .int .i64 g, .int .i64 y, .int .i64 x, .bool nl]] w (IvPost ⟨2, b, ⟨i, g, y, x, nl⟩⟩ w) := by
  have R0 := fun w => spec_rv i g y x nl w
  obtain ⟨q2, hq2⟩ : ∃ q, q = rowB i g y x nl := ⟨_, rfl⟩
  rw [← hq2] at R0
  have R := Lib.hid R0
  by_cases hb0 : b = 0
  · subst hb0
    have E := Lib.hid (show q2 = true ↔ ChOk ⟨2, 0, ⟨i, g, y, x, nl⟩⟩ from ivc2 (by rw [hq2]; unfold Rw.ok; simp))
    clear R0 hq2
    go_enter Tryd.func84, Tryd.ntmps84
    have K0 := (Kept.start w).alloc7 (.int .i64 2) (.int .i64 0) (.int .i64 i) (.int .i64 g) (.int .i64 y) (.int .i64 x) (.bool nl) 61 _ rfl
    have k0 := K0.get 0 rfl
    have k1 := K0.get 1 rfl
    have k2 := K0.get 2 rfl
    have k3 := K0.get 3 rfl
    have k4 := K0.get 4 rfl
    have k5 := K0.get 5 rfl
    have k6 := K0.get 6 rfl
    go_wp2_with fail
    refine (R.out _).mono ?_
    rintro r9 w2 ⟨rfl, hb⟩
    have K1 := K0.step hb
    clear hb
    go_wp2
    go_ret
    exact ⟨⟨_, E.out, rfl⟩, K1.1⟩
  · have E := Lib.hid (show false = true ↔ ChOk ⟨2, b, ⟨i, g, y, x, nl⟩⟩ from ivc2 (by simp [hb0]))
    have qb : (b == 0) = false := beq_eq_false_iff_ne.2 hb0
    have HB := Lib.hid hb0
    clear R0 hq2 hb0
    go_enter Tryd.func84, Tryd.ntmps84
    have K0 := (Kept.start w).alloc7 (.int .i64 2) (.int .i64 b) (.int .i64 i) (.int .i64 g) (.int .i64 y) (.int .i64 x) (.bool nl) 61 _ rfl
    have k0 := K0.get 0 rfl
    have k1 := K0.get 1 rfl
    have k2 := K0.get 2 rfl
    have k3 := K0.get 3 rfl
    have k4 := K0.get 4 rfl
    have k5 := K0.get 5 rfl
    have k6 := K0.get 6 rfl
    go_wp2
    go_ret
    exact ⟨⟨_, E.out, by simp⟩, K0.1⟩

set_option maxRecDepth 8000 in
set_option maxHeartbeats 3200000 in
theorem spec_ivc3 (b i g y x : Int) (nl : Bool) (w : World) :
    Calls Tryd.prog 84 #[.agg #[.int .i64 3, .int .i64 b, .int .i64 i, .int .i64 g, .int .i64 y, .int .i64 x, .bool nl]] w (IvPost ⟨3, b, ⟨i, g, y, x, nl⟩⟩ w) := by
  have D0 := fun w => l1In_b i 1 99 w
  obtain ⟨q1, hq1⟩ : ∃ q, q = decide (1 ≤ i ∧ i ≤ 99) := ⟨_, rfl⟩
  rw [← hq1] at D0
  have D := Lib.hid D0
  by_cases hb0 : b = 0
  · subst hb0
    have E := Lib.hid (show (q1 && ((g == 0) && ((y == 0) && ((x == 0) && (nl == false))))) = true ↔ ChOk ⟨3, 0, ⟨i, g, y, x, nl⟩⟩ from ivc3 (by rw [hq1]; unfold Bare; simp))
    clear D0 hq1
    go_enter Tryd.func84, Tryd.ntmps84
    have K0 := (Kept.start w).alloc7 (.int .i64 3) (.int .i64 0) (.int .i64 i) (.int .i64 g) (.int .i64 y) (.int .i64 x) (.bool nl) 61 _ rfl
    have k0 := K0.get 0 rfl
    have k1 := K0.get 1 rfl
    have k2 := K0.get 2 rfl
    have k3 := K0.get 3 rfl
    have k4 := K0.get 4 rfl
    have k5 := K0.get 5 rfl
    have k6 := K0.get 6 rfl
    cases q1
    · go_wp2_with fail
      refine (D.out _).mono ?_
      rintro r9 w1 ⟨rfl, rfl⟩
      go_wp2
      go_ret
      exact ⟨⟨_, E.out, rfl⟩, (K0.alloc5 (.int .i64 i) (.int .i64 0) (.int .i64 0) (.int .i64 0) (.bool false) 25 _ rfl).1⟩
    · go_wp2_with fail
      have K1 := K0.alloc5 (.int .i64 i) (.int .i64 0) (.int .i64 0) (.int .i64 0) (.bool false) 25 (w.heap.size + 1) (by simp)
      refine (D.out _).mono ?_
      rintro r9 w1 ⟨rfl, rfl⟩
      go_wp2_with fail
      all_goals
        try have hnl : nl = false := by simpa using ‹¬ nl = true›
        try subst hnl
        subst_vars
        go_ret
        exact ⟨⟨_, E.out, by simp_all⟩, K1.1⟩
  · have E := Lib.hid (show false = true ↔ ChOk ⟨3, b, ⟨i, g, y, x, nl⟩⟩ from ivc3 (by simp [hb0]))
    have qb : (b == 0) = false := beq_eq_false_iff_ne.2 hb0
    have HB := Lib.hid hb0
    clear D0 hq1 hb0
    go_enter Tryd.func84, Tryd.ntmps84
    have K0 := (Kept.start w).alloc7 (.int .i64 3) (.int .i64 b) (.int .i64 i) (.int .i64 g) (.int .i64 y) (.int .i64 x) (.bool nl) 61 _ rfl
    have k0 := K0.get 0 rfl
    have k1 := K0.get 1 rfl
    have k2 := K0.get 2 rfl
    have k3 := K0.get 3 rfl
    have k4 := K0.get 4 rfl
    have k5 := K0.get 5 rfl
    have k6 := K0.get 6 rfl
    go_wp2
    go_ret
    exact ⟨⟨_, E.out, by simp⟩, (K0.alloc5 (.int .i64 i) (.int .i64 0) (.int .i64 0) (.int .i64 0) (.bool false) 25 _ rfl).1⟩

set_option maxRecDepth 8000 in
set_option maxHeartbeats 3200000 in
theorem spec_ivc4 (b i g y x : Int) (nl : Bool) (w : World) :
    Calls Tryd.prog 84 #[.agg #[.int .i64 4, .int .i64 b, .int .i64 i, .int .i64 g, .int .i64 y, .int .i64 x, .bool nl]] w (IvPost ⟨4, b, ⟨i, g, y, x, nl⟩⟩ w) := by
  have D0 := fun w => l1In_b b 1 20 w
  have R0 := fun w => spec_none i g y x nl w
  obtain ⟨q1, hq1⟩ : ∃ q, q = decide (1 ≤ b ∧ b ≤ 20) := ⟨_, rfl⟩
  obtain ⟨q2, hq2⟩ : ∃ q, q = ((i == 0) && ((g == 0) && ((y == 0) && ((x == 0) && (nl == false))))) := ⟨_, rfl⟩
  rw [← hq1] at D0
  rw [← hq2] at R0
  have D := Lib.hid D0
  have R := Lib.hid R0
  have E := Lib.hid (show (q1 && q2) = true ↔ ChOk ⟨4, b, ⟨i, g, y, x, nl⟩⟩ from ivc4 (by rw [hq1, hq2]; unfold Bare; simp))
  clear D0 R0 hq1 hq2
  go_enter Tryd.func84, Tryd.ntmps84
  have K0 := (Kept.start w).alloc7 (.int .i64 4) (.int .i64 b) (.int .i64 i) (.int .i64 g) (.int .i64 y) (.int .i64 x) (.bool nl) 61 _ rfl
  have k0 := K0.get 0 rfl
  have k1 := K0.get 1 rfl
  have k2 := K0.get 2 rfl
  have k3 := K0.get 3 rfl
  have k4 := K0.get 4 rfl
  have k5 := K0.get 5 rfl
  have k6 := K0.get 6 rfl
  cases q1
  · go_wp2_with fail
    refine (D.out _).mono ?_
    rintro r9 w1 ⟨rfl, rfl⟩
    go_wp2
    go_ret
    exact ⟨⟨_, E.out, rfl⟩, K0.1⟩
  · go_wp2_with fail
    refine (D.out _).mono ?_
    rintro r9 w1 ⟨rfl, rfl⟩
    go_wp2_with fail
    refine (R.out _).mono ?_
    rintro r9 w2 ⟨rfl, hb⟩
    have K1 := K0.step hb
    clear hb
    go_wp2
    go_ret
    exact ⟨⟨_, E.out, by simp⟩, K1.1⟩

set_option maxRecDepth 8000 in
set_option maxHeartbeats 3200000 in
theorem spec_ivc0 (k : Int) (b i g y x : Int) (nl : Bool) (w : World) (h1 : k ≠ 1) (h2 : k ≠ 2) (h3 : k ≠ 3) (h4 : k ≠ 4) :
    Calls Tryd.prog 84 #[.agg #[.int .i64 k, .int .i64 b, .int .i64 i, .int .i64 g, .int .i64 y, .int .i64 x, .bool nl]] w (IvPost ⟨k, b, ⟨i, g, y, x, nl⟩⟩ w) := by
  have E := Lib.hid (ivc0 (k := k) (b := b) (r := ⟨i, g, y, x, nl⟩) h1 h2 h3 h4)
  have e1 : (k == 1) = false := beq_eq_false_iff_ne.2 h1
  have e2 : (k == 2) = false := beq_eq_false_iff_ne.2 h2
  have e3 : (k == 3) = false := beq_eq_false_iff_ne.2 h3
  have e4 : (k == 4) = false := beq_eq_false_iff_ne.2 h4
  clear h1 h2 h3 h4
  go_enter Tryd.func84, Tryd.ntmps84
  have K0 := (Kept.start w).alloc7 (.int .i64 k) (.int .i64 b) (.int .i64 i) (.int .i64 g) (.int .i64 y) (.int .i64 x) (.bool nl) 61 _ rfl
  have k0 := K0.get 0 rfl
  have k1 := K0.get 1 rfl
  have k2 := K0.get 2 rfl
  have k3 := K0.get 3 rfl
  have k4 := K0.get 4 rfl
  have k5 := K0.get 5 rfl
  have k6 := K0.get 6 rfl
  go_wp2
  go_ret
  exact ⟨⟨_, E.out, by simp⟩, K0.1⟩

/-- The model's IsValidChange. -/
theorem spec_ivc (c : Cg) (w : World) :
    Calls Tryd.prog 84 #[.agg #[.int .i64 c.k, .int .i64 c.b, .int .i64 c.r.i, .int .i64 c.r.g, .int .i64 c.r.y, .int .i64 c.r.x, .bool c.r.nl]] w (IvPost c w) := by
  obtain ⟨k, b, i, g, y, x, nl⟩ := c
  by_cases h1 : k = 1
  · subst h1; exact spec_ivc1 b i g y x nl w
  by_cases h2 : k = 2
  · subst h2; exact spec_ivc2 b i g y x nl w
  by_cases h3 : k = 3
  · subst h3; exact spec_ivc3 b i g y x nl w
  by_cases h4 : k = 4
  · subst h4; exact spec_ivc4 b i g y x nl w
  exact spec_ivc0 k b i g y x nl w h1 h2 h3 h4
end Go.Proofs.YtndebdimjlfepaaDoor
