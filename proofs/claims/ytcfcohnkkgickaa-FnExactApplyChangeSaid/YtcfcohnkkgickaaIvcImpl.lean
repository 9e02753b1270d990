/-
  The walks over the project's IsValidChange: the kinds of change behind an interface.
-/
import Derived.Test.YtcfcohnkkgickaaRows
import Derived.Test.YtcfcohnkkgickaaMgB
import Derived.Test.YtcfcohnkkgickaaRvImpl
import Derived.Test.YtcfcohnkkgickaaIbImpl
namespace Go.Proofs.Ytcfcohnkkgickaa
open Go.RowKit Num

/-- The value behind the interface: which kind of change. -/
def kindVal (c : Cg) : Value :=
  if c.k = 1 then .iface 160 c.val else if c.k = 2 then .iface 161 c.val else if c.k = 3 then .iface 162 c.val else if c.k = 4 then .iface 163 c.val else .nilIface

theorem bare_ok {r : Rw} (h : Bare r) (hi : 1 ≤ r.i ∧ r.i ≤ 99) : r.ok = true := by
  obtain ⟨i, g, y, x, nl⟩ := r
  obtain ⟨h1, h2, h3, h4⟩ := h
  simp only at h1 h2 h3 h4 hi
  subst h1 h2 h3 h4
  show rowB i 0 0 0 false = true
  rw [rowB_in hi (by omega) (by omega)]
  rfl
theorem ok_id {r : Rw} (h : r.ok = true) : 1 ≤ r.i ∧ r.i ≤ 99 := (rowB_of (show rowB r.i r.g r.y r.x r.nl = true from h)).1
theorem meth_iv1 (d : Nat) (v : Value) (w : World) : (method (d + 1) 160 v "loop.example/g01927/impl.isValid").run Try.prog w = .ok (162, v) w := by kernel_rfl
theorem meth_iv2 (d : Nat) (v : Value) (w : World) : (method (d + 1) 161 v "loop.example/g01927/impl.isValid").run Try.prog w = .ok (170, v) w := by kernel_rfl
theorem meth_iv3 (d : Nat) (v : Value) (w : World) : (method (d + 1) 162 v "loop.example/g01927/impl.isValid").run Try.prog w = .ok (174, v) w := by kernel_rfl
theorem meth_iv4 (d : Nat) (v : Value) (w : World) : (method (d + 1) 163 v "loop.example/g01927/impl.isValid").run Try.prog w = .ok (179, v) w := by kernel_rfl

set_option maxRecDepth 8000 in
set_option maxHeartbeats 3200000 in
theorem impl_kind1 (b i g y x : Int) (nl : Bool) (w : World) :
    Calls Try.prog 87 #[.agg #[.int .i64 1, .int .i64 b, .int .i64 i, .int .i64 g, .int .i64 y, .int .i64 x, .bool nl]] w fun e w' => e = .returned (.iface 160 (.agg #[.int .i64 1, .int .i64 b, .int .i64 i, .int .i64 g, .int .i64 y, .int .i64 x, .bool nl])) ∧ Below w.heap.size w w' := by
  have K0 := (Kept.start w).alloc7 (.int .i64 1) (.int .i64 b) (.int .i64 i) (.int .i64 g) (.int .i64 y) (.int .i64 x) (.bool nl) 38 _ rfl
  have k0 := K0.get 0 rfl
  have k1 := K0.get 1 rfl
  have k2 := K0.get 2 rfl
  have k3 := K0.get 3 rfl
  have k4 := K0.get 4 rfl
  have k5 := K0.get 5 rfl
  have k6 := K0.get 6 rfl
  go_enter Try.func87, Try.ntmps87
  go_wp2
  go_ret
  exact ⟨rfl, K0.1⟩

set_option maxRecDepth 8000 in
set_option maxHeartbeats 3200000 in
theorem impl_kind2 (b i g y x : Int) (nl : Bool) (w : World) :
    Calls Try.prog 87 #[.agg #[.int .i64 2, .int .i64 b, .int .i64 i, .int .i64 g, .int .i64 y, .int .i64 x, .bool nl]] w fun e w' => e = .returned (.iface 161 (.agg #[.int .i64 2, .int .i64 b, .int .i64 i, .int .i64 g, .int .i64 y, .int .i64 x, .bool nl])) ∧ Below w.heap.size w w' := by
  have K0 := (Kept.start w).alloc7 (.int .i64 2) (.int .i64 b) (.int .i64 i) (.int .i64 g) (.int .i64 y) (.int .i64 x) (.bool nl) 38 _ rfl
  have k0 := K0.get 0 rfl
  have k1 := K0.get 1 rfl
  have k2 := K0.get 2 rfl
  have k3 := K0.get 3 rfl
  have k4 := K0.get 4 rfl
  have k5 := K0.get 5 rfl
  have k6 := K0.get 6 rfl
  go_enter Try.func87, Try.ntmps87
  go_wp2
  go_ret
  exact ⟨rfl, K0.1⟩

set_option maxRecDepth 8000 in
set_option maxHeartbeats 3200000 in
theorem impl_kind3 (b i g y x : Int) (nl : Bool) (w : World) :
    Calls Try.prog 87 #[.agg #[.int .i64 3, .int .i64 b, .int .i64 i, .int .i64 g, .int .i64 y, .int .i64 x, .bool nl]] w fun e w' => e = .returned (.iface 162 (.agg #[.int .i64 3, .int .i64 b, .int .i64 i, .int .i64 g, .int .i64 y, .int .i64 x, .bool nl])) ∧ Below w.heap.size w w' := by
  have K0 := (Kept.start w).alloc7 (.int .i64 3) (.int .i64 b) (.int .i64 i) (.int .i64 g) (.int .i64 y) (.int .i64 x) (.bool nl) 38 _ rfl
  have k0 := K0.get 0 rfl
  have k1 := K0.get 1 rfl
  have k2 := K0.get 2 rfl
  have k3 := K0.get 3 rfl
  have k4 := K0.get 4 rfl
  have k5 := K0.get 5 rfl
  have k6 := K0.get 6 rfl
  go_enter Try.func87, Try.ntmps87
  go_wp2
  go_ret
  exact ⟨rfl, K0.1⟩

set_option maxRecDepth 8000 in
set_option maxHeartbeats 3200000 in
theorem impl_kind4 (b i g y x : Int) (nl : Bool) (w : World) :
    Calls Try.prog 87 #[.agg #[.int .i64 4, .int .i64 b, .int .i64 i, .int .i64 g, .int .i64 y, .int .i64 x, .bool nl]] w fun e w' => e = .returned (.iface 163 (.agg #[.int .i64 4, .int .i64 b, .int .i64 i, .int .i64 g, .int .i64 y, .int .i64 x, .bool nl])) ∧ Below w.heap.size w w' := by
  have K0 := (Kept.start w).alloc7 (.int .i64 4) (.int .i64 b) (.int .i64 i) (.int .i64 g) (.int .i64 y) (.int .i64 x) (.bool nl) 38 _ rfl
  have k0 := K0.get 0 rfl
  have k1 := K0.get 1 rfl
  have k2 := K0.get 2 rfl
  have k3 := K0.get 3 rfl
  have k4 := K0.get 4 rfl
  have k5 := K0.get 5 rfl
  have k6 := K0.get 6 rfl
  go_enter Try.func87, Try.ntmps87
  go_wp2
  go_ret
  exact ⟨rfl, K0.1⟩

set_option maxRecDepth 8000 in
set_option maxHeartbeats 3200000 in
theorem impl_kind0 (k b i g y x : Int) (nl : Bool) (w : World) (h1 : k ≠ 1) (h2 : k ≠ 2) (h3 : k ≠ 3) (h4 : k ≠ 4) :
    Calls Try.prog 87 #[.agg #[.int .i64 k, .int .i64 b, .int .i64 i, .int .i64 g, .int .i64 y, .int .i64 x, .bool nl]] w fun e w' => e = .returned .nilIface ∧ Below w.heap.size w w' := by
  have e1 : (k == 1) = false := beq_eq_false_iff_ne.2 h1
  have e2 : (k == 2) = false := beq_eq_false_iff_ne.2 h2
  have e3 : (k == 3) = false := beq_eq_false_iff_ne.2 h3
  have e4 : (k == 4) = false := beq_eq_false_iff_ne.2 h4
  clear h1 h2 h3 h4
  have K0 := (Kept.start w).alloc7 (.int .i64 k) (.int .i64 b) (.int .i64 i) (.int .i64 g) (.int .i64 y) (.int .i64 x) (.bool nl) 38 _ rfl
  have k0 := K0.get 0 rfl
  have k1 := K0.get 1 rfl
  have k2 := K0.get 2 rfl
  have k3 := K0.get 3 rfl
  have k4 := K0.get 4 rfl
  have k5 := K0.get 5 rfl
  have k6 := K0.get 6 rfl
  go_enter Try.func87, Try.ntmps87
  go_wp2
  go_ret
  exact ⟨rfl, K0.1⟩

/-- Which kind of change. -/
theorem impl_kind (c : Cg) (w : World) : Calls Try.prog 87 #[c.val] w fun e w' => e = .returned (kindVal c) ∧ Below w.heap.size w w' := by
  obtain ⟨k, b, i, g, y, x, nl⟩ := c
  by_cases h1 : k = 1
  · subst h1; exact impl_kind1 b i g y x nl w
  by_cases h2 : k = 2
  · subst h2; exact impl_kind2 b i g y x nl w
  by_cases h3 : k = 3
  · subst h3; exact impl_kind3 b i g y x nl w
  by_cases h4 : k = 4
  · subst h4; exact impl_kind4 b i g y x nl w
  have e : kindVal ⟨k, b, i, g, y, x, nl⟩ = .nilIface := by unfold kindVal; rw [if_neg h1, if_neg h2, if_neg h3, if_neg h4]
  rw [e]
  exact impl_kind0 k b i g y x nl w h1 h2 h3 h4

set_option maxRecDepth 8000 in
set_option maxHeartbeats 3200000 in
theorem impl_iv1 (b i g y x : Int) (nl : Bool) (w : World) :
    Calls Try.prog 162 #[.agg #[.int .i64 1, .int .i64 b, .int .i64 i, .int .i64 g, .int .i64 y, .int .i64 x, .bool nl]] w (IvPost ⟨1, b, ⟨i, g, y, x, nl⟩⟩ w) := by
  have D0 := fun w => impl_ib b w
  have R0 := fun w => impl_rv i g y x nl w
  obtain ⟨q1, hq1⟩ : ∃ q, q = decide (1 ≤ b ∧ b ≤ 20) := ⟨_, rfl⟩
  obtain ⟨q2, hq2⟩ : ∃ q, q = rowB i g y x nl := ⟨_, rfl⟩
  simp only [← hq1] at D0
  rw [← hq2] at R0
  have D := Lib.hid D0
  have R := Lib.hid R0
  have E := Lib.hid (show (q1 && q2) = true ↔ ChOk ⟨1, b, ⟨i, g, y, x, nl⟩⟩ from ivc1 (by rw [hq1, hq2]; unfold Rw.ok; simp))
  clear D0 R0 hq1 hq2
  go_enter Try.func162, Try.ntmps162
  have K0 := (Kept.start w).alloc7 (.int .i64 1) (.int .i64 b) (.int .i64 i) (.int .i64 g) (.int .i64 y) (.int .i64 x) (.bool nl) 160 _ rfl
  have k0 := K0.get 0 rfl
  have k1 := K0.get 1 rfl
  have k2 := K0.get 2 rfl
  have k3 := K0.get 3 rfl
  have k4 := K0.get 4 rfl
  have k5 := K0.get 5 rfl
  have k6 := K0.get 6 rfl
  cases q1
  · go_wp2_with fail
    refine (D.out _).mono ?_
    rintro r9 w1 ⟨rfl, rfl⟩
    go_wp2
    go_ret
    exact ⟨⟨_, E.out, rfl⟩, K0.1⟩
  · go_wp2_with fail
    refine (D.out _).mono ?_
    rintro r9 w1 ⟨rfl, rfl⟩
    go_wp2_with fail
    refine (R.out _).mono ?_
    rintro r9 w2 ⟨rfl, hb⟩
    have K1 := K0.step hb
    clear hb
    go_wp2
    go_ret
    exact ⟨⟨_, E.out, by simp⟩, K1.1⟩

set_option maxRecDepth 8000 in
set_option maxHeartbeats 3200000 in
theorem impl_iv2 (b i g y x : Int) (nl : Bool) (w : World) :
    Calls Try.prog 170 #[.agg #[.int .i64 2, .int .i64 b, .int .i64 i, .int .i64 g, .int .i64 y, .int .i64 x, .bool nl]] w (IvPost ⟨2, b, ⟨i, g, y, x, nl⟩⟩ w) := by
  have R0 := fun w => impl_rv i g y x nl w
  obtain ⟨q2, hq2⟩ : ∃ q, q = rowB i g y x nl := ⟨_, rfl⟩
  rw [← hq2] at R0
  have R := Lib.hid R0
  by_cases hb0 : b = 0
  · subst hb0
    have E := Lib.hid (show q2 = true ↔ ChOk ⟨2, 0, ⟨i, g, y, x, nl⟩⟩ from ivc2 (by rw [hq2]; unfold Rw.ok; simp))
    clear R0 hq2
    go_enter Try.func170, Try.ntmps170
    have K0 := (Kept.start w).alloc7 (.int .i64 2) (.int .i64 0) (.int .i64 i) (.int .i64 g) (.int .i64 y) (.int .i64 x) (.bool nl) 161 _ rfl
    have k0 := K0.get 0 rfl
    have k1 := K0.get 1 rfl
    have k2 := K0.get 2 rfl
    have k3 := K0.get 3 rfl
    have k4 := K0.get 4 rfl
    have k5 := K0.get 5 rfl
    have k6 := K0.get 6 rfl
    go_wp2_with fail
    refine (R.out _).mono ?_
    rintro r9 w2 ⟨rfl, hb⟩
    have K1 := K0.step hb
    clear hb
    go_wp2
    go_ret
    exact ⟨⟨_, E.out, rfl⟩, K1.1⟩
  · have E := Lib.hid (show false = true ↔ ChOk ⟨2, b, ⟨i, g, y, x, nl⟩⟩ from ivc2 (by simp [hb0]))
    have qb : (b == 0) = false := beq_eq_false_iff_ne.2 hb0
    have HB := Lib.hid hb0
    clear R0 hq2 hb0
    go_enter Try.func170, Try.ntmps170
    have K0 := (Kept.start w).alloc7 (.int .i64 2) (.int .i64 b) (.int .i64 i) (.int .i64 g) (.int .i64 y) (.int .i64 x) (.bool nl) 161 _ rfl
    have k0 := K0.get 0 rfl
    have k1 := K0.get 1 rfl
    have k2 := K0.get 2 rfl
    have k3 := K0.get 3 rfl
    have k4 := K0.get 4 rfl
    have k5 := K0.get 5 rfl
    have k6 := K0.get 6 rfl
    go_wp2
    go_ret
    exact ⟨⟨_, E.out, by simp⟩, K0.1⟩

set_option maxRecDepth 8000 in
set_option maxHeartbeats 3200000 in
theorem impl_iv3 (b i g y x : Int) (nl : Bool) (w : World) :
    Calls Try.prog 174 #[.agg #[.int .i64 3, .int .i64 b, .int .i64 i, .int .i64 g, .int .i64 y, .int .i64 x, .bool nl]] w (IvPost ⟨3, b, ⟨i, g, y, x, nl⟩⟩ w) := by
  have R0 := fun w => impl_rv i g y x nl w
  obtain ⟨q2, hq2⟩ : ∃ q, q = rowB i g y x nl := ⟨_, rfl⟩
  rw [← hq2] at R0
  have R := Lib.hid R0
  by_cases hb0 : b = 0
  · subst hb0
    have E := Lib.hid (show (q2 && ((g == 0) && ((y == 0) && ((x == 0) && (nl == false))))) = true ↔ ChOk ⟨3, 0, ⟨i, g, y, x, nl⟩⟩ from ivc3 (by
      constructor
      · intro h
        rw [Bool.and_eq_true] at h
        have h0 := h.1
        rw [hq2] at h0
        exact ⟨rfl, ok_id (r := ⟨i, g, y, x, nl⟩) h0, by have h2 := h.2; simpa [Bare] using h2⟩
      · rintro ⟨_, h1, h2⟩
        rw [Bool.and_eq_true]
        exact ⟨by rw [hq2]; exact bare_ok h2 h1, by simpa [Bare] using h2⟩))
    clear R0 hq2
    go_enter Try.func174, Try.ntmps174
    have K0 := (Kept.start w).alloc7 (.int .i64 3) (.int .i64 0) (.int .i64 i) (.int .i64 g) (.int .i64 y) (.int .i64 x) (.bool nl) 162 _ rfl
    have k0 := K0.get 0 rfl
    have k1 := K0.get 1 rfl
    have k2 := K0.get 2 rfl
    have k3 := K0.get 3 rfl
    have k4 := K0.get 4 rfl
    have k5 := K0.get 5 rfl
    have k6 := K0.get 6 rfl
    cases q2
    · go_wp2_with fail
      refine (R.out _).mono ?_
      rintro r9 w2 ⟨rfl, hb⟩
      have K1 := K0.step hb
      clear hb
      go_wp2
      go_ret
      exact ⟨⟨_, E.out, rfl⟩, K1.1⟩
    · go_wp2_with fail
      refine (R.out _).mono ?_
      rintro r9 w2 ⟨rfl, hb⟩
      have K1 := K0.step hb
      clear hb k0 k1 k2 k3 k4 k5 k6
      have k0 := K1.get 0 rfl
      have k1 := K1.get 1 rfl
      have k2 := K1.get 2 rfl
      have k3 := K1.get 3 rfl
      have k4 := K1.get 4 rfl
      have k5 := K1.get 5 rfl
      have k6 := K1.get 6 rfl
      go_wp2_with fail
      all_goals
        try have hnl : nl = false := by simpa using ‹¬ nl = true›
        try subst hnl
        subst_vars
        go_ret
        exact ⟨⟨_, E.out, by simp_all⟩, K1.1⟩
  · have E := Lib.hid (show false = true ↔ ChOk ⟨3, b, ⟨i, g, y, x, nl⟩⟩ from ivc3 (by simp [hb0]))
    have qb : (b == 0) = false := beq_eq_false_iff_ne.2 hb0
    have HB := Lib.hid hb0
    clear R0 hq2 hb0
    go_enter Try.func174, Try.ntmps174
    have K0 := (Kept.start w).alloc7 (.int .i64 3) (.int .i64 b) (.int .i64 i) (.int .i64 g) (.int .i64 y) (.int .i64 x) (.bool nl) 162 _ rfl
    have k0 := K0.get 0 rfl
    have k1 := K0.get 1 rfl
    have k2 := K0.get 2 rfl
    have k3 := K0.get 3 rfl
    have k4 := K0.get 4 rfl
    have k5 := K0.get 5 rfl
    have k6 := K0.get 6 rfl
    go_wp2
    go_ret
    exact ⟨⟨_, E.out, by simp⟩, K0.1⟩

set_option maxRecDepth 8000 in
set_option maxHeartbeats 3200000 in
theorem impl_iv4 (b i g y x : Int) (nl : Bool) (w : World) :
    Calls Try.prog 179 #[.agg #[.int .i64 4, .int .i64 b, .int .i64 i, .int .i64 g, .int .i64 y, .int .i64 x, .bool nl]] w (IvPost ⟨4, b, ⟨i, g, y, x, nl⟩⟩ w) := by
  have D0 := fun w => impl_ib b w
  obtain ⟨q1, hq1⟩ : ∃ q, q = decide (1 ≤ b ∧ b ≤ 20) := ⟨_, rfl⟩
  simp only [← hq1] at D0
  have D := Lib.hid D0
  have E := Lib.hid (show (q1 && ((i == 0) && ((g == 0) && ((y == 0) && ((x == 0) && (nl == false)))))) = true ↔ ChOk ⟨4, b, ⟨i, g, y, x, nl⟩⟩ from ivc4 (by rw [hq1]; unfold Bare; simp))
  clear D0 hq1
  go_enter Try.func179, Try.ntmps179
  have K0 := (Kept.start w).alloc7 (.int .i64 4) (.int .i64 b) (.int .i64 i) (.int .i64 g) (.int .i64 y) (.int .i64 x) (.bool nl) 163 _ rfl
  have k0 := K0.get 0 rfl
  have k1 := K0.get 1 rfl
  have k2 := K0.get 2 rfl
  have k3 := K0.get 3 rfl
  have k4 := K0.get 4 rfl
  have k5 := K0.get 5 rfl
  have k6 := K0.get 6 rfl
  cases q1
  · go_wp2_with fail
    refine (D.out _).mono ?_
    rintro r9 w1 ⟨rfl, rfl⟩
    go_wp2
    go_ret
    exact ⟨⟨_, E.out, rfl⟩, K0.1⟩
  · go_wp2_with fail
    refine (D.out _).mono ?_
    rintro r9 w1 ⟨rfl, rfl⟩
    go_wp2_with fail
    all_goals
      try have hnl : nl = false := by simpa using ‹¬ nl = true›
      try subst hnl
      subst_vars
      go_ret
      exact ⟨⟨_, E.out, by simp_all⟩, K0.1⟩

set_option maxRecDepth 8000 in
set_option maxHeartbeats 3200000 in
theorem impl_ivc1 (b i g y x : Int) (nl : Bool) (w : World) :
    Calls Try.prog 86 #[.agg #[.int .i64 1, .int .i64 b, .int .i64 i, .int .i64 g, .int .i64 y, .int .i64 x, .bool nl]] w (IvPost ⟨1, b, ⟨i, g, y, x, nl⟩⟩ w) := by
  have KD := Lib.hid (fun w => impl_kind1 b i g y x nl w)
  have IV := Lib.hid (fun w => impl_iv1 b i g y x nl w)
  have P := meth_iv1
  go_enter Try.func86, Try.ntmps86
  have K0 := (Kept.start w).alloc7 (.int .i64 1) (.int .i64 b) (.int .i64 i) (.int .i64 g) (.int .i64 y) (.int .i64 x) (.bool nl) 38 _ rfl
  have k0 := K0.get 0 rfl
  have k1 := K0.get 1 rfl
  have k2 := K0.get 2 rfl
  have k3 := K0.get 3 rfl
  have k4 := K0.get 4 rfl
  have k5 := K0.get 5 rfl
  have k6 := K0.get 6 rfl
  go_wp2_with fail
  refine (KD.out _).mono ?_
  rintro r9 w1 ⟨rfl, hb⟩
  have K1 := K0.step hb
  clear hb K0 k0 k1 k2 k3 k4 k5 k6
  go_wp2_with fail
  refine (IV.out _).mono ?_
  rintro r9 w2 ⟨⟨v, hv, rfl⟩, hb⟩
  have K2 := K1.step hb
  have E := Lib.hid hv
  clear hb hv
  cases v
  · go_wp2
    go_ret
    exact ⟨⟨_, E.out, rfl⟩, K2.1⟩
  · go_wp2
    go_ret
    exact ⟨⟨true, by simpa using E.out, rfl⟩, K2.1⟩

set_option maxRecDepth 8000 in
set_option maxHeartbeats 3200000 in
theorem impl_ivc2 (b i g y x : Int) (nl : Bool) (w : World) :
    Calls Try.prog 86 #[.agg #[.int .i64 2, .int .i64 b, .int .i64 i, .int .i64 g, .int .i64 y, .int .i64 x, .bool nl]] w (IvPost ⟨2, b, ⟨i, g, y, x, nl⟩⟩ w) := by
  have KD := Lib.hid (fun w => impl_kind2 b i g y x nl w)
  have IV := Lib.hid (fun w => impl_iv2 b i g y x nl w)
  have P := meth_iv2
  go_enter Try.func86, Try.ntmps86
  have K0 := (Kept.start w).alloc7 (.int .i64 2) (.int .i64 b) (.int .i64 i) (.int .i64 g) (.int .i64 y) (.int .i64 x) (.bool nl) 38 _ rfl
  have k0 := K0.get 0 rfl
  have k1 := K0.get 1 rfl
  have k2 := K0.get 2 rfl
  have k3 := K0.get 3 rfl
  have k4 := K0.get 4 rfl
  have k5 := K0.get 5 rfl
  have k6 := K0.get 6 rfl
  go_wp2_with fail
  refine (KD.out _).mono ?_
  rintro r9 w1 ⟨rfl, hb⟩
  have K1 := K0.step hb
  clear hb K0 k0 k1 k2 k3 k4 k5 k6
  go_wp2_with fail
  refine (IV.out _).mono ?_
  rintro r9 w2 ⟨⟨v, hv, rfl⟩, hb⟩
  have K2 := K1.step hb
  have E := Lib.hid hv
  clear hb hv
  cases v
  · go_wp2
    go_ret
    exact ⟨⟨_, E.out, rfl⟩, K2.1⟩
  · go_wp2
    go_ret
    exact ⟨⟨true, by simpa using E.out, rfl⟩, K2.1⟩

set_option maxRecDepth 8000 in
set_option maxHeartbeats 3200000 in
theorem impl_ivc3 (b i g y x : Int) (nl : Bool) (w : World) :
    Calls Try.prog 86 #[.agg #[.int .i64 3, .int .i64 b, .int .i64 i, .int .i64 g, .int .i64 y, .int .i64 x, .bool nl]] w (IvPost ⟨3, b, ⟨i, g, y, x, nl⟩⟩ w) := by
  have KD := Lib.hid (fun w => impl_kind3 b i g y x nl w)
  have IV := Lib.hid (fun w => impl_iv3 b i g y x nl w)
  have P := meth_iv3
  go_enter Try.func86, Try.ntmps86
  have K0 := (Kept.start w).alloc7 (.int .i64 3) (.int .i64 b) (.int .i64 i) (.int .i64 g) (.int .i64 y) (.int .i64 x) (.bool nl) 38 _ rfl
  have k0 := K0.get 0 rfl
  have k1 := K0.get 1 rfl
  have k2 := K0.get 2 rfl
  have k3 := K0.get 3 rfl
  have k4 := K0.get 4 rfl
  have k5 := K0.get 5 rfl
  have k6 := K0.get 6 rfl
  go_wp2_with fail
  refine (KD.out _).mono ?_
  rintro r9 w1 ⟨rfl, hb⟩
  have K1 := K0.step hb
  clear hb K0 k0 k1 k2 k3 k4 k5 k6
  go_wp2_with fail
  refine (IV.out _).mono ?_
  rintro r9 w2 ⟨⟨v, hv, rfl⟩, hb⟩
  have K2 := K1.step hb
  have E := Lib.hid hv
  clear hb hv
  cases v
  · go_wp2
    go_ret
    exact ⟨⟨_, E.out, rfl⟩, K2.1⟩
  · go_wp2
    go_ret
    exact ⟨⟨true, by simpa using E.out, rfl⟩, K2.1⟩

set_option maxRecDepth 8000 in
set_option maxHeartbeats 3200000 in
theorem impl_ivc4 (b i g y x : Int) (nl : Bool) (w : World) :
    Calls Try.prog 86 #[.agg #[.int .i64 4, .int .i64 b, .int .i64 i, .int .i64 g, .int .i64 y, .int .i64 x, .bool nl]] w (IvPost ⟨4, b, ⟨i, g, y, x, nl⟩⟩ w) := by
  have KD := Lib.hid (fun w => impl_kind4 b i g y x nl w)
  have IV := Lib.hid (fun w => impl_iv4 b i g y x nl w)
  have P := meth_iv4
  go_enter Try.func86, Try.ntmps86
  have K0 := (Kept.start w).alloc7 (.int .i64 4) (.int .i64 b) (.int .i64 i) (.int .i64 g) (.int .i64 y) (.int .i64 x) (.bool nl) 38 _ rfl
  have k0 := K0.get 0 rfl
  have k1 := K0.get 1 rfl
  have k2 := K0.get 2 rfl
  have k3 := K0.get 3 rfl
  have k4 := K0.get 4 rfl
  have k5 := K0.get 5 rfl
  have k6 := K0.get 6 rfl
  go_wp2_with fail
  refine (KD.out _).mono ?_
  rintro r9 w1 ⟨rfl, hb⟩
  have K1 := K0.step hb
  clear hb K0 k0 k1 k2 k3 k4 k5 k6
  go_wp2_with fail
  refine (IV.out _).mono ?_
  rintro r9 w2 ⟨⟨v, hv, rfl⟩, hb⟩
  have K2 := K1.step hb
  have E := Lib.hid hv
  clear hb hv
  cases v
  · go_wp2
    go_ret
    exact ⟨⟨_, E.out, rfl⟩, K2.1⟩
  · go_wp2
    go_ret
    exact ⟨⟨true, by simpa using E.out, rfl⟩, K2.1⟩

set_option maxRecDepth 8000 in
set_option maxHeartbeats 3200000 in
theorem impl_ivc0 (k b i g y x : Int) (nl : Bool) (w : World) (h1 : k ≠ 1) (h2 : k ≠ 2) (h3 : k ≠ 3) (h4 : k ≠ 4) :
    Calls Try.prog 86 #[.agg #[.int .i64 k, .int .i64 b, .int .i64 i, .int .i64 g, .int .i64 y, .int .i64 x, .bool nl]] w (IvPost ⟨k, b, ⟨i, g, y, x, nl⟩⟩ w) := by
  have E := Lib.hid (ivc0 (k := k) (b := b) (r := ⟨i, g, y, x, nl⟩) h1 h2 h3 h4)
  have KD := Lib.hid (fun w => impl_kind0 k b i g y x nl w h1 h2 h3 h4)
  clear h1 h2 h3 h4
  go_enter Try.func86, Try.ntmps86
  have K0 := (Kept.start w).alloc7 (.int .i64 k) (.int .i64 b) (.int .i64 i) (.int .i64 g) (.int .i64 y) (.int .i64 x) (.bool nl) 38 _ rfl
  have k0 := K0.get 0 rfl
  have k1 := K0.get 1 rfl
  have k2 := K0.get 2 rfl
  have k3 := K0.get 3 rfl
  have k4 := K0.get 4 rfl
  have k5 := K0.get 5 rfl
  have k6 := K0.get 6 rfl
  go_wp2_with fail
  refine (KD.out _).mono ?_
  rintro r9 w1 ⟨rfl, hb⟩
  have K1 := K0.step hb
  clear hb K0 k0 k1 k2 k3 k4 k5 k6
  go_wp2
  go_ret
  exact ⟨⟨_, E.out, by simp⟩, K1.1⟩

/-- The project's IsValidChange. -/
theorem impl_ivc (c : Cg) (w : World) :
    Calls Try.prog 86 #[.agg #[.int .i64 c.k, .int .i64 c.b, .int .i64 c.r.i, .int .i64 c.r.g, .int .i64 c.r.y, .int .i64 c.r.x, .bool c.r.nl]] w (IvPost c w) := by
  obtain ⟨k, b, i, g, y, x, nl⟩ := c
  by_cases h1 : k = 1
  · subst h1; exact impl_ivc1 b i g y x nl w
  by_cases h2 : k = 2
  · subst h2; exact impl_ivc2 b i g y x nl w
  by_cases h3 : k = 3
  · subst h3; exact impl_ivc3 b i g y x nl w
  by_cases h4 : k = 4
  · subst h4; exact impl_ivc4 b i g y x nl w
  exact impl_ivc0 k b i g y x nl w h1 h2 h3 h4
end Go.Proofs.Ytcfcohnkkgickaa
