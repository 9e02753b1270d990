/-
  The walks over the project's IsValidRow and what it calls (methods of the row and of the value of X).
-/
import Derived.Test.YtcfcohnkkgickaaRows
import Derived.Test.YtcfcohnkkgickaaRvSpec
import Derived.Test.YtcfcohnkkgickaaIgImpl
namespace Go.Proofs.Ytcfcohnkkgickaa
open Go.RowKit Num

/-- The value of X that a row has, as an interface value. -/
def xVal (x : Int) (nl : Bool) : Value := .iface (if nl then 178 else 179) (.int .i64 x)

set_option maxRecDepth 8000 in
theorem impl_val (i g y x : Int) (nl : Bool) (w : World) :
    Calls Try.prog 138 #[.agg #[.int .i64 i, .int .i64 g, .int .i64 y, .int .i64 x, .bool nl]] w fun e w' => e = .returned (xVal x nl) ∧ Below w.heap.size w w' := by
  have K := (Kept.start w).alloc5 (.int .i64 i) (.int .i64 g) (.int .i64 y) (.int .i64 x) (.bool nl) 36 _ rfl
  cases nl
  · go_enter Try.func138, Try.ntmps138
    go_wp2
    go_ret
    exact ⟨rfl, K.1⟩
  · go_enter Try.func138, Try.ntmps138
    go_wp2
    go_ret
    exact ⟨rfl, K.1⟩

theorem impl_pvalid (x : Int) (w : World) :
    Calls Try.prog 188 #[.int .i64 x] w fun e w' => e = .returned (.bool (decide (-99 ≤ x ∧ x ≤ 99))) ∧ w = w' := by
  by_cases h1 : -99 ≤ x
  · by_cases h2 : x ≤ 99
    · rw [decide_eq_true ⟨h1, h2⟩]
      go_enter Try.func188, Try.ntmps188
      go_wp2
      go_ret
      exact ⟨rfl, rfl⟩
    · rw [decide_eq_false (fun h => h2 h.2)]
      go_enter Try.func188, Try.ntmps188
      go_wp2
      go_ret
      exact ⟨rfl, rfl⟩
  · rw [decide_eq_false (fun h => h1 h.1)]
    go_enter Try.func188, Try.ntmps188
    go_wp2
    go_ret
    exact ⟨rfl, rfl⟩

theorem impl_mvalid (x : Int) (w : World) :
    Calls Try.prog 185 #[.int .i64 x] w fun e w' => e = .returned (.bool (decide (x = 0))) ∧ w = w' := by
  by_cases h : x = 0
  · rw [decide_eq_true h]
    have q : (x == 0) = true := by rw [h]; rfl
    have H := Lib.hid h
    clear h
    go_enter Try.func185, Try.ntmps185
    go_wp2
    go_ret
    exact ⟨rfl, rfl⟩
  · rw [decide_eq_false h]
    have q : (x == 0) = false := beq_eq_false_iff_ne.2 h
    have H := Lib.hid h
    clear h
    go_enter Try.func185, Try.ntmps185
    go_wp2
    go_ret
    exact ⟨rfl, rfl⟩

theorem meth_pv (d : Nat) (x : Int) (w : World) : (method (d + 1) 179 (.int .i64 x) "loop.example/g01927/impl.isValid").run Try.prog w = .ok (188, .int .i64 x) w := by kernel_rfl
theorem meth_mv (d : Nat) (x : Int) (w : World) : (method (d + 1) 178 (.int .i64 x) "loop.example/g01927/impl.isValid").run Try.prog w = .ok (185, .int .i64 x) w := by kernel_rfl

theorem rowB_out {i g y x : Int} {nl : Bool} (h : ¬ ((1 ≤ i ∧ i ≤ 99) ∧ (0 ≤ g ∧ g ≤ 3) ∧ (0 ≤ y ∧ y ≤ 8))) : rowB i g y x nl = false := by
  cases hr : rowB i g y x nl
  · rfl
  · obtain ⟨a, b, c, _⟩ := rowB_of hr
    exact absurd ⟨a, b, c⟩ h
theorem rowB_in {i g y x : Int} {nl : Bool} (h1 : 1 ≤ i ∧ i ≤ 99) (h2 : 0 ≤ g ∧ g ≤ 3) (h3 : 0 ≤ y ∧ y ≤ 8) : rowB i g y x nl = (decide (-99 ≤ x ∧ x ≤ 99) && (!nl || decide (x = 0))) := by
  unfold rowB
  rw [decide_eq_true h1, decide_eq_true h2, decide_eq_true h3]
  simp

set_option maxRecDepth 8000 in
set_option maxHeartbeats 1600000 in
theorem impl_rv (i g y x : Int) (nl : Bool) (w : World) :
    Calls Try.prog 96 #[.agg #[.int .i64 i, .int .i64 g, .int .i64 y, .int .i64 x, .bool nl]] w fun e w' => e = .returned (.bool (rowB i g y x nl)) ∧ Below w.heap.size w w' := by
  by_cases h0 : 1 ≤ i
  · by_cases h1 : i ≤ 99
    · have IG := Lib.hid (fun w => impl_ig g w)
      by_cases hg : 0 ≤ g ∧ g ≤ 3
      · rw [decide_eq_true hg] at IG
        by_cases h4 : 0 ≤ y
        · by_cases h5 : y ≤ 8
          · have E := Lib.hid (rowB_in (x := x) (nl := nl) (i := i) (g := g) (y := y) ⟨by omega, by omega⟩ hg ⟨by omega, by omega⟩)
            have IV := Lib.hid (fun w => impl_val i g y x nl w)
            have MP := Lib.hid (fun w => impl_pvalid x w)
            have MM := Lib.hid (fun w => impl_mvalid x w)
            have P1 := meth_pv
            have P2 := meth_mv
            clear hg
            cases nl
            · have D := Lib.hid (show decide (-99 ≤ x ∧ x ≤ 99) = rowB i g y x false by rw [E.out]; simp)
              obtain ⟨q, hq⟩ : ∃ q, q = decide (-99 ≤ x ∧ x ≤ 99) := ⟨_, rfl⟩
              rw [← hq] at MP D
              clear E hq MM P2
              go_enter Try.func96, Try.ntmps96
              have K0 := (Kept.start w).alloc5 (.int .i64 i) (.int .i64 g) (.int .i64 y) (.int .i64 x) (.bool false) 36 _ rfl
              go_wp2_with fail
              refine (IG.out _).mono ?_
              rintro e w0 ⟨rfl, rfl⟩
              go_wp2_with fail
              refine (IV.out _).mono ?_
              rintro e w1 ⟨rfl, hb⟩
              have K1 := K0.step hb
              clear hb K0
              unfold xVal
              go_wp2_with fail
              refine (MP.out _).mono ?_
              rintro e w2 ⟨rfl, rfl⟩
              cases q
              · go_wp2
                go_ret
                exact ⟨by rw [← D.out]; rfl, K1.1⟩
              · go_wp2
                go_ret
                exact ⟨by rw [← D.out]; rfl, K1.1⟩
            · have D := Lib.hid (show decide (x = 0) = rowB i g y x true by
                  rw [E.out]
                  by_cases h : x = 0
                  · subst h; rfl
                  · rw [decide_eq_false h]; simp)
              obtain ⟨q, hq⟩ : ∃ q, q = decide (x = 0) := ⟨_, rfl⟩
              rw [← hq] at MM D
              clear E hq MP P1
              go_enter Try.func96, Try.ntmps96
              have K0 := (Kept.start w).alloc5 (.int .i64 i) (.int .i64 g) (.int .i64 y) (.int .i64 x) (.bool true) 36 _ rfl
              go_wp2_with fail
              refine (IG.out _).mono ?_
              rintro e w0 ⟨rfl, rfl⟩
              go_wp2_with fail
              refine (IV.out _).mono ?_
              rintro e w1 ⟨rfl, hb⟩
              have K1 := K0.step hb
              clear hb K0
              unfold xVal
              go_wp2_with fail
              refine (MM.out _).mono ?_
              rintro e w2 ⟨rfl, rfl⟩
              cases q
              · go_wp2
                go_ret
                exact ⟨by rw [← D.out]; rfl, K1.1⟩
              · go_wp2
                go_ret
                exact ⟨by rw [← D.out]; rfl, K1.1⟩
          · have E := Lib.hid (rowB_out (x := x) (nl := nl) (show ¬ ((1 ≤ i ∧ i ≤ 99) ∧ (0 ≤ g ∧ g ≤ 3) ∧ (0 ≤ y ∧ y ≤ 8)) by omega))
            go_enter Try.func96, Try.ntmps96
            have K0 := (Kept.start w).alloc5 (.int .i64 i) (.int .i64 g) (.int .i64 y) (.int .i64 x) (.bool nl) 36 _ rfl
            go_wp2_with fail
            refine (IG.out _).mono ?_
            rintro e w0 ⟨rfl, rfl⟩
            go_wp2
            go_ret
            exact ⟨by rw [E.out]; rfl, K0.1⟩
        · have E := Lib.hid (rowB_out (x := x) (nl := nl) (show ¬ ((1 ≤ i ∧ i ≤ 99) ∧ (0 ≤ g ∧ g ≤ 3) ∧ (0 ≤ y ∧ y ≤ 8)) by omega))
          go_enter Try.func96, Try.ntmps96
          have K0 := (Kept.start w).alloc5 (.int .i64 i) (.int .i64 g) (.int .i64 y) (.int .i64 x) (.bool nl) 36 _ rfl
          go_wp2_with fail
          refine (IG.out _).mono ?_
          rintro e w0 ⟨rfl, rfl⟩
          go_wp2
          go_ret
          exact ⟨by rw [E.out]; rfl, K0.1⟩
      · rw [decide_eq_false hg] at IG
        have E := Lib.hid (rowB_out (x := x) (nl := nl) (show ¬ ((1 ≤ i ∧ i ≤ 99) ∧ (0 ≤ g ∧ g ≤ 3) ∧ (0 ≤ y ∧ y ≤ 8)) by omega))
        go_enter Try.func96, Try.ntmps96
        have K0 := (Kept.start w).alloc5 (.int .i64 i) (.int .i64 g) (.int .i64 y) (.int .i64 x) (.bool nl) 36 _ rfl
        go_wp2_with fail
        refine (IG.out _).mono ?_
        rintro e w0 ⟨rfl, rfl⟩
        go_wp2
        go_ret
        exact ⟨by rw [E.out]; rfl, K0.1⟩
    · have E := Lib.hid (rowB_out (x := x) (nl := nl) (show ¬ ((1 ≤ i ∧ i ≤ 99) ∧ (0 ≤ g ∧ g ≤ 3) ∧ (0 ≤ y ∧ y ≤ 8)) by omega))
      go_enter Try.func96, Try.ntmps96
      go_wp2
      have K0 := (Kept.start w).alloc5 (.int .i64 i) (.int .i64 g) (.int .i64 y) (.int .i64 x) (.bool nl) 36 _ rfl
      go_ret
      exact ⟨by rw [E.out]; rfl, K0.1⟩
  · have E := Lib.hid (rowB_out (x := x) (nl := nl) (show ¬ ((1 ≤ i ∧ i ≤ 99) ∧ (0 ≤ g ∧ g ≤ 3) ∧ (0 ≤ y ∧ y ≤ 8)) by omega))
    go_enter Try.func96, Try.ntmps96
    go_wp2
    have K0 := (Kept.start w).alloc5 (.int .i64 i) (.int .i64 g) (.int .i64 y) (.int .i64 x) (.bool nl) 36 _ rfl
    go_ret
    exact ⟨by rw [E.out]; rfl, K0.1⟩
end Go.Proofs.Ytcfcohnkkgickaa
