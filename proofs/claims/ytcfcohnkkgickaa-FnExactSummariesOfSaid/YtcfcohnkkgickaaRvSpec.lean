/-
  A row's box; the walk over the model's IsValidRow.
-/
import Derived.Test.YtcfcohnkkgickaaRows
import Derived.Test.YtcfcohnkkgickaaPlain
import Derived.Test.YtcfcohnkkgickaaL1In
import Derived.Test.YtcfcohnkkgickaaKeep
import Derived.WalkKit
import Derived.WalkSpells
import Derived.WalkLawsBesides
import Derived.IntWalk
import Derived.Lib.Hide
namespace Go.Proofs.Ytcfcohnkkgickaa
open Go.RowKit Num

theorem Kept.alloc5 {W w : World} {l : List (Addr × Value)} (h : Kept W w l) (x y u v z : Value) (t : TypeId) (B : Nat) (hB : w.heap.size = B) :
    Kept W (w.alloc (.cells #[x, y, u, v, z] t)) ((⟨B, 0, none⟩, x) :: (⟨B, 1, none⟩, y) :: (⟨B, 2, none⟩, u) :: (⟨B, 3, none⟩, v) :: (⟨B, 4, none⟩, z) :: l) := by
  subst hB
  have h1 := h.step ((Below.refl w.heap.size w).alloc (Nat.le_refl _) (.cells #[x, y, u, v, z] t))
  refine ⟨h1.1, fun p hp => ?_⟩
  simp only [List.mem_cons] at hp
  rcases hp with rfl | rfl | rfl | rfl | rfl | hp
  · exact ⟨by simp, by go_simp, by go_simp⟩
  · exact ⟨by simp, by go_simp, by go_simp⟩
  · exact ⟨by simp, by go_simp, by go_simp⟩
  · exact ⟨by simp, by go_simp, by go_simp⟩
  · exact ⟨by simp, by go_simp, by go_simp⟩
  · exact h1.2 p hp

/-- A range test by its Bool. -/
theorem l1In_b (n lo hi : Int) (w : World) : Calls Try.prog 98 #[.int .i64 n, .int .i64 lo, .int .i64 hi] w fun e w' => e = .returned (.bool (decide (lo ≤ n ∧ n ≤ hi))) ∧ w = w' := by
  by_cases h : lo ≤ n ∧ n ≤ hi
  · rw [decide_eq_true h]; exact l1In_yes n lo hi w h.1 h.2
  · rw [decide_eq_false h]; exact l1In_no n lo hi w (by omega)

set_option maxRecDepth 8000 in
set_option maxHeartbeats 3200000 in
theorem spec_rv (i g y x : Int) (nl : Bool) (w : World) :
    Calls Try.prog 33 #[.agg #[.int .i64 i, .int .i64 g, .int .i64 y, .int .i64 x, .bool nl]] w fun r9 w' => r9 = .returned (.bool (rowB i g y x nl)) ∧ Below w.heap.size w w' := by
  have D1 := fun w => l1In_b i 1 99 w
  have D2 := fun w => l1In_b g 0 3 w
  have D3 := fun w => l1In_b y 0 8 w
  have D4 := fun w => l1In_b x (-99) 99 w
  have E0 : rowB i g y x nl = (decide (1 ≤ i ∧ i ≤ 99) && (decide (0 ≤ g ∧ g ≤ 3) && (decide (0 ≤ y ∧ y ≤ 8) && (decide (-99 ≤ x ∧ x ≤ 99) && (!nl || decide (x = 0)))))) := rfl
  obtain ⟨q1, hq1⟩ : ∃ q, q = decide (1 ≤ i ∧ i ≤ 99) := ⟨_, rfl⟩
  rw [← hq1] at D1 E0
  have DD1 := Lib.hid D1
  clear D1 hq1
  obtain ⟨q2, hq2⟩ : ∃ q, q = decide (0 ≤ g ∧ g ≤ 3) := ⟨_, rfl⟩
  rw [← hq2] at D2 E0
  have DD2 := Lib.hid D2
  clear D2 hq2
  obtain ⟨q3, hq3⟩ : ∃ q, q = decide (0 ≤ y ∧ y ≤ 8) := ⟨_, rfl⟩
  rw [← hq3] at D3 E0
  have DD3 := Lib.hid D3
  clear D3 hq3
  obtain ⟨q4, hq4⟩ : ∃ q, q = decide (-99 ≤ x ∧ x ≤ 99) := ⟨_, rfl⟩
  rw [← hq4] at D4 E0
  have DD4 := Lib.hid D4
  clear D4 hq4
  cases q1
  · have E := Lib.hid E0
    clear E0
    go_enter Try.func33, Try.ntmps33
    go_wp2_with fail
    have K0 := (Kept.start w).alloc5 (.int .i64 i) (.int .i64 g) (.int .i64 y) (.int .i64 x) (.bool nl) 36 _ rfl
    have k0 := K0.get 0 rfl
    have k1 := K0.get 1 rfl
    have k2 := K0.get 2 rfl
    have k3 := K0.get 3 rfl
    have k4 := K0.get 4 rfl
    refine (DD1.out _).mono ?_
    rintro r9 w1 ⟨rfl, rfl⟩
    go_wp2
    go_ret
    exact ⟨by rw [E.out]; rfl, K0.1⟩
  · cases q2
    · have E := Lib.hid E0
      clear E0
      go_enter Try.func33, Try.ntmps33
      go_wp2_with fail
      have K0 := (Kept.start w).alloc5 (.int .i64 i) (.int .i64 g) (.int .i64 y) (.int .i64 x) (.bool nl) 36 _ rfl
      have k0 := K0.get 0 rfl
      have k1 := K0.get 1 rfl
      have k2 := K0.get 2 rfl
      have k3 := K0.get 3 rfl
      have k4 := K0.get 4 rfl
      refine (DD1.out _).mono ?_
      rintro r9 w1 ⟨rfl, rfl⟩
      go_wp2_with fail
      refine (DD2.out _).mono ?_
      rintro r9 w2 ⟨rfl, rfl⟩
      go_wp2
      go_ret
      exact ⟨by rw [E.out]; rfl, K0.1⟩
    · cases q3
      · have E := Lib.hid E0
        clear E0
        go_enter Try.func33, Try.ntmps33
        go_wp2_with fail
        have K0 := (Kept.start w).alloc5 (.int .i64 i) (.int .i64 g) (.int .i64 y) (.int .i64 x) (.bool nl) 36 _ rfl
        have k0 := K0.get 0 rfl
        have k1 := K0.get 1 rfl
        have k2 := K0.get 2 rfl
        have k3 := K0.get 3 rfl
        have k4 := K0.get 4 rfl
        refine (DD1.out _).mono ?_
        rintro r9 w1 ⟨rfl, rfl⟩
        go_wp2_with fail
        refine (DD2.out _).mono ?_
        rintro r9 w2 ⟨rfl, rfl⟩
        go_wp2_with fail
        refine (DD3.out _).mono ?_
        rintro r9 w3 ⟨rfl, rfl⟩
        go_wp2
        go_ret
        exact ⟨by rw [E.out]; rfl, K0.1⟩
      · cases q4
        · have E := Lib.hid E0
          clear E0
          go_enter Try.func33, Try.ntmps33
          go_wp2_with fail
          have K0 := (Kept.start w).alloc5 (.int .i64 i) (.int .i64 g) (.int .i64 y) (.int .i64 x) (.bool nl) 36 _ rfl
          have k0 := K0.get 0 rfl
          have k1 := K0.get 1 rfl
          have k2 := K0.get 2 rfl
          have k3 := K0.get 3 rfl
          have k4 := K0.get 4 rfl
          refine (DD1.out _).mono ?_
          rintro r9 w1 ⟨rfl, rfl⟩
          go_wp2_with fail
          refine (DD2.out _).mono ?_
          rintro r9 w2 ⟨rfl, rfl⟩
          go_wp2_with fail
          refine (DD3.out _).mono ?_
          rintro r9 w3 ⟨rfl, rfl⟩
          go_wp2_with fail
          refine (DD4.out _).mono ?_
          rintro r9 w4 ⟨rfl, rfl⟩
          go_wp2
          go_ret
          exact ⟨by rw [E.out]; rfl, K0.1⟩
        · cases nl
          · have E := Lib.hid E0
            clear E0
            go_enter Try.func33, Try.ntmps33
            go_wp2_with fail
            have K0 := (Kept.start w).alloc5 (.int .i64 i) (.int .i64 g) (.int .i64 y) (.int .i64 x) (.bool false) 36 _ rfl
            have k0 := K0.get 0 rfl
            have k1 := K0.get 1 rfl
            have k2 := K0.get 2 rfl
            have k3 := K0.get 3 rfl
            have k4 := K0.get 4 rfl
            refine (DD1.out _).mono ?_
            rintro r9 w1 ⟨rfl, rfl⟩
            go_wp2_with fail
            refine (DD2.out _).mono ?_
            rintro r9 w2 ⟨rfl, rfl⟩
            go_wp2_with fail
            refine (DD3.out _).mono ?_
            rintro r9 w3 ⟨rfl, rfl⟩
            go_wp2_with fail
            refine (DD4.out _).mono ?_
            rintro r9 w4 ⟨rfl, rfl⟩
            go_wp2
            go_ret
            exact ⟨by rw [E.out]; rfl, K0.1⟩
          · by_cases hx : x = 0
            · subst hx
              have E := Lib.hid E0
              clear E0
              go_enter Try.func33, Try.ntmps33
              go_wp2_with fail
              have K0 := (Kept.start w).alloc5 (.int .i64 i) (.int .i64 g) (.int .i64 y) (.int .i64 0) (.bool true) 36 _ rfl
              have k0 := K0.get 0 rfl
              have k1 := K0.get 1 rfl
              have k2 := K0.get 2 rfl
              have k3 := K0.get 3 rfl
              have k4 := K0.get 4 rfl
              refine (DD1.out _).mono ?_
              rintro r9 w1 ⟨rfl, rfl⟩
              go_wp2_with fail
              refine (DD2.out _).mono ?_
              rintro r9 w2 ⟨rfl, rfl⟩
              go_wp2_with fail
              refine (DD3.out _).mono ?_
              rintro r9 w3 ⟨rfl, rfl⟩
              go_wp2_with fail
              refine (DD4.out _).mono ?_
              rintro r9 w4 ⟨rfl, rfl⟩
              go_wp2
              go_ret
              exact ⟨by rw [E.out]; rfl, K0.1⟩
            · rw [decide_eq_false hx] at E0
              have qx : (x == 0) = false := beq_eq_false_iff_ne.2 hx
              have HX := Lib.hid hx
              have E := Lib.hid E0
              clear E0 hx
              go_enter Try.func33, Try.ntmps33
              go_wp2_with fail
              have K0 := (Kept.start w).alloc5 (.int .i64 i) (.int .i64 g) (.int .i64 y) (.int .i64 x) (.bool true) 36 _ rfl
              have k0 := K0.get 0 rfl
              have k1 := K0.get 1 rfl
              have k2 := K0.get 2 rfl
              have k3 := K0.get 3 rfl
              have k4 := K0.get 4 rfl
              refine (DD1.out _).mono ?_
              rintro r9 w1 ⟨rfl, rfl⟩
              go_wp2_with fail
              refine (DD2.out _).mono ?_
              rintro r9 w2 ⟨rfl, rfl⟩
              go_wp2_with fail
              refine (DD3.out _).mono ?_
              rintro r9 w3 ⟨rfl, rfl⟩
              go_wp2_with fail
              refine (DD4.out _).mono ?_
              rintro r9 w4 ⟨rfl, rfl⟩
              go_wp2
              go_ret
              exact ⟨by rw [E.out]; rfl, K0.1⟩
end Go.Proofs.Ytcfcohnkkgickaa
