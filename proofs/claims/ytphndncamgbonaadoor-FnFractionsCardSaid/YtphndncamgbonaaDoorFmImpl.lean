/-
  The walks over the project's MakeFrac.
-/
import Derived.Test.YtphndncamgbonaaDoorRows
import Derived.Test.YtphndncamgbonaaDoorFrPlain
import Derived.Test.YtphndncamgbonaaDoorHelp
import Derived.Test.YtphndncamgbonaaDoorFrImpl
import Derived.Test.YtphndncamgbonaaDoorFmAns
import Derived.WalkKit
import Derived.WalkSpells
import Derived.WalkLawsBesides
import Derived.IntWalk
import Derived.Lib.Hide
namespace Go.Proofs.YtphndncamgbonaaDoor
open Go.RowKit Num

theorem impl_term (n : Int) (w : World) :
    Calls Tryd.prog 53 #[.int .i64 n] w fun e w' => e = .returned (.bool (decide (-1000000000000 ≤ n ∧ n ≤ 1000000000000))) ∧ w' = w := by
  by_cases h1 : -1000000000000 ≤ n
  · by_cases h2 : n ≤ 1000000000000
    · have E : Hid (decide (-1000000000000 ≤ n ∧ n ≤ 1000000000000) = true) := decide_eq_true ⟨h1, h2⟩
      go_enter Tryd.func53, Tryd.ntmps53
      go_wp2
      go_ret
      exact ⟨by first | rfl | (rw [E.out]; rfl), rfl⟩
    · have E : Hid (decide (-1000000000000 ≤ n ∧ n ≤ 1000000000000) = false) := decide_eq_false (by omega)
      have q : decide (n ≤ 1000000000000) = false := decide_eq_false h2
      go_enter Tryd.func53, Tryd.ntmps53
      go_wp2
      go_ret
      exact ⟨by first | rfl | (rw [E.out]; rfl), rfl⟩
  · have E : Hid (decide (-1000000000000 ≤ n ∧ n ≤ 1000000000000) = false) := decide_eq_false (by omega)
    have q : decide (-1000000000000 ≤ n) = false := decide_eq_false h1
    go_enter Tryd.func53, Tryd.ntmps53
    go_wp2
    go_ret
    exact ⟨by first | rfl | (rw [E.out]; rfl), rfl⟩

theorem impl_term_yes (n : Int) (w : World) (h1 : -1000000000000 ≤ n) (h2 : n ≤ 1000000000000) :
    Calls Tryd.prog 53 #[.int .i64 n] w fun e w' => e = .returned (.bool true) ∧ w = w' := by
  have := impl_term n w
  rw [decide_eq_true ⟨h1, h2⟩] at this
  exact this.mono fun _ _ ⟨a, b⟩ => ⟨a, b.symm⟩

theorem impl_term_no (n : Int) (w : World) (h : n < -1000000000000 ∨ 1000000000000 < n) :
    Calls Tryd.prog 53 #[.int .i64 n] w fun e w' => e = .returned (.bool false) ∧ w = w' := by
  have := impl_term n w
  rw [decide_eq_false (by omega)] at this
  exact this.mono fun _ _ ⟨a, b⟩ => ⟨a, b.symm⟩

/-- What reduce answers. -/
def RdAns (n d : Int) (w : World) (e : Ending) (w' : World) : Prop :=
  e = .returned (if limB (rN n d) (rD n d) = true then .tuple #[.agg #[.int .i64 (rN n d), .int .i64 (rD n d)], .bool true] else .tuple #[.agg #[.int .i64 0, .int .i64 0], .bool false]) ∧ Below w.heap.size w w'

set_option maxHeartbeats 800000 in
theorem impl_reduce (n d : Int) (w : World) (h1 : -1000000000000000000 ≤ n) (h2 : n ≤ 1000000000000000000) (h3 : -1000000000000000000 ≤ d) (h4 : d ≤ 1000000000000000000) (h0 : d ≠ 0) :
    Calls Tryd.prog 48 #[.int .i64 n, .int .i64 d] w (RdAns n d w) := by
  have R0 := fun w => impl_red n d w h1 h2 h3 h4 h0
  have L0 := fun w => impl_lim (rN n d) (rD n d) w
  have Y : ∀ w w', Below w.heap.size w w' → limB (rN n d) (rD n d) = true → RdAns n d w (.returned (.tuple #[.agg #[.int .i64 (rN n d), .int .i64 (rD n d)], .bool true])) w' := fun w w' hb h => ⟨by rw [if_pos h], hb⟩
  have Z : ∀ w w', Below w.heap.size w w' → limB (rN n d) (rD n d) = false → RdAns n d w (.returned (.tuple #[.agg #[.int .i64 0, .int .i64 0], .bool false])) w' := fun w w' hb h => ⟨by rw [if_neg (by rw [h]; simp)], hb⟩
  obtain ⟨x, hx⟩ : ∃ x, x = rN n d := ⟨_, rfl⟩
  obtain ⟨y, hy⟩ : ∃ y, y = rD n d := ⟨_, rfl⟩
  rw [← hx, ← hy] at R0 L0 Y Z
  obtain ⟨b, hb⟩ : ∃ b, b = limB x y := ⟨_, rfl⟩
  rw [← hb] at L0 Y Z
  have R := Lib.hid R0
  have L := Lib.hid L0
  have YY := Lib.hid Y
  have ZZ := Lib.hid Z
  clear R0 L0 Y Z hx hy hb h0
  go_enter Tryd.func48, Tryd.ntmps48
  go_wp2_with fail
  have K0 := (Kept.start w).alloc2 (.int .i64 0) (.int .i64 0) 25 _ rfl
  refine (R.out _).mono ?_
  rintro e w1 ⟨rfl, hb1⟩
  have K1 := (K0.step hb1).alloc2 (.int .i64 x) (.int .i64 y) 25 _ rfl
  have z2 := (K0.step hb1).lt 0 rfl
  clear hb1 K0
  go_wp2_with fail
  refine (L.out _).mono ?_
  rintro e w2 ⟨rfl, hb2⟩
  have K2 := K1.step hb2
  clear hb2 K1
  have k1 := K2.get 0 rfl
  have k2 := K2.get 1 rfl
  have k3 := K2.get 2 rfl
  have k4 := K2.get 3 rfl
  have f3 := K2.fz 2 rfl
  have f4 := K2.fz 3 rfl
  have z3 := K2.lt 2 rfl
  cases b
  · go_wp2
    exact bodyPost_ret (v := .tuple #[.agg #[.int .i64 0, .int .i64 0], .bool false]) (by simp [results, Tryd.results48, go_sem, k3, k4, z3]) rfl (ZZ.out _ _ ((K2.1.setCell (Nat.le_refl _) _).setCell (Nat.le_refl _) _) (by simp))
  · go_wp2
    exact bodyPost_ret (v := .tuple #[.agg #[.int .i64 x, .int .i64 y], .bool true]) (by simp [results, Tryd.results48, go_sem, k3, k4, z3]) rfl (YY.out _ _ ((K2.1.setCell (Nat.le_refl _) _).setCell (Nat.le_refl _) _) (by simp))

theorem impl_mk_zero (n : Int) (w : World) : Calls Tryd.prog 26 #[.int .i64 n, .int .i64 0] w (MkAns n 0 w) := by
  have E : Hid (¬ (termB n 0 = true ∧ limB (rN n 0) (rD n 0) = true)) := (show ¬ _ by unfold termB; simp)
  go_enter Tryd.func26, Tryd.ntmps26
  go_wp2
  exact bodyPost_ret (v := .tuple #[.agg #[.int .i64 0, .int .i64 0], .bool false]) (by simp [results, Tryd.results26, go_sem]) rfl (MkAns.no _ _ E.out ((Below.refl _ _).alloc (Nat.le_refl _) _))

theorem impl_mk_n (n d : Int) (w : World) (hd : d ≠ 0) (h : n < -1000000000000 ∨ 1000000000000 < n) : Calls Tryd.prog 26 #[.int .i64 n, .int .i64 d] w (MkAns n d w) := by
  have E : Hid (¬ (termB n d = true ∧ limB (rN n d) (rD n d) = true)) := (show ¬ _ by unfold termB; simp; omega)
  have q : (d == 0) = false := beq_eq_false_iff_ne.2 hd
  have H := Lib.hid h
  have HD := Lib.hid hd
  clear h hd
  go_enter Tryd.func26, Tryd.ntmps26
  go_wp2_with (go_at_call 53; refine (impl_term_no _ _ H.out).mono ?_; rintro e w1 ⟨rfl, rfl⟩)
  exact bodyPost_ret (v := .tuple #[.agg #[.int .i64 0, .int .i64 0], .bool false]) (by simp [results, Tryd.results26, go_sem]) rfl (MkAns.no _ _ E.out ((Below.refl _ _).alloc (Nat.le_refl _) _))

theorem impl_mk_d (n d : Int) (w : World) (hd : d ≠ 0) (h1 : -1000000000000 ≤ n) (h2 : n ≤ 1000000000000) (h : d < -1000000000000 ∨ 1000000000000 < d) : Calls Tryd.prog 26 #[.int .i64 n, .int .i64 d] w (MkAns n d w) := by
  have E : Hid (¬ (termB n d = true ∧ limB (rN n d) (rD n d) = true)) := (show ¬ _ by unfold termB; simp; omega)
  have q : (d == 0) = false := beq_eq_false_iff_ne.2 hd
  have H := Lib.hid h
  have HD := Lib.hid hd
  clear h hd
  go_enter Tryd.func26, Tryd.ntmps26
  go_wp2_with fail
  refine (impl_term_yes _ _ h1 h2).mono ?_
  rintro e w1 ⟨rfl, rfl⟩
  go_wp2_with fail
  refine (impl_term_no _ _ H.out).mono ?_
  rintro e w1 ⟨rfl, rfl⟩
  go_wp2
  exact bodyPost_ret (v := .tuple #[.agg #[.int .i64 0, .int .i64 0], .bool false]) (by simp [results, Tryd.results26, go_sem]) rfl (MkAns.no _ _ E.out ((Below.refl _ _).alloc (Nat.le_refl _) _))

set_option maxHeartbeats 800000 in
theorem impl_mk_in (n d : Int) (w : World) (hd : d ≠ 0) (h1 : -1000000000000 ≤ n) (h2 : n ≤ 1000000000000) (h3 : -1000000000000 ≤ d) (h4 : d ≤ 1000000000000) : Calls Tryd.prog 26 #[.int .i64 n, .int .i64 d] w (MkAns n d w) := by
  have T : Hid (termB n d = true) := decide_eq_true ⟨hd, h1, h2, h3, h4⟩
  have q : (d == 0) = false := beq_eq_false_iff_ne.2 hd
  have R0 := fun w => impl_reduce n d w (by omega) (by omega) (by omega) (by omega) hd
  have Y := @MkAns.yes n d
  have Z := @MkAns.no n d
  unfold RdAns at R0
  obtain ⟨x, hx⟩ : ∃ x, x = rN n d := ⟨_, rfl⟩
  obtain ⟨y, hy⟩ : ∃ y, y = rD n d := ⟨_, rfl⟩
  obtain ⟨b, hb⟩ : ∃ b, b = limB (rN n d) (rD n d) := ⟨_, rfl⟩
  rw [← hb, ← hx, ← hy] at R0 Y
  rw [← hb] at Z
  have HD := Lib.hid hd
  have YY := Lib.hid Y
  have ZZ := Lib.hid Z
  clear hd hx hy hb Y Z
  cases b
  · rw [if_neg (by simp)] at R0
    have R := Lib.hid R0
    clear R0
    go_enter Tryd.func26, Tryd.ntmps26
    go_wp2_with fail
    refine (impl_term_yes _ _ h1 h2).mono ?_
    rintro e w1 ⟨rfl, rfl⟩
    go_wp2_with fail
    refine (impl_term_yes _ _ h3 h4).mono ?_
    rintro e w1 ⟨rfl, rfl⟩
    go_wp2_with fail
    have K0 := (Kept.start w).alloc2 (.int .i64 0) (.int .i64 0) 25 _ rfl
    refine (R.out _).mono ?_
    rintro e w1 ⟨rfl, hb1⟩
    have K2 := K0.step hb1
    clear hb1 K0
    have k3 := K2.get 0 rfl
    have k4 := K2.get 1 rfl
    have f3 := K2.fz 0 rfl
    have f4 := K2.fz 1 rfl
    have z3 := K2.lt 0 rfl
    go_wp2
    exact bodyPost_ret (v := .tuple #[.agg #[.int .i64 0, .int .i64 0], .bool false]) (by simp [results, Tryd.results26, go_sem, k3, k4, z3]) rfl (ZZ.out _ _ (by simp) ((K2.1.setCell (Nat.le_refl _) _).setCell (Nat.le_refl _) _))
  · rw [if_pos rfl] at R0
    have R := Lib.hid R0
    clear R0
    go_enter Tryd.func26, Tryd.ntmps26
    go_wp2_with fail
    refine (impl_term_yes _ _ h1 h2).mono ?_
    rintro e w1 ⟨rfl, rfl⟩
    go_wp2_with fail
    refine (impl_term_yes _ _ h3 h4).mono ?_
    rintro e w1 ⟨rfl, rfl⟩
    go_wp2_with fail
    have K0 := (Kept.start w).alloc2 (.int .i64 0) (.int .i64 0) 25 _ rfl
    refine (R.out _).mono ?_
    rintro e w1 ⟨rfl, hb1⟩
    have K2 := K0.step hb1
    clear hb1 K0
    have k3 := K2.get 0 rfl
    have k4 := K2.get 1 rfl
    have f3 := K2.fz 0 rfl
    have f4 := K2.fz 1 rfl
    have z3 := K2.lt 0 rfl
    go_wp2
    exact bodyPost_ret (v := .tuple #[.agg #[.int .i64 x, .int .i64 y], .bool true]) (by simp [results, Tryd.results26, go_sem, k3, k4, z3]) rfl (YY.out _ _ T.out (by simp) ((K2.1.setCell (Nat.le_refl _) _).setCell (Nat.le_refl _) _))

theorem impl_mk (n d : Int) (w : World) : Calls Tryd.prog 26 #[.int .i64 n, .int .i64 d] w (MkAns n d w) := by
  by_cases h0 : d = 0
  · subst h0; exact impl_mk_zero n w
  · by_cases hn : n < -1000000000000 ∨ 1000000000000 < n
    · exact impl_mk_n n d w h0 hn
    · by_cases hd : d < -1000000000000 ∨ 1000000000000 < d
      · exact impl_mk_d n d w h0 (by omega) (by omega) hd
      · exact impl_mk_in n d w h0 (by omega) (by omega) (by omega) (by omega)
end Go.Proofs.YtphndncamgbonaaDoor
