/-
  The walks over the model's MakeFrac and Whole.
-/
import Derived.Test.YtdfmidihghoilaaDoorRows
import Derived.Test.YtdfmidihghoilaaDoorPlain
import Derived.Test.YtdfmidihghoilaaDoorL1In
import Derived.Test.YtdfmidihghoilaaDoorKeep
import Derived.Test.YtdfmidihghoilaaDoorFrSpec
import Derived.Test.YtdfmidihghoilaaDoorFmAns
import Derived.WalkKit
import Derived.WalkSpells
import Derived.WalkLawsBesides
import Derived.IntWalk
import Derived.Lib.Hide
import Derived.Deep.QuietTactic
import Derived.BigQuiet
namespace Go.Proofs.YtdfmidihghoilaaDoor
open Go.RowKit Num

theorem spec_mk_zero (n : Int) (w : World) : Calls Tryd.prog 73 #[.int .i64 n, .int .i64 0] w (MkAns n 0 w) := by
  have E : Hid (¬ (termB n 0 = true ∧ limB (rN n 0) (rD n 0) = true)) := (show ¬ _ by unfold termB; simp)
  go_enter Tryd.func73, Tryd.ntmps73
  go_wp2
  exact bodyPost_ret (v := .tuple #[.agg #[.int .i64 0, .int .i64 0], .bool false]) (by simp [results, Tryd.results73, go_sem]) rfl (MkAns.no _ _ E.out ((Below.refl _ _).alloc (Nat.le_refl _) _))

theorem spec_mk_n (n d : Int) (w : World) (hd : d ≠ 0) (h : n < -1000000000000 ∨ 1000000000000 < n) : Calls Tryd.prog 73 #[.int .i64 n, .int .i64 d] w (MkAns n d w) := by
  have E : Hid (¬ (termB n d = true ∧ limB (rN n d) (rD n d) = true)) := (show ¬ _ by unfold termB; simp; omega)
  have q : (d == 0) = false := beq_eq_false_iff_ne.2 hd
  have H := Lib.hid h
  have HD := Lib.hid hd
  clear h hd
  go_enter Tryd.func73, Tryd.ntmps73
  go_wp2_with (go_at_call 58; refine (l1In_no _ _ _ _ H.out).mono ?_; rintro e w1 ⟨rfl, rfl⟩)
  exact bodyPost_ret (v := .tuple #[.agg #[.int .i64 0, .int .i64 0], .bool false]) (by simp [results, Tryd.results73, go_sem]) rfl (MkAns.no _ _ E.out ((Below.refl _ _).alloc (Nat.le_refl _) _))

theorem spec_mk_d (n d : Int) (w : World) (hd : d ≠ 0) (h1 : -1000000000000 ≤ n) (h2 : n ≤ 1000000000000) (h : d < -1000000000000 ∨ 1000000000000 < d) : Calls Tryd.prog 73 #[.int .i64 n, .int .i64 d] w (MkAns n d w) := by
  have E : Hid (¬ (termB n d = true ∧ limB (rN n d) (rD n d) = true)) := (show ¬ _ by unfold termB; simp; omega)
  have q : (d == 0) = false := beq_eq_false_iff_ne.2 hd
  have H := Lib.hid h
  have HD := Lib.hid hd
  clear h hd
  go_enter Tryd.func73, Tryd.ntmps73
  go_wp2_with fail
  refine (l1In_yes _ _ _ _ h1 h2).mono ?_
  rintro e w1 ⟨rfl, rfl⟩
  go_wp2_with fail
  refine (l1In_no _ _ _ _ H.out).mono ?_
  rintro e w1 ⟨rfl, rfl⟩
  go_wp2
  exact bodyPost_ret (v := .tuple #[.agg #[.int .i64 0, .int .i64 0], .bool false]) (by simp [results, Tryd.results73, go_sem]) rfl (MkAns.no _ _ E.out ((Below.refl _ _).alloc (Nat.le_refl _) _))

set_option maxRecDepth 8000 in
set_option maxHeartbeats 1600000 in
theorem spec_mk_pos (n : Int) (k : Nat) (w : World) (hk : 1 ≤ k) (h1 : -1000000000000 ≤ n) (h2 : n ≤ 1000000000000) (h3 : (k : Int) ≤ 1000000000000) : Calls Tryd.prog 73 #[.int .i64 n, .int .i64 k] w (MkAns n k w) := by
  have hk0 : (k : Int) ≠ 0 := by omega
  have GP := gcd_pos (n := n) hk0
  have GL := gcd_le (n := n) hk0
  have T : Hid (termB n k = true) := decide_eq_true ⟨hk0, h1, h2, by omega, h3⟩
  have q : ((k : Int) == 0) = false := beq_eq_false_iff_ne.2 hk0
  have h4 : (-1000000000000 : Int) ≤ k := by omega
  have RN0 := red_pos_N (n := n) (d := (k : Int)) (by omega)
  have RD0 := red_pos_D (n := n) (d := (k : Int)) (by omega)
  rw [Int.tdiv_eq_ediv_of_nonneg (by omega)] at RD0
  have BD := rD_le (n := n) (d := (k : Int))
  have BP := rD_pos (n := n) hk0
  have RW := IntWalk.wrap64_in (rD n k) ⟨by omega, by omega⟩
  have G0 := fun w => spec_gcd n.natAbs k w (by omega) (by omega)
  have BN := rN_bd (n := n) (d := (k : Int))
  have I0 := fun w => spec_isf (rN n k) (rD n k) w (by omega) (by omega)
  rw [red_frB hk0] at I0
  have Y := @MkAns.yes n k
  have Z := @MkAns.no n k
  obtain ⟨g, hg⟩ : ∃ g, g = Int.gcd n (k : Int) := ⟨_, rfl⟩
  obtain ⟨x, hx⟩ : ∃ x, x = rN n (k : Int) := ⟨_, rfl⟩
  obtain ⟨y, hy⟩ : ∃ y, y = rD n (k : Int) := ⟨_, rfl⟩
  obtain ⟨b, hb⟩ : ∃ b, b = limB (rN n (k : Int)) (rD n (k : Int)) := ⟨_, rfl⟩
  rw [show Nat.gcd n.natAbs k = g from hg.symm] at G0
  rw [← hb, ← hx, ← hy] at I0
  rw [← hg] at GP GL RN0 RD0
  rw [← hx] at RN0
  rw [← hy] at RD0 RW
  rw [← hb, ← hx, ← hy] at Y
  rw [← hb] at Z
  have G := Lib.hid G0
  have I := Lib.hid I0
  have RN := Lib.hid RN0
  have RD := Lib.hid (show wrap64 ((k : Int) / (g : Int)) = y by rw [RD0]; exact RW)
  have YY := Lib.hid Y
  have ZZ := Lib.hid Z
  have z : ¬ (g : Int) = 0 := by omega
  have zd : decide ((k : Int) < 0) = false := decide_eq_false (by omega)
  have HK := Lib.hid hk0
  clear G0 I0 RN0 RD0 Y Z hg hx hy hb hk0 BN BD BP RW
  go_enter Tryd.func73, Tryd.ntmps73
  go_wp2_with fail
  refine (l1In_yes _ _ _ _ h1 h2).mono ?_
  rintro e w1 ⟨rfl, rfl⟩
  go_wp2_with fail
  refine (l1In_yes _ _ _ _ h4 h3).mono ?_
  rintro e w1 ⟨rfl, rfl⟩
  go_wp2_with fail
  refine (spec_size _ _ (by omega) (by omega)).mono ?_
  rintro e w1 ⟨rfl, hw1⟩
  obtain rfl := hw1.symm
  go_wp2_with fail
  refine (G.out _).mono ?_
  rintro e w1 ⟨rfl, hw1⟩
  obtain rfl := hw1.symm
  go_wp2_with fail
  go_region
  rw [RN.out, RD.out]
  have K1 := ((((Kept.start w).alloc2 (.int .i64 0) (.int .i64 0) 27 _ rfl).alloc2 (.int .i64 x) (.int .i64 y) 27 (w.heap.size + 1) (by simp))).drew
  go_wp2_with fail
  refine (I.out _).mono ?_
  rintro e w1 ⟨rfl, hb1⟩
  have K2 := K1.step hb1
  clear hb1 K1
  have k1 := K2.get 0 rfl
  have k2 := K2.get 1 rfl
  have k3 := K2.get 2 rfl
  have k4 := K2.get 3 rfl
  have f3 := K2.fz 2 rfl
  have f4 := K2.fz 3 rfl
  have z2 := K2.lt 2 rfl
  cases b
  · go_wp2
    exact bodyPost_ret (v := .tuple #[.agg #[.int .i64 0, .int .i64 0], .bool false]) (by simp [results, Tryd.results73, go_sem, k3, k4, z2]) rfl (ZZ.out _ _ (by simp) ((K2.1.setCell (Nat.le_refl _) _).setCell (Nat.le_refl _) _))
  · go_wp2
    exact bodyPost_ret (v := .tuple #[.agg #[.int .i64 x, .int .i64 y], .bool true]) (by simp [results, Tryd.results73, go_sem, k3, k4, z2]) rfl (YY.out _ _ T.out (by simp) ((K2.1.setCell (Nat.le_refl _) _).setCell (Nat.le_refl _) _))

set_option maxRecDepth 8000 in
set_option maxHeartbeats 1600000 in
theorem spec_mk_neg (n : Int) (k : Nat) (w : World) (hk : 1 ≤ k) (h1 : -1000000000000 ≤ n) (h2 : n ≤ 1000000000000) (h3 : (k : Int) ≤ 1000000000000) : Calls Tryd.prog 73 #[.int .i64 n, .int .i64 (-(k : Int))] w (MkAns n (-(k : Int)) w) := by
  have hk0 : (k : Int) ≠ 0 := by omega
  have hk1 : -(k : Int) ≠ 0 := by omega
  have T : Hid (termB n (-(k : Int)) = true) := decide_eq_true ⟨hk1, h1, h2, by omega, by omega⟩
  have q : (-(k : Int) == 0) = false := beq_eq_false_iff_ne.2 hk1
  have h4 : (-1000000000000 : Int) ≤ -(k : Int) := by omega
  have h5 : -(k : Int) ≤ 1000000000000 := by omega
  have h6 : -(k : Int) < 0 := by omega
  have eg : Int.gcd (-n) (k : Int) = Int.gcd n (k : Int) := by simp [Int.gcd]
  have eN : rN (-n) (k : Int) = rN n (-(k : Int)) := by have := rN_neg (n := n) hk1; rwa [Int.neg_neg] at this
  have eD : rD (-n) (k : Int) = rD n (-(k : Int)) := by have := rD_neg (n := n) (d := -(k : Int)); rwa [Int.neg_neg] at this
  have RN0 := red_pos_N (n := -n) (d := (k : Int)) (by omega)
  have RD0 := red_pos_D (n := -n) (d := (k : Int)) (by omega)
  rw [Int.tdiv_eq_ediv_of_nonneg (by omega)] at RD0
  have BD := rD_le (n := -n) (d := (k : Int))
  have BP := rD_pos (n := -n) hk0
  have BN := rN_bd (n := -n) (d := (k : Int))
  have RW := IntWalk.wrap64_in (rD (-n) k) ⟨by omega, by omega⟩
  have RX := IntWalk.wrap64_in (rN (-n) k) ⟨by omega, by omega⟩
  have G0 := fun w => spec_gcd n.natAbs k w (by omega) (by omega)
  have I0 := fun w => spec_isf (rN (-n) k) (rD (-n) k) w (by omega) (by omega)
  have GP := gcd_pos (n := n) hk0
  have GL := gcd_le (n := n) hk0
  rw [red_frB hk0] at I0
  rw [eN, eD] at I0
  rw [eg, eN] at RN0
  rw [eg, eD] at RD0
  rw [eN] at RX
  rw [eD] at RW
  have Y := @MkAns.yes n (-(k : Int))
  have Z := @MkAns.no n (-(k : Int))
  have S0 := fun w => spec_size (-n) w (by omega) (by omega)
  rw [Int.natAbs_neg] at S0
  obtain ⟨g, hg⟩ : ∃ g, g = Int.gcd n (k : Int) := ⟨_, rfl⟩
  obtain ⟨x, hx⟩ : ∃ x, x = rN n (-(k : Int)) := ⟨_, rfl⟩
  obtain ⟨y, hy⟩ : ∃ y, y = rD n (-(k : Int)) := ⟨_, rfl⟩
  obtain ⟨b, hb⟩ : ∃ b, b = limB (rN n (-(k : Int))) (rD n (-(k : Int))) := ⟨_, rfl⟩
  rw [show Nat.gcd n.natAbs k = g from hg.symm] at G0
  rw [← hb, ← hx, ← hy] at I0
  rw [← hg] at GP GL RN0 RD0
  rw [← hx] at RN0 RX
  rw [← hy] at RD0 RW
  rw [← hb, ← hx, ← hy] at Y
  rw [← hb] at Z
  have G := Lib.hid G0
  have SZ := Lib.hid S0
  have I := Lib.hid I0
  have RN := Lib.hid RN0
  have RD := Lib.hid (show wrap64 ((k : Int) / (g : Int)) = y by rw [RD0]; exact RW)
  have RM := Lib.hid (show wrap64 (-n.tdiv (g : Int)) = x by rw [← Int.neg_tdiv, RN0]; exact RX)
  have YY := Lib.hid Y
  have ZZ := Lib.hid Z
  have z : ¬ (g : Int) = 0 := by omega
  have HK := Lib.hid hk0
  have HK1 := Lib.hid hk1
  clear G0 I0 RN0 RD0 Y Z hg hx hy hb hk0 BN BD BP RW RX eg eN eD hk1 S0
  go_enter Tryd.func73, Tryd.ntmps73
  go_wp2_with fail
  refine (l1In_yes _ _ _ _ h1 h2).mono ?_
  rintro e w1 ⟨rfl, rfl⟩
  go_wp2_with fail
  refine (l1In_yes _ _ _ _ h4 h5).mono ?_
  rintro e w1 ⟨rfl, rfl⟩
  go_wp2_with fail
  refine (SZ.out _).mono ?_
  rintro e w1 ⟨rfl, hw1⟩
  obtain rfl := hw1.symm
  go_wp2_with fail
  refine (G.out _).mono ?_
  rintro e w1 ⟨rfl, hw1⟩
  obtain rfl := hw1.symm
  go_wp2_with fail
  go_region
  rw [RM.out, RD.out]
  have K1 := ((((Kept.start w).alloc2 (.int .i64 0) (.int .i64 0) 27 _ rfl).alloc2 (.int .i64 x) (.int .i64 y) 27 (w.heap.size + 1) (by simp))).drew
  go_wp2_with fail
  refine (I.out _).mono ?_
  rintro e w1 ⟨rfl, hb1⟩
  have K2 := K1.step hb1
  clear hb1 K1
  have k1 := K2.get 0 rfl
  have k2 := K2.get 1 rfl
  have k3 := K2.get 2 rfl
  have k4 := K2.get 3 rfl
  have f3 := K2.fz 2 rfl
  have f4 := K2.fz 3 rfl
  have z2 := K2.lt 2 rfl
  cases b
  · go_wp2
    exact bodyPost_ret (v := .tuple #[.agg #[.int .i64 0, .int .i64 0], .bool false]) (by simp [results, Tryd.results73, go_sem, k3, k4, z2]) rfl (ZZ.out _ _ (by simp) ((K2.1.setCell (Nat.le_refl _) _).setCell (Nat.le_refl _) _))
  · go_wp2
    exact bodyPost_ret (v := .tuple #[.agg #[.int .i64 x, .int .i64 y], .bool true]) (by simp [results, Tryd.results73, go_sem, k3, k4, z2]) rfl (YY.out _ _ T.out (by simp) ((K2.1.setCell (Nat.le_refl _) _).setCell (Nat.le_refl _) _))

theorem spec_mk (n d : Int) (w : World) : Calls Tryd.prog 73 #[.int .i64 n, .int .i64 d] w (MkAns n d w) := by
  by_cases h0 : d = 0
  · subst h0; exact spec_mk_zero n w
  · by_cases hn : n < -1000000000000 ∨ 1000000000000 < n
    · exact spec_mk_n n d w h0 hn
    · by_cases hd : d < -1000000000000 ∨ 1000000000000 < d
      · exact spec_mk_d n d w h0 (by omega) (by omega) hd
      · rcases Int.lt_or_gt_of_ne h0 with h | h
        · obtain ⟨k, rfl⟩ : ∃ k : Nat, d = -(k : Int) := ⟨d.natAbs, by omega⟩
          exact spec_mk_neg n k w (by omega) (by omega) (by omega) (by omega)
        · obtain ⟨k, rfl⟩ := Int.eq_ofNat_of_zero_le (show 0 ≤ d by omega)
          exact spec_mk_pos n k w (by omega) (by omega) (by omega) (by omega)
end Go.Proofs.YtdfmidihghoilaaDoor
