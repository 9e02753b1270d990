/-
  The walks over SubtractFracs, the model's.
-/
import Derived.Test.YtdfmidihghoilaaDoorRows
import Derived.Test.YtdfmidihghoilaaDoorPlain
import Derived.Test.YtdfmidihghoilaaDoorKeep
import Derived.Test.YtdfmidihghoilaaDoorFsAns
import Derived.Test.YtdfmidihghoilaaDoorFrSpec
import Derived.WalkKit
import Derived.WalkSpells
import Derived.WalkLawsBesides
import Derived.IntWalk
import Derived.Lib.Hide
namespace Go.Proofs.YtdfmidihghoilaaDoor
open Go.RowKit Num

set_option maxRecDepth 8000 in
set_option maxHeartbeats 3200000 in
theorem spec_sub (n d m e : Int) (w : World) (n0 : -9223372036854775808 ≤ n ∧ n ≤ 9223372036854775807) (m0 : -9223372036854775808 ≤ m ∧ m ≤ 9223372036854775807) : Calls Tryd.prog 49 #[.agg #[.int .i64 n, .int .i64 d], .agg #[.int .i64 m, .int .i64 e]] w (SubAns n d m e w) := by
  have IA0 := fun w => spec_isf n d w n0.1 n0.2
  have IB0 := fun w => spec_isf m e w m0.1 m0.2
  cases h1 : frB n d
  · have ZZ := Lib.hid (fun w w' => @SubAns.no n d m e w w' (subB_no1 h1))
    rw [h1] at IA0
    have IA := Lib.hid IA0
    clear IA0 IB0 h1
    go_enter Tryd.func49, Tryd.ntmps49
    go_wp2_with fail
    have K0 := ((((Kept.start w).alloc2 (.int .i64 n) (.int .i64 d) 27 _ rfl).alloc2 (.int .i64 m) (.int .i64 e) 27 (w.heap.size + 1) (by simp))).alloc2 (.int .i64 0) (.int .i64 0) 27 (w.heap.size + 1 + 1) (by simp)
    refine (IA.out _).mono ?_
    rintro r w1 ⟨rfl, hb1⟩
    have K1 := K0.step hb1
    clear hb1 K0
    have f1 := K1.fz 0 rfl
    have f2 := K1.fz 1 rfl
    have c1 := K1.get 0 rfl
    have c2 := K1.get 1 rfl
    have z1 := K1.lt 0 rfl
    go_wp2
    exact bodyPost_ret (v := .tuple #[.agg #[.int .i64 0, .int .i64 0], .bool false]) (by simp [results, Tryd.results49, go_sem, c1, c2, z1]) rfl (ZZ.out _ _ ((K1.1.setCell (by show w.heap.size ≤ w.heap.size + 1 + 1; omega) _).setCell (by show w.heap.size ≤ w.heap.size + 1 + 1; omega) _))
  · cases h2 : frB m e
    · have ZZ := Lib.hid (fun w w' => @SubAns.no n d m e w w' (subB_no2 h2))
      rw [h1] at IA0
      rw [h2] at IB0
      have IA := Lib.hid IA0
      have IB := Lib.hid IB0
      clear IA0 IB0 h1 h2
      go_enter Tryd.func49, Tryd.ntmps49
      go_wp2_with fail
      have K0 := ((((Kept.start w).alloc2 (.int .i64 n) (.int .i64 d) 27 _ rfl).alloc2 (.int .i64 m) (.int .i64 e) 27 (w.heap.size + 1) (by simp))).alloc2 (.int .i64 0) (.int .i64 0) 27 (w.heap.size + 1 + 1) (by simp)
      refine (IA.out _).mono ?_
      rintro r w1 ⟨rfl, hb1⟩
      have K1 := K0.step hb1
      clear hb1 K0
      have k1 := K1.get 2 rfl
      have k2 := K1.get 3 rfl
      go_wp2_with fail
      refine (IB.out _).mono ?_
      rintro r w2 ⟨rfl, hb2⟩
      have K2 := K1.step hb2
      clear hb2 K1 k1 k2
      have f1 := K2.fz 0 rfl
      have f2 := K2.fz 1 rfl
      have c1 := K2.get 0 rfl
      have c2 := K2.get 1 rfl
      have z1 := K2.lt 0 rfl
      go_wp2
      exact bodyPost_ret (v := .tuple #[.agg #[.int .i64 0, .int .i64 0], .bool false]) (by simp [results, Tryd.results49, go_sem, c1, c2, z1]) rfl (ZZ.out _ _ ((K2.1.setCell (by show w.heap.size ≤ w.heap.size + 1 + 1; omega) _).setCell (by show w.heap.size ≤ w.heap.size + 1 + 1; omega) _))
    · obtain ⟨⟨n1, n2, d1, d2⟩, _⟩ := frB_of h1
      obtain ⟨⟨m1, m2, e1, e2⟩, _⟩ := frB_of h2
      obtain ⟨p1, p2⟩ := mul_bd n1 n2 e1 e2
      obtain ⟨q1, q2⟩ := mul_bd m1 m2 d1 d2
      obtain ⟨t1, t2⟩ := mul_bd2 d1 d2 e1 e2
      have SB := subB_in h1 h2
      have Y := @SubAns.yes n d m e
      have Z := @SubAns.no n d m e
      rw [SB] at Y Z
      clear SB
      rw [h1] at IA0
      rw [h2] at IB0
      have IA := Lib.hid IA0
      have IB := Lib.hid IB0
      clear IA0 IB0 h1 h2 n1 n2 m1 m2 d1 d2 e1 e2 n0 m0
      obtain ⟨p, hp⟩ : ∃ p, n * e = p := ⟨_, rfl⟩
      obtain ⟨q, hq⟩ : ∃ q, m * d = q := ⟨_, rfl⟩
      obtain ⟨k, hk⟩ : ∃ k : Nat, d * e = (k : Int) := Int.eq_ofNat_of_zero_le (by omega)
      rw [hp] at p1 p2 Y Z
      rw [hq] at q1 q2 Y Z
      rw [hk] at t1 t2 Y Z
      have hk0 : (k : Int) ≠ 0 := by omega
      obtain ⟨X, hX⟩ : ∃ X, p - q = X := ⟨_, rfl⟩
      have X1 : -19999999980000 ≤ X := by omega
      have X2 : X ≤ 19999999980000 := by omega
      rw [hX] at Y Z
      have GP := gcd_pos (n := X) hk0
      have GL := gcd_le (n := X) hk0
      have RN0 := red_pos_N (n := X) (d := (k : Int)) (by omega)
      have RD0 := red_pos_D (n := X) (d := (k : Int)) (by omega)
      rw [Int.tdiv_eq_ediv_of_nonneg (by omega)] at RD0
      have BD := rD_le (n := X) (d := (k : Int))
      have BP := rD_pos (n := X) hk0
      have G0 := fun w => spec_gcd X.natAbs k w (by omega) (by omega)
      have BN := rN_bd (n := X) (d := (k : Int))
      have RW := IntWalk.wrap64_in (rD X k) ⟨by omega, by omega⟩
      have I0 := fun w => spec_isf (rN X k) (rD X k) w (by omega) (by omega)
      rw [red_frB hk0] at I0
      obtain ⟨g, hg⟩ : ∃ g, g = Int.gcd X (k : Int) := ⟨_, rfl⟩
      obtain ⟨x, hx⟩ : ∃ x, x = rN X (k : Int) := ⟨_, rfl⟩
      obtain ⟨y, hy⟩ : ∃ y, y = rD X (k : Int) := ⟨_, rfl⟩
      obtain ⟨b, hb⟩ : ∃ b, b = limB (rN X (k : Int)) (rD X (k : Int)) := ⟨_, rfl⟩
      rw [show Nat.gcd X.natAbs k = g from hg.symm] at G0
      rw [← hb, ← hx, ← hy] at I0
      rw [← hg] at GP GL RN0 RD0
      rw [← hx] at RN0
      rw [← hy] at RD0 RW
      rw [← hb, ← hx, ← hy] at Y
      rw [← hb] at Z
      have G := Lib.hid G0
      have I := Lib.hid I0
      have RN := Lib.hid RN0
      have RD := Lib.hid (show wrap64 ((k : Int) / (g : Int)) = y by rw [RD0]; exact RW)
      have RE := Lib.hid RD0
      have YY := Lib.hid Y
      have ZZ := Lib.hid Z
      have z : ¬ (g : Int) = 0 := by omega
      have HK := Lib.hid hk0
      clear G0 I0 RN0 RD0 Y Z hg hx hy hb hk0 BN BD BP RW
      go_enter Tryd.func49, Tryd.ntmps49
      go_wp2_with fail
      have K0 := ((((Kept.start w).alloc2 (.int .i64 n) (.int .i64 d) 27 _ rfl).alloc2 (.int .i64 m) (.int .i64 e) 27 (w.heap.size + 1) (by simp))).alloc2 (.int .i64 0) (.int .i64 0) 27 (w.heap.size + 1 + 1) (by simp)
      refine (IA.out _).mono ?_
      rintro r w1 ⟨rfl, hb1⟩
      have K1 := K0.step hb1
      clear hb1 K0
      have k1 := K1.get 2 rfl
      have k2 := K1.get 3 rfl
      go_wp2_with fail
      refine (IB.out _).mono ?_
      rintro r w2 ⟨rfl, hb2⟩
      have K2 := K1.step hb2
      clear hb2 K1 k1 k2
      have k1 := K2.get 2 rfl
      have k2 := K2.get 3 rfl
      have k3 := K2.get 4 rfl
      have k4 := K2.get 5 rfl
      go_wp2_with fail
      refine (spec_size _ _ (by omega) (by omega)).mono ?_
      rintro r w1 ⟨rfl, hw1⟩
      obtain rfl := hw1.symm
      go_wp2_with fail
      refine (G.out _).mono ?_
      rintro r w1 ⟨rfl, hw1⟩
      obtain rfl := hw1.symm
      go_wp2_with fail
      go_region
      rw [RN.out]
      first | rw [RD.out] | rw [RE.out]
      clear k1 k2 k3 k4
      have K3 := (K2.alloc2 (.int .i64 x) (.int .i64 y) 27 _ rfl).drew
      go_wp2_with fail
      refine (I.out _).mono ?_
      rintro r w3 ⟨rfl, hb3⟩
      have K4 := K3.step hb3
      clear hb3 K3
      have k1 := K4.get 0 rfl
      have k2 := K4.get 1 rfl
      have f1 := K4.fz 2 rfl
      have f2 := K4.fz 3 rfl
      have c1 := K4.get 2 rfl
      have c2 := K4.get 3 rfl
      have z1 := K4.lt 2 rfl
      cases b
      · go_wp2
        exact bodyPost_ret (v := .tuple #[.agg #[.int .i64 0, .int .i64 0], .bool false]) (by simp [results, Tryd.results49, go_sem, c1, c2, z1]) rfl (ZZ.out _ _ (by simp) ((K4.1.setCell (by show w.heap.size ≤ w.heap.size + 1 + 1; omega) _).setCell (by show w.heap.size ≤ w.heap.size + 1 + 1; omega) _))
      · go_wp2
        exact bodyPost_ret (v := .tuple #[.agg #[.int .i64 x, .int .i64 y], .bool true]) (by simp [results, Tryd.results49, go_sem, c1, c2, z1]) rfl (YY.out _ _ (by simp) ((K4.1.setCell (by show w.heap.size ≤ w.heap.size + 1 + 1; omega) _).setCell (by show w.heap.size ≤ w.heap.size + 1 + 1; omega) _))
end Go.Proofs.YtdfmidihghoilaaDoor
