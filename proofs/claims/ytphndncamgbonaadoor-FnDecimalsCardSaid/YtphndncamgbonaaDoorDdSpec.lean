/-
  The walks over DecimalDown and DecimalUp, the model's.
-/
import Derived.Test.YtphndncamgbonaaDoorRows
import Derived.Test.YtphndncamgbonaaDoorDdPlain
import Derived.Test.YtphndncamgbonaaDoorDcSmall
import Derived.Test.YtphndncamgbonaaDoorDcSpec
import Derived.Test.YtphndncamgbonaaDoorHelp
import Derived.Test.YtphndncamgbonaaDoorHeld
import Derived.Test.YtphndncamgbonaaDoorFrSpec
import Derived.Test.YtphndncamgbonaaDoorL1In
import Derived.WalkKit
import Derived.WalkSpells
import Derived.WalkLawsBesides
import Derived.IntWalk
import Derived.Lib.Hide
namespace Go.Proofs.YtphndncamgbonaaDoor
open Go.RowKit Num

set_option maxRecDepth 8000 in
set_option maxHeartbeats 3200000 in
theorem spec_dd_no1 (n d p : Int) (w : World) (h : frB n d = false) (n0 : -9223372036854775808 ≤ n ∧ n ≤ 9223372036854775807) :
    Calls Tryd.prog 15 #[.agg #[.int .i64 n, .int .i64 d], .int .i64 p] w fun e w' => e = .returned (.string ⟨(ddF n d p).toArray⟩) ∧ Below w.heap.size w w' := by
  rw [ddF_no1 h]
  have I0 := fun w => spec_isf n d w n0.1 n0.2
  rw [h] at I0
  have I := Lib.hid I0
  clear I0 h
  go_enter Tryd.func15, Tryd.ntmps15
  go_wp2_with fail
  have K0 := (Kept.start w).alloc2 (.int .i64 n) (.int .i64 d) 25 _ rfl
  refine (I.out _).mono ?_
  rintro e w1 ⟨rfl, hb⟩
  have K1 := K0.step hb
  clear hb K0
  go_wp2
  go_ret
  exact ⟨rfl, K1.1⟩

set_option maxRecDepth 8000 in
set_option maxHeartbeats 3200000 in
theorem spec_dd_no2 (n d p : Int) (w : World) (h : frB n d = true) (n0 : -9223372036854775808 ≤ n ∧ n ≤ 9223372036854775807) (hp : p < 0 ∨ 6 < p) :
    Calls Tryd.prog 15 #[.agg #[.int .i64 n, .int .i64 d], .int .i64 p] w fun e w' => e = .returned (.string ⟨(ddF n d p).toArray⟩) ∧ Below w.heap.size w w' := by
  rw [ddF_no2 hp]
  have I0 := fun w => spec_isf n d w n0.1 n0.2
  rw [h] at I0
  have I := Lib.hid I0
  have HP := Lib.hid hp
  clear I0 h hp
  go_enter Tryd.func15, Tryd.ntmps15
  go_wp2_with fail
  have K0 := (Kept.start w).alloc2 (.int .i64 n) (.int .i64 d) 25 _ rfl
  refine (I.out _).mono ?_
  rintro e w1 ⟨rfl, hb⟩
  have K1 := K0.step hb
  clear hb K0
  go_wp2_with fail
  refine (l1In_no _ _ _ _ HP.out).mono ?_
  rintro e w2 ⟨rfl, rfl⟩
  go_wp2
  go_ret
  exact ⟨rfl, K1.1⟩

set_option maxRecDepth 8000 in
set_option maxHeartbeats 3200000 in
theorem spec_dd_yes (n d : Int) (p : Nat) (w : World) (h : frB n d = true) (hp : p ≤ 6) (n0 : -9223372036854775808 ≤ n ∧ n ≤ 9223372036854775807) :
    Calls Tryd.prog 15 #[.agg #[.int .i64 n, .int .i64 d], .int .i64 (p : Int)] w fun e w' => e = .returned (.string ⟨(ddF n d p).toArray⟩) ∧ Below w.heap.size w w' := by
  rw [ddF_yes h hp]
  have p1 : (0 : Int) ≤ (p : Int) := by omega
  have p2 : (p : Int) ≤ 6 := by omega
  obtain ⟨⟨n1, n2, d1, d2⟩, _⟩ := frB_of h
  have I0 := fun w => spec_isf n d w n0.1 n0.2
  rw [h] at I0
  have I := Lib.hid I0
  obtain ⟨f1, f2⟩ := p10_bd hp
  have W0 := fun w => spec_pow p w hp
  have M0 := mul_pw (n := n) (f := p10 p) (by omega) (by omega) f2
  have M1 := fl_bd (a := n * (p10 p : Int)) (b := d) (by omega)
  have L0 := fun w => spec_floor (n * (p10 p : Int)) d w (by omega) (by omega) d1 d2
  have C0 := fun w => spec_dec ((n * (p10 p : Int) / d)) p w (by omega) (by omega) hp
  unfold downF
  obtain ⟨f, hf⟩ : ∃ f, f = p10 p := ⟨_, rfl⟩
  rw [← hf] at W0 L0 C0 M0 M1
  rw [← hf]
  obtain ⟨P, hPP⟩ : ∃ P, n * (f : Int) = P := ⟨_, rfl⟩
  rw [hPP] at L0 C0 M0 M1
  rw [hPP]
  obtain ⟨Q, hQ⟩ : ∃ Q, Q = P / d := ⟨_, rfl⟩
  rw [← hQ] at L0 C0 M1
  rw [← hQ]
  obtain ⟨s, hs⟩ : ∃ s, s = decF Q p := ⟨_, rfl⟩
  rw [← hs] at C0
  rw [← hs]
  have e0 : IntKind.i64.wrap P = P := IntWalk.i64_in _ ⟨by omega, by omega⟩
  have e1 : IntKind.i64.wrap (-Q) = -Q := IntWalk.i64_in _ ⟨by omega, by omega⟩
  have e2 : IntKind.i64.wrap (-n) = -n := IntWalk.i64_in _ ⟨by omega, by omega⟩
  have PW := Lib.hid W0
  have FL := Lib.hid L0
  have DE := Lib.hid C0
  clear W0 L0 C0 hs hQ hf I0 h
  go_enter Tryd.func15, Tryd.ntmps15
  go_wp2_with fail
  have K0 := (Kept.start w).alloc2 (.int .i64 n) (.int .i64 d) 25 _ rfl
  refine (I.out _).mono ?_
  rintro e w1 ⟨rfl, hb⟩
  have K1 := K0.step hb
  clear hb K0
  go_wp2_with fail
  refine (l1In_yes _ _ _ _ p1 p2).mono ?_
  rintro e w2 ⟨rfl, rfl⟩
  go_wp2_with fail
  go_region_held3 (fun w' => w'.cell? ⟨w.heap.size, 0, none⟩ = some (.int .i64 (n)) ∧ w'.cell? ⟨w.heap.size, 1, none⟩ = some (.int .i64 d) ∧ Kept w w' [(⟨w.heap.size, 0, none⟩, .int .i64 (n)), (⟨w.heap.size, 1, none⟩, .int .i64 d)]) (first | exact s2_start K1 | exact s2_keep (by assumption) (by assumption)) (first | (go_simp; go_at_call 41; (with_reducible refine (PW.out _).mono ?_); rintro e w3 ⟨rfl, hb⟩) | (go_simp; go_at_call 40; (with_reducible refine (FL.out _).mono ?_); rintro e w3 ⟨rfl, hb⟩) | (go_simp; go_at_call 39; (with_reducible refine (DE.out _).mono ?_); rintro e w3 ⟨rfl, hb⟩))
  have K3 := ‹_ ∧ _ ∧ Kept w w3 _›.2.2
  go_wp2
  go_ret
  exact ⟨rfl, K3.1⟩

theorem spec_dd (n d p : Int) (w : World) (n0 : -9223372036854775808 ≤ n ∧ n ≤ 9223372036854775807) :
    Calls Tryd.prog 15 #[.agg #[.int .i64 n, .int .i64 d], .int .i64 p] w fun e w' => e = .returned (.string ⟨(ddF n d p).toArray⟩) ∧ Below w.heap.size w w' := by
  cases h : frB n d
  · exact spec_dd_no1 n d p w h n0
  · by_cases hp : p < 0 ∨ 6 < p
    · exact spec_dd_no2 n d p w h n0 hp
    · obtain ⟨k, rfl⟩ := Int.eq_ofNat_of_zero_le (show 0 ≤ p by omega)
      exact spec_dd_yes n d k w h (by omega) n0

set_option maxRecDepth 8000 in
set_option maxHeartbeats 3200000 in
theorem spec_du_no1 (n d p : Int) (w : World) (h : frB n d = false) (n0 : -9223372036854775808 ≤ n ∧ n ≤ 9223372036854775807) :
    Calls Tryd.prog 17 #[.agg #[.int .i64 n, .int .i64 d], .int .i64 p] w fun e w' => e = .returned (.string ⟨(duF n d p).toArray⟩) ∧ Below w.heap.size w w' := by
  rw [duF_no1 h]
  have I0 := fun w => spec_isf n d w n0.1 n0.2
  rw [h] at I0
  have I := Lib.hid I0
  clear I0 h
  go_enter Tryd.func17, Tryd.ntmps17
  go_wp2_with fail
  have K0 := (Kept.start w).alloc2 (.int .i64 n) (.int .i64 d) 25 _ rfl
  refine (I.out _).mono ?_
  rintro e w1 ⟨rfl, hb⟩
  have K1 := K0.step hb
  clear hb K0
  go_wp2
  go_ret
  exact ⟨rfl, K1.1⟩

set_option maxRecDepth 8000 in
set_option maxHeartbeats 3200000 in
theorem spec_du_no2 (n d p : Int) (w : World) (h : frB n d = true) (n0 : -9223372036854775808 ≤ n ∧ n ≤ 9223372036854775807) (hp : p < 0 ∨ 6 < p) :
    Calls Tryd.prog 17 #[.agg #[.int .i64 n, .int .i64 d], .int .i64 p] w fun e w' => e = .returned (.string ⟨(duF n d p).toArray⟩) ∧ Below w.heap.size w w' := by
  rw [duF_no2 hp]
  have I0 := fun w => spec_isf n d w n0.1 n0.2
  rw [h] at I0
  have I := Lib.hid I0
  have HP := Lib.hid hp
  clear I0 h hp
  go_enter Tryd.func17, Tryd.ntmps17
  go_wp2_with fail
  have K0 := (Kept.start w).alloc2 (.int .i64 n) (.int .i64 d) 25 _ rfl
  refine (I.out _).mono ?_
  rintro e w1 ⟨rfl, hb⟩
  have K1 := K0.step hb
  clear hb K0
  go_wp2_with fail
  refine (l1In_no _ _ _ _ HP.out).mono ?_
  rintro e w2 ⟨rfl, rfl⟩
  go_wp2
  go_ret
  exact ⟨rfl, K1.1⟩

set_option maxRecDepth 8000 in
set_option maxHeartbeats 3200000 in
theorem spec_du_yes (n d : Int) (p : Nat) (w : World) (h : frB n d = true) (hp : p ≤ 6) (n0 : -9223372036854775808 ≤ n ∧ n ≤ 9223372036854775807) :
    Calls Tryd.prog 17 #[.agg #[.int .i64 n, .int .i64 d], .int .i64 (p : Int)] w fun e w' => e = .returned (.string ⟨(duF n d p).toArray⟩) ∧ Below w.heap.size w w' := by
  rw [duF_yes h hp]
  have p1 : (0 : Int) ≤ (p : Int) := by omega
  have p2 : (p : Int) ≤ 6 := by omega
  obtain ⟨⟨n1, n2, d1, d2⟩, _⟩ := frB_of h
  have I0 := fun w => spec_isf n d w n0.1 n0.2
  rw [h] at I0
  have I := Lib.hid I0
  obtain ⟨f1, f2⟩ := p10_bd hp
  have W0 := fun w => spec_pow p w hp
  have M0 := mul_pw (n := -n) (f := p10 p) (by omega) (by omega) f2
  have M1 := fl_bd (a := -n * (p10 p : Int)) (b := d) (by omega)
  have L0 := fun w => spec_floor (-n * (p10 p : Int)) d w (by omega) (by omega) d1 d2
  have C0 := fun w => spec_dec (-(-n * (p10 p : Int) / d)) p w (by omega) (by omega) hp
  unfold upF
  obtain ⟨f, hf⟩ : ∃ f, f = p10 p := ⟨_, rfl⟩
  rw [← hf] at W0 L0 C0 M0 M1
  rw [← hf]
  obtain ⟨P, hPP⟩ : ∃ P, -n * (f : Int) = P := ⟨_, rfl⟩
  rw [hPP] at L0 C0 M0 M1
  rw [hPP]
  obtain ⟨Q, hQ⟩ : ∃ Q, Q = P / d := ⟨_, rfl⟩
  rw [← hQ] at L0 C0 M1
  rw [← hQ]
  obtain ⟨s, hs⟩ : ∃ s, s = decF (-Q) p := ⟨_, rfl⟩
  rw [← hs] at C0
  rw [← hs]
  have e0 : IntKind.i64.wrap P = P := IntWalk.i64_in _ ⟨by omega, by omega⟩
  have e1 : IntKind.i64.wrap (-Q) = -Q := IntWalk.i64_in _ ⟨by omega, by omega⟩
  have e2 : IntKind.i64.wrap (-n) = -n := IntWalk.i64_in _ ⟨by omega, by omega⟩
  have PW := Lib.hid W0
  have FL := Lib.hid L0
  have DE := Lib.hid C0
  clear W0 L0 C0 hs hQ hf I0 h
  go_enter Tryd.func17, Tryd.ntmps17
  go_wp2_with fail
  have K0 := (Kept.start w).alloc2 (.int .i64 n) (.int .i64 d) 25 _ rfl
  refine (I.out _).mono ?_
  rintro e w1 ⟨rfl, hb⟩
  have K1 := K0.step hb
  clear hb K0
  go_wp2_with fail
  refine (l1In_yes _ _ _ _ p1 p2).mono ?_
  rintro e w2 ⟨rfl, rfl⟩
  go_wp2_with fail
  go_region_held3 (fun w' => w'.cell? ⟨w.heap.size, 0, none⟩ = some (.int .i64 (n)) ∧ w'.cell? ⟨w.heap.size, 1, none⟩ = some (.int .i64 d) ∧ Kept w w' [(⟨w.heap.size, 0, none⟩, .int .i64 (n)), (⟨w.heap.size, 1, none⟩, .int .i64 d)]) (first | exact s2_start K1 | exact s2_keep (by assumption) (by assumption)) (first | (go_simp; go_at_call 41; (with_reducible refine (PW.out _).mono ?_); rintro e w3 ⟨rfl, hb⟩) | (go_simp; go_at_call 40; (with_reducible refine (FL.out _).mono ?_); rintro e w3 ⟨rfl, hb⟩) | (go_simp; go_at_call 39; (with_reducible refine (DE.out _).mono ?_); rintro e w3 ⟨rfl, hb⟩))
  have K3 := ‹_ ∧ _ ∧ Kept w w3 _›.2.2
  go_wp2
  go_ret
  exact ⟨rfl, K3.1⟩

theorem spec_du (n d p : Int) (w : World) (n0 : -9223372036854775808 ≤ n ∧ n ≤ 9223372036854775807) :
    Calls Tryd.prog 17 #[.agg #[.int .i64 n, .int .i64 d], .int .i64 p] w fun e w' => e = .returned (.string ⟨(duF n d p).toArray⟩) ∧ Below w.heap.size w w' := by
  cases h : frB n d
  · exact spec_du_no1 n d p w h n0
  · by_cases hp : p < 0 ∨ 6 < p
    · exact spec_du_no2 n d p w h n0 hp
    · obtain ⟨k, rfl⟩ := Int.eq_ofNat_of_zero_le (show 0 ≤ p by omega)
      exact spec_du_yes n d k w h (by omega) n0
end Go.Proofs.YtphndncamgbonaaDoor
