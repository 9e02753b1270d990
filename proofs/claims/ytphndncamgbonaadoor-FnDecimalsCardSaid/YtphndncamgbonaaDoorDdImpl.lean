/-
  The walks over DecimalDown and DecimalUp, the project's.
-/
import Derived.Test.YtphndncamgbonaaDoorRows
import Derived.Test.YtphndncamgbonaaDoorDdPlain
import Derived.Test.YtphndncamgbonaaDoorDcSmall
import Derived.Test.YtphndncamgbonaaDoorDcImpl
import Derived.Test.YtphndncamgbonaaDoorHelp
import Derived.Test.YtphndncamgbonaaDoorHeld
import Derived.Test.YtphndncamgbonaaDoorFrImpl
import Derived.WalkKit
import Derived.WalkSpells
import Derived.WalkLawsBesides
import Derived.IntWalk
import Derived.Lib.Hide
namespace Go.Proofs.YtphndncamgbonaaDoor
open Go.RowKit Num

theorem impl_places (n : Int) (w : World) :
    Calls Tryd.prog 42 #[.int .i64 n] w fun e w' => e = .returned (.bool (decide (0 ≤ n ∧ n ≤ 6))) ∧ w' = w := by
  by_cases h1 : 0 ≤ n
  · by_cases h2 : n ≤ 6
    · have E : Hid (decide (0 ≤ n ∧ n ≤ 6) = true) := decide_eq_true ⟨h1, h2⟩
      go_enter Tryd.func42, Tryd.ntmps42
      go_wp2
      go_ret
      exact ⟨by first | rfl | (rw [E.out]; rfl), rfl⟩
    · have E : Hid (decide (0 ≤ n ∧ n ≤ 6) = false) := decide_eq_false (by omega)
      have q : decide (n ≤ 6) = false := decide_eq_false h2
      go_enter Tryd.func42, Tryd.ntmps42
      go_wp2
      go_ret
      exact ⟨by first | rfl | (rw [E.out]; rfl), rfl⟩
  · have E : Hid (decide (0 ≤ n ∧ n ≤ 6) = false) := decide_eq_false (by omega)
    have q : decide (0 ≤ n) = false := decide_eq_false h1
    go_enter Tryd.func42, Tryd.ntmps42
    go_wp2
    go_ret
    exact ⟨by first | rfl | (rw [E.out]; rfl), rfl⟩

theorem impl_places_yes (n : Int) (w : World) (h1 : 0 ≤ n) (h2 : n ≤ 6) :
    Calls Tryd.prog 42 #[.int .i64 n] w fun e w' => e = .returned (.bool true) ∧ w = w' := by
  have := impl_places n w
  rw [decide_eq_true ⟨h1, h2⟩] at this
  exact this.mono fun _ _ ⟨a, b⟩ => ⟨a, b.symm⟩
theorem impl_places_no (n : Int) (w : World) (h : n < 0 ∨ 6 < n) :
    Calls Tryd.prog 42 #[.int .i64 n] w fun e w' => e = .returned (.bool false) ∧ w = w' := by
  have := impl_places n w
  rw [decide_eq_false (by omega)] at this
  exact this.mono fun _ _ ⟨a, b⟩ => ⟨a, b.symm⟩

set_option maxRecDepth 8000 in
set_option maxHeartbeats 3200000 in
theorem impl_dd_no1 (n d p : Int) (w : World) (h : frB n d = false) :
    Calls Tryd.prog 16 #[.agg #[.int .i64 n, .int .i64 d], .int .i64 p] w fun e w' => e = .returned (.string ⟨(ddF n d p).toArray⟩) ∧ Below w.heap.size w w' := by
  rw [ddF_no1 h]
  have I0 := fun w => impl_isf n d w
  rw [h] at I0
  have I := Lib.hid I0
  clear I0 h
  go_enter Tryd.func16, Tryd.ntmps16
  go_wp2_with fail
  have K0 := (Kept.start w).alloc2 (.int .i64 n) (.int .i64 d) 25 _ rfl
  refine (I.out _).mono ?_
  rintro e w1 ⟨rfl, hb⟩
  have K1 := K0.step hb
  clear hb K0
  go_wp2
  go_ret
  exact ⟨rfl, K1.1⟩

set_option maxRecDepth 8000 in
set_option maxHeartbeats 3200000 in
theorem impl_dd_no2 (n d p : Int) (w : World) (h : frB n d = true) (hp : p < 0 ∨ 6 < p) :
    Calls Tryd.prog 16 #[.agg #[.int .i64 n, .int .i64 d], .int .i64 p] w fun e w' => e = .returned (.string ⟨(ddF n d p).toArray⟩) ∧ Below w.heap.size w w' := by
  rw [ddF_no2 hp]
  have I0 := fun w => impl_isf n d w
  rw [h] at I0
  have I := Lib.hid I0
  have HP := Lib.hid hp
  clear I0 h hp
  go_enter Tryd.func16, Tryd.ntmps16
  go_wp2_with fail
  have K0 := (Kept.start w).alloc2 (.int .i64 n) (.int .i64 d) 25 _ rfl
  refine (I.out _).mono ?_
  rintro e w1 ⟨rfl, hb⟩
  have K1 := K0.step hb
  clear hb K0
  go_wp2_with fail
  refine (impl_places_no _ _ HP.out).mono ?_
  rintro e w2 ⟨rfl, rfl⟩
  go_wp2
  go_ret
  exact ⟨rfl, K1.1⟩

set_option maxRecDepth 8000 in
set_option maxHeartbeats 3200000 in
theorem impl_dd_yes (n d : Int) (p : Nat) (w : World) (h : frB n d = true) (hp : p ≤ 6) (ht : PowTab w) :
    Calls Tryd.prog 16 #[.agg #[.int .i64 n, .int .i64 d], .int .i64 (p : Int)] w fun e w' => e = .returned (.string ⟨(ddF n d p).toArray⟩) ∧ Below w.heap.size w w' := by
  rw [ddF_yes h hp]
  have p1 : (0 : Int) ≤ (p : Int) := by omega
  have p2 : (p : Int) ≤ 6 := by omega
  obtain ⟨⟨n1, n2, d1, d2⟩, _⟩ := frB_of h
  have I0 := fun w => impl_isf n d w
  rw [h] at I0
  have I := Lib.hid I0
  obtain ⟨f1, f2⟩ := p10_bd hp
  have HT : Hid (PowTab w) := ht
  clear ht
  have W0 := fun w => impl_pow p w hp
  have M0 := mul_pw (n := n) (f := p10 p) (by omega) (by omega) f2
  have M1 := fl_bd (a := n * (p10 p : Int)) (b := d) (by omega)
  have L0 := fun w => impl_td (n) d (p10 p) w (by omega) (by omega) d1 d2 f2
  have C0 := fun w => impl_dec ((n * (p10 p : Int) / d)) p w (by omega) (by omega) hp
  unfold downF
  obtain ⟨f, hf⟩ : ∃ f, f = p10 p := ⟨_, rfl⟩
  rw [← hf] at W0 L0 C0 M0 M1
  rw [← hf]
  obtain ⟨P, hPP⟩ : ∃ P, n * (f : Int) = P := ⟨_, rfl⟩
  rw [hPP] at L0 C0 M0 M1
  rw [hPP]
  obtain ⟨Q, hQ⟩ : ∃ Q, Q = P / d := ⟨_, rfl⟩
  rw [← hQ] at L0 C0 M1
  rw [← hQ]
  obtain ⟨s, hs⟩ : ∃ s, s = decF Q p := ⟨_, rfl⟩
  rw [← hs] at C0
  rw [← hs]
  have e0 : IntKind.i64.wrap P = P := IntWalk.i64_in _ ⟨by omega, by omega⟩
  have e1 : IntKind.i64.wrap (-Q) = -Q := IntWalk.i64_in _ ⟨by omega, by omega⟩
  have e2 : IntKind.i64.wrap (-n) = -n := IntWalk.i64_in _ ⟨by omega, by omega⟩
  have PW := Lib.hid W0
  have FL := Lib.hid L0
  have DE := Lib.hid C0
  clear W0 L0 C0 hs hQ hf I0 h
  go_enter Tryd.func16, Tryd.ntmps16
  go_wp2_with fail
  have K0 := (Kept.start w).alloc2 (.int .i64 n) (.int .i64 d) 25 _ rfl
  refine (I.out _).mono ?_
  rintro e w1 ⟨rfl, hb⟩
  have K1 := K0.step hb
  clear hb K0
  go_wp2_with fail
  refine (impl_places_yes _ _ p1 p2).mono ?_
  rintro e w2 ⟨rfl, rfl⟩
  go_wp2_with fail
  go_region_held3 (fun w' => w'.cell? ⟨w.heap.size, 0, none⟩ = some (.int .i64 (n)) ∧ w'.cell? ⟨w.heap.size, 1, none⟩ = some (.int .i64 d) ∧ Kept w w' [(⟨w.heap.size, 0, none⟩, .int .i64 (n)), (⟨w.heap.size, 1, none⟩, .int .i64 d)]) (first | exact s2_start K1 | exact s2_keep (by assumption) (by assumption)) (first | (go_simp; go_at_call 45; (with_reducible refine (PW.out _).mono ?_); rintro e w3 ⟨rfl, hb⟩) | (go_simp; go_at_call 44; (with_reducible refine (FL.out _).mono ?_); rintro e w3 ⟨rfl, hb⟩) | (go_simp; go_at_call 43; (with_reducible refine (DE.out _ (HT.out.below (Kept.below (‹_ ∧ _ ∧ Kept w _ _›.2.2)) (Nat.le_refl _))).mono ?_); rintro e w3 ⟨rfl, hb⟩))
  have K3 := ‹_ ∧ _ ∧ Kept w w3 _›.2.2
  go_wp2
  go_ret
  exact ⟨rfl, K3.1⟩

theorem impl_dd (n d p : Int) (w : World) (ht : PowTab w) :
    Calls Tryd.prog 16 #[.agg #[.int .i64 n, .int .i64 d], .int .i64 p] w fun e w' => e = .returned (.string ⟨(ddF n d p).toArray⟩) ∧ Below w.heap.size w w' := by
  cases h : frB n d
  · exact impl_dd_no1 n d p w h
  · by_cases hp : p < 0 ∨ 6 < p
    · exact impl_dd_no2 n d p w h hp
    · obtain ⟨k, rfl⟩ := Int.eq_ofNat_of_zero_le (show 0 ≤ p by omega)
      exact impl_dd_yes n d k w h (by omega) ht

set_option maxRecDepth 8000 in
set_option maxHeartbeats 3200000 in
theorem impl_du_no1 (n d p : Int) (w : World) (h : frB n d = false) :
    Calls Tryd.prog 18 #[.agg #[.int .i64 n, .int .i64 d], .int .i64 p] w fun e w' => e = .returned (.string ⟨(duF n d p).toArray⟩) ∧ Below w.heap.size w w' := by
  rw [duF_no1 h]
  have I0 := fun w => impl_isf n d w
  rw [h] at I0
  have I := Lib.hid I0
  clear I0 h
  go_enter Tryd.func18, Tryd.ntmps18
  go_wp2_with fail
  have K0 := (Kept.start w).alloc2 (.int .i64 n) (.int .i64 d) 25 _ rfl
  refine (I.out _).mono ?_
  rintro e w1 ⟨rfl, hb⟩
  have K1 := K0.step hb
  clear hb K0
  go_wp2
  go_ret
  exact ⟨rfl, K1.1⟩

set_option maxRecDepth 8000 in
set_option maxHeartbeats 3200000 in
theorem impl_du_no2 (n d p : Int) (w : World) (h : frB n d = true) (hp : p < 0 ∨ 6 < p) :
    Calls Tryd.prog 18 #[.agg #[.int .i64 n, .int .i64 d], .int .i64 p] w fun e w' => e = .returned (.string ⟨(duF n d p).toArray⟩) ∧ Below w.heap.size w w' := by
  rw [duF_no2 hp]
  have I0 := fun w => impl_isf n d w
  rw [h] at I0
  have I := Lib.hid I0
  have HP := Lib.hid hp
  clear I0 h hp
  go_enter Tryd.func18, Tryd.ntmps18
  go_wp2_with fail
  have K0 := (Kept.start w).alloc2 (.int .i64 n) (.int .i64 d) 25 _ rfl
  refine (I.out _).mono ?_
  rintro e w1 ⟨rfl, hb⟩
  have K1 := K0.step hb
  clear hb K0
  go_wp2_with fail
  refine (impl_places_no _ _ HP.out).mono ?_
  rintro e w2 ⟨rfl, rfl⟩
  go_wp2
  go_ret
  exact ⟨rfl, K1.1⟩

set_option maxRecDepth 8000 in
set_option maxHeartbeats 3200000 in
theorem impl_du_yes (n d : Int) (p : Nat) (w : World) (h : frB n d = true) (hp : p ≤ 6) (ht : PowTab w) :
    Calls Tryd.prog 18 #[.agg #[.int .i64 n, .int .i64 d], .int .i64 (p : Int)] w fun e w' => e = .returned (.string ⟨(duF n d p).toArray⟩) ∧ Below w.heap.size w w' := by
  rw [duF_yes h hp]
  have p1 : (0 : Int) ≤ (p : Int) := by omega
  have p2 : (p : Int) ≤ 6 := by omega
  obtain ⟨⟨n1, n2, d1, d2⟩, _⟩ := frB_of h
  have I0 := fun w => impl_isf n d w
  rw [h] at I0
  have I := Lib.hid I0
  obtain ⟨f1, f2⟩ := p10_bd hp
  have HT : Hid (PowTab w) := ht
  clear ht
  have W0 := fun w => impl_pow p w hp
  have M0 := mul_pw (n := -n) (f := p10 p) (by omega) (by omega) f2
  have M1 := fl_bd (a := -n * (p10 p : Int)) (b := d) (by omega)
  have L0 := fun w => impl_td (-n) d (p10 p) w (by omega) (by omega) d1 d2 f2
  have C0 := fun w => impl_dec (-(-n * (p10 p : Int) / d)) p w (by omega) (by omega) hp
  unfold upF
  obtain ⟨f, hf⟩ : ∃ f, f = p10 p := ⟨_, rfl⟩
  rw [← hf] at W0 L0 C0 M0 M1
  rw [← hf]
  obtain ⟨P, hPP⟩ : ∃ P, -n * (f : Int) = P := ⟨_, rfl⟩
  rw [hPP] at L0 C0 M0 M1
  rw [hPP]
  obtain ⟨Q, hQ⟩ : ∃ Q, Q = P / d := ⟨_, rfl⟩
  rw [← hQ] at L0 C0 M1
  rw [← hQ]
  obtain ⟨s, hs⟩ : ∃ s, s = decF (-Q) p := ⟨_, rfl⟩
  rw [← hs] at C0
  rw [← hs]
  have e0 : IntKind.i64.wrap P = P := IntWalk.i64_in _ ⟨by omega, by omega⟩
  have e1 : IntKind.i64.wrap (-Q) = -Q := IntWalk.i64_in _ ⟨by omega, by omega⟩
  have e2 : IntKind.i64.wrap (-n) = -n := IntWalk.i64_in _ ⟨by omega, by omega⟩
  have PW := Lib.hid W0
  have FL := Lib.hid L0
  have DE := Lib.hid C0
  clear W0 L0 C0 hs hQ hf I0 h
  go_enter Tryd.func18, Tryd.ntmps18
  go_wp2_with fail
  have K0 := (Kept.start w).alloc2 (.int .i64 n) (.int .i64 d) 25 _ rfl
  refine (I.out _).mono ?_
  rintro e w1 ⟨rfl, hb⟩
  have K1 := K0.step hb
  clear hb K0
  go_wp2_with fail
  refine (impl_places_yes _ _ p1 p2).mono ?_
  rintro e w2 ⟨rfl, rfl⟩
  have k1 := K1.get 0 rfl
  have k2 := K1.get 1 rfl
  have K2 := K1.alloc2 (.int .i64 (-n)) (.int .i64 d) 25 _ rfl
  go_wp2_with fail
  go_region_held3 (fun w' => w'.cell? ⟨w1.heap.size, 0, none⟩ = some (.int .i64 (-n)) ∧ w'.cell? ⟨w1.heap.size, 1, none⟩ = some (.int .i64 d) ∧ Kept w w' [(⟨w1.heap.size, 0, none⟩, .int .i64 (-n)), (⟨w1.heap.size, 1, none⟩, .int .i64 d), (⟨w.heap.size, 0, none⟩, .int .i64 n), (⟨w.heap.size, 1, none⟩, .int .i64 d)]) (first | exact s2_start K2 | exact s2_keep (by assumption) (by assumption)) (first | (go_simp; go_at_call 45; (with_reducible refine (PW.out _).mono ?_); rintro e w3 ⟨rfl, hb⟩) | (go_simp; go_at_call 44; (with_reducible refine (FL.out _).mono ?_); rintro e w3 ⟨rfl, hb⟩) | (go_simp; go_at_call 43; (with_reducible refine (DE.out _ (HT.out.below (Kept.below (‹_ ∧ _ ∧ Kept w _ _›.2.2)) (Nat.le_refl _))).mono ?_); rintro e w3 ⟨rfl, hb⟩))
  have K3 := ‹_ ∧ _ ∧ Kept w w3 _›.2.2
  go_wp2
  go_ret
  exact ⟨rfl, K3.1⟩

theorem impl_du (n d p : Int) (w : World) (ht : PowTab w) :
    Calls Tryd.prog 18 #[.agg #[.int .i64 n, .int .i64 d], .int .i64 p] w fun e w' => e = .returned (.string ⟨(duF n d p).toArray⟩) ∧ Below w.heap.size w w' := by
  cases h : frB n d
  · exact impl_du_no1 n d p w h
  · by_cases hp : p < 0 ∨ 6 < p
    · exact impl_du_no2 n d p w h hp
    · obtain ⟨k, rfl⟩ := Int.eq_ofNat_of_zero_le (show 0 ≤ p by omega)
      exact impl_du_yes n d k w h (by omega) ht
end Go.Proofs.YtphndncamgbonaaDoor
