/-
  The walks over FormatFrac, the model's and the project's.
-/
import Derived.Test.YtdfmidihghoilaaDoorRows
import Derived.Test.YtdfmidihghoilaaDoorPlain
import Derived.Test.YtdfmidihghoilaaDoorKeep
import Derived.Test.YtdfmidihghoilaaDoorFiSpec
import Derived.Test.YtdfmidihghoilaaDoorItoaKit
import Derived.Test.YtdfmidihghoilaaDoorFrSpec
import Derived.Test.YtdfmidihghoilaaDoorFrImpl
import Derived.WalkKit
import Derived.WalkSpells
import Derived.WalkLawsBesides
import Derived.IntWalk
import Derived.Lib.Hide
namespace Go.Proofs.YtdfmidihghoilaaDoor
open Go.RowKit Num

theorem cat3 (a b : List UInt8) : (⟨a.toArray⟩ : ByteArray) ++ (⟨#[47]⟩ : ByteArray) ++ (⟨b.toArray⟩ : ByteArray) = ⟨(a ++ 47 :: b).toArray⟩ := by
  apply ByteArray.ext
  simp

set_option maxRecDepth 8000 in
set_option maxHeartbeats 1600000 in
theorem spec_ff (n d : Int) (w : World) (n0 : -9223372036854775808 ≤ n ∧ n ≤ 9223372036854775807) :
    Calls Tryd.prog 28 #[.agg #[.int .i64 n, .int .i64 d]] w fun e w' => e = .returned (.string ⟨(fmtF n d).toArray⟩) ∧ Below w.heap.size w w' := by
  have I0 := fun w => spec_isf n d w n0.1 n0.2
  cases h : frB n d
  · rw [fmtF_no h]
    rw [h] at I0
    have I := Lib.hid I0
    clear I0 h
    go_enter Tryd.func28, Tryd.ntmps28
    go_wp2_with fail
    have K0 := (Kept.start w).alloc2 (.int .i64 n) (.int .i64 d) 27 _ rfl
    refine (I.out _).mono ?_
    rintro e w1 ⟨rfl, hb⟩
    have K1 := K0.step hb
    clear hb K0
    go_wp2
    go_ret
    exact ⟨rfl, K1.1⟩
  · obtain ⟨⟨n1, n2, d1, d2⟩, _⟩ := frB_of h
    rw [h] at I0
    have I := Lib.hid I0
    by_cases hd : d = 1
    · subst hd
      rw [fmtF_one h]
      clear I0 h
      have F := Lib.hid (fun w => spec_fi n w (by omega) (by omega))
      go_enter Tryd.func28, Tryd.ntmps28
      go_wp2_with fail
      have K0 := (Kept.start w).alloc2 (.int .i64 n) (.int .i64 1) 27 _ rfl
      refine (I.out _).mono ?_
      rintro e w1 ⟨rfl, hb⟩
      have K1 := K0.step hb
      clear hb K0
      have k0 := K1.get 0 rfl
      have k1 := K1.get 1 rfl
      go_wp2_with fail
      refine (F.out _).mono ?_
      rintro e w2 ⟨rfl, hb⟩
      have K2 := K1.step hb
      clear hb K1 k0 k1
      go_wp2
      go_ret
      exact ⟨rfl, K2.1⟩
    · rw [fmtF_two h hd]
      have q : (d == 1) = false := beq_eq_false_iff_ne.2 hd
      have F := Lib.hid (fun w => spec_fi n w (by omega) (by omega))
      have G := Lib.hid (fun w => spec_fi d w (by omega) (by omega))
      have HD := Lib.hid hd
      clear I0 h hd
      have LA := Lib.itoa_length_le n (by omega) (by omega)
      have LB := Lib.itoa_length_le d (by omega) (by omega)
      obtain ⟨x, hx⟩ : ∃ x, x = Lib.itoa n := ⟨_, rfl⟩
      obtain ⟨y, hy⟩ : ∃ y, y = Lib.itoa d := ⟨_, rfl⟩
      rw [← hx] at F LA
      rw [← hy] at G LB
      rw [← hx, ← hy]
      clear hx hy
      have s1 : ¬ 9223372036854775807 < x.length + 1 := by omega
      have s2 : ¬ 9223372036854775807 < x.length + 1 + y.length := by omega
      have s3 : ¬ 9223372036854775807 < x.length + (y.length + 1) := by omega
      go_enter Tryd.func28, Tryd.ntmps28
      go_wp2_with fail
      have K0 := (Kept.start w).alloc2 (.int .i64 n) (.int .i64 d) 27 _ rfl
      refine (I.out _).mono ?_
      rintro e w1 ⟨rfl, hb⟩
      have K1 := K0.step hb
      clear hb K0
      have k0 := K1.get 0 rfl
      have k1 := K1.get 1 rfl
      go_wp2_with fail
      go_region_held3 (fun w' => w'.cell? ⟨w.heap.size, 0, none⟩ = some (.int .i64 n) ∧ w'.cell? ⟨w.heap.size, 1, none⟩ = some (.int .i64 d) ∧ Kept w w' [(⟨w.heap.size, 0, none⟩, .int .i64 n), (⟨w.heap.size, 1, none⟩, .int .i64 d)]) (first | exact s2_start K1 | exact s2_keep (by assumption) (by assumption)) (first | (go_simp; go_at_call 50; (with_reducible refine (F.out _).mono ?_); rintro e w2 ⟨rfl, hb⟩) | (go_simp; go_at_call 50; (with_reducible refine (G.out _).mono ?_); rintro e w2 ⟨rfl, hb⟩))
      have K2 := ‹_ ∧ _ ∧ Kept w w2 _›.2.2
      go_wp2
      go_ret
      exact ⟨by rw [← cat3]; rfl, K2.1⟩

set_option maxRecDepth 8000 in
set_option maxHeartbeats 1600000 in
theorem impl_ff (n d : Int) (w : World) (ht : PowTab w) :
    Calls Tryd.prog 31 #[.agg #[.int .i64 n, .int .i64 d]] w fun e w' => e = .returned (.string ⟨(fmtF n d).toArray⟩) ∧ Below w.heap.size w w' := by
  have HT : Hid (PowTab w) := ht
  clear ht
  have I0 := fun w => impl_isf n d w
  cases h : frB n d
  · rw [fmtF_no h]
    rw [h] at I0
    have I := Lib.hid I0
    clear I0 h
    go_enter Tryd.func31, Tryd.ntmps31
    go_wp2_with fail
    have K0 := (Kept.start w).alloc2 (.int .i64 n) (.int .i64 d) 27 _ rfl
    refine (I.out _).mono ?_
    rintro e w1 ⟨rfl, hb⟩
    have K1 := K0.step hb
    clear hb K0
    go_wp2
    go_ret
    exact ⟨rfl, K1.1⟩
  · obtain ⟨⟨n1, n2, d1, d2⟩, _⟩ := frB_of h
    rw [h] at I0
    have I := Lib.hid I0
    by_cases hd : d = 1
    · subst hd
      rw [fmtF_one h]
      clear I0 h
      have F := Lib.hid (fun w => impl_fi n w (by omega) (by omega))
      go_enter Tryd.func31, Tryd.ntmps31
      go_wp2_with fail
      have K0 := (Kept.start w).alloc2 (.int .i64 n) (.int .i64 1) 27 _ rfl
      refine (I.out _).mono ?_
      rintro e w1 ⟨rfl, hb⟩
      have K1 := K0.step hb
      clear hb K0
      have k0 := K1.get 0 rfl
      have k1 := K1.get 1 rfl
      go_wp2_with fail
      refine (F.out _ (HT.out.below K1.1 (Nat.le_refl _))).mono ?_
      rintro e w2 ⟨rfl, hb⟩
      have K2 := K1.step hb
      clear hb K1 k0 k1
      go_wp2
      go_ret
      exact ⟨rfl, K2.1⟩
    · rw [fmtF_two h hd]
      have q : (d == 1) = false := beq_eq_false_iff_ne.2 hd
      have F := Lib.hid (fun w => impl_fi n w (by omega) (by omega))
      have G := Lib.hid (fun w => impl_fi d w (by omega) (by omega))
      have HD := Lib.hid hd
      clear I0 h hd
      have LA := Lib.itoa_length_le n (by omega) (by omega)
      have LB := Lib.itoa_length_le d (by omega) (by omega)
      obtain ⟨x, hx⟩ : ∃ x, x = Lib.itoa n := ⟨_, rfl⟩
      obtain ⟨y, hy⟩ : ∃ y, y = Lib.itoa d := ⟨_, rfl⟩
      rw [← hx] at F LA
      rw [← hy] at G LB
      rw [← hx, ← hy]
      clear hx hy
      have s1 : ¬ 9223372036854775807 < x.length + 1 := by omega
      have s2 : ¬ 9223372036854775807 < x.length + 1 + y.length := by omega
      have s3 : ¬ 9223372036854775807 < x.length + (y.length + 1) := by omega
      go_enter Tryd.func31, Tryd.ntmps31
      go_wp2_with fail
      have K0 := (Kept.start w).alloc2 (.int .i64 n) (.int .i64 d) 27 _ rfl
      refine (I.out _).mono ?_
      rintro e w1 ⟨rfl, hb⟩
      have K1 := K0.step hb
      clear hb K0
      have k0 := K1.get 0 rfl
      have k1 := K1.get 1 rfl
      go_wp2_with fail
      go_region_held3 (fun w' => w'.cell? ⟨w.heap.size, 0, none⟩ = some (.int .i64 n) ∧ w'.cell? ⟨w.heap.size, 1, none⟩ = some (.int .i64 d) ∧ Kept w w' [(⟨w.heap.size, 0, none⟩, .int .i64 n), (⟨w.heap.size, 1, none⟩, .int .i64 d)]) (first | exact s2_start K1 | exact s2_keep (by assumption) (by assumption)) (first | (go_simp; go_at_call 52; (with_reducible refine (F.out _ (HT.out.below (Kept.below (‹_ ∧ _ ∧ Kept w _ _›.2.2)) (Nat.le_refl _))).mono ?_); rintro e w2 ⟨rfl, hb⟩) | (go_simp; go_at_call 52; (with_reducible refine (G.out _ (HT.out.below (Kept.below (‹_ ∧ _ ∧ Kept w _ _›.2.2)) (Nat.le_refl _))).mono ?_); rintro e w2 ⟨rfl, hb⟩))
      have K2 := ‹_ ∧ _ ∧ Kept w w2 _›.2.2
      go_wp2
      go_ret
      exact ⟨by rw [← cat3]; rfl, K2.1⟩
end Go.Proofs.YtdfmidihghoilaaDoor
