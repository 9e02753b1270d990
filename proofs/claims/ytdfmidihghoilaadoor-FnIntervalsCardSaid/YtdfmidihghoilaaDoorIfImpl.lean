/-
  The walk over the project's FormatInterval.
-/
import Derived.Test.YtdfmidihghoilaaDoorRows
import Derived.Test.YtdfmidihghoilaaDoorPlain
import Derived.Test.YtdfmidihghoilaaDoorIiImpl
import Derived.Test.YtdfmidihghoilaaDoorIxImpl
import Derived.Test.YtdfmidihghoilaaDoorIfSpec
import Derived.Test.YtdfmidihghoilaaDoorFfWalk
import Derived.Test.YtdfmidihghoilaaDoorPfPlain
import Derived.Test.YtdfmidihghoilaaDoorKeep
import Derived.WalkKit
import Derived.WalkSpells
import Derived.WalkLawsBesides
import Derived.IntWalk
import Derived.Lib.Hide
import Derived.Deep.RegionHeld3
namespace Go.Proofs.YtdfmidihghoilaaDoor
open Go.RowKit Num

theorem pow_s4 {W w : World} {a0 a1 a2 a3 : Addr} {v0 v1 v2 v3 : Value} {l : List (Addr × Value)} (ht : PowTab W) (h : w.cell? a0 = some v0 ∧ w.cell? a1 = some v1 ∧ w.cell? a2 = some v2 ∧ w.cell? a3 = some v3 ∧ Kept W w l) : PowTab w := ht.below h.2.2.2.2.1 (Nat.le_refl _)

set_option maxRecDepth 8000 in
set_option maxHeartbeats 3200000 in
theorem impl_if (a b c d : Int) (w : World) (hp : PowTab w) :
    Calls Tryd.prog 8 #[.agg #[.int .i64 a, .int .i64 b, .int .i64 c, .int .i64 d]] w fun r w' => r = .returned (.string ⟨(fmtI a b c d).toArray⟩) ∧ Below w.heap.size w w' := by
  have HT : Hid (PowTab w) := hp
  clear hp
  have D1 := fun w => impl_iv a b c d w
  have D2 := fun w => impl_ex a b c d w
  have D3 := fun w ht => impl_ff a b w ht
  have D4 := fun w ht => impl_ff c d w ht
  cases hq : ivB a b c d
  · rw [fmtI_no hq]
    rw [hq] at D1
    have DD1 := Lib.hid D1
    clear D1 D2 D3 D4 hq
    go_enter Tryd.func8, Tryd.ntmps8
    go_wp2_with fail
    have K0 := (Kept.start w).alloc4 (.int .i64 a) (.int .i64 b) (.int .i64 c) (.int .i64 d) 29 _ rfl
    refine (DD1.out _).mono ?_
    rintro r w1 ⟨rfl, hb⟩
    have K1 := K0.step hb
    clear hb K0
    go_wp2
    go_ret
    exact ⟨rfl, K1.1⟩
  · rw [hq] at D1
    by_cases he : a = c ∧ b = d
    · obtain ⟨rfl, rfl⟩ := he
      rw [fmtI_one hq]
      have e2 : exB a b a b = true := by unfold exB; rw [hq]; simp
      rw [e2] at D2
      obtain ⟨s, hs⟩ : ∃ s, s = fmtF a b := ⟨_, rfl⟩
      rw [← hs] at D3
      rw [← hs]
      have DD1 := Lib.hid D1
      have DD2 := Lib.hid D2
      have DD3 := Lib.hid D3
      clear D1 D2 D3 D4 hq hs e2
      go_enter Tryd.func8, Tryd.ntmps8
      go_wp2_with fail
      have K0 := (Kept.start w).alloc4 (.int .i64 a) (.int .i64 b) (.int .i64 a) (.int .i64 b) 29 _ rfl
      refine (DD1.out _).mono ?_
      rintro r w1 ⟨rfl, hb⟩
      have K1 := K0.step hb
      clear hb K0
      have k0 := K1.get 0 rfl
      have k1 := K1.get 1 rfl
      have k2 := K1.get 2 rfl
      have k3 := K1.get 3 rfl
      go_wp2_with fail
      refine (DD2.out _).mono ?_
      rintro r w2 ⟨rfl, hb⟩
      have K2 := K1.step hb
      clear hb K1 k0 k1 k2 k3
      have k0 := K2.get 0 rfl
      have k1 := K2.get 1 rfl
      go_wp2_with fail
      refine (DD3.out _ (HT.out.below K2.1 (Nat.le_refl _))).mono ?_
      rintro r w3 ⟨rfl, hb⟩
      have K3 := K2.step hb
      clear hb K2 k0 k1
      go_wp2
      go_ret
      exact ⟨rfl, K3.1⟩
    · rw [fmtI_two hq he]
      have e2 : exB a b c d = false := by
        unfold exB
        rw [hq, Bool.true_and, Bool.and_eq_false_iff]
        by_cases h : a = c
        · exact .inr (decide_eq_false (fun h2 => he ⟨h, h2⟩))
        · exact .inl (decide_eq_false h)
      rw [e2] at D2
      have l1 := fmt_bd (n := a) (d := b)
      have l2 := fmt_bd (n := c) (d := d)
      obtain ⟨s, hs⟩ : ∃ s, s = fmtF a b := ⟨_, rfl⟩
      obtain ⟨t, ht⟩ : ∃ t, t = fmtF c d := ⟨_, rfl⟩
      rw [← hs] at D3 l1
      rw [← ht] at D4 l2
      rw [← hs, ← ht]
      have DD1 := Lib.hid D1
      have DD2 := Lib.hid D2
      have DD3 := Lib.hid D3
      have DD4 := Lib.hid D4
      have HE := Lib.hid he
      have s1 : ¬ 9223372036854775807 < s.length + 2 := by omega
      have s2 : ¬ 9223372036854775807 < s.length + 2 + t.length := by omega
      clear D1 D2 D3 D4 hq hs ht e2 he
      go_enter Tryd.func8, Tryd.ntmps8
      go_wp2_with fail
      have K0 := (Kept.start w).alloc4 (.int .i64 a) (.int .i64 b) (.int .i64 c) (.int .i64 d) 29 _ rfl
      refine (DD1.out _).mono ?_
      rintro r w1 ⟨rfl, hb⟩
      have K1 := K0.step hb
      clear hb K0
      have k0 := K1.get 0 rfl
      have k1 := K1.get 1 rfl
      have k2 := K1.get 2 rfl
      have k3 := K1.get 3 rfl
      go_wp2_with fail
      refine (DD2.out _).mono ?_
      rintro r w2 ⟨rfl, hb⟩
      have K2 := K1.step hb
      clear hb K1 k0 k1 k2 k3
      go_wp2_with fail
      go_region_held3 (fun w' => w'.cell? ⟨w.heap.size, 0, none⟩ = some (.int .i64 a) ∧ w'.cell? ⟨w.heap.size, 1, none⟩ = some (.int .i64 b) ∧ w'.cell? ⟨w.heap.size, 2, none⟩ = some (.int .i64 c) ∧ w'.cell? ⟨w.heap.size, 3, none⟩ = some (.int .i64 d) ∧ Kept w w' [(⟨w.heap.size, 0, none⟩, .int .i64 a), (⟨w.heap.size, 1, none⟩, .int .i64 b), (⟨w.heap.size, 2, none⟩, .int .i64 c), (⟨w.heap.size, 3, none⟩, .int .i64 d)]) (first | exact s4_start K2 | exact s4_keep (by assumption) (by assumption)) (first | (go_simp; go_at_call 31; (with_reducible refine (DD3.out _ ?_).mono ?_); (first | exact pow_s4 HT.out (by assumption) | exact pow_s4 HT.out (s4_start K2)); rintro r w3 ⟨rfl, hb⟩) | (go_simp; go_at_call 31; (with_reducible refine (DD4.out _ ?_).mono ?_); (first | exact pow_s4 HT.out (by assumption) | exact pow_s4 HT.out (s4_start K2)); rintro r w3 ⟨rfl, hb⟩))
      have K3 := ‹_ ∧ _ ∧ _ ∧ _ ∧ Kept w w3 _›.2.2.2.2
      go_wp2
      go_ret
      exact ⟨by rw [← cat_dots]; rfl, K3.1⟩
end Go.Proofs.YtdfmidihghoilaaDoor
