/-
  The walks over the project's ParseRow and what it calls.
-/
import Derived.Test.YtndebdimjlfepaaDoorRows
import Derived.Test.YtndebdimjlfepaaDoorRvImpl
import Derived.Test.YtndebdimjlfepaaDoorPrSpec
import Derived.Test.YtndebdimjlfepaaDoorPrCut
import Derived.Test.YtndebdimjlfepaaDoorPiImpl
import Derived.Test.YtndebdimjlfepaaDoorMaxKit
import Derived.Test.YtndebdimjlfepaaDoorShelf
namespace Go.Proofs.YtndebdimjlfepaaDoor
open Go.RowKit Num

theorem cut_any (c : UInt8) (s : ByteArray) (w : World) (hs : s.size ≤ 1048576) (hm : MaxCell w) :
    Calls Tryd.prog 44 #[.string s, .string ⟨#[c]⟩] w fun e w' => ∃ (a b : List UInt8) (has : Bool), CutOn c s.data.toList a b has ∧ e = .returned (.tuple #[.string ⟨a.toArray⟩, .string ⟨b.toArray⟩, .bool has]) ∧ Below w.heap.size w w' := by
  obtain ⟨m, hm⟩ := hm
  refine (Tryd.strings_Cut s ⟨#[c]⟩ m w (by omega) hm).mono ?_
  rintro e w' ⟨rfl, n, rfl⟩
  exact ⟨_, _, _, cut_on c s.data.toList, rfl, below_drewN (Below.refl _ _) _⟩

theorem cutOn_le {c : UInt8} {l a b : List UInt8} {has : Bool} (h : CutOn c l a b has) : a.length ≤ l.length ∧ b.length ≤ l.length := by
  obtain ⟨_, ⟨_, rfl⟩ | ⟨_, rfl, rfl⟩⟩ := h
  · simp; omega
  · simp

theorem meth_pd (d : Nat) (x : Int) (w : World) : (method (d + 1) 108 (.int .i64 x) "loop.example/g01927/impl.fields").run Tryd.prog w = .ok (138, .int .i64 x) w := by kernel_rfl
theorem meth_md (d : Nat) (x : Int) (w : World) : (method (d + 1) 107 (.int .i64 x) "loop.example/g01927/impl.fields").run Tryd.prog w = .ok (135, .int .i64 x) w := by kernel_rfl

theorem impl_pfields (x : Int) (w : World) : Calls Tryd.prog 138 #[.int .i64 x] w fun e w' => e = .returned (.tuple #[.int .i64 x, .bool false]) ∧ w = w' := by
  go_enter Tryd.func138, Tryd.ntmps138
  go_wp2
  go_ret2
  exact ⟨rfl, rfl⟩

theorem impl_mfields (x : Int) (w : World) : Calls Tryd.prog 135 #[.int .i64 x] w fun e w' => e = .returned (.tuple #[.int .i64 x, .bool true]) ∧ w = w' := by
  go_enter Tryd.func135, Tryd.ntmps135
  go_wp2
  go_ret2
  exact ⟨rfl, rfl⟩

/-- What parseRowValue leaves. -/
def ValPost (d : List UInt8) (w : World) (e : Ending) (w' : World) : Prop := (∃ (x : Int) (nl ok : Bool), ValAns d x nl ok ∧ e = .returned (.tuple #[xVal x nl, .bool ok])) ∧ Below w.heap.size w w'

theorem impl_pv (d : List UInt8) (w : World) (ht : PowTab w) : Calls Tryd.prog 46 #[.string ⟨d.toArray⟩] w (ValPost d w) := by
  by_cases hn : d = nullW
  · have q : (d == [110, 117, 108, 108]) = true := by rw [hn]; rfl
    have AN := Lib.hid (show ValAns d 0 true true from .inl ⟨hn, rfl, rfl, rfl⟩)
    clear hn ht
    go_enter Tryd.func46, Tryd.ntmps46
    go_wp2
    go_ret2
    exact ⟨⟨0, true, true, AN.out, rfl⟩, Below.refl _ _⟩
  · have q : (d == [110, 117, 108, 108]) = false := beq_eq_false_iff_ne.2 hn
    have P := Lib.hid (impl_pi ⟨d.toArray⟩ w ht)
    have HN := Lib.hid hn
    clear hn ht
    go_enter Tryd.func46, Tryd.ntmps46
    go_wp2_with fail
    refine P.out.mono ?_
    rintro e w1 ⟨⟨n, k, hk, rfl⟩, hb⟩
    have AN := Lib.hid (show ValAns d n false k from .inr ⟨HN.out, rfl, hk⟩)
    clear hk
    go_wp2
    go_ret2
    exact ⟨⟨n, false, k, AN.out, rfl⟩, hb⟩

set_option maxRecDepth 8000 in
set_option maxHeartbeats 6400000 in
theorem impl_pr (s : ByteArray) (w : World) (hs : s.size ≤ 1048576) (ht : PowTab w) (hm : MaxCell w) :
    Calls Tryd.prog 14 #[.string s] w (PRPost s w) := by
  have HT : Hid (PowTab w) := ht
  have HM : Hid (MaxCell w) := hm
  have HLT : Hid (0 < w.heap.size) := (show _ < _ by obtain ⟨m, hm⟩ := hm; exact World.block_lt_of_cell? w _ hm)
  have P1 := meth_pd
  have P2 := meth_md
  clear ht hm
  go_enter Tryd.func14, Tryd.ntmps14
  go_wp2_with fail
  have K0 := (Kept.start w).alloc5 (.int .i64 0) (.int .i64 0) (.int .i64 0) (.int .i64 0) (.bool false) 25 _ rfl
  refine (cut_any 58 s _ hs (HM.out.below K0.1 HLT.out)).mono ?_
  rintro e w1 ⟨a, r, h1, hc, rfl, hb⟩
  have K1 := K0.step hb
  have C1 := Lib.hid hc
  have L1 := Lib.hid (show (⟨r.toArray⟩ : ByteArray).size ≤ 1048576 by
    have h := (cutOn_le hc).2
    have hl : s.data.toList.length = s.size := by simp
    show r.toArray.size ≤ _
    simp; omega)
  clear hb K0 hc
  go_wp2_with fail
  refine (cut_any 44 ⟨r.toArray⟩ _ L1.out (HM.out.below K1.1 HLT.out)).mono ?_
  rintro e w2 ⟨b, r2, h2, hc, rfl, hb⟩
  have K2 := K1.step hb
  have C2 := Lib.hid (show CutOn 44 r b r2 h2 from hc)
  have L2 := Lib.hid (show (⟨r2.toArray⟩ : ByteArray).size ≤ 1048576 by
    have h := (cutOn_le (show CutOn 44 r b r2 h2 from hc)).2
    have hl : r.length ≤ 1048576 := by have := L1.out; simpa [ByteArray.size] using this
    show r2.toArray.size ≤ _
    simp; omega)
  clear hb K1 hc L1
  go_wp2_with fail
  refine (cut_any 44 ⟨r2.toArray⟩ _ L2.out (HM.out.below K2.1 HLT.out)).mono ?_
  rintro e w3 ⟨c, d, h3, hc, rfl, hb⟩
  have K3 := K2.step hb
  have C3 := Lib.hid (show CutOn 44 r2 c d h3 from hc)
  clear hb K2 hc L2
  go_wp2_with fail
  refine (impl_pi ⟨a.toArray⟩ _ (HT.out.below K3.1 (Nat.le_refl _))).mono ?_
  rintro e w4 ⟨⟨i, k1, hp, rfl⟩, hb⟩
  have K4 := K3.step hb
  have A1 := Lib.hid (show PIans a i k1 from hp)
  clear hb K3 hp
  go_wp2_with fail
  refine (impl_pi ⟨b.toArray⟩ _ (HT.out.below K4.1 (Nat.le_refl _))).mono ?_
  rintro e w5 ⟨⟨g, k2, hp, rfl⟩, hb⟩
  have K5 := K4.step hb
  have A2 := Lib.hid (show PIans b g k2 from hp)
  clear hb K4 hp
  go_wp2_with fail
  refine (impl_pi ⟨c.toArray⟩ _ (HT.out.below K5.1 (Nat.le_refl _))).mono ?_
  rintro e w6 ⟨⟨y, k3, hp, rfl⟩, hb⟩
  have K6 := K5.step hb
  have A3 := Lib.hid (show PIans c y k3 from hp)
  clear hb K5 hp
  go_wp2_with fail
  refine (impl_pv d _ (HT.out.below K6.1 (Nat.le_refl _))).mono ?_
  rintro e w7 ⟨⟨x, nl, k4, hp, rfl⟩, hb⟩
  have K7 := K6.step hb
  have A4 := Lib.hid hp
  clear hb K6 hp
  have r0 := K7.get 0 rfl
  have r1 := K7.get 1 rfl
  have r2' := K7.get 2 rfl
  have r3 := K7.get 3 rfl
  have r4 := K7.get 4 rfl
  have q0 := K7.fz 0 rfl
  have q1 := K7.fz 1 rfl
  have q2 := K7.fz 2 rfl
  have q3 := K7.fz 3 rfl
  have q4 := K7.fz 4 rfl
  have yy := K7.lt 0 rfl
  cases k1
  · have AN := Lib.hid (row_bad C1.out C2.out C3.out A1.out A2.out A3.out A4.out (by simp))
    go_wp2
    exact bodyPost_ret (v := .tuple #[.agg #[.int .i64 0, .int .i64 0, .int .i64 0, .int .i64 0, .bool false], .bool false]) (by simp [results, Tryd.results14, go_sem, r0, r1, r2', r3, r4, yy]) rfl (PRPost.mk AN.out (set5_below K7.1 (Nat.le_refl _) _ _ _ _ _))
  · cases k2
    · have AN := Lib.hid (row_bad C1.out C2.out C3.out A1.out A2.out A3.out A4.out (by simp))
      go_wp2
      exact bodyPost_ret (v := .tuple #[.agg #[.int .i64 0, .int .i64 0, .int .i64 0, .int .i64 0, .bool false], .bool false]) (by simp [results, Tryd.results14, go_sem, r0, r1, r2', r3, r4, yy]) rfl (PRPost.mk AN.out (set5_below K7.1 (Nat.le_refl _) _ _ _ _ _))
    · cases k3
      · have AN := Lib.hid (row_bad C1.out C2.out C3.out A1.out A2.out A3.out A4.out (by simp))
        go_wp2
        exact bodyPost_ret (v := .tuple #[.agg #[.int .i64 0, .int .i64 0, .int .i64 0, .int .i64 0, .bool false], .bool false]) (by simp [results, Tryd.results14, go_sem, r0, r1, r2', r3, r4, yy]) rfl (PRPost.mk AN.out (set5_below K7.1 (Nat.le_refl _) _ _ _ _ _))
      · cases k4
        · have AN := Lib.hid (row_bad C1.out C2.out C3.out A1.out A2.out A3.out A4.out (by simp))
          go_wp2
          exact bodyPost_ret (v := .tuple #[.agg #[.int .i64 0, .int .i64 0, .int .i64 0, .int .i64 0, .bool false], .bool false]) (by simp [results, Tryd.results14, go_sem, r0, r1, r2', r3, r4, yy]) rfl (PRPost.mk AN.out (set5_below K7.1 (Nat.le_refl _) _ _ _ _ _))
        · cases nl
          · unfold xVal
            have RV := Lib.hid (fun w => impl_rv i g y x false w)
            have AY := Lib.hid (fun h => row_read C1.out C2.out C3.out A1.out A2.out A3.out A4.out h)
            have AX := Lib.hid (fun h => row_out C1.out C2.out C3.out A1.out A2.out A3.out A4.out h)
            obtain ⟨q, hq⟩ : ∃ q, q = rowB i g y x false := ⟨_, rfl⟩
            rw [← hq] at RV AX AY
            clear hq
            go_wp2_with fail
            refine (impl_pfields x _).mono ?_
            rintro e w8 ⟨rfl, rfl⟩
            go_wp2_with fail
            have K8 := K7.alloc5 (.int .i64 i) (.int .i64 g) (.int .i64 y) (.int .i64 x) (.bool false) 25 _ rfl
            refine (RV.out _).mono ?_
            rintro e w9 ⟨rfl, hb⟩
            have K9 := K8.step hb
            clear hb K8 K7 r0 r1 r2' r3 r4 q0 q1 q2 q3 q4 yy
            have m0 := K9.get 0 rfl
            have m1 := K9.get 1 rfl
            have m2 := K9.get 2 rfl
            have m3 := K9.get 3 rfl
            have m4 := K9.get 4 rfl
            have r0 := K9.get 5 rfl
            have r1 := K9.get 6 rfl
            have r2' := K9.get 7 rfl
            have r3 := K9.get 8 rfl
            have r4 := K9.get 9 rfl
            have q0 := K9.fz 5 rfl
            have q1 := K9.fz 6 rfl
            have q2 := K9.fz 7 rfl
            have q3 := K9.fz 8 rfl
            have q4 := K9.fz 9 rfl
            have yy := K9.lt 5 rfl
            cases q
            · have AN := Lib.hid (AX.out rfl)
              go_wp2
              exact bodyPost_ret (v := .tuple #[.agg #[.int .i64 0, .int .i64 0, .int .i64 0, .int .i64 0, .bool false], .bool false]) (by simp [results, Tryd.results14, go_sem, r0, r1, r2', r3, r4, yy]) rfl (PRPost.mk AN.out (set5_below K9.1 (Nat.le_refl _) _ _ _ _ _))
            · have AN := Lib.hid (AY.out rfl)
              go_wp2
              exact bodyPost_ret (v := .tuple #[.agg #[.int .i64 i, .int .i64 g, .int .i64 y, .int .i64 x, .bool false], .bool true]) (by simp [results, Tryd.results14, go_sem, r0, r1, r2', r3, r4, yy]) rfl (PRPost.mk AN.out (set5_below K9.1 (Nat.le_refl _) _ _ _ _ _))
          · unfold xVal
            have RV := Lib.hid (fun w => impl_rv i g y x true w)
            have AY := Lib.hid (fun h => row_read C1.out C2.out C3.out A1.out A2.out A3.out A4.out h)
            have AX := Lib.hid (fun h => row_out C1.out C2.out C3.out A1.out A2.out A3.out A4.out h)
            obtain ⟨q, hq⟩ : ∃ q, q = rowB i g y x true := ⟨_, rfl⟩
            rw [← hq] at RV AX AY
            clear hq
            go_wp2_with fail
            refine (impl_mfields x _).mono ?_
            rintro e w8 ⟨rfl, rfl⟩
            go_wp2_with fail
            have K8 := K7.alloc5 (.int .i64 i) (.int .i64 g) (.int .i64 y) (.int .i64 x) (.bool true) 25 _ rfl
            refine (RV.out _).mono ?_
            rintro e w9 ⟨rfl, hb⟩
            have K9 := K8.step hb
            clear hb K8 K7 r0 r1 r2' r3 r4 q0 q1 q2 q3 q4 yy
            have m0 := K9.get 0 rfl
            have m1 := K9.get 1 rfl
            have m2 := K9.get 2 rfl
            have m3 := K9.get 3 rfl
            have m4 := K9.get 4 rfl
            have r0 := K9.get 5 rfl
            have r1 := K9.get 6 rfl
            have r2' := K9.get 7 rfl
            have r3 := K9.get 8 rfl
            have r4 := K9.get 9 rfl
            have q0 := K9.fz 5 rfl
            have q1 := K9.fz 6 rfl
            have q2 := K9.fz 7 rfl
            have q3 := K9.fz 8 rfl
            have q4 := K9.fz 9 rfl
            have yy := K9.lt 5 rfl
            cases q
            · have AN := Lib.hid (AX.out rfl)
              go_wp2
              exact bodyPost_ret (v := .tuple #[.agg #[.int .i64 0, .int .i64 0, .int .i64 0, .int .i64 0, .bool false], .bool false]) (by simp [results, Tryd.results14, go_sem, r0, r1, r2', r3, r4, yy]) rfl (PRPost.mk AN.out (set5_below K9.1 (Nat.le_refl _) _ _ _ _ _))
            · have AN := Lib.hid (AY.out rfl)
              go_wp2
              exact bodyPost_ret (v := .tuple #[.agg #[.int .i64 i, .int .i64 g, .int .i64 y, .int .i64 x, .bool true], .bool true]) (by simp [results, Tryd.results14, go_sem, r0, r1, r2', r3, r4, yy]) rfl (PRPost.mk AN.out (set5_below K9.1 (Nat.le_refl _) _ _ _ _ _))
end Go.Proofs.YtndebdimjlfepaaDoor
