/-
  The walk over the project's ParseFrac.
-/
import Derived.Test.YtdfmidihghoilaaDoorRows
import Derived.Test.YtdfmidihghoilaaDoorPfPlain
import Derived.Test.YtdfmidihghoilaaDoorPiImpl
import Derived.Test.YtdfmidihghoilaaDoorFfWalk
import Derived.Test.YtdfmidihghoilaaDoorKeep
import Derived.Test.YtdfmidihghoilaaDoorShelf
import Derived.Test.YtdfmidihghoilaaDoorMaxKit
import Derived.WalkKit
import Derived.WalkSpells
import Derived.WalkLawsBesides
import Derived.IntWalk
import Derived.Lib.Hide
namespace Go.Proofs.YtdfmidihghoilaaDoor
open Go.RowKit Num

theorem cut_any47 (s : ByteArray) (w : World) (hs : s.size ≤ 1048576) (hm : MaxCell w) :
    Calls Tryd.prog 33 #[.string s, .string ⟨#[47]⟩] w fun e w' => ∃ (a b : List UInt8) (has : Bool), CutOn 47 s.data.toList a b has ∧ e = .returned (.tuple #[.string ⟨a.toArray⟩, .string ⟨b.toArray⟩, .bool has]) ∧ Below w.heap.size w w' := by
  obtain ⟨m, hm⟩ := hm
  refine (Tryd.strings_Cut s ⟨#[47]⟩ m w (by omega) hm).mono ?_
  rintro e w' ⟨rfl, n, rfl⟩
  exact ⟨_, _, _, cut_on 47 s.data.toList, rfl, below_drewN (Below.refl _ _) _⟩

theorem cutOn_len {l a b : List UInt8} {has : Bool} (h : CutOn 47 l a b has) : a.length ≤ l.length ∧ b.length ≤ l.length := by
  obtain ⟨_, ⟨_, rfl⟩ | ⟨_, rfl, rfl⟩⟩ := h
  · simp; omega
  · simp

theorem num_ne {l a b : List UInt8} {has : Bool} {n : Int} (hc : CutOn 47 l a b has) (hn : PIans a n true) : l ≠ [] := by
  intro h
  subst h
  obtain ⟨_, ⟨_, he⟩ | ⟨_, rfl, _⟩⟩ := hc
  · simp at he
  · rcases hn with ⟨_, _, _, he⟩ | ⟨he, _⟩
    · exact itoa_ne n he.symm
    · cases he

theorem PIans_zero {l : List UInt8} {n : Int} (h : PIans l n false) : PIans l 0 false := by
  rcases h with ⟨h, _⟩ | ⟨h, _, h2⟩
  · cases h
  · exact .inr ⟨rfl, rfl, h2⟩

set_option maxRecDepth 8000 in
set_option maxHeartbeats 6400000 in
theorem impl_pf (s : ByteArray) (w : World) (hs : s.size ≤ 1048576) (ht : PowTab w) (hm : MaxCell w) :
    Calls Tryd.prog 34 #[.string s] w (PfPost s w) := by
  have HT : Hid (PowTab w) := ht
  have HM : Hid (MaxCell w) := hm
  have HLT : Hid (0 < w.heap.size) := (show _ < _ by obtain ⟨m, hm⟩ := hm; exact World.block_lt_of_cell? w _ hm)
  clear ht hm
  go_enter Tryd.func34, Tryd.ntmps34
  go_wp2_with fail
  have K0 := (Kept.start w).alloc2 (.int .i64 0) (.int .i64 0) 27 _ rfl
  refine (cut_any47 s _ hs (HM.out.below K0.1 HLT.out)).mono ?_
  rintro e w1 ⟨a, b, has, hc, rfl, hb⟩
  have K1 := K0.step hb
  have HC := Lib.hid hc
  have LA := cutOn_len hc
  have hl : s.data.toList.length = s.size := by simp
  have PA := Lib.hid (fun w ht => impl_pi ⟨a.toArray⟩ w ht)
  have PB := Lib.hid (fun w ht => impl_pi ⟨b.toArray⟩ w ht)
  clear hb K0 hc hl LA
  go_wp2_with fail
  refine (PA.out _ (HT.out.below K1.1 (Nat.le_refl _))).mono ?_
  rintro e w2 ⟨⟨n, k, hn, rfl⟩, hb⟩
  have NR := PIans_rng hn
  have K2 := K1.step hb
  have HN := Lib.hid hn
  clear hb K1 hn
  cases k
  · have AN := Lib.hid (pf_badnum HC.out (PIans_zero HN.out))
    have KF := K2.alloc2 (.int .i64 n) (.int .i64 1) 27 _ rfl
    have d2 := K2.get 0 rfl
    have d3 := K2.get 1 rfl
    have e2 := K2.fz 0 rfl
    have e3 := K2.fz 1 rfl
    have y2 := K2.lt 0 rfl
    cases has
    · go_wp2
      exact bodyPost_ret (v := .tuple #[.agg #[.int .i64 0, .int .i64 0], .bool false]) (by simp [results, Tryd.results34, go_sem, d2, d3, y2]) rfl (PfPost.mk AN.out (((K2.1.setCell (Nat.le_refl _) _).setCell (Nat.le_refl _) _).alloc (by have := y2; simp; omega) _))
    · go_wp2
      exact bodyPost_ret (v := .tuple #[.agg #[.int .i64 0, .int .i64 0], .bool false]) (by simp [results, Tryd.results34, go_sem, d2, d3, y2]) rfl (PfPost.mk AN.out (((K2.1.setCell (Nat.le_refl _) _).setCell (Nat.le_refl _) _).alloc (by have := y2; simp; omega) _))
  · have NE := Lib.hid (num_ne HC.out HN.out)
    cases has
    · have KF := K2.alloc2 (.int .i64 n) (.int .i64 1) 27 _ rfl
      have FF := Lib.hid (fun w ht => impl_ff n 1 w ht)
      have HF := Lib.hid (pf_no HC.out HN.out (.inl ⟨rfl, rfl⟩))
      have HY := Lib.hid (fun h => pf_yes (num := n) (den := 1) NE.out h)
      obtain ⟨fl, hfl⟩ : ∃ fl, fl = fmtF n 1 := ⟨_, rfl⟩
      rw [← hfl] at FF HF HY
      clear hfl
      go_wp2_with fail
      refine (FF.out _ (HT.out.below KF.1 (Nat.le_refl _))).mono ?_
      rintro e w9 ⟨rfl, hb⟩
      have K9 := KF.step hb
      clear hb KF
      have d0 := K9.get 0 rfl
      have d1 := K9.get 1 rfl
      have d2 := K9.get 2 rfl
      have d3 := K9.get 3 rfl
      have e2 := K9.fz 2 rfl
      have e3 := K9.fz 3 rfl
      have y2 := K9.lt 2 rfl
      by_cases hq : s.data.toList = fl
      · have q : (fl == s.toList) = true := by rw [eq_bytes]; exact decide_eq_true hq
        have AN := Lib.hid (HY.out hq)
        clear hq
        go_wp2
        exact bodyPost_ret (v := .tuple #[.agg #[.int .i64 n, .int .i64 1], .bool true]) (by simp [results, Tryd.results34, go_sem, d2, d3, y2]) rfl (PfPost.mk AN.out ((K9.1.setCell (Nat.le_refl _) _).setCell (Nat.le_refl _) _))
      · have q : (fl == s.toList) = false := by rw [eq_bytes]; exact decide_eq_false hq
        have AN := Lib.hid (HF.out hq)
        clear hq
        go_wp2
        exact bodyPost_ret (v := .tuple #[.agg #[.int .i64 0, .int .i64 0], .bool false]) (by simp [results, Tryd.results34, go_sem, d2, d3, y2]) rfl (PfPost.mk AN.out ((K9.1.setCell (Nat.le_refl _) _).setCell (Nat.le_refl _) _))
    · go_wp2_with fail
      refine (PB.out _ (HT.out.below K2.1 (Nat.le_refl _))).mono ?_
      rintro e w3 ⟨⟨d, j, hd, rfl⟩, hb⟩
      have NR2 := PIans_rng hd
      have K3 := K2.step hb
      have HD := Lib.hid hd
      clear hb K2 hd
      cases j
      · have AN := Lib.hid (pf_badden HC.out (PIans_zero HD.out))
        have d2 := K3.get 0 rfl
        have d3 := K3.get 1 rfl
        have e2 := K3.fz 0 rfl
        have e3 := K3.fz 1 rfl
        have y2 := K3.lt 0 rfl
        go_wp2
        exact bodyPost_ret (v := .tuple #[.agg #[.int .i64 0, .int .i64 0], .bool false]) (by simp [results, Tryd.results34, go_sem, d2, d3, y2]) rfl (PfPost.mk AN.out (((K3.1.setCell (Nat.le_refl _) _).setCell (Nat.le_refl _) _).alloc (by have := y2; simp; omega) _))
      · have KF := K3.alloc2 (.int .i64 n) (.int .i64 d) 27 _ rfl
        have FF := Lib.hid (fun w ht => impl_ff n d w ht)
        have HF := Lib.hid (pf_no HC.out HN.out (.inr ⟨rfl, _, HD.out⟩))
        have HY := Lib.hid (fun h => pf_yes (num := n) (den := d) NE.out h)
        obtain ⟨fl, hfl⟩ : ∃ fl, fl = fmtF n d := ⟨_, rfl⟩
        rw [← hfl] at FF HF HY
        clear hfl
        go_wp2_with fail
        refine (FF.out _ (HT.out.below KF.1 (Nat.le_refl _))).mono ?_
        rintro e w9 ⟨rfl, hb⟩
        have K9 := KF.step hb
        clear hb KF
        have d0 := K9.get 0 rfl
        have d1 := K9.get 1 rfl
        have d2 := K9.get 2 rfl
        have d3 := K9.get 3 rfl
        have e2 := K9.fz 2 rfl
        have e3 := K9.fz 3 rfl
        have y2 := K9.lt 2 rfl
        by_cases hq : s.data.toList = fl
        · have q : (fl == s.toList) = true := by rw [eq_bytes]; exact decide_eq_true hq
          have AN := Lib.hid (HY.out hq)
          clear hq
          go_wp2
          exact bodyPost_ret (v := .tuple #[.agg #[.int .i64 n, .int .i64 d], .bool true]) (by simp [results, Tryd.results34, go_sem, d2, d3, y2]) rfl (PfPost.mk AN.out ((K9.1.setCell (Nat.le_refl _) _).setCell (Nat.le_refl _) _))
        · have q : (fl == s.toList) = false := by rw [eq_bytes]; exact decide_eq_false hq
          have AN := Lib.hid (HF.out hq)
          clear hq
          go_wp2
          exact bodyPost_ret (v := .tuple #[.agg #[.int .i64 0, .int .i64 0], .bool false]) (by simp [results, Tryd.results34, go_sem, d2, d3, y2]) rfl (PfPost.mk AN.out ((K9.1.setCell (Nat.le_refl _) _).setCell (Nat.le_refl _) _))
end Go.Proofs.YtdfmidihghoilaaDoor
