/-
  The walk over the project's ParseInterval.
-/
import Derived.Test.YtdfmidihghoilaaDoorRows
import Derived.Test.YtdfmidihghoilaaDoorCutDots
import Derived.Test.YtdfmidihghoilaaDoorIfImpl
import Derived.Test.YtdfmidihghoilaaDoorPfImpl
import Derived.Test.YtdfmidihghoilaaDoorKeep
import Derived.Test.YtdfmidihghoilaaDoorShelf
import Derived.WalkKit
import Derived.WalkSpells
import Derived.WalkLawsBesides
import Derived.IntWalk
import Derived.Lib.Hide
namespace Go.Proofs.YtdfmidihghoilaaDoor
open Go.RowKit Num

theorem cut_dots (s : ByteArray) (w : World) (hs : s.size ≤ 1048576) (hm : MaxCell w) :
    Calls Tryd.prog 33 #[.string s, .string ⟨#[46, 46]⟩] w fun e w' => ∃ (p q : List UInt8) (has : Bool), Lib.cut s.data.toList [46, 46] = (p, q, has) ∧ e = .returned (.tuple #[.string ⟨p.toArray⟩, .string ⟨q.toArray⟩, .bool has]) ∧ Below w.heap.size w w' := by
  obtain ⟨m, hm⟩ := hm
  refine (Tryd.strings_Cut s ⟨#[46, 46]⟩ m w (by omega) hm).mono ?_
  rintro e w' ⟨rfl, n, rfl⟩
  exact ⟨_, _, _, rfl, rfl, below_drewN (Below.refl _ _) _⟩

set_option maxRecDepth 8000 in
set_option maxHeartbeats 6400000 in
theorem impl_ip (s : ByteArray) (w : World) (hs : s.size ≤ 1048576) (ht : PowTab w) (hm : MaxCell w) :
    Calls Tryd.prog 10 #[.string s] w (PIvPost s w) := by
  have HT : Hid (PowTab w) := ht
  have HM : Hid (MaxCell w) := hm
  have HLT : Hid (0 < w.heap.size) := (show _ < _ by obtain ⟨m, hm⟩ := hm; exact World.block_lt_of_cell? w _ hm)
  clear ht hm
  go_enter Tryd.func10, Tryd.ntmps10
  go_wp2_with fail
  have K0 := (Kept.start w).alloc4 (.int .i64 0) (.int .i64 0) (.int .i64 0) (.int .i64 0) 29 _ rfl
  refine (cut_dots s _ hs (HM.out.below K0.1 HLT.out)).mono ?_
  rintro e w1 ⟨p, q, has, hc, rfl, hb⟩
  have K1 := K0.step hb
  have HC := Lib.hid hc
  have LA := dd_len s.data.toList [46, 46]
  rw [hc] at LA
  have hl : s.data.toList.length = s.size := by simp
  have PA := Lib.hid (fun w ht hm => impl_pf ⟨p.toArray⟩ w (by show p.toArray.size ≤ _; simp; have := LA.1; simp only at this; omega) ht hm)
  have PB := Lib.hid (fun w ht hm => impl_pf ⟨q.toArray⟩ w (by show q.toArray.size ≤ _; simp; have := LA.2; simp only at this; omega) ht hm)
  clear hb K0 hc hl LA
  go_wp2_with fail
  refine (PA.out _ (HT.out.below K1.1 (Nat.le_refl _)) (HM.out.below K1.1 HLT.out)).mono ?_
  rintro e w2 ⟨⟨n, d, k, hn, rfl⟩, hb⟩
  have K2 := K1.step hb
  have HN := Lib.hid (show PFans p n d k by simpa using hn)
  have hz2 : w.heap.size < w2.heap.size := K2.lt 0 rfl
  clear hb K1 hn
  cases k
  · have AN := Lib.hid (dd_no1 HC.out HN.out)
    have K3 := ((K2.alloc2 (.int .i64 n) (.int .i64 d) 27 _ rfl).alloc2 (.int .i64 n) (.int .i64 d) 27 (w2.heap.size + 1) (by simp)).alloc4 (.int .i64 n) (.int .i64 d) (.int .i64 n) (.int .i64 d) 29 (w2.heap.size + 1 + 1) (by simp)
    clear K2
    have k0 := K3.get 0 rfl
    have k1 := K3.get 1 rfl
    have k2 := K3.get 2 rfl
    have k3 := K3.get 3 rfl
    have k4 := K3.get 4 rfl
    have k5 := K3.get 5 rfl
    have k6 := K3.get 6 rfl
    have k7 := K3.get 7 rfl
    cases has
    · have r8 := K3.get 8 rfl
      have r9 := K3.get 9 rfl
      have r10 := K3.get 10 rfl
      have r11 := K3.get 11 rfl
      have g8 := K3.fz 8 rfl
      have g9 := K3.fz 9 rfl
      have g10 := K3.fz 10 rfl
      have g11 := K3.fz 11 rfl
      have y := K3.lt 8 rfl
      go_wp2
      exact bodyPost_ret (v := .tuple #[.agg #[.int .i64 0, .int .i64 0, .int .i64 0, .int .i64 0], .bool false]) (by simp [results, Tryd.results10, go_sem, r8, r9, r10, r11, y]) rfl (PIvPost.mk AN.out ((((K3.1.setCell (p := ⟨w.heap.size, 0, none⟩) (Nat.le_refl _) _).setCell (p := ⟨w.heap.size, 1, none⟩) (Nat.le_refl _) _).setCell (p := ⟨w.heap.size, 2, none⟩) (Nat.le_refl _) _).setCell (p := ⟨w.heap.size, 3, none⟩) (Nat.le_refl _) _))
    · have r8 := K3.get 8 rfl
      have r9 := K3.get 9 rfl
      have r10 := K3.get 10 rfl
      have r11 := K3.get 11 rfl
      have g8 := K3.fz 8 rfl
      have g9 := K3.fz 9 rfl
      have g10 := K3.fz 10 rfl
      have g11 := K3.fz 11 rfl
      have y := K3.lt 8 rfl
      go_wp2
      exact bodyPost_ret (v := .tuple #[.agg #[.int .i64 0, .int .i64 0, .int .i64 0, .int .i64 0], .bool false]) (by simp [results, Tryd.results10, go_sem, r8, r9, r10, r11, y]) rfl (PIvPost.mk AN.out ((((K3.1.setCell (p := ⟨w.heap.size, 0, none⟩) (Nat.le_refl _) _).setCell (p := ⟨w.heap.size, 1, none⟩) (Nat.le_refl _) _).setCell (p := ⟨w.heap.size, 2, none⟩) (Nat.le_refl _) _).setCell (p := ⟨w.heap.size, 3, none⟩) (Nat.le_refl _) _))
  · cases has
    · have K3 := ((K2.alloc2 (.int .i64 n) (.int .i64 d) 27 _ rfl).alloc2 (.int .i64 n) (.int .i64 d) 27 (w2.heap.size + 1) (by simp)).alloc4 (.int .i64 n) (.int .i64 d) (.int .i64 n) (.int .i64 d) 29 (w2.heap.size + 1 + 1) (by simp)
      clear K2
      have FF := Lib.hid (fun w ht => impl_if n d n d w ht)
      have HF := Lib.hid (dd_no2 HC.out HN.out)
      have HY := Lib.hid (fun h9 => ip_yes (a := n) (b := d) (c := n) (d := d) (dd_ne HC.out HN.out) h9)
      obtain ⟨fl, hfl⟩ : ∃ fl, fl = fmtI n d n d := ⟨_, rfl⟩
      rw [← hfl] at FF HF HY
      clear hfl
      have k0 := K3.get 0 rfl
      have k1 := K3.get 1 rfl
      have k2 := K3.get 2 rfl
      have k3 := K3.get 3 rfl
      have k4 := K3.get 4 rfl
      have k5 := K3.get 5 rfl
      have k6 := K3.get 6 rfl
      have k7 := K3.get 7 rfl
      go_wp2_with fail
      refine (FF.out _ (HT.out.below K3.1 (Nat.le_refl _))).mono ?_
      rintro e w9 ⟨rfl, hb⟩
      have K9 := K3.step hb
      clear hb K3 k0 k1 k2 k3 k4 k5 k6 k7
      have k0 := K9.get 0 rfl
      have k1 := K9.get 1 rfl
      have k2 := K9.get 2 rfl
      have k3 := K9.get 3 rfl
      by_cases hq : s.data.toList = fl
      · have q9 : (fl == s.toList) = true := by rw [eq_bytes]; exact decide_eq_true hq
        have AN := Lib.hid (HY.out hq)
        clear hq
        have r8 := K9.get 8 rfl
        have r9 := K9.get 9 rfl
        have r10 := K9.get 10 rfl
        have r11 := K9.get 11 rfl
        have g8 := K9.fz 8 rfl
        have g9 := K9.fz 9 rfl
        have g10 := K9.fz 10 rfl
        have g11 := K9.fz 11 rfl
        have y := K9.lt 8 rfl
        go_wp2
        exact bodyPost_ret (v := .tuple #[.agg #[.int .i64 n, .int .i64 d, .int .i64 n, .int .i64 d], .bool true]) (by simp [results, Tryd.results10, go_sem, r8, r9, r10, r11, y]) rfl (PIvPost.mk AN.out ((((K9.1.setCell (p := ⟨w.heap.size, 0, none⟩) (Nat.le_refl _) _).setCell (p := ⟨w.heap.size, 1, none⟩) (Nat.le_refl _) _).setCell (p := ⟨w.heap.size, 2, none⟩) (Nat.le_refl _) _).setCell (p := ⟨w.heap.size, 3, none⟩) (Nat.le_refl _) _))
      · have q9 : (fl == s.toList) = false := by rw [eq_bytes]; exact decide_eq_false hq
        have AN := Lib.hid (HF.out hq)
        clear hq
        have r8 := K9.get 8 rfl
        have r9 := K9.get 9 rfl
        have r10 := K9.get 10 rfl
        have r11 := K9.get 11 rfl
        have g8 := K9.fz 8 rfl
        have g9 := K9.fz 9 rfl
        have g10 := K9.fz 10 rfl
        have g11 := K9.fz 11 rfl
        have y := K9.lt 8 rfl
        go_wp2
        exact bodyPost_ret (v := .tuple #[.agg #[.int .i64 0, .int .i64 0, .int .i64 0, .int .i64 0], .bool false]) (by simp [results, Tryd.results10, go_sem, r8, r9, r10, r11, y]) rfl (PIvPost.mk AN.out ((((K9.1.setCell (p := ⟨w.heap.size, 0, none⟩) (Nat.le_refl _) _).setCell (p := ⟨w.heap.size, 1, none⟩) (Nat.le_refl _) _).setCell (p := ⟨w.heap.size, 2, none⟩) (Nat.le_refl _) _).setCell (p := ⟨w.heap.size, 3, none⟩) (Nat.le_refl _) _))
    · have K3 := (K2.alloc2 (.int .i64 n) (.int .i64 d) 27 _ rfl).alloc2 (.int .i64 n) (.int .i64 d) 27 (w2.heap.size + 1) (by simp)
      clear K2
      have k0 := K3.get 0 rfl
      have k1 := K3.get 1 rfl
      have k2 := K3.get 2 rfl
      have k3 := K3.get 3 rfl
      have k4 := K3.get 4 rfl
      have k5 := K3.get 5 rfl
      have k6 := K3.get 6 rfl
      have k7 := K3.get 7 rfl
      go_wp2_with fail
      refine (PB.out _ (HT.out.below K3.1 (Nat.le_refl _)) (HM.out.below K3.1 HLT.out)).mono ?_
      rintro e w3 ⟨⟨h, g, j, hj, rfl⟩, hb⟩
      have K4 := K3.step hb
      have HJ := Lib.hid (show PFans q h g j by simpa using hj)
      clear hb K3 hj k0 k1 k2 k3 k4 k5 k6 k7
      cases j
      · have AN := Lib.hid (dd_no3 HC.out HJ.out)
        have c0 := K4.get 0 rfl
        have c1 := K4.get 1 rfl
        have d0 := K4.fz 0 rfl
        have d1 := K4.fz 1 rfl
        have c2 := K4.get 2 rfl
        have c3 := K4.get 3 rfl
        have K5 := Kept.set2 K4 (.int .i64 h) (.int .i64 g) (by omega) (by simp only [List.mem_cons, List.not_mem_nil, or_false]; rintro c9 (rfl | rfl | rfl | rfl | rfl | rfl) <;> simp only <;> omega)
        have K6 := K5.alloc4 (.int .i64 n) (.int .i64 d) (.int .i64 h) (.int .i64 g) 29 w3.heap.size (by simp)
        have e0 := K5.get 0 rfl
        have e1 := K5.get 1 rfl
        have e2 := K5.get 2 rfl
        have e3 := K5.get 3 rfl
        have k0 := K6.get 0 rfl
        have k1 := K6.get 1 rfl
        have k2 := K6.get 2 rfl
        have k3 := K6.get 3 rfl
        have k4 := K6.get 4 rfl
        have k5 := K6.get 5 rfl
        have k6 := K6.get 6 rfl
        have k7 := K6.get 7 rfl
        have r8 := K6.get 8 rfl
        have r9 := K6.get 9 rfl
        have r10 := K6.get 10 rfl
        have r11 := K6.get 11 rfl
        have g8 := K6.fz 8 rfl
        have g9 := K6.fz 9 rfl
        have g10 := K6.fz 10 rfl
        have g11 := K6.fz 11 rfl
        have y := K6.lt 8 rfl
        go_wp2
        exact bodyPost_ret (v := .tuple #[.agg #[.int .i64 0, .int .i64 0, .int .i64 0, .int .i64 0], .bool false]) (by simp [results, Tryd.results10, go_sem, r8, r9, r10, r11, y]) rfl (PIvPost.mk AN.out ((((K6.1.setCell (p := ⟨w.heap.size, 0, none⟩) (Nat.le_refl _) _).setCell (p := ⟨w.heap.size, 1, none⟩) (Nat.le_refl _) _).setCell (p := ⟨w.heap.size, 2, none⟩) (Nat.le_refl _) _).setCell (p := ⟨w.heap.size, 3, none⟩) (Nat.le_refl _) _))
      · have c0 := K4.get 0 rfl
        have c1 := K4.get 1 rfl
        have d0 := K4.fz 0 rfl
        have d1 := K4.fz 1 rfl
        have c2 := K4.get 2 rfl
        have c3 := K4.get 3 rfl
        have K5 := Kept.set2 K4 (.int .i64 h) (.int .i64 g) (by omega) (by simp only [List.mem_cons, List.not_mem_nil, or_false]; rintro c9 (rfl | rfl | rfl | rfl | rfl | rfl) <;> simp only <;> omega)
        have K6 := K5.alloc4 (.int .i64 n) (.int .i64 d) (.int .i64 h) (.int .i64 g) 29 w3.heap.size (by simp)
        have e0 := K5.get 0 rfl
        have e1 := K5.get 1 rfl
        have e2 := K5.get 2 rfl
        have e3 := K5.get 3 rfl
        have FF := Lib.hid (fun w ht => impl_if n d h g w ht)
        have HF := Lib.hid (dd_no4 HC.out HN.out HJ.out)
        have HY := Lib.hid (fun h9 => ip_yes (a := n) (b := d) (c := h) (d := g) (dd_ne HC.out HN.out) h9)
        obtain ⟨fl, hfl⟩ : ∃ fl, fl = fmtI n d h g := ⟨_, rfl⟩
        rw [← hfl] at FF HF HY
        clear hfl
        have k0 := K6.get 0 rfl
        have k1 := K6.get 1 rfl
        have k2 := K6.get 2 rfl
        have k3 := K6.get 3 rfl
        have k4 := K6.get 4 rfl
        have k5 := K6.get 5 rfl
        have k6 := K6.get 6 rfl
        have k7 := K6.get 7 rfl
        go_wp2_with fail
        refine (FF.out _ (HT.out.below K6.1 (Nat.le_refl _))).mono ?_
        rintro e w9 ⟨rfl, hb⟩
        have K9 := K6.step hb
        clear hb K6 K5 K4 c0 c1 c2 c3 d0 d1 e0 e1 e2 e3 k0 k1 k2 k3 k4 k5 k6 k7
        have k0 := K9.get 0 rfl
        have k1 := K9.get 1 rfl
        have k2 := K9.get 2 rfl
        have k3 := K9.get 3 rfl
        by_cases hq : s.data.toList = fl
        · have q9 : (fl == s.toList) = true := by rw [eq_bytes]; exact decide_eq_true hq
          have AN := Lib.hid (HY.out hq)
          clear hq
          have r8 := K9.get 8 rfl
          have r9 := K9.get 9 rfl
          have r10 := K9.get 10 rfl
          have r11 := K9.get 11 rfl
          have g8 := K9.fz 8 rfl
          have g9 := K9.fz 9 rfl
          have g10 := K9.fz 10 rfl
          have g11 := K9.fz 11 rfl
          have y := K9.lt 8 rfl
          go_wp2
          exact bodyPost_ret (v := .tuple #[.agg #[.int .i64 n, .int .i64 d, .int .i64 h, .int .i64 g], .bool true]) (by simp [results, Tryd.results10, go_sem, r8, r9, r10, r11, y]) rfl (PIvPost.mk AN.out ((((K9.1.setCell (p := ⟨w.heap.size, 0, none⟩) (Nat.le_refl _) _).setCell (p := ⟨w.heap.size, 1, none⟩) (Nat.le_refl _) _).setCell (p := ⟨w.heap.size, 2, none⟩) (Nat.le_refl _) _).setCell (p := ⟨w.heap.size, 3, none⟩) (Nat.le_refl _) _))
        · have q9 : (fl == s.toList) = false := by rw [eq_bytes]; exact decide_eq_false hq
          have AN := Lib.hid (HF.out hq)
          clear hq
          have r8 := K9.get 8 rfl
          have r9 := K9.get 9 rfl
          have r10 := K9.get 10 rfl
          have r11 := K9.get 11 rfl
          have g8 := K9.fz 8 rfl
          have g9 := K9.fz 9 rfl
          have g10 := K9.fz 10 rfl
          have g11 := K9.fz 11 rfl
          have y := K9.lt 8 rfl
          go_wp2
          exact bodyPost_ret (v := .tuple #[.agg #[.int .i64 0, .int .i64 0, .int .i64 0, .int .i64 0], .bool false]) (by simp [results, Tryd.results10, go_sem, r8, r9, r10, r11, y]) rfl (PIvPost.mk AN.out ((((K9.1.setCell (p := ⟨w.heap.size, 0, none⟩) (Nat.le_refl _) _).setCell (p := ⟨w.heap.size, 1, none⟩) (Nat.le_refl _) _).setCell (p := ⟨w.heap.size, 2, none⟩) (Nat.le_refl _) _).setCell (p := ⟨w.heap.size, 3, none⟩) (Nat.le_refl _) _))
end Go.Proofs.YtdfmidihghoilaaDoor
