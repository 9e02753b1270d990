/-
  The walks over the project's fractions: divisor, limits, lowest terms, IsFrac.
-/
import Derived.Test.YtdfmidihghoilaaDoorRows
import Derived.Test.YtdfmidihghoilaaDoorPlain
import Derived.Test.YtdfmidihghoilaaDoorKeep
import Derived.WalkKit
import Derived.WalkSpells
import Derived.WalkLawsBesides
import Derived.IntWalk
import Derived.Lib.Hide
import Derived.Deep.QuietTactic
import Derived.BigQuiet
import Derived.Deep.RegionHeld3
namespace Go.Proofs.YtdfmidihghoilaaDoor
open Go.RowKit Num

set_option maxHeartbeats 400000 in
theorem impl_gcd (a0 b0 : Int) (w : World) (h1 : -1000000000000000000 ≤ a0) (h2 : a0 ≤ 1000000000000000000) (h3 : -1000000000000000000 ≤ b0) (h4 : b0 ≤ 1000000000000000000) :
    Calls Tryd.prog 75 #[.int .i64 a0, .int .i64 b0] w fun e w' => e = .returned (.int .i64 (Int.gcd a0 b0 : Nat)) ∧ Below w.heap.size w w' := by
  go_enter Tryd.func75, Tryd.ntmps75
  go_wp2
  go_loopw [0, 1] (fun a b wr => ∃ x y : Int, a = .int .i64 x ∧ b = .int .i64 y ∧ -1000000000000000000 ≤ x ∧ x ≤ 1000000000000000000 ∧ -1000000000000000000 ≤ y ∧ y ≤ 1000000000000000000 ∧ Hid (Int.gcd x y = Int.gcd a0 b0) ∧ Hid (Below w.heap.size w wr)) (fun _ b _ => (intOf b).natAbs)
  case atStart => exact ⟨a0, b0, rfl, rfl, h1, h2, h3, h4, rfl, Below.refl _ _⟩
  case round =>
    obtain ⟨x, y, rfl, rfl, hx1, hx2, hy1, hy2, HG, HB⟩ := hrel
    by_cases h0 : y = 0
    · subst h0
      have HE : Hid (Int.gcd a0 b0 = x.natAbs) := (show _ = _ by rw [← HG.out, Int.gcd_zero_right])
      by_cases hx : x < 0
      · go_wp2
        go_ret
        exact ⟨by rw [HE.out]; apply ret_int; omega, HB.out⟩
      · go_wp2
        go_ret
        exact ⟨by rw [HE.out]; apply ret_int; omega, HB.out⟩
    · have q1 : (y == 0) = false := beq_eq_false_iff_ne.2 h0
      have q2 : (y != 0) = true := bne_iff_ne.2 h0
      have hm := Int.natAbs_tmod x y
      have hm2 := Nat.mod_lt x.natAbs (show 0 < y.natAbs by omega)
      have m1 : -1000000000000000000 ≤ x.tmod y := by omega
      have m2 : x.tmod y ≤ 1000000000000000000 := by omega
      have HM : Hid ((x.tmod y).natAbs < y.natAbs) := (show _ < _ by omega)
      have HG2 : Hid (Int.gcd y (x.tmod y) = Int.gcd a0 b0) := (gcd_round x y).trans HG.out
      have HN := Lib.hid h0
      clear hm hm2
      go_wp2_with fail
      go_quiet (fail)
      go_wp2
      go_roundw
      case rel => exact ⟨y, x.tmod y, rfl, rfl, hy1, hy2, m1, m2, HG2, below_drewN HB.out _⟩
      case measure => exact HM.out
theorem impl_num (n : Int) (w : World) :
    Calls Tryd.prog 74 #[.int .i64 n] w fun e w' => e = .returned (.bool (decide (-999999999 ≤ n ∧ n ≤ 999999999))) ∧ w' = w := by
  by_cases h1 : -999999999 ≤ n
  · by_cases h2 : n ≤ 999999999
    · have E : Hid (decide (-999999999 ≤ n ∧ n ≤ 999999999) = true) := decide_eq_true ⟨h1, h2⟩
      go_enter Tryd.func74, Tryd.ntmps74
      go_wp2
      go_ret
      exact ⟨by first | rfl | (rw [E.out]; rfl), rfl⟩
    · have E : Hid (decide (-999999999 ≤ n ∧ n ≤ 999999999) = false) := decide_eq_false (by omega)
      have q : decide (n ≤ 999999999) = false := decide_eq_false h2
      go_enter Tryd.func74, Tryd.ntmps74
      go_wp2
      go_ret
      exact ⟨by first | rfl | (rw [E.out]; rfl), rfl⟩
  · have E : Hid (decide (-999999999 ≤ n ∧ n ≤ 999999999) = false) := decide_eq_false (by omega)
    have q : decide (-999999999 ≤ n) = false := decide_eq_false h1
    go_enter Tryd.func74, Tryd.ntmps74
    go_wp2
    go_ret
    exact ⟨by first | rfl | (rw [E.out]; rfl), rfl⟩

theorem impl_num_yes (n : Int) (w : World) (h1 : -999999999 ≤ n) (h2 : n ≤ 999999999) :
    Calls Tryd.prog 74 #[.int .i64 n] w fun e w' => e = .returned (.bool true) ∧ w' = w := by
  have := impl_num n w
  rw [decide_eq_true ⟨h1, h2⟩] at this
  exact this

theorem impl_num_no (n : Int) (w : World) (h : n < -999999999 ∨ 999999999 < n) :
    Calls Tryd.prog 74 #[.int .i64 n] w fun e w' => e = .returned (.bool false) ∧ w' = w := by
  have := impl_num n w
  rw [decide_eq_false (by omega)] at this
  exact this

set_option maxHeartbeats 800000 in
theorem impl_lim (n d : Int) (w : World) :
    Calls Tryd.prog 66 #[.agg #[.int .i64 n, .int .i64 d]] w fun e w' => e = .returned (.bool (limB n d)) ∧ Below w.heap.size w w' := by
  by_cases hn : n < -999999999 ∨ 999999999 < n
  · have E : Hid (limB n d = false) := limB_no (by omega)
    have HN := Lib.hid hn
    clear hn
    go_enter Tryd.func66, Tryd.ntmps66
    go_wp2_with ((go_at_call 74; refine (impl_num_no _ _ HN.out).mono ?_; rintro e w1 ⟨rfl, rfl⟩))
    go_ret
    exact ⟨by first | rfl | (rw [E.out]; rfl), (Below.refl _ _).alloc (Nat.le_refl _) _⟩
  · have a1 : -999999999 ≤ n := by omega
    have a2 : n ≤ 999999999 := by omega
    clear hn
    by_cases hd1 : 1 ≤ d
    · by_cases hd2 : d ≤ 10000
      · have E : Hid (limB n d = true) := limB_yes ⟨a1, a2, hd1, hd2⟩
        go_enter Tryd.func66, Tryd.ntmps66
        go_wp2_with ((go_at_call 74; refine (impl_num_yes _ _ a1 a2).mono ?_; rintro e w1 ⟨rfl, rfl⟩))
        go_ret
        exact ⟨by first | rfl | (rw [E.out]; rfl), (Below.refl _ _).alloc (Nat.le_refl _) _⟩
      · have E : Hid (limB n d = false) := limB_no (by omega)
        have q : decide (d ≤ 10000) = false := decide_eq_false hd2
        go_enter Tryd.func66, Tryd.ntmps66
        go_wp2_with ((go_at_call 74; refine (impl_num_yes _ _ a1 a2).mono ?_; rintro e w1 ⟨rfl, rfl⟩))
        go_ret
        exact ⟨by first | rfl | (rw [E.out]; rfl), (Below.refl _ _).alloc (Nat.le_refl _) _⟩
    · have E : Hid (limB n d = false) := limB_no (by omega)
      have q : decide (1 ≤ d) = false := decide_eq_false hd1
      go_enter Tryd.func66, Tryd.ntmps66
      go_wp2_with ((go_at_call 74; refine (impl_num_yes _ _ a1 a2).mono ?_; rintro e w1 ⟨rfl, rfl⟩))
      go_ret
      exact ⟨by first | rfl | (rw [E.out]; rfl), (Below.refl _ _).alloc (Nat.le_refl _) _⟩

/-- The lowest terms: the divisor's sign is the denominator's. -/
theorem impl_red (n d : Int) (w : World) (h1 : -1000000000000000000 ≤ n) (h2 : n ≤ 1000000000000000000) (h3 : -1000000000000000000 ≤ d) (h4 : d ≤ 1000000000000000000) (h0 : d ≠ 0) :
    Calls Tryd.prog 67 #[.agg #[.int .i64 n, .int .i64 d]] w fun e w' => e = .returned (.agg #[.int .i64 (rN n d), .int .i64 (rD n d)]) ∧ Below w.heap.size w w' := by
  have GP := gcd_pos (n := n) h0
  have GL := gcd_le (n := n) h0
  obtain ⟨g, hg⟩ : ∃ g, g = Int.gcd n d := ⟨_, rfl⟩
  have C : Hid (∀ w, Calls Tryd.prog 75 #[.int .i64 n, .int .i64 d] w fun e w' => e = .returned (.int .i64 (g : Int)) ∧ Below w.heap.size w w') := fun w => by
    rw [hg]; exact impl_gcd n d w h1 h2 h3 h4
  rw [← hg] at GP GL
  by_cases hneg : d < 0
  · have BN := rN_bd (n := n) (d := d)
    have BD := rD_le (n := n) (d := d)
    have BP := rD_pos (n := n) h0
    have RN : Hid (wrap64 (-n.tdiv (g : Int)) = rN n d) := (show _ = _ by rw [← Int.tdiv_neg, hg, red_neg_N hneg]; exact IntWalk.wrap64_in _ ⟨by omega, by omega⟩)
    have RD : Hid (wrap64 (-d.tdiv (g : Int)) = rD n d) := (show _ = _ by rw [← Int.tdiv_neg, hg, red_neg_D hneg]; exact IntWalk.wrap64_in _ ⟨by omega, by omega⟩)
    clear BN BD BP
    have z : ¬ (-(g : Int)) = 0 := by omega
    have HG := Lib.hid hg
    clear hg
    go_enter Tryd.func67, Tryd.ntmps67
    go_wp2_with fail
    refine (C.out _).mono ?_
    rintro e w1 ⟨rfl, hb⟩
    have hz : w.heap.size + 1 < w1.heap.size := by have := hb.size; simp at this; omega
    obtain ⟨hc, hf⟩ := bcell hb
    go_wp2_with fail
    go_region
    go_wp2
    rw [RN.out, RD.out]
    exact bodyPost_ret (v := .agg #[.int .i64 (rN n d), .int .i64 (rD n d)]) (by simp [results, Tryd.results67, go_sem, hc, hz]) rfl ⟨rfl, ((((((Below.refl _ _).alloc (Nat.le_refl _) _).alloc (by simp) _).trans (hb.mono (by simp; omega))).setCell (by simp) _).setCell (by simp) _).drew⟩
  · have BN := rN_bd (n := n) (d := d)
    have BD := rD_le (n := n) (d := d)
    have BP := rD_pos (n := n) h0
    have RN : Hid (n.tdiv (g : Int) = rN n d) := (show _ = _ by rw [hg, red_pos_N (by omega)])
    have RD : Hid (d / (g : Int) = rD n d) := (show _ = _ by rw [← Int.tdiv_eq_ediv_of_nonneg (by omega), hg, red_pos_D (by omega)])
    clear BN BD BP
    have z : ¬ (g : Int) = 0 := by omega
    have q : decide (d < 0) = false := decide_eq_false hneg
    have HG := Lib.hid hg
    clear hg
    go_enter Tryd.func67, Tryd.ntmps67
    go_wp2_with fail
    refine (C.out _).mono ?_
    rintro e w1 ⟨rfl, hb⟩
    have hz : w.heap.size + 1 < w1.heap.size := by have := hb.size; simp at this; omega
    obtain ⟨hc, hf⟩ := bcell hb
    go_wp2_with fail
    go_region
    go_wp2
    rw [RN.out, RD.out]
    exact bodyPost_ret (v := .agg #[.int .i64 (rN n d), .int .i64 (rD n d)]) (by simp [results, Tryd.results67, go_sem, hc, hz]) rfl ⟨rfl, ((((((Below.refl _ _).alloc (Nat.le_refl _) _).alloc (by simp) _).trans (hb.mono (by simp; omega))).setCell (by simp) _).setCell (by simp) _).drew⟩

theorem red_eq (n d : Int) (hd : 0 < d) : (Int.gcd n d = 1 ∧ rN n d = n ∧ rD n d = d) ∨ (Int.gcd n d ≠ 1 ∧ rD n d ≠ d) := by
  by_cases h : Int.gcd n d = 1
  · exact .inl ⟨h, red_self hd h⟩
  · exact .inr ⟨h, red_other hd h⟩

set_option maxRecDepth 8000 in
set_option maxHeartbeats 1600000 in
theorem impl_isf (n d : Int) (w : World) :
    Calls Tryd.prog 51 #[.agg #[.int .i64 n, .int .i64 d]] w fun e w' => e = .returned (.bool (frB n d)) ∧ Below w.heap.size w w' := by
  have L0 := impl_lim n d
  cases hl : limB n d
  · rw [hl] at L0
    have E : Hid (frB n d = false) := (show _ = _ by unfold frB; rw [hl]; rfl)
    have L := Lib.hid L0
    have HL := Lib.hid hl
    clear L0 hl
    go_enter Tryd.func51, Tryd.ntmps51
    go_wp2_with fail
    go_region_with ((go_at_call 66; (with_reducible refine (L.out _).mono ?_); rintro e w1 ⟨rfl, hb⟩; have hz : w.heap.size < w1.heap.size := by { have := hb.size; simp at this; omega }; obtain ⟨hc, hf⟩ := bcell hb))
    all_goals go_wp2
    all_goals
      go_ret
      exact ⟨by first | rfl | (rw [E.out]; rfl), (((Below.refl _ _).alloc (Nat.le_refl _) _).drew).trans (hb.mono (by show w.heap.size ≤ (w.alloc _).heap.size; simp))⟩
  · rw [hl] at L0
    obtain ⟨l1, l2, l3, l4⟩ := limB_of hl
    have L := Lib.hid L0
    have HL := Lib.hid hl
    have R : Hid (∀ w, Calls Tryd.prog 67 #[.agg #[.int .i64 n, .int .i64 d]] w fun e w' => e = .returned (.agg #[.int .i64 (rN n d), .int .i64 (rD n d)]) ∧ Below w.heap.size w w') := fun w => impl_red n d w (by omega) (by omega) (by omega) (by omega) (by omega)
    have RE := red_eq n d (by omega)
    clear L0 hl l1 l2 l3 l4
    obtain ⟨x, hx⟩ : ∃ x, x = rN n d := ⟨_, rfl⟩
    obtain ⟨y, hy⟩ : ∃ y, y = rD n d := ⟨_, rfl⟩
    rw [← hx, ← hy] at RE R
    clear hx hy
    rcases RE with ⟨h1, h2, h3⟩ | ⟨h1, h2⟩
    · subst h2 h3
      have E : Hid (frB x y = true) := (show _ = _ by unfold frB; rw [HL.out, decide_eq_true h1]; rfl)
      have HG := Lib.hid h1
      clear h1
      go_enter Tryd.func51, Tryd.ntmps51
      go_wp2_with fail
      go_region_held3 (fun w' => w'.cell? ⟨w.heap.size, 0, none⟩ = some (.int .i64 x) ∧ w'.cell? ⟨w.heap.size, 1, none⟩ = some (.int .i64 y) ∧ Below w.heap.size w w' ∧ w.heap.size < w'.heap.size) (first | exact box2_start _ _ _ _ | exact box2_keep (by assumption) (by assumption)) (first | (go_simp; go_at_call 66; (with_reducible refine (L.out _).mono ?_); rintro e w1 ⟨rfl, hb⟩) | (go_simp; go_at_call 67; (with_reducible refine (R.out _).mono ?_); rintro e w1 ⟨rfl, hb⟩))
      go_wp2
      have hS := ‹_ ∧ _ ∧ Below w.heap.size w w1 ∧ _›.2.2.1
      go_ret
      exact ⟨by first | rfl | (rw [E.out]; rfl), hS⟩
    · have E : Hid (frB n d = false) := frB_no2 h1
      have q : (y == d) = false := beq_eq_false_iff_ne.2 h2
      have q' : (d == y) = false := beq_eq_false_iff_ne.2 (fun e => h2 e.symm)
      have HG := Lib.hid h1
      have HG2 := Lib.hid h2
      clear h1 h2
      go_enter Tryd.func51, Tryd.ntmps51
      go_wp2_with fail
      go_region_held3 (fun w' => w'.cell? ⟨w.heap.size, 0, none⟩ = some (.int .i64 n) ∧ w'.cell? ⟨w.heap.size, 1, none⟩ = some (.int .i64 d) ∧ Below w.heap.size w w' ∧ w.heap.size < w'.heap.size) (first | exact box2_start _ _ _ _ | exact box2_keep (by assumption) (by assumption)) (first | (go_simp; go_at_call 66; (with_reducible refine (L.out _).mono ?_); rintro e w1 ⟨rfl, hb⟩) | (go_simp; go_at_call 67; (with_reducible refine (R.out _).mono ?_); rintro e w1 ⟨rfl, hb⟩))
      go_wp2
      have hS := ‹_ ∧ _ ∧ Below w.heap.size w w1 ∧ _›.2.2.1
      go_ret
      exact ⟨by first | rfl | (rw [E.out]; rfl), hS⟩
end Go.Proofs.YtdfmidihghoilaaDoor
