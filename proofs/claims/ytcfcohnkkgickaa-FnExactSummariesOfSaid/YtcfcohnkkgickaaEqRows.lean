/-
  The walks over the laws' own comparison and measure of rows.
-/
import Derived.Test.YtcfcohnkkgickaaRows
import Derived.Test.YtcfcohnkkgickaaArSpec
import Derived.WalkKit
import Derived.WalkSpells
import Derived.WalkLawsBesides
import Derived.IntWalk
import Derived.Lib.Hide
import Derived.Deep.RegionHeld3
namespace Go.Proofs.Ytcfcohnkkgickaa
open Go.RowKit Num

theorem law_sz (ao : Option Addr) (n cap : Nat) (w : World) (hn : n ≤ 1048576) :
    Calls Try.prog 107 #[.slice ao n cap, .int .i64 1048576] w fun e w' => e = .returned (.int .i64 (1048576 - (n : Int))) ∧ w = w' := by
  have h1 : (n : Int) ≤ 1048576 := by omega
  have h2 : ¬ (1048576 - (n : Int)) < 0 := by omega
  have h3 : decide ((1048576 - (n : Int)) < 0) = false := decide_eq_false h2
  go_enter Try.func107, Try.ntmps107
  go_wp2
  go_ret
  exact ⟨rfl, rfl⟩

theorem law_sz_big (ao : Option Addr) (n cap : Nat) (w : World) (hn : 1048576 < n) (hm : n ≤ 9223372036854775807) :
    Calls Try.prog 107 #[.slice ao n cap, .int .i64 1048576] w fun e w' => e = .returned (.int .i64 (-1)) ∧ w = w' := by
  have h1 : (1048576 : Int) < (n : Int) := by omega
  have h4 : (n : Int) ≤ 9223372036854775807 := by omega
  have h2 : (1048576 - (n : Int)) < 0 := by omega
  have h3 : decide ((1048576 - (n : Int)) < 0) = true := decide_eq_true h2
  go_enter Try.func107, Try.ntmps107
  go_wp2
  go_ret
  exact ⟨rfl, rfl⟩

/-- szRowS with what is left: L. -/
theorem law_szL (L : Int) (ao : Option Addr) (n cap : Nat) (w : World) (h0 : 0 ≤ L) (hL : L ≤ 1048576) (hn : (n : Int) ≤ L) :
    Calls Try.prog 107 #[.slice ao n cap, .int .i64 L] w fun e w' => e = .returned (.int .i64 (L - (n : Int))) ∧ w = w' := by
  have h2 : ¬ (L - (n : Int)) < 0 := by omega
  have h3 : decide ((L - (n : Int)) < 0) = false := decide_eq_false h2
  go_enter Try.func107, Try.ntmps107
  go_wp2
  go_ret
  exact ⟨rfl, rfl⟩
theorem law_szL_big (L : Int) (ao : Option Addr) (n cap : Nat) (w : World) (h0 : 0 ≤ L) (hL : L ≤ 1048576) (hn : L < (n : Int)) (hm : n ≤ 9223372036854775807) :
    Calls Try.prog 107 #[.slice ao n cap, .int .i64 L] w fun e w' => e = .returned (.int .i64 (-1)) ∧ w = w' := by
  have h4 : (n : Int) ≤ 9223372036854775807 := by omega
  have h2 : (L - (n : Int)) < 0 := by omega
  have h3 : decide ((L - (n : Int)) < 0) = true := decide_eq_true h2
  go_enter Try.func107, Try.ntmps107
  go_wp2
  go_ret
  exact ⟨rfl, rfl⟩

theorem rr_start {W w : World} {g h k : Nat} {r : Rw} (a : RowIn w g k r) (b : RowIn w h k r) (hg : Grow W w g) (hh : Grow W w h) :
    w.drew.cell? ⟨g, k * 5, none⟩ = some (.int .i64 r.i) ∧ w.drew.cell? ⟨g, k * 5 + 1, none⟩ = some (.int .i64 r.g) ∧ w.drew.cell? ⟨g, k * 5 + 2, none⟩ = some (.int .i64 r.y) ∧ w.drew.cell? ⟨g, k * 5 + 3, none⟩ = some (.int .i64 r.x) ∧ w.drew.cell? ⟨g, k * 5 + 4, none⟩ = some (.bool r.nl) ∧ w.drew.cell? ⟨h, k * 5, none⟩ = some (.int .i64 r.i) ∧ w.drew.cell? ⟨h, k * 5 + 1, none⟩ = some (.int .i64 r.g) ∧ w.drew.cell? ⟨h, k * 5 + 2, none⟩ = some (.int .i64 r.y) ∧ w.drew.cell? ⟨h, k * 5 + 3, none⟩ = some (.int .i64 r.x) ∧ w.drew.cell? ⟨h, k * 5 + 4, none⟩ = some (.bool r.nl) ∧ Grow W w.drew g ∧ Grow W w.drew h :=
  ⟨a.1, a.2.1, a.2.2.1, a.2.2.2.1, a.2.2.2.2, b.1, b.2.1, b.2.2.1, b.2.2.2.1, b.2.2.2.2, hg.step (Below.refl _ _).drew, hh.step (Below.refl _ _).drew⟩
theorem rr_keep {W w w' : World} {g h k : Nat} {r : Rw} (q : w.cell? ⟨g, k * 5, none⟩ = some (.int .i64 r.i) ∧ w.cell? ⟨g, k * 5 + 1, none⟩ = some (.int .i64 r.g) ∧ w.cell? ⟨g, k * 5 + 2, none⟩ = some (.int .i64 r.y) ∧ w.cell? ⟨g, k * 5 + 3, none⟩ = some (.int .i64 r.x) ∧ w.cell? ⟨g, k * 5 + 4, none⟩ = some (.bool r.nl) ∧ w.cell? ⟨h, k * 5, none⟩ = some (.int .i64 r.i) ∧ w.cell? ⟨h, k * 5 + 1, none⟩ = some (.int .i64 r.g) ∧ w.cell? ⟨h, k * 5 + 2, none⟩ = some (.int .i64 r.y) ∧ w.cell? ⟨h, k * 5 + 3, none⟩ = some (.int .i64 r.x) ∧ w.cell? ⟨h, k * 5 + 4, none⟩ = some (.bool r.nl) ∧ Grow W w g ∧ Grow W w h) (hb : Below w.heap.size w w') :
    w'.cell? ⟨g, k * 5, none⟩ = some (.int .i64 r.i) ∧ w'.cell? ⟨g, k * 5 + 1, none⟩ = some (.int .i64 r.g) ∧ w'.cell? ⟨g, k * 5 + 2, none⟩ = some (.int .i64 r.y) ∧ w'.cell? ⟨g, k * 5 + 3, none⟩ = some (.int .i64 r.x) ∧ w'.cell? ⟨g, k * 5 + 4, none⟩ = some (.bool r.nl) ∧ w'.cell? ⟨h, k * 5, none⟩ = some (.int .i64 r.i) ∧ w'.cell? ⟨h, k * 5 + 1, none⟩ = some (.int .i64 r.g) ∧ w'.cell? ⟨h, k * 5 + 2, none⟩ = some (.int .i64 r.y) ∧ w'.cell? ⟨h, k * 5 + 3, none⟩ = some (.int .i64 r.x) ∧ w'.cell? ⟨h, k * 5 + 4, none⟩ = some (.bool r.nl) ∧ Grow W w' g ∧ Grow W w' h := by
  obtain ⟨h0, h1, h2, h3, h4, k0, k1, k2, k3, k4, hg, hh⟩ := q
  have a := RowIn.below (r := r) ⟨h0, h1, h2, h3, h4⟩ hb hg.2
  have b := RowIn.below (r := r) ⟨k0, k1, k2, k3, k4⟩ hb hh.2
  exact ⟨a.1, a.2.1, a.2.2.1, a.2.2.2.1, a.2.2.2.2, b.1, b.2.1, b.2.2.1, b.2.2.2.1, b.2.2.2.2, hg.step hb, hh.step hb⟩

set_option maxRecDepth 8000 in
set_option maxHeartbeats 6400000 in
theorem law_eqRsV (ao bo : Option Addr) (n c c' : Nat) (R : Nat → Rw) (w : World) (hn : n ≤ 1048576) (hG : RowsVal w ao n R) (hH : RowsVal w bo n R) :
    Calls Try.prog 114 #[.slice ao n c, .slice bo n c'] w fun e w' => e = .returned (.bool true) ∧ Below w.heap.size w w' := by
  have HO := Lib.hid hG
  have HP := Lib.hid hH
  clear hG hH
  have hnI : (n : Int) ≤ 1048576 := by omega
  go_enter Try.func114, Try.ntmps114
  go_wp2_with fail
  go_loopw [5] (fun iv wr => ∃ k : Nat, k ≤ n ∧ iv = .int .i64 k ∧ Hid (Below w.heap.size w wr)) (fun iv _ => n - (intOf iv).toNat)
  case atStart => exact ⟨0, Nat.zero_le _, rfl, Below.refl _ _⟩
  case round =>
    obtain ⟨k, hk, rfl, HZ⟩ := hrel
    by_cases hlt : k < n
    · have hkI : (k : Int) < (n : Int) := by omega
      obtain ⟨g, rfl, hg, hA⟩ : ∃ g, ao = some ⟨g, 0, none⟩ ∧ g < w.heap.size ∧ ∀ k, k < n → RowIn w g k (R k) := HO.out.resolve_left (by omega)
      obtain ⟨h, rfl, hh, hB⟩ : ∃ h, bo = some ⟨h, 0, none⟩ ∧ h < w.heap.size ∧ ∀ k, k < n → RowIn w h k (R k) := HP.out.resolve_left (by omega)
      have HA := Lib.hid hA
      have HB := Lib.hid hB
      have HG := Lib.hid (show Grow w wr g from ⟨HZ.out, Nat.lt_of_lt_of_le hg HZ.out.size⟩)
      have HH := Lib.hid (show Grow w wr h from ⟨HZ.out, Nat.lt_of_lt_of_le hh HZ.out.size⟩)
      clear hA hB
      have KA := Lib.hid ((HA.out k hlt).below HG.out.1 hg)
      have KB := Lib.hid ((HB.out k hlt).below HG.out.1 hh)
      go_wp2_with fail
      go_region_held3 (fun w' => w'.cell? ⟨g, k * 5, none⟩ = some (.int .i64 (R k).i) ∧ w'.cell? ⟨g, k * 5 + 1, none⟩ = some (.int .i64 (R k).g) ∧ w'.cell? ⟨g, k * 5 + 2, none⟩ = some (.int .i64 (R k).y) ∧ w'.cell? ⟨g, k * 5 + 3, none⟩ = some (.int .i64 (R k).x) ∧ w'.cell? ⟨g, k * 5 + 4, none⟩ = some (.bool (R k).nl) ∧ w'.cell? ⟨h, k * 5, none⟩ = some (.int .i64 (R k).i) ∧ w'.cell? ⟨h, k * 5 + 1, none⟩ = some (.int .i64 (R k).g) ∧ w'.cell? ⟨h, k * 5 + 2, none⟩ = some (.int .i64 (R k).y) ∧ w'.cell? ⟨h, k * 5 + 3, none⟩ = some (.int .i64 (R k).x) ∧ w'.cell? ⟨h, k * 5 + 4, none⟩ = some (.bool (R k).nl) ∧ Grow w w' g ∧ Grow w w' h) (first | assumption | exact rr_start KA.out KB.out HG.out HH.out | exact rr_keep (by assumption) (by assumption)) (first | (go_simp; go_at_call 135; (with_reducible refine (law_eqR _ _ _ _ _ _).mono ?_); rintro e9 w9 ⟨rfl, hb⟩))
      all_goals
        have HG2 := Lib.hid (‹_ ∧ _ ∧ _ ∧ _ ∧ _ ∧ _ ∧ _ ∧ _ ∧ _ ∧ _ ∧ Grow w w9 g ∧ Grow w w9 h›.2.2.2.2.2.2.2.2.2.2)
        go_wp2
        go_roundw
        case rel => exact ⟨k + 1, by omega, by go_num, HG2.out.1.1⟩
        case measure => simp [intOf]; omega
    · obtain rfl : k = n := by omega
      have hsd : decide ((k : Int) < (k : Int)) = false := decide_eq_false (by omega)
      go_wp2
      go_ret
      exact ⟨rfl, HZ.out⟩

theorem law_eqRs (g h n c c' : Nat) (R : Nat → Rw) (w : World) (hn : n ≤ 1048576) (hg : g < w.heap.size) (hh : h < w.heap.size) (hG : ∀ k, k < n → RowIn w g k (R k)) (hH : ∀ k, k < n → RowIn w h k (R k)) :
    Calls Try.prog 114 #[.slice (some ⟨g, 0, none⟩) n c, .slice (some ⟨h, 0, none⟩) n c'] w fun e w' => e = .returned (.bool true) ∧ Below w.heap.size w w' :=
  law_eqRsV _ _ n c c' R w hn (.inr ⟨g, rfl, hg, hG⟩) (.inr ⟨h, rfl, hh, hH⟩)
end Go.Proofs.Ytcfcohnkkgickaa
