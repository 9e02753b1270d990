/-
  The walks over the laws' comparing, marking and reading of slices of ints.
-/
import Derived.Test.YtcfcohnkkgickaaDoorRows
import Derived.Test.YtcfcohnkkgickaaDoorIntOwn
import Derived.Deep.QuietTactic
import Derived.BigQuiet
namespace Go.Proofs.YtcfcohnkkgickaaDoor
open Go.RowKit Num

theorem IntsVal.head {w : World} {ao : Option Addr} {l : List Int} (h : IntsVal w ao l) (hn : 0 < l.length) : ∃ g, ao = some ⟨g, 0, none⟩ ∧ g < w.heap.size ∧ ∀ k (hk : k < l.length), w.cell? ⟨g, k, none⟩ = some (.int .i64 l[k]) := by
  rcases h with h | h
  · omega
  · exact h

set_option maxRecDepth 8000 in
set_option maxHeartbeats 3200000 in
/-- Two slices of the same ints. -/
theorem law_eqIs (ao bo : Option Addr) (n c c' : Nat) (l : List Int) (w : World) (hl : l.length = n) (hn : n ≤ 1099511627776) (hG : IntsVal w ao l) (hH : IntsVal w bo l) :
    Calls Tryd.prog 43 #[.slice ao n c, .slice bo n c'] w fun e w' => e = .returned (.bool true) ∧ Below w.heap.size w w' := by
  have HG := Lib.hid hG
  have HH := Lib.hid hH
  have HL := Lib.hid hl
  clear hG hH hl
  have hnI : (n : Int) ≤ 1099511627776 := by omega
  go_enter Tryd.func43, Tryd.ntmps43
  go_wp2_with fail
  go_loopw [5] (fun iv wr => ∃ k : Nat, k ≤ n ∧ iv = .int .i64 k ∧ Hid (Below w.heap.size w wr)) (fun iv _ => n - (intOf iv).toNat)
  case atStart => exact ⟨0, Nat.zero_le _, rfl, Below.refl _ _⟩
  case round =>
    obtain ⟨k, hk, rfl, HB⟩ := hrel
    by_cases hlt : k < n
    · have hkI : (k : Int) < (n : Int) := by omega
      obtain ⟨g, rfl, hg, hR⟩ := (HG.out.below HB.out).head (by rw [HL.out]; omega)
      obtain ⟨g', rfl, hg', hR'⟩ := (HH.out.below HB.out).head (by rw [HL.out]; omega)
      have c0 := hR k (by rw [HL.out]; exact hlt)
      have c1 := hR' k (by rw [HL.out]; exact hlt)
      obtain ⟨x, hx⟩ : ∃ x, x = l[k]'(by rw [HL.out]; exact hlt) := ⟨_, rfl⟩
      rw [← hx] at c0 c1
      clear hR hR' hx
      have q : (x == x) = true := beq_self_eq_true x
      go_wp2_with fail
      go_quiet (fail)
      go_wp2
      go_roundw
      case rel => exact ⟨k + 1, by omega, by go_num, HB.out.trans ((below_drewN (Below.refl _ _) _).mono HB.out.size)⟩
      case measure => simp [intOf]; omega
    · obtain rfl : k = n := by omega
      have hsd : decide ((k : Int) < (k : Int)) = false := decide_eq_false (by omega)
      go_wp2
      go_ret
      exact ⟨rfl, HB.out⟩

/-- The ints that the laws write, from k on. -/
def markI : Int → Nat → List Int
  | _, 0 => []
  | k, n + 1 => k :: markI (k + 1) n
theorem markI_len : ∀ (n : Nat) (k : Int), (markI k n).length = n
  | 0, _ => rfl
  | n + 1, k => by show (markI (k + 1) n).length + 1 = n + 1; rw [markI_len]
theorem markI_at : ∀ (n : Nat) (k : Int) (j : Nat) (hj : j < (markI k n).length), (markI k n)[j] = k + (j : Int)
  | n + 1, k, 0, _ => by show k = k + ((0 : Nat) : Int); omega
  | n + 1, k, j + 1, hj => by
    show (markI (k + 1) n)[j]'(by simpa [markI] using hj) = _
    rw [markI_at n (k + 1) j]; omega

/-- The first k ints of block g are marked; nothing else has changed since W. -/
def MarkIs (W w : World) (g n k : Nat) (k0 : Int) : Prop := Chg [g] W w ∧ OwnBlk w g n ∧ ∀ m, m < k → w.cell? ⟨g, m, none⟩ = some (.int .i64 (k0 + (m : Int)))
theorem MarkIs.put {W w : World} {g n k : Nat} {k0 : Int} (h : MarkIs W w g n k k0) (hk : k < n) : MarkIs W (w.setCell ⟨g, k, none⟩ (.int .i64 (k0 + (k : Int)))) g n (k + 1) k0 := by
  obtain ⟨h1, h2, h3⟩ := h
  refine ⟨h1.set (by simp) _, h2.set _ _, fun m hm => ?_⟩
  by_cases e : m = k
  · subst e
    obtain ⟨⟨v, hv⟩, _⟩ := h2.2 m hk
    exact World.cell?_setCell_same (w := w) (a := ⟨g, m, none⟩) (v := .int .i64 (k0 + (m : Int))) hv
  · rw [World.cell?_setCell_other (w := w) (a := ⟨g, k, none⟩) (b := ⟨g, m, none⟩) (v := .int .i64 (k0 + (k : Int))) (fun e' => by simp only [Addr.mk.injEq, true_and, and_true] at e'; omega)]
    exact h3 m (by omega)

/-- Comparing two slices of the same ints. -/
theorem law_eqI (v v' : Value) (l : List Int) (fp fp' : List Nat) (w : World) (hn : l.length ≤ 1099511627776) (h : SliceRep intTy w v l fp) (h' : SliceRep intTy w v' l fp') :
    Calls Tryd.prog 43 #[v, v'] w fun e w' => e = .returned (.bool true) ∧ Below w.heap.size w w' := by
  obtain ⟨ao, cap, rfl, _, hV⟩ := ints_open h
  obtain ⟨bo, cap', rfl, _, hV'⟩ := ints_open h'
  exact law_eqIs ao bo _ _ _ l w rfl hn hV hV'
end Go.Proofs.YtcfcohnkkgickaaDoor
