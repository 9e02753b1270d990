/-
  The walks over the project's total and sum of cells.
-/
import Derived.Test.YtcfcohnkkgickaaDoorRows
import Derived.Test.YtcfcohnkkgickaaDoorCvLim
import Derived.Deep.RegionWith
namespace Go.Proofs.YtcfcohnkkgickaaDoor
open Go.RowKit Num

set_option maxRecDepth 8000 in
set_option maxHeartbeats 6400000 in
theorem impl_tot (l : List Int) (w : World) (hl : l.length = 12) (h99 : In99 l) :
    Calls Tryd.prog 67 #[.agg (cv l)] w fun e w' => e = .returned (.int .i64 (hsum l)) ∧ Below w.heap.size w w' := by
  have HL := Lib.hid hl
  have H9 := Lib.hid h99
  have IX0 := Lib.hid (idx_cells hl)
  obtain ⟨x0, x1, x2, x3, x4, x5, x6, x7, x8, x9, x10, x11, hxs⟩ := list12 hl
  have HXS := Lib.hid hxs
  have eV : cv l = #[.int .i64 (x0), .int .i64 (x1), .int .i64 (x2), .int .i64 (x3), .int .i64 (x4), .int .i64 (x5), .int .i64 (x6), .int .i64 (x7), .int .i64 (x8), .int .i64 (x9), .int .i64 (x10), .int .i64 (x11)] := by rw [hxs]; rfl
  obtain ⟨V, hV⟩ : ∃ V, V = Value.agg (cv l) := ⟨_, rfl⟩
  rw [← hV] at IX0
  rw [eV] at hV ⊢
  have HV := Lib.hid hV
  have HB := Lib.hid ((Below.refl w.heap.size w).alloc (Nat.le_refl _) (.cells #[.int .i64 (x0), .int .i64 (x1), .int .i64 (x2), .int .i64 (x3), .int .i64 (x4), .int .i64 (x5), .int .i64 (x6), .int .i64 (x7), .int .i64 (x8), .int .i64 (x9), .int .i64 (x10), .int .i64 (x11)] 101))
  clear hl h99 hxs hV eV
  go_enter Tryd.func67, Tryd.ntmps67
  go_wp2_with fail
  rw [← HV.out]
  go_loop [3, 7] (fun sv iv => ∃ k : Nat, k ≤ 12 ∧ iv = .int .i64 (k : Int) ∧ sv = .int .i64 (hsum (l.take k))) (fun _ iv => 12 - (intOf iv).toNat)
  case atStart => exact ⟨0, Nat.zero_le _, rfl, rfl⟩
  case round =>
    obtain ⟨k, hk, rfl, rfl⟩ := hrel
    obtain ⟨s, hs⟩ : ∃ s, s = hsum (l.take k) := ⟨_, rfl⟩
    have s0 : 0 ≤ s := by rw [hs]; exact (H9.out.take k).sum.1
    have s1 : s ≤ 1200 := by have h1 := (H9.out.take k).sum.2; have h2 := HL.out; rw [List.length_take] at h1; rw [hs]; omega
    rw [← hs]
    have HSS := Lib.hid hs
    clear hs
    by_cases hlt : k < 12
    · have hkI : (k : Int) < 12 := by omega
      have hll : k < l.length := by rw [HL.out]; exact hlt
      have ix := IX0.out k hlt
      obtain ⟨x, hx⟩ : ∃ x, x = l.getD k 0 := ⟨_, rfl⟩
      rw [← hx] at ix
      have hx2 := hx.trans (getD_at hll)
      have hx0 : 0 ≤ x := by rw [hx2]; exact (H9.out.at _).1
      have hx1 : x ≤ 99 := by rw [hx2]; exact (H9.out.at _).2
      have N1 := Lib.hid (show s + x = hsum (l.take (k + 1)) by rw [hsum_take hll, HSS.out, hx2])
      clear hx hx2
      go_wp2
      go_round
      case rel => exact ⟨k + 1, by omega, by go_num, int_eq N1.out⟩
      case measure => simp [intOf]; omega
    · obtain rfl : k = 12 := by omega
      have hsd : decide ((12 : Int) < 12) = false := by decide
      have HT := Lib.hid (show l.take 12 = l from by rw [← HL.out, List.take_length])
      go_wp2
      go_ret
      exact ⟨ret_int (by rw [HSS.out, HT.out]), HB.out⟩

end Go.Proofs.YtcfcohnkkgickaaDoor
