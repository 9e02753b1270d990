/-
  The walks over the project's total and sum of cells.
-/
import Derived.Test.YtcfcohnkkgickaaRows
import Derived.Test.YtcfcohnkkgickaaCvLim
import Derived.Deep.RegionWith
namespace Go.Proofs.Ytcfcohnkkgickaa
open Go.RowKit Num

set_option maxRecDepth 8000 in
set_option maxHeartbeats 6400000 in
theorem impl_tot (l : List Int) (w : World) (hl : l.length = 12) (h99 : In99 l) :
    Calls Try.prog 100 #[.agg (cv l)] w fun e w' => e = .returned (.int .i64 (hsum l)) ∧ Below w.heap.size w w' := by
  have HL := Lib.hid hl
  have H9 := Lib.hid h99
  have IX0 := Lib.hid (idx_cells hl)
  obtain ⟨x0, x1, x2, x3, x4, x5, x6, x7, x8, x9, x10, x11, hxs⟩ := list12 hl
  have HXS := Lib.hid hxs
  have eV : cv l = #[.int .i64 (x0), .int .i64 (x1), .int .i64 (x2), .int .i64 (x3), .int .i64 (x4), .int .i64 (x5), .int .i64 (x6), .int .i64 (x7), .int .i64 (x8), .int .i64 (x9), .int .i64 (x10), .int .i64 (x11)] := by rw [hxs]; rfl
  obtain ⟨V, hV⟩ : ∃ V, V = Value.agg (cv l) := ⟨_, rfl⟩
  rw [← hV] at IX0
  rw [eV] at hV ⊢
  have HV := Lib.hid hV
  have HB := Lib.hid ((Below.refl w.heap.size w).alloc (Nat.le_refl _) (.cells #[.int .i64 (x0), .int .i64 (x1), .int .i64 (x2), .int .i64 (x3), .int .i64 (x4), .int .i64 (x5), .int .i64 (x6), .int .i64 (x7), .int .i64 (x8), .int .i64 (x9), .int .i64 (x10), .int .i64 (x11)] 126))
  clear hl h99 hxs hV eV
  go_enter Try.func100, Try.ntmps100
  go_wp2_with fail
  rw [← HV.out]
  go_loop [3, 7] (fun sv iv => ∃ k : Nat, k ≤ 12 ∧ iv = .int .i64 (k : Int) ∧ sv = .int .i64 (hsum (l.take k))) (fun _ iv => 12 - (intOf iv).toNat)
  case atStart => exact ⟨0, Nat.zero_le _, rfl, rfl⟩
  case round =>
    obtain ⟨k, hk, rfl, rfl⟩ := hrel
    obtain ⟨s, hs⟩ : ∃ s, s = hsum (l.take k) := ⟨_, rfl⟩
    have s0 : 0 ≤ s := by rw [hs]; exact (H9.out.take k).sum.1
    have s1 : s ≤ 1200 := by have h1 := (H9.out.take k).sum.2; have h2 := HL.out; rw [List.length_take] at h1; rw [hs]; omega
    rw [← hs]
    have HSS := Lib.hid hs
    clear hs
    by_cases hlt : k < 12
    · have hkI : (k : Int) < 12 := by omega
      have hll : k < l.length := by rw [HL.out]; exact hlt
      have ix := IX0.out k hlt
      obtain ⟨x, hx⟩ : ∃ x, x = l.getD k 0 := ⟨_, rfl⟩
      rw [← hx] at ix
      have hx2 := hx.trans (getD_at hll)
      have hx0 : 0 ≤ x := by rw [hx2]; exact (H9.out.at _).1
      have hx1 : x ≤ 99 := by rw [hx2]; exact (H9.out.at _).2
      have N1 := Lib.hid (show s + x = hsum (l.take (k + 1)) by rw [hsum_take hll, HSS.out, hx2])
      clear hx hx2
      go_wp2
      go_round
      case rel => exact ⟨k + 1, by omega, by go_num, int_eq N1.out⟩
      case measure => simp [intOf]; omega
    · obtain rfl : k = 12 := by omega
      have hsd : decide ((12 : Int) < 12) = false := by decide
      have HT := Lib.hid (show l.take 12 = l from by rw [← HL.out, List.take_length])
      go_wp2
      go_ret
      exact ⟨ret_int (by rw [HSS.out, HT.out]), HB.out⟩

set_option maxRecDepth 8000 in
set_option maxHeartbeats 6400000 in
theorem impl_plus (l r : List Int) (w : World) (hl : l.length = 12) (hr : r.length = 12) (h99 : In99 l) (h98 : In99 r) :
    Calls Try.prog 102 #[.agg (cv l), .agg (cv r)] w (CvPost (addC l r) w) := by
  have HL := Lib.hid hl
  have HR := Lib.hid hr
  have H9 := Lib.hid h99
  have H8 := Lib.hid h98
  have HA := Lib.hid (cells_alloc (Below.refl w.heap.size w) l 126 w.heap.size rfl)
  have HD := Lib.hid (cells_alloc HA.out.1 r 126 (w.heap.size + 1) (by simp))
  have HZ := Lib.hid (cells_alloc HD.out.1 (List.replicate 12 0) 126 (w.heap.size + 1 + 1) (by simp))
  have HA2 := Lib.hid ((HA.out.step ((Below.refl _ _).alloc (Nat.le_refl _) (.cells (cv r) 126))).step ((Below.refl _ _).alloc (Nat.le_refl _) (.cells (cv (List.replicate 12 0)) 126)))
  have HD2 := Lib.hid (HD.out.step ((Below.refl _ _).alloc (Nat.le_refl _) (.cells (cv (List.replicate 12 0)) 126)))
  obtain ⟨x0, x1, x2, x3, x4, x5, x6, x7, x8, x9, x10, x11, hxs⟩ := list12 hl
  obtain ⟨y0, y1, y2, y3, y4, y5, y6, y7, y8, y9, y10, y11, hys⟩ := list12 hr
  have HXS := Lib.hid hxs
  have HYS := Lib.hid hys
  have eV : cv l = #[.int .i64 (x0), .int .i64 (x1), .int .i64 (x2), .int .i64 (x3), .int .i64 (x4), .int .i64 (x5), .int .i64 (x6), .int .i64 (x7), .int .i64 (x8), .int .i64 (x9), .int .i64 (x10), .int .i64 (x11)] := by rw [hxs]; rfl
  have eU : cv r = #[.int .i64 (y0), .int .i64 (y1), .int .i64 (y2), .int .i64 (y3), .int .i64 (y4), .int .i64 (y5), .int .i64 (y6), .int .i64 (y7), .int .i64 (y8), .int .i64 (y9), .int .i64 (y10), .int .i64 (y11)] := by rw [hys]; rfl
  rw [eV, eU] at HA2 HD2 HZ ⊢
  clear hl hr h99 h98 hxs hys eV eU HA HD
  go_enter Try.func102, Try.ntmps102
  go_wp2_with fail
  go_loopw [6] (fun iv wr => ∃ k : Nat, k ≤ 12 ∧ iv = .int .i64 (k : Int) ∧ Hid (Cells w wr w.heap.size (addTo k l r)) ∧ Hid (Cells w wr (w.heap.size + 1) r) ∧ Hid (Cells w wr (w.heap.size + 1 + 1) (List.replicate 12 0))) (fun iv _ => 12 - (intOf iv).toNat)
  case atStart => exact ⟨0, Nat.zero_le _, rfl, by rw [addTo_zero]; exact HA2.out, HD2.out, HZ.out⟩
  case round =>
    obtain ⟨k, hk, rfl, HC, HE, HY⟩ := hrel
    clear HZ HA2 HD2
    by_cases hlt : k < 12
    · have hkI : (k : Int) < 12 := by omega
      have hll : k < l.length := by rw [HL.out]; exact hlt
      have hlr : l.length = r.length := by rw [HL.out, HR.out]
      have hrr : k < r.length := by rw [HR.out]; exact hlt
      obtain ⟨c0, f0⟩ := HC.out.at (k := k) (by rw [addTo_len hlr (by omega)]; exact hll)
      obtain ⟨d0, _⟩ := HE.out.at (k := k) hrr
      rw [addTo_at hlr hll] at c0
      rw [getD_at hrr] at d0
      obtain ⟨x, hx⟩ : ∃ x, x = l[k] := ⟨_, rfl⟩
      obtain ⟨y, hy⟩ : ∃ y, y = r[k] := ⟨_, rfl⟩
      rw [← hx] at c0
      rw [← hy] at d0
      have hx0 : 0 ≤ x := by rw [hx]; exact (H9.out.at _).1
      have hx1 : x ≤ 99 := by rw [hx]; exact (H9.out.at _).2
      have hy0 : 0 ≤ y := by rw [hy]; exact (H8.out.at _).1
      have hy1 : y ≤ 99 := by rw [hy]; exact (H8.out.at _).2
      have hw : IntKind.i64.wrap (x + y) = x + y := by rw [IntKind.wrap_i64]; omega
      have HP := Lib.hid (show Cells w (wr.drew.setCell ⟨w.heap.size, k, none⟩ (.int .i64 (x + y))) w.heap.size (addTo (k + 1) l r) by
        rw [← addTo_set hlr hll, ← hx, ← hy]; exact (HC.out.step (Below.refl _ _).drew).put (by rw [addTo_len hlr (by omega)]; exact hll) _)
      have HE2 := Lib.hid (show Cells w (wr.drew.setCell ⟨w.heap.size, k, none⟩ (.int .i64 (x + y))) (w.heap.size + 1) r from (HE.out.step (Below.refl _ _).drew).other (by simp) (Nat.le_refl _) _)
      have HY2 := Lib.hid (show Cells w (wr.drew.setCell ⟨w.heap.size, k, none⟩ (.int .i64 (x + y))) (w.heap.size + 1 + 1) (List.replicate 12 0) from (HY.out.step (Below.refl _ _).drew).other (by simp; omega) (Nat.le_refl _) _)
      clear hx hy hll hlr hrr hx0 hx1 hy0 hy1
      go_wp2_with fail
      go_region_with fail
      all_goals
        go_wp2
        go_roundw
        case rel => exact ⟨k + 1, by omega, by go_num, HP.out, HE2.out, HY2.out⟩
        case measure => simp [intOf]; omega
    · obtain rfl : k = 12 := by omega
      have hsd : decide ((12 : Int) < 12) = false := by decide
      have hall : addTo 12 l r = addC l r := addTo_all (by rw [HL.out, HR.out]) (by rw [HL.out]; exact Nat.le_refl _)
      have HC9 := Lib.hid (show Cells w wr w.heap.size (addC l r) by rw [← hall]; exact HC.out)
      have HLA := Lib.hid (show (addC l r).length = 12 by rw [addC_len (by rw [HL.out, HR.out]), HL.out])
      clear hall
      have c0 : wr.cell? ⟨w.heap.size, 0, none⟩ = some (.int .i64 (x0 + y0)) := by have h := (HC9.out.at (k := 0) (by rw [HLA.out]; decide)).1; rw [HXS.out, HYS.out] at h; exact h
      have c1 : wr.cell? ⟨w.heap.size, 1, none⟩ = some (.int .i64 (x1 + y1)) := by have h := (HC9.out.at (k := 1) (by rw [HLA.out]; decide)).1; rw [HXS.out, HYS.out] at h; exact h
      have c2 : wr.cell? ⟨w.heap.size, 2, none⟩ = some (.int .i64 (x2 + y2)) := by have h := (HC9.out.at (k := 2) (by rw [HLA.out]; decide)).1; rw [HXS.out, HYS.out] at h; exact h
      have c3 : wr.cell? ⟨w.heap.size, 3, none⟩ = some (.int .i64 (x3 + y3)) := by have h := (HC9.out.at (k := 3) (by rw [HLA.out]; decide)).1; rw [HXS.out, HYS.out] at h; exact h
      have c4 : wr.cell? ⟨w.heap.size, 4, none⟩ = some (.int .i64 (x4 + y4)) := by have h := (HC9.out.at (k := 4) (by rw [HLA.out]; decide)).1; rw [HXS.out, HYS.out] at h; exact h
      have c5 : wr.cell? ⟨w.heap.size, 5, none⟩ = some (.int .i64 (x5 + y5)) := by have h := (HC9.out.at (k := 5) (by rw [HLA.out]; decide)).1; rw [HXS.out, HYS.out] at h; exact h
      have c6 : wr.cell? ⟨w.heap.size, 6, none⟩ = some (.int .i64 (x6 + y6)) := by have h := (HC9.out.at (k := 6) (by rw [HLA.out]; decide)).1; rw [HXS.out, HYS.out] at h; exact h
      have c7 : wr.cell? ⟨w.heap.size, 7, none⟩ = some (.int .i64 (x7 + y7)) := by have h := (HC9.out.at (k := 7) (by rw [HLA.out]; decide)).1; rw [HXS.out, HYS.out] at h; exact h
      have c8 : wr.cell? ⟨w.heap.size, 8, none⟩ = some (.int .i64 (x8 + y8)) := by have h := (HC9.out.at (k := 8) (by rw [HLA.out]; decide)).1; rw [HXS.out, HYS.out] at h; exact h
      have c9 : wr.cell? ⟨w.heap.size, 9, none⟩ = some (.int .i64 (x9 + y9)) := by have h := (HC9.out.at (k := 9) (by rw [HLA.out]; decide)).1; rw [HXS.out, HYS.out] at h; exact h
      have c10 : wr.cell? ⟨w.heap.size, 10, none⟩ = some (.int .i64 (x10 + y10)) := by have h := (HC9.out.at (k := 10) (by rw [HLA.out]; decide)).1; rw [HXS.out, HYS.out] at h; exact h
      have c11 : wr.cell? ⟨w.heap.size, 11, none⟩ = some (.int .i64 (x11 + y11)) := by have h := (HC9.out.at (k := 11) (by rw [HLA.out]; decide)).1; rw [HXS.out, HYS.out] at h; exact h
      have z0 : wr.cell? ⟨w.heap.size + 1 + 1, 0, none⟩ = some (.int .i64 (0)) := by have h := (HY.out.at (k := 0) (by rw [List.length_replicate]; decide)).1; exact h
      have z1 : wr.cell? ⟨w.heap.size + 1 + 1, 1, none⟩ = some (.int .i64 (0)) := by have h := (HY.out.at (k := 1) (by rw [List.length_replicate]; decide)).1; exact h
      have z2 : wr.cell? ⟨w.heap.size + 1 + 1, 2, none⟩ = some (.int .i64 (0)) := by have h := (HY.out.at (k := 2) (by rw [List.length_replicate]; decide)).1; exact h
      have z3 : wr.cell? ⟨w.heap.size + 1 + 1, 3, none⟩ = some (.int .i64 (0)) := by have h := (HY.out.at (k := 3) (by rw [List.length_replicate]; decide)).1; exact h
      have z4 : wr.cell? ⟨w.heap.size + 1 + 1, 4, none⟩ = some (.int .i64 (0)) := by have h := (HY.out.at (k := 4) (by rw [List.length_replicate]; decide)).1; exact h
      have z5 : wr.cell? ⟨w.heap.size + 1 + 1, 5, none⟩ = some (.int .i64 (0)) := by have h := (HY.out.at (k := 5) (by rw [List.length_replicate]; decide)).1; exact h
      have z6 : wr.cell? ⟨w.heap.size + 1 + 1, 6, none⟩ = some (.int .i64 (0)) := by have h := (HY.out.at (k := 6) (by rw [List.length_replicate]; decide)).1; exact h
      have z7 : wr.cell? ⟨w.heap.size + 1 + 1, 7, none⟩ = some (.int .i64 (0)) := by have h := (HY.out.at (k := 7) (by rw [List.length_replicate]; decide)).1; exact h
      have z8 : wr.cell? ⟨w.heap.size + 1 + 1, 8, none⟩ = some (.int .i64 (0)) := by have h := (HY.out.at (k := 8) (by rw [List.length_replicate]; decide)).1; exact h
      have z9 : wr.cell? ⟨w.heap.size + 1 + 1, 9, none⟩ = some (.int .i64 (0)) := by have h := (HY.out.at (k := 9) (by rw [List.length_replicate]; decide)).1; exact h
      have z10 : wr.cell? ⟨w.heap.size + 1 + 1, 10, none⟩ = some (.int .i64 (0)) := by have h := (HY.out.at (k := 10) (by rw [List.length_replicate]; decide)).1; exact h
      have z11 : wr.cell? ⟨w.heap.size + 1 + 1, 11, none⟩ = some (.int .i64 (0)) := by have h := (HY.out.at (k := 11) (by rw [List.length_replicate]; decide)).1; exact h
      have f0 : wr.frozen? ⟨w.heap.size + 1 + 1, 0, none⟩ = false := (HY.out.at (k := 0) (by rw [List.length_replicate]; decide)).2
      have f1 : wr.frozen? ⟨w.heap.size + 1 + 1, 1, none⟩ = false := (HY.out.at (k := 1) (by rw [List.length_replicate]; decide)).2
      have f2 : wr.frozen? ⟨w.heap.size + 1 + 1, 2, none⟩ = false := (HY.out.at (k := 2) (by rw [List.length_replicate]; decide)).2
      have f3 : wr.frozen? ⟨w.heap.size + 1 + 1, 3, none⟩ = false := (HY.out.at (k := 3) (by rw [List.length_replicate]; decide)).2
      have f4 : wr.frozen? ⟨w.heap.size + 1 + 1, 4, none⟩ = false := (HY.out.at (k := 4) (by rw [List.length_replicate]; decide)).2
      have f5 : wr.frozen? ⟨w.heap.size + 1 + 1, 5, none⟩ = false := (HY.out.at (k := 5) (by rw [List.length_replicate]; decide)).2
      have f6 : wr.frozen? ⟨w.heap.size + 1 + 1, 6, none⟩ = false := (HY.out.at (k := 6) (by rw [List.length_replicate]; decide)).2
      have f7 : wr.frozen? ⟨w.heap.size + 1 + 1, 7, none⟩ = false := (HY.out.at (k := 7) (by rw [List.length_replicate]; decide)).2
      have f8 : wr.frozen? ⟨w.heap.size + 1 + 1, 8, none⟩ = false := (HY.out.at (k := 8) (by rw [List.length_replicate]; decide)).2
      have f9 : wr.frozen? ⟨w.heap.size + 1 + 1, 9, none⟩ = false := (HY.out.at (k := 9) (by rw [List.length_replicate]; decide)).2
      have f10 : wr.frozen? ⟨w.heap.size + 1 + 1, 10, none⟩ = false := (HY.out.at (k := 10) (by rw [List.length_replicate]; decide)).2
      have f11 : wr.frozen? ⟨w.heap.size + 1 + 1, 11, none⟩ = false := (HY.out.at (k := 11) (by rw [List.length_replicate]; decide)).2
      have zl := HY.out.2.2.1.1
      have HB := Lib.hid HC9.out.1
      clear HC9 HE HY HC
      go_wp2
      exact bodyPost_ret (v := .agg #[.int .i64 (x0 + y0), .int .i64 (x1 + y1), .int .i64 (x2 + y2), .int .i64 (x3 + y3), .int .i64 (x4 + y4), .int .i64 (x5 + y5), .int .i64 (x6 + y6), .int .i64 (x7 + y7), .int .i64 (x8 + y8), .int .i64 (x9 + y9), .int .i64 (x10 + y10), .int .i64 (x11 + y11)]) (by simp [results, Try.results102, go_sem, z0, f0, z1, f1, z2, f2, z3, f3, z4, f4, z5, f5, z6, f6, z7, f7, z8, f8, z9, f9, z10, f10, z11, f11, zl]) rfl ⟨by rw [HXS.out, HYS.out]; rfl, ((((((((((((HB.out.setCell (show _ ≤ (⟨w.heap.size + 1 + 1, 0, none⟩ : Addr).block from (by simp only; omega)) _).setCell (show _ ≤ (⟨w.heap.size + 1 + 1, 1, none⟩ : Addr).block from (by simp only; omega)) _).setCell (show _ ≤ (⟨w.heap.size + 1 + 1, 2, none⟩ : Addr).block from (by simp only; omega)) _).setCell (show _ ≤ (⟨w.heap.size + 1 + 1, 3, none⟩ : Addr).block from (by simp only; omega)) _).setCell (show _ ≤ (⟨w.heap.size + 1 + 1, 4, none⟩ : Addr).block from (by simp only; omega)) _).setCell (show _ ≤ (⟨w.heap.size + 1 + 1, 5, none⟩ : Addr).block from (by simp only; omega)) _).setCell (show _ ≤ (⟨w.heap.size + 1 + 1, 6, none⟩ : Addr).block from (by simp only; omega)) _).setCell (show _ ≤ (⟨w.heap.size + 1 + 1, 7, none⟩ : Addr).block from (by simp only; omega)) _).setCell (show _ ≤ (⟨w.heap.size + 1 + 1, 8, none⟩ : Addr).block from (by simp only; omega)) _).setCell (show _ ≤ (⟨w.heap.size + 1 + 1, 9, none⟩ : Addr).block from (by simp only; omega)) _).setCell (show _ ≤ (⟨w.heap.size + 1 + 1, 10, none⟩ : Addr).block from (by simp only; omega)) _).setCell (show _ ≤ (⟨w.heap.size + 1 + 1, 11, none⟩ : Addr).block from (by simp only; omega)) _)⟩
end Go.Proofs.Ytcfcohnkkgickaa
