/-
  The walk over the project's limiting of cells.
-/
import Derived.Test.YtcfcohnkkgickaaRows
import Derived.Test.YtcfcohnkkgickaaCvPlain
import Derived.Test.YtcfcohnkkgickaaKeep
import Derived.Lib.MinMax
namespace Go.Proofs.Ytcfcohnkkgickaa
open Go.RowKit Num

/-- What a function leaves that hands cells back by value. -/
def CvPost (l : List Int) (w : World) (e : Ending) (w' : World) : Prop := e = .returned (.agg (cv l)) ∧ Below w.heap.size w w'

set_option maxRecDepth 8000 in
set_option maxHeartbeats 6400000 in
theorem impl_lim (l : List Int) (w : World) (hl : l.length = 12) :
    Calls Try.prog 140 #[.agg (cv l)] w (CvPost (limL l) w) := by
  have HL := Lib.hid hl
  have IX0 := Lib.hid (idx_cells hl)
  have HA := Lib.hid (cells_alloc (Below.refl w.heap.size w) l 126 w.heap.size rfl)
  obtain ⟨x0, x1, x2, x3, x4, x5, x6, x7, x8, x9, x10, x11, hxs⟩ := list12 hl
  have HXS := Lib.hid hxs
  have eV : cv l = #[.int .i64 x0, .int .i64 x1, .int .i64 x2, .int .i64 x3, .int .i64 x4, .int .i64 x5, .int .i64 x6, .int .i64 x7, .int .i64 x8, .int .i64 x9, .int .i64 x10, .int .i64 x11] := by rw [hxs]; rfl
  obtain ⟨V, hV⟩ : ∃ V, V = Value.agg (cv l) := ⟨_, rfl⟩
  rw [← hV] at IX0
  rw [eV] at hV HA ⊢
  have HV := Lib.hid hV
  have HR := Lib.hid (cells_alloc (HA.out.1) (List.replicate 12 0) 126 (w.heap.size + 1) (by simp))
  have HA2 := Lib.hid (HA.out.step ((Below.refl _ _).alloc (Nat.le_refl _) (.cells (cv (List.replicate 12 0)) 126)))
  clear hl hxs hV eV
  go_enter Try.func140, Try.ntmps140
  go_wp2_with fail
  rw [← HV.out]
  go_loopw [6] (fun iv wr => ∃ k : Nat, k ≤ 12 ∧ iv = .int .i64 (k : Int) ∧ Hid (Cells w wr w.heap.size (limTo k l)) ∧ Hid (Cells w wr (w.heap.size + 1) (List.replicate 12 0))) (fun iv _ => 12 - (intOf iv).toNat)
  case atStart => exact ⟨0, Nat.zero_le _, rfl, by rw [limTo_zero]; exact HA2.out, HR.out⟩
  case round =>
    obtain ⟨k, hk, rfl, HC, HZ⟩ := hrel
    clear HR HA2 HA
    by_cases hlt : k < 12
    · have hkI : (k : Int) < 12 := by omega
      have hll : k < l.length := by rw [HL.out]; exact hlt
      have ix := IX0.out k hlt
      obtain ⟨x, hx⟩ : ∃ x, x = l.getD k 0 := ⟨_, rfl⟩
      rw [← hx] at ix
      have HX := Lib.hid (hx.trans (getD_at hll))
      obtain ⟨c0, f0⟩ := HC.out.at (k := k) (by rw [limTo_len (by omega)]; exact hll)
      have HP := Lib.hid (show Cells w (wr.setCell ⟨w.heap.size, k, none⟩ (.int .i64 (min (max x 0) 99))) w.heap.size (limTo (k + 1) l) by
        rw [← limTo_set hll, ← HX.out]; exact HC.out.put (by rw [limTo_len (by omega)]; exact hll) _)
      have HZ2 := Lib.hid (show Cells w (wr.setCell ⟨w.heap.size, k, none⟩ (.int .i64 (min (max x 0) 99))) (w.heap.size + 1) (List.replicate 12 0) from HZ.out.other (by simp) (Nat.le_refl _) _)
      clear hx
      go_wp2
      go_roundw
      case rel => exact ⟨k + 1, by omega, by go_num, HP.out, HZ2.out⟩
      case measure => simp [intOf]; omega
    · obtain rfl : k = 12 := by omega
      have hsd : decide ((12 : Int) < 12) = false := by decide
      have hall : limTo 12 l = limL l := limTo_all (by rw [HL.out]; exact Nat.le_refl _)
      have HC9 := Lib.hid (show Cells w wr w.heap.size (limL l) by rw [← hall]; exact HC.out)
      clear hall
      -- TAIL
      have c0 : wr.cell? ⟨w.heap.size, 0, none⟩ = some (.int .i64 (lim1 x0)) := by have h := (HC9.out.at (k := 0) (by rw [limL_len, HL.out]; decide)).1; rw [HXS.out] at h; exact h
      have c1 : wr.cell? ⟨w.heap.size, 1, none⟩ = some (.int .i64 (lim1 x1)) := by have h := (HC9.out.at (k := 1) (by rw [limL_len, HL.out]; decide)).1; rw [HXS.out] at h; exact h
      have c2 : wr.cell? ⟨w.heap.size, 2, none⟩ = some (.int .i64 (lim1 x2)) := by have h := (HC9.out.at (k := 2) (by rw [limL_len, HL.out]; decide)).1; rw [HXS.out] at h; exact h
      have c3 : wr.cell? ⟨w.heap.size, 3, none⟩ = some (.int .i64 (lim1 x3)) := by have h := (HC9.out.at (k := 3) (by rw [limL_len, HL.out]; decide)).1; rw [HXS.out] at h; exact h
      have c4 : wr.cell? ⟨w.heap.size, 4, none⟩ = some (.int .i64 (lim1 x4)) := by have h := (HC9.out.at (k := 4) (by rw [limL_len, HL.out]; decide)).1; rw [HXS.out] at h; exact h
      have c5 : wr.cell? ⟨w.heap.size, 5, none⟩ = some (.int .i64 (lim1 x5)) := by have h := (HC9.out.at (k := 5) (by rw [limL_len, HL.out]; decide)).1; rw [HXS.out] at h; exact h
      have c6 : wr.cell? ⟨w.heap.size, 6, none⟩ = some (.int .i64 (lim1 x6)) := by have h := (HC9.out.at (k := 6) (by rw [limL_len, HL.out]; decide)).1; rw [HXS.out] at h; exact h
      have c7 : wr.cell? ⟨w.heap.size, 7, none⟩ = some (.int .i64 (lim1 x7)) := by have h := (HC9.out.at (k := 7) (by rw [limL_len, HL.out]; decide)).1; rw [HXS.out] at h; exact h
      have c8 : wr.cell? ⟨w.heap.size, 8, none⟩ = some (.int .i64 (lim1 x8)) := by have h := (HC9.out.at (k := 8) (by rw [limL_len, HL.out]; decide)).1; rw [HXS.out] at h; exact h
      have c9 : wr.cell? ⟨w.heap.size, 9, none⟩ = some (.int .i64 (lim1 x9)) := by have h := (HC9.out.at (k := 9) (by rw [limL_len, HL.out]; decide)).1; rw [HXS.out] at h; exact h
      have c10 : wr.cell? ⟨w.heap.size, 10, none⟩ = some (.int .i64 (lim1 x10)) := by have h := (HC9.out.at (k := 10) (by rw [limL_len, HL.out]; decide)).1; rw [HXS.out] at h; exact h
      have c11 : wr.cell? ⟨w.heap.size, 11, none⟩ = some (.int .i64 (lim1 x11)) := by have h := (HC9.out.at (k := 11) (by rw [limL_len, HL.out]; decide)).1; rw [HXS.out] at h; exact h
      have z0 : wr.cell? ⟨w.heap.size + 1, 0, none⟩ = some (.int .i64 (0)) := by have h := (HZ.out.at (k := 0) (by rw [List.length_replicate]; decide)).1; exact h
      have z1 : wr.cell? ⟨w.heap.size + 1, 1, none⟩ = some (.int .i64 (0)) := by have h := (HZ.out.at (k := 1) (by rw [List.length_replicate]; decide)).1; exact h
      have z2 : wr.cell? ⟨w.heap.size + 1, 2, none⟩ = some (.int .i64 (0)) := by have h := (HZ.out.at (k := 2) (by rw [List.length_replicate]; decide)).1; exact h
      have z3 : wr.cell? ⟨w.heap.size + 1, 3, none⟩ = some (.int .i64 (0)) := by have h := (HZ.out.at (k := 3) (by rw [List.length_replicate]; decide)).1; exact h
      have z4 : wr.cell? ⟨w.heap.size + 1, 4, none⟩ = some (.int .i64 (0)) := by have h := (HZ.out.at (k := 4) (by rw [List.length_replicate]; decide)).1; exact h
      have z5 : wr.cell? ⟨w.heap.size + 1, 5, none⟩ = some (.int .i64 (0)) := by have h := (HZ.out.at (k := 5) (by rw [List.length_replicate]; decide)).1; exact h
      have z6 : wr.cell? ⟨w.heap.size + 1, 6, none⟩ = some (.int .i64 (0)) := by have h := (HZ.out.at (k := 6) (by rw [List.length_replicate]; decide)).1; exact h
      have z7 : wr.cell? ⟨w.heap.size + 1, 7, none⟩ = some (.int .i64 (0)) := by have h := (HZ.out.at (k := 7) (by rw [List.length_replicate]; decide)).1; exact h
      have z8 : wr.cell? ⟨w.heap.size + 1, 8, none⟩ = some (.int .i64 (0)) := by have h := (HZ.out.at (k := 8) (by rw [List.length_replicate]; decide)).1; exact h
      have z9 : wr.cell? ⟨w.heap.size + 1, 9, none⟩ = some (.int .i64 (0)) := by have h := (HZ.out.at (k := 9) (by rw [List.length_replicate]; decide)).1; exact h
      have z10 : wr.cell? ⟨w.heap.size + 1, 10, none⟩ = some (.int .i64 (0)) := by have h := (HZ.out.at (k := 10) (by rw [List.length_replicate]; decide)).1; exact h
      have z11 : wr.cell? ⟨w.heap.size + 1, 11, none⟩ = some (.int .i64 (0)) := by have h := (HZ.out.at (k := 11) (by rw [List.length_replicate]; decide)).1; exact h
      have f0 : wr.frozen? ⟨w.heap.size + 1, 0, none⟩ = false := (HZ.out.at (k := 0) (by rw [List.length_replicate]; decide)).2
      have f1 : wr.frozen? ⟨w.heap.size + 1, 1, none⟩ = false := (HZ.out.at (k := 1) (by rw [List.length_replicate]; decide)).2
      have f2 : wr.frozen? ⟨w.heap.size + 1, 2, none⟩ = false := (HZ.out.at (k := 2) (by rw [List.length_replicate]; decide)).2
      have f3 : wr.frozen? ⟨w.heap.size + 1, 3, none⟩ = false := (HZ.out.at (k := 3) (by rw [List.length_replicate]; decide)).2
      have f4 : wr.frozen? ⟨w.heap.size + 1, 4, none⟩ = false := (HZ.out.at (k := 4) (by rw [List.length_replicate]; decide)).2
      have f5 : wr.frozen? ⟨w.heap.size + 1, 5, none⟩ = false := (HZ.out.at (k := 5) (by rw [List.length_replicate]; decide)).2
      have f6 : wr.frozen? ⟨w.heap.size + 1, 6, none⟩ = false := (HZ.out.at (k := 6) (by rw [List.length_replicate]; decide)).2
      have f7 : wr.frozen? ⟨w.heap.size + 1, 7, none⟩ = false := (HZ.out.at (k := 7) (by rw [List.length_replicate]; decide)).2
      have f8 : wr.frozen? ⟨w.heap.size + 1, 8, none⟩ = false := (HZ.out.at (k := 8) (by rw [List.length_replicate]; decide)).2
      have f9 : wr.frozen? ⟨w.heap.size + 1, 9, none⟩ = false := (HZ.out.at (k := 9) (by rw [List.length_replicate]; decide)).2
      have f10 : wr.frozen? ⟨w.heap.size + 1, 10, none⟩ = false := (HZ.out.at (k := 10) (by rw [List.length_replicate]; decide)).2
      have f11 : wr.frozen? ⟨w.heap.size + 1, 11, none⟩ = false := (HZ.out.at (k := 11) (by rw [List.length_replicate]; decide)).2
      have zl := HZ.out.2.2.1.1
      have HB := Lib.hid HC9.out.1
      clear HC9 HZ HC
      go_wp2
      exact bodyPost_ret (v := .agg #[.int .i64 (lim1 x0), .int .i64 (lim1 x1), .int .i64 (lim1 x2), .int .i64 (lim1 x3), .int .i64 (lim1 x4), .int .i64 (lim1 x5), .int .i64 (lim1 x6), .int .i64 (lim1 x7), .int .i64 (lim1 x8), .int .i64 (lim1 x9), .int .i64 (lim1 x10), .int .i64 (lim1 x11)]) (by simp [results, Try.results140, go_sem, z0, f0, z1, f1, z2, f2, z3, f3, z4, f4, z5, f5, z6, f6, z7, f7, z8, f8, z9, f9, z10, f10, z11, f11, zl]) rfl ⟨by rw [HXS.out]; rfl, ((((((((((((HB.out.setCell (show _ ≤ (⟨w.heap.size + 1, 0, none⟩ : Addr).block from Nat.le_succ _) _).setCell (show _ ≤ (⟨w.heap.size + 1, 1, none⟩ : Addr).block from Nat.le_succ _) _).setCell (show _ ≤ (⟨w.heap.size + 1, 2, none⟩ : Addr).block from Nat.le_succ _) _).setCell (show _ ≤ (⟨w.heap.size + 1, 3, none⟩ : Addr).block from Nat.le_succ _) _).setCell (show _ ≤ (⟨w.heap.size + 1, 4, none⟩ : Addr).block from Nat.le_succ _) _).setCell (show _ ≤ (⟨w.heap.size + 1, 5, none⟩ : Addr).block from Nat.le_succ _) _).setCell (show _ ≤ (⟨w.heap.size + 1, 6, none⟩ : Addr).block from Nat.le_succ _) _).setCell (show _ ≤ (⟨w.heap.size + 1, 7, none⟩ : Addr).block from Nat.le_succ _) _).setCell (show _ ≤ (⟨w.heap.size + 1, 8, none⟩ : Addr).block from Nat.le_succ _) _).setCell (show _ ≤ (⟨w.heap.size + 1, 9, none⟩ : Addr).block from Nat.le_succ _) _).setCell (show _ ≤ (⟨w.heap.size + 1, 10, none⟩ : Addr).block from Nat.le_succ _) _).setCell (show _ ≤ (⟨w.heap.size + 1, 11, none⟩ : Addr).block from Nat.le_succ _) _)⟩
end Go.Proofs.Ytcfcohnkkgickaa
