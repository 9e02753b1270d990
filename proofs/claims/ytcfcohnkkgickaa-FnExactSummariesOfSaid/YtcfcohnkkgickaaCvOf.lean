/-
  The walk over the project's reading of a histogram into cells.
-/
import Derived.Test.YtcfcohnkkgickaaRows
import Derived.Test.YtcfcohnkkgickaaCvAv
import Derived.Test.YtcfcohnkkgickaaHgSpec2
import Derived.Test.YtcfcohnkkgickaaIntLaw
import Derived.Test.YtcfcohnkkgickaaCpImpl
import Derived.Deep.WholeRow
namespace Go.Proofs.Ytcfcohnkkgickaa
open Go.RowKit Num

theorem intsVal_src {w : World} {ao : Option Addr} {l : List Int} (h : IntsVal w ao l) (h0 : 0 < l.length) : ∃ a, ao = some a ∧ ∀ j v, (cl l)[j]? = some v → w.cell? (a.add j) = some v := by
  obtain ⟨g, rfl, _, hR⟩ := h.head h0
  refine ⟨_, rfl, fun j v hj => ?_⟩
  unfold cl at hj
  rw [List.getElem?_map] at hj
  obtain ⟨x, hx, rfl⟩ := Option.map_eq_some_iff.1 hj
  obtain ⟨hk, rfl⟩ := List.getElem?_eq_some_iff.1 hx
  rw [addr_own, Nat.zero_add]
  exact hR j hk
/-- 'copy(c[:], h)': twelve ints into the cells that were made last. -/
theorem run_copy_cv (w0 : World) (c : Array Value) (t : TypeId) (hc : c.size = 12) (N : Nat) (hN : N = w0.heap.size) (ao : Option Addr) (cap : Nat) (l : List Int) (hl : l.length = 12) (hV : IntsVal (w0.alloc (.cells c t)) ao l) :
    (Builtin.copy_ #[45, 45] 3 #[.slice (some ⟨N, 0, none⟩) 12 12, .slice ao 12 cap]).run Try.prog (w0.alloc (.cells c t)) = .ok (.int .i64 12) (w0.alloc (.cells (cv l) t)) := by
  subst hN
  obtain ⟨i0, hi, hx0⟩ := Option.map_eq_some_iff.1 Try.infoInt
  simp only [Prod.mk.injEq] at hx0
  obtain ⟨hz0, hz1, hz2⟩ := hx0
  obtain ⟨ad, rfl, hsrc⟩ := intsVal_src hV (by omega)
  have hrun := run_copy_all (P := Try.prog) (w0.alloc (.cells c t)) 45 45 3 3 w0.heap.size 12 1 12 ad cap c t (cl l) i0 Try.underlying45 hi hz1 (heap_alloc_last w0 _) (by simp [cl, hl]) (by simpa using hc) hsrc (fun v hv => by
    unfold cl at hv
    obtain ⟨x, _, rfl⟩ := List.mem_map.1 hv
    rfl)
  rw [hrun, World.setRow_alloc_new]
  rfl

/-- The cells that are read: those of a valid histogram, or zeros. -/
noncomputable def cellsL (l : List Int) : List Int := if hgB l = true then l else List.replicate 12 0
theorem cellsL_len (l : List Int) : (cellsL l).length = 12 := by
  unfold cellsL
  split
  · next h => exact (hgB_of h).1
  · rfl
theorem cellsL_99 (l : List Int) : In99 (cellsL l) := by
  unfold cellsL
  split
  · next h => exact (hgB_of h).2.1
  · intro x hx
    have := List.eq_of_mem_replicate hx
    omega
def CvOf (l : List Int) (w : World) (e : Ending) (w' : World) : Prop := e = .returned (.tuple #[.agg (cv (cellsL l)), .bool (hgB l)]) ∧ Below w.heap.size w w'

set_option maxRecDepth 8000 in
set_option maxHeartbeats 6400000 in
theorem impl_cof (ao : Option Addr) (n cap : Nat) (l : List Int) (w : World) (hl : l.length = n) (hn : n ≤ 1099511627776) (hV : IntsVal w ao l) :
    Calls Try.prog 99 #[.slice ao n cap] w (CvOf l w) := by
  have HR0 := Lib.hid (cells_alloc (Below.refl w.heap.size w) (List.replicate 12 0) 126 w.heap.size rfl)
  by_cases h12 : n = 12
  · subst h12
    have AV := Lib.hid (fun w => impl_av l w hl)
    have HC0 := Lib.hid (cells_alloc HR0.out.1 l 126 (w.heap.size + 1) (by simp))
    have HZ0 := Lib.hid (HR0.out.step ((Below.refl _ _).alloc (Nat.le_refl _) (.cells (cv l) 126)))
    have HV := Lib.hid ((show IntsVal ((w.alloc (.cells #[.int .i64 0, .int .i64 0, .int .i64 0, .int .i64 0, .int .i64 0, .int .i64 0, .int .i64 0, .int .i64 0, .int .i64 0, .int .i64 0, .int .i64 0, .int .i64 0] 126)).alloc (.cells #[.int .i64 0, .int .i64 0, .int .i64 0, .int .i64 0, .int .i64 0, .int .i64 0, .int .i64 0, .int .i64 0, .int .i64 0, .int .i64 0, .int .i64 0, .int .i64 0] 126)) ao l from (hV.below ((Below.refl w.heap.size w).alloc (Nat.le_refl _) (.cells (cv (List.replicate 12 0)) 126))).below ((Below.refl _ _).alloc (Nat.le_refl _) (.cells (cv (List.replicate 12 0)) 126))))
    obtain ⟨v, hv⟩ : ∃ v, v = hgB l := ⟨_, rfl⟩
    rw [← hv] at AV
    have HVV := Lib.hid hv
    obtain ⟨x0, x1, x2, x3, x4, x5, x6, x7, x8, x9, x10, x11, hxs⟩ := list12 hl
    have HXS := Lib.hid hxs
    have eV : cv l = #[.int .i64 (x0), .int .i64 (x1), .int .i64 (x2), .int .i64 (x3), .int .i64 (x4), .int .i64 (x5), .int .i64 (x6), .int .i64 (x7), .int .i64 (x8), .int .i64 (x9), .int .i64 (x10), .int .i64 (x11)] := by rw [hxs]; rfl
    have EV := Lib.hid eV
    have HL := Lib.hid hl
    rw [eV] at AV HC0 HZ0
    obtain ⟨w1, hw1⟩ : ∃ w1, w1 = (w.alloc (.cells (cv (List.replicate 12 0)) 126)).alloc (.cells #[.int .i64 (x0), .int .i64 (x1), .int .i64 (x2), .int .i64 (x3), .int .i64 (x4), .int .i64 (x5), .int .i64 (x6), .int .i64 (x7), .int .i64 (x8), .int .i64 (x9), .int .i64 (x10), .int .i64 (x11)] 126) := ⟨_, rfl⟩
    rw [← hw1] at HC0 HZ0
    have HW1 := Lib.hid hw1
    clear hl hV hv hxs eV HR0 hw1
    have hcp : (Builtin.copy_ #[45, 45] 3 #[.slice (some ⟨w.heap.size + 1, 0, none⟩) 12 12, .slice ao 12 cap]).run Try.prog ((w.alloc (.cells #[.int .i64 0, .int .i64 0, .int .i64 0, .int .i64 0, .int .i64 0, .int .i64 0, .int .i64 0, .int .i64 0, .int .i64 0, .int .i64 0, .int .i64 0, .int .i64 0] 126)).alloc (.cells #[.int .i64 0, .int .i64 0, .int .i64 0, .int .i64 0, .int .i64 0, .int .i64 0, .int .i64 0, .int .i64 0, .int .i64 0, .int .i64 0, .int .i64 0, .int .i64 0] 126)) = .ok (.int .i64 12) w1 := by
      rw [HW1.out, ← EV.out]
      exact run_copy_cv (w.alloc (.cells (cv (List.replicate 12 0)) 126)) (cv (List.replicate 12 0)) 126 (by rfl) (w.heap.size + 1) (by simp) ao cap l HL.out HV.out
    clear HV HW1
    go_enter Try.func99, Try.ntmps99
    have c0 : w1.cell? ⟨w.heap.size + 1, 0, none⟩ = some (.int .i64 (x0)) := by have h := (HC0.out.at (k := 0) (by rw [HL.out]; decide)).1; rw [HXS.out] at h; exact h
    have c1 : w1.cell? ⟨w.heap.size + 1, 1, none⟩ = some (.int .i64 (x1)) := by have h := (HC0.out.at (k := 1) (by rw [HL.out]; decide)).1; rw [HXS.out] at h; exact h
    have c2 : w1.cell? ⟨w.heap.size + 1, 2, none⟩ = some (.int .i64 (x2)) := by have h := (HC0.out.at (k := 2) (by rw [HL.out]; decide)).1; rw [HXS.out] at h; exact h
    have c3 : w1.cell? ⟨w.heap.size + 1, 3, none⟩ = some (.int .i64 (x3)) := by have h := (HC0.out.at (k := 3) (by rw [HL.out]; decide)).1; rw [HXS.out] at h; exact h
    have c4 : w1.cell? ⟨w.heap.size + 1, 4, none⟩ = some (.int .i64 (x4)) := by have h := (HC0.out.at (k := 4) (by rw [HL.out]; decide)).1; rw [HXS.out] at h; exact h
    have c5 : w1.cell? ⟨w.heap.size + 1, 5, none⟩ = some (.int .i64 (x5)) := by have h := (HC0.out.at (k := 5) (by rw [HL.out]; decide)).1; rw [HXS.out] at h; exact h
    have c6 : w1.cell? ⟨w.heap.size + 1, 6, none⟩ = some (.int .i64 (x6)) := by have h := (HC0.out.at (k := 6) (by rw [HL.out]; decide)).1; rw [HXS.out] at h; exact h
    have c7 : w1.cell? ⟨w.heap.size + 1, 7, none⟩ = some (.int .i64 (x7)) := by have h := (HC0.out.at (k := 7) (by rw [HL.out]; decide)).1; rw [HXS.out] at h; exact h
    have c8 : w1.cell? ⟨w.heap.size + 1, 8, none⟩ = some (.int .i64 (x8)) := by have h := (HC0.out.at (k := 8) (by rw [HL.out]; decide)).1; rw [HXS.out] at h; exact h
    have c9 : w1.cell? ⟨w.heap.size + 1, 9, none⟩ = some (.int .i64 (x9)) := by have h := (HC0.out.at (k := 9) (by rw [HL.out]; decide)).1; rw [HXS.out] at h; exact h
    have c10 : w1.cell? ⟨w.heap.size + 1, 10, none⟩ = some (.int .i64 (x10)) := by have h := (HC0.out.at (k := 10) (by rw [HL.out]; decide)).1; rw [HXS.out] at h; exact h
    have c11 : w1.cell? ⟨w.heap.size + 1, 11, none⟩ = some (.int .i64 (x11)) := by have h := (HC0.out.at (k := 11) (by rw [HL.out]; decide)).1; rw [HXS.out] at h; exact h
    go_wp2_with fail
    refine (AV.out _).mono ?_
    rintro e w2 ⟨rfl, hb⟩
    have HC := Lib.hid (HC0.out.step hb)
    have HZ := Lib.hid (HZ0.out.step hb)
    clear hb HC0 HZ0 hcp c0 c1 c2 c3 c4 c5 c6 c7 c8 c9 c10 c11
    have zl := HZ.out.2.2.1.1
    have HB := Lib.hid HZ.out.1
    have z0 : w2.cell? ⟨w.heap.size, 0, none⟩ = some (.int .i64 (0)) := by have h := (HZ.out.at (k := 0) (by rw [List.length_replicate]; decide)).1; exact h
    have z1 : w2.cell? ⟨w.heap.size, 1, none⟩ = some (.int .i64 (0)) := by have h := (HZ.out.at (k := 1) (by rw [List.length_replicate]; decide)).1; exact h
    have z2 : w2.cell? ⟨w.heap.size, 2, none⟩ = some (.int .i64 (0)) := by have h := (HZ.out.at (k := 2) (by rw [List.length_replicate]; decide)).1; exact h
    have z3 : w2.cell? ⟨w.heap.size, 3, none⟩ = some (.int .i64 (0)) := by have h := (HZ.out.at (k := 3) (by rw [List.length_replicate]; decide)).1; exact h
    have z4 : w2.cell? ⟨w.heap.size, 4, none⟩ = some (.int .i64 (0)) := by have h := (HZ.out.at (k := 4) (by rw [List.length_replicate]; decide)).1; exact h
    have z5 : w2.cell? ⟨w.heap.size, 5, none⟩ = some (.int .i64 (0)) := by have h := (HZ.out.at (k := 5) (by rw [List.length_replicate]; decide)).1; exact h
    have z6 : w2.cell? ⟨w.heap.size, 6, none⟩ = some (.int .i64 (0)) := by have h := (HZ.out.at (k := 6) (by rw [List.length_replicate]; decide)).1; exact h
    have z7 : w2.cell? ⟨w.heap.size, 7, none⟩ = some (.int .i64 (0)) := by have h := (HZ.out.at (k := 7) (by rw [List.length_replicate]; decide)).1; exact h
    have z8 : w2.cell? ⟨w.heap.size, 8, none⟩ = some (.int .i64 (0)) := by have h := (HZ.out.at (k := 8) (by rw [List.length_replicate]; decide)).1; exact h
    have z9 : w2.cell? ⟨w.heap.size, 9, none⟩ = some (.int .i64 (0)) := by have h := (HZ.out.at (k := 9) (by rw [List.length_replicate]; decide)).1; exact h
    have z10 : w2.cell? ⟨w.heap.size, 10, none⟩ = some (.int .i64 (0)) := by have h := (HZ.out.at (k := 10) (by rw [List.length_replicate]; decide)).1; exact h
    have z11 : w2.cell? ⟨w.heap.size, 11, none⟩ = some (.int .i64 (0)) := by have h := (HZ.out.at (k := 11) (by rw [List.length_replicate]; decide)).1; exact h
    have f0 : w2.frozen? ⟨w.heap.size, 0, none⟩ = false := (HZ.out.at (k := 0) (by rw [List.length_replicate]; decide)).2
    have f1 : w2.frozen? ⟨w.heap.size, 1, none⟩ = false := (HZ.out.at (k := 1) (by rw [List.length_replicate]; decide)).2
    have f2 : w2.frozen? ⟨w.heap.size, 2, none⟩ = false := (HZ.out.at (k := 2) (by rw [List.length_replicate]; decide)).2
    have f3 : w2.frozen? ⟨w.heap.size, 3, none⟩ = false := (HZ.out.at (k := 3) (by rw [List.length_replicate]; decide)).2
    have f4 : w2.frozen? ⟨w.heap.size, 4, none⟩ = false := (HZ.out.at (k := 4) (by rw [List.length_replicate]; decide)).2
    have f5 : w2.frozen? ⟨w.heap.size, 5, none⟩ = false := (HZ.out.at (k := 5) (by rw [List.length_replicate]; decide)).2
    have f6 : w2.frozen? ⟨w.heap.size, 6, none⟩ = false := (HZ.out.at (k := 6) (by rw [List.length_replicate]; decide)).2
    have f7 : w2.frozen? ⟨w.heap.size, 7, none⟩ = false := (HZ.out.at (k := 7) (by rw [List.length_replicate]; decide)).2
    have f8 : w2.frozen? ⟨w.heap.size, 8, none⟩ = false := (HZ.out.at (k := 8) (by rw [List.length_replicate]; decide)).2
    have f9 : w2.frozen? ⟨w.heap.size, 9, none⟩ = false := (HZ.out.at (k := 9) (by rw [List.length_replicate]; decide)).2
    have f10 : w2.frozen? ⟨w.heap.size, 10, none⟩ = false := (HZ.out.at (k := 10) (by rw [List.length_replicate]; decide)).2
    have f11 : w2.frozen? ⟨w.heap.size, 11, none⟩ = false := (HZ.out.at (k := 11) (by rw [List.length_replicate]; decide)).2
    cases v
    · clear HC HZ
      go_wp2
      exact bodyPost_ret (v := .tuple #[.agg #[.int .i64 (0), .int .i64 (0), .int .i64 (0), .int .i64 (0), .int .i64 (0), .int .i64 (0), .int .i64 (0), .int .i64 (0), .int .i64 (0), .int .i64 (0), .int .i64 (0), .int .i64 (0)], .bool false]) (by simp [results, Try.results99, go_sem, z0, f0, z1, f1, z2, f2, z3, f3, z4, f4, z5, f5, z6, f6, z7, f7, z8, f8, z9, f9, z10, f10, z11, f11, zl]) rfl ⟨by unfold cellsL; rw [← HVV.out]; rfl, ((((((((((((HB.out.setCell (show _ ≤ (⟨w.heap.size, 0, none⟩ : Addr).block from Nat.le_refl _) _).setCell (show _ ≤ (⟨w.heap.size, 1, none⟩ : Addr).block from Nat.le_refl _) _).setCell (show _ ≤ (⟨w.heap.size, 2, none⟩ : Addr).block from Nat.le_refl _) _).setCell (show _ ≤ (⟨w.heap.size, 3, none⟩ : Addr).block from Nat.le_refl _) _).setCell (show _ ≤ (⟨w.heap.size, 4, none⟩ : Addr).block from Nat.le_refl _) _).setCell (show _ ≤ (⟨w.heap.size, 5, none⟩ : Addr).block from Nat.le_refl _) _).setCell (show _ ≤ (⟨w.heap.size, 6, none⟩ : Addr).block from Nat.le_refl _) _).setCell (show _ ≤ (⟨w.heap.size, 7, none⟩ : Addr).block from Nat.le_refl _) _).setCell (show _ ≤ (⟨w.heap.size, 8, none⟩ : Addr).block from Nat.le_refl _) _).setCell (show _ ≤ (⟨w.heap.size, 9, none⟩ : Addr).block from Nat.le_refl _) _).setCell (show _ ≤ (⟨w.heap.size, 10, none⟩ : Addr).block from Nat.le_refl _) _).setCell (show _ ≤ (⟨w.heap.size, 11, none⟩ : Addr).block from Nat.le_refl _) _)⟩
    · have c0 : w2.cell? ⟨w.heap.size + 1, 0, none⟩ = some (.int .i64 (x0)) := by have h := (HC.out.at (k := 0) (by rw [HL.out]; decide)).1; rw [HXS.out] at h; exact h
      have c1 : w2.cell? ⟨w.heap.size + 1, 1, none⟩ = some (.int .i64 (x1)) := by have h := (HC.out.at (k := 1) (by rw [HL.out]; decide)).1; rw [HXS.out] at h; exact h
      have c2 : w2.cell? ⟨w.heap.size + 1, 2, none⟩ = some (.int .i64 (x2)) := by have h := (HC.out.at (k := 2) (by rw [HL.out]; decide)).1; rw [HXS.out] at h; exact h
      have c3 : w2.cell? ⟨w.heap.size + 1, 3, none⟩ = some (.int .i64 (x3)) := by have h := (HC.out.at (k := 3) (by rw [HL.out]; decide)).1; rw [HXS.out] at h; exact h
      have c4 : w2.cell? ⟨w.heap.size + 1, 4, none⟩ = some (.int .i64 (x4)) := by have h := (HC.out.at (k := 4) (by rw [HL.out]; decide)).1; rw [HXS.out] at h; exact h
      have c5 : w2.cell? ⟨w.heap.size + 1, 5, none⟩ = some (.int .i64 (x5)) := by have h := (HC.out.at (k := 5) (by rw [HL.out]; decide)).1; rw [HXS.out] at h; exact h
      have c6 : w2.cell? ⟨w.heap.size + 1, 6, none⟩ = some (.int .i64 (x6)) := by have h := (HC.out.at (k := 6) (by rw [HL.out]; decide)).1; rw [HXS.out] at h; exact h
      have c7 : w2.cell? ⟨w.heap.size + 1, 7, none⟩ = some (.int .i64 (x7)) := by have h := (HC.out.at (k := 7) (by rw [HL.out]; decide)).1; rw [HXS.out] at h; exact h
      have c8 : w2.cell? ⟨w.heap.size + 1, 8, none⟩ = some (.int .i64 (x8)) := by have h := (HC.out.at (k := 8) (by rw [HL.out]; decide)).1; rw [HXS.out] at h; exact h
      have c9 : w2.cell? ⟨w.heap.size + 1, 9, none⟩ = some (.int .i64 (x9)) := by have h := (HC.out.at (k := 9) (by rw [HL.out]; decide)).1; rw [HXS.out] at h; exact h
      have c10 : w2.cell? ⟨w.heap.size + 1, 10, none⟩ = some (.int .i64 (x10)) := by have h := (HC.out.at (k := 10) (by rw [HL.out]; decide)).1; rw [HXS.out] at h; exact h
      have c11 : w2.cell? ⟨w.heap.size + 1, 11, none⟩ = some (.int .i64 (x11)) := by have h := (HC.out.at (k := 11) (by rw [HL.out]; decide)).1; rw [HXS.out] at h; exact h
      clear HC HZ
      go_wp2
      exact bodyPost_ret (v := .tuple #[.agg #[.int .i64 (x0), .int .i64 (x1), .int .i64 (x2), .int .i64 (x3), .int .i64 (x4), .int .i64 (x5), .int .i64 (x6), .int .i64 (x7), .int .i64 (x8), .int .i64 (x9), .int .i64 (x10), .int .i64 (x11)], .bool true]) (by simp [results, Try.results99, go_sem, z0, f0, z1, f1, z2, f2, z3, f3, z4, f4, z5, f5, z6, f6, z7, f7, z8, f8, z9, f9, z10, f10, z11, f11, zl]) rfl ⟨by unfold cellsL; rw [← HVV.out, HXS.out]; rfl, ((((((((((((HB.out.setCell (show _ ≤ (⟨w.heap.size, 0, none⟩ : Addr).block from Nat.le_refl _) _).setCell (show _ ≤ (⟨w.heap.size, 1, none⟩ : Addr).block from Nat.le_refl _) _).setCell (show _ ≤ (⟨w.heap.size, 2, none⟩ : Addr).block from Nat.le_refl _) _).setCell (show _ ≤ (⟨w.heap.size, 3, none⟩ : Addr).block from Nat.le_refl _) _).setCell (show _ ≤ (⟨w.heap.size, 4, none⟩ : Addr).block from Nat.le_refl _) _).setCell (show _ ≤ (⟨w.heap.size, 5, none⟩ : Addr).block from Nat.le_refl _) _).setCell (show _ ≤ (⟨w.heap.size, 6, none⟩ : Addr).block from Nat.le_refl _) _).setCell (show _ ≤ (⟨w.heap.size, 7, none⟩ : Addr).block from Nat.le_refl _) _).setCell (show _ ≤ (⟨w.heap.size, 8, none⟩ : Addr).block from Nat.le_refl _) _).setCell (show _ ≤ (⟨w.heap.size, 9, none⟩ : Addr).block from Nat.le_refl _) _).setCell (show _ ≤ (⟨w.heap.size, 10, none⟩ : Addr).block from Nat.le_refl _) _).setCell (show _ ≤ (⟨w.heap.size, 11, none⟩ : Addr).block from Nat.le_refl _) _)⟩
  · have hne : ((n : Int) != 12) = true := bne_iff_ne.2 (by omega)
    have AN := Lib.hid (show hgB l = false from hgB_false fun h => h12 (hl.symm.trans h.1))
    have HZ := Lib.hid (HR0.out.step ((Below.refl _ _).alloc (Nat.le_refl _) (.cells (cv (List.replicate 12 0)) 126)))
    have hnI : (n : Int) ≤ 1099511627776 := by omega
    have HB := Lib.hid HZ.out.1
    obtain ⟨w1, hw1⟩ : ∃ w1, w1 = (w.alloc (.cells (cv (List.replicate 12 0)) 126)).alloc (.cells (cv (List.replicate 12 0)) 126) := ⟨_, rfl⟩
    rw [← hw1] at HZ HB
    clear hl hV h12 HR0
    go_enter Try.func99, Try.ntmps99
    go_upto_region 3 with fail
    rw [show (w.alloc (.cells #[.int .i64 0, .int .i64 0, .int .i64 0, .int .i64 0, .int .i64 0, .int .i64 0, .int .i64 0, .int .i64 0, .int .i64 0, .int .i64 0, .int .i64 0, .int .i64 0] 126)).alloc (.cells #[.int .i64 0, .int .i64 0, .int .i64 0, .int .i64 0, .int .i64 0, .int .i64 0, .int .i64 0, .int .i64 0, .int .i64 0, .int .i64 0, .int .i64 0, .int .i64 0] 126) = w1 from hw1.symm]
    clear hw1
    have z0 : w1.cell? ⟨w.heap.size, 0, none⟩ = some (.int .i64 (0)) := by have h := (HZ.out.at (k := 0) (by rw [List.length_replicate]; decide)).1; exact h
    have z1 : w1.cell? ⟨w.heap.size, 1, none⟩ = some (.int .i64 (0)) := by have h := (HZ.out.at (k := 1) (by rw [List.length_replicate]; decide)).1; exact h
    have z2 : w1.cell? ⟨w.heap.size, 2, none⟩ = some (.int .i64 (0)) := by have h := (HZ.out.at (k := 2) (by rw [List.length_replicate]; decide)).1; exact h
    have z3 : w1.cell? ⟨w.heap.size, 3, none⟩ = some (.int .i64 (0)) := by have h := (HZ.out.at (k := 3) (by rw [List.length_replicate]; decide)).1; exact h
    have z4 : w1.cell? ⟨w.heap.size, 4, none⟩ = some (.int .i64 (0)) := by have h := (HZ.out.at (k := 4) (by rw [List.length_replicate]; decide)).1; exact h
    have z5 : w1.cell? ⟨w.heap.size, 5, none⟩ = some (.int .i64 (0)) := by have h := (HZ.out.at (k := 5) (by rw [List.length_replicate]; decide)).1; exact h
    have z6 : w1.cell? ⟨w.heap.size, 6, none⟩ = some (.int .i64 (0)) := by have h := (HZ.out.at (k := 6) (by rw [List.length_replicate]; decide)).1; exact h
    have z7 : w1.cell? ⟨w.heap.size, 7, none⟩ = some (.int .i64 (0)) := by have h := (HZ.out.at (k := 7) (by rw [List.length_replicate]; decide)).1; exact h
    have z8 : w1.cell? ⟨w.heap.size, 8, none⟩ = some (.int .i64 (0)) := by have h := (HZ.out.at (k := 8) (by rw [List.length_replicate]; decide)).1; exact h
    have z9 : w1.cell? ⟨w.heap.size, 9, none⟩ = some (.int .i64 (0)) := by have h := (HZ.out.at (k := 9) (by rw [List.length_replicate]; decide)).1; exact h
    have z10 : w1.cell? ⟨w.heap.size, 10, none⟩ = some (.int .i64 (0)) := by have h := (HZ.out.at (k := 10) (by rw [List.length_replicate]; decide)).1; exact h
    have z11 : w1.cell? ⟨w.heap.size, 11, none⟩ = some (.int .i64 (0)) := by have h := (HZ.out.at (k := 11) (by rw [List.length_replicate]; decide)).1; exact h
    have f0 : w1.frozen? ⟨w.heap.size, 0, none⟩ = false := (HZ.out.at (k := 0) (by rw [List.length_replicate]; decide)).2
    have f1 : w1.frozen? ⟨w.heap.size, 1, none⟩ = false := (HZ.out.at (k := 1) (by rw [List.length_replicate]; decide)).2
    have f2 : w1.frozen? ⟨w.heap.size, 2, none⟩ = false := (HZ.out.at (k := 2) (by rw [List.length_replicate]; decide)).2
    have f3 : w1.frozen? ⟨w.heap.size, 3, none⟩ = false := (HZ.out.at (k := 3) (by rw [List.length_replicate]; decide)).2
    have f4 : w1.frozen? ⟨w.heap.size, 4, none⟩ = false := (HZ.out.at (k := 4) (by rw [List.length_replicate]; decide)).2
    have f5 : w1.frozen? ⟨w.heap.size, 5, none⟩ = false := (HZ.out.at (k := 5) (by rw [List.length_replicate]; decide)).2
    have f6 : w1.frozen? ⟨w.heap.size, 6, none⟩ = false := (HZ.out.at (k := 6) (by rw [List.length_replicate]; decide)).2
    have f7 : w1.frozen? ⟨w.heap.size, 7, none⟩ = false := (HZ.out.at (k := 7) (by rw [List.length_replicate]; decide)).2
    have f8 : w1.frozen? ⟨w.heap.size, 8, none⟩ = false := (HZ.out.at (k := 8) (by rw [List.length_replicate]; decide)).2
    have f9 : w1.frozen? ⟨w.heap.size, 9, none⟩ = false := (HZ.out.at (k := 9) (by rw [List.length_replicate]; decide)).2
    have f10 : w1.frozen? ⟨w.heap.size, 10, none⟩ = false := (HZ.out.at (k := 10) (by rw [List.length_replicate]; decide)).2
    have f11 : w1.frozen? ⟨w.heap.size, 11, none⟩ = false := (HZ.out.at (k := 11) (by rw [List.length_replicate]; decide)).2
    have zl := HZ.out.2.2.1.1
    clear HZ
    go_wp2
    exact bodyPost_ret (v := .tuple #[.agg #[.int .i64 (0), .int .i64 (0), .int .i64 (0), .int .i64 (0), .int .i64 (0), .int .i64 (0), .int .i64 (0), .int .i64 (0), .int .i64 (0), .int .i64 (0), .int .i64 (0), .int .i64 (0)], .bool false]) (by simp [results, Try.results99, go_sem, z0, f0, z1, f1, z2, f2, z3, f3, z4, f4, z5, f5, z6, f6, z7, f7, z8, f8, z9, f9, z10, f10, z11, f11, zl]) rfl ⟨by rw [show cellsL l = List.replicate 12 0 by unfold cellsL; rw [AN.out]; rfl, AN.out]; rfl, ((((((((((((HB.out.setCell (show _ ≤ (⟨w.heap.size, 0, none⟩ : Addr).block from Nat.le_refl _) _).setCell (show _ ≤ (⟨w.heap.size, 1, none⟩ : Addr).block from Nat.le_refl _) _).setCell (show _ ≤ (⟨w.heap.size, 2, none⟩ : Addr).block from Nat.le_refl _) _).setCell (show _ ≤ (⟨w.heap.size, 3, none⟩ : Addr).block from Nat.le_refl _) _).setCell (show _ ≤ (⟨w.heap.size, 4, none⟩ : Addr).block from Nat.le_refl _) _).setCell (show _ ≤ (⟨w.heap.size, 5, none⟩ : Addr).block from Nat.le_refl _) _).setCell (show _ ≤ (⟨w.heap.size, 6, none⟩ : Addr).block from Nat.le_refl _) _).setCell (show _ ≤ (⟨w.heap.size, 7, none⟩ : Addr).block from Nat.le_refl _) _).setCell (show _ ≤ (⟨w.heap.size, 8, none⟩ : Addr).block from Nat.le_refl _) _).setCell (show _ ≤ (⟨w.heap.size, 9, none⟩ : Addr).block from Nat.le_refl _) _).setCell (show _ ≤ (⟨w.heap.size, 10, none⟩ : Addr).block from Nat.le_refl _) _).setCell (show _ ≤ (⟨w.heap.size, 11, none⟩ : Addr).block from Nat.le_refl _) _)⟩
end Go.Proofs.Ytcfcohnkkgickaa
