/-
  The walk over the project's FormatBlock.
-/
import Derived.Test.YtcfcohnkkgickaaDoorRows
import Derived.Test.YtcfcohnkkgickaaDoorBvImpl
import Derived.Test.YtcfcohnkkgickaaDoorFaRow
import Derived.Deep.RegionHeld3
namespace Go.Proofs.YtcfcohnkkgickaaDoor
open Go.RowKit Num

theorem fb2_at {W w w' : World} {a0 a1 : Addr} {v0 v1 : Value} (h : Kept W w [(a0, v0), (a1, v1)]) (hb : Below w.heap.size w w') : w'.cell? a0 = some v0 ∧ w'.cell? a1 = some v1 ∧ Below w.heap.size w w' :=
  have k := h.step hb
  ⟨k.get 0 rfl, k.get 1 rfl, hb⟩
theorem fb2_keep {W w w' w1 : World} {a0 a1 : Addr} {v0 v1 : Value} (h : Kept W w [(a0, v0), (a1, v1)]) (q : w'.cell? a0 = some v0 ∧ w'.cell? a1 = some v1 ∧ Below w.heap.size w w') (hb : Below w'.heap.size w' w1) : w1.cell? a0 = some v0 ∧ w1.cell? a1 = some v1 ∧ Below w.heap.size w w1 := fb2_at h (q.2.2.trans (hb.mono q.2.2.size))
theorem fb2_b {w w' : World} {p0 p1 : Prop} (q : p0 ∧ p1 ∧ Below w.heap.size w w') : Below w.heap.size w w' := q.2.2

set_option maxRecDepth 8000 in
set_option maxHeartbeats 6400000 in
theorem impl_fbV (id : Int) (ao : Option Addr) (n cap : Nat) (R : Nat → Rw) (w : World) (hn : n ≤ 1048576) (hV : RowsVal w ao n R) (ht : PowTab w) :
    Calls Tryd.prog 9 #[.agg #[.int .i64 id, .slice ao n cap]] w fun e w' => e = .returned (.string ⟨(fmtB id n R).toArray⟩) ∧ Below w.heap.size w w' := by
  have HV := Lib.hid hV
  have HT : Hid (PowTab w) := ht
  clear hV ht
  have HBV := Lib.hid (fun w hV => impl_bvV id ao n cap R w hn hV)
  cases hq : blkB id n R
  · rw [fmtB_no hq]
    have D1 := HBV.out
    rw [hq] at D1
    have DD1 := Lib.hid D1
    clear D1 hq HBV
    go_enter Tryd.func9, Tryd.ntmps9
    go_wp2_with fail
    have K0 := (Kept.start w).alloc2 (.int .i64 id) (.slice ao n cap) 29 _ rfl
    refine (DD1.out _ (HV.out.below K0.1)).mono ?_
    rintro e w1 ⟨rfl, hb⟩
    have K1 := K0.step hb
    clear hb K0
    go_wp2
    go_ret
    exact ⟨rfl, K1.1⟩
  · obtain ⟨⟨i1, i2⟩, _, h6⟩ := blkB_of hq
    rw [fmtB_yes hq, ← rowTexts_join R n n (Nat.le_refl _)]
    have D1 := HBV.out
    rw [hq] at D1
    have DD1 := Lib.hid D1
    have I1 := Lib.hid i1
    have I2 := Lib.hid i2
    have HTL := Lib.hid (show ∀ x ∈ rowTexts R n, x.length ≤ 1048576 from fun x hx => by
      unfold rowTexts at hx
      obtain ⟨k, _, rfl⟩ := List.mem_map.1 hx
      have := fmtR_len (i := (R k).i) (g := (R k).g) (y := (R k).y) (x := (R k).x) (nl := (R k).nl)
      unfold Rw.fmt
      omega)
    clear D1 hq HBV i1 i2
    go_enter Tryd.func9, Tryd.ntmps9
    go_wp2_with fail
    have K0 := (Kept.start w).alloc2 (.int .i64 id) (.slice ao n cap) 29 _ rfl
    refine (DD1.out _ (HV.out.below K0.1)).mono ?_
    rintro e w1 ⟨rfl, hb⟩
    have K1 := K0.step hb
    clear hb K0
    go_wp2_with fail
    go_region_held3 (fun w' => w'.cell? ⟨w.heap.size, 0, none⟩ = some (.int .i64 id) ∧ w'.cell? ⟨w.heap.size, 1, none⟩ = some (.slice ao n cap) ∧ Below w1.heap.size w1 w') (first | assumption | exact fb2_at K1 (Below.refl _ _).drew | exact fb2_keep K1 (by assumption) (by assumption)) (first | (go_simp; go_at_call 28; (with_reducible refine (impl_faR ao n cap R _ hn ?_ ?_).mono ?_); (exact (HV.out.below K1.1).below (fb2_b (by assumption))); (exact HT.out.below (K1.1.trans ((fb2_b (by assumption)).mono K1.1.size)) (Nat.le_refl _)); rintro e9 w9 ⟨ao9, c9, rfl, hTX, hb⟩) | (go_simp; go_at_call 27; (with_reducible refine (impl_jl [35] [32] id ao9 (rowTexts R n) n c9 _ ?_ ?_ ?_ ?_ ?_ ?_ ?_ ?_ ?_).mono ?_); (exact (rowTexts_len R n).symm); (exact Nat.le_refl 1); (exact Nat.le_refl 1); (exact hn); (have := I1.out; omega); (have := I2.out; omega); (exact HTL.out); (exact hTX); (exact HT.out.below (K1.1.trans ((fb2_b (by assumption)).mono K1.1.size)) (Nat.le_refl _)); rintro e9 w10 ⟨rfl, hb2⟩))
    all_goals
      have K3 := Lib.hid (K1.1.trans ((‹_ ∧ _ ∧ Below w1.heap.size w1 w10›).2.2.mono K1.1.size))
      clear hTX hb hb2 K1
      go_wp2
      go_ret
      exact ⟨rfl, K3.out⟩

theorem impl_fb (id : Int) (g n cap : Nat) (R : Nat → Rw) (w : World) (hn : n ≤ 1048576) (hg : g < w.heap.size) (hR : ∀ k, k < n → RowIn w g k (R k)) (ht : PowTab w) :
    Calls Tryd.prog 9 #[.agg #[.int .i64 id, .slice (some ⟨g, 0, none⟩) n cap]] w fun e w' => e = .returned (.string ⟨(fmtB id n R).toArray⟩) ∧ Below w.heap.size w w' :=
  impl_fbV id _ n cap R w hn (.inr ⟨g, rfl, hg, hR⟩) ht
end Go.Proofs.YtcfcohnkkgickaaDoor
