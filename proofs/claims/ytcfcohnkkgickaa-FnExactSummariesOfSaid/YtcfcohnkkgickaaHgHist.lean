/-
  The walk over the model's HistogramOf.
-/
import Derived.Test.YtcfcohnkkgickaaRows
import Derived.Test.YtcfcohnkkgickaaHgSpec
import Derived.Test.YtcfcohnkkgickaaIntStep
import Derived.Test.YtcfcohnkkgickaaRvSpec
import Derived.Test.YtcfcohnkkgickaaArSpec
import Derived.Deep.RegionLaw
import Derived.Deep.RegionHeld3
namespace Go.Proofs.Ytcfcohnkkgickaa
open Go.RowKit Num

theorem madeInts : ∀ j, j < 12 → ((madeCells (Value.int .i64 0).cells (12 * 1)).toList)[j]? = some (.int .i64 0) := by
  intro j hj
  rw [show (Value.int .i64 0).cells = #[Value.int .i64 0] from rfl, toList_madeCells_one, List.getElem?_replicate, if_pos (by omega)]
theorem cells_made {w w' : World} (h : w'.ownsRow w.heap.size 3 1 (.slice (some ⟨w.heap.size, 0, none⟩) 12 12) 12 (madeCells (Value.int .i64 0).cells (12 * 1)).toList) (hg : w.grownBy w' none) : Cells w w' w.heap.size (List.replicate 12 0) := by
  have hlt := (World.ownsRow.lt h w.heap.size rfl).2
  refine ⟨⟨hg.os, hg.tape, hg.output, hg.size, fun j hj => hg.block j hj (by simp)⟩, Nat.le_refl _, ⟨hlt, fun j hj => ⟨⟨.int .i64 0, ?_⟩, World.ownsRow.frozenAt h j⟩⟩, fun k hk => ?_⟩
  · rw [List.length_replicate] at hj
    rw [World.ownsRow.cellAt h j (by omega)]; exact madeInts j hj
  · rw [List.length_replicate] at hk
    rw [World.ownsRow.cellAt h k (by omega), List.getElem_replicate]; exact madeInts k hk
theorem bump_yes {h : List Int} {r : Rw} (hr : rowB r.i r.g r.y r.x r.nl = true) : bumpH h r = h.set (cellIx r) (h.getD (cellIx r) 0 + 1) := if_pos hr
theorem bump_no {h : List Int} {r : Rw} (hr : rowB r.i r.g r.y r.x r.nl = false) : bumpH h r = h := if_neg (by rw [hr]; decide)

set_option maxRecDepth 8000 in
set_option maxHeartbeats 6400000 in
theorem spec_histV (ao : Option Addr) (n cap : Nat) (l : List Rw) (w : World) (hl : l.length = n) (hn : n ≤ 1048576) (hV : RowsVal w ao n (Rn l)) :
    Calls Try.prog 35 #[.slice ao n cap] w (IntsOut (histL l) w) := by
  have HO := Lib.hid hV
  have HL := Lib.hid hl
  clear hV hl
  have hnI : (n : Int) ≤ 1048576 := by omega
  obtain ⟨i0, hi, hx⟩ := Option.map_eq_some_iff.1 Try.infoInt
  simp only [Prod.mk.injEq] at hx
  obtain ⟨hz0, hz1, hz2⟩ := hx
  go_enter Try.func35, Try.ntmps35
  go_wp2_with (first | (at_make; refine wpList_make_full _ rfl _ _ _ rfl w.heap.size 3 i0 _ 1 (by kernel_rfl) hi hz0 hz1 .i64 .i64 _ _ 12 rfl rfl (by rfl) (by rfl) (by rw [hz2]; omega) (by unfold maxLen; omega) (Nat.le_refl _) ?_; intro w1 hown hgr))
  have HM := Lib.hid (cells_made hown hgr)
  clear hown hgr hi hz0 hz1 hz2
  go_loopw [4] (fun iv wr => ∃ k : Nat, k ≤ n ∧ iv = .int .i64 k ∧ Hid (Cells w wr w.heap.size (histL (l.take k)))) (fun iv _ => n - (intOf iv).toNat)
  case atStart => exact ⟨0, Nat.zero_le _, rfl, HM.out⟩
  case round =>
    obtain ⟨k, hk, rfl, HC⟩ := hrel
    clear HM
    by_cases hlt : k < n
    · have hkI : (k : Int) < (n : Int) := by omega
      obtain ⟨g, rfl, hg, hR⟩ := (HO.out.below HC.out.1).resolve_left (by omega)
      have hrow := hR k hlt
      obtain ⟨r, hr⟩ : ∃ r, r = Rn l k := ⟨_, rfl⟩
      rw [← hr] at hrow
      have HR := Lib.hid hr
      have HRW := Lib.hid hrow
      have HG := Lib.hid hg
      obtain ⟨c0, c1, c2, c3, c4⟩ := hrow
      have NX := Lib.hid (show histL (l.take (k + 1)) = bumpH (histL (l.take k)) r by rw [histL_take (by rw [HL.out]; exact hlt), hr, Rn_at (by rw [HL.out]; exact hlt)])
      obtain ⟨ri, rg, ry, rx, rn⟩ := r
      simp only at c0 c1 c2 c3 c4
      have RV := Lib.hid (fun w => spec_rv ri rg ry rx rn w)
      obtain ⟨v, hv⟩ : ∃ v, v = rowB ri rg ry rx rn := ⟨_, rfl⟩
      rw [← hv] at RV
      have HVV := Lib.hid hv
      clear hR hr hv
      go_wp2_with fail
      refine (RV.out _).mono ?_
      rintro e w2 ⟨rfl, hb⟩
      have HC2 := Lib.hid (HC.out.step hb)
      have HB := Lib.hid hb
      clear hb c0 c1 c2 c3 c4
      cases v
      · have NY := Lib.hid (show histL (l.take (k + 1)) = histL (l.take k) by rw [NX.out]; exact bump_no HVV.out.symm)
        go_wp2
        go_roundw
        case rel => exact ⟨k + 1, by omega, by go_num, by rw [NY.out]; exact HC2.out⟩
        case measure => simp [intOf]; omega
      · have NY := Lib.hid (show histL (l.take (k + 1)) = (histL (l.take k)).set (cellIx ⟨ri, rg, ry, rx, rn⟩) ((histL (l.take k)).getD (cellIx ⟨ri, rg, ry, rx, rn⟩) 0 + 1) by rw [NX.out]; exact bump_yes HVV.out.symm)
        obtain ⟨_, hg1, hy1, _⟩ := rowB_of HVV.out.symm
        have hci := cellIx_lt (r := ⟨ri, rg, ry, rx, rn⟩) HVV.out.symm
        obtain ⟨ci, hci0⟩ : ∃ ci, ci = cellIx ⟨ri, rg, ry, rx, rn⟩ := ⟨_, rfl⟩
        rw [← hci0] at NY hci
        obtain ⟨hci1, hci2⟩ := hci
        simp only at hci2
        have hbd := bandI_in hy1
        obtain ⟨bd, hbd0⟩ : ∃ bd, bd = bandI ry := ⟨_, rfl⟩
        have BD := Lib.hid (fun w => spec_band ry w)
        rw [← hbd0] at BD hbd
        obtain ⟨hb0, hb1, hb2⟩ := hbd
        rw [← hb0] at hci2
        obtain ⟨g0, g1⟩ := hg1
        have hr2 := HRW.out.below HB.out HG.out
        have hGb := Lib.hid (Nat.lt_of_lt_of_le HG.out HB.out.size)
        obtain ⟨c0, c1, c2, c3, c4⟩ := hr2
        simp only at c0 c1 c2 c3 c4
        have hlen := histL_len (l.take k)
        have hcell := HC2.out.at (k := ci) (by rw [hlen]; exact hci1)
        obtain ⟨x, hx⟩ : ∃ x, x = (histL (l.take k)).getD ci 0 := ⟨_, rfl⟩
        rw [← hx] at hcell NY
        have hxb : 0 ≤ x ∧ x ≤ 1048576 := by
          rw [hx, List.getD_eq_getElem?_getD, List.getElem?_eq_getElem (by rw [hlen]; exact hci1), Option.getD_some]
          have := histL_bound l k (by rw [HL.out]; omega) _ (List.getElem_mem (by rw [hlen]; exact hci1 : ci < (histL (l.take k)).length))
          omega
        obtain ⟨x0, x1⟩ := hxb
        have HX := Lib.hid hcell
        have HLN := Lib.hid hlen
        clear hci0 hbd0 hb0 hy1 hx hcell hlen c0 c3 c4
        have hw1 : IntKind.i64.wrap (rg * 3) = rg * 3 := by rw [IntKind.wrap_i64]; omega
        have hw2 : IntKind.i64.wrap (rg * 3 + bd) = (ci : Int) := by rw [IntKind.wrap_i64]; omega
        have hciI : (ci : Int) < 12 := by omega
        clear hci2 hb1 hb2
        go_wp2_with fail
        go_region_with (go_at_call 47; (with_reducible refine (BD.out _).mono ?_); rintro e9 w9 ⟨rfl, rfl⟩)
        all_goals
          obtain ⟨d0, f0⟩ := HX.out
          have HP := Lib.hid (show Cells w (w2.drew.setCell ⟨w.heap.size, ci, none⟩ (.int .i64 (x + 1))) w.heap.size (histL (l.take (k + 1))) by
            rw [NY.out]; exact (HC2.out.step (Below.refl _ _).drew).put (by rw [HLN.out]; exact hci1) _)
          clear c1 c2
          go_wp2
          go_roundw
          case rel => exact ⟨k + 1, by omega, by go_num, HP.out⟩
          case measure => simp [intOf]; omega
    · obtain rfl : k = n := by omega
      have hsd : decide ((k : Int) < (k : Int)) = false := decide_eq_false (by omega)
      have HT := Lib.hid (show l.take k = l from by rw [← HL.out, List.take_length])
      have HC9 := Lib.hid (show Cells w wr w.heap.size (histL l) by rw [← HT.out]; exact HC.out)
      have hs := HC9.out.rep (cap := 12) (by rw [histL_len]; decide)
      rw [histL_len] at hs
      have HS := Lib.hid hs
      clear hs
      go_wp2
      go_ret
      exact ⟨_, _, rfl, HS.out, by simp, (fun k hk => by simp at hk; omega), HC9.out.1⟩
end Go.Proofs.Ytcfcohnkkgickaa
