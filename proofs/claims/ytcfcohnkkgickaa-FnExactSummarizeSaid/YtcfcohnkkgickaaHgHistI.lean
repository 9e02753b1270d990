/-
  The walk over the project's HistogramOf.
-/
import Derived.Test.YtcfcohnkkgickaaRows
import Derived.Test.YtcfcohnkkgickaaHgImpl
import Derived.Test.YtcfcohnkkgickaaHgHist
import Derived.Test.YtcfcohnkkgickaaRvImpl
namespace Go.Proofs.Ytcfcohnkkgickaa
open Go.RowKit Num

set_option maxRecDepth 8000 in
set_option maxHeartbeats 6400000 in
theorem impl_histV (ao : Option Addr) (n cap : Nat) (l : List Rw) (w : World) (hl : l.length = n) (hn : n ≤ 1048576) (hV : RowsVal w ao n (Rn l)) :
    Calls Try.prog 32 #[.slice ao n cap] w (IntsOut (histL l) w) := by
  have HM := Lib.hid (cells_alloc (Below.refl w.heap.size w) (List.replicate 12 0) 126 w.heap.size rfl)
  have HO := Lib.hid hV
  have HL := Lib.hid hl
  clear hV hl
  have hnI : (n : Int) ≤ 1048576 := by omega
  go_enter Try.func32, Try.ntmps32
  go_wp2_with fail
  go_loopw [8] (fun iv wr => ∃ k : Nat, k ≤ n ∧ iv = .int .i64 k ∧ Hid (Cells w wr w.heap.size (histL (l.take k)))) (fun iv _ => n - (intOf iv).toNat)
  case atStart => exact ⟨0, Nat.zero_le _, rfl, HM.out⟩
  case round =>
    obtain ⟨k, hk, rfl, HC⟩ := hrel
    clear HM
    by_cases hlt : k < n
    · have hkI : (k : Int) < (n : Int) := by omega
      obtain ⟨g, rfl, hg, hR⟩ := (HO.out.below HC.out.1).resolve_left (by omega)
      have hrow := hR k hlt
      obtain ⟨r, hr⟩ : ∃ r, r = Rn l k := ⟨_, rfl⟩
      rw [← hr] at hrow
      obtain ⟨c0, c1, c2, c3, c4⟩ := hrow
      have NX := Lib.hid (show histL (l.take (k + 1)) = bumpH (histL (l.take k)) r by rw [histL_take (by rw [HL.out]; exact hlt), hr, Rn_at (by rw [HL.out]; exact hlt)])
      obtain ⟨ri, rg, ry, rx, rn⟩ := r
      simp only at c0 c1 c2 c3 c4
      have RV := Lib.hid (fun w => impl_rv ri rg ry rx rn w)
      obtain ⟨v, hv⟩ : ∃ v, v = rowB ri rg ry rx rn := ⟨_, rfl⟩
      rw [← hv] at RV
      have HVV := Lib.hid hv
      have K1 := (Kept.start wr).alloc5 (.int .i64 ri) (.int .i64 rg) (.int .i64 ry) (.int .i64 rx) (.bool rn) 36 _ rfl
      have HC1 := Lib.hid (HC.out.step K1.1)
      clear hR hr hv
      go_upto_region 5 with fail
      clear c0 c1 c2 c3 c4
      obtain ⟨w1, hw1⟩ : ∃ w1, w1 = wr.alloc (.cells #[.int .i64 ri, .int .i64 rg, .int .i64 ry, .int .i64 rx, .bool rn] 36) := ⟨_, rfl⟩
      rw [← hw1] at K1 HC1 ⊢
      clear hw1
      have a0 := K1.get 0 rfl
      have a1 := K1.get 1 rfl
      have a2 := K1.get 2 rfl
      have a3 := K1.get 3 rfl
      have a4 := K1.get 4 rfl
      go_wp2_with fail
      refine (RV.out _).mono ?_
      rintro e w2 ⟨rfl, hb⟩
      have HC2 := Lib.hid (HC1.out.step hb)
      have K2 := K1.step hb
      clear hb a0 a1 a2 a3 a4 K1
      cases v
      · have NY := Lib.hid (show histL (l.take (k + 1)) = histL (l.take k) by rw [NX.out]; exact bump_no HVV.out.symm)
        clear K2
        go_wp2
        go_roundw
        case rel => exact ⟨k + 1, by omega, by go_num, by rw [NY.out]; exact HC2.out⟩
        case measure => simp [intOf]; omega
      · have NY := Lib.hid (show histL (l.take (k + 1)) = (histL (l.take k)).set (cellIx ⟨ri, rg, ry, rx, rn⟩) ((histL (l.take k)).getD (cellIx ⟨ri, rg, ry, rx, rn⟩) 0 + 1) by rw [NX.out]; exact bump_yes HVV.out.symm)
        obtain ⟨_, hg1, hy1, _⟩ := rowB_of HVV.out.symm
        have hci := cellIx_lt (r := ⟨ri, rg, ry, rx, rn⟩) HVV.out.symm
        obtain ⟨ci, hci0⟩ : ∃ ci, ci = cellIx ⟨ri, rg, ry, rx, rn⟩ := ⟨_, rfl⟩
        rw [← hci0] at NY hci
        obtain ⟨hci1, hci2⟩ := hci
        simp only at hci2
        have hbd := bandI_in hy1
        obtain ⟨bd, hbd0⟩ : ∃ bd, bd = bandI ry := ⟨_, rfl⟩
        have BD := Lib.hid (fun w => impl_band ry w)
        rw [← hbd0] at BD hbd
        obtain ⟨hb0, hb1, hb2⟩ := hbd
        rw [← hb0] at hci2
        have CI := Lib.hid (fun w => impl_cix rg bd w hg1.1 hg1.2 hb1 hb2)
        rw [show rg * 3 + bd = (ci : Int) from hci2.symm] at CI
        have a1 := K2.get 1 rfl
        have a2 := K2.get 2 rfl
        have hlen := histL_len (l.take k)
        have hcell := HC2.out.at (k := ci) (by rw [hlen]; exact hci1)
        obtain ⟨x, hx⟩ : ∃ x, x = (histL (l.take k)).getD ci 0 := ⟨_, rfl⟩
        rw [← hx] at hcell NY
        have hxb : 0 ≤ x ∧ x ≤ 1048576 := by
          rw [hx, List.getD_eq_getElem?_getD, List.getElem?_eq_getElem (by rw [hlen]; exact hci1), Option.getD_some]
          have := histL_bound l k (by rw [HL.out]; omega) _ (List.getElem_mem (by rw [hlen]; exact hci1 : ci < (histL (l.take k)).length))
          omega
        obtain ⟨x0, x1⟩ := hxb
        obtain ⟨d0, f0⟩ := hcell
        have HLN := Lib.hid hlen
        have hciI : (ci : Int) < 12 := by omega
        have HP := Lib.hid (show Cells w (w2.drew.setCell ⟨w.heap.size, ci, none⟩ (.int .i64 (x + 1))) w.heap.size (histL (l.take (k + 1))) by
          rw [NY.out]; exact (HC2.out.step (Below.refl _ _).drew).put (by rw [HLN.out]; exact hci1) _)
        have hw : IntKind.i64.wrap (x + 1) = x + 1 := by rw [IntKind.wrap_i64]; omega
        clear hci0 hbd0 hb0 hy1 hx hlen hci2 hb1 hb2 hg1 K2
        go_wp2_with fail
        go_region_with (first | (go_at_call 46; (with_reducible refine (BD.out _).mono ?_); rintro e9 w9 ⟨rfl, rfl⟩) | (go_at_call 97; (with_reducible refine (CI.out _).mono ?_); rintro e9 w9 ⟨rfl, rfl⟩))
        all_goals
          clear a1 a2 d0 f0
          go_wp2
          go_roundw
          case rel => exact ⟨k + 1, by omega, by go_num, HP.out⟩
          case measure => simp [intOf]; omega
    · obtain rfl : k = n := by omega
      have hsd : decide ((k : Int) < (k : Int)) = false := decide_eq_false (by omega)
      have HT := Lib.hid (show l.take k = l from by rw [← HL.out, List.take_length])
      have HC9 := Lib.hid (show Cells w wr w.heap.size (histL l) by rw [← HT.out]; exact HC.out)
      have hs := HC9.out.rep (cap := 12) (by rw [histL_len]; decide)
      rw [histL_len] at hs
      have HS := Lib.hid hs
      clear hs
      go_wp2
      go_ret
      exact ⟨_, _, rfl, HS.out, by simp, (fun k hk => by simp at hk; omega), HC9.out.1⟩
end Go.Proofs.Ytcfcohnkkgickaa
