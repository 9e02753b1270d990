/-
  The walks over the project's bands and its test of a histogram.
-/
import Derived.Test.YtcfcohnkkgickaaDoorRows
import Derived.Test.YtcfcohnkkgickaaDoorCvOf
import Derived.Test.YtcfcohnkkgickaaDoorIgImpl
namespace Go.Proofs.YtcfcohnkkgickaaDoor
open Go.RowKit Num

set_option maxRecDepth 8000 in
set_option maxHeartbeats 6400000 in
theorem impl_isHV (ao : Option Addr) (n cap : Nat) (l : List Int) (w : World) (hl : l.length = n) (hn : n ≤ 1099511627776) (hV : IntsVal w ao l) :
    Calls Tryd.prog 59 #[.slice ao n cap] w fun e w' => e = .returned (.bool (hgB l)) ∧ Below w.heap.size w w' := by
  have CO := Lib.hid (impl_cof ao n cap l w hl hn hV)
  unfold CvOf at CO
  obtain ⟨v, hv⟩ : ∃ v, v = hgB l := ⟨_, rfl⟩
  rw [← hv] at CO
  obtain ⟨y0, y1, y2, y3, y4, y5, y6, y7, y8, y9, y10, y11, hxs⟩ := list12 (cellsL_len l)
  have HXS := Lib.hid hxs
  have HVV := Lib.hid hv
  rw [hxs, show cv [y0, y1, y2, y3, y4, y5, y6, y7, y8, y9, y10, y11] = #[.int .i64 (y0), .int .i64 (y1), .int .i64 (y2), .int .i64 (y3), .int .i64 (y4), .int .i64 (y5), .int .i64 (y6), .int .i64 (y7), .int .i64 (y8), .int .i64 (y9), .int .i64 (y10), .int .i64 (y11)] from rfl] at CO
  clear hl hn hV hv hxs
  go_enter Tryd.func59, Tryd.ntmps59
  go_wp2_with fail
  refine CO.out.mono ?_
  rintro e w1 ⟨rfl, hb⟩
  have HB := Lib.hid hb
  clear hb
  go_wp2
  go_ret
  exact ⟨ret_bool HVV.out, HB.out.alloc HB.out.size _⟩

theorem totH_cells (l : List Int) : totH l = hsum (cellsL l) := by
  unfold totH cellsL
  split
  · rfl
  · rfl
theorem cellH_cells {l : List Int} {g b : Int} (hg : 0 ≤ g ∧ g ≤ 3) (hb : 0 ≤ b ∧ b ≤ 2) : cellH l g b = (cellsL l).getD (g * 3 + b).toNat 0 := by
  unfold cellH cellsL
  by_cases h : hgB l = true
  · rw [if_pos ⟨h, hg, hb⟩, if_pos h]
  · rw [if_neg (fun hh => h hh.1), if_neg h, List.getD_eq_getElem?_getD, List.getElem?_replicate, if_pos (by omega), Option.getD_some]

set_option maxRecDepth 8000 in
set_option maxHeartbeats 6400000 in
theorem impl_totV (ao : Option Addr) (n cap : Nat) (l : List Int) (w : World) (hl : l.length = n) (hn : n ≤ 1099511627776) (hV : IntsVal w ao l) :
    Calls Tryd.prog 60 #[.slice ao n cap] w fun e w' => e = .returned (.int .i64 (totH l)) ∧ Below w.heap.size w w' := by
  have CO := Lib.hid (impl_cof ao n cap l w hl hn hV)
  unfold CvOf at CO
  obtain ⟨v, hv⟩ : ∃ v, v = hgB l := ⟨_, rfl⟩
  rw [← hv] at CO
  obtain ⟨y0, y1, y2, y3, y4, y5, y6, y7, y8, y9, y10, y11, hxs⟩ := list12 (cellsL_len l)
  have HXS := Lib.hid hxs
  have HVV := Lib.hid hv
  rw [hxs, show cv [y0, y1, y2, y3, y4, y5, y6, y7, y8, y9, y10, y11] = #[.int .i64 (y0), .int .i64 (y1), .int .i64 (y2), .int .i64 (y3), .int .i64 (y4), .int .i64 (y5), .int .i64 (y6), .int .i64 (y7), .int .i64 (y8), .int .i64 (y9), .int .i64 (y10), .int .i64 (y11)] from rfl] at CO
  have TT := Lib.hid (fun w => impl_tot (cellsL l) w (cellsL_len l) (cellsL_99 l))
  rw [← totH_cells] at TT
  rw [hxs, show cv [y0, y1, y2, y3, y4, y5, y6, y7, y8, y9, y10, y11] = #[.int .i64 (y0), .int .i64 (y1), .int .i64 (y2), .int .i64 (y3), .int .i64 (y4), .int .i64 (y5), .int .i64 (y6), .int .i64 (y7), .int .i64 (y8), .int .i64 (y9), .int .i64 (y10), .int .i64 (y11)] from rfl] at TT
  clear hl hn hV hv hxs
  go_enter Tryd.func60, Tryd.ntmps60
  go_wp2_with fail
  refine CO.out.mono ?_
  rintro e w1 ⟨rfl, hb⟩
  have HB := Lib.hid hb
  clear hb
  go_wp2_with fail
  refine (TT.out _).mono ?_
  rintro e w2 ⟨rfl, hb⟩
  have HB2 := Lib.hid ((HB.out.alloc HB.out.size (.cells #[.int .i64 (y0), .int .i64 (y1), .int .i64 (y2), .int .i64 (y3), .int .i64 (y4), .int .i64 (y5), .int .i64 (y6), .int .i64 (y7), .int .i64 (y8), .int .i64 (y9), .int .i64 (y10), .int .i64 (y11)] 101)).trans (hb.mono (HB.out.alloc HB.out.size _).size))
  clear hb
  go_wp2
  go_ret
  exact ⟨rfl, HB2.out⟩

end Go.Proofs.YtcfcohnkkgickaaDoor
