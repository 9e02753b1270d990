/-
  The walks over the project's bands and its test of a histogram.
-/
import Derived.Test.YtcfcohnkkgickaaRows
import Derived.Test.YtcfcohnkkgickaaCvOf
import Derived.Test.YtcfcohnkkgickaaIgImpl
namespace Go.Proofs.Ytcfcohnkkgickaa
open Go.RowKit Num

theorem impl_band (y : Int) (w : World) :
    Calls Try.prog 46 #[.int .i64 y] w fun e w' => e = .returned (.int .i64 (bandI y)) ∧ w = w' := by
  by_cases h0 : 0 ≤ y
  · by_cases h8 : y ≤ 8
    · have AN := Lib.hid (show y / 3 = bandI y from (bandI_in ⟨h0, h8⟩).1.symm)
      go_enter Try.func46, Try.ntmps46
      go_wp2
      go_ret
      exact ⟨by rw [← AN.out]; rfl, rfl⟩
    · have AN := Lib.hid (show bandI y = -1 from bandI_out (fun h => h8 h.2))
      go_enter Try.func46, Try.ntmps46
      go_wp2
      go_ret
      exact ⟨by rw [AN.out]; rfl, rfl⟩
  · have AN := Lib.hid (show bandI y = -1 from bandI_out (fun h => h0 h.1))
    go_enter Try.func46, Try.ntmps46
    go_wp2
    go_ret
    exact ⟨by rw [AN.out]; rfl, rfl⟩

theorem impl_cix (g b : Int) (w : World) (h0 : 0 ≤ g) (h1 : g ≤ 3) (h2 : 0 ≤ b) (h3 : b ≤ 2) :
    Calls Try.prog 97 #[.int .i64 g, .int .i64 b] w fun e w' => e = .returned (.int .i64 (g * 3 + b)) ∧ w = w' := by
  go_enter Try.func97, Try.ntmps97
  go_wp2
  go_ret
  exact ⟨rfl, rfl⟩

set_option maxRecDepth 8000 in
set_option maxHeartbeats 6400000 in
theorem impl_isHV (ao : Option Addr) (n cap : Nat) (l : List Int) (w : World) (hl : l.length = n) (hn : n ≤ 1099511627776) (hV : IntsVal w ao l) :
    Calls Try.prog 37 #[.slice ao n cap] w fun e w' => e = .returned (.bool (hgB l)) ∧ Below w.heap.size w w' := by
  have CO := Lib.hid (impl_cof ao n cap l w hl hn hV)
  unfold CvOf at CO
  obtain ⟨v, hv⟩ : ∃ v, v = hgB l := ⟨_, rfl⟩
  rw [← hv] at CO
  obtain ⟨y0, y1, y2, y3, y4, y5, y6, y7, y8, y9, y10, y11, hxs⟩ := list12 (cellsL_len l)
  have HXS := Lib.hid hxs
  have HVV := Lib.hid hv
  rw [hxs, show cv [y0, y1, y2, y3, y4, y5, y6, y7, y8, y9, y10, y11] = #[.int .i64 (y0), .int .i64 (y1), .int .i64 (y2), .int .i64 (y3), .int .i64 (y4), .int .i64 (y5), .int .i64 (y6), .int .i64 (y7), .int .i64 (y8), .int .i64 (y9), .int .i64 (y10), .int .i64 (y11)] from rfl] at CO
  clear hl hn hV hv hxs
  go_enter Try.func37, Try.ntmps37
  go_wp2_with fail
  refine CO.out.mono ?_
  rintro e w1 ⟨rfl, hb⟩
  have HB := Lib.hid hb
  clear hb
  go_wp2
  go_ret
  exact ⟨ret_bool HVV.out, HB.out.alloc HB.out.size _⟩

theorem totH_cells (l : List Int) : totH l = hsum (cellsL l) := by
  unfold totH cellsL
  split
  · rfl
  · rfl
theorem cellH_cells {l : List Int} {g b : Int} (hg : 0 ≤ g ∧ g ≤ 3) (hb : 0 ≤ b ∧ b ≤ 2) : cellH l g b = (cellsL l).getD (g * 3 + b).toNat 0 := by
  unfold cellH cellsL
  by_cases h : hgB l = true
  · rw [if_pos ⟨h, hg, hb⟩, if_pos h]
  · rw [if_neg (fun hh => h hh.1), if_neg h, List.getD_eq_getElem?_getD, List.getElem?_replicate, if_pos (by omega), Option.getD_some]

set_option maxRecDepth 8000 in
set_option maxHeartbeats 6400000 in
theorem impl_totV (ao : Option Addr) (n cap : Nat) (l : List Int) (w : World) (hl : l.length = n) (hn : n ≤ 1099511627776) (hV : IntsVal w ao l) :
    Calls Try.prog 36 #[.slice ao n cap] w fun e w' => e = .returned (.int .i64 (totH l)) ∧ Below w.heap.size w w' := by
  have CO := Lib.hid (impl_cof ao n cap l w hl hn hV)
  unfold CvOf at CO
  obtain ⟨v, hv⟩ : ∃ v, v = hgB l := ⟨_, rfl⟩
  rw [← hv] at CO
  obtain ⟨y0, y1, y2, y3, y4, y5, y6, y7, y8, y9, y10, y11, hxs⟩ := list12 (cellsL_len l)
  have HXS := Lib.hid hxs
  have HVV := Lib.hid hv
  rw [hxs, show cv [y0, y1, y2, y3, y4, y5, y6, y7, y8, y9, y10, y11] = #[.int .i64 (y0), .int .i64 (y1), .int .i64 (y2), .int .i64 (y3), .int .i64 (y4), .int .i64 (y5), .int .i64 (y6), .int .i64 (y7), .int .i64 (y8), .int .i64 (y9), .int .i64 (y10), .int .i64 (y11)] from rfl] at CO
  have TT := Lib.hid (fun w => impl_tot (cellsL l) w (cellsL_len l) (cellsL_99 l))
  rw [← totH_cells] at TT
  rw [hxs, show cv [y0, y1, y2, y3, y4, y5, y6, y7, y8, y9, y10, y11] = #[.int .i64 (y0), .int .i64 (y1), .int .i64 (y2), .int .i64 (y3), .int .i64 (y4), .int .i64 (y5), .int .i64 (y6), .int .i64 (y7), .int .i64 (y8), .int .i64 (y9), .int .i64 (y10), .int .i64 (y11)] from rfl] at TT
  clear hl hn hV hv hxs
  go_enter Try.func36, Try.ntmps36
  go_wp2_with fail
  refine CO.out.mono ?_
  rintro e w1 ⟨rfl, hb⟩
  have HB := Lib.hid hb
  clear hb
  go_wp2_with fail
  refine (TT.out _).mono ?_
  rintro e w2 ⟨rfl, hb⟩
  have HB2 := Lib.hid ((HB.out.alloc HB.out.size (.cells #[.int .i64 (y0), .int .i64 (y1), .int .i64 (y2), .int .i64 (y3), .int .i64 (y4), .int .i64 (y5), .int .i64 (y6), .int .i64 (y7), .int .i64 (y8), .int .i64 (y9), .int .i64 (y10), .int .i64 (y11)] 126)).trans (hb.mono (HB.out.alloc HB.out.size _).size))
  clear hb
  go_wp2
  go_ret
  exact ⟨rfl, HB2.out⟩

set_option maxRecDepth 8000 in
set_option maxHeartbeats 6400000 in
theorem impl_cellV (ao : Option Addr) (n cap : Nat) (l : List Int) (g b : Int) (w : World) (hl : l.length = n) (hn : n ≤ 1099511627776) (hV : IntsVal w ao l) :
    Calls Try.prog 44 #[.slice ao n cap, .int .i64 g, .int .i64 b] w fun e w' => e = .returned (.int .i64 (cellH l g b)) ∧ Below w.heap.size w w' := by
  have CO := Lib.hid (impl_cof ao n cap l w hl hn hV)
  unfold CvOf at CO
  obtain ⟨v, hv⟩ : ∃ v, v = hgB l := ⟨_, rfl⟩
  rw [← hv] at CO
  obtain ⟨y0, y1, y2, y3, y4, y5, y6, y7, y8, y9, y10, y11, hxs⟩ := list12 (cellsL_len l)
  have HXS := Lib.hid hxs
  have HVV := Lib.hid hv
  rw [hxs, show cv [y0, y1, y2, y3, y4, y5, y6, y7, y8, y9, y10, y11] = #[.int .i64 (y0), .int .i64 (y1), .int .i64 (y2), .int .i64 (y3), .int .i64 (y4), .int .i64 (y5), .int .i64 (y6), .int .i64 (y7), .int .i64 (y8), .int .i64 (y9), .int .i64 (y10), .int .i64 (y11)] from rfl] at CO
  have IG := Lib.hid (fun w => impl_ig g w)
  by_cases hg : 0 ≤ g ∧ g ≤ 3
  · rw [decide_eq_true hg] at IG
    by_cases hb0 : 0 ≤ b
    · by_cases hb2 : b ≤ 2
      · have CI := Lib.hid (fun w => impl_cix g b w hg.1 hg.2 hb0 hb2)
        have AN := Lib.hid (cellH_cells (l := l) hg ⟨hb0, hb2⟩)
        obtain ⟨k, hk⟩ : ∃ k, k = (g * 3 + b).toNat := ⟨_, rfl⟩
        rw [← hk] at AN
        have hkg : g * 3 + b = (k : Int) := by omega
        have k12 : (k : Int) < 12 := by omega
        rw [hkg] at CI
        have hlen := Lib.hid (cellsL_len l)
        have hb3 : ¬ 3 ≤ b := by omega
        clear hk hkg
        clear hl hn hV hv hxs
        go_enter Try.func44, Try.ntmps44
        go_wp2_with fail
        refine CO.out.mono ?_
        rintro e w1 ⟨rfl, hb⟩
        have HB := Lib.hid hb
        clear hb
        go_upto_region 2 with fail
        obtain ⟨w2, hw2⟩ : ∃ w2, w2 = w1.alloc (.cells #[.int .i64 (y0), .int .i64 (y1), .int .i64 (y2), .int .i64 (y3), .int .i64 (y4), .int .i64 (y5), .int .i64 (y6), .int .i64 (y7), .int .i64 (y8), .int .i64 (y9), .int .i64 (y10), .int .i64 (y11)] 126) := ⟨_, rfl⟩
        rw [← hw2]
        have HC := Lib.hid (show Cells w w2 w1.heap.size (cellsL l) by
          rw [hw2, HXS.out]; exact cells_alloc HB.out [y0, y1, y2, y3, y4, y5, y6, y7, y8, y9, y10, y11] 126 w1.heap.size rfl)
        clear hw2
        obtain ⟨c0, _⟩ := HC.out.at (k := k) (by rw [hlen.out]; omega)
        rw [← AN.out] at c0
        go_wp2_with fail
        refine (IG.out _).mono ?_
        rintro e w3 ⟨rfl, rfl⟩
        go_wp2_with fail
        refine (CI.out _).mono ?_
        rintro e w3 ⟨rfl, rfl⟩
        go_wp2
        go_ret
        exact ⟨rfl, HC.out.1⟩
      · have AN := Lib.hid (cellH_bad (h := l) (g := g) (b := b) (fun h => hb2 h.2.2.2))
        have hb3 : 3 ≤ b := by omega
        clear hb2
        clear hl hn hV hv hxs
        go_enter Try.func44, Try.ntmps44
        go_wp2_with fail
        refine CO.out.mono ?_
        rintro e w1 ⟨rfl, hb⟩
        have HB := Lib.hid hb
        clear hb
        go_wp2_with fail
        refine (IG.out _).mono ?_
        rintro e w3 ⟨rfl, rfl⟩
        go_wp2
        go_ret
        exact ⟨by rw [AN.out]; rfl, HB.out.alloc HB.out.size _⟩
    · have AN := Lib.hid (cellH_bad (h := l) (g := g) (b := b) (fun h => hb0 h.2.2.1))
      have hb3 : b < 0 := by omega
      clear hb0
      clear hl hn hV hv hxs
      go_enter Try.func44, Try.ntmps44
      go_wp2_with fail
      refine CO.out.mono ?_
      rintro e w1 ⟨rfl, hb⟩
      have HB := Lib.hid hb
      clear hb
      go_wp2_with fail
      refine (IG.out _).mono ?_
      rintro e w3 ⟨rfl, rfl⟩
      go_wp2
      go_ret
      exact ⟨by rw [AN.out]; rfl, HB.out.alloc HB.out.size _⟩
  · rw [decide_eq_false hg] at IG
    have AN := Lib.hid (cellH_bad (h := l) (g := g) (b := b) (fun h => hg h.2.1))
    clear hg
    clear hl hn hV hv hxs
    go_enter Try.func44, Try.ntmps44
    go_wp2_with fail
    refine CO.out.mono ?_
    rintro e w1 ⟨rfl, hb⟩
    have HB := Lib.hid hb
    clear hb
    go_wp2_with fail
    refine (IG.out _).mono ?_
    rintro e w3 ⟨rfl, rfl⟩
    go_wp2
    go_ret
    exact ⟨by rw [AN.out]; rfl, HB.out.alloc HB.out.size _⟩
end Go.Proofs.Ytcfcohnkkgickaa
