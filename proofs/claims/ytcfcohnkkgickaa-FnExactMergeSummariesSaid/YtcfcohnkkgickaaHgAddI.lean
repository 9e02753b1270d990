/-
  The walk over the project's AddHistograms.
-/
import Derived.Test.YtcfcohnkkgickaaRows
import Derived.Test.YtcfcohnkkgickaaHgImpl
import Derived.Test.YtcfcohnkkgickaaHgAdd
namespace Go.Proofs.Ytcfcohnkkgickaa
open Go.RowKit Num

theorem cellsL_t {l : List Int} (h : hgB l = true) : cellsL l = l := if_pos h

set_option maxRecDepth 8000 in
set_option maxHeartbeats 6400000 in
theorem impl_addHV (ao bo : Option Addr) (n m cap cap' : Nat) (l r : List Int) (w : World) (hl : l.length = n) (hr : r.length = m) (hn : n ≤ 1099511627776) (hm : m ≤ 1099511627776) (hV : IntsVal w ao l) (hV' : IntsVal w bo r) :
    Calls Try.prog 39 #[.slice ao n cap, .slice bo m cap'] w (IntsOk (addH l r) (addOkH l r) w) := by
  have CO := Lib.hid (impl_cof ao n cap l w hl hn hV)
  have CP := Lib.hid (fun w hV => impl_cof bo m cap' r w hr hm hV)
  have PL := Lib.hid (fun w => impl_plus (cellsL l) (cellsL r) w (cellsL_len l) (cellsL_len r) (cellsL_99 l) (cellsL_99 r))
  have AV := Lib.hid (fun w => impl_av (addC (cellsL l) (cellsL r)) w (by rw [addC_len (by rw [cellsL_len, cellsL_len]), cellsL_len]))
  have HV' := Lib.hid hV'
  unfold CvOf at CO CP
  unfold CvPost at PL
  obtain ⟨u, hu⟩ : ∃ u, u = hgB l := ⟨_, rfl⟩
  obtain ⟨v, hv⟩ : ∃ v, v = hgB r := ⟨_, rfl⟩
  obtain ⟨q, hq⟩ : ∃ q, q = hgB (addC (cellsL l) (cellsL r)) := ⟨_, rfl⟩
  rw [← hu] at CO
  rw [← hv] at CP
  rw [← hq] at AV
  obtain ⟨y0, y1, y2, y3, y4, y5, y6, y7, y8, y9, y10, y11, hys⟩ := list12 (cellsL_len l)
  obtain ⟨z0, z1, z2, z3, z4, z5, z6, z7, z8, z9, z10, z11, hzs⟩ := list12 (cellsL_len r)
  have HYS := Lib.hid hys
  have HZS := Lib.hid hzs
  have HU := Lib.hid hu
  have HVV := Lib.hid hv
  have HQ := Lib.hid hq
  rw [hys, hzs, show addC [y0, y1, y2, y3, y4, y5, y6, y7, y8, y9, y10, y11] [z0, z1, z2, z3, z4, z5, z6, z7, z8, z9, z10, z11] = [y0 + z0, y1 + z1, y2 + z2, y3 + z3, y4 + z4, y5 + z5, y6 + z6, y7 + z7, y8 + z8, y9 + z9, y10 + z10, y11 + z11] from rfl] at PL AV
  rw [hys] at CO
  rw [hzs] at CP
  rw [show cv [y0, y1, y2, y3, y4, y5, y6, y7, y8, y9, y10, y11] = #[.int .i64 (y0), .int .i64 (y1), .int .i64 (y2), .int .i64 (y3), .int .i64 (y4), .int .i64 (y5), .int .i64 (y6), .int .i64 (y7), .int .i64 (y8), .int .i64 (y9), .int .i64 (y10), .int .i64 (y11)] from rfl] at CO PL
  rw [show cv [z0, z1, z2, z3, z4, z5, z6, z7, z8, z9, z10, z11] = #[.int .i64 (z0), .int .i64 (z1), .int .i64 (z2), .int .i64 (z3), .int .i64 (z4), .int .i64 (z5), .int .i64 (z6), .int .i64 (z7), .int .i64 (z8), .int .i64 (z9), .int .i64 (z10), .int .i64 (z11)] from rfl] at CP PL
  rw [show cv [y0 + z0, y1 + z1, y2 + z2, y3 + z3, y4 + z4, y5 + z5, y6 + z6, y7 + z7, y8 + z8, y9 + z9, y10 + z10, y11 + z11] = #[.int .i64 (y0 + z0), .int .i64 (y1 + z1), .int .i64 (y2 + z2), .int .i64 (y3 + z3), .int .i64 (y4 + z4), .int .i64 (y5 + z5), .int .i64 (y6 + z6), .int .i64 (y7 + z7), .int .i64 (y8 + z8), .int .i64 (y9 + z9), .int .i64 (y10 + z10), .int .i64 (y11 + z11)] from rfl] at PL AV
  clear hl hr hn hm hV hV' hu hv hq hys hzs
  go_enter Try.func39, Try.ntmps39
  go_wp2_with fail
  refine CO.out.mono ?_
  rintro e w1 ⟨rfl, hb⟩
  have HB := Lib.hid hb
  clear hb
  go_upto_region 2 with fail
  obtain ⟨w2, hw2⟩ : ∃ w2, w2 = w1.alloc (.cells #[.int .i64 (y0), .int .i64 (y1), .int .i64 (y2), .int .i64 (y3), .int .i64 (y4), .int .i64 (y5), .int .i64 (y6), .int .i64 (y7), .int .i64 (y8), .int .i64 (y9), .int .i64 (y10), .int .i64 (y11)] 126) := ⟨_, rfl⟩
  rw [← hw2]
  have HC1 := Lib.hid (show Cells w w2 w1.heap.size [y0, y1, y2, y3, y4, y5, y6, y7, y8, y9, y10, y11] by rw [hw2]; exact cells_alloc HB.out [y0, y1, y2, y3, y4, y5, y6, y7, y8, y9, y10, y11] 126 w1.heap.size rfl)
  clear hw2
  go_wp2_with fail
  refine (CP.out _ (HV'.out.below HC1.out.1)).mono ?_
  rintro e w3 ⟨rfl, hb⟩
  have HC2 := Lib.hid (HC1.out.step hb)
  clear hb
  go_upto_region 3 with fail
  obtain ⟨w4, hw4⟩ : ∃ w4, w4 = w3.alloc (.cells #[.int .i64 (z0), .int .i64 (z1), .int .i64 (z2), .int .i64 (z3), .int .i64 (z4), .int .i64 (z5), .int .i64 (z6), .int .i64 (z7), .int .i64 (z8), .int .i64 (z9), .int .i64 (z10), .int .i64 (z11)] 126) := ⟨_, rfl⟩
  rw [← hw4]
  have HD1 := Lib.hid (show Cells w w4 w3.heap.size [z0, z1, z2, z3, z4, z5, z6, z7, z8, z9, z10, z11] by rw [hw4]; exact cells_alloc HC2.out.1 [z0, z1, z2, z3, z4, z5, z6, z7, z8, z9, z10, z11] 126 w3.heap.size rfl)
  have HC3 := Lib.hid (show Cells w w4 w1.heap.size [y0, y1, y2, y3, y4, y5, y6, y7, y8, y9, y10, y11] by rw [hw4]; exact HC2.out.step ((Below.refl _ _).alloc (Nat.le_refl _) _))
  clear hw4
  have c0 : w4.cell? ⟨w1.heap.size, 0, none⟩ = some (.int .i64 (y0)) := by have h := (HC3.out.at (k := 0) (show _ < 12 by decide)).1; exact h
  have c1 : w4.cell? ⟨w1.heap.size, 1, none⟩ = some (.int .i64 (y1)) := by have h := (HC3.out.at (k := 1) (show _ < 12 by decide)).1; exact h
  have c2 : w4.cell? ⟨w1.heap.size, 2, none⟩ = some (.int .i64 (y2)) := by have h := (HC3.out.at (k := 2) (show _ < 12 by decide)).1; exact h
  have c3 : w4.cell? ⟨w1.heap.size, 3, none⟩ = some (.int .i64 (y3)) := by have h := (HC3.out.at (k := 3) (show _ < 12 by decide)).1; exact h
  have c4 : w4.cell? ⟨w1.heap.size, 4, none⟩ = some (.int .i64 (y4)) := by have h := (HC3.out.at (k := 4) (show _ < 12 by decide)).1; exact h
  have c5 : w4.cell? ⟨w1.heap.size, 5, none⟩ = some (.int .i64 (y5)) := by have h := (HC3.out.at (k := 5) (show _ < 12 by decide)).1; exact h
  have c6 : w4.cell? ⟨w1.heap.size, 6, none⟩ = some (.int .i64 (y6)) := by have h := (HC3.out.at (k := 6) (show _ < 12 by decide)).1; exact h
  have c7 : w4.cell? ⟨w1.heap.size, 7, none⟩ = some (.int .i64 (y7)) := by have h := (HC3.out.at (k := 7) (show _ < 12 by decide)).1; exact h
  have c8 : w4.cell? ⟨w1.heap.size, 8, none⟩ = some (.int .i64 (y8)) := by have h := (HC3.out.at (k := 8) (show _ < 12 by decide)).1; exact h
  have c9 : w4.cell? ⟨w1.heap.size, 9, none⟩ = some (.int .i64 (y9)) := by have h := (HC3.out.at (k := 9) (show _ < 12 by decide)).1; exact h
  have c10 : w4.cell? ⟨w1.heap.size, 10, none⟩ = some (.int .i64 (y10)) := by have h := (HC3.out.at (k := 10) (show _ < 12 by decide)).1; exact h
  have c11 : w4.cell? ⟨w1.heap.size, 11, none⟩ = some (.int .i64 (y11)) := by have h := (HC3.out.at (k := 11) (show _ < 12 by decide)).1; exact h
  have d0 : w4.cell? ⟨w3.heap.size, 0, none⟩ = some (.int .i64 (z0)) := by have h := (HD1.out.at (k := 0) (show _ < 12 by decide)).1; exact h
  have d1 : w4.cell? ⟨w3.heap.size, 1, none⟩ = some (.int .i64 (z1)) := by have h := (HD1.out.at (k := 1) (show _ < 12 by decide)).1; exact h
  have d2 : w4.cell? ⟨w3.heap.size, 2, none⟩ = some (.int .i64 (z2)) := by have h := (HD1.out.at (k := 2) (show _ < 12 by decide)).1; exact h
  have d3 : w4.cell? ⟨w3.heap.size, 3, none⟩ = some (.int .i64 (z3)) := by have h := (HD1.out.at (k := 3) (show _ < 12 by decide)).1; exact h
  have d4 : w4.cell? ⟨w3.heap.size, 4, none⟩ = some (.int .i64 (z4)) := by have h := (HD1.out.at (k := 4) (show _ < 12 by decide)).1; exact h
  have d5 : w4.cell? ⟨w3.heap.size, 5, none⟩ = some (.int .i64 (z5)) := by have h := (HD1.out.at (k := 5) (show _ < 12 by decide)).1; exact h
  have d6 : w4.cell? ⟨w3.heap.size, 6, none⟩ = some (.int .i64 (z6)) := by have h := (HD1.out.at (k := 6) (show _ < 12 by decide)).1; exact h
  have d7 : w4.cell? ⟨w3.heap.size, 7, none⟩ = some (.int .i64 (z7)) := by have h := (HD1.out.at (k := 7) (show _ < 12 by decide)).1; exact h
  have d8 : w4.cell? ⟨w3.heap.size, 8, none⟩ = some (.int .i64 (z8)) := by have h := (HD1.out.at (k := 8) (show _ < 12 by decide)).1; exact h
  have d9 : w4.cell? ⟨w3.heap.size, 9, none⟩ = some (.int .i64 (z9)) := by have h := (HD1.out.at (k := 9) (show _ < 12 by decide)).1; exact h
  have d10 : w4.cell? ⟨w3.heap.size, 10, none⟩ = some (.int .i64 (z10)) := by have h := (HD1.out.at (k := 10) (show _ < 12 by decide)).1; exact h
  have d11 : w4.cell? ⟨w3.heap.size, 11, none⟩ = some (.int .i64 (z11)) := by have h := (HD1.out.at (k := 11) (show _ < 12 by decide)).1; exact h
  go_wp2_with fail
  refine (PL.out _).mono ?_
  rintro e w5 ⟨rfl, hb⟩
  have HB5 := Lib.hid (HC3.out.1.trans (hb.mono HC3.out.1.size))
  clear hb c0 d0 c1 d1 c2 d2 c3 d3 c4 d4 c5 d5 c6 d6 c7 d7 c8 d8 c9 d9 c10 d10 c11 d11
  go_upto_region 4 with fail
  obtain ⟨w6, hw6⟩ : ∃ w6, w6 = w5.alloc (.cells #[.int .i64 (y0 + z0), .int .i64 (y1 + z1), .int .i64 (y2 + z2), .int .i64 (y3 + z3), .int .i64 (y4 + z4), .int .i64 (y5 + z5), .int .i64 (y6 + z6), .int .i64 (y7 + z7), .int .i64 (y8 + z8), .int .i64 (y9 + z9), .int .i64 (y10 + z10), .int .i64 (y11 + z11)] 126) := ⟨_, rfl⟩
  rw [← hw6]
  have HS := Lib.hid (show Cells w w6 w5.heap.size [y0 + z0, y1 + z1, y2 + z2, y3 + z3, y4 + z4, y5 + z5, y6 + z6, y7 + z7, y8 + z8, y9 + z9, y10 + z10, y11 + z11] by rw [hw6]; exact cells_alloc HB5.out [y0 + z0, y1 + z1, y2 + z2, y3 + z3, y4 + z4, y5 + z5, y6 + z6, y7 + z7, y8 + z8, y9 + z9, y10 + z10, y11 + z11] 126 w5.heap.size rfl)
  clear hw6
  cases u
  · have AN := Lib.hid (addOkH_f (fun h => hgB_not HU.out.symm h.1 : ¬ (HgOk l ∧ HgOk r ∧ HgOk (addC l r))))
    go_wp2
    exact bodyPost_ret (v := .tuple #[.slice none 0 0, .bool false]) (by simp [results, Try.results39, go_sem]) rfl ⟨_, [], by rw [AN.out], by rw [addH_f AN.out]; exact .inl ⟨rfl, rfl, .inl rfl⟩, List.nodup_nil, (fun k hk => by cases hk), HS.out.1⟩
  · cases v
    · have AN := Lib.hid (addOkH_f (fun h => hgB_not HVV.out.symm h.2.1 : ¬ (HgOk l ∧ HgOk r ∧ HgOk (addC l r))))
      go_wp2
      exact bodyPost_ret (v := .tuple #[.slice none 0 0, .bool false]) (by simp [results, Try.results39, go_sem]) rfl ⟨_, [], by rw [AN.out], by rw [addH_f AN.out]; exact .inl ⟨rfl, rfl, .inl rfl⟩, List.nodup_nil, (fun k hk => by cases hk), HS.out.1⟩
    · have HE := Lib.hid (show addC l r = [y0 + z0, y1 + z1, y2 + z2, y3 + z3, y4 + z4, y5 + z5, y6 + z6, y7 + z7, y8 + z8, y9 + z9, y10 + z10, y11 + z11] by
        have h1 := HYS.out; have h2 := HZS.out
        rw [cellsL_t HU.out.symm] at h1
        rw [cellsL_t HVV.out.symm] at h2
        rw [h1, h2]; rfl)
      have HQ2 := Lib.hid (show q = hgB (addC l r) by rw [HQ.out, cellsL_t HU.out.symm, cellsL_t HVV.out.symm])
      have e0 : w6.cell? ⟨w5.heap.size, 0, none⟩ = some (.int .i64 (y0 + z0)) := by have h := (HS.out.at (k := 0) (show _ < 12 by decide)).1; exact h
      have e1 : w6.cell? ⟨w5.heap.size, 1, none⟩ = some (.int .i64 (y1 + z1)) := by have h := (HS.out.at (k := 1) (show _ < 12 by decide)).1; exact h
      have e2 : w6.cell? ⟨w5.heap.size, 2, none⟩ = some (.int .i64 (y2 + z2)) := by have h := (HS.out.at (k := 2) (show _ < 12 by decide)).1; exact h
      have e3 : w6.cell? ⟨w5.heap.size, 3, none⟩ = some (.int .i64 (y3 + z3)) := by have h := (HS.out.at (k := 3) (show _ < 12 by decide)).1; exact h
      have e4 : w6.cell? ⟨w5.heap.size, 4, none⟩ = some (.int .i64 (y4 + z4)) := by have h := (HS.out.at (k := 4) (show _ < 12 by decide)).1; exact h
      have e5 : w6.cell? ⟨w5.heap.size, 5, none⟩ = some (.int .i64 (y5 + z5)) := by have h := (HS.out.at (k := 5) (show _ < 12 by decide)).1; exact h
      have e6 : w6.cell? ⟨w5.heap.size, 6, none⟩ = some (.int .i64 (y6 + z6)) := by have h := (HS.out.at (k := 6) (show _ < 12 by decide)).1; exact h
      have e7 : w6.cell? ⟨w5.heap.size, 7, none⟩ = some (.int .i64 (y7 + z7)) := by have h := (HS.out.at (k := 7) (show _ < 12 by decide)).1; exact h
      have e8 : w6.cell? ⟨w5.heap.size, 8, none⟩ = some (.int .i64 (y8 + z8)) := by have h := (HS.out.at (k := 8) (show _ < 12 by decide)).1; exact h
      have e9 : w6.cell? ⟨w5.heap.size, 9, none⟩ = some (.int .i64 (y9 + z9)) := by have h := (HS.out.at (k := 9) (show _ < 12 by decide)).1; exact h
      have e10 : w6.cell? ⟨w5.heap.size, 10, none⟩ = some (.int .i64 (y10 + z10)) := by have h := (HS.out.at (k := 10) (show _ < 12 by decide)).1; exact h
      have e11 : w6.cell? ⟨w5.heap.size, 11, none⟩ = some (.int .i64 (y11 + z11)) := by have h := (HS.out.at (k := 11) (show _ < 12 by decide)).1; exact h
      go_wp2_with fail
      refine (AV.out _).mono ?_
      rintro e w7 ⟨rfl, hb⟩
      have HS7 := Lib.hid (HS.out.step hb)
      clear hb e0 e1 e2 e3 e4 e5 e6 e7 e8 e9 e10 e11
      cases q
      · have AN := Lib.hid (addOkH_f (fun h => hgB_not HQ2.out.symm h.2.2 : ¬ (HgOk l ∧ HgOk r ∧ HgOk (addC l r))))
        go_wp2
        exact bodyPost_ret (v := .tuple #[.slice none 0 0, .bool false]) (by simp [results, Try.results39, go_sem]) rfl ⟨_, [], by rw [AN.out], by rw [addH_f AN.out]; exact .inl ⟨rfl, rfl, .inl rfl⟩, List.nodup_nil, (fun k hk => by cases hk), HS7.out.1⟩
      · have AN := Lib.hid (addOkH_t ⟨hgB_of HU.out.symm, hgB_of HVV.out.symm, hgB_of HQ2.out.symm⟩)
        have HG := Lib.hid (show w.heap.size ≤ w5.heap.size from HB5.out.size)
        go_wp2
        exact bodyPost_ret (v := .tuple #[.slice (some ⟨w5.heap.size, 0, none⟩) 12 12, .bool true]) (by simp [results, Try.results39, go_sem]) rfl ⟨_, [w5.heap.size], by rw [AN.out], by rw [addH_t AN.out, HE.out]; exact HS7.out.rep (cap := 12) (show 12 ≤ 12 by decide), by simp, (fun k hk => by rw [List.mem_singleton.1 hk]; exact HG.out), HS7.out.1⟩
end Go.Proofs.Ytcfcohnkkgickaa
