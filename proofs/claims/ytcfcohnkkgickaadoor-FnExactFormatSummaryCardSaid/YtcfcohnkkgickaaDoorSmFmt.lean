/-
  The walks over the model's and the project's FormatSummary.
-/
import Derived.Test.YtcfcohnkkgickaaDoorRows
import Derived.Test.YtcfcohnkkgickaaDoorKeep
import Derived.Test.YtcfcohnkkgickaaDoorSmVal
import Derived.Test.YtcfcohnkkgickaaDoorFiSpec
import Derived.Test.YtcfcohnkkgickaaDoorItoaKit
import Derived.Test.YtcfcohnkkgickaaDoorLimbs
import Derived.Deep.RegionHeld3
namespace Go.Proofs.YtcfcohnkkgickaaDoor
open Go.RowKit Num

def fmt1 (tb tc tu : List UInt8) : ByteArray := (⟨#[35]⟩ : ByteArray) ++ (⟨tb.toArray⟩ : ByteArray) ++ (⟨#[32, 114, 111, 119, 115, 32]⟩ : ByteArray) ++ (⟨tc.toArray⟩ : ByteArray) ++ (⟨#[32, 110, 117, 108, 108, 115, 32]⟩ : ByteArray) ++ (⟨tu.toArray⟩ : ByteArray)
def fmt2 (tb tc tu tn tx ts : List UInt8) : ByteArray := (⟨#[35]⟩ : ByteArray) ++ (⟨tb.toArray⟩ : ByteArray) ++ (⟨#[32, 114, 111, 119, 115, 32]⟩ : ByteArray) ++ (⟨tc.toArray⟩ : ByteArray) ++ (⟨#[32, 110, 117, 108, 108, 115, 32]⟩ : ByteArray) ++ (⟨tu.toArray⟩ : ByteArray) ++ (⟨#[32, 102, 114, 111, 109, 32]⟩ : ByteArray) ++ (⟨tn.toArray⟩ : ByteArray) ++ (⟨#[32, 116, 111, 32]⟩ : ByteArray) ++ (⟨tx.toArray⟩ : ByteArray) ++ (⟨#[32, 115, 117, 109, 32]⟩ : ByteArray) ++ (⟨ts.toArray⟩ : ByteArray)
/-- What FormatSummary answers. -/
noncomputable def fmtSm (s : Sm) : ByteArray := if smB s = true then (if s.c = s.u then fmt1 (Lib.itoa s.b) (Lib.itoa s.c) (Lib.itoa s.u) else fmt2 (Lib.itoa s.b) (Lib.itoa s.c) (Lib.itoa s.u) (Lib.itoa s.mn) (Lib.itoa s.mx) (Lib.itoa s.sm)) else ⟨#[]⟩
theorem fmtSm_no {s : Sm} (h : smB s = false) : fmtSm s = ⟨#[]⟩ := if_neg (by rw [h]; decide)
theorem fmtSm_1 {s : Sm} (h : smB s = true) (hc : s.c = s.u) : fmtSm s = fmt1 (Lib.itoa s.b) (Lib.itoa s.c) (Lib.itoa s.u) := by unfold fmtSm; rw [if_pos h, if_pos hc]
theorem fmtSm_2 {s : Sm} (h : smB s = true) (hc : ¬ s.c = s.u) : fmtSm s = fmt2 (Lib.itoa s.b) (Lib.itoa s.c) (Lib.itoa s.u) (Lib.itoa s.mn) (Lib.itoa s.mx) (Lib.itoa s.sm) := by unfold fmtSm; rw [if_pos h, if_neg hc]

set_option maxRecDepth 8000 in
set_option maxHeartbeats 6400000 in
theorem spec_fmtS (b c u mn mx sm : Int) (ao : Option Addr) (n cap : Nat) (l : List Int) (w : World) (hl : l.length = n) (hn : n ≤ 1099511627776) (hV : IntsVal w ao l) :
    Calls Tryd.prog 17 #[.agg #[.int .i64 b, .int .i64 c, .int .i64 u, .int .i64 mn, .int .i64 mx, .int .i64 sm, .slice ao n cap]] w fun e w' => e = .returned (.string (fmtSm ⟨b, c, u, mn, mx, sm, l⟩)) ∧ Below w.heap.size w w' := by
  have D1 := fun w hV => spec_isS b c u mn mx sm ao n cap l w hl hn hV
  obtain ⟨q1, hq1⟩ : ∃ q, q = smB ⟨b, c, u, mn, mx, sm, l⟩ := ⟨_, rfl⟩
  simp only [← hq1] at D1
  have DD1 := Lib.hid D1
  have HV := Lib.hid hV
  have H1 := Lib.hid hq1
  clear D1 hV hq1 hl
  cases q1
  · skip
    have AN := Lib.hid (fmtSm_no H1.out.symm)
    go_enter Tryd.func17, Tryd.ntmps17
    go_wp2_with fail
    have K0 := (Kept.start w).alloc7 (.int .i64 b) (.int .i64 c) (.int .i64 u) (.int .i64 mn) (.int .i64 mx) (.int .i64 sm) (.slice ao n cap) 49 _ rfl
    refine (DD1.out _ (HV.out.below K0.1)).mono ?_
    rintro e9 w1 ⟨rfl, hb⟩
    have K1 := K0.step hb
    clear hb K0
    go_wp2
    go_ret
    exact ⟨by rw [AN.out]; rfl, K1.1⟩
  · skip
    have HO := smB_of H1.out.symm
    obtain ⟨⟨hu0, hu1, hc1⟩, hs0, hs1⟩ := (show (0 ≤ u ∧ u ≤ c ∧ c ≤ 99) ∧ (-9801 ≤ sm ∧ sm ≤ 9801) from by
      have h1 := HO.c99
      have h2 := HO.2.2.2.1
      have h3 := HO.2.2.2.2.s99 (by unfold Sm.sp; simp only; simp only at h1 h2; omega)
      exact ⟨⟨h2.1, h2.2, h1.2⟩, h3.1, h3.2.1⟩)
    have hb9 := HO.1
    have h9 := HO.2.2.2.2.s99 (by unfold Sm.sp; simp only; omega)
    unfold Sm.sp at h9
    simp only at h9 hb9
    obtain ⟨hb0, hb1⟩ := hb9
    obtain ⟨_, _, hmn0, hmn1, hmx0, hmx1⟩ := h9
    have DB := fun w => spec_fi b w (by omega) (by omega)
    have ltb := Lib.itoa_length_le b (by omega) (by omega)
    obtain ⟨tb, htb⟩ : ∃ a, a = Lib.itoa b := ⟨_, rfl⟩
    rw [← htb] at DB ltb
    have DDB := Lib.hid DB
    have DC := fun w => spec_fi c w (by omega) (by omega)
    have ltc := Lib.itoa_length_le c (by omega) (by omega)
    obtain ⟨tc, htc⟩ : ∃ a, a = Lib.itoa c := ⟨_, rfl⟩
    rw [← htc] at DC ltc
    have DDC := Lib.hid DC
    have DU := fun w => spec_fi u w (by omega) (by omega)
    have ltu := Lib.itoa_length_le u (by omega) (by omega)
    obtain ⟨tu, htu⟩ : ∃ a, a = Lib.itoa u := ⟨_, rfl⟩
    rw [← htu] at DU ltu
    have DDU := Lib.hid DU
    have DN := fun w => spec_fi mn w (by omega) (by omega)
    have ltn := Lib.itoa_length_le mn (by omega) (by omega)
    obtain ⟨tn, htn⟩ : ∃ a, a = Lib.itoa mn := ⟨_, rfl⟩
    rw [← htn] at DN ltn
    have DDN := Lib.hid DN
    have DX := fun w => spec_fi mx w (by omega) (by omega)
    have ltx := Lib.itoa_length_le mx (by omega) (by omega)
    obtain ⟨tx, htx⟩ : ∃ a, a = Lib.itoa mx := ⟨_, rfl⟩
    rw [← htx] at DX ltx
    have DDX := Lib.hid DX
    have DS := fun w => spec_fi sm w (by omega) (by omega)
    have lts := Lib.itoa_length_le sm (by omega) (by omega)
    obtain ⟨ts, hts⟩ : ∃ a, a = Lib.itoa sm := ⟨_, rfl⟩
    rw [← hts] at DS lts
    have DDS := Lib.hid DS
    have z0 : ¬ 9223372036854775807 < 1 + tb.length := by omega
    have z1 : ¬ 9223372036854775807 < 1 + tb.length + 6 := by omega
    have z2 : ¬ 9223372036854775807 < 1 + tb.length + 6 + tc.length := by omega
    have z3 : ¬ 9223372036854775807 < 1 + tb.length + 6 + tc.length + 7 := by omega
    have z4 : ¬ 9223372036854775807 < 1 + tb.length + 6 + tc.length + 7 + tu.length := by omega
    have z5 : ¬ 9223372036854775807 < 1 + tb.length + 6 + tc.length + 7 + tu.length + 6 := by omega
    have z6 : ¬ 9223372036854775807 < 1 + tb.length + 6 + tc.length + 7 + tu.length + 6 + tn.length := by omega
    have z7 : ¬ 9223372036854775807 < 1 + tb.length + 6 + tc.length + 7 + tu.length + 6 + tn.length + 4 := by omega
    have z8 : ¬ 9223372036854775807 < 1 + tb.length + 6 + tc.length + 7 + tu.length + 6 + tn.length + 4 + tx.length := by omega
    have z9 : ¬ 9223372036854775807 < 1 + tb.length + 6 + tc.length + 7 + tu.length + 6 + tn.length + 4 + tx.length + 5 := by omega
    have z10 : ¬ 9223372036854775807 < 1 + tb.length + 6 + tc.length + 7 + tu.length + 6 + tn.length + 4 + tx.length + 5 + ts.length := by omega
    by_cases hcu : c = u
    · skip
      have AN := Lib.hid (show fmtSm ⟨b, c, u, mn, mx, sm, l⟩ = fmt1 tb tc tu by rw [fmtSm_1 H1.out.symm hcu, htb, htc, htu])
      have q1 : (c == u) = true := beq_iff_eq.2 hcu
      clear DB DC DU DN DX DS ltb ltc ltu ltn ltx lts htb htc htu htn htx hts HO hu0 hu1 hc1 hs0 hs1 hb0 hb1 hmn0 hmn1 hmx0 hmx1 hcu
      go_enter Tryd.func17, Tryd.ntmps17
      go_wp2_with fail
      have K0 := (Kept.start w).alloc7 (.int .i64 b) (.int .i64 c) (.int .i64 u) (.int .i64 mn) (.int .i64 mx) (.int .i64 sm) (.slice ao n cap) 49 _ rfl
      refine (DD1.out _ (HV.out.below K0.1)).mono ?_
      rintro e9 w1 ⟨rfl, hb⟩
      have K1 := K0.step hb
      clear hb K0
      have KQw3 := K1.sub (l' := [(⟨w.heap.size, 0, none⟩, .int .i64 b), (⟨w.heap.size, 1, none⟩, .int .i64 c), (⟨w.heap.size, 2, none⟩, .int .i64 u)]) (by intro p9 hp9; simp only [List.mem_cons, List.not_mem_nil, or_false] at hp9; rcases hp9 with rfl | rfl | rfl <;> simp)
      go_wp2_with fail
      go_region_held3 (fun w' => w'.cell? ⟨w.heap.size, 0, none⟩ = some (.int .i64 b) ∧ w'.cell? ⟨w.heap.size, 1, none⟩ = some (.int .i64 c) ∧ w'.cell? ⟨w.heap.size, 2, none⟩ = some (.int .i64 u) ∧ Below w1.heap.size w1 w') (first | assumption | exact kn3_at KQw3 (Below.refl _ _).drew | exact kn3_keep KQw3 (by assumption) (by assumption)) (first | (go_simp; go_at_call 23; (with_reducible refine (DDB.out _).mono ?_); rintro e9 w3 ⟨rfl, hb⟩) | (go_simp; go_at_call 23; (with_reducible refine (DDC.out _).mono ?_); rintro e9 w3 ⟨rfl, hb⟩) | (go_simp; go_at_call 23; (with_reducible refine (DDU.out _).mono ?_); rintro e9 w3 ⟨rfl, hb⟩))
      have KRw3 := K1.step (kn3_b ‹_ ∧ _ ∧ _ ∧ Below w1.heap.size w1 w3›)
      clear hb KQw3
      have y1 := KRw3.get 1 rfl
      have y2 := KRw3.get 2 rfl
      go_wp2
      go_ret
      exact ⟨by rw [AN.out]; rfl, KRw3.1⟩
    · skip
      have AN := Lib.hid (show fmtSm ⟨b, c, u, mn, mx, sm, l⟩ = fmt2 tb tc tu tn tx ts by rw [fmtSm_2 H1.out.symm hcu, htb, htc, htu, htn, htx, hts])
      have q1 : (c == u) = false := beq_eq_false_iff_ne.2 hcu
      clear DB DC DU DN DX DS ltb ltc ltu ltn ltx lts htb htc htu htn htx hts HO hu0 hu1 hc1 hs0 hs1 hb0 hb1 hmn0 hmn1 hmx0 hmx1 hcu
      go_enter Tryd.func17, Tryd.ntmps17
      go_wp2_with fail
      have K0 := (Kept.start w).alloc7 (.int .i64 b) (.int .i64 c) (.int .i64 u) (.int .i64 mn) (.int .i64 mx) (.int .i64 sm) (.slice ao n cap) 49 _ rfl
      refine (DD1.out _ (HV.out.below K0.1)).mono ?_
      rintro e9 w1 ⟨rfl, hb⟩
      have K1 := K0.step hb
      clear hb K0
      have KQw3 := K1.sub (l' := [(⟨w.heap.size, 0, none⟩, .int .i64 b), (⟨w.heap.size, 1, none⟩, .int .i64 c), (⟨w.heap.size, 2, none⟩, .int .i64 u)]) (by intro p9 hp9; simp only [List.mem_cons, List.not_mem_nil, or_false] at hp9; rcases hp9 with rfl | rfl | rfl <;> simp)
      go_wp2_with fail
      go_region_held3 (fun w' => w'.cell? ⟨w.heap.size, 0, none⟩ = some (.int .i64 b) ∧ w'.cell? ⟨w.heap.size, 1, none⟩ = some (.int .i64 c) ∧ w'.cell? ⟨w.heap.size, 2, none⟩ = some (.int .i64 u) ∧ Below w1.heap.size w1 w') (first | assumption | exact kn3_at KQw3 (Below.refl _ _).drew | exact kn3_keep KQw3 (by assumption) (by assumption)) (first | (go_simp; go_at_call 23; (with_reducible refine (DDB.out _).mono ?_); rintro e9 w3 ⟨rfl, hb⟩) | (go_simp; go_at_call 23; (with_reducible refine (DDC.out _).mono ?_); rintro e9 w3 ⟨rfl, hb⟩) | (go_simp; go_at_call 23; (with_reducible refine (DDU.out _).mono ?_); rintro e9 w3 ⟨rfl, hb⟩))
      have KRw3 := K1.step (kn3_b ‹_ ∧ _ ∧ _ ∧ Below w1.heap.size w1 w3›)
      clear hb KQw3
      have y1 := KRw3.get 1 rfl
      have y2 := KRw3.get 2 rfl
      have KQw6 := KRw3.sub (l' := [(⟨w.heap.size, 3, none⟩, .int .i64 mn), (⟨w.heap.size, 4, none⟩, .int .i64 mx), (⟨w.heap.size, 5, none⟩, .int .i64 sm)]) (by intro p9 hp9; simp only [List.mem_cons, List.not_mem_nil, or_false] at hp9; rcases hp9 with rfl | rfl | rfl <;> simp)
      go_wp2_with fail
      go_region_held3 (fun w' => w'.cell? ⟨w.heap.size, 3, none⟩ = some (.int .i64 mn) ∧ w'.cell? ⟨w.heap.size, 4, none⟩ = some (.int .i64 mx) ∧ w'.cell? ⟨w.heap.size, 5, none⟩ = some (.int .i64 sm) ∧ Below w3.heap.size w3 w') (first | assumption | exact kn3_at KQw6 (Below.refl _ _).drew | exact kn3_keep KQw6 (by assumption) (by assumption)) (first | (go_simp; go_at_call 23; (with_reducible refine (DDN.out _).mono ?_); rintro e9 w6 ⟨rfl, hb⟩) | (go_simp; go_at_call 23; (with_reducible refine (DDX.out _).mono ?_); rintro e9 w6 ⟨rfl, hb⟩) | (go_simp; go_at_call 23; (with_reducible refine (DDS.out _).mono ?_); rintro e9 w6 ⟨rfl, hb⟩))
      have KRw6 := KRw3.step (kn3_b ‹_ ∧ _ ∧ _ ∧ Below w3.heap.size w3 w6›)
      clear hb KQw6
      go_wp2
      go_ret
      exact ⟨by rw [AN.out]; rfl, KRw6.1⟩

set_option maxRecDepth 8000 in
set_option maxHeartbeats 6400000 in
theorem impl_fmtS (b c u mn mx sm : Int) (ao : Option Addr) (n cap : Nat) (l : List Int) (w : World) (hl : l.length = n) (hn : n ≤ 1099511627776) (hV : IntsVal w ao l) (ht : PowTab w) :
    Calls Tryd.prog 19 #[.agg #[.int .i64 b, .int .i64 c, .int .i64 u, .int .i64 mn, .int .i64 mx, .int .i64 sm, .slice ao n cap]] w fun e w' => e = .returned (.string (fmtSm ⟨b, c, u, mn, mx, sm, l⟩)) ∧ Below w.heap.size w w' := by
  have D1 := fun w hV => impl_isS b c u mn mx sm ao n cap l w hl hn hV
  have D2 := fun w hV => impl_valS b c u mn mx sm ao n cap l w hl hn hV
  have HT : Hid (PowTab w) := ht
  obtain ⟨q1, hq1⟩ : ∃ q, q = smB ⟨b, c, u, mn, mx, sm, l⟩ := ⟨_, rfl⟩
  simp only [← hq1] at D1
  have DD1 := Lib.hid D1
  have HV := Lib.hid hV
  have H1 := Lib.hid hq1
  clear D1 hV hq1 hl ht
  cases q1
  · skip
    have AN := Lib.hid (fmtSm_no H1.out.symm)
    clear D2
    go_enter Tryd.func19, Tryd.ntmps19
    go_wp2_with fail
    have K0 := (Kept.start w).alloc7 (.int .i64 b) (.int .i64 c) (.int .i64 u) (.int .i64 mn) (.int .i64 mx) (.int .i64 sm) (.slice ao n cap) 49 _ rfl
    refine (DD1.out _ (HV.out.below K0.1)).mono ?_
    rintro e9 w1 ⟨rfl, hb⟩
    have K1 := K0.step hb
    clear hb K0
    go_wp2
    go_ret
    exact ⟨by rw [AN.out]; rfl, K1.1⟩
  · skip
    have HO := smB_of H1.out.symm
    obtain ⟨⟨hu0, hu1, hc1⟩, hs0, hs1⟩ := (show (0 ≤ u ∧ u ≤ c ∧ c ≤ 99) ∧ (-9801 ≤ sm ∧ sm ≤ 9801) from by
      have h1 := HO.c99
      have h2 := HO.2.2.2.1
      have h3 := HO.2.2.2.2.s99 (by unfold Sm.sp; simp only; simp only at h1 h2; omega)
      exact ⟨⟨h2.1, h2.2, h1.2⟩, h3.1, h3.2.1⟩)
    have hb9 := HO.1
    have h9 := HO.2.2.2.2.s99 (by unfold Sm.sp; simp only; omega)
    unfold Sm.sp at h9
    simp only at h9 hb9
    obtain ⟨hb0, hb1⟩ := hb9
    obtain ⟨_, _, hmn0, hmn1, hmx0, hmx1⟩ := h9
    have DB := fun w ht => impl_fi b w (by omega) (by omega) ht
    have ltb := Lib.itoa_length_le b (by omega) (by omega)
    obtain ⟨tb, htb⟩ : ∃ a, a = Lib.itoa b := ⟨_, rfl⟩
    rw [← htb] at DB ltb
    have DDB := Lib.hid DB
    have DC := fun w ht => impl_fi c w (by omega) (by omega) ht
    have ltc := Lib.itoa_length_le c (by omega) (by omega)
    obtain ⟨tc, htc⟩ : ∃ a, a = Lib.itoa c := ⟨_, rfl⟩
    rw [← htc] at DC ltc
    have DDC := Lib.hid DC
    have DU := fun w ht => impl_fi u w (by omega) (by omega) ht
    have ltu := Lib.itoa_length_le u (by omega) (by omega)
    obtain ⟨tu, htu⟩ : ∃ a, a = Lib.itoa u := ⟨_, rfl⟩
    rw [← htu] at DU ltu
    have DDU := Lib.hid DU
    have DN := fun w ht => impl_fi mn w (by omega) (by omega) ht
    have ltn := Lib.itoa_length_le mn (by omega) (by omega)
    obtain ⟨tn, htn⟩ : ∃ a, a = Lib.itoa mn := ⟨_, rfl⟩
    rw [← htn] at DN ltn
    have DDN := Lib.hid DN
    have DX := fun w ht => impl_fi mx w (by omega) (by omega) ht
    have ltx := Lib.itoa_length_le mx (by omega) (by omega)
    obtain ⟨tx, htx⟩ : ∃ a, a = Lib.itoa mx := ⟨_, rfl⟩
    rw [← htx] at DX ltx
    have DDX := Lib.hid DX
    have DS := fun w ht => impl_fi sm w (by omega) (by omega) ht
    have lts := Lib.itoa_length_le sm (by omega) (by omega)
    obtain ⟨ts, hts⟩ : ∃ a, a = Lib.itoa sm := ⟨_, rfl⟩
    rw [← hts] at DS lts
    have DDS := Lib.hid DS
    have z0 : ¬ 9223372036854775807 < 1 + tb.length := by omega
    have z1 : ¬ 9223372036854775807 < 1 + tb.length + 6 := by omega
    have z2 : ¬ 9223372036854775807 < 1 + tb.length + 6 + tc.length := by omega
    have z3 : ¬ 9223372036854775807 < 1 + tb.length + 6 + tc.length + 7 := by omega
    have z4 : ¬ 9223372036854775807 < 1 + tb.length + 6 + tc.length + 7 + tu.length := by omega
    have z5 : ¬ 9223372036854775807 < 1 + tb.length + 6 + tc.length + 7 + tu.length + 6 := by omega
    have z6 : ¬ 9223372036854775807 < 1 + tb.length + 6 + tc.length + 7 + tu.length + 6 + tn.length := by omega
    have z7 : ¬ 9223372036854775807 < 1 + tb.length + 6 + tc.length + 7 + tu.length + 6 + tn.length + 4 := by omega
    have z8 : ¬ 9223372036854775807 < 1 + tb.length + 6 + tc.length + 7 + tu.length + 6 + tn.length + 4 + tx.length := by omega
    have z9 : ¬ 9223372036854775807 < 1 + tb.length + 6 + tc.length + 7 + tu.length + 6 + tn.length + 4 + tx.length + 5 := by omega
    have z10 : ¬ 9223372036854775807 < 1 + tb.length + 6 + tc.length + 7 + tu.length + 6 + tn.length + 4 + tx.length + 5 + ts.length := by omega
    obtain ⟨vv, hvv⟩ : ∃ v, v = valS ⟨b, c, u, mn, mx, sm, l⟩ := ⟨_, rfl⟩
    have hv2 : vv = c - u := hvv.trans (valS_t H1.out.symm)
    simp only [← hvv] at D2
    have DD2 := Lib.hid D2
    by_cases hcu : c = u
    · skip
      have AN := Lib.hid (show fmtSm ⟨b, c, u, mn, mx, sm, l⟩ = fmt1 tb tc tu by rw [fmtSm_1 H1.out.symm hcu, htb, htc, htu])
      have q1 : (vv == 0) = true := beq_iff_eq.2 (by omega)
      clear DB DC DU DN DX DS ltb ltc ltu ltn ltx lts htb htc htu htn htx hts D2 hvv HO hu0 hu1 hc1 hs0 hs1 hb0 hb1 hmn0 hmn1 hmx0 hmx1 hcu hv2
      go_enter Tryd.func19, Tryd.ntmps19
      go_wp2_with fail
      have K0 := (Kept.start w).alloc7 (.int .i64 b) (.int .i64 c) (.int .i64 u) (.int .i64 mn) (.int .i64 mx) (.int .i64 sm) (.slice ao n cap) 49 _ rfl
      refine (DD1.out _ (HV.out.below K0.1)).mono ?_
      rintro e9 w1 ⟨rfl, hb⟩
      have K1 := K0.step hb
      clear hb K0
      have KQw3 := K1.sub (l' := [(⟨w.heap.size, 0, none⟩, .int .i64 b), (⟨w.heap.size, 1, none⟩, .int .i64 c), (⟨w.heap.size, 2, none⟩, .int .i64 u)]) (by intro p9 hp9; simp only [List.mem_cons, List.not_mem_nil, or_false] at hp9; rcases hp9 with rfl | rfl | rfl <;> simp)
      have HTw3 := Lib.hid (HT.out.below K1.1 (Nat.le_refl _))
      go_wp2_with fail
      go_region_held3 (fun w' => w'.cell? ⟨w.heap.size, 0, none⟩ = some (.int .i64 b) ∧ w'.cell? ⟨w.heap.size, 1, none⟩ = some (.int .i64 c) ∧ w'.cell? ⟨w.heap.size, 2, none⟩ = some (.int .i64 u) ∧ Below w1.heap.size w1 w') (first | assumption | exact kn3_at KQw3 (Below.refl _ _).drew | exact kn3_keep KQw3 (by assumption) (by assumption)) (first | (go_simp; go_at_call 41; (with_reducible refine (DDB.out _ ?_).mono ?_); (first | exact HTw3.out.below (kn3_b (by assumption)) (Nat.le_refl _) | exact HTw3.out.below (Below.refl _ _).drew (Nat.le_refl _)); rintro e9 w3 ⟨rfl, hb⟩) | (go_simp; go_at_call 41; (with_reducible refine (DDC.out _ ?_).mono ?_); (first | exact HTw3.out.below (kn3_b (by assumption)) (Nat.le_refl _) | exact HTw3.out.below (Below.refl _ _).drew (Nat.le_refl _)); rintro e9 w3 ⟨rfl, hb⟩) | (go_simp; go_at_call 41; (with_reducible refine (DDU.out _ ?_).mono ?_); (first | exact HTw3.out.below (kn3_b (by assumption)) (Nat.le_refl _) | exact HTw3.out.below (Below.refl _ _).drew (Nat.le_refl _)); rintro e9 w3 ⟨rfl, hb⟩))
      have KRw3 := K1.step (kn3_b ‹_ ∧ _ ∧ _ ∧ Below w1.heap.size w1 w3›)
      clear hb KQw3
      have y0 := KRw3.get 0 rfl
      have y1 := KRw3.get 1 rfl
      have y2 := KRw3.get 2 rfl
      have y3 := KRw3.get 3 rfl
      have y4 := KRw3.get 4 rfl
      have y5 := KRw3.get 5 rfl
      have y6 := KRw3.get 6 rfl
      go_wp2_with fail
      refine (DD2.out _ (HV.out.below KRw3.1)).mono ?_
      rintro e9 w4 ⟨rfl, hb⟩
      have K4 := KRw3.step hb
      clear hb y0 y1 y2 y3 y4 y5 y6 KRw3
      go_wp2
      go_ret
      exact ⟨by rw [AN.out]; rfl, K4.1⟩
    · skip
      have AN := Lib.hid (show fmtSm ⟨b, c, u, mn, mx, sm, l⟩ = fmt2 tb tc tu tn tx ts by rw [fmtSm_2 H1.out.symm hcu, htb, htc, htu, htn, htx, hts])
      have q1 : (vv == 0) = false := beq_eq_false_iff_ne.2 (by omega)
      clear DB DC DU DN DX DS ltb ltc ltu ltn ltx lts htb htc htu htn htx hts D2 hvv HO hu0 hu1 hc1 hs0 hs1 hb0 hb1 hmn0 hmn1 hmx0 hmx1 hcu hv2
      go_enter Tryd.func19, Tryd.ntmps19
      go_wp2_with fail
      have K0 := (Kept.start w).alloc7 (.int .i64 b) (.int .i64 c) (.int .i64 u) (.int .i64 mn) (.int .i64 mx) (.int .i64 sm) (.slice ao n cap) 49 _ rfl
      refine (DD1.out _ (HV.out.below K0.1)).mono ?_
      rintro e9 w1 ⟨rfl, hb⟩
      have K1 := K0.step hb
      clear hb K0
      have KQw3 := K1.sub (l' := [(⟨w.heap.size, 0, none⟩, .int .i64 b), (⟨w.heap.size, 1, none⟩, .int .i64 c), (⟨w.heap.size, 2, none⟩, .int .i64 u)]) (by intro p9 hp9; simp only [List.mem_cons, List.not_mem_nil, or_false] at hp9; rcases hp9 with rfl | rfl | rfl <;> simp)
      have HTw3 := Lib.hid (HT.out.below K1.1 (Nat.le_refl _))
      go_wp2_with fail
      go_region_held3 (fun w' => w'.cell? ⟨w.heap.size, 0, none⟩ = some (.int .i64 b) ∧ w'.cell? ⟨w.heap.size, 1, none⟩ = some (.int .i64 c) ∧ w'.cell? ⟨w.heap.size, 2, none⟩ = some (.int .i64 u) ∧ Below w1.heap.size w1 w') (first | assumption | exact kn3_at KQw3 (Below.refl _ _).drew | exact kn3_keep KQw3 (by assumption) (by assumption)) (first | (go_simp; go_at_call 41; (with_reducible refine (DDB.out _ ?_).mono ?_); (first | exact HTw3.out.below (kn3_b (by assumption)) (Nat.le_refl _) | exact HTw3.out.below (Below.refl _ _).drew (Nat.le_refl _)); rintro e9 w3 ⟨rfl, hb⟩) | (go_simp; go_at_call 41; (with_reducible refine (DDC.out _ ?_).mono ?_); (first | exact HTw3.out.below (kn3_b (by assumption)) (Nat.le_refl _) | exact HTw3.out.below (Below.refl _ _).drew (Nat.le_refl _)); rintro e9 w3 ⟨rfl, hb⟩) | (go_simp; go_at_call 41; (with_reducible refine (DDU.out _ ?_).mono ?_); (first | exact HTw3.out.below (kn3_b (by assumption)) (Nat.le_refl _) | exact HTw3.out.below (Below.refl _ _).drew (Nat.le_refl _)); rintro e9 w3 ⟨rfl, hb⟩))
      have KRw3 := K1.step (kn3_b ‹_ ∧ _ ∧ _ ∧ Below w1.heap.size w1 w3›)
      clear hb KQw3
      have y0 := KRw3.get 0 rfl
      have y1 := KRw3.get 1 rfl
      have y2 := KRw3.get 2 rfl
      have y3 := KRw3.get 3 rfl
      have y4 := KRw3.get 4 rfl
      have y5 := KRw3.get 5 rfl
      have y6 := KRw3.get 6 rfl
      go_wp2_with fail
      refine (DD2.out _ (HV.out.below KRw3.1)).mono ?_
      rintro e9 w4 ⟨rfl, hb⟩
      have K4 := KRw3.step hb
      clear hb y0 y1 y2 y3 y4 y5 y6 KRw3
      have KQw6 := K4.sub (l' := [(⟨w.heap.size, 3, none⟩, .int .i64 mn), (⟨w.heap.size, 4, none⟩, .int .i64 mx), (⟨w.heap.size, 5, none⟩, .int .i64 sm)]) (by intro p9 hp9; simp only [List.mem_cons, List.not_mem_nil, or_false] at hp9; rcases hp9 with rfl | rfl | rfl <;> simp)
      have HTw6 := Lib.hid (HT.out.below K4.1 (Nat.le_refl _))
      go_wp2_with fail
      go_region_held3 (fun w' => w'.cell? ⟨w.heap.size, 3, none⟩ = some (.int .i64 mn) ∧ w'.cell? ⟨w.heap.size, 4, none⟩ = some (.int .i64 mx) ∧ w'.cell? ⟨w.heap.size, 5, none⟩ = some (.int .i64 sm) ∧ Below w4.heap.size w4 w') (first | assumption | exact kn3_at KQw6 (Below.refl _ _).drew | exact kn3_keep KQw6 (by assumption) (by assumption)) (first | (go_simp; go_at_call 41; (with_reducible refine (DDN.out _ ?_).mono ?_); (first | exact HTw6.out.below (kn3_b (by assumption)) (Nat.le_refl _) | exact HTw6.out.below (Below.refl _ _).drew (Nat.le_refl _)); rintro e9 w6 ⟨rfl, hb⟩) | (go_simp; go_at_call 41; (with_reducible refine (DDX.out _ ?_).mono ?_); (first | exact HTw6.out.below (kn3_b (by assumption)) (Nat.le_refl _) | exact HTw6.out.below (Below.refl _ _).drew (Nat.le_refl _)); rintro e9 w6 ⟨rfl, hb⟩) | (go_simp; go_at_call 41; (with_reducible refine (DDS.out _ ?_).mono ?_); (first | exact HTw6.out.below (kn3_b (by assumption)) (Nat.le_refl _) | exact HTw6.out.below (Below.refl _ _).drew (Nat.le_refl _)); rintro e9 w6 ⟨rfl, hb⟩))
      have KRw6 := K4.step (kn3_b ‹_ ∧ _ ∧ _ ∧ Below w4.heap.size w4 w6›)
      clear hb KQw6
      go_wp2
      go_ret
      exact ⟨by rw [AN.out]; rfl, KRw6.1⟩

end Go.Proofs.YtcfcohnkkgickaaDoor
