/-
  The walk over the project's ValuesIn.
-/
import Derived.Test.YtcfcohnkkgickaaRows
import Derived.Test.YtcfcohnkkgickaaSmImpl
namespace Go.Proofs.Ytcfcohnkkgickaa
open Go.RowKit Num

theorem run_fldC (c m x s : Int) (w : World) : (Instr.field 142 (.agg #[.int .i64 c, .int .i64 m, .int .i64 x, .int .i64 s]) 0).run Try.prog w = .ok (.int .i64 c) w := by kernel_rfl

set_option maxRecDepth 8000 in
set_option maxHeartbeats 6400000 in
theorem impl_valS (b c u mn mx sm : Int) (ao : Option Addr) (n cap : Nat) (l : List Int) (w : World) (hl : l.length = n) (hn : n ≤ 1099511627776) (hV : IntsVal w ao l) :
    Calls Try.prog 62 #[.agg #[.int .i64 b, .int .i64 c, .int .i64 u, .int .i64 mn, .int .i64 mx, .int .i64 sm, .slice ao n cap]] w fun e w' => e = .returned (.int .i64 (valS ⟨b, c, u, mn, mx, sm, l⟩)) ∧ Below w.heap.size w w' := by
  have D1 := fun w hV => impl_isS b c u mn mx sm ao n cap l w hl hn hV
  obtain ⟨q1, hq1⟩ : ∃ q, q = smB ⟨b, c, u, mn, mx, sm, l⟩ := ⟨_, rfl⟩
  simp only [← hq1] at D1
  have DD1 := Lib.hid D1
  have HV := Lib.hid hV
  have H1 := Lib.hid hq1
  clear D1 hV hq1 hl
  cases q1
  · have AN := Lib.hid (valS_f H1.out.symm)
    go_enter Try.func62, Try.ntmps62
    go_wp2_with fail
    have K0 := (Kept.start w).alloc7 (.int .i64 b) (.int .i64 c) (.int .i64 u) (.int .i64 mn) (.int .i64 mx) (.int .i64 sm) (.slice ao n cap) 77 _ rfl
    refine (DD1.out _ (HV.out.below K0.1)).mono ?_
    rintro e9 w1 ⟨rfl, hb⟩
    have K1 := K0.step hb
    have k0 := K1.get 0 rfl
    have k1 := K1.get 1 rfl
    have k2 := K1.get 2 rfl
    have k3 := K1.get 3 rfl
    have k4 := K1.get 4 rfl
    have k5 := K1.get 5 rfl
    have k6 := K1.get 6 rfl
    clear hb K0
    go_wp2
    go_ret
    exact ⟨by rw [AN.out]; rfl, K1.1⟩
  · have HO := smB_of H1.out.symm
    have AN := Lib.hid (valS_t H1.out.symm)
    have h1 := HO.c99
    have h2 := HO.2.2.2.1
    simp only at h1 h2
    have SPO := Lib.hid (fun w => impl_spOf b c u mn mx sm (.slice ao n cap) w h2.1 h2.2 h1.2)
    clear HO h1 h2
    go_enter Try.func62, Try.ntmps62
    go_wp2_with fail
    have K0 := (Kept.start w).alloc7 (.int .i64 b) (.int .i64 c) (.int .i64 u) (.int .i64 mn) (.int .i64 mx) (.int .i64 sm) (.slice ao n cap) 77 _ rfl
    refine (DD1.out _ (HV.out.below K0.1)).mono ?_
    rintro e9 w1 ⟨rfl, hb⟩
    have K1 := K0.step hb
    have k0 := K1.get 0 rfl
    have k1 := K1.get 1 rfl
    have k2 := K1.get 2 rfl
    have k3 := K1.get 3 rfl
    have k4 := K1.get 4 rfl
    have k5 := K1.get 5 rfl
    have k6 := K1.get 6 rfl
    clear hb K0
    go_wp2_with fail
    refine (SPO.out _).mono ?_
    rintro e9 w2 ⟨rfl, hb⟩
    have K2 := K1.step hb
    clear hb K1 k0 k1 k2 k3 k4 k5 k6
    have FD := run_fldC (c - u) mn mx sm w2
    go_wp2
    go_ret
    exact ⟨by rw [AN.out]; rfl, K2.1⟩
end Go.Proofs.Ytcfcohnkkgickaa
