/-
  The walk over the project's Table.endsBehind.
-/
import Derived.Test.YtcfcohnkkgickaaRows
import Derived.Test.YtcfcohnkkgickaaMgB
namespace Go.Proofs.Ytcfcohnkkgickaa
open Go.RowKit Num

open Classical in
set_option maxRecDepth 8000 in
set_option maxHeartbeats 3200000 in
theorem impl_ebh (ver id : Int) (ao : Option Addr) (n cap : Nat) (l : List Blk) (w : World) (hl : l.length = n) (hn : n ≤ 1048576) (hV : BlksVal w ao l) :
    Calls Try.prog 160 #[.agg #[.int .i64 ver, .slice ao n cap], .int .i64 id] w fun e w' => e = .returned (.bool (decide (0 < n ∧ id < (Bn l (n - 1)).id))) ∧ Below w.heap.size w w' := by
  have K0 := (Kept.start w).alloc2 (.int .i64 ver) (.slice ao n cap) 32 _ rfl
  have b1 := Lib.hid K0.1
  have HV := Lib.hid hV
  have HL := Lib.hid hl
  have hnI : (n : Int) ≤ 1048576 := by omega
  have r1 := K0.get 1 rfl
  clear hV hl K0
  by_cases h0 : n = 0
  · subst h0
    have AN := Lib.hid (show decide (0 < 0 ∧ id < (Bn l (0 - 1)).id) = false by simp)
    go_enter Try.func160, Try.ntmps160
    go_wp2
    go_ret
    exact ⟨by rw [AN.out]; rfl, b1.out⟩
  · obtain ⟨k, rfl⟩ : ∃ k, n = k + 1 := ⟨n - 1, by omega⟩
    obtain ⟨g, rfl, hg, hBk⟩ := (HV.out.below b1.out).head HL.out (by omega)
    obtain ⟨rao, rcap, c0, c1, hx⟩ := hBk k (by omega)
    obtain ⟨bid, hbid⟩ : ∃ b, b = (Bn l k).id := ⟨_, rfl⟩
    rw [← hbid] at c0
    have HI := Lib.hid hbid
    clear hBk hbid hx
    have e1 : ((k + 1 : Nat) : Int) - 1 = (k : Int) := by omega
    have hk0 : decide ((0 : Int) ≤ (k : Int)) = true := decide_eq_true (by omega)
    have AN := Lib.hid (show decide (0 < k + 1 ∧ id < (Bn l (k + 1 - 1)).id) = decide (id < bid) by
      rw [HI.out]; simp)
    go_enter Try.func160, Try.ntmps160
    go_wp2
    go_ret
    exact ⟨by rw [AN.out]; rfl, b1.out⟩
end Go.Proofs.Ytcfcohnkkgickaa
