/-
  The walk over the project's CountRows.
-/
import Derived.Test.YtbaoipbfpjgglaaRows
import Derived.Test.YtbaoipbfpjgglaaTbFind
namespace Go.Proofs.Ytbaoipbfpjgglaa
open Go.RowKit Num

set_option maxRecDepth 8000 in
set_option maxHeartbeats 3200000 in
theorem impl_cr (ver : Int) (ao : Option Addr) (n cap : Nat) (l : List Blk) (w : World) (hl : l.length = n) (hn : n ≤ 1048576) (hr : ∀ k, k < n → (Bn l k).rows.length ≤ 1048576) (hV : BlksVal w ao l) :
    Calls Try.prog 20 #[.agg #[.int .i64 ver, .slice ao n cap]] w fun e w' => e = .returned (.int .i64 (sumR l n : Nat)) ∧ Below w.heap.size w w' := by
  have HV := Lib.hid hV
  have HL := Lib.hid hl
  have HR := Lib.hid hr
  clear hV hl hr
  have hnI : (n : Int) ≤ 1048576 := by omega
  go_enter Try.func20, Try.ntmps20
  go_wp2_with fail
  have K0 := (Kept.start w).alloc2 (.int .i64 ver) (.slice ao n cap) 29 _ rfl
  go_loopw [3, 9] (fun sv iv wr => ∃ (k t : Nat), k ≤ n ∧ iv = .int .i64 k ∧ sv = .int .i64 t ∧ t ≤ 1099511627776 ∧ Hid (t = sumR l k) ∧ Hid (Below w.heap.size w wr)) (fun _ iv _ => n - (intOf iv).toNat)
  case atStart => exact ⟨0, 0, Nat.zero_le _, rfl, rfl, by omega, rfl, K0.1⟩
  case round =>
    obtain ⟨k, t, hk, rfl, rfl, ht, HT, HB⟩ := hrel
    clear K0
    by_cases hlt : k < n
    · have hkI : (k : Int) < (n : Int) := by omega
      have htI : (t : Int) ≤ 1099511627776 := by omega
      obtain ⟨g, rfl, hg, hB⟩ := (HV.out.below HB.out).head HL.out (by omega)
      obtain ⟨rao, rcap, c0, c1, _⟩ := hB k hlt
      have hrl := HR.out k hlt
      have hs := sumR_le HR.out (k + 1) (by omega)
      have hs2 : t + (Bn l k).rows.length = sumR l (k + 1) := by rw [HT.out]; rfl
      have hs3 : t + (Bn l k).rows.length ≤ 1099511627776 := by omega
      have HS := Lib.hid hs2
      obtain ⟨m, hm⟩ : ∃ m, m = (Bn l k).rows.length := ⟨_, rfl⟩
      obtain ⟨bid, hbid⟩ : ∃ b, b = (Bn l k).id := ⟨_, rfl⟩
      rw [← hm] at c1 hs3 hrl HS
      rw [← hbid] at c0
      have hmI : (m : Int) ≤ 1048576 := by omega
      have HB2 := Lib.hid (HB.out.alloc HB.out.size (.cells #[.int .i64 bid, .slice rao m rcap] 44))
      clear hB hs hs2 hm hbid
      go_wp2
      go_roundw
      case rel => exact ⟨k + 1, t + m, by omega, by go_num, int_eq (by omega), by omega, HS, HB2⟩
      case measure => simp [intOf]; omega
    · obtain rfl : k = n := by omega
      have hsd : decide ((k : Int) < (k : Int)) = false := decide_eq_false (by omega)
      go_wp2
      go_ret
      exact ⟨ret_int (by rw [HT.out]), HB.out⟩
end Go.Proofs.Ytbaoipbfpjgglaa
