/-
  The walks over the laws' own measure of tables, with the sum of the rows; the number behind marked blocks.
-/
import Derived.Test.YtcfcohnkkgickaaRows
import Derived.Test.YtcfcohnkkgickaaTbLaw
import Derived.Test.YtcfcohnkkgickaaTmMark
namespace Go.Proofs.Ytcfcohnkkgickaa
open Go.RowKit Num

/-- How many rows the first blocks have. -/
def rowsN (B : Nat → Blk) : Nat → Nat
  | 0 => 0
  | n + 1 => rowsN B n + (B n).rows.length
theorem markEnd_lst (B : Nat → Blk) (k : Int) : ∀ n, markEnd k (lstB n B) = k + (n : Int) + 5 * (rowsN B n : Int)
  | 0 => by simp [lstB, markEnd, rowsN]
  | n + 1 => by
    rw [lstB_succ, markEnd_app, markEnd_lst B k n, rowsN]
    simp only [markEnd]
    omega

/-- What szBlockS answers: -1, or what is left; then every slice is short, and so are all the rows. -/
def SzPost2 (L : Int) (n : Nat) (B : Nat → Blk) (w : World) (e : Ending) (w' : World) : Prop :=
  (∃ r : Int, e = .returned (.int .i64 r) ∧ (r = -1 ∨ (0 ≤ r ∧ r ≤ L ∧ n ≤ 1048576 ∧ rowsN B n ≤ 1048576 ∧ ∀ k, k < n → (B k).rows.length ≤ 1048576))) ∧ Below w.heap.size w w'

set_option maxRecDepth 8000 in
set_option maxHeartbeats 3200000 in
theorem law_szBlks2 (L : Int) (ao : Option Addr) (n cap : Nat) (B : Nat → Blk) (w : World) (h0 : 0 ≤ L) (hL : L ≤ 1048576) (hm : n ≤ maxLen) (hA : BlksArg w ao n B) :
    Calls Try.prog 74 #[.slice ao n cap, .int .i64 L] w (SzPost2 L n B w) := by
  have hmI : (n : Int) ≤ 9223372036854775807 := by unfold maxLen at hm; omega
  have HA := Lib.hid hA
  clear hA
  by_cases hbig : L < (n : Int)
  · have h2 : (L - (n : Int)) < 0 := by omega
    have h3 : decide ((L - (n : Int)) < 0) = true := decide_eq_true h2
    go_enter Try.func74, Try.ntmps74
    go_wp2
    go_ret
    exact ⟨⟨-1, rfl, .inl rfl⟩, Below.refl _ _⟩
  · have hn : n ≤ 1048576 := by omega
    have hnI : (n : Int) ≤ 1048576 := by omega
    have h2 : ¬ (L - (n : Int)) < 0 := by omega
    have h3 : decide ((L - (n : Int)) < 0) = false := decide_eq_false h2
    go_enter Try.func74, Try.ntmps74
    go_wp2_with fail
    go_loopw [1, 5] (fun lv iv wr => ∃ (k : Nat) (r : Int), k ≤ n ∧ iv = .int .i64 k ∧ lv = .int .i64 r ∧ 0 ≤ r ∧ r + (rowsN B k : Int) ≤ L ∧ Hid (∀ j, j < k → (B j).rows.length ≤ 1048576) ∧ Hid (Below w.heap.size w wr)) (fun _ iv _ => n - (intOf iv).toNat)
    case atStart => exact ⟨0, L - (n : Int), Nat.zero_le _, rfl, rfl, by omega, by simp only [rowsN]; omega, (fun j hj => by omega), Below.refl _ _⟩
    case round =>
      obtain ⟨k, r, hk, rfl, rfl, hr0, hr1, HS, HZ⟩ := hrel
      by_cases hlt : k < n
      · have hkI : (k : Int) < (n : Int) := by omega
        rcases HA.out.below HZ.out with h9 | ⟨x, rfl, hxb, hrow⟩
        · omega
        · obtain ⟨rao, rn, rcap, R, c0, c1, _, hrm, hbr⟩ := hrow k hlt
          have hrl : (B k).rows.length = rn := by rw [hbr, lst_len]
          have hrm2 : rn ≤ 9223372036854775807 := by unfold maxLen at hrm; omega
          have hrI : (rn : Int) ≤ 9223372036854775807 := by omega
          have hrL : r ≤ L := by omega
          by_cases hb1 : r < (rn : Int)
          · clear hrow hbr hrl
            go_wp2_with fail
            refine (law_szbL_big r _ rao rn rcap _ hr0 (by omega) hb1 hrm2).mono ?_
            rintro e w1 ⟨rfl, hb⟩
            have HB := Lib.hid (HZ.out.trans (hb.mono HZ.out.size))
            clear hb c0 c1
            go_wp2
            go_ret
            exact ⟨⟨-1, rfl, .inl rfl⟩, HB.out⟩
          · have HS2 := Lib.hid (show ∀ j, j < k + 1 → (B j).rows.length ≤ 1048576 from fun j hj => by
              by_cases e : j < k
              · exact HS.out j e
              · obtain rfl : j = k := by omega
                rw [hrl]; omega)
            have z1 : ¬ (r - (rn : Int)) < 0 := by omega
            have z2 : decide ((r - (rn : Int)) < 0) = false := decide_eq_false z1
            have z3 : 0 ≤ r - (rn : Int) := by omega
            have z4 := Lib.hid (show (r - (rn : Int)) + (rowsN B (k + 1) : Int) ≤ L from by simp only [rowsN, hrl]; omega)
            clear hrow hbr hrl hr1
            go_wp2_with fail
            refine (law_szbL r _ rao rn rcap _ hr0 (by omega) (by omega)).mono ?_
            rintro e w1 ⟨rfl, hb⟩
            have HB := Lib.hid (HZ.out.trans (hb.mono HZ.out.size))
            clear hb c0 c1
            go_wp2
            go_roundw
            case rel => exact ⟨k + 1, r - (rn : Int), by omega, by go_num, rfl, z3, z4.out, HS2, HB⟩
            case measure => simp [intOf]; omega
      · obtain rfl : k = n := by omega
        have hsd : decide ((k : Int) < (k : Int)) = false := decide_eq_false (by omega)
        go_wp2
        go_ret
        exact ⟨⟨r, rfl, .inr ⟨hr0, by omega, hn, by omega, HS.out⟩⟩, HZ.out⟩

set_option maxRecDepth 8000 in
theorem law_szTbl2 (L : Int) (ver : Int) (ao : Option Addr) (n cap : Nat) (B : Nat → Blk) (w : World) (h0 : 0 ≤ L) (hL : L ≤ 1048576) (hm : n ≤ maxLen) (hA : BlksArg w ao n B) :
    Calls Try.prog 13 #[.agg #[.int .i64 ver, .slice ao n cap], .int .i64 L] w (SzPost2 L n B w) := by
  have HA := Lib.hid hA
  clear hA
  go_enter Try.func13, Try.ntmps13
  go_wp2_with fail
  have K0 := (Kept.start w).alloc2 (.int .i64 ver) (.slice ao n cap) 24 _ rfl
  refine (law_szBlks2 L ao n cap B _ h0 hL hm (HA.out.below K0.1)).mono ?_
  rintro e w1 ⟨⟨r, rfl, hr⟩, hb⟩
  have K1 := K0.step hb
  clear hb K0
  rcases hr with rfl | ⟨hr0, hr1, hr2⟩
  · go_wp2
    go_ret
    exact ⟨⟨-1, rfl, .inl rfl⟩, K1.1⟩
  · have z1 : ¬ r < 0 := by omega
    have z2 : decide (r < 0) = false := decide_eq_false z1
    have H2 := Lib.hid hr2
    clear hr2
    go_wp2
    go_ret
    exact ⟨⟨r, rfl, .inr ⟨hr0, hr1, H2.out⟩⟩, K1.1⟩
end Go.Proofs.Ytcfcohnkkgickaa
