/-
  The walk over the law's digits.
-/
import Derived.Test.YtphndncamgbonaaDoorRows
import Derived.Test.YtphndncamgbonaaDoorDgPlain
import Derived.Test.YtphndncamgbonaaDoorHelp
import Derived.WalkKit
import Derived.WalkSpells
import Derived.WalkLawsBesides
import Derived.IntWalk
import Derived.Lib.Hide
namespace Go.Proofs.YtphndncamgbonaaDoor
open Go.RowKit Num

def sgI (b : Bool) : Int := if b then -1 else 1

theorem takeD_snoc (s : ByteArray) (k : Nat) (h : k < s.size) : s.data.toList.take (k + 1) = s.data.toList.take k ++ [s[k]] := by
  rw [List.take_succ_eq_append_getElem (by simpa using h)]; rfl

set_option maxRecDepth 8000 in
set_option maxHeartbeats 3200000 in
theorem law_dg (s : ByteArray) (w : World) (hs : s.size ≤ 1000) :
    Calls Tryd.prog 31 #[.string s] w fun e w' => e = .returned (.int .i64 (dgI s.data.toList)) ∧ Below w.heap.size w w' := by
  have hsI : (s.size : Int) ≤ 1000 := by omega
  go_enter Tryd.func31, Tryd.ntmps31
  go_wp2
  go_loop [3, 4, 5] (fun n g i => ∃ k : Nat, k ≤ s.size ∧ i = .int .i64 k ∧ n = .int .i64 (dgV (s.data.toList.take k) : Nat) ∧ g = .int .i64 (sgI (dgS (s.data.toList.take k)))) (fun _ _ i => s.size - (intOf i).toNat)
  case atStart => exact ⟨0, Nat.zero_le _, rfl, rfl, rfl⟩
  case round =>
    obtain ⟨k, hk, rfl, rfl, rfl⟩ := hrel
    have hv := dgV_bd (s.data.toList.take k)
    have hvI : ((dgV (s.data.toList.take k) : Nat) : Int) < 100000000000000000 := by omega
    by_cases hlt : k < s.size
    · have hltI : (k : Int) < (s.size : Int) := by omega
      have hbyte : s[k].toNat < 256 := s[k].toNat_lt
      have HV : Hid (dgV (s.data.toList.take (k + 1)) = dgN (dgV (s.data.toList.take k)) s[k]) := (show _ = _ from by rw [takeD_snoc s k hlt, dgV_snoc])
      have HG : Hid (dgS (s.data.toList.take (k + 1)) = (dgS (s.data.toList.take k) || s[k] == 45)) := (show _ = _ from by rw [takeD_snoc s k hlt, dgS_snoc])
      obtain ⟨v, hvv⟩ : ∃ v, v = dgV (s.data.toList.take k) := ⟨_, rfl⟩
      obtain ⟨gs, hgs⟩ : ∃ gs, gs = dgS (s.data.toList.take k) := ⟨_, rfl⟩
      rw [← hvv] at HV hv hvI
      rw [← hgs] at HG
      rw [← hvv, ← hgs]
      clear hvv hgs
      by_cases h45 : s[k].toNat = 45
      · have q : ((s[k].toNat : Int) == 45) = true := by rw [h45]; rfl
        have HV2 : Hid (dgV (s.data.toList.take (k + 1)) = v) := (show _ = _ by rw [HV.out]; unfold dgN; rw [if_neg (by omega)])
        have HG2 : Hid (dgS (s.data.toList.take (k + 1)) = true) := (show _ = _ by rw [HG.out, show (s[k] == 45) = true from by rw [beq_iff_eq]; exact UInt8.toNat_inj.1 h45, Bool.or_true])
        have H4 := Lib.hid h45
        clear h45
        go_wp2
        go_round
        case rel => exact ⟨k + 1, by omega, by go_num, by rw [HV2.out], by rw [HG2.out]; rfl⟩
        case measure => simp [intOf]; omega
      · have q : ((s[k].toNat : Int) == 45) = false := beq_eq_false_iff_ne.2 (by omega)
        have HG2 : Hid (dgS (s.data.toList.take (k + 1)) = gs) := (show _ = _ by rw [HG.out, show (s[k] == 45) = false from by rw [beq_eq_false_iff_ne]; intro e; exact h45 (by rw [e]; rfl), Bool.or_false])
        have H4 := Lib.hid h45
        clear h45
        by_cases h48 : 48 ≤ s[k].toNat
        · have q1 : (48 : Int) ≤ (s[k].toNat : Int) := by omega
          by_cases h57 : s[k].toNat ≤ 57
          · have q2 : (s[k].toNat : Int) ≤ 57 := by omega
            by_cases hn : v < 10000000000000000
            · have q3 : (v : Int) < 10000000000000000 := by omega
              have HV2 : Hid (dgV (s.data.toList.take (k + 1)) = v * 10 + (s[k].toNat - 48)) := (show _ = _ by rw [HV.out]; unfold dgN; rw [if_pos ⟨h48, h57, hn⟩])
              go_wp2
              go_round
              case rel => exact ⟨k + 1, by omega, by go_num, by rw [HV2.out]; go_num, by rw [HG2.out]⟩
              case measure => simp [intOf]; omega
            · have q3 : decide ((v : Int) < 10000000000000000) = false := decide_eq_false (by omega)
              have HV2 : Hid (dgV (s.data.toList.take (k + 1)) = v) := (show _ = _ by rw [HV.out]; unfold dgN; rw [if_neg (by omega)])
              go_wp2
              go_round
              case rel => exact ⟨k + 1, by omega, by go_num, by rw [HV2.out], by rw [HG2.out]⟩
              case measure => simp [intOf]; omega
          · have q2 : decide ((s[k].toNat : Int) ≤ 57) = false := decide_eq_false (by omega)
            have HV2 : Hid (dgV (s.data.toList.take (k + 1)) = v) := (show _ = _ by rw [HV.out]; unfold dgN; rw [if_neg (by omega)])
            go_wp2
            go_round
            case rel => exact ⟨k + 1, by omega, by go_num, by rw [HV2.out], by rw [HG2.out]⟩
            case measure => simp [intOf]; omega
        · have q1 : decide ((48 : Int) ≤ (s[k].toNat : Int)) = false := decide_eq_false (by omega)
          have HV2 : Hid (dgV (s.data.toList.take (k + 1)) = v) := (show _ = _ by rw [HV.out]; unfold dgN; rw [if_neg (by omega)])
          go_wp2
          go_round
          case rel => exact ⟨k + 1, by omega, by go_num, by rw [HV2.out], by rw [HG2.out]⟩
          case measure => simp [intOf]; omega
    · obtain rfl : k = s.size := by omega
      have ht : s.data.toList.take s.size = s.data.toList := List.take_of_length_le (by simp)
      rw [ht]
      rw [ht] at hv hvI
      have HI : Hid (dgI s.data.toList = sgI (dgS s.data.toList) * (dgV s.data.toList : Nat)) := (show _ = _ by unfold dgI sgI; split <;> simp)
      have HSG : sgI (dgS s.data.toList) = 1 ∨ sgI (dgS s.data.toList) = -1 := by unfold sgI; split <;> simp
      obtain ⟨g, hg⟩ : ∃ g, g = sgI (dgS s.data.toList) := ⟨_, rfl⟩
      obtain ⟨v, hvv⟩ : ∃ v, v = dgV s.data.toList := ⟨_, rfl⟩
      rw [← hg, ← hvv] at HI
      rw [← hg] at HSG
      rw [← hvv] at hv hvI
      rw [← hg, ← hvv]
      clear hg hvv ht hlt hk
      rcases HSG with rfl | rfl
      · go_wp2
        go_ret
        exact ⟨by rw [HI.out]; apply ret_int; omega, Below.refl _ _⟩
      · go_wp2
        go_ret
        exact ⟨by rw [HI.out]; apply ret_int; omega, Below.refl _ _⟩
end Go.Proofs.YtphndncamgbonaaDoor
