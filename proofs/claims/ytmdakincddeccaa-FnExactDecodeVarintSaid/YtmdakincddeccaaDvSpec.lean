/-
  The walk over the model's DecodeVarint.
-/
import Derived.Test.YtmdakincddeccaaRows
import Derived.Test.YtmdakincddeccaaNumPlain
import Derived.Test.YtmdakincddeccaaDvPlain
import Derived.Test.YtmdakincddeccaaEvWalks
import Derived.WalkKit
import Derived.WalkSpells
import Derived.WalkLawsBesides
import Derived.Deep.RegionHeld3
import Derived.IntWalk
import Derived.Lib.Strings
namespace Go.Proofs.Ytmdakincddeccaa
open Go.RowKit Num

theorem valL_drop (t : List UInt8) (q : Nat) (h : q < t.length) : valL (t.drop q) = t[q].toNat % 128 + 128 * valL (t.drop (q + 1)) := by
  rw [List.drop_eq_getElem_cons h]; rfl

theorem valL_drop6 (t : List UInt8) (q : Nat) (h : t.length ≤ 7) : valL (t.drop (q + 1)) ≤ 4398046511103 := by
  have := valL_bd (t.drop (q + 1))
  have h2 : 128 ^ (t.drop (q + 1)).length ≤ 128 ^ 6 := Nat.pow_le_pow_right (by decide) (by rw [List.length_drop]; omega)
  have e : (128 : Nat) ^ 6 = 4398046511104 := by decide
  omega

theorem eql_take (s : ByteArray) (k : Nat) (l : List UInt8) : (l == (s.extract 0 k).toList) = decide (l = s.data.toList.take k) := by
  rw [Go.Lib.extract_toList, Nat.sub_zero, List.drop_zero, Bool.eq_iff_iff]
  simp

/-- What both functions leave. -/
def DvPost (s : ByteArray) (w : World) (e : Ending) (w' : World) : Prop := (∃ n k : Nat, DV s.data.toList n k ∧ e = .returned (.tuple #[.int .i64 n, .int .i64 k])) ∧ Below w.heap.size w w'

set_option maxRecDepth 8000 in
set_option maxHeartbeats 1600000 in
theorem spec_dv (s : ByteArray) (w : World) (hb : s.size ≤ 1048576) :
    Calls Try.prog 15 #[.string s] w (DvPost s w) := by
  go_enter Try.func15, Try.ntmps15
  go_wp2
  go_loopw [4, 5, 6] (fun kv _ _ wr => ∃ k : Nat, kv = .int .i64 k ∧ 1 ≤ k ∧ k ≤ 8 ∧ k ≤ s.size + 1 ∧ Hid (∀ j, 1 ≤ j → j < k → ¬ VCan (s.data.toList.take j)) ∧ Below w.heap.size w wr) (fun kv _ _ _ => 9 - (intOf kv).toNat)
  case atStart => exact ⟨1, rfl, by omega, by omega, by omega, fun j h1 h2 => by omega, Below.refl _ _⟩
  case round =>
    obtain ⟨k, rfl, hk1, hk8, hks, HN, hbel⟩ := hrel
    have hsz : w.heap.size ≤ _ := hbel.size
    by_cases hlt : k ≤ 7 ∧ k ≤ s.size
    · obtain ⟨hk7, hkn⟩ := hlt
      have hI7 : (k : Int) ≤ 7 := by omega
      have hIn : (k : Int) ≤ s.size := by omega
      go_wp2
      go_loop [5, 6] (fun nv iv => ∃ i : Nat, i ≤ k ∧ iv = .int .i64 ((i : Int) - 1) ∧ nv = .int .i64 (valL ((s.data.toList.take k).drop i) : Nat)) (fun _ iv => (intOf iv + 1).toNat)
      case atStart => exact ⟨k, Nat.le_refl _, by go_num, by rw [List.drop_of_length_le (by simp; omega)]; rfl⟩
      case round =>
        obtain ⟨i, hi, rfl, rfl⟩ := hrel
        have hlen : (s.data.toList.take k).length = k := by simp; omega
        by_cases hr : i = 0
        · subst hr
          have hI : ¬ (0 : Int) ≤ ((0 : Nat) : Int) - 1 := by omega
          have hI2 : (0 : Int) ≤ (k : Int) := by omega
          have hmax := valL_max (s.data.toList.take k) (by omega)
          clear hlen
          by_cases hcan : VCan (s.data.toList.take k)
          · have hq : (vlist (valL (s.data.toList.take k)) == (s.extract 0 k).toList) = true := by rw [eql_take]; exact decide_eq_true hcan
            go_wp2_with fail
            go_region_held3 (fun _ => True) (trivial) (first | (go_simp; go_at_call 13; (with_reducible refine (spec_ev _ _ ?_).mono ?_); (exact hmax); rintro e w1 ⟨rfl, hb1⟩))
            go_wp2_with fail
            go_ret2
            exact ⟨⟨_, k, .inr ⟨hk1, hk7, by simpa using hkn, hcan, rfl⟩, rfl⟩, hbel.drew.trans (hb1.mono hsz)⟩
          · have hq : (vlist (valL (s.data.toList.take k)) == (s.extract 0 k).toList) = false := by rw [eql_take]; exact decide_eq_false hcan
            go_wp2_with fail
            go_region_held3 (fun _ => True) (trivial) (first | (go_simp; go_at_call 13; (with_reducible refine (spec_ev _ _ ?_).mono ?_); (exact hmax); rintro e w1 ⟨rfl, hb1⟩))
            go_wp2_with fail
            go_roundw
            case rel =>
              refine ⟨k + 1, by go_num, by omega, by omega, by omega, ?_, hbel.drew.trans (hb1.mono hsz)⟩
              intro j h1 h2
              by_cases hjk : j = k
              · subst hjk; exact hcan
              · exact HN.out j h1 (by omega)
            case measure => simp [intOf]; omega
        · obtain ⟨q, rfl⟩ : ∃ q, i = q + 1 := ⟨i - 1, by omega⟩
          have hI : (0 : Int) ≤ q := by omega
          have hqs : (q : Int) < s.size := by omega
          have hv := valL_drop6 (s.data.toList.take k) q (by omega)
          have hvI : ((valL ((s.data.toList.take k).drop (q + 1)) : Nat) : Int) ≤ 4398046511103 := by omega
          have hbyte : s[q].toNat < 256 := s[q].toNat_lt
          have HV : Hid (valL ((s.data.toList.take k).drop q) = s[q].toNat % 128 + 128 * valL ((s.data.toList.take k).drop (q + 1))) := by
            have := valL_drop (s.data.toList.take k) q (by omega)
            rw [List.getElem_take] at this
            exact this
          clear hlen
          go_wp2
          go_round
          case rel => exact ⟨q, by omega, rfl, by rw [HV.out]; go_num⟩
          case measure => simp [intOf]
    · have fin : DV s.data.toList 0 0 := .inl ⟨rfl, rfl, fun j h1 h2 h3 => HN.out j h1 (by simp at h3; omega)⟩
      by_cases h7 : k ≤ 7
      · have hI7 : (k : Int) ≤ 7 := by omega
        have hIn : ¬ (k : Int) ≤ s.size := by omega
        have FIN : Hid (DV s.data.toList 0 0) := fin
        clear fin hlt
        go_wp2
        go_ret2
        exact ⟨⟨0, 0, FIN.out, rfl⟩, hbel⟩
      · have hI7 : ¬ (k : Int) ≤ 7 := by omega
        have FIN : Hid (DV s.data.toList 0 0) := fin
        clear fin hlt
        go_wp2
        go_ret2
        exact ⟨⟨0, 0, FIN.out, rfl⟩, hbel⟩
end Go.Proofs.Ytmdakincddeccaa
