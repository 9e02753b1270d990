/-
  The walk over the model's ParseInt.
-/
import Derived.Test.YtndebdimjlfepaaDoorRows
import Derived.Test.YtndebdimjlfepaaDoorPlain
import Derived.Test.YtndebdimjlfepaaDoorFiSpec
import Derived.WalkKit
import Derived.WalkSpells
import Derived.WalkLawsBesides
import Derived.IntWalk
import Derived.Lib.Strings
namespace Go.Proofs.YtndebdimjlfepaaDoor
open Go.RowKit Num

theorem takeS_snoc (s : ByteArray) (k : Nat) (h : k < s.size) : s.data.toList.take (k + 1) = s.data.toList.take k ++ [s[k]] := by
  rw [List.take_succ_eq_append_getElem (by simpa using h)]; rfl

/-- What both functions leave. -/
def PiPost (s : ByteArray) (w : World) (e : Ending) (w' : World) : Prop := (∃ (n : Int) (ok : Bool), PIans s.data.toList n ok ∧ e = .returned (.tuple #[.int .i64 n, .bool ok])) ∧ Below w.heap.size w w'

theorem eq_bytes (l : List UInt8) (s : ByteArray) : (l == s.toList) = decide (s.data.toList = l) := by
  rw [Lib.toList_data]
  by_cases h : s.data.toList = l
  · rw [h]; simp
  · have h' : ¬ l = s.data.toList := fun e => h e.symm
    rw [decide_eq_false h]
    exact beq_eq_false_iff_ne.2 h'

theorem fN_bd11 (l : List UInt8) (h : l.length ≤ 11) : fN l ≤ 99999999999 := by
  have h1 := fN_bd l
  have h2 : 10 ^ fK l ≤ 10 ^ 11 := Nat.pow_le_pow_right (by decide) (Nat.le_trans (fK_le l) h)
  have e : (10 : Nat) ^ 11 = 100000000000 := by decide
  omega

/-- The text's sign, as the model sees it. -/
theorem cut_of (s : ByteArray) : (s.size = 0 ∧ Cut s.data.toList [] false) ∨ (∃ h : 0 < s.size, s[0].toNat = 45 ∧ ∃ d, Cut s.data.toList d true) ∨ (∃ h : 0 < s.size, s[0].toNat ≠ 45 ∧ ∃ d, Cut s.data.toList d false) := by
  have hl : s.data.toList.length = s.size := by simp
  have hd : ∀ (h : 0 < s.size), s.data.toList = s[0] :: s.data.toList.drop 1 := fun h => by
    have := List.drop_eq_getElem_cons (l := s.data.toList) (i := 0) (by omega)
    rw [List.drop_zero] at this
    exact this
  by_cases h0 : s.size = 0
  · exact .inl ⟨h0, .inr ⟨rfl, List.eq_nil_of_length_eq_zero (by omega), by simp⟩⟩
  · have hp : 0 < s.size := by omega
    by_cases h1 : s[0].toNat = 45
    · refine .inr (.inl ⟨hp, h1, s.data.toList.drop 1, .inl ⟨rfl, ?_⟩⟩)
      have e : s[0] = 45 := UInt8.toNat_inj.mp h1
      rw [← e]; exact hd hp
    · refine .inr (.inr ⟨hp, h1, s.data.toList, .inr ⟨rfl, rfl, ?_⟩⟩)
      rw [hd hp]
      simp
      intro e
      exact h1 (by rw [e]; rfl)

theorem fN_bd10 (l : List UInt8) (h : l.length ≤ 10) : fN l ≤ 9999999999 := by
  have h1 := fN_bd l
  have h2 : 10 ^ fK l ≤ 10 ^ 10 := Nat.pow_le_pow_right (by decide) (Nat.le_trans (fK_le l) h)
  have e : (10 : Nat) ^ 10 = 10000000000 := by decide
  omega

set_option maxRecDepth 8000 in
set_option maxHeartbeats 1600000 in
theorem spec_pi (s : ByteArray) (w : World) (hb : s.size ≤ 1048576) :
    Calls Tryd.prog 73 #[.string s] w (PiPost s w) := by
  have HLen : Hid (s.data.toList.length = s.size) := (show _ = _ from by simp)
  go_enter Tryd.func73, Tryd.ntmps73
  go_wp2
  go_loop [4, 5, 6] (fun nv kv iv => ∃ i : Nat, i ≤ s.size ∧ i ≤ 11 ∧ iv = .int .i64 i ∧ nv = .int .i64 (fN (s.data.toList.take i) : Nat) ∧ kv = .int .i64 (fK (s.data.toList.take i) : Nat)) (fun _ _ iv => 12 - (intOf iv).toNat)
  case atStart => exact ⟨0, Nat.zero_le _, by omega, rfl, rfl, rfl⟩
  case round =>
    obtain ⟨i, hi, hi11, rfl, rfl, rfl⟩ := hrel
    by_cases hlt : i < s.size ∧ i < 11
    · obtain ⟨hls, hl11⟩ := hlt
      have hI : (i : Int) < s.size := by omega
      have hI2 : (i : Int) < 11 := by omega
      have hn := fN_bd10 (s.data.toList.take i) (by rw [List.length_take]; omega)
      have hk := fK_le (s.data.toList.take i)
      have hkl : (s.data.toList.take i).length ≤ 10 := by rw [List.length_take]; omega
      have hbyte : s[i].toNat < 256 := s[i].toNat_lt
      by_cases hd : isD s[i]
      · have HN : Hid (fN (s.data.toList.take (i + 1)) = fN (s.data.toList.take i) * 10 + (s[i].toNat - 48)) := (show _ = _ from by rw [takeS_snoc s i hls, fN_snoc, if_pos hd])
        have HK : Hid (fK (s.data.toList.take (i + 1)) = fK (s.data.toList.take i) + 1) := (show _ = _ from by rw [takeS_snoc s i hls, fK_snoc, if_pos hd])
        have hd1 : (48 : Int) ≤ (s[i].toNat : Int) := by have := hd.1; omega
        have hd2 : (s[i].toNat : Int) ≤ 57 := by have := hd.2; omega
        clear hd
        go_wp2
        go_round
        case rel => exact ⟨i + 1, by omega, by omega, by go_num, by rw [HN.out]; go_num, by rw [HK.out]; go_num⟩
        case measure => simp [intOf]; omega
      · have HN : Hid (fN (s.data.toList.take (i + 1)) = fN (s.data.toList.take i)) := (show _ = _ from by rw [takeS_snoc s i hls, fN_snoc, if_neg hd])
        have HK : Hid (fK (s.data.toList.take (i + 1)) = fK (s.data.toList.take i)) := (show _ = _ from by rw [takeS_snoc s i hls, fK_snoc, if_neg hd])
        unfold isD at hd
        by_cases hd1 : (48 : Int) ≤ (s[i].toNat : Int)
        · have hd2 : ¬ (s[i].toNat : Int) ≤ 57 := by omega
          clear hd
          go_wp2
          go_round
          case rel => exact ⟨i + 1, by omega, by omega, by go_num, by rw [HN.out], by rw [HK.out]⟩
          case measure => simp [intOf]; omega
        · clear hd
          go_wp2
          go_round
          case rel => exact ⟨i + 1, by omega, by omega, by go_num, by rw [HN.out], by rw [HK.out]⟩
          case measure => simp [intOf]; omega
    · have hiN : i = s.size ∧ s.size < 11 ∨ i = 11 ∧ 11 ≤ s.size := by omega
      rcases hiN with ⟨rfl, hs11⟩ | ⟨rfl, hs11⟩
      · skip
        · skip
          have hI : ¬ ((s.size : Nat) : Int) < s.size := by omega
          have hall : s.data.toList.take s.size = s.data.toList := List.take_of_length_le (by rw [HLen.out]; omega)
          rw [hall]
          clear hall hlt
          have hN := fN_bd11 s.data.toList (by rw [HLen.out]; omega)
          have hNI : ((fN s.data.toList : Nat) : Int) ≤ 99999999999 := by omega
          have hs10 : (s.size : Int) ≤ 10 := by omega
          rcases cut_of s with ⟨hz, hc⟩ | ⟨hp, h45, d, hc⟩ | ⟨hp, h45, d, hc⟩
          · have hzI : ¬ (0 : Int) < s.size := by omega
            have HC : Hid (Cut s.data.toList [] false) := hc
            clear hc hz
            by_cases hk9 : fK s.data.toList ≤ 9
            · have hkI : ((fK s.data.toList : Nat) : Int) ≤ 9 := by omega
              by_cases he : s.data.toList = Lib.itoa ((fN s.data.toList : Nat) : Int)
              · have hq : (Lib.itoa ((fN s.data.toList : Nat) : Int) == s.toList) = true := by rw [eq_bytes, decide_eq_true he]
                have ANS : Hid (PIans s.data.toList ((fN s.data.toList : Nat) : Int) true) := pi_yes (neg := false) hk9 he
                clear he HC
                go_wp2_with (first | (go_at_call 38; refine (spec_fi _ _ (by omega) (by omega)).mono ?_; rintro e w1 ⟨rfl, hb1⟩))
                go_ret2
                exact ⟨⟨_, _, ANS.out, rfl⟩, hb1⟩
              · have hq : (Lib.itoa ((fN s.data.toList : Nat) : Int) == s.toList) = false := by rw [eq_bytes, decide_eq_false he]
                have ANS : Hid (PIans s.data.toList 0 false) := pi_other (neg := false) HC.out he
                clear he HC
                go_wp2_with (first | (go_at_call 38; refine (spec_fi _ _ (by omega) (by omega)).mono ?_; rintro e w1 ⟨rfl, hb1⟩))
                go_ret2
                exact ⟨⟨_, _, ANS.out, rfl⟩, hb1⟩
            · have hkI : (9 : Int) < ((fK s.data.toList : Nat) : Int) := by omega
              have ANS : Hid (PIans s.data.toList 0 false) := pi_many HC.out (by omega)
              clear HC
              go_wp2
              go_ret2
              exact ⟨⟨_, _, ANS.out, rfl⟩, Below.refl _ _⟩
          · have hpI : (0 : Int) < s.size := by omega
            have h45I : ((s[0].toNat : Int) == 45) = true := by rw [h45]; rfl
            have HC : Hid (Cut s.data.toList d true) := hc
            clear hc h45
            by_cases hk9 : fK s.data.toList ≤ 9
            · have hkI : ((fK s.data.toList : Nat) : Int) ≤ 9 := by omega
              by_cases he : s.data.toList = Lib.itoa (-((fN s.data.toList : Nat) : Int))
              · have hq : (Lib.itoa (-((fN s.data.toList : Nat) : Int)) == s.toList) = true := by rw [eq_bytes, decide_eq_true he]
                have ANS : Hid (PIans s.data.toList (-((fN s.data.toList : Nat) : Int)) true) := pi_yes (neg := true) hk9 he
                clear he HC
                go_wp2_with (first | (go_at_call 38; refine (spec_fi _ _ (by omega) (by omega)).mono ?_; rintro e w1 ⟨rfl, hb1⟩))
                go_ret2
                exact ⟨⟨_, _, ANS.out, rfl⟩, hb1⟩
              · have hq : (Lib.itoa (-((fN s.data.toList : Nat) : Int)) == s.toList) = false := by rw [eq_bytes, decide_eq_false he]
                have ANS : Hid (PIans s.data.toList 0 false) := pi_other (neg := true) HC.out he
                clear he HC
                go_wp2_with (first | (go_at_call 38; refine (spec_fi _ _ (by omega) (by omega)).mono ?_; rintro e w1 ⟨rfl, hb1⟩))
                go_ret2
                exact ⟨⟨_, _, ANS.out, rfl⟩, hb1⟩
            · have hkI : (9 : Int) < ((fK s.data.toList : Nat) : Int) := by omega
              have ANS : Hid (PIans s.data.toList 0 false) := pi_many HC.out (by omega)
              clear HC
              go_wp2
              go_ret2
              exact ⟨⟨_, _, ANS.out, rfl⟩, Below.refl _ _⟩
          · have hpI : (0 : Int) < s.size := by omega
            have h45I : ((s[0].toNat : Int) == 45) = false := beq_eq_false_iff_ne.2 (by omega)
            have HC : Hid (Cut s.data.toList d false) := hc
            clear hc h45
            by_cases hk9 : fK s.data.toList ≤ 9
            · have hkI : ((fK s.data.toList : Nat) : Int) ≤ 9 := by omega
              by_cases he : s.data.toList = Lib.itoa ((fN s.data.toList : Nat) : Int)
              · have hq : (Lib.itoa ((fN s.data.toList : Nat) : Int) == s.toList) = true := by rw [eq_bytes, decide_eq_true he]
                have ANS : Hid (PIans s.data.toList ((fN s.data.toList : Nat) : Int) true) := pi_yes (neg := false) hk9 he
                clear he HC
                go_wp2_with (first | (go_at_call 38; refine (spec_fi _ _ (by omega) (by omega)).mono ?_; rintro e w1 ⟨rfl, hb1⟩))
                go_ret2
                exact ⟨⟨_, _, ANS.out, rfl⟩, hb1⟩
              · have hq : (Lib.itoa ((fN s.data.toList : Nat) : Int) == s.toList) = false := by rw [eq_bytes, decide_eq_false he]
                have ANS : Hid (PIans s.data.toList 0 false) := pi_other (neg := false) HC.out he
                clear he HC
                go_wp2_with (first | (go_at_call 38; refine (spec_fi _ _ (by omega) (by omega)).mono ?_; rintro e w1 ⟨rfl, hb1⟩))
                go_ret2
                exact ⟨⟨_, _, ANS.out, rfl⟩, hb1⟩
            · have hkI : (9 : Int) < ((fK s.data.toList : Nat) : Int) := by omega
              have ANS : Hid (PIans s.data.toList 0 false) := pi_many HC.out (by omega)
              clear HC
              go_wp2
              go_ret2
              exact ⟨⟨_, _, ANS.out, rfl⟩, Below.refl _ _⟩
      · have hI : (11 : Int) ≤ s.size := by omega
        have hI10 : (10 : Int) < s.size := by omega
        have hI0 : (0 : Int) < s.size := by omega
        have hN := fN_bd11 (s.data.toList.take 11) (by rw [List.length_take]; omega)
        have hNI : ((fN (s.data.toList.take 11) : Nat) : Int) ≤ 99999999999 := by omega
        have ANS : Hid (PIans s.data.toList 0 false) := by
          rcases cut_of s with ⟨hz, hc⟩ | ⟨hp, h45, d, hc⟩ | ⟨hp, h45, d, hc⟩
          · exact pi_long hc (by rw [HLen.out]; omega)
          · exact pi_long hc (by rw [HLen.out]; omega)
          · exact pi_long hc (by rw [HLen.out]; omega)
        clear hlt
        by_cases hk9 : fK (s.data.toList.take 11) ≤ 9
        · have hkI : ((fK (s.data.toList.take 11) : Nat) : Int) ≤ 9 := by omega
          go_wp2
          all_goals
            go_ret2
            exact ⟨⟨_, _, ANS.out, rfl⟩, Below.refl _ _⟩
        · have hkI : (9 : Int) < ((fK (s.data.toList.take 11) : Nat) : Int) := by omega
          go_wp2
          all_goals
            go_ret2
            exact ⟨⟨_, _, ANS.out, rfl⟩, Below.refl _ _⟩
end Go.Proofs.YtndebdimjlfepaaDoor
