/-
  The walk over the project's DecodeVarint.
-/
import Derived.Test.YtmdakincddeccaaDoorRows
import Derived.Test.YtmdakincddeccaaDoorNumPlain
import Derived.Test.YtmdakincddeccaaDoorDvPost
import Derived.WalkKit
import Derived.WalkSpells
import Derived.WalkLawsBesides
import Derived.IntWalk
import Derived.Lib.Strings
namespace Go.Proofs.YtmdakincddeccaaDoor
open Go.RowKit Num


theorem valL_snoc (x : UInt8) : ∀ l : List UInt8, valL (l ++ [x]) = valL l + 128 ^ l.length * (x.toNat % 128)
  | [] => by simp [valL]
  | y :: l => by
    simp only [List.cons_append, valL, List.length_cons, Nat.pow_succ, valL_snoc x l]
    rw [Nat.mul_add, ← Nat.mul_assoc, Nat.mul_comm 128 (128 ^ l.length)]
    omega

theorem dv_or (s : ByteArray) (k : Nat) (h7 : k < 7) (hks : k < s.size) :
    bits .or .i64 ((valL (s.data.toList.take k) : Nat) : Int) (wrap64 ((s[k].toNat : Int) % 128 * 2 ^ (7 * k))) = ((valL (s.data.toList.take (k + 1)) : Nat) : Int) := by
  have hl : (s.data.toList.take k).length = k := by simp; omega
  have hv := valL_bd (s.data.toList.take k)
  rw [hl] at hv
  have ep : (128 : Nat) ^ k = 2 ^ (7 * k) := by rw [Nat.pow_mul]
  have e : (s[k].toNat : Int) % 128 * 2 ^ (7 * k) = (((s[k].toNat % 128) * 2 ^ (7 * k) : Nat) : Int) := by simp
  have hp : 2 ^ (7 * k) ≤ 2 ^ 42 := Nat.pow_le_pow_right (by decide) (by omega)
  have e42 : (2 : Nat) ^ 42 = 4398046511104 := by decide
  have hx : (s[k].toNat % 128) * 2 ^ (7 * k) ≤ 127 * 2 ^ 42 := Nat.mul_le_mul (by omega) hp
  rw [e, IntWalk.wrap64_in _ (by omega), i64_or_nat _ _ (by omega) (by omega), Nat.or_comm, nat_or_join _ _ _ (by omega), take_snoc s k hks, valL_snoc, hl, ep, Nat.mul_comm]
  congr 1
  omega

theorem dv_end {s : ByteArray} {k : Nat} (HN : ∀ i (_ : i < k) (h' : i < s.size), 128 ≤ s[i].toNat) (h : k = 7 ∨ k = s.size) : DV s.data.toList 0 0 := by
  refine .inl ⟨rfl, rfl, fun j h1 h2 h3 hc => ?_⟩
  obtain ⟨q, rfl⟩ : ∃ q, j = q + 1 := ⟨j - 1, by omega⟩
  have hlen : s.data.toList.length = s.size := by simp
  have a := (can_take s.data.toList q (by omega)).1 hc
  have b := HN q (by omega) (by omega)
  have c := a.2.1
  have d : s.data.toList[q].toNat = s[q].toNat := rfl
  omega

theorem dv_zero {s : ByteArray} {k : Nat} (HN : ∀ i (_ : i < k) (h' : i < s.size), 128 ≤ s[i].toNat) (hks : k < s.size) (h0 : s[k].toNat = 0) (hk : 0 < k) : DV s.data.toList 0 0 := by
  refine .inl ⟨rfl, rfl, fun j h1 h2 h3 hc => ?_⟩
  obtain ⟨q, rfl⟩ : ∃ q, j = q + 1 := ⟨j - 1, by omega⟩
  have hlen : s.data.toList.length = s.size := by simp
  have a := (can_take s.data.toList q (by omega)).1 hc
  have d : ∀ i (hi : i < s.size), (s.data.toList[i]'(by omega)).toNat = s[i].toNat := fun _ _ => rfl
  rcases Nat.lt_trichotomy q k with h | h | h
  · have b := HN q h (by omega)
    have c := a.2.1
    rw [d q (by omega)] at c
    omega
  · subst h
    have c := a.2.2
    rw [d q (by omega)] at c
    omega
  · have c := a.1 k h
    rw [d k hks] at c
    omega

theorem dv_hit {s : ByteArray} {k : Nat} (HN : ∀ i (_ : i < k) (h' : i < s.size), 128 ≤ s[i].toNat) (h7 : k < 7) (hks : k < s.size) (hb : s[k].toNat < 128) (hz : ¬ (s[k].toNat = 0 ∧ 0 < k)) :
    DV s.data.toList (valL (s.data.toList.take (k + 1))) (k + 1) := by
  have hlen : s.data.toList.length = s.size := by simp
  refine .inr ⟨by omega, by omega, by omega, (can_take s.data.toList k (by omega)).2 ⟨fun i hi => HN i hi (by omega), hb, ?_⟩, rfl⟩
  have d : s.data.toList[k].toNat = s[k].toNat := rfl
  omega

set_option maxRecDepth 8000 in
set_option maxHeartbeats 1600000 in
theorem impl_dv (s : ByteArray) (w : World) (hb : s.size ≤ 1048576) :
    Calls Tryd.prog 14 #[.string s] w (DvPost s w) := by
  rcases Int.lt_or_le 7 (s.size : Int) with h7 | h7
  all_goals
    go_enter Tryd.func14, Tryd.ntmps14
    go_wp2
    go_loop [4, 5, 9] (fun nv _ iv => ∃ k : Nat, iv = .int .i64 k ∧ k ≤ 7 ∧ k ≤ s.size ∧ nv = .int .i64 (valL (s.data.toList.take k) : Nat) ∧ Hid (∀ i (_ : i < k) (h' : i < s.size), 128 ≤ s[i].toNat)) (fun _ _ iv => 8 - (intOf iv).toNat)
    case atStart => exact ⟨0, rfl, by omega, by omega, rfl, fun i h => by omega⟩
    case round =>
      obtain ⟨k, rfl, hk7, hks, rfl, HN⟩ := hrel
      by_cases hlt : k < 7 ∧ k < s.size
      · obtain ⟨hlt7, hlts⟩ := hlt
        have hI7 : (k : Int) < 7 := by omega
        have hIn : (k : Int) < s.size := by omega
        have hbyte : s[k].toNat < 256 := s[k].toNat_lt
        have e1 := Num.u8_and127 s[k].toNat hbyte
        have e2 := dv_or s k hlt7 hlts
        by_cases hge : 128 ≤ s[k].toNat
        · have hgeI : (128 : Int) ≤ (s[k].toNat : Int) := by omega
          have HG : Hid (128 ≤ s[k].toNat) := hge
          go_wp2
          go_round
          case rel =>
            refine ⟨k + 1, by go_num, by omega, by omega, rfl, ?_⟩
            intro i hi h'
            by_cases hik : i = k
            · subst hik; exact HG.out
            · exact HN.out i (by omega) h'
          case measure => simp [intOf]; omega
        · have hgeI : ¬ (128 : Int) ≤ (s[k].toNat : Int) := by omega
          by_cases hz : s[k].toNat = 0 ∧ 0 < k
          · have FIN : Hid (DV s.data.toList 0 0) := dv_zero HN.out hlts hz.1 hz.2
            have hzI : ((s[k].toNat : Int) == 0) = true := by rw [hz.1]; rfl
            have hkI : (0 : Int) < k := by omega
            clear hz HN
            go_wp2
            go_ret2
            exact ⟨⟨0, 0, FIN.out, rfl⟩, Below.refl _ _⟩
          · have FIN : Hid (DV s.data.toList (valL (s.data.toList.take (k + 1))) (k + 1)) := dv_hit HN.out hlt7 hlts (by omega) hz
            clear HN
            by_cases hk0 : 0 < k
            · have hzI : ((s[k].toNat : Int) == 0) = false := by simp; omega
              have hkI : (0 : Int) < k := by omega
              clear hz
              go_wp2
              all_goals
                go_ret2
                exact ⟨⟨_, k + 1, FIN.out, rfl⟩, Below.refl _ _⟩
            · have hkI : ¬ (0 : Int) < k := by omega
              clear hz
              go_wp2
              all_goals
                go_ret2
                exact ⟨⟨_, k + 1, FIN.out, rfl⟩, Below.refl _ _⟩
      · have FIN : Hid (DV s.data.toList 0 0) := dv_end HN.out (by omega)
        have hIn : ¬ (k : Int) < 7 ∨ ¬ (k : Int) < s.size := by omega
        rcases hIn with hIn | hIn
        all_goals
          first
          | (exfalso; omega)
          | (clear hlt
             go_wp2
             go_ret2
             exact ⟨⟨0, 0, FIN.out, rfl⟩, Below.refl _ _⟩)
end Go.Proofs.YtmdakincddeccaaDoor
