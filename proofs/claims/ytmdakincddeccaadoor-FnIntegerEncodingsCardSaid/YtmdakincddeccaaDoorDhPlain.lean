/-
  The plain mathematics of reading hexadecimal digits; the contract of the project's function that reads one digit.
-/
import Derived.Test.YtmdakincddeccaaDoorRows
import Derived.Test.YtmdakincddeccaaDoorNumPlain
import Derived.Test.YtmdakincddeccaaDoorHexPlain
import Derived.WalkKit
import Derived.WalkSpells
import Derived.WalkLawsBesides
namespace Go.Proofs.YtmdakincddeccaaDoor
open Go.RowKit

/-- The value of a digit, -1 of what is none. -/
def hv (c : Int) : Int := if 48 ≤ c ∧ c ≤ 57 then c - 48 else if 97 ≤ c ∧ c ≤ 102 then c - 87 else -1

theorem hv_bd (c : Int) : -1 ≤ hv c ∧ hv c ≤ 15 := by unfold hv; split <;> (try split) <;> omega
theorem hv_high (c : Int) (h : 128 ≤ c) : hv c = -1 := by unfold hv; rw [if_neg (by omega), if_neg (by omega)]

theorem hexd_val : ∀ k, k < 16 → (hexd k).toNat = if k < 10 then 48 + k else 87 + k := by decide

theorem hexd_hv (k : Nat) (hk : k < 16) (b : UInt8) : ((hexd k).toNat = b.toNat ↔ hv b.toNat = k) := by
  rw [hexd_val k hk]
  unfold hv
  split <;> split <;> (try split) <;> omega

def decH : List UInt8 → Option (List UInt8)
  | [] => some []
  | [_] => none
  | x :: y :: r => if hv x.toNat < 0 ∨ hv y.toNat < 0 then none else (decH r).map (UInt8.ofNat (16 * hv x.toNat + hv y.toNat).toNat :: ·)

theorem dh_step {l : List UInt8} {acc : List UInt8} {i : Nat} (h : decH l = (decH (l.drop i)).map (acc ++ ·)) (hi : i + 1 < l.length) (h1 : 0 ≤ hv (l[i]'(by omega)).toNat) (h2 : 0 ≤ hv l[i + 1].toNat) :
    decH l = (decH (l.drop (i + 2))).map ((acc ++ [UInt8.ofNat (16 * hv (l[i]'(by omega)).toNat + hv l[i + 1].toNat).toNat]) ++ ·) := by
  rw [h, List.drop_eq_getElem_cons (by omega : i < l.length), List.drop_eq_getElem_cons hi]
  simp only [decH]
  rw [if_neg (by omega), Option.map_map]
  congr 1
  funext t
  simp

theorem dh_none {l : List UInt8} {acc : List UInt8} {i : Nat} (h : decH l = (decH (l.drop i)).map (acc ++ ·)) (hi : i + 1 < l.length) (h1 : hv (l[i]'(by omega)).toNat < 0 ∨ hv l[i + 1].toNat < 0) : decH l = none := by
  rw [h, List.drop_eq_getElem_cons (by omega : i < l.length), List.drop_eq_getElem_cons hi]
  simp only [decH]
  rw [if_pos h1]
  rfl

theorem dh_end {l : List UInt8} {acc : List UInt8} {i : Nat} (h : decH l = (decH (l.drop i)).map (acc ++ ·)) (hi : l.length ≤ i) : decH l = some acc := by
  rw [h, List.drop_of_length_le hi]
  simp [decH]

theorem decH_odd : ∀ (l : List UInt8), l.length % 2 = 1 → decH l = none
  | [], h => by simp at h
  | [_], _ => rfl
  | x :: y :: r, h => by
    simp only [decH]
    rw [decH_odd r (by simp at h; omega)]
    simp

/-- What DecodeHex answers. -/
def dhV (s : ByteArray) : Value := match decH s.data.toList with
  | some o => .tuple #[.string ⟨o.toArray⟩, .bool true]
  | none => .tuple #[.string ⟨#[]⟩, .bool false]
theorem dhV_none {s : ByteArray} (h : decH s.data.toList = none) : dhV s = .tuple #[.string ⟨#[]⟩, .bool false] := by unfold dhV; rw [h]
theorem dhV_some {s : ByteArray} {o : List UInt8} (h : decH s.data.toList = some o) : dhV s = .tuple #[.string ⟨o.toArray⟩, .bool true] := by unfold dhV; rw [h]

theorem hexValue_any (r : Int) (w : World) (h0 : 0 ≤ r) (h1 : r ≤ 2147483647) :
    Calls Tryd.prog 29 #[.int .i32 r] w fun e w' => e = .returned (.int .i64 (hv r)) ∧ w' = w := by
  by_cases c1 : r < 48
  · have e : hv r = -1 := by unfold hv; rw [if_neg (by omega), if_neg (by omega)]
    rw [e]; clear e
    go_enter Tryd.func29, Tryd.ntmps29
    go_wp2
    go_ret
    exact ⟨rfl, rfl⟩
  · by_cases c2 : r ≤ 57
    · have e : hv r = r - 48 := by unfold hv; rw [if_pos (by omega)]
      rw [e]; clear e
      have c1' : 48 ≤ r := by omega
      go_enter Tryd.func29, Tryd.ntmps29
      go_wp2
      go_ret
      exact ⟨rfl, rfl⟩
    · by_cases c3 : r < 97
      · have e : hv r = -1 := by unfold hv; rw [if_neg (by omega), if_neg (by omega)]
        rw [e]; clear e
        have c1' : 48 ≤ r := by omega
        go_enter Tryd.func29, Tryd.ntmps29
        go_wp2
        go_ret
        exact ⟨rfl, rfl⟩
      · by_cases c4 : r ≤ 102
        · have e : hv r = r - 97 + 10 := by unfold hv; rw [if_neg (by omega), if_pos (by omega)]; omega
          rw [e]; clear e
          have c1' : 48 ≤ r := by omega
          have c3' : 97 ≤ r := by omega
          go_enter Tryd.func29, Tryd.ntmps29
          go_wp2
          go_ret
          exact ⟨rfl, rfl⟩
        · have e : hv r = -1 := by unfold hv; rw [if_neg (by omega), if_neg (by omega)]
          rw [e]; clear e
          have c1' : 48 ≤ r := by omega
          have c3' : 97 ≤ r := by omega
          go_enter Tryd.func29, Tryd.ntmps29
          go_wp2
          go_ret
          exact ⟨rfl, rfl⟩

end Go.Proofs.YtmdakincddeccaaDoor
