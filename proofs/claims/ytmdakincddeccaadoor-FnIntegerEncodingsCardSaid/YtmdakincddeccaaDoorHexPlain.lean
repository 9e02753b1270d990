/-
  The plain mathematics of hexadecimal texts: no program is named here.
-/
import Derived.Deep.RegionHeld3
namespace Go.Proofs.YtmdakincddeccaaDoor

def hexS : ByteArray := ⟨#[48, 49, 50, 51, 52, 53, 54, 55, 56, 57, 97, 98, 99, 100, 101, 102]⟩
theorem hexS_size : hexS.size = 16 := rfl
def hexd (k : Nat) : UInt8 := if h : k < 16 then hexS[k]'h else 0

/-- The two digits of each byte. -/
def hexOf (l : List UInt8) : List UInt8 := l.flatMap fun b => [hexd (b.toNat / 16), hexd (b.toNat % 16)]

theorem hexOf_len (l : List UInt8) : (hexOf l).length = 2 * l.length := by
  induction l with
  | nil => rfl
  | cons b l ih => simp [hexOf] at ih ⊢; omega

theorem hexOf_snoc (s : ByteArray) (k : Nat) (h : k < s.size) : hexOf (s.data.toList.take k) ++ [hexd (s[k].toNat / 16), hexd (s[k].toNat % 16)] = hexOf (s.data.toList.take (k + 1)) := by
  rw [List.take_succ_eq_append_getElem (by simpa using h)]
  simp [hexOf]
  exact ⟨rfl, rfl⟩

theorem hexOf_snoc' (s : ByteArray) (k : Nat) (h : k < s.size) : hexOf (s.data.toList.take k) ++ [hexd ((s[k].toNat : Int) / 16).toNat, hexd ((s[k].toNat : Int) % 16).toNat] = hexOf (s.data.toList.take (k + 1)) := by
  have e1 : ((s[k].toNat : Int) / 16).toNat = s[k].toNat / 16 := by omega
  have e2 : ((s[k].toNat : Int) % 16).toNat = s[k].toNat % 16 := by omega
  rw [e1, e2]
  exact hexOf_snoc s k h

theorem hexOf_all (s : ByteArray) : hexOf (s.data.toList.take s.size) = hexOf s.data.toList := by rw [List.take_of_length_le (by simp)]

end Go.Proofs.YtmdakincddeccaaDoor
