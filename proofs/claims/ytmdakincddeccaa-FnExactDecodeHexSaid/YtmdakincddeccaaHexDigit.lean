/-
  The contract of the model's digit table.
-/
import Derived.Test.YtmdakincddeccaaRows
import Derived.WalkKit
import Derived.WalkSpells
import Derived.WalkLawsBesides
namespace Go.Proofs.Ytmdakincddeccaa
open Go.RowKit

def hexS : ByteArray := ⟨#[48, 49, 50, 51, 52, 53, 54, 55, 56, 57, 97, 98, 99, 100, 101, 102]⟩
theorem hexS_size : hexS.size = 16 := rfl
def hexd (k : Nat) : UInt8 := if h : k < 16 then hexS[k]'h else 0

theorem l1Digit_any (k : Nat) (w : World) (h : k < 16) :
    Calls Try.prog 23 #[.int .i64 k] w fun e w' => e = .returned (.int .u8 ((hexd k).toNat : Int)) ∧ w' = w := by
  have hI : (k : Int) < 16 := by omega
  go_enter Try.func23, Try.ntmps23
  go_wp2
  go_ret
  exact ⟨by simp [hexd, h]; rfl, rfl⟩
theorem l1Digit_int (x : Int) (w : World) (h0 : 0 ≤ x) (h : x < 16) :
    Calls Try.prog 23 #[.int .i64 x] w fun e w' => e = .returned (.int .u8 ((hexd x.toNat).toNat : Int)) ∧ w' = w := by
  obtain ⟨k, rfl⟩ := Int.eq_ofNat_of_zero_le h0
  exact l1Digit_any k w (by omega)
end Go.Proofs.Ytmdakincddeccaa
