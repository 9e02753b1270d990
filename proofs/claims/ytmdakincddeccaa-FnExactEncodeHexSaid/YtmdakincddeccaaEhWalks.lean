/-
  The walks over both EncodeHex functions.
-/
import Derived.Test.YtmdakincddeccaaRows
import Derived.Test.YtmdakincddeccaaBytesOwn
import Derived.Test.YtmdakincddeccaaHexDigit
import Derived.WalkKit
import Derived.WalkSpells
import Derived.WalkLawsBesides
import Derived.Deep.RegionHeld3
import Derived.IntWalk
namespace Go.Proofs.Ytmdakincddeccaa
open Go.RowKit

/-- The two digits of each byte. -/
def hexOf (l : List UInt8) : List UInt8 := l.flatMap fun b => [hexd (b.toNat / 16), hexd (b.toNat % 16)]

theorem hexOf_len (l : List UInt8) : (hexOf l).length = 2 * l.length := by
  induction l with
  | nil => rfl
  | cons b l ih => simp [hexOf] at ih ⊢; omega

theorem hexOf_snoc (s : ByteArray) (k : Nat) (h : k < s.size) : hexOf (s.data.toList.take k) ++ [hexd (s[k].toNat / 16), hexd (s[k].toNat % 16)] = hexOf (s.data.toList.take (k + 1)) := by
  rw [List.take_succ_eq_append_getElem (by simpa using h)]
  simp [hexOf]
  exact ⟨rfl, rfl⟩

theorem hexOf_snoc' (s : ByteArray) (k : Nat) (h : k < s.size) : hexOf (s.data.toList.take k) ++ [hexd ((s[k].toNat : Int) / 16).toNat, hexd ((s[k].toNat : Int) % 16).toNat] = hexOf (s.data.toList.take (k + 1)) := by
  have e1 : ((s[k].toNat : Int) / 16).toNat = s[k].toNat / 16 := by omega
  have e2 : ((s[k].toNat : Int) % 16).toNat = s[k].toNat % 16 := by omega
  rw [e1, e2]
  exact hexOf_snoc s k h

theorem hexOf_all (s : ByteArray) : hexOf (s.data.toList.take s.size) = hexOf s.data.toList := by rw [List.take_of_length_le (by simp)]

set_option maxHeartbeats 800000 in
theorem spec_eh (s : ByteArray) (w : World) (hb : s.size ≤ 1048576) :
    Calls Try.prog 17 #[.string s] w fun e w' => e = .returned (.string ⟨(hexOf s.data.toList).toArray⟩) ∧ Below w.heap.size w w' := by
  go_enter Try.func17, Try.ntmps17
  go_wp2
  go_loopw [3, 4] (fun ov iv wr => ∃ k : Nat, k ≤ s.size ∧ iv = .int .i64 k ∧ Bts wr w.heap.size ov (hexOf (s.data.toList.take k)) ∧ Below w.heap.size w wr) (fun _ iv _ => s.size - (intOf iv).toNat)
  case atStart => exact ⟨0, Nat.zero_le _, rfl, Bts.lit _ _ (Nat.le_refl _), (Below.refl _ _).alloc (Nat.le_refl _) _⟩
  case round =>
    obtain ⟨k, hk, rfl, hown, hbel⟩ := hrel
    have hsz : w.heap.size ≤ _ := hbel.size
    by_cases hlt : k < s.size
    · have hI : (k : Int) < s.size := by omega
      have hbyte : s[k].toNat < 256 := s[k].toNat_lt
      have h0 : (0 : Int) ≤ (k : Int) := by omega
      have c1 : (0 : Int) ≤ (s[k].toNat : Int) / 16 := by omega
      have c2 : (s[k].toNat : Int) / 16 < 16 := by omega
      have c3 : (0 : Int) ≤ (s[k].toNat : Int) % 16 := by omega
      have c4 : (s[k].toNat : Int) % 16 < 16 := by omega
      have e0 : IntKind.i64.wrap (s[k].toNat : Int) = (s[k].toNat : Int) := IntWalk.i64_in _ (by omega)
      have e1 : IntKind.i64.wrap ((s[k].toNat : Int) / 16) = (s[k].toNat : Int) / 16 := IntWalk.i64_in _ (by omega)
      have e2 : IntKind.i64.wrap ((s[k].toNat : Int) % 16) = (s[k].toNat : Int) % 16 := IntWalk.i64_in _ (by omega)
      go_wp2_with fail
      have e3 : (s[k].toNat : Int).tmod 16 = (s[k].toNat : Int) % 16 := Int.tmod_eq_emod_of_nonneg (by omega)
      have D1 : Bts ((wr.alloc (.cells #[.int .u8 (hexd ((s[k].toNat : Int) / 16).toNat).toNat, .int .u8 (hexd ((s[k].toNat : Int) % 16).toNat).toNat] 5)).drew) w.heap.size u3 (hexOf (s.data.toList.take k)) := (hown.alloc _).drew
      have D2 : Below w.heap.size w ((wr.alloc (.cells #[.int .u8 (hexd ((s[k].toNat : Int) / 16).toNat).toNat, .int .u8 (hexd ((s[k].toNat : Int) % 16).toNat).toNat] 5)).drew) := (hbel.alloc hsz _).drew
      have D3 : Hid (((wr.alloc (.cells #[.int .u8 (hexd ((s[k].toNat : Int) / 16).toNat).toNat, .int .u8 (hexd ((s[k].toNat : Int) % 16).toNat).toNat] 5)).drew).heap[wr.heap.size]? = some (.cells #[.int .u8 (hexd ((s[k].toNat : Int) / 16).toNat).toNat, .int .u8 (hexd ((s[k].toNat : Int) % 16).toNat).toNat] 5 (0, 0))) := heap_alloc_new wr _
      have D4 : (hexOf (s.data.toList.take k)).length + 2 ≤ 140737488355328 := by simp [hexOf_len]; omega
      go_region_held3 (fun _ => True) (trivial) (first | (go_simp; go_at_call 23; (with_reducible refine (l1Digit_int _ _ ?_ ?_).mono ?_); (first | exact c1 | exact c3); (first | exact c2 | exact c4); rintro e w' ⟨rfl, rfl⟩) | (refine step_append_bytes rfl _ _ rfl w.heap.size u3 (hexOf (s.data.toList.take k)) [hexd ((s[k].toNat : Int) / 16).toNat, hexd ((s[k].toNat : Int) % 16).toNat] ?_ D1 wr.heap.size _ ?_ D3.out 2 2 ?_ ?_ D4 ?_ D2 ?_; (· rfl); (· rfl); (· rfl); (· rfl); (· exact D2.size); intro v' w1 hown' hbel'))
      all_goals
        rw [hexOf_snoc' s k hlt] at hown'
        clear D1 D2 D3 D4 e0 e1 e2 e3
        go_wp2
        go_roundw
        case rel => exact ⟨k + 1, by omega, by go_num, hown', hbel'⟩
        case measure => simp [intOf]; omega
    · have hkk : k = s.size := by omega
      subst hkk
      have hcv := hown.str
      go_wp2
      go_ret
      exact ⟨by rw [← hexOf_all s]; rfl, hbel⟩
end Go.Proofs.Ytmdakincddeccaa
