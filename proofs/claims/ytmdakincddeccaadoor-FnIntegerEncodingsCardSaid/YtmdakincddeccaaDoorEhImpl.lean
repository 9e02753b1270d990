/-
  The walks over the project's EncodeHex.
-/
import Derived.Test.YtmdakincddeccaaDoorRows
import Derived.Test.YtmdakincddeccaaDoorBytesOwn
import Derived.Test.YtmdakincddeccaaDoorHexPlain
import Derived.Test.YtmdakincddeccaaDoorNumPlain
import Derived.WalkKit
import Derived.WalkSpells
import Derived.WalkLawsBesides
import Derived.Deep.RegionHeld3
import Derived.IntWalk
namespace Go.Proofs.YtmdakincddeccaaDoor
open Go.RowKit

theorem hexS_at (k : Nat) (h : k < hexS.size) : hexS[k]'h = hexd k := by
  have h' : k < 16 := h
  unfold hexd; rw [dif_pos h']; rfl

theorem hexOf_tab (s : ByteArray) (k : Nat) (h : k < s.size) (p1 : ((s[k].toNat : Int) / 16).toNat < hexS.size) (p2 : ((s[k].toNat : Int) % 16).toNat < hexS.size) :
    hexOf (s.data.toList.take k) ++ [hexS[((s[k].toNat : Int) / 16).toNat]'p1, hexS[((s[k].toNat : Int) % 16).toNat]'p2] = hexOf (s.data.toList.take (k + 1)) := by
  rw [hexS_at, hexS_at]
  exact hexOf_snoc' s k h

set_option maxHeartbeats 800000 in
theorem impl_eh (s : ByteArray) (w : World) (hb : s.size ≤ 1048576) :
    Calls Tryd.prog 19 #[.string s] w fun e w' => e = .returned (.string ⟨(hexOf s.data.toList).toArray⟩) ∧ Below w.heap.size w w' := by
  go_enter Tryd.func19, Tryd.ntmps19
  go_wp2_with (first | (at_make; refine wpList_make0_bytes rfl _ _ rfl w.heap.size _ _ _ (2 * s.size) rfl rfl (by omega) (by omega) (Nat.le_refl _) (Below.refl _ _) ?_; intro w1 hown hbel1))
  go_loopw [3, 4, 11] (fun ov _ iv wr => ∃ k : Nat, k ≤ s.size ∧ iv = .int .i64 k ∧ Bts wr w.heap.size ov (hexOf (s.data.toList.take k)) ∧ Below w.heap.size w wr) (fun _ _ iv _ => s.size - (intOf iv).toNat)
  case atStart => exact ⟨0, Nat.zero_le _, rfl, hown, hbel1⟩
  case round =>
    clear hown hbel1
    obtain ⟨k, hk, rfl, hown, hbel⟩ := hrel
    have hsz : w.heap.size ≤ _ := hbel.size
    by_cases hlt : k < s.size
    · have hI : (k : Int) < s.size := by omega
      have hbyte : s[k].toNat < 256 := s[k].toNat_lt
      have h0 : (0 : Int) ≤ (k : Int) := by omega
      have c1 : (0 : Int) ≤ (s[k].toNat : Int) / 16 := by omega
      have c2 : (s[k].toNat : Int) / 16 < 16 := by omega
      have c3 : (0 : Int) ≤ (s[k].toNat : Int) % 16 := by omega
      have c4 : (s[k].toNat : Int) % 16 < 16 := by omega
      have e1 := Num.u8_and15 s[k].toNat hbyte
      have p1 : ((s[k].toNat : Int) / 16).toNat < hexS.size := by rw [hexS_size]; omega
      have p2 : ((s[k].toNat : Int) % 16).toNat < hexS.size := by rw [hexS_size]; omega
      have D1 : Bts ((wr.alloc (.cells #[.int .u8 (hexS[((s[k].toNat : Int) / 16).toNat]'p1).toNat, .int .u8 (hexS[((s[k].toNat : Int) % 16).toNat]'p2).toNat] 5)).drew) w.heap.size u3 (hexOf (s.data.toList.take k)) := (hown.alloc _).drew
      have D2 : Below w.heap.size w ((wr.alloc (.cells #[.int .u8 (hexS[((s[k].toNat : Int) / 16).toNat]'p1).toNat, .int .u8 (hexS[((s[k].toNat : Int) % 16).toNat]'p2).toNat] 5)).drew) := (hbel.alloc hsz _).drew
      have D3 : Hid (((wr.alloc (.cells #[.int .u8 (hexS[((s[k].toNat : Int) / 16).toNat]'p1).toNat, .int .u8 (hexS[((s[k].toNat : Int) % 16).toNat]'p2).toNat] 5)).drew).heap[wr.heap.size]? = some (.cells #[.int .u8 (hexS[((s[k].toNat : Int) / 16).toNat]'p1).toNat, .int .u8 (hexS[((s[k].toNat : Int) % 16).toNat]'p2).toNat] 5 (0, 0))) := heap_alloc_new wr _
      have D4 : (hexOf (s.data.toList.take k)).length + 2 ≤ 140737488355328 := by simp [hexOf_len]; omega
      go_wp2_with fail
      go_region_held3 (fun _ => True) (trivial) (first | (refine step_append_bytes rfl _ _ rfl w.heap.size u3 (hexOf (s.data.toList.take k)) [hexS[((s[k].toNat : Int) / 16).toNat]'p1, hexS[((s[k].toNat : Int) % 16).toNat]'p2] ?_ D1 wr.heap.size _ ?_ D3.out 2 2 ?_ ?_ D4 ?_ D2 ?_; (· rfl); (· rfl); (· rfl); (· rfl); (· exact D2.size); intro v' w1 hown' hbel'))
      all_goals
        rw [hexOf_tab s k hlt p1 p2] at hown'
        clear D1 D2 D3 D4 e1
        go_wp2
        go_roundw
        case rel => exact ⟨k + 1, by omega, by go_num, hown', hbel'⟩
        case measure => simp [intOf]; omega
    · obtain rfl : k = s.size := by omega
      have hcv := hown.str
      go_wp2
      go_ret
      exact ⟨by rw [← hexOf_all s]; rfl, hbel⟩
end Go.Proofs.YtmdakincddeccaaDoor
