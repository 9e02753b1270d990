/-
  The walk over the model's BlockOfRow; blocks as a function.
-/
import Derived.Test.YtcfcohnkkgickaaRows
import Derived.Test.YtcfcohnkkgickaaTbRep
import Derived.Test.YtcfcohnkkgickaaFdSpec
import Derived.WalkKit
import Derived.WalkSpells
import Derived.WalkLawsBesides
import Derived.IntWalk
import Derived.Lib.Hide
namespace Go.Proofs.Ytcfcohnkkgickaa
open Go.RowKit Num

/-- The first index for which p holds, or -1. -/
def FirstAns (p : Nat → Prop) (n : Nat) (v : Int) : Prop := (∃ k : Nat, k < n ∧ p k ∧ (∀ j, j < k → ¬ p j) ∧ v = (k : Int)) ∨ ((∀ j, j < n → ¬ p j) ∧ v = -1)
theorem FirstAns_unique {p : Nat → Prop} {n : Nat} {v v' : Int} (h : FirstAns p n v) (h' : FirstAns p n v') : v = v' := by
  rcases h with ⟨k, hk, he, hl, rfl⟩ | ⟨hl, rfl⟩ <;> rcases h' with ⟨k', hk', he', hl', rfl⟩ | ⟨hl', rfl⟩
  · have h1 : ¬ k < k' := fun h => hl' k h he
    have h2 : ¬ k' < k := fun h => hl k' h he'
    omega
  · exact absurd he (hl' k hk)
  · exact absurd he' (hl k' hk')
  · rfl
theorem FirstAns.rng {p : Nat → Prop} {n : Nat} {v : Int} (h : FirstAns p n v) : -1 ≤ v ∧ v < n := by
  rcases h with ⟨k, hk, _, _, rfl⟩ | ⟨_, rfl⟩ <;> omega
def FirstPost (p : Nat → Prop) (n : Nat) (w : World) (e : Ending) (w' : World) : Prop := (∃ v : Int, FirstAns p n v ∧ e = .returned (.int .i64 v)) ∧ Below w.heap.size w w'

/-- Blocks as a function. -/
def Bn (l : List Blk) : Nat → Blk := fun k => l.getD k ⟨0, []⟩
theorem Bn_at {l : List Blk} {k : Nat} (hk : k < l.length) : Bn l k = l[k] := by unfold Bn; rw [List.getD_eq_getElem?_getD, List.getElem?_eq_getElem hk]; rfl
theorem BlksVal.head {w : World} {ao : Option Addr} {l : List Blk} {n : Nat} (h : BlksVal w ao l) (hl : l.length = n) (hn : 0 < n) : ∃ g, ao = some ⟨g, 0, none⟩ ∧ g < w.heap.size ∧ ∀ k, k < n → BlkVal w g k (Bn l k) := by
  rcases h with h | ⟨g, e, hg, h⟩
  · omega
  · exact ⟨g, e, hg, fun k hk => by rw [Bn_at (by omega)]; exact h k (by omega)⟩

/-- A row with this ID is among the rows. -/
def HasRow (l : List Rw) (x : Int) : Prop := ∃ j, j < l.length ∧ (Rn l j).i = x
theorem hasRow_fd {l : List Rw} {x v : Int} (h : FdAns (Rn l) x l.length v) : 0 ≤ v ↔ HasRow l x := by
  rcases h with ⟨k, hk, he, _, rfl⟩ | ⟨hl, rfl⟩
  · exact ⟨fun _ => ⟨k, hk, he⟩, fun _ => by omega⟩
  · exact ⟨fun h => by omega, fun ⟨j, hj, he⟩ => absurd he (hl j hj)⟩

set_option maxRecDepth 8000 in
set_option maxHeartbeats 3200000 in
theorem spec_bor (ver id : Int) (ao : Option Addr) (n cap : Nat) (l : List Blk) (w : World) (hl : l.length = n) (hn : n ≤ 1048576) (hr : ∀ k, k < n → (Bn l k).rows.length ≤ 1048576) (hV : BlksVal w ao l) :
    Calls Try.prog 78 #[.agg #[.int .i64 ver, .slice ao n cap], .int .i64 id] w (FirstPost (fun k => HasRow (Bn l k).rows id) n w) := by
  have HV := Lib.hid hV
  have HL := Lib.hid hl
  have HR := Lib.hid hr
  clear hV hl hr
  have hnI : (n : Int) ≤ 1048576 := by omega
  go_enter Try.func78, Try.ntmps78
  go_wp2_with fail
  have K0 := (Kept.start w).alloc2 (.int .i64 ver) (.slice ao n cap) 32 _ rfl
  go_loopw [5] (fun iv wr => ∃ k : Nat, k ≤ n ∧ iv = .int .i64 k ∧ Hid (∀ j, j < k → ¬ HasRow (Bn l j).rows id) ∧ Hid (Kept w wr [(⟨w.heap.size, 0, none⟩, .int .i64 ver), (⟨w.heap.size, 1, none⟩, .slice ao n cap)])) (fun iv _ => n - (intOf iv).toNat)
  case atStart => exact ⟨0, Nat.zero_le _, rfl, (fun j hj => by omega), K0⟩
  case round =>
    obtain ⟨k, hk, rfl, HA, HK⟩ := hrel
    have b1 := HK.out.get 1 rfl
    by_cases hlt : k < n
    · have hkI : (k : Int) < (n : Int) := by omega
      obtain ⟨g, rfl, hg, hB⟩ := (HV.out.below HK.out.1).head HL.out (by omega)
      obtain ⟨rao, rcap, c0, c1, hRV⟩ := hB k hlt
      have hrl := HR.out k hlt
      obtain ⟨bk, hbk⟩ : ∃ bk, bk = Bn l k := ⟨_, rfl⟩
      rw [← hbk] at c0 c1 hRV hrl
      have FD := Lib.hid (spec_fdV rao bk.rows.length rcap id (Rn bk.rows) wr hrl (by
        rcases hRV with h | ⟨g, e, _, h⟩
        · exact .inl h
        · exact .inr ⟨g, e, h⟩))
      have HBK := Lib.hid hbk
      clear hB hRV hbk
      go_wp2_with fail
      refine FD.out.mono ?_
      rintro e w1 ⟨v, hv, rfl, hb⟩
      have K1 := Lib.hid (HK.out.step hb)
      have HI := hasRow_fd hv
      by_cases h0 : 0 ≤ v
      · have hd : decide (0 ≤ v) = true := decide_eq_true h0
        have AN := Lib.hid (show FirstAns (fun k => HasRow (Bn l k).rows id) n (k : Int) from .inl ⟨k, hlt, (by show HasRow (Bn l k).rows id; rw [← HBK.out]; exact HI.1 h0), HA.out, rfl⟩)
        clear hv HI hb b1 c0 c1
        go_wp2
        go_ret
        exact ⟨⟨_, AN.out, rfl⟩, K1.out.1⟩
      · have hd : decide (0 ≤ v) = false := decide_eq_false h0
        have HN := Lib.hid (show ∀ j, j < k + 1 → ¬ HasRow (Bn l j).rows id from fun j hj => by
          by_cases h : j < k
          · exact HA.out j h
          · obtain rfl : j = k := by omega
            rw [← HBK.out]; exact fun h => h0 (HI.2 h))
        clear hv HI hb b1 c0 c1
        go_wp2
        go_roundw
        case rel => exact ⟨k + 1, by omega, by go_num, HN, K1⟩
        case measure => simp [intOf]; omega
    · obtain rfl : k = n := by omega
      have hsd : decide ((k : Int) < (k : Int)) = false := decide_eq_false (by omega)
      go_wp2
      go_ret
      exact ⟨⟨-1, .inr ⟨HA.out, rfl⟩, rfl⟩, HK.out.1⟩
end Go.Proofs.Ytcfcohnkkgickaa
