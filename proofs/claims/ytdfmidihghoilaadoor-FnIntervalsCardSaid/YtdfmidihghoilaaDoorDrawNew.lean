/-
  The contracts of l1New, l1PickInt.
-/
import Derived.Test.YtdfmidihghoilaaDoorRows
import Derived.Test.YtdfmidihghoilaaDoorDrawCur
import Derived.WalkKit
import Derived.WalkSpells
import Derived.WalkLawsBesides
import Derived.IntWalk
import Derived.Lib.Hide
namespace Go.Proofs.YtdfmidihghoilaaDoor
open Go.RowKit

/-- What a fresh cursor leaves. -/
def NewPost (B : Nat) (ao : Option Addr) (n cap : Nat) (w : World) (e : Ending) (w' : World) : Prop :=
  e = .returned (.pointer (some ⟨w.heap.size, 0, none⟩)) ∧ Cur w B w.heap.size ao n cap w'

theorem new_cur {B : Nat} {ao : Option Addr} {n cap : Nat} {w : World} (hr : Rd w B ao n) (hB : B ≤ w.heap.size) (h : Int) :
    Cur w B w.heap.size ao n cap (w.alloc (.cells #[.slice ao n cap, .int .i64 0, .int .i64 h] 77)) :=
  ⟨hB, by simp, hr.below ((Below.refl _ _).alloc hB _), ⟨0, h, Nat.zero_le _, heap_alloc_new w _⟩, (Below.refl _ _).alloc hB _⟩

set_option maxRecDepth 8000 in
set_option maxHeartbeats 1600000 in
theorem l1New_any (B : Nat) (ao : Option Addr) (n cap : Nat) (w : World) (hr : Rd w B ao n) (hB : B ≤ w.heap.size) :
    Calls Tryd.prog 44 #[.slice ao n cap] w (NewPost B ao n cap w) := by
  have HR := Lib.hid hr
  have hn := hr.1
  clear hr
  go_enter Tryd.func44, Tryd.ntmps44
  go_wp2
  go_loop [3, 4] (fun hv iv => ∃ (i : Nat) (h : Int), i ≤ n ∧ iv = .int .i64 i ∧ hv = .int .i64 h) (fun _ iv => n + 1 - (intOf iv).toNat)
  case atStart => exact ⟨0, _, Nat.zero_le _, rfl, rfl⟩
  case round =>
    obtain ⟨i, h, hi, rfl, rfl⟩ := hrel
    have hiI : (i : Int) ≤ 1048576 := by omega
    by_cases hlt : i < n
    · have hI : (i : Int) < n := by omega
      obtain ⟨x, rfl, hx, hcell⟩ : ∃ x, ao = some x ∧ x.block < B ∧ ∀ i, i < n → ∃ v : Nat, v < 256 ∧ w.cell? (x.add i) = some (.int .u8 v) := by
        rcases HR.out.2 with h0 | h0
        · omega
        · exact h0
      obtain ⟨v, hv, hcv⟩ := hcell i hlt
      clear hcell
      by_cases h4 : (i : Int) < 4000
      · go_wp2
        go_round
        case rel => exact ⟨i + 1, _, by omega, by go_num, rfl⟩
        case measure => simp [intOf]; omega
      · go_wp2
        go_ret
        exact ⟨rfl, new_cur HR.out hB _⟩
    · have hI : ¬ (i : Int) < n := by omega
      go_wp2
      go_ret
      exact ⟨rfl, new_cur HR.out hB _⟩

/-- A list of int64 in block g. -/
def Ints (w : World) (g k : Nat) : Prop := g < w.heap.size ∧ ∀ j, j < k → ∃ v : Int, (-9223372036854775808 ≤ v ∧ v ≤ 9223372036854775807) ∧ w.cell? ⟨g, j, none⟩ = some (.int .i64 v)

def IsI64 (x : Int) : Prop := -9223372036854775808 ≤ x ∧ x ≤ 9223372036854775807

set_option maxRecDepth 8000 in
set_option maxHeartbeats 1600000 in
theorem l1PickInt_any (W : World) (B b : Nat) (ao : Option Addr) (n cap : Nat) (g k kc : Nat) (w : World) (hc : Cur W B b ao n cap w) (hg : Ints w g k) (hne : g ≠ b) (h1 : 0 < k) (h2 : k ≤ 1000000) :
    Calls Tryd.prog 64 #[.pointer (some ⟨b, 0, none⟩), .slice (some ⟨g, 0, none⟩) k kc] w (DrawPost W B b ao n cap IsI64 w) := by
  have H0 := Lib.hid hc
  have HG := Lib.hid hg
  have hk1 : (0 : Int) < k := by omega
  have hk2 : (k : Int) ≤ 1000000000000 := by omega
  clear hc hg
  go_enter Tryd.func64, Tryd.ntmps64
  go_wp2_with fail
  refine (l1Below_any W B b ao n cap k _ H0.out hk1 hk2).mono ?_
  rintro e w1 ⟨x, ⟨hx0, hx1⟩, rfl, hc1, hg1⟩
  obtain ⟨j, rfl⟩ := Int.eq_ofNat_of_zero_le hx0
  obtain ⟨v, hv, hcell⟩ := HG.out.2 j (by omega)
  have hcell1 : w1.cell? ⟨g, j, none⟩ = some (.int .i64 v) := by
    rw [World.cell?_of_block (w := w) (hg1.block g HG.out.1 (by intro e; exact hne (Option.some.inj e)))]
    exact hcell
  have H1 := Lib.hid hc1
  have H2 := Lib.hid hg1
  clear hc1 hg1 hcell
  go_wp2
  go_ret
  exact ⟨_, hv, rfl, H1.out, H2.out⟩
end Go.Proofs.YtdfmidihghoilaaDoor
