/-
  The draw of a fraction and a number of places.
-/
import Derived.Test.YtphndncamgbonaaDoorRows
import Derived.Test.YtphndncamgbonaaDoorDrawFrac
import Derived.WalkKit
import Derived.WalkSpells
import Derived.WalkLawsBesides
import Derived.IntWalk
import Derived.Lib.Hide
import Derived.Deep.RegionHeld3
namespace Go.Proofs.YtphndncamgbonaaDoor
open Go.RowKit Num

def DDd (B : Nat) (ao : Option Addr) (n : Nat) (w : World) (e : Ending) (w' : World) : Prop := ∃ x y p : Int, IsI64 x ∧ IsI64 y ∧ (-1 ≤ p ∧ p ≤ 7) ∧ e = .returned (.tuple #[.agg #[.int .i64 x, .int .i64 y], .int .i64 p]) ∧ Rd w' B ao n ∧ Below B w w'

set_option maxRecDepth 8000 in
set_option maxHeartbeats 3200000 in
theorem drawDd (B : Nat) (ao : Option Addr) (n cap : Nat) (w : World) (hr : Rd w B ao n) (hB : B ≤ w.heap.size) :
    Calls Tryd.prog 30 #[.slice ao n cap] w (DDd B ao n w) := by
  have HR := Lib.hid hr
  clear hr
  go_enter Tryd.func30, Tryd.ntmps30
  go_wp2_with fail
  have K0 := (Kept.start w).alloc2 (.int .i64 0) (.int .i64 0) 25 _ rfl
  refine (new_at ao n cap _ (w.heap.size + 1) (by simp) ((HR.out.mono hB).below K0.1 |>.mono (by omega))).mono ?_
  rintro e w1 ⟨rfl, hc1⟩
  have X1 := boxes_of_kept K0 (w.heap.size + 1) (by simp) hc1.below'
  have G1 : Below w.heap.size w w1 := K0.1.trans (hc1.below'.mono (by omega))
  clear K0
  go_wp2_with fail
  refine (l2Any_any _ _ _ ao n cap _ hc1).mono ?_
  rintro e w2 ⟨x, y, hx, hy, rfl, hc2, hg2⟩
  have z2 : w.heap.size < w2.heap.size := (X1.grow hg2).lt 0 rfl
  have X2 := (X1.grow hg2).alloc2 hc2.lt (.int .i64 x) (.int .i64 y) 25 _ rfl
  have G2 : Below w.heap.size w (w2.alloc (.cells #[.int .i64 x, .int .i64 y] 25)) := (G1.trans (below_of_grown hg2 (by omega) G1.size)).alloc (by omega) _
  have hc2' := hc2.alloc (.cells #[.int .i64 x, .int .i64 y] 25)
  have hl2 := hc2.lt
  clear X1 G1 hg2 hc1 hc2
  go_wp2_with fail
  have d0 := X2.get 0 rfl
  have d1 := X2.get 1 rfl
  go_region_with (go_at_call 57; refine (l1Below_any _ _ _ ao n cap 9 _ (cur_drew hc2') (by omega) (by omega)).mono ?_; rintro e w3 ⟨p, ⟨hp0, hp1⟩, rfl, hc3, hg3⟩; have ew : IntKind.i64.wrap (p - 1) = p - 1 := IntWalk.i64_in _ ⟨by omega, by omega⟩; have G3 := G2.drew.trans (below_of_grown hg3 (by omega) G2.drew.size); have X3 := (boxes_drew X2).grow hg3; have k0 := X3.get 0 rfl; have k1 := X3.get 1 rfl; have k2 := X3.get 2 rfl; have k3 := X3.get 3 rfl; have f2 := X3.fz 2 rfl; have f3 := X3.fz 3 rfl; have y2 := X3.lt 2 rfl)
  all_goals
    have G4 := ((G3.setCell (p := ⟨w.heap.size, 0, none⟩) (Nat.le_refl _) (.int .i64 x)).setCell (p := ⟨w.heap.size, 1, none⟩) (Nat.le_refl _) (.int .i64 y)).mono hB
    go_wp2
    exact bodyPost_ret (v := .tuple #[.agg #[.int .i64 x, .int .i64 y], .int .i64 (p - 1)]) (by simp [results, Tryd.results30, go_sem, k2, k3, y2]) rfl ⟨x, y, p - 1, hx, hy, ⟨by omega, by omega⟩, rfl, HR.out.below G4, G4⟩
end Go.Proofs.YtphndncamgbonaaDoor
