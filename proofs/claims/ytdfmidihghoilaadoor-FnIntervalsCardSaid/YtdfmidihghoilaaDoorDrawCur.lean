/-
  The cursor from which the drawn inputs are read: what it holds; the contracts of l1New, l1Byte, l1Below.
-/
import Derived.Test.YtdfmidihghoilaaDoorRows
import Derived.Test.YtdfmidihghoilaaDoorKeep
import Derived.WalkKit
import Derived.WalkSpells
import Derived.WalkLawsBesides
import Derived.Deep.QuietTactic
import Derived.BigQuiet
import Derived.IntWalk
import Derived.Lib.Hide
namespace Go.Proofs.YtdfmidihghoilaaDoor
open Go.RowKit

/-- The first n bytes behind ao can be read; they lie below block B. -/
def Rd (w : World) (B : Nat) (ao : Option Addr) (n : Nat) : Prop :=
  n ≤ 1048576 ∧ (n = 0 ∨ ∃ x, ao = some x ∧ x.block < B ∧ ∀ i, i < n → ∃ v : Nat, v < 256 ∧ w.cell? (x.add i) = some (.int .u8 v))

theorem add_block (x : Addr) (i : Nat) : (x.add i).block = x.block := by unfold Addr.add; split <;> rfl

theorem Rd.below {w w' : World} {B : Nat} {ao : Option Addr} {n : Nat} (h : Rd w B ao n) (hb : Below B w w') : Rd w' B ao n := by
  refine ⟨h.1, ?_⟩
  rcases h.2 with h0 | ⟨x, rfl, hx, hc⟩
  · exact .inl h0
  · refine .inr ⟨x, rfl, hx, fun i hi => ?_⟩
    obtain ⟨v, hv, he⟩ := hc i hi
    exact ⟨v, hv, by rw [hb.cell (by rw [add_block]; exact hx)]; exact he⟩

/-- The block of a cursor over that slice. -/
def CurB (w : World) (b : Nat) (ao : Option Addr) (n cap : Nat) : Prop :=
  ∃ (i : Nat) (h : Int), i ≤ n ∧ w.heap[b]? = some (.cells #[.slice ao n cap, .int .i64 i, .int .i64 h] 77 (0, 0))

/-- A cursor in block b (from B on) of the world w, which has grown from W by new blocks and by writes to b alone. -/
def Cur (W : World) (B b : Nat) (ao : Option Addr) (n cap : Nat) (w : World) : Prop :=
  B ≤ b ∧ b < w.heap.size ∧ Rd w B ao n ∧ CurB w b ao n cap ∧ Below B W w

theorem grownBy_trans {a b c : World} {r : Nat} (h : a.grownBy b (some r)) (k : b.grownBy c (some r)) : a.grownBy c (some r) :=
  ⟨k.os.trans h.os, k.tape.trans h.tape, k.output.trans h.output, Nat.le_trans h.size k.size, fun j hj hne => (k.block j (Nat.lt_of_lt_of_le hj h.size) hne).trans (h.block j hj hne)⟩

theorem Cur.alloc {W w : World} {B b : Nat} {ao : Option Addr} {n cap : Nat} (h : Cur W B b ao n cap w) (o : Obj) : Cur W B b ao n cap (w.alloc o) := by
  obtain ⟨h1, h2, h3, ⟨i, x, h4, h5⟩, h6⟩ := h
  have hB : B ≤ w.heap.size := by omega
  refine ⟨h1, by simp; omega, h3.below ((Below.refl _ _).alloc hB _), ⟨i, x, h4, ?_⟩, h6.alloc hB _⟩
  rw [heap_alloc_old w o h2]
  exact h5

theorem Cur.kept {W w w' : World} {B b : Nat} {ao : Option Addr} {n cap : Nat} (h : Cur W B b ao n cap w) {row : Option Nat} (hg : w.grownBy w' row) (hne : row ≠ some b) (hr : ∀ k, row = some k → B ≤ k) : Cur W B b ao n cap w' := by
  obtain ⟨h1, h2, h3, ⟨i, x, h4, h5⟩, h6⟩ := h
  have hB : B ≤ w.heap.size := by omega
  have hb : Below B w w' := (Below.refl _ _).grown hg hB hr
  refine ⟨h1, Nat.lt_of_lt_of_le h2 hg.size, h3.below hb, ⟨i, x, h4, ?_⟩, h6.trans hb⟩
  rw [hg.block b h2 (by intro e; exact hne e.symm)]
  exact h5

/-- What a draw of a number leaves. -/
def DrawPost (W : World) (B b : Nat) (ao : Option Addr) (n cap : Nat) (P : Int → Prop) (w : World) (e : Ending) (w' : World) : Prop :=
  ∃ x : Int, P x ∧ e = .returned (.int .i64 x) ∧ Cur W B b ao n cap w' ∧ w.grownBy w' (some b)

theorem and255 (y : Int) : 0 ≤ bits .and .i64 y 255 ∧ bits .and .i64 y 255 ≤ 255 := by
  show 0 ≤ IntKind.i64.wrap ((BitVec.ofInt 64 y &&& BitVec.ofInt 64 255).toNat : Int) ∧ IntKind.i64.wrap ((BitVec.ofInt 64 y &&& BitVec.ofInt 64 255).toNat : Int) ≤ 255
  have h : (BitVec.ofInt 64 y &&& BitVec.ofInt 64 255).toNat ≤ 255 := by
    rw [BitVec.toNat_and]
    exact Nat.and_le_right
  rw [IntWalk.i64_in _ (by omega)]
  omega


theorem and255' (y : Int) : 0 ≤ bits .and .i64 y 255 ∧ bits .and .i64 y 255 < 256 := by have := and255 y; omega

theorem one_set {w : World} {b : Nat} {s0 s1 s2 : Value} {t : TypeId} (h : w.heap[b]? = some (.cells #[s0, s1, s2] t (0, 0))) (u : Value) : (w.setCell ⟨b, 2, none⟩ u).heap[b]? = some (.cells #[s0, s1, u] t (0, 0)) := by
  rw [heap_setCell_same w b 2 _ t u h]; rfl
theorem two_set {w : World} {b : Nat} {s0 s1 s2 : Value} {t : TypeId} (h : w.heap[b]? = some (.cells #[s0, s1, s2] t (0, 0))) (u v : Value) (k : Nat) : (((w.setCell ⟨b, 2, none⟩ u).drewN k).setCell ⟨b, 1, none⟩ v).heap[b]? = some (.cells #[s0, v, u] t (0, 0)) := by
  rw [heap_setCell_same _ b 1 _ t v (show ((w.setCell ⟨b, 2, none⟩ u).drewN k).heap[b]? = _ from one_set h u)]; rfl
theorem set_grown (w : World) (b j : Nat) (u : Value) : w.grownBy (w.setCell ⟨b, j, none⟩ u) (some b) :=
  ⟨rfl, rfl, rfl, by simp, fun k _ hk => heap_setCell_other w ⟨b, j, none⟩ k u (fun e => hk (by simp [e]))⟩
theorem grown_drewN {a w : World} {r : Option Nat} (h : a.grownBy w r) (k : Nat) : a.grownBy (w.drewN k) r := ⟨h.os, h.tape, h.output, h.size, h.block⟩
theorem one_grown {w : World} {b : Nat} {s0 s1 s2 : Value} {t : TypeId} (_h : w.heap[b]? = some (.cells #[s0, s1, s2] t (0, 0))) (u : Value) : w.grownBy (w.setCell ⟨b, 2, none⟩ u) (some b) := set_grown w b 2 u
theorem two_grown {w : World} {b : Nat} {s0 s1 s2 : Value} {t : TypeId} (_h : w.heap[b]? = some (.cells #[s0, s1, s2] t (0, 0))) (u v : Value) (k : Nat) : w.grownBy (((w.setCell ⟨b, 2, none⟩ u).drewN k).setCell ⟨b, 1, none⟩ v) (some b) :=
  grownBy_trans (grown_drewN (set_grown w b 2 u) k) (set_grown _ b 1 v)

set_option maxRecDepth 8000 in
set_option maxHeartbeats 3200000 in
theorem l1Byte_any (W : World) (B b : Nat) (ao : Option Addr) (n cap : Nat) (w : World) (hc : Cur W B b ao n cap w) :
    Calls Tryd.prog 72 #[.pointer (some ⟨b, 0, none⟩)] w (DrawPost W B b ao n cap (fun x => 0 ≤ x ∧ x < 256) w) := by
  obtain ⟨h1, h2, h3, ⟨i, h, h4, h5⟩, h6⟩ := hc
  have c0 : w.cell? ⟨b, 0, none⟩ = some (.slice ao n cap) := by rw [cell_of_row w b 0 _ _ _ h5]; rfl
  have c1 : w.cell? ⟨b, 1, none⟩ = some (.int .i64 i) := by rw [cell_of_row w b 1 _ _ _ h5]; rfl
  have c2 : w.cell? ⟨b, 2, none⟩ = some (.int .i64 h) := by rw [cell_of_row w b 2 _ _ _ h5]; rfl
  have f0 : ∀ j, w.frozen? ⟨b, j, none⟩ = false := fun j => frozen_of_row w b j _ _ h5
  have f1 := f0 1
  have f2 := f0 2
  have H5 := Lib.hid h5
  have H6 := Lib.hid h6
  clear h5 h6 f0
  rcases Nat.lt_or_ge i n with hin | hin
  · obtain ⟨x, rfl, hx, hcell⟩ : ∃ x, ao = some x ∧ x.block < B ∧ ∀ i, i < n → ∃ v : Nat, v < 256 ∧ w.cell? (x.add i) = some (.int .u8 v) := by
      rcases h3.2 with h0 | h0
      · omega
      · exact h0
    obtain ⟨v, hv, hcv⟩ := hcell i hin
    have hinI : (i : Int) < n := by omega
    have hi20 : (i : Int) ≤ 1048576 := by have := h3.1; omega
    have hcv2 : ∀ u, (w.setCell ⟨b, 2, none⟩ u).cell? (x.add i) = some (.int .u8 v) := fun u => by
      rw [((Below.refl B w).setCell (p := ⟨b, 2, none⟩) h1 u).cell (by rw [add_block]; exact hx)]
      exact hcv
    have H3 := Lib.hid h3
    clear h3 hcell
    go_enter Tryd.func72, Tryd.ntmps72
    go_wp2
    go_quiet (fail)
    go_wp2
    go_quiet (fail)
    go_wp2
    go_quiet (fail)
    go_wp2
    go_ret
    exact ⟨_, and255' _, rfl, ⟨h1, by simpa using h2, H3.out.below ((below_drewN ((Below.refl B w).setCell (p := ⟨b, 2, none⟩) h1 _) _).setCell (p := ⟨b, 1, none⟩) h1 _), ⟨i + 1, _, hin, (two_set H5.out _ (.int .i64 ((i : Int) + 1)) _)⟩, (below_drewN (H6.out.setCell (p := ⟨b, 2, none⟩) h1 _) _).setCell (p := ⟨b, 1, none⟩) h1 _⟩, two_grown H5.out _ _ _⟩
  · have hinI : ¬ (i : Int) < n := by omega
    go_enter Tryd.func72, Tryd.ntmps72
    go_wp2
    go_quiet (fail)
    go_wp2
    go_quiet (fail)
    go_wp2
    go_ret
    exact ⟨_, and255' _, rfl, ⟨h1, by simpa using h2, h3.below (below_drewN (below_drewN ((Below.refl B w).setCell (p := ⟨b, 2, none⟩) h1 _) _) _), ⟨i, _, h4, one_set H5.out _⟩, below_drewN (below_drewN (H6.out.setCell (p := ⟨b, 2, none⟩) h1 _) _) _⟩, grown_drewN (grown_drewN (one_grown H5.out _) _) _⟩

set_option maxRecDepth 8000 in
set_option maxHeartbeats 3200000 in
theorem l1Below_any (W : World) (B b : Nat) (ao : Option Addr) (n cap : Nat) (m : Int) (w : World) (hc : Cur W B b ao n cap w) (h1 : 0 < m) (h2 : m ≤ 1000000000000) :
    Calls Tryd.prog 62 #[.pointer (some ⟨b, 0, none⟩), .int .i64 m] w (DrawPost W B b ao n cap (fun x => 0 ≤ x ∧ x < m) w) := by
  have hm : ¬ m ≤ 0 := by omega
  have hm' : m ≠ 0 := by omega
  rcases Int.lt_or_le 256 m with h256 | h256
  · have h256' : ¬ m ≤ 256 := by omega
    go_enter Tryd.func62, Tryd.ntmps62
    have H0 := Lib.hid hc
    clear hc
    go_wp2_with fail
    refine (l1Byte_any W B b ao n cap _ H0.out).mono ?_
    rintro e w1 ⟨x, ⟨hx0, hx1⟩, rfl, hc1, hg1⟩
    go_wp2_with fail
    refine (l1Byte_any W B b ao n cap _ hc1).mono ?_
    rintro e w2 ⟨y, ⟨hy0, hy1⟩, rfl, hc2, hg2⟩
    go_wp2_with fail
    refine (l1Byte_any W B b ao n cap _ hc2).mono ?_
    rintro e w3 ⟨z, ⟨hz0, hz1⟩, rfl, hc3, hg3⟩
    go_wp2_with fail
    refine (l1Byte_any W B b ao n cap _ hc3).mono ?_
    rintro e w4 ⟨u, ⟨hu0, hu1⟩, rfl, hc4, hg4⟩
    go_wp2_with fail
    go_ret
    exact ⟨_, ⟨Int.emod_nonneg _ hm', Int.emod_lt_of_pos _ h1⟩, rfl, hc4, grownBy_trans (grownBy_trans (grownBy_trans hg1 hg2) hg3) hg4⟩
  · go_enter Tryd.func62, Tryd.ntmps62
    go_wp2_with (first | (go_at_call 72; refine (l1Byte_any W B b ao n cap _ hc).mono ?_; rintro e w1 ⟨x, ⟨hx0, hx1⟩, rfl, hc1, hg1⟩))
    go_ret
    exact ⟨_, ⟨Int.emod_nonneg _ hm', Int.emod_lt_of_pos _ h1⟩, rfl, hc1, hg1⟩
end Go.Proofs.YtdfmidihghoilaaDoor
