/-
  Rows in memory: those of an argument, those of a block that the call made; the walk over the laws' toRowS.
-/
import Derived.Test.YtcfcohnkkgickaaRows
import Derived.Test.YtcfcohnkkgickaaRwLaw
import Derived.WalkKit
import Derived.WalkSpells
import Derived.WalkLawsBesides
import Derived.IntWalk
import Derived.OwnWalk
import Derived.Lib.Hide
namespace Go.Proofs.Ytcfcohnkkgickaa
open Go.RowKit Num

theorem addr_block (x : Addr) (i : Nat) : (x.add i).block = x.block := by unfold Addr.add; split <;> rfl

/-- A row. -/
structure Rw where
  i : Int
  g : Int
  y : Int
  x : Int
  nl : Bool

/-- Row number k of the rows that stand at a. -/
def RowAt (w : World) (a : Addr) (k : Nat) (r : Rw) : Prop :=
  w.cell? (a.add (k * 5)) = some (.int .i64 r.i) ∧ w.cell? ⟨(a.add (k * 5)).block, (a.add (k * 5)).off + 1, none⟩ = some (.int .i64 r.g) ∧ w.cell? ⟨(a.add (k * 5)).block, (a.add (k * 5)).off + 2, none⟩ = some (.int .i64 r.y) ∧ w.cell? ⟨(a.add (k * 5)).block, (a.add (k * 5)).off + 3, none⟩ = some (.int .i64 r.x) ∧ w.cell? ⟨(a.add (k * 5)).block, (a.add (k * 5)).off + 4, none⟩ = some (.bool r.nl)

/-- Row number k of block g. -/
def RowIn (w : World) (g k : Nat) (r : Rw) : Prop :=
  w.cell? ⟨g, k * 5, none⟩ = some (.int .i64 r.i) ∧ w.cell? ⟨g, k * 5 + 1, none⟩ = some (.int .i64 r.g) ∧ w.cell? ⟨g, k * 5 + 2, none⟩ = some (.int .i64 r.y) ∧ w.cell? ⟨g, k * 5 + 3, none⟩ = some (.int .i64 r.x) ∧ w.cell? ⟨g, k * 5 + 4, none⟩ = some (.bool r.nl)

theorem RowIn.below {w w' : World} {B g k : Nat} {r : Rw} (h : RowIn w g k r) (hb : Below B w w') (hg : g < B) : RowIn w' g k r := by
  obtain ⟨h0, h1, h2, h3, h4⟩ := h
  exact ⟨by rw [hb.cell (p := ⟨g, k * 5, none⟩) hg]; exact h0, by rw [hb.cell (p := ⟨g, k * 5 + 1, none⟩) hg]; exact h1, by rw [hb.cell (p := ⟨g, k * 5 + 2, none⟩) hg]; exact h2, by rw [hb.cell (p := ⟨g, k * 5 + 3, none⟩) hg]; exact h3, by rw [hb.cell (p := ⟨g, k * 5 + 4, none⟩) hg]; exact h4⟩

theorem RowAt.below {w w' : World} {B k : Nat} {a : Addr} {r : Rw} (h : RowAt w a k r) (hb : Below B w w') (hg : a.block < B) : RowAt w' a k r := by
  have hg' : (a.add (k * 5)).block < B := by rw [addr_block]; exact hg
  obtain ⟨h0, h1, h2, h3, h4⟩ := h
  have k := fun (o : Nat) => hb.cell (p := ⟨(a.add (k * 5)).block, o, none⟩) hg'
  exact ⟨by rw [hb.cell hg']; exact h0, by rw [k]; exact h1, by rw [k]; exact h2, by rw [k]; exact h3, by rw [k]; exact h4⟩

/-- Block g is the call's own, has room for n rows, and holds the first k of R. -/
def RowsTo (W w : World) (g n k : Nat) (R : Nat → Rw) : Prop :=
  Below W.heap.size W w ∧ W.heap.size ≤ g ∧ g < w.heap.size ∧ (∀ j, j < n * 5 → (∃ v, w.cell? ⟨g, j, none⟩ = some v) ∧ w.frozen? ⟨g, j, none⟩ = false) ∧ ∀ m, m < k → RowIn w g m (R m)

theorem RowsTo.step {W w w' : World} {g n k : Nat} {R : Nat → Rw} (h : RowsTo W w g n k R) (hb : Below w.heap.size w w') : RowsTo W w' g n k R := by
  obtain ⟨h1, h2, h3, h4, h5⟩ := h
  refine ⟨h1.trans (hb.mono h1.size), h2, Nat.lt_of_lt_of_le h3 hb.size, fun j hj => ?_, fun m hm => (h5 m hm).below hb h3⟩
  obtain ⟨⟨v, hv⟩, hf⟩ := h4 j hj
  exact ⟨⟨v, by rw [hb.cell (p := ⟨g, j, none⟩) h3]; exact hv⟩, by rw [hb.frozen (p := ⟨g, j, none⟩) h3]; exact hf⟩

theorem RowsTo.set {W w : World} {g n k : Nat} {R : Nat → Rw} (h : RowsTo W w g n k R) (o : Nat) (u : Value) (ho : k * 5 ≤ o) : RowsTo W (w.setCell ⟨g, o, none⟩ u) g n k R := by
  obtain ⟨h1, h2, h3, h4, h5⟩ := h
  refine ⟨h1.setCell h2 u, h2, by simpa using h3, fun j hj => ?_, fun m hm => ?_⟩
  · obtain ⟨⟨v, hv⟩, hf⟩ := h4 j hj
    refine ⟨?_, by rw [World.frozen?_setCell]; exact hf⟩
    by_cases e : o = j
    · subst e
      exact ⟨u, World.cell?_setCell_same (w := w) (a := ⟨g, o, none⟩) (v := u) hv⟩
    · exact ⟨v, by rw [World.cell?_setCell_other (w := w) (a := ⟨g, o, none⟩) (b := ⟨g, j, none⟩) (v := u) (fun e' => e (congrArg Addr.off e'))]; exact hv⟩
  · obtain ⟨r0, r1, r2, r3, r4⟩ := h5 m hm
    have ne : ∀ j, j < 5 → (⟨g, o, none⟩ : Addr) ≠ ⟨g, m * 5 + j, none⟩ := fun j hj e => by
      have := congrArg Addr.off e
      simp at this
      omega
    exact ⟨by rw [World.cell?_setCell_other (w := w) (a := ⟨g, o, none⟩) (b := ⟨g, m * 5, none⟩) (v := u) (ne 0 (by omega))]; exact r0,
      by rw [World.cell?_setCell_other (w := w) (a := ⟨g, o, none⟩) (b := ⟨g, m * 5 + 1, none⟩) (v := u) (ne 1 (by omega))]; exact r1,
      by rw [World.cell?_setCell_other (w := w) (a := ⟨g, o, none⟩) (b := ⟨g, m * 5 + 2, none⟩) (v := u) (ne 2 (by omega))]; exact r2,
      by rw [World.cell?_setCell_other (w := w) (a := ⟨g, o, none⟩) (b := ⟨g, m * 5 + 3, none⟩) (v := u) (ne 3 (by omega))]; exact r3,
      by rw [World.cell?_setCell_other (w := w) (a := ⟨g, o, none⟩) (b := ⟨g, m * 5 + 4, none⟩) (v := u) (ne 4 (by omega))]; exact r4⟩

theorem set_same {w : World} {g o : Nat} {u : Value} (h : ∃ v, w.cell? ⟨g, o, none⟩ = some v) : (w.setCell ⟨g, o, none⟩ u).cell? ⟨g, o, none⟩ = some u := by
  obtain ⟨v, hv⟩ := h
  exact World.cell?_setCell_same (w := w) (a := ⟨g, o, none⟩) (v := u) hv
theorem set_other {w : World} {g o j : Nat} {u : Value} (h : o ≠ j) : (w.setCell ⟨g, o, none⟩ u).cell? ⟨g, j, none⟩ = w.cell? ⟨g, j, none⟩ :=
  World.cell?_setCell_other (w := w) (a := ⟨g, o, none⟩) (b := ⟨g, j, none⟩) (v := u) (fun e => h (congrArg Addr.off e))

/-- Row number k is stored. -/
theorem RowsTo.put {W w : World} {g n k : Nat} {R : Nat → Rw} (h : RowsTo W w g n k R) (hk : k < n) :
    RowsTo W (((((w.setCell ⟨g, k * 5, none⟩ (.int .i64 (R k).i)).setCell ⟨g, k * 5 + 1, none⟩ (.int .i64 (R k).g)).setCell ⟨g, k * 5 + 2, none⟩ (.int .i64 (R k).y)).setCell ⟨g, k * 5 + 3, none⟩ (.int .i64 (R k).x)).setCell ⟨g, k * 5 + 4, none⟩ (.bool (R k).nl)) g n (k + 1) R := by
  have a1 := h.set (k * 5) (.int .i64 (R k).i) (by omega)
  have a2 := a1.set (k * 5 + 1) (.int .i64 (R k).g) (by omega)
  have a3 := a2.set (k * 5 + 2) (.int .i64 (R k).y) (by omega)
  have a4 := a3.set (k * 5 + 3) (.int .i64 (R k).x) (by omega)
  have a5 := a4.set (k * 5 + 4) (.bool (R k).nl) (by omega)
  refine ⟨a5.1, a5.2.1, a5.2.2.1, a5.2.2.2.1, fun m hm => ?_⟩
  by_cases e : m < k
  · exact a5.2.2.2.2 m e
  · obtain rfl : m = k := by omega
    refine ⟨?_, ?_, ?_, ?_, ?_⟩
    · rw [set_other (by omega), set_other (by omega), set_other (by omega), set_other (by omega)]
      exact set_same (h.2.2.2.1 _ (by omega)).1
    · rw [set_other (by omega), set_other (by omega), set_other (by omega)]
      exact set_same (a1.2.2.2.1 _ (by omega)).1
    · rw [set_other (by omega), set_other (by omega)]
      exact set_same (a2.2.2.2.1 _ (by omega)).1
    · rw [set_other (by omega)]
      exact set_same (a3.2.2.2.1 _ (by omega)).1
    · exact set_same (a4.2.2.2.1 _ (by omega)).1

theorem Try.infoRow : (Try.prog.info? 36).map (fun i => (i.zero, i.size, i.bytes)) = some (some (.agg #[.int .i64 0, .int .i64 0, .int .i64 0, .int .i64 0, .bool false]), 5, 40) := by kernel_rfl

/-- Room for n rows, made. -/
theorem rowsTo_made {w w' : World} {n : Nat} {R : Nat → Rw} {xs : List Value} (h : w'.ownsRow w.heap.size 36 5 (.slice (some ⟨w.heap.size, 0, none⟩) n n) n xs) (hg : w.grownBy w' none) : RowsTo w w' w.heap.size n 0 R := by
  obtain ⟨_, ⟨hno, _⟩ | ⟨g, cap, cur, hv, _, hblk, hn, hcap, hsz, _⟩⟩ := h
  · cases hno
  · obtain ⟨rfl, rfl⟩ : w.heap.size = g ∧ n = cap := by simpa using hv
    have hlt : w.heap.size < w'.heap.size := (Array.getElem?_eq_some_iff.1 hblk).1
    refine ⟨⟨hg.os, hg.tape, hg.output, hg.size, fun j hj => hg.block j hj (by simp)⟩, Nat.le_refl _, hlt, fun j hj => ?_, fun m hm => by omega⟩
    have hj' : j < cur.size := by omega
    refine ⟨⟨cur[j], ?_⟩, ?_⟩
    · simp [World.cell?, hblk, hj']
    · simp [World.frozen?, hblk]

/-- An argument of rows: nil, or n rows that lie below. -/
def RowsArg (w : World) (ao : Option Addr) (n : Nat) (R : Nat → Rw) : Prop := n = 0 ∨ ∃ x, ao = some x ∧ x.block < w.heap.size ∧ ∀ k, k < n → RowAt w x k (R k)

theorem RowsArg.below {w w' : World} {ao : Option Addr} {n : Nat} {R : Nat → Rw} (h : RowsArg w ao n R) (hb : Below w.heap.size w w') : RowsArg w' ao n R := by
  rcases h with h | ⟨x, rfl, hx, h⟩
  · exact .inl h
  · exact .inr ⟨x, rfl, Nat.lt_of_lt_of_le hx hb.size, fun k hk => (h k hk).below hb hx⟩

set_option maxRecDepth 8000 in
set_option maxHeartbeats 3200000 in
theorem law_toRs (ao : Option Addr) (n cap : Nat) (R : Nat → Rw) (w : World) (hn : n ≤ 1048576) (hA : RowsArg w ao n R) :
    Calls Try.prog 109 #[.slice ao n cap] w fun e w' => e = .returned (.slice (some ⟨w.heap.size, 0, none⟩) n n) ∧ RowsTo w w' w.heap.size n n R := by
  have HA : Hid (RowsArg w ao n R) := hA
  clear hA
  have hnI : (n : Int) ≤ 1048576 := by omega
  obtain ⟨i0, hi, hx⟩ := Option.map_eq_some_iff.1 Try.infoRow
  simp only [Prod.mk.injEq] at hx
  obtain ⟨hz0, hz1, hz2⟩ := hx
  go_enter Try.func109, Try.ntmps109
  go_wp2_with (first | (at_make; refine wpList_make_full _ rfl _ _ _ rfl w.heap.size 36 i0 _ 5 (by kernel_rfl) hi hz0 hz1 .i64 .i64 _ _ n rfl rfl (by simp) (by simp) (by rw [hz2]; omega) (by unfold maxLen; omega) (Nat.le_refl _) ?_; intro w1 hown hgr))
  have HM := Lib.hid (rowsTo_made (R := R) hown hgr)
  clear hown hgr hi hz0 hz1 hz2
  go_loopw [4] (fun iv wr => ∃ k : Nat, k ≤ n ∧ iv = .int .i64 k ∧ Hid (RowsTo w wr w.heap.size n k R)) (fun iv _ => n - (intOf iv).toNat)
  case atStart => exact ⟨0, Nat.zero_le _, rfl, HM.out⟩
  case round =>
    obtain ⟨k, hk, rfl, HR⟩ := hrel
    by_cases hlt : k < n
    · have hkI : (k : Int) < (n : Int) := by omega
      rcases HA.out.below (HR.out.1) with h0 | ⟨x, rfl, hxb, hrow⟩
      · omega
      · obtain ⟨c0, c1, c2, c3, c4⟩ := hrow k hlt
        clear hrow
        go_wp2_with fail
        refine (law_toR _ _ _ _ _ _).mono ?_
        rintro e w2 ⟨rfl, hb2⟩
        have H2 := Lib.hid (HR.out.step hb2)
        clear hb2 c0 c1 c2 c3 c4
        have hcell := H2.out.2.2.2.1
        obtain ⟨⟨v0, e0⟩, f0⟩ := hcell (k * 5) (by omega)
        obtain ⟨⟨v1, e1⟩, f1⟩ := hcell (k * 5 + 1) (by omega)
        obtain ⟨⟨v2, e2⟩, f2⟩ := hcell (k * 5 + 2) (by omega)
        obtain ⟨⟨v3, e3⟩, f3⟩ := hcell (k * 5 + 3) (by omega)
        obtain ⟨⟨v4, e4⟩, f4⟩ := hcell (k * 5 + 4) (by omega)
        clear hcell
        have HP := Lib.hid (H2.out.put hlt)
        go_wp2
        go_roundw
        case rel => exact ⟨k + 1, by omega, by go_num, HP.out⟩
        case measure => simp [intOf]; omega
    · obtain rfl : k = n := by omega
      have hsd : decide ((k : Int) < (k : Int)) = false := decide_eq_false (by omega)
      go_wp2
      go_ret
      exact ⟨rfl, HR.out⟩
end Go.Proofs.Ytcfcohnkkgickaa
