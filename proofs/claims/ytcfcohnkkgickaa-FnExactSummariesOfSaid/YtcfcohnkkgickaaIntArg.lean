/-
  Ints as an argument of a law: a slice, opened to what its elements hold; the walk over the laws' copy of it.
-/
import Derived.Test.YtcfcohnkkgickaaRows
import Derived.Test.YtcfcohnkkgickaaRwsOwn
import Derived.Test.YtcfcohnkkgickaaIntOwn
import Derived.Test.YtcfcohnkkgickaaIntLaw
import Derived.WalkKit
import Derived.ProofKit
import Derived.OpenShut
import Derived.ChangeSame
import Derived.Deep.Slices
import Derived.Lib.SmallJoins
namespace Go.Proofs.Ytcfcohnkkgickaa
open Go.ChangeShapes Go.WideShapes Go.ChangeAt Go.RowKit Go.Deep Go.Joins Num

theorem cellsI_int : Try.prog.cellsOf 3 = 1 := by kernel_rfl

/-- An argument of ints: nil, or n ints that lie below. -/
def IntsArg (w : World) (ao : Option Addr) (n : Nat) (R : Nat → Int) : Prop := n = 0 ∨ ∃ x, ao = some x ∧ x.block < w.heap.size ∧ ∀ k, k < n → w.cell? (x.add k) = some (.int .i64 (R k))
theorem IntsArg.below {w w' : World} {ao : Option Addr} {n : Nat} {R : Nat → Int} (h : IntsArg w ao n R) (hb : Below w.heap.size w w') : IntsArg w' ao n R := by
  rcases h with h | ⟨x, rfl, hx, h⟩
  · exact .inl h
  · exact .inr ⟨x, rfl, Nat.lt_of_lt_of_le hx hb.size, fun k hk => by rw [hb.cell (p := x.add k) (by rw [addr_block]; exact hx)]; exact h k hk⟩

theorem open_intsA {H : Type} {enc : TypeId × Value → H} {w : World} {base : Nat} {spare : Nat → Bool} {held : Bool} {ao : Option Addr} {n cap : Nat} {d : DataW H} {p : List MemPlace}
    (hsp : ∀ b, spare b = true) (h : DataW.Trod enc Try.prog w base spare held 45 (.slice ao n cap) d p) : ∃ R : Nat → Int, IntsArg w ao n R ∧ n ≤ maxLen := by
  obtain ⟨fuel, hf⟩ := h
  rcases open_slice Try.underlying45 hf with ⟨hcs, _⟩ | ⟨a, len, c, m, n', D, Pl, hcs, _, hl, hm, hmm, _, hi⟩
  · simp [Value.cells] at hcs
    obtain ⟨rfl, rfl, rfl⟩ := hcs
    exact ⟨fun _ => 0, .inl rfl, by unfold maxLen; omega⟩
  · simp [Value.cells] at hcs
    obtain ⟨rfl, rfl, rfl⟩ := hcs
    rw [hsp, if_pos rfl] at hmm
    have row : ∀ i, i < n → ∃ r : Int, w.cell? (a.add i) = some (.int .i64 r) ∧ a.block < w.heap.size := fun i hin => by
      obtain ⟨cs', hc, ht⟩ := hi i (by omega)
      rw [cellsI_int, Nat.mul_one] at hc
      obtain ⟨_, hcl, hat⟩ := World.cells?_some hc
      match cs', hcl with
      | [c0], _ =>
        obtain ⟨r, e0, _, _⟩ := DataW.trod_int Try.underlying3 ht
        simp only [List.cons.injEq, and_true] at e0
        subst e0
        have q0 := hat 0 (by omega)
        have z : (a.add i).add 0 = a.add i := rfl
        rw [z] at q0
        refine ⟨r, q0, ?_⟩
        have hb := World.block_lt_of_cell? w _ q0
        rw [addr_block] at hb
        exact hb
    have ch : ∀ i, ∃ r : Int, i < n → w.cell? (a.add i) = some (.int .i64 r) ∧ a.block < w.heap.size := fun i => by
      by_cases hin : i < n
      · obtain ⟨r, hr⟩ := row i hin
        exact ⟨r, fun _ => hr⟩
      · exact ⟨0, fun h => absurd h hin⟩
    obtain ⟨R, hR⟩ := Classical.axiomOfChoice ch
    refine ⟨R, ?_, by omega⟩
    by_cases h0 : n = 0
    · exact .inl h0
    · exact .inr ⟨a, rfl, (hR 0 (by omega)).2, fun k hk => (hR k hk).1⟩

/-- The ints as a list. -/
def lsI (n : Nat) (R : Nat → Int) : List Int := (List.range n).map R
theorem lsI_len (n : Nat) (R : Nat → Int) : (lsI n R).length = n := by simp [lsI]
theorem lsI_at {n : Nat} {R : Nat → Int} {k : Nat} (hk : k < (lsI n R).length) : (lsI n R)[k] = R k := by simp [lsI]

/-- Block g is the call's own, has room for n ints, and holds the first k of R. -/
def IntsTo (W w : World) (g n k : Nat) (R : Nat → Int) : Prop :=
  Below W.heap.size W w ∧ W.heap.size ≤ g ∧ OwnBlk w g n ∧ ∀ m, m < k → w.cell? ⟨g, m, none⟩ = some (.int .i64 (R m))
theorem IntsTo.put {W w : World} {g n k : Nat} {R : Nat → Int} (h : IntsTo W w g n k R) (hk : k < n) : IntsTo W (w.setCell ⟨g, k, none⟩ (.int .i64 (R k))) g n (k + 1) R := by
  obtain ⟨h1, h2, h3, h4⟩ := h
  refine ⟨h1.setCell h2 _, h2, h3.set _ _, fun m hm => ?_⟩
  by_cases e : m = k
  · subst e
    exact set_same (h3.2 m hk).1
  · rw [set_other (by omega)]
    exact h4 m (by omega)
theorem intsTo_made {w w' : World} {n : Nat} {R : Nat → Int} {xs : List Value} (h : w'.ownsRow w.heap.size 3 1 (.slice (some ⟨w.heap.size, 0, none⟩) n n) n xs) (hg : w.grownBy w' none) : IntsTo w w' w.heap.size n 0 R := by
  obtain ⟨_, ⟨hno, _⟩ | ⟨g, cap, cur, hv, _, hblk, hn, hcap, hsz, _⟩⟩ := h
  · cases hno
  · obtain ⟨rfl, rfl⟩ : w.heap.size = g ∧ n = cap := by simpa using hv
    have hlt : w.heap.size < w'.heap.size := (Array.getElem?_eq_some_iff.1 hblk).1
    refine ⟨⟨hg.os, hg.tape, hg.output, hg.size, fun j hj => hg.block j hj (by simp)⟩, Nat.le_refl _, ⟨hlt, fun j hj => ?_⟩, fun m hm => by omega⟩
    have hj' : j < cur.size := by omega
    refine ⟨⟨cur[j], ?_⟩, ?_⟩
    · simp [World.cell?, hblk, hj']
    · simp [World.frozen?, hblk]
theorem IntsTo.rep {W w : World} {g n : Nat} {R : Nat → Int} (h : IntsTo W w g n n R) : SliceRep intTy w (.slice (some ⟨g, 0, none⟩) n n) (lsI n R) [g] := by
  have := ints_shut (w := w) (g := g) (cap := n) (l := lsI n R) (by rw [lsI_len]; exact Nat.le_refl _) (by rw [lsI_len]; exact h.2.2.1) (fun k hk => by
    rw [lsI_at]; exact h.2.2.2 k (by rwa [lsI_len] at hk))
  rwa [lsI_len] at this

/-- What the laws' copy of ints leaves. -/
def IntsPost0 (n : Nat) (R : Nat → Int) (w : World) (e : Ending) (w' : World) : Prop :=
  e = .returned (.slice (some ⟨w.heap.size, 0, none⟩) n n) ∧ SliceRep intTy w' (.slice (some ⟨w.heap.size, 0, none⟩) n n) (lsI n R) [w.heap.size] ∧ Below w.heap.size w w'

set_option maxRecDepth 8000 in
set_option maxHeartbeats 3200000 in
theorem law_toIs (ao : Option Addr) (n cap : Nat) (R : Nat → Int) (w : World) (hn : n ≤ 1048576) (hA : IntsArg w ao n R) :
    Calls Try.prog 117 #[.slice ao n cap] w (IntsPost0 n R w) := by
  have HA := Lib.hid hA
  clear hA
  have hnI : (n : Int) ≤ 1048576 := by omega
  obtain ⟨i0, hi, hx⟩ := Option.map_eq_some_iff.1 Try.infoInt
  simp only [Prod.mk.injEq] at hx
  obtain ⟨hz0, hz1, hz2⟩ := hx
  go_enter Try.func117, Try.ntmps117
  go_wp2_with (first | (at_make; refine wpList_make_full _ rfl _ _ _ rfl w.heap.size 3 i0 _ 1 (by kernel_rfl) hi hz0 hz1 .i64 .i64 _ _ n rfl rfl (by simp) (by simp) (by rw [hz2]; omega) (by unfold maxLen; omega) (Nat.le_refl _) ?_; intro w1 hown hgr))
  have HM := Lib.hid (intsTo_made (R := R) hown hgr)
  clear hown hgr hi hz0 hz1 hz2
  go_loopw [4] (fun iv wr => ∃ k : Nat, k ≤ n ∧ iv = .int .i64 k ∧ Hid (IntsTo w wr w.heap.size n k R)) (fun iv _ => n - (intOf iv).toNat)
  case atStart => exact ⟨0, Nat.zero_le _, rfl, HM.out⟩
  case round =>
    obtain ⟨k, hk, rfl, HR⟩ := hrel
    by_cases hlt : k < n
    · have hkI : (k : Int) < (n : Int) := by omega
      rcases HA.out.below (HR.out.1) with h0 | ⟨x, rfl, hxb, hrow⟩
      · omega
      · have c0 := hrow k hlt
        clear hrow
        obtain ⟨⟨v0, e0⟩, f0⟩ := HR.out.2.2.1.2 k hlt
        have HP := Lib.hid (HR.out.put hlt)
        go_wp2
        go_roundw
        case rel => exact ⟨k + 1, by omega, by go_num, HP.out⟩
        case measure => simp [intOf]; omega
    · obtain rfl : k = n := by omega
      have hsd : decide ((k : Int) < (k : Int)) = false := decide_eq_false (by omega)
      go_wp2
      go_ret
      exact ⟨rfl, HR.out.rep, HR.out.1⟩
end Go.Proofs.Ytcfcohnkkgickaa
