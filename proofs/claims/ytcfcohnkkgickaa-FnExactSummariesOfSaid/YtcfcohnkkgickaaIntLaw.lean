/-
  The walks over the laws' comparing, marking and reading of slices of ints.
-/
import Derived.Test.YtcfcohnkkgickaaRows
import Derived.Test.YtcfcohnkkgickaaIntOwn
import Derived.Deep.QuietTactic
import Derived.BigQuiet
namespace Go.Proofs.Ytcfcohnkkgickaa
open Go.RowKit Num

theorem IntsVal.head {w : World} {ao : Option Addr} {l : List Int} (h : IntsVal w ao l) (hn : 0 < l.length) : ∃ g, ao = some ⟨g, 0, none⟩ ∧ g < w.heap.size ∧ ∀ k (hk : k < l.length), w.cell? ⟨g, k, none⟩ = some (.int .i64 l[k]) := by
  rcases h with h | h
  · omega
  · exact h

set_option maxRecDepth 8000 in
set_option maxHeartbeats 3200000 in
/-- Two slices of the same ints. -/
theorem law_eqIs (ao bo : Option Addr) (n c c' : Nat) (l : List Int) (w : World) (hl : l.length = n) (hn : n ≤ 1099511627776) (hG : IntsVal w ao l) (hH : IntsVal w bo l) :
    Calls Try.prog 25 #[.slice ao n c, .slice bo n c'] w fun e w' => e = .returned (.bool true) ∧ Below w.heap.size w w' := by
  have HG := Lib.hid hG
  have HH := Lib.hid hH
  have HL := Lib.hid hl
  clear hG hH hl
  have hnI : (n : Int) ≤ 1099511627776 := by omega
  go_enter Try.func25, Try.ntmps25
  go_wp2_with fail
  go_loopw [5] (fun iv wr => ∃ k : Nat, k ≤ n ∧ iv = .int .i64 k ∧ Hid (Below w.heap.size w wr)) (fun iv _ => n - (intOf iv).toNat)
  case atStart => exact ⟨0, Nat.zero_le _, rfl, Below.refl _ _⟩
  case round =>
    obtain ⟨k, hk, rfl, HB⟩ := hrel
    by_cases hlt : k < n
    · have hkI : (k : Int) < (n : Int) := by omega
      obtain ⟨g, rfl, hg, hR⟩ := (HG.out.below HB.out).head (by rw [HL.out]; omega)
      obtain ⟨g', rfl, hg', hR'⟩ := (HH.out.below HB.out).head (by rw [HL.out]; omega)
      have c0 := hR k (by rw [HL.out]; exact hlt)
      have c1 := hR' k (by rw [HL.out]; exact hlt)
      obtain ⟨x, hx⟩ : ∃ x, x = l[k]'(by rw [HL.out]; exact hlt) := ⟨_, rfl⟩
      rw [← hx] at c0 c1
      clear hR hR' hx
      have q : (x == x) = true := beq_self_eq_true x
      go_wp2_with fail
      go_quiet (fail)
      go_wp2
      go_roundw
      case rel => exact ⟨k + 1, by omega, by go_num, HB.out.trans ((below_drewN (Below.refl _ _) _).mono HB.out.size)⟩
      case measure => simp [intOf]; omega
    · obtain rfl : k = n := by omega
      have hsd : decide ((k : Int) < (k : Int)) = false := decide_eq_false (by omega)
      go_wp2
      go_ret
      exact ⟨rfl, HB.out⟩

/-- The ints that the laws write, from k on. -/
def markI : Int → Nat → List Int
  | _, 0 => []
  | k, n + 1 => k :: markI (k + 1) n
theorem markI_len : ∀ (n : Nat) (k : Int), (markI k n).length = n
  | 0, _ => rfl
  | n + 1, k => by show (markI (k + 1) n).length + 1 = n + 1; rw [markI_len]
theorem markI_at : ∀ (n : Nat) (k : Int) (j : Nat) (hj : j < (markI k n).length), (markI k n)[j] = k + (j : Int)
  | n + 1, k, 0, _ => by show k = k + ((0 : Nat) : Int); omega
  | n + 1, k, j + 1, hj => by
    show (markI (k + 1) n)[j]'(by simpa [markI] using hj) = _
    rw [markI_at n (k + 1) j]; omega

/-- The first k ints of block g are marked; nothing else has changed since W. -/
def MarkIs (W w : World) (g n k : Nat) (k0 : Int) : Prop := Chg [g] W w ∧ OwnBlk w g n ∧ ∀ m, m < k → w.cell? ⟨g, m, none⟩ = some (.int .i64 (k0 + (m : Int)))
theorem MarkIs.put {W w : World} {g n k : Nat} {k0 : Int} (h : MarkIs W w g n k k0) (hk : k < n) : MarkIs W (w.setCell ⟨g, k, none⟩ (.int .i64 (k0 + (k : Int)))) g n (k + 1) k0 := by
  obtain ⟨h1, h2, h3⟩ := h
  refine ⟨h1.set (by simp) _, h2.set _ _, fun m hm => ?_⟩
  by_cases e : m = k
  · subst e
    obtain ⟨⟨v, hv⟩, _⟩ := h2.2 m hk
    exact World.cell?_setCell_same (w := w) (a := ⟨g, m, none⟩) (v := .int .i64 (k0 + (m : Int))) hv
  · rw [World.cell?_setCell_other (w := w) (a := ⟨g, k, none⟩) (b := ⟨g, m, none⟩) (v := .int .i64 (k0 + (k : Int))) (fun e' => by simp only [Addr.mk.injEq, true_and, and_true] at e'; omega)]
    exact h3 m (by omega)

set_option maxRecDepth 8000 in
set_option maxHeartbeats 3200000 in
theorem law_markIs (g n cap : Nat) (k0 : Int) (w : World) (hn : n ≤ 1099511627776) (hk0 : 0 ≤ k0) (hk1 : k0 ≤ 1099511627776) (ho : OwnBlk w g n) :
    Calls Try.prog 28 #[.slice (some ⟨g, 0, none⟩) n cap, .int .i64 k0] w fun e w' => e = .returned (.int .i64 (k0 + (n : Int))) ∧ MarkIs w w' g n n k0 := by
  have HM : Hid (MarkIs w w g n 0 k0) := (⟨Chg.refl _ _, ho, fun m hm => by omega⟩ : MarkIs w w g n 0 k0)
  clear ho
  have hnI : (n : Int) ≤ 1099511627776 := by omega
  go_enter Try.func28, Try.ntmps28
  go_wp2_with fail
  go_loopw [1, 5] (fun kv iv wr => ∃ i : Nat, i ≤ n ∧ iv = .int .i64 i ∧ kv = .int .i64 (k0 + (i : Int)) ∧ Hid (MarkIs w wr g n i k0)) (fun _ iv _ => n - (intOf iv).toNat)
  case atStart => exact ⟨0, Nat.zero_le _, rfl, by simp, HM.out⟩
  case round =>
    obtain ⟨i, hi, rfl, rfl, HR⟩ := hrel
    obtain ⟨kk, hkk⟩ : ∃ kk, kk = k0 + (i : Int) := ⟨_, rfl⟩
    have b0 : 0 ≤ kk := by omega
    have b1 : kk ≤ 6597069766656 := by omega
    by_cases hlt : i < n
    · have hkI : (i : Int) < (n : Int) := by omega
      have hcell := HR.out.2.1.2
      obtain ⟨⟨v0, e0⟩, f0⟩ := hcell i (by omega)
      clear hcell
      have HP := Lib.hid (HR.out.put hlt)
      have HK := Lib.hid hkk
      rw [← hkk] at HP ⊢
      clear hkk
      go_wp2
      go_roundw
      case rel => exact ⟨i + 1, by omega, by go_num, int_eq (by have := HK.out; omega), HP.out⟩
      case measure => simp [intOf]; omega
    · obtain rfl : i = n := by omega
      have hsd : decide ((i : Int) < (i : Int)) = false := decide_eq_false (by omega)
      rw [← hkk]
      have HK := Lib.hid hkk
      clear hkk
      go_wp2
      go_ret
      exact ⟨ret_int HK.out, HR.out⟩

theorem law_markIs0 (ao : Option Addr) (cap : Nat) (k0 : Int) (w : World) :
    Calls Try.prog 28 #[.slice ao 0 cap, .int .i64 k0] w fun e w' => e = .returned (.int .i64 k0) ∧ w = w' := by
  go_enter Try.func28, Try.ntmps28
  go_wp2_with fail
  go_loop [1, 5] (fun kv iv => kv = .int .i64 k0 ∧ iv = .int .i64 0) (fun _ _ => 0)
  case atStart => exact ⟨rfl, rfl⟩
  case round =>
    obtain ⟨rfl, rfl⟩ := hrel
    have hsd : decide ((0 : Int) < 0) = false := decide_eq_false (by omega)
    go_wp2
    go_ret
    exact ⟨rfl, rfl⟩

/-- Marking a slice of ints. -/
theorem law_markI (v : Value) (l : List Int) (fp : List Nat) (k0 : Int) (w : World) (hn : l.length ≤ 1099511627776) (hk0 : 0 ≤ k0) (hk1 : k0 ≤ 1099511627776) (hv : SliceRep intTy w v l fp) :
    Calls Try.prog 28 #[v, .int .i64 k0] w fun e w' => e = .returned (.int .i64 (k0 + (l.length : Int))) ∧ Chg fp w w' ∧ SliceRep intTy w' v (markI k0 l.length) fp := by
  have h0 := hv
  rcases hv with ⟨rfl, rfl, hv⟩ | ⟨g, cap, f, rfl, hc, ho, he, rfl⟩
  · have hs : ∃ ao cap, v = .slice ao 0 cap := by
      rcases hv with rfl | ⟨g, cap, rfl⟩
      · exact ⟨_, _, rfl⟩
      · exact ⟨_, _, rfl⟩
    obtain ⟨ao, cap, rfl⟩ := hs
    exact (law_markIs0 ao cap k0 w).mono fun e w' ⟨h1, h2⟩ => by subst h2; exact ⟨by rw [h1]; exact ret_int (by simp), Chg.refl _ _, h0⟩
  · have ho' : OwnBlk w g l.length := by have : OwnBlk w g (l.length * 1) := ho; rwa [Nat.mul_one] at this
    have hf : f = [] := by
      have : ∀ {l : List Int} {k : Nat} {f : List Nat}, Elems intTy w g k l f → f = [] := fun {l} => by
        induction l with
        | nil => intro k f h; exact h
        | cons x l ih =>
          intro k f ⟨cs, f1, f2, e, _, h1, h2⟩
          rw [e, h1.2, ih h2]; rfl
      exact this he
    subst hf
    refine (law_markIs g l.length cap k0 w hn hk0 hk1 ho').mono fun e w' ⟨h1, h2, h3, h4⟩ => ⟨h1, h2, ?_⟩
    have := ints_shut (w := w') (g := g) (cap := cap) (l := markI k0 l.length) (by rw [markI_len]; exact hc) (by rw [markI_len]; exact h3) (fun k hk => by
      rw [markI_at]; exact h4 k (by rwa [markI_len] at hk))
    rwa [markI_len] at this

set_option maxRecDepth 8000 in
set_option maxHeartbeats 3200000 in
theorem law_heldIs (ao : Option Addr) (n cap : Nat) (k0 : Int) (w : World) (hn : n ≤ 1099511627776) (hk0 : 0 ≤ k0) (hk1 : k0 ≤ 1099511627776) (hV : IntsVal w ao (markI k0 n)) :
    Calls Try.prog 29 #[.slice ao n cap, .int .i64 k0] w fun e w' => e = .returned (.int .i64 (k0 + (n : Int))) ∧ Below w.heap.size w w' := by
  have HV := Lib.hid hV
  clear hV
  have hnI : (n : Int) ≤ 1099511627776 := by omega
  go_enter Try.func29, Try.ntmps29
  go_wp2_with fail
  go_loopw [1, 5] (fun kv iv wr => ∃ i : Nat, i ≤ n ∧ iv = .int .i64 i ∧ kv = .int .i64 (k0 + (i : Int)) ∧ Hid (Below w.heap.size w wr)) (fun _ iv _ => n - (intOf iv).toNat)
  case atStart => exact ⟨0, Nat.zero_le _, rfl, by simp, Below.refl _ _⟩
  case round =>
    obtain ⟨i, hi, rfl, rfl, HB⟩ := hrel
    obtain ⟨kk, hkk⟩ : ∃ kk, kk = k0 + (i : Int) := ⟨_, rfl⟩
    have b0 : 0 ≤ kk := by omega
    have b1 : kk ≤ 6597069766656 := by omega
    by_cases hlt : i < n
    · have hkI : (i : Int) < (n : Int) := by omega
      obtain ⟨g, rfl, hg, hR⟩ := (HV.out.below HB.out).head (by rw [markI_len]; omega)
      have c0 := hR i (by rw [markI_len]; exact hlt)
      rw [markI_at, ← hkk] at c0
      clear hR
      have HK := Lib.hid hkk
      rw [← hkk]
      clear hkk
      have q : (kk == kk) = true := beq_self_eq_true kk
      go_wp2_with fail
      try go_quiet (fail)
      try go_wp2
      go_roundw
      case rel => exact ⟨i + 1, by omega, by go_num, int_eq (by have := HK.out; omega), by first | exact HB.out | exact HB.out.trans ((below_drewN (Below.refl _ _) _).mono HB.out.size)⟩
      case measure => simp [intOf]; omega
    · obtain rfl : i = n := by omega
      have hsd : decide ((i : Int) < (i : Int)) = false := decide_eq_false (by omega)
      rw [← hkk]
      have HK := Lib.hid hkk
      clear hkk
      go_wp2
      go_ret
      exact ⟨ret_int HK.out, HB.out⟩

/-- Reading a marked slice of ints. -/
theorem law_heldI (v : Value) (n : Nat) (fp : List Nat) (k0 : Int) (w : World) (hn : n ≤ 1099511627776) (hk0 : 0 ≤ k0) (hk1 : k0 ≤ 1099511627776) (hv : SliceRep intTy w v (markI k0 n) fp) :
    Calls Try.prog 29 #[v, .int .i64 k0] w fun e w' => e = .returned (.int .i64 (k0 + (n : Int))) ∧ Below w.heap.size w w' := by
  obtain ⟨ao, cap, rfl, _, hV⟩ := ints_open hv
  rw [markI_len]
  exact law_heldIs ao n cap k0 w hn hk0 hk1 hV
/-- Comparing two slices of the same ints. -/
theorem law_eqI (v v' : Value) (l : List Int) (fp fp' : List Nat) (w : World) (hn : l.length ≤ 1099511627776) (h : SliceRep intTy w v l fp) (h' : SliceRep intTy w v' l fp') :
    Calls Try.prog 25 #[v, v'] w fun e w' => e = .returned (.bool true) ∧ Below w.heap.size w w' := by
  obtain ⟨ao, cap, rfl, _, hV⟩ := ints_open h
  obtain ⟨bo, cap', rfl, _, hV'⟩ := ints_open h'
  exact law_eqIs ao bo _ _ _ l w rfl hn hV hV'
end Go.Proofs.Ytcfcohnkkgickaa
