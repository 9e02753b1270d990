/-
  The walk over the project's areUnique: a range over the map of slices.
-/
import Derived.Test.YtcfcohnkkgickaaRows
import Derived.Test.YtcfcohnkkgickaaMgB
import Derived.Maps.RangeWalk
namespace Go.Proofs.Ytcfcohnkkgickaa
open Go.RowKit Num Go.Maps

/-- A slice that is owned has as many elements as it owns numbers. -/
theorem ints_len {w : World} {base : Nat} {e : TypeId} {q : IntKind} {ao : Option Addr} {n c : Nat} {zs : List Int} (h : w.ownsInts base e q (.slice ao n c) zs) : n = zs.length := by
  rcases h.1.2 with ⟨hv, h0⟩ | ⟨g, cap, cur, hv, _⟩
  · simp only [Value.slice.injEq] at hv
    obtain ⟨_, rfl, _⟩ := hv
    exact h0.symm
  · simp only [Value.slice.injEq] at hv
    exact hv.2.1
theorem ints_slice {w : World} {base : Nat} {e : TypeId} {q : IntKind} {v : Value} {zs : List Int} (h : w.ownsInts base e q v zs) : ∃ p : Option Addr × Nat × Nat, v = .slice p.1 p.2.1 p.2.2 := by
  rcases h.1.2 with ⟨rfl, _⟩ | ⟨g, cap, cur, rfl, _⟩
  · exact ⟨(none, 0, 0), rfl⟩
  · exact ⟨(_, _, _), rfl⟩

/-- The step of a range over such a map. -/
theorem next_groups {ops : Array Oper} {rest : List Oper} {o : Oper} {a : Act} {Q : Exit → Act → World → Prop} (w w0 : World) (hg : o.guard = none) (it : Operand) (hop : o.op = Op.next it false) (base b r n : Nat) (D : DataW Unit) (left : Lit → Bool) (cnt : Nat)
    (hit : a.eval it = .pointer (some ⟨r, 0, none⟩)) (h : w.ranges Try.prog 3 (rowElem w0 base 3 .i64) b r n D left cnt)
    (hDone : cnt = 0 → (∀ kl, left kl = false) → wpList Try.prog ops Q rest (a.put o.dst (.tuple #[.bool false])) w)
    (hMore : ∀ (x : Int) (ao : Option Addr) (n9 c : Nat) (zs : List Int) (w' : World) (cnt' : Nat), left (.int .i64 x) = true → w0.ownsInts base 3 .i64 (.slice ao n9 c) zs → (∀ zd, D.atKey (.int .i64 x) zd = rowDatum .i64 (.slice ao n9 c) zs) →
      w'.ranges Try.prog 3 (rowElem w0 base 3 .i64) b r n D (fun z => left z && !z.sameKey (.int .i64 x)) cnt' → cnt' < cnt → w.grownBy w' (some r) →
      (Instr.entry (.pointer (some ⟨r, 0, none⟩))).run Try.prog w' = .ok (.tuple #[.int .i64 x, .slice ao n9 c]) w' → wpList Try.prog ops Q rest (a.put o.dst (.tuple #[.bool true, .int .i64 x, .slice ao n9 c])) w') :
    wpList Try.prog ops Q (o :: rest) a w :=
  wpList_next_ranges w hg it hop 3 mapLaw (rowElem w0 base 3 .i64) (Value.int .i64) (fun p : Option Addr × Nat × Nat => Value.slice p.1 p.2.1 p.2.2) (fun key kl hkey => by obtain ⟨x, rfl, _⟩ := Maps.keyOf_int_inv Try.underlying3 hkey; exact ⟨x, rfl⟩)
    (fun v y hv => by obtain ⟨zs, ho, _⟩ := rowElem_inv hv; exact ints_slice ho) b r n D left cnt hit h hDone (fun x c kl y w' cnt' hkey hlk hv hat hrg hlt hgr hsz hen => by
      obtain ⟨x', ex, rfl, _⟩ := Maps.keyOf_int_inv Try.underlying3 hkey
      cases ex
      obtain ⟨zs, ho, rfl⟩ := rowElem_inv hv
      exact hMore x c.1 c.2.1 c.2.2 zs w' cnt' hlk ho hat hrg hlt hgr hen)

/-- What areUnique answers. -/
def AuPost (ps : List (Int × Int)) (w : World) (e : Ending) (w' : World) : Prop := ∃ v : Bool, (v = true ↔ ∀ x, (sel ps x).length ≤ 1) ∧ e = .returned (.bool v) ∧ Below w.heap.size w w'

set_option maxRecDepth 8000 in
set_option maxHeartbeats 6400000 in
theorem impl_au (b m : Nat) (D : DataW Unit) (ps : List (Int × Int)) (w : World) (hm : m < maxLen) (hown : w.ownsGroups Try.prog 3 (b + 1) 3 .i64 b m D) (hD : GrpAt D ps) :
    Calls Try.prog 133 #[.map (some b)] w (AuPost ps w) := by
  have hmap : w.ownsMap Try.prog 3 (rowElem w (b + 1) 3 .i64) b m D := by
    obtain ⟨es, clock, h1, h2, h3, h4, _⟩ := hown
    exact ⟨es, clock, h1, h2, h3, h4⟩
  have HD := Lib.hid hD
  have hzl : ∀ x v zs, D.atKey (.int .i64 x) .nil = rowDatum .i64 v zs → w.ownsInts (b + 1) 3 .i64 v zs → zs = sel ps x := fun x v zs h1 h2 => hD.read h2 h1
  have HZ := Lib.hid hzl
  have HPN := Lib.hid (show ∀ x, has D (.int .i64 x) = false → sel ps x = [] from fun x h => Classical.byContradiction fun hc => by
    have h1 := (hD.2 x).2 hc
    have h2 := atKey_of_not_has h
    have h3 := (h1 .nil).symm.trans (h2 .nil)
    cases h3)
  clear hown hD hzl
  go_enter Try.func133, Try.ntmps133
  go_wp2_with (first
    | (at_range; refine wpList_range_own _ rfl _ 158 rfl 3 45 mapLaw mapT _ b m D rfl hmap ?_; intro w0 hrg0 hg0 hs0)
    | go_in)
  go_frame
  go_loopw [4] (fun _ wr => ∃ (left : Lit → Bool) (cnt : Nat), wr.ranges Try.prog 3 (rowElem w (b + 1) 3 .i64) b w.heap.size m D left cnt ∧ Hid (Below w.heap.size w wr) ∧ Hid (∀ x, has D (.int .i64 x) = true → left (.int .i64 x) = false → (sel ps x).length ≤ 1)) (fun _ wr => wr.rangeLeft b w.heap.size)
  case atStart => exact ⟨_, _, hrg0, Lib.hid ((Below.refl _ _).grown hg0 (Nat.le_refl _) (fun j hj => by cases hj)), Lib.hid (fun x h1 h2 => by rw [h1] at h2; cases h2)⟩
  case round =>
    obtain ⟨left, cnt, hrg, HB, HA⟩ := hrel
    clear hrg0 hg0 hs0 hmap
    go_wp2_with (first
      | (at_next; refine next_groups _ w rfl _ rfl (b + 1) b w.heap.size m D _ _ rfl hrg ?_ ?_)
      | go_in)
    · intro _ hl0
      have YE := Lib.hid (show ∀ x, (sel ps x).length ≤ 1 from fun x => by
        cases hh : has D (.int .i64 x)
        · rw [HPN.out x hh]; exact Nat.zero_le _
        · exact HA.out x hh (hl0 _))
      clear hl0
      go_wp2
      go_ret
      exact ⟨true, ⟨fun _ => YE.out, fun _ => rfl⟩, rfl, HB.out⟩
    · intro x a9 n9 c9 zs w1 cnt1 hlx ho hat hrg1 hlt hg1 hen
      have hn9 := ints_len ho
      have hzs := HZ.out x _ zs (hat .nil) ho
      have hB1 := HB.out.grown hg1 HB.out.size (fun j hj => by cases hj; exact Nat.le_refl _)
      have HB1 := Lib.hid hB1
      by_cases h1 : 1 < n9
      · have h1I : (1 : Int) < (n9 : Int) := by omega
        have NO := Lib.hid (show ¬ ∀ x, (sel ps x).length ≤ 1 from fun h => by have := h x; rw [← hzs, ← hn9] at this; omega)
        clear hat ho hzs hB1
        go_wp2
        go_ret
        exact ⟨false, ⟨(fun h9 => by cases h9), fun k => absurd k NO.out⟩, rfl, HB1.out⟩
      · have h1d : decide ((1 : Int) < (n9 : Int)) = false := decide_eq_false (by omega)
        have HA1 := Lib.hid (show ∀ y, has D (.int .i64 y) = true → (left (.int .i64 y) && !(Lit.int .i64 y).sameKey (.int .i64 x)) = false → (sel ps y).length ≤ 1 from fun y h2 h3 => by
          by_cases e : y = x
          · subst e; rw [← hzs, ← hn9]; omega
          · have hk : (Lit.int .i64 y).sameKey (.int .i64 x) = false := sameKey_ne (fun h => e (by cases h; rfl))
            rw [hk] at h3
            exact HA.out y h2 (by simpa using h3))
        clear hat ho hzs hB1
        go_wp2
        go_roundw
        case rel => exact ⟨_, cnt1, hrg1, HB1, HA1⟩
        case measure => rw [hrg1.left_eq, hrg.left_eq]; exact hlt
end Go.Proofs.Ytcfcohnkkgickaa
