/-
  The walks over slices.Equal at rows and over the project's EqualBlocks.
-/
import Derived.Test.YtmjcfkaiheajaaaRows
import Derived.Test.YtmjcfkaiheajaaaEbSpec
import Derived.Deep.QuietTactic
import Derived.BigQuiet
namespace Go.Proofs.Ytmjcfkaiheajaaa
open Go.RowKit Num

/-- Whether two lists of rows are the same. -/
def EqRs (n n' : Nat) (R R' : Nat → Rw) : Prop := n = n' ∧ ∀ k, k < n → R k = R' k
def ErPost (n n' : Nat) (R R' : Nat → Rw) (w : World) (e : Ending) (w' : World) : Prop := ∃ v : Bool, (v = true ↔ EqRs n n' R R') ∧ e = .returned (.bool v) ∧ Below w.heap.size w w'
theorem ErPost.no {n n' : Nat} {R R' : Nat → Rw} {w w' : World} (h : ¬ EqRs n n' R R') (hb : Below w.heap.size w w') : ErPost n n' R R' w (.returned (.bool false)) w' := ⟨false, ⟨(fun h9 => by cases h9), fun k => absurd k h⟩, rfl, hb⟩
theorem ErPost.yes {n n' : Nat} {R R' : Nat → Rw} {w w' : World} (h : EqRs n n' R R') (hb : Below w.heap.size w w') : ErPost n n' R R' w (.returned (.bool true)) w' := ⟨true, ⟨fun _ => h, fun _ => rfl⟩, rfl, hb⟩

set_option maxRecDepth 8000 in
set_option maxHeartbeats 6400000 in
theorem rows_equal (ao bo : Option Addr) (n n' c c' : Nat) (R R' : Nat → Rw) (w : World) (hn : n ≤ 1048576) (hn' : n' ≤ 1048576) (hG : RowsVal w ao n R) (hH : RowsVal w bo n' R') :
    Calls Try.prog 88 #[.slice ao n c, .slice bo n' c'] w (ErPost n n' R R' w) := by
  have HG := Lib.hid hG
  have HH := Lib.hid hH
  clear hG hH
  have hnI : (n : Int) ≤ 1048576 := by omega
  have hnI' : (n' : Int) ≤ 1048576 := by omega
  by_cases hnn : n = n'
  · subst hnn
    have q : ((n : Int) != (n : Int)) = false := bne_self_eq_false _
    go_enter Try.func88, Try.ntmps88
    go_wp2_with fail
    go_loopw [13] (fun iv wr => ∃ k : Nat, k ≤ n ∧ iv = .int .i64 k ∧ Hid (∀ j, j < k → R j = R' j) ∧ Hid (Below w.heap.size w wr)) (fun iv _ => n - (intOf iv).toNat)
    case atStart => exact ⟨0, Nat.zero_le _, rfl, (fun j hj => by omega), Below.refl _ _⟩
    case round =>
      obtain ⟨k, hk, rfl, HA, HK⟩ := hrel
      by_cases hlt : k < n
      · have hkI : (k : Int) < (n : Int) := by omega
        obtain ⟨g, rfl, hg, hGR⟩ : ∃ g, ao = some ⟨g, 0, none⟩ ∧ g < w.heap.size ∧ ∀ k, k < n → RowIn w g k (R k) := HG.out.resolve_left (by omega)
        obtain ⟨h, rfl, hh, hHR⟩ : ∃ g, bo = some ⟨g, 0, none⟩ ∧ g < w.heap.size ∧ ∀ k, k < n → RowIn w g k (R' k) := HH.out.resolve_left (by omega)
        have KA := Lib.hid ((hGR k hlt).below HK.out hg)
        have KB := Lib.hid ((hHR k hlt).below HK.out hh)
        clear hGR hHR
        by_cases h0 : (R k).i = (R' k).i
        · have q0 : ((R k).i == (R' k).i) = true := by rw [h0]; exact beq_self_eq_true _
          have H0 := Lib.hid h0
          clear h0
          by_cases h1 : (R k).g = (R' k).g
          · have q1 : ((R k).g == (R' k).g) = true := by rw [h1]; exact beq_self_eq_true _
            have H1 := Lib.hid h1
            clear h1
            by_cases h2 : (R k).y = (R' k).y
            · have q2 : ((R k).y == (R' k).y) = true := by rw [h2]; exact beq_self_eq_true _
              have H2 := Lib.hid h2
              clear h2
              by_cases h3 : (R k).x = (R' k).x
              · have q3 : ((R k).x == (R' k).x) = true := by rw [h3]; exact beq_self_eq_true _
                have H3 := Lib.hid h3
                clear h3
                by_cases h4 : (R k).nl = (R' k).nl
                · have q4 : ((R k).nl == (R' k).nl) = true := by rw [h4]; exact beq_self_eq_true _
                  have H4 := Lib.hid h4
                  clear h4
                  have HE := Lib.hid (show ∀ j, j < k + 1 → R j = R' j from fun j hj => by
                    by_cases e : j < k
                    · exact HA.out j e
                    · obtain rfl : j = k := by omega
                      exact Rw.ext' H0.out H1.out H2.out H3.out H4.out)
                  obtain ⟨c0, c1, c2, c3, c4⟩ := KA.out
                  obtain ⟨d0, d1, d2, d3, d4⟩ := KB.out
                  go_wp2_with fail
                  go_quiet (fail)
                  go_wp2
                  go_roundw
                  case rel => exact ⟨k + 1, by omega, by go_num, HE.out, below_drewN HK.out _⟩
                  case measure => simp [intOf]; omega
                · have q4 : ((R k).nl == (R' k).nl) = false := beq_eq_false_iff_ne.2 h4
                  have NO := Lib.hid (show ¬ EqRs n n R R' from fun e => h4 (by rw [e.2 k hlt]))
                  clear h4
                  obtain ⟨c0, c1, c2, c3, c4⟩ := KA.out
                  obtain ⟨d0, d1, d2, d3, d4⟩ := KB.out
                  go_wp2_with fail
                  go_quiet (fail)
                  go_wp2
                  go_ret
                  exact ErPost.no NO.out (below_drewN HK.out _)
              · have q3 : ((R k).x == (R' k).x) = false := beq_eq_false_iff_ne.2 h3
                have NO := Lib.hid (show ¬ EqRs n n R R' from fun e => h3 (by rw [e.2 k hlt]))
                clear h3
                obtain ⟨c0, c1, c2, c3, c4⟩ := KA.out
                obtain ⟨d0, d1, d2, d3, d4⟩ := KB.out
                go_wp2_with fail
                go_quiet (fail)
                go_wp2
                go_ret
                exact ErPost.no NO.out (below_drewN HK.out _)
            · have q2 : ((R k).y == (R' k).y) = false := beq_eq_false_iff_ne.2 h2
              have NO := Lib.hid (show ¬ EqRs n n R R' from fun e => h2 (by rw [e.2 k hlt]))
              clear h2
              obtain ⟨c0, c1, c2, c3, c4⟩ := KA.out
              obtain ⟨d0, d1, d2, d3, d4⟩ := KB.out
              go_wp2_with fail
              go_quiet (fail)
              go_wp2
              go_ret
              exact ErPost.no NO.out (below_drewN HK.out _)
          · have q1 : ((R k).g == (R' k).g) = false := beq_eq_false_iff_ne.2 h1
            have NO := Lib.hid (show ¬ EqRs n n R R' from fun e => h1 (by rw [e.2 k hlt]))
            clear h1
            obtain ⟨c0, c1, c2, c3, c4⟩ := KA.out
            obtain ⟨d0, d1, d2, d3, d4⟩ := KB.out
            go_wp2_with fail
            go_quiet (fail)
            go_wp2
            go_ret
            exact ErPost.no NO.out (below_drewN HK.out _)
        · have q0 : ((R k).i == (R' k).i) = false := beq_eq_false_iff_ne.2 h0
          have NO := Lib.hid (show ¬ EqRs n n R R' from fun e => h0 (by rw [e.2 k hlt]))
          clear h0
          obtain ⟨c0, c1, c2, c3, c4⟩ := KA.out
          obtain ⟨d0, d1, d2, d3, d4⟩ := KB.out
          go_wp2_with fail
          go_quiet (fail)
          go_wp2
          go_ret
          exact ErPost.no NO.out (below_drewN HK.out _)
      · obtain rfl : k = n := by omega
        have hsd : decide ((k : Int) < (k : Int)) = false := decide_eq_false (by omega)
        have YES := Lib.hid (show EqRs k k R R' from ⟨rfl, HA.out⟩)
        go_wp2
        go_ret
        exact ErPost.yes YES.out HK.out
  · have q : ((n : Int) != (n' : Int)) = true := bne_iff_ne.2 (by omega)
    have NO := Lib.hid (show ¬ EqRs n n' R R' from fun e => hnn e.1)
    have HN := Lib.hid hnn
    clear hnn
    go_enter Try.func88, Try.ntmps88
    go_wp2
    go_ret
    exact ErPost.no NO.out (Below.refl _ _)

set_option maxRecDepth 8000 in
set_option maxHeartbeats 6400000 in
theorem impl_ebV (id id' : Int) (ao bo : Option Addr) (n n' c c' : Nat) (R R' : Nat → Rw) (w : World) (hn : n ≤ 1048576) (hn' : n' ≤ 1048576) (hG : RowsVal w ao n R) (hH : RowsVal w bo n' R') :
    Calls Try.prog 69 #[.agg #[.int .i64 id, .slice ao n c], .agg #[.int .i64 id', .slice bo n' c']] w (EbPost id id' n n' R R' w) := by
  have HG := Lib.hid hG
  have HH := Lib.hid hH
  clear hG hH
  by_cases hid : id = id'
  · subst hid
    have q : (id == id) = true := beq_self_eq_true _
    go_enter Try.func69, Try.ntmps69
    go_wp2_with fail
    have K0 := ((Kept.start w).alloc2 (.int .i64 id) (.slice ao n c) 67 _ rfl).alloc2 (.int .i64 id) (.slice bo n' c') 67 (w.heap.size + 1) (by simp)
    refine (rows_equal ao bo n n' c c' R R' _ hn hn' (HG.out.below K0.1) (HH.out.below K0.1)).mono ?_
    rintro e w1 ⟨v, hv, rfl, hb⟩
    have HV := Lib.hid (show v = true ↔ EqBlk id id n n' R R' from ⟨(fun h => ⟨rfl, hv.1 h⟩), fun h => hv.2 h.2⟩)
    have K1 := K0.step hb
    clear hv hb K0
    cases v
    · have NO := Lib.hid (show ¬ EqBlk id id n n' R R' from fun e => absurd (HV.out.2 e) (by simp))
      clear HV
      go_wp2
      go_ret
      exact EbPost.no NO.out K1.1
    · have YES := Lib.hid (HV.out.1 rfl)
      clear HV
      go_wp2
      go_ret
      exact EbPost.yes YES.out K1.1
  · have q : (id == id') = false := beq_eq_false_iff_ne.2 hid
    have NO := Lib.hid (show ¬ EqBlk id id' n n' R R' from fun e => hid e.1)
    have HI := Lib.hid hid
    clear hid
    go_enter Try.func69, Try.ntmps69
    go_wp2_with fail
    have K0 := ((Kept.start w).alloc2 (.int .i64 id) (.slice ao n c) 67 _ rfl).alloc2 (.int .i64 id') (.slice bo n' c') 67 (w.heap.size + 1) (by simp)
    go_wp2
    go_ret
    exact EbPost.no NO.out K0.1

theorem impl_eb (id id' : Int) (g h n n' c c' : Nat) (R R' : Nat → Rw) (w : World) (hn : n ≤ 1048576) (hn' : n' ≤ 1048576) (hg : g < w.heap.size) (hh : h < w.heap.size) (hG : ∀ k, k < n → RowIn w g k (R k)) (hH : ∀ k, k < n' → RowIn w h k (R' k)) :
    Calls Try.prog 69 #[.agg #[.int .i64 id, .slice (some ⟨g, 0, none⟩) n c], .agg #[.int .i64 id', .slice (some ⟨h, 0, none⟩) n' c']] w (EbPost id id' n n' R R' w) :=
  impl_ebV id id' _ _ n n' c c' R R' w hn hn' (.inr ⟨g, rfl, hg, hG⟩) (.inr ⟨h, rfl, hh, hH⟩)
end Go.Proofs.Ytmjcfkaiheajaaa
