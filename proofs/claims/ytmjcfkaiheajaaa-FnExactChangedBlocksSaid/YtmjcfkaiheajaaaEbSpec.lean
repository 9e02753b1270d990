/-
  The walk over the model's EqualBlocks.
-/
import Derived.Test.YtmjcfkaiheajaaaRows
import Derived.Test.YtmjcfkaiheajaaaBkLaw
import Derived.WalkKit
import Derived.WalkSpells
import Derived.WalkLawsBesides
import Derived.IntWalk
import Derived.Lib.Hide
import Derived.Deep.QuietTactic
import Derived.BigQuiet
namespace Go.Proofs.Ytmjcfkaiheajaaa
open Go.RowKit Num

/-- Whether two blocks are the same. -/
def EqBlk (id id' : Int) (n n' : Nat) (R R' : Nat → Rw) : Prop := id = id' ∧ n = n' ∧ ∀ k, k < n → R k = R' k
def EbPost (id id' : Int) (n n' : Nat) (R R' : Nat → Rw) (w : World) (e : Ending) (w' : World) : Prop := ∃ v : Bool, (v = true ↔ EqBlk id id' n n' R R') ∧ e = .returned (.bool v) ∧ Below w.heap.size w w'
theorem EbPost.no {id id' : Int} {n n' : Nat} {R R' : Nat → Rw} {w w' : World} (h : ¬ EqBlk id id' n n' R R') (hb : Below w.heap.size w w') : EbPost id id' n n' R R' w (.returned (.bool false)) w' := ⟨false, ⟨(fun h9 => by cases h9), fun k => absurd k h⟩, rfl, hb⟩
theorem EbPost.yes {id id' : Int} {n n' : Nat} {R R' : Nat → Rw} {w w' : World} (h : EqBlk id id' n n' R R') (hb : Below w.heap.size w w') : EbPost id id' n n' R R' w (.returned (.bool true)) w' := ⟨true, ⟨fun _ => h, fun _ => rfl⟩, rfl, hb⟩
theorem eb_iff {id id' : Int} {n n' : Nat} {R R' : Nat → Rw} {v v' : Bool} (h : v = true ↔ EqBlk id id' n n' R R') (h' : v' = true ↔ EqBlk id id' n n' R R') : v = v' := by
  cases v <;> cases v'
  · rfl
  · exact absurd (h.2 (h'.1 rfl)) (by simp)
  · exact absurd (h'.2 (h.1 rfl)) (by simp)
  · rfl

set_option maxRecDepth 8000 in
set_option maxHeartbeats 6400000 in
theorem spec_ebV (id id' : Int) (ao bo : Option Addr) (n n' c c' : Nat) (R R' : Nat → Rw) (w : World) (hn : n ≤ 1048576) (hn' : n' ≤ 1048576) (hG : RowsVal w ao n R) (hH : RowsVal w bo n' R') :
    Calls Try.prog 67 #[.agg #[.int .i64 id, .slice ao n c], .agg #[.int .i64 id', .slice bo n' c']] w (EbPost id id' n n' R R' w) := by
  have HG := Lib.hid hG
  have HH := Lib.hid hH
  clear hG hH
  have hnI : (n : Int) ≤ 1048576 := by omega
  have hnI' : (n' : Int) ≤ 1048576 := by omega
  by_cases hid : id = id'
  · by_cases hnn : n = n'
    · subst hid hnn
      go_enter Try.func67, Try.ntmps67
      go_wp2_with fail
      have K0 := ((Kept.start w).alloc2 (.int .i64 id) (.slice ao n c) 67 _ rfl).alloc2 (.int .i64 id) (.slice bo n c') 67 (w.heap.size + 1) (by simp)
      go_loopw [5] (fun iv wr => ∃ k : Nat, k ≤ n ∧ iv = .int .i64 k ∧ Hid (∀ j, j < k → R j = R' j) ∧ Hid (Kept w wr [(⟨w.heap.size + 1, 0, none⟩, .int .i64 id), (⟨w.heap.size + 1, 1, none⟩, .slice bo n c'), (⟨w.heap.size, 0, none⟩, .int .i64 id), (⟨w.heap.size, 1, none⟩, .slice ao n c)])) (fun iv _ => n - (intOf iv).toNat)
      case atStart => exact ⟨0, Nat.zero_le _, rfl, (fun j hj => by omega), K0⟩
      case round =>
        obtain ⟨k, hk, rfl, HA, HK⟩ := hrel
        clear K0
        have b1 := HK.out.get 1 rfl
        have b3 := HK.out.get 3 rfl
        by_cases hlt : k < n
        · have hkI : (k : Int) < (n : Int) := by omega
          obtain ⟨g, rfl, hg, hGR⟩ : ∃ g, ao = some ⟨g, 0, none⟩ ∧ g < w.heap.size ∧ ∀ k, k < n → RowIn w g k (R k) := HG.out.resolve_left (by omega)
          obtain ⟨h, rfl, hh, hHR⟩ : ∃ g, bo = some ⟨g, 0, none⟩ ∧ g < w.heap.size ∧ ∀ k, k < n → RowIn w g k (R' k) := HH.out.resolve_left (by omega)
          have KA := Lib.hid ((hGR k hlt).below HK.out.1 hg)
          have KB := Lib.hid ((hHR k hlt).below HK.out.1 hh)
          clear hGR hHR
          clear b1 b3
          by_cases h0 : (R k).i = (R' k).i
          · have q0 : ((R k).i == (R' k).i) = true := by rw [h0]; exact beq_self_eq_true _
            have H0 := Lib.hid h0
            clear h0
            by_cases h1 : (R k).g = (R' k).g
            · have q1 : ((R k).g == (R' k).g) = true := by rw [h1]; exact beq_self_eq_true _
              have H1 := Lib.hid h1
              clear h1
              by_cases h2 : (R k).y = (R' k).y
              · have q2 : ((R k).y == (R' k).y) = true := by rw [h2]; exact beq_self_eq_true _
                have H2 := Lib.hid h2
                clear h2
                by_cases h3 : (R k).x = (R' k).x
                · have q3 : ((R k).x == (R' k).x) = true := by rw [h3]; exact beq_self_eq_true _
                  have H3 := Lib.hid h3
                  clear h3
                  by_cases h4 : (R k).nl = (R' k).nl
                  · have q4 : ((R k).nl == (R' k).nl) = true := by rw [h4]; exact beq_self_eq_true _
                    have H4 := Lib.hid h4
                    clear h4
                    have HE := Lib.hid (show ∀ j, j < k + 1 → R j = R' j from fun j hj => by
                      by_cases e : j < k
                      · exact HA.out j e
                      · obtain rfl : j = k := by omega
                        exact Rw.ext' H0.out H1.out H2.out H3.out H4.out)
                    have b1 := HK.out.get 1 rfl
                    have b3 := HK.out.get 3 rfl
                    obtain ⟨c0, c1, c2, c3, c4⟩ := KA.out
                    obtain ⟨d0, d1, d2, d3, d4⟩ := KB.out
                    go_wp2_with fail
                    go_quiet (fail)
                    go_wp2
                    go_roundw
                    case rel => exact ⟨k + 1, by omega, by go_num, HE.out, HK.out.step (below_drewN (Below.refl _ _) _)⟩
                    case measure => simp [intOf]; omega
                  · have q4 : ((R k).nl == (R' k).nl) = false := beq_eq_false_iff_ne.2 h4
                    have NO := Lib.hid (show ¬ EqBlk id id n n R R' from fun e => h4 (by rw [e.2.2 k hlt]))
                    clear h4
                    have b1 := HK.out.get 1 rfl
                    have b3 := HK.out.get 3 rfl
                    obtain ⟨c0, c1, c2, c3, c4⟩ := KA.out
                    obtain ⟨d0, d1, d2, d3, d4⟩ := KB.out
                    go_wp2_with fail
                    go_quiet (fail)
                    go_wp2
                    go_ret
                    exact EbPost.no NO.out (below_drewN HK.out.1 _)
                · have q3 : ((R k).x == (R' k).x) = false := beq_eq_false_iff_ne.2 h3
                  have NO := Lib.hid (show ¬ EqBlk id id n n R R' from fun e => h3 (by rw [e.2.2 k hlt]))
                  clear h3
                  have b1 := HK.out.get 1 rfl
                  have b3 := HK.out.get 3 rfl
                  obtain ⟨c0, c1, c2, c3, c4⟩ := KA.out
                  obtain ⟨d0, d1, d2, d3, d4⟩ := KB.out
                  go_wp2_with fail
                  go_quiet (fail)
                  go_wp2
                  go_ret
                  exact EbPost.no NO.out (below_drewN HK.out.1 _)
              · have q2 : ((R k).y == (R' k).y) = false := beq_eq_false_iff_ne.2 h2
                have NO := Lib.hid (show ¬ EqBlk id id n n R R' from fun e => h2 (by rw [e.2.2 k hlt]))
                clear h2
                have b1 := HK.out.get 1 rfl
                have b3 := HK.out.get 3 rfl
                obtain ⟨c0, c1, c2, c3, c4⟩ := KA.out
                obtain ⟨d0, d1, d2, d3, d4⟩ := KB.out
                go_wp2_with fail
                go_quiet (fail)
                go_wp2
                go_ret
                exact EbPost.no NO.out (below_drewN HK.out.1 _)
            · have q1 : ((R k).g == (R' k).g) = false := beq_eq_false_iff_ne.2 h1
              have NO := Lib.hid (show ¬ EqBlk id id n n R R' from fun e => h1 (by rw [e.2.2 k hlt]))
              clear h1
              have b1 := HK.out.get 1 rfl
              have b3 := HK.out.get 3 rfl
              obtain ⟨c0, c1, c2, c3, c4⟩ := KA.out
              obtain ⟨d0, d1, d2, d3, d4⟩ := KB.out
              go_wp2_with fail
              go_quiet (fail)
              go_wp2
              go_ret
              exact EbPost.no NO.out (below_drewN HK.out.1 _)
          · have q0 : ((R k).i == (R' k).i) = false := beq_eq_false_iff_ne.2 h0
            have NO := Lib.hid (show ¬ EqBlk id id n n R R' from fun e => h0 (by rw [e.2.2 k hlt]))
            clear h0
            have b1 := HK.out.get 1 rfl
            have b3 := HK.out.get 3 rfl
            obtain ⟨c0, c1, c2, c3, c4⟩ := KA.out
            obtain ⟨d0, d1, d2, d3, d4⟩ := KB.out
            go_wp2_with fail
            go_quiet (fail)
            go_wp2
            go_ret
            exact EbPost.no NO.out (below_drewN HK.out.1 _)
        · obtain rfl : k = n := by omega
          have hsd : decide ((k : Int) < (k : Int)) = false := decide_eq_false (by omega)
          have YES := Lib.hid (show EqBlk id id k k R R' from ⟨rfl, rfl, HA.out⟩)
          go_wp2
          go_ret
          exact EbPost.yes YES.out HK.out.1
    · have q : ((n : Int) != (n' : Int)) = true := bne_iff_ne.2 (by omega)
      have NO := Lib.hid (show ¬ EqBlk id id' n n' R R' from fun e => hnn e.2.1)
      have HN := Lib.hid hnn
      clear hnn
      subst hid
      go_enter Try.func67, Try.ntmps67
      go_wp2_with fail
      have K0 := ((Kept.start w).alloc2 (.int .i64 id) (.slice ao n c) 67 _ rfl).alloc2 (.int .i64 id) (.slice bo n' c') 67 (w.heap.size + 1) (by simp)
      go_wp2
      go_ret
      exact EbPost.no NO.out K0.1
  · have q : (id != id') = true := bne_iff_ne.2 hid
    have NO := Lib.hid (show ¬ EqBlk id id' n n' R R' from fun e => hid e.1)
    have HI := Lib.hid hid
    clear hid
    go_enter Try.func67, Try.ntmps67
    go_wp2_with fail
    have K0 := ((Kept.start w).alloc2 (.int .i64 id) (.slice ao n c) 67 _ rfl).alloc2 (.int .i64 id') (.slice bo n' c') 67 (w.heap.size + 1) (by simp)
    go_wp2
    go_ret
    exact EbPost.no NO.out K0.1

theorem spec_eb (id id' : Int) (g h n n' c c' : Nat) (R R' : Nat → Rw) (w : World) (hn : n ≤ 1048576) (hn' : n' ≤ 1048576) (hg : g < w.heap.size) (hh : h < w.heap.size) (hG : ∀ k, k < n → RowIn w g k (R k)) (hH : ∀ k, k < n' → RowIn w h k (R' k)) :
    Calls Try.prog 67 #[.agg #[.int .i64 id, .slice (some ⟨g, 0, none⟩) n c], .agg #[.int .i64 id', .slice (some ⟨h, 0, none⟩) n' c']] w (EbPost id id' n n' R R' w) :=
  spec_ebV id id' _ _ n n' c c' R R' w hn hn' (.inr ⟨g, rfl, hg, hG⟩) (.inr ⟨h, rfl, hh, hH⟩)
end Go.Proofs.Ytmjcfkaiheajaaa
