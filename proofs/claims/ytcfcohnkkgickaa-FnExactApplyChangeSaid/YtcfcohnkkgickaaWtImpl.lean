/-
  The walk over the project's insertion of a row into a list of rows.
-/
import Derived.Test.YtcfcohnkkgickaaRows
import Derived.Test.YtcfcohnkkgickaaCpImpl
import Derived.Test.YtcfcohnkkgickaaMgB
import Derived.Deep.QuietTactic
import Derived.BigQuiet
import Derived.Deep.CutBlock
import Derived.Deep.RegionHeld3
import Derived.Deep.RegionLawGrows
namespace Go.Proofs.Ytcfcohnkkgickaa
open Go.RowKit Num

theorem k5_at {W w w' : World} {a0 a1 a2 a3 a4 : Addr} {v0 v1 v2 v3 v4 : Value} {l : List (Addr × Value)} (h : Kept W w ((a0, v0) :: (a1, v1) :: (a2, v2) :: (a3, v3) :: (a4, v4) :: l)) (hb : Below w.heap.size w w') :
    w'.cell? a0 = some v0 ∧ w'.cell? a1 = some v1 ∧ w'.cell? a2 = some v2 ∧ w'.cell? a3 = some v3 ∧ w'.cell? a4 = some v4 ∧ Below w.heap.size w w' :=
  have k := h.step hb
  ⟨k.get 0 rfl, k.get 1 rfl, k.get 2 rfl, k.get 3 rfl, k.get 4 rfl, hb⟩
theorem k5_keep {W w w' w1 : World} {a0 a1 a2 a3 a4 : Addr} {v0 v1 v2 v3 v4 : Value} {l : List (Addr × Value)} (h : Kept W w ((a0, v0) :: (a1, v1) :: (a2, v2) :: (a3, v3) :: (a4, v4) :: l)) (q : w'.cell? a0 = some v0 ∧ w'.cell? a1 = some v1 ∧ w'.cell? a2 = some v2 ∧ w'.cell? a3 = some v3 ∧ w'.cell? a4 = some v4 ∧ Below w.heap.size w w') (hb : Below w'.heap.size w' w1) :
    w1.cell? a0 = some v0 ∧ w1.cell? a1 = some v1 ∧ w1.cell? a2 = some v2 ∧ w1.cell? a3 = some v3 ∧ w1.cell? a4 = some v4 ∧ Below w.heap.size w w1 := k5_at h (q.2.2.2.2.2.trans (hb.mono q.2.2.2.2.2.size))
theorem k5_b {w w' : World} {p0 p1 p2 p3 p4 : Prop} (q : p0 ∧ p1 ∧ p2 ∧ p3 ∧ p4 ∧ Below w.heap.size w w') : Below w.heap.size w w' := q.2.2.2.2.2

set_option maxRecDepth 8000 in
set_option maxHeartbeats 6400000 in
theorem impl_with (h cap : Nat) (l : List Rw) (r : Rw) (w : World) (hn : l.length ≤ 1048576) (hcap : l.length ≤ cap) (hV : RowsVal w (some ⟨h, 0, none⟩) l.length (Rn l)) :
    Calls Try.prog 166 #[.slice (some ⟨h, 0, none⟩) l.length cap, .agg #[.int .i64 r.i, .int .i64 r.g, .int .i64 r.y, .int .i64 r.x, .bool r.nl]] w (RowsOut (addL l r) w) := by
  have HV := Lib.hid hV
  clear hV
  have hnI : (l.length : Int) ≤ 1048576 := by omega
  go_enter Try.func166, Try.ntmps166
  go_upto_block 0 with fail
  have K0 := (Kept.start w).alloc5 (.int .i64 r.i) (.int .i64 r.g) (.int .i64 r.y) (.int .i64 r.x) (.bool r.nl) 36 _ rfl
  generalize (w.alloc (.cells #[.int .i64 r.i, .int .i64 r.g, .int .i64 r.y, .int .i64 r.x, .bool r.nl] 36)) = W2 at K0 ⊢
  go_cut [5] (fun kv wx => kv = .int .i64 (posL r.i l : Nat) ∧ Kept w wx [(⟨w.heap.size, 0, none⟩, .int .i64 r.i), (⟨w.heap.size, 1, none⟩, .int .i64 r.g), (⟨w.heap.size, 2, none⟩, .int .i64 r.y), (⟨w.heap.size, 3, none⟩, .int .i64 r.x), (⟨w.heap.size, 4, none⟩, .bool r.nl)])
  case first =>
    go_wp2_with fail
    go_loopw [5] (fun kv wr => ∃ k : Nat, k ≤ l.length ∧ kv = .int .i64 k ∧ Hid (∀ j, j < k → (Rn l j).i < r.i) ∧ Hid (Kept w wr [(⟨w.heap.size, 0, none⟩, .int .i64 r.i), (⟨w.heap.size, 1, none⟩, .int .i64 r.g), (⟨w.heap.size, 2, none⟩, .int .i64 r.y), (⟨w.heap.size, 3, none⟩, .int .i64 r.x), (⟨w.heap.size, 4, none⟩, .bool r.nl)])) (fun kv _ => l.length - (intOf kv).toNat)
    case atStart => exact ⟨0, Nat.zero_le _, rfl, (fun j hj => by omega), K0⟩
    case round =>
      obtain ⟨k, hk, rfl, HA, HK⟩ := hrel
      clear K0
      have r0 := HK.out.get 0 rfl
      by_cases hlt : k < l.length
      · have hkI : (k : Int) < (l.length : Int) := by omega
        have hsd : decide ((k : Int) < (l.length : Int)) = true := decide_eq_true hkI
        obtain ⟨hg, hR⟩ := rows_head HV.out (by omega)
        have c0 := ((hR k hlt).below HK.out.1 hg).1
        clear hR
        by_cases hc : (Rn l k).i < r.i
        · have hcd : decide ((Rn l k).i < r.i) = true := decide_eq_true hc
          have HN := Lib.hid (show ∀ j, j < k + 1 → (Rn l j).i < r.i from fun j hj => by
            by_cases h : j < k
            · exact HA.out j h
            · obtain rfl : j = k := by omega
              exact hc)
          have HC := Lib.hid hc
          clear hc
          go_wp2_with fail
          go_quiet (fail)
          go_wp2
          go_roundw
          case rel => exact ⟨k + 1, by omega, by go_num, HN.out, HK.out.step (below_drewN (Below.refl _ _) _)⟩
          case measure => simp [intOf]; omega
        · have hcd : decide ((Rn l k).i < r.i) = false := decide_eq_false hc
          have HE := Lib.hid (posL_unique (x := r.i) (l := l) hk HA.out (fun _ => hc))
          have HC := Lib.hid hc
          clear hc
          go_wp2_with fail
          go_quiet (fail)
          go_wp2_with fail
          go_meet
          exact ⟨by rw [← HE.out], HK.out.step (below_drewN (Below.refl _ _) _)⟩
      · obtain rfl : k = l.length := by omega
        have hsd : decide ((l.length : Int) < (l.length : Int)) = false := decide_eq_false (by omega)
        have HE := Lib.hid (posL_unique (x := r.i) (l := l) hk HA.out (fun h => absurd h (by omega)))
        go_wp2_with fail
        go_quiet (fail)
        go_wp2_with fail
        go_meet
        exact ⟨by rw [← HE.out], HK.out.step (below_drewN (Below.refl _ _) _)⟩
  case rest =>
    obtain ⟨rfl, K1⟩ := hcut
    obtain ⟨p, hp⟩ : ∃ p, p = posL r.i l := ⟨_, rfl⟩
    have HP := Lib.hid (show addL l r = l.take p ++ ([r] ++ l.drop p) by rw [hp]; rfl)
    have hpl : p ≤ l.length := by rw [hp]; exact posL_le _ _
    rw [← hp]
    clear hp
    have SA := Lib.hid ((RowsVal.src (c := p) (o := 0) (m := p) HV.out (by omega)).keep K1.1)
    have SB := Lib.hid ((RowsVal.tail (c := cap - p) (p := p) (cap := cap) HV.out (by omega) hcap).keep K1.1)
    rw [List.drop_zero, Nat.zero_mul] at SA
    have i1 : (p : Int) ≤ (l.length : Int) := by omega
    have i2 : (p : Int) ≤ (cap : Int) := by omega
    have i3 : (l.length : Int) ≤ (cap : Int) := by omega
    have i4 : (0 : Int) ≤ (p : Int) := by omega
    go_wp2_with fail
    go_region_held3 (fun w' => w'.cell? ⟨w.heap.size, 0, none⟩ = some (.int .i64 r.i) ∧ w'.cell? ⟨w.heap.size, 1, none⟩ = some (.int .i64 r.g) ∧ w'.cell? ⟨w.heap.size, 2, none⟩ = some (.int .i64 r.y) ∧ w'.cell? ⟨w.heap.size, 3, none⟩ = some (.int .i64 r.x) ∧ w'.cell? ⟨w.heap.size, 4, none⟩ = some (.bool r.nl) ∧ Below wc.heap.size wc w') (first | assumption | exact k5_at K1 hbel2 | exact k5_at K1 hbel1 | exact k5_at K1 (Below.refl _ _).drew | exact k5_keep K1 (by assumption) ((Below.refl _ _).alloc (Nat.le_refl _) _)) (first | (refine step_grow_rows (W := wc) rfl (.tmp 25) (.tmp 27) 176 rfl (by kernel_rfl) (some ⟨h, 0, none⟩) p (l.take p) [r] _ rfl rfl ?_ ?_ ?_ ?_ wc.heap.size ?_ ?_ ?_; (· exact SA.out.keep (k5_b (by assumption))); (· first | exact SrcR.cells ((K1.alloc5 _ _ _ _ _ _ _ rfl).drew.get 0 rfl) ((K1.alloc5 _ _ _ _ _ _ _ rfl).drew.get 1 rfl) ((K1.alloc5 _ _ _ _ _ _ _ rfl).drew.get 2 rfl) ((K1.alloc5 _ _ _ _ _ _ _ rfl).drew.get 3 rfl) ((K1.alloc5 _ _ _ _ _ _ _ rfl).drew.get 4 rfl) | exact SrcR.cells ((K1.drew.alloc5 _ _ _ _ _ _ _ rfl).get 0 rfl) ((K1.drew.alloc5 _ _ _ _ _ _ _ rfl).get 1 rfl) ((K1.drew.alloc5 _ _ _ _ _ _ _ rfl).get 2 rfl) ((K1.drew.alloc5 _ _ _ _ _ _ _ rfl).get 3 rfl) ((K1.drew.alloc5 _ _ _ _ _ _ _ rfl).get 4 rfl)); (· simp); (· rw [List.length_take]; simp; omega); (· exact (k5_b (by assumption)).size); (· exact k5_b (by assumption)); intro v1 w1 hown1 hbel1) | (refine step_append_rowsT (W := wc) rfl (.tmp 28) (.tmp 31) 176 rfl (by kernel_rfl) wc.heap.size v1 _ (l.take p ++ [r]) (l.drop p) rfl rfl hown1 ?_ ?_ ?_ ?_ ?_; (· exact SB.out.keep hbel1); (· rw [List.length_append, List.length_take, List.length_drop]; simp; omega); (· exact hbel1.size); (· exact hbel1); intro v2 w2 hown2 hbel2))
    all_goals
      go_wp2
      all_goals
        go_ret
        exact ⟨_, rfl, by rw [HP.out, ← List.append_assoc]; exact hown2.mono K1.1.size, K1.1.trans (hbel2.mono K1.1.size)⟩
end Go.Proofs.Ytcfcohnkkgickaa
