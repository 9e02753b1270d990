/-
  The walks over the laws' own blocks (toBlock, eqBlock, szBlock) and over the model's IsValidBlock.
-/
import Derived.Test.YtcfcohnkkgickaaRows
import Derived.Test.YtcfcohnkkgickaaBkPlain
import Derived.Test.YtcfcohnkkgickaaEqRows
import Derived.WalkKit
import Derived.WalkSpells
import Derived.WalkLawsBesides
import Derived.IntWalk
import Derived.Lib.Hide
namespace Go.Proofs.Ytcfcohnkkgickaa
open Go.RowKit Num

theorem RowsTo.apart {W w : World} {g n k : Nat} {R : Nat → Rw} (h : RowsTo W w g n k R) {b o : Nat} (u : Value) (hb : W.heap.size ≤ b) (hne : b ≠ g) : RowsTo W (w.setCell ⟨b, o, none⟩ u) g n k R := by
  obtain ⟨h1, h2, h3, h4, h5⟩ := h
  have oth : ∀ j, (w.setCell ⟨b, o, none⟩ u).cell? ⟨g, j, none⟩ = w.cell? ⟨g, j, none⟩ := fun j => World.cell?_setCell_other (w := w) (a := ⟨b, o, none⟩) (b := ⟨g, j, none⟩) (v := u) (fun e => hne (congrArg Addr.block e))
  refine ⟨h1.setCell hb u, h2, by simpa using h3, fun j hj => ?_, fun m hm => ?_⟩
  · obtain ⟨⟨v, hv⟩, hf⟩ := h4 j hj
    exact ⟨⟨v, by rw [oth]; exact hv⟩, by rw [World.frozen?_setCell]; exact hf⟩
  · obtain ⟨r0, r1, r2, r3, r4⟩ := h5 m hm
    exact ⟨by rw [oth]; exact r0, by rw [oth]; exact r1, by rw [oth]; exact r2, by rw [oth]; exact r3, by rw [oth]; exact r4⟩

theorem RowsTo.rebase {W W' w : World} {g n k : Nat} {R : Nat → Rw} (h : RowsTo W' w g n k R) (hb : Below W.heap.size W W') : RowsTo W w g n k R :=
  ⟨hb.trans (h.1.mono hb.size), Nat.le_trans hb.size h.2.1, h.2.2.1, h.2.2.2.1, h.2.2.2.2⟩

/-- What toBlock leaves: the block with rows of its own. -/
def BlkPost (id : Int) (n : Nat) (R : Nat → Rw) (w : World) (e : Ending) (w' : World) : Prop := ∃ g : Nat, e = .returned (.agg #[.int .i64 id, .slice (some ⟨g, 0, none⟩) n n]) ∧ RowsTo w w' g n n R
theorem BlkPost.mk {id : Int} {n : Nat} {R : Nat → Rw} {w w' : World} {g : Nat} (h : RowsTo w w' g n n R) : BlkPost id n R w (.returned (.agg #[.int .i64 id, .slice (some ⟨g, 0, none⟩) n n])) w' := ⟨g, rfl, h⟩

theorem law_toRs_at (ao : Option Addr) (n cap : Nat) (R : Nat → Rw) (w : World) (B : Nat) (hB : w.heap.size = B) (hn : n ≤ 1048576) (hA : RowsArg w ao n R) :
    Calls Try.prog 109 #[.slice ao n cap] w fun e w' => e = .returned (.slice (some ⟨B, 0, none⟩) n n) ∧ RowsTo w w' B n n R := by
  subst hB; exact law_toRs ao n cap R w hn hA

set_option maxRecDepth 8000 in
set_option maxHeartbeats 3200000 in
theorem law_toBlk (id : Int) (ao : Option Addr) (n cap : Nat) (R : Nat → Rw) (w : World) (hn : n ≤ 1048576) (hA : RowsArg w ao n R) :
    Calls Try.prog 50 #[.agg #[.int .i64 id, .slice ao n cap]] w (BlkPost id n R w) := by
  have HA := Lib.hid hA
  clear hA
  go_enter Try.func50, Try.ntmps50
  go_wp2_with fail
  have K0 := (((Kept.start w).alloc2 (.int .i64 id) (.slice ao n cap) 74 _ rfl).alloc2 (.int .i64 0) (.slice none 0 0) 80 (w.heap.size + 1) (by simp)).alloc2 (.int .i64 id) (.slice none 0 0) 80 (w.heap.size + 1 + 1) (by simp)
  refine (law_toRs_at ao n cap R _ (w.heap.size + 1 + 1 + 1) (by simp) hn (HA.out.below K0.1)).mono ?_
  rintro e w1 ⟨rfl, H1⟩
  have K1 := K0.step H1.1
  have H2 := Lib.hid (H1.rebase K0.1)
  have K2 := Kept.set (p := [(⟨w.heap.size + 1 + 1, 0, none⟩, .int .i64 id)]) K1 (.slice (some ⟨w.heap.size + 1 + 1 + 1, 0, none⟩) n n) (by simp only; omega) (by simp only [List.cons_append, List.nil_append, List.mem_cons, List.not_mem_nil, or_false]; rintro c9 (rfl | rfl | rfl | rfl | rfl) <;> simp)
  clear H1 K0
  have k1 := K1.get 1 rfl
  have f1 := K1.fz 1 rfl
  have m0 := K2.get 0 rfl
  have m1 := K2.get 1 rfl
  have m2 := K2.get 2 rfl
  have m3 := K2.get 3 rfl
  have f2 := K2.fz 2 rfl
  have f3 := K2.fz 3 rfl
  have z := K2.lt 2 rfl
  go_wp2
  exact bodyPost_ret (v := .agg #[.int .i64 id, .slice (some ⟨w.heap.size + 1 + 1 + 1, 0, none⟩) n n]) (by simp [results, Try.results50, go_sem, m2, m3, z]) rfl
    (BlkPost.mk (((H2.out.apart (b := w.heap.size + 1 + 1) (o := 1) _ (by omega) (by omega)).apart (b := w.heap.size + 1) (o := 0) _ (by omega) (by omega)).apart (b := w.heap.size + 1) (o := 1) _ (by omega) (by omega)))

set_option maxRecDepth 8000 in
set_option maxHeartbeats 3200000 in
theorem law_eqBlkV (id : Int) (ao bo : Option Addr) (n c c' : Nat) (R : Nat → Rw) (w : World) (hn : n ≤ 1048576) (hG : RowsVal w ao n R) (hH : RowsVal w bo n R) :
    Calls Try.prog 53 #[.agg #[.int .i64 id, .slice ao n c], .agg #[.int .i64 id, .slice bo n c']] w fun e w' => e = .returned (.bool true) ∧ Below w.heap.size w w' := by
  have HG := Lib.hid hG
  have HH := Lib.hid hH
  clear hG hH
  go_enter Try.func53, Try.ntmps53
  go_wp2_with fail
  have K0 := ((Kept.start w).alloc2 (.int .i64 id) (.slice ao n c) 80 _ rfl).alloc2 (.int .i64 id) (.slice bo n c') 80 (w.heap.size + 1) (by simp)
  refine (law_eqRsV ao bo n c c' R _ hn (HG.out.below K0.1) (HH.out.below K0.1)).mono ?_
  rintro e w1 ⟨rfl, hb⟩
  have K1 := K0.step hb
  clear hb K0
  go_wp2
  go_ret
  exact ⟨rfl, K1.1⟩

theorem law_eqBlk (id : Int) (g h n c c' : Nat) (R : Nat → Rw) (w : World) (hn : n ≤ 1048576) (hg : g < w.heap.size) (hh : h < w.heap.size) (hG : ∀ k, k < n → RowIn w g k (R k)) (hH : ∀ k, k < n → RowIn w h k (R k)) :
    Calls Try.prog 53 #[.agg #[.int .i64 id, .slice (some ⟨g, 0, none⟩) n c], .agg #[.int .i64 id, .slice (some ⟨h, 0, none⟩) n c']] w fun e w' => e = .returned (.bool true) ∧ Below w.heap.size w w' :=
  law_eqBlkV id _ _ n c c' R w hn (.inr ⟨g, rfl, hg, hG⟩) (.inr ⟨h, rfl, hh, hH⟩)

theorem law_szb (id : Int) (ao : Option Addr) (n cap : Nat) (w : World) (hn : n ≤ 1048576) :
    Calls Try.prog 48 #[.agg #[.int .i64 id, .slice ao n cap], .int .i64 1048576] w fun e w' => e = .returned (.int .i64 (1048576 - (n : Int))) ∧ Below w.heap.size w w' := by
  have h1 : (n : Int) ≤ 1048576 := by omega
  have h2 : ¬ (1048576 - (n : Int)) < 0 := by omega
  have h3 : decide ((1048576 - (n : Int)) < 0) = false := decide_eq_false h2
  go_enter Try.func48, Try.ntmps48
  go_wp2_with fail
  refine (law_sz ao n cap _ hn).mono ?_
  rintro e w1 ⟨rfl, rfl⟩
  go_wp2
  go_ret
  exact ⟨rfl, (Below.refl _ _).alloc (Nat.le_refl _) _⟩

theorem law_szb_big (id : Int) (ao : Option Addr) (n cap : Nat) (w : World) (hn : 1048576 < n) (hm : n ≤ 9223372036854775807) :
    Calls Try.prog 48 #[.agg #[.int .i64 id, .slice ao n cap], .int .i64 1048576] w fun e w' => e = .returned (.int .i64 (-1)) ∧ Below w.heap.size w w' := by
  go_enter Try.func48, Try.ntmps48
  go_wp2_with fail
  refine (law_sz_big ao n cap _ hn hm).mono ?_
  rintro e w1 ⟨rfl, rfl⟩
  go_wp2
  go_ret
  exact ⟨rfl, (Below.refl _ _).alloc (Nat.le_refl _) _⟩

set_option maxRecDepth 8000 in
set_option maxHeartbeats 3200000 in
theorem spec_bvV (id : Int) (ao : Option Addr) (n cap : Nat) (R : Nat → Rw) (w : World) (hn : n ≤ 1048576) (hV : RowsVal w ao n R) :
    Calls Try.prog 108 #[.agg #[.int .i64 id, .slice ao n cap]] w fun e w' => e = .returned (.bool (blkB id n R)) ∧ Below w.heap.size w w' := by
  have HV := Lib.hid hV
  clear hV
  have hnI : (n : Int) ≤ 1048576 := by omega
  have D1 := fun w => l1In_b id 1 20 w
  have D2 := fun w hV => spec_arV ao n cap R w hn hV
  have E0 : blkB id n R = (decide (1 ≤ id ∧ id ≤ 20) && (areB R n && decide (n ≤ 6))) := rfl
  obtain ⟨q1, hq1⟩ : ∃ q, q = decide (1 ≤ id ∧ id ≤ 20) := ⟨_, rfl⟩
  rw [← hq1] at D1 E0
  obtain ⟨q2, hq2⟩ : ∃ q, q = areB R n := ⟨_, rfl⟩
  rw [← hq2] at D2 E0
  have DD1 := Lib.hid D1
  have DD2 := Lib.hid D2
  clear D1 D2 hq1 hq2
  cases q1
  · have E := Lib.hid E0
    clear E0
    go_enter Try.func108, Try.ntmps108
    go_wp2_with fail
    have K0 := (Kept.start w).alloc2 (.int .i64 id) (.slice ao n cap) 80 _ rfl
    have k0 := K0.get 0 rfl
    have k1 := K0.get 1 rfl
    refine (DD1.out _).mono ?_
    rintro r9 w1 ⟨rfl, rfl⟩
    go_wp2
    go_ret
    exact ⟨by rw [E.out]; rfl, K0.1⟩
  · by_cases h6 : n ≤ 6
    · rw [decide_eq_true h6] at E0
      have E := Lib.hid E0
      have h6d : decide ((n : Int) ≤ 6) = true := decide_eq_true (by omega)
      clear E0
      go_enter Try.func108, Try.ntmps108
      go_wp2_with fail
      have K0 := (Kept.start w).alloc2 (.int .i64 id) (.slice ao n cap) 80 _ rfl
      have k0 := K0.get 0 rfl
      have k1 := K0.get 1 rfl
      refine (DD1.out _).mono ?_
      rintro r9 w1 ⟨rfl, rfl⟩
      go_wp2_with fail
      refine (DD2.out _ (HV.out.below K0.1)).mono ?_
      rintro r9 w2 ⟨rfl, hb⟩
      have K1 := K0.step hb
      clear hb K0 k0 k1
      have k0 := K1.get 0 rfl
      have k1 := K1.get 1 rfl
      cases q2
      · go_wp2
        go_ret
        exact ⟨by rw [E.out]; rfl, K1.1⟩
      · go_wp2
        go_ret
        exact ⟨by rw [E.out]; rfl, K1.1⟩
    · rw [decide_eq_false h6] at E0
      have E := Lib.hid E0
      have h6d : decide ((n : Int) ≤ 6) = false := decide_eq_false (by omega)
      have h6e : decide (n ≤ 6) = false := decide_eq_false h6
      clear E0
      go_enter Try.func108, Try.ntmps108
      go_wp2_with fail
      have K0 := (Kept.start w).alloc2 (.int .i64 id) (.slice ao n cap) 80 _ rfl
      have k0 := K0.get 0 rfl
      have k1 := K0.get 1 rfl
      refine (DD1.out _).mono ?_
      rintro r9 w1 ⟨rfl, rfl⟩
      go_wp2_with fail
      refine (DD2.out _ (HV.out.below K0.1)).mono ?_
      rintro r9 w2 ⟨rfl, hb⟩
      have K1 := K0.step hb
      clear hb K0 k0 k1
      have k0 := K1.get 0 rfl
      have k1 := K1.get 1 rfl
      cases q2
      · go_wp2
        go_ret
        exact ⟨by rw [E.out]; rfl, K1.1⟩
      · go_wp2
        go_ret
        exact ⟨by rw [E.out]; rfl, K1.1⟩

theorem spec_bv (id : Int) (g n cap : Nat) (R : Nat → Rw) (w : World) (hn : n ≤ 1048576) (hg : g < w.heap.size) (hR : ∀ k, k < n → RowIn w g k (R k)) :
    Calls Try.prog 108 #[.agg #[.int .i64 id, .slice (some ⟨g, 0, none⟩) n cap]] w fun e w' => e = .returned (.bool (blkB id n R)) ∧ Below w.heap.size w w' :=
  spec_bvV id _ n cap R w hn (.inr ⟨g, rfl, hg, hR⟩)

/-! What the region 'eqBlock(x0, toBlock(aB))' keeps: the two boxes' cells, x0's rows. -/
theorem bl_start {W w : World} {g n : Nat} {R : Nat → Rw} {a0 a1 a2 a3 : Addr} {v0 v1 v2 v3 : Value} {l : List (Addr × Value)} (H : RowsTo W w g n n R) (h : Kept W w ((a0, v0) :: (a1, v1) :: (a2, v2) :: (a3, v3) :: l)) :
    w.drew.cell? a0 = some v0 ∧ w.drew.cell? a1 = some v1 ∧ w.drew.cell? a2 = some v2 ∧ w.drew.cell? a3 = some v3 ∧ RowsTo W w.drew g n n R ∧ Kept W w.drew ((a0, v0) :: (a1, v1) :: (a2, v2) :: (a3, v3) :: l) :=
  ⟨h.drew.get 0 rfl, h.drew.get 1 rfl, h.drew.get 2 rfl, h.drew.get 3 rfl, H.step (Below.refl _ _).drew, h.drew⟩
theorem bl_keep {W w w1 : World} {g n : Nat} {R : Nat → Rw} {a0 a1 a2 a3 : Addr} {v0 v1 v2 v3 : Value} {l : List (Addr × Value)} (h : w.cell? a0 = some v0 ∧ w.cell? a1 = some v1 ∧ w.cell? a2 = some v2 ∧ w.cell? a3 = some v3 ∧ RowsTo W w g n n R ∧ Kept W w ((a0, v0) :: (a1, v1) :: (a2, v2) :: (a3, v3) :: l)) (hb : Below w.heap.size w w1) :
    w1.cell? a0 = some v0 ∧ w1.cell? a1 = some v1 ∧ w1.cell? a2 = some v2 ∧ w1.cell? a3 = some v3 ∧ RowsTo W w1 g n n R ∧ Kept W w1 ((a0, v0) :: (a1, v1) :: (a2, v2) :: (a3, v3) :: l) :=
  have k := h.2.2.2.2.2.step hb
  ⟨k.get 0 rfl, k.get 1 rfl, k.get 2 rfl, k.get 3 rfl, h.2.2.2.2.1.step hb, k⟩
theorem bl_rows {W w : World} {g n : Nat} {R : Nat → Rw} {p0 p1 p2 p3 p4 : Prop} (h : p0 ∧ p1 ∧ p2 ∧ p3 ∧ RowsTo W w g n n R ∧ p4) : RowsTo W w g n n R := h.2.2.2.2.1
theorem bl_arg {W w : World} {ao : Option Addr} {m : Nat} {R' : Nat → Rw} {p0 p1 p2 p3 p4 : Prop} {l : List (Addr × Value)} (hA : RowsArg W ao m R') (h : p0 ∧ p1 ∧ p2 ∧ p3 ∧ p4 ∧ Kept W w l) : RowsArg w ao m R' := hA.below h.2.2.2.2.2.1

/-- szBlock with what is left: L. -/
theorem law_szbL (L : Int) (id : Int) (ao : Option Addr) (n cap : Nat) (w : World) (h0 : 0 ≤ L) (hL : L ≤ 1048576) (hn : (n : Int) ≤ L) :
    Calls Try.prog 48 #[.agg #[.int .i64 id, .slice ao n cap], .int .i64 L] w fun e w' => e = .returned (.int .i64 (L - (n : Int))) ∧ Below w.heap.size w w' := by
  have h2 : ¬ (L - (n : Int)) < 0 := by omega
  have h3 : decide ((L - (n : Int)) < 0) = false := decide_eq_false h2
  go_enter Try.func48, Try.ntmps48
  go_wp2_with fail
  refine (law_szL L ao n cap _ h0 hL hn).mono ?_
  rintro e w1 ⟨rfl, rfl⟩
  go_wp2
  go_ret
  exact ⟨rfl, (Below.refl _ _).alloc (Nat.le_refl _) _⟩
theorem law_szbL_big (L : Int) (id : Int) (ao : Option Addr) (n cap : Nat) (w : World) (h0 : 0 ≤ L) (hL : L ≤ 1048576) (hn : L < (n : Int)) (hm : n ≤ 9223372036854775807) :
    Calls Try.prog 48 #[.agg #[.int .i64 id, .slice ao n cap], .int .i64 L] w fun e w' => e = .returned (.int .i64 (-1)) ∧ Below w.heap.size w w' := by
  go_enter Try.func48, Try.ntmps48
  go_wp2_with fail
  refine (law_szL_big L ao n cap _ h0 hL hn hm).mono ?_
  rintro e w1 ⟨rfl, rfl⟩
  go_wp2
  go_ret
  exact ⟨rfl, (Below.refl _ _).alloc (Nat.le_refl _) _⟩

/-! What a region keeps against the world at its head: four cells; the rest follows from Below. -/
theorem bq_start {W w : World} {a0 a1 a2 a3 : Addr} {v0 v1 v2 v3 : Value} {l : List (Addr × Value)} (h : Kept W w ((a0, v0) :: (a1, v1) :: (a2, v2) :: (a3, v3) :: l)) :
    w.drew.cell? a0 = some v0 ∧ w.drew.cell? a1 = some v1 ∧ w.drew.cell? a2 = some v2 ∧ w.drew.cell? a3 = some v3 ∧ Below w.heap.size w w.drew :=
  ⟨h.drew.get 0 rfl, h.drew.get 1 rfl, h.drew.get 2 rfl, h.drew.get 3 rfl, (Below.refl _ _).drew⟩
theorem bq_keep {W w w' w1 : World} {a0 a1 a2 a3 : Addr} {v0 v1 v2 v3 : Value} {l : List (Addr × Value)} (h : Kept W w ((a0, v0) :: (a1, v1) :: (a2, v2) :: (a3, v3) :: l)) (q : w'.cell? a0 = some v0 ∧ w'.cell? a1 = some v1 ∧ w'.cell? a2 = some v2 ∧ w'.cell? a3 = some v3 ∧ Below w.heap.size w w') (hb : Below w'.heap.size w' w1) :
    w1.cell? a0 = some v0 ∧ w1.cell? a1 = some v1 ∧ w1.cell? a2 = some v2 ∧ w1.cell? a3 = some v3 ∧ Below w.heap.size w w1 :=
  have b := q.2.2.2.2.trans (hb.mono q.2.2.2.2.size)
  have k := h.step b
  ⟨k.get 0 rfl, k.get 1 rfl, k.get 2 rfl, k.get 3 rfl, b⟩
theorem bq_below {w w' : World} {p0 p1 p2 p3 : Prop} (h : p0 ∧ p1 ∧ p2 ∧ p3 ∧ Below w.heap.size w w') : Below w.heap.size w w' := h.2.2.2.2
end Go.Proofs.Ytcfcohnkkgickaa
