/-
  The walk over the project's FindBlock (slices.IndexFunc with a function literal).
-/
import Derived.Test.YtmjcfkaiheajaaaRows
import Derived.Test.YtmjcfkaiheajaaaTbFbk
namespace Go.Proofs.Ytmjcfkaiheajaaa
open Go.RowKit Num

set_option maxRecDepth 8000 in
theorem find_lit (bid : Int) (ro : Option Addr) (rn rc gc : Nat) (id : Int) (w : World) (hc : w.cell? ⟨gc, 0, none⟩ = some (.int .i64 id)) :
    Calls Try.prog 92 #[.agg #[.int .i64 bid, .slice ro rn rc], .pointer (some ⟨gc, 0, none⟩)] w fun e w' => e = .returned (.bool (bid == id)) ∧ Below w.heap.size w w' := by
  have b1 := (Below.refl w.heap.size w).alloc (Nat.le_refl _) (.cells #[.int .i64 bid, .slice ro rn rc] 67)
  have c1 := (b1.cell (p := ⟨gc, 0, none⟩) (World.block_lt_of_cell? w _ hc)).trans hc
  go_enter Try.func92, Try.ntmps92
  go_wp2
  go_ret
  exact ⟨rfl, b1⟩

set_option maxRecDepth 8000 in
set_option maxHeartbeats 3200000 in
theorem idx_fn (id : Int) (gc : Nat) (ao : Option Addr) (n cap : Nat) (l : List Blk) (w : World) (hl : l.length = n) (hn : n ≤ 1048576) (hV : BlksVal w ao l) (hc : w.cell? ⟨gc, 0, none⟩ = some (.int .i64 id)) :
    Calls Try.prog 91 #[.slice ao n cap, .func (.func 92) #[] #[.pointer (some ⟨gc, 0, none⟩)]] w (FirstPost (fun k => (Bn l k).id = id) n w) := by
  have HV := Lib.hid hV
  have HL := Lib.hid hl
  have HC := Lib.hid hc
  clear hV hl
  have hnI : (n : Int) ≤ 1048576 := by omega
  have hgc : gc < w.heap.size := World.block_lt_of_cell? w _ hc
  clear hc
  go_enter Try.func91, Try.ntmps91
  go_wp2_with fail
  go_loopw [8] (fun iv wr => ∃ k : Nat, k ≤ n ∧ iv = .int .i64 k ∧ Hid (∀ j, j < k → ¬ (Bn l j).id = id) ∧ Hid (Below w.heap.size w wr)) (fun iv _ => n - (intOf iv).toNat)
  case atStart => exact ⟨0, Nat.zero_le _, rfl, (fun j hj => by omega), Below.refl _ _⟩
  case round =>
    obtain ⟨k, hk, rfl, HA, HB⟩ := hrel
    by_cases hlt : k < n
    · have hkI : (k : Int) < (n : Int) := by omega
      obtain ⟨g, rfl, hg, hBk⟩ := (HV.out.below HB.out).head HL.out (by omega)
      obtain ⟨rao, rcap, c0, c1, _⟩ := hBk k hlt
      have cc := Lib.hid ((HB.out.cell (p := ⟨gc, 0, none⟩) hgc).trans HC.out)
      obtain ⟨bid, hbid⟩ : ∃ b, b = (Bn l k).id := ⟨_, rfl⟩
      rw [← hbid] at c0
      have HI := Lib.hid hbid
      clear hBk hbid
      go_wp2_with fail
      refine (find_lit bid _ _ _ gc id _ cc.out).mono ?_
      rintro e w1 ⟨rfl, hb⟩
      have HB1 := Lib.hid (HB.out.trans (hb.mono HB.out.size))
      clear hb c0 c1
      by_cases he : bid = id
      · have q : (bid == id) = true := by rw [he]; exact beq_self_eq_true id
        have AN := Lib.hid (show FirstAns (fun k => (Bn l k).id = id) n (k : Int) from .inl ⟨k, hlt, by show (Bn l k).id = id; rw [← HI.out]; exact he, HA.out, rfl⟩)
        clear he
        go_wp2
        go_ret
        exact ⟨⟨_, AN.out, rfl⟩, HB1.out⟩
      · have q : (bid == id) = false := beq_eq_false_iff_ne.2 he
        have HN := Lib.hid (show ∀ j, j < k + 1 → ¬ (Bn l j).id = id from fun j hj => by
          by_cases h : j < k
          · exact HA.out j h
          · obtain rfl : j = k := by omega
            rw [← HI.out]; exact he)
        clear he
        go_wp2
        go_roundw
        case rel => exact ⟨k + 1, by omega, by go_num, HN, HB1⟩
        case measure => simp [intOf]; omega
    · obtain rfl : k = n := by omega
      have hsd : decide ((k : Int) < (k : Int)) = false := decide_eq_false (by omega)
      go_wp2
      go_ret
      exact ⟨⟨-1, .inr ⟨HA.out, rfl⟩, rfl⟩, HB.out⟩

set_option maxRecDepth 8000 in
set_option maxHeartbeats 3200000 in
theorem impl_findB (ver id : Int) (ao : Option Addr) (n cap : Nat) (l : List Blk) (w : World) (hl : l.length = n) (hn : n ≤ 1048576) (hV : BlksVal w ao l) :
    Calls Try.prog 87 #[.agg #[.int .i64 ver, .slice ao n cap], .int .i64 id] w (FirstPost (fun k => (Bn l k).id = id) n w) := by
  have HV := Lib.hid hV
  have HL := Lib.hid hl
  clear hV hl
  go_enter Try.func87, Try.ntmps87
  go_wp2_with fail
  have K0 := (Kept.start w).alloc2 (.int .i64 ver) (.slice ao n cap) 38 _ rfl
  have b1 := (Below.refl w.heap.size w).alloc (Nat.le_refl _) (.cells #[.int .i64 ver, .slice ao n cap] 38)
  have b2 := b1.alloc b1.size (.cells #[.int .i64 id] 3)
  refine (idx_fn id (w.heap.size + 1) ao n cap l _ HL.out hn (HV.out.below b2) (by simp [World.cell?_alloc_at])).mono ?_
  rintro e w1 ⟨⟨v, hv, rfl⟩, hb⟩
  have AN := Lib.hid hv
  have HB := Lib.hid (b2.trans (hb.mono b2.size))
  clear hv hb
  go_wp2
  go_ret
  exact ⟨⟨_, AN.out, rfl⟩, HB.out⟩
end Go.Proofs.Ytmjcfkaiheajaaa
