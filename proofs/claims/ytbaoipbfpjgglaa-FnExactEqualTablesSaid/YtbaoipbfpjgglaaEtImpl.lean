/-
  The walks over slices.EqualFunc at blocks and over the project's EqualTables.
-/
import Derived.Test.YtbaoipbfpjgglaaRows
import Derived.Test.YtbaoipbfpjgglaaEtSpec
import Derived.Test.YtbaoipbfpjgglaaEbImpl
import Derived.WalkKit
import Derived.WalkSpells
import Derived.WalkLawsBesides
import Derived.IntWalk
import Derived.Lib.Hide
import Derived.Deep.RegionHeld3
namespace Go.Proofs.Ytbaoipbfpjgglaa
open Go.RowKit Num

/-- Whether two lists of blocks are the same. -/
def EqBs (l l' : List Blk) (w : World) (e : Ending) (w' : World) : Prop := ∃ v : Bool, (v = true ↔ l = l') ∧ e = .returned (.bool v) ∧ Below w.heap.size w w'

set_option maxRecDepth 8000 in
set_option maxHeartbeats 6400000 in
theorem blks_equal (ao bo : Option Addr) (n n' c c' : Nat) (l l' : List Blk) (w : World) (hl : l.length = n) (hl' : l'.length = n') (hn : n ≤ 1048576) (hn' : n' ≤ 1048576)
    (hr : ∀ k, k < n → (Bn l k).rows.length ≤ 1048576) (hr' : ∀ k, k < n' → (Bn l' k).rows.length ≤ 1048576) (hG : BlksVal w ao l) (hH : BlksVal w bo l') :
    Calls Try.prog 40 #[.slice ao n c, .slice bo n' c', .func (.func 29) #[] #[]] w (EqBs l l' w) := by
  have HG := Lib.hid hG
  have HH := Lib.hid hH
  have HL := Lib.hid hl
  have HL' := Lib.hid hl'
  have HR := Lib.hid hr
  have HR' := Lib.hid hr'
  clear hG hH hl hl' hr hr'
  have hnI : (n : Int) ≤ 1048576 := by omega
  have hnI' : (n' : Int) ≤ 1048576 := by omega
  by_cases hnn : n = n'
  · subst hnn
    have q : ((n : Int) != (n : Int)) = false := bne_self_eq_false _
    go_enter Try.func40, Try.ntmps40
    go_wp2_with fail
    go_loopw [17] (fun iv wr => ∃ k : Nat, k ≤ n ∧ iv = .int .i64 k ∧ Hid (∀ j, j < k → Bn l j = Bn l' j) ∧ Hid (Below w.heap.size w wr)) (fun iv _ => n - (intOf iv).toNat)
    case atStart => exact ⟨0, Nat.zero_le _, rfl, (fun j hj => by omega), Below.refl _ _⟩
    case round =>
      obtain ⟨k, hk, rfl, HA, HK⟩ := hrel
      by_cases hlt : k < n
      · have hkI : (k : Int) < (n : Int) := by omega
        obtain ⟨g, rfl, hg, hGB⟩ := (HG.out.below HK.out).head HL.out (by omega)
        obtain ⟨h, rfl, hh, hHB⟩ := (HH.out.below HK.out).head HL'.out (by omega)
        obtain ⟨ra, ca, a0, a1, a2⟩ := hGB k hlt
        obtain ⟨rb, cb, b0, b1, b2⟩ := hHB k hlt
        have hrl := HR.out k hlt
        have hrl' := HR'.out k hlt
        have HNO := Lib.hid (show Bn l k ≠ Bn l' k → ¬ (l = l') from fun hne e => hne (by rw [e]))
        have HYE := Lib.hid (show Bn l k = Bn l' k → ∀ j, j < k + 1 → Bn l j = Bn l' j from fun e j hj => by
          by_cases h : j < k
          · exact HA.out j h
          · obtain rfl : j = k := by omega
            exact e)
        obtain ⟨x, hx⟩ : ∃ x, x = Bn l k := ⟨_, rfl⟩
        obtain ⟨y, hy⟩ : ∃ y, y = Bn l' k := ⟨_, rfl⟩
        rw [← hx] at a0 a1 a2 hrl HNO HYE
        rw [← hy] at b0 b1 b2 hrl' HNO HYE
        have A2 := Lib.hid a2
        have B2 := Lib.hid b2
        have e1 := (Below.refl wr.heap.size wr).alloc (Nat.le_refl _) (.cells #[.int .i64 x.id, .slice ra x.rows.length ca] 44)
        have d0 := (e1.cell (World.block_lt_of_cell? wr _ b0)).trans b0
        have d1 := (e1.cell (World.block_lt_of_cell? wr _ b1)).trans b1
        have e2 := e1.alloc e1.size (.cells #[.int .i64 y.id, .slice rb y.rows.length cb] 44)
        have E2 := Lib.hid e2
        clear hGB hHB a2 b2 hx hy b0 b1 e1 e2
        go_wp2_with fail
        refine (impl_ebV x.id y.id ra rb x.rows.length y.rows.length ca cb (Rn x.rows) (Rn y.rows) _ hrl hrl' (A2.out.below E2.out) (B2.out.below E2.out)).mono ?_
        rintro e w1 ⟨v, hv, rfl, hb⟩
        have K1 := Lib.hid (HK.out.trans ((E2.out.trans (hb.mono E2.out.size)).mono HK.out.size))
        have HV := Lib.hid hv
        clear hv hb a0 a1 d0 d1 E2
        cases v
        · have NO := Lib.hid (HNO.out fun e => absurd (HV.out.2 ((eqBlk_iff x y).2 e)) (by simp))
          clear HV
          go_wp2
          go_ret
          exact ⟨false, ⟨(fun h9 => by cases h9), fun k => absurd k NO.out⟩, rfl, K1.out⟩
        · have YE := Lib.hid (HYE.out ((eqBlk_iff x y).1 (HV.out.1 rfl)))
          clear HV
          go_wp2
          go_roundw
          case rel => exact ⟨k + 1, by omega, by go_num, YE.out, K1.out⟩
          case measure => simp [intOf]; omega
      · obtain rfl : k = n := by omega
        have hsd : decide ((k : Int) < (k : Int)) = false := decide_eq_false (by omega)
        have YES := Lib.hid (show l = l' from blks_ext (by rw [HL.out, HL'.out]) (fun j hj => HA.out j (by rw [HL.out] at hj; exact hj)))
        go_wp2
        go_ret
        exact ⟨true, ⟨fun _ => YES.out, fun _ => rfl⟩, rfl, HK.out⟩
  · have q : ((n : Int) != (n' : Int)) = true := bne_iff_ne.2 (by omega)
    have NO := Lib.hid (show ¬ (l = l') from fun e => hnn (by rw [← HL.out, ← HL'.out, e]))
    have HN := Lib.hid hnn
    clear hnn
    go_enter Try.func40, Try.ntmps40
    go_wp2
    go_ret
    exact ⟨false, ⟨(fun h9 => by cases h9), fun k => absurd k NO.out⟩, rfl, Below.refl _ _⟩

set_option maxRecDepth 8000 in
set_option maxHeartbeats 6400000 in
theorem impl_et (ver ver' : Int) (ao bo : Option Addr) (n n' c c' : Nat) (l l' : List Blk) (w : World) (hl : l.length = n) (hl' : l'.length = n') (hn : n ≤ 1048576) (hn' : n' ≤ 1048576)
    (hr : ∀ k, k < n → (Bn l k).rows.length ≤ 1048576) (hr' : ∀ k, k < n' → (Bn l' k).rows.length ≤ 1048576) (hG : BlksVal w ao l) (hH : BlksVal w bo l') :
    Calls Try.prog 22 #[.agg #[.int .i64 ver, .slice ao n c], .agg #[.int .i64 ver', .slice bo n' c']] w (EtPost ver ver' l l' w) := by
  have HG := Lib.hid hG
  have HH := Lib.hid hH
  have HL := Lib.hid hl
  have HL' := Lib.hid hl'
  have HR := Lib.hid hr
  have HR' := Lib.hid hr'
  clear hG hH hl hl' hr hr'
  by_cases hv : ver = ver'
  · subst hv
    have qv : (ver == ver) = true := beq_self_eq_true _
    go_enter Try.func22, Try.ntmps22
    go_wp2_with fail
    have K0 := ((Kept.start w).alloc2 (.int .i64 ver) (.slice ao n c) 29 _ rfl).alloc2 (.int .i64 ver) (.slice bo n' c') 29 (w.heap.size + 1) (by simp)
    refine (blks_equal ao bo n n' c c' l l' _ HL.out HL'.out hn hn' HR.out HR'.out (HG.out.below K0.1) (HH.out.below K0.1)).mono ?_
    rintro e w1 ⟨v, hv, rfl, hb⟩
    have K1 := K0.step hb
    have HV := Lib.hid (show v = true ↔ EqT ver ver l l' from ⟨fun h => ⟨rfl, hv.1 h⟩, fun h => hv.2 h.2⟩)
    clear hv hb K0
    cases v
    · have NO := Lib.hid (show ¬ EqT ver ver l l' from fun e => absurd (HV.out.2 e) (by simp))
      clear HV
      go_wp2
      go_ret
      exact EtPost.no NO.out K1.1
    · have YES := Lib.hid (HV.out.1 rfl)
      clear HV
      go_wp2
      go_ret
      exact EtPost.yes YES.out K1.1
  · have q : (ver == ver') = false := beq_eq_false_iff_ne.2 hv
    have NO := Lib.hid (show ¬ EqT ver ver' l l' from fun e => hv e.1)
    have HI := Lib.hid hv
    clear hv
    go_enter Try.func22, Try.ntmps22
    go_wp2_with fail
    have K0 := ((Kept.start w).alloc2 (.int .i64 ver) (.slice ao n c) 29 _ rfl).alloc2 (.int .i64 ver') (.slice bo n' c') 29 (w.heap.size + 1) (by simp)
    go_wp2
    go_ret
    exact EtPost.no NO.out K0.1
end Go.Proofs.Ytbaoipbfpjgglaa
