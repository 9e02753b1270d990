/-
  The walk over the model's EqualTables.
-/
import Derived.Test.YtbaoipbfpjgglaaRows
import Derived.Test.YtbaoipbfpjgglaaTbFind
import Derived.Test.YtbaoipbfpjgglaaEbSpec
import Derived.WalkKit
import Derived.WalkSpells
import Derived.WalkLawsBesides
import Derived.IntWalk
import Derived.Lib.Hide
import Derived.Deep.RegionHeld3
namespace Go.Proofs.Ytbaoipbfpjgglaa
open Go.RowKit Num

/-- Six cells stay. -/
theorem t6_at {w w' : World} {a0 a1 a2 a3 a4 a5 : Addr} {v0 v1 v2 v3 v4 v5 : Value} (q : w.cell? a0 = some v0 ∧ w.cell? a1 = some v1 ∧ w.cell? a2 = some v2 ∧ w.cell? a3 = some v3 ∧ w.cell? a4 = some v4 ∧ w.cell? a5 = some v5) (hb : Below w.heap.size w w') : w'.cell? a0 = some v0 ∧ w'.cell? a1 = some v1 ∧ w'.cell? a2 = some v2 ∧ w'.cell? a3 = some v3 ∧ w'.cell? a4 = some v4 ∧ w'.cell? a5 = some v5 ∧ Below w.heap.size w w' :=
  have k := fun (a : Addr) (v : Value) (h : w.cell? a = some v) => (hb.cell (World.block_lt_of_cell? w _ h)).trans h
  ⟨k _ _ q.1, k _ _ q.2.1, k _ _ q.2.2.1, k _ _ q.2.2.2.1, k _ _ q.2.2.2.2.1, k _ _ q.2.2.2.2.2, hb⟩
theorem t6_keep {w w' w1 : World} {a0 a1 a2 a3 a4 a5 : Addr} {v0 v1 v2 v3 v4 v5 : Value} (q : w.cell? a0 = some v0 ∧ w.cell? a1 = some v1 ∧ w.cell? a2 = some v2 ∧ w.cell? a3 = some v3 ∧ w.cell? a4 = some v4 ∧ w.cell? a5 = some v5) (p : w'.cell? a0 = some v0 ∧ w'.cell? a1 = some v1 ∧ w'.cell? a2 = some v2 ∧ w'.cell? a3 = some v3 ∧ w'.cell? a4 = some v4 ∧ w'.cell? a5 = some v5 ∧ Below w.heap.size w w') (hb : Below w'.heap.size w' w1) : w1.cell? a0 = some v0 ∧ w1.cell? a1 = some v1 ∧ w1.cell? a2 = some v2 ∧ w1.cell? a3 = some v3 ∧ w1.cell? a4 = some v4 ∧ w1.cell? a5 = some v5 ∧ Below w.heap.size w w1 :=
  t6_at q (p.2.2.2.2.2.2.trans (hb.mono p.2.2.2.2.2.2.size))
theorem t6_b {w w' : World} {p0 p1 p2 p3 p4 p5 : Prop} (q : p0 ∧ p1 ∧ p2 ∧ p3 ∧ p4 ∧ p5 ∧ Below w.heap.size w w') : Below w.heap.size w w' := q.2.2.2.2.2.2

theorem eqBlk_iff (b b' : Blk) : EqBlk b.id b'.id b.rows.length b'.rows.length (Rn b.rows) (Rn b'.rows) ↔ b = b' := by
  constructor
  · rintro ⟨e1, e2, e3⟩
    cases b with | mk i r => cases b' with | mk i' r' =>
    simp only at e1 e2 e3
    subst e1
    congr 1
    refine List.ext_getElem e2 fun k h1 h2 => ?_
    rw [← Rn_at h1, ← Rn_at h2]
    exact e3 k h1
  · rintro rfl
    exact ⟨rfl, rfl, fun _ _ => rfl⟩
theorem blks_ext {l l' : List Blk} (hl : l.length = l'.length) (h : ∀ k, k < l.length → Bn l k = Bn l' k) : l = l' := by
  refine List.ext_getElem hl fun k h1 h2 => ?_
  rw [← Bn_at h1, ← Bn_at h2]
  exact h k h1

/-- Whether two tables are the same. -/
def EqT (ver ver' : Int) (l l' : List Blk) : Prop := ver = ver' ∧ l = l'
/-- What EqualTables answers. -/
def EtPost (ver ver' : Int) (l l' : List Blk) (w : World) (e : Ending) (w' : World) : Prop := ∃ v : Bool, (v = true ↔ EqT ver ver' l l') ∧ e = .returned (.bool v) ∧ Below w.heap.size w w'
theorem EtPost.no {ver ver' : Int} {l l' : List Blk} {w w' : World} (h : ¬ EqT ver ver' l l') (hb : Below w.heap.size w w') : EtPost ver ver' l l' w (.returned (.bool false)) w' := ⟨false, ⟨(fun h9 => by cases h9), fun k => absurd k h⟩, rfl, hb⟩
theorem EtPost.yes {ver ver' : Int} {l l' : List Blk} {w w' : World} (h : EqT ver ver' l l') (hb : Below w.heap.size w w') : EtPost ver ver' l l' w (.returned (.bool true)) w' := ⟨true, ⟨fun _ => h, fun _ => rfl⟩, rfl, hb⟩
theorem et_iff {ver ver' : Int} {l l' : List Blk} {v v' : Bool} (h : v = true ↔ EqT ver ver' l l') (h' : v' = true ↔ EqT ver ver' l l') : v = v' := by
  cases v <;> cases v'
  · rfl
  · exact absurd (h.2 (h'.1 rfl)) (by simp)
  · exact absurd (h'.2 (h.1 rfl)) (by simp)
  · rfl

set_option maxRecDepth 8000 in
set_option maxHeartbeats 6400000 in
theorem spec_et (ver ver' : Int) (ao bo : Option Addr) (n n' c c' : Nat) (l l' : List Blk) (w : World) (hl : l.length = n) (hl' : l'.length = n') (hn : n ≤ 1048576) (hn' : n' ≤ 1048576)
    (hr : ∀ k, k < n → (Bn l k).rows.length ≤ 1048576) (hr' : ∀ k, k < n' → (Bn l' k).rows.length ≤ 1048576) (hG : BlksVal w ao l) (hH : BlksVal w bo l') :
    Calls Try.prog 21 #[.agg #[.int .i64 ver, .slice ao n c], .agg #[.int .i64 ver', .slice bo n' c']] w (EtPost ver ver' l l' w) := by
  have HG := Lib.hid hG
  have HH := Lib.hid hH
  have HL := Lib.hid hl
  have HL' := Lib.hid hl'
  have HR := Lib.hid hr
  have HR' := Lib.hid hr'
  clear hG hH hl hl' hr hr'
  have hnI : (n : Int) ≤ 1048576 := by omega
  have hnI' : (n' : Int) ≤ 1048576 := by omega
  by_cases hv : ver = ver'
  · subst hv
    have qv : (ver != ver) = false := bne_self_eq_false _
    by_cases hnn : n = n'
    · subst hnn
      have q : ((n : Int) != (n : Int)) = false := bne_self_eq_false _
      go_enter Try.func21, Try.ntmps21
      go_wp2_with fail
      have K0 := ((Kept.start w).alloc2 (.int .i64 ver) (.slice ao n c) 29 _ rfl).alloc2 (.int .i64 ver) (.slice bo n c') 29 (w.heap.size + 1) (by simp)
      go_loopw [5] (fun iv wr => ∃ k : Nat, k ≤ n ∧ iv = .int .i64 k ∧ Hid (∀ j, j < k → Bn l j = Bn l' j) ∧ Hid (Kept w wr [(⟨w.heap.size + 1, 0, none⟩, .int .i64 ver), (⟨w.heap.size + 1, 1, none⟩, .slice bo n c'), (⟨w.heap.size, 0, none⟩, .int .i64 ver), (⟨w.heap.size, 1, none⟩, .slice ao n c)])) (fun iv _ => n - (intOf iv).toNat)
      case atStart => exact ⟨0, Nat.zero_le _, rfl, (fun j hj => by omega), K0⟩
      case round =>
        obtain ⟨k, hk, rfl, HA, HK⟩ := hrel
        clear K0
        have b1 := HK.out.get 1 rfl
        have b3 := HK.out.get 3 rfl
        by_cases hlt : k < n
        · have hkI : (k : Int) < (n : Int) := by omega
          obtain ⟨g, rfl, hg, hGB⟩ := (HG.out.below HK.out.1).head HL.out (by omega)
          obtain ⟨h, rfl, hh, hHB⟩ := (HH.out.below HK.out.1).head HL'.out (by omega)
          obtain ⟨ra, ca, a0, a1, a2⟩ := hGB k hlt
          obtain ⟨rb, cb, b0, b2, b4⟩ := hHB k hlt
          have A2 := Lib.hid a2
          have B2 := Lib.hid b4
          have hrl := HR.out k hlt
          have hrl' := HR'.out k hlt
          have HNO := Lib.hid (show Bn l k ≠ Bn l' k → ¬ EqT ver ver l l' from fun hne e => hne (by rw [e.2]))
          have HYE := Lib.hid (show Bn l k = Bn l' k → ∀ j, j < k + 1 → Bn l j = Bn l' j from fun e j hj => by
            by_cases h : j < k
            · exact HA.out j h
            · obtain rfl : j = k := by omega
              exact e)
          obtain ⟨x, hx⟩ : ∃ x, x = Bn l k := ⟨_, rfl⟩
          obtain ⟨y, hy⟩ : ∃ y, y = Bn l' k := ⟨_, rfl⟩
          rw [← hx] at a0 a1 A2 hrl HNO HYE
          rw [← hy] at b0 b2 B2 hrl' HNO HYE
          have Q := Lib.hid (And.intro b3 (And.intro b1 (And.intro a0 (And.intro a1 (And.intro b0 b2)))))
          clear hGB hHB a2 b4 hx hy
          go_wp2_with fail
          go_region_held3 (fun w' => w'.cell? ⟨w.heap.size, 1, none⟩ = some (.slice (some ⟨g, 0, none⟩) n c) ∧ w'.cell? ⟨w.heap.size + 1, 1, none⟩ = some (.slice (some ⟨h, 0, none⟩) n c') ∧ w'.cell? ⟨g, k * 2, none⟩ = some (.int .i64 x.id) ∧ w'.cell? ⟨g, k * 2 + 1, none⟩ = some (.slice ra x.rows.length ca) ∧ w'.cell? ⟨h, k * 2, none⟩ = some (.int .i64 y.id) ∧ w'.cell? ⟨h, k * 2 + 1, none⟩ = some (.slice rb y.rows.length cb) ∧ Below wr.heap.size wr w') (first | assumption | exact t6_at Q.out ((Below.refl _ _).drew) | exact t6_keep Q.out (by assumption) (by assumption)) (first | (go_simp; go_at_call 28; (with_reducible refine (spec_ebV x.id y.id ra rb x.rows.length y.rows.length ca cb (Rn x.rows) (Rn y.rows) _ hrl hrl' ?_ ?_).mono ?_); (exact A2.out.below (t6_b (by assumption))); (exact B2.out.below (t6_b (by assumption))); rintro e9 w9 ⟨v, hv, rfl, hb⟩))
          all_goals
            have K1 := Lib.hid (HK.out.step (t6_b (‹_ ∧ _ ∧ _ ∧ _ ∧ _ ∧ _ ∧ Below wr.heap.size wr w9›)))
            have HV := Lib.hid hv
            obtain ⟨w5, hw5⟩ : ∃ w5, w5 = w9 := ⟨_, rfl⟩
            clear hv hb Q a0 a1 b0 b1 b2 b3
            subst hw5
            cases v
            · have NO := Lib.hid (HNO.out fun e => absurd (HV.out.2 ((eqBlk_iff x y).2 e)) (by simp))
              clear HV
              go_wp2
              go_ret
              exact EtPost.no NO.out K1.out.1
            · have YE := Lib.hid (HYE.out ((eqBlk_iff x y).1 (HV.out.1 rfl)))
              clear HV
              go_wp2
              go_roundw
              case rel => exact ⟨k + 1, by omega, by go_num, YE.out, K1.out⟩
              case measure => simp [intOf]; omega
        · obtain rfl : k = n := by omega
          have hsd : decide ((k : Int) < (k : Int)) = false := decide_eq_false (by omega)
          have YES := Lib.hid (show EqT ver ver l l' from ⟨rfl, blks_ext (by rw [HL.out, HL'.out]) (fun j hj => HA.out j (by rw [HL.out] at hj; exact hj))⟩)
          go_wp2
          go_ret
          exact EtPost.yes YES.out HK.out.1
    · have q : ((n : Int) != (n' : Int)) = true := bne_iff_ne.2 (by omega)
      have NO := Lib.hid (show ¬ EqT ver ver l l' from fun e => hnn (by rw [← HL.out, ← HL'.out, e.2]))
      have HN := Lib.hid hnn
      clear hnn
      go_enter Try.func21, Try.ntmps21
      go_wp2_with fail
      have K0 := ((Kept.start w).alloc2 (.int .i64 ver) (.slice ao n c) 29 _ rfl).alloc2 (.int .i64 ver) (.slice bo n' c') 29 (w.heap.size + 1) (by simp)
      go_wp2
      go_ret
      exact EtPost.no NO.out K0.1
  · have q : (ver != ver') = true := bne_iff_ne.2 hv
    have NO := Lib.hid (show ¬ EqT ver ver' l l' from fun e => hv e.1)
    have HI := Lib.hid hv
    clear hv
    go_enter Try.func21, Try.ntmps21
    go_wp2_with fail
    have K0 := ((Kept.start w).alloc2 (.int .i64 ver) (.slice ao n c) 29 _ rfl).alloc2 (.int .i64 ver') (.slice bo n' c') 29 (w.heap.size + 1) (by simp)
    go_wp2
    go_ret
    exact EtPost.no NO.out K0.1
end Go.Proofs.Ytbaoipbfpjgglaa
