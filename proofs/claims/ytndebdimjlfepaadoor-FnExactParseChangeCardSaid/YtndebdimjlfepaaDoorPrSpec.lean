/-
  The walk over the model's ParseRow.
-/
import Derived.Test.YtndebdimjlfepaaDoorRows
import Derived.Test.YtndebdimjlfepaaDoorPrPlain
import Derived.Test.YtndebdimjlfepaaDoorCutSpec
import Derived.Test.YtndebdimjlfepaaDoorHeld5
import Derived.WalkKit
import Derived.WalkSpells
import Derived.WalkLawsBesides
import Derived.IntWalk
import Derived.Lib.Hide
import Derived.Deep.RegionHeld3
import Derived.Deep.DeepCutAuto
namespace Go.Proofs.YtndebdimjlfepaaDoor
open Go.RowKit Num

/-- What ParseRow leaves. -/
def PRPost (s : ByteArray) (w : World) (e : Ending) (w' : World) : Prop := (∃ (i g y x : Int) (nl ok : Bool), PRow s.data.toList i g y x nl ok ∧ e = .returned (.tuple #[.agg #[.int .i64 i, .int .i64 g, .int .i64 y, .int .i64 x, .bool nl], .bool ok])) ∧ Below w.heap.size w w'
theorem PRPost.mk {s : ByteArray} {w w' : World} {i g y x : Int} {nl ok : Bool} (h : PRow s.data.toList i g y x nl ok) (hb : Below w.heap.size w w') : PRPost s w (.returned (.tuple #[.agg #[.int .i64 i, .int .i64 g, .int .i64 y, .int .i64 x, .bool nl], .bool ok])) w' := ⟨⟨i, g, y, x, nl, ok, h, rfl⟩, hb⟩

theorem set5_below {B b : Nat} {W w : World} (h : Below B W w) (hb : B ≤ b) (v0 v1 v2 v3 v4 : Value) : Below B W (((((w.setCell ⟨b, 0, none⟩ v0).setCell ⟨b, 1, none⟩ v1).setCell ⟨b, 2, none⟩ v2).setCell ⟨b, 3, none⟩ v3).setCell ⟨b, 4, none⟩ v4) :=
  ((((h.setCell (p := ⟨b, 0, none⟩) hb _).setCell (p := ⟨b, 1, none⟩) hb _).setCell (p := ⟨b, 2, none⟩) hb _).setCell (p := ⟨b, 3, none⟩) hb _).setCell (p := ⟨b, 4, none⟩) hb _

/-- The last piece. -/
theorem last_of {l : List (List UInt8)} {m : Nat} (h : l.length = m + 1) : ∃ p, p ∈ l ∧ ∀ hj : m < l.length, l[m] = p := ⟨l[m]'(by omega), List.getElem_mem _, fun _ => rfl⟩

set_option maxRecDepth 8000 in
set_option maxHeartbeats 6400000 in
theorem spec_pr_a (s : ByteArray) (w : World) (hs : s.size ≤ 1048576) (ha : (pieces 58 s.data.toList).length ≠ 2) :
    Calls Tryd.prog 13 #[.string s] w (PRPost s w) := by
  have hl : s.data.toList.length = s.size := by simp
  have AN := Lib.hid (row_not2 ha)
  have hlen := pieces_len 58 s.data.toList
  obtain ⟨m, hm⟩ : ∃ m, (pieces 58 s.data.toList).length = m + 1 := ⟨(pieces 58 s.data.toList).length - 1, by omega⟩
  obtain ⟨p, hp, hpm⟩ := last_of hm
  have hpl := pieces_mem_len _ _ _ hp
  have C1 := Lib.hid (fun w => spec_cut s 58 w hs)
  have C2 := Lib.hid (fun w => spec_cut ⟨p.toArray⟩ 44 w (by show p.toArray.size ≤ _; simp; omega))
  have hm2 : ((m : Int) + 1 != 2) = true := bne_iff_ne.2 (by omega)
  have hmI : (m : Int) ≤ 1048576 := by omega
  have HM := Lib.hid hm
  have HPM := Lib.hid hpm
  clear ha hl hlen hm hp hpm hpl
  go_enter Tryd.func13, Tryd.ntmps13
  go_wp2_with fail
  have K0 := (Kept.start w).alloc5 (.int .i64 0) (.int .i64 0) (.int .i64 0) (.int .i64 0) (.bool false) 25 _ rfl
  refine (C1.out _).mono ?_
  rintro e w1 ⟨v1, rfl, hS, hb⟩
  obtain ⟨g1, cap1, hv, hg1, hlt1, hcap1, hcell⟩ := hS.form (by rw [HM.out]; omega)
  have K1 := K0.step hb
  have cl := (hcell m (by rw [HM.out]; omega)).1
  rw [HPM.out (by rw [HM.out]; omega)] at cl
  rw [HM.out] at hv hcap1
  subst hv
  clear hS hcell hb K0
  go_wp2_with fail
  refine (C2.out _).mono ?_
  rintro e w2 ⟨v2, rfl, hS, hb⟩
  have K2 := K1.step hb
  clear hS hb K1 cl
  have r0 := K2.get 0 rfl
  have r1 := K2.get 1 rfl
  have r2 := K2.get 2 rfl
  have r3 := K2.get 3 rfl
  have r4 := K2.get 4 rfl
  have q0 := K2.fz 0 rfl
  have q1 := K2.fz 1 rfl
  have q2 := K2.fz 2 rfl
  have q3 := K2.fz 3 rfl
  have q4 := K2.fz 4 rfl
  have yy := K2.lt 0 rfl
  go_wp2
  exact bodyPost_ret (v := .tuple #[.agg #[.int .i64 0, .int .i64 0, .int .i64 0, .int .i64 0, .bool false], .bool false]) (by simp [results, Tryd.results13, go_sem, r0, r1, r2, r3, r4, yy]) rfl (PRPost.mk AN.out (set5_below K2.1 (Nat.le_refl _) _ _ _ _ _))

set_option maxRecDepth 8000 in
set_option maxHeartbeats 6400000 in
theorem spec_pr_b (s : ByteArray) (w : World) (hs : s.size ≤ 1048576) (h0 h1 : List UInt8) (hp : pieces 58 s.data.toList = [h0, h1]) (ha : (pieces 44 h1).length ≠ 3) :
    Calls Tryd.prog 13 #[.string s] w (PRPost s w) := by
  have hl : s.data.toList.length = s.size := by simp
  have hpl := pieces_mem_len 58 s.data.toList h1 (by rw [hp]; simp)
  have C1 := Lib.hid (fun w => spec_cut s 58 w hs)
  have C2 := Lib.hid (fun w => spec_cut ⟨h1.toArray⟩ 44 w (by show h1.toArray.size ≤ _; simp; omega))
  have AN := Lib.hid (row_not3 hp ha)
  have hlen := pieces_len 44 h1
  obtain ⟨m, hm⟩ : ∃ m, (pieces 44 h1).length = m + 1 := ⟨(pieces 44 h1).length - 1, by omega⟩
  have hm3 : ((m : Int) + 1 != 3) = true := bne_iff_ne.2 (by omega)
  have hmI : (m : Int) ≤ 1048576 := by omega
  have HM := Lib.hid hm
  have HP := Lib.hid hp
  clear ha hl hlen hm hp hpl
  go_enter Tryd.func13, Tryd.ntmps13
  go_wp2_with fail
  have K0 := (Kept.start w).alloc5 (.int .i64 0) (.int .i64 0) (.int .i64 0) (.int .i64 0) (.bool false) 25 _ rfl
  refine (C1.out _).mono ?_
  rintro e w1 ⟨v1, rfl, hS, hb⟩
  rw [HP.out] at hS
  obtain ⟨g1, cap1, hv, hg1, hlt1, hcap1, hcell⟩ := hS.form (by simp)
  have K1a := K0.step hb
  obtain ⟨c0, z0⟩ := hcell 0 (by simp)
  obtain ⟨c1, z1⟩ := hcell 1 (by simp)
  simp only [List.getElem_cons_zero, List.getElem_cons_succ, List.length_cons, List.length_nil, Nat.zero_add, Nat.reduceAdd] at c0 c1 hv hcap1
  subst hv
  have K1 := (K1a.cons (a := ⟨g1, 1, none⟩) hlt1 c1 z1).cons (a := ⟨g1, 0, none⟩) hlt1 c0 z0
  clear hS hcell hb K0 K1a z0 z1
  go_wp2_with fail
  refine (C2.out _).mono ?_
  rintro e w2 ⟨v2, rfl, hS, hb⟩
  obtain ⟨g2, cap2, hv, hg2, hlt2, hcap2, hcell⟩ := hS.form (by have := HM.out; show 0 < (pieces 44 h1).length; omega)
  have K2 := K1.step hb
  rw [show (pieces 44 (⟨h1.toArray⟩ : ByteArray).data.toList).length = m + 1 from HM.out] at hv hcap2
  subst hv
  clear hS hcell hb K1 c0 c1
  have r2 := K2.get 2 rfl
  have r3 := K2.get 3 rfl
  have r4 := K2.get 4 rfl
  have r5 := K2.get 5 rfl
  have r6 := K2.get 6 rfl
  have q2 := K2.fz 2 rfl
  have q3 := K2.fz 3 rfl
  have q4 := K2.fz 4 rfl
  have q5 := K2.fz 5 rfl
  have q6 := K2.fz 6 rfl
  have yy := K2.lt 2 rfl
  go_wp2
  exact bodyPost_ret (v := .tuple #[.agg #[.int .i64 0, .int .i64 0, .int .i64 0, .int .i64 0, .bool false], .bool false]) (by simp [results, Tryd.results13, go_sem, r2, r3, r4, r5, r6, yy]) rfl (PRPost.mk AN.out (set5_below K2.1 (Nat.le_refl _) _ _ _ _ _))

set_option maxRecDepth 8000 in
set_option maxHeartbeats 6400000 in
theorem spec_pr_c (s : ByteArray) (w : World) (hs : s.size ≤ 1048576) (h0 h1 l0 l1 l2 : List UInt8) (hp : pieces 58 s.data.toList = [h0, h1]) (hq : pieces 44 h1 = [l0, l1, l2]) :
    Calls Tryd.prog 13 #[.string s] w (PRPost s w) := by
  have hl : s.data.toList.length = s.size := by simp
  have hpl := pieces_mem_len 58 s.data.toList h1 (by rw [hp]; simp)
  have C1 := Lib.hid (fun w => spec_cut s 58 w hs)
  have C2 := Lib.hid (fun w => spec_cut ⟨h1.toArray⟩ 44 w (by show h1.toArray.size ≤ _; simp; omega))
  have hq0 := pieces_mem_len 58 s.data.toList h0 (by rw [hp]; simp)
  have hr0 := pieces_mem_len 44 h1 l0 (by rw [hq]; simp)
  have hr1 := pieces_mem_len 44 h1 l1 (by rw [hq]; simp)
  have hr2 := pieces_mem_len 44 h1 l2 (by rw [hq]; simp)
  have N0 := Lib.hid (fun w => spec_num ⟨h0.toArray⟩ w (by show h0.toArray.size ≤ _; simp; omega))
  have N1 := Lib.hid (fun w => spec_num ⟨l0.toArray⟩ w (by show l0.toArray.size ≤ _; simp; omega))
  have N2 := Lib.hid (fun w => spec_num ⟨l1.toArray⟩ w (by show l1.toArray.size ≤ _; simp; omega))
  have N3 := Lib.hid (fun w => spec_num ⟨l2.toArray⟩ w (by show l2.toArray.size ≤ _; simp; omega))
  have NE := Lib.hid (row_ne hp)
  have HP := Lib.hid hp
  have HQ := Lib.hid hq
  clear hl hp hq hpl hq0 hr0 hr1 hr2
  go_enter Tryd.func13, Tryd.ntmps13
  go_wp2_with fail
  have K0 := (Kept.start w).alloc5 (.int .i64 0) (.int .i64 0) (.int .i64 0) (.int .i64 0) (.bool false) 25 _ rfl
  refine (C1.out _).mono ?_
  rintro e w1 ⟨v1, rfl, hS, hb⟩
  rw [HP.out] at hS
  obtain ⟨g1, cap1, hv, hg1, hlt1, hcap1, hcell⟩ := hS.form (by simp)
  have K1a := K0.step hb
  obtain ⟨c0, z0⟩ := hcell 0 (by simp)
  obtain ⟨c1, z1⟩ := hcell 1 (by simp)
  simp only [List.getElem_cons_zero, List.getElem_cons_succ, List.length_cons, List.length_nil, Nat.zero_add, Nat.reduceAdd] at c0 c1 hv hcap1
  subst hv
  have K1 := (K1a.cons (a := ⟨g1, 1, none⟩) hlt1 c1 z1).cons (a := ⟨g1, 0, none⟩) hlt1 c0 z0
  clear hS hcell hb K0 K1a z0 z1
  go_wp2_with fail
  refine (C2.out _).mono ?_
  rintro e w2 ⟨v2, rfl, hS, hb⟩
  rw [show pieces 44 (⟨h1.toArray⟩ : ByteArray).data.toList = [l0, l1, l2] from HQ.out] at hS
  obtain ⟨g2, cap2, hv, hg2, hlt2, hcap2, hcell⟩ := hS.form (by simp)
  have K2a := K1.step hb
  obtain ⟨d0, z0⟩ := hcell 0 (by simp)
  obtain ⟨d1, z1⟩ := hcell 1 (by simp)
  obtain ⟨d2, z2⟩ := hcell 2 (by simp)
  simp only [List.getElem_cons_zero, List.getElem_cons_succ, List.length_cons, List.length_nil, Nat.zero_add, Nat.reduceAdd] at d0 d1 d2 hv hcap2
  subst hv
  have K2 := ((K2a.cons (a := ⟨g2, 2, none⟩) hlt2 d2 z2).cons (a := ⟨g2, 1, none⟩) hlt2 d1 z1).cons (a := ⟨g2, 0, none⟩) hlt2 d0 z0
  clear hS hcell hb K1 K2a c0 c1 z0 z1 z2
  have hgw : w.heap.size < w2.heap.size := K2.lt 5 rfl
  have hg1w : g1 < w2.heap.size := K2.lt 3 rfl
  have hg2w : g2 < w2.heap.size := K2.lt 0 rfl
  go_upto_region 5 with fail
  go_cut [6] (fun s6 wx => ∃ (g6 : Nat) (n0 n1 n2 : Int), s6 = .pointer (some ⟨g6, 0, none⟩) ∧ Hid (NumAns h0 n0) ∧ Hid (NumAns l0 n1) ∧ Hid (NumAns l1 n2) ∧ (w.heap.size < g6 ∧ g1 < g6 ∧ g2 < g6) ∧ Kept w wx [(⟨g6, 0, none⟩, .int .i64 n0), (⟨g6, 1, none⟩, .int .i64 n1), (⟨g6, 2, none⟩, .int .i64 n2), (⟨g6, 3, none⟩, .int .i64 0), (⟨g6, 4, none⟩, .bool false), (⟨g2, 0, none⟩, .string ⟨l0.toArray⟩), (⟨g2, 1, none⟩, .string ⟨l1.toArray⟩), (⟨g2, 2, none⟩, .string ⟨l2.toArray⟩), (⟨g1, 0, none⟩, .string ⟨h0.toArray⟩), (⟨g1, 1, none⟩, .string ⟨h1.toArray⟩), (⟨w.heap.size, 0, none⟩, .int .i64 0), (⟨w.heap.size, 1, none⟩, .int .i64 0), (⟨w.heap.size, 2, none⟩, .int .i64 0), (⟨w.heap.size, 3, none⟩, .int .i64 0), (⟨w.heap.size, 4, none⟩, .bool false)])
  case first =>
    have K := K2
    have KD := K.drew
    have KA := (K.alloc5 (.int .i64 0) (.int .i64 0) (.int .i64 0) (.int .i64 0) (.bool false) 25 w2.heap.size rfl).drew
    have j0 := K.get 0 rfl
    have j1 := K.get 1 rfl
    have j2 := K.get 2 rfl
    have j3 := K.get 3 rfl
    have j4 := K.get 4 rfl
    have j5 := K.get 5 rfl
    have j6 := K.get 6 rfl
    have j7 := K.get 7 rfl
    have j8 := K.get 8 rfl
    have j9 := K.get 9 rfl
    have k0 := KD.get 0 rfl
    have k1 := KD.get 1 rfl
    have k2 := KD.get 2 rfl
    have k3 := KD.get 3 rfl
    have k4 := KD.get 4 rfl
    have k5 := KD.get 5 rfl
    have k6 := KD.get 6 rfl
    have k7 := KD.get 7 rfl
    have k8 := KD.get 8 rfl
    have k9 := KD.get 9 rfl
    go_region_held3 (fun w' => w'.cell? ⟨g1, 0, none⟩ = some (.string ⟨h0.toArray⟩) ∧ w'.cell? ⟨g2, 0, none⟩ = some (.string ⟨l0.toArray⟩) ∧ w'.cell? ⟨g2, 1, none⟩ = some (.string ⟨l1.toArray⟩)) (first | with_reducible exact ⟨k3, k0, k1⟩ | with_reducible exact ⟨k8, k5, k6⟩ | with_reducible exact c3_alloc (by assumption) | with_reducible exact c3_alloc ⟨k3, k0, k1⟩ | with_reducible exact c3_alloc ⟨k8, k5, k6⟩ | with_reducible exact c3_adrew ⟨j3, j0, j1⟩ | (with_reducible refine c3_set5 (by assumption) ?_ ?_ ?_) <;> (simp only; omega)) (first | (go_simp; go_at_call 43; (with_reducible refine (N0.out _).mono ?_); rintro e9 w9 ⟨⟨n0, hn0, rfl⟩, hb⟩; (first | (with_reducible have K := K.step hb) | (with_reducible have K := KD.step hb) | (with_reducible have K := KA.step hb) | (with_reducible have K := (K.alloc5 (.int .i64 0) (.int .i64 0) (.int .i64 0) (.int .i64 0) (.bool false) 25 _ rfl).step hb)); (try have k0 := K.get 0 rfl); (try have k1 := K.get 1 rfl); (try have k2 := K.get 2 rfl); (try have k3 := K.get 3 rfl); (try have k4 := K.get 4 rfl); (try have k5 := K.get 5 rfl); (try have k6 := K.get 6 rfl); (try have k7 := K.get 7 rfl); (try have k8 := K.get 8 rfl); (try have k9 := K.get 9 rfl); (try have k10 := K.get 10 rfl); (try have k11 := K.get 11 rfl); (try have k12 := K.get 12 rfl); (try have k13 := K.get 13 rfl); (try have k14 := K.get 14 rfl); have f0 := K.fz 0 rfl; have f1 := K.fz 1 rfl; have f2 := K.fz 2 rfl; have f3 := K.fz 3 rfl; have f4 := K.fz 4 rfl; (try have z0 := K.lt 0 rfl); (try have z3 := K.lt 3 rfl); (try have z5 := K.lt 5 rfl); (try have z8 := K.lt 8 rfl); clear hb) | (go_simp; go_at_call 43; (with_reducible refine (N1.out _).mono ?_); rintro e9 w9 ⟨⟨n1, hn1, rfl⟩, hb⟩; (first | (with_reducible have K := K.step hb) | (with_reducible have K := KD.step hb) | (with_reducible have K := KA.step hb) | (with_reducible have K := (K.alloc5 (.int .i64 0) (.int .i64 0) (.int .i64 0) (.int .i64 0) (.bool false) 25 _ rfl).step hb)); (try have k0 := K.get 0 rfl); (try have k1 := K.get 1 rfl); (try have k2 := K.get 2 rfl); (try have k3 := K.get 3 rfl); (try have k4 := K.get 4 rfl); (try have k5 := K.get 5 rfl); (try have k6 := K.get 6 rfl); (try have k7 := K.get 7 rfl); (try have k8 := K.get 8 rfl); (try have k9 := K.get 9 rfl); (try have k10 := K.get 10 rfl); (try have k11 := K.get 11 rfl); (try have k12 := K.get 12 rfl); (try have k13 := K.get 13 rfl); (try have k14 := K.get 14 rfl); have f0 := K.fz 0 rfl; have f1 := K.fz 1 rfl; have f2 := K.fz 2 rfl; have f3 := K.fz 3 rfl; have f4 := K.fz 4 rfl; (try have z0 := K.lt 0 rfl); (try have z3 := K.lt 3 rfl); (try have z5 := K.lt 5 rfl); (try have z8 := K.lt 8 rfl); clear hb) | (go_simp; go_at_call 43; (with_reducible refine (N2.out _).mono ?_); rintro e9 w9 ⟨⟨n2, hn2, rfl⟩, hb⟩; (first | (with_reducible have K := K.step hb) | (with_reducible have K := KD.step hb) | (with_reducible have K := KA.step hb) | (with_reducible have K := (K.alloc5 (.int .i64 0) (.int .i64 0) (.int .i64 0) (.int .i64 0) (.bool false) 25 _ rfl).step hb)); (try have k0 := K.get 0 rfl); (try have k1 := K.get 1 rfl); (try have k2 := K.get 2 rfl); (try have k3 := K.get 3 rfl); (try have k4 := K.get 4 rfl); (try have k5 := K.get 5 rfl); (try have k6 := K.get 6 rfl); (try have k7 := K.get 7 rfl); (try have k8 := K.get 8 rfl); (try have k9 := K.get 9 rfl); (try have k10 := K.get 10 rfl); (try have k11 := K.get 11 rfl); (try have k12 := K.get 12 rfl); (try have k13 := K.get 13 rfl); (try have k14 := K.get 14 rfl); have f0 := K.fz 0 rfl; have f1 := K.fz 1 rfl; have f2 := K.fz 2 rfl; have f3 := K.fz 3 rfl; have f4 := K.fz 4 rfl; (try have z0 := K.lt 0 rfl); (try have z3 := K.lt 3 rfl); (try have z5 := K.lt 5 rfl); (try have z8 := K.lt 8 rfl); clear hb))
    all_goals
      have HN0 := Lib.hid hn0
      have HN1 := Lib.hid hn1
      have HN2 := Lib.hid hn2
      clear hn0 hn1 hn2
      go_wp2_with fail
      go_meet
      refine ⟨_, n0, n1, n2, rfl, HN0.out, HN1.out, HN2.out, ?_, ?_⟩
      · exact ⟨by omega, by omega, by omega⟩
      · (first | with_reducible exact K.alloc5 _ _ _ _ _ _ _ rfl | exact K.set5 _ _ _ _ _ (by omega) (by simp only [List.mem_cons, List.not_mem_nil, or_false]; rintro c (rfl | rfl | rfl | rfl | rfl | rfl | rfl | rfl | rfl | rfl) <;> simp only <;> omega))
  case rest =>
    obtain ⟨g6, n0, n1, n2, rfl, A0, A1, A2, ⟨hg6, hg7, hg8⟩, K⟩ := hcut
    clear K2
    have R1 := numAns_rng A0.out
    have R2 := numAns_rng A1.out
    have R3 := numAns_rng A2.out
    have t2 := K.get 7 rfl
    have u3 := K.fz 3 rfl
    have u4 := K.fz 4 rfl
    have v0 := K.get 0 rfl
    have v1 := K.get 1 rfl
    have v2 := K.get 2 rfl
    have v3 := K.get 3 rfl
    have v4 := K.get 4 rfl
    by_cases hn : l2 = nullW
    · have q : (l2 == [110, 117, 108, 108]) = true := by rw [hn]; rfl
      have HNN := Lib.hid (show pieces 44 h1 = [l0, l1, nullW] by rw [← hn]; exact HQ.out)
      have K5 := Kept.set (p := [(⟨g6, 0, none⟩, .int .i64 n0), (⟨g6, 1, none⟩, .int .i64 n1), (⟨g6, 2, none⟩, .int .i64 n2), (⟨g6, 3, none⟩, .int .i64 0)]) K (.bool true) (by simp only; omega) (by simp only [List.cons_append, List.nil_append, List.mem_cons, List.not_mem_nil, or_false]; rintro c9 (rfl | rfl | rfl | rfl | rfl | rfl | rfl | rfl | rfl | rfl | rfl | rfl | rfl | rfl) <;> simp <;> omega)
      clear hn
      have HF := Lib.hid (row_null HP.out HNN.out A0.out A1.out A2.out)
      have HY := Lib.hid (fun h9 => PRow_yes (i := n0) (g := n1) (y := n2) (x := 0) (nl := true) NE.out h9)
      have FF := Lib.hid (fun w => spec_fr n0 n1 n2 0 true w)
      obtain ⟨fl, hfl⟩ : ∃ fl, fl = fmtR n0 n1 n2 0 true := ⟨_, rfl⟩
      rw [← hfl] at HF HY FF
      clear hfl
      have m0 := K5.get 0 rfl
      have m1 := K5.get 1 rfl
      have m2 := K5.get 2 rfl
      have m3 := K5.get 3 rfl
      have m4 := K5.get 4 rfl
      go_wp2_with fail
      refine (FF.out _).mono ?_
      rintro e9 w8 ⟨rfl, hb⟩
      have K8 := K5.step hb
      clear hb K5 K m0 m1 m2 m3 m4
      have m0 := K8.get 0 rfl
      have m1 := K8.get 1 rfl
      have m2 := K8.get 2 rfl
      have m3 := K8.get 3 rfl
      have m4 := K8.get 4 rfl
      by_cases hq : s.data.toList = fl
      · have q9 : (fl == s.toList) = true := by rw [eq_bytes]; exact decide_eq_true hq
        have AN := Lib.hid (HY.out hq)
        clear hq
        have r10 := K8.get 10 rfl
        have r11 := K8.get 11 rfl
        have r12 := K8.get 12 rfl
        have r13 := K8.get 13 rfl
        have r14 := K8.get 14 rfl
        have q10 := K8.fz 10 rfl
        have q11 := K8.fz 11 rfl
        have q12 := K8.fz 12 rfl
        have q13 := K8.fz 13 rfl
        have q14 := K8.fz 14 rfl
        have yy := K8.lt 10 rfl
        go_wp2
        exact bodyPost_ret (v := .tuple #[.agg #[.int .i64 n0, .int .i64 n1, .int .i64 n2, .int .i64 0, .bool true], .bool true]) (by simp [results, Tryd.results13, go_sem, r10, r11, r12, r13, r14, yy]) rfl (PRPost.mk AN.out (set5_below K8.1 (Nat.le_refl _) _ _ _ _ _))
      · have q9 : (fl == s.toList) = false := by rw [eq_bytes]; exact decide_eq_false hq
        have AN := Lib.hid (HF.out hq)
        clear hq
        have r10 := K8.get 10 rfl
        have r11 := K8.get 11 rfl
        have r12 := K8.get 12 rfl
        have r13 := K8.get 13 rfl
        have r14 := K8.get 14 rfl
        have q10 := K8.fz 10 rfl
        have q11 := K8.fz 11 rfl
        have q12 := K8.fz 12 rfl
        have q13 := K8.fz 13 rfl
        have q14 := K8.fz 14 rfl
        have yy := K8.lt 10 rfl
        go_wp2
        exact bodyPost_ret (v := .tuple #[.agg #[.int .i64 0, .int .i64 0, .int .i64 0, .int .i64 0, .bool false], .bool false]) (by simp [results, Tryd.results13, go_sem, r10, r11, r12, r13, r14, yy]) rfl (PRPost.mk AN.out (set5_below K8.1 (Nat.le_refl _) _ _ _ _ _))
    · have q : (l2 == [110, 117, 108, 108]) = false := beq_eq_false_iff_ne.2 hn
      have HNN := Lib.hid hn
      clear hn
      go_wp2_with fail
      refine (N3.out _).mono ?_
      rintro e9 w7 ⟨⟨n3, hn3, rfl⟩, hb⟩
      have A3 := Lib.hid (show NumAns l2 n3 from hn3)
      have R4 := numAns_rng A3.out
      have K4 := K.step hb
      clear hb K hn3 t2 u3 u4 v0 v1 v2 v3 v4
      have u3 := K4.fz 3 rfl
      have v0 := K4.get 0 rfl
      have v1 := K4.get 1 rfl
      have v2 := K4.get 2 rfl
      have v3 := K4.get 3 rfl
      have v4 := K4.get 4 rfl
      have K5 := Kept.set (p := [(⟨g6, 0, none⟩, .int .i64 n0), (⟨g6, 1, none⟩, .int .i64 n1), (⟨g6, 2, none⟩, .int .i64 n2)]) K4 (.int .i64 n3) (by simp only; omega) (by simp only [List.cons_append, List.nil_append, List.mem_cons, List.not_mem_nil, or_false]; rintro c9 (rfl | rfl | rfl | rfl | rfl | rfl | rfl | rfl | rfl | rfl | rfl | rfl | rfl | rfl) <;> simp <;> omega)
      have HF := Lib.hid (row_num HP.out HQ.out HNN.out A0.out A1.out A2.out A3.out)
      have HY := Lib.hid (fun h9 => PRow_yes (i := n0) (g := n1) (y := n2) (x := n3) (nl := false) NE.out h9)
      have FF := Lib.hid (fun w => spec_fr n0 n1 n2 n3 false w)
      obtain ⟨fl, hfl⟩ : ∃ fl, fl = fmtR n0 n1 n2 n3 false := ⟨_, rfl⟩
      rw [← hfl] at HF HY FF
      clear hfl
      have m0 := K5.get 0 rfl
      have m1 := K5.get 1 rfl
      have m2 := K5.get 2 rfl
      have m3 := K5.get 3 rfl
      have m4 := K5.get 4 rfl
      go_wp2_with fail
      refine (FF.out _).mono ?_
      rintro e9 w8 ⟨rfl, hb⟩
      have K8 := K5.step hb
      clear hb K5 K4 m0 m1 m2 m3 m4
      have m0 := K8.get 0 rfl
      have m1 := K8.get 1 rfl
      have m2 := K8.get 2 rfl
      have m3 := K8.get 3 rfl
      have m4 := K8.get 4 rfl
      by_cases hq : s.data.toList = fl
      · have q9 : (fl == s.toList) = true := by rw [eq_bytes]; exact decide_eq_true hq
        have AN := Lib.hid (HY.out hq)
        clear hq
        have r10 := K8.get 10 rfl
        have r11 := K8.get 11 rfl
        have r12 := K8.get 12 rfl
        have r13 := K8.get 13 rfl
        have r14 := K8.get 14 rfl
        have q10 := K8.fz 10 rfl
        have q11 := K8.fz 11 rfl
        have q12 := K8.fz 12 rfl
        have q13 := K8.fz 13 rfl
        have q14 := K8.fz 14 rfl
        have yy := K8.lt 10 rfl
        go_wp2
        exact bodyPost_ret (v := .tuple #[.agg #[.int .i64 n0, .int .i64 n1, .int .i64 n2, .int .i64 n3, .bool false], .bool true]) (by simp [results, Tryd.results13, go_sem, r10, r11, r12, r13, r14, yy]) rfl (PRPost.mk AN.out (set5_below K8.1 (Nat.le_refl _) _ _ _ _ _))
      · have q9 : (fl == s.toList) = false := by rw [eq_bytes]; exact decide_eq_false hq
        have AN := Lib.hid (HF.out hq)
        clear hq
        have r10 := K8.get 10 rfl
        have r11 := K8.get 11 rfl
        have r12 := K8.get 12 rfl
        have r13 := K8.get 13 rfl
        have r14 := K8.get 14 rfl
        have q10 := K8.fz 10 rfl
        have q11 := K8.fz 11 rfl
        have q12 := K8.fz 12 rfl
        have q13 := K8.fz 13 rfl
        have q14 := K8.fz 14 rfl
        have yy := K8.lt 10 rfl
        go_wp2
        exact bodyPost_ret (v := .tuple #[.agg #[.int .i64 0, .int .i64 0, .int .i64 0, .int .i64 0, .bool false], .bool false]) (by simp [results, Tryd.results13, go_sem, r10, r11, r12, r13, r14, yy]) rfl (PRPost.mk AN.out (set5_below K8.1 (Nat.le_refl _) _ _ _ _ _))

theorem spec_pr (s : ByteArray) (w : World) (hs : s.size ≤ 1048576) :
    Calls Tryd.prog 13 #[.string s] w (PRPost s w) := by
  by_cases ha : (pieces 58 s.data.toList).length = 2
  · obtain ⟨h0, h1, hp⟩ : ∃ h0 h1, pieces 58 s.data.toList = [h0, h1] := by
      match h : pieces 58 s.data.toList, ha with
      | [h0, h1], _ => exact ⟨h0, h1, rfl⟩
    by_cases hb : (pieces 44 h1).length = 3
    · obtain ⟨l0, l1, l2, hq⟩ : ∃ l0 l1 l2, pieces 44 h1 = [l0, l1, l2] := by
        match h : pieces 44 h1, hb with
        | [l0, l1, l2], _ => exact ⟨l0, l1, l2, rfl⟩
      exact spec_pr_c s w hs h0 h1 l0 l1 l2 hp hq
    · exact spec_pr_b s w hs h0 h1 hp hb
  · exact spec_pr_a s w hs ha
end Go.Proofs.YtndebdimjlfepaaDoor
