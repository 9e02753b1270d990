/-
  The walk over the model's ParseChange.
-/
import Derived.Test.YtndebdimjlfepaaDoorRows
import Derived.Test.YtndebdimjlfepaaDoorPcPlain
import Derived.Test.YtndebdimjlfepaaDoorFmcSpec
import Derived.Test.YtndebdimjlfepaaDoorPrSpec
import Derived.Test.YtndebdimjlfepaaDoorCutSpec
namespace Go.Proofs.YtndebdimjlfepaaDoor
open Go.RowKit Num

/-- What ParseChange leaves. -/
def PCPost (s : ByteArray) (w : World) (e : Ending) (w' : World) : Prop :=
  ∃ (c : Cg) (ok : Bool), PCh s.data.toList c ok ∧ e = .returned (.tuple #[.agg #[.int .i64 c.k, .int .i64 c.b, .int .i64 c.r.i, .int .i64 c.r.g, .int .i64 c.r.y, .int .i64 c.r.x, .bool c.r.nl], .bool ok]) ∧ Below w.heap.size w w'
theorem PCPost.no {s : ByteArray} {w w' : World} (h : NoCh s.data.toList) (hb : Below w.heap.size w w') : PCPost s w (.returned (.tuple #[.agg #[.int .i64 0, .int .i64 0, .int .i64 0, .int .i64 0, .int .i64 0, .int .i64 0, .bool false], .bool false])) w' :=
  ⟨cg0, false, .inr ⟨rfl, rfl, h⟩, rfl, hb⟩
theorem set7_below {B b : Nat} {W w : World} (h : Below B W w) (hb : B ≤ b) (v0 v1 v2 v3 v4 v5 v6 : Value) : Below B W (((((((w.setCell ⟨b, 0, none⟩ v0).setCell ⟨b, 1, none⟩ v1).setCell ⟨b, 2, none⟩ v2).setCell ⟨b, 3, none⟩ v3).setCell ⟨b, 4, none⟩ v4).setCell ⟨b, 5, none⟩ v5).setCell ⟨b, 6, none⟩ v6) :=
  ((((((h.setCell hb _).setCell hb _).setCell hb _).setCell hb _).setCell hb _).setCell hb _).setCell hb _

-- GEN
set_option maxRecDepth 8000 in
set_option maxHeartbeats 6400000 in
theorem spec_pc_append2 (s : ByteArray) (w : World) (hs : s.size ≤ 1048576) (p1 : List UInt8) (hp : pieces 32 s.data.toList = [wAppend, p1]) :
    Calls Tryd.prog 34 #[.string s] w (PCPost s w) := by
  have hl : s.data.toList.length = s.size := by simp
  have hp1 := pieces_mem_len 32 s.data.toList p1 (by rw [hp]; simp)
  have sne : s.data.toList ≠ [] := fun h => by rw [h] at hp; simp [pieces] at hp
  have C1 := Lib.hid (fun w => spec_cut s 32 w hs)
  have N1 := Lib.hid (fun w => spec_num ⟨p1.toArray⟩ w (by show p1.toArray.size ≤ _; simp; omega))
  have R1 := Lib.hid (fun w => spec_pr ⟨p1.toArray⟩ w (by show p1.toArray.size ≤ _; simp; omega))
  have HP := Lib.hid hp
  have zappend : ([97, 112, 112, 101, 110, 100] == ([97, 112, 112, 101, 110, 100] : List UInt8)) = true := by decide
  have zcorrect : ([97, 112, 112, 101, 110, 100] == ([99, 111, 114, 114, 101, 99, 116] : List UInt8)) = false := by decide
  have zdelete : ([97, 112, 112, 101, 110, 100] == ([100, 101, 108, 101, 116, 101] : List UInt8)) = false := by decide
  have zretain : ([97, 112, 112, 101, 110, 100] == ([114, 101, 116, 97, 105, 110] : List UInt8)) = false := by decide
  clear hl hp hp1
  go_enter Tryd.func34, Tryd.ntmps34
  go_wp2_with fail
  have K0 := (Kept.start w).alloc7 (.int .i64 0) (.int .i64 0) (.int .i64 0) (.int .i64 0) (.int .i64 0) (.int .i64 0) (.bool false) 61 _ rfl
  refine (C1.out _).mono ?_
  rintro e w1 ⟨v1, rfl, hS, hb⟩
  rw [HP.out] at hS
  obtain ⟨g1, cap1, hv, hg1, hlt1, hcap1, hcell⟩ := hS.form (by simp)
  have K1a := K0.step hb
  obtain ⟨c0, f0⟩ := hcell 0 (by simp)
  obtain ⟨c1, f1⟩ := hcell 1 (by simp)
  simp only [List.getElem_cons_zero, List.getElem_cons_succ, List.length_cons, List.length_nil, Nat.zero_add, Nat.reduceAdd] at c0 c1 hv hcap1
  unfold wAppend at c0
  subst hv
  have K1 := ((K1a).cons (a := ⟨g1, 1, none⟩) hlt1 c1 f1).cons (a := ⟨g1, 0, none⟩) hlt1 c0 f0
  have hw1 : w.heap.size < w1.heap.size := K1a.lt 0 rfl
  clear hS hcell hb K0 K1a f0 f1
  have K2 := K1.alloc7 (.int .i64 1) (.int .i64 0) (.int .i64 0) (.int .i64 0) (.int .i64 0) (.int .i64 0) (.bool false) 61 w1.heap.size rfl
  go_wp2_with fail
  refine (N1.out _).mono ?_
  rintro e w2 ⟨⟨n, hn, rfl⟩, hb⟩
  have K3 := K2.step hb
  clear hb K2
  have HN := Lib.hid (show NumAns p1 n from hn)
  clear hn c0 c1
  have ax0 := K3.get 0 rfl
  have ax1 := K3.get 1 rfl
  have ax2 := K3.get 2 rfl
  have ax3 := K3.get 3 rfl
  have ax4 := K3.get 4 rfl
  have ax5 := K3.get 5 rfl
  have ax6 := K3.get 6 rfl
  have axf0 := K3.fz 0 rfl
  have axf1 := K3.fz 1 rfl
  have axf2 := K3.fz 2 rfl
  have axf3 := K3.fz 3 rfl
  have axf4 := K3.fz 4 rfl
  have axf5 := K3.fz 5 rfl
  have axf6 := K3.fz 6 rfl
  have ac0 := K3.get 7 rfl
  have ac1 := K3.get 8 rfl
  have KS := K3
  have K4 := Kept.set (p := [(⟨w1.heap.size, 0, none⟩, .int .i64 1)]) (q := [(⟨w1.heap.size, 2, none⟩, .int .i64 0), (⟨w1.heap.size, 3, none⟩, .int .i64 0), (⟨w1.heap.size, 4, none⟩, .int .i64 0), (⟨w1.heap.size, 5, none⟩, .int .i64 0), (⟨w1.heap.size, 6, none⟩, .bool false), (⟨g1, 0, none⟩, .string ⟨#[97, 112, 112, 101, 110, 100]⟩), (⟨g1, 1, none⟩, .string ⟨p1.toArray⟩), (⟨w.heap.size, 0, none⟩, .int .i64 0), (⟨w.heap.size, 1, none⟩, .int .i64 0), (⟨w.heap.size, 2, none⟩, .int .i64 0), (⟨w.heap.size, 3, none⟩, .int .i64 0), (⟨w.heap.size, 4, none⟩, .int .i64 0), (⟨w.heap.size, 5, none⟩, .int .i64 0), (⟨w.heap.size, 6, none⟩, .bool false)]) (a := ⟨w1.heap.size, 1, none⟩) (v := .int .i64 0) K3 (.int .i64 n) (by simp only; omega) (by simp only [List.cons_append, List.nil_append, List.mem_cons, List.not_mem_nil, or_false]; rintro c9 (rfl | rfl | rfl | rfl | rfl | rfl | rfl | rfl | rfl | rfl | rfl | rfl | rfl | rfl | rfl) <;> simp <;> omega)
  clear K3
  go_wp2_with fail
  refine (R1.out _).mono ?_
  rintro e w3 ⟨⟨ri, rg, ry, rx, rnl, ok, hr, rfl⟩, hb⟩
  have K5 := K4.step hb
  clear hb K4
  have HR := Lib.hid (show RdR p1 ⟨ri, rg, ry, rx, rnl⟩ ok from hr)
  clear hr KS ax0 ax1 ax2 ax3 ax4 ax5 ax6 axf0 axf1 axf2 axf3 axf4 axf5 axf6 ac0 ac1
  have bx0 := K5.get 0 rfl
  have bx1 := K5.get 1 rfl
  have bx2 := K5.get 2 rfl
  have bx3 := K5.get 3 rfl
  have bx4 := K5.get 4 rfl
  have bx5 := K5.get 5 rfl
  have bx6 := K5.get 6 rfl
  have bxf0 := K5.fz 0 rfl
  have bxf1 := K5.fz 1 rfl
  have bxf2 := K5.fz 2 rfl
  have bxf3 := K5.fz 3 rfl
  have bxf4 := K5.fz 4 rfl
  have bxf5 := K5.fz 5 rfl
  have bxf6 := K5.fz 6 rfl
  have bc0 := K5.get 7 rfl
  have bc1 := K5.get 8 rfl
  have K6 := Kept.set (p := [(⟨w1.heap.size, 0, none⟩, .int .i64 1), (⟨w1.heap.size, 1, none⟩, .int .i64 n)]) (q := [(⟨w1.heap.size, 3, none⟩, .int .i64 0), (⟨w1.heap.size, 4, none⟩, .int .i64 0), (⟨w1.heap.size, 5, none⟩, .int .i64 0), (⟨w1.heap.size, 6, none⟩, .bool false), (⟨g1, 0, none⟩, .string ⟨#[97, 112, 112, 101, 110, 100]⟩), (⟨g1, 1, none⟩, .string ⟨p1.toArray⟩), (⟨w.heap.size, 0, none⟩, .int .i64 0), (⟨w.heap.size, 1, none⟩, .int .i64 0), (⟨w.heap.size, 2, none⟩, .int .i64 0), (⟨w.heap.size, 3, none⟩, .int .i64 0), (⟨w.heap.size, 4, none⟩, .int .i64 0), (⟨w.heap.size, 5, none⟩, .int .i64 0), (⟨w.heap.size, 6, none⟩, .bool false)]) (a := ⟨w1.heap.size, 2, none⟩) (v := .int .i64 0) K5 (.int .i64 ri) (by simp only; omega) (by simp only [List.cons_append, List.nil_append, List.mem_cons, List.not_mem_nil, or_false]; rintro c9 (rfl | rfl | rfl | rfl | rfl | rfl | rfl | rfl | rfl | rfl | rfl | rfl | rfl | rfl | rfl) <;> simp <;> omega)
  clear K5
  have K7 := Kept.set (p := [(⟨w1.heap.size, 0, none⟩, .int .i64 1), (⟨w1.heap.size, 1, none⟩, .int .i64 n), (⟨w1.heap.size, 2, none⟩, .int .i64 ri)]) (q := [(⟨w1.heap.size, 4, none⟩, .int .i64 0), (⟨w1.heap.size, 5, none⟩, .int .i64 0), (⟨w1.heap.size, 6, none⟩, .bool false), (⟨g1, 0, none⟩, .string ⟨#[97, 112, 112, 101, 110, 100]⟩), (⟨g1, 1, none⟩, .string ⟨p1.toArray⟩), (⟨w.heap.size, 0, none⟩, .int .i64 0), (⟨w.heap.size, 1, none⟩, .int .i64 0), (⟨w.heap.size, 2, none⟩, .int .i64 0), (⟨w.heap.size, 3, none⟩, .int .i64 0), (⟨w.heap.size, 4, none⟩, .int .i64 0), (⟨w.heap.size, 5, none⟩, .int .i64 0), (⟨w.heap.size, 6, none⟩, .bool false)]) (a := ⟨w1.heap.size, 3, none⟩) (v := .int .i64 0) K6 (.int .i64 rg) (by simp only; omega) (by simp only [List.cons_append, List.nil_append, List.mem_cons, List.not_mem_nil, or_false]; rintro c9 (rfl | rfl | rfl | rfl | rfl | rfl | rfl | rfl | rfl | rfl | rfl | rfl | rfl | rfl | rfl) <;> simp <;> omega)
  clear K6
  have K8 := Kept.set (p := [(⟨w1.heap.size, 0, none⟩, .int .i64 1), (⟨w1.heap.size, 1, none⟩, .int .i64 n), (⟨w1.heap.size, 2, none⟩, .int .i64 ri), (⟨w1.heap.size, 3, none⟩, .int .i64 rg)]) (q := [(⟨w1.heap.size, 5, none⟩, .int .i64 0), (⟨w1.heap.size, 6, none⟩, .bool false), (⟨g1, 0, none⟩, .string ⟨#[97, 112, 112, 101, 110, 100]⟩), (⟨g1, 1, none⟩, .string ⟨p1.toArray⟩), (⟨w.heap.size, 0, none⟩, .int .i64 0), (⟨w.heap.size, 1, none⟩, .int .i64 0), (⟨w.heap.size, 2, none⟩, .int .i64 0), (⟨w.heap.size, 3, none⟩, .int .i64 0), (⟨w.heap.size, 4, none⟩, .int .i64 0), (⟨w.heap.size, 5, none⟩, .int .i64 0), (⟨w.heap.size, 6, none⟩, .bool false)]) (a := ⟨w1.heap.size, 4, none⟩) (v := .int .i64 0) K7 (.int .i64 ry) (by simp only; omega) (by simp only [List.cons_append, List.nil_append, List.mem_cons, List.not_mem_nil, or_false]; rintro c9 (rfl | rfl | rfl | rfl | rfl | rfl | rfl | rfl | rfl | rfl | rfl | rfl | rfl | rfl | rfl) <;> simp <;> omega)
  clear K7
  have K9 := Kept.set (p := [(⟨w1.heap.size, 0, none⟩, .int .i64 1), (⟨w1.heap.size, 1, none⟩, .int .i64 n), (⟨w1.heap.size, 2, none⟩, .int .i64 ri), (⟨w1.heap.size, 3, none⟩, .int .i64 rg), (⟨w1.heap.size, 4, none⟩, .int .i64 ry)]) (q := [(⟨w1.heap.size, 6, none⟩, .bool false), (⟨g1, 0, none⟩, .string ⟨#[97, 112, 112, 101, 110, 100]⟩), (⟨g1, 1, none⟩, .string ⟨p1.toArray⟩), (⟨w.heap.size, 0, none⟩, .int .i64 0), (⟨w.heap.size, 1, none⟩, .int .i64 0), (⟨w.heap.size, 2, none⟩, .int .i64 0), (⟨w.heap.size, 3, none⟩, .int .i64 0), (⟨w.heap.size, 4, none⟩, .int .i64 0), (⟨w.heap.size, 5, none⟩, .int .i64 0), (⟨w.heap.size, 6, none⟩, .bool false)]) (a := ⟨w1.heap.size, 5, none⟩) (v := .int .i64 0) K8 (.int .i64 rx) (by simp only; omega) (by simp only [List.cons_append, List.nil_append, List.mem_cons, List.not_mem_nil, or_false]; rintro c9 (rfl | rfl | rfl | rfl | rfl | rfl | rfl | rfl | rfl | rfl | rfl | rfl | rfl | rfl | rfl) <;> simp <;> omega)
  clear K8
  have K10 := Kept.set (p := [(⟨w1.heap.size, 0, none⟩, .int .i64 1), (⟨w1.heap.size, 1, none⟩, .int .i64 n), (⟨w1.heap.size, 2, none⟩, .int .i64 ri), (⟨w1.heap.size, 3, none⟩, .int .i64 rg), (⟨w1.heap.size, 4, none⟩, .int .i64 ry), (⟨w1.heap.size, 5, none⟩, .int .i64 rx)]) (q := [(⟨g1, 0, none⟩, .string ⟨#[97, 112, 112, 101, 110, 100]⟩), (⟨g1, 1, none⟩, .string ⟨p1.toArray⟩), (⟨w.heap.size, 0, none⟩, .int .i64 0), (⟨w.heap.size, 1, none⟩, .int .i64 0), (⟨w.heap.size, 2, none⟩, .int .i64 0), (⟨w.heap.size, 3, none⟩, .int .i64 0), (⟨w.heap.size, 4, none⟩, .int .i64 0), (⟨w.heap.size, 5, none⟩, .int .i64 0), (⟨w.heap.size, 6, none⟩, .bool false)]) (a := ⟨w1.heap.size, 6, none⟩) (v := .bool false) K9 (.bool rnl) (by simp only; omega) (by simp only [List.cons_append, List.nil_append, List.mem_cons, List.not_mem_nil, or_false]; rintro c9 (rfl | rfl | rfl | rfl | rfl | rfl | rfl | rfl | rfl | rfl | rfl | rfl | rfl | rfl | rfl) <;> simp <;> omega)
  clear K9
  have FM0 := fun w => spec_fmtC ⟨1, n, ⟨ri, rg, ry, rx, rnl⟩⟩ w
  have NO := Lib.hid (fun hne => cand_no (c := ⟨1, n, ⟨ri, rg, ry, rx, rnl⟩⟩) HP.out (pl := p1) rfl (.inl ⟨rfl, n, _, ok, HN.out, HR.out, rfl⟩) hne)
  have YES := Lib.hid (fun h => PCh.of (c := ⟨1, n, ⟨ri, rg, ry, rx, rnl⟩⟩) sne h)
  unfold FcPost at FM0
  obtain ⟨fl, hfl⟩ : ∃ fl, fl = fmtC ⟨1, n, ⟨ri, rg, ry, rx, rnl⟩⟩ := ⟨_, rfl⟩
  rw [← hfl] at FM0 NO YES
  have FM := Lib.hid FM0
  clear FM0 hfl
  go_wp2_with fail
  refine (FM.out _).mono ?_
  rintro e w4 ⟨rfl, hb⟩
  have K11 := K10.step hb
  clear hb K10
  clear bx0 bx1 bx2 bx3 bx4 bx5 bx6 bxf0 bxf1 bxf2 bxf3 bxf4 bxf5 bxf6 bc0 bc1
  have x0 := K11.get 0 rfl
  have x1 := K11.get 1 rfl
  have x2 := K11.get 2 rfl
  have x3 := K11.get 3 rfl
  have x4 := K11.get 4 rfl
  have x5 := K11.get 5 rfl
  have x6 := K11.get 6 rfl
  have r0 := K11.get 9 rfl
  have r1 := K11.get 10 rfl
  have r2 := K11.get 11 rfl
  have r3 := K11.get 12 rfl
  have r4 := K11.get 13 rfl
  have r5 := K11.get 14 rfl
  have r6 := K11.get 15 rfl
  have q0 := K11.fz 9 rfl
  have q1 := K11.fz 10 rfl
  have q2 := K11.fz 11 rfl
  have q3 := K11.fz 12 rfl
  have q4 := K11.fz 13 rfl
  have q5 := K11.fz 14 rfl
  have q6 := K11.fz 15 rfl
  have yy := K11.lt 9 rfl
  have HB := Lib.hid K11.1
  clear K11
  by_cases hq : s.data.toList = fl
  · have q : (fl == s.toList) = true := by rw [eq_bytes]; exact decide_eq_true hq
    have AN := Lib.hid (YES.out hq)
    clear hq
    go_wp2
    exact bodyPost_ret (v := .tuple #[.agg #[.int .i64 1, .int .i64 n, .int .i64 ri, .int .i64 rg, .int .i64 ry, .int .i64 rx, .bool rnl], .bool true]) (by simp [results, Tryd.results34, go_sem, r0, r1, r2, r3, r4, r5, r6, yy]) rfl ⟨⟨1, n, ⟨ri, rg, ry, rx, rnl⟩⟩, true, AN.out, rfl, set7_below HB.out (Nat.le_refl _) _ _ _ _ _ _ _⟩
  · have q : (fl == s.toList) = false := by rw [eq_bytes]; exact decide_eq_false hq
    have AN := Lib.hid (NO.out hq)
    clear hq
    go_wp2
    exact bodyPost_ret (v := .tuple #[.agg #[.int .i64 0, .int .i64 0, .int .i64 0, .int .i64 0, .int .i64 0, .int .i64 0, .bool false], .bool false]) (by simp [results, Tryd.results34, go_sem, r0, r1, r2, r3, r4, r5, r6, yy]) rfl (PCPost.no AN.out (set7_below HB.out (Nat.le_refl _) _ _ _ _ _ _ _))

set_option maxRecDepth 8000 in
set_option maxHeartbeats 6400000 in
theorem spec_pc_append3 (s : ByteArray) (w : World) (hs : s.size ≤ 1048576) (p1 p2 : List UInt8) (hp : pieces 32 s.data.toList = [wAppend, p1, p2]) :
    Calls Tryd.prog 34 #[.string s] w (PCPost s w) := by
  have hl : s.data.toList.length = s.size := by simp
  have hp1 := pieces_mem_len 32 s.data.toList p1 (by rw [hp]; simp)
  have hp2 := pieces_mem_len 32 s.data.toList p2 (by rw [hp]; simp)
  have sne : s.data.toList ≠ [] := fun h => by rw [h] at hp; simp [pieces] at hp
  have C1 := Lib.hid (fun w => spec_cut s 32 w hs)
  have N1 := Lib.hid (fun w => spec_num ⟨p1.toArray⟩ w (by show p1.toArray.size ≤ _; simp; omega))
  have R1 := Lib.hid (fun w => spec_pr ⟨p2.toArray⟩ w (by show p2.toArray.size ≤ _; simp; omega))
  have HP := Lib.hid hp
  have zappend : ([97, 112, 112, 101, 110, 100] == ([97, 112, 112, 101, 110, 100] : List UInt8)) = true := by decide
  have zcorrect : ([97, 112, 112, 101, 110, 100] == ([99, 111, 114, 114, 101, 99, 116] : List UInt8)) = false := by decide
  have zdelete : ([97, 112, 112, 101, 110, 100] == ([100, 101, 108, 101, 116, 101] : List UInt8)) = false := by decide
  have zretain : ([97, 112, 112, 101, 110, 100] == ([114, 101, 116, 97, 105, 110] : List UInt8)) = false := by decide
  clear hl hp hp1 hp2
  go_enter Tryd.func34, Tryd.ntmps34
  go_wp2_with fail
  have K0 := (Kept.start w).alloc7 (.int .i64 0) (.int .i64 0) (.int .i64 0) (.int .i64 0) (.int .i64 0) (.int .i64 0) (.bool false) 61 _ rfl
  refine (C1.out _).mono ?_
  rintro e w1 ⟨v1, rfl, hS, hb⟩
  rw [HP.out] at hS
  obtain ⟨g1, cap1, hv, hg1, hlt1, hcap1, hcell⟩ := hS.form (by simp)
  have K1a := K0.step hb
  obtain ⟨c0, f0⟩ := hcell 0 (by simp)
  obtain ⟨c1, f1⟩ := hcell 1 (by simp)
  obtain ⟨c2, f2⟩ := hcell 2 (by simp)
  simp only [List.getElem_cons_zero, List.getElem_cons_succ, List.length_cons, List.length_nil, Nat.zero_add, Nat.reduceAdd] at c0 c1 c2 hv hcap1
  unfold wAppend at c0
  subst hv
  have K1 := (((K1a).cons (a := ⟨g1, 2, none⟩) hlt1 c2 f2).cons (a := ⟨g1, 1, none⟩) hlt1 c1 f1).cons (a := ⟨g1, 0, none⟩) hlt1 c0 f0
  have hw1 : w.heap.size < w1.heap.size := K1a.lt 0 rfl
  clear hS hcell hb K0 K1a f0 f1 f2
  have K2 := K1.alloc7 (.int .i64 1) (.int .i64 0) (.int .i64 0) (.int .i64 0) (.int .i64 0) (.int .i64 0) (.bool false) 61 w1.heap.size rfl
  go_wp2_with fail
  refine (N1.out _).mono ?_
  rintro e w2 ⟨⟨n, hn, rfl⟩, hb⟩
  have K3 := K2.step hb
  clear hb K2
  have HN := Lib.hid (show NumAns p1 n from hn)
  clear hn c0 c1 c2
  have ax0 := K3.get 0 rfl
  have ax1 := K3.get 1 rfl
  have ax2 := K3.get 2 rfl
  have ax3 := K3.get 3 rfl
  have ax4 := K3.get 4 rfl
  have ax5 := K3.get 5 rfl
  have ax6 := K3.get 6 rfl
  have axf0 := K3.fz 0 rfl
  have axf1 := K3.fz 1 rfl
  have axf2 := K3.fz 2 rfl
  have axf3 := K3.fz 3 rfl
  have axf4 := K3.fz 4 rfl
  have axf5 := K3.fz 5 rfl
  have axf6 := K3.fz 6 rfl
  have ac0 := K3.get 7 rfl
  have ac1 := K3.get 8 rfl
  have ac2 := K3.get 9 rfl
  have KS := K3
  have K4 := Kept.set (p := [(⟨w1.heap.size, 0, none⟩, .int .i64 1)]) (q := [(⟨w1.heap.size, 2, none⟩, .int .i64 0), (⟨w1.heap.size, 3, none⟩, .int .i64 0), (⟨w1.heap.size, 4, none⟩, .int .i64 0), (⟨w1.heap.size, 5, none⟩, .int .i64 0), (⟨w1.heap.size, 6, none⟩, .bool false), (⟨g1, 0, none⟩, .string ⟨#[97, 112, 112, 101, 110, 100]⟩), (⟨g1, 1, none⟩, .string ⟨p1.toArray⟩), (⟨g1, 2, none⟩, .string ⟨p2.toArray⟩), (⟨w.heap.size, 0, none⟩, .int .i64 0), (⟨w.heap.size, 1, none⟩, .int .i64 0), (⟨w.heap.size, 2, none⟩, .int .i64 0), (⟨w.heap.size, 3, none⟩, .int .i64 0), (⟨w.heap.size, 4, none⟩, .int .i64 0), (⟨w.heap.size, 5, none⟩, .int .i64 0), (⟨w.heap.size, 6, none⟩, .bool false)]) (a := ⟨w1.heap.size, 1, none⟩) (v := .int .i64 0) K3 (.int .i64 n) (by simp only; omega) (by simp only [List.cons_append, List.nil_append, List.mem_cons, List.not_mem_nil, or_false]; rintro c9 (rfl | rfl | rfl | rfl | rfl | rfl | rfl | rfl | rfl | rfl | rfl | rfl | rfl | rfl | rfl | rfl) <;> simp <;> omega)
  clear K3
  go_wp2_with fail
  refine (R1.out _).mono ?_
  rintro e w3 ⟨⟨ri, rg, ry, rx, rnl, ok, hr, rfl⟩, hb⟩
  have K5 := K4.step hb
  clear hb K4
  have HR := Lib.hid (show RdR p2 ⟨ri, rg, ry, rx, rnl⟩ ok from hr)
  clear hr KS ax0 ax1 ax2 ax3 ax4 ax5 ax6 axf0 axf1 axf2 axf3 axf4 axf5 axf6 ac0 ac1 ac2
  have bx0 := K5.get 0 rfl
  have bx1 := K5.get 1 rfl
  have bx2 := K5.get 2 rfl
  have bx3 := K5.get 3 rfl
  have bx4 := K5.get 4 rfl
  have bx5 := K5.get 5 rfl
  have bx6 := K5.get 6 rfl
  have bxf0 := K5.fz 0 rfl
  have bxf1 := K5.fz 1 rfl
  have bxf2 := K5.fz 2 rfl
  have bxf3 := K5.fz 3 rfl
  have bxf4 := K5.fz 4 rfl
  have bxf5 := K5.fz 5 rfl
  have bxf6 := K5.fz 6 rfl
  have bc0 := K5.get 7 rfl
  have bc1 := K5.get 8 rfl
  have bc2 := K5.get 9 rfl
  have K6 := Kept.set (p := [(⟨w1.heap.size, 0, none⟩, .int .i64 1), (⟨w1.heap.size, 1, none⟩, .int .i64 n)]) (q := [(⟨w1.heap.size, 3, none⟩, .int .i64 0), (⟨w1.heap.size, 4, none⟩, .int .i64 0), (⟨w1.heap.size, 5, none⟩, .int .i64 0), (⟨w1.heap.size, 6, none⟩, .bool false), (⟨g1, 0, none⟩, .string ⟨#[97, 112, 112, 101, 110, 100]⟩), (⟨g1, 1, none⟩, .string ⟨p1.toArray⟩), (⟨g1, 2, none⟩, .string ⟨p2.toArray⟩), (⟨w.heap.size, 0, none⟩, .int .i64 0), (⟨w.heap.size, 1, none⟩, .int .i64 0), (⟨w.heap.size, 2, none⟩, .int .i64 0), (⟨w.heap.size, 3, none⟩, .int .i64 0), (⟨w.heap.size, 4, none⟩, .int .i64 0), (⟨w.heap.size, 5, none⟩, .int .i64 0), (⟨w.heap.size, 6, none⟩, .bool false)]) (a := ⟨w1.heap.size, 2, none⟩) (v := .int .i64 0) K5 (.int .i64 ri) (by simp only; omega) (by simp only [List.cons_append, List.nil_append, List.mem_cons, List.not_mem_nil, or_false]; rintro c9 (rfl | rfl | rfl | rfl | rfl | rfl | rfl | rfl | rfl | rfl | rfl | rfl | rfl | rfl | rfl | rfl) <;> simp <;> omega)
  clear K5
  have K7 := Kept.set (p := [(⟨w1.heap.size, 0, none⟩, .int .i64 1), (⟨w1.heap.size, 1, none⟩, .int .i64 n), (⟨w1.heap.size, 2, none⟩, .int .i64 ri)]) (q := [(⟨w1.heap.size, 4, none⟩, .int .i64 0), (⟨w1.heap.size, 5, none⟩, .int .i64 0), (⟨w1.heap.size, 6, none⟩, .bool false), (⟨g1, 0, none⟩, .string ⟨#[97, 112, 112, 101, 110, 100]⟩), (⟨g1, 1, none⟩, .string ⟨p1.toArray⟩), (⟨g1, 2, none⟩, .string ⟨p2.toArray⟩), (⟨w.heap.size, 0, none⟩, .int .i64 0), (⟨w.heap.size, 1, none⟩, .int .i64 0), (⟨w.heap.size, 2, none⟩, .int .i64 0), (⟨w.heap.size, 3, none⟩, .int .i64 0), (⟨w.heap.size, 4, none⟩, .int .i64 0), (⟨w.heap.size, 5, none⟩, .int .i64 0), (⟨w.heap.size, 6, none⟩, .bool false)]) (a := ⟨w1.heap.size, 3, none⟩) (v := .int .i64 0) K6 (.int .i64 rg) (by simp only; omega) (by simp only [List.cons_append, List.nil_append, List.mem_cons, List.not_mem_nil, or_false]; rintro c9 (rfl | rfl | rfl | rfl | rfl | rfl | rfl | rfl | rfl | rfl | rfl | rfl | rfl | rfl | rfl | rfl) <;> simp <;> omega)
  clear K6
  have K8 := Kept.set (p := [(⟨w1.heap.size, 0, none⟩, .int .i64 1), (⟨w1.heap.size, 1, none⟩, .int .i64 n), (⟨w1.heap.size, 2, none⟩, .int .i64 ri), (⟨w1.heap.size, 3, none⟩, .int .i64 rg)]) (q := [(⟨w1.heap.size, 5, none⟩, .int .i64 0), (⟨w1.heap.size, 6, none⟩, .bool false), (⟨g1, 0, none⟩, .string ⟨#[97, 112, 112, 101, 110, 100]⟩), (⟨g1, 1, none⟩, .string ⟨p1.toArray⟩), (⟨g1, 2, none⟩, .string ⟨p2.toArray⟩), (⟨w.heap.size, 0, none⟩, .int .i64 0), (⟨w.heap.size, 1, none⟩, .int .i64 0), (⟨w.heap.size, 2, none⟩, .int .i64 0), (⟨w.heap.size, 3, none⟩, .int .i64 0), (⟨w.heap.size, 4, none⟩, .int .i64 0), (⟨w.heap.size, 5, none⟩, .int .i64 0), (⟨w.heap.size, 6, none⟩, .bool false)]) (a := ⟨w1.heap.size, 4, none⟩) (v := .int .i64 0) K7 (.int .i64 ry) (by simp only; omega) (by simp only [List.cons_append, List.nil_append, List.mem_cons, List.not_mem_nil, or_false]; rintro c9 (rfl | rfl | rfl | rfl | rfl | rfl | rfl | rfl | rfl | rfl | rfl | rfl | rfl | rfl | rfl | rfl) <;> simp <;> omega)
  clear K7
  have K9 := Kept.set (p := [(⟨w1.heap.size, 0, none⟩, .int .i64 1), (⟨w1.heap.size, 1, none⟩, .int .i64 n), (⟨w1.heap.size, 2, none⟩, .int .i64 ri), (⟨w1.heap.size, 3, none⟩, .int .i64 rg), (⟨w1.heap.size, 4, none⟩, .int .i64 ry)]) (q := [(⟨w1.heap.size, 6, none⟩, .bool false), (⟨g1, 0, none⟩, .string ⟨#[97, 112, 112, 101, 110, 100]⟩), (⟨g1, 1, none⟩, .string ⟨p1.toArray⟩), (⟨g1, 2, none⟩, .string ⟨p2.toArray⟩), (⟨w.heap.size, 0, none⟩, .int .i64 0), (⟨w.heap.size, 1, none⟩, .int .i64 0), (⟨w.heap.size, 2, none⟩, .int .i64 0), (⟨w.heap.size, 3, none⟩, .int .i64 0), (⟨w.heap.size, 4, none⟩, .int .i64 0), (⟨w.heap.size, 5, none⟩, .int .i64 0), (⟨w.heap.size, 6, none⟩, .bool false)]) (a := ⟨w1.heap.size, 5, none⟩) (v := .int .i64 0) K8 (.int .i64 rx) (by simp only; omega) (by simp only [List.cons_append, List.nil_append, List.mem_cons, List.not_mem_nil, or_false]; rintro c9 (rfl | rfl | rfl | rfl | rfl | rfl | rfl | rfl | rfl | rfl | rfl | rfl | rfl | rfl | rfl | rfl) <;> simp <;> omega)
  clear K8
  have K10 := Kept.set (p := [(⟨w1.heap.size, 0, none⟩, .int .i64 1), (⟨w1.heap.size, 1, none⟩, .int .i64 n), (⟨w1.heap.size, 2, none⟩, .int .i64 ri), (⟨w1.heap.size, 3, none⟩, .int .i64 rg), (⟨w1.heap.size, 4, none⟩, .int .i64 ry), (⟨w1.heap.size, 5, none⟩, .int .i64 rx)]) (q := [(⟨g1, 0, none⟩, .string ⟨#[97, 112, 112, 101, 110, 100]⟩), (⟨g1, 1, none⟩, .string ⟨p1.toArray⟩), (⟨g1, 2, none⟩, .string ⟨p2.toArray⟩), (⟨w.heap.size, 0, none⟩, .int .i64 0), (⟨w.heap.size, 1, none⟩, .int .i64 0), (⟨w.heap.size, 2, none⟩, .int .i64 0), (⟨w.heap.size, 3, none⟩, .int .i64 0), (⟨w.heap.size, 4, none⟩, .int .i64 0), (⟨w.heap.size, 5, none⟩, .int .i64 0), (⟨w.heap.size, 6, none⟩, .bool false)]) (a := ⟨w1.heap.size, 6, none⟩) (v := .bool false) K9 (.bool rnl) (by simp only; omega) (by simp only [List.cons_append, List.nil_append, List.mem_cons, List.not_mem_nil, or_false]; rintro c9 (rfl | rfl | rfl | rfl | rfl | rfl | rfl | rfl | rfl | rfl | rfl | rfl | rfl | rfl | rfl | rfl) <;> simp <;> omega)
  clear K9
  have FM0 := fun w => spec_fmtC ⟨1, n, ⟨ri, rg, ry, rx, rnl⟩⟩ w
  have NO := Lib.hid (fun hne => cand_no (c := ⟨1, n, ⟨ri, rg, ry, rx, rnl⟩⟩) HP.out (pl := p2) rfl (.inl ⟨rfl, n, _, ok, HN.out, HR.out, rfl⟩) hne)
  have YES := Lib.hid (fun h => PCh.of (c := ⟨1, n, ⟨ri, rg, ry, rx, rnl⟩⟩) sne h)
  unfold FcPost at FM0
  obtain ⟨fl, hfl⟩ : ∃ fl, fl = fmtC ⟨1, n, ⟨ri, rg, ry, rx, rnl⟩⟩ := ⟨_, rfl⟩
  rw [← hfl] at FM0 NO YES
  have FM := Lib.hid FM0
  clear FM0 hfl
  go_wp2_with fail
  refine (FM.out _).mono ?_
  rintro e w4 ⟨rfl, hb⟩
  have K11 := K10.step hb
  clear hb K10
  clear bx0 bx1 bx2 bx3 bx4 bx5 bx6 bxf0 bxf1 bxf2 bxf3 bxf4 bxf5 bxf6 bc0 bc1 bc2
  have x0 := K11.get 0 rfl
  have x1 := K11.get 1 rfl
  have x2 := K11.get 2 rfl
  have x3 := K11.get 3 rfl
  have x4 := K11.get 4 rfl
  have x5 := K11.get 5 rfl
  have x6 := K11.get 6 rfl
  have r0 := K11.get 10 rfl
  have r1 := K11.get 11 rfl
  have r2 := K11.get 12 rfl
  have r3 := K11.get 13 rfl
  have r4 := K11.get 14 rfl
  have r5 := K11.get 15 rfl
  have r6 := K11.get 16 rfl
  have q0 := K11.fz 10 rfl
  have q1 := K11.fz 11 rfl
  have q2 := K11.fz 12 rfl
  have q3 := K11.fz 13 rfl
  have q4 := K11.fz 14 rfl
  have q5 := K11.fz 15 rfl
  have q6 := K11.fz 16 rfl
  have yy := K11.lt 10 rfl
  have HB := Lib.hid K11.1
  clear K11
  by_cases hq : s.data.toList = fl
  · have q : (fl == s.toList) = true := by rw [eq_bytes]; exact decide_eq_true hq
    have AN := Lib.hid (YES.out hq)
    clear hq
    go_wp2
    exact bodyPost_ret (v := .tuple #[.agg #[.int .i64 1, .int .i64 n, .int .i64 ri, .int .i64 rg, .int .i64 ry, .int .i64 rx, .bool rnl], .bool true]) (by simp [results, Tryd.results34, go_sem, r0, r1, r2, r3, r4, r5, r6, yy]) rfl ⟨⟨1, n, ⟨ri, rg, ry, rx, rnl⟩⟩, true, AN.out, rfl, set7_below HB.out (Nat.le_refl _) _ _ _ _ _ _ _⟩
  · have q : (fl == s.toList) = false := by rw [eq_bytes]; exact decide_eq_false hq
    have AN := Lib.hid (NO.out hq)
    clear hq
    go_wp2
    exact bodyPost_ret (v := .tuple #[.agg #[.int .i64 0, .int .i64 0, .int .i64 0, .int .i64 0, .int .i64 0, .int .i64 0, .bool false], .bool false]) (by simp [results, Tryd.results34, go_sem, r0, r1, r2, r3, r4, r5, r6, yy]) rfl (PCPost.no AN.out (set7_below HB.out (Nat.le_refl _) _ _ _ _ _ _ _))

set_option maxRecDepth 8000 in
set_option maxHeartbeats 6400000 in
theorem spec_pc_correct2 (s : ByteArray) (w : World) (hs : s.size ≤ 1048576) (p1 : List UInt8) (hp : pieces 32 s.data.toList = [wCorrect, p1]) :
    Calls Tryd.prog 34 #[.string s] w (PCPost s w) := by
  have hl : s.data.toList.length = s.size := by simp
  have hp1 := pieces_mem_len 32 s.data.toList p1 (by rw [hp]; simp)
  have sne : s.data.toList ≠ [] := fun h => by rw [h] at hp; simp [pieces] at hp
  have C1 := Lib.hid (fun w => spec_cut s 32 w hs)
  have R1 := Lib.hid (fun w => spec_pr ⟨p1.toArray⟩ w (by show p1.toArray.size ≤ _; simp; omega))
  have HP := Lib.hid hp
  have zappend : ([99, 111, 114, 114, 101, 99, 116] == ([97, 112, 112, 101, 110, 100] : List UInt8)) = false := by decide
  have zcorrect : ([99, 111, 114, 114, 101, 99, 116] == ([99, 111, 114, 114, 101, 99, 116] : List UInt8)) = true := by decide
  have zdelete : ([99, 111, 114, 114, 101, 99, 116] == ([100, 101, 108, 101, 116, 101] : List UInt8)) = false := by decide
  have zretain : ([99, 111, 114, 114, 101, 99, 116] == ([114, 101, 116, 97, 105, 110] : List UInt8)) = false := by decide
  clear hl hp hp1
  go_enter Tryd.func34, Tryd.ntmps34
  go_wp2_with fail
  have K0 := (Kept.start w).alloc7 (.int .i64 0) (.int .i64 0) (.int .i64 0) (.int .i64 0) (.int .i64 0) (.int .i64 0) (.bool false) 61 _ rfl
  refine (C1.out _).mono ?_
  rintro e w1 ⟨v1, rfl, hS, hb⟩
  rw [HP.out] at hS
  obtain ⟨g1, cap1, hv, hg1, hlt1, hcap1, hcell⟩ := hS.form (by simp)
  have K1a := K0.step hb
  obtain ⟨c0, f0⟩ := hcell 0 (by simp)
  obtain ⟨c1, f1⟩ := hcell 1 (by simp)
  simp only [List.getElem_cons_zero, List.getElem_cons_succ, List.length_cons, List.length_nil, Nat.zero_add, Nat.reduceAdd] at c0 c1 hv hcap1
  unfold wCorrect at c0
  subst hv
  have K1 := ((K1a).cons (a := ⟨g1, 1, none⟩) hlt1 c1 f1).cons (a := ⟨g1, 0, none⟩) hlt1 c0 f0
  have hw1 : w.heap.size < w1.heap.size := K1a.lt 0 rfl
  clear hS hcell hb K0 K1a f0 f1
  have K2 := K1.alloc7 (.int .i64 2) (.int .i64 0) (.int .i64 0) (.int .i64 0) (.int .i64 0) (.int .i64 0) (.bool false) 61 w1.heap.size rfl
  go_wp2_with fail
  refine (R1.out _).mono ?_
  rintro e w3 ⟨⟨ri, rg, ry, rx, rnl, ok, hr, rfl⟩, hb⟩
  have K3 := K2.step hb
  clear hb K2
  have HR := Lib.hid (show RdR p1 ⟨ri, rg, ry, rx, rnl⟩ ok from hr)
  clear hr c0 c1
  have bx0 := K3.get 0 rfl
  have bx1 := K3.get 1 rfl
  have bx2 := K3.get 2 rfl
  have bx3 := K3.get 3 rfl
  have bx4 := K3.get 4 rfl
  have bx5 := K3.get 5 rfl
  have bx6 := K3.get 6 rfl
  have bxf0 := K3.fz 0 rfl
  have bxf1 := K3.fz 1 rfl
  have bxf2 := K3.fz 2 rfl
  have bxf3 := K3.fz 3 rfl
  have bxf4 := K3.fz 4 rfl
  have bxf5 := K3.fz 5 rfl
  have bxf6 := K3.fz 6 rfl
  have bc0 := K3.get 7 rfl
  have bc1 := K3.get 8 rfl
  have K4 := Kept.set (p := [(⟨w1.heap.size, 0, none⟩, .int .i64 2), (⟨w1.heap.size, 1, none⟩, .int .i64 0)]) (q := [(⟨w1.heap.size, 3, none⟩, .int .i64 0), (⟨w1.heap.size, 4, none⟩, .int .i64 0), (⟨w1.heap.size, 5, none⟩, .int .i64 0), (⟨w1.heap.size, 6, none⟩, .bool false), (⟨g1, 0, none⟩, .string ⟨#[99, 111, 114, 114, 101, 99, 116]⟩), (⟨g1, 1, none⟩, .string ⟨p1.toArray⟩), (⟨w.heap.size, 0, none⟩, .int .i64 0), (⟨w.heap.size, 1, none⟩, .int .i64 0), (⟨w.heap.size, 2, none⟩, .int .i64 0), (⟨w.heap.size, 3, none⟩, .int .i64 0), (⟨w.heap.size, 4, none⟩, .int .i64 0), (⟨w.heap.size, 5, none⟩, .int .i64 0), (⟨w.heap.size, 6, none⟩, .bool false)]) (a := ⟨w1.heap.size, 2, none⟩) (v := .int .i64 0) K3 (.int .i64 ri) (by simp only; omega) (by simp only [List.cons_append, List.nil_append, List.mem_cons, List.not_mem_nil, or_false]; rintro c9 (rfl | rfl | rfl | rfl | rfl | rfl | rfl | rfl | rfl | rfl | rfl | rfl | rfl | rfl | rfl) <;> simp <;> omega)
  clear K3
  have K5 := Kept.set (p := [(⟨w1.heap.size, 0, none⟩, .int .i64 2), (⟨w1.heap.size, 1, none⟩, .int .i64 0), (⟨w1.heap.size, 2, none⟩, .int .i64 ri)]) (q := [(⟨w1.heap.size, 4, none⟩, .int .i64 0), (⟨w1.heap.size, 5, none⟩, .int .i64 0), (⟨w1.heap.size, 6, none⟩, .bool false), (⟨g1, 0, none⟩, .string ⟨#[99, 111, 114, 114, 101, 99, 116]⟩), (⟨g1, 1, none⟩, .string ⟨p1.toArray⟩), (⟨w.heap.size, 0, none⟩, .int .i64 0), (⟨w.heap.size, 1, none⟩, .int .i64 0), (⟨w.heap.size, 2, none⟩, .int .i64 0), (⟨w.heap.size, 3, none⟩, .int .i64 0), (⟨w.heap.size, 4, none⟩, .int .i64 0), (⟨w.heap.size, 5, none⟩, .int .i64 0), (⟨w.heap.size, 6, none⟩, .bool false)]) (a := ⟨w1.heap.size, 3, none⟩) (v := .int .i64 0) K4 (.int .i64 rg) (by simp only; omega) (by simp only [List.cons_append, List.nil_append, List.mem_cons, List.not_mem_nil, or_false]; rintro c9 (rfl | rfl | rfl | rfl | rfl | rfl | rfl | rfl | rfl | rfl | rfl | rfl | rfl | rfl | rfl) <;> simp <;> omega)
  clear K4
  have K6 := Kept.set (p := [(⟨w1.heap.size, 0, none⟩, .int .i64 2), (⟨w1.heap.size, 1, none⟩, .int .i64 0), (⟨w1.heap.size, 2, none⟩, .int .i64 ri), (⟨w1.heap.size, 3, none⟩, .int .i64 rg)]) (q := [(⟨w1.heap.size, 5, none⟩, .int .i64 0), (⟨w1.heap.size, 6, none⟩, .bool false), (⟨g1, 0, none⟩, .string ⟨#[99, 111, 114, 114, 101, 99, 116]⟩), (⟨g1, 1, none⟩, .string ⟨p1.toArray⟩), (⟨w.heap.size, 0, none⟩, .int .i64 0), (⟨w.heap.size, 1, none⟩, .int .i64 0), (⟨w.heap.size, 2, none⟩, .int .i64 0), (⟨w.heap.size, 3, none⟩, .int .i64 0), (⟨w.heap.size, 4, none⟩, .int .i64 0), (⟨w.heap.size, 5, none⟩, .int .i64 0), (⟨w.heap.size, 6, none⟩, .bool false)]) (a := ⟨w1.heap.size, 4, none⟩) (v := .int .i64 0) K5 (.int .i64 ry) (by simp only; omega) (by simp only [List.cons_append, List.nil_append, List.mem_cons, List.not_mem_nil, or_false]; rintro c9 (rfl | rfl | rfl | rfl | rfl | rfl | rfl | rfl | rfl | rfl | rfl | rfl | rfl | rfl | rfl) <;> simp <;> omega)
  clear K5
  have K7 := Kept.set (p := [(⟨w1.heap.size, 0, none⟩, .int .i64 2), (⟨w1.heap.size, 1, none⟩, .int .i64 0), (⟨w1.heap.size, 2, none⟩, .int .i64 ri), (⟨w1.heap.size, 3, none⟩, .int .i64 rg), (⟨w1.heap.size, 4, none⟩, .int .i64 ry)]) (q := [(⟨w1.heap.size, 6, none⟩, .bool false), (⟨g1, 0, none⟩, .string ⟨#[99, 111, 114, 114, 101, 99, 116]⟩), (⟨g1, 1, none⟩, .string ⟨p1.toArray⟩), (⟨w.heap.size, 0, none⟩, .int .i64 0), (⟨w.heap.size, 1, none⟩, .int .i64 0), (⟨w.heap.size, 2, none⟩, .int .i64 0), (⟨w.heap.size, 3, none⟩, .int .i64 0), (⟨w.heap.size, 4, none⟩, .int .i64 0), (⟨w.heap.size, 5, none⟩, .int .i64 0), (⟨w.heap.size, 6, none⟩, .bool false)]) (a := ⟨w1.heap.size, 5, none⟩) (v := .int .i64 0) K6 (.int .i64 rx) (by simp only; omega) (by simp only [List.cons_append, List.nil_append, List.mem_cons, List.not_mem_nil, or_false]; rintro c9 (rfl | rfl | rfl | rfl | rfl | rfl | rfl | rfl | rfl | rfl | rfl | rfl | rfl | rfl | rfl) <;> simp <;> omega)
  clear K6
  have K8 := Kept.set (p := [(⟨w1.heap.size, 0, none⟩, .int .i64 2), (⟨w1.heap.size, 1, none⟩, .int .i64 0), (⟨w1.heap.size, 2, none⟩, .int .i64 ri), (⟨w1.heap.size, 3, none⟩, .int .i64 rg), (⟨w1.heap.size, 4, none⟩, .int .i64 ry), (⟨w1.heap.size, 5, none⟩, .int .i64 rx)]) (q := [(⟨g1, 0, none⟩, .string ⟨#[99, 111, 114, 114, 101, 99, 116]⟩), (⟨g1, 1, none⟩, .string ⟨p1.toArray⟩), (⟨w.heap.size, 0, none⟩, .int .i64 0), (⟨w.heap.size, 1, none⟩, .int .i64 0), (⟨w.heap.size, 2, none⟩, .int .i64 0), (⟨w.heap.size, 3, none⟩, .int .i64 0), (⟨w.heap.size, 4, none⟩, .int .i64 0), (⟨w.heap.size, 5, none⟩, .int .i64 0), (⟨w.heap.size, 6, none⟩, .bool false)]) (a := ⟨w1.heap.size, 6, none⟩) (v := .bool false) K7 (.bool rnl) (by simp only; omega) (by simp only [List.cons_append, List.nil_append, List.mem_cons, List.not_mem_nil, or_false]; rintro c9 (rfl | rfl | rfl | rfl | rfl | rfl | rfl | rfl | rfl | rfl | rfl | rfl | rfl | rfl | rfl) <;> simp <;> omega)
  clear K7
  have FM0 := fun w => spec_fmtC ⟨2, 0, ⟨ri, rg, ry, rx, rnl⟩⟩ w
  have NO := Lib.hid (fun hne => cand_no (c := ⟨2, 0, ⟨ri, rg, ry, rx, rnl⟩⟩) HP.out (pl := p1) rfl (.inr (.inl ⟨rfl, _, ok, HR.out, rfl⟩)) hne)
  have YES := Lib.hid (fun h => PCh.of (c := ⟨2, 0, ⟨ri, rg, ry, rx, rnl⟩⟩) sne h)
  unfold FcPost at FM0
  obtain ⟨fl, hfl⟩ : ∃ fl, fl = fmtC ⟨2, 0, ⟨ri, rg, ry, rx, rnl⟩⟩ := ⟨_, rfl⟩
  rw [← hfl] at FM0 NO YES
  have FM := Lib.hid FM0
  clear FM0 hfl
  go_wp2_with fail
  refine (FM.out _).mono ?_
  rintro e w4 ⟨rfl, hb⟩
  have K9 := K8.step hb
  clear hb K8
  clear bx0 bx1 bx2 bx3 bx4 bx5 bx6 bxf0 bxf1 bxf2 bxf3 bxf4 bxf5 bxf6 bc0 bc1
  have x0 := K9.get 0 rfl
  have x1 := K9.get 1 rfl
  have x2 := K9.get 2 rfl
  have x3 := K9.get 3 rfl
  have x4 := K9.get 4 rfl
  have x5 := K9.get 5 rfl
  have x6 := K9.get 6 rfl
  have r0 := K9.get 9 rfl
  have r1 := K9.get 10 rfl
  have r2 := K9.get 11 rfl
  have r3 := K9.get 12 rfl
  have r4 := K9.get 13 rfl
  have r5 := K9.get 14 rfl
  have r6 := K9.get 15 rfl
  have q0 := K9.fz 9 rfl
  have q1 := K9.fz 10 rfl
  have q2 := K9.fz 11 rfl
  have q3 := K9.fz 12 rfl
  have q4 := K9.fz 13 rfl
  have q5 := K9.fz 14 rfl
  have q6 := K9.fz 15 rfl
  have yy := K9.lt 9 rfl
  have HB := Lib.hid K9.1
  clear K9
  by_cases hq : s.data.toList = fl
  · have q : (fl == s.toList) = true := by rw [eq_bytes]; exact decide_eq_true hq
    have AN := Lib.hid (YES.out hq)
    clear hq
    go_wp2
    exact bodyPost_ret (v := .tuple #[.agg #[.int .i64 2, .int .i64 0, .int .i64 ri, .int .i64 rg, .int .i64 ry, .int .i64 rx, .bool rnl], .bool true]) (by simp [results, Tryd.results34, go_sem, r0, r1, r2, r3, r4, r5, r6, yy]) rfl ⟨⟨2, 0, ⟨ri, rg, ry, rx, rnl⟩⟩, true, AN.out, rfl, set7_below HB.out (Nat.le_refl _) _ _ _ _ _ _ _⟩
  · have q : (fl == s.toList) = false := by rw [eq_bytes]; exact decide_eq_false hq
    have AN := Lib.hid (NO.out hq)
    clear hq
    go_wp2
    exact bodyPost_ret (v := .tuple #[.agg #[.int .i64 0, .int .i64 0, .int .i64 0, .int .i64 0, .int .i64 0, .int .i64 0, .bool false], .bool false]) (by simp [results, Tryd.results34, go_sem, r0, r1, r2, r3, r4, r5, r6, yy]) rfl (PCPost.no AN.out (set7_below HB.out (Nat.le_refl _) _ _ _ _ _ _ _))

set_option maxRecDepth 8000 in
set_option maxHeartbeats 6400000 in
theorem spec_pc_correct3 (s : ByteArray) (w : World) (hs : s.size ≤ 1048576) (p1 p2 : List UInt8) (hp : pieces 32 s.data.toList = [wCorrect, p1, p2]) :
    Calls Tryd.prog 34 #[.string s] w (PCPost s w) := by
  have hl : s.data.toList.length = s.size := by simp
  have hp1 := pieces_mem_len 32 s.data.toList p1 (by rw [hp]; simp)
  have hp2 := pieces_mem_len 32 s.data.toList p2 (by rw [hp]; simp)
  have sne : s.data.toList ≠ [] := fun h => by rw [h] at hp; simp [pieces] at hp
  have C1 := Lib.hid (fun w => spec_cut s 32 w hs)
  have R1 := Lib.hid (fun w => spec_pr ⟨p1.toArray⟩ w (by show p1.toArray.size ≤ _; simp; omega))
  have HP := Lib.hid hp
  have zappend : ([99, 111, 114, 114, 101, 99, 116] == ([97, 112, 112, 101, 110, 100] : List UInt8)) = false := by decide
  have zcorrect : ([99, 111, 114, 114, 101, 99, 116] == ([99, 111, 114, 114, 101, 99, 116] : List UInt8)) = true := by decide
  have zdelete : ([99, 111, 114, 114, 101, 99, 116] == ([100, 101, 108, 101, 116, 101] : List UInt8)) = false := by decide
  have zretain : ([99, 111, 114, 114, 101, 99, 116] == ([114, 101, 116, 97, 105, 110] : List UInt8)) = false := by decide
  clear hl hp hp1 hp2
  go_enter Tryd.func34, Tryd.ntmps34
  go_wp2_with fail
  have K0 := (Kept.start w).alloc7 (.int .i64 0) (.int .i64 0) (.int .i64 0) (.int .i64 0) (.int .i64 0) (.int .i64 0) (.bool false) 61 _ rfl
  refine (C1.out _).mono ?_
  rintro e w1 ⟨v1, rfl, hS, hb⟩
  rw [HP.out] at hS
  obtain ⟨g1, cap1, hv, hg1, hlt1, hcap1, hcell⟩ := hS.form (by simp)
  have K1a := K0.step hb
  obtain ⟨c0, f0⟩ := hcell 0 (by simp)
  obtain ⟨c1, f1⟩ := hcell 1 (by simp)
  obtain ⟨c2, f2⟩ := hcell 2 (by simp)
  simp only [List.getElem_cons_zero, List.getElem_cons_succ, List.length_cons, List.length_nil, Nat.zero_add, Nat.reduceAdd] at c0 c1 c2 hv hcap1
  unfold wCorrect at c0
  subst hv
  have K1 := (((K1a).cons (a := ⟨g1, 2, none⟩) hlt1 c2 f2).cons (a := ⟨g1, 1, none⟩) hlt1 c1 f1).cons (a := ⟨g1, 0, none⟩) hlt1 c0 f0
  have hw1 : w.heap.size < w1.heap.size := K1a.lt 0 rfl
  clear hS hcell hb K0 K1a f0 f1 f2
  have K2 := K1.alloc7 (.int .i64 2) (.int .i64 0) (.int .i64 0) (.int .i64 0) (.int .i64 0) (.int .i64 0) (.bool false) 61 w1.heap.size rfl
  go_wp2_with fail
  refine (R1.out _).mono ?_
  rintro e w3 ⟨⟨ri, rg, ry, rx, rnl, ok, hr, rfl⟩, hb⟩
  have K3 := K2.step hb
  clear hb K2
  have HR := Lib.hid (show RdR p1 ⟨ri, rg, ry, rx, rnl⟩ ok from hr)
  clear hr c0 c1 c2
  have bx0 := K3.get 0 rfl
  have bx1 := K3.get 1 rfl
  have bx2 := K3.get 2 rfl
  have bx3 := K3.get 3 rfl
  have bx4 := K3.get 4 rfl
  have bx5 := K3.get 5 rfl
  have bx6 := K3.get 6 rfl
  have bxf0 := K3.fz 0 rfl
  have bxf1 := K3.fz 1 rfl
  have bxf2 := K3.fz 2 rfl
  have bxf3 := K3.fz 3 rfl
  have bxf4 := K3.fz 4 rfl
  have bxf5 := K3.fz 5 rfl
  have bxf6 := K3.fz 6 rfl
  have bc0 := K3.get 7 rfl
  have bc1 := K3.get 8 rfl
  have bc2 := K3.get 9 rfl
  have K4 := Kept.set (p := [(⟨w1.heap.size, 0, none⟩, .int .i64 2), (⟨w1.heap.size, 1, none⟩, .int .i64 0)]) (q := [(⟨w1.heap.size, 3, none⟩, .int .i64 0), (⟨w1.heap.size, 4, none⟩, .int .i64 0), (⟨w1.heap.size, 5, none⟩, .int .i64 0), (⟨w1.heap.size, 6, none⟩, .bool false), (⟨g1, 0, none⟩, .string ⟨#[99, 111, 114, 114, 101, 99, 116]⟩), (⟨g1, 1, none⟩, .string ⟨p1.toArray⟩), (⟨g1, 2, none⟩, .string ⟨p2.toArray⟩), (⟨w.heap.size, 0, none⟩, .int .i64 0), (⟨w.heap.size, 1, none⟩, .int .i64 0), (⟨w.heap.size, 2, none⟩, .int .i64 0), (⟨w.heap.size, 3, none⟩, .int .i64 0), (⟨w.heap.size, 4, none⟩, .int .i64 0), (⟨w.heap.size, 5, none⟩, .int .i64 0), (⟨w.heap.size, 6, none⟩, .bool false)]) (a := ⟨w1.heap.size, 2, none⟩) (v := .int .i64 0) K3 (.int .i64 ri) (by simp only; omega) (by simp only [List.cons_append, List.nil_append, List.mem_cons, List.not_mem_nil, or_false]; rintro c9 (rfl | rfl | rfl | rfl | rfl | rfl | rfl | rfl | rfl | rfl | rfl | rfl | rfl | rfl | rfl | rfl) <;> simp <;> omega)
  clear K3
  have K5 := Kept.set (p := [(⟨w1.heap.size, 0, none⟩, .int .i64 2), (⟨w1.heap.size, 1, none⟩, .int .i64 0), (⟨w1.heap.size, 2, none⟩, .int .i64 ri)]) (q := [(⟨w1.heap.size, 4, none⟩, .int .i64 0), (⟨w1.heap.size, 5, none⟩, .int .i64 0), (⟨w1.heap.size, 6, none⟩, .bool false), (⟨g1, 0, none⟩, .string ⟨#[99, 111, 114, 114, 101, 99, 116]⟩), (⟨g1, 1, none⟩, .string ⟨p1.toArray⟩), (⟨g1, 2, none⟩, .string ⟨p2.toArray⟩), (⟨w.heap.size, 0, none⟩, .int .i64 0), (⟨w.heap.size, 1, none⟩, .int .i64 0), (⟨w.heap.size, 2, none⟩, .int .i64 0), (⟨w.heap.size, 3, none⟩, .int .i64 0), (⟨w.heap.size, 4, none⟩, .int .i64 0), (⟨w.heap.size, 5, none⟩, .int .i64 0), (⟨w.heap.size, 6, none⟩, .bool false)]) (a := ⟨w1.heap.size, 3, none⟩) (v := .int .i64 0) K4 (.int .i64 rg) (by simp only; omega) (by simp only [List.cons_append, List.nil_append, List.mem_cons, List.not_mem_nil, or_false]; rintro c9 (rfl | rfl | rfl | rfl | rfl | rfl | rfl | rfl | rfl | rfl | rfl | rfl | rfl | rfl | rfl | rfl) <;> simp <;> omega)
  clear K4
  have K6 := Kept.set (p := [(⟨w1.heap.size, 0, none⟩, .int .i64 2), (⟨w1.heap.size, 1, none⟩, .int .i64 0), (⟨w1.heap.size, 2, none⟩, .int .i64 ri), (⟨w1.heap.size, 3, none⟩, .int .i64 rg)]) (q := [(⟨w1.heap.size, 5, none⟩, .int .i64 0), (⟨w1.heap.size, 6, none⟩, .bool false), (⟨g1, 0, none⟩, .string ⟨#[99, 111, 114, 114, 101, 99, 116]⟩), (⟨g1, 1, none⟩, .string ⟨p1.toArray⟩), (⟨g1, 2, none⟩, .string ⟨p2.toArray⟩), (⟨w.heap.size, 0, none⟩, .int .i64 0), (⟨w.heap.size, 1, none⟩, .int .i64 0), (⟨w.heap.size, 2, none⟩, .int .i64 0), (⟨w.heap.size, 3, none⟩, .int .i64 0), (⟨w.heap.size, 4, none⟩, .int .i64 0), (⟨w.heap.size, 5, none⟩, .int .i64 0), (⟨w.heap.size, 6, none⟩, .bool false)]) (a := ⟨w1.heap.size, 4, none⟩) (v := .int .i64 0) K5 (.int .i64 ry) (by simp only; omega) (by simp only [List.cons_append, List.nil_append, List.mem_cons, List.not_mem_nil, or_false]; rintro c9 (rfl | rfl | rfl | rfl | rfl | rfl | rfl | rfl | rfl | rfl | rfl | rfl | rfl | rfl | rfl | rfl) <;> simp <;> omega)
  clear K5
  have K7 := Kept.set (p := [(⟨w1.heap.size, 0, none⟩, .int .i64 2), (⟨w1.heap.size, 1, none⟩, .int .i64 0), (⟨w1.heap.size, 2, none⟩, .int .i64 ri), (⟨w1.heap.size, 3, none⟩, .int .i64 rg), (⟨w1.heap.size, 4, none⟩, .int .i64 ry)]) (q := [(⟨w1.heap.size, 6, none⟩, .bool false), (⟨g1, 0, none⟩, .string ⟨#[99, 111, 114, 114, 101, 99, 116]⟩), (⟨g1, 1, none⟩, .string ⟨p1.toArray⟩), (⟨g1, 2, none⟩, .string ⟨p2.toArray⟩), (⟨w.heap.size, 0, none⟩, .int .i64 0), (⟨w.heap.size, 1, none⟩, .int .i64 0), (⟨w.heap.size, 2, none⟩, .int .i64 0), (⟨w.heap.size, 3, none⟩, .int .i64 0), (⟨w.heap.size, 4, none⟩, .int .i64 0), (⟨w.heap.size, 5, none⟩, .int .i64 0), (⟨w.heap.size, 6, none⟩, .bool false)]) (a := ⟨w1.heap.size, 5, none⟩) (v := .int .i64 0) K6 (.int .i64 rx) (by simp only; omega) (by simp only [List.cons_append, List.nil_append, List.mem_cons, List.not_mem_nil, or_false]; rintro c9 (rfl | rfl | rfl | rfl | rfl | rfl | rfl | rfl | rfl | rfl | rfl | rfl | rfl | rfl | rfl | rfl) <;> simp <;> omega)
  clear K6
  have K8 := Kept.set (p := [(⟨w1.heap.size, 0, none⟩, .int .i64 2), (⟨w1.heap.size, 1, none⟩, .int .i64 0), (⟨w1.heap.size, 2, none⟩, .int .i64 ri), (⟨w1.heap.size, 3, none⟩, .int .i64 rg), (⟨w1.heap.size, 4, none⟩, .int .i64 ry), (⟨w1.heap.size, 5, none⟩, .int .i64 rx)]) (q := [(⟨g1, 0, none⟩, .string ⟨#[99, 111, 114, 114, 101, 99, 116]⟩), (⟨g1, 1, none⟩, .string ⟨p1.toArray⟩), (⟨g1, 2, none⟩, .string ⟨p2.toArray⟩), (⟨w.heap.size, 0, none⟩, .int .i64 0), (⟨w.heap.size, 1, none⟩, .int .i64 0), (⟨w.heap.size, 2, none⟩, .int .i64 0), (⟨w.heap.size, 3, none⟩, .int .i64 0), (⟨w.heap.size, 4, none⟩, .int .i64 0), (⟨w.heap.size, 5, none⟩, .int .i64 0), (⟨w.heap.size, 6, none⟩, .bool false)]) (a := ⟨w1.heap.size, 6, none⟩) (v := .bool false) K7 (.bool rnl) (by simp only; omega) (by simp only [List.cons_append, List.nil_append, List.mem_cons, List.not_mem_nil, or_false]; rintro c9 (rfl | rfl | rfl | rfl | rfl | rfl | rfl | rfl | rfl | rfl | rfl | rfl | rfl | rfl | rfl | rfl) <;> simp <;> omega)
  clear K7
  have FM0 := fun w => spec_fmtC ⟨2, 0, ⟨ri, rg, ry, rx, rnl⟩⟩ w
  have NO := Lib.hid (fun hne => cand_no (c := ⟨2, 0, ⟨ri, rg, ry, rx, rnl⟩⟩) HP.out (pl := p2) rfl (.inr (.inl ⟨rfl, _, ok, HR.out, rfl⟩)) hne)
  have YES := Lib.hid (fun h => PCh.of (c := ⟨2, 0, ⟨ri, rg, ry, rx, rnl⟩⟩) sne h)
  unfold FcPost at FM0
  obtain ⟨fl, hfl⟩ : ∃ fl, fl = fmtC ⟨2, 0, ⟨ri, rg, ry, rx, rnl⟩⟩ := ⟨_, rfl⟩
  rw [← hfl] at FM0 NO YES
  have FM := Lib.hid FM0
  clear FM0 hfl
  go_wp2_with fail
  refine (FM.out _).mono ?_
  rintro e w4 ⟨rfl, hb⟩
  have K9 := K8.step hb
  clear hb K8
  clear bx0 bx1 bx2 bx3 bx4 bx5 bx6 bxf0 bxf1 bxf2 bxf3 bxf4 bxf5 bxf6 bc0 bc1 bc2
  have x0 := K9.get 0 rfl
  have x1 := K9.get 1 rfl
  have x2 := K9.get 2 rfl
  have x3 := K9.get 3 rfl
  have x4 := K9.get 4 rfl
  have x5 := K9.get 5 rfl
  have x6 := K9.get 6 rfl
  have r0 := K9.get 10 rfl
  have r1 := K9.get 11 rfl
  have r2 := K9.get 12 rfl
  have r3 := K9.get 13 rfl
  have r4 := K9.get 14 rfl
  have r5 := K9.get 15 rfl
  have r6 := K9.get 16 rfl
  have q0 := K9.fz 10 rfl
  have q1 := K9.fz 11 rfl
  have q2 := K9.fz 12 rfl
  have q3 := K9.fz 13 rfl
  have q4 := K9.fz 14 rfl
  have q5 := K9.fz 15 rfl
  have q6 := K9.fz 16 rfl
  have yy := K9.lt 10 rfl
  have HB := Lib.hid K9.1
  clear K9
  by_cases hq : s.data.toList = fl
  · have q : (fl == s.toList) = true := by rw [eq_bytes]; exact decide_eq_true hq
    have AN := Lib.hid (YES.out hq)
    clear hq
    go_wp2
    exact bodyPost_ret (v := .tuple #[.agg #[.int .i64 2, .int .i64 0, .int .i64 ri, .int .i64 rg, .int .i64 ry, .int .i64 rx, .bool rnl], .bool true]) (by simp [results, Tryd.results34, go_sem, r0, r1, r2, r3, r4, r5, r6, yy]) rfl ⟨⟨2, 0, ⟨ri, rg, ry, rx, rnl⟩⟩, true, AN.out, rfl, set7_below HB.out (Nat.le_refl _) _ _ _ _ _ _ _⟩
  · have q : (fl == s.toList) = false := by rw [eq_bytes]; exact decide_eq_false hq
    have AN := Lib.hid (NO.out hq)
    clear hq
    go_wp2
    exact bodyPost_ret (v := .tuple #[.agg #[.int .i64 0, .int .i64 0, .int .i64 0, .int .i64 0, .int .i64 0, .int .i64 0, .bool false], .bool false]) (by simp [results, Tryd.results34, go_sem, r0, r1, r2, r3, r4, r5, r6, yy]) rfl (PCPost.no AN.out (set7_below HB.out (Nat.le_refl _) _ _ _ _ _ _ _))

set_option maxRecDepth 8000 in
set_option maxHeartbeats 6400000 in
theorem spec_pc_delete2 (s : ByteArray) (w : World) (hs : s.size ≤ 1048576) (p1 : List UInt8) (hp : pieces 32 s.data.toList = [wDelete, p1]) :
    Calls Tryd.prog 34 #[.string s] w (PCPost s w) := by
  have hl : s.data.toList.length = s.size := by simp
  have hp1 := pieces_mem_len 32 s.data.toList p1 (by rw [hp]; simp)
  have sne : s.data.toList ≠ [] := fun h => by rw [h] at hp; simp [pieces] at hp
  have C1 := Lib.hid (fun w => spec_cut s 32 w hs)
  have N1 := Lib.hid (fun w => spec_num ⟨p1.toArray⟩ w (by show p1.toArray.size ≤ _; simp; omega))
  have HP := Lib.hid hp
  have zappend : ([100, 101, 108, 101, 116, 101] == ([97, 112, 112, 101, 110, 100] : List UInt8)) = false := by decide
  have zcorrect : ([100, 101, 108, 101, 116, 101] == ([99, 111, 114, 114, 101, 99, 116] : List UInt8)) = false := by decide
  have zdelete : ([100, 101, 108, 101, 116, 101] == ([100, 101, 108, 101, 116, 101] : List UInt8)) = true := by decide
  have zretain : ([100, 101, 108, 101, 116, 101] == ([114, 101, 116, 97, 105, 110] : List UInt8)) = false := by decide
  clear hl hp hp1
  go_enter Tryd.func34, Tryd.ntmps34
  go_wp2_with fail
  have K0 := (Kept.start w).alloc7 (.int .i64 0) (.int .i64 0) (.int .i64 0) (.int .i64 0) (.int .i64 0) (.int .i64 0) (.bool false) 61 _ rfl
  refine (C1.out _).mono ?_
  rintro e w1 ⟨v1, rfl, hS, hb⟩
  rw [HP.out] at hS
  obtain ⟨g1, cap1, hv, hg1, hlt1, hcap1, hcell⟩ := hS.form (by simp)
  have K1a := K0.step hb
  obtain ⟨c0, f0⟩ := hcell 0 (by simp)
  obtain ⟨c1, f1⟩ := hcell 1 (by simp)
  simp only [List.getElem_cons_zero, List.getElem_cons_succ, List.length_cons, List.length_nil, Nat.zero_add, Nat.reduceAdd] at c0 c1 hv hcap1
  unfold wDelete at c0
  subst hv
  have K1 := ((K1a).cons (a := ⟨g1, 1, none⟩) hlt1 c1 f1).cons (a := ⟨g1, 0, none⟩) hlt1 c0 f0
  have hw1 : w.heap.size < w1.heap.size := K1a.lt 0 rfl
  clear hS hcell hb K0 K1a f0 f1
  have K2 := K1.alloc7 (.int .i64 3) (.int .i64 0) (.int .i64 0) (.int .i64 0) (.int .i64 0) (.int .i64 0) (.bool false) 61 w1.heap.size rfl
  go_wp2_with fail
  refine (N1.out _).mono ?_
  rintro e w2 ⟨⟨n, hn, rfl⟩, hb⟩
  have K3 := K2.step hb
  clear hb K2
  have HN := Lib.hid (show NumAns p1 n from hn)
  clear hn c0 c1
  have ax0 := K3.get 0 rfl
  have ax1 := K3.get 1 rfl
  have ax2 := K3.get 2 rfl
  have ax3 := K3.get 3 rfl
  have ax4 := K3.get 4 rfl
  have ax5 := K3.get 5 rfl
  have ax6 := K3.get 6 rfl
  have axf0 := K3.fz 0 rfl
  have axf1 := K3.fz 1 rfl
  have axf2 := K3.fz 2 rfl
  have axf3 := K3.fz 3 rfl
  have axf4 := K3.fz 4 rfl
  have axf5 := K3.fz 5 rfl
  have axf6 := K3.fz 6 rfl
  have ac0 := K3.get 7 rfl
  have ac1 := K3.get 8 rfl
  have K4 := Kept.set (p := [(⟨w1.heap.size, 0, none⟩, .int .i64 3), (⟨w1.heap.size, 1, none⟩, .int .i64 0)]) (q := [(⟨w1.heap.size, 3, none⟩, .int .i64 0), (⟨w1.heap.size, 4, none⟩, .int .i64 0), (⟨w1.heap.size, 5, none⟩, .int .i64 0), (⟨w1.heap.size, 6, none⟩, .bool false), (⟨g1, 0, none⟩, .string ⟨#[100, 101, 108, 101, 116, 101]⟩), (⟨g1, 1, none⟩, .string ⟨p1.toArray⟩), (⟨w.heap.size, 0, none⟩, .int .i64 0), (⟨w.heap.size, 1, none⟩, .int .i64 0), (⟨w.heap.size, 2, none⟩, .int .i64 0), (⟨w.heap.size, 3, none⟩, .int .i64 0), (⟨w.heap.size, 4, none⟩, .int .i64 0), (⟨w.heap.size, 5, none⟩, .int .i64 0), (⟨w.heap.size, 6, none⟩, .bool false)]) (a := ⟨w1.heap.size, 2, none⟩) (v := .int .i64 0) K3 (.int .i64 n) (by simp only; omega) (by simp only [List.cons_append, List.nil_append, List.mem_cons, List.not_mem_nil, or_false]; rintro c9 (rfl | rfl | rfl | rfl | rfl | rfl | rfl | rfl | rfl | rfl | rfl | rfl | rfl | rfl | rfl) <;> simp <;> omega)
  clear K3
  have FM0 := fun w => spec_fmtC ⟨3, 0, ⟨n, 0, 0, 0, false⟩⟩ w
  have NO := Lib.hid (fun hne => cand_no (c := ⟨3, 0, ⟨n, 0, 0, 0, false⟩⟩) HP.out (pl := p1) rfl (.inr (.inr (.inl ⟨rfl, n, HN.out, rfl⟩))) hne)
  have YES := Lib.hid (fun h => PCh.of (c := ⟨3, 0, ⟨n, 0, 0, 0, false⟩⟩) sne h)
  unfold FcPost at FM0
  obtain ⟨fl, hfl⟩ : ∃ fl, fl = fmtC ⟨3, 0, ⟨n, 0, 0, 0, false⟩⟩ := ⟨_, rfl⟩
  rw [← hfl] at FM0 NO YES
  have FM := Lib.hid FM0
  clear FM0 hfl
  go_wp2_with fail
  refine (FM.out _).mono ?_
  rintro e w4 ⟨rfl, hb⟩
  have K5 := K4.step hb
  clear hb K4
  clear ax0 ax1 ax2 ax3 ax4 ax5 ax6 axf0 axf1 axf2 axf3 axf4 axf5 axf6 ac0 ac1
  have x0 := K5.get 0 rfl
  have x1 := K5.get 1 rfl
  have x2 := K5.get 2 rfl
  have x3 := K5.get 3 rfl
  have x4 := K5.get 4 rfl
  have x5 := K5.get 5 rfl
  have x6 := K5.get 6 rfl
  have r0 := K5.get 9 rfl
  have r1 := K5.get 10 rfl
  have r2 := K5.get 11 rfl
  have r3 := K5.get 12 rfl
  have r4 := K5.get 13 rfl
  have r5 := K5.get 14 rfl
  have r6 := K5.get 15 rfl
  have q0 := K5.fz 9 rfl
  have q1 := K5.fz 10 rfl
  have q2 := K5.fz 11 rfl
  have q3 := K5.fz 12 rfl
  have q4 := K5.fz 13 rfl
  have q5 := K5.fz 14 rfl
  have q6 := K5.fz 15 rfl
  have yy := K5.lt 9 rfl
  have HB := Lib.hid K5.1
  clear K5
  by_cases hq : s.data.toList = fl
  · have q : (fl == s.toList) = true := by rw [eq_bytes]; exact decide_eq_true hq
    have AN := Lib.hid (YES.out hq)
    clear hq
    go_wp2
    exact bodyPost_ret (v := .tuple #[.agg #[.int .i64 3, .int .i64 0, .int .i64 n, .int .i64 0, .int .i64 0, .int .i64 0, .bool false], .bool true]) (by simp [results, Tryd.results34, go_sem, r0, r1, r2, r3, r4, r5, r6, yy]) rfl ⟨⟨3, 0, ⟨n, 0, 0, 0, false⟩⟩, true, AN.out, rfl, set7_below HB.out (Nat.le_refl _) _ _ _ _ _ _ _⟩
  · have q : (fl == s.toList) = false := by rw [eq_bytes]; exact decide_eq_false hq
    have AN := Lib.hid (NO.out hq)
    clear hq
    go_wp2
    exact bodyPost_ret (v := .tuple #[.agg #[.int .i64 0, .int .i64 0, .int .i64 0, .int .i64 0, .int .i64 0, .int .i64 0, .bool false], .bool false]) (by simp [results, Tryd.results34, go_sem, r0, r1, r2, r3, r4, r5, r6, yy]) rfl (PCPost.no AN.out (set7_below HB.out (Nat.le_refl _) _ _ _ _ _ _ _))

set_option maxRecDepth 8000 in
set_option maxHeartbeats 6400000 in
theorem spec_pc_delete3 (s : ByteArray) (w : World) (hs : s.size ≤ 1048576) (p1 p2 : List UInt8) (hp : pieces 32 s.data.toList = [wDelete, p1, p2]) :
    Calls Tryd.prog 34 #[.string s] w (PCPost s w) := by
  have hl : s.data.toList.length = s.size := by simp
  have hp1 := pieces_mem_len 32 s.data.toList p1 (by rw [hp]; simp)
  have hp2 := pieces_mem_len 32 s.data.toList p2 (by rw [hp]; simp)
  have sne : s.data.toList ≠ [] := fun h => by rw [h] at hp; simp [pieces] at hp
  have C1 := Lib.hid (fun w => spec_cut s 32 w hs)
  have N1 := Lib.hid (fun w => spec_num ⟨p1.toArray⟩ w (by show p1.toArray.size ≤ _; simp; omega))
  have HP := Lib.hid hp
  have zappend : ([100, 101, 108, 101, 116, 101] == ([97, 112, 112, 101, 110, 100] : List UInt8)) = false := by decide
  have zcorrect : ([100, 101, 108, 101, 116, 101] == ([99, 111, 114, 114, 101, 99, 116] : List UInt8)) = false := by decide
  have zdelete : ([100, 101, 108, 101, 116, 101] == ([100, 101, 108, 101, 116, 101] : List UInt8)) = true := by decide
  have zretain : ([100, 101, 108, 101, 116, 101] == ([114, 101, 116, 97, 105, 110] : List UInt8)) = false := by decide
  clear hl hp hp1 hp2
  go_enter Tryd.func34, Tryd.ntmps34
  go_wp2_with fail
  have K0 := (Kept.start w).alloc7 (.int .i64 0) (.int .i64 0) (.int .i64 0) (.int .i64 0) (.int .i64 0) (.int .i64 0) (.bool false) 61 _ rfl
  refine (C1.out _).mono ?_
  rintro e w1 ⟨v1, rfl, hS, hb⟩
  rw [HP.out] at hS
  obtain ⟨g1, cap1, hv, hg1, hlt1, hcap1, hcell⟩ := hS.form (by simp)
  have K1a := K0.step hb
  obtain ⟨c0, f0⟩ := hcell 0 (by simp)
  obtain ⟨c1, f1⟩ := hcell 1 (by simp)
  obtain ⟨c2, f2⟩ := hcell 2 (by simp)
  simp only [List.getElem_cons_zero, List.getElem_cons_succ, List.length_cons, List.length_nil, Nat.zero_add, Nat.reduceAdd] at c0 c1 c2 hv hcap1
  unfold wDelete at c0
  subst hv
  have K1 := (((K1a).cons (a := ⟨g1, 2, none⟩) hlt1 c2 f2).cons (a := ⟨g1, 1, none⟩) hlt1 c1 f1).cons (a := ⟨g1, 0, none⟩) hlt1 c0 f0
  have hw1 : w.heap.size < w1.heap.size := K1a.lt 0 rfl
  clear hS hcell hb K0 K1a f0 f1 f2
  have K2 := K1.alloc7 (.int .i64 3) (.int .i64 0) (.int .i64 0) (.int .i64 0) (.int .i64 0) (.int .i64 0) (.bool false) 61 w1.heap.size rfl
  go_wp2_with fail
  refine (N1.out _).mono ?_
  rintro e w2 ⟨⟨n, hn, rfl⟩, hb⟩
  have K3 := K2.step hb
  clear hb K2
  have HN := Lib.hid (show NumAns p1 n from hn)
  clear hn c0 c1 c2
  have ax0 := K3.get 0 rfl
  have ax1 := K3.get 1 rfl
  have ax2 := K3.get 2 rfl
  have ax3 := K3.get 3 rfl
  have ax4 := K3.get 4 rfl
  have ax5 := K3.get 5 rfl
  have ax6 := K3.get 6 rfl
  have axf0 := K3.fz 0 rfl
  have axf1 := K3.fz 1 rfl
  have axf2 := K3.fz 2 rfl
  have axf3 := K3.fz 3 rfl
  have axf4 := K3.fz 4 rfl
  have axf5 := K3.fz 5 rfl
  have axf6 := K3.fz 6 rfl
  have ac0 := K3.get 7 rfl
  have ac1 := K3.get 8 rfl
  have ac2 := K3.get 9 rfl
  have K4 := Kept.set (p := [(⟨w1.heap.size, 0, none⟩, .int .i64 3), (⟨w1.heap.size, 1, none⟩, .int .i64 0)]) (q := [(⟨w1.heap.size, 3, none⟩, .int .i64 0), (⟨w1.heap.size, 4, none⟩, .int .i64 0), (⟨w1.heap.size, 5, none⟩, .int .i64 0), (⟨w1.heap.size, 6, none⟩, .bool false), (⟨g1, 0, none⟩, .string ⟨#[100, 101, 108, 101, 116, 101]⟩), (⟨g1, 1, none⟩, .string ⟨p1.toArray⟩), (⟨g1, 2, none⟩, .string ⟨p2.toArray⟩), (⟨w.heap.size, 0, none⟩, .int .i64 0), (⟨w.heap.size, 1, none⟩, .int .i64 0), (⟨w.heap.size, 2, none⟩, .int .i64 0), (⟨w.heap.size, 3, none⟩, .int .i64 0), (⟨w.heap.size, 4, none⟩, .int .i64 0), (⟨w.heap.size, 5, none⟩, .int .i64 0), (⟨w.heap.size, 6, none⟩, .bool false)]) (a := ⟨w1.heap.size, 2, none⟩) (v := .int .i64 0) K3 (.int .i64 n) (by simp only; omega) (by simp only [List.cons_append, List.nil_append, List.mem_cons, List.not_mem_nil, or_false]; rintro c9 (rfl | rfl | rfl | rfl | rfl | rfl | rfl | rfl | rfl | rfl | rfl | rfl | rfl | rfl | rfl | rfl) <;> simp <;> omega)
  clear K3
  have FM0 := fun w => spec_fmtC ⟨3, 0, ⟨n, 0, 0, 0, false⟩⟩ w
  have NO := Lib.hid (fun hne => cand_no (c := ⟨3, 0, ⟨n, 0, 0, 0, false⟩⟩) HP.out (pl := p2) rfl (.inr (.inr (.inl ⟨rfl, n, HN.out, rfl⟩))) hne)
  have YES := Lib.hid (fun h => PCh.of (c := ⟨3, 0, ⟨n, 0, 0, 0, false⟩⟩) sne h)
  unfold FcPost at FM0
  obtain ⟨fl, hfl⟩ : ∃ fl, fl = fmtC ⟨3, 0, ⟨n, 0, 0, 0, false⟩⟩ := ⟨_, rfl⟩
  rw [← hfl] at FM0 NO YES
  have FM := Lib.hid FM0
  clear FM0 hfl
  go_wp2_with fail
  refine (FM.out _).mono ?_
  rintro e w4 ⟨rfl, hb⟩
  have K5 := K4.step hb
  clear hb K4
  clear ax0 ax1 ax2 ax3 ax4 ax5 ax6 axf0 axf1 axf2 axf3 axf4 axf5 axf6 ac0 ac1 ac2
  have x0 := K5.get 0 rfl
  have x1 := K5.get 1 rfl
  have x2 := K5.get 2 rfl
  have x3 := K5.get 3 rfl
  have x4 := K5.get 4 rfl
  have x5 := K5.get 5 rfl
  have x6 := K5.get 6 rfl
  have r0 := K5.get 10 rfl
  have r1 := K5.get 11 rfl
  have r2 := K5.get 12 rfl
  have r3 := K5.get 13 rfl
  have r4 := K5.get 14 rfl
  have r5 := K5.get 15 rfl
  have r6 := K5.get 16 rfl
  have q0 := K5.fz 10 rfl
  have q1 := K5.fz 11 rfl
  have q2 := K5.fz 12 rfl
  have q3 := K5.fz 13 rfl
  have q4 := K5.fz 14 rfl
  have q5 := K5.fz 15 rfl
  have q6 := K5.fz 16 rfl
  have yy := K5.lt 10 rfl
  have HB := Lib.hid K5.1
  clear K5
  by_cases hq : s.data.toList = fl
  · have q : (fl == s.toList) = true := by rw [eq_bytes]; exact decide_eq_true hq
    have AN := Lib.hid (YES.out hq)
    clear hq
    go_wp2
    exact bodyPost_ret (v := .tuple #[.agg #[.int .i64 3, .int .i64 0, .int .i64 n, .int .i64 0, .int .i64 0, .int .i64 0, .bool false], .bool true]) (by simp [results, Tryd.results34, go_sem, r0, r1, r2, r3, r4, r5, r6, yy]) rfl ⟨⟨3, 0, ⟨n, 0, 0, 0, false⟩⟩, true, AN.out, rfl, set7_below HB.out (Nat.le_refl _) _ _ _ _ _ _ _⟩
  · have q : (fl == s.toList) = false := by rw [eq_bytes]; exact decide_eq_false hq
    have AN := Lib.hid (NO.out hq)
    clear hq
    go_wp2
    exact bodyPost_ret (v := .tuple #[.agg #[.int .i64 0, .int .i64 0, .int .i64 0, .int .i64 0, .int .i64 0, .int .i64 0, .bool false], .bool false]) (by simp [results, Tryd.results34, go_sem, r0, r1, r2, r3, r4, r5, r6, yy]) rfl (PCPost.no AN.out (set7_below HB.out (Nat.le_refl _) _ _ _ _ _ _ _))

set_option maxRecDepth 8000 in
set_option maxHeartbeats 6400000 in
theorem spec_pc_retain2 (s : ByteArray) (w : World) (hs : s.size ≤ 1048576) (p1 : List UInt8) (hp : pieces 32 s.data.toList = [wRetain, p1]) :
    Calls Tryd.prog 34 #[.string s] w (PCPost s w) := by
  have hl : s.data.toList.length = s.size := by simp
  have hp1 := pieces_mem_len 32 s.data.toList p1 (by rw [hp]; simp)
  have sne : s.data.toList ≠ [] := fun h => by rw [h] at hp; simp [pieces] at hp
  have C1 := Lib.hid (fun w => spec_cut s 32 w hs)
  have N1 := Lib.hid (fun w => spec_num ⟨p1.toArray⟩ w (by show p1.toArray.size ≤ _; simp; omega))
  have HP := Lib.hid hp
  have zappend : ([114, 101, 116, 97, 105, 110] == ([97, 112, 112, 101, 110, 100] : List UInt8)) = false := by decide
  have zcorrect : ([114, 101, 116, 97, 105, 110] == ([99, 111, 114, 114, 101, 99, 116] : List UInt8)) = false := by decide
  have zdelete : ([114, 101, 116, 97, 105, 110] == ([100, 101, 108, 101, 116, 101] : List UInt8)) = false := by decide
  have zretain : ([114, 101, 116, 97, 105, 110] == ([114, 101, 116, 97, 105, 110] : List UInt8)) = true := by decide
  clear hl hp hp1
  go_enter Tryd.func34, Tryd.ntmps34
  go_wp2_with fail
  have K0 := (Kept.start w).alloc7 (.int .i64 0) (.int .i64 0) (.int .i64 0) (.int .i64 0) (.int .i64 0) (.int .i64 0) (.bool false) 61 _ rfl
  refine (C1.out _).mono ?_
  rintro e w1 ⟨v1, rfl, hS, hb⟩
  rw [HP.out] at hS
  obtain ⟨g1, cap1, hv, hg1, hlt1, hcap1, hcell⟩ := hS.form (by simp)
  have K1a := K0.step hb
  obtain ⟨c0, f0⟩ := hcell 0 (by simp)
  obtain ⟨c1, f1⟩ := hcell 1 (by simp)
  simp only [List.getElem_cons_zero, List.getElem_cons_succ, List.length_cons, List.length_nil, Nat.zero_add, Nat.reduceAdd] at c0 c1 hv hcap1
  unfold wRetain at c0
  subst hv
  have K1 := ((K1a).cons (a := ⟨g1, 1, none⟩) hlt1 c1 f1).cons (a := ⟨g1, 0, none⟩) hlt1 c0 f0
  have hw1 : w.heap.size < w1.heap.size := K1a.lt 0 rfl
  clear hS hcell hb K0 K1a f0 f1
  have K2 := K1.alloc7 (.int .i64 4) (.int .i64 0) (.int .i64 0) (.int .i64 0) (.int .i64 0) (.int .i64 0) (.bool false) 61 w1.heap.size rfl
  go_wp2_with fail
  refine (N1.out _).mono ?_
  rintro e w2 ⟨⟨n, hn, rfl⟩, hb⟩
  have K3 := K2.step hb
  clear hb K2
  have HN := Lib.hid (show NumAns p1 n from hn)
  clear hn c0 c1
  have ax0 := K3.get 0 rfl
  have ax1 := K3.get 1 rfl
  have ax2 := K3.get 2 rfl
  have ax3 := K3.get 3 rfl
  have ax4 := K3.get 4 rfl
  have ax5 := K3.get 5 rfl
  have ax6 := K3.get 6 rfl
  have axf0 := K3.fz 0 rfl
  have axf1 := K3.fz 1 rfl
  have axf2 := K3.fz 2 rfl
  have axf3 := K3.fz 3 rfl
  have axf4 := K3.fz 4 rfl
  have axf5 := K3.fz 5 rfl
  have axf6 := K3.fz 6 rfl
  have ac0 := K3.get 7 rfl
  have ac1 := K3.get 8 rfl
  have K4 := Kept.set (p := [(⟨w1.heap.size, 0, none⟩, .int .i64 4)]) (q := [(⟨w1.heap.size, 2, none⟩, .int .i64 0), (⟨w1.heap.size, 3, none⟩, .int .i64 0), (⟨w1.heap.size, 4, none⟩, .int .i64 0), (⟨w1.heap.size, 5, none⟩, .int .i64 0), (⟨w1.heap.size, 6, none⟩, .bool false), (⟨g1, 0, none⟩, .string ⟨#[114, 101, 116, 97, 105, 110]⟩), (⟨g1, 1, none⟩, .string ⟨p1.toArray⟩), (⟨w.heap.size, 0, none⟩, .int .i64 0), (⟨w.heap.size, 1, none⟩, .int .i64 0), (⟨w.heap.size, 2, none⟩, .int .i64 0), (⟨w.heap.size, 3, none⟩, .int .i64 0), (⟨w.heap.size, 4, none⟩, .int .i64 0), (⟨w.heap.size, 5, none⟩, .int .i64 0), (⟨w.heap.size, 6, none⟩, .bool false)]) (a := ⟨w1.heap.size, 1, none⟩) (v := .int .i64 0) K3 (.int .i64 n) (by simp only; omega) (by simp only [List.cons_append, List.nil_append, List.mem_cons, List.not_mem_nil, or_false]; rintro c9 (rfl | rfl | rfl | rfl | rfl | rfl | rfl | rfl | rfl | rfl | rfl | rfl | rfl | rfl | rfl) <;> simp <;> omega)
  clear K3
  have FM0 := fun w => spec_fmtC ⟨4, n, rw0⟩ w
  have NO := Lib.hid (fun hne => cand_no (c := ⟨4, n, rw0⟩) HP.out (pl := p1) rfl (.inr (.inr (.inr (.inl ⟨rfl, n, HN.out, rfl⟩)))) hne)
  have YES := Lib.hid (fun h => PCh.of (c := ⟨4, n, rw0⟩) sne h)
  unfold FcPost at FM0
  obtain ⟨fl, hfl⟩ : ∃ fl, fl = fmtC ⟨4, n, rw0⟩ := ⟨_, rfl⟩
  rw [← hfl] at FM0 NO YES
  have FM := Lib.hid FM0
  clear FM0 hfl
  go_wp2_with fail
  refine (FM.out _).mono ?_
  rintro e w4 ⟨rfl, hb⟩
  have K5 := K4.step hb
  clear hb K4
  clear ax0 ax1 ax2 ax3 ax4 ax5 ax6 axf0 axf1 axf2 axf3 axf4 axf5 axf6 ac0 ac1
  have x0 := K5.get 0 rfl
  have x1 := K5.get 1 rfl
  have x2 := K5.get 2 rfl
  have x3 := K5.get 3 rfl
  have x4 := K5.get 4 rfl
  have x5 := K5.get 5 rfl
  have x6 := K5.get 6 rfl
  have r0 := K5.get 9 rfl
  have r1 := K5.get 10 rfl
  have r2 := K5.get 11 rfl
  have r3 := K5.get 12 rfl
  have r4 := K5.get 13 rfl
  have r5 := K5.get 14 rfl
  have r6 := K5.get 15 rfl
  have q0 := K5.fz 9 rfl
  have q1 := K5.fz 10 rfl
  have q2 := K5.fz 11 rfl
  have q3 := K5.fz 12 rfl
  have q4 := K5.fz 13 rfl
  have q5 := K5.fz 14 rfl
  have q6 := K5.fz 15 rfl
  have yy := K5.lt 9 rfl
  have HB := Lib.hid K5.1
  clear K5
  by_cases hq : s.data.toList = fl
  · have q : (fl == s.toList) = true := by rw [eq_bytes]; exact decide_eq_true hq
    have AN := Lib.hid (YES.out hq)
    clear hq
    go_wp2
    exact bodyPost_ret (v := .tuple #[.agg #[.int .i64 4, .int .i64 n, .int .i64 0, .int .i64 0, .int .i64 0, .int .i64 0, .bool false], .bool true]) (by simp [results, Tryd.results34, go_sem, r0, r1, r2, r3, r4, r5, r6, yy]) rfl ⟨⟨4, n, rw0⟩, true, AN.out, rfl, set7_below HB.out (Nat.le_refl _) _ _ _ _ _ _ _⟩
  · have q : (fl == s.toList) = false := by rw [eq_bytes]; exact decide_eq_false hq
    have AN := Lib.hid (NO.out hq)
    clear hq
    go_wp2
    exact bodyPost_ret (v := .tuple #[.agg #[.int .i64 0, .int .i64 0, .int .i64 0, .int .i64 0, .int .i64 0, .int .i64 0, .bool false], .bool false]) (by simp [results, Tryd.results34, go_sem, r0, r1, r2, r3, r4, r5, r6, yy]) rfl (PCPost.no AN.out (set7_below HB.out (Nat.le_refl _) _ _ _ _ _ _ _))

set_option maxRecDepth 8000 in
set_option maxHeartbeats 6400000 in
theorem spec_pc_retain3 (s : ByteArray) (w : World) (hs : s.size ≤ 1048576) (p1 p2 : List UInt8) (hp : pieces 32 s.data.toList = [wRetain, p1, p2]) :
    Calls Tryd.prog 34 #[.string s] w (PCPost s w) := by
  have hl : s.data.toList.length = s.size := by simp
  have hp1 := pieces_mem_len 32 s.data.toList p1 (by rw [hp]; simp)
  have hp2 := pieces_mem_len 32 s.data.toList p2 (by rw [hp]; simp)
  have sne : s.data.toList ≠ [] := fun h => by rw [h] at hp; simp [pieces] at hp
  have C1 := Lib.hid (fun w => spec_cut s 32 w hs)
  have N1 := Lib.hid (fun w => spec_num ⟨p1.toArray⟩ w (by show p1.toArray.size ≤ _; simp; omega))
  have HP := Lib.hid hp
  have zappend : ([114, 101, 116, 97, 105, 110] == ([97, 112, 112, 101, 110, 100] : List UInt8)) = false := by decide
  have zcorrect : ([114, 101, 116, 97, 105, 110] == ([99, 111, 114, 114, 101, 99, 116] : List UInt8)) = false := by decide
  have zdelete : ([114, 101, 116, 97, 105, 110] == ([100, 101, 108, 101, 116, 101] : List UInt8)) = false := by decide
  have zretain : ([114, 101, 116, 97, 105, 110] == ([114, 101, 116, 97, 105, 110] : List UInt8)) = true := by decide
  clear hl hp hp1 hp2
  go_enter Tryd.func34, Tryd.ntmps34
  go_wp2_with fail
  have K0 := (Kept.start w).alloc7 (.int .i64 0) (.int .i64 0) (.int .i64 0) (.int .i64 0) (.int .i64 0) (.int .i64 0) (.bool false) 61 _ rfl
  refine (C1.out _).mono ?_
  rintro e w1 ⟨v1, rfl, hS, hb⟩
  rw [HP.out] at hS
  obtain ⟨g1, cap1, hv, hg1, hlt1, hcap1, hcell⟩ := hS.form (by simp)
  have K1a := K0.step hb
  obtain ⟨c0, f0⟩ := hcell 0 (by simp)
  obtain ⟨c1, f1⟩ := hcell 1 (by simp)
  obtain ⟨c2, f2⟩ := hcell 2 (by simp)
  simp only [List.getElem_cons_zero, List.getElem_cons_succ, List.length_cons, List.length_nil, Nat.zero_add, Nat.reduceAdd] at c0 c1 c2 hv hcap1
  unfold wRetain at c0
  subst hv
  have K1 := (((K1a).cons (a := ⟨g1, 2, none⟩) hlt1 c2 f2).cons (a := ⟨g1, 1, none⟩) hlt1 c1 f1).cons (a := ⟨g1, 0, none⟩) hlt1 c0 f0
  have hw1 : w.heap.size < w1.heap.size := K1a.lt 0 rfl
  clear hS hcell hb K0 K1a f0 f1 f2
  have K2 := K1.alloc7 (.int .i64 4) (.int .i64 0) (.int .i64 0) (.int .i64 0) (.int .i64 0) (.int .i64 0) (.bool false) 61 w1.heap.size rfl
  go_wp2_with fail
  refine (N1.out _).mono ?_
  rintro e w2 ⟨⟨n, hn, rfl⟩, hb⟩
  have K3 := K2.step hb
  clear hb K2
  have HN := Lib.hid (show NumAns p1 n from hn)
  clear hn c0 c1 c2
  have ax0 := K3.get 0 rfl
  have ax1 := K3.get 1 rfl
  have ax2 := K3.get 2 rfl
  have ax3 := K3.get 3 rfl
  have ax4 := K3.get 4 rfl
  have ax5 := K3.get 5 rfl
  have ax6 := K3.get 6 rfl
  have axf0 := K3.fz 0 rfl
  have axf1 := K3.fz 1 rfl
  have axf2 := K3.fz 2 rfl
  have axf3 := K3.fz 3 rfl
  have axf4 := K3.fz 4 rfl
  have axf5 := K3.fz 5 rfl
  have axf6 := K3.fz 6 rfl
  have ac0 := K3.get 7 rfl
  have ac1 := K3.get 8 rfl
  have ac2 := K3.get 9 rfl
  have K4 := Kept.set (p := [(⟨w1.heap.size, 0, none⟩, .int .i64 4)]) (q := [(⟨w1.heap.size, 2, none⟩, .int .i64 0), (⟨w1.heap.size, 3, none⟩, .int .i64 0), (⟨w1.heap.size, 4, none⟩, .int .i64 0), (⟨w1.heap.size, 5, none⟩, .int .i64 0), (⟨w1.heap.size, 6, none⟩, .bool false), (⟨g1, 0, none⟩, .string ⟨#[114, 101, 116, 97, 105, 110]⟩), (⟨g1, 1, none⟩, .string ⟨p1.toArray⟩), (⟨g1, 2, none⟩, .string ⟨p2.toArray⟩), (⟨w.heap.size, 0, none⟩, .int .i64 0), (⟨w.heap.size, 1, none⟩, .int .i64 0), (⟨w.heap.size, 2, none⟩, .int .i64 0), (⟨w.heap.size, 3, none⟩, .int .i64 0), (⟨w.heap.size, 4, none⟩, .int .i64 0), (⟨w.heap.size, 5, none⟩, .int .i64 0), (⟨w.heap.size, 6, none⟩, .bool false)]) (a := ⟨w1.heap.size, 1, none⟩) (v := .int .i64 0) K3 (.int .i64 n) (by simp only; omega) (by simp only [List.cons_append, List.nil_append, List.mem_cons, List.not_mem_nil, or_false]; rintro c9 (rfl | rfl | rfl | rfl | rfl | rfl | rfl | rfl | rfl | rfl | rfl | rfl | rfl | rfl | rfl | rfl) <;> simp <;> omega)
  clear K3
  have FM0 := fun w => spec_fmtC ⟨4, n, rw0⟩ w
  have NO := Lib.hid (fun hne => cand_no (c := ⟨4, n, rw0⟩) HP.out (pl := p2) rfl (.inr (.inr (.inr (.inl ⟨rfl, n, HN.out, rfl⟩)))) hne)
  have YES := Lib.hid (fun h => PCh.of (c := ⟨4, n, rw0⟩) sne h)
  unfold FcPost at FM0
  obtain ⟨fl, hfl⟩ : ∃ fl, fl = fmtC ⟨4, n, rw0⟩ := ⟨_, rfl⟩
  rw [← hfl] at FM0 NO YES
  have FM := Lib.hid FM0
  clear FM0 hfl
  go_wp2_with fail
  refine (FM.out _).mono ?_
  rintro e w4 ⟨rfl, hb⟩
  have K5 := K4.step hb
  clear hb K4
  clear ax0 ax1 ax2 ax3 ax4 ax5 ax6 axf0 axf1 axf2 axf3 axf4 axf5 axf6 ac0 ac1 ac2
  have x0 := K5.get 0 rfl
  have x1 := K5.get 1 rfl
  have x2 := K5.get 2 rfl
  have x3 := K5.get 3 rfl
  have x4 := K5.get 4 rfl
  have x5 := K5.get 5 rfl
  have x6 := K5.get 6 rfl
  have r0 := K5.get 10 rfl
  have r1 := K5.get 11 rfl
  have r2 := K5.get 12 rfl
  have r3 := K5.get 13 rfl
  have r4 := K5.get 14 rfl
  have r5 := K5.get 15 rfl
  have r6 := K5.get 16 rfl
  have q0 := K5.fz 10 rfl
  have q1 := K5.fz 11 rfl
  have q2 := K5.fz 12 rfl
  have q3 := K5.fz 13 rfl
  have q4 := K5.fz 14 rfl
  have q5 := K5.fz 15 rfl
  have q6 := K5.fz 16 rfl
  have yy := K5.lt 10 rfl
  have HB := Lib.hid K5.1
  clear K5
  by_cases hq : s.data.toList = fl
  · have q : (fl == s.toList) = true := by rw [eq_bytes]; exact decide_eq_true hq
    have AN := Lib.hid (YES.out hq)
    clear hq
    go_wp2
    exact bodyPost_ret (v := .tuple #[.agg #[.int .i64 4, .int .i64 n, .int .i64 0, .int .i64 0, .int .i64 0, .int .i64 0, .bool false], .bool true]) (by simp [results, Tryd.results34, go_sem, r0, r1, r2, r3, r4, r5, r6, yy]) rfl ⟨⟨4, n, rw0⟩, true, AN.out, rfl, set7_below HB.out (Nat.le_refl _) _ _ _ _ _ _ _⟩
  · have q : (fl == s.toList) = false := by rw [eq_bytes]; exact decide_eq_false hq
    have AN := Lib.hid (NO.out hq)
    clear hq
    go_wp2
    exact bodyPost_ret (v := .tuple #[.agg #[.int .i64 0, .int .i64 0, .int .i64 0, .int .i64 0, .int .i64 0, .int .i64 0, .bool false], .bool false]) (by simp [results, Tryd.results34, go_sem, r0, r1, r2, r3, r4, r5, r6, yy]) rfl (PCPost.no AN.out (set7_below HB.out (Nat.le_refl _) _ _ _ _ _ _ _))

set_option maxRecDepth 8000 in
set_option maxHeartbeats 6400000 in
theorem spec_pc_other2 (s : ByteArray) (w : World) (hs : s.size ≤ 1048576) (p0 : List UInt8) (p1 : List UInt8) (hp : pieces 32 s.data.toList = [p0, p1]) (nappend : p0 ≠ wAppend) (ncorrect : p0 ≠ wCorrect) (ndelete : p0 ≠ wDelete) (nretain : p0 ≠ wRetain) :
    Calls Tryd.prog 34 #[.string s] w (PCPost s w) := by
  have hl : s.data.toList.length = s.size := by simp
  have hp1 := pieces_mem_len 32 s.data.toList p1 (by rw [hp]; simp)
  have sne : s.data.toList ≠ [] := fun h => by rw [h] at hp; simp [pieces] at hp
  have C1 := Lib.hid (fun w => spec_cut s 32 w hs)
  have HP := Lib.hid hp
  have zappend : (p0 == [97, 112, 112, 101, 110, 100]) = false := beq_eq_false_iff_ne.2 nappend
  have zcorrect : (p0 == [99, 111, 114, 114, 101, 99, 116]) = false := beq_eq_false_iff_ne.2 ncorrect
  have zdelete : (p0 == [100, 101, 108, 101, 116, 101]) = false := beq_eq_false_iff_ne.2 ndelete
  have zretain : (p0 == [114, 101, 116, 97, 105, 110]) = false := beq_eq_false_iff_ne.2 nretain
  have Nappend := Lib.hid nappend
  have Ncorrect := Lib.hid ncorrect
  have Ndelete := Lib.hid ndelete
  have Nretain := Lib.hid nretain
  clear nappend ncorrect ndelete nretain
  clear hl hp hp1
  go_enter Tryd.func34, Tryd.ntmps34
  go_wp2_with fail
  have K0 := (Kept.start w).alloc7 (.int .i64 0) (.int .i64 0) (.int .i64 0) (.int .i64 0) (.int .i64 0) (.int .i64 0) (.bool false) 61 _ rfl
  refine (C1.out _).mono ?_
  rintro e w1 ⟨v1, rfl, hS, hb⟩
  rw [HP.out] at hS
  obtain ⟨g1, cap1, hv, hg1, hlt1, hcap1, hcell⟩ := hS.form (by simp)
  have K1a := K0.step hb
  obtain ⟨c0, f0⟩ := hcell 0 (by simp)
  obtain ⟨c1, f1⟩ := hcell 1 (by simp)
  simp only [List.getElem_cons_zero, List.getElem_cons_succ, List.length_cons, List.length_nil, Nat.zero_add, Nat.reduceAdd] at c0 c1 hv hcap1
  subst hv
  have K1 := ((K1a).cons (a := ⟨g1, 1, none⟩) hlt1 c1 f1).cons (a := ⟨g1, 0, none⟩) hlt1 c0 f0
  have hw1 : w.heap.size < w1.heap.size := K1a.lt 0 rfl
  clear hS hcell hb K0 K1a f0 f1
  have K2 := K1.alloc7 (.int .i64 0) (.int .i64 0) (.int .i64 0) (.int .i64 0) (.int .i64 0) (.int .i64 0) (.bool false) 61 w1.heap.size rfl
  have FM0 := fun w => spec_fmtC cg0 w
  have NO := Lib.hid (fun hne => cand_no (c := cg0) HP.out (pl := p1) rfl (.inr (.inr (.inr (.inr ⟨Nappend.out, Ncorrect.out, Ndelete.out, Nretain.out, rfl⟩)))) hne)
  have YES := Lib.hid (fun h => PCh.of (c := cg0) sne h)
  unfold FcPost at FM0
  obtain ⟨fl, hfl⟩ : ∃ fl, fl = fmtC cg0 := ⟨_, rfl⟩
  rw [← hfl] at FM0 NO YES
  have FM := Lib.hid FM0
  clear FM0 hfl
  go_wp2_with fail
  refine (FM.out _).mono ?_
  rintro e w4 ⟨rfl, hb⟩
  have K3 := K2.step hb
  clear hb K2
  have x0 := K3.get 0 rfl
  have x1 := K3.get 1 rfl
  have x2 := K3.get 2 rfl
  have x3 := K3.get 3 rfl
  have x4 := K3.get 4 rfl
  have x5 := K3.get 5 rfl
  have x6 := K3.get 6 rfl
  have r0 := K3.get 9 rfl
  have r1 := K3.get 10 rfl
  have r2 := K3.get 11 rfl
  have r3 := K3.get 12 rfl
  have r4 := K3.get 13 rfl
  have r5 := K3.get 14 rfl
  have r6 := K3.get 15 rfl
  have q0 := K3.fz 9 rfl
  have q1 := K3.fz 10 rfl
  have q2 := K3.fz 11 rfl
  have q3 := K3.fz 12 rfl
  have q4 := K3.fz 13 rfl
  have q5 := K3.fz 14 rfl
  have q6 := K3.fz 15 rfl
  have yy := K3.lt 9 rfl
  have HB := Lib.hid K3.1
  clear K3
  by_cases hq : s.data.toList = fl
  · have q : (fl == s.toList) = true := by rw [eq_bytes]; exact decide_eq_true hq
    have AN := Lib.hid (YES.out hq)
    clear hq
    go_wp2
    exact bodyPost_ret (v := .tuple #[.agg #[.int .i64 0, .int .i64 0, .int .i64 0, .int .i64 0, .int .i64 0, .int .i64 0, .bool false], .bool true]) (by simp [results, Tryd.results34, go_sem, r0, r1, r2, r3, r4, r5, r6, yy]) rfl ⟨cg0, true, AN.out, rfl, set7_below HB.out (Nat.le_refl _) _ _ _ _ _ _ _⟩
  · have q : (fl == s.toList) = false := by rw [eq_bytes]; exact decide_eq_false hq
    have AN := Lib.hid (NO.out hq)
    clear hq
    go_wp2
    exact bodyPost_ret (v := .tuple #[.agg #[.int .i64 0, .int .i64 0, .int .i64 0, .int .i64 0, .int .i64 0, .int .i64 0, .bool false], .bool false]) (by simp [results, Tryd.results34, go_sem, r0, r1, r2, r3, r4, r5, r6, yy]) rfl (PCPost.no AN.out (set7_below HB.out (Nat.le_refl _) _ _ _ _ _ _ _))

set_option maxRecDepth 8000 in
set_option maxHeartbeats 6400000 in
theorem spec_pc_other3 (s : ByteArray) (w : World) (hs : s.size ≤ 1048576) (p0 : List UInt8) (p1 p2 : List UInt8) (hp : pieces 32 s.data.toList = [p0, p1, p2]) (nappend : p0 ≠ wAppend) (ncorrect : p0 ≠ wCorrect) (ndelete : p0 ≠ wDelete) (nretain : p0 ≠ wRetain) :
    Calls Tryd.prog 34 #[.string s] w (PCPost s w) := by
  have hl : s.data.toList.length = s.size := by simp
  have hp1 := pieces_mem_len 32 s.data.toList p1 (by rw [hp]; simp)
  have hp2 := pieces_mem_len 32 s.data.toList p2 (by rw [hp]; simp)
  have sne : s.data.toList ≠ [] := fun h => by rw [h] at hp; simp [pieces] at hp
  have C1 := Lib.hid (fun w => spec_cut s 32 w hs)
  have HP := Lib.hid hp
  have zappend : (p0 == [97, 112, 112, 101, 110, 100]) = false := beq_eq_false_iff_ne.2 nappend
  have zcorrect : (p0 == [99, 111, 114, 114, 101, 99, 116]) = false := beq_eq_false_iff_ne.2 ncorrect
  have zdelete : (p0 == [100, 101, 108, 101, 116, 101]) = false := beq_eq_false_iff_ne.2 ndelete
  have zretain : (p0 == [114, 101, 116, 97, 105, 110]) = false := beq_eq_false_iff_ne.2 nretain
  have Nappend := Lib.hid nappend
  have Ncorrect := Lib.hid ncorrect
  have Ndelete := Lib.hid ndelete
  have Nretain := Lib.hid nretain
  clear nappend ncorrect ndelete nretain
  clear hl hp hp1 hp2
  go_enter Tryd.func34, Tryd.ntmps34
  go_wp2_with fail
  have K0 := (Kept.start w).alloc7 (.int .i64 0) (.int .i64 0) (.int .i64 0) (.int .i64 0) (.int .i64 0) (.int .i64 0) (.bool false) 61 _ rfl
  refine (C1.out _).mono ?_
  rintro e w1 ⟨v1, rfl, hS, hb⟩
  rw [HP.out] at hS
  obtain ⟨g1, cap1, hv, hg1, hlt1, hcap1, hcell⟩ := hS.form (by simp)
  have K1a := K0.step hb
  obtain ⟨c0, f0⟩ := hcell 0 (by simp)
  obtain ⟨c1, f1⟩ := hcell 1 (by simp)
  obtain ⟨c2, f2⟩ := hcell 2 (by simp)
  simp only [List.getElem_cons_zero, List.getElem_cons_succ, List.length_cons, List.length_nil, Nat.zero_add, Nat.reduceAdd] at c0 c1 c2 hv hcap1
  subst hv
  have K1 := (((K1a).cons (a := ⟨g1, 2, none⟩) hlt1 c2 f2).cons (a := ⟨g1, 1, none⟩) hlt1 c1 f1).cons (a := ⟨g1, 0, none⟩) hlt1 c0 f0
  have hw1 : w.heap.size < w1.heap.size := K1a.lt 0 rfl
  clear hS hcell hb K0 K1a f0 f1 f2
  have K2 := K1.alloc7 (.int .i64 0) (.int .i64 0) (.int .i64 0) (.int .i64 0) (.int .i64 0) (.int .i64 0) (.bool false) 61 w1.heap.size rfl
  have FM0 := fun w => spec_fmtC cg0 w
  have NO := Lib.hid (fun hne => cand_no (c := cg0) HP.out (pl := p2) rfl (.inr (.inr (.inr (.inr ⟨Nappend.out, Ncorrect.out, Ndelete.out, Nretain.out, rfl⟩)))) hne)
  have YES := Lib.hid (fun h => PCh.of (c := cg0) sne h)
  unfold FcPost at FM0
  obtain ⟨fl, hfl⟩ : ∃ fl, fl = fmtC cg0 := ⟨_, rfl⟩
  rw [← hfl] at FM0 NO YES
  have FM := Lib.hid FM0
  clear FM0 hfl
  go_wp2_with fail
  refine (FM.out _).mono ?_
  rintro e w4 ⟨rfl, hb⟩
  have K3 := K2.step hb
  clear hb K2
  have x0 := K3.get 0 rfl
  have x1 := K3.get 1 rfl
  have x2 := K3.get 2 rfl
  have x3 := K3.get 3 rfl
  have x4 := K3.get 4 rfl
  have x5 := K3.get 5 rfl
  have x6 := K3.get 6 rfl
  have r0 := K3.get 10 rfl
  have r1 := K3.get 11 rfl
  have r2 := K3.get 12 rfl
  have r3 := K3.get 13 rfl
  have r4 := K3.get 14 rfl
  have r5 := K3.get 15 rfl
  have r6 := K3.get 16 rfl
  have q0 := K3.fz 10 rfl
  have q1 := K3.fz 11 rfl
  have q2 := K3.fz 12 rfl
  have q3 := K3.fz 13 rfl
  have q4 := K3.fz 14 rfl
  have q5 := K3.fz 15 rfl
  have q6 := K3.fz 16 rfl
  have yy := K3.lt 10 rfl
  have HB := Lib.hid K3.1
  clear K3
  by_cases hq : s.data.toList = fl
  · have q : (fl == s.toList) = true := by rw [eq_bytes]; exact decide_eq_true hq
    have AN := Lib.hid (YES.out hq)
    clear hq
    go_wp2
    exact bodyPost_ret (v := .tuple #[.agg #[.int .i64 0, .int .i64 0, .int .i64 0, .int .i64 0, .int .i64 0, .int .i64 0, .bool false], .bool true]) (by simp [results, Tryd.results34, go_sem, r0, r1, r2, r3, r4, r5, r6, yy]) rfl ⟨cg0, true, AN.out, rfl, set7_below HB.out (Nat.le_refl _) _ _ _ _ _ _ _⟩
  · have q : (fl == s.toList) = false := by rw [eq_bytes]; exact decide_eq_false hq
    have AN := Lib.hid (NO.out hq)
    clear hq
    go_wp2
    exact bodyPost_ret (v := .tuple #[.agg #[.int .i64 0, .int .i64 0, .int .i64 0, .int .i64 0, .int .i64 0, .int .i64 0, .bool false], .bool false]) (by simp [results, Tryd.results34, go_sem, r0, r1, r2, r3, r4, r5, r6, yy]) rfl (PCPost.no AN.out (set7_below HB.out (Nat.le_refl _) _ _ _ _ _ _ _))

set_option maxRecDepth 8000 in
set_option maxHeartbeats 6400000 in
theorem spec_pc_out (s : ByteArray) (w : World) (hs : s.size ≤ 1048576) (p0 : List UInt8) (ps : List (List UInt8)) (hp : pieces 32 s.data.toList = p0 :: ps) (h : ps.length < 1 ∨ 2 < ps.length) :
    Calls Tryd.prog 34 #[.string s] w (PCPost s w) := by
  have AN := Lib.hid (show NoCh s.data.toList from noCh_count (by rw [hp, List.length_cons]; omega))
  have hlen := pieces_len 32 s.data.toList
  rw [hp, List.length_cons] at hlen
  have hl : s.data.toList.length = s.size := by simp
  have hmI : (ps.length : Int) ≤ 1048576 := by omega
  have C1 := Lib.hid (fun w => spec_cut s 32 w hs)
  have HP := Lib.hid hp
  have fin : ∀ w1 : World, Kept w w1 [(⟨w.heap.size, 0, none⟩, .int .i64 0), (⟨w.heap.size, 1, none⟩, .int .i64 0), (⟨w.heap.size, 2, none⟩, .int .i64 0), (⟨w.heap.size, 3, none⟩, .int .i64 0), (⟨w.heap.size, 4, none⟩, .int .i64 0), (⟨w.heap.size, 5, none⟩, .int .i64 0), (⟨w.heap.size, 6, none⟩, .bool false)] → True := fun _ _ => trivial
  by_cases h1 : ps.length < 1
  · have e1 : decide ((ps.length : Int) + 1 < 2) = true := decide_eq_true (by omega)
    clear hl hp hlen h fin
    go_enter Tryd.func34, Tryd.ntmps34
    go_wp2_with fail
    have K0 := (Kept.start w).alloc7 (.int .i64 0) (.int .i64 0) (.int .i64 0) (.int .i64 0) (.int .i64 0) (.int .i64 0) (.bool false) 61 _ rfl
    refine (C1.out _).mono ?_
    rintro e w1 ⟨v1, rfl, hS, hb⟩
    rw [HP.out] at hS
    obtain ⟨g1, cap1, hv, hg1, hlt1, hcap1, hcell⟩ := hS.form (by simp)
    have K1 := K0.step hb
    simp only [List.length_cons] at hv hcap1
    subst hv
    clear hS hcell hb K0
    have KX := K1.alloc7 (.int .i64 0) (.int .i64 0) (.int .i64 0) (.int .i64 0) (.int .i64 0) (.int .i64 0) (.bool false) 61 w1.heap.size rfl
    have r0 := K1.get 0 rfl
    have q0 := K1.fz 0 rfl
    have r1 := K1.get 1 rfl
    have q1 := K1.fz 1 rfl
    have r2 := K1.get 2 rfl
    have q2 := K1.fz 2 rfl
    have r3 := K1.get 3 rfl
    have q3 := K1.fz 3 rfl
    have r4 := K1.get 4 rfl
    have q4 := K1.fz 4 rfl
    have r5 := K1.get 5 rfl
    have q5 := K1.fz 5 rfl
    have r6 := K1.get 6 rfl
    have q6 := K1.fz 6 rfl
    have yy := K1.lt 0 rfl
    have HB := Lib.hid KX.1
    have HB1 := Lib.hid K1.1
    clear K1 KX
    go_wp2
    exact bodyPost_ret (v := .tuple #[.agg #[.int .i64 0, .int .i64 0, .int .i64 0, .int .i64 0, .int .i64 0, .int .i64 0, .bool false], .bool false]) (by simp [results, Tryd.results34, go_sem, r0, r1, r2, r3, r4, r5, r6, yy]) rfl (PCPost.no AN.out ((set7_below HB1.out (Nat.le_refl _) _ _ _ _ _ _ _).alloc (by have hz := HB1.out.size; simp; omega) _))
  · have e1 : decide ((ps.length : Int) + 1 < 2) = false := decide_eq_false (by omega)
    have e2 : decide (3 < (ps.length : Int) + 1) = true := decide_eq_true (by omega)
    clear hl hp hlen h fin
    go_enter Tryd.func34, Tryd.ntmps34
    go_wp2_with fail
    have K0 := (Kept.start w).alloc7 (.int .i64 0) (.int .i64 0) (.int .i64 0) (.int .i64 0) (.int .i64 0) (.int .i64 0) (.bool false) 61 _ rfl
    refine (C1.out _).mono ?_
    rintro e w1 ⟨v1, rfl, hS, hb⟩
    rw [HP.out] at hS
    obtain ⟨g1, cap1, hv, hg1, hlt1, hcap1, hcell⟩ := hS.form (by simp)
    have K1 := K0.step hb
    simp only [List.length_cons] at hv hcap1
    subst hv
    clear hS hcell hb K0
    have KX := K1.alloc7 (.int .i64 0) (.int .i64 0) (.int .i64 0) (.int .i64 0) (.int .i64 0) (.int .i64 0) (.bool false) 61 w1.heap.size rfl
    have r0 := K1.get 0 rfl
    have q0 := K1.fz 0 rfl
    have r1 := K1.get 1 rfl
    have q1 := K1.fz 1 rfl
    have r2 := K1.get 2 rfl
    have q2 := K1.fz 2 rfl
    have r3 := K1.get 3 rfl
    have q3 := K1.fz 3 rfl
    have r4 := K1.get 4 rfl
    have q4 := K1.fz 4 rfl
    have r5 := K1.get 5 rfl
    have q5 := K1.fz 5 rfl
    have r6 := K1.get 6 rfl
    have q6 := K1.fz 6 rfl
    have yy := K1.lt 0 rfl
    have HB := Lib.hid KX.1
    have HB1 := Lib.hid K1.1
    clear K1 KX
    go_wp2
    exact bodyPost_ret (v := .tuple #[.agg #[.int .i64 0, .int .i64 0, .int .i64 0, .int .i64 0, .int .i64 0, .int .i64 0, .bool false], .bool false]) (by simp [results, Tryd.results34, go_sem, r0, r1, r2, r3, r4, r5, r6, yy]) rfl (PCPost.no AN.out ((set7_below HB1.out (Nat.le_refl _) _ _ _ _ _ _ _).alloc (by have hz := HB1.out.size; simp; omega) _))

/-- The model's ParseChange. -/
theorem spec_pc (s : ByteArray) (w : World) (hs : s.size ≤ 1048576) :
    Calls Tryd.prog 34 #[.string s] w (PCPost s w) := by
  obtain ⟨p0, ps, hp⟩ : ∃ p0 ps, pieces 32 s.data.toList = p0 :: ps := by
    cases h : pieces 32 s.data.toList with
    | nil => have := (pieces_len 32 s.data.toList).1; rw [h] at this; simp at this
    | cons p0 ps => exact ⟨p0, ps, rfl⟩
  match ps, hp with
  | [], hp => exact spec_pc_out s w hs p0 [] hp (.inl (by simp))
  | [p1], hp =>
    by_cases h1 : p0 = wAppend
    · subst h1; exact spec_pc_append2 s w hs p1 hp
    by_cases h2 : p0 = wCorrect
    · subst h2; exact spec_pc_correct2 s w hs p1 hp
    by_cases h3 : p0 = wDelete
    · subst h3; exact spec_pc_delete2 s w hs p1 hp
    by_cases h4 : p0 = wRetain
    · subst h4; exact spec_pc_retain2 s w hs p1 hp
    exact spec_pc_other2 s w hs p0 p1 hp h1 h2 h3 h4
  | [p1, p2], hp =>
    by_cases h1 : p0 = wAppend
    · subst h1; exact spec_pc_append3 s w hs p1 p2 hp
    by_cases h2 : p0 = wCorrect
    · subst h2; exact spec_pc_correct3 s w hs p1 p2 hp
    by_cases h3 : p0 = wDelete
    · subst h3; exact spec_pc_delete3 s w hs p1 p2 hp
    by_cases h4 : p0 = wRetain
    · subst h4; exact spec_pc_retain3 s w hs p1 p2 hp
    exact spec_pc_other3 s w hs p0 p1 p2 hp h1 h2 h3 h4
  | p1 :: p2 :: p3 :: ps, hp => exact spec_pc_out s w hs p0 (p1 :: p2 :: p3 :: ps) hp (.inr (by simp))
end Go.Proofs.YtndebdimjlfepaaDoor
