/-
  The walks over the project's ParseChange and what it calls.
-/
import Derived.Test.YtndebdimjlfepaaDoorRows
import Derived.Test.YtndebdimjlfepaaDoorPcSpec
import Derived.Test.YtndebdimjlfepaaDoorPrImpl
import Derived.Test.YtndebdimjlfepaaDoorIvcImpl
namespace Go.Proofs.YtndebdimjlfepaaDoor
open Go.RowKit Num

/-- What parseKind leaves. -/
def PkPost (a r : List UInt8) (w : World) (e : Ending) (w' : World) : Prop :=
  ∃ (c : Cg) (ok : Bool), KindAns a r c ok ∧ e = .returned (.tuple #[.agg #[.int .i64 c.k, .int .i64 c.b, .int .i64 c.r.i, .int .i64 c.r.g, .int .i64 c.r.y, .int .i64 c.r.x, .bool c.r.nl], .bool ok]) ∧ Below w.heap.size w w'
theorem size_le {l : List UInt8} (h : l.length ≤ 1048576) : (⟨l.toArray⟩ : ByteArray).size ≤ 1048576 := by
  show l.toArray.size ≤ _
  simpa using h

set_option maxRecDepth 8000 in
set_option maxHeartbeats 6400000 in
theorem impl_pk_append (r : List UInt8) (w : World) (hl : r.length ≤ 1048576) (ht : PowTab w) (hm : MaxCell w) :
    Calls Tryd.prog 68 #[.string ⟨(wAppend).toArray⟩, .string ⟨r.toArray⟩] w (PkPost wAppend r w) := by
  have HT : Hid (PowTab w) := ht
  have HM : Hid (MaxCell w) := hm
  have HLT : Hid (0 < w.heap.size) := (show _ < _ by obtain ⟨m, hm⟩ := hm; exact World.block_lt_of_cell? w _ hm)
  have HS := Lib.hid (size_le hl)
  clear ht hm
  have EA := Lib.hid (show wAppend = [97, 112, 112, 101, 110, 100] from rfl)
  show Calls Tryd.prog 68 #[.string ⟨#[97, 112, 112, 101, 110, 100]⟩, .string ⟨r.toArray⟩] w (PkPost wAppend r w)
  have zappend : ([97, 112, 112, 101, 110, 100] == ([97, 112, 112, 101, 110, 100] : List UInt8)) = true := by decide
  have zcorrect : ([97, 112, 112, 101, 110, 100] == ([99, 111, 114, 114, 101, 99, 116] : List UInt8)) = false := by decide
  have zdelete : ([97, 112, 112, 101, 110, 100] == ([100, 101, 108, 101, 116, 101] : List UInt8)) = false := by decide
  have zretain : ([97, 112, 112, 101, 110, 100] == ([114, 101, 116, 97, 105, 110] : List UInt8)) = false := by decide
  go_enter Tryd.func68, Tryd.ntmps68
  go_wp2_with fail
  have K0 := (Kept.start w).alloc7 (.int .i64 0) (.int .i64 0) (.int .i64 0) (.int .i64 0) (.int .i64 0) (.int .i64 0) (.bool false) 61 _ rfl
  refine (cut_any 32 ⟨r.toArray⟩ _ HS.out (HM.out.below K0.1 HLT.out)).mono ?_
  rintro e w1 ⟨b, q, h1, hc, rfl, hb⟩
  have K1 := K0.step hb
  have HC := Lib.hid (show CutOn 32 r b q h1 from hc)
  have L2 := Lib.hid (size_le (show q.length ≤ 1048576 from Nat.le_trans (cutOn_le HC.out).2 hl))
  clear hb K0 hc
  go_wp2_with fail
  refine (impl_pi ⟨b.toArray⟩ _ (HT.out.below K1.1 (Nat.le_refl _))).mono ?_
  rintro e w2 ⟨⟨n, k1, hp, rfl⟩, hb⟩
  have K2 := K1.step hb
  have HPI := Lib.hid (show PIans b n k1 from hp)
  clear hb K1 hp
  go_wp2_with fail
  refine (impl_pr ⟨q.toArray⟩ _ L2.out (HT.out.below K2.1 (Nat.le_refl _)) (HM.out.below K2.1 HLT.out)).mono ?_
  rintro e w3 ⟨⟨i, g, y, x, nl, k2, hr, rfl⟩, hb⟩
  have K3 := K2.step hb
  have HRR := Lib.hid (show RdR q ⟨i, g, y, x, nl⟩ k2 from hr)
  clear hb K2 hr
  have r0 := K3.get 0 rfl
  have q0 := K3.fz 0 rfl
  have r1 := K3.get 1 rfl
  have q1 := K3.fz 1 rfl
  have r2 := K3.get 2 rfl
  have q2 := K3.fz 2 rfl
  have r3 := K3.get 3 rfl
  have q3 := K3.fz 3 rfl
  have r4 := K3.get 4 rfl
  have q4 := K3.fz 4 rfl
  have r5 := K3.get 5 rfl
  have q5 := K3.fz 5 rfl
  have r6 := K3.get 6 rfl
  have q6 := K3.fz 6 rfl
  have yy := K3.lt 0 rfl
  have HB := Lib.hid K3.1
  clear K3
  have AN := Lib.hid (show KindAns wAppend r ⟨1, n, ⟨i, g, y, x, nl⟩⟩ (k1 && k2) from .inl ⟨rfl, b, q, h1, n, k1, _, k2, HC.out, HPI.out, HRR.out, rfl, rfl⟩)
  cases k1
  · go_wp2
    exact bodyPost_ret (v := .tuple #[.agg #[.int .i64 1, .int .i64 n, .int .i64 i, .int .i64 g, .int .i64 y, .int .i64 x, .bool nl], .bool false]) (by simp [results, Tryd.results68, go_sem, r0, r1, r2, r3, r4, r5, r6, yy]) rfl (⟨_, false, AN.out, rfl, (set7_below HB.out (Nat.le_refl _) _ _ _ _ _ _ _).alloc (by have hz := HB.out.size; simp; omega) _⟩)
  · go_wp2
    exact bodyPost_ret (v := .tuple #[.agg #[.int .i64 1, .int .i64 n, .int .i64 i, .int .i64 g, .int .i64 y, .int .i64 x, .bool nl], .bool k2]) (by simp [results, Tryd.results68, go_sem, r0, r1, r2, r3, r4, r5, r6, yy]) rfl (⟨_, k2, by simpa using AN.out, rfl, (set7_below HB.out (Nat.le_refl _) _ _ _ _ _ _ _).alloc (by have hz := HB.out.size; simp; omega) _⟩)

set_option maxRecDepth 8000 in
set_option maxHeartbeats 6400000 in
theorem impl_pk_correct (r : List UInt8) (w : World) (hl : r.length ≤ 1048576) (ht : PowTab w) (hm : MaxCell w) :
    Calls Tryd.prog 68 #[.string ⟨(wCorrect).toArray⟩, .string ⟨r.toArray⟩] w (PkPost wCorrect r w) := by
  have HT : Hid (PowTab w) := ht
  have HM : Hid (MaxCell w) := hm
  have HLT : Hid (0 < w.heap.size) := (show _ < _ by obtain ⟨m, hm⟩ := hm; exact World.block_lt_of_cell? w _ hm)
  have HS := Lib.hid (size_le hl)
  clear ht hm
  have EA := Lib.hid (show wCorrect = [99, 111, 114, 114, 101, 99, 116] from rfl)
  show Calls Tryd.prog 68 #[.string ⟨#[99, 111, 114, 114, 101, 99, 116]⟩, .string ⟨r.toArray⟩] w (PkPost wCorrect r w)
  have zappend : ([99, 111, 114, 114, 101, 99, 116] == ([97, 112, 112, 101, 110, 100] : List UInt8)) = false := by decide
  have zcorrect : ([99, 111, 114, 114, 101, 99, 116] == ([99, 111, 114, 114, 101, 99, 116] : List UInt8)) = true := by decide
  have zdelete : ([99, 111, 114, 114, 101, 99, 116] == ([100, 101, 108, 101, 116, 101] : List UInt8)) = false := by decide
  have zretain : ([99, 111, 114, 114, 101, 99, 116] == ([114, 101, 116, 97, 105, 110] : List UInt8)) = false := by decide
  go_enter Tryd.func68, Tryd.ntmps68
  go_wp2_with fail
  have K0 := (Kept.start w).alloc7 (.int .i64 0) (.int .i64 0) (.int .i64 0) (.int .i64 0) (.int .i64 0) (.int .i64 0) (.bool false) 61 _ rfl
  refine (impl_pr ⟨r.toArray⟩ _ HS.out (HT.out.below K0.1 (Nat.le_refl _)) (HM.out.below K0.1 HLT.out)).mono ?_
  rintro e w3 ⟨⟨i, g, y, x, nl, k2, hr, rfl⟩, hb⟩
  have K3 := K0.step hb
  have HRR := Lib.hid (show RdR r ⟨i, g, y, x, nl⟩ k2 from hr)
  clear hb K0 hr
  have r0 := K3.get 0 rfl
  have q0 := K3.fz 0 rfl
  have r1 := K3.get 1 rfl
  have q1 := K3.fz 1 rfl
  have r2 := K3.get 2 rfl
  have q2 := K3.fz 2 rfl
  have r3 := K3.get 3 rfl
  have q3 := K3.fz 3 rfl
  have r4 := K3.get 4 rfl
  have q4 := K3.fz 4 rfl
  have r5 := K3.get 5 rfl
  have q5 := K3.fz 5 rfl
  have r6 := K3.get 6 rfl
  have q6 := K3.fz 6 rfl
  have yy := K3.lt 0 rfl
  have HB := Lib.hid K3.1
  clear K3
  have AN := Lib.hid (show KindAns wCorrect r ⟨2, 0, ⟨i, g, y, x, nl⟩⟩ k2 from .inr (.inl ⟨rfl, _, HRR.out, rfl⟩))
  go_wp2
  exact bodyPost_ret (v := .tuple #[.agg #[.int .i64 2, .int .i64 0, .int .i64 i, .int .i64 g, .int .i64 y, .int .i64 x, .bool nl], .bool k2]) (by simp [results, Tryd.results68, go_sem, r0, r1, r2, r3, r4, r5, r6, yy]) rfl (⟨_, k2, AN.out, rfl, (set7_below HB.out (Nat.le_refl _) _ _ _ _ _ _ _).alloc (by have hz := HB.out.size; simp; omega) _⟩)

set_option maxRecDepth 8000 in
set_option maxHeartbeats 6400000 in
theorem impl_pk_delete (r : List UInt8) (w : World) (hl : r.length ≤ 1048576) (ht : PowTab w) (hm : MaxCell w) :
    Calls Tryd.prog 68 #[.string ⟨(wDelete).toArray⟩, .string ⟨r.toArray⟩] w (PkPost wDelete r w) := by
  have HT : Hid (PowTab w) := ht
  have HM : Hid (MaxCell w) := hm
  have HLT : Hid (0 < w.heap.size) := (show _ < _ by obtain ⟨m, hm⟩ := hm; exact World.block_lt_of_cell? w _ hm)
  have HS := Lib.hid (size_le hl)
  clear ht hm
  have EA := Lib.hid (show wDelete = [100, 101, 108, 101, 116, 101] from rfl)
  show Calls Tryd.prog 68 #[.string ⟨#[100, 101, 108, 101, 116, 101]⟩, .string ⟨r.toArray⟩] w (PkPost wDelete r w)
  have zappend : ([100, 101, 108, 101, 116, 101] == ([97, 112, 112, 101, 110, 100] : List UInt8)) = false := by decide
  have zcorrect : ([100, 101, 108, 101, 116, 101] == ([99, 111, 114, 114, 101, 99, 116] : List UInt8)) = false := by decide
  have zdelete : ([100, 101, 108, 101, 116, 101] == ([100, 101, 108, 101, 116, 101] : List UInt8)) = true := by decide
  have zretain : ([100, 101, 108, 101, 116, 101] == ([114, 101, 116, 97, 105, 110] : List UInt8)) = false := by decide
  go_enter Tryd.func68, Tryd.ntmps68
  go_wp2_with fail
  have K0 := (Kept.start w).alloc7 (.int .i64 0) (.int .i64 0) (.int .i64 0) (.int .i64 0) (.int .i64 0) (.int .i64 0) (.bool false) 61 _ rfl
  refine (impl_pi ⟨r.toArray⟩ _ (HT.out.below K0.1 (Nat.le_refl _))).mono ?_
  rintro e w2 ⟨⟨n, k1, hp, rfl⟩, hb⟩
  have K2 := K0.step hb
  have HPI := Lib.hid (show PIans r n k1 from hp)
  clear hb K0 hp
  have r0 := K2.get 0 rfl
  have q0 := K2.fz 0 rfl
  have r1 := K2.get 1 rfl
  have q1 := K2.fz 1 rfl
  have r2 := K2.get 2 rfl
  have q2 := K2.fz 2 rfl
  have r3 := K2.get 3 rfl
  have q3 := K2.fz 3 rfl
  have r4 := K2.get 4 rfl
  have q4 := K2.fz 4 rfl
  have r5 := K2.get 5 rfl
  have q5 := K2.fz 5 rfl
  have r6 := K2.get 6 rfl
  have q6 := K2.fz 6 rfl
  have yy := K2.lt 0 rfl
  have HB := Lib.hid K2.1
  clear K2
  have AN := Lib.hid (show KindAns wDelete r ⟨3, 0, ⟨n, 0, 0, 0, false⟩⟩ k1 from .inr (.inr (.inl ⟨rfl, n, HPI.out, rfl⟩)))
  go_wp2
  exact bodyPost_ret (v := .tuple #[.agg #[.int .i64 3, .int .i64 0, .int .i64 n, .int .i64 0, .int .i64 0, .int .i64 0, .bool false], .bool k1]) (by simp [results, Tryd.results68, go_sem, r0, r1, r2, r3, r4, r5, r6, yy]) rfl (⟨_, k1, AN.out, rfl, set7_below HB.out (Nat.le_refl _) _ _ _ _ _ _ _⟩)

set_option maxRecDepth 8000 in
set_option maxHeartbeats 6400000 in
theorem impl_pk_retain (r : List UInt8) (w : World) (hl : r.length ≤ 1048576) (ht : PowTab w) (hm : MaxCell w) :
    Calls Tryd.prog 68 #[.string ⟨(wRetain).toArray⟩, .string ⟨r.toArray⟩] w (PkPost wRetain r w) := by
  have HT : Hid (PowTab w) := ht
  have HM : Hid (MaxCell w) := hm
  have HLT : Hid (0 < w.heap.size) := (show _ < _ by obtain ⟨m, hm⟩ := hm; exact World.block_lt_of_cell? w _ hm)
  have HS := Lib.hid (size_le hl)
  clear ht hm
  have EA := Lib.hid (show wRetain = [114, 101, 116, 97, 105, 110] from rfl)
  show Calls Tryd.prog 68 #[.string ⟨#[114, 101, 116, 97, 105, 110]⟩, .string ⟨r.toArray⟩] w (PkPost wRetain r w)
  have zappend : ([114, 101, 116, 97, 105, 110] == ([97, 112, 112, 101, 110, 100] : List UInt8)) = false := by decide
  have zcorrect : ([114, 101, 116, 97, 105, 110] == ([99, 111, 114, 114, 101, 99, 116] : List UInt8)) = false := by decide
  have zdelete : ([114, 101, 116, 97, 105, 110] == ([100, 101, 108, 101, 116, 101] : List UInt8)) = false := by decide
  have zretain : ([114, 101, 116, 97, 105, 110] == ([114, 101, 116, 97, 105, 110] : List UInt8)) = true := by decide
  go_enter Tryd.func68, Tryd.ntmps68
  go_wp2_with fail
  have K0 := (Kept.start w).alloc7 (.int .i64 0) (.int .i64 0) (.int .i64 0) (.int .i64 0) (.int .i64 0) (.int .i64 0) (.bool false) 61 _ rfl
  refine (impl_pi ⟨r.toArray⟩ _ (HT.out.below K0.1 (Nat.le_refl _))).mono ?_
  rintro e w2 ⟨⟨n, k1, hp, rfl⟩, hb⟩
  have K2 := K0.step hb
  have HPI := Lib.hid (show PIans r n k1 from hp)
  clear hb K0 hp
  have r0 := K2.get 0 rfl
  have q0 := K2.fz 0 rfl
  have r1 := K2.get 1 rfl
  have q1 := K2.fz 1 rfl
  have r2 := K2.get 2 rfl
  have q2 := K2.fz 2 rfl
  have r3 := K2.get 3 rfl
  have q3 := K2.fz 3 rfl
  have r4 := K2.get 4 rfl
  have q4 := K2.fz 4 rfl
  have r5 := K2.get 5 rfl
  have q5 := K2.fz 5 rfl
  have r6 := K2.get 6 rfl
  have q6 := K2.fz 6 rfl
  have yy := K2.lt 0 rfl
  have HB := Lib.hid K2.1
  clear K2
  have AN := Lib.hid (show KindAns wRetain r ⟨4, n, rw0⟩ k1 from .inr (.inr (.inr (.inl ⟨rfl, n, HPI.out, rfl⟩))))
  go_wp2
  exact bodyPost_ret (v := .tuple #[.agg #[.int .i64 4, .int .i64 n, .int .i64 0, .int .i64 0, .int .i64 0, .int .i64 0, .bool false], .bool k1]) (by simp [results, Tryd.results68, go_sem, r0, r1, r2, r3, r4, r5, r6, yy]) rfl (⟨_, k1, AN.out, rfl, set7_below HB.out (Nat.le_refl _) _ _ _ _ _ _ _⟩)

set_option maxRecDepth 8000 in
set_option maxHeartbeats 6400000 in
theorem impl_pk_other (a : List UInt8) (r : List UInt8) (w : World) (hl : r.length ≤ 1048576) (ht : PowTab w) (hm : MaxCell w) (nappend : a ≠ wAppend) (ncorrect : a ≠ wCorrect) (ndelete : a ≠ wDelete) (nretain : a ≠ wRetain) :
    Calls Tryd.prog 68 #[.string ⟨(a).toArray⟩, .string ⟨r.toArray⟩] w (PkPost a r w) := by
  have HT : Hid (PowTab w) := ht
  have HM : Hid (MaxCell w) := hm
  have HLT : Hid (0 < w.heap.size) := (show _ < _ by obtain ⟨m, hm⟩ := hm; exact World.block_lt_of_cell? w _ hm)
  have HS := Lib.hid (size_le hl)
  clear ht hm
  have zappend : (a == [97, 112, 112, 101, 110, 100]) = false := beq_eq_false_iff_ne.2 nappend
  have Nappend := Lib.hid nappend
  have zcorrect : (a == [99, 111, 114, 114, 101, 99, 116]) = false := beq_eq_false_iff_ne.2 ncorrect
  have Ncorrect := Lib.hid ncorrect
  have zdelete : (a == [100, 101, 108, 101, 116, 101]) = false := beq_eq_false_iff_ne.2 ndelete
  have Ndelete := Lib.hid ndelete
  have zretain : (a == [114, 101, 116, 97, 105, 110]) = false := beq_eq_false_iff_ne.2 nretain
  have Nretain := Lib.hid nretain
  clear nappend ncorrect ndelete nretain
  go_enter Tryd.func68, Tryd.ntmps68
  have K0 := (Kept.start w).alloc7 (.int .i64 0) (.int .i64 0) (.int .i64 0) (.int .i64 0) (.int .i64 0) (.int .i64 0) (.bool false) 61 _ rfl
  have r0 := K0.get 0 rfl
  have q0 := K0.fz 0 rfl
  have r1 := K0.get 1 rfl
  have q1 := K0.fz 1 rfl
  have r2 := K0.get 2 rfl
  have q2 := K0.fz 2 rfl
  have r3 := K0.get 3 rfl
  have q3 := K0.fz 3 rfl
  have r4 := K0.get 4 rfl
  have q4 := K0.fz 4 rfl
  have r5 := K0.get 5 rfl
  have q5 := K0.fz 5 rfl
  have r6 := K0.get 6 rfl
  have q6 := K0.fz 6 rfl
  have yy := K0.lt 0 rfl
  have HB := Lib.hid K0.1
  clear K0
  have AN := Lib.hid (show KindAns a r cg0 false from .inr (.inr (.inr (.inr ⟨Nappend.out, Ncorrect.out, Ndelete.out, Nretain.out, rfl, rfl⟩))))
  go_wp2
  exact bodyPost_ret (v := .tuple #[.agg #[.int .i64 0, .int .i64 0, .int .i64 0, .int .i64 0, .int .i64 0, .int .i64 0, .bool false], .bool false]) (by simp [results, Tryd.results68, go_sem, r0, r1, r2, r3, r4, r5, r6, yy]) rfl (⟨_, false, AN.out, rfl, HB.out⟩)

theorem impl_pk (a r : List UInt8) (w : World) (hl : r.length ≤ 1048576) (ht : PowTab w) (hm : MaxCell w) :
    Calls Tryd.prog 68 #[.string ⟨a.toArray⟩, .string ⟨r.toArray⟩] w (PkPost a r w) := by
  by_cases h1 : a = wAppend
  · subst h1; exact impl_pk_append r w hl ht hm
  by_cases h2 : a = wCorrect
  · subst h2; exact impl_pk_correct r w hl ht hm
  by_cases h3 : a = wDelete
  · subst h3; exact impl_pk_delete r w hl ht hm
  by_cases h4 : a = wRetain
  · subst h4; exact impl_pk_retain r w hl ht hm
  exact impl_pk_other a r w hl ht hm h1 h2 h3 h4

set_option maxRecDepth 8000 in
set_option maxHeartbeats 6400000 in
theorem impl_pc (s : ByteArray) (w : World) (hs : s.size ≤ 1048576) (ht : PowTab w) (hm : MaxCell w) :
    Calls Tryd.prog 35 #[.string s] w (PCPost s w) := by
  have HT : Hid (PowTab w) := ht
  have HM : Hid (MaxCell w) := hm
  have HLT : Hid (0 < w.heap.size) := (show _ < _ by obtain ⟨m, hm⟩ := hm; exact World.block_lt_of_cell? w _ hm)
  clear ht hm
  go_enter Tryd.func35, Tryd.ntmps35
  go_wp2_with fail
  have K0 := (Kept.start w).alloc7 (.int .i64 0) (.int .i64 0) (.int .i64 0) (.int .i64 0) (.int .i64 0) (.int .i64 0) (.bool false) 61 _ rfl
  refine (cut_any 32 s _ hs (HM.out.below K0.1 HLT.out)).mono ?_
  rintro e w1 ⟨a, r, h1, hc, rfl, hb⟩
  have K1 := K0.step hb
  have HC := Lib.hid hc
  have hrl : r.length ≤ 1048576 := by
    have h := (cutOn_le hc).2
    have hl : s.data.toList.length = s.size := by simp
    omega
  clear hb K0 hc
  go_wp2_with fail
  refine (impl_pk a r _ hrl (HT.out.below K1.1 (Nat.le_refl _)) (HM.out.below K1.1 HLT.out)).mono ?_
  rintro e w2 ⟨⟨k, b, ⟨i, g, y, x, nl⟩⟩, ok, hk, rfl, hb⟩
  have K2 := K1.step hb
  have HY := Lib.hid (fun (h : ok = true) (hv : ChOk ⟨k, b, ⟨i, g, y, x, nl⟩⟩) => kind_yes HC.out (by rw [← h]; exact hk) hv)
  have HN := Lib.hid (fun h => kind_no (ok := ok) HC.out hk h)
  clear hb K1 hk
  have IV := Lib.hid (fun w => impl_ivc ⟨k, b, ⟨i, g, y, x, nl⟩⟩ w)
  have KX := K2.alloc7 (.int .i64 k) (.int .i64 b) (.int .i64 i) (.int .i64 g) (.int .i64 y) (.int .i64 x) (.bool nl) 61 w2.heap.size rfl
  cases ok
  · have AN := Lib.hid (HN.out (fun h => by simpa using h.1))
    clear KX
    have r0 := K2.get 0 rfl
    have q0 := K2.fz 0 rfl
    have r1 := K2.get 1 rfl
    have q1 := K2.fz 1 rfl
    have r2 := K2.get 2 rfl
    have q2 := K2.fz 2 rfl
    have r3 := K2.get 3 rfl
    have q3 := K2.fz 3 rfl
    have r4 := K2.get 4 rfl
    have q4 := K2.fz 4 rfl
    have r5 := K2.get 5 rfl
    have q5 := K2.fz 5 rfl
    have r6 := K2.get 6 rfl
    have q6 := K2.fz 6 rfl
    have yy := K2.lt 0 rfl
    have HB := Lib.hid K2.1
    clear K2
    go_wp2
    exact bodyPost_ret (v := .tuple #[.agg #[.int .i64 0, .int .i64 0, .int .i64 0, .int .i64 0, .int .i64 0, .int .i64 0, .bool false], .bool false]) (by simp [results, Tryd.results35, go_sem, r0, r1, r2, r3, r4, r5, r6, yy]) rfl (PCPost.no AN.out ((set7_below HB.out (Nat.le_refl _) _ _ _ _ _ _ _).alloc (by have hz := HB.out.size; simp; omega) _))
  · go_wp2_with fail
    refine (IV.out _).mono ?_
    rintro e w3 ⟨⟨v, hv, rfl⟩, hb⟩
    have K3 := KX.step hb
    clear hb KX K2
    have x0 := K3.get 0 rfl
    have x1 := K3.get 1 rfl
    have x2 := K3.get 2 rfl
    have x3 := K3.get 3 rfl
    have x4 := K3.get 4 rfl
    have x5 := K3.get 5 rfl
    have x6 := K3.get 6 rfl
    have r0 := K3.get 7 rfl
    have q0 := K3.fz 7 rfl
    have r1 := K3.get 8 rfl
    have q1 := K3.fz 8 rfl
    have r2 := K3.get 9 rfl
    have q2 := K3.fz 9 rfl
    have r3 := K3.get 10 rfl
    have q3 := K3.fz 10 rfl
    have r4 := K3.get 11 rfl
    have q4 := K3.fz 11 rfl
    have r5 := K3.get 12 rfl
    have q5 := K3.fz 12 rfl
    have r6 := K3.get 13 rfl
    have q6 := K3.fz 13 rfl
    have yy := K3.lt 7 rfl
    have HB := Lib.hid K3.1
    clear K3
    cases v
    · have AN := Lib.hid (HN.out (fun h => by have := hv.2 h.2; simp at this))
      clear hv
      go_wp2
      exact bodyPost_ret (v := .tuple #[.agg #[.int .i64 0, .int .i64 0, .int .i64 0, .int .i64 0, .int .i64 0, .int .i64 0, .bool false], .bool false]) (by simp [results, Tryd.results35, go_sem, r0, r1, r2, r3, r4, r5, r6, yy]) rfl (PCPost.no AN.out (set7_below HB.out (Nat.le_refl _) _ _ _ _ _ _ _))
    · have AN := Lib.hid (show PCh s.data.toList ⟨k, b, ⟨i, g, y, x, nl⟩⟩ true from .inl ⟨rfl, hv.1 (by first | trivial | rfl), HY.out (by first | trivial | rfl) (hv.1 (by first | trivial | rfl))⟩)
      clear hv
      go_wp2
      exact bodyPost_ret (v := .tuple #[.agg #[.int .i64 k, .int .i64 b, .int .i64 i, .int .i64 g, .int .i64 y, .int .i64 x, .bool nl], .bool true]) (by simp [results, Tryd.results35, go_sem, r0, r1, r2, r3, r4, r5, r6, yy]) rfl (⟨_, true, AN.out, rfl, set7_below HB.out (Nat.le_refl _) _ _ _ _ _ _ _⟩)
end Go.Proofs.YtndebdimjlfepaaDoor
