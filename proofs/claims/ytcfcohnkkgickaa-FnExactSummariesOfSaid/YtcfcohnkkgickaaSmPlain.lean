/-
  Plain mathematics of summaries; what a slice of summaries stands for.
-/
import Derived.Test.YtcfcohnkkgickaaRows
import Derived.Test.YtcfcohnkkgickaaHgPlain
import Derived.Test.YtcfcohnkkgickaaHgAdd
import Derived.Test.YtcfcohnkkgickaaIntOwn
import Derived.Test.YtcfcohnkkgickaaTbRep
import Derived.Test.YtcfcohnkkgickaaBkPlain
namespace Go.Proofs.Ytcfcohnkkgickaa
open Go Num

/-- What the values that are not null come to: their number, the least, the greatest, the sum. -/
structure Sp where
  c : Int
  mn : Int
  mx : Int
  s : Int
def Sp.z : Sp := ⟨0, 0, 0, 0⟩
def Sp.plus (x y : Sp) : Sp := if x.c = 0 then y else if y.c = 0 then x else ⟨x.c + y.c, min x.mn y.mn, max x.mx y.mx, x.s + y.s⟩
theorem Sp.plus_l {x y : Sp} (h : x.c = 0) : x.plus y = y := if_pos h
theorem Sp.plus_r {x y : Sp} (h : ¬ x.c = 0) (h' : y.c = 0) : x.plus y = x := by unfold Sp.plus; rw [if_neg h, if_pos h']
theorem Sp.plus_b {x y : Sp} (h : ¬ x.c = 0) (h' : ¬ y.c = 0) : x.plus y = ⟨x.c + y.c, min x.mn y.mn, max x.mx y.mx, x.s + y.s⟩ := by unfold Sp.plus; rw [if_neg h, if_neg h']
/-- A row more. -/
def Sp.row (x : Sp) (r : Rw) : Sp := if r.nl = true then x else x.plus ⟨1, r.x, r.x, r.x⟩
def spL (l : List Rw) : Sp := l.foldl Sp.row Sp.z
theorem spL_nil : spL [] = Sp.z := rfl
theorem spL_take {l : List Rw} {k : Nat} (hk : k < l.length) : spL (l.take (k + 1)) = (spL (l.take k)).row l[k] := by
  rw [← List.take_append_getElem hk]
  unfold spL
  rw [List.foldl_append]; rfl
/-- The bounds that hold after k valid rows. -/
def SpB (x : Sp) (k : Int) : Prop := 0 ≤ x.c ∧ x.c ≤ k ∧ (x.c = 0 → x = Sp.z) ∧ -99 ≤ x.mn ∧ x.mn ≤ 99 ∧ -99 ≤ x.mx ∧ x.mx ≤ 99 ∧ x.mn ≤ x.mx ∧ -99 * k ≤ x.s ∧ x.s ≤ 99 * k
theorem SpB.z : SpB Sp.z 0 := by unfold SpB Sp.z; simp
theorem SpB.row {x : Sp} {k : Int} {r : Rw} (h : SpB x k) (hr : -99 ≤ r.x ∧ r.x ≤ 99) : SpB (x.row r) (k + 1) := by
  obtain ⟨xc, xmn, xmx, xs⟩ := x
  obtain ⟨h0, h1, h2, h3, h4, h5, h6, h7, h8, h9⟩ := h
  simp only at h0 h1 h3 h4 h5 h6 h7 h8 h9
  unfold Sp.row Sp.plus
  split
  · exact ⟨h0, by simp only; omega, h2, h3, h4, h5, h6, h7, by simp only; omega, by simp only; omega⟩
  · split
    · next hc =>
      simp only at hc
      have := h2 hc
      simp only [Sp.z, Sp.mk.injEq] at this
      unfold SpB
      refine ⟨by simp only; omega, by simp only; omega, fun e => by simp at e, ?_⟩
      simp only; omega
    · next hc =>
      simp only at hc
      simp only [show ¬ (1 : Int) = 0 by decide, if_false]
      unfold SpB
      refine ⟨by simp only; omega, by simp only; omega, fun e => by simp only at e; omega, ?_⟩
      simp only; omega

/-- A summary. -/
structure Sm where
  b : Int
  c : Int
  u : Int
  mn : Int
  mx : Int
  sm : Int
  h : List Int
def Sm.sp (s : Sm) : Sp := ⟨s.c - s.u, s.mn, s.mx, s.sm⟩
def SpOk (x : Sp) : Prop := (x.c = 0 → x.mn = 0 ∧ x.mx = 0 ∧ x.s = 0) ∧ (¬ x.c = 0 → -99 ≤ x.mn ∧ x.mn ≤ x.mx ∧ x.mx ≤ 99 ∧ x.c * x.mn ≤ x.s ∧ x.s ≤ x.c * x.mx)
noncomputable def spB (x : Sp) : Bool := @decide (SpOk x) (Classical.propDecidable _)
theorem spB_true {x : Sp} (h : SpOk x) : spB x = true := @decide_eq_true _ (Classical.propDecidable _) h
theorem spB_false {x : Sp} (h : ¬ SpOk x) : spB x = false := @decide_eq_false _ (Classical.propDecidable _) h
theorem spB_of {x : Sp} (h : spB x = true) : SpOk x := @of_decide_eq_true _ (Classical.propDecidable _) h
/-- A valid summary. -/
def SmOk (s : Sm) : Prop := (0 ≤ s.b ∧ s.b ≤ 20) ∧ HgOk s.h ∧ s.c = hsum s.h ∧ (0 ≤ s.u ∧ s.u ≤ s.c) ∧ SpOk s.sp
noncomputable def smB (s : Sm) : Bool := @decide (SmOk s) (Classical.propDecidable _)
theorem smB_true {s : Sm} (h : SmOk s) : smB s = true := @decide_eq_true _ (Classical.propDecidable _) h
theorem smB_false {s : Sm} (h : ¬ SmOk s) : smB s = false := @decide_eq_false _ (Classical.propDecidable _) h
theorem smB_of {s : Sm} (h : smB s = true) : SmOk s := @of_decide_eq_true _ (Classical.propDecidable _) h
theorem smB_not {s : Sm} (h : smB s = false) : ¬ SmOk s := @of_decide_eq_false _ (Classical.propDecidable _) h
theorem SmOk.c99 {s : Sm} (h : SmOk s) : 0 ≤ s.c ∧ s.c ≤ 99 := by
  have h1 := h.2.1.2.2
  have h2 := h.2.1.2.1.sum
  have h3 := h.2.2.1
  omega
/-- Products of a number of values and a value. -/
theorem prod99 {c m : Int} (hc : 0 ≤ c ∧ c ≤ 99) (hm : -99 ≤ m ∧ m ≤ 99) : -9801 ≤ c * m ∧ c * m ≤ 9801 := by
  have h1 : c * m ≤ c * 99 := Int.mul_le_mul_of_nonneg_left hm.2 hc.1
  have h2 : c * (-99) ≤ c * m := Int.mul_le_mul_of_nonneg_left hm.1 hc.1
  omega
theorem SpOk.s99 {x : Sp} (h : SpOk x) (hc : 0 ≤ x.c ∧ x.c ≤ 99) : -9801 ≤ x.s ∧ x.s ≤ 9801 ∧ -99 ≤ x.mn ∧ x.mn ≤ 99 ∧ -99 ≤ x.mx ∧ x.mx ≤ 99 := by
  by_cases h0 : x.c = 0
  · have := h.1 h0; omega
  · obtain ⟨h1, h2, h3, h4, h5⟩ := h.2 h0
    have a := prod99 hc (m := x.mn) (by omega)
    have b := prod99 hc (m := x.mx) (by omega)
    omega
/-- What ValuesIn answers. -/
noncomputable def valS (s : Sm) : Int := if smB s = true then s.c - s.u else 0
/-- The summary of a histogram and what the values come to. -/
def sumOf (b : Int) (h : List Int) (x : Sp) : Sm := ⟨b, hsum h, hsum h - x.c, x.mn, x.mx, x.s, h⟩
/-- What Summarize answers. -/
def sumB (id : Int) (l : List Rw) : Sm := if blkB id l.length (Rn l) = true then ⟨id, l.length, (l.length : Int) - (spL l).c, (spL l).mn, (spL l).mx, (spL l).s, histL l⟩ else ⟨0, 0, 0, 0, 0, 0, List.replicate 12 0⟩
/-- What MergeSummaries answers. -/
noncomputable def mrgB (a b : Sm) : Bool := addOkH a.h b.h && (smB a && smB b)
noncomputable def mrgS (a b : Sm) : Sm := if mrgB a b = true then ⟨0, a.c + b.c, a.u + b.u, (a.sp.plus b.sp).mn, (a.sp.plus b.sp).mx, (a.sp.plus b.sp).s, addC a.h b.h⟩ else ⟨0, 0, 0, 0, 0, 0, []⟩

/-- The cells of a summary. -/
def sc (s : Sm) (v : Value) : List Value := [.int .i64 s.b, .int .i64 s.c, .int .i64 s.u, .int .i64 s.mn, .int .i64 s.mx, .int .i64 s.sm, v]
def smTy : Ty Sm where
  size := 7
  rep := fun w cs s fp => ∃ v, cs = sc s v ∧ SliceRep intTy w v s.h fp
  len := fun h => by obtain ⟨v, rfl, _⟩ := h; rfl
  lt := fun h => by obtain ⟨v, _, h⟩ := h; exact h.lt
  keep := fun h hk => by obtain ⟨v, e, h⟩ := h; exact ⟨v, e, h.keep hk⟩

/-- What valid rows come to. -/
theorem rows_ok {l : List Rw} (h : areB (Rn l) l.length = true) : ∀ k (hk : k < l.length), rowB l[k].i l[k].g l[k].y l[k].x l[k].nl = true := fun k hk => by
  have := areB_rows l.length h k hk
  rw [Rn_at hk] at this
  exact this
theorem spL_bound {l : List Rw} (h : ∀ k (hk : k < l.length), rowB l[k].i l[k].g l[k].y l[k].x l[k].nl = true) : ∀ k, k ≤ l.length → SpB (spL (l.take k)) k
  | 0, _ => by rw [List.take_zero, spL_nil]; exact SpB.z
  | k + 1, hk => by
    rw [spL_take (by omega)]
    have := (spL_bound h k (by omega)).row (r := l[k]) (rowB_of (h k (by omega))).2.2.2.1
    rw [show ((k + 1 : Nat) : Int) = (k : Int) + 1 by simp]; exact this
theorem validN_all : ∀ {l : List Rw}, (∀ k (hk : k < l.length), rowB l[k].i l[k].g l[k].y l[k].x l[k].nl = true) → validN l = (l.length : Int)
  | [], _ => rfl
  | r :: l, h => by
    have h0 : rowB r.i r.g r.y r.x r.nl = true := h 0 (by simp)
    rw [validN, if_pos h0, validN_all (fun k hk => h (k + 1) (by simpa using hk)), List.length_cons]
    omega
theorem hist_ok {l : List Rw} (h : ∀ k (hk : k < l.length), rowB l[k].i l[k].g l[k].y l[k].x l[k].nl = true) (hl : l.length ≤ 6) : HgOk (histL l) ∧ hsum (histL l) = (l.length : Int) := by
  have hs := histL_sum l l.length (Nat.le_refl _)
  rw [List.take_length, validN_all h] at hs
  refine ⟨⟨histL_len l, fun x hx => ?_, by omega⟩, hs⟩
  have := histL_bound l l.length (Nat.le_refl _) x (by rw [List.take_length]; exact hx)
  omega
theorem zero12_ok : HgOk (List.replicate 12 0) ∧ hsum (List.replicate 12 0) = 0 := by
  refine ⟨⟨by simp, fun x hx => ?_, by decide⟩, by decide⟩
  have := List.eq_of_mem_replicate hx
  omega
theorem totH_of {h : List Int} (hh : HgOk h) : totH h = hsum h := by unfold totH; rw [if_pos (hgB_true hh)]
theorem sumB_t {id : Int} {l : List Rw} (h : blkB id l.length (Rn l) = true) : sumB id l = ⟨id, l.length, (l.length : Int) - (spL l).c, (spL l).mn, (spL l).mx, (spL l).s, histL l⟩ := if_pos h
theorem sumB_f {id : Int} {l : List Rw} (h : blkB id l.length (Rn l) = false) : sumB id l = ⟨0, 0, 0, 0, 0, 0, List.replicate 12 0⟩ := if_neg (by rw [h]; decide)
theorem sumB_len (id : Int) (l : List Rw) : (sumB id l).h.length = 12 := by
  unfold sumB
  split
  · exact histL_len l
  · simp
theorem mrgB_of {a b : Sm} (h : mrgB a b = true) : HgOk (addC a.h b.h) ∧ SmOk a ∧ SmOk b := by
  unfold mrgB at h
  rw [Bool.and_eq_true, Bool.and_eq_true] at h
  exact ⟨(@of_decide_eq_true _ (Classical.propDecidable _) h.1 : HgOk a.h ∧ HgOk b.h ∧ HgOk (addC a.h b.h)).2.2, smB_of h.2.1, smB_of h.2.2⟩
theorem mrgS_t {a b : Sm} (h : mrgB a b = true) : mrgS a b = ⟨0, a.c + b.c, a.u + b.u, (a.sp.plus b.sp).mn, (a.sp.plus b.sp).mx, (a.sp.plus b.sp).s, addC a.h b.h⟩ := if_pos h
theorem mrgS_f {a b : Sm} (h : mrgB a b = false) : mrgS a b = ⟨0, 0, 0, 0, 0, 0, []⟩ := if_neg (by rw [h]; decide)
theorem mrgS_len (a b : Sm) : (mrgS a b).h.length ≤ 12 := by
  unfold mrgS
  split
  · next h => show (addC a.h b.h).length ≤ 12; rw [(mrgB_of h).1.1]; exact Nat.le_refl _
  · simp
/-- The rows of both, told by their total and what their values come to. -/
theorem mrg_sumOf {a b : Sm} (h : mrgB a b = true) : sumOf 0 (addC a.h b.h) (a.sp.plus b.sp) = mrgS a b := by
  obtain ⟨h1, ha, hb⟩ := mrgB_of h
  rw [mrgS_t h]
  have e1 := addC_sum (a := a.h) (b := b.h) (by rw [ha.2.1.1, hb.2.1.1])
  have c1 := ha.2.2.1
  have c2 := hb.2.2.1
  have u1 := ha.2.2.2.1
  have u2 := hb.2.2.2.1
  unfold sumOf
  rw [e1, ← c1, ← c2]
  have e3 : (a.sp.plus b.sp).c = a.sp.c + b.sp.c := by
    by_cases z1 : a.sp.c = 0
    · rw [Sp.plus_l z1]; omega
    · by_cases z2 : b.sp.c = 0
      · rw [Sp.plus_r z1 z2]; omega
      · rw [Sp.plus_b z1 z2]
  rw [e3]
  have e4 : a.c + b.c - (a.sp.c + b.sp.c) = a.u + b.u := by unfold Sm.sp; simp only; omega
  rw [e4]
end Go.Proofs.Ytcfcohnkkgickaa
