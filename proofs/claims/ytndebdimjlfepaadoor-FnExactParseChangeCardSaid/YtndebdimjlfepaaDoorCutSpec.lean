/-
  The walk over the model's l2Cut: the pieces of a text.
-/
import Derived.Test.YtndebdimjlfepaaDoorRows
import Derived.Test.YtndebdimjlfepaaDoorStrOwn
import Derived.Test.YtndebdimjlfepaaDoorPlain
import Derived.WalkKit
import Derived.WalkSpells
import Derived.WalkLawsBesides
import Derived.IntWalk
import Derived.Lib.Hide
import Derived.Lib.Strings
namespace Go.Proofs.YtndebdimjlfepaaDoor
open Go.RowKit Num

/-- What l2Cut leaves. -/
def CutPost (s : ByteArray) (c : UInt8) (w : World) (e : Ending) (w' : World) : Prop := ∃ v, e = .returned v ∧ Strs w' w.heap.size v (pieces c s.data.toList) ∧ Below w.heap.size w w'

/-- Where the walk stands: frm and k. -/
def CutAt (s : ByteArray) (c : UInt8) (frm k : Nat) (out : List (List UInt8)) : Prop :=
  pieces c s.data.toList = out ++ pieces c (s.data.toList.drop frm) ∧ c ∉ (s.data.toList.drop frm).take (k - frm)

theorem CutAt.start (s : ByteArray) (c : UInt8) : CutAt s c 0 0 [] := ⟨rfl, by simp⟩

theorem drop_split (s : ByteArray) (frm k : Nat) (h1 : frm ≤ k) (h2 : k < s.size) : s.data.toList.drop frm = (s.data.toList.drop frm).take (k - frm) ++ s[k] :: s.data.toList.drop (k + 1) := by
  have hl : s.data.toList.length = s.size := by simp
  have e := List.drop_eq_getElem_cons (l := s.data.toList) (i := k) (by omega)
  have h := (List.take_append_drop (k - frm) (s.data.toList.drop frm)).symm
  rw [List.drop_drop, show frm + (k - frm) = k by omega, e] at h
  exact h

theorem CutAt.hit {s : ByteArray} {c : UInt8} {frm k : Nat} {out : List (List UInt8)} (h : CutAt s c frm k out) (h1 : frm ≤ k) (h2 : k < s.size) (he : s[k] = c) :
    CutAt s c (k + 1) (k + 1) (out ++ [(s.data.toList.drop frm).take (k - frm)]) := by
  refine ⟨?_, by simp⟩
  rw [h.1]
  conv => lhs; rw [drop_split s frm k h1 h2]
  rw [he, pieces_cut c _ _ h.2]
  simp

theorem CutAt.miss {s : ByteArray} {c : UInt8} {frm k : Nat} {out : List (List UInt8)} (h : CutAt s c frm k out) (h1 : frm ≤ k) (h2 : k < s.size) (he : s[k] ≠ c) : CutAt s c frm (k + 1) out := by
  have hl : s.data.toList.length = s.size := by simp
  refine ⟨h.1, ?_⟩
  have e : (s.data.toList.drop frm).take (k + 1 - frm) = (s.data.toList.drop frm).take (k - frm) ++ [s[k]] := by
    rw [show k + 1 - frm = (k - frm) + 1 by omega, List.take_succ_eq_append_getElem (by simp; omega)]
    congr 2
    simp only [List.getElem_drop]
    have : frm + (k - frm) = k := by omega
    simp only [this]
    rfl
  rw [e]
  simp only [List.mem_append, List.mem_singleton, not_or]
  exact ⟨h.2, fun e => he e.symm⟩

theorem CutAt.done {s : ByteArray} {c : UInt8} {frm : Nat} {out : List (List UInt8)} (h : CutAt s c frm s.size out) : pieces c s.data.toList = out ++ [s.data.toList.drop frm] := by
  have hl : s.data.toList.length = s.size := by simp
  have e : (s.data.toList.drop frm).take (s.size - frm) = s.data.toList.drop frm := List.take_of_length_le (by simp)
  rw [h.1]
  have := h.2
  rw [e] at this
  rw [pieces_none c _ this]

theorem cut_len {s : ByteArray} {c : UInt8} {frm k : Nat} {out : List (List UInt8)} (h : CutAt s c frm k out) : out.length ≤ s.size := by
  have h1 := (pieces_len c s.data.toList).2
  have h2 := (pieces_len c (s.data.toList.drop frm)).1
  have hl : s.data.toList.length = s.size := by simp
  have h3 := congrArg List.length h.1
  rw [List.length_append] at h3
  omega

set_option maxRecDepth 8000 in
set_option maxHeartbeats 3200000 in
theorem spec_cut (s : ByteArray) (c : UInt8) (w : World) (hs : s.size ≤ 1048576) :
    Calls Tryd.prog 42 #[.string s, .int .u8 (c.toNat : Int)] w (CutPost s c w) := by
  have hsI : (s.size : Int) ≤ 1048576 := by omega
  go_enter Tryd.func42, Tryd.ntmps42
  go_wp2
  go_loopw [5, 6, 7] (fun v f i wr => ∃ (frm k : Nat) (out : List (List UInt8)), f = .int .i64 frm ∧ i = .int .i64 k ∧ frm ≤ k ∧ k ≤ s.size ∧ Hid (Strs wr w.heap.size v out) ∧ Hid (Below w.heap.size w wr) ∧ Hid (CutAt s c frm k out)) (fun _ _ i _ => s.size - (intOf i).toNat)
  case atStart => exact ⟨0, 0, [], rfl, rfl, Nat.le_refl _, Nat.zero_le _, Strs.lit _ _ (Nat.le_refl _), (Below.refl _ _).alloc (Nat.le_refl _) _, CutAt.start s c⟩
  case round =>
    obtain ⟨frm, k, out, rfl, rfl, hfk, hks, HS, HB, HA⟩ := hrel
    have hol := cut_len HA.out
    have hsz : w.heap.size ≤ _ := HB.out.size
    by_cases hlt : k < s.size
    · have hI1 : (frm : Int) ≤ (k : Int) := by omega
      have hI2 : (k : Int) ≤ (s.size : Int) := by omega
      have hI3 : (k : Int) < (s.size : Int) := by omega
      by_cases he : s[k] = c
      · have q : ((s[k].toNat : Int) == (c.toNat : Int)) = true := by rw [he]; simp
        have HX : Hid (s.extract frm k = ⟨((s.data.toList.drop frm).take (k - frm)).toArray⟩) := Lib.extract_eq s frm k
        have HA2 : Hid (CutAt s c (k + 1) (k + 1) (out ++ [(s.data.toList.drop frm).take (k - frm)])) := HA.out.hit hfk hlt he
        clear he
        go_wp2_with (at_builtin; refine wpList_append_text rfl _ _ rfl w.heap.size u5 out ((s.data.toList.drop frm).take (k - frm)) rfl HS.out _ (congrArg (fun b => #[Value.string b]) HX.out) _ rfl (by omega) hsz HB.out ?_; intro v' w1 hown' hbel')
        go_roundw
        case rel => exact ⟨k + 1, k + 1, _, by go_num, by go_num, by omega, by omega, hown', hbel', HA2.out⟩
        case measure => simp [intOf]; omega
      · have q : ((s[k].toNat : Int) == (c.toNat : Int)) = false := beq_eq_false_iff_ne.2 (fun e => he (UInt8.toNat_inj.1 (by omega)))
        have HA2 : Hid (CutAt s c frm (k + 1) out) := HA.out.miss hfk hlt he
        clear he
        go_wp2
        go_roundw
        case rel => exact ⟨frm, k + 1, out, rfl, by go_num, by omega, by omega, HS.out, HB.out, HA2.out⟩
        case measure => simp [intOf]; omega
    · obtain rfl : k = s.size := by omega
      have hI1 : (frm : Int) ≤ (s.size : Int) := by omega
      have HX : Hid (s.extract frm s.size = ⟨(s.data.toList.drop frm).toArray⟩) := (show _ = _ by
        rw [Lib.extract_eq]
        have e : (s.data.toList.drop frm).take (s.size - frm) = s.data.toList.drop frm := List.take_of_length_le (by simp)
        rw [e])
      have HD := Lib.hid HA.out.done
      go_wp2_with (at_builtin; refine wpList_append_text rfl _ _ rfl w.heap.size u5 out (s.data.toList.drop frm) rfl HS.out _ (congrArg (fun b => #[Value.string b]) HX.out) _ rfl (by omega) hsz HB.out ?_; intro v' w1 hown' hbel')
      go_ret
      exact ⟨v', rfl, by rw [HD.out]; exact hown', hbel'⟩
end Go.Proofs.YtndebdimjlfepaaDoor
