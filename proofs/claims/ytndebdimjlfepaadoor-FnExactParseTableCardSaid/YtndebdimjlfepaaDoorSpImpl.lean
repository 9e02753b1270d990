/-
  The walk over the project's splitList: a text cut at its first six separators, a mark and a number in front.
-/
import Derived.Test.YtndebdimjlfepaaDoorRows
import Derived.Test.YtndebdimjlfepaaDoorPsPlain
import Derived.Test.YtndebdimjlfepaaDoorPbSpec
import Derived.Test.YtndebdimjlfepaaDoorJlImpl
import Derived.Test.YtndebdimjlfepaaDoorPiImpl
import Derived.Test.YtndebdimjlfepaaDoorMaxKit
import Derived.Test.YtndebdimjlfepaaDoorShelf
import Derived.Deep.QuietTactic
import Derived.BigQuiet
namespace Go.Proofs.YtndebdimjlfepaaDoor
open Go.RowKit Num

/-- What the cutting leaves. -/
def Split7 (c : UInt8) (s : ByteArray) (w : World) (e : Ending) (w' : World) : Prop :=
  ∃ (g cap : Nat) (p0 : List UInt8) (ps : List (List UInt8)), Cut7 c s.data.toList (p0 :: ps) ∧ ps.length ≤ 6 ∧ (∀ x ∈ p0 :: ps, x.length ≤ s.size) ∧ e = .returned (.slice (some ⟨g, 0, none⟩) (ps.length + 1) cap) ∧ ps.length + 1 ≤ cap ∧ g < w'.heap.size ∧ (∀ k (hk : k < (p0 :: ps).length), w'.cell? ⟨g, k, none⟩ = some (.string ⟨((p0 :: ps)[k]).toArray⟩)) ∧ Below w.heap.size w w'

theorem split7 (c : UInt8) (s : ByteArray) (w : World) (hs : s.size ≤ 1048576) (hm : MaxCell w) : Calls Tryd.prog 79 #[.string s, .string ⟨#[c]⟩, .int .i64 7] w (Split7 c s w) := by
  obtain ⟨m, hm⟩ := hm
  refine (Tryd.strings_SplitN s ⟨#[c]⟩ 7 m w (by omega) hm (Nat.le_refl 1) (by decide) (by decide)).mono ?_
  rintro e w' ⟨rfl, rfl⟩
  have hl : s.data.toList.length = s.size := by simp
  have hD := Lib.splitB_data ⟨#[c]⟩ 0 (min 7 (s.size + 1) - 1) s
  have hle := Lib.splitB_length_le ⟨#[c]⟩ 0 (min 7 (s.size + 1) - 1) s
  have h7 := cut7_of c s.data.toList (min 7 (s.size + 1) - 1) (by rw [hl])
  have hmem := splitK_mem_len c (min 7 (s.size + 1) - 1) s.data.toList
  generalize Lib.splitB ⟨#[c]⟩ 0 (min 7 (s.size + 1) - 1) s = Bs at hD hle ⊢
  have hD' : Bs.map (·.data.toList) = Lib.splitK [c] 0 (min 7 (s.size + 1) - 1) s.data.toList := hD
  rw [← hD'] at h7 hmem
  cases Bs with
  | nil => have := cut7_len h7; simp at this
  | cons b bs =>
    refine ⟨w.heap.size, min 7 (s.size + 1), b.data.toList, bs.map (·.data.toList), (show Cut7 c s.data.toList (b.data.toList :: bs.map (·.data.toList)) from h7), ?_, fun x hx => by rw [← hl]; exact hmem x hx, ?_, ?_, by simp, fun k hk => ?_, (Below.refl _ _).alloc (Nat.le_refl _) _⟩
    · simp only [List.length_cons] at hle; rw [List.length_map]; omega
    · simp
    · simp only [List.length_cons] at hle; rw [List.length_map]; omega
    · have hk' : k < (b :: bs).length := by simpa using hk
      rw [cell_of_row _ w.heap.size k _ _ (0, 0) (heap_alloc_new w _)]
      have e1 : (b.data.toList :: bs.map (·.data.toList))[k] = ((b :: bs)[k]).data.toList := by
        have : (b.data.toList :: bs.map (·.data.toList)) = (b :: bs).map (·.data.toList) := rfl
        simp only [this, List.getElem_map]
      rw [e1]
      unfold Lib.cellsOf
      have h2 : k < ((b :: bs).map Value.string).length := by simpa using hk'
      rw [List.getElem?_toArray, List.getElem?_append_left h2, List.getElem?_map, List.getElem?_eq_getElem hk']
      simp

/-- The mark in front. -/
def MarkPost (c : UInt8) (p0 : List UInt8) (w : World) (e : Ending) (w' : World) : Prop := ∃ (d : List UInt8) (m : Bool), Mark c p0 d m ∧ e = .returned (.tuple #[.string ⟨d.toArray⟩, .bool m]) ∧ w = w'
theorem mark_cp (c : UInt8) (p0 : List UInt8) (w : World) : Calls Tryd.prog 75 #[.string ⟨p0.toArray⟩, .string ⟨#[c]⟩] w (MarkPost c p0 w) :=
  (Tryd.strings_CutPrefix ⟨p0.toArray⟩ ⟨#[c]⟩ w).mono fun _ _ ⟨he, hw⟩ => ⟨_, _, mark_of c p0, he, hw.symm⟩

/-- What splitList leaves. -/
def SpPost (c mk : UInt8) (s : ByteArray) (w : World) (e : Ending) (w' : World) : Prop :=
  ∃ (p0 d : List UInt8) (ps : List (List UInt8)) (m k1 : Bool) (n : Int) (ao : Option Addr) (cap : Nat), Cut7 c s.data.toList (p0 :: ps) ∧ ps.length ≤ 6 ∧ (∀ x ∈ ps, x.length ≤ 1048576) ∧ Mark mk p0 d m ∧ PIans d n k1 ∧
    e = .returned (.tuple #[.int .i64 n, .slice ao ps.length cap, .bool (m && k1)]) ∧ TextsAt w' ao ps ∧ Below w.heap.size w w'

set_option maxRecDepth 8000 in
set_option maxHeartbeats 6400000 in
theorem impl_sp (c mk : UInt8) (s : ByteArray) (w : World) (hs : s.size ≤ 1048576) (ht : PowTab w) (hm : MaxCell w) :
    Calls Tryd.prog 54 #[.string s, .string ⟨#[mk]⟩, .string ⟨#[c]⟩, .int .i64 6] w (SpPost c mk s w) := by
  have HT : Hid (PowTab w) := ht
  have HM : Hid (MaxCell w) := hm
  clear ht hm
  go_enter Tryd.func54, Tryd.ntmps54
  go_wp2_with fail
  refine (split7 c s _ hs HM.out).mono ?_
  rintro e w1 ⟨g, cap, p0, ps, h7, h6, hmem, rfl, hcap, hg, hcell, hb⟩
  have B1 := Lib.hid hb
  have H7 := Lib.hid h7
  have HMEM := Lib.hid (show ∀ x ∈ ps, x.length ≤ 1048576 from fun x hx => Nat.le_trans (hmem x (by simp [hx])) hs)
  have HC := Lib.hid hcell
  have c0 : w1.cell? ⟨g, 0, none⟩ = some (.string ⟨p0.toArray⟩) := hcell 0 (by simp)
  have h6I : (ps.length : Int) ≤ 6 := by omega
  have hcapI : (ps.length : Int) + 1 ≤ (cap : Int) := by omega
  have hcap1 : (1 : Int) ≤ (cap : Int) := by omega
  clear h7 hmem hcell hb
  go_wp2_with fail
  refine (mark_cp mk p0 _).mono ?_
  rintro e w2 ⟨d, m, hmk, rfl, rfl⟩
  have MK := Lib.hid hmk
  clear hmk
  go_wp2_with fail
  refine (impl_pi ⟨d.toArray⟩ _ (HT.out.below B1.out (Nat.le_refl _))).mono ?_
  rintro e w3 ⟨⟨n, k1, hp, rfl⟩, hb⟩
  have B3 := Lib.hid (B1.out.trans (hb.mono B1.out.size))
  have A1 := Lib.hid (show PIans d n k1 from hp)
  have TA := Lib.hid (show TextsAt w3 (some ⟨g, 1, none⟩) ps from .inr ⟨g, 1, rfl, Nat.lt_of_lt_of_le hg hb.size, fun k hk => by
    rw [hb.cell (p := ⟨g, 1 + k, none⟩) hg, Nat.add_comm 1 k]
    exact HC.out (k + 1) (by simp only [List.length_cons]; omega)⟩)
  clear hb hp HC c0 hg
  obtain ⟨T, hT⟩ : ∃ T, T = ps := ⟨_, rfl⟩
  rw [← hT] at HMEM TA H7
  have hTl : ps.length = T.length := by rw [hT]
  have hT6 : T.length ≤ 6 := by omega
  rw [hTl] at hcap h6 h6I hcapI ⊢
  clear hTl hT
  by_cases hc1 : cap = 1
  · have TN := Lib.hid (show ∀ a9, TextsAt w3 a9 T from fun a9 => .inl (List.eq_nil_of_length_eq_zero (by omega)))
    clear TA
    cases m
    · go_wp2_with fail
      go_quiet (fail)
      go_wp2
      go_ret3
      exact ⟨p0, d, T, false, k1, n, _, _, H7.out, h6, HMEM.out, MK.out, A1.out, rfl, (TN.out _).step (below_drewN (Below.refl _ _) _), below_drewN B3.out _⟩
    · go_wp2_with fail
      go_quiet (fail)
      go_wp2
      go_ret3
      exact ⟨p0, d, T, true, k1, n, _, _, H7.out, h6, HMEM.out, MK.out, A1.out, rfl, (TN.out _).step (below_drewN (Below.refl _ _) _), below_drewN B3.out _⟩
  · cases m
    · go_wp2_with fail
      go_quiet (fail)
      go_wp2
      go_ret3
      exact ⟨p0, d, T, false, k1, n, _, _, H7.out, h6, HMEM.out, MK.out, A1.out, rfl, TA.out.step (below_drewN (Below.refl _ _) _), below_drewN B3.out _⟩
    · go_wp2_with fail
      go_quiet (fail)
      go_wp2
      go_ret3
      exact ⟨p0, d, T, true, k1, n, _, _, H7.out, h6, HMEM.out, MK.out, A1.out, rfl, TA.out.step (below_drewN (Below.refl _ _) _), below_drewN B3.out _⟩
end Go.Proofs.YtndebdimjlfepaaDoor
