/-
  The walk over the project's parseAll at rows.
-/
import Derived.Test.YtndebdimjlfepaaDoorRows
import Derived.Test.YtndebdimjlfepaaDoorJlImpl
import Derived.Test.YtndebdimjlfepaaDoorPbSpec
import Derived.Test.YtndebdimjlfepaaDoorPrImpl
import Derived.Test.YtndebdimjlfepaaDoorMaxKit
namespace Go.Proofs.YtndebdimjlfepaaDoor
open Go.RowKit Num

/-- What the reading of rows leaves. -/
def PrsPost (T : List (List UInt8)) (w : World) (e : Ending) (w' : World) : Prop :=
  (∃ (L : List Rw) (v : Value), L.length = T.length ∧ (∀ k (hk : k < T.length) (hk' : k < L.length), RdRow T[k] L[k]) ∧ e = .returned (.tuple #[v, .bool true]) ∧ OwnR w' w.heap.size v L ∧ Below w.heap.size w w') ∨ (∃ k, ∃ hk : k < T.length, PRow T[k] 0 0 0 0 false false ∧ e = .returned (.tuple #[.slice none 0 0, .bool false]) ∧ Below w.heap.size w w')

theorem prow_bad {t : List UInt8} {i g y x : Int} {nl : Bool} (h : PRow t i g y x nl false) : PRow t 0 0 0 0 false false := by
  rcases h with ⟨h, _⟩ | ⟨_, rfl, rfl, rfl, rfl, rfl, h⟩
  · cases h
  · exact .inr ⟨rfl, rfl, rfl, rfl, rfl, rfl, h⟩

set_option maxRecDepth 8000 in
set_option maxHeartbeats 6400000 in
theorem impl_prs (ao : Option Addr) (T : List (List UInt8)) (n cap : Nat) (w : World) (hnT : n = T.length) (hn : T.length ≤ 6) (hT : TextsAt w ao T) (hlen : ∀ x ∈ T, x.length ≤ 1048576) (ht : PowTab w) (hm : MaxCell w) :
    Calls Tryd.prog 55 #[.slice ao n cap, .func (.func 14) #[] #[]] w (PrsPost T w) := by
  subst hnT
  have HTX := Lib.hid hT
  have HLE := Lib.hid hlen
  have HT : Hid (PowTab w) := ht
  have HM : Hid (MaxCell w) := hm
  have HLT : Hid (0 < w.heap.size) := (show _ < _ by obtain ⟨m, hm⟩ := hm; exact World.block_lt_of_cell? w _ hm)
  have hnI : (T.length : Int) ≤ 6 := by omega
  obtain ⟨i0, hi, hx⟩ := Option.map_eq_some_iff.1 Tryd.infoRow
  simp only [Prod.mk.injEq] at hx
  obtain ⟨hz0, hz1, hz2⟩ := hx
  clear hT hlen ht hm
  go_enter Tryd.func55, Tryd.ntmps55
  go_wp2_with (first | (at_make; refine wpList_make_own _ rfl _ _ _ rfl w.heap.size 25 i0 _ 5 (by kernel_rfl) hi hz0 hz1 .i64 .i64 _ T.length rfl rfl rfl (by rw [hz2]; omega) (by unfold maxLen; omega) (Nat.le_refl _) ?_; intro w1 hown hgr))
  have HB1 := Lib.hid ((Below.refl w.heap.size w).grown hgr (Nat.le_refl _) (by intro k hk; cases hk))
  have HO1 : Hid (OwnR w1 w.heap.size (.slice (some ⟨w.heap.size, 0, none⟩) 0 T.length) []) := hown
  clear hown hgr hi hz0 hz1 hz2
  go_loopw [6, 16] (fun vv iv wr => ∃ (k : Nat) (L : List Rw) (a4 : Option Addr) (c4 : Nat), k ≤ T.length ∧ iv = .int .i64 k ∧ vv = .slice a4 L.length c4 ∧ Hid (L.length = k ∧ ∀ j (hj : j < T.length) (hj' : j < L.length), RdRow T[j] L[j]) ∧ Hid (OwnR wr w.heap.size (.slice a4 L.length c4) L) ∧ Hid (Below w.heap.size w wr)) (fun _ iv _ => T.length - (intOf iv).toNat)
  case atStart => exact ⟨0, [], _, _, Nat.zero_le _, rfl, rfl, ⟨rfl, fun j hj hj' => by simp at hj'⟩, HO1.out, HB1.out⟩
  case round =>
    obtain ⟨k, L, a4, c4, hk, rfl, rfl, HA, HO, HB⟩ := hrel
    by_cases hlt : k < T.length
    · have hkI : (k : Int) < (T.length : Int) := by omega
      obtain ⟨g, o, rfl, hg, hc⟩ := (HTX.out.step HB.out).resolve_left (by intro e; rw [e] at hlt; simp at hlt)
      have c0 := hc k hlt
      have HSZ := Lib.hid (HLE.out T[k] (List.getElem_mem hlt))
      obtain ⟨t, htt⟩ : ∃ t, t = T[k] := ⟨_, rfl⟩
      rw [← htt] at c0 HSZ
      have HTT := Lib.hid htt
      clear hc htt
      go_wp2_with fail
      refine (impl_pr ⟨t.toArray⟩ _ (by have := HSZ.out; simpa [ByteArray.size] using this) (HT.out.below HB.out (Nat.le_refl _)) (HM.out.below HB.out HLT.out)).mono ?_
      rintro e w2 ⟨⟨i, g', y, x, nl, ok, hp, rfl⟩, hb⟩
      have HP := Lib.hid (show PRow t i g' y x nl ok from hp)
      have HB2 := Lib.hid (HB.out.trans (hb.mono HB.out.size))
      have HO2 := Lib.hid (HO.out.step hb)
      clear hp hb c0 hg
      cases ok
      · have AN := Lib.hid (show PRow T[k] 0 0 0 0 false false by rw [← HTT.out]; exact prow_bad HP.out)
        go_wp2
        go_ret2
        exact .inr ⟨k, hlt, AN.out, rfl, HB2.out.alloc HB2.out.size _⟩
      · have KK := ((Kept.start w2).alloc5 (.int .i64 i) (.int .i64 g') (.int .i64 y) (.int .i64 x) (.bool nl) 25 _ rfl).alloc5 (.int .i64 i) (.int .i64 g') (.int .i64 y) (.int .i64 x) (.bool nl) 25 (w2.heap.size + 1) (by simp)
        have SR := Lib.hid (SrcR.cells (c := 1) (r := ⟨i, g', y, x, nl⟩) (KK.get 0 rfl) (KK.get 1 rfl) (KK.get 2 rfl) (KK.get 3 rfl) (KK.get 4 rfl))
        have KB := Lib.hid (show KO w _ w.heap.size [] (.slice a4 L.length c4) L from ⟨⟨HB2.out.trans (KK.1.mono HB2.out.size), fun p hp => by cases hp⟩, HO2.out.step KK.1, fun p hp => by cases hp⟩)
        have zz : w.heap.size ≤ w2.heap.size := HB2.out.size
        have hLk : L.length ≤ 6 := by have := HA.out.1; omega
        clear KK
        go_wp2_with (first | (at_builtin; refine wpList_append_ko (W := w) rfl (.tmp 28) (.tmp 30) rfl w.heap.size (.slice a4 L.length c4) (.slice (some ⟨w2.heap.size + 1, 0, none⟩) 1 1) [] L [⟨i, g', y, x, nl⟩] rfl rfl KB.out SR.out ?_ (Nat.le_refl _) ?_ ?_; (· simp only [List.length_cons, List.length_nil]; omega); (· simp only [World.size_alloc]; omega); intro v' w6 KO6; obtain ⟨ao', c', hv'⟩ := KO6.2.1.shape; subst hv'; rw [show (L ++ [(⟨i, g', y, x, nl⟩ : Rw)]).length = L.length + 1 by simp] at KO6))
        have HR := Lib.hid (show (L ++ [(⟨i, g', y, x, nl⟩ : Rw)]).length = k + 1 ∧ ∀ j (hj : j < T.length) (hj' : j < (L ++ [(⟨i, g', y, x, nl⟩ : Rw)]).length), RdRow T[j] (L ++ [(⟨i, g', y, x, nl⟩ : Rw)])[j] from by
          refine ⟨by rw [List.length_append, HA.out.1]; rfl, fun j hj hj' => ?_⟩
          by_cases e : j < L.length
          · rw [List.getElem_append_left e]; exact HA.out.2 j hj e
          · have e2 : j = k := by rw [List.length_append] at hj'; simp at hj'; have := HA.out.1; omega
            subst e2
            rw [List.getElem_append_right (by omega)]
            have := HP.out
            rw [HTT.out] at this
            simpa [RdRow] using this)
        have HK6 := Lib.hid KO6
        clear KO6
        go_wp2
        go_roundw
        case rel => exact ⟨k + 1, L ++ [⟨i, g', y, x, nl⟩], ao', c', by omega, by go_num, by simp, HR, Lib.hid (by simpa using HK6.out.2.1), HK6.out.1.1⟩
        case measure => simp [intOf]; omega
    · obtain rfl : k = T.length := by omega
      have hsd : decide ((T.length : Int) < (T.length : Int)) = false := decide_eq_false (by omega)
      go_wp2
      go_ret2
      exact .inl ⟨L, _, HA.out.1, HA.out.2, rfl, HO.out, HB.out⟩
end Go.Proofs.YtndebdimjlfepaaDoor
