/-
  The walk over the project's parseAll at blocks.
-/
import Derived.Test.YtndebdimjlfepaaDoorRows
import Derived.Test.YtndebdimjlfepaaDoorBkApp
import Derived.Test.YtndebdimjlfepaaDoorTpPlain
import Derived.Test.YtndebdimjlfepaaDoorPbImpl
namespace Go.Proofs.YtndebdimjlfepaaDoor
open Go.RowKit Num

/-- What the reading of blocks leaves. -/
def PbsPost (T : List (List UInt8)) (w : World) (e : Ending) (w' : World) : Prop :=
  (∃ (L : List Blk) (v : Value) (f : List Nat), L.length = T.length ∧ (∀ k (hk : k < T.length) (hk' : k < L.length), RdBlk T[k] L[k] true) ∧ e = .returned (.tuple #[v, .bool true]) ∧ OwnB w' w.heap.size v L f ∧ Below w.heap.size w w') ∨ (∃ k, ∃ hk : k < T.length, (∃ b, RdBlk T[k] b false) ∧ e = .returned (.tuple #[.slice none 0 0, .bool false]) ∧ Below w.heap.size w w')

theorem elemsB_made {w w1 : World} {n : Nat} (hown : w1.ownsRow w.heap.size 39 2 (.slice (some ⟨w.heap.size, 0, none⟩) 0 n) 0 []) : OwnB w1 w.heap.size (.slice (some ⟨w.heap.size, 0, none⟩) 0 n) [] [] :=
  ⟨[], hown, rfl, (fun k hk => by cases hk), List.nodup_nil, fun k hk => by cases hk⟩

set_option maxRecDepth 8000 in
set_option maxHeartbeats 6400000 in
theorem impl_pas (ao : Option Addr) (T : List (List UInt8)) (n cap : Nat) (w : World) (hnT : n = T.length) (hn : T.length ≤ 6) (hT : TextsAt w ao T) (hlen : ∀ x ∈ T, x.length ≤ 1048576) (ht : PowTab w) (hm : MaxCell w) :
    Calls Tryd.prog 64 #[.slice ao n cap, .func (.func 22) #[] #[]] w (PbsPost T w) := by
  subst hnT
  have HTX := Lib.hid hT
  have HLE := Lib.hid hlen
  have HT : Hid (PowTab w) := ht
  have HM : Hid (MaxCell w) := hm
  have HLT : Hid (0 < w.heap.size) := (show _ < _ by obtain ⟨m, hm⟩ := hm; exact World.block_lt_of_cell? w _ hm)
  have hnI : (T.length : Int) ≤ 6 := by omega
  obtain ⟨i0, hi, hx⟩ := Option.map_eq_some_iff.1 Tryd.infoBlk
  simp only [Prod.mk.injEq] at hx
  obtain ⟨hz0, hz1, hz2⟩ := hx
  clear hT hlen ht hm
  go_enter Tryd.func64, Tryd.ntmps64
  go_wp2_with (first | (at_make; refine wpList_make_own _ rfl _ _ _ rfl w.heap.size 39 i0 _ 2 (by kernel_rfl) hi hz0 hz1 .i64 .i64 _ T.length rfl rfl rfl (by rw [hz2]; omega) (by unfold maxLen; omega) (Nat.le_refl _) ?_; intro w1 hown hgr))
  have HB1 := Lib.hid ((Below.refl w.heap.size w).grown hgr (Nat.le_refl _) (by intro k hk; cases hk))
  have HO1 := Lib.hid (elemsB_made (n := T.length) hown)
  clear hown hgr hi hz0 hz1 hz2
  go_loopw [6, 16] (fun vv iv wr => ∃ (k : Nat) (L : List Blk) (a4 : Option Addr) (c4 : Nat) (f : List Nat), k ≤ T.length ∧ iv = .int .i64 k ∧ vv = .slice a4 L.length c4 ∧ Hid (L.length = k ∧ ∀ j (hj : j < T.length) (hj' : j < L.length), RdBlk T[j] L[j] true) ∧ Hid (OwnB wr w.heap.size (.slice a4 L.length c4) L f) ∧ Hid (Below w.heap.size w wr)) (fun _ iv _ => T.length - (intOf iv).toNat)
  case atStart => exact ⟨0, [], _, _, [], Nat.zero_le _, rfl, rfl, ⟨rfl, fun j hj hj' => by simp at hj'⟩, HO1, HB1.out⟩
  case round =>
    obtain ⟨k, L, a4, c4, f, hk, rfl, rfl, HA, HO, HB⟩ := hrel
    by_cases hlt : k < T.length
    · have hkI : (k : Int) < (T.length : Int) := by omega
      obtain ⟨g, o, rfl, hg, hc⟩ := (HTX.out.step HB.out).resolve_left (by intro e; rw [e] at hlt; simp at hlt)
      have c0 := hc k hlt
      have HSZ := Lib.hid (HLE.out T[k] (List.getElem_mem hlt))
      obtain ⟨t, htt⟩ : ∃ t, t = T[k] := ⟨_, rfl⟩
      rw [← htt] at c0 HSZ
      have HTT := Lib.hid htt
      clear hc htt
      go_wp2_with fail
      refine (impl_pb ⟨t.toArray⟩ _ (by have := HSZ.out; simpa [ByteArray.size] using this) (HT.out.below HB.out (Nat.le_refl _)) (HM.out.below HB.out HLT.out)).mono ?_
      rintro e w2 ⟨id, l, ok, vv, fb, hp, rfl, hs, hf, hnd, hb⟩
      have HP := Lib.hid (show RdBlk t ⟨id, l⟩ ok from hp)
      have HB2 := Lib.hid (HB.out.trans (hb.mono HB.out.size))
      have HO2 := Lib.hid (HO.out.step hb)
      have hOl := HO.out.lt
      have HD1 := Lib.hid (show ∀ j ∈ fb, j ∉ f from fun j hj e => by have h1 := hf j hj; have h2 := hOl.2 j e; omega)
      have HD2 := Lib.hid (show ∀ j ∈ fb, (Value.slice a4 L.length c4).ownBlock ≠ some j from fun j hj e => by have h1 := hf j hj; have h2 := (hOl.1 j e).2; omega)
      have HD3 := Lib.hid (show ∀ j ∈ fb, w.heap.size ≤ j from fun j hj => Nat.le_trans HB.out.size (hf j hj))
      obtain ⟨ro, rc, rfl⟩ := hs.val
      have HS := Lib.hid hs
      clear hp hb c0 hg hOl hs hf
      cases ok
      · have AN := Lib.hid (show ∃ b, RdBlk T[k] b false from ⟨⟨id, l⟩, by rw [← HTT.out]; exact HP.out⟩)
        go_wp2
        go_ret2
        exact .inr ⟨k, hlt, AN.out, rfl, HB2.out.alloc HB2.out.size _⟩
      · obtain ⟨m, hm⟩ : ∃ m, m = l.length := ⟨_, rfl⟩
        rw [← hm] at HS
        have HMm := Lib.hid hm
        clear hm
        have KK := ((Kept.start w2).alloc2 (.int .i64 id) (.slice ro m rc) 39 _ rfl).alloc2 (.int .i64 id) (.slice ro m rc) 39 (w2.heap.size + 1) (by simp)
        have n0 := KK.get 0 rfl
        have n1 := KK.get 1 rfl
        have N0 := Lib.hid n0
        have N1 := Lib.hid n1
        have HS2 := Lib.hid (HS.out.step KK.1)
        have KBB := Lib.hid (show KB w _ w.heap.size [] (.slice a4 L.length c4) L f from ⟨⟨HB2.out.trans (KK.1.mono HB2.out.size), fun p hp => by cases hp⟩, HO2.out.step KK.1, fun p hp => by cases hp⟩)
        have zz : w.heap.size ≤ w2.heap.size := HB2.out.size
        have hLk : L.length ≤ 6 := by have := HA.out.1; omega
        clear KK n0 n1
        rw [← HMm.out]
        go_wp2_with (first | (at_builtin; refine wpList_append_kb (W := w) rfl (.tmp 28) (.tmp 30) rfl w.heap.size (.slice a4 L.length c4) [] L f ⟨id, l⟩ ro m rc fb (w2.heap.size + 1) 1 rfl rfl KBB.out N0.out N1.out HS2.out HD3.out hnd HD1.out HD2.out ?_ ?_ (Nat.le_refl _) ?_ ?_; (· intro p hp; cases hp); (· omega); (· simp only [World.size_alloc]; omega); intro v' w6 KB6; obtain ⟨ao', c', hv'⟩ := KB6.2.1.shape; subst hv'; rw [show (L ++ [(⟨id, l⟩ : Blk)]).length = L.length + 1 by simp] at KB6))
        have HR := Lib.hid (show (L ++ [(⟨id, l⟩ : Blk)]).length = k + 1 ∧ ∀ j (hj : j < T.length) (hj' : j < (L ++ [(⟨id, l⟩ : Blk)]).length), RdBlk T[j] (L ++ [(⟨id, l⟩ : Blk)])[j] true from by
          refine ⟨by rw [List.length_append, HA.out.1]; rfl, fun j hj hj' => ?_⟩
          by_cases e : j < L.length
          · rw [List.getElem_append_left e]; exact HA.out.2 j hj e
          · have e2 : j = k := by rw [List.length_append] at hj'; simp at hj'; have := HA.out.1; omega
            subst e2
            rw [List.getElem_append_right (by omega)]
            have := HP.out
            rw [HTT.out] at this
            simpa using this)
        have HK6 := Lib.hid KB6
        clear KB6
        go_wp2
        go_roundw
        case rel => exact ⟨k + 1, L ++ [⟨id, l⟩], ao', c', f ++ fb, by omega, by go_num, by simp, HR, Lib.hid (by simpa using HK6.out.2.1), HK6.out.1.1⟩
        case measure => simp [intOf]; omega
    · obtain rfl : k = T.length := by omega
      have hsd : decide ((T.length : Int) < (T.length : Int)) = false := decide_eq_false (by omega)
      go_wp2
      go_ret2
      exact .inl ⟨L, _, f, HA.out.1, HA.out.2, rfl, HO.out, HB.out⟩
end Go.Proofs.YtndebdimjlfepaaDoor
