/-
  The walks over the project's reading of rows and of a block.
-/
import Derived.Test.YtoabjmdfopabfaaDoorRows
import Derived.Test.YtoabjmdfopabfaaDoorPsPlain
import Derived.Test.YtoabjmdfopabfaaDoorPbSpec
import Derived.Test.YtoabjmdfopabfaaDoorPrImpl
import Derived.Test.YtoabjmdfopabfaaDoorBvImpl
import Derived.Test.YtoabjmdfopabfaaDoorMaxKit
import Derived.Test.YtoabjmdfopabfaaDoorShelf
namespace Go.Proofs.YtoabjmdfopabfaaDoor
open Go.RowKit Num

/-- The texts T stand in a row. -/
def TextsAt (w : World) (ao : Option Addr) (T : List (List UInt8)) : Prop := T = [] ∨ ∃ g o, ao = some ⟨g, o, none⟩ ∧ g < w.heap.size ∧ ∀ k (hk : k < T.length), w.cell? ⟨g, o + k, none⟩ = some (.string ⟨(T[k]).toArray⟩)
theorem TextsAt.step {w w' : World} {ao : Option Addr} {T : List (List UInt8)} (h : TextsAt w ao T) (hb : Below w.heap.size w w') : TextsAt w' ao T := by
  rcases h with h | ⟨g, o, e, hg, hc⟩
  · exact .inl h
  · exact .inr ⟨g, o, e, Nat.lt_of_lt_of_le hg hb.size, fun k hk => by rw [hb.cell (p := ⟨g, o + k, none⟩) hg]; exact hc k hk⟩

/-- What the reading of rows leaves. -/
def PrsPost (T : List (List UInt8)) (w : World) (e : Ending) (w' : World) : Prop :=
  (∃ (L : List Rw) (v : Value), L.length = T.length ∧ (∀ k (hk : k < T.length) (hk' : k < L.length), RdRow T[k] L[k]) ∧ e = .returned (.tuple #[v, .bool true]) ∧ OwnR w' w.heap.size v L ∧ Below w.heap.size w w') ∨ (∃ k, ∃ hk : k < T.length, PRow T[k] 0 0 0 0 false false ∧ e = .returned (.tuple #[.slice none 0 0, .bool false]) ∧ Below w.heap.size w w')

theorem prow_bad {t : List UInt8} {i g y x : Int} {nl : Bool} (h : PRow t i g y x nl false) : PRow t 0 0 0 0 false false := by
  rcases h with ⟨h, _⟩ | ⟨_, rfl, rfl, rfl, rfl, rfl, h⟩
  · cases h
  · exact .inr ⟨rfl, rfl, rfl, rfl, rfl, rfl, h⟩

set_option maxRecDepth 8000 in
set_option maxHeartbeats 6400000 in
theorem impl_prs (ao : Option Addr) (T : List (List UInt8)) (n cap : Nat) (w : World) (hnT : n = T.length) (hn : T.length ≤ 6) (hT : TextsAt w ao T) (hlen : ∀ x ∈ T, x.length ≤ 1048576) (ht : PowTab w) (hm : MaxCell w) :
    Calls Tryd.prog 29 #[.slice ao n cap] w (PrsPost T w) := by
  subst hnT
  have HTX := Lib.hid hT
  have HLE := Lib.hid hlen
  have HT : Hid (PowTab w) := ht
  have HM : Hid (MaxCell w) := hm
  have HLT : Hid (0 < w.heap.size) := (show _ < _ by obtain ⟨m, hm⟩ := hm; exact World.block_lt_of_cell? w _ hm)
  have hnI : (T.length : Int) ≤ 6 := by omega
  obtain ⟨i0, hi, hx⟩ := Option.map_eq_some_iff.1 Tryd.infoRow
  simp only [Prod.mk.injEq] at hx
  obtain ⟨hz0, hz1, hz2⟩ := hx
  clear hT hlen ht hm
  go_enter Tryd.func29, Tryd.ntmps29
  go_wp2_with (first | (at_make; refine wpList_make_own _ rfl _ _ _ rfl w.heap.size 42 i0 _ 5 (by kernel_rfl) hi hz0 hz1 .i64 .i64 _ T.length rfl rfl rfl (by rw [hz2]; omega) (by unfold maxLen; omega) (Nat.le_refl _) ?_; intro w1 hown hgr))
  have HB1 := Lib.hid ((Below.refl w.heap.size w).grown hgr (Nat.le_refl _) (by intro k hk; cases hk))
  have HO1 : Hid (OwnR w1 w.heap.size (.slice (some ⟨w.heap.size, 0, none⟩) 0 T.length) []) := hown
  clear hown hgr hi hz0 hz1 hz2
  go_loopw [4, 14] (fun vv iv wr => ∃ (k : Nat) (L : List Rw) (a4 : Option Addr) (c4 : Nat), k ≤ T.length ∧ iv = .int .i64 k ∧ vv = .slice a4 L.length c4 ∧ Hid (L.length = k ∧ ∀ j (hj : j < T.length) (hj' : j < L.length), RdRow T[j] L[j]) ∧ Hid (OwnR wr w.heap.size (.slice a4 L.length c4) L) ∧ Hid (Below w.heap.size w wr)) (fun _ iv _ => T.length - (intOf iv).toNat)
  case atStart => exact ⟨0, [], _, _, Nat.zero_le _, rfl, rfl, ⟨rfl, fun j hj hj' => by simp at hj'⟩, HO1.out, HB1.out⟩
  case round =>
    obtain ⟨k, L, a4, c4, hk, rfl, rfl, HA, HO, HB⟩ := hrel
    by_cases hlt : k < T.length
    · have hkI : (k : Int) < (T.length : Int) := by omega
      obtain ⟨g, o, rfl, hg, hc⟩ := (HTX.out.step HB.out).resolve_left (by intro e; rw [e] at hlt; simp at hlt)
      have c0 := hc k hlt
      have HSZ := Lib.hid (HLE.out T[k] (List.getElem_mem hlt))
      obtain ⟨t, htt⟩ : ∃ t, t = T[k] := ⟨_, rfl⟩
      rw [← htt] at c0 HSZ
      have HTT := Lib.hid htt
      clear hc htt
      go_wp2_with fail
      refine (impl_pr ⟨t.toArray⟩ _ (by have := HSZ.out; simpa [ByteArray.size] using this) (HT.out.below HB.out (Nat.le_refl _)) (HM.out.below HB.out HLT.out)).mono ?_
      rintro e w2 ⟨⟨i, g', y, x, nl, ok, hp, rfl⟩, hb⟩
      have HP := Lib.hid (show PRow t i g' y x nl ok from hp)
      have HB2 := Lib.hid (HB.out.trans (hb.mono HB.out.size))
      have HO2 := Lib.hid (HO.out.step hb)
      clear hp hb c0 hg
      cases ok
      · have AN := Lib.hid (show PRow T[k] 0 0 0 0 false false by rw [← HTT.out]; exact prow_bad HP.out)
        go_wp2
        go_ret2
        exact .inr ⟨k, hlt, AN.out, rfl, HB2.out.alloc HB2.out.size _⟩
      · have KK := ((Kept.start w2).alloc5 (.int .i64 i) (.int .i64 g') (.int .i64 y) (.int .i64 x) (.bool nl) 42 _ rfl).alloc5 (.int .i64 i) (.int .i64 g') (.int .i64 y) (.int .i64 x) (.bool nl) 42 (w2.heap.size + 1) (by simp)
        have SR := Lib.hid (SrcR.cells (c := 1) (r := ⟨i, g', y, x, nl⟩) (KK.get 0 rfl) (KK.get 1 rfl) (KK.get 2 rfl) (KK.get 3 rfl) (KK.get 4 rfl))
        have KB := Lib.hid (show KO w _ w.heap.size [] (.slice a4 L.length c4) L from ⟨⟨HB2.out.trans (KK.1.mono HB2.out.size), fun p hp => by cases hp⟩, HO2.out.step KK.1, fun p hp => by cases hp⟩)
        have zz : w.heap.size ≤ w2.heap.size := HB2.out.size
        have hLk : L.length ≤ 6 := by have := HA.out.1; omega
        clear KK
        go_wp2_with (first | (at_builtin; refine wpList_append_ko (W := w) rfl (.tmp 25) (.tmp 27) rfl w.heap.size (.slice a4 L.length c4) (.slice (some ⟨w2.heap.size + 1, 0, none⟩) 1 1) [] L [⟨i, g', y, x, nl⟩] rfl rfl KB.out SR.out ?_ (Nat.le_refl _) ?_ ?_; (· simp only [List.length_cons, List.length_nil]; omega); (· simp only [World.size_alloc]; omega); intro v' w6 KO6; obtain ⟨ao', c', hv'⟩ := KO6.2.1.shape; subst hv'; rw [show (L ++ [(⟨i, g', y, x, nl⟩ : Rw)]).length = L.length + 1 by simp] at KO6))
        have HR := Lib.hid (show (L ++ [(⟨i, g', y, x, nl⟩ : Rw)]).length = k + 1 ∧ ∀ j (hj : j < T.length) (hj' : j < (L ++ [(⟨i, g', y, x, nl⟩ : Rw)]).length), RdRow T[j] (L ++ [(⟨i, g', y, x, nl⟩ : Rw)])[j] from by
          refine ⟨by rw [List.length_append, HA.out.1]; rfl, fun j hj hj' => ?_⟩
          by_cases e : j < L.length
          · rw [List.getElem_append_left e]; exact HA.out.2 j hj e
          · have e2 : j = k := by rw [List.length_append] at hj'; simp at hj'; have := HA.out.1; omega
            subst e2
            rw [List.getElem_append_right (by omega)]
            have := HP.out
            rw [HTT.out] at this
            simpa [RdRow] using this)
        have HK6 := Lib.hid KO6
        clear KO6
        go_wp2
        go_roundw
        case rel => exact ⟨k + 1, L ++ [⟨i, g', y, x, nl⟩], ao', c', by omega, by go_num, by simp, HR, Lib.hid (by simpa using HK6.out.2.1), HK6.out.1.1⟩
        case measure => simp [intOf]; omega
    · obtain rfl : k = T.length := by omega
      have hsd : decide ((T.length : Int) < (T.length : Int)) = false := decide_eq_false (by omega)
      go_wp2
      go_ret2
      exact .inl ⟨L, _, HA.out.1, HA.out.2, rfl, HO.out, HB.out⟩

/-- What the cutting leaves. -/
def Split7 (s : ByteArray) (w : World) (e : Ending) (w' : World) : Prop :=
  ∃ (g cap : Nat) (p0 : List UInt8) (ps : List (List UInt8)), Cut7 s.data.toList (p0 :: ps) ∧ ps.length ≤ 6 ∧ (∀ x ∈ p0 :: ps, x.length ≤ s.size) ∧ e = .returned (.slice (some ⟨g, 0, none⟩) (ps.length + 1) cap) ∧ ps.length + 1 ≤ cap ∧ g < w'.heap.size ∧ (∀ k (hk : k < (p0 :: ps).length), w'.cell? ⟨g, k, none⟩ = some (.string ⟨((p0 :: ps)[k]).toArray⟩)) ∧ Below w.heap.size w w'

theorem split7 (s : ByteArray) (w : World) (hs : s.size ≤ 1048576) (hm : MaxCell w) : Calls Tryd.prog 26 #[.string s, .string ⟨#[32]⟩, .int .i64 7] w (Split7 s w) := by
  obtain ⟨m, hm⟩ := hm
  refine (Tryd.strings_SplitN s ⟨#[32]⟩ 7 m w (by omega) hm (by decide) (by decide) (by decide)).mono ?_
  rintro e w' ⟨rfl, rfl⟩
  have hl : s.data.toList.length = s.size := by simp
  have hD := Lib.splitB_data ⟨#[32]⟩ 0 (min 7 (s.size + 1) - 1) s
  have hle := Lib.splitB_length_le ⟨#[32]⟩ 0 (min 7 (s.size + 1) - 1) s
  have h7 := cut7_of s.data.toList (min 7 (s.size + 1) - 1) (by rw [hl])
  have hmem := splitK_mem_len 32 (min 7 (s.size + 1) - 1) s.data.toList
  generalize Lib.splitB ⟨#[32]⟩ 0 (min 7 (s.size + 1) - 1) s = Bs at hD hle ⊢
  have hD' : Bs.map (·.data.toList) = Lib.splitK [32] 0 (min 7 (s.size + 1) - 1) s.data.toList := hD
  rw [← hD'] at h7 hmem
  cases Bs with
  | nil => have := cut7_len h7; simp at this
  | cons b bs =>
    refine ⟨w.heap.size, min 7 (s.size + 1), b.data.toList, bs.map (·.data.toList), (show Cut7 s.data.toList (b.data.toList :: bs.map (·.data.toList)) from h7), ?_, fun x hx => by rw [← hl]; exact hmem x hx, ?_, ?_, by simp, fun k hk => ?_, (Below.refl _ _).alloc (Nat.le_refl _) _⟩
    · simp only [List.length_cons] at hle; rw [List.length_map]; omega
    · simp
    · simp only [List.length_cons] at hle; rw [List.length_map]; omega
    · have hk' : k < (b :: bs).length := by simpa using hk
      rw [cell_of_row _ w.heap.size k _ _ (0, 0) (heap_alloc_new w _)]
      have e1 : (b.data.toList :: bs.map (·.data.toList))[k] = ((b :: bs)[k]).data.toList := by
        have : (b.data.toList :: bs.map (·.data.toList)) = (b :: bs).map (·.data.toList) := rfl
        simp only [this, List.getElem_map]
      rw [e1]
      unfold Lib.cellsOf
      have h2 : k < ((b :: bs).map Value.string).length := by simpa using hk'
      rw [List.getElem?_toArray, List.getElem?_append_left h2, List.getElem?_map, List.getElem?_eq_getElem hk']
      simp

/-- The mark in front. -/
def MarkPost (p0 : List UInt8) (w : World) (e : Ending) (w' : World) : Prop := ∃ (d : List UInt8) (m : Bool), Mark p0 d m ∧ e = .returned (.tuple #[.string ⟨d.toArray⟩, .bool m]) ∧ w = w'
theorem mark_cp (p0 : List UInt8) (w : World) : Calls Tryd.prog 27 #[.string ⟨p0.toArray⟩, .string ⟨#[35]⟩] w (MarkPost p0 w) :=
  (Tryd.strings_CutPrefix ⟨p0.toArray⟩ ⟨#[35]⟩ w).mono fun _ _ ⟨he, hw⟩ => ⟨_, _, mark_of p0, he, hw.symm⟩

/-- The project's ParseBlock. -/
theorem TextsAt.nil (w : World) (ao : Option Addr) : TextsAt w ao [] := .inl rfl

set_option maxRecDepth 8000 in
set_option maxHeartbeats 12800000 in
theorem impl_pb (s : ByteArray) (w : World) (hs : s.size ≤ 1048576) (ht : PowTab w) (hm : MaxCell w) :
    Calls Tryd.prog 11 #[.string s] w (PBPost s w) := by
  have HT : Hid (PowTab w) := ht
  have HM : Hid (MaxCell w) := hm
  have HLT : Hid (0 < w.heap.size) := (show _ < _ by obtain ⟨m, hm⟩ := hm; exact World.block_lt_of_cell? w _ hm)
  clear ht hm
  go_enter Tryd.func11, Tryd.ntmps11
  go_wp2_with fail
  have K0 := (Kept.start w).alloc2 (.int .i64 0) (.slice none 0 0) 29 _ rfl
  refine (split7 s _ hs (HM.out.below K0.1 HLT.out)).mono ?_
  rintro e w1 ⟨g, cap, p0, ps, h7, h6, hmem, rfl, hcap, hg, hcell, hb⟩
  have K1 := K0.step hb
  have H7 := Lib.hid h7
  have HMEM := Lib.hid hmem
  have HC := Lib.hid hcell
  have c0 : w1.cell? ⟨g, 0, none⟩ = some (.string ⟨p0.toArray⟩) := hcell 0 (by simp)
  have h6I : (ps.length : Int) ≤ 6 := by omega
  have hcapI : (ps.length : Int) + 1 ≤ (cap : Int) := by omega
  have hcap1 : (1 : Int) ≤ (cap : Int) := by omega
  clear h7 hmem hcell hb K0
  go_wp2_with fail
  refine (mark_cp p0 _).mono ?_
  rintro e w2 ⟨d, m, hmk, rfl, rfl⟩
  have MK := Lib.hid hmk
  clear hmk
  go_wp2_with fail
  refine (impl_pi ⟨d.toArray⟩ _ (HT.out.below K1.1 (Nat.le_refl _))).mono ?_
  rintro e w3 ⟨⟨n, k1, hp, rfl⟩, hb⟩
  have K3 := K1.step hb
  have A1 := Lib.hid (show PIans d n k1 from hp)
  have TA := Lib.hid (show TextsAt w3 (some ⟨g, 1, none⟩) ps from .inr ⟨g, 1, rfl, Nat.lt_of_lt_of_le hg hb.size, fun k hk => by
    rw [hb.cell (p := ⟨g, 1 + k, none⟩) hg, Nat.add_comm 1 k]
    exact HC.out (k + 1) (by simp only [List.length_cons]; omega)⟩)
  have HS6 := Lib.hid (show ∀ x ∈ ps, x.length ≤ 1048576 from fun x hx => Nat.le_trans (HMEM.out x (by simp [hx])) hs)
  clear hb K1 hp HC HMEM c0 hg
  obtain ⟨T, hT⟩ : ∃ T, T = ps := ⟨_, rfl⟩
  rw [← hT] at HS6 TA H7
  have hTl : ps.length = T.length := by rw [hT]
  have hT6 : T.length ≤ 6 := by omega
  rw [hTl] at hcap h6 h6I hcapI
  have HTL := Lib.hid hTl
  go_wp2_with fail
  all_goals
    refine (impl_prs _ T _ _ _ (by first | rfl | omega) hT6 (by first | exact TA.out | exact .inl (List.eq_nil_of_length_eq_zero (by omega))) HS6.out (HT.out.below K3.1 (Nat.le_refl _)) (HM.out.below K3.1 HLT.out)).mono ?_
    rintro e w4 hpr
    clear hTl hT TA HS6
    rcases hpr with ⟨L, v, hL, hr, rfl, hown, hb⟩ | ⟨k, hk, hbad, rfl, hb⟩
    · obtain ⟨ao4, cap4, rfl⟩ := hown.shape
      have K4 := K3.step hb
      have HRD := Lib.hid hr
      have HLL := Lib.hid hL
      have HOWN := Lib.hid hown
      have BB := Lib.hid K4.1
      have BX := K4.alloc2 (.int .i64 n) (.slice ao4 L.length cap4) 29 w4.heap.size rfl
      have zz : w.heap.size < w4.heap.size := K4.lt 0 rfl
      have HB3 : Hid (w.heap.size < w3.heap.size) := (show _ < _ from K3.lt 0 rfl)
      have hLn : L.length ≤ 6 := by omega
      clear hL hr hown hb K3
      cases m
      · have AN := Lib.hid (cut7_no H7.out fun hp => pbk_unmarked hp MK.out)
        have t0 := K4.get 0 rfl
        have t1 := K4.get 1 rfl
        have u0 := K4.fz 0 rfl
        have u1 := K4.fz 1 rfl
        have K6 := K4.set2 (.int .i64 0) (.slice none 0 0) (Nat.le_refl _) (by simp)
        have r0' := K6.get 0 rfl
        have r1' := K6.get 1 rfl
        have yy := K6.lt 0 rfl
        clear BX K4
        go_wp2
        exact bodyPost_ret (v := .tuple #[.agg #[.int .i64 0, .slice none 0 0], .bool false]) (by simp [results, Tryd.results11, go_sem, r0', r1', yy, zz, Nat.ne_of_lt zz]) rfl (PBPost.no AN.out (K6.1.alloc K6.1.size _))
      · cases k1
        · have AN := Lib.hid (cut7_no H7.out fun hp => pbk_badnum hp MK.out A1.out)
          have t0 := K4.get 0 rfl
          have t1 := K4.get 1 rfl
          have u0 := K4.fz 0 rfl
          have u1 := K4.fz 1 rfl
          have K6 := K4.set2 (.int .i64 0) (.slice none 0 0) (Nat.le_refl _) (by simp)
          have r0' := K6.get 0 rfl
          have r1' := K6.get 1 rfl
          have yy := K6.lt 0 rfl
          clear BX K4
          go_wp2
          exact bodyPost_ret (v := .tuple #[.agg #[.int .i64 0, .slice none 0 0], .bool false]) (by simp [results, Tryd.results11, go_sem, r0', r1', yy, zz, Nat.ne_of_lt zz]) rfl (PBPost.no AN.out (K6.1.alloc K6.1.size _))
        · have hV : RowsVal w4 ao4 L.length (Rn L) := by
            obtain ⟨fp, hs5, _, _⟩ := HOWN.out.rep
            obtain ⟨ao5, cap5, e5, _, hV5⟩ := rows_open hs5
            simp only [Value.slice.injEq, true_and] at e5
            rw [e5.1]; exact hV5
          have HV := Lib.hid (hV.below ((Below.refl w4.heap.size w4).alloc (Nat.le_refl _) (.cells #[.int .i64 n, .slice ao4 L.length cap4] 29)))
          clear hV
          obtain ⟨q, hq⟩ : ∃ q, q = blkB n L.length (Rn L) := ⟨_, rfl⟩
          have DV := Lib.hid (fun w hV => impl_bvV n ao4 L.length cap4 (Rn L) w (by omega) hV)
          have DV2 := DV.out
          rw [← hq] at DV2
          have DV3 := Lib.hid DV2
          have HQ := Lib.hid hq
          clear hq DV DV2
          go_wp2_with fail
          refine (DV3.out _ HV.out).mono ?_
          rintro e w5 ⟨rfl, hb⟩
          have K5 := BX.step hb
          have HO5 := Lib.hid ((HOWN.out.step ((Below.refl w4.heap.size w4).alloc (Nat.le_refl _) (.cells #[.int .i64 n, .slice ao4 L.length cap4] 29))).step hb)
          clear hb BX HOWN HV
          have r0 := K5.get 2 rfl
          have r1 := K5.get 3 rfl
          have q0 := K5.fz 2 rfl
          have q1 := K5.fz 3 rfl
          have b0 := K5.get 0 rfl
          have b1 := K5.get 1 rfl
          cases q
          · have AN := Lib.hid (cut7_no H7.out fun hp => pbk_invalid hp MK.out A1.out HLL.out HRD.out HQ.out.symm)
            have K6 := (K5.sub (l' := [(⟨w.heap.size, 0, none⟩, .int .i64 0), (⟨w.heap.size, 1, none⟩, .slice none 0 0)]) (by intro p9 hp9; simp only [List.mem_cons, List.not_mem_nil, or_false] at hp9; rcases hp9 with rfl | rfl <;> simp)).set2 (.int .i64 0) (.slice none 0 0) (Nat.le_refl _) (by simp)
            have r0' := K6.get 0 rfl
            have r1' := K6.get 1 rfl
            have yy := K6.lt 0 rfl
            clear K5
            go_wp2
            exact bodyPost_ret (v := .tuple #[.agg #[.int .i64 0, .slice none 0 0], .bool false]) (by simp [results, Tryd.results11, go_sem, r0', r1', yy]) rfl (PBPost.no AN.out K6.1)
          · have AN := Lib.hid (pbk_yes (cut7_ok H7.out HLL.out HRD.out) MK.out A1.out HLL.out HRD.out HQ.out.symm)
            have K6 := (K5.sub (l' := [(⟨w.heap.size, 0, none⟩, .int .i64 0), (⟨w.heap.size, 1, none⟩, .slice none 0 0)]) (by intro p9 hp9; simp only [List.mem_cons, List.not_mem_nil, or_false] at hp9; rcases hp9 with rfl | rfl <;> simp)).set2 (.int .i64 n) (.slice ao4 L.length cap4) (Nat.le_refl _) (by simp)
            obtain ⟨fp, hs6, hf6, hn6⟩ := OwnR.rep ((HO5.out.setb (a := ⟨w.heap.size, 0, none⟩) HB3.out (.int .i64 n)).setb (a := ⟨w.heap.size, 1, none⟩) HB3.out (.slice ao4 L.length cap4))
            have R6 := Lib.hid hs6
            have F6 := Lib.hid (show ∀ k ∈ fp, w.heap.size ≤ k from fun k hk => by have h1 := hf6 k hk; have h2 := HB3.out; omega)
            have r0' := K6.get 0 rfl
            have r1' := K6.get 1 rfl
            have yy := K6.lt 0 rfl
            clear K5 hs6 hf6
            go_wp2
            exact bodyPost_ret (v := .tuple #[.agg #[.int .i64 n, .slice ao4 L.length cap4], .bool true]) (by simp [results, Tryd.results11, go_sem, r0', r1', yy]) rfl ⟨n, L, true, _, fp, AN.out, rfl, R6.out, F6.out, hn6, K6.1⟩
    · have hc9 : ¬ cap = 1 := by omega
      (try contradiction)
      all_goals
        clear hc9
        have K4 := K3.step hb
        have HB := Lib.hid (show PRow T[k] 0 0 0 0 false false from hbad)
        have AN := Lib.hid (cut7_no H7.out fun hp => pb_bad hp hk HB.out)
        have BX := K4.alloc2 (.int .i64 n) (.slice none 0 0) 29 w4.heap.size rfl
        have zz : w.heap.size < w4.heap.size := K4.lt 0 rfl
        clear hb K3 hbad
        cases m
        · have t0 := K4.get 0 rfl
          have t1 := K4.get 1 rfl
          have u0 := K4.fz 0 rfl
          have u1 := K4.fz 1 rfl
          have K6 := K4.set2 (.int .i64 0) (.slice none 0 0) (Nat.le_refl _) (by simp)
          have r0' := K6.get 0 rfl
          have r1' := K6.get 1 rfl
          have yy := K6.lt 0 rfl
          clear BX K4
          go_wp2
          exact bodyPost_ret (v := .tuple #[.agg #[.int .i64 0, .slice none 0 0], .bool false]) (by simp [results, Tryd.results11, go_sem, r0', r1', yy, zz, Nat.ne_of_lt zz]) rfl (PBPost.no AN.out (K6.1.alloc K6.1.size _))
        · cases k1
          · have t0 := K4.get 0 rfl
            have t1 := K4.get 1 rfl
            have u0 := K4.fz 0 rfl
            have u1 := K4.fz 1 rfl
            have K6 := K4.set2 (.int .i64 0) (.slice none 0 0) (Nat.le_refl _) (by simp)
            have r0' := K6.get 0 rfl
            have r1' := K6.get 1 rfl
            have yy := K6.lt 0 rfl
            clear BX K4
            go_wp2
            exact bodyPost_ret (v := .tuple #[.agg #[.int .i64 0, .slice none 0 0], .bool false]) (by simp [results, Tryd.results11, go_sem, r0', r1', yy, zz, Nat.ne_of_lt zz]) rfl (PBPost.no AN.out (K6.1.alloc K6.1.size _))
          · have t0 := K4.get 0 rfl
            have t1 := K4.get 1 rfl
            have u0 := K4.fz 0 rfl
            have u1 := K4.fz 1 rfl
            have K6 := K4.set2 (.int .i64 0) (.slice none 0 0) (Nat.le_refl _) (by simp)
            have r0' := K6.get 0 rfl
            have r1' := K6.get 1 rfl
            have yy := K6.lt 0 rfl
            clear BX K4
            go_wp2
            exact bodyPost_ret (v := .tuple #[.agg #[.int .i64 0, .slice none 0 0], .bool false]) (by simp [results, Tryd.results11, go_sem, r0', r1', yy, zz, Nat.ne_of_lt zz]) rfl (PBPost.no AN.out (K6.1.alloc K6.1.size _))
end Go.Proofs.YtoabjmdfopabfaaDoor
