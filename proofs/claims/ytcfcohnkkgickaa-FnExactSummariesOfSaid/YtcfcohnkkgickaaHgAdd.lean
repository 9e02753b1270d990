/-
  The walk over the model's AddHistograms.
-/
import Derived.Test.YtcfcohnkkgickaaRows
import Derived.Test.YtcfcohnkkgickaaHgSpec2
import Derived.Test.YtcfcohnkkgickaaIntStep
import Derived.Deep.RegionLaw
import Derived.Deep.RegionWith
namespace Go.Proofs.Ytcfcohnkkgickaa
open Go.RowKit Num

theorem addOkH_t {a b : List Int} (h : HgOk a ∧ HgOk b ∧ HgOk (addC a b)) : addOkH a b = true := @decide_eq_true _ (Classical.propDecidable _) h
theorem addOkH_f {a b : List Int} (h : ¬ (HgOk a ∧ HgOk b ∧ HgOk (addC a b))) : addOkH a b = false := @decide_eq_false _ (Classical.propDecidable _) h
theorem addH_f {a b : List Int} (h : addOkH a b = false) : addH a b = [] := by unfold addH; rw [h]; rfl
theorem addH_t {a b : List Int} (h : addOkH a b = true) : addH a b = addC a b := by unfold addH; rw [h]; rfl
theorem hgB_not {h : List Int} (hh : hgB h = false) : ¬ HgOk h := @of_decide_eq_false _ (Classical.propDecidable _) hh

set_option maxRecDepth 8000 in
set_option maxHeartbeats 3200000 in
theorem spec_addHV (ao bo : Option Addr) (n m cap cap' : Nat) (l r : List Int) (w : World) (hl : l.length = n) (hr : r.length = m) (hn : n ≤ 1099511627776) (hm : m ≤ 1099511627776) (hV : IntsVal w ao l) (hV' : IntsVal w bo r) :
    Calls Try.prog 40 #[.slice ao n cap, .slice bo m cap'] w (IntsOk (addH l r) (addOkH l r) w) := by
  have IH := Lib.hid (spec_isHV ao n cap l w hl hn hV)
  have IH' := Lib.hid (spec_isHV bo m cap' r w hr hm hV')
  have IZ := Lib.hid (fun (w : World) (ao : Option Addr) (n cap : Nat) (l : List Int) hl hn hV => spec_isHV ao n cap l w hl hn hV)
  have HV := Lib.hid hV
  have HV' := Lib.hid hV'
  have HL := Lib.hid hl
  have HR := Lib.hid hr
  obtain ⟨u, hu⟩ : ∃ u, u = hgB l := ⟨_, rfl⟩
  obtain ⟨v, hv⟩ : ∃ v, v = hgB r := ⟨_, rfl⟩
  rw [← hu] at IH
  rw [← hv] at IH'
  have HU := Lib.hid hu
  have HVV := Lib.hid hv
  clear hV hV' hl hr hu hv
  cases u
  · have AN := Lib.hid (addOkH_f (fun h => hgB_not HU.out.symm h.1 : ¬ (HgOk l ∧ HgOk r ∧ HgOk (addC l r))))
    clear HVV
    go_enter Try.func40, Try.ntmps40
    go_wp2_with fail
    refine IH.out.mono ?_
    rintro e w1 ⟨rfl, rfl⟩
    go_wp2
    exact bodyPost_ret (v := .tuple #[.slice (some ⟨w.heap.size, 0, none⟩) 0 0, .bool false]) (by simp [results, Try.results40, go_sem]) rfl ⟨_, [], by rw [AN.out], by rw [addH_f AN.out]; exact .inl ⟨rfl, rfl, .inr ⟨_, _, rfl⟩⟩, List.nodup_nil, (fun k hk => by cases hk), (Below.refl _ _).alloc (Nat.le_refl _) _⟩
  · cases v
    · have AN := Lib.hid (addOkH_f (fun h => hgB_not HVV.out.symm h.2.1 : ¬ (HgOk l ∧ HgOk r ∧ HgOk (addC l r))))
      go_enter Try.func40, Try.ntmps40
      go_wp2_with fail
      refine IH.out.mono ?_
      rintro e w1 ⟨rfl, rfl⟩
      go_wp2_with fail
      refine IH'.out.mono ?_
      rintro e w1 ⟨rfl, rfl⟩
      go_wp2
      exact bodyPost_ret (v := .tuple #[.slice (some ⟨w.heap.size, 0, none⟩) 0 0, .bool false]) (by simp [results, Try.results40, go_sem]) rfl ⟨_, [], by rw [AN.out], by rw [addH_f AN.out]; exact .inl ⟨rfl, rfl, .inr ⟨_, _, rfl⟩⟩, List.nodup_nil, (fun k hk => by cases hk), (Below.refl _ _).alloc (Nat.le_refl _) _⟩
    · have h1 := hgB_of HU.out.symm
      have h2 := hgB_of HVV.out.symm
      have n12 : n = 12 := by rw [← HL.out]; exact h1.1
      have m12 : m = 12 := by rw [← HR.out]; exact h2.1
      have H1 := Lib.hid h1
      have H2 := Lib.hid h2
      subst n12 m12
      clear hn hm h1 h2
      go_enter Try.func40, Try.ntmps40
      go_wp2_with fail
      refine IH.out.mono ?_
      rintro e w1 ⟨rfl, rfl⟩
      go_wp2_with fail
      refine IH'.out.mono ?_
      rintro e w1 ⟨rfl, rfl⟩
      go_wp2_with fail
      have HI := Lib.hid (KI.lit (B := w.heap.size) (N := w.heap.size) (Kept.start w) rfl (Nat.le_refl _))
      go_loopw [6, 7] (fun sv iv wr => ∃ j : Nat, j ≤ 12 ∧ iv = .int .i64 (j : Int) ∧ Hid (KI w wr w.heap.size [] sv ((addC l r).take j))) (fun _ iv _ => 12 - (intOf iv).toNat)
      case atStart => exact ⟨0, Nat.zero_le _, rfl, HI.out⟩
      case round =>
        obtain ⟨k, hk, rfl, HK⟩ := hrel
        clear HI
        by_cases hlt : k < 12
        · have hkI : (k : Int) < 12 := by omega
          obtain ⟨g, rfl, hg, hR⟩ := (HV.out.below HK.out.1.1).head (by rw [HL.out]; omega)
          obtain ⟨g', rfl, hg', hR'⟩ := (HV'.out.below HK.out.1.1).head (by rw [HR.out]; omega)
          have c0 := hR k (by rw [HL.out]; exact hlt)
          have c1 := hR' k (by rw [HR.out]; exact hlt)
          obtain ⟨x, hx⟩ : ∃ x, x = l[k]'(by rw [HL.out]; exact hlt) := ⟨_, rfl⟩
          obtain ⟨y, hy⟩ : ∃ y, y = r[k]'(by rw [HR.out]; exact hlt) := ⟨_, rfl⟩
          rw [← hx] at c0
          rw [← hy] at c1
          have x0 : 0 ≤ x := by rw [hx]; exact (H1.out.2.1.at _).1
          have x1 : x ≤ 99 := by rw [hx]; exact (H1.out.2.1.at _).2
          have y0 : 0 ≤ y := by rw [hy]; exact (H2.out.2.1.at _).1
          have y1 : y ≤ 99 := by rw [hy]; exact (H2.out.2.1.at _).2
          have hlen : (addC l r).length = 12 := by rw [addC_len (by rw [HL.out, HR.out])]; exact HL.out
          have N1 := Lib.hid (show (addC l r).take k ++ [x + y] = (addC l r).take (k + 1) by
            rw [← List.take_append_getElem (by rw [hlen]; exact hlt), addC_at (by rw [HL.out]; exact hlt) (by rw [HR.out]; exact hlt), hx, hy])
          have N2 := Lib.hid (show ((addC l r).take k).length = k by rw [List.length_take]; omega)
          clear hR hR' hx hy hlen
          obtain ⟨ao6, c6, rfl⟩ := HK.out.2.1.shape
          have HK9 := Lib.hid (show KI w wr w.heap.size [] (.slice ao6 k c6) ((addC l r).take k) by have h := HK.out; rw [N2.out] at h; exact h)
          rw [N2.out]
          have hw : IntKind.i64.wrap (x + y) = x + y := by rw [IntKind.wrap_i64]; omega
          go_upto_region 7 with fail
          go_region_law (refine step_append_ki (W := w) rfl (.tmp 24) (.tmp 34) rfl w.heap.size (.slice ao6 k c6) [] ((addC l r).take k) (x + y) wr.heap.size 1 rfl rfl ?_ ?_ ?_ (Nat.le_refl _) ?_ ?_; (· first | exact HK9.out.step (((Below.refl _ _).drew).alloc (Nat.le_refl _) _) | exact HK9.out.step (((Below.refl _ _).alloc (Nat.le_refl _) _).drew)); (· simp [World.cell?_alloc_at]); (· rw [N2.out]; omega); (· have := HK.out.1.1.size; simp; omega); intro v' w6 K6; rw [N1.out] at K6)
          all_goals
            have HK6 := Lib.hid K6
            clear K6
            go_wp2
            go_roundw
            case rel => exact ⟨k + 1, by omega, by go_num, HK6.out⟩
            case measure => simp [intOf]; omega
        · obtain rfl : k = 12 := by omega
          have hlen : (addC l r).length = 12 := by rw [addC_len (by rw [HL.out, HR.out])]; exact HL.out
          have hT : (addC l r).take 12 = addC l r := by rw [← hlen, List.take_length]
          have HO := Lib.hid (show KI w wr w.heap.size [] u6 (addC l r) by rw [← hT]; exact HK.out)
          clear hT
          have hsd : decide ((12 : Int) < 12) = false := by decide
          obtain ⟨fp, hs, hf, hn⟩ := HO.out.2.1.rep
          obtain ⟨ao6, c6, rfl, _, hV6⟩ := ints_open hs
          rw [hlen]
          rw [hlen] at hs
          have IH6 := Lib.hid (fun (w : World) hV => spec_isHV ao6 12 c6 (addC l r) w hlen (by decide) hV)
          have HV6 := Lib.hid hV6
          have HS := Lib.hid hs
          have HF := Lib.hid hf
          have HN := Lib.hid hn
          obtain ⟨q, hq⟩ : ∃ q, q = hgB (addC l r) := ⟨_, rfl⟩
          rw [← hq] at IH6
          have HQ := Lib.hid hq
          have HB := Lib.hid HO.out.1.1
          clear hs hf hn hV6 hq hlen HO HK
          go_wp2_with fail
          refine (IH6.out _ HV6.out).mono ?_
          rintro e w1 ⟨rfl, rfl⟩
          cases q
          · have AN := Lib.hid (addOkH_f (fun h => hgB_not HQ.out.symm h.2.2 : ¬ (HgOk l ∧ HgOk r ∧ HgOk (addC l r))))
            go_wp2
            exact bodyPost_ret (v := .tuple #[.slice (some ⟨wr.heap.size, 0, none⟩) 0 0, .bool false]) (by simp [results, Try.results40, go_sem]) rfl ⟨_, [], by rw [AN.out], by rw [addH_f AN.out]; exact .inl ⟨rfl, rfl, .inr ⟨_, _, rfl⟩⟩, List.nodup_nil, (fun k hk => by cases hk), HB.out.alloc HB.out.size _⟩
          · have AN := Lib.hid (addOkH_t ⟨H1.out, H2.out, hgB_of HQ.out.symm⟩)
            go_wp2
            exact bodyPost_ret (v := .tuple #[.slice ao6 12 c6, .bool true]) (by simp [results, Try.results40, go_sem]) rfl ⟨_, fp, by rw [AN.out], by rw [addH_t AN.out]; exact HS.out, HN.out, HF.out, HB.out⟩
end Go.Proofs.Ytcfcohnkkgickaa
