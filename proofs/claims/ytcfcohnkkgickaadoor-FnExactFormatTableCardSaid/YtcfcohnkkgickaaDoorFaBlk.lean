/-
  The walk over the project's formatAll at blocks.
-/
import Derived.Test.YtcfcohnkkgickaaDoorRows
import Derived.Test.YtcfcohnkkgickaaDoorFaRow
import Derived.Test.YtcfcohnkkgickaaDoorFbImpl
import Derived.Test.YtcfcohnkkgickaaDoorTtPlain
namespace Go.Proofs.YtcfcohnkkgickaaDoor
open Go.RowKit Num

/-- The texts of the first n blocks. -/
def blkTexts (l : List Blk) (n : Nat) : List (List UInt8) := (List.range n).map fun k => (Bn l k).fmt
theorem blkTexts_len (l : List Blk) (n : Nat) : (blkTexts l n).length = n := by unfold blkTexts; simp
theorem blkTexts_succ (l : List Blk) (n : Nat) : blkTexts l n ++ [(Bn l n).fmt] = blkTexts l (n + 1) := by unfold blkTexts; rw [List.range_succ]; simp
theorem blkTexts_join (l : List Blk) (m : Nat) : ∀ n, n ≤ m → joinT [59] (blkTexts l m) n = fmtBlks l n
  | 0, _ => rfl
  | n + 1, h => by
    show joinT [59] (blkTexts l m) n ++ ([59] ++ (blkTexts l m).getD n []) = fmtBlks l n ++ 59 :: (Bn l n).fmt
    rw [blkTexts_join l m n (by omega)]
    unfold blkTexts
    rw [List.getD_eq_getElem?_getD, List.getElem?_map, List.getElem?_range (by omega)]
    rfl

set_option maxRecDepth 8000 in
set_option maxHeartbeats 6400000 in
theorem impl_faB (ao : Option Addr) (n cap : Nat) (l : List Blk) (w : World) (hn : n ≤ 1048576) (hl : l.length = n) (hr : ∀ k, k < n → (Bn l k).rows.length ≤ 1048576) (hV : BlksVal w ao l) (ht : PowTab w) :
    Calls Tryd.prog 35 #[.slice ao n cap, .func (.func 9) #[] #[]] w fun e w' => ∃ (ao' : Option Addr) (c' : Nat), e = .returned (.slice ao' n c') ∧ TextsAt w' ao' (blkTexts l n) ∧ Below w.heap.size w w' := by
  have HV := Lib.hid hV
  have HL := Lib.hid hl
  have HR := Lib.hid hr
  clear hV hl hr
  have HT : Hid (PowTab w) := ht
  have hnI : (n : Int) ≤ 1048576 := by omega
  obtain ⟨i0, hi, hx⟩ := Option.map_eq_some_iff.1 Tryd.infoStr
  simp only [Prod.mk.injEq] at hx
  obtain ⟨hz0, hz1, hz2⟩ := hx
  clear ht
  go_enter Tryd.func35, Tryd.ntmps35
  go_wp2_with (first | (at_make; refine wpList_make_own _ rfl _ _ _ rfl w.heap.size 9 i0 _ 1 (by kernel_rfl) hi hz0 hz1 .i64 .i64 _ n rfl rfl rfl (by rw [hz2]; omega) (by unfold maxLen; omega) (Nat.le_refl _) ?_; intro w1 hown hgr))
  have HB1 := Lib.hid ((Below.refl w.heap.size w).grown hgr (Nat.le_refl _) (by intro k hk; cases hk))
  have HO1 : Hid (Strs w1 w.heap.size (.slice (some ⟨w.heap.size, 0, none⟩) 0 n) []) := hown
  clear hown hgr hi hz0 hz1 hz2
  go_loopw [5, 13] (fun vv iv wr => ∃ (k : Nat) (a4 : Option Addr) (c4 : Nat), k ≤ n ∧ iv = .int .i64 k ∧ vv = .slice a4 k c4 ∧ Hid (Strs wr w.heap.size (.slice a4 k c4) (blkTexts l k)) ∧ Hid (Below w.heap.size w wr)) (fun _ iv _ => n - (intOf iv).toNat)
  case atStart => exact ⟨0, _, _, Nat.zero_le _, rfl, rfl, HO1, HB1⟩
  case round =>
    obtain ⟨k, a4, c4, hk, rfl, rfl, HO, HB⟩ := hrel
    by_cases hlt : k < n
    · have hkI : (k : Int) < (n : Int) := by omega
      obtain ⟨g, rfl, hg, hBk⟩ := HV.out.head HL.out (by omega)
      obtain ⟨rao, rcap, c0, c1, hRV⟩ := (hBk k hlt).below HB.out hg (Nat.le_refl _)
      have hrl := HR.out k hlt
      have HSU := Lib.hid (blkTexts_succ l k)
      have D2 := Lib.hid (fun w hV ht => impl_fbV (Bn l k).id rao (Bn l k).rows.length rcap (Rn (Bn l k).rows) w hrl hV ht)
      rw [show fmtB (Bn l k).id (Bn l k).rows.length (Rn (Bn l k).rows) = (Bn l k).fmt from rfl] at D2
      obtain ⟨f, hf⟩ : ∃ f, f = (Bn l k).fmt := ⟨_, rfl⟩
      rw [← hf] at D2 HSU
      obtain ⟨bk, hbk⟩ : ∃ bk, bk = Bn l k := ⟨_, rfl⟩
      rw [← hbk] at c0 c1 hRV D2
      obtain ⟨m, hm⟩ : ∃ m, m = bk.rows.length := ⟨_, rfl⟩
      rw [← hm] at c1 hRV D2
      clear hBk hf hbk hm
      have hB1 := (Below.refl wr.heap.size wr).alloc (Nat.le_refl _) (.cells #[.int .i64 bk.id, .slice rao m rcap] 29)
      have HB2 := Lib.hid (HB.out.trans (hB1.mono HB.out.size))
      have HO2 := Lib.hid (HO.out.step hB1)
      have HRV := Lib.hid (hRV.below hB1)
      clear hRV
      clear hB1
      go_wp2_with fail
      refine (D2.out _ HRV.out (HT.out.below HB2.out (Nat.le_refl _))).mono ?_
      rintro e w2 ⟨rfl, hb⟩
      have HB3 := Lib.hid (HB2.out.trans (hb.mono HB2.out.size))
      have HO3 := Lib.hid (HO2.out.step hb)
      have hszw := HB3.out.size
      clear hb c0 c1
      go_wp2_with (first | (at_builtin; refine wpList_append_text (W := w) rfl _ _ rfl w.heap.size (.slice a4 k c4) (blkTexts l k) f rfl HO3.out _ rfl _ rfl ?_ ?_ ?_ ?_; (· rw [blkTexts_len]; omega); (· exact HB3.out.size); (· exact HB3.out); intro v' w6 hS hb6))
      obtain ⟨ao', c', hv'⟩ := hS.shape
      rw [show blkTexts l k ++ [f] = blkTexts l (k + 1) from HSU.out] at hS hv'
      rw [blkTexts_len] at hv'
      subst hv'
      have HS6 := Lib.hid hS
      have HB6 := Lib.hid hb6
      clear hS hb6
      go_wp2
      go_roundw
      case rel => exact ⟨k + 1, ao', c', by omega, by go_num, rfl, HS6, HB6⟩
      case measure => simp [intOf]; omega
    · obtain rfl : k = n := by omega
      have hsd : decide ((k : Int) < (k : Int)) = false := decide_eq_false (by omega)
      have TX := Lib.hid (Strs.texts (ao := a4) (cap := c4) (T := blkTexts l k) (by rw [blkTexts_len]; exact HO.out))
      go_wp2
      go_ret
      exact ⟨_, _, rfl, TX.out, HB.out⟩
end Go.Proofs.YtcfcohnkkgickaaDoor
