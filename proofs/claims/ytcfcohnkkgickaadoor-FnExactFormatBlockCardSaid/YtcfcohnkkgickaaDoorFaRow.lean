/-
  The walk over the project's formatAll at rows.
-/
import Derived.Test.YtcfcohnkkgickaaDoorRows
import Derived.Test.YtcfcohnkkgickaaDoorJlImpl
import Derived.Test.YtcfcohnkkgickaaDoorBkPlain
import Derived.OwnWalk
namespace Go.Proofs.YtcfcohnkkgickaaDoor
open Go.RowKit Num

theorem Strs.step {w w' : World} {B : Nat} {v : Value} {T : List (List UInt8)} (h : Strs w B v T) (hb : Below w.heap.size w w') : Strs w' B v T := World.ownsRow.kept h (row := none) ⟨hb.os, hb.tape, hb.output, hb.size, fun j hj _ => hb.block j hj⟩ (by cases v.ownBlock <;> simp)
/-- The texts of the first n rows. -/
def rowTexts (R : Nat → Rw) (n : Nat) : List (List UInt8) := (List.range n).map fun k => (R k).fmt
theorem rowTexts_len (R : Nat → Rw) (n : Nat) : (rowTexts R n).length = n := by unfold rowTexts; simp
theorem rowTexts_succ (R : Nat → Rw) (n : Nat) : rowTexts R n ++ [(R n).fmt] = rowTexts R (n + 1) := by unfold rowTexts; rw [List.range_succ]; simp
theorem rowTexts_join (R : Nat → Rw) (m : Nat) : ∀ n, n ≤ m → joinT [32] (rowTexts R m) n = fmtRows R n
  | 0, _ => rfl
  | n + 1, h => by
    show joinT [32] (rowTexts R m) n ++ ([32] ++ (rowTexts R m).getD n []) = fmtRows R n ++ 32 :: (R n).fmt
    rw [rowTexts_join R m n (by omega)]
    unfold rowTexts
    rw [List.getD_eq_getElem?_getD, List.getElem?_map, List.getElem?_range (by omega)]
    rfl

set_option maxRecDepth 8000 in
set_option maxHeartbeats 6400000 in
theorem impl_faR (ao : Option Addr) (n cap : Nat) (R : Nat → Rw) (w : World) (hn : n ≤ 1048576) (hV : RowsVal w ao n R) (ht : PowTab w) :
    Calls Tryd.prog 28 #[.slice ao n cap, .func (.func 29) #[] #[]] w fun e w' => ∃ (ao' : Option Addr) (c' : Nat), e = .returned (.slice ao' n c') ∧ TextsAt w' ao' (rowTexts R n) ∧ Below w.heap.size w w' := by
  have HV := Lib.hid hV
  clear hV
  have HT : Hid (PowTab w) := ht
  have hnI : (n : Int) ≤ 1048576 := by omega
  obtain ⟨i0, hi, hx⟩ := Option.map_eq_some_iff.1 Tryd.infoStr
  simp only [Prod.mk.injEq] at hx
  obtain ⟨hz0, hz1, hz2⟩ := hx
  clear ht
  go_enter Tryd.func28, Tryd.ntmps28
  go_wp2_with (first | (at_make; refine wpList_make_own _ rfl _ _ _ rfl w.heap.size 9 i0 _ 1 (by kernel_rfl) hi hz0 hz1 .i64 .i64 _ n rfl rfl rfl (by rw [hz2]; omega) (by unfold maxLen; omega) (Nat.le_refl _) ?_; intro w1 hown hgr))
  have HB1 := Lib.hid ((Below.refl w.heap.size w).grown hgr (Nat.le_refl _) (by intro k hk; cases hk))
  have HO1 : Hid (Strs w1 w.heap.size (.slice (some ⟨w.heap.size, 0, none⟩) 0 n) []) := hown
  clear hown hgr hi hz0 hz1 hz2
  go_loopw [5, 13] (fun vv iv wr => ∃ (k : Nat) (a4 : Option Addr) (c4 : Nat), k ≤ n ∧ iv = .int .i64 k ∧ vv = .slice a4 k c4 ∧ Hid (Strs wr w.heap.size (.slice a4 k c4) (rowTexts R k)) ∧ Hid (Below w.heap.size w wr)) (fun _ iv _ => n - (intOf iv).toNat)
  case atStart => exact ⟨0, _, _, Nat.zero_le _, rfl, rfl, HO1, HB1⟩
  case round =>
    obtain ⟨k, a4, c4, hk, rfl, rfl, HO, HB⟩ := hrel
    by_cases hlt : k < n
    · have hkI : (k : Int) < (n : Int) := by omega
      obtain ⟨g, rfl, hg, hR⟩ : ∃ g, ao = some ⟨g, 0, none⟩ ∧ g < w.heap.size ∧ ∀ k, k < n → RowIn w g k (R k) := HV.out.resolve_left (by omega)
      obtain ⟨c0, c1, c2, c3, c4'⟩ := (hR k hlt).below HB.out hg
      have D2 := Lib.hid (fun w ht => impl_fr (R k).i (R k).g (R k).y (R k).x (R k).nl w ht)
      have HSU := Lib.hid (rowTexts_succ R k)
      obtain ⟨r, hr⟩ : ∃ r, r = R k := ⟨_, rfl⟩
      rw [← hr] at c0 c1 c2 c3 c4' D2 HSU
      clear hR hr
      have hB1 := (Below.refl wr.heap.size wr).alloc (Nat.le_refl _) (.cells #[.int .i64 r.i, .int .i64 r.g, .int .i64 r.y, .int .i64 r.x, .bool r.nl] 58)
      have HB2 := Lib.hid (HB.out.trans (hB1.mono HB.out.size))
      have HO2 := Lib.hid (HO.out.step hB1)
      clear hB1
      go_wp2_with fail
      refine (D2.out _ (HT.out.below HB2.out (Nat.le_refl _))).mono ?_
      rintro e w2 ⟨rfl, hb⟩
      have HB3 := Lib.hid (HB2.out.trans (hb.mono HB2.out.size))
      have HO3 := Lib.hid (HO2.out.step hb)
      have hszw := HB3.out.size
      clear hb c0 c1 c2 c3 c4'
      go_wp2_with (first | (at_builtin; refine wpList_append_text (W := w) rfl _ _ rfl w.heap.size (.slice a4 k c4) (rowTexts R k) r.fmt rfl HO3.out _ rfl _ rfl ?_ ?_ ?_ ?_; (· rw [rowTexts_len]; omega); (· exact HB3.out.size); (· exact HB3.out); intro v' w6 hS hb6))
      obtain ⟨ao', c', hv'⟩ := hS.shape
      rw [show rowTexts R k ++ [r.fmt] = rowTexts R (k + 1) from HSU.out] at hS hv'
      rw [rowTexts_len] at hv'
      subst hv'
      have HS6 := Lib.hid hS
      have HB6 := Lib.hid hb6
      clear hS hb6
      go_wp2
      go_roundw
      case rel => exact ⟨k + 1, ao', c', by omega, by go_num, rfl, HS6, HB6⟩
      case measure => simp [intOf]; omega
    · obtain rfl : k = n := by omega
      have hsd : decide ((k : Int) < (k : Int)) = false := decide_eq_false (by omega)
      have TX := Lib.hid (Strs.texts (ao := a4) (cap := c4) (T := rowTexts R k) (by rw [rowTexts_len]; exact HO.out))
      go_wp2
      go_ret
      exact ⟨_, _, rfl, TX.out, HB.out⟩
end Go.Proofs.YtcfcohnkkgickaaDoor
