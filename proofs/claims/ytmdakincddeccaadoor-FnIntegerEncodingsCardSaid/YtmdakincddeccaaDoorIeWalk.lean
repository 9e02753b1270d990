/-
  The walk of the law FnIntegerEncodings.
-/
import Derived.Test.YtmdakincddeccaaDoorRows
import Derived.Test.YtmdakincddeccaaDoorIePlain
import Derived.Test.YtmdakincddeccaaDoorDrawL1
import Derived.Test.YtmdakincddeccaaDoorEvImpl
import Derived.Test.YtmdakincddeccaaDoorDvImpl
import Derived.Test.YtmdakincddeccaaDoorEfSpec
import Derived.Test.YtmdakincddeccaaDoorEfImpl
import Derived.Test.YtmdakincddeccaaDoorDfImpl
import Derived.Test.YtmdakincddeccaaDoorEhImpl
import Derived.Test.YtmdakincddeccaaDoorDhImpl
import Derived.Test.YtmdakincddeccaaDoorPiImpl
import Derived.WalkKit
import Derived.WalkSpells
import Derived.WalkLawsBesides
import Derived.Lib.Hide
namespace Go.Proofs.YtmdakincddeccaaDoor
open Go.RowKit Num

theorem big_yes (ao : Option Addr) (n cap : Nat) (w : World) (h : 1048576 < n) :
    Calls Tryd.prog 10 #[.slice ao n cap] w fun e w' => e = .returned (.bool true) ∧ w = w' := by
  have hI : (1048576 : Int) < n := by omega
  go_enter Tryd.func10, Tryd.ntmps10
  go_wp2
  go_ret
  exact ⟨rfl, rfl⟩
theorem big_no (ao : Option Addr) (n cap : Nat) (w : World) (h : n ≤ 1048576) :
    Calls Tryd.prog 10 #[.slice ao n cap] w fun e w' => e = .returned (.bool false) ∧ w = w' := by
  have hI : ¬ (1048576 : Int) < n := by omega
  have hd : decide ((1048576 : Int) < n) = false := decide_eq_false hI
  go_enter Tryd.func10, Tryd.ntmps10
  go_wp2
  go_ret
  exact ⟨rfl, rfl⟩

/-- Both ways of EncodeVarint under one name. -/
def EvS (n : Int) (s : ByteArray) : Prop := (0 ≤ n ∧ n ≤ 562949953421311 ∧ s = ⟨(vlist n.toNat).toArray⟩) ∨ ((n < 0 ∨ 562949953421311 < n) ∧ s = ⟨#[]⟩)
theorem ev_any (n : Int) (w : World) : Calls Tryd.prog 13 #[.int .i64 n] w fun e w' => ∃ s, EvS n s ∧ e = .returned (.string s) ∧ Below w.heap.size w w' := by
  by_cases h : n < 0 ∨ 562949953421311 < n
  · refine (impl_ev_no n w h).mono ?_
    rintro e w' ⟨rfl, rfl⟩
    exact ⟨_, .inr ⟨h, rfl⟩, rfl, Below.refl _ _⟩
  · obtain ⟨k, rfl⟩ := Int.eq_ofNat_of_zero_le (show 0 ≤ n by omega)
    refine (impl_ev k w (by omega)).mono ?_
    rintro e w' ⟨rfl, hb⟩
    exact ⟨_, .inl ⟨by omega, by omega, rfl⟩, rfl, hb⟩

theorem toList_empty {s : ByteArray} (h : s.data.toList ≠ []) : s.toList.isEmpty = false := by
  rw [Lib.toList_data]
  cases hl : s.data.toList with
  | nil => exact absurd hl h
  | cons a r => rfl

theorem ev_facts {x : Int} {s : ByteArray} (hs : EvS x s) (tail : ByteArray) :
    s.size ≤ 7 ∧ ((0 ≤ x ∧ x ≤ 562949953421311 ∧ ∀ y k' : Nat, DV (s ++ tail).data.toList y k' → (y : Int) = x ∧ k' = s.size) ∧ s.toList.isEmpty = false ∨ (x < 0 ∨ 562949953421311 < x) ∧ s = ⟨#[]⟩) := by
  rcases hs with ⟨h0, h1, rfl⟩ | ⟨h, rfl⟩
  · obtain ⟨k, rfl⟩ := Int.eq_ofNat_of_zero_le h0
    have hk : k ≤ 562949953421311 := by omega
    have h7 := vlist_len7 k hk
    have hp := vlist_pos k
    have hl : (⟨(vlist (k : Int).toNat).toArray⟩ : ByteArray).size = (vlist k).length := by simp [ByteArray.size]
    refine ⟨by omega, .inl ⟨⟨h0, h1, fun y k' hd => ?_⟩, toList_empty ?_⟩⟩
    · have e : ((⟨(vlist (k : Int).toNat).toArray⟩ : ByteArray) ++ tail).data.toList = vlist k ++ tail.data.toList := by simp
      rw [e] at hd
      obtain ⟨rfl, rfl⟩ := DV_unique hd (dv_vlist k hk tail.data.toList)
      exact ⟨rfl, hl.symm⟩
    · intro hc
      have : (vlist k).length = 0 := by
        have := congrArg List.length hc
        simpa using this
      omega
  · exact ⟨by simp [ByteArray.size], .inr ⟨h, rfl⟩⟩

theorem hex_size (tail : ByteArray) : ((⟨(hexOf tail.data.toList).toArray⟩ : ByteArray)).size = 2 * tail.size := by
  show (hexOf tail.data.toList).toArray.size = _
  rw [List.size_toArray, hexOf_len]; simp

theorem dhV_tail (tail : ByteArray) : dhV ⟨(hexOf tail.data.toList).toArray⟩ = .tuple #[.string tail, .bool true] := by
  rw [dhV_hexOf]

/-- Both ways of EncodeFixed under one name. -/
def EfS (v wd : Int) (f : ByteArray) : Prop :=
  (∃ n m : Nat, v = n ∧ wd = m ∧ 1 ≤ m ∧ m ≤ 7 ∧ f = fixS m n) ∨ ((wd < 1 ∨ 7 < wd ∨ v < 0) ∧ f = ⟨#[]⟩)
theorem ef_any (v wd : Int) (hv : IsI64 v) (w : World) : Calls Tryd.prog 16 #[.int .i64 v, .int .i64 wd] w fun e w' => ∃ f, (EfS v wd f ∧ IsI64 v) ∧ e = .returned (.string f) ∧ Below w.heap.size w w' := by
  by_cases h : wd < 1 ∨ 7 < wd ∨ v < 0
  · refine (impl_ef_no v wd w h).mono ?_
    rintro e w' ⟨rfl, rfl⟩
    exact ⟨_, ⟨.inr ⟨h, rfl⟩, hv⟩, rfl, Below.refl _ _⟩
  · obtain ⟨n, rfl⟩ := Int.eq_ofNat_of_zero_le (show 0 ≤ v by omega)
    obtain ⟨m, rfl⟩ := Int.eq_ofNat_of_zero_le (show 0 ≤ wd by omega)
    refine (impl_ef n m w hv.2 (by omega) (by omega)).mono ?_
    rintro e w' ⟨rfl, hb⟩
    exact ⟨_, ⟨.inl ⟨n, m, rfl, rfl, by omega, by omega, rfl⟩, hv⟩, rfl, hb⟩

def DfS (s : ByteArray) (m : Int) (y : Int) (is : Bool) : Prop :=
  (∃ k : Nat, m = k ∧ 1 ≤ k ∧ k ≤ 7 ∧ k ≤ s.size ∧ y = dec (s.data.toList.take k) ∧ is = true) ∨ ((m < 1 ∨ 7 < m ∨ (s.size : Int) < m) ∧ y = 0 ∧ is = false)
theorem df_any (s : ByteArray) (m : Int) (w : World) (hb : s.size ≤ 1048576) : Calls Tryd.prog 17 #[.string s, .int .i64 m] w fun e w' => ∃ y is, DfS s m y is ∧ e = .returned (.tuple #[.int .i64 y, .bool is]) ∧ w = w' := by
  by_cases h : m < 1 ∨ 7 < m ∨ (s.size : Int) < m
  · refine (impl_df_no s m w h hb).mono ?_
    rintro e w' ⟨rfl, rfl⟩
    exact ⟨_, _, .inr ⟨h, rfl, rfl⟩, rfl, rfl⟩
  · obtain ⟨k, rfl⟩ := Int.eq_ofNat_of_zero_le (show 0 ≤ m by omega)
    refine (impl_df s k w (by omega) (by omega) (by omega) hb).mono ?_
    rintro e w' ⟨rfl, rfl⟩
    exact ⟨_, _, .inl ⟨k, rfl, by omega, by omega, by omega, rfl, rfl⟩, rfl, rfl⟩

theorem ef_facts {v wd : Int} {f : ByteArray} (hf : EfS v wd f ∧ IsI64 v) (tail : ByteArray) :
    f.size ≤ 7 ∧ ((f.toList.isEmpty = false ∧ (f.size : Int) = wd ∧ (∀ y is, DfS (f ++ tail) wd y is → v = y ∧ true = is) ∧
      (∀ w, Calls Tryd.prog 18 #[.int .i64 v, .int .i64 wd] w fun e w' => e = .returned (.string f) ∧ Below w.heap.size w w')) ∨
     (f = ⟨#[]⟩ ∧ ∀ w, Calls Tryd.prog 18 #[.int .i64 v, .int .i64 wd] w fun e w' => e = .returned (.string ⟨#[]⟩) ∧ Below w.heap.size w w')) := by
  obtain ⟨hf, hv⟩ := hf
  rcases hf with ⟨n, m, rfl, rfl, h1, h7, rfl⟩ | ⟨h, rfl⟩
  · by_cases hfit : n < 256 ^ m
    · have e : fixS m n = ⟨(fixL m n).toArray⟩ := if_pos hfit
      have hl := fixL_length m n
      have hsz : (fixS m n).size = m := by rw [e]; simp [ByteArray.size, hl]
      refine ⟨by omega, .inl ⟨toList_empty ?_, by omega, fun y is hd => ?_, fun w => spec_ef n m w hv.2 h1 h7⟩⟩
      · rw [e]
        intro hc
        have : (fixL m n).length = 0 := by
          have := congrArg List.length hc
          simpa using this
        omega
      · have e2 : (fixS m n ++ tail).data.toList = fixL m n ++ tail.data.toList := by rw [e]; simp
        have hs2 : (fixS m n ++ tail).size = m + tail.size := by rw [ByteArray.size_append, hsz]
        rcases hd with ⟨k, hk, _, _, _, rfl, rfl⟩ | ⟨h, _⟩
        · obtain rfl : m = k := by omega
          exact ⟨by rw [e2, dec_take_fix m n hfit], rfl⟩
        · omega
    · have e : fixS m n = ⟨#[]⟩ := if_neg hfit
      refine ⟨by rw [e]; simp [ByteArray.size], .inr ⟨e, fun w => ?_⟩⟩
      have := spec_ef n m w hv.2 h1 h7
      rw [e] at this
      exact this
  · exact ⟨by simp [ByteArray.size], .inr ⟨rfl, fun w => (spec_ef_no v wd w h).mono fun e w' ⟨h1, h2⟩ => ⟨h1, by subst h2; exact Below.refl _ _⟩⟩⟩

set_option maxRecDepth 100000 in
set_option maxHeartbeats 12800000 in
theorem ie_walk (ao : Option Addr) (n cap : Nat) (w : World) (hr : Rd w w.heap.size ao n) (ht : PowTab w) :
    Calls Tryd.prog 5 #[.slice ao n cap] w fun e w' => e = .returned (.bool true) ∧ Below w.heap.size w w' := by
  have HT := Lib.hid ht
  clear ht
  go_enter Tryd.func5, Tryd.ntmps5
  go_wp2_with fail
  refine (big_no ao n cap _ hr.1).mono ?_
  rintro e w0 ⟨rfl, rfl⟩
  go_wp2_with fail
  refine (drawEv _ ao n cap _ hr (Nat.le_refl _)).mono ?_
  rintro e w1 ⟨x, hx, rfl, hr1, hb1⟩
  go_wp2_with fail
  refine (drawEh _ ao n cap _ hr1 hb1.size).mono ?_
  rintro e w2 ⟨tail, htl, rfl, hr2, hb2'⟩
  have hb2 := hb1.trans hb2'
  go_wp2_with fail
  refine (ev_any x _).mono ?_
  rintro e w3 ⟨s, hs, rfl, hb3'⟩
  have hb3 := hb2.trans (hb3'.mono hb2.size)
  have hr3 := hr2.below (hb3'.mono hb2.size)
  clear hb1 hb2' hb2 hb3' hr1 hr2
  have hszt : tail.size ≤ 40 := htl
  have hs7 : s.size ≤ 7 ∧ ((0 ≤ x ∧ x ≤ 562949953421311 ∧ ∀ y k' : Nat, DV (s ++ tail).data.toList y k' → (y : Int) = x ∧ k' = s.size) ∧ s.toList.isEmpty = false ∨ (x < 0 ∨ 562949953421311 < x) ∧ s = ⟨#[]⟩) := ev_facts hs tail
  obtain ⟨hs7, hcase⟩ := hs7
  rcases hcase with ⟨⟨hx0, hx1, huniq⟩, hemp⟩ | ⟨hxo, rfl⟩
  · have HU := Lib.hid huniq
    clear huniq hs
    go_wp2_with fail
    refine (impl_dv _ _ (by rw [ByteArray.size_append]; omega)).mono ?_
    rintro e w4 ⟨⟨y, k', hd, rfl⟩, hb4'⟩
    obtain ⟨hy, rfl⟩ := HU.out y k' hd
    obtain rfl := hy
    have hb4 := hb3.trans (hb4'.mono hb3.size)
    have hr4 := hr3.below (hb4'.mono hb3.size)
    clear hb4' hb3 hr3 hd HU
    go_wp2_with fail
    refine (drawEf _ ao n cap _ hr4 hb4.size).mono ?_
    rintro e w5 ⟨v, wd, hv, hwd, rfl, hr5, hb5'⟩
    have hb5 := hb4.trans hb5'
    clear hb4 hr4 hb5'
    go_wp2_with fail
    refine (ef_any v wd hv _).mono ?_
    rintro e w6 ⟨f, hf, rfl, hb6'⟩
    have hb6 := hb5.trans (hb6'.mono hb5.size)
    clear hb5 hb6' hr5
    obtain ⟨hf7, hfc⟩ := ef_facts hf tail
    rcases hfc with ⟨hfe, hin, hfd, hfs⟩ | ⟨rfl, hno⟩
    · have HFS0 := Lib.hid hfs
      have HFD := Lib.hid hfd
      have HIN := Lib.hid hin
      clear hfs hfd hin hf
      go_wp2_with fail
      refine (df_any _ wd _ (by rw [ByteArray.size_append]; omega)).mono ?_
      rintro e w7 ⟨y2, is, hd2, rfl, rfl⟩
      obtain ⟨rfl, rfl⟩ := HFD.out y2 is hd2
      have hfs := HFS0.out
      obtain rfl := HIN.out
      have HFS : Hid (∀ w, Calls Tryd.prog 18 #[.int .i64 v, .int .i64 (f.size : Int)] w fun e w' => e = .returned (.string f) ∧ Below w.heap.size w w') := hfs
      clear hd2 HFD hfs HFS0 HIN
      go_wp2_with fail
      refine (HFS.out _).mono ?_
      rintro e w8 ⟨rfl, hb8'⟩
      have hb8 := hb6.trans (hb8'.mono hb6.size)
      clear hb6 hb8' HFS
      obtain ⟨hh, hhd⟩ : ∃ hh : ByteArray, hh = ⟨(hexOf tail.data.toList).toArray⟩ := ⟨_, rfl⟩
      have HH : Hid (hh = ⟨(hexOf tail.data.toList).toArray⟩) := hhd
      have hhs : (hh.size : Int) = 2 * (tail.size : Int) := by rw [hhd, hex_size]; omega
      have hhb : hh.size ≤ 1048576 := by rw [hhd]; have := hex_size tail; omega
      clear hhd
      obtain ⟨d, hdd⟩ : ∃ d : ByteArray, d = ⟨(Lib.itoa v).toArray⟩ := ⟨_, rfl⟩
      have HD : Hid (d = ⟨(Lib.itoa v).toArray⟩) := hdd
      clear hdd
      go_wp2_with fail
      refine (impl_eh tail _ (by omega)).mono ?_
      rintro e w9 ⟨he, hb9'⟩
      rw [← HH.out] at he
      subst he
      have hb9 := hb8.trans (hb9'.mono hb8.size)
      clear hb8 hb9'
      go_wp2_with fail
      refine (impl_dh hh _ hhb).mono ?_
      rintro e w10 ⟨he, hb10'⟩
      rw [HH.out, dhV_tail] at he
      subst he
      have hb10 := hb9.trans (hb10'.mono hb9.size)
      clear hb9 hb10'
      go_wp2_with fail
      refine (impl_fi v _ hv.1 hv.2 (HT.out.below hb10 (Nat.le_refl _))).mono ?_
      rintro e w11 ⟨he, hb11'⟩
      rw [← HD.out] at he
      subst he
      have hb11 := hb10.trans (hb11'.mono hb10.size)
      clear hb10 hb11'
      go_wp2_with fail
      refine (impl_pi d _ (HT.out.below hb11 (Nat.le_refl _))).mono ?_
      rintro e w12 ⟨⟨z, good, hp, rfl⟩, hb12'⟩
      have hb12 := hb11.trans (hb12'.mono hb11.size)
      have hp2 : PIans (Lib.itoa v) z good := by rw [HD.out] at hp; exact hp
      clear hb11 hb12' hp
      rcases pi_itoa hp2 with ⟨g1, g2, rfl, rfl⟩ | ⟨g1, rfl⟩
      · clear hp2
        go_wp2_with fail
        refine (spec_fi _ _ hv.1 hv.2).mono ?_
        rintro e w13 ⟨he, hb13'⟩
        rw [← HD.out] at he
        subst he
        have hb13 := Lib.hid (hb12.trans (hb13'.mono hb12.size))
        clear hb12 hb13'
        go_wp2_with fail
        go_ret
        exact ⟨rfl, hb13.out⟩
      · clear hp2
        rcases g1 with g1 | g1
        · have g2 : decide (-1000000000 < v) = false := decide_eq_false (by omega)
          go_wp2_with fail
          refine (spec_fi _ _ hv.1 hv.2).mono ?_
          rintro e w13 ⟨he, hb13'⟩
          rw [← HD.out] at he
          subst he
          have hb13 := Lib.hid (hb12.trans (hb13'.mono hb12.size))
          clear hb12 hb13'
          go_wp2_with fail
          go_ret
          exact ⟨rfl, hb13.out⟩
        · have g2 : decide (v < 1000000000) = false := decide_eq_false (by omega)
          have g3 : -1000000000 < v := by omega
          go_wp2_with fail
          refine (spec_fi _ _ hv.1 hv.2).mono ?_
          rintro e w13 ⟨he, hb13'⟩
          rw [← HD.out] at he
          subst he
          have hb13 := Lib.hid (hb12.trans (hb13'.mono hb12.size))
          clear hb12 hb13'
          go_wp2_with fail
          go_ret
          exact ⟨rfl, hb13.out⟩
    · have HNO := Lib.hid hno
      clear hno hf
      go_wp2_with fail
      refine (df_any _ wd _ (by rw [ByteArray.size_append]; omega)).mono ?_
      rintro e w7 ⟨y2, is, hd2, rfl, rfl⟩
      have HFS : Hid (∀ w, Calls Tryd.prog 18 #[.int .i64 v, .int .i64 wd] w fun e w' => e = .returned (.string ⟨#[]⟩) ∧ Below w.heap.size w w') := HNO.out
      clear hd2 HNO
      go_wp2_with fail
      refine (HFS.out _).mono ?_
      rintro e w8 ⟨rfl, hb8'⟩
      have hb8 := hb6.trans (hb8'.mono hb6.size)
      clear hb6 hb8' HFS
      obtain ⟨hh, hhd⟩ : ∃ hh : ByteArray, hh = ⟨(hexOf tail.data.toList).toArray⟩ := ⟨_, rfl⟩
      have HH : Hid (hh = ⟨(hexOf tail.data.toList).toArray⟩) := hhd
      have hhs : (hh.size : Int) = 2 * (tail.size : Int) := by rw [hhd, hex_size]; omega
      have hhb : hh.size ≤ 1048576 := by rw [hhd]; have := hex_size tail; omega
      clear hhd
      obtain ⟨d, hdd⟩ : ∃ d : ByteArray, d = ⟨(Lib.itoa v).toArray⟩ := ⟨_, rfl⟩
      have HD : Hid (d = ⟨(Lib.itoa v).toArray⟩) := hdd
      clear hdd
      go_wp2_with fail
      refine (impl_eh tail _ (by omega)).mono ?_
      rintro e w9 ⟨he, hb9'⟩
      rw [← HH.out] at he
      subst he
      have hb9 := hb8.trans (hb9'.mono hb8.size)
      clear hb8 hb9'
      go_wp2_with fail
      refine (impl_dh hh _ hhb).mono ?_
      rintro e w10 ⟨he, hb10'⟩
      rw [HH.out, dhV_tail] at he
      subst he
      have hb10 := hb9.trans (hb10'.mono hb9.size)
      clear hb9 hb10'
      go_wp2_with fail
      refine (impl_fi v _ hv.1 hv.2 (HT.out.below hb10 (Nat.le_refl _))).mono ?_
      rintro e w11 ⟨he, hb11'⟩
      rw [← HD.out] at he
      subst he
      have hb11 := hb10.trans (hb11'.mono hb10.size)
      clear hb10 hb11'
      go_wp2_with fail
      refine (impl_pi d _ (HT.out.below hb11 (Nat.le_refl _))).mono ?_
      rintro e w12 ⟨⟨z, good, hp, rfl⟩, hb12'⟩
      have hb12 := hb11.trans (hb12'.mono hb11.size)
      have hp2 : PIans (Lib.itoa v) z good := by rw [HD.out] at hp; exact hp
      clear hb11 hb12' hp
      rcases pi_itoa hp2 with ⟨g1, g2, rfl, rfl⟩ | ⟨g1, rfl⟩
      · clear hp2
        go_wp2_with fail
        refine (spec_fi _ _ hv.1 hv.2).mono ?_
        rintro e w13 ⟨he, hb13'⟩
        rw [← HD.out] at he
        subst he
        have hb13 := Lib.hid (hb12.trans (hb13'.mono hb12.size))
        clear hb12 hb13'
        go_wp2_with fail
        go_ret
        exact ⟨rfl, hb13.out⟩
      · clear hp2
        rcases g1 with g1 | g1
        · have g2 : decide (-1000000000 < v) = false := decide_eq_false (by omega)
          go_wp2_with fail
          refine (spec_fi _ _ hv.1 hv.2).mono ?_
          rintro e w13 ⟨he, hb13'⟩
          rw [← HD.out] at he
          subst he
          have hb13 := Lib.hid (hb12.trans (hb13'.mono hb12.size))
          clear hb12 hb13'
          go_wp2_with fail
          go_ret
          exact ⟨rfl, hb13.out⟩
        · have g2 : decide (v < 1000000000) = false := decide_eq_false (by omega)
          have g3 : -1000000000 < v := by omega
          go_wp2_with fail
          refine (spec_fi _ _ hv.1 hv.2).mono ?_
          rintro e w13 ⟨he, hb13'⟩
          rw [← HD.out] at he
          subst he
          have hb13 := Lib.hid (hb12.trans (hb13'.mono hb12.size))
          clear hb12 hb13'
          go_wp2_with fail
          go_ret
          exact ⟨rfl, hb13.out⟩
  · have hxo' := hxo
    go_wp2_with fail
    refine (impl_dv _ _ (by rw [ByteArray.size_append]; omega)).mono ?_
    rintro e w4 ⟨⟨y, k', hd, rfl⟩, hb4'⟩
    have hb4 := hb3.trans (hb4'.mono hb3.size)
    have hr4 := hr3.below (hb4'.mono hb3.size)
    clear hb4' hb3 hr3 hd hs
    rcases hxo' with hx0 | hx0
    all_goals
      go_wp2_with fail
      refine (drawEf _ ao n cap _ hr4 hb4.size).mono ?_
      rintro e w5 ⟨v, wd, hv, hwd, rfl, hr5, hb5'⟩
      have hb5 := hb4.trans hb5'
      clear hb4 hr4 hb5'
      go_wp2_with fail
      refine (ef_any v wd hv _).mono ?_
      rintro e w6 ⟨f, hf, rfl, hb6'⟩
      have hb6 := hb5.trans (hb6'.mono hb5.size)
      clear hb5 hb6' hr5
      obtain ⟨hf7, hfc⟩ := ef_facts hf tail
      rcases hfc with ⟨hfe, hin, hfd, hfs⟩ | ⟨rfl, hno⟩
      · have HFS0 := Lib.hid hfs
        have HFD := Lib.hid hfd
        have HIN := Lib.hid hin
        clear hfs hfd hin hf
        go_wp2_with fail
        refine (df_any _ wd _ (by rw [ByteArray.size_append]; omega)).mono ?_
        rintro e w7 ⟨y2, is, hd2, rfl, rfl⟩
        obtain ⟨rfl, rfl⟩ := HFD.out y2 is hd2
        have hfs := HFS0.out
        obtain rfl := HIN.out
        have HFS : Hid (∀ w, Calls Tryd.prog 18 #[.int .i64 v, .int .i64 (f.size : Int)] w fun e w' => e = .returned (.string f) ∧ Below w.heap.size w w') := hfs
        clear hd2 HFD hfs HFS0 HIN
        go_wp2_with fail
        refine (HFS.out _).mono ?_
        rintro e w8 ⟨rfl, hb8'⟩
        have hb8 := hb6.trans (hb8'.mono hb6.size)
        clear hb6 hb8' HFS
        obtain ⟨hh, hhd⟩ : ∃ hh : ByteArray, hh = ⟨(hexOf tail.data.toList).toArray⟩ := ⟨_, rfl⟩
        have HH : Hid (hh = ⟨(hexOf tail.data.toList).toArray⟩) := hhd
        have hhs : (hh.size : Int) = 2 * (tail.size : Int) := by rw [hhd, hex_size]; omega
        have hhb : hh.size ≤ 1048576 := by rw [hhd]; have := hex_size tail; omega
        clear hhd
        obtain ⟨d, hdd⟩ : ∃ d : ByteArray, d = ⟨(Lib.itoa v).toArray⟩ := ⟨_, rfl⟩
        have HD : Hid (d = ⟨(Lib.itoa v).toArray⟩) := hdd
        clear hdd
        go_wp2_with fail
        refine (impl_eh tail _ (by omega)).mono ?_
        rintro e w9 ⟨he, hb9'⟩
        rw [← HH.out] at he
        subst he
        have hb9 := hb8.trans (hb9'.mono hb8.size)
        clear hb8 hb9'
        go_wp2_with fail
        refine (impl_dh hh _ hhb).mono ?_
        rintro e w10 ⟨he, hb10'⟩
        rw [HH.out, dhV_tail] at he
        subst he
        have hb10 := hb9.trans (hb10'.mono hb9.size)
        clear hb9 hb10'
        go_wp2_with fail
        refine (impl_fi v _ hv.1 hv.2 (HT.out.below hb10 (Nat.le_refl _))).mono ?_
        rintro e w11 ⟨he, hb11'⟩
        rw [← HD.out] at he
        subst he
        have hb11 := hb10.trans (hb11'.mono hb10.size)
        clear hb10 hb11'
        go_wp2_with fail
        refine (impl_pi d _ (HT.out.below hb11 (Nat.le_refl _))).mono ?_
        rintro e w12 ⟨⟨z, good, hp, rfl⟩, hb12'⟩
        have hb12 := hb11.trans (hb12'.mono hb11.size)
        have hp2 : PIans (Lib.itoa v) z good := by rw [HD.out] at hp; exact hp
        clear hb11 hb12' hp
        rcases pi_itoa hp2 with ⟨g1, g2, rfl, rfl⟩ | ⟨g1, rfl⟩
        · clear hp2
          go_wp2_with fail
          refine (spec_fi _ _ hv.1 hv.2).mono ?_
          rintro e w13 ⟨he, hb13'⟩
          rw [← HD.out] at he
          subst he
          have hb13 := Lib.hid (hb12.trans (hb13'.mono hb12.size))
          clear hb12 hb13'
          go_wp2_with fail
          go_ret
          exact ⟨rfl, hb13.out⟩
        · clear hp2
          rcases g1 with g1 | g1
          · have g2 : decide (-1000000000 < v) = false := decide_eq_false (by omega)
            go_wp2_with fail
            refine (spec_fi _ _ hv.1 hv.2).mono ?_
            rintro e w13 ⟨he, hb13'⟩
            rw [← HD.out] at he
            subst he
            have hb13 := Lib.hid (hb12.trans (hb13'.mono hb12.size))
            clear hb12 hb13'
            go_wp2_with fail
            go_ret
            exact ⟨rfl, hb13.out⟩
          · have g2 : decide (v < 1000000000) = false := decide_eq_false (by omega)
            have g3 : -1000000000 < v := by omega
            go_wp2_with fail
            refine (spec_fi _ _ hv.1 hv.2).mono ?_
            rintro e w13 ⟨he, hb13'⟩
            rw [← HD.out] at he
            subst he
            have hb13 := Lib.hid (hb12.trans (hb13'.mono hb12.size))
            clear hb12 hb13'
            go_wp2_with fail
            go_ret
            exact ⟨rfl, hb13.out⟩
      · have HNO := Lib.hid hno
        clear hno hf
        go_wp2_with fail
        refine (df_any _ wd _ (by rw [ByteArray.size_append]; omega)).mono ?_
        rintro e w7 ⟨y2, is, hd2, rfl, rfl⟩
        have HFS : Hid (∀ w, Calls Tryd.prog 18 #[.int .i64 v, .int .i64 wd] w fun e w' => e = .returned (.string ⟨#[]⟩) ∧ Below w.heap.size w w') := HNO.out
        clear hd2 HNO
        go_wp2_with fail
        refine (HFS.out _).mono ?_
        rintro e w8 ⟨rfl, hb8'⟩
        have hb8 := hb6.trans (hb8'.mono hb6.size)
        clear hb6 hb8' HFS
        obtain ⟨hh, hhd⟩ : ∃ hh : ByteArray, hh = ⟨(hexOf tail.data.toList).toArray⟩ := ⟨_, rfl⟩
        have HH : Hid (hh = ⟨(hexOf tail.data.toList).toArray⟩) := hhd
        have hhs : (hh.size : Int) = 2 * (tail.size : Int) := by rw [hhd, hex_size]; omega
        have hhb : hh.size ≤ 1048576 := by rw [hhd]; have := hex_size tail; omega
        clear hhd
        obtain ⟨d, hdd⟩ : ∃ d : ByteArray, d = ⟨(Lib.itoa v).toArray⟩ := ⟨_, rfl⟩
        have HD : Hid (d = ⟨(Lib.itoa v).toArray⟩) := hdd
        clear hdd
        go_wp2_with fail
        refine (impl_eh tail _ (by omega)).mono ?_
        rintro e w9 ⟨he, hb9'⟩
        rw [← HH.out] at he
        subst he
        have hb9 := hb8.trans (hb9'.mono hb8.size)
        clear hb8 hb9'
        go_wp2_with fail
        refine (impl_dh hh _ hhb).mono ?_
        rintro e w10 ⟨he, hb10'⟩
        rw [HH.out, dhV_tail] at he
        subst he
        have hb10 := hb9.trans (hb10'.mono hb9.size)
        clear hb9 hb10'
        go_wp2_with fail
        refine (impl_fi v _ hv.1 hv.2 (HT.out.below hb10 (Nat.le_refl _))).mono ?_
        rintro e w11 ⟨he, hb11'⟩
        rw [← HD.out] at he
        subst he
        have hb11 := hb10.trans (hb11'.mono hb10.size)
        clear hb10 hb11'
        go_wp2_with fail
        refine (impl_pi d _ (HT.out.below hb11 (Nat.le_refl _))).mono ?_
        rintro e w12 ⟨⟨z, good, hp, rfl⟩, hb12'⟩
        have hb12 := hb11.trans (hb12'.mono hb11.size)
        have hp2 : PIans (Lib.itoa v) z good := by rw [HD.out] at hp; exact hp
        clear hb11 hb12' hp
        rcases pi_itoa hp2 with ⟨g1, g2, rfl, rfl⟩ | ⟨g1, rfl⟩
        · clear hp2
          go_wp2_with fail
          refine (spec_fi _ _ hv.1 hv.2).mono ?_
          rintro e w13 ⟨he, hb13'⟩
          rw [← HD.out] at he
          subst he
          have hb13 := Lib.hid (hb12.trans (hb13'.mono hb12.size))
          clear hb12 hb13'
          go_wp2_with fail
          go_ret
          exact ⟨rfl, hb13.out⟩
        · clear hp2
          rcases g1 with g1 | g1
          · have g2 : decide (-1000000000 < v) = false := decide_eq_false (by omega)
            go_wp2_with fail
            refine (spec_fi _ _ hv.1 hv.2).mono ?_
            rintro e w13 ⟨he, hb13'⟩
            rw [← HD.out] at he
            subst he
            have hb13 := Lib.hid (hb12.trans (hb13'.mono hb12.size))
            clear hb12 hb13'
            go_wp2_with fail
            go_ret
            exact ⟨rfl, hb13.out⟩
          · have g2 : decide (v < 1000000000) = false := decide_eq_false (by omega)
            have g3 : -1000000000 < v := by omega
            go_wp2_with fail
            refine (spec_fi _ _ hv.1 hv.2).mono ?_
            rintro e w13 ⟨he, hb13'⟩
            rw [← HD.out] at he
            subst he
            have hb13 := Lib.hid (hb12.trans (hb13'.mono hb12.size))
            clear hb12 hb13'
            go_wp2_with fail
            go_ret
            exact ⟨rfl, hb13.out⟩
end Go.Proofs.YtmdakincddeccaaDoor
