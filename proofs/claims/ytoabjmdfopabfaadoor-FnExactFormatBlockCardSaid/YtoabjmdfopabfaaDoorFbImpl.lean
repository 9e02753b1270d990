/-
  The walk over the project's FormatBlock.
-/
import Derived.Test.YtoabjmdfopabfaaDoorRows
import Derived.Test.YtoabjmdfopabfaaDoorBvImpl
import Derived.Test.YtoabjmdfopabfaaDoorBfSpec
import Derived.Test.YtoabjmdfopabfaaDoorRfImpl
namespace Go.Proofs.YtoabjmdfopabfaaDoor
open Go.RowKit Num

theorem cat_space2 (a b : List UInt8) : (⟨a.toArray⟩ : ByteArray) ++ ((⟨#[32]⟩ : ByteArray) ++ (⟨b.toArray⟩ : ByteArray)) = ⟨(a ++ 32 :: b).toArray⟩ := by
  apply ByteArray.ext
  simp

set_option maxRecDepth 8000 in
set_option maxHeartbeats 6400000 in
theorem impl_fbV (id : Int) (ao : Option Addr) (n cap : Nat) (R : Nat → Rw) (w : World) (hn : n ≤ 1048576) (hV : RowsVal w ao n R) (ht : PowTab w) :
    Calls Tryd.prog 8 #[.agg #[.int .i64 id, .slice ao n cap]] w fun e w' => e = .returned (.string ⟨(fmtB id n R).toArray⟩) ∧ Below w.heap.size w w' := by
  have HV := Lib.hid hV
  have HT : Hid (PowTab w) := ht
  clear hV ht
  have HBV := Lib.hid (fun w hV => impl_bvV id ao n cap R w hn hV)
  cases hq : blkB id n R
  · rw [fmtB_no hq]
    have D1 := HBV.out
    rw [hq] at D1
    have DD1 := Lib.hid D1
    clear D1 hq HBV
    go_enter Tryd.func8, Tryd.ntmps8
    go_wp2_with fail
    have K0 := (Kept.start w).alloc2 (.int .i64 id) (.slice ao n cap) 29 _ rfl
    refine (DD1.out _ (HV.out.below K0.1)).mono ?_
    rintro e w1 ⟨rfl, hb⟩
    have K1 := K0.step hb
    clear hb K0
    go_wp2
    go_ret
    exact ⟨rfl, K1.1⟩
  · obtain ⟨⟨i1, i2⟩, _, h6⟩ := blkB_of hq
    rw [fmtB_yes hq]
    have D1 := HBV.out
    rw [hq] at D1
    have DD1 := Lib.hid D1
    have DF := Lib.hid (fun w ht => impl_fi id w (by omega) (by omega) ht)
    have li := Lib.itoa_length_le id (by omega) (by omega)
    have hnI : (n : Int) ≤ 6 := by omega
    obtain ⟨a0, ha0⟩ : ∃ a0, a0 = Lib.itoa id := ⟨_, rfl⟩
    rw [← ha0] at li DF
    rw [← ha0]
    have hs0 : ¬ 9223372036854775807 < 1 + a0.length := by omega
    clear D1 hq HBV i1 i2 ha0
    go_enter Tryd.func8, Tryd.ntmps8
    go_wp2_with fail
    have K0 := (Kept.start w).alloc2 (.int .i64 id) (.slice ao n cap) 29 _ rfl
    refine (DD1.out _ (HV.out.below K0.1)).mono ?_
    rintro e w1 ⟨rfl, hb⟩
    have K1 := K0.step hb
    clear hb K0
    have k0 := K1.get 0 rfl
    go_wp2_with fail
    refine (DF.out _ (HT.out.below K1.1 (Nat.le_refl _))).mono ?_
    rintro e w2 ⟨rfl, hb⟩
    have K2 := K1.step hb
    clear hb K1 k0
    have k1 := K2.get 1 rfl
    go_wp2_with fail
    go_loopw [3, 16] (fun sv iv wr => ∃ (k : Nat) (acc : List UInt8), k ≤ n ∧ iv = .int .i64 k ∧ sv = .string ⟨acc.toArray⟩ ∧ acc.length ≤ 22 + k * 131 ∧ Hid (acc = 35 :: (a0 ++ fmtRows R k)) ∧ Hid (Below w.heap.size w wr)) (fun _ iv _ => n - (intOf iv).toNat)
    case atStart => exact ⟨0, 35 :: a0, Nat.zero_le _, rfl, congrArg Value.string (by apply ByteArray.ext; simp), by simp only [List.length_cons]; omega, by show _ = 35 :: (a0 ++ []); rw [List.append_nil], K2.1⟩
    case round =>
      obtain ⟨k, acc, hk, rfl, rfl, hlen, HA, HK⟩ := hrel
      by_cases hlt : k < n
      · have hkI : (k : Int) < (n : Int) := by omega
        obtain ⟨g, rfl, hg, hR⟩ : ∃ g, ao = some ⟨g, 0, none⟩ ∧ g < w.heap.size ∧ ∀ k, k < n → RowIn w g k (R k) := HV.out.resolve_left (by omega)
        have HR := Lib.hid hR
        clear hR
        obtain ⟨c0, c1, c2, c3, c4⟩ := (HR.out k hlt).below HK.out hg
        have D2 := fun w ht => impl_fr (R k).i (R k).g (R k).y (R k).x (R k).nl w ht
        have lf := fmtR_len (i := (R k).i) (g := (R k).g) (y := (R k).y) (x := (R k).x) (nl := (R k).nl)
        obtain ⟨f, hf⟩ : ∃ f, f = fmtR (R k).i (R k).g (R k).y (R k).x (R k).nl := ⟨_, rfl⟩
        rw [← hf] at D2 lf
        have DD2 := Lib.hid D2
        have HF := Lib.hid hf
        have s1 : ¬ 9223372036854775807 < 1 + f.length := by omega
        have s2 : ¬ 9223372036854775807 < acc.length + (1 + f.length) := by omega
        clear D2 hf
        go_wp2_with fail
        have HB := Lib.hid (HK.out.alloc HK.out.size (.cells #[.int .i64 (R k).i, .int .i64 (R k).g, .int .i64 (R k).y, .int .i64 (R k).x, .bool (R k).nl] 42))
        refine (DD2.out _ (HT.out.below HB.out (Nat.le_refl _))).mono ?_
        rintro e w3 ⟨rfl, hb⟩
        have K3 := Lib.hid (HB.out.trans (hb.mono HB.out.size))
        clear hb c0 c1 c2 c3 c4
        go_wp2
        go_roundw
        case rel => exact ⟨k + 1, acc ++ 32 :: f, by omega, by go_num, by rw [← cat_space2], by simp only [List.length_append, List.length_cons]; omega, by show _ = 35 :: (a0 ++ (fmtRows R k ++ 32 :: (R k).fmt)); rw [HA.out, HF.out]; simp [Rw.fmt], K3.out⟩
        case measure => simp [intOf]; omega
      · obtain rfl : k = n := by omega
        have hsd : decide ((k : Int) < (k : Int)) = false := decide_eq_false (by omega)
        go_wp2
        go_ret
        exact ⟨by rw [← HA.out]; rfl, HK.out⟩

theorem impl_fb (id : Int) (g n cap : Nat) (R : Nat → Rw) (w : World) (hn : n ≤ 1048576) (hg : g < w.heap.size) (hR : ∀ k, k < n → RowIn w g k (R k)) (ht : PowTab w) :
    Calls Tryd.prog 8 #[.agg #[.int .i64 id, .slice (some ⟨g, 0, none⟩) n cap]] w fun e w' => e = .returned (.string ⟨(fmtB id n R).toArray⟩) ∧ Below w.heap.size w w' :=
  impl_fbV id _ n cap R w hn (.inr ⟨g, rfl, hg, hR⟩) ht
end Go.Proofs.YtoabjmdfopabfaaDoor
