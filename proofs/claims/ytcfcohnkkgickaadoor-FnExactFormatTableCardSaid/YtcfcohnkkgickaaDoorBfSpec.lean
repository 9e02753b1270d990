/-
  The walk over the model's FormatBlock.
-/
import Derived.Test.YtcfcohnkkgickaaDoorRows
import Derived.Test.YtcfcohnkkgickaaDoorBkLaw
import Derived.Test.YtcfcohnkkgickaaDoorRfSpec
import Derived.WalkKit
import Derived.WalkSpells
import Derived.WalkLawsBesides
import Derived.IntWalk
import Derived.Lib.Hide
namespace Go.Proofs.YtcfcohnkkgickaaDoor
open Go.RowKit Num

theorem cat_hash (a : List UInt8) : (⟨#[35]⟩ : ByteArray) ++ (⟨a.toArray⟩ : ByteArray) = ⟨(35 :: a).toArray⟩ := by
  apply ByteArray.ext
  simp
theorem cat_space (a b : List UInt8) : (⟨a.toArray⟩ : ByteArray) ++ (⟨#[32]⟩ : ByteArray) ++ (⟨b.toArray⟩ : ByteArray) = ⟨(a ++ 32 :: b).toArray⟩ := by
  apply ByteArray.ext
  simp

set_option maxRecDepth 8000 in
set_option maxHeartbeats 6400000 in
theorem spec_fbV (id : Int) (ao : Option Addr) (n cap : Nat) (R : Nat → Rw) (w : World) (hn : n ≤ 1048576) (hV : RowsVal w ao n R) :
    Calls Tryd.prog 7 #[.agg #[.int .i64 id, .slice ao n cap]] w fun e w' => e = .returned (.string ⟨(fmtB id n R).toArray⟩) ∧ Below w.heap.size w w' := by
  have HV := Lib.hid hV
  clear hV
  have HBV := Lib.hid (fun w hV => spec_bvV id ao n cap R w hn hV)
  cases hq : blkB id n R
  · rw [fmtB_no hq]
    have D1 := HBV.out
    rw [hq] at D1
    have DD1 := Lib.hid D1
    clear D1 hq HBV
    go_enter Tryd.func7, Tryd.ntmps7
    go_wp2_with fail
    have K0 := (Kept.start w).alloc2 (.int .i64 id) (.slice ao n cap) 29 _ rfl
    refine (DD1.out _ (HV.out.below K0.1)).mono ?_
    rintro e w1 ⟨rfl, hb⟩
    have K1 := K0.step hb
    clear hb K0
    go_wp2
    go_ret
    exact ⟨rfl, K1.1⟩
  · obtain ⟨⟨i1, i2⟩, _, h6⟩ := blkB_of hq
    rw [fmtB_yes hq]
    have D1 := HBV.out
    rw [hq] at D1
    have DD1 := Lib.hid D1
    have DF := Lib.hid (fun w => spec_fi id w (by omega) (by omega))
    have li := Lib.itoa_length_le id (by omega) (by omega)
    have hnI : (n : Int) ≤ 6 := by omega
    obtain ⟨a0, ha0⟩ : ∃ a0, a0 = Lib.itoa id := ⟨_, rfl⟩
    rw [← ha0] at li DF
    rw [← ha0]
    have hs0 : ¬ 9223372036854775807 < 1 + a0.length := by omega
    clear D1 hq HBV i1 i2 ha0
    go_enter Tryd.func7, Tryd.ntmps7
    go_wp2_with fail
    have K0 := (Kept.start w).alloc2 (.int .i64 id) (.slice ao n cap) 29 _ rfl
    refine (DD1.out _ (HV.out.below K0.1)).mono ?_
    rintro e w1 ⟨rfl, hb⟩
    have K1 := K0.step hb
    clear hb K0
    have k0 := K1.get 0 rfl
    go_wp2_with fail
    refine (DF.out _).mono ?_
    rintro e w2 ⟨rfl, hb⟩
    have K2 := K1.step hb
    clear hb K1 k0
    go_wp2_with fail
    go_loopw [3, 4] (fun sv iv wr => ∃ (k : Nat) (acc : List UInt8), k ≤ n ∧ iv = .int .i64 k ∧ sv = .string ⟨acc.toArray⟩ ∧ acc.length ≤ 22 + k * 131 ∧ Hid (acc = 35 :: (a0 ++ fmtRows R k)) ∧ Hid (Kept w wr [(⟨w.heap.size, 0, none⟩, .int .i64 id), (⟨w.heap.size, 1, none⟩, .slice ao n cap)])) (fun _ iv _ => n - (intOf iv).toNat)
    case atStart => exact ⟨0, 35 :: a0, Nat.zero_le _, rfl, congrArg Value.string (by apply ByteArray.ext; simp), by simp only [List.length_cons]; omega, by show _ = 35 :: (a0 ++ []); rw [List.append_nil], K2⟩
    case round =>
      obtain ⟨k, acc, hk, rfl, rfl, hlen, HA, HK⟩ := hrel
      have b0 := HK.out.get 0 rfl
      have b1 := HK.out.get 1 rfl
      by_cases hlt : k < n
      · have hkI : (k : Int) < (n : Int) := by omega
        obtain ⟨g, rfl, hg, hR⟩ : ∃ g, ao = some ⟨g, 0, none⟩ ∧ g < w.heap.size ∧ ∀ k, k < n → RowIn w g k (R k) := HV.out.resolve_left (by omega)
        have HR := Lib.hid hR
        clear hR
        obtain ⟨c0, c1, c2, c3, c4⟩ := (HR.out k hlt).below HK.out.1 hg
        have D2 := fun w => spec_fr (R k).i (R k).g (R k).y (R k).x (R k).nl w
        have lf := fmtR_len (i := (R k).i) (g := (R k).g) (y := (R k).y) (x := (R k).x) (nl := (R k).nl)
        obtain ⟨f, hf⟩ : ∃ f, f = fmtR (R k).i (R k).g (R k).y (R k).x (R k).nl := ⟨_, rfl⟩
        rw [← hf] at D2 lf
        have DD2 := Lib.hid D2
        have HF := Lib.hid hf
        have s1 : ¬ 9223372036854775807 < acc.length + 1 := by omega
        have s2 : ¬ 9223372036854775807 < acc.length + 1 + f.length := by omega
        clear D2 hf
        go_wp2_with fail
        refine (DD2.out _).mono ?_
        rintro e w3 ⟨rfl, hb⟩
        have K3 := Lib.hid (HK.out.step hb)
        clear hb b0 b1 c0 c1 c2 c3 c4
        go_wp2
        go_roundw
        case rel => exact ⟨k + 1, acc ++ 32 :: f, by omega, by go_num, by rw [← cat_space], by simp only [List.length_append, List.length_cons]; omega, by show _ = 35 :: (a0 ++ (fmtRows R k ++ 32 :: (R k).fmt)); rw [HA.out, HF.out]; simp [Rw.fmt], K3.out⟩
        case measure => simp [intOf]; omega
      · obtain rfl : k = n := by omega
        have hsd : decide ((k : Int) < (k : Int)) = false := decide_eq_false (by omega)
        go_wp2
        go_ret
        exact ⟨by rw [← HA.out]; rfl, HK.out.1⟩

theorem spec_fb (id : Int) (g n cap : Nat) (R : Nat → Rw) (w : World) (hn : n ≤ 1048576) (hg : g < w.heap.size) (hR : ∀ k, k < n → RowIn w g k (R k)) :
    Calls Tryd.prog 7 #[.agg #[.int .i64 id, .slice (some ⟨g, 0, none⟩) n cap]] w fun e w' => e = .returned (.string ⟨(fmtB id n R).toArray⟩) ∧ Below w.heap.size w w' :=
  spec_fbV id _ n cap R w hn (.inr ⟨g, rfl, hg, hR⟩)
end Go.Proofs.YtcfcohnkkgickaaDoor
