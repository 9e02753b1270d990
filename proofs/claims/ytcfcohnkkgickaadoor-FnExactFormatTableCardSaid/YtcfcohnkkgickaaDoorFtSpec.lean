/-
  The walk over the model's FormatTable.
-/
import Derived.Test.YtcfcohnkkgickaaDoorRows
import Derived.Test.YtcfcohnkkgickaaDoorTvSpec
import Derived.Test.YtcfcohnkkgickaaDoorBfSpec
namespace Go.Proofs.YtcfcohnkkgickaaDoor
open Go.RowKit Num

theorem cat_v (a : List UInt8) : (⟨#[118]⟩ : ByteArray) ++ (⟨a.toArray⟩ : ByteArray) = ⟨(118 :: a).toArray⟩ := by
  apply ByteArray.ext
  simp
theorem cat_semi (a b : List UInt8) : (⟨a.toArray⟩ : ByteArray) ++ (⟨#[59]⟩ : ByteArray) ++ (⟨b.toArray⟩ : ByteArray) = ⟨(a ++ 59 :: b).toArray⟩ := by
  apply ByteArray.ext
  simp

set_option maxRecDepth 8000 in
set_option maxHeartbeats 6400000 in
theorem spec_ft (ver : Int) (ao : Option Addr) (n cap : Nat) (l : List Blk) (w : World) (hl : l.length = n) (hn : n ≤ 1048576) (hr : ∀ k, k < n → (Bn l k).rows.length ≤ 1048576) (hV : BlksVal w ao l) :
    Calls Tryd.prog 12 #[.agg #[.int .i64 ver, .slice ao n cap]] w fun e w' => e = .returned (.string ⟨(fmtT ver l).toArray⟩) ∧ Below w.heap.size w w' := by
  have HV := Lib.hid hV
  have HL := Lib.hid hl
  have HR := Lib.hid hr
  have hln := hl
  clear hV hl hr
  go_enter Tryd.func12, Tryd.ntmps12
  go_wp2_with fail
  have K0 := (Kept.start w).alloc2 (.int .i64 ver) (.slice ao n cap) 40 _ rfl
  refine (spec_tv ver ao n cap l _ HL.out hn HR.out (HV.out.below K0.1)).mono ?_
  rintro e w1 ⟨v, hv, rfl, hb⟩
  have K1 := K0.step hb
  have HTV := Lib.hid hv
  clear hv hb K0
  cases v
  · have NO := Lib.hid (fmtT_no (ver := ver) (l := l) (fun h => absurd (HTV.out.2 (by rw [← hln]; exact h)) (by simp)))
    clear HTV
    go_wp2
    go_ret
    exact ⟨by rw [NO.out]; rfl, K1.1⟩
  · have hTO := HTV.out.1 rfl
    have hv1 := hTO.1
    have h6 := hTO.2.1
    have YE := Lib.hid (show fmtT ver l = 118 :: (Lib.itoa ver ++ fmtBlks l n) from by rw [fmtT_yes (by rw [hln]; exact hTO), hln])
    have DF := Lib.hid (fun w => spec_fi ver w (by omega) (by omega))
    have li := Lib.itoa_length_le ver (by omega) (by omega)
    have hnI : (n : Int) ≤ 6 := by omega
    obtain ⟨a0, ha0⟩ : ∃ a0, a0 = Lib.itoa ver := ⟨_, rfl⟩
    rw [← ha0] at li DF YE
    have hs0 : ¬ 9223372036854775807 < 1 + a0.length := by omega
    have k0 := K1.get 0 rfl
    have k1 := K1.get 1 rfl
    clear HTV hTO hv1 ha0
    go_wp2_with fail
    refine (DF.out _).mono ?_
    rintro e w2 ⟨rfl, hb⟩
    have K2 := K1.step hb
    clear hb K1 k0 k1
    go_wp2_with fail
    go_loopw [3, 4] (fun sv iv wr => ∃ (k : Nat) (acc : List UInt8), k ≤ n ∧ iv = .int .i64 k ∧ sv = .string ⟨acc.toArray⟩ ∧ acc.length ≤ 32 + k * 1001 ∧ Hid (acc = 118 :: (a0 ++ fmtBlks l k)) ∧ Hid (Kept w wr [(⟨w.heap.size, 0, none⟩, .int .i64 ver), (⟨w.heap.size, 1, none⟩, .slice ao n cap)])) (fun _ iv _ => n - (intOf iv).toNat)
    case atStart => exact ⟨0, 118 :: a0, Nat.zero_le _, rfl, congrArg Value.string (by apply ByteArray.ext; simp), by simp only [List.length_cons]; omega, by show _ = 118 :: (a0 ++ []); rw [List.append_nil], K2⟩
    case round =>
      obtain ⟨k, acc, hk, rfl, rfl, hlen, HA, HK⟩ := hrel
      have b1 := HK.out.get 1 rfl
      by_cases hlt : k < n
      · have hkI : (k : Int) < (n : Int) := by omega
        obtain ⟨g, rfl, hg, hBk⟩ := (HV.out.below HK.out.1).head HL.out (by omega)
        obtain ⟨rao, rcap, c0, c1, hRV⟩ := hBk k hlt
        have hrl := HR.out k hlt
        have lf := fmtB_len (id := (Bn l k).id) (n := (Bn l k).rows.length) (R := Rn (Bn l k).rows)
        have D2 := Lib.hid (spec_fbV (Bn l k).id rao (Bn l k).rows.length rcap (Rn (Bn l k).rows) _ hrl hRV)
        have HSU := Lib.hid (show fmtBlks l (k + 1) = fmtBlks l k ++ 59 :: fmtB (Bn l k).id (Bn l k).rows.length (Rn (Bn l k).rows) from rfl)
        obtain ⟨f, hf⟩ : ∃ f, f = fmtB (Bn l k).id (Bn l k).rows.length (Rn (Bn l k).rows) := ⟨_, rfl⟩
        rw [← hf] at D2 lf HSU
        obtain ⟨bk, hbk⟩ : ∃ bk, bk = Bn l k := ⟨_, rfl⟩
        rw [← hbk] at c0 c1 D2
        obtain ⟨m, hm⟩ : ∃ m, m = bk.rows.length := ⟨_, rfl⟩
        rw [← hm] at c1 D2
        have s1 : ¬ 9223372036854775807 < acc.length + 1 := by omega
        have s2 : ¬ 9223372036854775807 < acc.length + 1 + f.length := by omega
        clear hBk hRV hf hbk hm
        go_wp2_with fail
        refine D2.out.mono ?_
        rintro e w3 ⟨rfl, hb⟩
        have K3 := Lib.hid (HK.out.step hb)
        clear hb b1 c0 c1
        go_wp2
        go_roundw
        case rel => exact ⟨k + 1, acc ++ 59 :: f, by omega, by go_num, by rw [← cat_semi], by simp only [List.length_append, List.length_cons]; omega, Lib.hid (by rw [HSU.out, HA.out]; simp), K3⟩
        case measure => simp [intOf]; omega
      · obtain rfl : k = n := by omega
        have hsd : decide ((k : Int) < (k : Int)) = false := decide_eq_false (by omega)
        go_wp2
        go_ret
        exact ⟨by rw [YE.out, ← HA.out]; rfl, HK.out.1⟩
end Go.Proofs.YtcfcohnkkgickaaDoor
