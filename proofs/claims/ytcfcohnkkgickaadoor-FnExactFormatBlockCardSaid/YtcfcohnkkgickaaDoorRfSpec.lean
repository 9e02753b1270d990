/-
  The walk over the model's FormatRow.
-/
import Derived.Test.YtcfcohnkkgickaaDoorRows
import Derived.Test.YtcfcohnkkgickaaDoorRvSpec
import Derived.Test.YtcfcohnkkgickaaDoorFiSpec
import Derived.Test.YtcfcohnkkgickaaDoorPlain
import Derived.Test.YtcfcohnkkgickaaDoorKeep
import Derived.WalkKit
import Derived.WalkSpells
import Derived.WalkLawsBesides
import Derived.IntWalk
import Derived.Lib.Hide
import Derived.Deep.RegionHeld3
namespace Go.Proofs.YtcfcohnkkgickaaDoor
open Go.RowKit Num

theorem cat_row (a b c d : List UInt8) : (⟨a.toArray⟩ : ByteArray) ++ (⟨#[58]⟩ : ByteArray) ++ (⟨b.toArray⟩ : ByteArray) ++ (⟨#[44]⟩ : ByteArray) ++ (⟨c.toArray⟩ : ByteArray) ++ (⟨#[44]⟩ : ByteArray) ++ (⟨d.toArray⟩ : ByteArray) = ⟨(a ++ 58 :: (b ++ 44 :: (c ++ 44 :: d))).toArray⟩ := by
  apply ByteArray.ext
  simp

set_option maxRecDepth 8000 in
set_option maxHeartbeats 6400000 in
theorem spec_fr (i g y x : Int) (nl : Bool) (w : World) :
    Calls Tryd.prog 24 #[.agg #[.int .i64 i, .int .i64 g, .int .i64 y, .int .i64 x, .bool nl]] w fun r9 w' => r9 = .returned (.string ⟨(fmtR i g y x nl).toArray⟩) ∧ Below w.heap.size w w' := by
  have D1 := fun w => spec_rv i g y x nl w
  cases hq : rowB i g y x nl
  · rw [fmtR_no hq]
    rw [hq] at D1
    have DD1 := Lib.hid D1
    clear D1 hq
    go_enter Tryd.func24, Tryd.ntmps24
    go_wp2_with fail
    have K0 := (Kept.start w).alloc5 (.int .i64 i) (.int .i64 g) (.int .i64 y) (.int .i64 x) (.bool nl) 58 _ rfl
    refine (DD1.out _).mono ?_
    rintro r9 w1 ⟨rfl, hb⟩
    have K1 := K0.step hb
    clear hb K0
    go_wp2
    go_ret
    exact ⟨rfl, K1.1⟩
  · obtain ⟨b1, b2, b3, b4, b5⟩ := rowB_of hq
    rw [fmtR_yes hq]
    rw [hq] at D1
    have DI := fun w => spec_fi i w (by omega) (by omega)
    have DG := fun w => spec_fi g w (by omega) (by omega)
    have DY := fun w => spec_fi y w (by omega) (by omega)
    have DX := fun w => spec_fi x w (by omega) (by omega)
    have li := Lib.itoa_length_le i (by omega) (by omega)
    have lg := Lib.itoa_length_le g (by omega) (by omega)
    have ly := Lib.itoa_length_le y (by omega) (by omega)
    have lx := Lib.itoa_length_le x (by omega) (by omega)
    have XN := Lib.hid (show xT x true = nullW from rfl)
    have XF := Lib.hid (show xT x false = Lib.itoa x from rfl)
    obtain ⟨a, ha⟩ : ∃ a, a = Lib.itoa i := ⟨_, rfl⟩
    obtain ⟨b, hb0⟩ : ∃ b, b = Lib.itoa g := ⟨_, rfl⟩
    obtain ⟨c, hc⟩ : ∃ c, c = Lib.itoa y := ⟨_, rfl⟩
    obtain ⟨d, hd⟩ : ∃ d, d = Lib.itoa x := ⟨_, rfl⟩
    rw [← ha] at DI li
    rw [← hb0] at DG lg
    rw [← hc] at DY ly
    rw [← hd] at DX lx XF
    rw [← ha, ← hb0, ← hc]
    have DD1 := Lib.hid D1
    have DDI := Lib.hid DI
    have DDG := Lib.hid DG
    have DDY := Lib.hid DY
    have DDX := Lib.hid DX
    have s1 : ¬ 9223372036854775807 < a.length + 1 := by omega
    have s2 : ¬ 9223372036854775807 < a.length + 1 + b.length := by omega
    have s3 : ¬ 9223372036854775807 < a.length + 1 + b.length + 1 := by omega
    have s4 : ¬ 9223372036854775807 < a.length + 1 + b.length + 1 + c.length := by omega
    have s5 : ¬ 9223372036854775807 < a.length + 1 + b.length + 1 + c.length + 1 := by omega
    have s6 : ¬ 9223372036854775807 < a.length + 1 + b.length + 1 + c.length + 1 + 4 := by omega
    have s7 : ¬ 9223372036854775807 < a.length + 1 + b.length + 1 + c.length + 1 + d.length := by omega
    clear D1 DI DG DY DX ha hb0 hc hd hq b1 b2 b3 b4 b5 li lg ly lx
    go_enter Tryd.func24, Tryd.ntmps24
    go_wp2_with fail
    have K0 := (Kept.start w).alloc5 (.int .i64 i) (.int .i64 g) (.int .i64 y) (.int .i64 x) (.bool nl) 58 _ rfl
    refine (DD1.out _).mono ?_
    rintro r9 w1 ⟨rfl, hb⟩
    have K1 := K0.step hb
    clear hb K0
    go_wp2_with fail
    go_region_held3 (fun w' => w'.cell? ⟨w.heap.size, 0, none⟩ = some (.int .i64 i) ∧ w'.cell? ⟨w.heap.size, 1, none⟩ = some (.int .i64 g) ∧ w'.cell? ⟨w.heap.size, 2, none⟩ = some (.int .i64 y) ∧ w'.cell? ⟨w.heap.size, 3, none⟩ = some (.int .i64 x) ∧ Kept w w' [(⟨w.heap.size, 0, none⟩, .int .i64 i), (⟨w.heap.size, 1, none⟩, .int .i64 g), (⟨w.heap.size, 2, none⟩, .int .i64 y), (⟨w.heap.size, 3, none⟩, .int .i64 x), (⟨w.heap.size, 4, none⟩, .bool nl)]) (first | assumption | exact s4_start K1 | exact s4_keep (by assumption) (by assumption)) (first | (go_simp; go_at_call 23; (with_reducible refine (DDI.out _).mono ?_); rintro e9 w9 ⟨rfl, hb⟩) | (go_simp; go_at_call 23; (with_reducible refine (DDG.out _).mono ?_); rintro e9 w9 ⟨rfl, hb⟩) | (go_simp; go_at_call 23; (with_reducible refine (DDY.out _).mono ?_); rintro e9 w9 ⟨rfl, hb⟩))
    have K2 := ‹_ ∧ _ ∧ _ ∧ _ ∧ Kept w w9 _›.2.2.2.2
    have k3 := K2.get 3 rfl
    have k4 := K2.get 4 rfl
    cases nl
    · go_wp2_with fail
      refine (DDX.out _).mono ?_
      rintro r9 w3 ⟨rfl, hb⟩
      have K3 := K2.step hb
      go_wp2
      go_ret
      exact ⟨by rw [XF.out, ← cat_row]; rfl, K3.1⟩
    · go_wp2
      go_ret
      exact ⟨by rw [XN.out, ← cat_row]; rfl, K2.1⟩
end Go.Proofs.YtcfcohnkkgickaaDoor
