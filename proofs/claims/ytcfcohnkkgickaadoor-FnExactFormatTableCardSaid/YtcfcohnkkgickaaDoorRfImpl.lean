/-
  The walks over the project's FormatRow and what it calls.
-/
import Derived.Test.YtcfcohnkkgickaaDoorRows
import Derived.Test.YtcfcohnkkgickaaDoorRvImpl
import Derived.Test.YtcfcohnkkgickaaDoorRfSpec
import Derived.Test.YtcfcohnkkgickaaDoorItoaKit
namespace Go.Proofs.YtcfcohnkkgickaaDoor
open Go.RowKit Num

theorem s5_start {W w : World} {a0 a1 a2 a3 a4 : Addr} {v0 v1 v2 v3 v4 : Value} {l : List (Addr × Value)} (h : Kept W w ((a0, v0) :: (a1, v1) :: (a2, v2) :: (a3, v3) :: (a4, v4) :: l)) :
    w.drew.cell? a0 = some v0 ∧ w.drew.cell? a1 = some v1 ∧ w.drew.cell? a2 = some v2 ∧ w.drew.cell? a3 = some v3 ∧ w.drew.cell? a4 = some v4 ∧ Kept W w.drew ((a0, v0) :: (a1, v1) :: (a2, v2) :: (a3, v3) :: (a4, v4) :: l) :=
  ⟨h.drew.get 0 rfl, h.drew.get 1 rfl, h.drew.get 2 rfl, h.drew.get 3 rfl, h.drew.get 4 rfl, h.drew⟩
theorem s5_keep {W w w1 : World} {a0 a1 a2 a3 a4 : Addr} {v0 v1 v2 v3 v4 : Value} {l : List (Addr × Value)} (h : w.cell? a0 = some v0 ∧ w.cell? a1 = some v1 ∧ w.cell? a2 = some v2 ∧ w.cell? a3 = some v3 ∧ w.cell? a4 = some v4 ∧ Kept W w ((a0, v0) :: (a1, v1) :: (a2, v2) :: (a3, v3) :: (a4, v4) :: l)) (hb : Below w.heap.size w w1) :
    w1.cell? a0 = some v0 ∧ w1.cell? a1 = some v1 ∧ w1.cell? a2 = some v2 ∧ w1.cell? a3 = some v3 ∧ w1.cell? a4 = some v4 ∧ Kept W w1 ((a0, v0) :: (a1, v1) :: (a2, v2) :: (a3, v3) :: (a4, v4) :: l) :=
  have k := h.2.2.2.2.2.step hb
  ⟨k.get 0 rfl, k.get 1 rfl, k.get 2 rfl, k.get 3 rfl, k.get 4 rfl, k⟩
theorem pow_s5 {W w : World} {a0 a1 a2 a3 a4 : Addr} {v0 v1 v2 v3 v4 : Value} {l : List (Addr × Value)} (ht : PowTab W) (h : w.cell? a0 = some v0 ∧ w.cell? a1 = some v1 ∧ w.cell? a2 = some v2 ∧ w.cell? a3 = some v3 ∧ w.cell? a4 = some v4 ∧ Kept W w ((a0, v0) :: (a1, v1) :: (a2, v2) :: (a3, v3) :: (a4, v4) :: l)) : PowTab w :=
  ht.below h.2.2.2.2.2.1 (Nat.le_refl _)

theorem meth_pf (d : Nat) (x : Int) (w : World) : (method (d + 1) 98 (.int .i64 x) "loop.example/g01927/impl.format").run Tryd.prog w = .ok (104, .int .i64 x) w := by kernel_rfl
theorem meth_mf (d : Nat) (x : Int) (w : World) : (method (d + 1) 97 (.int .i64 x) "loop.example/g01927/impl.format").run Tryd.prog w = .ok (101, .int .i64 x) w := by kernel_rfl

theorem impl_pform (x : Int) (w : World) (h0 : -9223372036854775808 ≤ x) (h1 : x ≤ 9223372036854775807) (ht : PowTab w) :
    Calls Tryd.prog 104 #[.int .i64 x] w fun e w' => e = .returned (.string ⟨(Lib.itoa x).toArray⟩) ∧ Below w.heap.size w w' := by
  have F := Lib.hid (impl_fi x w h0 h1 ht)
  clear ht
  go_enter Tryd.func104, Tryd.ntmps104
  go_wp2_with fail
  refine F.out.mono ?_
  rintro e w1 ⟨rfl, hb⟩
  go_wp2
  go_ret
  exact ⟨rfl, hb⟩

theorem impl_mform (x : Int) (w : World) :
    Calls Tryd.prog 101 #[.int .i64 x] w fun e w' => e = .returned (.string ⟨nullW.toArray⟩) ∧ Below w.heap.size w w' := by
  go_enter Tryd.func101, Tryd.ntmps101
  go_wp2
  go_ret
  exact ⟨rfl, Below.refl _ _⟩

set_option maxRecDepth 8000 in
set_option maxHeartbeats 6400000 in
theorem impl_fr (i g y x : Int) (nl : Bool) (w : World) (ht : PowTab w) :
    Calls Tryd.prog 29 #[.agg #[.int .i64 i, .int .i64 g, .int .i64 y, .int .i64 x, .bool nl]] w fun r9 w' => r9 = .returned (.string ⟨(fmtR i g y x nl).toArray⟩) ∧ Below w.heap.size w w' := by
  have HT : Hid (PowTab w) := ht
  clear ht
  have D1 := fun w => impl_rv i g y x nl w
  cases hq : rowB i g y x nl
  · rw [fmtR_no hq]
    rw [hq] at D1
    have DD1 := Lib.hid D1
    clear D1 hq
    go_enter Tryd.func29, Tryd.ntmps29
    go_wp2_with fail
    have K0 := (Kept.start w).alloc5 (.int .i64 i) (.int .i64 g) (.int .i64 y) (.int .i64 x) (.bool nl) 58 _ rfl
    refine (DD1.out _).mono ?_
    rintro r9 w1 ⟨rfl, hb⟩
    have K1 := K0.step hb
    clear hb K0
    go_wp2
    go_ret
    exact ⟨rfl, K1.1⟩
  · obtain ⟨b1, b2, b3, b4, b5⟩ := rowB_of hq
    rw [fmtR_yes hq]
    rw [hq] at D1
    have DI := fun w ht => impl_fi i w (by omega) (by omega) ht
    have DG := fun w ht => impl_fi g w (by omega) (by omega) ht
    have DY := fun w ht => impl_fi y w (by omega) (by omega) ht
    have DX := fun w ht => impl_pform x w (by omega) (by omega) ht
    have li := Lib.itoa_length_le i (by omega) (by omega)
    have lg := Lib.itoa_length_le g (by omega) (by omega)
    have ly := Lib.itoa_length_le y (by omega) (by omega)
    have lx := Lib.itoa_length_le x (by omega) (by omega)
    have XN := Lib.hid (show xT x true = nullW from rfl)
    have XF := Lib.hid (show xT x false = Lib.itoa x from rfl)
    obtain ⟨a, ha⟩ : ∃ a, a = Lib.itoa i := ⟨_, rfl⟩
    obtain ⟨b, hb0⟩ : ∃ b, b = Lib.itoa g := ⟨_, rfl⟩
    obtain ⟨c, hc⟩ : ∃ c, c = Lib.itoa y := ⟨_, rfl⟩
    obtain ⟨d, hd⟩ : ∃ d, d = Lib.itoa x := ⟨_, rfl⟩
    have hnl : nullW.length = 4 := rfl
    have DM := fun w => impl_mform x w
    obtain ⟨nw, hnw⟩ : ∃ nw, nw = nullW := ⟨_, rfl⟩
    rw [← hnw] at DM XN hnl
    rw [← ha] at DI li
    rw [← hb0] at DG lg
    rw [← hc] at DY ly
    rw [← hd] at DX lx XF
    rw [← ha, ← hb0, ← hc]
    have DD1 := Lib.hid D1
    have DDI := Lib.hid DI
    have DDG := Lib.hid DG
    have DDY := Lib.hid DY
    have DDX := Lib.hid DX
    have DDM := Lib.hid DM
    have P1 := meth_pf
    have P2 := meth_mf
    have s1 : ¬ 9223372036854775807 < a.length + 1 := by omega
    have s2 : ¬ 9223372036854775807 < a.length + 1 + b.length := by omega
    have s3 : ¬ 9223372036854775807 < a.length + 1 + b.length + 1 := by omega
    have s4 : ¬ 9223372036854775807 < a.length + 1 + b.length + 1 + c.length := by omega
    have s5 : ¬ 9223372036854775807 < a.length + 1 + b.length + 1 + c.length + 1 := by omega
    have s6 : ¬ 9223372036854775807 < a.length + 1 + b.length + 1 + c.length + 1 + nw.length := by omega
    have s7 : ¬ 9223372036854775807 < a.length + 1 + b.length + 1 + c.length + 1 + d.length := by omega
    clear D1 DI DG DY DX DM ha hb0 hc hd hq b1 b2 b3 b4 b5 li lg ly lx hnl hnw
    cases nl
    · have D0 := fun w => impl_val i g y x false w
      have DV : Hid (∀ w, Calls Tryd.prog 51 #[.agg #[.int .i64 i, .int .i64 g, .int .i64 y, .int .i64 x, .bool false]] w fun e w' => e = .returned (.iface 98 (.int .i64 x)) ∧ Below w.heap.size w w') := D0
      clear D0 P2
      go_enter Tryd.func29, Tryd.ntmps29
      go_wp2_with fail
      have K0 := (Kept.start w).alloc5 (.int .i64 i) (.int .i64 g) (.int .i64 y) (.int .i64 x) (.bool false) 58 _ rfl
      refine (DD1.out _).mono ?_
      rintro r9 w1 ⟨rfl, hb⟩
      have K1 := K0.step hb
      clear hb K0
      go_wp2_with fail
      go_region_held3 (fun w' => w'.cell? ⟨w.heap.size, 0, none⟩ = some (.int .i64 i) ∧ w'.cell? ⟨w.heap.size, 1, none⟩ = some (.int .i64 g) ∧ w'.cell? ⟨w.heap.size, 2, none⟩ = some (.int .i64 y) ∧ w'.cell? ⟨w.heap.size, 3, none⟩ = some (.int .i64 x) ∧ w'.cell? ⟨w.heap.size, 4, none⟩ = some (.bool false) ∧ Kept w w' [(⟨w.heap.size, 0, none⟩, .int .i64 i), (⟨w.heap.size, 1, none⟩, .int .i64 g), (⟨w.heap.size, 2, none⟩, .int .i64 y), (⟨w.heap.size, 3, none⟩, .int .i64 x), (⟨w.heap.size, 4, none⟩, .bool false)]) (first | exact s5_start K1 | exact s5_keep (by assumption) (by assumption)) (first | (go_simp; go_at_call 41; (with_reducible refine (DDI.out _ ?_).mono ?_); (first | exact pow_s5 HT.out (by assumption) | exact pow_s5 HT.out (s5_start K1)); rintro r w3 ⟨rfl, hb⟩) | (go_simp; go_at_call 41; (with_reducible refine (DDG.out _ ?_).mono ?_); (first | exact pow_s5 HT.out (by assumption) | exact pow_s5 HT.out (s5_start K1)); rintro r w3 ⟨rfl, hb⟩) | (go_simp; go_at_call 41; (with_reducible refine (DDY.out _ ?_).mono ?_); (first | exact pow_s5 HT.out (by assumption) | exact pow_s5 HT.out (s5_start K1)); rintro r w3 ⟨rfl, hb⟩) | (go_simp; go_at_call 51; (with_reducible refine (DV.out _).mono ?_); rintro r w3 ⟨rfl, hb⟩) | (go_simp; go_at_call 104; (with_reducible refine (DDX.out _ ?_).mono ?_); (first | exact pow_s5 HT.out (by assumption) | exact pow_s5 HT.out (s5_start K1)); rintro r w3 ⟨rfl, hb⟩))
      all_goals
        have K2 := ‹_ ∧ _ ∧ _ ∧ _ ∧ _ ∧ Kept w w3 _›.2.2.2.2.2
        go_wp2
        go_ret
        exact ⟨by rw [XF.out, ← cat_row]; rfl, K2.1⟩
    · have D0 := fun w => impl_val i g y x true w
      have DV : Hid (∀ w, Calls Tryd.prog 51 #[.agg #[.int .i64 i, .int .i64 g, .int .i64 y, .int .i64 x, .bool true]] w fun e w' => e = .returned (.iface 97 (.int .i64 x)) ∧ Below w.heap.size w w') := D0
      clear D0 P1
      go_enter Tryd.func29, Tryd.ntmps29
      go_wp2_with fail
      have K0 := (Kept.start w).alloc5 (.int .i64 i) (.int .i64 g) (.int .i64 y) (.int .i64 x) (.bool true) 58 _ rfl
      refine (DD1.out _).mono ?_
      rintro r9 w1 ⟨rfl, hb⟩
      have K1 := K0.step hb
      clear hb K0
      go_wp2_with fail
      go_region_held3 (fun w' => w'.cell? ⟨w.heap.size, 0, none⟩ = some (.int .i64 i) ∧ w'.cell? ⟨w.heap.size, 1, none⟩ = some (.int .i64 g) ∧ w'.cell? ⟨w.heap.size, 2, none⟩ = some (.int .i64 y) ∧ w'.cell? ⟨w.heap.size, 3, none⟩ = some (.int .i64 x) ∧ w'.cell? ⟨w.heap.size, 4, none⟩ = some (.bool true) ∧ Kept w w' [(⟨w.heap.size, 0, none⟩, .int .i64 i), (⟨w.heap.size, 1, none⟩, .int .i64 g), (⟨w.heap.size, 2, none⟩, .int .i64 y), (⟨w.heap.size, 3, none⟩, .int .i64 x), (⟨w.heap.size, 4, none⟩, .bool true)]) (first | exact s5_start K1 | exact s5_keep (by assumption) (by assumption)) (first | (go_simp; go_at_call 41; (with_reducible refine (DDI.out _ ?_).mono ?_); (first | exact pow_s5 HT.out (by assumption) | exact pow_s5 HT.out (s5_start K1)); rintro r w3 ⟨rfl, hb⟩) | (go_simp; go_at_call 41; (with_reducible refine (DDG.out _ ?_).mono ?_); (first | exact pow_s5 HT.out (by assumption) | exact pow_s5 HT.out (s5_start K1)); rintro r w3 ⟨rfl, hb⟩) | (go_simp; go_at_call 41; (with_reducible refine (DDY.out _ ?_).mono ?_); (first | exact pow_s5 HT.out (by assumption) | exact pow_s5 HT.out (s5_start K1)); rintro r w3 ⟨rfl, hb⟩) | (go_simp; go_at_call 51; (with_reducible refine (DV.out _).mono ?_); rintro r w3 ⟨rfl, hb⟩) | (go_simp; go_at_call 101; (with_reducible refine (DDM.out _).mono ?_); rintro r w3 ⟨rfl, hb⟩))
      all_goals
        have K2 := ‹_ ∧ _ ∧ _ ∧ _ ∧ _ ∧ Kept w w3 _›.2.2.2.2.2
        go_wp2
        go_ret
        exact ⟨by rw [XN.out, ← cat_row]; rfl, K2.1⟩
end Go.Proofs.YtcfcohnkkgickaaDoor
