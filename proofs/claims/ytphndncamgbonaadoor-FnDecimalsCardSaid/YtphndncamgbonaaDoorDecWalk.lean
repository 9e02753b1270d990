/-
  The walk over FnDecimals, behind its test of length.
-/
import Derived.Test.YtphndncamgbonaaDoorRows
import Derived.Test.YtphndncamgbonaaDoorDrawBig
import Derived.Test.YtphndncamgbonaaDoorDrawDec
import Derived.Test.YtphndncamgbonaaDoorDgWalk
import Derived.Test.YtphndncamgbonaaDoorDdSpec
import Derived.Test.YtphndncamgbonaaDoorDdImpl
import Derived.Test.YtphndncamgbonaaDoorHeld
import Derived.WalkKit
import Derived.WalkSpells
import Derived.WalkLawsBesides
import Derived.IntWalk
import Derived.Lib.Hide
namespace Go.Proofs.YtphndncamgbonaaDoor
open Go.RowKit Num

theorem body_len {p u : Nat} (hp : p ≤ 7) (hu : (u : Int) ≤ 9223372036854775807) : (body p (Lib.decDigits u)).length ≤ 60 := by
  obtain ⟨l1, l2⟩ := dig_len u hu
  have := padZ_len (p + 1) (Lib.decDigits u)
  unfold body
  split
  · omega
  · simp; omega

theorem decF_len {m : Int} {p : Nat} (hp : p ≤ 7) (hm : m.natAbs ≤ 1000000000000000000) : (decF m p).length ≤ 61 := by
  have := body_len (p := p) (u := m.natAbs) hp (by omega)
  unfold decF
  split <;> simp <;> omega

/-- What the project's two functions answer at what was drawn. -/
structure DecC (x y p : Int) (sd su : ByteArray) : Prop where
  dd : ∀ (w : World), PowTab w → Calls Tryd.prog 16 #[.agg #[.int .i64 x, .int .i64 y], .int .i64 p] w fun e w' => e = .returned (.string sd) ∧ Below w.heap.size w w'
  du : ∀ (w : World), PowTab w → Calls Tryd.prog 18 #[.agg #[.int .i64 x, .int .i64 y], .int .i64 p] w fun e w' => e = .returned (.string su) ∧ Below w.heap.size w w'
  sdd : ∀ (w : World), Calls Tryd.prog 15 #[.agg #[.int .i64 x, .int .i64 y], .int .i64 p] w fun e w' => e = .returned (.string sd) ∧ Below w.heap.size w w'
  sdu : ∀ (w : World), Calls Tryd.prog 17 #[.agg #[.int .i64 x, .int .i64 y], .int .i64 p] w fun e w' => e = .returned (.string su) ∧ Below w.heap.size w w'
  isf : ∀ (w : World), Calls Tryd.prog 29 #[.agg #[.int .i64 x, .int .i64 y]] w fun e w' => e = .returned (.bool (frB x y)) ∧ Below w.heap.size w w'

theorem decC (x y p : Int) (hx : IsI64 x) : DecC x y p ⟨(ddF x y p).toArray⟩ ⟨(duF x y p).toArray⟩ :=
  ⟨fun w ht => impl_dd x y p w ht, fun w ht => impl_du x y p w ht, fun w => spec_dd x y p w hx, fun w => spec_du x y p w hx, fun w => spec_isf x y w hx.1 hx.2⟩


set_option maxRecDepth 100000 in
set_option maxHeartbeats 8000000 in
theorem dec_walk (ao : Option Addr) (n cap : Nat) (w : World) (hr : Rd w w.heap.size ao n) (ht : PowTab w) :
    Calls Tryd.prog 8 #[.slice ao n cap] w fun e w' => e = .returned (.bool true) ∧ Below w.heap.size w w' := by
  have DR := Lib.hid (fun hB => drawDd w.heap.size ao n cap w hr hB)
  have HT : Hid (PowTab w) := ht
  have hn := hr.1
  clear ht hr
  go_enter Tryd.func8, Tryd.ntmps8
  go_wp2_with fail
  refine (big_no ao n cap _ hn).mono ?_
  rintro e w1 ⟨rfl, rfl⟩
  go_wp2_with fail
  refine (DR.out (Nat.le_refl _)).mono ?_
  rintro e w1 ⟨x, y, p, hx, hy, ⟨hp1, hp2⟩, rfl, _, hb⟩
  have K1 := ((Kept.start w).step hb).alloc2 (.int .i64 x) (.int .i64 y) 25 _ rfl
  have C0 := decC x y p hx
  have hx1 := hx.1
  have hx2 := hx.2
  have hy1 := hy.1
  have hy2 := hy.2
  clear hb hx hy DR
  by_cases hbad : frB x y = false ∨ p < 0 ∨ 6 < p
  · have e1 : ddF x y p = [] := by rcases hbad with h | h; exact ddF_no1 h; exact ddF_no2 h
    have e2 : duF x y p = [] := by rcases hbad with h | h; exact duF_no1 h; exact duF_no2 h
    rw [e1, e2] at C0
    have IS0 := C0.isf
    have CC := Lib.hid C0
    clear C0 e1 e2
    cases hf : frB x y
    · rw [hf] at IS0
      have ISF := Lib.hid IS0
      clear IS0 hf hbad
      have k0 := K1.get 0 rfl
      have k1 := K1.get 1 rfl
      go_wp2_with fail
      refine (CC.out.dd _ (HT.out.below K1.1 (Nat.le_refl _))).mono ?_
      rintro e w2 ⟨rfl, hb⟩
      have K2 := K1.step hb
      clear hb K1 k0 k1
      have k0 := K2.get 0 rfl
      have k1 := K2.get 1 rfl
      go_wp2_with fail
      refine (CC.out.du _ (HT.out.below K2.1 (Nat.le_refl _))).mono ?_
      rintro e w3 ⟨rfl, hb⟩
      have K3 := K2.step hb
      clear hb K2 k0 k1
      have k0 := K3.get 0 rfl
      have k1 := K3.get 1 rfl
      go_wp2_with fail
      refine (CC.out.sdd _).mono ?_
      rintro e w4 ⟨rfl, hb⟩
      have K4 := K3.step hb
      clear hb K3 k0 k1
      have k0 := K4.get 0 rfl
      have k1 := K4.get 1 rfl
      go_wp2_with fail
      refine (CC.out.sdu _).mono ?_
      rintro e w5 ⟨rfl, hb⟩
      have K5 := K4.step hb
      clear hb K4 k0 k1
      have k0 := K5.get 0 rfl
      have k1 := K5.get 1 rfl
      go_wp2_with fail
      refine (ISF.out _).mono ?_
      rintro e w6 ⟨rfl, hb⟩
      have K6 := K5.step hb
      clear hb K5 k0 k1
      have k0 := K6.get 0 rfl
      have k1 := K6.get 1 rfl
      go_wp2
      go_ret
      exact ⟨rfl, K6.1⟩
    · have hpp : p < 0 ∨ 6 < p := by rcases hbad with h | h; rw [hf] at h; cases h; exact h
      rw [hf] at IS0
      have ISF := Lib.hid IS0
      clear IS0 hf hbad
      rcases hpp with hpp | hpp
      · have hp3 : p < 0 := hpp
        have k0 := K1.get 0 rfl
        have k1 := K1.get 1 rfl
        go_wp2_with fail
        refine (CC.out.dd _ (HT.out.below K1.1 (Nat.le_refl _))).mono ?_
        rintro e w2 ⟨rfl, hb⟩
        have K2 := K1.step hb
        clear hb K1 k0 k1
        have k0 := K2.get 0 rfl
        have k1 := K2.get 1 rfl
        go_wp2_with fail
        refine (CC.out.du _ (HT.out.below K2.1 (Nat.le_refl _))).mono ?_
        rintro e w3 ⟨rfl, hb⟩
        have K3 := K2.step hb
        clear hb K2 k0 k1
        have k0 := K3.get 0 rfl
        have k1 := K3.get 1 rfl
        go_wp2_with fail
        refine (CC.out.sdd _).mono ?_
        rintro e w4 ⟨rfl, hb⟩
        have K4 := K3.step hb
        clear hb K3 k0 k1
        have k0 := K4.get 0 rfl
        have k1 := K4.get 1 rfl
        go_wp2_with fail
        refine (CC.out.sdu _).mono ?_
        rintro e w5 ⟨rfl, hb⟩
        have K5 := K4.step hb
        clear hb K4 k0 k1
        have k0 := K5.get 0 rfl
        have k1 := K5.get 1 rfl
        go_wp2_with fail
        refine (ISF.out _).mono ?_
        rintro e w6 ⟨rfl, hb⟩
        have K6 := K5.step hb
        clear hb K5 k0 k1
        have k0 := K6.get 0 rfl
        have k1 := K6.get 1 rfl
        go_wp2
        go_ret
        exact ⟨rfl, K6.1⟩
      · have hp3 : ¬ p < 0 := by omega
        have hp4 : decide (p < 0) = false := decide_eq_false hp3
        have k0 := K1.get 0 rfl
        have k1 := K1.get 1 rfl
        go_wp2_with fail
        refine (CC.out.dd _ (HT.out.below K1.1 (Nat.le_refl _))).mono ?_
        rintro e w2 ⟨rfl, hb⟩
        have K2 := K1.step hb
        clear hb K1 k0 k1
        have k0 := K2.get 0 rfl
        have k1 := K2.get 1 rfl
        go_wp2_with fail
        refine (CC.out.du _ (HT.out.below K2.1 (Nat.le_refl _))).mono ?_
        rintro e w3 ⟨rfl, hb⟩
        have K3 := K2.step hb
        clear hb K2 k0 k1
        have k0 := K3.get 0 rfl
        have k1 := K3.get 1 rfl
        go_wp2_with fail
        refine (CC.out.sdd _).mono ?_
        rintro e w4 ⟨rfl, hb⟩
        have K4 := K3.step hb
        clear hb K3 k0 k1
        have k0 := K4.get 0 rfl
        have k1 := K4.get 1 rfl
        go_wp2_with fail
        refine (CC.out.sdu _).mono ?_
        rintro e w5 ⟨rfl, hb⟩
        have K5 := K4.step hb
        clear hb K4 k0 k1
        have k0 := K5.get 0 rfl
        have k1 := K5.get 1 rfl
        go_wp2_with fail
        refine (ISF.out _).mono ?_
        rintro e w6 ⟨rfl, hb⟩
        have K6 := K5.step hb
        clear hb K5 k0 k1
        have k0 := K6.get 0 rfl
        have k1 := K6.get 1 rfl
        go_wp2
        go_ret
        exact ⟨rfl, K6.1⟩
  · have hf : frB x y = true := by cases h : frB x y; exact absurd (Or.inl h) hbad; rfl
    have hp3 : decide (p < 0) = false := decide_eq_false (fun h => hbad (.inr (.inl h)))
    have hp4 : decide (6 < p) = false := decide_eq_false (fun h => hbad (.inr (.inr h)))
    obtain ⟨k, rfl⟩ := Int.eq_ofNat_of_zero_le (show 0 ≤ p by omega)
    have hk : k ≤ 6 := by omega
    have hkI : (k : Int) ≤ 6 := by omega
    obtain ⟨⟨n1, n2, d1, d2⟩, _⟩ := frB_of hf
    have e1 := ddF_yes (n := x) (d := y) hf hk
    have e2 := duF_yes (n := x) (d := y) hf hk
    unfold downF at e1
    unfold upF at e2
    obtain ⟨f1, f2⟩ := p10_bd hk
    have M0 := mul_pw (n := x) (f := p10 k) (by omega) (by omega) f2
    have E2 := encl2 (a := x * (p10 k : Int)) (d := y) (by omega)
    have EN := encl (a := x * (p10 k : Int)) (d := y) (by omega)
    have ee : -x * (p10 k : Int) = -(x * (p10 k : Int)) := Int.neg_mul _ _
    rw [ee] at e2
    have IS0 := C0.isf
    rw [e1, e2] at C0
    rw [hf] at IS0
    have m1 := fl_bd (a := x * (p10 k : Int)) (b := y) (by omega)
    have m2 := fl_bd (a := -(x * (p10 k : Int))) (b := y) (by omega)
    have PB : Hid (∀ j, j ≤ k → p10 j ≤ 1000000) := fun j hj => (p10_bd (by omega)).2
    have P0 : Hid (p10 0 = 1) := p10_zero
    have HPK : Hid (p10 k = p10 k) := rfl
    obtain ⟨P, hP⟩ : ∃ P, x * (p10 k : Int) = P := ⟨_, rfl⟩
    rw [hP] at M0 EN C0 m1 m2 E2
    obtain ⟨Q, hQ⟩ : ∃ Q, Q = P / y := ⟨_, rfl⟩
    obtain ⟨R, hR⟩ : ∃ R, R = -(-P / y) := ⟨_, rfl⟩
    rw [← hQ, ← hR] at EN C0 E2
    rw [← hQ] at m1
    have m3 : R.natAbs ≤ P.natAbs + 1 := by rw [hR]; omega
    have g1 := dg_dec (m := Q) (p := k) (by omega)
    have g2 := dg_dec (m := R) (p := k) (by omega)
    have l1 := decF_len (m := Q) (p := k) (by omega) (by omega)
    have l2 := decF_len (m := R) (p := k) (by omega) (by omega)
    obtain ⟨sa, hsa⟩ : ∃ sa, sa = decF Q k := ⟨_, rfl⟩
    obtain ⟨sb, hsb⟩ : ∃ sb, sb = decF R k := ⟨_, rfl⟩
    rw [← hsa] at C0 g1 l1
    rw [← hsb] at C0 g2 l2
    have D1 := fun w => law_dg ⟨sa.toArray⟩ w (by show sa.toArray.size ≤ _; simp; omega)
    have D2 := fun w => law_dg ⟨sb.toArray⟩ w (by show sb.toArray.size ≤ _; simp; omega)
    rw [show (⟨sa.toArray⟩ : ByteArray).data.toList = sa from by simp, g1] at D1
    rw [show (⟨sb.toArray⟩ : ByteArray).data.toList = sb from by simp, g2] at D2
    obtain ⟨v1, v2, v3, v4⟩ := EN
    obtain ⟨A1, hA1⟩ : ∃ A1, Q * y = A1 := ⟨_, rfl⟩
    obtain ⟨A2, hA2⟩ : ∃ A2, R * y = A2 := ⟨_, rfl⟩
    obtain ⟨u1, u2⟩ := E2
    rw [hA1] at v1 u1
    rw [hA2] at v2 u2
    have b1 : -2000000000000000 ≤ A1 := by omega
    have b2 : A1 ≤ 2000000000000000 := by omega
    have b3 : -2000000000000000 ≤ A2 := by omega
    have b4 : A2 ≤ 2000000000000000 := by omega
    have b5 : -2000000000000000 ≤ P := by omega
    have b6 : P ≤ 2000000000000000 := by omega
    have b7 : -2000000000000000 ≤ Q := by omega
    have b8 : Q ≤ 2000000000000000 := by omega
    have b9 : -2000000000000000 ≤ R := by omega
    have b10 : R ≤ 2000000000000000 := by omega
    have y0 : ¬ y = 0 := by omega
    obtain ⟨bq, t1, t2⟩ : ∃ bq : Bool, (R == Q) = bq ∧ (P.tmod y == 0) = bq := by
      by_cases h : R = Q
      · exact ⟨true, by rw [h]; simp, by rw [v4.1 h]; rfl⟩
      · exact ⟨false, beq_eq_false_iff_ne.2 h, beq_eq_false_iff_ne.2 (fun e => h (v4.2 e))⟩
    have CC := Lib.hid C0
    have ISF := Lib.hid IS0
    have DA := Lib.hid D1
    have DB := Lib.hid D2
    have HPP := Lib.hid hP
    have HA1 := Lib.hid hA1
    have HA2 := Lib.hid hA2
    clear C0 IS0 D1 D2 e1 e2 ee hQ hR g1 g2 hsa hsb M0 m1 m2 m3 v4 hbad hf u1 u2 P0 HPK hP hA1 hA2
    have k0 := K1.get 0 rfl
    have k1 := K1.get 1 rfl
    go_wp2_with fail
    refine (CC.out.dd _ (HT.out.below K1.1 (Nat.le_refl _))).mono ?_
    rintro e w2 ⟨rfl, hb⟩
    have K2 := K1.step hb
    clear hb K1 k0 k1
    have k0 := K2.get 0 rfl
    have k1 := K2.get 1 rfl
    go_wp2_with fail
    refine (CC.out.du _ (HT.out.below K2.1 (Nat.le_refl _))).mono ?_
    rintro e w3 ⟨rfl, hb⟩
    have K3 := K2.step hb
    clear hb K2 k0 k1
    have k0 := K3.get 0 rfl
    have k1 := K3.get 1 rfl
    go_wp2_with fail
    refine (CC.out.sdd _).mono ?_
    rintro e w4 ⟨rfl, hb⟩
    have K4 := K3.step hb
    clear hb K3 k0 k1
    have k0 := K4.get 0 rfl
    have k1 := K4.get 1 rfl
    go_wp2_with fail
    refine (CC.out.sdu _).mono ?_
    rintro e w5 ⟨rfl, hb⟩
    have K5 := K4.step hb
    clear hb K4 k0 k1
    have k0 := K5.get 0 rfl
    have k1 := K5.get 1 rfl
    go_wp2_with fail
    refine (ISF.out _).mono ?_
    rintro e w6 ⟨rfl, hb⟩
    have K6 := K5.step hb
    clear hb K5 k0 k1
    have k0 := K6.get 0 rfl
    have k1 := K6.get 1 rfl
    go_wp2_with fail
    go_loop [7, 8] (fun v i => ∃ j : Nat, j ≤ k ∧ i = .int .i64 j ∧ v = .int .i64 (p10 j : Int)) (fun _ i => k - (intOf i).toNat)
    case atStart => exact ⟨0, Nat.zero_le _, rfl, rfl⟩
    case round =>
      obtain ⟨j, hj, rfl, rfl⟩ := hrel
      have j2 := PB.out j hj
      by_cases hlt : j < k
      · have HS : Hid (p10 (j + 1) = p10 j * 10) := p10_succ j
        go_wp2
        go_round
        case rel => exact ⟨j + 1, by omega, by go_num, by rw [HS.out]; go_num⟩
        case measure => simp [intOf]; omega
      · obtain rfl : j = k := by omega
        go_wp2_with fail
        refine (DA.out _).mono ?_
        rintro e w7 ⟨rfl, hb⟩
        have K7 := K6.step hb
        clear hb K6 k0 k1
        go_wp2_with fail
        refine (DB.out _).mono ?_
        rintro e w8 ⟨rfl, hb⟩
        have K8 := K7.step hb
        clear hb K7
        have k0 := K8.get 0 rfl
        have k1 := K8.get 1 rfl
        obtain ⟨f, hf⟩ : ∃ f, f = p10 j := ⟨_, rfl⟩
        have hP := HPP.out
        have hA1 := HA1.out
        have hA2 := HA2.out
        rw [← hf] at hP
        rw [← hf]
        clear hf j2
        cases bq
        · go_wp2
          go_ret
          exact ⟨rfl, K8.1⟩
        · go_wp2
          go_ret
          exact ⟨rfl, K8.1⟩
end Go.Proofs.YtphndncamgbonaaDoor
