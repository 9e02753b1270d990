/-
  The walk over FnFractions, behind its test of length.
-/
import Derived.Test.YtphndncamgbonaaDoorRows
import Derived.Test.YtphndncamgbonaaDoorDrawBig
import Derived.Test.YtphndncamgbonaaDoorDrawTwo
import Derived.Test.YtphndncamgbonaaDoorFcLaw
import Derived.Test.YtphndncamgbonaaDoorFcSpec
import Derived.Test.YtphndncamgbonaaDoorFcImpl
import Derived.Test.YtphndncamgbonaaDoorFsSpec
import Derived.Test.YtphndncamgbonaaDoorFsImpl
import Derived.Test.YtphndncamgbonaaDoorFmSpec
import Derived.Test.YtphndncamgbonaaDoorFmImpl
import Derived.Test.YtphndncamgbonaaDoorFfWalk
import Derived.Test.YtphndncamgbonaaDoorPfImpl
import Derived.Test.YtphndncamgbonaaDoorHeld
import Derived.WalkKit
import Derived.WalkSpells
import Derived.WalkLawsBesides
import Derived.IntWalk
import Derived.Lib.Hide
namespace Go.Proofs.YtphndncamgbonaaDoor
open Go.RowKit Num

/-- What the functions answer at two fractions: the order n, the difference X / Y (k: there is one), the format s. -/
structure FrC (x y u v n X Y : Int) (k : Bool) (s : ByteArray) : Prop where
  cmp : ∀ w, Calls Tryd.prog 21 #[.agg #[.int .i64 x, .int .i64 y], .agg #[.int .i64 u, .int .i64 v]] w fun r w' => r = .returned (.int .i64 n) ∧ Below w.heap.size w w'
  cmp2 : ∀ w, Calls Tryd.prog 21 #[.agg #[.int .i64 u, .int .i64 v], .agg #[.int .i64 x, .int .i64 y]] w fun r w' => r = .returned (.int .i64 (-n)) ∧ Below w.heap.size w w'
  scmp : ∀ w, Calls Tryd.prog 24 #[.agg #[.int .i64 x, .int .i64 y], .agg #[.int .i64 u, .int .i64 v]] w fun r w' => r = .returned (.int .i64 n) ∧ Below w.heap.size w w'
  sub : ∀ w, Calls Tryd.prog 22 #[.agg #[.int .i64 x, .int .i64 y], .agg #[.int .i64 u, .int .i64 v]] w fun r w' => r = .returned (.tuple #[.agg #[.int .i64 X, .int .i64 Y], .bool k]) ∧ Below w.heap.size w w'
  ssub : ∀ w, Calls Tryd.prog 23 #[.agg #[.int .i64 x, .int .i64 y], .agg #[.int .i64 u, .int .i64 v]] w fun r w' => r = .returned (.tuple #[.agg #[.int .i64 X, .int .i64 Y], .bool k]) ∧ Below w.heap.size w w'
  ff : ∀ w, PowTab w → Calls Tryd.prog 11 #[.agg #[.int .i64 x, .int .i64 y]] w fun e w' => e = .returned (.string s) ∧ Below w.heap.size w w'
  sff : ∀ w, Calls Tryd.prog 9 #[.agg #[.int .i64 x, .int .i64 y]] w fun e w' => e = .returned (.string s) ∧ Below w.heap.size w w'
  isf : ∀ w, Calls Tryd.prog 29 #[.agg #[.int .i64 x, .int .i64 y]] w fun e w' => e = .returned (.bool (frB x y)) ∧ Below w.heap.size w w'
  sgn : k = true → (0 < X ↔ 0 < n) ∧ (X < 0 ↔ n < 0)
  rng : -1 ≤ n ∧ n ≤ 1
  back : ∀ n d ok, PFans s.data.toList n d ok → ok = frB x y ∧ (frB x y = true → n = x ∧ d = y)
  len : s.size ≤ 60

theorem frC (x y u v : Int) (hx : IsI64 x) (hu : IsI64 u) : ∃ n X Y k s, FrC x y u v n X Y k s := by
  have S0 := fun w => spec_sub x y u v w hx hu
  have I0 := impl_sub x y u v
  unfold SubAns at S0 I0
  have e2 := cmpA_neg x y u v
  have C2 := impl_cmp u v x y
  rw [e2] at C2
  cases hk : subB x y u v
  · rw [hk, if_neg (by simp)] at S0 I0
    exact ⟨cmpA x y u v, 0, 0, false, ⟨(fmtF x y).toArray⟩, impl_cmp x y u v, C2, fun w => spec_cmp x y u v w hx hu, I0, S0, fun w ht => impl_ff x y w ht, fun w => spec_ff x y w hx, fun w => spec_isf x y w hx.1 hx.2, (fun h => by cases h), cmpA_rng x y u v, (fun n d ok h => pf_back (by simpa using h)), by have := fmt_bd (n := x) (d := y); show (fmtF x y).toArray.size ≤ _; simpa using this⟩
  · rw [hk, if_pos rfl] at S0 I0
    exact ⟨cmpA x y u v, _, _, true, ⟨(fmtF x y).toArray⟩, impl_cmp x y u v, C2, fun w => spec_cmp x y u v w hx hu, I0, S0, fun w ht => impl_ff x y w ht, fun w => spec_ff x y w hx, fun w => spec_isf x y w hx.1 hx.2, (fun _ => sub_sign hk), cmpA_rng x y u v, (fun n d ok h => pf_back (by simpa using h)), by have := fmt_bd (n := x) (d := y); show (fmtF x y).toArray.size ≤ _; simpa using this⟩

/-- What MakeFrac answers, both of them. -/
structure MkC (a b p q : Int) (j : Bool) : Prop where
  mf : ∀ w, Calls Tryd.prog 26 #[.int .i64 a, .int .i64 b] w fun r w' => r = .returned (.tuple #[.agg #[.int .i64 p, .int .i64 q], .bool j]) ∧ Below w.heap.size w w'
  smk : ∀ w, Calls Tryd.prog 27 #[.int .i64 a, .int .i64 b] w fun r w' => r = .returned (.tuple #[.agg #[.int .i64 p, .int .i64 q], .bool j]) ∧ Below w.heap.size w w'
  isf : j = true → ∀ w, Calls Tryd.prog 28 #[.agg #[.int .i64 p, .int .i64 q]] w fun e w' => e = .returned (.bool true) ∧ Below w.heap.size w w'

theorem mkC (a b : Int) : ∃ p q j, MkC a b p q j := by
  have S0 := spec_mk a b
  have I0 := impl_mk a b
  unfold MkAns at S0 I0
  by_cases h : termB a b = true ∧ limB (rN a b) (rD a b) = true
  · rw [if_pos h] at S0 I0
    have hb : b ≠ 0 := by have := h.1; unfold termB at this; exact (of_decide_eq_true this).1
    have hI := impl_isf (rN a b) (rD a b)
    rw [red_frB hb, h.2] at hI
    exact ⟨_, _, true, I0, S0, fun _ => hI⟩
  · rw [if_neg h] at S0 I0
    exact ⟨0, 0, false, I0, S0, (fun h => by cases h)⟩

set_option maxRecDepth 100000 in
set_option maxHeartbeats 16000000 in
theorem fr_walk (ao : Option Addr) (n cap : Nat) (w : World) (hr : Rd w w.heap.size ao n) (ht : PowTab w) (hm : MaxCell w) :
    Calls Tryd.prog 7 #[.slice ao n cap] w fun e w' => e = .returned (.bool true) ∧ Below w.heap.size w w' := by
  have HR := Lib.hid hr
  have HT : Hid (PowTab w) := ht
  have HM : Hid (MaxCell w) := hm
  have HLT : Hid (0 < w.heap.size) := (show _ < _ by obtain ⟨m, hm⟩ := hm; exact World.block_lt_of_cell? w _ hm)
  have hn := hr.1
  clear ht hr hm
  go_enter Tryd.func7, Tryd.ntmps7
  go_wp2_with fail
  refine (big_no ao n cap _ hn).mono ?_
  rintro e w1 ⟨rfl, rfl⟩
  go_wp2_with fail
  refine (drawTwo w.heap.size ao n cap _ HR.out (Nat.le_refl _)).mono ?_
  rintro e w1 ⟨x, y, u, v, hx, hy, hu, hv, rfl, _, hb⟩
  obtain ⟨c, X, Y, k, s, C0⟩ := frC x y u v hx hu
  have K1 := (((Kept.start w).step hb).alloc2 (.int .i64 x) (.int .i64 y) 25 _ rfl).alloc2 (.int .i64 u) (.int .i64 v) 25 (w1.heap.size + 1) (by simp)
  have CC := Lib.hid C0
  have SG := Lib.hid C0.sgn
  obtain ⟨r1, r2⟩ := C0.rng
  clear hb hx hy hu hv C0
  have kb0 := K1.get 0 rfl
  have kb1 := K1.get 1 rfl
  have ka0 := K1.get 2 rfl
  have ka1 := K1.get 3 rfl
  go_wp2_with fail
  refine (CC.out.cmp _).mono ?_
  rintro e w2 ⟨rfl, hb⟩
  have K2 := K1.step hb
  clear hb K1 kb0 kb1 ka0 ka1
  have kb0 := K2.get 0 rfl
  have kb1 := K2.get 1 rfl
  have ka0 := K2.get 2 rfl
  have ka1 := K2.get 3 rfl
  go_wp2_with fail
  refine (CC.out.sub _).mono ?_
  rintro e w3 ⟨rfl, hb⟩
  have K3 := (K2.step hb).alloc2 (.int .i64 X) (.int .i64 Y) 25 _ rfl
  clear hb K2 kb0 kb1 ka0 ka1
  have kb0 := K3.get 2 rfl
  have kb1 := K3.get 3 rfl
  have ka0 := K3.get 4 rfl
  have ka1 := K3.get 5 rfl
  go_wp2_with fail
  refine (CC.out.ssub _).mono ?_
  rintro e w4 ⟨rfl, hb⟩
  have K4 := (K3.step hb).alloc2 (.int .i64 X) (.int .i64 Y) 25 _ rfl
  clear hb K3 kb0 kb1 ka0 ka1
  have kb0 := K4.get 4 rfl
  have kb1 := K4.get 5 rfl
  have ka0 := K4.get 6 rfl
  have ka1 := K4.get 7 rfl
  go_wp2_with fail
  refine (CC.out.scmp _).mono ?_
  rintro e w5 ⟨rfl, hb⟩
  have K5 := K4.step hb
  clear hb K4 kb0 kb1 ka0 ka1
  have kb0 := K5.get 4 rfl
  have kb1 := K5.get 5 rfl
  have ka0 := K5.get 6 rfl
  have ka1 := K5.get 7 rfl
  go_wp2_with fail
  refine (CC.out.cmp2 _).mono ?_
  rintro e w6 ⟨rfl, hb⟩
  have K6 := K5.step hb
  clear hb K5 kb0 kb1 ka0 ka1
  have kd0 := K6.get 2 rfl
  have kd1 := K6.get 3 rfl
  have ke0 := K6.get 0 rfl
  have ke1 := K6.get 1 rfl
  cases k
  · go_wp2_with fail
    refine (drawMk w6.heap.size ao n cap _ ((HR.out.below K6.1).mono K6.1.size) (Nat.le_refl _)).mono ?_
    rintro e w7 ⟨a, b, ha, hb9, rfl, _, hb⟩
    obtain ⟨p, q, j, M0⟩ := mkC a b
    have MM := Lib.hid M0
    clear ha hb9 M0 kd0 kd1 ke0 ke1
    have K7 := K6.step hb
    clear hb K6 
    go_wp2_with fail
    refine (MM.out.mf _).mono ?_
    rintro e w8 ⟨rfl, hb⟩
    have K8 := (K7.step hb).alloc2 (.int .i64 p) (.int .i64 q) 25 _ rfl
    clear hb K7 
    go_wp2_with fail
    refine (MM.out.smk _).mono ?_
    rintro e w9 ⟨rfl, hb⟩
    have K9 := (K8.step hb).alloc2 (.int .i64 p) (.int .i64 q) 25 _ rfl
    clear hb K8 
    have ka0 := K9.get 10 rfl
    have ka1 := K9.get 11 rfl
    go_wp2_with fail
    refine (CC.out.ff _ (HT.out.below K9.1 (Nat.le_refl _))).mono ?_
    rintro e w10 ⟨rfl, hb⟩
    have K10 := K9.step hb
    clear hb K9 ka0 ka1
    go_wp2_with fail
    refine (impl_pf s _ (by have := CC.out.len; omega) (HT.out.below K10.1 (Nat.le_refl _)) (HM.out.below K10.1 HLT.out)).mono ?_
    rintro e w11 ⟨⟨zn, zd, rd, hz, rfl⟩, hb⟩
    obtain ⟨z1, z2⟩ := CC.out.back zn zd rd hz
    have HZ := Lib.hid z2
    have IS0 := CC.out.isf
    rw [← z1] at IS0 HZ
    have ISF := Lib.hid IS0
    clear hz z1 z2 IS0
    have K11 := (K10.step hb).alloc2 (.int .i64 zn) (.int .i64 zd) 25 _ rfl
    clear hb K10 
    cases j
    · have kz0 := K11.get 0 rfl
      have kz1 := K11.get 1 rfl
      have kg0 := K11.get 2 rfl
      have kg1 := K11.get 3 rfl
      have kf0 := K11.get 4 rfl
      have kf1 := K11.get 5 rfl
      have ka0 := K11.get 12 rfl
      have ka1 := K11.get 13 rfl
      go_wp2_with fail
      refine (CC.out.sff _).mono ?_
      rintro e w13 ⟨rfl, hb⟩
      have K13 := K11.step hb
      clear hb K11 kz0 kz1 kg0 kg1 kf0 kf1 ka0 ka1
      have kz0 := K13.get 0 rfl
      have kz1 := K13.get 1 rfl
      have ka0 := K13.get 12 rfl
      have ka1 := K13.get 13 rfl
      go_wp2_with fail
      refine (ISF.out _).mono ?_
      rintro e w14 ⟨rfl, hb⟩
      have K14 := K13.step hb
      clear hb K13 kz0 kz1 ka0 ka1
      cases rd
      · have kz0 := K14.get 0 rfl
        have kz1 := K14.get 1 rfl
        have ka0 := K14.get 12 rfl
        have ka1 := K14.get 13 rfl
        go_wp2
        go_ret
        exact ⟨rfl, K14.1⟩
      · obtain ⟨h1, h2⟩ := HZ.out rfl
        subst h1 h2
        have kz0 := K14.get 0 rfl
        have kz1 := K14.get 1 rfl
        have ka0 := K14.get 12 rfl
        have ka1 := K14.get 13 rfl
        go_wp2
        go_ret
        exact ⟨rfl, K14.1⟩
    · have kz0 := K11.get 0 rfl
      have kz1 := K11.get 1 rfl
      have kg0 := K11.get 2 rfl
      have kg1 := K11.get 3 rfl
      have kf0 := K11.get 4 rfl
      have kf1 := K11.get 5 rfl
      have ka0 := K11.get 12 rfl
      have ka1 := K11.get 13 rfl
      go_wp2_with fail
      refine (MM.out.isf rfl _).mono ?_
      rintro e w12 ⟨rfl, hb⟩
      have K12 := K11.step hb
      clear hb K11 kz0 kz1 kg0 kg1 kf0 kf1 ka0 ka1
      have kz0 := K12.get 0 rfl
      have kz1 := K12.get 1 rfl
      have ka0 := K12.get 12 rfl
      have ka1 := K12.get 13 rfl
      go_wp2_with fail
      refine (CC.out.sff _).mono ?_
      rintro e w13 ⟨rfl, hb⟩
      have K13 := K12.step hb
      clear hb K12 kz0 kz1 ka0 ka1
      have kz0 := K13.get 0 rfl
      have kz1 := K13.get 1 rfl
      have ka0 := K13.get 12 rfl
      have ka1 := K13.get 13 rfl
      go_wp2_with fail
      refine (ISF.out _).mono ?_
      rintro e w14 ⟨rfl, hb⟩
      have K14 := K13.step hb
      clear hb K13 kz0 kz1 ka0 ka1
      cases rd
      · have kz0 := K14.get 0 rfl
        have kz1 := K14.get 1 rfl
        have ka0 := K14.get 12 rfl
        have ka1 := K14.get 13 rfl
        go_wp2
        go_ret
        exact ⟨rfl, K14.1⟩
      · obtain ⟨h1, h2⟩ := HZ.out rfl
        subst h1 h2
        have kz0 := K14.get 0 rfl
        have kz1 := K14.get 1 rfl
        have ka0 := K14.get 12 rfl
        have ka1 := K14.get 13 rfl
        go_wp2
        go_ret
        exact ⟨rfl, K14.1⟩
  · obtain ⟨bp, bm, s1, s2, s3, s4⟩ := sign_bool (SG.out rfl)
    go_wp2_with fail
    refine (drawMk w6.heap.size ao n cap _ ((HR.out.below K6.1).mono K6.1.size) (Nat.le_refl _)).mono ?_
    rintro e w7 ⟨a, b, ha, hb9, rfl, _, hb⟩
    obtain ⟨p, q, j, M0⟩ := mkC a b
    have MM := Lib.hid M0
    clear ha hb9 M0 kd0 kd1 ke0 ke1
    have K7 := K6.step hb
    clear hb K6 
    go_wp2_with fail
    refine (MM.out.mf _).mono ?_
    rintro e w8 ⟨rfl, hb⟩
    have K8 := (K7.step hb).alloc2 (.int .i64 p) (.int .i64 q) 25 _ rfl
    clear hb K7 
    go_wp2_with fail
    refine (MM.out.smk _).mono ?_
    rintro e w9 ⟨rfl, hb⟩
    have K9 := (K8.step hb).alloc2 (.int .i64 p) (.int .i64 q) 25 _ rfl
    clear hb K8 
    have ka0 := K9.get 10 rfl
    have ka1 := K9.get 11 rfl
    go_wp2_with fail
    refine (CC.out.ff _ (HT.out.below K9.1 (Nat.le_refl _))).mono ?_
    rintro e w10 ⟨rfl, hb⟩
    have K10 := K9.step hb
    clear hb K9 ka0 ka1
    go_wp2_with fail
    refine (impl_pf s _ (by have := CC.out.len; omega) (HT.out.below K10.1 (Nat.le_refl _)) (HM.out.below K10.1 HLT.out)).mono ?_
    rintro e w11 ⟨⟨zn, zd, rd, hz, rfl⟩, hb⟩
    obtain ⟨z1, z2⟩ := CC.out.back zn zd rd hz
    have HZ := Lib.hid z2
    have IS0 := CC.out.isf
    rw [← z1] at IS0 HZ
    have ISF := Lib.hid IS0
    clear hz z1 z2 IS0
    have K11 := (K10.step hb).alloc2 (.int .i64 zn) (.int .i64 zd) 25 _ rfl
    clear hb K10 
    cases j
    · have kz0 := K11.get 0 rfl
      have kz1 := K11.get 1 rfl
      have kg0 := K11.get 2 rfl
      have kg1 := K11.get 3 rfl
      have kf0 := K11.get 4 rfl
      have kf1 := K11.get 5 rfl
      have ka0 := K11.get 12 rfl
      have ka1 := K11.get 13 rfl
      go_wp2_with fail
      refine (CC.out.sff _).mono ?_
      rintro e w13 ⟨rfl, hb⟩
      have K13 := K11.step hb
      clear hb K11 kz0 kz1 kg0 kg1 kf0 kf1 ka0 ka1
      have kz0 := K13.get 0 rfl
      have kz1 := K13.get 1 rfl
      have ka0 := K13.get 12 rfl
      have ka1 := K13.get 13 rfl
      go_wp2_with fail
      refine (ISF.out _).mono ?_
      rintro e w14 ⟨rfl, hb⟩
      have K14 := K13.step hb
      clear hb K13 kz0 kz1 ka0 ka1
      cases rd
      · have kz0 := K14.get 0 rfl
        have kz1 := K14.get 1 rfl
        have ka0 := K14.get 12 rfl
        have ka1 := K14.get 13 rfl
        go_wp2
        go_ret
        exact ⟨rfl, K14.1⟩
      · obtain ⟨h1, h2⟩ := HZ.out rfl
        subst h1 h2
        have kz0 := K14.get 0 rfl
        have kz1 := K14.get 1 rfl
        have ka0 := K14.get 12 rfl
        have ka1 := K14.get 13 rfl
        go_wp2
        go_ret
        exact ⟨rfl, K14.1⟩
    · have kz0 := K11.get 0 rfl
      have kz1 := K11.get 1 rfl
      have kg0 := K11.get 2 rfl
      have kg1 := K11.get 3 rfl
      have kf0 := K11.get 4 rfl
      have kf1 := K11.get 5 rfl
      have ka0 := K11.get 12 rfl
      have ka1 := K11.get 13 rfl
      go_wp2_with fail
      refine (MM.out.isf rfl _).mono ?_
      rintro e w12 ⟨rfl, hb⟩
      have K12 := K11.step hb
      clear hb K11 kz0 kz1 kg0 kg1 kf0 kf1 ka0 ka1
      have kz0 := K12.get 0 rfl
      have kz1 := K12.get 1 rfl
      have ka0 := K12.get 12 rfl
      have ka1 := K12.get 13 rfl
      go_wp2_with fail
      refine (CC.out.sff _).mono ?_
      rintro e w13 ⟨rfl, hb⟩
      have K13 := K12.step hb
      clear hb K12 kz0 kz1 ka0 ka1
      have kz0 := K13.get 0 rfl
      have kz1 := K13.get 1 rfl
      have ka0 := K13.get 12 rfl
      have ka1 := K13.get 13 rfl
      go_wp2_with fail
      refine (ISF.out _).mono ?_
      rintro e w14 ⟨rfl, hb⟩
      have K14 := K13.step hb
      clear hb K13 kz0 kz1 ka0 ka1
      cases rd
      · have kz0 := K14.get 0 rfl
        have kz1 := K14.get 1 rfl
        have ka0 := K14.get 12 rfl
        have ka1 := K14.get 13 rfl
        go_wp2
        go_ret
        exact ⟨rfl, K14.1⟩
      · obtain ⟨h1, h2⟩ := HZ.out rfl
        subst h1 h2
        have kz0 := K14.get 0 rfl
        have kz1 := K14.get 1 rfl
        have ka0 := K14.get 12 rfl
        have ka1 := K14.get 13 rfl
        go_wp2
        go_ret
        exact ⟨rfl, K14.1⟩
end Go.Proofs.YtphndncamgbonaaDoor
