/-
  What the functions answer at two intervals, and at an interval and a fraction: bundles for the walk of FnIntervals.
-/
import Derived.Test.YtdfmidihghoilaaDoorRows
import Derived.Test.YtdfmidihghoilaaDoorMtMore
import Derived.Test.YtdfmidihghoilaaDoorIvSpec
import Derived.Test.YtdfmidihghoilaaDoorIvCmp
import Derived.Test.YtdfmidihghoilaaDoorIvMeet
import Derived.Test.YtdfmidihghoilaaDoorIvWd
import Derived.Test.YtdfmidihghoilaaDoorIvEx
import Derived.Test.YtdfmidihghoilaaDoorIfSpec
import Derived.Test.YtdfmidihghoilaaDoorIpSpec
import Derived.Test.YtdfmidihghoilaaDoorIiImpl
import Derived.Test.YtdfmidihghoilaaDoorImImpl
import Derived.Test.YtdfmidihghoilaaDoorIwImpl
import Derived.Test.YtdfmidihghoilaaDoorIxImpl
import Derived.Test.YtdfmidihghoilaaDoorIfImpl
import Derived.Test.YtdfmidihghoilaaDoorDrawInts
namespace Go.Proofs.YtdfmidihghoilaaDoor
open Go.RowKit Num

theorem mtB_of {a b c d e f g h : Int} (hq : mtB a b c d e f g h = true) : ivB a b c d = true ∧ ivB e f g h = true ∧ ivB (mtL a b e f).1 (mtL a b e f).2 (mtH c d g h).1 (mtH c d g h).2 = true := by
  unfold mtB at hq
  rw [Bool.and_eq_true, Bool.and_eq_true] at hq
  exact hq

theorem mtB_comm (a b c d e f g h : Int) : mtB e f g h a b c d = mtB a b c d e f g h := by
  rw [mtB_eq, mtB_eq]
  unfold mjB
  rw [Bool.and_comm (ivB e f g h), Bool.and_comm (!decide (cmpA g h a b < 0))]

theorem civ_comm (a b c d e f g h : Int) : civ e f g h a b c d = -civ a b c d e f g h := by
  unfold civ
  by_cases hv : ivB a b c d = true ∧ ivB e f g h = true
  · rw [if_pos hv, if_pos ⟨hv.2, hv.1⟩]
    obtain ⟨x1, x2, x3⟩ := ivB_of hv.1
    obtain ⟨y1, y2, y3⟩ := ivB_of hv.2
    by_cases p : cmpA c d e f < 0
    · have q : ¬ cmpA g h a b < 0 := by
        have := cmpA_trans x1 x2 y1 x3 (by omega)
        have := cmpA_trans x1 y1 y2 this y3
        have := cmpA_flip a b g h
        omega
      rw [if_pos p, if_neg q, if_pos p]; rfl
    · rw [if_neg p, if_neg p]
      by_cases q : cmpA g h a b < 0
      · rw [if_pos q, if_pos q]
      · rw [if_neg q, if_neg q]; rfl
  · rw [if_neg hv, if_neg (fun k => hv ⟨k.2, k.1⟩)]; rfl

theorem civ_rng (a b c d e f g h : Int) : civ a b c d e f g h = -1 ∨ civ a b c d e f g h = 0 ∨ civ a b c d e f g h = 1 := by
  unfold civ
  split
  · split
    · exact .inl rfl
    · split
      · exact .inr (.inr rfl)
      · exact .inr (.inl rfl)
  · exact .inr (.inl rfl)

theorem civ_rng2 (a b c d e f g h : Int) : (civ a b c d e f g h = -1 ∧ -civ a b c d e f g h = 1) ∨ (civ a b c d e f g h = 0 ∧ -civ a b c d e f g h = 0) ∨ (civ a b c d e f g h = 1 ∧ -civ a b c d e f g h = -1) := by
  have := civ_rng a b c d e f g h
  omega

theorem mt_civ {a b c d e f g h : Int} (hx : ivB a b c d = true) (hy : ivB e f g h = true) : mtB a b c d e f g h = decide (civ a b c d e f g h = 0) := by
  rw [mtB_eq]
  unfold mjB civ
  rw [hx, hy, if_pos ⟨rfl, rfl⟩]
  by_cases p : cmpA c d e f < 0
  · rw [if_pos p, decide_eq_true p]; rfl
  · rw [if_neg p, decide_eq_false p]
    by_cases q : cmpA g h a b < 0
    · rw [if_pos q, decide_eq_true q]; rfl
    · rw [if_neg q, decide_eq_false q]; rfl

theorem mt_zx {a b c d e f g h : Int} (hq : mtB a b c d e f g h = true) : liB (mtL a b e f).1 (mtL a b e f).2 (mtH c d g h).1 (mtH c d g h).2 a b c d = true := by
  obtain ⟨hx, hy, hz⟩ := mtB_of hq
  have e1 : cmpA a b (mtL a b e f).1 (mtL a b e f).2 ≤ 0 := by
    unfold mtL
    split
    · have := cmpA_flip e f a b; show cmpA a b e f ≤ 0; omega
    · have := cmpA_self a b; show cmpA a b a b ≤ 0; omega
  have e2 : cmpA (mtH c d g h).1 (mtH c d g h).2 c d ≤ 0 := by
    unfold mtH
    split
    · show cmpA g h c d ≤ 0; omega
    · have := cmpA_self c d; show cmpA c d c d ≤ 0; omega
  unfold liB
  rw [hz, hx, decide_eq_true e1, decide_eq_true e2]; rfl

theorem mt_zy {a b c d e f g h : Int} (hq : mtB a b c d e f g h = true) : liB (mtL a b e f).1 (mtL a b e f).2 (mtH c d g h).1 (mtH c d g h).2 e f g h = true := by
  obtain ⟨hx, hy, hz⟩ := mtB_of hq
  have e1 : cmpA e f (mtL a b e f).1 (mtL a b e f).2 ≤ 0 := by
    unfold mtL
    split
    · have := cmpA_self e f; show cmpA e f e f ≤ 0; omega
    · show cmpA e f a b ≤ 0; omega
  have e2 : cmpA (mtH c d g h).1 (mtH c d g h).2 g h ≤ 0 := by
    unfold mtH
    split
    · have := cmpA_self g h; show cmpA g h g h ≤ 0; omega
    · have := cmpA_flip g h c d; show cmpA c d g h ≤ 0; omega
  unfold liB
  rw [hz, hy, decide_eq_true e1, decide_eq_true e2]; rfl

theorem mt_li {a b c d e f g h : Int} (hl : liB a b c d e f g h = true) : mtL a b e f = (a, b) ∧ mtH c d g h = (c, d) := by
  unfold liB at hl
  rw [Bool.and_eq_true, Bool.and_eq_true, Bool.and_eq_true] at hl
  obtain ⟨_, _, h1, h2⟩ := hl
  have h1 := of_decide_eq_true h1
  have h2 := of_decide_eq_true h2
  unfold mtL mtH
  have := cmpA_flip g h c d
  exact ⟨if_neg (by omega), if_neg (by omega)⟩

/-- At two intervals: what both contain (l1 .. m2; j: there is such), the order n, whether one lies within the other (L), which are intervals (p, q). -/
structure MvC (a b c d e f g h l1 l2 m1 m2 n n2 : Int) (j L p q : Bool) : Prop where
  mt : ∀ w, Calls Tryd.prog 14 #[.agg #[.int .i64 a, .int .i64 b, .int .i64 c, .int .i64 d], .agg #[.int .i64 e, .int .i64 f, .int .i64 g, .int .i64 h]] w fun r w' => r = .returned (.tuple #[.agg #[.int .i64 l1, .int .i64 l2, .int .i64 m1, .int .i64 m2], .bool j]) ∧ Below w.heap.size w w'
  smt : ∀ w, Calls Tryd.prog 15 #[.agg #[.int .i64 a, .int .i64 b, .int .i64 c, .int .i64 d], .agg #[.int .i64 e, .int .i64 f, .int .i64 g, .int .i64 h]] w fun r w' => r = .returned (.tuple #[.agg #[.int .i64 l1, .int .i64 l2, .int .i64 m1, .int .i64 m2], .bool j]) ∧ Below w.heap.size w w'
  mt2 : ∀ w, Calls Tryd.prog 14 #[.agg #[.int .i64 e, .int .i64 f, .int .i64 g, .int .i64 h], .agg #[.int .i64 a, .int .i64 b, .int .i64 c, .int .i64 d]] w fun r w' => r = .returned (.tuple #[.agg #[.int .i64 l1, .int .i64 l2, .int .i64 m1, .int .i64 m2], .bool j]) ∧ Below w.heap.size w w'
  li : ∀ w, Calls Tryd.prog 16 #[.agg #[.int .i64 a, .int .i64 b, .int .i64 c, .int .i64 d], .agg #[.int .i64 e, .int .i64 f, .int .i64 g, .int .i64 h]] w fun r w' => r = .returned (.bool L) ∧ Below w.heap.size w w'
  sli : ∀ w, Calls Tryd.prog 17 #[.agg #[.int .i64 a, .int .i64 b, .int .i64 c, .int .i64 d], .agg #[.int .i64 e, .int .i64 f, .int .i64 g, .int .i64 h]] w fun r w' => r = .returned (.bool L) ∧ Below w.heap.size w w'
  ci : ∀ w, Calls Tryd.prog 18 #[.agg #[.int .i64 a, .int .i64 b, .int .i64 c, .int .i64 d], .agg #[.int .i64 e, .int .i64 f, .int .i64 g, .int .i64 h]] w fun r w' => r = .returned (.int .i64 n) ∧ Below w.heap.size w w'
  sci : ∀ w, Calls Tryd.prog 19 #[.agg #[.int .i64 a, .int .i64 b, .int .i64 c, .int .i64 d], .agg #[.int .i64 e, .int .i64 f, .int .i64 g, .int .i64 h]] w fun r w' => r = .returned (.int .i64 n) ∧ Below w.heap.size w w'
  ci2 : ∀ w, Calls Tryd.prog 18 #[.agg #[.int .i64 e, .int .i64 f, .int .i64 g, .int .i64 h], .agg #[.int .i64 a, .int .i64 b, .int .i64 c, .int .i64 d]] w fun r w' => r = .returned (.int .i64 n2) ∧ Below w.heap.size w w'
  sx : ∀ w, Calls Tryd.prog 20 #[.agg #[.int .i64 a, .int .i64 b, .int .i64 c, .int .i64 d]] w fun r w' => r = .returned (.bool p) ∧ Below w.heap.size w w'
  sy : ∀ w, Calls Tryd.prog 20 #[.agg #[.int .i64 e, .int .i64 f, .int .i64 g, .int .i64 h]] w fun r w' => r = .returned (.bool q) ∧ Below w.heap.size w w'
  zx : j = true → ∀ w, Calls Tryd.prog 16 #[.agg #[.int .i64 l1, .int .i64 l2, .int .i64 m1, .int .i64 m2], .agg #[.int .i64 a, .int .i64 b, .int .i64 c, .int .i64 d]] w fun r w' => r = .returned (.bool true) ∧ Below w.heap.size w w'
  zy : j = true → ∀ w, Calls Tryd.prog 16 #[.agg #[.int .i64 l1, .int .i64 l2, .int .i64 m1, .int .i64 m2], .agg #[.int .i64 e, .int .i64 f, .int .i64 g, .int .i64 h]] w fun r w' => r = .returned (.bool true) ∧ Below w.heap.size w w'
  rng : (n = -1 ∧ n2 = 1) ∨ (n = 0 ∧ n2 = 0) ∨ (n = 1 ∧ n2 = -1)
  same : p = true → q = true → j = decide (n = 0)
  eqv : j = true → (L = true → l1 = a ∧ l2 = b ∧ m1 = c ∧ m2 = d) ∧ (L = false → ¬ (l1 = a ∧ l2 = b ∧ m1 = c ∧ m2 = d))

theorem mvC (a b c d e f g h : Int) (ha : IsI64 a) (hc : IsI64 c) (he : IsI64 e) (hg : IsI64 g) : ∃ l1 l2 m1 m2 n n2 j L p q, MvC a b c d e f g h l1 l2 m1 m2 n n2 j L p q := by
  have S0 := fun w => spec_mt a b c d e f g h w ha hc he hg
  have I0 := impl_mt a b c d e f g h
  have I2 := impl_mt e f g h a b c d
  unfold MtAns at S0 I0 I2
  rw [mtB_comm] at I2
  have C2 := impl_ci e f g h a b c d
  rw [civ_comm] at C2
  cases hj : mtB a b c d e f g h
  · rw [hj, if_neg (by simp)] at S0 I0 I2
    exact ⟨0, 0, 0, 0, civ a b c d e f g h, -civ a b c d e f g h, false, liB a b c d e f g h, ivB a b c d, ivB e f g h, I0, S0, I2, impl_li a b c d e f g h, fun w => spec_li a b c d e f g h w ha hc he hg, impl_ci a b c d e f g h, fun w => spec_ci a b c d e f g h w ha hc he hg, C2, fun w => spec_iv a b c d w ha hc, fun w => spec_iv e f g h w he hg, (fun h => by cases h), (fun h => by cases h), civ_rng2 a b c d e f g h, (fun h1 h2 => by rw [← mt_civ h1 h2, hj]), (fun h => by cases h)⟩
  · rw [hj, if_pos rfl] at S0 I0 I2
    obtain ⟨hx, hy, hz⟩ := mtB_of hj
    obtain ⟨x1, x2, x3⟩ := ivB_of hx
    obtain ⟨y1, y2, y3⟩ := ivB_of hy
    have l := mtL_eq x1 y1
    have m := mtH_eq x2 y2
    have l' : mtL e f a b = mtL a b e f := l.symm
    have m' : mtH g h c d = mtH c d g h := m.symm
    rw [l', m'] at I2
    have ZX := impl_li (mtL a b e f).1 (mtL a b e f).2 (mtH c d g h).1 (mtH c d g h).2 a b c d
    rw [mt_zx hj] at ZX
    have ZY := impl_li (mtL a b e f).1 (mtL a b e f).2 (mtH c d g h).1 (mtH c d g h).2 e f g h
    have zy := mt_zy hj
    rw [zy] at ZY
    refine ⟨(mtL a b e f).1, (mtL a b e f).2, (mtH c d g h).1, (mtH c d g h).2, civ a b c d e f g h, -civ a b c d e f g h, true, liB a b c d e f g h, ivB a b c d, ivB e f g h, I0, S0, I2, impl_li a b c d e f g h, fun w => spec_li a b c d e f g h w ha hc he hg, impl_ci a b c d e f g h, fun w => spec_ci a b c d e f g h w ha hc he hg, C2, fun w => spec_iv a b c d w ha hc, fun w => spec_iv e f g h w he hg, (fun _ => ZX), (fun _ => ZY), civ_rng2 a b c d e f g h, (fun h1 h2 => by rw [← mt_civ h1 h2, hj]), fun _ => ⟨fun hl => ?_, fun hl hh => ?_⟩⟩
    · obtain ⟨e1, e2⟩ := mt_li hl
      rw [e1, e2]
      exact ⟨rfl, rfl, rfl, rfl⟩
    · rw [hh.1, hh.2.1, hh.2.2.1, hh.2.2.2, hl] at zy
      cases zy

theorem fmtI_bd {a b c d : Int} : (fmtI a b c d).length ≤ 130 := by
  have h1 := fmt_bd (n := a) (d := b)
  have h2 := fmt_bd (n := c) (d := d)
  unfold fmtI
  split
  · split
    · omega
    · simp only [List.length_append, List.length_cons]; omega
  · simp

theorem piv_back {a b c d x y u v : Int} {ok : Bool} (h : PIv (fmtI a b c d) x y u v ok) : ok = ivB a b c d ∧ (ivB a b c d = true → x = a ∧ y = b ∧ u = c ∧ v = d) := by
  cases hv : ivB a b c d
  · rw [fmtI_no hv] at h
    obtain ⟨_, _, _, _, e⟩ := PIv_unique h ip_nil
    exact ⟨e, fun h => by cases h⟩
  · obtain ⟨e1, e2, e3, e4, e5⟩ := PIv_unique h (.inl ⟨rfl, hv, rfl⟩)
    exact ⟨e5, fun _ => ⟨e1, e2, e3, e4⟩⟩

/-- At an interval and a fraction: whether it contains it (k), its format s, its width X / Y (j: there is one), whether it is exact (x9), an interval (p). -/
structure CoC (a b c d n m X Y : Int) (k j x9 p : Bool) (s : ByteArray) : Prop where
  co : ∀ w, Calls Tryd.prog 24 #[.agg #[.int .i64 a, .int .i64 b, .int .i64 c, .int .i64 d], .agg #[.int .i64 n, .int .i64 m]] w fun r w' => r = .returned (.bool k) ∧ Below w.heap.size w w'
  sco : ∀ w, Calls Tryd.prog 25 #[.agg #[.int .i64 a, .int .i64 b, .int .i64 c, .int .i64 d], .agg #[.int .i64 n, .int .i64 m]] w fun r w' => r = .returned (.bool k) ∧ Below w.heap.size w w'
  fi : ∀ w, PowTab w → Calls Tryd.prog 8 #[.agg #[.int .i64 a, .int .i64 b, .int .i64 c, .int .i64 d]] w fun r w' => r = .returned (.string s) ∧ Below w.heap.size w w'
  sfi : ∀ w, Calls Tryd.prog 6 #[.agg #[.int .i64 a, .int .i64 b, .int .i64 c, .int .i64 d]] w fun r w' => r = .returned (.string s) ∧ Below w.heap.size w w'
  wd : ∀ w, Calls Tryd.prog 22 #[.agg #[.int .i64 a, .int .i64 b, .int .i64 c, .int .i64 d]] w fun r w' => r = .returned (.tuple #[.agg #[.int .i64 X, .int .i64 Y], .bool j]) ∧ Below w.heap.size w w'
  swd : ∀ w, Calls Tryd.prog 23 #[.agg #[.int .i64 a, .int .i64 b, .int .i64 c, .int .i64 d]] w fun r w' => r = .returned (.tuple #[.agg #[.int .i64 X, .int .i64 Y], .bool j]) ∧ Below w.heap.size w w'
  ex : ∀ w, Calls Tryd.prog 26 #[.agg #[.int .i64 a, .int .i64 b, .int .i64 c, .int .i64 d]] w fun r w' => r = .returned (.bool x9) ∧ Below w.heap.size w w'
  sex : ∀ w, Calls Tryd.prog 27 #[.agg #[.int .i64 a, .int .i64 b, .int .i64 c, .int .i64 d]] w fun r w' => r = .returned (.bool x9) ∧ Below w.heap.size w w'
  isv : ∀ w, Calls Tryd.prog 20 #[.agg #[.int .i64 a, .int .i64 b, .int .i64 c, .int .i64 d]] w fun r w' => r = .returned (.bool p) ∧ Below w.heap.size w w'
  back : ∀ x y u v ok, PIv s.data.toList x y u v ok → ok = p ∧ (p = true → x = a ∧ y = b ∧ u = c ∧ v = d)
  len : s.size ≤ 130

theorem coC (a b c d n m : Int) (ha : IsI64 a) (hc : IsI64 c) (hn : IsI64 n) : ∃ X Y k j x9 p s, CoC a b c d n m X Y k j x9 p s := by
  have S0 := fun w => spec_wd a b c d w ha hc
  have I0 := impl_wd a b c d
  unfold WdAns at S0 I0
  have L : (⟨(fmtI a b c d).toArray⟩ : ByteArray).size ≤ 130 := by have := fmtI_bd (a := a) (b := b) (c := c) (d := d); show (fmtI a b c d).toArray.size ≤ _; simpa using this
  by_cases hk : ivB a b c d = true ∧ subB c d a b = true
  · rw [if_pos hk] at S0 I0
    exact ⟨_, _, coB a b c d n m, true, exB a b c d, ivB a b c d, ⟨(fmtI a b c d).toArray⟩, impl_co a b c d n m, fun w => spec_co a b c d n m w ha hc hn, fun w ht => impl_if a b c d w ht, fun w => spec_if a b c d w ha hc, I0, S0, impl_ex a b c d, fun w => spec_ex a b c d w ha hc, fun w => spec_iv a b c d w ha hc, (fun x y u v ok h => piv_back (by simpa using h)), L⟩
  · rw [if_neg hk] at S0 I0
    exact ⟨0, 0, coB a b c d n m, false, exB a b c d, ivB a b c d, ⟨(fmtI a b c d).toArray⟩, impl_co a b c d n m, fun w => spec_co a b c d n m w ha hc hn, fun w ht => impl_if a b c d w ht, fun w => spec_if a b c d w ha hc, I0, S0, impl_ex a b c d, fun w => spec_ex a b c d w ha hc, fun w => spec_iv a b c d w ha hc, (fun x y u v ok h => piv_back (by simpa using h)), L⟩
end Go.Proofs.YtdfmidihghoilaaDoor
