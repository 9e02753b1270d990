/-
  The walk over the model's FormatChange.
-/
import Derived.Test.YtndebdimjlfepaaDoorRows
import Derived.Test.YtndebdimjlfepaaDoorIvcSpec
import Derived.Test.YtndebdimjlfepaaDoorRfSpec
import Derived.Test.YtndebdimjlfepaaDoorBkPlain
namespace Go.Proofs.YtndebdimjlfepaaDoor
open Go.RowKit Num

theorem fmtR_le (r : Rw) : r.fmt.length ≤ 130 := fmtR_len
def FcPost (c : Cg) (w : World) (e : Ending) (w' : World) : Prop := e = .returned (.string ⟨(fmtC c).toArray⟩) ∧ Below w.heap.size w w'
theorem cat_app (a f : List UInt8) : (⟨#[97, 112, 112, 101, 110, 100, 32]⟩ : ByteArray) ++ (⟨a.toArray⟩ : ByteArray) ++ (⟨#[32]⟩ : ByteArray) ++ (⟨f.toArray⟩ : ByteArray) = ⟨(joinW [wAppend, a, f]).toArray⟩ := by
  apply ByteArray.ext
  simp [joinW, wAppend]
theorem cat_cor (f : List UInt8) : (⟨#[99, 111, 114, 114, 101, 99, 116, 32]⟩ : ByteArray) ++ (⟨f.toArray⟩ : ByteArray) = ⟨(joinW [wCorrect, f]).toArray⟩ := by
  apply ByteArray.ext
  simp [joinW, wCorrect]
theorem cat_del (f : List UInt8) : (⟨#[100, 101, 108, 101, 116, 101, 32]⟩ : ByteArray) ++ (⟨f.toArray⟩ : ByteArray) = ⟨(joinW [wDelete, f]).toArray⟩ := by
  apply ByteArray.ext
  simp [joinW, wDelete]
theorem cat_ret (f : List UInt8) : (⟨#[114, 101, 116, 97, 105, 110, 32]⟩ : ByteArray) ++ (⟨f.toArray⟩ : ByteArray) = ⟨(joinW [wRetain, f]).toArray⟩ := by
  apply ByteArray.ext
  simp [joinW, wRetain]
theorem k7_st {W w w' : World} {a0 a1 a2 a3 a4 a5 a6 : Addr} {v0 v1 v2 v3 v4 v5 v6 : Value} {l : List (Addr × Value)} (h : Kept W w ((a0, v0) :: (a1, v1) :: (a2, v2) :: (a3, v3) :: (a4, v4) :: (a5, v5) :: (a6, v6) :: l)) (hb : Below w.heap.size w w') :
    w'.cell? a1 = some v1 ∧ w'.cell? a2 = some v2 ∧ w'.cell? a3 = some v3 ∧ w'.cell? a4 = some v4 ∧ w'.cell? a5 = some v5 ∧ w'.cell? a6 = some v6 ∧ Below w.heap.size w w' :=
  have k := h.step hb
  ⟨k.get 1 rfl, k.get 2 rfl, k.get 3 rfl, k.get 4 rfl, k.get 5 rfl, k.get 6 rfl, hb⟩
theorem k7_ke {W w w' w1 : World} {a0 a1 a2 a3 a4 a5 a6 : Addr} {v0 v1 v2 v3 v4 v5 v6 : Value} {l : List (Addr × Value)} (h : Kept W w ((a0, v0) :: (a1, v1) :: (a2, v2) :: (a3, v3) :: (a4, v4) :: (a5, v5) :: (a6, v6) :: l)) (q : w'.cell? a1 = some v1 ∧ w'.cell? a2 = some v2 ∧ w'.cell? a3 = some v3 ∧ w'.cell? a4 = some v4 ∧ w'.cell? a5 = some v5 ∧ w'.cell? a6 = some v6 ∧ Below w.heap.size w w') (hb : Below w'.heap.size w' w1) :
    w1.cell? a1 = some v1 ∧ w1.cell? a2 = some v2 ∧ w1.cell? a3 = some v3 ∧ w1.cell? a4 = some v4 ∧ w1.cell? a5 = some v5 ∧ w1.cell? a6 = some v6 ∧ Below w.heap.size w w1 := k7_st h (q.2.2.2.2.2.2.trans (hb.mono q.2.2.2.2.2.2.size))

set_option maxRecDepth 8000 in
set_option maxHeartbeats 6400000 in
theorem spec_fc_no (k b i g y x : Int) (nl : Bool) (w : World) (hc : ¬ ChOk ⟨k, b, ⟨i, g, y, x, nl⟩⟩) :
    Calls Tryd.prog 67 #[.agg #[.int .i64 k, .int .i64 b, .int .i64 i, .int .i64 g, .int .i64 y, .int .i64 x, .bool nl]] w (FcPost ⟨k, b, ⟨i, g, y, x, nl⟩⟩ w) := by
  have E := Lib.hid (fmtC_no hc)
  have IV := Lib.hid (fun w => spec_ivc ⟨k, b, ⟨i, g, y, x, nl⟩⟩ w)
  have HC := Lib.hid hc
  clear hc
  go_enter Tryd.func67, Tryd.ntmps67
  have K0 := (Kept.start w).alloc7 (.int .i64 k) (.int .i64 b) (.int .i64 i) (.int .i64 g) (.int .i64 y) (.int .i64 x) (.bool nl) 61 _ rfl
  have k0 := K0.get 0 rfl
  have k1 := K0.get 1 rfl
  have k2 := K0.get 2 rfl
  have k3 := K0.get 3 rfl
  have k4 := K0.get 4 rfl
  have k5 := K0.get 5 rfl
  have k6 := K0.get 6 rfl
  go_wp2_with fail
  refine (IV.out _).mono ?_
  rintro e w1 ⟨⟨v, hv, rfl⟩, hb⟩
  have K1 := K0.step hb
  obtain rfl : v = false := by cases v with | false => rfl | true => exact absurd (hv.1 rfl) HC.out
  clear hb hv K0 k0 k1 k2 k3 k4 k5 k6
  go_wp2
  go_ret
  exact ⟨by rw [E.out]; rfl, K1.1⟩

set_option maxRecDepth 8000 in
set_option maxHeartbeats 6400000 in
theorem spec_fc1 (b i g y x : Int) (nl : Bool) (w : World) (hc : ChOk ⟨1, b, ⟨i, g, y, x, nl⟩⟩) :
    Calls Tryd.prog 67 #[.agg #[.int .i64 1, .int .i64 b, .int .i64 i, .int .i64 g, .int .i64 y, .int .i64 x, .bool nl]] w (FcPost ⟨1, b, ⟨i, g, y, x, nl⟩⟩ w) := by
  have IV := Lib.hid (fun w => spec_ivc ⟨1, b, ⟨i, g, y, x, nl⟩⟩ w)
  have HC := Lib.hid hc
  have hb20 := (hc.one rfl).1
  simp only at hb20
  have FR0 := fun w => spec_fr i g y x nl w
  have lf := fmtR_le ⟨i, g, y, x, nl⟩
  obtain ⟨f, hf⟩ : ∃ f, f = fmtR i g y x nl := ⟨_, rfl⟩
  rw [← hf] at FR0
  rw [show (⟨i, g, y, x, nl⟩ : Rw).fmt = f from hf.symm] at lf
  have FR := Lib.hid FR0
  have FI0 := fun w => spec_fi b w (by omega) (by omega)
  have la := Lib.itoa_length_le b (by omega) (by omega)
  obtain ⟨a, ha⟩ : ∃ a, a = Lib.itoa b := ⟨_, rfl⟩
  rw [← ha] at FI0 la
  have FI := Lib.hid FI0
  have E := Lib.hid (show fmtC ⟨1, b, ⟨i, g, y, x, nl⟩⟩ = joinW [wAppend, a, f] by rw [fmtC_yes hc, ha, hf]; rfl)
  have s1 : ¬ 9223372036854775807 < 7 + a.length := by omega
  have s2 : ¬ 9223372036854775807 < 7 + a.length + 1 := by omega
  have s3 : ¬ 9223372036854775807 < 7 + a.length + 1 + f.length := by omega
  clear FR0 FI0 ha hf la lf hb20
  clear hc
  go_enter Tryd.func67, Tryd.ntmps67
  have K0 := (Kept.start w).alloc7 (.int .i64 1) (.int .i64 b) (.int .i64 i) (.int .i64 g) (.int .i64 y) (.int .i64 x) (.bool nl) 61 _ rfl
  have k0 := K0.get 0 rfl
  have k1 := K0.get 1 rfl
  have k2 := K0.get 2 rfl
  have k3 := K0.get 3 rfl
  have k4 := K0.get 4 rfl
  have k5 := K0.get 5 rfl
  have k6 := K0.get 6 rfl
  go_wp2_with fail
  refine (IV.out _).mono ?_
  rintro e w1 ⟨⟨v, hv, rfl⟩, hb⟩
  have K1 := K0.step hb
  obtain rfl : v = true := hv.2 HC.out
  clear hb hv K0 k0 k1 k2 k3 k4 k5 k6
  have k0 := K1.get 0 rfl
  have k1 := K1.get 1 rfl
  have k2 := K1.get 2 rfl
  have k3 := K1.get 3 rfl
  have k4 := K1.get 4 rfl
  have k5 := K1.get 5 rfl
  have k6 := K1.get 6 rfl
  go_wp2_with fail
  go_region_held3 (fun w' => w'.cell? ⟨w.heap.size, 1, none⟩ = some (.int .i64 b) ∧ w'.cell? ⟨w.heap.size, 2, none⟩ = some (.int .i64 i) ∧ w'.cell? ⟨w.heap.size, 3, none⟩ = some (.int .i64 g) ∧ w'.cell? ⟨w.heap.size, 4, none⟩ = some (.int .i64 y) ∧ w'.cell? ⟨w.heap.size, 5, none⟩ = some (.int .i64 x) ∧ w'.cell? ⟨w.heap.size, 6, none⟩ = some (.bool nl) ∧ Below w1.heap.size w1 w') (first | assumption | exact k7_st K1 (Below.refl _ _).drew | exact k7_ke K1 (by assumption) (by assumption)) (first | (go_simp; go_at_call 38; (with_reducible refine (FI.out _).mono ?_); rintro e9 w9 ⟨rfl, hb⟩) | (go_simp; go_at_call 10; (with_reducible refine (FR.out _).mono ?_); rintro e9 w10 ⟨rfl, hb⟩))
  all_goals
    have KZ := K1.step (‹_ ∧ _ ∧ _ ∧ _ ∧ _ ∧ _ ∧ Below w1.heap.size w1 w10›).2.2.2.2.2.2
    go_wp2
    go_ret
    exact ⟨(by rw [E.out, ← cat_app]; rfl), KZ.1⟩

set_option maxRecDepth 8000 in
set_option maxHeartbeats 6400000 in
theorem spec_fc2 (b i g y x : Int) (nl : Bool) (w : World) (hc : ChOk ⟨2, b, ⟨i, g, y, x, nl⟩⟩) :
    Calls Tryd.prog 67 #[.agg #[.int .i64 2, .int .i64 b, .int .i64 i, .int .i64 g, .int .i64 y, .int .i64 x, .bool nl]] w (FcPost ⟨2, b, ⟨i, g, y, x, nl⟩⟩ w) := by
  have IV := Lib.hid (fun w => spec_ivc ⟨2, b, ⟨i, g, y, x, nl⟩⟩ w)
  have HC := Lib.hid hc
  have FR0 := fun w => spec_fr i g y x nl w
  have lf := fmtR_le ⟨i, g, y, x, nl⟩
  obtain ⟨f, hf⟩ : ∃ f, f = fmtR i g y x nl := ⟨_, rfl⟩
  rw [← hf] at FR0
  rw [show (⟨i, g, y, x, nl⟩ : Rw).fmt = f from hf.symm] at lf
  have FR := Lib.hid FR0
  have E := Lib.hid (show fmtC ⟨2, b, ⟨i, g, y, x, nl⟩⟩ = joinW [wCorrect, f] by rw [fmtC_yes hc, hf]; rfl)
  have s1 : ¬ 9223372036854775807 < 8 + f.length := by omega
  clear FR0 hf lf
  clear hc
  go_enter Tryd.func67, Tryd.ntmps67
  have K0 := (Kept.start w).alloc7 (.int .i64 2) (.int .i64 b) (.int .i64 i) (.int .i64 g) (.int .i64 y) (.int .i64 x) (.bool nl) 61 _ rfl
  have k0 := K0.get 0 rfl
  have k1 := K0.get 1 rfl
  have k2 := K0.get 2 rfl
  have k3 := K0.get 3 rfl
  have k4 := K0.get 4 rfl
  have k5 := K0.get 5 rfl
  have k6 := K0.get 6 rfl
  go_wp2_with fail
  refine (IV.out _).mono ?_
  rintro e w1 ⟨⟨v, hv, rfl⟩, hb⟩
  have K1 := K0.step hb
  obtain rfl : v = true := hv.2 HC.out
  clear hb hv K0 k0 k1 k2 k3 k4 k5 k6
  have k0 := K1.get 0 rfl
  have k1 := K1.get 1 rfl
  have k2 := K1.get 2 rfl
  have k3 := K1.get 3 rfl
  have k4 := K1.get 4 rfl
  have k5 := K1.get 5 rfl
  have k6 := K1.get 6 rfl
  go_wp2_with fail
  refine (FR.out _).mono ?_
  rintro e w2 ⟨rfl, hb⟩
  have K2 := K1.step hb
  go_wp2
  go_ret
  exact ⟨(by rw [E.out, ← cat_cor]; rfl), K2.1⟩

set_option maxRecDepth 8000 in
set_option maxHeartbeats 6400000 in
theorem spec_fc3 (b i g y x : Int) (nl : Bool) (w : World) (hc : ChOk ⟨3, b, ⟨i, g, y, x, nl⟩⟩) :
    Calls Tryd.prog 67 #[.agg #[.int .i64 3, .int .i64 b, .int .i64 i, .int .i64 g, .int .i64 y, .int .i64 x, .bool nl]] w (FcPost ⟨3, b, ⟨i, g, y, x, nl⟩⟩ w) := by
  have IV := Lib.hid (fun w => spec_ivc ⟨3, b, ⟨i, g, y, x, nl⟩⟩ w)
  have HC := Lib.hid hc
  have hb20 := (hc.three rfl).2.1
  simp only at hb20
  have FI0 := fun w => spec_fi i w (by omega) (by omega)
  have la := Lib.itoa_length_le i (by omega) (by omega)
  obtain ⟨a, ha⟩ : ∃ a, a = Lib.itoa i := ⟨_, rfl⟩
  rw [← ha] at FI0 la
  have FI := Lib.hid FI0
  have E := Lib.hid (show fmtC ⟨3, b, ⟨i, g, y, x, nl⟩⟩ = joinW [wDelete, a] by rw [fmtC_yes hc, ha]; rfl)
  have s1 : ¬ 9223372036854775807 < 7 + a.length := by omega
  clear FI0 ha la hb20
  clear hc
  go_enter Tryd.func67, Tryd.ntmps67
  have K0 := (Kept.start w).alloc7 (.int .i64 3) (.int .i64 b) (.int .i64 i) (.int .i64 g) (.int .i64 y) (.int .i64 x) (.bool nl) 61 _ rfl
  have k0 := K0.get 0 rfl
  have k1 := K0.get 1 rfl
  have k2 := K0.get 2 rfl
  have k3 := K0.get 3 rfl
  have k4 := K0.get 4 rfl
  have k5 := K0.get 5 rfl
  have k6 := K0.get 6 rfl
  go_wp2_with fail
  refine (IV.out _).mono ?_
  rintro e w1 ⟨⟨v, hv, rfl⟩, hb⟩
  have K1 := K0.step hb
  obtain rfl : v = true := hv.2 HC.out
  clear hb hv K0 k0 k1 k2 k3 k4 k5 k6
  have k0 := K1.get 0 rfl
  have k1 := K1.get 1 rfl
  have k2 := K1.get 2 rfl
  have k3 := K1.get 3 rfl
  have k4 := K1.get 4 rfl
  have k5 := K1.get 5 rfl
  have k6 := K1.get 6 rfl
  go_wp2_with fail
  refine (FI.out _).mono ?_
  rintro e w2 ⟨rfl, hb⟩
  have K2 := K1.step hb
  go_wp2
  go_ret
  exact ⟨(by rw [E.out, ← cat_del]; rfl), K2.1⟩

set_option maxRecDepth 8000 in
set_option maxHeartbeats 6400000 in
theorem spec_fc4 (b i g y x : Int) (nl : Bool) (w : World) (hc : ChOk ⟨4, b, ⟨i, g, y, x, nl⟩⟩) :
    Calls Tryd.prog 67 #[.agg #[.int .i64 4, .int .i64 b, .int .i64 i, .int .i64 g, .int .i64 y, .int .i64 x, .bool nl]] w (FcPost ⟨4, b, ⟨i, g, y, x, nl⟩⟩ w) := by
  have IV := Lib.hid (fun w => spec_ivc ⟨4, b, ⟨i, g, y, x, nl⟩⟩ w)
  have HC := Lib.hid hc
  have hb20 := (hc.four rfl).1
  simp only at hb20
  have FI0 := fun w => spec_fi b w (by omega) (by omega)
  have la := Lib.itoa_length_le b (by omega) (by omega)
  obtain ⟨a, ha⟩ : ∃ a, a = Lib.itoa b := ⟨_, rfl⟩
  rw [← ha] at FI0 la
  have FI := Lib.hid FI0
  have E := Lib.hid (show fmtC ⟨4, b, ⟨i, g, y, x, nl⟩⟩ = joinW [wRetain, a] by rw [fmtC_yes hc, ha]; rfl)
  have s1 : ¬ 9223372036854775807 < 7 + a.length := by omega
  clear FI0 ha la hb20
  clear hc
  go_enter Tryd.func67, Tryd.ntmps67
  have K0 := (Kept.start w).alloc7 (.int .i64 4) (.int .i64 b) (.int .i64 i) (.int .i64 g) (.int .i64 y) (.int .i64 x) (.bool nl) 61 _ rfl
  have k0 := K0.get 0 rfl
  have k1 := K0.get 1 rfl
  have k2 := K0.get 2 rfl
  have k3 := K0.get 3 rfl
  have k4 := K0.get 4 rfl
  have k5 := K0.get 5 rfl
  have k6 := K0.get 6 rfl
  go_wp2_with fail
  refine (IV.out _).mono ?_
  rintro e w1 ⟨⟨v, hv, rfl⟩, hb⟩
  have K1 := K0.step hb
  obtain rfl : v = true := hv.2 HC.out
  clear hb hv K0 k0 k1 k2 k3 k4 k5 k6
  have k0 := K1.get 0 rfl
  have k1 := K1.get 1 rfl
  have k2 := K1.get 2 rfl
  have k3 := K1.get 3 rfl
  have k4 := K1.get 4 rfl
  have k5 := K1.get 5 rfl
  have k6 := K1.get 6 rfl
  go_wp2_with fail
  refine (FI.out _).mono ?_
  rintro e w2 ⟨rfl, hb⟩
  have K2 := K1.step hb
  go_wp2
  go_ret
  exact ⟨(by rw [E.out, ← cat_ret]; rfl), K2.1⟩

/-- The model's FormatChange. -/
theorem spec_fmtC (c : Cg) (w : World) :
    Calls Tryd.prog 67 #[.agg #[.int .i64 c.k, .int .i64 c.b, .int .i64 c.r.i, .int .i64 c.r.g, .int .i64 c.r.y, .int .i64 c.r.x, .bool c.r.nl]] w (FcPost c w) := by
  by_cases hc : ChOk c
  · obtain ⟨k, b, i, g, y, x, nl⟩ := c
    rcases hc.kind with h | h | h | h
    · have h' : k = 1 := h
      subst h'; exact spec_fc1 b i g y x nl w hc
    · have h' : k = 2 := h
      subst h'; exact spec_fc2 b i g y x nl w hc
    · have h' : k = 3 := h
      subst h'; exact spec_fc3 b i g y x nl w hc
    · have h' : k = 4 := h
      subst h'; exact spec_fc4 b i g y x nl w hc
  · obtain ⟨k, b, i, g, y, x, nl⟩ := c
    exact spec_fc_no k b i g y x nl w hc
end Go.Proofs.YtndebdimjlfepaaDoor
