/-
  The walks over the laws' own summaries: copied, measured, compared, marked and read.
-/
import Derived.Test.YtcfcohnkkgickaaRows
import Derived.Test.YtcfcohnkkgickaaSmPlain
import Derived.Test.YtcfcohnkkgickaaIntArg
import Derived.Test.YtcfcohnkkgickaaAl7
import Derived.Test.YtcfcohnkkgickaaHgVal
import Derived.Test.YtcfcohnkkgickaaInv
import Derived.WalkKit
import Derived.WalkSpells
import Derived.WalkLawsBesides
import Derived.IntWalk
import Derived.Lib.Hide
namespace Go.Proofs.Ytcfcohnkkgickaa
open Go.RowKit Num

/-- What toSummary leaves. -/
def ToSm (s : Sm) (n : Nat) (w : World) (e : Ending) (w' : World) : Prop :=
  ∃ g : Nat, e = .returned (.agg (sc s (.slice (some ⟨g, 0, none⟩) n n)).toArray) ∧ SliceRep intTy w' (.slice (some ⟨g, 0, none⟩) n n) s.h [g] ∧ w.heap.size ≤ g ∧ Below w.heap.size w w'
theorem law_toIs_at (ao : Option Addr) (n cap : Nat) (R : Nat → Int) (w : World) (B : Nat) (hB : w.heap.size = B) (hn : n ≤ 1048576) (hA : IntsArg w ao n R) :
    Calls Try.prog 117 #[.slice ao n cap] w fun e w' => e = .returned (.slice (some ⟨B, 0, none⟩) n n) ∧ SliceRep intTy w' (.slice (some ⟨B, 0, none⟩) n n) (lsI n R) [B] ∧ Below w.heap.size w w' := by
  subst hB; exact law_toIs ao n cap R w hn hA

set_option maxRecDepth 8000 in
set_option maxHeartbeats 3200000 in
theorem law_toS (b c u mn mx sm : Int) (ao : Option Addr) (n cap : Nat) (R : Nat → Int) (w : World) (hn : n ≤ 1048576) (hA : IntsArg w ao n R) :
    Calls Try.prog 59 #[.agg #[.int .i64 b, .int .i64 c, .int .i64 u, .int .i64 mn, .int .i64 mx, .int .i64 sm, .slice ao n cap]] w (ToSm ⟨b, c, u, mn, mx, sm, lsI n R⟩ n w) := by
  have HA := Lib.hid hA
  clear hA
  go_enter Try.func59, Try.ntmps59
  go_wp2_with fail
  have K0 := (((Kept.start w).alloc7 (.int .i64 b) (.int .i64 c) (.int .i64 u) (.int .i64 mn) (.int .i64 mx) (.int .i64 sm) (.slice ao n cap) 87 _ rfl).alloc7 (.int .i64 0) (.int .i64 0) (.int .i64 0) (.int .i64 0) (.int .i64 0) (.int .i64 0) (.slice none 0 0) 77 (w.heap.size + 1) (by simp)).alloc7 (.int .i64 b) (.int .i64 c) (.int .i64 u) (.int .i64 mn) (.int .i64 mx) (.int .i64 sm) (.slice none 0 0) 77 (w.heap.size + 1 + 1) (by simp)
  refine (law_toIs_at ao n cap R _ (w.heap.size + 1 + 1 + 1) (by simp) hn (HA.out.below K0.1)).mono ?_
  rintro e w1 ⟨rfl, hs, hb⟩
  have K1 := K0.step hb
  have Q0 := K1.sub (l' := [(⟨w.heap.size + 1 + 1, 0, none⟩, .int .i64 b), (⟨w.heap.size + 1 + 1, 1, none⟩, .int .i64 c), (⟨w.heap.size + 1 + 1, 2, none⟩, .int .i64 u), (⟨w.heap.size + 1 + 1, 3, none⟩, .int .i64 mn), (⟨w.heap.size + 1 + 1, 4, none⟩, .int .i64 mx), (⟨w.heap.size + 1 + 1, 5, none⟩, .int .i64 sm), (⟨w.heap.size + 1 + 1, 6, none⟩, .slice none 0 0), (⟨w.heap.size + 1, 0, none⟩, .int .i64 0), (⟨w.heap.size + 1, 1, none⟩, .int .i64 0), (⟨w.heap.size + 1, 2, none⟩, .int .i64 0), (⟨w.heap.size + 1, 3, none⟩, .int .i64 0), (⟨w.heap.size + 1, 4, none⟩, .int .i64 0), (⟨w.heap.size + 1, 5, none⟩, .int .i64 0), (⟨w.heap.size + 1, 6, none⟩, .slice none 0 0)]) (by intro p9 hp9; simp only [List.mem_cons, List.not_mem_nil, or_false] at hp9; rcases hp9 with rfl | rfl | rfl | rfl | rfl | rfl | rfl | rfl | rfl | rfl | rfl | rfl | rfl | rfl <;> simp)
  have Q1 := Kept.set (p := [(⟨w.heap.size + 1 + 1, 0, none⟩, .int .i64 b), (⟨w.heap.size + 1 + 1, 1, none⟩, .int .i64 c), (⟨w.heap.size + 1 + 1, 2, none⟩, .int .i64 u), (⟨w.heap.size + 1 + 1, 3, none⟩, .int .i64 mn), (⟨w.heap.size + 1 + 1, 4, none⟩, .int .i64 mx), (⟨w.heap.size + 1 + 1, 5, none⟩, .int .i64 sm)]) Q0 (.slice (some ⟨w.heap.size + 1 + 1 + 1, 0, none⟩) n n) (by simp only; omega) (by simp only [List.cons_append, List.nil_append, List.mem_cons, List.not_mem_nil, or_false]; rintro c9 (rfl | rfl | rfl | rfl | rfl | rfl | rfl | rfl | rfl | rfl | rfl | rfl | rfl) <;> simp)
  clear K0 K1 hb
  have z0 := Q0.get 0 rfl
  have f0 := Q0.fz 0 rfl
  have z1 := Q0.get 1 rfl
  have f1 := Q0.fz 1 rfl
  have z2 := Q0.get 2 rfl
  have f2 := Q0.fz 2 rfl
  have z3 := Q0.get 3 rfl
  have f3 := Q0.fz 3 rfl
  have z4 := Q0.get 4 rfl
  have f4 := Q0.fz 4 rfl
  have z5 := Q0.get 5 rfl
  have f5 := Q0.fz 5 rfl
  have z6 := Q0.get 6 rfl
  have f6 := Q0.fz 6 rfl
  have z7 := Q0.get 7 rfl
  have f7 := Q0.fz 7 rfl
  have z8 := Q0.get 8 rfl
  have f8 := Q0.fz 8 rfl
  have z9 := Q0.get 9 rfl
  have f9 := Q0.fz 9 rfl
  have z10 := Q0.get 10 rfl
  have f10 := Q0.fz 10 rfl
  have z11 := Q0.get 11 rfl
  have f11 := Q0.fz 11 rfl
  have z12 := Q0.get 12 rfl
  have f12 := Q0.fz 12 rfl
  have z13 := Q0.get 13 rfl
  have f13 := Q0.fz 13 rfl
  have m0 := Q1.get 0 rfl
  have g0 := Q1.fz 0 rfl
  have m1 := Q1.get 1 rfl
  have g1 := Q1.fz 1 rfl
  have m2 := Q1.get 2 rfl
  have g2 := Q1.fz 2 rfl
  have m3 := Q1.get 3 rfl
  have g3 := Q1.fz 3 rfl
  have m4 := Q1.get 4 rfl
  have g4 := Q1.fz 4 rfl
  have m5 := Q1.get 5 rfl
  have g5 := Q1.fz 5 rfl
  have m6 := Q1.get 6 rfl
  have g6 := Q1.fz 6 rfl
  have m7 := Q1.get 7 rfl
  have g7 := Q1.fz 7 rfl
  have m8 := Q1.get 8 rfl
  have g8 := Q1.fz 8 rfl
  have m9 := Q1.get 9 rfl
  have g9 := Q1.fz 9 rfl
  have m10 := Q1.get 10 rfl
  have g10 := Q1.fz 10 rfl
  have m11 := Q1.get 11 rfl
  have g11 := Q1.fz 11 rfl
  have m12 := Q1.get 12 rfl
  have g12 := Q1.fz 12 rfl
  have m13 := Q1.get 13 rfl
  have g13 := Q1.fz 13 rfl
  have y0 := Q1.lt 0 rfl
  have y1 := Q1.lt 7 rfl
  have hz : ∀ (B : Nat), B < w.heap.size + 1 + 1 + 1 → ∀ k ∈ [w.heap.size + 1 + 1 + 1], k ≠ B := fun B hB k hk e => by rw [List.mem_singleton.1 hk] at e; omega
  have HH := Lib.hid (((((((((hs.set ⟨w.heap.size + 1 + 1, 6, none⟩ (.slice (some ⟨w.heap.size + 1 + 1 + 1, 0, none⟩) n n) (hz _ (by simp only; omega))).set ⟨w.heap.size + 1, 0, none⟩ (.int .i64 b) (hz _ (by simp only; omega))).set ⟨w.heap.size + 1, 1, none⟩ (.int .i64 c) (hz _ (by simp only; omega))).set ⟨w.heap.size + 1, 2, none⟩ (.int .i64 u) (hz _ (by simp only; omega))).set ⟨w.heap.size + 1, 3, none⟩ (.int .i64 mn) (hz _ (by simp only; omega))).set ⟨w.heap.size + 1, 4, none⟩ (.int .i64 mx) (hz _ (by simp only; omega))).set ⟨w.heap.size + 1, 5, none⟩ (.int .i64 sm) (hz _ (by simp only; omega))).set ⟨w.heap.size + 1, 6, none⟩ (.slice (some ⟨w.heap.size + 1 + 1 + 1, 0, none⟩) n n) (hz _ (by simp only; omega))))
  have HK := Lib.hid Q1.1
  clear hz hs
  go_wp2
  clear m0 g0 m1 g1 m2 g2 m3 g3 m4 g4 m5 g5 m6 g6 m7 g7 m8 g8 m9 g9 m10 g10 m11 g11 m12 g12 m13 g13
  exact bodyPost_ret (v := .agg #[.int .i64 b, .int .i64 c, .int .i64 u, .int .i64 mn, .int .i64 mx, .int .i64 sm, .slice (some ⟨w.heap.size + 1 + 1 + 1, 0, none⟩) n n]) (by simp [results, Try.results59, go_sem, z0, z1, z2, z3, z4, z5, z6, z7, z8, z9, z10, z11, z12, z13, y0, y1]) rfl
    ⟨_, rfl, HH.out, by omega, (((((((HK.out.setCell (by simp only; omega) _).setCell (by simp only; omega) _).setCell (by simp only; omega) _).setCell (by simp only; omega) _).setCell (by simp only; omega) _).setCell (by simp only; omega) _).setCell (by simp only; omega) _)⟩

set_option maxRecDepth 8000 in
set_option maxHeartbeats 3200000 in
theorem law_eqS (s : Sm) (ao bo : Option Addr) (n m cap cap' : Nat) (fp fp' : List Nat) (w : World) (hn : s.h.length ≤ 1099511627776) (h : SliceRep intTy w (.slice ao n cap) s.h fp) (h' : SliceRep intTy w (.slice bo m cap') s.h fp') :
    Calls Try.prog 52 #[.agg (sc s (.slice ao n cap)).toArray, .agg (sc s (.slice bo m cap')).toArray] w fun e w' => e = .returned (.bool true) ∧ Below w.heap.size w w' := by
  obtain ⟨b, c, u, mn, mx, sm, l⟩ := s
  have HG := Lib.hid h
  have HH := Lib.hid h'
  have HL := Lib.hid hn
  clear h h' hn
  show Calls Try.prog 52 #[.agg #[.int .i64 b, .int .i64 c, .int .i64 u, .int .i64 mn, .int .i64 mx, .int .i64 sm, .slice ao n cap], .agg #[.int .i64 b, .int .i64 c, .int .i64 u, .int .i64 mn, .int .i64 mx, .int .i64 sm, .slice bo m cap']] w _
  go_enter Try.func52, Try.ntmps52
  go_wp2_with fail
  have K0 := ((Kept.start w).alloc7 (.int .i64 b) (.int .i64 c) (.int .i64 u) (.int .i64 mn) (.int .i64 mx) (.int .i64 sm) (.slice ao n cap) 77 _ rfl).alloc7 (.int .i64 b) (.int .i64 c) (.int .i64 u) (.int .i64 mn) (.int .i64 mx) (.int .i64 sm) (.slice bo m cap') 77 (w.heap.size + 1) (by simp)
  refine (law_eqI _ _ l _ _ _ HL.out (HG.out.step K0.1) (HH.out.step K0.1)).mono ?_
  rintro e w1 ⟨rfl, hb⟩
  have K1 := K0.step hb
  clear hb K0
  go_wp2
  go_ret
  exact ⟨rfl, K1.1⟩

theorem law_szI (ao : Option Addr) (n cap : Nat) (L : Int) (w : World) (h0 : 0 ≤ L) (hL : L ≤ 1048576) (hn : (n : Int) ≤ L) :
    Calls Try.prog 116 #[.slice ao n cap, .int .i64 L] w fun e w' => e = .returned (.int .i64 (L - (n : Int))) ∧ w = w' := by
  have z1 : ¬ (L - (n : Int)) < 0 := by omega
  have z2 : decide ((L - (n : Int)) < 0) = false := decide_eq_false z1
  go_enter Try.func116, Try.ntmps116
  go_wp2
  go_ret
  exact ⟨rfl, rfl⟩
theorem law_szI_big (ao : Option Addr) (n cap : Nat) (L : Int) (w : World) (h0 : 0 ≤ L) (hL : L ≤ 1048576) (hn : L < (n : Int)) (hm : n ≤ 9223372036854775807) :
    Calls Try.prog 116 #[.slice ao n cap, .int .i64 L] w fun e w' => e = .returned (.int .i64 (-1)) ∧ w = w' := by
  have hmI : (n : Int) ≤ 9223372036854775807 := by omega
  have z1 : (L - (n : Int)) < 0 := by omega
  have z2 : decide ((L - (n : Int)) < 0) = true := decide_eq_true z1
  go_enter Try.func116, Try.ntmps116
  go_wp2
  go_ret
  exact ⟨rfl, rfl⟩

set_option maxRecDepth 8000 in
set_option maxHeartbeats 3200000 in
theorem law_szS (b c u mn mx sm : Int) (ao : Option Addr) (n cap : Nat) (L : Int) (w : World) (h0 : 0 ≤ L) (hL : L ≤ 1048576) (hn : (n : Int) ≤ L) :
    Calls Try.prog 57 #[.agg #[.int .i64 b, .int .i64 c, .int .i64 u, .int .i64 mn, .int .i64 mx, .int .i64 sm, .slice ao n cap], .int .i64 L] w fun e w' => e = .returned (.int .i64 (L - (n : Int))) ∧ Below w.heap.size w w' := by
  have z1 : ¬ (L - (n : Int)) < 0 := by omega
  have z2 : decide ((L - (n : Int)) < 0) = false := decide_eq_false z1
  have hn0 : (0 : Int) ≤ (n : Int) := by omega
  have hS := Lib.hid (fun w => law_szI ao n cap L w h0 hL hn)
  go_enter Try.func57, Try.ntmps57
  go_wp2_with fail
  have K0 := (Kept.start w).alloc7 (.int .i64 b) (.int .i64 c) (.int .i64 u) (.int .i64 mn) (.int .i64 mx) (.int .i64 sm) (.slice ao n cap) 87 _ rfl
  refine (hS.out _).mono ?_
  rintro e w1 ⟨rfl, rfl⟩
  go_wp2
  go_ret
  exact ⟨rfl, K0.1⟩

set_option maxRecDepth 8000 in
set_option maxHeartbeats 3200000 in
theorem law_szS_big (b c u mn mx sm : Int) (ao : Option Addr) (n cap : Nat) (L : Int) (w : World) (h0 : 0 ≤ L) (hL : L ≤ 1048576) (hn : L < (n : Int)) (hm : n ≤ 9223372036854775807) :
    Calls Try.prog 57 #[.agg #[.int .i64 b, .int .i64 c, .int .i64 u, .int .i64 mn, .int .i64 mx, .int .i64 sm, .slice ao n cap], .int .i64 L] w fun e w' => e = .returned (.int .i64 (-1)) ∧ Below w.heap.size w w' := by
  have hS := Lib.hid (fun w => law_szI_big ao n cap L w h0 hL hn hm)
  clear hn
  go_enter Try.func57, Try.ntmps57
  go_wp2_with fail
  have K0 := (Kept.start w).alloc7 (.int .i64 b) (.int .i64 c) (.int .i64 u) (.int .i64 mn) (.int .i64 mx) (.int .i64 sm) (.slice ao n cap) 87 _ rfl
  refine (hS.out _).mono ?_
  rintro e w1 ⟨rfl, rfl⟩
  go_wp2
  go_ret
  exact ⟨rfl, K0.1⟩

set_option maxRecDepth 8000 in
set_option maxHeartbeats 3200000 in
theorem law_markS (s : Sm) (v : Value) (fp : List Nat) (k0 : Int) (w : World) (hn : s.h.length ≤ 1099511627776) (hk0 : 0 ≤ k0) (hk1 : k0 ≤ 1099511627776) (hv : SliceRep intTy w v s.h fp) :
    Calls Try.prog 55 #[.agg (sc s v).toArray, .int .i64 k0] w fun e w' => e = .returned (.int .i64 (k0 + (s.h.length : Int))) ∧ Chg fp w w' ∧ SliceRep intTy w' v (markI k0 s.h.length) fp := by
  obtain ⟨b, c, u, mn, mx, sm, l⟩ := s
  obtain ⟨ao, cap, rfl⟩ := hv.val
  have HV := Lib.hid hv
  have HL := Lib.hid hn
  clear hv hn
  show Calls Try.prog 55 #[.agg #[.int .i64 b, .int .i64 c, .int .i64 u, .int .i64 mn, .int .i64 mx, .int .i64 sm, .slice ao l.length cap], .int .i64 k0] w _
  go_enter Try.func55, Try.ntmps55
  go_wp2_with fail
  have K0 := (Kept.start w).alloc7 (.int .i64 b) (.int .i64 c) (.int .i64 u) (.int .i64 mn) (.int .i64 mx) (.int .i64 sm) (.slice ao l.length cap) 77 _ rfl
  refine (law_markI _ l fp k0 _ HL.out hk0 hk1 (HV.out.step K0.1)).mono ?_
  rintro e w1 ⟨rfl, hc, hs⟩
  have AN := Lib.hid (show Chg fp w w1 ∧ SliceRep intTy w1 (.slice ao l.length cap) (markI k0 l.length) fp from ⟨(Chg.of K0.1).trans hc, hs⟩)
  clear hc hs K0
  go_wp2
  go_ret
  exact ⟨rfl, AN.out⟩

set_option maxRecDepth 8000 in
set_option maxHeartbeats 3200000 in
theorem law_heldS (b c u mn mx sm : Int) (v : Value) (n : Nat) (fp : List Nat) (k0 : Int) (w : World) (hn : n ≤ 1099511627776) (hk0 : 0 ≤ k0) (hk1 : k0 ≤ 1099511627776) (hv : SliceRep intTy w v (markI k0 n) fp) :
    Calls Try.prog 56 #[.agg #[.int .i64 b, .int .i64 c, .int .i64 u, .int .i64 mn, .int .i64 mx, .int .i64 sm, v], .int .i64 k0] w fun e w' => e = .returned (.int .i64 (k0 + (n : Int))) ∧ Below w.heap.size w w' := by
  obtain ⟨ao, cap, rfl⟩ := hv.val
  have HV := Lib.hid hv
  clear hv
  have z : ¬ (k0 + (n : Int)) < 0 := by omega
  obtain ⟨q, hq⟩ : ∃ q, q = k0 + (n : Int) := ⟨_, rfl⟩
  rw [← hq] at z ⊢
  have zd : decide (q < 0) = false := decide_eq_false z
  have HQ := Lib.hid hq
  clear hq
  go_enter Try.func56, Try.ntmps56
  go_wp2_with fail
  have K0 := (Kept.start w).alloc7 (.int .i64 b) (.int .i64 c) (.int .i64 u) (.int .i64 mn) (.int .i64 mx) (.int .i64 sm) (.slice ao (markI k0 n).length cap) 77 _ rfl
  refine (law_heldI _ n fp k0 _ hn hk0 hk1 (HV.out.step K0.1)).mono ?_
  rintro e w1 ⟨rfl, hb⟩
  rw [← HQ.out]
  have K1 := K0.step hb
  clear hb K0
  go_wp2
  go_ret
  exact ⟨rfl, K1.1⟩
/-- What toSummary leaves. -/
def ToSmE (b c u mn mx sm : Int) (n : Nat) (l : List Int) (w : World) (e : Ending) (w' : World) : Prop :=
  ∃ g : Nat, e = .returned (.agg #[.int .i64 b, .int .i64 c, .int .i64 u, .int .i64 mn, .int .i64 mx, .int .i64 sm, .slice (some ⟨g, 0, none⟩) n n]) ∧ SliceRep intTy w' (.slice (some ⟨g, 0, none⟩) n n) l [g] ∧ (∀ k ∈ [g], w.heap.size ≤ k) ∧ Below w.heap.size w w'
theorem law_toSE (b c u mn mx sm : Int) (ao : Option Addr) (n cap : Nat) (R : Nat → Int) (w : World) (hn : n ≤ 1048576) (hA : IntsArg w ao n R) :
    Calls Try.prog 59 #[.agg #[.int .i64 b, .int .i64 c, .int .i64 u, .int .i64 mn, .int .i64 mx, .int .i64 sm, .slice ao n cap]] w (ToSmE b c u mn mx sm n (lsI n R) w) :=
  (law_toS b c u mn mx sm ao n cap R w hn hA).mono fun _ _ ⟨g, h1, h2, h3, h4⟩ => ⟨g, h1, h2, (fun k hk => by rw [List.mem_singleton.1 hk]; exact h3), h4⟩
theorem law_eqSE (b c u mn mx sm : Int) (l : List Int) (ao bo : Option Addr) (n m cap cap' : Nat) (fp fp' : List Nat) (w : World) (hn : l.length ≤ 1099511627776) (h : SliceRep intTy w (.slice ao n cap) l fp) (h' : SliceRep intTy w (.slice bo m cap') l fp') :
    Calls Try.prog 52 #[.agg #[.int .i64 b, .int .i64 c, .int .i64 u, .int .i64 mn, .int .i64 mx, .int .i64 sm, .slice ao n cap], .agg #[.int .i64 b, .int .i64 c, .int .i64 u, .int .i64 mn, .int .i64 mx, .int .i64 sm, .slice bo m cap']] w fun e w' => e = .returned (.bool true) ∧ Below w.heap.size w w' :=
  law_eqS ⟨b, c, u, mn, mx, sm, l⟩ ao bo n m cap cap' fp fp' w hn h h'
theorem law_markSE (b c u mn mx sm : Int) (l : List Int) (v : Value) (fp : List Nat) (k0 : Int) (w : World) (hn : l.length ≤ 1099511627776) (hk0 : 0 ≤ k0) (hk1 : k0 ≤ 1099511627776) (hv : SliceRep intTy w v l fp) :
    Calls Try.prog 55 #[.agg #[.int .i64 b, .int .i64 c, .int .i64 u, .int .i64 mn, .int .i64 mx, .int .i64 sm, v], .int .i64 k0] w fun e w' => e = .returned (.int .i64 (k0 + (l.length : Int))) ∧ Chg fp w w' ∧ SliceRep intTy w' v (markI k0 l.length) fp :=
  law_markS ⟨b, c, u, mn, mx, sm, l⟩ v fp k0 w hn hk0 hk1 hv

theorem Inv.consB {W w w' : World} {L L' : List (Addr × Value)} {S : List Own} {N : Nat} (h : Inv W w L S) (hN : w.heap.size ≤ N) (hb : Below w.heap.size w w') (hL : ∀ p ∈ L', p.1.block = N) (hk : Kept W w' (L' ++ L)) : Inv W w' (L' ++ L) S := by
  have h' := h.step hb
  refine ⟨hk, h'.2.1, h'.2.2.1, fun p hp s hs e => ?_⟩
  have hl := s.lt (h.2.1 s hs).1 _ e
  rcases List.mem_append.1 hp with hp | hp
  · rw [hL p hp] at hl; omega
  · exact h.2.2.2 p hp s hs e
theorem Inv.alloc7 {W w : World} {L : List (Addr × Value)} {S : List Own} (h : Inv W w L S) (x y z p q r v : Value) (t : TypeId) (N : Nat) (hN : w.heap.size = N) :
    Inv W (w.alloc (.cells #[x, y, z, p, q, r, v] t)) ((⟨N, 0, none⟩, x) :: (⟨N, 1, none⟩, y) :: (⟨N, 2, none⟩, z) :: (⟨N, 3, none⟩, p) :: (⟨N, 4, none⟩, q) :: (⟨N, 5, none⟩, r) :: (⟨N, 6, none⟩, v) :: L) S :=
  h.consB (N := N) (L' := [(⟨N, 0, none⟩, x), (⟨N, 1, none⟩, y), (⟨N, 2, none⟩, z), (⟨N, 3, none⟩, p), (⟨N, 4, none⟩, q), (⟨N, 5, none⟩, r), (⟨N, 6, none⟩, v)]) (Nat.le_of_eq hN) ((Below.refl _ _).alloc (Nat.le_refl _) _)
    (fun p hp => by simp only [List.mem_cons, List.not_mem_nil, or_false] at hp; rcases hp with rfl | rfl | rfl | rfl | rfl | rfl | rfl <;> rfl) (h.1.alloc7 x y z p q r v t N hN)
end Go.Proofs.Ytcfcohnkkgickaa
