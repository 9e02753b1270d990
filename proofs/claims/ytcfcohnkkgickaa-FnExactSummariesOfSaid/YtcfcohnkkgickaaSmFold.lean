/-
  The walks over the project's spread.plus, withRow, fold over rows and summaryOf.
-/
import Derived.Test.YtcfcohnkkgickaaRows
import Derived.Test.YtcfcohnkkgickaaKeep
import Derived.Test.YtcfcohnkkgickaaSmPlain
import Derived.Test.YtcfcohnkkgickaaHgImpl
import Derived.Test.YtcfcohnkkgickaaAl7
import Derived.Lib.MinMax
namespace Go.Proofs.Ytcfcohnkkgickaa
open Go.RowKit Num

def spv (x : Sp) : Value := .agg #[.int .i64 x.c, .int .i64 x.mn, .int .i64 x.mx, .int .i64 x.s]
theorem Kept.setB4 {W w : World} {g : Nat} {v0 v1 v2 v3 : Value} {l : List (Addr × Value)} (h : Kept W w ((⟨g, 0, none⟩, v0) :: (⟨g, 1, none⟩, v1) :: (⟨g, 2, none⟩, v2) :: (⟨g, 3, none⟩, v3) :: l)) (x0 x1 x2 x3 : Value) (hW : W.heap.size ≤ g) (hl : ∀ c ∈ l, c.1.block ≠ g) :
    Kept W ((((w.setCell ⟨g, 0, none⟩ x0).setCell ⟨g, 1, none⟩ x1).setCell ⟨g, 2, none⟩ x2).setCell ⟨g, 3, none⟩ x3) ((⟨g, 0, none⟩, x0) :: (⟨g, 1, none⟩, x1) :: (⟨g, 2, none⟩, x2) :: (⟨g, 3, none⟩, x3) :: l) := by
  have hl' : ∀ j, ∀ c ∈ l, c.1 ≠ ⟨g, j, none⟩ := fun j c hc e => hl c hc (by rw [e])
  have h0 := Kept.set (p := []) h x0 hW (by
    intro c hc
    simp only [List.cons_append, List.nil_append, List.mem_cons] at hc
    rcases hc with rfl | rfl | rfl | hc
    · simp
    · simp
    · simp
    · exact hl' 0 c hc)
  have h1 := Kept.set (p := [(⟨g, 0, none⟩, x0)]) h0 x1 hW (by
    intro c hc
    simp only [List.cons_append, List.nil_append, List.mem_cons] at hc
    rcases hc with rfl | rfl | rfl | hc
    · simp
    · simp
    · simp
    · exact hl' 1 c hc)
  have h2 := Kept.set (p := [(⟨g, 0, none⟩, x0), (⟨g, 1, none⟩, x1)]) h1 x2 hW (by
    intro c hc
    simp only [List.cons_append, List.nil_append, List.mem_cons] at hc
    rcases hc with rfl | rfl | rfl | hc
    · simp
    · simp
    · simp
    · exact hl' 2 c hc)
  have h3 := Kept.set (p := [(⟨g, 0, none⟩, x0), (⟨g, 1, none⟩, x1), (⟨g, 2, none⟩, x2)]) h2 x3 hW (by
    intro c hc
    simp only [List.cons_append, List.nil_append, List.mem_cons] at hc
    rcases hc with rfl | rfl | rfl | hc
    · simp
    · simp
    · simp
    · exact hl' 3 c hc)
  exact h3
theorem Kept.setB7 {W w : World} {g : Nat} {v0 v1 v2 v3 v4 v5 v6 : Value} {l : List (Addr × Value)} (h : Kept W w ((⟨g, 0, none⟩, v0) :: (⟨g, 1, none⟩, v1) :: (⟨g, 2, none⟩, v2) :: (⟨g, 3, none⟩, v3) :: (⟨g, 4, none⟩, v4) :: (⟨g, 5, none⟩, v5) :: (⟨g, 6, none⟩, v6) :: l)) (x0 x1 x2 x3 x4 x5 x6 : Value) (hW : W.heap.size ≤ g) (hl : ∀ c ∈ l, c.1.block ≠ g) :
    Kept W (((((((w.setCell ⟨g, 0, none⟩ x0).setCell ⟨g, 1, none⟩ x1).setCell ⟨g, 2, none⟩ x2).setCell ⟨g, 3, none⟩ x3).setCell ⟨g, 4, none⟩ x4).setCell ⟨g, 5, none⟩ x5).setCell ⟨g, 6, none⟩ x6) ((⟨g, 0, none⟩, x0) :: (⟨g, 1, none⟩, x1) :: (⟨g, 2, none⟩, x2) :: (⟨g, 3, none⟩, x3) :: (⟨g, 4, none⟩, x4) :: (⟨g, 5, none⟩, x5) :: (⟨g, 6, none⟩, x6) :: l) := by
  have hl' : ∀ j, ∀ c ∈ l, c.1 ≠ ⟨g, j, none⟩ := fun j c hc e => hl c hc (by rw [e])
  have h0 := Kept.set (p := []) h x0 hW (by
    intro c hc
    simp only [List.cons_append, List.nil_append, List.mem_cons] at hc
    rcases hc with rfl | rfl | rfl | rfl | rfl | rfl | hc
    · simp
    · simp
    · simp
    · simp
    · simp
    · simp
    · exact hl' 0 c hc)
  have h1 := Kept.set (p := [(⟨g, 0, none⟩, x0)]) h0 x1 hW (by
    intro c hc
    simp only [List.cons_append, List.nil_append, List.mem_cons] at hc
    rcases hc with rfl | rfl | rfl | rfl | rfl | rfl | hc
    · simp
    · simp
    · simp
    · simp
    · simp
    · simp
    · exact hl' 1 c hc)
  have h2 := Kept.set (p := [(⟨g, 0, none⟩, x0), (⟨g, 1, none⟩, x1)]) h1 x2 hW (by
    intro c hc
    simp only [List.cons_append, List.nil_append, List.mem_cons] at hc
    rcases hc with rfl | rfl | rfl | rfl | rfl | rfl | hc
    · simp
    · simp
    · simp
    · simp
    · simp
    · simp
    · exact hl' 2 c hc)
  have h3 := Kept.set (p := [(⟨g, 0, none⟩, x0), (⟨g, 1, none⟩, x1), (⟨g, 2, none⟩, x2)]) h2 x3 hW (by
    intro c hc
    simp only [List.cons_append, List.nil_append, List.mem_cons] at hc
    rcases hc with rfl | rfl | rfl | rfl | rfl | rfl | hc
    · simp
    · simp
    · simp
    · simp
    · simp
    · simp
    · exact hl' 3 c hc)
  have h4 := Kept.set (p := [(⟨g, 0, none⟩, x0), (⟨g, 1, none⟩, x1), (⟨g, 2, none⟩, x2), (⟨g, 3, none⟩, x3)]) h3 x4 hW (by
    intro c hc
    simp only [List.cons_append, List.nil_append, List.mem_cons] at hc
    rcases hc with rfl | rfl | rfl | rfl | rfl | rfl | hc
    · simp
    · simp
    · simp
    · simp
    · simp
    · simp
    · exact hl' 4 c hc)
  have h5 := Kept.set (p := [(⟨g, 0, none⟩, x0), (⟨g, 1, none⟩, x1), (⟨g, 2, none⟩, x2), (⟨g, 3, none⟩, x3), (⟨g, 4, none⟩, x4)]) h4 x5 hW (by
    intro c hc
    simp only [List.cons_append, List.nil_append, List.mem_cons] at hc
    rcases hc with rfl | rfl | rfl | rfl | rfl | rfl | hc
    · simp
    · simp
    · simp
    · simp
    · simp
    · simp
    · exact hl' 5 c hc)
  have h6 := Kept.set (p := [(⟨g, 0, none⟩, x0), (⟨g, 1, none⟩, x1), (⟨g, 2, none⟩, x2), (⟨g, 3, none⟩, x3), (⟨g, 4, none⟩, x4), (⟨g, 5, none⟩, x5)]) h5 x6 hW (by
    intro c hc
    simp only [List.cons_append, List.nil_append, List.mem_cons] at hc
    rcases hc with rfl | rfl | rfl | rfl | rfl | rfl | hc
    · simp
    · simp
    · simp
    · simp
    · simp
    · simp
    · exact hl' 6 c hc)
  exact h6
theorem SliceRep.setB7 {α : Type} {E : Ty α} {w : World} {v : Value} {l : List α} {fp : List Nat} (h : SliceRep E w v l fp) (g : Nat) (x0 x1 x2 x3 x4 x5 x6 : Value) (hg : ∀ k ∈ fp, k ≠ g) : SliceRep E (((((((w.setCell ⟨g, 0, none⟩ x0).setCell ⟨g, 1, none⟩ x1).setCell ⟨g, 2, none⟩ x2).setCell ⟨g, 3, none⟩ x3).setCell ⟨g, 4, none⟩ x4).setCell ⟨g, 5, none⟩ x5).setCell ⟨g, 6, none⟩ x6) v l fp :=
  ((((((h.set ⟨g, 0, none⟩ x0 hg).set ⟨g, 1, none⟩ x1 hg).set ⟨g, 2, none⟩ x2 hg).set ⟨g, 3, none⟩ x3 hg).set ⟨g, 4, none⟩ x4 hg).set ⟨g, 5, none⟩ x5 hg).set ⟨g, 6, none⟩ x6 hg

set_option maxRecDepth 8000 in
set_option maxHeartbeats 6400000 in
theorem impl_spPlus (c m x s c' m' x' s' : Int) (w : World) (h1 : 0 ≤ c ∧ c ≤ 2000000) (h2 : 0 ≤ c' ∧ c' ≤ 2000000) (h3 : -1000000000 ≤ s ∧ s ≤ 1000000000) (h4 : -1000000000 ≤ s' ∧ s' ≤ 1000000000) :
    Calls Try.prog 121 #[.agg #[.int .i64 c, .int .i64 m, .int .i64 x, .int .i64 s], .agg #[.int .i64 c', .int .i64 m', .int .i64 x', .int .i64 s']] w fun e w' => e = .returned (spv (Sp.plus ⟨c, m, x, s⟩ ⟨c', m', x', s'⟩)) ∧ Below w.heap.size w w' := by
  by_cases q : c = 0
  · have AN := Lib.hid (Sp.plus_l (x := ⟨c, m, x, s⟩) (y := ⟨c', m', x', s'⟩) q)
    have q0 : (c == 0) = true := beq_iff_eq.2 q
    clear q h1 h2 h3 h4
    go_enter Try.func121, Try.ntmps121
    have K0 := ((((Kept.start w).alloc4 (.int .i64 c) (.int .i64 m) (.int .i64 x) (.int .i64 s) 142 _ rfl).alloc4 (.int .i64 c') (.int .i64 m') (.int .i64 x') (.int .i64 s') 142 (w.heap.size + 1) (by simp)).alloc4 (.int .i64 c') (.int .i64 m') (.int .i64 x') (.int .i64 s') 142 (w.heap.size + 1 + 1) (by simp))
    go_wp2
    exact bodyPost_ret (v := .agg #[.int .i64 c', .int .i64 m', .int .i64 x', .int .i64 s']) (by simp [results, Try.results121, go_sem]) rfl ⟨by rw [AN.out]; rfl, K0.1⟩
  · have q0 : (c == 0) = false := beq_eq_false_iff_ne.2 q
    by_cases q' : c' = 0
    · have AN := Lib.hid (Sp.plus_r (x := ⟨c, m, x, s⟩) (y := ⟨c', m', x', s'⟩) q q')
      have q1 : (c' == 0) = true := beq_iff_eq.2 q'
      clear q q' h1 h2 h3 h4
      go_enter Try.func121, Try.ntmps121
      have K0 := ((((Kept.start w).alloc4 (.int .i64 c) (.int .i64 m) (.int .i64 x) (.int .i64 s) 142 _ rfl).alloc4 (.int .i64 c') (.int .i64 m') (.int .i64 x') (.int .i64 s') 142 (w.heap.size + 1) (by simp)).alloc4 (.int .i64 c) (.int .i64 m) (.int .i64 x) (.int .i64 s) 142 (w.heap.size + 1 + 1) (by simp))
      go_wp2
      exact bodyPost_ret (v := .agg #[.int .i64 c, .int .i64 m, .int .i64 x, .int .i64 s]) (by simp [results, Try.results121, go_sem]) rfl ⟨by rw [AN.out]; rfl, K0.1⟩
    · have AN := Lib.hid (Sp.plus_b (x := ⟨c, m, x, s⟩) (y := ⟨c', m', x', s'⟩) q q')
      have q1 : (c' == 0) = false := beq_eq_false_iff_ne.2 q'
      obtain ⟨h10, h11⟩ := h1
      obtain ⟨h20, h21⟩ := h2
      obtain ⟨h30, h31⟩ := h3
      obtain ⟨h40, h41⟩ := h4
      have hw1 : IntKind.i64.wrap (c + c') = c + c' := by rw [IntKind.wrap_i64]; omega
      have hw2 : IntKind.i64.wrap (s + s') = s + s' := by rw [IntKind.wrap_i64]; omega
      clear q q' h10 h11 h20 h21 h30 h31 h40 h41
      go_enter Try.func121, Try.ntmps121
      have K0 := ((((Kept.start w).alloc4 (.int .i64 c) (.int .i64 m) (.int .i64 x) (.int .i64 s) 142 _ rfl).alloc4 (.int .i64 c') (.int .i64 m') (.int .i64 x') (.int .i64 s') 142 (w.heap.size + 1) (by simp)).alloc4 (.int .i64 (c + c')) (.int .i64 (min m m')) (.int .i64 (max x x')) (.int .i64 (s + s')) 142 (w.heap.size + 1 + 1) (by simp))
      go_wp2
      exact bodyPost_ret (v := .agg #[.int .i64 (c + c'), .int .i64 (min m m'), .int .i64 (max x x'), .int .i64 (s + s')]) (by simp [results, Try.results121, go_sem]) rfl ⟨by rw [AN.out]; rfl, K0.1⟩

set_option maxRecDepth 8000 in
set_option maxHeartbeats 6400000 in
theorem impl_withRow (c m x s i g y v : Int) (nl : Bool) (w : World) (h1 : 0 ≤ c ∧ c ≤ 2000000) (h3 : -1000000000 ≤ s ∧ s ≤ 1000000000) (h4 : -99 ≤ v ∧ v ≤ 99) :
    Calls Try.prog 113 #[.agg #[.int .i64 c, .int .i64 m, .int .i64 x, .int .i64 s], .agg #[.int .i64 i, .int .i64 g, .int .i64 y, .int .i64 v, .bool nl]] w fun e w' => e = .returned (spv (Sp.row ⟨c, m, x, s⟩ ⟨i, g, y, v, nl⟩)) ∧ Below w.heap.size w w' := by
  cases nl
  · have PL := fun w => impl_spPlus c m x s 1 v v v w h1 (by decide) h3 (by omega)
    have AN := Lib.hid (show Sp.row ⟨c, m, x, s⟩ ⟨i, g, y, v, false⟩ = Sp.plus ⟨c, m, x, s⟩ ⟨1, v, v, v⟩ from rfl)
    obtain ⟨⟨c2, m2, x2, s2⟩, hR⟩ : ∃ z : Sp, z = Sp.plus ⟨c, m, x, s⟩ ⟨1, v, v, v⟩ := ⟨_, rfl⟩
    simp only [← hR] at PL
    have PLL := Lib.hid PL
    have HR := Lib.hid hR
    clear PL hR h1 h3 h4
    go_enter Try.func113, Try.ntmps113
    have K0 := ((((Kept.start w).alloc4 (.int .i64 c) (.int .i64 m) (.int .i64 x) (.int .i64 s) 142 _ rfl).alloc5 (.int .i64 i) (.int .i64 g) (.int .i64 y) (.int .i64 v) (.bool false) 36 (w.heap.size + 1) (by simp)).alloc4 (.int .i64 0) (.int .i64 0) (.int .i64 0) (.int .i64 0) 142 (w.heap.size + 1 + 1) (by simp))
    go_wp2_with fail
    refine (PLL.out _).mono ?_
    rintro e w1 ⟨rfl, hb⟩
    have K1 := K0.step hb
    have K2 := K1.setB4 (.int .i64 c2) (.int .i64 m2) (.int .i64 x2) (.int .i64 s2) (by omega) (by simp only [List.mem_cons, List.not_mem_nil, or_false]; rintro c9 (rfl | rfl | rfl | rfl | rfl | rfl | rfl | rfl | rfl) <;> (dsimp only; omega))
    clear hb K0
    have k0 := K1.get 0 rfl
    have k1 := K1.get 1 rfl
    have k2 := K1.get 2 rfl
    have k3 := K1.get 3 rfl
    have f0 := K1.fz 0 rfl
    have f1 := K1.fz 1 rfl
    have f2 := K1.fz 2 rfl
    have f3 := K1.fz 3 rfl
    have z := K1.lt 0 rfl
    have HK := Lib.hid K2.1
    clear K1 K2
    unfold spv
    go_wp2
    exact bodyPost_ret (v := .agg #[.int .i64 c2, .int .i64 m2, .int .i64 x2, .int .i64 s2]) (by simp [results, Try.results113, go_sem, k0, k1, k2, k3, z]) rfl ⟨by rw [AN.out, ← HR.out]; rfl, HK.out⟩
  · clear h1 h3 h4
    go_enter Try.func113, Try.ntmps113
    have K0 := ((((Kept.start w).alloc4 (.int .i64 c) (.int .i64 m) (.int .i64 x) (.int .i64 s) 142 _ rfl).alloc5 (.int .i64 i) (.int .i64 g) (.int .i64 y) (.int .i64 v) (.bool true) 36 (w.heap.size + 1) (by simp)).alloc4 (.int .i64 c) (.int .i64 m) (.int .i64 x) (.int .i64 s) 142 (w.heap.size + 1 + 1) (by simp))
    go_wp2
    exact bodyPost_ret (v := .agg #[.int .i64 c, .int .i64 m, .int .i64 x, .int .i64 s]) (by simp [results, Try.results113, go_sem]) rfl ⟨rfl, K0.1⟩

set_option maxRecDepth 8000 in
set_option maxHeartbeats 6400000 in
theorem impl_foldR (ao : Option Addr) (n cap : Nat) (l : List Rw) (w : World) (hl : l.length = n) (hn : n ≤ 1048576) (hok : ∀ k (hk : k < l.length), rowB l[k].i l[k].g l[k].y l[k].x l[k].nl = true) (hV : RowsVal w ao n (Rn l)) :
    Calls Try.prog 112 #[.slice ao n cap, .agg #[.int .i64 0, .int .i64 0, .int .i64 0, .int .i64 0], .func (.func 113) #[] #[]] w fun e w' => e = .returned (spv (spL l)) ∧ Below w.heap.size w w' := by
  have HO := Lib.hid hV
  have HL := Lib.hid hl
  have HOK := Lib.hid hok
  clear hV hl hok
  have hnI : (n : Int) ≤ 1048576 := by omega
  go_enter Try.func112, Try.ntmps112
  have K0 := (((Kept.start w).alloc4 (.int .i64 0) (.int .i64 0) (.int .i64 0) (.int .i64 0) 142 _ rfl).alloc4 (.int .i64 0) (.int .i64 0) (.int .i64 0) (.int .i64 0) 142 (w.heap.size + 1) (by simp)).alloc4 (.int .i64 0) (.int .i64 0) (.int .i64 0) (.int .i64 0) 142 (w.heap.size + 1 + 1) (by simp)
  go_wp2_with fail
  go_loopw [13] (fun iv wr => ∃ k : Nat, k ≤ n ∧ iv = .int .i64 k ∧ Hid (Kept w wr [(⟨w.heap.size + 1 + 1, 0, none⟩, .int .i64 (spL (l.take k)).c), (⟨w.heap.size + 1 + 1, 1, none⟩, .int .i64 (spL (l.take k)).mn), (⟨w.heap.size + 1 + 1, 2, none⟩, .int .i64 (spL (l.take k)).mx), (⟨w.heap.size + 1 + 1, 3, none⟩, .int .i64 (spL (l.take k)).s), (⟨w.heap.size + 1, 0, none⟩, .int .i64 0), (⟨w.heap.size + 1, 1, none⟩, .int .i64 0), (⟨w.heap.size + 1, 2, none⟩, .int .i64 0), (⟨w.heap.size + 1, 3, none⟩, .int .i64 0), (⟨w.heap.size, 0, none⟩, .int .i64 0), (⟨w.heap.size, 1, none⟩, .int .i64 0), (⟨w.heap.size, 2, none⟩, .int .i64 0), (⟨w.heap.size, 3, none⟩, .int .i64 0)])) (fun iv _ => n - (intOf iv).toNat)
  case atStart => exact ⟨0, Nat.zero_le _, rfl, K0⟩
  case round =>
    obtain ⟨k, hk, rfl, HK⟩ := hrel
    clear K0
    obtain ⟨ac, hac⟩ : ∃ z, z = spL (l.take k) := ⟨_, rfl⟩
    have HKK := HK.out
    rw [← hac] at HKK
    have BD := spL_bound HOK.out k (by rw [HL.out]; exact hk)
    rw [← hac] at BD
    obtain ⟨c, m, x, s⟩ := ac
    simp only at HKK
    have HAC := Lib.hid hac
    obtain ⟨b0, b1, _, _, _, _, _, _, b8, b9⟩ := BD
    simp only at b0 b1 b8 b9
    clear hac
    have a0 := HKK.get 0 rfl
    have a1 := HKK.get 1 rfl
    have a2 := HKK.get 2 rfl
    have a3 := HKK.get 3 rfl
    by_cases hlt : k < n
    · have hkI : (k : Int) < (n : Int) := by omega
      obtain ⟨gg, rfl, hg, hR⟩ := (HO.out.below HKK.1).resolve_left (by omega)
      have hrow := hR k hlt
      obtain ⟨r, hr⟩ : ∃ r, r = Rn l k := ⟨_, rfl⟩
      rw [← hr] at hrow
      have hrk : rowB r.i r.g r.y r.x r.nl = true := by rw [hr, Rn_at (by rw [HL.out]; exact hlt)]; exact HOK.out k (by rw [HL.out]; exact hlt)
      have NX := Lib.hid (show spL (l.take (k + 1)) = Sp.row ⟨c, m, x, s⟩ r by rw [spL_take (by rw [HL.out]; exact hlt), ← HAC.out, hr, Rn_at (by rw [HL.out]; exact hlt)])
      obtain ⟨c0, c1, c2, c3, c4⟩ := hrow
      obtain ⟨ri, rg, ry, rx, rn⟩ := r
      simp only at c0 c1 c2 c3 c4 hrk
      have WR := fun w => impl_withRow c m x s ri rg ry rx rn w (by omega) (by omega) (rowB_of hrk).2.2.2.1
      obtain ⟨⟨c9, m9, x9, s9⟩, hR9⟩ : ∃ z : Sp, z = Sp.row ⟨c, m, x, s⟩ ⟨ri, rg, ry, rx, rn⟩ := ⟨_, rfl⟩
      simp only [← hR9] at WR
      rw [← hR9] at NX
      have HWR := Lib.hid WR
      have K5 := HKK.alloc5 (.int .i64 ri) (.int .i64 rg) (.int .i64 ry) (.int .i64 rx) (.bool rn) 36 _ rfl
      have e0 := K5.get 5 rfl
      have e1 := K5.get 6 rfl
      have e2 := K5.get 7 rfl
      have e3 := K5.get 8 rfl
      clear WR hR9 hr hrk hR HKK b0 b1 b8 b9
      go_wp2_with fail
      refine (HWR.out _).mono ?_
      rintro e w2 ⟨rfl, hb⟩
      have K6 := K5.step hb
      have K7 := (K6.sub (l' := [(⟨w.heap.size + 1 + 1, 0, none⟩, .int .i64 c), (⟨w.heap.size + 1 + 1, 1, none⟩, .int .i64 m), (⟨w.heap.size + 1 + 1, 2, none⟩, .int .i64 x), (⟨w.heap.size + 1 + 1, 3, none⟩, .int .i64 s), (⟨w.heap.size + 1, 0, none⟩, .int .i64 0), (⟨w.heap.size + 1, 1, none⟩, .int .i64 0), (⟨w.heap.size + 1, 2, none⟩, .int .i64 0), (⟨w.heap.size + 1, 3, none⟩, .int .i64 0), (⟨w.heap.size, 0, none⟩, .int .i64 0), (⟨w.heap.size, 1, none⟩, .int .i64 0), (⟨w.heap.size, 2, none⟩, .int .i64 0), (⟨w.heap.size, 3, none⟩, .int .i64 0)]) (by intro p9 hp9; simp only [List.mem_cons, List.not_mem_nil, or_false] at hp9; rcases hp9 with rfl | rfl | rfl | rfl | rfl | rfl | rfl | rfl | rfl | rfl | rfl | rfl <;> simp)).setB4 (.int .i64 c9) (.int .i64 m9) (.int .i64 x9) (.int .i64 s9) (by omega) (by simp only [List.mem_cons, List.not_mem_nil, or_false]; rintro c99 (rfl | rfl | rfl | rfl | rfl | rfl | rfl | rfl) <;> (dsimp only; omega))
      have HK7 := Lib.hid (show Kept w _ [(⟨w.heap.size + 1 + 1, 0, none⟩, .int .i64 (spL (l.take (k + 1))).c), (⟨w.heap.size + 1 + 1, 1, none⟩, .int .i64 (spL (l.take (k + 1))).mn), (⟨w.heap.size + 1 + 1, 2, none⟩, .int .i64 (spL (l.take (k + 1))).mx), (⟨w.heap.size + 1 + 1, 3, none⟩, .int .i64 (spL (l.take (k + 1))).s), (⟨w.heap.size + 1, 0, none⟩, .int .i64 0), (⟨w.heap.size + 1, 1, none⟩, .int .i64 0), (⟨w.heap.size + 1, 2, none⟩, .int .i64 0), (⟨w.heap.size + 1, 3, none⟩, .int .i64 0), (⟨w.heap.size, 0, none⟩, .int .i64 0), (⟨w.heap.size, 1, none⟩, .int .i64 0), (⟨w.heap.size, 2, none⟩, .int .i64 0), (⟨w.heap.size, 3, none⟩, .int .i64 0)] by rw [NX.out]; exact K7)
      clear a0 a1 a2 a3 c0 c1 c2 c3 c4 e0 e1 e2 e3 hb K5 K7
      have k0 := K6.get 5 rfl
      have k1 := K6.get 6 rfl
      have k2 := K6.get 7 rfl
      have k3 := K6.get 8 rfl
      have f0 := K6.fz 5 rfl
      have f1 := K6.fz 6 rfl
      have f2 := K6.fz 7 rfl
      have f3 := K6.fz 8 rfl
      clear K6
      unfold spv
      go_wp2
      go_roundw
      case rel => exact ⟨k + 1, by omega, by go_num, HK7.out⟩
      case measure => simp [intOf]; omega
    · obtain rfl : k = n := by omega
      have hsd : decide ((k : Int) < (k : Int)) = false := decide_eq_false (by omega)
      have AN := Lib.hid (show spL l = ⟨c, m, x, s⟩ by rw [HAC.out, show l.take k = l from by rw [← HL.out, List.take_length]])
      have K7 := (HKK.sub (l' := [(⟨w.heap.size + 1, 0, none⟩, .int .i64 0), (⟨w.heap.size + 1, 1, none⟩, .int .i64 0), (⟨w.heap.size + 1, 2, none⟩, .int .i64 0), (⟨w.heap.size + 1, 3, none⟩, .int .i64 0), (⟨w.heap.size + 1 + 1, 0, none⟩, .int .i64 c), (⟨w.heap.size + 1 + 1, 1, none⟩, .int .i64 m), (⟨w.heap.size + 1 + 1, 2, none⟩, .int .i64 x), (⟨w.heap.size + 1 + 1, 3, none⟩, .int .i64 s)]) (by intro p9 hp9; simp only [List.mem_cons, List.not_mem_nil, or_false] at hp9; rcases hp9 with rfl | rfl | rfl | rfl | rfl | rfl | rfl | rfl <;> simp)).setB4 (.int .i64 c) (.int .i64 m) (.int .i64 x) (.int .i64 s) (by omega) (by simp only [List.mem_cons, List.not_mem_nil, or_false]; rintro c99 (rfl | rfl | rfl | rfl) <;> (dsimp only; omega))
      have HK7 := Lib.hid K7.1
      have k0 := HKK.get 4 rfl
      have k1 := HKK.get 5 rfl
      have k2 := HKK.get 6 rfl
      have k3 := HKK.get 7 rfl
      have f0 := HKK.fz 4 rfl
      have f1 := HKK.fz 5 rfl
      have f2 := HKK.fz 6 rfl
      have f3 := HKK.fz 7 rfl
      have z := HKK.lt 4 rfl
      clear K7 HKK
      go_wp2
      exact bodyPost_ret (v := .agg #[.int .i64 c, .int .i64 m, .int .i64 x, .int .i64 s]) (by simp [results, Try.results112, go_sem, k0, k1, k2, k3, z]) rfl ⟨by rw [AN.out]; rfl, HK7.out⟩

set_option maxRecDepth 8000 in
set_option maxHeartbeats 6400000 in
theorem impl_sumOf (b : Int) (ao : Option Addr) (n cap : Nat) (l : List Int) (c m x s : Int) (w : World) (hl : l.length = n) (hn : n ≤ 1099511627776) (hV : IntsVal w ao l) (hO : HgOk l) (hc : 0 ≤ c ∧ c ≤ 2000000) :
    Calls Try.prog 111 #[.int .i64 b, .slice ao n cap, .agg #[.int .i64 c, .int .i64 m, .int .i64 x, .int .i64 s]] w fun e w' => e = .returned (.agg (sc (sumOf b l ⟨c, m, x, s⟩) (.slice ao n cap)).toArray) ∧ Below w.heap.size w w' := by
  have TO := impl_totV ao n cap l
  have HV := Lib.hid hV
  have h99 := hO.2.2
  have h0 := hO.2.1.sum.1
  have TT := fun w hV => impl_totV ao n cap l w hl hn hV
  rw [totH_of hO] at TT
  obtain ⟨t, ht⟩ : ∃ t, t = hsum l := ⟨_, rfl⟩
  rw [← ht] at TT h99 h0
  have AN := Lib.hid (show (sc (sumOf b l ⟨c, m, x, s⟩) (.slice ao n cap)) = [.int .i64 b, .int .i64 t, .int .i64 (t - c), .int .i64 m, .int .i64 x, .int .i64 s, .slice ao n cap] by rw [ht]; rfl)
  have HTT := Lib.hid TT
  obtain ⟨hc0, hc1⟩ := hc
  have hw : IntKind.i64.wrap (t - c) = t - c := by rw [IntKind.wrap_i64]; omega
  clear TO TT ht hV hl hO h99 h0 hc0 hc1
  go_enter Try.func111, Try.ntmps111
  have K0 := ((Kept.start w).alloc4 (.int .i64 c) (.int .i64 m) (.int .i64 x) (.int .i64 s) 142 _ rfl).alloc7 (.int .i64 0) (.int .i64 0) (.int .i64 0) (.int .i64 0) (.int .i64 0) (.int .i64 0) (.slice none 0 0) 77 (w.heap.size + 1) (by simp)
  go_wp2_with fail
  refine (HTT.out _ (HV.out.below K0.1)).mono ?_
  rintro e w1 ⟨rfl, hb⟩
  have K1 := K0.step hb
  have K2 := K1.setB7 (.int .i64 b) (.int .i64 t) (.int .i64 (t - c)) (.int .i64 m) (.int .i64 x) (.int .i64 s) (.slice ao n cap) (by omega) (by simp only [List.mem_cons, List.not_mem_nil, or_false]; rintro c9 (rfl | rfl | rfl | rfl) <;> (dsimp only; omega))
  have HK2 := Lib.hid K2.1
  clear hb K0 K2
  have k0 := K1.get 0 rfl
  have k1 := K1.get 1 rfl
  have k2 := K1.get 2 rfl
  have k3 := K1.get 3 rfl
  have k4 := K1.get 4 rfl
  have k5 := K1.get 5 rfl
  have k6 := K1.get 6 rfl
  have k7 := K1.get 7 rfl
  have k8 := K1.get 8 rfl
  have k9 := K1.get 9 rfl
  have k10 := K1.get 10 rfl
  have f0 := K1.fz 0 rfl
  have f1 := K1.fz 1 rfl
  have f2 := K1.fz 2 rfl
  have f3 := K1.fz 3 rfl
  have f4 := K1.fz 4 rfl
  have f5 := K1.fz 5 rfl
  have f6 := K1.fz 6 rfl
  have z := K1.lt 0 rfl
  clear K1
  go_wp2
  exact bodyPost_ret (v := .agg #[.int .i64 b, .int .i64 t, .int .i64 (t - c), .int .i64 m, .int .i64 x, .int .i64 s, .slice ao n cap]) (by simp [results, Try.results111, go_sem, k0, k1, k2, k3, k4, k5, k6, z]) rfl ⟨by rw [AN.out], HK2.out⟩
end Go.Proofs.Ytcfcohnkkgickaa
