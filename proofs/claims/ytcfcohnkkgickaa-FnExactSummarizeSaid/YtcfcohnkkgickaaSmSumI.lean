/-
  The walk over the project's Summarize.
-/
import Derived.Test.YtcfcohnkkgickaaRows
import Derived.Test.YtcfcohnkkgickaaKeep
import Derived.Test.YtcfcohnkkgickaaSmFold
import Derived.Test.YtcfcohnkkgickaaHgHistI
import Derived.Test.YtcfcohnkkgickaaBvImpl
import Derived.Test.YtcfcohnkkgickaaInv
namespace Go.Proofs.Ytcfcohnkkgickaa
open Go.RowKit Num

/-- What a function leaves that hands back a summary of its own. -/
def SmOut (b c u mn mx sm : Int) (h : List Int) (w : World) (e : Ending) (w' : World) : Prop :=
  ∃ v fp, e = .returned (.agg #[.int .i64 b, .int .i64 c, .int .i64 u, .int .i64 mn, .int .i64 mx, .int .i64 sm, v]) ∧ SliceRep intTy w' v h fp ∧ fp.Nodup ∧ (∀ k ∈ fp, w.heap.size ≤ k) ∧ Below w.heap.size w w'
theorem rowsVal_nil (w : World) (ao : Option Addr) (R : Nat → Rw) : RowsVal w ao 0 R := .inl rfl
/-- What Summarize answers, by its histogram and what the values come to. -/
theorem sumB_of {id : Int} {l : List Rw} (h : blkB id l.length (Rn l) = true) : sumB id l = sumOf id (histL l) (spL l) := by
  obtain ⟨_, h2, h3⟩ := blkB_of h
  rw [sumB_t h]
  unfold sumOf
  rw [(hist_ok (rows_ok h2) h3).2]
theorem sumB_no {id : Int} {l : List Rw} (h : blkB id l.length (Rn l) = false) : sumB id l = sumOf 0 (histL []) (spL []) := by
  rw [sumB_f h]
  rfl

def suI0 : Oper := { dst := some 7, op := Go.Op.fieldAddr 80 (Go.Operand.tmp 1) 0, type := 0, pos := "l09_summary.go:70", after := #[], guard := none }
def suI1 : Oper := { dst := some 8, op := Go.Op.load 3 (Go.Operand.tmp 7), type := 3, pos := "l09_summary.go:70", after := #[{ on := 0, ground := Go.Ground.data }], guard := none }
def suI2 : Oper := { dst := some 9, op := Go.Op.fieldAddr 80 (Go.Operand.tmp 1) 1, type := 0, pos := "l09_summary.go:70", after := #[], guard := none }
def suI3 : Oper := { dst := some 10, op := Go.Op.load 57 (Go.Operand.tmp 9), type := 57, pos := "l09_summary.go:70", after := #[{ on := 2, ground := Go.Ground.data }], guard := none }
def suI4 : Oper := { dst := some 11, op := Go.Op.call { callee := Go.Callee.value (Go.Operand.func 32), args := #[Go.Operand.tmp 10], argTypes := #[57] }, type := 45, pos := "l09_summary.go:70", after := #[{ on := 3, ground := Go.Ground.data }], guard := none }
def suI5 : Oper := { dst := some 12, op := Go.Op.fieldAddr 80 (Go.Operand.tmp 1) 1, type := 0, pos := "l09_summary.go:70", after := #[], guard := none }
def suI6 : Oper := { dst := some 13, op := Go.Op.load 57 (Go.Operand.tmp 12), type := 57, pos := "l09_summary.go:70", after := #[{ on := 5, ground := Go.Ground.data }], guard := none }
def suI7 : Oper := { dst := some 14, op := Go.Op.build 142 #[], type := 142, pos := "l09_summary.go:70", after := #[], guard := none }
def suI8 : Oper := { dst := some 15, op := Go.Op.call { callee := Go.Callee.value (Go.Operand.func 112), args := #[Go.Operand.tmp 13, Go.Operand.tmp 14, Go.Operand.func 113], argTypes := #[57, 142, 144] }, type := 142, pos := "l09_summary.go:70", after := #[{ on := 6, ground := Go.Ground.data }, { on := 7, ground := Go.Ground.data }, { on := 4, ground := Go.Ground.chain }], guard := none }
def suI9 : Oper := { dst := some 16, op := Go.Op.call { callee := Go.Callee.value (Go.Operand.func 111), args := #[Go.Operand.tmp 8, Go.Operand.tmp 11, Go.Operand.tmp 15], argTypes := #[3, 45, 142] }, type := 77, pos := "l09_summary.go:70", after := #[{ on := 1, ground := Go.Ground.data }, { on := 4, ground := Go.Ground.data }, { on := 8, ground := Go.Ground.data }, { on := 8, ground := Go.Ground.chain }], guard := none }
def suI10 : Oper := { dst := none, op := Go.Op.store 77 (Go.Operand.tmp 2) (Go.Operand.tmp 16), type := 0, pos := "l09_summary.go:70", after := #[{ on := 9, ground := Go.Ground.data }, { on := 9, ground := Go.Ground.chain }, { on := 0, ground := Go.Ground.phase }, { on := 1, ground := Go.Ground.phase }, { on := 2, ground := Go.Ground.phase }, { on := 3, ground := Go.Ground.phase }, { on := 4, ground := Go.Ground.phase }, { on := 5, ground := Go.Ground.phase }, { on := 6, ground := Go.Ground.phase }, { on := 7, ground := Go.Ground.phase }, { on := 8, ground := Go.Ground.phase }, { on := 9, ground := Go.Ground.phase }], guard := none }
set_option maxRecDepth 8000 in
set_option maxHeartbeats 6400000 in
theorem impl_sumV (id : Int) (ao : Option Addr) (n cap : Nat) (l : List Rw) (w : World) (hl : l.length = n) (hn : n ≤ 1048576) (hV : RowsVal w ao n (Rn l)) :
    Calls Try.prog 51 #[.agg #[.int .i64 id, .slice ao n cap]] w (SmOut (sumB id l).b (sumB id l).c (sumB id l).u (sumB id l).mn (sumB id l).mx (sumB id l).sm (sumB id l).h w) := by
  have BV := fun w hV => impl_bvV id ao n cap (Rn l) w (by omega) hV
  obtain ⟨v, hv⟩ : ∃ v, v = blkB id n (Rn l) := ⟨_, rfl⟩
  simp only [← hv] at BV
  have HBV := Lib.hid BV
  have HV := Lib.hid hV
  have HVV := Lib.hid hv
  clear BV hV hv
  cases v
  · skip
    have hAN := sumB_no (id := id) (l := l) (by rw [hl]; exact HVV.out.symm)
    have hOK : HgOk (histL []) := zero12_ok.1
    have hFC : 0 ≤ (spL []).c ∧ (spL []).c ≤ 2000000 := by decide
    have hRO : ∀ k (hk : k < ([] : List Rw).length), rowB ([] : List Rw)[k].i ([] : List Rw)[k].g ([] : List Rw)[k].y ([] : List Rw)[k].x ([] : List Rw)[k].nl = true := fun k hk => by simp at hk
    obtain ⟨HH, hHH⟩ : ∃ H, H = histL [] := ⟨_, rfl⟩
    obtain ⟨⟨fc, fm, fx, fs⟩, hSP⟩ : ∃ z : Sp, z = spL [] := ⟨_, rfl⟩
    obtain ⟨⟨bb, cc, uu, m1, m2, s1, h9⟩, hSS⟩ : ∃ z : Sm, z = sumOf 0 (histL []) (spL []) := ⟨_, rfl⟩
    have hh9 : h9 = histL [] := by have h := congrArg Sm.h hSS; exact h
    have EB := Lib.hid (show (sumB id l).b = bb by rw [hAN, ← hSS])
    have EC := Lib.hid (show (sumB id l).c = cc by rw [hAN, ← hSS])
    have EU := Lib.hid (show (sumB id l).u = uu by rw [hAN, ← hSS])
    have EM := Lib.hid (show (sumB id l).mn = m1 by rw [hAN, ← hSS])
    have EX := Lib.hid (show (sumB id l).mx = m2 by rw [hAN, ← hSS])
    have ES := Lib.hid (show (sumB id l).sm = s1 by rw [hAN, ← hSS])
    have EH := Lib.hid (show (sumB id l).h = HH by rw [hAN, hHH]; rfl)
    have SO : Hid (∀ (ao : Option Addr) (cap : Nat) (w : World), IntsVal w ao HH → Calls Try.prog 111 #[.int .i64 0, .slice ao HH.length cap, .agg #[.int .i64 fc, .int .i64 fm, .int .i64 fx, .int .i64 fs]] w fun e w' => e = .returned (.agg #[.int .i64 bb, .int .i64 cc, .int .i64 uu, .int .i64 m1, .int .i64 m2, .int .i64 s1, .slice ao HH.length cap]) ∧ Below w.heap.size w w') := (fun ao cap w hV => by
      have h := impl_sumOf 0 ao HH.length cap HH fc fm fx fs w rfl (by rw [hHH, histL_len]; decide) hV (by rw [hHH]; exact hOK) (by have := hFC; rw [← hSP] at this; exact this)
      have e1 : sumOf 0 HH ⟨fc, fm, fx, fs⟩ = ⟨bb, cc, uu, m1, m2, s1, HH⟩ := by rw [hHH, hSP, ← hSS, hh9]
      rw [e1] at h
      exact h : ∀ (ao : Option Addr) (cap : Nat) (w : World), IntsVal w ao HH → Calls Try.prog 111 #[.int .i64 0, .slice ao HH.length cap, .agg #[.int .i64 fc, .int .i64 fm, .int .i64 fx, .int .i64 fs]] w fun e w' => e = .returned (.agg #[.int .i64 bb, .int .i64 cc, .int .i64 uu, .int .i64 m1, .int .i64 m2, .int .i64 s1, .slice ao HH.length cap]) ∧ Below w.heap.size w w')
    have HI := Lib.hid (fun w hV => impl_histV none 0 0 [] w rfl (by decide) hV)
    rw [← hHH] at HI
    have HFO : Hid (∀ w : World, RowsVal w none 0 (Rn []) → Calls Try.prog 112 #[.slice none 0 0, .agg #[.int .i64 0, .int .i64 0, .int .i64 0, .int .i64 0], .func (.func 113) #[] #[]] w fun e w' => e = .returned (.agg #[.int .i64 fc, .int .i64 fm, .int .i64 fx, .int .i64 fs]) ∧ Below w.heap.size w w') := (fun w hV => by
      have h := impl_foldR none 0 0 [] w rfl (by decide) hRO hV
      rw [← hSP] at h
      exact h : ∀ w : World, RowsVal w none 0 (Rn []) → Calls Try.prog 112 #[.slice none 0 0, .agg #[.int .i64 0, .int .i64 0, .int .i64 0, .int .i64 0], .func (.func 113) #[] #[]] w fun e w' => e = .returned (.agg #[.int .i64 fc, .int .i64 fm, .int .i64 fx, .int .i64 fs]) ∧ Below w.heap.size w w')
    clear hSP hSS hh9 hHH hAN hOK hFC hRO
    clear hl
    go_enter Try.func51, Try.ntmps51
    have K0 := ((Kept.start w).alloc2 (.int .i64 id) (.slice ao n cap) 80 _ rfl).alloc7 (.int .i64 0) (.int .i64 0) (.int .i64 0) (.int .i64 0) (.int .i64 0) (.int .i64 0) (.slice none 0 0) 77 (w.heap.size + 1) (by simp)
    go_wp2_with fail
    refine (HBV.out _ (HV.out.below K0.1)).mono ?_
    rintro e w1 ⟨rfl, hb⟩
    have K1 := K0.step hb
    clear hb K0
    have K2 := (K1.sub (l' := [(⟨w.heap.size, 0, none⟩, .int .i64 id), (⟨w.heap.size, 1, none⟩, .slice ao n cap), (⟨w.heap.size + 1, 0, none⟩, .int .i64 0), (⟨w.heap.size + 1, 1, none⟩, .int .i64 0), (⟨w.heap.size + 1, 2, none⟩, .int .i64 0), (⟨w.heap.size + 1, 3, none⟩, .int .i64 0), (⟨w.heap.size + 1, 4, none⟩, .int .i64 0), (⟨w.heap.size + 1, 5, none⟩, .int .i64 0), (⟨w.heap.size + 1, 6, none⟩, .slice none 0 0)]) (by intro p9 hp9; simp only [List.mem_cons, List.not_mem_nil, or_false] at hp9; rcases hp9 with rfl | rfl | rfl | rfl | rfl | rfl | rfl | rfl | rfl <;> simp)).set2' (.int .i64 0) (.slice none 0 0) (Nat.le_refl _) (by simp only [List.mem_cons, List.not_mem_nil, or_false]; rintro c9 (rfl | rfl | rfl | rfl | rfl | rfl | rfl) <;> (dsimp only; omega))
    have q0 := K1.get 7 rfl
    have q1 := K1.get 8 rfl
    have g0 := K1.fz 7 rfl
    have g1 := K1.fz 8 rfl
    go_upto_region 3 with fail
    obtain ⟨w2, hw2⟩ : ∃ x, x = ((w1.setCell ⟨w.heap.size, 0, none⟩ (.int .i64 0)).setCell ⟨w.heap.size, 1, none⟩ (.slice none 0 0)) := ⟨_, rfl⟩
    rw [← hw2] at K2 ⊢
    clear hw2 q0 q1 g0 g1 K1
    have K3 := K2.sub (l' := [(⟨w.heap.size + 1, 0, none⟩, .int .i64 0), (⟨w.heap.size + 1, 1, none⟩, .int .i64 0), (⟨w.heap.size + 1, 2, none⟩, .int .i64 0), (⟨w.heap.size + 1, 3, none⟩, .int .i64 0), (⟨w.heap.size + 1, 4, none⟩, .int .i64 0), (⟨w.heap.size + 1, 5, none⟩, .int .i64 0), (⟨w.heap.size + 1, 6, none⟩, .slice none 0 0), (⟨w.heap.size, 0, none⟩, .int .i64 0), (⟨w.heap.size, 1, none⟩, .slice none 0 0)]) (by intro p9 hp9; simp only [List.mem_cons, List.not_mem_nil, or_false] at hp9; rcases hp9 with rfl | rfl | rfl | rfl | rfl | rfl | rfl | rfl | rfl <;> simp)
    clear K2
    have KDa := K3.drew
    refine wp_region_held_drew (S := fun w' => w'.cell? ⟨w.heap.size, 0, none⟩ = some (.int .i64 0) ∧ w'.cell? ⟨w.heap.size, 1, none⟩ = some (.slice none 0 0)) (by kernel_rfl) (⟨KDa.get 7 rfl, KDa.get 8 rfl⟩) (fun hHeld => ?_)
    obtain ⟨wDa, hx9⟩ : ∃ x, x = w2.drew := ⟨_, rfl⟩
    have BDa := Lib.hid (show Below w2.heap.size w2 w2.drew from (Below.refl _ _).drew)
    rw [← hx9] at KDa hHeld BDa ⊢
    clear hx9
    refine wpAnyH_take (i := 0) (oi := suI0) (v := .pointer (some ⟨w.heap.size, 0, none⟩)) rfl (by kernel_rfl) (by kernel_rfl) (by kernel_rfl) (fun _ _ _ h => h) (Or.inl ⟨by rfl, ?_⟩) (by assumption) ?_
    · intro w8 hS8
      (try dsimp only at hS8)
      dsimp only [suI0]
      (first | (go_simp; done) | (go_simp; simp_all; done) | (simp_all [go_sem]; done))
    try simp only [Act.put, suI0, List.setIfInBounds_toArray, List.set_cons_zero, List.set_cons_succ]
    refine wpAnyH_take (i := 1) (oi := suI1) (v := .int .i64 0) rfl (by kernel_rfl) (by kernel_rfl) (by kernel_rfl) (fun _ _ _ h => h) (Or.inl ⟨by rfl, ?_⟩) (by assumption) ?_
    · intro w8 hS8
      (try dsimp only at hS8)
      dsimp only [suI1]
      (first | (go_simp; done) | (go_simp; simp_all; done) | (simp_all [go_sem]; done))
    try simp only [Act.put, suI1, List.setIfInBounds_toArray, List.set_cons_zero, List.set_cons_succ]
    refine wpAnyH_take (i := 2) (oi := suI2) (v := .pointer (some ⟨w.heap.size, 1, none⟩)) rfl (by kernel_rfl) (by kernel_rfl) (by kernel_rfl) (fun _ _ _ h => h) (Or.inl ⟨by rfl, ?_⟩) (by assumption) ?_
    · intro w8 hS8
      (try dsimp only at hS8)
      dsimp only [suI2]
      (first | (go_simp; done) | (go_simp; simp_all; done) | (simp_all [go_sem]; done))
    try simp only [Act.put, suI2, List.setIfInBounds_toArray, List.set_cons_zero, List.set_cons_succ]
    refine wpAnyH_take (i := 3) (oi := suI3) (v := .slice none 0 0) rfl (by kernel_rfl) (by kernel_rfl) (by kernel_rfl) (fun _ _ _ h => h) (Or.inl ⟨by rfl, ?_⟩) (by assumption) ?_
    · intro w8 hS8
      (try dsimp only at hS8)
      dsimp only [suI3]
      (first | (go_simp; done) | (go_simp; simp_all; done) | (simp_all [go_sem]; done))
    try simp only [Act.put, suI3, List.setIfInBounds_toArray, List.set_cons_zero, List.set_cons_succ]
    refine wpAnyH_take (i := 5) (oi := suI5) (v := .pointer (some ⟨w.heap.size, 1, none⟩)) rfl (by kernel_rfl) (by kernel_rfl) (by kernel_rfl) (fun _ _ _ h => h) (Or.inl ⟨by rfl, ?_⟩) (by assumption) ?_
    · intro w8 hS8
      (try dsimp only at hS8)
      dsimp only [suI5]
      (first | (go_simp; done) | (go_simp; simp_all; done) | (simp_all [go_sem]; done))
    try simp only [Act.put, suI5, List.setIfInBounds_toArray, List.set_cons_zero, List.set_cons_succ]
    refine wpAnyH_take (i := 6) (oi := suI6) (v := .slice none 0 0) rfl (by kernel_rfl) (by kernel_rfl) (by kernel_rfl) (fun _ _ _ h => h) (Or.inl ⟨by rfl, ?_⟩) (by assumption) ?_
    · intro w8 hS8
      (try dsimp only at hS8)
      dsimp only [suI6]
      (first | (go_simp; done) | (go_simp; simp_all; done) | (simp_all [go_sem]; done))
    try simp only [Act.put, suI6, List.setIfInBounds_toArray, List.set_cons_zero, List.set_cons_succ]
    refine wpAnyH_take (i := 7) (oi := suI7) (v := .agg #[.int .i64 0, .int .i64 0, .int .i64 0, .int .i64 0]) rfl (by kernel_rfl) (by kernel_rfl) (by kernel_rfl) (fun _ _ _ h => h) (Or.inl ⟨by rfl, ?_⟩) (by assumption) ?_
    · intro w8 hS8
      (try dsimp only at hS8)
      dsimp only [suI7]
      (first | (go_simp; done) | (go_simp; simp_all; done) | (simp_all [go_sem]; done))
    try simp only [Act.put, suI7, List.setIfInBounds_toArray, List.set_cons_zero, List.set_cons_succ]
    refine wpAnyH_ready (rs := [4]) (by kernel_rfl) (by simp) ?_
    refine AllReadyH.cons (o := suI4) rfl (fun K hK => ?_) AllReadyH.nil
    dsimp only [suI4]
    go_simp
    go_at_call 32
    (with_reducible refine (HI.out _ (rowsVal_nil _ _ _)).mono ?_)
    rintro e9 wca1 ⟨vh, fph, rfl, hsh, hndh, hfh, hba1⟩
    obtain ⟨aoh, ch, rfl, _, hVh⟩ := ints_open hsh
    have KCa1 := KDa.step hba1
    refine hK.out _ _ ?_ (fun hHa1 => ?_)
    · exact ⟨KCa1.get 7 rfl, KCa1.get 8 rfl⟩
    clear hK K
    try simp only [Act.put, suI4, List.setIfInBounds_toArray, List.set_cons_zero, List.set_cons_succ]
    refine wpAnyH_ready (rs := [8]) (by kernel_rfl) (by simp) ?_
    refine AllReadyH.cons (o := suI8) rfl (fun K hK => ?_) AllReadyH.nil
    dsimp only [suI8]
    go_simp
    go_at_call 112
    (with_reducible refine (HFO.out _ (rowsVal_nil _ _ _)).mono ?_)
    rintro e9 wca2 ⟨rfl, hba2⟩
    have KCa2 := KCa1.step hba2
    refine hK.out _ _ ?_ (fun hHa2 => ?_)
    · exact ⟨KCa2.get 7 rfl, KCa2.get 8 rfl⟩
    clear hK K
    try simp only [Act.put, suI8, List.setIfInBounds_toArray, List.set_cons_zero, List.set_cons_succ]
    refine wpAnyH_ready (rs := [9]) (by kernel_rfl) (by simp) ?_
    refine AllReadyH.cons (o := suI9) rfl (fun K hK => ?_) AllReadyH.nil
    dsimp only [suI9]
    go_simp
    go_at_call 111
    (with_reducible refine (SO.out aoh ch _ (hVh.below hba2)).mono ?_)
    rintro e9 wca3 ⟨rfl, hba3⟩
    have KCa3 := KCa2.step hba3
    refine hK.out _ _ ?_ (fun hHa3 => ?_)
    · exact ⟨KCa3.get 7 rfl, KCa3.get 8 rfl⟩
    clear hK K
    try simp only [Act.put, suI9, List.setIfInBounds_toArray, List.set_cons_zero, List.set_cons_succ]
    refine wpAnyH_ready (rs := [10]) (by kernel_rfl) (by simp) ?_
    refine AllReadyH.cons (o := suI10) rfl (fun K hK => ?_) AllReadyH.nil
    have k0 := KCa3.get 0 rfl
    have f0 := KCa3.fz 0 rfl
    have k1 := KCa3.get 1 rfl
    have f1 := KCa3.fz 1 rfl
    have k2 := KCa3.get 2 rfl
    have f2 := KCa3.fz 2 rfl
    have k3 := KCa3.get 3 rfl
    have f3 := KCa3.fz 3 rfl
    have k4 := KCa3.get 4 rfl
    have f4 := KCa3.fz 4 rfl
    have k5 := KCa3.get 5 rfl
    have f5 := KCa3.fz 5 rfl
    have k6 := KCa3.get 6 rfl
    have f6 := KCa3.fz 6 rfl
    dsimp only [suI10]
    go_simp
    have KCa4 := KCa3.setB7 (.int .i64 bb) (.int .i64 cc) (.int .i64 uu) (.int .i64 m1) (.int .i64 m2) (.int .i64 s1) (.slice aoh HH.length ch) (by omega) (by simp only [List.mem_cons, List.not_mem_nil, or_false]; rintro c9 (rfl | rfl) <;> (dsimp only; omega))
    refine hK.out _ _ ?_ (fun hHa4 => ?_)
    · exact ⟨KCa4.get 7 rfl, KCa4.get 8 rfl⟩
    clear hK K
    try simp only [Act.put, suI10, List.setIfInBounds_toArray, List.set_cons_zero, List.set_cons_succ]
    refine wpAnyH_done (by kernel_rfl) ?_ _
    have HSS := ((hsh.step hba2).step hba3)
    have hfw : ∀ k ∈ fph, w.heap.size + 1 < k := fun k hk => by
      have h1 := hfh k hk
      have h2 := KDa.lt 0 rfl
      simp only at h2
      omega
    have HS9 := Lib.hid (HSS.setB7 (w.heap.size + 1) (.int .i64 bb) (.int .i64 cc) (.int .i64 uu) (.int .i64 m1) (.int .i64 m2) (.int .i64 s1) (.slice aoh HH.length ch) (fun k hk => by have := hfw k hk; omega))
    have HF9 := Lib.hid (show ∀ k ∈ fph, w.heap.size ≤ k from fun k hk => by have := hfw k hk; omega)
    have HK9 := Lib.hid KCa4.1
    have z := KCa4.lt 0 rfl
    have e0 := KCa4.get 0 rfl
    have e1 := KCa4.get 1 rfl
    have e2 := KCa4.get 2 rfl
    have e3 := KCa4.get 3 rfl
    have e4 := KCa4.get 4 rfl
    have e5 := KCa4.get 5 rfl
    have e6 := KCa4.get 6 rfl
    clear k0 k1 k2 k3 k4 k5 k6 f0 f1 f2 f3 f4 f5 f6
    go_wp2
    exact bodyPost_ret (v := .agg #[.int .i64 bb, .int .i64 cc, .int .i64 uu, .int .i64 m1, .int .i64 m2, .int .i64 s1, .slice aoh HH.length ch]) (by simp [results, Try.results51, go_sem, e0, e1, e2, e3, e4, e5, e6, z]) rfl ⟨_, fph, by rw [EB.out, EC.out, EU.out, EM.out, EX.out, ES.out], by rw [EH.out]; exact HS9.out, hndh, HF9.out, HK9.out⟩
  · skip
    have hb9 : blkB id l.length (Rn l) = true := by rw [hl]; exact HVV.out.symm
    have hAN := sumB_of hb9
    obtain ⟨_, hb2, hb3⟩ := blkB_of hb9
    have hRO := rows_ok hb2
    have hOK := (hist_ok hRO hb3).1
    have hFC : 0 ≤ (spL l).c ∧ (spL l).c ≤ 2000000 := by
      have h := spL_bound hRO l.length (Nat.le_refl _)
      rw [List.take_length] at h
      have h1 := h.1
      have h2 := h.2.1
      omega
    obtain ⟨HH, hHH⟩ : ∃ H, H = histL l := ⟨_, rfl⟩
    obtain ⟨⟨fc, fm, fx, fs⟩, hSP⟩ : ∃ z : Sp, z = spL l := ⟨_, rfl⟩
    obtain ⟨⟨bb, cc, uu, m1, m2, s1, h9⟩, hSS⟩ : ∃ z : Sm, z = sumOf id (histL l) (spL l) := ⟨_, rfl⟩
    have hh9 : h9 = histL l := by have h := congrArg Sm.h hSS; exact h
    have EB := Lib.hid (show (sumB id l).b = bb by rw [hAN, ← hSS])
    have EC := Lib.hid (show (sumB id l).c = cc by rw [hAN, ← hSS])
    have EU := Lib.hid (show (sumB id l).u = uu by rw [hAN, ← hSS])
    have EM := Lib.hid (show (sumB id l).mn = m1 by rw [hAN, ← hSS])
    have EX := Lib.hid (show (sumB id l).mx = m2 by rw [hAN, ← hSS])
    have ES := Lib.hid (show (sumB id l).sm = s1 by rw [hAN, ← hSS])
    have EH := Lib.hid (show (sumB id l).h = HH by rw [hAN, hHH]; rfl)
    have SO : Hid (∀ (ao : Option Addr) (cap : Nat) (w : World), IntsVal w ao HH → Calls Try.prog 111 #[.int .i64 id, .slice ao HH.length cap, .agg #[.int .i64 fc, .int .i64 fm, .int .i64 fx, .int .i64 fs]] w fun e w' => e = .returned (.agg #[.int .i64 bb, .int .i64 cc, .int .i64 uu, .int .i64 m1, .int .i64 m2, .int .i64 s1, .slice ao HH.length cap]) ∧ Below w.heap.size w w') := (fun ao cap w hV => by
      have h := impl_sumOf id ao HH.length cap HH fc fm fx fs w rfl (by rw [hHH, histL_len]; decide) hV (by rw [hHH]; exact hOK) (by have := hFC; rw [← hSP] at this; exact this)
      have e1 : sumOf id HH ⟨fc, fm, fx, fs⟩ = ⟨bb, cc, uu, m1, m2, s1, HH⟩ := by rw [hHH, hSP, ← hSS, hh9]
      rw [e1] at h
      exact h : ∀ (ao : Option Addr) (cap : Nat) (w : World), IntsVal w ao HH → Calls Try.prog 111 #[.int .i64 id, .slice ao HH.length cap, .agg #[.int .i64 fc, .int .i64 fm, .int .i64 fx, .int .i64 fs]] w fun e w' => e = .returned (.agg #[.int .i64 bb, .int .i64 cc, .int .i64 uu, .int .i64 m1, .int .i64 m2, .int .i64 s1, .slice ao HH.length cap]) ∧ Below w.heap.size w w')
    have HI := Lib.hid (fun w hV => impl_histV ao n cap l w hl (by omega) hV)
    rw [← hHH] at HI
    have HFO : Hid (∀ w : World, RowsVal w ao n (Rn l) → Calls Try.prog 112 #[.slice ao n cap, .agg #[.int .i64 0, .int .i64 0, .int .i64 0, .int .i64 0], .func (.func 113) #[] #[]] w fun e w' => e = .returned (.agg #[.int .i64 fc, .int .i64 fm, .int .i64 fx, .int .i64 fs]) ∧ Below w.heap.size w w') := (fun w hV => by
      have h := impl_foldR ao n cap l w hl hn hRO hV
      rw [← hSP] at h
      exact h : ∀ w : World, RowsVal w ao n (Rn l) → Calls Try.prog 112 #[.slice ao n cap, .agg #[.int .i64 0, .int .i64 0, .int .i64 0, .int .i64 0], .func (.func 113) #[] #[]] w fun e w' => e = .returned (.agg #[.int .i64 fc, .int .i64 fm, .int .i64 fx, .int .i64 fs]) ∧ Below w.heap.size w w')
    clear hSP hSS hh9 hHH hAN hOK hFC hRO
    clear hl hb9 hb2 hb3
    go_enter Try.func51, Try.ntmps51
    have K0 := ((Kept.start w).alloc2 (.int .i64 id) (.slice ao n cap) 80 _ rfl).alloc7 (.int .i64 0) (.int .i64 0) (.int .i64 0) (.int .i64 0) (.int .i64 0) (.int .i64 0) (.slice none 0 0) 77 (w.heap.size + 1) (by simp)
    go_wp2_with fail
    refine (HBV.out _ (HV.out.below K0.1)).mono ?_
    rintro e w1 ⟨rfl, hb⟩
    have K1 := K0.step hb
    clear hb K0
    have HV1 := Lib.hid (HV.out.below K1.1)
    go_upto_region 3 with fail
    have KDb := K1.drew
    refine wp_region_held_drew (S := fun w' => w'.cell? ⟨w.heap.size, 0, none⟩ = some (.int .i64 id) ∧ w'.cell? ⟨w.heap.size, 1, none⟩ = some (.slice ao n cap)) (by kernel_rfl) (⟨KDb.get 7 rfl, KDb.get 8 rfl⟩) (fun hHeld => ?_)
    obtain ⟨wDb, hx9⟩ : ∃ x, x = w1.drew := ⟨_, rfl⟩
    have BDb := Lib.hid (show Below w1.heap.size w1 w1.drew from (Below.refl _ _).drew)
    rw [← hx9] at KDb hHeld BDb ⊢
    clear hx9
    refine wpAnyH_take (i := 0) (oi := suI0) (v := .pointer (some ⟨w.heap.size, 0, none⟩)) rfl (by kernel_rfl) (by kernel_rfl) (by kernel_rfl) (fun _ _ _ h => h) (Or.inl ⟨by rfl, ?_⟩) (by assumption) ?_
    · intro w8 hS8
      (try dsimp only at hS8)
      dsimp only [suI0]
      (first | (go_simp; done) | (go_simp; simp_all; done) | (simp_all [go_sem]; done))
    try simp only [Act.put, suI0, List.setIfInBounds_toArray, List.set_cons_zero, List.set_cons_succ]
    refine wpAnyH_take (i := 1) (oi := suI1) (v := .int .i64 id) rfl (by kernel_rfl) (by kernel_rfl) (by kernel_rfl) (fun _ _ _ h => h) (Or.inl ⟨by rfl, ?_⟩) (by assumption) ?_
    · intro w8 hS8
      (try dsimp only at hS8)
      dsimp only [suI1]
      (first | (go_simp; done) | (go_simp; simp_all; done) | (simp_all [go_sem]; done))
    try simp only [Act.put, suI1, List.setIfInBounds_toArray, List.set_cons_zero, List.set_cons_succ]
    refine wpAnyH_take (i := 2) (oi := suI2) (v := .pointer (some ⟨w.heap.size, 1, none⟩)) rfl (by kernel_rfl) (by kernel_rfl) (by kernel_rfl) (fun _ _ _ h => h) (Or.inl ⟨by rfl, ?_⟩) (by assumption) ?_
    · intro w8 hS8
      (try dsimp only at hS8)
      dsimp only [suI2]
      (first | (go_simp; done) | (go_simp; simp_all; done) | (simp_all [go_sem]; done))
    try simp only [Act.put, suI2, List.setIfInBounds_toArray, List.set_cons_zero, List.set_cons_succ]
    refine wpAnyH_take (i := 3) (oi := suI3) (v := .slice ao n cap) rfl (by kernel_rfl) (by kernel_rfl) (by kernel_rfl) (fun _ _ _ h => h) (Or.inl ⟨by rfl, ?_⟩) (by assumption) ?_
    · intro w8 hS8
      (try dsimp only at hS8)
      dsimp only [suI3]
      (first | (go_simp; done) | (go_simp; simp_all; done) | (simp_all [go_sem]; done))
    try simp only [Act.put, suI3, List.setIfInBounds_toArray, List.set_cons_zero, List.set_cons_succ]
    refine wpAnyH_take (i := 5) (oi := suI5) (v := .pointer (some ⟨w.heap.size, 1, none⟩)) rfl (by kernel_rfl) (by kernel_rfl) (by kernel_rfl) (fun _ _ _ h => h) (Or.inl ⟨by rfl, ?_⟩) (by assumption) ?_
    · intro w8 hS8
      (try dsimp only at hS8)
      dsimp only [suI5]
      (first | (go_simp; done) | (go_simp; simp_all; done) | (simp_all [go_sem]; done))
    try simp only [Act.put, suI5, List.setIfInBounds_toArray, List.set_cons_zero, List.set_cons_succ]
    refine wpAnyH_take (i := 6) (oi := suI6) (v := .slice ao n cap) rfl (by kernel_rfl) (by kernel_rfl) (by kernel_rfl) (fun _ _ _ h => h) (Or.inl ⟨by rfl, ?_⟩) (by assumption) ?_
    · intro w8 hS8
      (try dsimp only at hS8)
      dsimp only [suI6]
      (first | (go_simp; done) | (go_simp; simp_all; done) | (simp_all [go_sem]; done))
    try simp only [Act.put, suI6, List.setIfInBounds_toArray, List.set_cons_zero, List.set_cons_succ]
    refine wpAnyH_take (i := 7) (oi := suI7) (v := .agg #[.int .i64 0, .int .i64 0, .int .i64 0, .int .i64 0]) rfl (by kernel_rfl) (by kernel_rfl) (by kernel_rfl) (fun _ _ _ h => h) (Or.inl ⟨by rfl, ?_⟩) (by assumption) ?_
    · intro w8 hS8
      (try dsimp only at hS8)
      dsimp only [suI7]
      (first | (go_simp; done) | (go_simp; simp_all; done) | (simp_all [go_sem]; done))
    try simp only [Act.put, suI7, List.setIfInBounds_toArray, List.set_cons_zero, List.set_cons_succ]
    refine wpAnyH_ready (rs := [4]) (by kernel_rfl) (by simp) ?_
    refine AllReadyH.cons (o := suI4) rfl (fun K hK => ?_) AllReadyH.nil
    dsimp only [suI4]
    go_simp
    go_at_call 32
    (with_reducible refine (HI.out _ (HV.out.below (Kept.below KDb))).mono ?_)
    rintro e9 wcb1 ⟨vh, fph, rfl, hsh, hndh, hfh, hbb1⟩
    obtain ⟨aoh, ch, rfl, _, hVh⟩ := ints_open hsh
    have KCb1 := KDb.step hbb1
    refine hK.out _ _ ?_ (fun hHb1 => ?_)
    · exact ⟨KCb1.get 7 rfl, KCb1.get 8 rfl⟩
    clear hK K
    try simp only [Act.put, suI4, List.setIfInBounds_toArray, List.set_cons_zero, List.set_cons_succ]
    refine wpAnyH_ready (rs := [8]) (by kernel_rfl) (by simp) ?_
    refine AllReadyH.cons (o := suI8) rfl (fun K hK => ?_) AllReadyH.nil
    dsimp only [suI8]
    go_simp
    go_at_call 112
    (with_reducible refine (HFO.out _ (HV.out.below (Kept.below KCb1))).mono ?_)
    rintro e9 wcb2 ⟨rfl, hbb2⟩
    have KCb2 := KCb1.step hbb2
    refine hK.out _ _ ?_ (fun hHb2 => ?_)
    · exact ⟨KCb2.get 7 rfl, KCb2.get 8 rfl⟩
    clear hK K
    try simp only [Act.put, suI8, List.setIfInBounds_toArray, List.set_cons_zero, List.set_cons_succ]
    refine wpAnyH_ready (rs := [9]) (by kernel_rfl) (by simp) ?_
    refine AllReadyH.cons (o := suI9) rfl (fun K hK => ?_) AllReadyH.nil
    dsimp only [suI9]
    go_simp
    go_at_call 111
    (with_reducible refine (SO.out aoh ch _ (hVh.below hbb2)).mono ?_)
    rintro e9 wcb3 ⟨rfl, hbb3⟩
    have KCb3 := KCb2.step hbb3
    refine hK.out _ _ ?_ (fun hHb3 => ?_)
    · exact ⟨KCb3.get 7 rfl, KCb3.get 8 rfl⟩
    clear hK K
    try simp only [Act.put, suI9, List.setIfInBounds_toArray, List.set_cons_zero, List.set_cons_succ]
    refine wpAnyH_ready (rs := [10]) (by kernel_rfl) (by simp) ?_
    refine AllReadyH.cons (o := suI10) rfl (fun K hK => ?_) AllReadyH.nil
    have k0 := KCb3.get 0 rfl
    have f0 := KCb3.fz 0 rfl
    have k1 := KCb3.get 1 rfl
    have f1 := KCb3.fz 1 rfl
    have k2 := KCb3.get 2 rfl
    have f2 := KCb3.fz 2 rfl
    have k3 := KCb3.get 3 rfl
    have f3 := KCb3.fz 3 rfl
    have k4 := KCb3.get 4 rfl
    have f4 := KCb3.fz 4 rfl
    have k5 := KCb3.get 5 rfl
    have f5 := KCb3.fz 5 rfl
    have k6 := KCb3.get 6 rfl
    have f6 := KCb3.fz 6 rfl
    dsimp only [suI10]
    go_simp
    have KCb4 := KCb3.setB7 (.int .i64 bb) (.int .i64 cc) (.int .i64 uu) (.int .i64 m1) (.int .i64 m2) (.int .i64 s1) (.slice aoh HH.length ch) (by omega) (by simp only [List.mem_cons, List.not_mem_nil, or_false]; rintro c9 (rfl | rfl) <;> (dsimp only; omega))
    refine hK.out _ _ ?_ (fun hHb4 => ?_)
    · exact ⟨KCb4.get 7 rfl, KCb4.get 8 rfl⟩
    clear hK K
    try simp only [Act.put, suI10, List.setIfInBounds_toArray, List.set_cons_zero, List.set_cons_succ]
    refine wpAnyH_done (by kernel_rfl) ?_ _
    have HSS := ((hsh.step hbb2).step hbb3)
    have hfw : ∀ k ∈ fph, w.heap.size + 1 < k := fun k hk => by
      have h1 := hfh k hk
      have h2 := KDb.lt 0 rfl
      simp only at h2
      omega
    have HS9 := Lib.hid (HSS.setB7 (w.heap.size + 1) (.int .i64 bb) (.int .i64 cc) (.int .i64 uu) (.int .i64 m1) (.int .i64 m2) (.int .i64 s1) (.slice aoh HH.length ch) (fun k hk => by have := hfw k hk; omega))
    have HF9 := Lib.hid (show ∀ k ∈ fph, w.heap.size ≤ k from fun k hk => by have := hfw k hk; omega)
    have HK9 := Lib.hid KCb4.1
    have z := KCb4.lt 0 rfl
    have e0 := KCb4.get 0 rfl
    have e1 := KCb4.get 1 rfl
    have e2 := KCb4.get 2 rfl
    have e3 := KCb4.get 3 rfl
    have e4 := KCb4.get 4 rfl
    have e5 := KCb4.get 5 rfl
    have e6 := KCb4.get 6 rfl
    clear k0 k1 k2 k3 k4 k5 k6 f0 f1 f2 f3 f4 f5 f6
    go_wp2
    exact bodyPost_ret (v := .agg #[.int .i64 bb, .int .i64 cc, .int .i64 uu, .int .i64 m1, .int .i64 m2, .int .i64 s1, .slice aoh HH.length ch]) (by simp [results, Try.results51, go_sem, e0, e1, e2, e3, e4, e5, e6, z]) rfl ⟨_, fph, by rw [EB.out, EC.out, EU.out, EM.out, EX.out, ES.out], by rw [EH.out]; exact HS9.out, hndh, HF9.out, HK9.out⟩
end Go.Proofs.Ytcfcohnkkgickaa
