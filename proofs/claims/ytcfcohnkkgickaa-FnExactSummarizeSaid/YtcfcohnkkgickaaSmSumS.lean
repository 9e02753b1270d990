/-
  The walk over the model's Summarize.
-/
import Derived.Test.YtcfcohnkkgickaaRows
import Derived.Test.YtcfcohnkkgickaaKeep
import Derived.Test.YtcfcohnkkgickaaSmSumI
import Derived.Test.YtcfcohnkkgickaaHgHist
import Derived.Test.YtcfcohnkkgickaaBkLaw
namespace Go.Proofs.Ytcfcohnkkgickaa
open Go.RowKit Num

theorem sp_null {x : Sp} {r : Rw} (h : r.nl = true) : x.row r = x := if_pos h
theorem sp_first {x : Sp} {r : Rw} (h : r.nl = false) (hc : x.c = 0) : x.row r = ⟨1, r.x, r.x, r.x⟩ := by
  unfold Sp.row; rw [if_neg (by rw [h]; decide), Sp.plus_l hc]
theorem sp_more {x : Sp} {r : Rw} (h : r.nl = false) (hc : ¬ x.c = 0) : x.row r = ⟨x.c + 1, min x.mn r.x, max x.mx r.x, x.s + r.x⟩ := by
  unfold Sp.row; rw [if_neg (by rw [h]; decide), Sp.plus_b hc (by simp)]
theorem ret_b {p : Prop} [Decidable p] {b : Bool} (h : decide p = b) : Value.bool b = Value.bool (decide p) := by rw [h]

def suS0 : Oper := { dst := some 13, op := Go.Op.fieldAddr 80 (Go.Operand.tmp 1) 0, type := 0, pos := "l09_summary.go:27", after := #[], guard := none }
def suS1 : Oper := { dst := some 14, op := Go.Op.load 3 (Go.Operand.tmp 13), type := 3, pos := "l09_summary.go:27", after := #[{ on := 0, ground := Go.Ground.data }], guard := none }
def suS2 : Oper := { dst := some 15, op := Go.Op.fieldAddr 80 (Go.Operand.tmp 1) 1, type := 0, pos := "l09_summary.go:27", after := #[], guard := none }
def suS3 : Oper := { dst := some 16, op := Go.Op.load 57 (Go.Operand.tmp 15), type := 57, pos := "l09_summary.go:27", after := #[{ on := 2, ground := Go.Ground.data }], guard := none }
def suS4 : Oper := { dst := some 17, op := Go.Op.call { callee := Go.Callee.builtin Go.Builtin.len, args := #[Go.Operand.tmp 16], argTypes := #[57] }, type := 3, pos := "l09_summary.go:27", after := #[{ on := 3, ground := Go.Ground.data }], guard := none }
def suS5 : Oper := { dst := some 18, op := Go.Op.fieldAddr 80 (Go.Operand.tmp 1) 1, type := 0, pos := "l09_summary.go:27", after := #[], guard := none }
def suS6 : Oper := { dst := some 19, op := Go.Op.load 57 (Go.Operand.tmp 18), type := 57, pos := "l09_summary.go:27", after := #[{ on := 5, ground := Go.Ground.data }], guard := none }
def suS7 : Oper := { dst := some 20, op := Go.Op.call { callee := Go.Callee.value (Go.Operand.func 35), args := #[Go.Operand.tmp 19], argTypes := #[57] }, type := 45, pos := "l09_summary.go:27", after := #[{ on := 6, ground := Go.Ground.data }], guard := none }
def suS8 : Oper := { dst := some 21, op := Go.Op.build 77 #[(0, Go.Operand.tmp 14), (1, Go.Operand.tmp 17), (6, Go.Operand.tmp 20)], type := 77, pos := "l09_summary.go:27", after := #[{ on := 1, ground := Go.Ground.data }, { on := 4, ground := Go.Ground.data }, { on := 7, ground := Go.Ground.data }], guard := none }
def suS9 : Oper := { dst := some 3, op := Go.Op.alloc 77, type := 0, pos := "l09_summary.go:27", after := #[], guard := none }
def suS10 : Oper := { dst := none, op := Go.Op.store 77 (Go.Operand.tmp 3) (Go.Operand.tmp 21), type := 0, pos := "l09_summary.go:27", after := #[{ on := 9, ground := Go.Ground.data }, { on := 8, ground := Go.Ground.data }, { on := 7, ground := Go.Ground.chain }, { on := 0, ground := Go.Ground.phase }, { on := 1, ground := Go.Ground.phase }, { on := 2, ground := Go.Ground.phase }, { on := 3, ground := Go.Ground.phase }, { on := 4, ground := Go.Ground.phase }, { on := 5, ground := Go.Ground.phase }, { on := 6, ground := Go.Ground.phase }, { on := 7, ground := Go.Ground.phase }, { on := 8, ground := Go.Ground.phase }, { on := 9, ground := Go.Ground.phase }], guard := none }
set_option maxRecDepth 8000 in
set_option maxHeartbeats 6400000 in
theorem spec_sumV (id : Int) (ao : Option Addr) (n cap : Nat) (l : List Rw) (w : World) (hl : l.length = n) (hn : n ≤ 1048576) (hV : RowsVal w ao n (Rn l)) :
    Calls Try.prog 49 #[.agg #[.int .i64 id, .slice ao n cap]] w (SmOut (sumB id l).b (sumB id l).c (sumB id l).u (sumB id l).mn (sumB id l).mx (sumB id l).sm (sumB id l).h w) := by
  have BV := fun w hV => spec_bvV id ao n cap (Rn l) w (by omega) hV
  obtain ⟨v, hv⟩ : ∃ v, v = blkB id n (Rn l) := ⟨_, rfl⟩
  simp only [← hv] at BV
  have HBV := Lib.hid BV
  have HV := Lib.hid hV
  have HVV := Lib.hid hv
  clear BV hV hv
  cases v
  · skip
    have hAN := sumB_f (id := id) (l := l) (by rw [hl]; exact HVV.out.symm)
    have AN := Lib.hid hAN
    have HI := Lib.hid (fun (ao : Option Addr) (w : World) => spec_histV ao 0 0 [] w rfl (by decide) (rowsVal_nil _ _ _))
    clear hAN hl
    go_enter Try.func49, Try.ntmps49
    have K0 := ((Kept.start w).alloc2 (.int .i64 id) (.slice ao n cap) 80 _ rfl).alloc7 (.int .i64 0) (.int .i64 0) (.int .i64 0) (.int .i64 0) (.int .i64 0) (.int .i64 0) (.slice none 0 0) 77 (w.heap.size + 1) (by simp)
    go_wp2_with fail
    refine (HBV.out _ (HV.out.below K0.1)).mono ?_
    rintro e w1 ⟨rfl, hb⟩
    have K1 := K0.step hb
    clear hb K0
    go_wp2_with fail
    refine (HI.out _ _).mono ?_
    rintro e w2 ⟨v, fp, rfl, hs, hnd, hf, hb⟩
    obtain ⟨aoh, ch, rfl, _, _⟩ := ints_open hs
    have K2 := (K1.step ((Below.refl _ _).alloc (Nat.le_refl _) _)).step hb
    have h2 := K1.lt 0 rfl
    simp only at h2
    have hfw : ∀ k ∈ fp, w.heap.size + 1 < k := fun k hk => by have h1 := hf k hk; simp only [World.size_alloc] at h1; omega
    obtain ⟨m9, hm9⟩ : ∃ x, x = (histL []).length := ⟨_, rfl⟩
    rw [← hm9] at hs ⊢
    clear hm9
    have K3 := K2.setB7 (.int .i64 0) (.int .i64 0) (.int .i64 0) (.int .i64 0) (.int .i64 0) (.int .i64 0) (.slice aoh m9 ch) (by omega) (by simp only [List.mem_cons, List.not_mem_nil, or_false]; rintro c9 (rfl | rfl) <;> (dsimp only; omega))
    have HS9 := Lib.hid (hs.setB7 (w.heap.size + 1) (.int .i64 0) (.int .i64 0) (.int .i64 0) (.int .i64 0) (.int .i64 0) (.int .i64 0) (.slice aoh m9 ch) (fun k hk => by have := hfw k hk; omega))
    have HF9 := Lib.hid (show ∀ k ∈ fp, w.heap.size ≤ k from fun k hk => by have := hfw k hk; omega)
    have HK9 := Lib.hid K3.1
    have k0 := K2.get 0 rfl
    have f0 := K2.fz 0 rfl
    have k1 := K2.get 1 rfl
    have f1 := K2.fz 1 rfl
    have k2 := K2.get 2 rfl
    have f2 := K2.fz 2 rfl
    have k3 := K2.get 3 rfl
    have f3 := K2.fz 3 rfl
    have k4 := K2.get 4 rfl
    have f4 := K2.fz 4 rfl
    have k5 := K2.get 5 rfl
    have f5 := K2.fz 5 rfl
    have k6 := K2.get 6 rfl
    have f6 := K2.fz 6 rfl
    have z := K2.lt 0 rfl
    clear K1 K2 K3 hs hf hb hfw h2
    go_wp2
    exact bodyPost_ret (v := .agg #[.int .i64 0, .int .i64 0, .int .i64 0, .int .i64 0, .int .i64 0, .int .i64 0, .slice aoh m9 ch]) (by simp [results, Try.results49, go_sem, k0, k1, k2, k3, k4, k5, k6, z]) rfl ⟨_, fp, by rw [AN.out], by rw [AN.out]; exact HS9.out, hnd, HF9.out, HK9.out⟩
  · skip
    have hb9 : blkB id l.length (Rn l) = true := by rw [hl]; exact HVV.out.symm
    have hAN := sumB_t hb9
    obtain ⟨_, hb2, hb3⟩ := blkB_of hb9
    have HOK := Lib.hid (rows_ok hb2)
    have hn6 : n ≤ 6 := by omega
    have hnI : (n : Int) ≤ 6 := by omega
    have HL := Lib.hid hl
    obtain ⟨HH, hHH⟩ : ∃ H, H = histL l := ⟨_, rfl⟩
    have AN := Lib.hid (show sumB id l = ⟨id, n, (n : Int) - (spL l).c, (spL l).mn, (spL l).mx, (spL l).s, HH⟩ by rw [hAN, hHH, hl])
    have HI := Lib.hid (fun w hV => spec_histV ao n cap l w hl (by omega) hV)
    rw [← hHH] at HI
    clear hl hb9 hb2 hb3 hAN hHH
    go_enter Try.func49, Try.ntmps49
    have K0 := ((Kept.start w).alloc2 (.int .i64 id) (.slice ao n cap) 80 _ rfl).alloc7 (.int .i64 0) (.int .i64 0) (.int .i64 0) (.int .i64 0) (.int .i64 0) (.int .i64 0) (.slice none 0 0) 77 (w.heap.size + 1) (by simp)
    go_wp2_with fail
    refine (HBV.out _ (HV.out.below K0.1)).mono ?_
    rintro e w1 ⟨rfl, hb⟩
    have K1 := K0.step hb
    clear hb K0
    go_upto_region 3 with fail
    have KDs := K1.drew
    refine wp_region_held_drew (S := fun w' => w'.cell? ⟨w.heap.size, 0, none⟩ = some (.int .i64 id) ∧ w'.cell? ⟨w.heap.size, 1, none⟩ = some (.slice ao n cap)) (by kernel_rfl) (⟨KDs.get 7 rfl, KDs.get 8 rfl⟩) (fun hHeld => ?_)
    obtain ⟨wDs, hx9⟩ : ∃ x, x = w1.drew := ⟨_, rfl⟩
    have BDs := Lib.hid (show Below w1.heap.size w1 w1.drew from (Below.refl _ _).drew)
    rw [← hx9] at KDs hHeld BDs ⊢
    clear hx9
    refine wpAnyH_take (i := 0) (oi := suS0) (v := .pointer (some ⟨w.heap.size, 0, none⟩)) rfl (by kernel_rfl) (by kernel_rfl) (by kernel_rfl) (fun _ _ _ h => h) (Or.inl ⟨by rfl, ?_⟩) (by assumption) ?_
    · intro w8 hS8
      (try dsimp only at hS8)
      dsimp only [suS0]
      (first | (go_simp; done) | (go_simp; simp_all; done) | (simp_all [go_sem]; done))
    try simp only [Act.put, suS0, List.setIfInBounds_toArray, List.set_cons_zero, List.set_cons_succ]
    refine wpAnyH_take (i := 1) (oi := suS1) (v := .int .i64 id) rfl (by kernel_rfl) (by kernel_rfl) (by kernel_rfl) (fun _ _ _ h => h) (Or.inl ⟨by rfl, ?_⟩) (by assumption) ?_
    · intro w8 hS8
      (try dsimp only at hS8)
      dsimp only [suS1]
      (first | (go_simp; done) | (go_simp; simp_all; done) | (simp_all [go_sem]; done))
    try simp only [Act.put, suS1, List.setIfInBounds_toArray, List.set_cons_zero, List.set_cons_succ]
    refine wpAnyH_take (i := 2) (oi := suS2) (v := .pointer (some ⟨w.heap.size, 1, none⟩)) rfl (by kernel_rfl) (by kernel_rfl) (by kernel_rfl) (fun _ _ _ h => h) (Or.inl ⟨by rfl, ?_⟩) (by assumption) ?_
    · intro w8 hS8
      (try dsimp only at hS8)
      dsimp only [suS2]
      (first | (go_simp; done) | (go_simp; simp_all; done) | (simp_all [go_sem]; done))
    try simp only [Act.put, suS2, List.setIfInBounds_toArray, List.set_cons_zero, List.set_cons_succ]
    refine wpAnyH_take (i := 3) (oi := suS3) (v := .slice ao n cap) rfl (by kernel_rfl) (by kernel_rfl) (by kernel_rfl) (fun _ _ _ h => h) (Or.inl ⟨by rfl, ?_⟩) (by assumption) ?_
    · intro w8 hS8
      (try dsimp only at hS8)
      dsimp only [suS3]
      (first | (go_simp; done) | (go_simp; simp_all; done) | (simp_all [go_sem]; done))
    try simp only [Act.put, suS3, List.setIfInBounds_toArray, List.set_cons_zero, List.set_cons_succ]
    refine wpAnyH_take (i := 4) (oi := suS4) (v := .int .i64 ((n : Int))) rfl (by kernel_rfl) (by kernel_rfl) (by kernel_rfl) (fun _ _ _ h => h) (Or.inl ⟨by rfl, ?_⟩) (by assumption) ?_
    · intro w8 hS8
      (try dsimp only at hS8)
      dsimp only [suS4]
      (first | (go_simp; done) | (go_simp; simp_all; done) | (simp_all [go_sem]; done))
    try simp only [Act.put, suS4, List.setIfInBounds_toArray, List.set_cons_zero, List.set_cons_succ]
    refine wpAnyH_take (i := 5) (oi := suS5) (v := .pointer (some ⟨w.heap.size, 1, none⟩)) rfl (by kernel_rfl) (by kernel_rfl) (by kernel_rfl) (fun _ _ _ h => h) (Or.inl ⟨by rfl, ?_⟩) (by assumption) ?_
    · intro w8 hS8
      (try dsimp only at hS8)
      dsimp only [suS5]
      (first | (go_simp; done) | (go_simp; simp_all; done) | (simp_all [go_sem]; done))
    try simp only [Act.put, suS5, List.setIfInBounds_toArray, List.set_cons_zero, List.set_cons_succ]
    refine wpAnyH_take (i := 6) (oi := suS6) (v := .slice ao n cap) rfl (by kernel_rfl) (by kernel_rfl) (by kernel_rfl) (fun _ _ _ h => h) (Or.inl ⟨by rfl, ?_⟩) (by assumption) ?_
    · intro w8 hS8
      (try dsimp only at hS8)
      dsimp only [suS6]
      (first | (go_simp; done) | (go_simp; simp_all; done) | (simp_all [go_sem]; done))
    try simp only [Act.put, suS6, List.setIfInBounds_toArray, List.set_cons_zero, List.set_cons_succ]
    refine wpAnyH_ready (rs := [7, 9]) (by kernel_rfl) (by simp) ?_
    refine AllReadyH.cons (o := suS7) rfl (fun K hK => ?_) (AllReadyH.cons (o := suS9) rfl (fun K hK => ?_) (AllReadyH.nil))
    · skip
      dsimp only [suS7]
      go_simp
      go_at_call 35
      (with_reducible refine (HI.out _ (HV.out.below (Kept.below KDs))).mono ?_)
      rintro e9 wcs1 ⟨vh, fph, rfl, hsh, hndh, hfh, hbs1⟩
      obtain ⟨aoh, ch, rfl, _, hVh⟩ := ints_open hsh
      have KCs1 := KDs.step hbs1
      refine hK.out _ _ ?_ (fun hHs1 => ?_)
      · exact ⟨KCs1.get 7 rfl, KCs1.get 8 rfl⟩
      clear hK K
      try simp only [Act.put, suS7, List.setIfInBounds_toArray, List.set_cons_zero, List.set_cons_succ]
      refine wpAnyH_take (i := 8) (oi := suS8) (v := .agg #[.int .i64 id, .int .i64 ((n : Int)), .int .i64 0, .int .i64 0, .int .i64 0, .int .i64 0, .slice aoh HH.length ch]) rfl (by kernel_rfl) (by kernel_rfl) (by kernel_rfl) (fun _ _ _ h => h) (Or.inl ⟨by rfl, ?_⟩) (by assumption) ?_
      · intro w8 hS8
        (try dsimp only at hS8)
        dsimp only [suS8]
        (first | (go_simp; done) | (go_simp; simp_all; done) | (simp_all [go_sem]; done))
      try simp only [Act.put, suS8, List.setIfInBounds_toArray, List.set_cons_zero, List.set_cons_succ]
      refine wpAnyH_ready (rs := [9]) (by kernel_rfl) (by simp) ?_
      refine AllReadyH.cons (o := suS9) rfl (fun K hK => ?_) AllReadyH.nil
      dsimp only [suS9]
      go_simp
      have KCs2 := KCs1.alloc7 (.int .i64 0) (.int .i64 0) (.int .i64 0) (.int .i64 0) (.int .i64 0) (.int .i64 0) (.slice none 0 0) 77 wcs1.heap.size rfl
      have hbs2 : Below wcs1.heap.size wcs1 (wcs1.alloc (.cells #[.int .i64 0, .int .i64 0, .int .i64 0, .int .i64 0, .int .i64 0, .int .i64 0, .slice none 0 0] 77)) := (Below.refl _ _).alloc (Nat.le_refl _) _
      obtain ⟨nbs2, hN2⟩ : ∃ x, x = wcs1.heap.size := ⟨_, rfl⟩
      refine hK.out _ _ ?_ (fun hHs2 => ?_)
      · exact ⟨KCs2.get 14 rfl, KCs2.get 15 rfl⟩
      clear hK K
      try simp only [Act.put, suS9, List.setIfInBounds_toArray, List.set_cons_zero, List.set_cons_succ]
      obtain ⟨wcs2, hx9⟩ : ∃ x, x = wcs1.alloc (.cells #[.int .i64 0, .int .i64 0, .int .i64 0, .int .i64 0, .int .i64 0, .int .i64 0, .slice none 0 0] 77) := ⟨_, rfl⟩
      rw [← hx9] at KCs2 hHs2 hbs2 ⊢
      clear hx9
      have HNs2 := Lib.hid hN2
      rw [← hN2] at KCs2 ⊢
      clear hN2
      refine wpAnyH_ready (rs := [10]) (by kernel_rfl) (by simp) ?_
      refine AllReadyH.cons (o := suS10) rfl (fun K hK => ?_) AllReadyH.nil
      have k0 := KCs2.get 0 rfl
      have f0 := KCs2.fz 0 rfl
      have k1 := KCs2.get 1 rfl
      have f1 := KCs2.fz 1 rfl
      have k2 := KCs2.get 2 rfl
      have f2 := KCs2.fz 2 rfl
      have k3 := KCs2.get 3 rfl
      have f3 := KCs2.fz 3 rfl
      have k4 := KCs2.get 4 rfl
      have f4 := KCs2.fz 4 rfl
      have k5 := KCs2.get 5 rfl
      have f5 := KCs2.fz 5 rfl
      have k6 := KCs2.get 6 rfl
      have f6 := KCs2.fz 6 rfl
      have hN9 := (show w.heap.size + 1 < nbs2 from by have h1 := HNs2.out; have h2 := KCs1.lt 0 rfl; simp only at h2; omega)
      dsimp only [suS10]
      go_simp
      have KCs3 := KCs2.setB7 (.int .i64 id) (.int .i64 ((n : Int))) (.int .i64 0) (.int .i64 0) (.int .i64 0) (.int .i64 0) (.slice aoh HH.length ch) (by omega) (by simp only [List.mem_cons, List.not_mem_nil, or_false]; rintro c9 (rfl | rfl | rfl | rfl | rfl | rfl | rfl | rfl | rfl) <;> (dsimp only; omega))
      refine hK.out _ _ ?_ (fun hHs3 => ?_)
      · exact ⟨KCs3.get 14 rfl, KCs3.get 15 rfl⟩
      clear hK K
      try simp only [Act.put, suS10, List.setIfInBounds_toArray, List.set_cons_zero, List.set_cons_succ]
      refine wpAnyH_done (by kernel_rfl) ?_ _
      have HN9 := Lib.hid hN9
      have hfw : ∀ k ∈ fph, w.heap.size + 1 < k := fun k hk => by
        have h1 := hfh k hk
        have h2 := KDs.lt 0 rfl
        simp only at h2
        omega
      have HNE := Lib.hid (show ∀ k ∈ fph, k ≠ nbs2 from (fun k hk => by have h1 := hsh.lt k hk; have h2 := HNs2.out; omega))
      have HFW := Lib.hid hfw
      have HSS := Lib.hid ((hsh.step hbs2).setB7 nbs2 (.int .i64 id) (.int .i64 ((n : Int))) (.int .i64 0) (.int .i64 0) (.int .i64 0) (.int .i64 0) (.slice aoh HH.length ch) HNE.out)
      have HKX := Lib.hid KCs3
      clear k0 k1 k2 k3 k4 k5 k6 f0 f1 f2 f3 f4 f5 f6 hfw hfh hsh
      obtain ⟨wx, hwx⟩ : ∃ x, x = (((((((wcs2.setCell ⟨nbs2, 0, none⟩ (.int .i64 id)).setCell ⟨nbs2, 1, none⟩ (.int .i64 ((n : Int)))).setCell ⟨nbs2, 2, none⟩ (.int .i64 0)).setCell ⟨nbs2, 3, none⟩ (.int .i64 0)).setCell ⟨nbs2, 4, none⟩ (.int .i64 0)).setCell ⟨nbs2, 5, none⟩ (.int .i64 0)).setCell ⟨nbs2, 6, none⟩ (.slice aoh HH.length ch)) := ⟨_, rfl⟩
      rw [← hwx] at HKX HSS ⊢
      clear hwx
      go_wp2_with fail
      go_loopw [4, 5] (fun fv iv wr => ∃ k : Nat, k ≤ n ∧ iv = .int .i64 k ∧ fv = .bool (decide ((spL (l.take k)).c = 0)) ∧ Hid (Kept w wr [(⟨nbs2, 0, none⟩, .int .i64 id), (⟨nbs2, 1, none⟩, .int .i64 ((n : Int))), (⟨nbs2, 2, none⟩, .int .i64 ((k : Int) - (spL (l.take k)).c)), (⟨nbs2, 3, none⟩, .int .i64 ((spL (l.take k)).mn)), (⟨nbs2, 4, none⟩, .int .i64 ((spL (l.take k)).mx)), (⟨nbs2, 5, none⟩, .int .i64 ((spL (l.take k)).s)), (⟨nbs2, 6, none⟩, .slice aoh HH.length ch), (⟨w.heap.size + 1, 0, none⟩, .int .i64 0), (⟨w.heap.size + 1, 1, none⟩, .int .i64 0), (⟨w.heap.size + 1, 2, none⟩, .int .i64 0), (⟨w.heap.size + 1, 3, none⟩, .int .i64 0), (⟨w.heap.size + 1, 4, none⟩, .int .i64 0), (⟨w.heap.size + 1, 5, none⟩, .int .i64 0), (⟨w.heap.size + 1, 6, none⟩, .slice none 0 0), (⟨w.heap.size, 0, none⟩, .int .i64 id), (⟨w.heap.size, 1, none⟩, .slice ao n cap)]) ∧ Hid (SliceRep intTy wr (.slice aoh HH.length ch) HH fph)) (fun _ iv _ => n - (intOf iv).toNat)
      case atStart => exact ⟨0, Nat.zero_le _, rfl, rfl, HKX.out, HSS.out⟩
      case round =>
        obtain ⟨k, hk, rfl, rfl, HK, HS0⟩ := hrel
        clear HKX HSS
        have hN9 := HN9.out
        obtain ⟨ac, hac⟩ : ∃ z, z = spL (l.take k) := ⟨_, rfl⟩
        have HKK := HK.out
        rw [← hac] at HKK
        rw [← hac]
        have BD := spL_bound HOK.out k (by rw [HL.out]; exact hk)
        rw [← hac] at BD
        obtain ⟨c, m, x, s⟩ := ac
        simp only at HKK
        have HAC := Lib.hid hac
        have BD' := Lib.hid BD
        obtain ⟨b0, b1, _, _, _, _, _, _, b8, b9⟩ := BD
        simp only at b0 b1 b8 b9
        simp only
        clear hac
        obtain ⟨u, hu⟩ : ∃ u, u = (k : Int) - c := ⟨_, rfl⟩
        rw [← hu] at HKK
        have hu0 : 0 ≤ u := by omega
        have hu1 : u ≤ 6 := by omega
        have HU := Lib.hid hu
        clear hu
        have y0 := HKK.get 14 rfl
        have y1 := HKK.get 15 rfl
        by_cases hlt : k < n
        · have hkI : (k : Int) < (n : Int) := by omega
          obtain ⟨gg, rfl, hg, hR⟩ := (HV.out.below HKK.1).resolve_left (by omega)
          have hrow := hR k hlt
          obtain ⟨r, hr⟩ : ∃ r, r = Rn l k := ⟨_, rfl⟩
          rw [← hr] at hrow
          have hrk : rowB r.i r.g r.y r.x r.nl = true := by rw [hr, Rn_at (by rw [HL.out]; exact hlt)]; exact HOK.out k (by rw [HL.out]; exact hlt)
          have NX := Lib.hid (show spL (l.take (k + 1)) = Sp.row ⟨c, m, x, s⟩ r by rw [spL_take (by rw [HL.out]; exact hlt), ← HAC.out, hr, Rn_at (by rw [HL.out]; exact hlt)])
          obtain ⟨c0, c1, c2, c3, c4⟩ := hrow
          obtain ⟨ri, rg, ry, rx, rn⟩ := r
          simp only at c0 c1 c2 c3 c4 hrk
          obtain ⟨hx0, hx1⟩ := (rowB_of hrk).2.2.2.1
          have K5 := HKK.alloc5 (.int .i64 ri) (.int .i64 rg) (.int .i64 ry) (.int .i64 rx) (.bool rn) 36 wr.heap.size rfl
          have HS5 := Lib.hid (HS0.out.step ((Below.refl wr.heap.size wr).alloc (Nat.le_refl _) (.cells #[.int .i64 ri, .int .i64 rg, .int .i64 ry, .int .i64 rx, .bool rn] 36)))
          have hrb : w.heap.size + 1 < wr.heap.size ∧ nbs2 < wr.heap.size := ⟨by have h := HKK.lt 7 rfl; exact h, by have h := HKK.lt 0 rfl; exact h⟩
          obtain ⟨hrb0, hrb1⟩ := hrb
          obtain ⟨rb, hrb⟩ : ∃ x, x = wr.heap.size := ⟨_, rfl⟩
          go_upto_region 9 with fail
          obtain ⟨ws0, hx9⟩ : ∃ x, x = wr.alloc (.cells #[.int .i64 ri, .int .i64 rg, .int .i64 ry, .int .i64 rx, .bool rn] 36) := ⟨_, rfl⟩
          rw [← hx9] at K5 HS5 ⊢
          clear hx9
          rw [← hrb] at K5 hrb0 hrb1 ⊢
          clear hrb hr hrk hR c0 c1 c2 c3 c4 y0 y1 HKK
          have z3 := K5.get 3 rfl
          have z4 := K5.get 4 rfl
          cases rn
          · by_cases hc0 : c = 0
            · skip
              have NXX := Lib.hid (show spL (l.take (k + 1)) = ⟨1, rx, rx, rx⟩ from NX.out.trans (sp_first rfl hc0))
              have hs0 : s = 0 := by have h := BD'.out.2.2.1 hc0; injection h
              have hd0 : decide (c = 0) = true := decide_eq_true hc0
              rw [hd0]
              subst hs0
              have HC0 := Lib.hid hc0
              clear hc0
              have q0 := K5.get 8 rfl
              have KS1 : Kept w (ws0.setCell ⟨nbs2, 3, none⟩ (.int .i64 rx)) [(⟨rb, 0, none⟩, .int .i64 ri), (⟨rb, 1, none⟩, .int .i64 rg), (⟨rb, 2, none⟩, .int .i64 ry), (⟨rb, 3, none⟩, .int .i64 rx), (⟨rb, 4, none⟩, .bool false), (⟨nbs2, 0, none⟩, .int .i64 id), (⟨nbs2, 1, none⟩, .int .i64 ((n : Int))), (⟨nbs2, 2, none⟩, .int .i64 u), (⟨nbs2, 3, none⟩, .int .i64 rx), (⟨nbs2, 4, none⟩, .int .i64 x), (⟨nbs2, 5, none⟩, .int .i64 0), (⟨nbs2, 6, none⟩, .slice aoh HH.length ch), (⟨w.heap.size + 1, 0, none⟩, .int .i64 0), (⟨w.heap.size + 1, 1, none⟩, .int .i64 0), (⟨w.heap.size + 1, 2, none⟩, .int .i64 0), (⟨w.heap.size + 1, 3, none⟩, .int .i64 0), (⟨w.heap.size + 1, 4, none⟩, .int .i64 0), (⟨w.heap.size + 1, 5, none⟩, .int .i64 0), (⟨w.heap.size + 1, 6, none⟩, .slice none 0 0), (⟨w.heap.size, 0, none⟩, .int .i64 id), (⟨w.heap.size, 1, none⟩, .slice (some ⟨gg, 0, none⟩) n cap)] := Kept.set (p := [(⟨rb, 0, none⟩, .int .i64 ri), (⟨rb, 1, none⟩, .int .i64 rg), (⟨rb, 2, none⟩, .int .i64 ry), (⟨rb, 3, none⟩, .int .i64 rx), (⟨rb, 4, none⟩, .bool false), (⟨nbs2, 0, none⟩, .int .i64 id), (⟨nbs2, 1, none⟩, .int .i64 ((n : Int))), (⟨nbs2, 2, none⟩, .int .i64 u)]) K5 (.int .i64 rx) (by simp only; omega) (by simp only [List.cons_append, List.nil_append, List.mem_cons, List.not_mem_nil, or_false]; rintro c9 (rfl | rfl | rfl | rfl | rfl | rfl | rfl | rfl | rfl | rfl | rfl | rfl | rfl | rfl | rfl | rfl | rfl | rfl | rfl | rfl) <;> (intro e9; simp only [Addr.mk.injEq] at e9; omega))
              have x1 := K5.get 8 rfl
              have y1 := K5.fz 8 rfl
              go_upto_region 13 with fail
              obtain ⟨ws1, hx9⟩ : ∃ xq, xq = ws0.setCell ⟨nbs2, 3, none⟩ (.int .i64 rx) := ⟨_, rfl⟩
              have HS1 := Lib.hid (HS5.out.set ⟨nbs2, 3, none⟩ (.int .i64 rx) HNE.out)
              rw [← hx9] at KS1 HS1 ⊢
              clear hx9 x1 y1
              clear q0 z3
              have z3 := KS1.get 3 rfl
              have q1 := KS1.get 9 rfl
              have KS2 : Kept w (ws1.setCell ⟨nbs2, 4, none⟩ (.int .i64 rx)) [(⟨rb, 0, none⟩, .int .i64 ri), (⟨rb, 1, none⟩, .int .i64 rg), (⟨rb, 2, none⟩, .int .i64 ry), (⟨rb, 3, none⟩, .int .i64 rx), (⟨rb, 4, none⟩, .bool false), (⟨nbs2, 0, none⟩, .int .i64 id), (⟨nbs2, 1, none⟩, .int .i64 ((n : Int))), (⟨nbs2, 2, none⟩, .int .i64 u), (⟨nbs2, 3, none⟩, .int .i64 rx), (⟨nbs2, 4, none⟩, .int .i64 rx), (⟨nbs2, 5, none⟩, .int .i64 0), (⟨nbs2, 6, none⟩, .slice aoh HH.length ch), (⟨w.heap.size + 1, 0, none⟩, .int .i64 0), (⟨w.heap.size + 1, 1, none⟩, .int .i64 0), (⟨w.heap.size + 1, 2, none⟩, .int .i64 0), (⟨w.heap.size + 1, 3, none⟩, .int .i64 0), (⟨w.heap.size + 1, 4, none⟩, .int .i64 0), (⟨w.heap.size + 1, 5, none⟩, .int .i64 0), (⟨w.heap.size + 1, 6, none⟩, .slice none 0 0), (⟨w.heap.size, 0, none⟩, .int .i64 id), (⟨w.heap.size, 1, none⟩, .slice (some ⟨gg, 0, none⟩) n cap)] := Kept.set (p := [(⟨rb, 0, none⟩, .int .i64 ri), (⟨rb, 1, none⟩, .int .i64 rg), (⟨rb, 2, none⟩, .int .i64 ry), (⟨rb, 3, none⟩, .int .i64 rx), (⟨rb, 4, none⟩, .bool false), (⟨nbs2, 0, none⟩, .int .i64 id), (⟨nbs2, 1, none⟩, .int .i64 ((n : Int))), (⟨nbs2, 2, none⟩, .int .i64 u), (⟨nbs2, 3, none⟩, .int .i64 rx)]) KS1 (.int .i64 rx) (by simp only; omega) (by simp only [List.cons_append, List.nil_append, List.mem_cons, List.not_mem_nil, or_false]; rintro c9 (rfl | rfl | rfl | rfl | rfl | rfl | rfl | rfl | rfl | rfl | rfl | rfl | rfl | rfl | rfl | rfl | rfl | rfl | rfl | rfl) <;> (intro e9; simp only [Addr.mk.injEq] at e9; omega))
              have x2 := KS1.get 9 rfl
              have y2 := KS1.fz 9 rfl
              go_upto_region 14 with fail
              obtain ⟨ws2, hx9⟩ : ∃ xq, xq = ws1.setCell ⟨nbs2, 4, none⟩ (.int .i64 rx) := ⟨_, rfl⟩
              have HS2 := Lib.hid (HS1.out.set ⟨nbs2, 4, none⟩ (.int .i64 rx) HNE.out)
              rw [← hx9] at KS2 HS2 ⊢
              clear hx9 x2 y2
              clear q1 z3
              have z3 := KS2.get 3 rfl
              have q2 := KS2.get 8 rfl
              have KS3 : Kept w (ws2.setCell ⟨nbs2, 3, none⟩ (.int .i64 rx)) [(⟨rb, 0, none⟩, .int .i64 ri), (⟨rb, 1, none⟩, .int .i64 rg), (⟨rb, 2, none⟩, .int .i64 ry), (⟨rb, 3, none⟩, .int .i64 rx), (⟨rb, 4, none⟩, .bool false), (⟨nbs2, 0, none⟩, .int .i64 id), (⟨nbs2, 1, none⟩, .int .i64 ((n : Int))), (⟨nbs2, 2, none⟩, .int .i64 u), (⟨nbs2, 3, none⟩, .int .i64 rx), (⟨nbs2, 4, none⟩, .int .i64 rx), (⟨nbs2, 5, none⟩, .int .i64 0), (⟨nbs2, 6, none⟩, .slice aoh HH.length ch), (⟨w.heap.size + 1, 0, none⟩, .int .i64 0), (⟨w.heap.size + 1, 1, none⟩, .int .i64 0), (⟨w.heap.size + 1, 2, none⟩, .int .i64 0), (⟨w.heap.size + 1, 3, none⟩, .int .i64 0), (⟨w.heap.size + 1, 4, none⟩, .int .i64 0), (⟨w.heap.size + 1, 5, none⟩, .int .i64 0), (⟨w.heap.size + 1, 6, none⟩, .slice none 0 0), (⟨w.heap.size, 0, none⟩, .int .i64 id), (⟨w.heap.size, 1, none⟩, .slice (some ⟨gg, 0, none⟩) n cap)] := Kept.set (p := [(⟨rb, 0, none⟩, .int .i64 ri), (⟨rb, 1, none⟩, .int .i64 rg), (⟨rb, 2, none⟩, .int .i64 ry), (⟨rb, 3, none⟩, .int .i64 rx), (⟨rb, 4, none⟩, .bool false), (⟨nbs2, 0, none⟩, .int .i64 id), (⟨nbs2, 1, none⟩, .int .i64 ((n : Int))), (⟨nbs2, 2, none⟩, .int .i64 u)]) KS2 (.int .i64 rx) (by simp only; omega) (by simp only [List.cons_append, List.nil_append, List.mem_cons, List.not_mem_nil, or_false]; rintro c9 (rfl | rfl | rfl | rfl | rfl | rfl | rfl | rfl | rfl | rfl | rfl | rfl | rfl | rfl | rfl | rfl | rfl | rfl | rfl | rfl) <;> (intro e9; simp only [Addr.mk.injEq] at e9; omega))
              have x3 := KS2.get 8 rfl
              have y3 := KS2.fz 8 rfl
              go_upto_region 16 with fail
              obtain ⟨ws3, hx9⟩ : ∃ xq, xq = ws2.setCell ⟨nbs2, 3, none⟩ (.int .i64 rx) := ⟨_, rfl⟩
              have HS3 := Lib.hid (HS2.out.set ⟨nbs2, 3, none⟩ (.int .i64 rx) HNE.out)
              rw [← hx9] at KS3 HS3 ⊢
              clear hx9 x3 y3
              clear q2 z3
              have z3 := KS3.get 3 rfl
              have q3 := KS3.get 9 rfl
              have KS4 : Kept w (ws3.setCell ⟨nbs2, 4, none⟩ (.int .i64 rx)) [(⟨rb, 0, none⟩, .int .i64 ri), (⟨rb, 1, none⟩, .int .i64 rg), (⟨rb, 2, none⟩, .int .i64 ry), (⟨rb, 3, none⟩, .int .i64 rx), (⟨rb, 4, none⟩, .bool false), (⟨nbs2, 0, none⟩, .int .i64 id), (⟨nbs2, 1, none⟩, .int .i64 ((n : Int))), (⟨nbs2, 2, none⟩, .int .i64 u), (⟨nbs2, 3, none⟩, .int .i64 rx), (⟨nbs2, 4, none⟩, .int .i64 rx), (⟨nbs2, 5, none⟩, .int .i64 0), (⟨nbs2, 6, none⟩, .slice aoh HH.length ch), (⟨w.heap.size + 1, 0, none⟩, .int .i64 0), (⟨w.heap.size + 1, 1, none⟩, .int .i64 0), (⟨w.heap.size + 1, 2, none⟩, .int .i64 0), (⟨w.heap.size + 1, 3, none⟩, .int .i64 0), (⟨w.heap.size + 1, 4, none⟩, .int .i64 0), (⟨w.heap.size + 1, 5, none⟩, .int .i64 0), (⟨w.heap.size + 1, 6, none⟩, .slice none 0 0), (⟨w.heap.size, 0, none⟩, .int .i64 id), (⟨w.heap.size, 1, none⟩, .slice (some ⟨gg, 0, none⟩) n cap)] := Kept.set (p := [(⟨rb, 0, none⟩, .int .i64 ri), (⟨rb, 1, none⟩, .int .i64 rg), (⟨rb, 2, none⟩, .int .i64 ry), (⟨rb, 3, none⟩, .int .i64 rx), (⟨rb, 4, none⟩, .bool false), (⟨nbs2, 0, none⟩, .int .i64 id), (⟨nbs2, 1, none⟩, .int .i64 ((n : Int))), (⟨nbs2, 2, none⟩, .int .i64 u), (⟨nbs2, 3, none⟩, .int .i64 rx)]) KS3 (.int .i64 rx) (by simp only; omega) (by simp only [List.cons_append, List.nil_append, List.mem_cons, List.not_mem_nil, or_false]; rintro c9 (rfl | rfl | rfl | rfl | rfl | rfl | rfl | rfl | rfl | rfl | rfl | rfl | rfl | rfl | rfl | rfl | rfl | rfl | rfl | rfl) <;> (intro e9; simp only [Addr.mk.injEq] at e9; omega))
              have x4 := KS3.get 9 rfl
              have y4 := KS3.fz 9 rfl
              go_upto_region 17 with fail
              obtain ⟨ws4, hx9⟩ : ∃ xq, xq = ws3.setCell ⟨nbs2, 4, none⟩ (.int .i64 rx) := ⟨_, rfl⟩
              have HS4 := Lib.hid (HS3.out.set ⟨nbs2, 4, none⟩ (.int .i64 rx) HNE.out)
              rw [← hx9] at KS4 HS4 ⊢
              clear hx9 x4 y4
              clear q3 z3
              have z3 := KS4.get 3 rfl
              have q4 := KS4.get 10 rfl
              have KS5 : Kept w (ws4.setCell ⟨nbs2, 5, none⟩ (.int .i64 rx)) [(⟨rb, 0, none⟩, .int .i64 ri), (⟨rb, 1, none⟩, .int .i64 rg), (⟨rb, 2, none⟩, .int .i64 ry), (⟨rb, 3, none⟩, .int .i64 rx), (⟨rb, 4, none⟩, .bool false), (⟨nbs2, 0, none⟩, .int .i64 id), (⟨nbs2, 1, none⟩, .int .i64 ((n : Int))), (⟨nbs2, 2, none⟩, .int .i64 u), (⟨nbs2, 3, none⟩, .int .i64 rx), (⟨nbs2, 4, none⟩, .int .i64 rx), (⟨nbs2, 5, none⟩, .int .i64 rx), (⟨nbs2, 6, none⟩, .slice aoh HH.length ch), (⟨w.heap.size + 1, 0, none⟩, .int .i64 0), (⟨w.heap.size + 1, 1, none⟩, .int .i64 0), (⟨w.heap.size + 1, 2, none⟩, .int .i64 0), (⟨w.heap.size + 1, 3, none⟩, .int .i64 0), (⟨w.heap.size + 1, 4, none⟩, .int .i64 0), (⟨w.heap.size + 1, 5, none⟩, .int .i64 0), (⟨w.heap.size + 1, 6, none⟩, .slice none 0 0), (⟨w.heap.size, 0, none⟩, .int .i64 id), (⟨w.heap.size, 1, none⟩, .slice (some ⟨gg, 0, none⟩) n cap)] := Kept.set (p := [(⟨rb, 0, none⟩, .int .i64 ri), (⟨rb, 1, none⟩, .int .i64 rg), (⟨rb, 2, none⟩, .int .i64 ry), (⟨rb, 3, none⟩, .int .i64 rx), (⟨rb, 4, none⟩, .bool false), (⟨nbs2, 0, none⟩, .int .i64 id), (⟨nbs2, 1, none⟩, .int .i64 ((n : Int))), (⟨nbs2, 2, none⟩, .int .i64 u), (⟨nbs2, 3, none⟩, .int .i64 rx), (⟨nbs2, 4, none⟩, .int .i64 rx)]) KS4 (.int .i64 rx) (by simp only; omega) (by simp only [List.cons_append, List.nil_append, List.mem_cons, List.not_mem_nil, or_false]; rintro c9 (rfl | rfl | rfl | rfl | rfl | rfl | rfl | rfl | rfl | rfl | rfl | rfl | rfl | rfl | rfl | rfl | rfl | rfl | rfl | rfl) <;> (intro e9; simp only [Addr.mk.injEq] at e9; omega))
              have x5 := KS4.get 10 rfl
              have y5 := KS4.fz 10 rfl
              go_upto_region 7 with fail
              obtain ⟨ws5, hx9⟩ : ∃ xq, xq = ws4.setCell ⟨nbs2, 5, none⟩ (.int .i64 rx) := ⟨_, rfl⟩
              have HS5 := Lib.hid (HS4.out.set ⟨nbs2, 5, none⟩ (.int .i64 rx) HNE.out)
              rw [← hx9] at KS5 HS5 ⊢
              clear hx9 x5 y5
              clear q4 z3
              have z3 := KS5.get 3 rfl
              have HKE := Lib.hid (show Kept w ws5 [(⟨nbs2, 0, none⟩, .int .i64 id), (⟨nbs2, 1, none⟩, .int .i64 ((n : Int))), (⟨nbs2, 2, none⟩, .int .i64 (((k + 1 : Nat) : Int) - (spL (l.take (k + 1))).c)), (⟨nbs2, 3, none⟩, .int .i64 ((spL (l.take (k + 1))).mn)), (⟨nbs2, 4, none⟩, .int .i64 ((spL (l.take (k + 1))).mx)), (⟨nbs2, 5, none⟩, .int .i64 ((spL (l.take (k + 1))).s)), (⟨nbs2, 6, none⟩, .slice aoh HH.length ch), (⟨w.heap.size + 1, 0, none⟩, .int .i64 0), (⟨w.heap.size + 1, 1, none⟩, .int .i64 0), (⟨w.heap.size + 1, 2, none⟩, .int .i64 0), (⟨w.heap.size + 1, 3, none⟩, .int .i64 0), (⟨w.heap.size + 1, 4, none⟩, .int .i64 0), (⟨w.heap.size + 1, 5, none⟩, .int .i64 0), (⟨w.heap.size + 1, 6, none⟩, .slice none 0 0), (⟨w.heap.size, 0, none⟩, .int .i64 id), (⟨w.heap.size, 1, none⟩, .slice (some ⟨gg, 0, none⟩) n cap)] by
                rw [NXX.out]
                simp only
                rw [show ((k + 1 : Nat) : Int) - 1 = u by have := HU.out; have := HC0.out; omega]
                exact KS5.sub (by intro p9 hp9; simp only [List.mem_cons, List.not_mem_nil, or_false] at hp9; rcases hp9 with rfl | rfl | rfl | rfl | rfl | rfl | rfl | rfl | rfl | rfl | rfl | rfl | rfl | rfl | rfl | rfl <;> simp))
              have HFV := Lib.hid (show Value.bool false = .bool (decide ((spL (l.take (k + 1))).c = 0)) from ret_b (by rw [NXX.out]; rfl))
              clear z3 z4
              try clear KS5
              go_wp2
              go_roundw
              case rel => exact ⟨k + 1, by omega, by go_num, HFV.out, HKE.out, HS5.out⟩
              case measure => simp [intOf]; omega
            · skip
              have NXX := Lib.hid (show spL (l.take (k + 1)) = ⟨c + 1, min m rx, max x rx, s + rx⟩ from NX.out.trans (sp_more rfl hc0))
              have hd0 : decide (c = 0) = false := decide_eq_false hc0
              rw [hd0]
              have hw9 : IntKind.i64.wrap (s + rx) = s + rx := by rw [IntKind.wrap_i64]; omega
              have HC0 := Lib.hid hc0
              clear hc0
              have q0 := K5.get 8 rfl
              have KS1 : Kept w (ws0.setCell ⟨nbs2, 3, none⟩ (.int .i64 (min m rx))) [(⟨rb, 0, none⟩, .int .i64 ri), (⟨rb, 1, none⟩, .int .i64 rg), (⟨rb, 2, none⟩, .int .i64 ry), (⟨rb, 3, none⟩, .int .i64 rx), (⟨rb, 4, none⟩, .bool false), (⟨nbs2, 0, none⟩, .int .i64 id), (⟨nbs2, 1, none⟩, .int .i64 ((n : Int))), (⟨nbs2, 2, none⟩, .int .i64 u), (⟨nbs2, 3, none⟩, .int .i64 (min m rx)), (⟨nbs2, 4, none⟩, .int .i64 x), (⟨nbs2, 5, none⟩, .int .i64 s), (⟨nbs2, 6, none⟩, .slice aoh HH.length ch), (⟨w.heap.size + 1, 0, none⟩, .int .i64 0), (⟨w.heap.size + 1, 1, none⟩, .int .i64 0), (⟨w.heap.size + 1, 2, none⟩, .int .i64 0), (⟨w.heap.size + 1, 3, none⟩, .int .i64 0), (⟨w.heap.size + 1, 4, none⟩, .int .i64 0), (⟨w.heap.size + 1, 5, none⟩, .int .i64 0), (⟨w.heap.size + 1, 6, none⟩, .slice none 0 0), (⟨w.heap.size, 0, none⟩, .int .i64 id), (⟨w.heap.size, 1, none⟩, .slice (some ⟨gg, 0, none⟩) n cap)] := Kept.set (p := [(⟨rb, 0, none⟩, .int .i64 ri), (⟨rb, 1, none⟩, .int .i64 rg), (⟨rb, 2, none⟩, .int .i64 ry), (⟨rb, 3, none⟩, .int .i64 rx), (⟨rb, 4, none⟩, .bool false), (⟨nbs2, 0, none⟩, .int .i64 id), (⟨nbs2, 1, none⟩, .int .i64 ((n : Int))), (⟨nbs2, 2, none⟩, .int .i64 u)]) K5 (.int .i64 (min m rx)) (by simp only; omega) (by simp only [List.cons_append, List.nil_append, List.mem_cons, List.not_mem_nil, or_false]; rintro c9 (rfl | rfl | rfl | rfl | rfl | rfl | rfl | rfl | rfl | rfl | rfl | rfl | rfl | rfl | rfl | rfl | rfl | rfl | rfl | rfl) <;> (intro e9; simp only [Addr.mk.injEq] at e9; omega))
              have x1 := K5.get 8 rfl
              have y1 := K5.fz 8 rfl
              go_upto_region 16 with fail
              obtain ⟨ws1, hx9⟩ : ∃ xq, xq = ws0.setCell ⟨nbs2, 3, none⟩ (.int .i64 (min m rx)) := ⟨_, rfl⟩
              have HS1 := Lib.hid (HS5.out.set ⟨nbs2, 3, none⟩ (.int .i64 (min m rx)) HNE.out)
              rw [← hx9] at KS1 HS1 ⊢
              clear hx9 x1 y1
              clear q0 z3
              have z3 := KS1.get 3 rfl
              have q1 := KS1.get 9 rfl
              have KS2 : Kept w (ws1.setCell ⟨nbs2, 4, none⟩ (.int .i64 (max x rx))) [(⟨rb, 0, none⟩, .int .i64 ri), (⟨rb, 1, none⟩, .int .i64 rg), (⟨rb, 2, none⟩, .int .i64 ry), (⟨rb, 3, none⟩, .int .i64 rx), (⟨rb, 4, none⟩, .bool false), (⟨nbs2, 0, none⟩, .int .i64 id), (⟨nbs2, 1, none⟩, .int .i64 ((n : Int))), (⟨nbs2, 2, none⟩, .int .i64 u), (⟨nbs2, 3, none⟩, .int .i64 (min m rx)), (⟨nbs2, 4, none⟩, .int .i64 (max x rx)), (⟨nbs2, 5, none⟩, .int .i64 s), (⟨nbs2, 6, none⟩, .slice aoh HH.length ch), (⟨w.heap.size + 1, 0, none⟩, .int .i64 0), (⟨w.heap.size + 1, 1, none⟩, .int .i64 0), (⟨w.heap.size + 1, 2, none⟩, .int .i64 0), (⟨w.heap.size + 1, 3, none⟩, .int .i64 0), (⟨w.heap.size + 1, 4, none⟩, .int .i64 0), (⟨w.heap.size + 1, 5, none⟩, .int .i64 0), (⟨w.heap.size + 1, 6, none⟩, .slice none 0 0), (⟨w.heap.size, 0, none⟩, .int .i64 id), (⟨w.heap.size, 1, none⟩, .slice (some ⟨gg, 0, none⟩) n cap)] := Kept.set (p := [(⟨rb, 0, none⟩, .int .i64 ri), (⟨rb, 1, none⟩, .int .i64 rg), (⟨rb, 2, none⟩, .int .i64 ry), (⟨rb, 3, none⟩, .int .i64 rx), (⟨rb, 4, none⟩, .bool false), (⟨nbs2, 0, none⟩, .int .i64 id), (⟨nbs2, 1, none⟩, .int .i64 ((n : Int))), (⟨nbs2, 2, none⟩, .int .i64 u), (⟨nbs2, 3, none⟩, .int .i64 (min m rx))]) KS1 (.int .i64 (max x rx)) (by simp only; omega) (by simp only [List.cons_append, List.nil_append, List.mem_cons, List.not_mem_nil, or_false]; rintro c9 (rfl | rfl | rfl | rfl | rfl | rfl | rfl | rfl | rfl | rfl | rfl | rfl | rfl | rfl | rfl | rfl | rfl | rfl | rfl | rfl) <;> (intro e9; simp only [Addr.mk.injEq] at e9; omega))
              have x2 := KS1.get 9 rfl
              have y2 := KS1.fz 9 rfl
              go_upto_region 17 with fail
              obtain ⟨ws2, hx9⟩ : ∃ xq, xq = ws1.setCell ⟨nbs2, 4, none⟩ (.int .i64 (max x rx)) := ⟨_, rfl⟩
              have HS2 := Lib.hid (HS1.out.set ⟨nbs2, 4, none⟩ (.int .i64 (max x rx)) HNE.out)
              rw [← hx9] at KS2 HS2 ⊢
              clear hx9 x2 y2
              clear q1 z3
              have z3 := KS2.get 3 rfl
              have q2 := KS2.get 10 rfl
              have KS3 : Kept w (ws2.setCell ⟨nbs2, 5, none⟩ (.int .i64 (s + rx))) [(⟨rb, 0, none⟩, .int .i64 ri), (⟨rb, 1, none⟩, .int .i64 rg), (⟨rb, 2, none⟩, .int .i64 ry), (⟨rb, 3, none⟩, .int .i64 rx), (⟨rb, 4, none⟩, .bool false), (⟨nbs2, 0, none⟩, .int .i64 id), (⟨nbs2, 1, none⟩, .int .i64 ((n : Int))), (⟨nbs2, 2, none⟩, .int .i64 u), (⟨nbs2, 3, none⟩, .int .i64 (min m rx)), (⟨nbs2, 4, none⟩, .int .i64 (max x rx)), (⟨nbs2, 5, none⟩, .int .i64 (s + rx)), (⟨nbs2, 6, none⟩, .slice aoh HH.length ch), (⟨w.heap.size + 1, 0, none⟩, .int .i64 0), (⟨w.heap.size + 1, 1, none⟩, .int .i64 0), (⟨w.heap.size + 1, 2, none⟩, .int .i64 0), (⟨w.heap.size + 1, 3, none⟩, .int .i64 0), (⟨w.heap.size + 1, 4, none⟩, .int .i64 0), (⟨w.heap.size + 1, 5, none⟩, .int .i64 0), (⟨w.heap.size + 1, 6, none⟩, .slice none 0 0), (⟨w.heap.size, 0, none⟩, .int .i64 id), (⟨w.heap.size, 1, none⟩, .slice (some ⟨gg, 0, none⟩) n cap)] := Kept.set (p := [(⟨rb, 0, none⟩, .int .i64 ri), (⟨rb, 1, none⟩, .int .i64 rg), (⟨rb, 2, none⟩, .int .i64 ry), (⟨rb, 3, none⟩, .int .i64 rx), (⟨rb, 4, none⟩, .bool false), (⟨nbs2, 0, none⟩, .int .i64 id), (⟨nbs2, 1, none⟩, .int .i64 ((n : Int))), (⟨nbs2, 2, none⟩, .int .i64 u), (⟨nbs2, 3, none⟩, .int .i64 (min m rx)), (⟨nbs2, 4, none⟩, .int .i64 (max x rx))]) KS2 (.int .i64 (s + rx)) (by simp only; omega) (by simp only [List.cons_append, List.nil_append, List.mem_cons, List.not_mem_nil, or_false]; rintro c9 (rfl | rfl | rfl | rfl | rfl | rfl | rfl | rfl | rfl | rfl | rfl | rfl | rfl | rfl | rfl | rfl | rfl | rfl | rfl | rfl) <;> (intro e9; simp only [Addr.mk.injEq] at e9; omega))
              have x3 := KS2.get 10 rfl
              have y3 := KS2.fz 10 rfl
              go_upto_region 7 with fail
              obtain ⟨ws3, hx9⟩ : ∃ xq, xq = ws2.setCell ⟨nbs2, 5, none⟩ (.int .i64 (s + rx)) := ⟨_, rfl⟩
              have HS3 := Lib.hid (HS2.out.set ⟨nbs2, 5, none⟩ (.int .i64 (s + rx)) HNE.out)
              rw [← hx9] at KS3 HS3 ⊢
              clear hx9 x3 y3
              clear q2 z3
              have z3 := KS3.get 3 rfl
              have HKE := Lib.hid (show Kept w ws3 [(⟨nbs2, 0, none⟩, .int .i64 id), (⟨nbs2, 1, none⟩, .int .i64 ((n : Int))), (⟨nbs2, 2, none⟩, .int .i64 (((k + 1 : Nat) : Int) - (spL (l.take (k + 1))).c)), (⟨nbs2, 3, none⟩, .int .i64 ((spL (l.take (k + 1))).mn)), (⟨nbs2, 4, none⟩, .int .i64 ((spL (l.take (k + 1))).mx)), (⟨nbs2, 5, none⟩, .int .i64 ((spL (l.take (k + 1))).s)), (⟨nbs2, 6, none⟩, .slice aoh HH.length ch), (⟨w.heap.size + 1, 0, none⟩, .int .i64 0), (⟨w.heap.size + 1, 1, none⟩, .int .i64 0), (⟨w.heap.size + 1, 2, none⟩, .int .i64 0), (⟨w.heap.size + 1, 3, none⟩, .int .i64 0), (⟨w.heap.size + 1, 4, none⟩, .int .i64 0), (⟨w.heap.size + 1, 5, none⟩, .int .i64 0), (⟨w.heap.size + 1, 6, none⟩, .slice none 0 0), (⟨w.heap.size, 0, none⟩, .int .i64 id), (⟨w.heap.size, 1, none⟩, .slice (some ⟨gg, 0, none⟩) n cap)] by
                rw [NXX.out]
                simp only
                rw [show ((k + 1 : Nat) : Int) - (c + 1) = u by have := HU.out; omega]
                exact KS3.sub (by intro p9 hp9; simp only [List.mem_cons, List.not_mem_nil, or_false] at hp9; rcases hp9 with rfl | rfl | rfl | rfl | rfl | rfl | rfl | rfl | rfl | rfl | rfl | rfl | rfl | rfl | rfl | rfl <;> simp))
              have HFV := Lib.hid (show Value.bool false = .bool (decide ((spL (l.take (k + 1))).c = 0)) from ret_b (by rw [NXX.out]; exact decide_eq_false (by simp only; omega)))
              clear z3 z4
              try clear KS3
              go_wp2
              go_roundw
              case rel => exact ⟨k + 1, by omega, by go_num, HFV.out, HKE.out, HS3.out⟩
              case measure => simp [intOf]; omega
          · skip
            have hc9 := BD'.out
            have NXX := Lib.hid (show spL (l.take (k + 1)) = ⟨c, m, x, s⟩ from NX.out.trans (sp_null rfl))
            have hw9 : IntKind.i64.wrap (u + 1) = u + 1 := by rw [IntKind.wrap_i64]; omega
            clear hc9
            have q0 := K5.get 7 rfl
            have KS1 : Kept w (ws0.setCell ⟨nbs2, 2, none⟩ (.int .i64 (u + 1))) [(⟨rb, 0, none⟩, .int .i64 ri), (⟨rb, 1, none⟩, .int .i64 rg), (⟨rb, 2, none⟩, .int .i64 ry), (⟨rb, 3, none⟩, .int .i64 rx), (⟨rb, 4, none⟩, .bool true), (⟨nbs2, 0, none⟩, .int .i64 id), (⟨nbs2, 1, none⟩, .int .i64 ((n : Int))), (⟨nbs2, 2, none⟩, .int .i64 (u + 1)), (⟨nbs2, 3, none⟩, .int .i64 m), (⟨nbs2, 4, none⟩, .int .i64 x), (⟨nbs2, 5, none⟩, .int .i64 s), (⟨nbs2, 6, none⟩, .slice aoh HH.length ch), (⟨w.heap.size + 1, 0, none⟩, .int .i64 0), (⟨w.heap.size + 1, 1, none⟩, .int .i64 0), (⟨w.heap.size + 1, 2, none⟩, .int .i64 0), (⟨w.heap.size + 1, 3, none⟩, .int .i64 0), (⟨w.heap.size + 1, 4, none⟩, .int .i64 0), (⟨w.heap.size + 1, 5, none⟩, .int .i64 0), (⟨w.heap.size + 1, 6, none⟩, .slice none 0 0), (⟨w.heap.size, 0, none⟩, .int .i64 id), (⟨w.heap.size, 1, none⟩, .slice (some ⟨gg, 0, none⟩) n cap)] := Kept.set (p := [(⟨rb, 0, none⟩, .int .i64 ri), (⟨rb, 1, none⟩, .int .i64 rg), (⟨rb, 2, none⟩, .int .i64 ry), (⟨rb, 3, none⟩, .int .i64 rx), (⟨rb, 4, none⟩, .bool true), (⟨nbs2, 0, none⟩, .int .i64 id), (⟨nbs2, 1, none⟩, .int .i64 ((n : Int)))]) K5 (.int .i64 (u + 1)) (by simp only; omega) (by simp only [List.cons_append, List.nil_append, List.mem_cons, List.not_mem_nil, or_false]; rintro c9 (rfl | rfl | rfl | rfl | rfl | rfl | rfl | rfl | rfl | rfl | rfl | rfl | rfl | rfl | rfl | rfl | rfl | rfl | rfl | rfl) <;> (intro e9; simp only [Addr.mk.injEq] at e9; omega))
            have x1 := K5.get 7 rfl
            have y1 := K5.fz 7 rfl
            go_upto_region 7 with fail
            obtain ⟨ws1, hx9⟩ : ∃ xq, xq = ws0.setCell ⟨nbs2, 2, none⟩ (.int .i64 (u + 1)) := ⟨_, rfl⟩
            have HS1 := Lib.hid (HS5.out.set ⟨nbs2, 2, none⟩ (.int .i64 (u + 1)) HNE.out)
            rw [← hx9] at KS1 HS1 ⊢
            clear hx9 x1 y1
            clear q0
            have HKE := Lib.hid (show Kept w ws1 [(⟨nbs2, 0, none⟩, .int .i64 id), (⟨nbs2, 1, none⟩, .int .i64 ((n : Int))), (⟨nbs2, 2, none⟩, .int .i64 (((k + 1 : Nat) : Int) - (spL (l.take (k + 1))).c)), (⟨nbs2, 3, none⟩, .int .i64 ((spL (l.take (k + 1))).mn)), (⟨nbs2, 4, none⟩, .int .i64 ((spL (l.take (k + 1))).mx)), (⟨nbs2, 5, none⟩, .int .i64 ((spL (l.take (k + 1))).s)), (⟨nbs2, 6, none⟩, .slice aoh HH.length ch), (⟨w.heap.size + 1, 0, none⟩, .int .i64 0), (⟨w.heap.size + 1, 1, none⟩, .int .i64 0), (⟨w.heap.size + 1, 2, none⟩, .int .i64 0), (⟨w.heap.size + 1, 3, none⟩, .int .i64 0), (⟨w.heap.size + 1, 4, none⟩, .int .i64 0), (⟨w.heap.size + 1, 5, none⟩, .int .i64 0), (⟨w.heap.size + 1, 6, none⟩, .slice none 0 0), (⟨w.heap.size, 0, none⟩, .int .i64 id), (⟨w.heap.size, 1, none⟩, .slice (some ⟨gg, 0, none⟩) n cap)] by
              rw [NXX.out]
              simp only
              rw [show ((k + 1 : Nat) : Int) - c = u + 1 by have := HU.out; omega]
              exact KS1.sub (by intro p9 hp9; simp only [List.mem_cons, List.not_mem_nil, or_false] at hp9; rcases hp9 with rfl | rfl | rfl | rfl | rfl | rfl | rfl | rfl | rfl | rfl | rfl | rfl | rfl | rfl | rfl | rfl <;> simp))
            have HFV := Lib.hid (show Value.bool (decide (c = 0)) = .bool (decide ((spL (l.take (k + 1))).c = 0)) from ret_b (by rw [NXX.out]))
            clear z3 z4
            try clear KS1
            go_wp2
            go_roundw
            case rel => exact ⟨k + 1, by omega, by go_num, HFV.out, HKE.out, HS1.out⟩
            case measure => simp [intOf]; omega
        · obtain rfl : k = n := by omega
          have hsd : decide ((k : Int) < (k : Int)) = false := decide_eq_false (by omega)
          have AN2 := Lib.hid (show sumB id l = ⟨id, k, u, m, x, s, HH⟩ by rw [AN.out, HU.out, show spL l = ⟨c, m, x, s⟩ from by rw [HAC.out, show l.take k = l from by rw [← HL.out, List.take_length]]])
          have hNN := HKK.lt 0 rfl
          have K7 := (HKK.sub (l' := [(⟨w.heap.size + 1, 0, none⟩, .int .i64 0), (⟨w.heap.size + 1, 1, none⟩, .int .i64 0), (⟨w.heap.size + 1, 2, none⟩, .int .i64 0), (⟨w.heap.size + 1, 3, none⟩, .int .i64 0), (⟨w.heap.size + 1, 4, none⟩, .int .i64 0), (⟨w.heap.size + 1, 5, none⟩, .int .i64 0), (⟨w.heap.size + 1, 6, none⟩, .slice none 0 0), (⟨nbs2, 0, none⟩, .int .i64 id), (⟨nbs2, 1, none⟩, .int .i64 ((k : Int))), (⟨nbs2, 2, none⟩, .int .i64 u), (⟨nbs2, 3, none⟩, .int .i64 m), (⟨nbs2, 4, none⟩, .int .i64 x), (⟨nbs2, 5, none⟩, .int .i64 s), (⟨nbs2, 6, none⟩, .slice aoh HH.length ch)]) (by intro p9 hp9; simp only [List.mem_cons, List.not_mem_nil, or_false] at hp9; rcases hp9 with rfl | rfl | rfl | rfl | rfl | rfl | rfl | rfl | rfl | rfl | rfl | rfl | rfl | rfl <;> simp)).setB7 (.int .i64 id) (.int .i64 ((k : Int))) (.int .i64 u) (.int .i64 m) (.int .i64 x) (.int .i64 s) (.slice aoh HH.length ch) (by omega) (by simp only [List.mem_cons, List.not_mem_nil, or_false]; rintro c9 (rfl | rfl | rfl | rfl | rfl | rfl | rfl) <;> (dsimp only; omega))
          have HK7 := Lib.hid K7.1
          have HS9 := Lib.hid (HS0.out.setB7 (w.heap.size + 1) (.int .i64 id) (.int .i64 ((k : Int))) (.int .i64 u) (.int .i64 m) (.int .i64 x) (.int .i64 s) (.slice aoh HH.length ch) (fun j hj => by have := HFW.out j hj; omega))
          have HF9 := Lib.hid (show ∀ j ∈ fph, w.heap.size ≤ j from fun j hj => by have := HFW.out j hj; omega)
          have k0 := HKK.get 7 rfl
          have f0 := HKK.fz 7 rfl
          have e0 := HKK.get 0 rfl
          have k1 := HKK.get 8 rfl
          have f1 := HKK.fz 8 rfl
          have e1 := HKK.get 1 rfl
          have k2 := HKK.get 9 rfl
          have f2 := HKK.fz 9 rfl
          have e2 := HKK.get 2 rfl
          have k3 := HKK.get 10 rfl
          have f3 := HKK.fz 10 rfl
          have e3 := HKK.get 3 rfl
          have k4 := HKK.get 11 rfl
          have f4 := HKK.fz 11 rfl
          have e4 := HKK.get 4 rfl
          have k5 := HKK.get 12 rfl
          have f5 := HKK.fz 12 rfl
          have e5 := HKK.get 5 rfl
          have k6 := HKK.get 13 rfl
          have f6 := HKK.fz 13 rfl
          have e6 := HKK.get 6 rfl
          have z := HKK.lt 7 rfl
          clear K7 HKK b0 b1 b8 b9 hu0 hu1 hNN
          go_wp2
          exact bodyPost_ret (v := .agg #[.int .i64 id, .int .i64 (k : Int), .int .i64 u, .int .i64 m, .int .i64 x, .int .i64 s, .slice aoh HH.length ch]) (by simp [results, Try.results49, go_sem, k0, k1, k2, k3, k4, k5, k6, z]) rfl ⟨_, fph, by rw [AN2.out], by rw [AN2.out]; exact HS9.out, hndh, HF9.out, HK7.out⟩
    · skip
      dsimp only [suS9]
      go_simp
      have KCs1 := KDs.alloc7 (.int .i64 0) (.int .i64 0) (.int .i64 0) (.int .i64 0) (.int .i64 0) (.int .i64 0) (.slice none 0 0) 77 wDs.heap.size rfl
      have hbs1 : Below wDs.heap.size wDs (wDs.alloc (.cells #[.int .i64 0, .int .i64 0, .int .i64 0, .int .i64 0, .int .i64 0, .int .i64 0, .slice none 0 0] 77)) := (Below.refl _ _).alloc (Nat.le_refl _) _
      obtain ⟨nbs1, hN1⟩ : ∃ x, x = wDs.heap.size := ⟨_, rfl⟩
      refine hK.out _ _ ?_ (fun hHs1 => ?_)
      · exact ⟨KCs1.get 14 rfl, KCs1.get 15 rfl⟩
      clear hK K
      try simp only [Act.put, suS9, List.setIfInBounds_toArray, List.set_cons_zero, List.set_cons_succ]
      obtain ⟨wcs1, hx9⟩ : ∃ x, x = wDs.alloc (.cells #[.int .i64 0, .int .i64 0, .int .i64 0, .int .i64 0, .int .i64 0, .int .i64 0, .slice none 0 0] 77) := ⟨_, rfl⟩
      rw [← hx9] at KCs1 hHs1 hbs1 ⊢
      clear hx9
      have HNs1 := Lib.hid hN1
      rw [← hN1] at KCs1 ⊢
      clear hN1
      refine wpAnyH_ready (rs := [7]) (by kernel_rfl) (by simp) ?_
      refine AllReadyH.cons (o := suS7) rfl (fun K hK => ?_) AllReadyH.nil
      dsimp only [suS7]
      go_simp
      go_at_call 35
      (with_reducible refine (HI.out _ (HV.out.below (Kept.below KCs1))).mono ?_)
      rintro e9 wcs2 ⟨vh, fph, rfl, hsh, hndh, hfh, hbs2⟩
      obtain ⟨aoh, ch, rfl, _, hVh⟩ := ints_open hsh
      have KCs2 := KCs1.step hbs2
      refine hK.out _ _ ?_ (fun hHs2 => ?_)
      · exact ⟨KCs2.get 14 rfl, KCs2.get 15 rfl⟩
      clear hK K
      try simp only [Act.put, suS7, List.setIfInBounds_toArray, List.set_cons_zero, List.set_cons_succ]
      refine wpAnyH_take (i := 8) (oi := suS8) (v := .agg #[.int .i64 id, .int .i64 ((n : Int)), .int .i64 0, .int .i64 0, .int .i64 0, .int .i64 0, .slice aoh HH.length ch]) rfl (by kernel_rfl) (by kernel_rfl) (by kernel_rfl) (fun _ _ _ h => h) (Or.inl ⟨by rfl, ?_⟩) (by assumption) ?_
      · intro w8 hS8
        (try dsimp only at hS8)
        dsimp only [suS8]
        (first | (go_simp; done) | (go_simp; simp_all; done) | (simp_all [go_sem]; done))
      try simp only [Act.put, suS8, List.setIfInBounds_toArray, List.set_cons_zero, List.set_cons_succ]
      refine wpAnyH_ready (rs := [10]) (by kernel_rfl) (by simp) ?_
      refine AllReadyH.cons (o := suS10) rfl (fun K hK => ?_) AllReadyH.nil
      have k0 := KCs2.get 0 rfl
      have f0 := KCs2.fz 0 rfl
      have k1 := KCs2.get 1 rfl
      have f1 := KCs2.fz 1 rfl
      have k2 := KCs2.get 2 rfl
      have f2 := KCs2.fz 2 rfl
      have k3 := KCs2.get 3 rfl
      have f3 := KCs2.fz 3 rfl
      have k4 := KCs2.get 4 rfl
      have f4 := KCs2.fz 4 rfl
      have k5 := KCs2.get 5 rfl
      have f5 := KCs2.fz 5 rfl
      have k6 := KCs2.get 6 rfl
      have f6 := KCs2.fz 6 rfl
      have hN9 := (show w.heap.size + 1 < nbs1 from by have h1 := HNs1.out; have h2 := KDs.lt 0 rfl; simp only at h2; omega)
      dsimp only [suS10]
      go_simp
      have KCs3 := KCs2.setB7 (.int .i64 id) (.int .i64 ((n : Int))) (.int .i64 0) (.int .i64 0) (.int .i64 0) (.int .i64 0) (.slice aoh HH.length ch) (by omega) (by simp only [List.mem_cons, List.not_mem_nil, or_false]; rintro c9 (rfl | rfl | rfl | rfl | rfl | rfl | rfl | rfl | rfl) <;> (dsimp only; omega))
      refine hK.out _ _ ?_ (fun hHs3 => ?_)
      · exact ⟨KCs3.get 14 rfl, KCs3.get 15 rfl⟩
      clear hK K
      try simp only [Act.put, suS10, List.setIfInBounds_toArray, List.set_cons_zero, List.set_cons_succ]
      refine wpAnyH_done (by kernel_rfl) ?_ _
      have HN9 := Lib.hid hN9
      have hfw : ∀ k ∈ fph, w.heap.size + 1 < k := fun k hk => by
        have h1 := hfh k hk
        have h2 := KCs1.lt 7 rfl
        simp only at h2
        omega
      have HNE := Lib.hid (show ∀ k ∈ fph, k ≠ nbs1 from (fun k hk => by have h1 := hfh k hk; have h2 := KCs1.lt 0 rfl; simp only at h2; omega))
      have HFW := Lib.hid hfw
      have HSS := Lib.hid (hsh.setB7 nbs1 (.int .i64 id) (.int .i64 ((n : Int))) (.int .i64 0) (.int .i64 0) (.int .i64 0) (.int .i64 0) (.slice aoh HH.length ch) HNE.out)
      have HKX := Lib.hid KCs3
      clear k0 k1 k2 k3 k4 k5 k6 f0 f1 f2 f3 f4 f5 f6 hfw hfh hsh
      obtain ⟨wx, hwx⟩ : ∃ x, x = (((((((wcs2.setCell ⟨nbs1, 0, none⟩ (.int .i64 id)).setCell ⟨nbs1, 1, none⟩ (.int .i64 ((n : Int)))).setCell ⟨nbs1, 2, none⟩ (.int .i64 0)).setCell ⟨nbs1, 3, none⟩ (.int .i64 0)).setCell ⟨nbs1, 4, none⟩ (.int .i64 0)).setCell ⟨nbs1, 5, none⟩ (.int .i64 0)).setCell ⟨nbs1, 6, none⟩ (.slice aoh HH.length ch)) := ⟨_, rfl⟩
      rw [← hwx] at HKX HSS ⊢
      clear hwx
      go_wp2_with fail
      go_loopw [4, 5] (fun fv iv wr => ∃ k : Nat, k ≤ n ∧ iv = .int .i64 k ∧ fv = .bool (decide ((spL (l.take k)).c = 0)) ∧ Hid (Kept w wr [(⟨nbs1, 0, none⟩, .int .i64 id), (⟨nbs1, 1, none⟩, .int .i64 ((n : Int))), (⟨nbs1, 2, none⟩, .int .i64 ((k : Int) - (spL (l.take k)).c)), (⟨nbs1, 3, none⟩, .int .i64 ((spL (l.take k)).mn)), (⟨nbs1, 4, none⟩, .int .i64 ((spL (l.take k)).mx)), (⟨nbs1, 5, none⟩, .int .i64 ((spL (l.take k)).s)), (⟨nbs1, 6, none⟩, .slice aoh HH.length ch), (⟨w.heap.size + 1, 0, none⟩, .int .i64 0), (⟨w.heap.size + 1, 1, none⟩, .int .i64 0), (⟨w.heap.size + 1, 2, none⟩, .int .i64 0), (⟨w.heap.size + 1, 3, none⟩, .int .i64 0), (⟨w.heap.size + 1, 4, none⟩, .int .i64 0), (⟨w.heap.size + 1, 5, none⟩, .int .i64 0), (⟨w.heap.size + 1, 6, none⟩, .slice none 0 0), (⟨w.heap.size, 0, none⟩, .int .i64 id), (⟨w.heap.size, 1, none⟩, .slice ao n cap)]) ∧ Hid (SliceRep intTy wr (.slice aoh HH.length ch) HH fph)) (fun _ iv _ => n - (intOf iv).toNat)
      case atStart => exact ⟨0, Nat.zero_le _, rfl, rfl, HKX.out, HSS.out⟩
      case round =>
        obtain ⟨k, hk, rfl, rfl, HK, HS0⟩ := hrel
        clear HKX HSS
        have hN9 := HN9.out
        obtain ⟨ac, hac⟩ : ∃ z, z = spL (l.take k) := ⟨_, rfl⟩
        have HKK := HK.out
        rw [← hac] at HKK
        rw [← hac]
        have BD := spL_bound HOK.out k (by rw [HL.out]; exact hk)
        rw [← hac] at BD
        obtain ⟨c, m, x, s⟩ := ac
        simp only at HKK
        have HAC := Lib.hid hac
        have BD' := Lib.hid BD
        obtain ⟨b0, b1, _, _, _, _, _, _, b8, b9⟩ := BD
        simp only at b0 b1 b8 b9
        simp only
        clear hac
        obtain ⟨u, hu⟩ : ∃ u, u = (k : Int) - c := ⟨_, rfl⟩
        rw [← hu] at HKK
        have hu0 : 0 ≤ u := by omega
        have hu1 : u ≤ 6 := by omega
        have HU := Lib.hid hu
        clear hu
        have y0 := HKK.get 14 rfl
        have y1 := HKK.get 15 rfl
        by_cases hlt : k < n
        · have hkI : (k : Int) < (n : Int) := by omega
          obtain ⟨gg, rfl, hg, hR⟩ := (HV.out.below HKK.1).resolve_left (by omega)
          have hrow := hR k hlt
          obtain ⟨r, hr⟩ : ∃ r, r = Rn l k := ⟨_, rfl⟩
          rw [← hr] at hrow
          have hrk : rowB r.i r.g r.y r.x r.nl = true := by rw [hr, Rn_at (by rw [HL.out]; exact hlt)]; exact HOK.out k (by rw [HL.out]; exact hlt)
          have NX := Lib.hid (show spL (l.take (k + 1)) = Sp.row ⟨c, m, x, s⟩ r by rw [spL_take (by rw [HL.out]; exact hlt), ← HAC.out, hr, Rn_at (by rw [HL.out]; exact hlt)])
          obtain ⟨c0, c1, c2, c3, c4⟩ := hrow
          obtain ⟨ri, rg, ry, rx, rn⟩ := r
          simp only at c0 c1 c2 c3 c4 hrk
          obtain ⟨hx0, hx1⟩ := (rowB_of hrk).2.2.2.1
          have K5 := HKK.alloc5 (.int .i64 ri) (.int .i64 rg) (.int .i64 ry) (.int .i64 rx) (.bool rn) 36 wr.heap.size rfl
          have HS5 := Lib.hid (HS0.out.step ((Below.refl wr.heap.size wr).alloc (Nat.le_refl _) (.cells #[.int .i64 ri, .int .i64 rg, .int .i64 ry, .int .i64 rx, .bool rn] 36)))
          have hrb : w.heap.size + 1 < wr.heap.size ∧ nbs1 < wr.heap.size := ⟨by have h := HKK.lt 7 rfl; exact h, by have h := HKK.lt 0 rfl; exact h⟩
          obtain ⟨hrb0, hrb1⟩ := hrb
          obtain ⟨rb, hrb⟩ : ∃ x, x = wr.heap.size := ⟨_, rfl⟩
          go_upto_region 9 with fail
          obtain ⟨ws0, hx9⟩ : ∃ x, x = wr.alloc (.cells #[.int .i64 ri, .int .i64 rg, .int .i64 ry, .int .i64 rx, .bool rn] 36) := ⟨_, rfl⟩
          rw [← hx9] at K5 HS5 ⊢
          clear hx9
          rw [← hrb] at K5 hrb0 hrb1 ⊢
          clear hrb hr hrk hR c0 c1 c2 c3 c4 y0 y1 HKK
          have z3 := K5.get 3 rfl
          have z4 := K5.get 4 rfl
          cases rn
          · by_cases hc0 : c = 0
            · skip
              have NXX := Lib.hid (show spL (l.take (k + 1)) = ⟨1, rx, rx, rx⟩ from NX.out.trans (sp_first rfl hc0))
              have hs0 : s = 0 := by have h := BD'.out.2.2.1 hc0; injection h
              have hd0 : decide (c = 0) = true := decide_eq_true hc0
              rw [hd0]
              subst hs0
              have HC0 := Lib.hid hc0
              clear hc0
              have q0 := K5.get 8 rfl
              have KS1 : Kept w (ws0.setCell ⟨nbs1, 3, none⟩ (.int .i64 rx)) [(⟨rb, 0, none⟩, .int .i64 ri), (⟨rb, 1, none⟩, .int .i64 rg), (⟨rb, 2, none⟩, .int .i64 ry), (⟨rb, 3, none⟩, .int .i64 rx), (⟨rb, 4, none⟩, .bool false), (⟨nbs1, 0, none⟩, .int .i64 id), (⟨nbs1, 1, none⟩, .int .i64 ((n : Int))), (⟨nbs1, 2, none⟩, .int .i64 u), (⟨nbs1, 3, none⟩, .int .i64 rx), (⟨nbs1, 4, none⟩, .int .i64 x), (⟨nbs1, 5, none⟩, .int .i64 0), (⟨nbs1, 6, none⟩, .slice aoh HH.length ch), (⟨w.heap.size + 1, 0, none⟩, .int .i64 0), (⟨w.heap.size + 1, 1, none⟩, .int .i64 0), (⟨w.heap.size + 1, 2, none⟩, .int .i64 0), (⟨w.heap.size + 1, 3, none⟩, .int .i64 0), (⟨w.heap.size + 1, 4, none⟩, .int .i64 0), (⟨w.heap.size + 1, 5, none⟩, .int .i64 0), (⟨w.heap.size + 1, 6, none⟩, .slice none 0 0), (⟨w.heap.size, 0, none⟩, .int .i64 id), (⟨w.heap.size, 1, none⟩, .slice (some ⟨gg, 0, none⟩) n cap)] := Kept.set (p := [(⟨rb, 0, none⟩, .int .i64 ri), (⟨rb, 1, none⟩, .int .i64 rg), (⟨rb, 2, none⟩, .int .i64 ry), (⟨rb, 3, none⟩, .int .i64 rx), (⟨rb, 4, none⟩, .bool false), (⟨nbs1, 0, none⟩, .int .i64 id), (⟨nbs1, 1, none⟩, .int .i64 ((n : Int))), (⟨nbs1, 2, none⟩, .int .i64 u)]) K5 (.int .i64 rx) (by simp only; omega) (by simp only [List.cons_append, List.nil_append, List.mem_cons, List.not_mem_nil, or_false]; rintro c9 (rfl | rfl | rfl | rfl | rfl | rfl | rfl | rfl | rfl | rfl | rfl | rfl | rfl | rfl | rfl | rfl | rfl | rfl | rfl | rfl) <;> (intro e9; simp only [Addr.mk.injEq] at e9; omega))
              have x1 := K5.get 8 rfl
              have y1 := K5.fz 8 rfl
              go_upto_region 13 with fail
              obtain ⟨ws1, hx9⟩ : ∃ xq, xq = ws0.setCell ⟨nbs1, 3, none⟩ (.int .i64 rx) := ⟨_, rfl⟩
              have HS1 := Lib.hid (HS5.out.set ⟨nbs1, 3, none⟩ (.int .i64 rx) HNE.out)
              rw [← hx9] at KS1 HS1 ⊢
              clear hx9 x1 y1
              clear q0 z3
              have z3 := KS1.get 3 rfl
              have q1 := KS1.get 9 rfl
              have KS2 : Kept w (ws1.setCell ⟨nbs1, 4, none⟩ (.int .i64 rx)) [(⟨rb, 0, none⟩, .int .i64 ri), (⟨rb, 1, none⟩, .int .i64 rg), (⟨rb, 2, none⟩, .int .i64 ry), (⟨rb, 3, none⟩, .int .i64 rx), (⟨rb, 4, none⟩, .bool false), (⟨nbs1, 0, none⟩, .int .i64 id), (⟨nbs1, 1, none⟩, .int .i64 ((n : Int))), (⟨nbs1, 2, none⟩, .int .i64 u), (⟨nbs1, 3, none⟩, .int .i64 rx), (⟨nbs1, 4, none⟩, .int .i64 rx), (⟨nbs1, 5, none⟩, .int .i64 0), (⟨nbs1, 6, none⟩, .slice aoh HH.length ch), (⟨w.heap.size + 1, 0, none⟩, .int .i64 0), (⟨w.heap.size + 1, 1, none⟩, .int .i64 0), (⟨w.heap.size + 1, 2, none⟩, .int .i64 0), (⟨w.heap.size + 1, 3, none⟩, .int .i64 0), (⟨w.heap.size + 1, 4, none⟩, .int .i64 0), (⟨w.heap.size + 1, 5, none⟩, .int .i64 0), (⟨w.heap.size + 1, 6, none⟩, .slice none 0 0), (⟨w.heap.size, 0, none⟩, .int .i64 id), (⟨w.heap.size, 1, none⟩, .slice (some ⟨gg, 0, none⟩) n cap)] := Kept.set (p := [(⟨rb, 0, none⟩, .int .i64 ri), (⟨rb, 1, none⟩, .int .i64 rg), (⟨rb, 2, none⟩, .int .i64 ry), (⟨rb, 3, none⟩, .int .i64 rx), (⟨rb, 4, none⟩, .bool false), (⟨nbs1, 0, none⟩, .int .i64 id), (⟨nbs1, 1, none⟩, .int .i64 ((n : Int))), (⟨nbs1, 2, none⟩, .int .i64 u), (⟨nbs1, 3, none⟩, .int .i64 rx)]) KS1 (.int .i64 rx) (by simp only; omega) (by simp only [List.cons_append, List.nil_append, List.mem_cons, List.not_mem_nil, or_false]; rintro c9 (rfl | rfl | rfl | rfl | rfl | rfl | rfl | rfl | rfl | rfl | rfl | rfl | rfl | rfl | rfl | rfl | rfl | rfl | rfl | rfl) <;> (intro e9; simp only [Addr.mk.injEq] at e9; omega))
              have x2 := KS1.get 9 rfl
              have y2 := KS1.fz 9 rfl
              go_upto_region 14 with fail
              obtain ⟨ws2, hx9⟩ : ∃ xq, xq = ws1.setCell ⟨nbs1, 4, none⟩ (.int .i64 rx) := ⟨_, rfl⟩
              have HS2 := Lib.hid (HS1.out.set ⟨nbs1, 4, none⟩ (.int .i64 rx) HNE.out)
              rw [← hx9] at KS2 HS2 ⊢
              clear hx9 x2 y2
              clear q1 z3
              have z3 := KS2.get 3 rfl
              have q2 := KS2.get 8 rfl
              have KS3 : Kept w (ws2.setCell ⟨nbs1, 3, none⟩ (.int .i64 rx)) [(⟨rb, 0, none⟩, .int .i64 ri), (⟨rb, 1, none⟩, .int .i64 rg), (⟨rb, 2, none⟩, .int .i64 ry), (⟨rb, 3, none⟩, .int .i64 rx), (⟨rb, 4, none⟩, .bool false), (⟨nbs1, 0, none⟩, .int .i64 id), (⟨nbs1, 1, none⟩, .int .i64 ((n : Int))), (⟨nbs1, 2, none⟩, .int .i64 u), (⟨nbs1, 3, none⟩, .int .i64 rx), (⟨nbs1, 4, none⟩, .int .i64 rx), (⟨nbs1, 5, none⟩, .int .i64 0), (⟨nbs1, 6, none⟩, .slice aoh HH.length ch), (⟨w.heap.size + 1, 0, none⟩, .int .i64 0), (⟨w.heap.size + 1, 1, none⟩, .int .i64 0), (⟨w.heap.size + 1, 2, none⟩, .int .i64 0), (⟨w.heap.size + 1, 3, none⟩, .int .i64 0), (⟨w.heap.size + 1, 4, none⟩, .int .i64 0), (⟨w.heap.size + 1, 5, none⟩, .int .i64 0), (⟨w.heap.size + 1, 6, none⟩, .slice none 0 0), (⟨w.heap.size, 0, none⟩, .int .i64 id), (⟨w.heap.size, 1, none⟩, .slice (some ⟨gg, 0, none⟩) n cap)] := Kept.set (p := [(⟨rb, 0, none⟩, .int .i64 ri), (⟨rb, 1, none⟩, .int .i64 rg), (⟨rb, 2, none⟩, .int .i64 ry), (⟨rb, 3, none⟩, .int .i64 rx), (⟨rb, 4, none⟩, .bool false), (⟨nbs1, 0, none⟩, .int .i64 id), (⟨nbs1, 1, none⟩, .int .i64 ((n : Int))), (⟨nbs1, 2, none⟩, .int .i64 u)]) KS2 (.int .i64 rx) (by simp only; omega) (by simp only [List.cons_append, List.nil_append, List.mem_cons, List.not_mem_nil, or_false]; rintro c9 (rfl | rfl | rfl | rfl | rfl | rfl | rfl | rfl | rfl | rfl | rfl | rfl | rfl | rfl | rfl | rfl | rfl | rfl | rfl | rfl) <;> (intro e9; simp only [Addr.mk.injEq] at e9; omega))
              have x3 := KS2.get 8 rfl
              have y3 := KS2.fz 8 rfl
              go_upto_region 16 with fail
              obtain ⟨ws3, hx9⟩ : ∃ xq, xq = ws2.setCell ⟨nbs1, 3, none⟩ (.int .i64 rx) := ⟨_, rfl⟩
              have HS3 := Lib.hid (HS2.out.set ⟨nbs1, 3, none⟩ (.int .i64 rx) HNE.out)
              rw [← hx9] at KS3 HS3 ⊢
              clear hx9 x3 y3
              clear q2 z3
              have z3 := KS3.get 3 rfl
              have q3 := KS3.get 9 rfl
              have KS4 : Kept w (ws3.setCell ⟨nbs1, 4, none⟩ (.int .i64 rx)) [(⟨rb, 0, none⟩, .int .i64 ri), (⟨rb, 1, none⟩, .int .i64 rg), (⟨rb, 2, none⟩, .int .i64 ry), (⟨rb, 3, none⟩, .int .i64 rx), (⟨rb, 4, none⟩, .bool false), (⟨nbs1, 0, none⟩, .int .i64 id), (⟨nbs1, 1, none⟩, .int .i64 ((n : Int))), (⟨nbs1, 2, none⟩, .int .i64 u), (⟨nbs1, 3, none⟩, .int .i64 rx), (⟨nbs1, 4, none⟩, .int .i64 rx), (⟨nbs1, 5, none⟩, .int .i64 0), (⟨nbs1, 6, none⟩, .slice aoh HH.length ch), (⟨w.heap.size + 1, 0, none⟩, .int .i64 0), (⟨w.heap.size + 1, 1, none⟩, .int .i64 0), (⟨w.heap.size + 1, 2, none⟩, .int .i64 0), (⟨w.heap.size + 1, 3, none⟩, .int .i64 0), (⟨w.heap.size + 1, 4, none⟩, .int .i64 0), (⟨w.heap.size + 1, 5, none⟩, .int .i64 0), (⟨w.heap.size + 1, 6, none⟩, .slice none 0 0), (⟨w.heap.size, 0, none⟩, .int .i64 id), (⟨w.heap.size, 1, none⟩, .slice (some ⟨gg, 0, none⟩) n cap)] := Kept.set (p := [(⟨rb, 0, none⟩, .int .i64 ri), (⟨rb, 1, none⟩, .int .i64 rg), (⟨rb, 2, none⟩, .int .i64 ry), (⟨rb, 3, none⟩, .int .i64 rx), (⟨rb, 4, none⟩, .bool false), (⟨nbs1, 0, none⟩, .int .i64 id), (⟨nbs1, 1, none⟩, .int .i64 ((n : Int))), (⟨nbs1, 2, none⟩, .int .i64 u), (⟨nbs1, 3, none⟩, .int .i64 rx)]) KS3 (.int .i64 rx) (by simp only; omega) (by simp only [List.cons_append, List.nil_append, List.mem_cons, List.not_mem_nil, or_false]; rintro c9 (rfl | rfl | rfl | rfl | rfl | rfl | rfl | rfl | rfl | rfl | rfl | rfl | rfl | rfl | rfl | rfl | rfl | rfl | rfl | rfl) <;> (intro e9; simp only [Addr.mk.injEq] at e9; omega))
              have x4 := KS3.get 9 rfl
              have y4 := KS3.fz 9 rfl
              go_upto_region 17 with fail
              obtain ⟨ws4, hx9⟩ : ∃ xq, xq = ws3.setCell ⟨nbs1, 4, none⟩ (.int .i64 rx) := ⟨_, rfl⟩
              have HS4 := Lib.hid (HS3.out.set ⟨nbs1, 4, none⟩ (.int .i64 rx) HNE.out)
              rw [← hx9] at KS4 HS4 ⊢
              clear hx9 x4 y4
              clear q3 z3
              have z3 := KS4.get 3 rfl
              have q4 := KS4.get 10 rfl
              have KS5 : Kept w (ws4.setCell ⟨nbs1, 5, none⟩ (.int .i64 rx)) [(⟨rb, 0, none⟩, .int .i64 ri), (⟨rb, 1, none⟩, .int .i64 rg), (⟨rb, 2, none⟩, .int .i64 ry), (⟨rb, 3, none⟩, .int .i64 rx), (⟨rb, 4, none⟩, .bool false), (⟨nbs1, 0, none⟩, .int .i64 id), (⟨nbs1, 1, none⟩, .int .i64 ((n : Int))), (⟨nbs1, 2, none⟩, .int .i64 u), (⟨nbs1, 3, none⟩, .int .i64 rx), (⟨nbs1, 4, none⟩, .int .i64 rx), (⟨nbs1, 5, none⟩, .int .i64 rx), (⟨nbs1, 6, none⟩, .slice aoh HH.length ch), (⟨w.heap.size + 1, 0, none⟩, .int .i64 0), (⟨w.heap.size + 1, 1, none⟩, .int .i64 0), (⟨w.heap.size + 1, 2, none⟩, .int .i64 0), (⟨w.heap.size + 1, 3, none⟩, .int .i64 0), (⟨w.heap.size + 1, 4, none⟩, .int .i64 0), (⟨w.heap.size + 1, 5, none⟩, .int .i64 0), (⟨w.heap.size + 1, 6, none⟩, .slice none 0 0), (⟨w.heap.size, 0, none⟩, .int .i64 id), (⟨w.heap.size, 1, none⟩, .slice (some ⟨gg, 0, none⟩) n cap)] := Kept.set (p := [(⟨rb, 0, none⟩, .int .i64 ri), (⟨rb, 1, none⟩, .int .i64 rg), (⟨rb, 2, none⟩, .int .i64 ry), (⟨rb, 3, none⟩, .int .i64 rx), (⟨rb, 4, none⟩, .bool false), (⟨nbs1, 0, none⟩, .int .i64 id), (⟨nbs1, 1, none⟩, .int .i64 ((n : Int))), (⟨nbs1, 2, none⟩, .int .i64 u), (⟨nbs1, 3, none⟩, .int .i64 rx), (⟨nbs1, 4, none⟩, .int .i64 rx)]) KS4 (.int .i64 rx) (by simp only; omega) (by simp only [List.cons_append, List.nil_append, List.mem_cons, List.not_mem_nil, or_false]; rintro c9 (rfl | rfl | rfl | rfl | rfl | rfl | rfl | rfl | rfl | rfl | rfl | rfl | rfl | rfl | rfl | rfl | rfl | rfl | rfl | rfl) <;> (intro e9; simp only [Addr.mk.injEq] at e9; omega))
              have x5 := KS4.get 10 rfl
              have y5 := KS4.fz 10 rfl
              go_upto_region 7 with fail
              obtain ⟨ws5, hx9⟩ : ∃ xq, xq = ws4.setCell ⟨nbs1, 5, none⟩ (.int .i64 rx) := ⟨_, rfl⟩
              have HS5 := Lib.hid (HS4.out.set ⟨nbs1, 5, none⟩ (.int .i64 rx) HNE.out)
              rw [← hx9] at KS5 HS5 ⊢
              clear hx9 x5 y5
              clear q4 z3
              have z3 := KS5.get 3 rfl
              have HKE := Lib.hid (show Kept w ws5 [(⟨nbs1, 0, none⟩, .int .i64 id), (⟨nbs1, 1, none⟩, .int .i64 ((n : Int))), (⟨nbs1, 2, none⟩, .int .i64 (((k + 1 : Nat) : Int) - (spL (l.take (k + 1))).c)), (⟨nbs1, 3, none⟩, .int .i64 ((spL (l.take (k + 1))).mn)), (⟨nbs1, 4, none⟩, .int .i64 ((spL (l.take (k + 1))).mx)), (⟨nbs1, 5, none⟩, .int .i64 ((spL (l.take (k + 1))).s)), (⟨nbs1, 6, none⟩, .slice aoh HH.length ch), (⟨w.heap.size + 1, 0, none⟩, .int .i64 0), (⟨w.heap.size + 1, 1, none⟩, .int .i64 0), (⟨w.heap.size + 1, 2, none⟩, .int .i64 0), (⟨w.heap.size + 1, 3, none⟩, .int .i64 0), (⟨w.heap.size + 1, 4, none⟩, .int .i64 0), (⟨w.heap.size + 1, 5, none⟩, .int .i64 0), (⟨w.heap.size + 1, 6, none⟩, .slice none 0 0), (⟨w.heap.size, 0, none⟩, .int .i64 id), (⟨w.heap.size, 1, none⟩, .slice (some ⟨gg, 0, none⟩) n cap)] by
                rw [NXX.out]
                simp only
                rw [show ((k + 1 : Nat) : Int) - 1 = u by have := HU.out; have := HC0.out; omega]
                exact KS5.sub (by intro p9 hp9; simp only [List.mem_cons, List.not_mem_nil, or_false] at hp9; rcases hp9 with rfl | rfl | rfl | rfl | rfl | rfl | rfl | rfl | rfl | rfl | rfl | rfl | rfl | rfl | rfl | rfl <;> simp))
              have HFV := Lib.hid (show Value.bool false = .bool (decide ((spL (l.take (k + 1))).c = 0)) from ret_b (by rw [NXX.out]; rfl))
              clear z3 z4
              try clear KS5
              go_wp2
              go_roundw
              case rel => exact ⟨k + 1, by omega, by go_num, HFV.out, HKE.out, HS5.out⟩
              case measure => simp [intOf]; omega
            · skip
              have NXX := Lib.hid (show spL (l.take (k + 1)) = ⟨c + 1, min m rx, max x rx, s + rx⟩ from NX.out.trans (sp_more rfl hc0))
              have hd0 : decide (c = 0) = false := decide_eq_false hc0
              rw [hd0]
              have hw9 : IntKind.i64.wrap (s + rx) = s + rx := by rw [IntKind.wrap_i64]; omega
              have HC0 := Lib.hid hc0
              clear hc0
              have q0 := K5.get 8 rfl
              have KS1 : Kept w (ws0.setCell ⟨nbs1, 3, none⟩ (.int .i64 (min m rx))) [(⟨rb, 0, none⟩, .int .i64 ri), (⟨rb, 1, none⟩, .int .i64 rg), (⟨rb, 2, none⟩, .int .i64 ry), (⟨rb, 3, none⟩, .int .i64 rx), (⟨rb, 4, none⟩, .bool false), (⟨nbs1, 0, none⟩, .int .i64 id), (⟨nbs1, 1, none⟩, .int .i64 ((n : Int))), (⟨nbs1, 2, none⟩, .int .i64 u), (⟨nbs1, 3, none⟩, .int .i64 (min m rx)), (⟨nbs1, 4, none⟩, .int .i64 x), (⟨nbs1, 5, none⟩, .int .i64 s), (⟨nbs1, 6, none⟩, .slice aoh HH.length ch), (⟨w.heap.size + 1, 0, none⟩, .int .i64 0), (⟨w.heap.size + 1, 1, none⟩, .int .i64 0), (⟨w.heap.size + 1, 2, none⟩, .int .i64 0), (⟨w.heap.size + 1, 3, none⟩, .int .i64 0), (⟨w.heap.size + 1, 4, none⟩, .int .i64 0), (⟨w.heap.size + 1, 5, none⟩, .int .i64 0), (⟨w.heap.size + 1, 6, none⟩, .slice none 0 0), (⟨w.heap.size, 0, none⟩, .int .i64 id), (⟨w.heap.size, 1, none⟩, .slice (some ⟨gg, 0, none⟩) n cap)] := Kept.set (p := [(⟨rb, 0, none⟩, .int .i64 ri), (⟨rb, 1, none⟩, .int .i64 rg), (⟨rb, 2, none⟩, .int .i64 ry), (⟨rb, 3, none⟩, .int .i64 rx), (⟨rb, 4, none⟩, .bool false), (⟨nbs1, 0, none⟩, .int .i64 id), (⟨nbs1, 1, none⟩, .int .i64 ((n : Int))), (⟨nbs1, 2, none⟩, .int .i64 u)]) K5 (.int .i64 (min m rx)) (by simp only; omega) (by simp only [List.cons_append, List.nil_append, List.mem_cons, List.not_mem_nil, or_false]; rintro c9 (rfl | rfl | rfl | rfl | rfl | rfl | rfl | rfl | rfl | rfl | rfl | rfl | rfl | rfl | rfl | rfl | rfl | rfl | rfl | rfl) <;> (intro e9; simp only [Addr.mk.injEq] at e9; omega))
              have x1 := K5.get 8 rfl
              have y1 := K5.fz 8 rfl
              go_upto_region 16 with fail
              obtain ⟨ws1, hx9⟩ : ∃ xq, xq = ws0.setCell ⟨nbs1, 3, none⟩ (.int .i64 (min m rx)) := ⟨_, rfl⟩
              have HS1 := Lib.hid (HS5.out.set ⟨nbs1, 3, none⟩ (.int .i64 (min m rx)) HNE.out)
              rw [← hx9] at KS1 HS1 ⊢
              clear hx9 x1 y1
              clear q0 z3
              have z3 := KS1.get 3 rfl
              have q1 := KS1.get 9 rfl
              have KS2 : Kept w (ws1.setCell ⟨nbs1, 4, none⟩ (.int .i64 (max x rx))) [(⟨rb, 0, none⟩, .int .i64 ri), (⟨rb, 1, none⟩, .int .i64 rg), (⟨rb, 2, none⟩, .int .i64 ry), (⟨rb, 3, none⟩, .int .i64 rx), (⟨rb, 4, none⟩, .bool false), (⟨nbs1, 0, none⟩, .int .i64 id), (⟨nbs1, 1, none⟩, .int .i64 ((n : Int))), (⟨nbs1, 2, none⟩, .int .i64 u), (⟨nbs1, 3, none⟩, .int .i64 (min m rx)), (⟨nbs1, 4, none⟩, .int .i64 (max x rx)), (⟨nbs1, 5, none⟩, .int .i64 s), (⟨nbs1, 6, none⟩, .slice aoh HH.length ch), (⟨w.heap.size + 1, 0, none⟩, .int .i64 0), (⟨w.heap.size + 1, 1, none⟩, .int .i64 0), (⟨w.heap.size + 1, 2, none⟩, .int .i64 0), (⟨w.heap.size + 1, 3, none⟩, .int .i64 0), (⟨w.heap.size + 1, 4, none⟩, .int .i64 0), (⟨w.heap.size + 1, 5, none⟩, .int .i64 0), (⟨w.heap.size + 1, 6, none⟩, .slice none 0 0), (⟨w.heap.size, 0, none⟩, .int .i64 id), (⟨w.heap.size, 1, none⟩, .slice (some ⟨gg, 0, none⟩) n cap)] := Kept.set (p := [(⟨rb, 0, none⟩, .int .i64 ri), (⟨rb, 1, none⟩, .int .i64 rg), (⟨rb, 2, none⟩, .int .i64 ry), (⟨rb, 3, none⟩, .int .i64 rx), (⟨rb, 4, none⟩, .bool false), (⟨nbs1, 0, none⟩, .int .i64 id), (⟨nbs1, 1, none⟩, .int .i64 ((n : Int))), (⟨nbs1, 2, none⟩, .int .i64 u), (⟨nbs1, 3, none⟩, .int .i64 (min m rx))]) KS1 (.int .i64 (max x rx)) (by simp only; omega) (by simp only [List.cons_append, List.nil_append, List.mem_cons, List.not_mem_nil, or_false]; rintro c9 (rfl | rfl | rfl | rfl | rfl | rfl | rfl | rfl | rfl | rfl | rfl | rfl | rfl | rfl | rfl | rfl | rfl | rfl | rfl | rfl) <;> (intro e9; simp only [Addr.mk.injEq] at e9; omega))
              have x2 := KS1.get 9 rfl
              have y2 := KS1.fz 9 rfl
              go_upto_region 17 with fail
              obtain ⟨ws2, hx9⟩ : ∃ xq, xq = ws1.setCell ⟨nbs1, 4, none⟩ (.int .i64 (max x rx)) := ⟨_, rfl⟩
              have HS2 := Lib.hid (HS1.out.set ⟨nbs1, 4, none⟩ (.int .i64 (max x rx)) HNE.out)
              rw [← hx9] at KS2 HS2 ⊢
              clear hx9 x2 y2
              clear q1 z3
              have z3 := KS2.get 3 rfl
              have q2 := KS2.get 10 rfl
              have KS3 : Kept w (ws2.setCell ⟨nbs1, 5, none⟩ (.int .i64 (s + rx))) [(⟨rb, 0, none⟩, .int .i64 ri), (⟨rb, 1, none⟩, .int .i64 rg), (⟨rb, 2, none⟩, .int .i64 ry), (⟨rb, 3, none⟩, .int .i64 rx), (⟨rb, 4, none⟩, .bool false), (⟨nbs1, 0, none⟩, .int .i64 id), (⟨nbs1, 1, none⟩, .int .i64 ((n : Int))), (⟨nbs1, 2, none⟩, .int .i64 u), (⟨nbs1, 3, none⟩, .int .i64 (min m rx)), (⟨nbs1, 4, none⟩, .int .i64 (max x rx)), (⟨nbs1, 5, none⟩, .int .i64 (s + rx)), (⟨nbs1, 6, none⟩, .slice aoh HH.length ch), (⟨w.heap.size + 1, 0, none⟩, .int .i64 0), (⟨w.heap.size + 1, 1, none⟩, .int .i64 0), (⟨w.heap.size + 1, 2, none⟩, .int .i64 0), (⟨w.heap.size + 1, 3, none⟩, .int .i64 0), (⟨w.heap.size + 1, 4, none⟩, .int .i64 0), (⟨w.heap.size + 1, 5, none⟩, .int .i64 0), (⟨w.heap.size + 1, 6, none⟩, .slice none 0 0), (⟨w.heap.size, 0, none⟩, .int .i64 id), (⟨w.heap.size, 1, none⟩, .slice (some ⟨gg, 0, none⟩) n cap)] := Kept.set (p := [(⟨rb, 0, none⟩, .int .i64 ri), (⟨rb, 1, none⟩, .int .i64 rg), (⟨rb, 2, none⟩, .int .i64 ry), (⟨rb, 3, none⟩, .int .i64 rx), (⟨rb, 4, none⟩, .bool false), (⟨nbs1, 0, none⟩, .int .i64 id), (⟨nbs1, 1, none⟩, .int .i64 ((n : Int))), (⟨nbs1, 2, none⟩, .int .i64 u), (⟨nbs1, 3, none⟩, .int .i64 (min m rx)), (⟨nbs1, 4, none⟩, .int .i64 (max x rx))]) KS2 (.int .i64 (s + rx)) (by simp only; omega) (by simp only [List.cons_append, List.nil_append, List.mem_cons, List.not_mem_nil, or_false]; rintro c9 (rfl | rfl | rfl | rfl | rfl | rfl | rfl | rfl | rfl | rfl | rfl | rfl | rfl | rfl | rfl | rfl | rfl | rfl | rfl | rfl) <;> (intro e9; simp only [Addr.mk.injEq] at e9; omega))
              have x3 := KS2.get 10 rfl
              have y3 := KS2.fz 10 rfl
              go_upto_region 7 with fail
              obtain ⟨ws3, hx9⟩ : ∃ xq, xq = ws2.setCell ⟨nbs1, 5, none⟩ (.int .i64 (s + rx)) := ⟨_, rfl⟩
              have HS3 := Lib.hid (HS2.out.set ⟨nbs1, 5, none⟩ (.int .i64 (s + rx)) HNE.out)
              rw [← hx9] at KS3 HS3 ⊢
              clear hx9 x3 y3
              clear q2 z3
              have z3 := KS3.get 3 rfl
              have HKE := Lib.hid (show Kept w ws3 [(⟨nbs1, 0, none⟩, .int .i64 id), (⟨nbs1, 1, none⟩, .int .i64 ((n : Int))), (⟨nbs1, 2, none⟩, .int .i64 (((k + 1 : Nat) : Int) - (spL (l.take (k + 1))).c)), (⟨nbs1, 3, none⟩, .int .i64 ((spL (l.take (k + 1))).mn)), (⟨nbs1, 4, none⟩, .int .i64 ((spL (l.take (k + 1))).mx)), (⟨nbs1, 5, none⟩, .int .i64 ((spL (l.take (k + 1))).s)), (⟨nbs1, 6, none⟩, .slice aoh HH.length ch), (⟨w.heap.size + 1, 0, none⟩, .int .i64 0), (⟨w.heap.size + 1, 1, none⟩, .int .i64 0), (⟨w.heap.size + 1, 2, none⟩, .int .i64 0), (⟨w.heap.size + 1, 3, none⟩, .int .i64 0), (⟨w.heap.size + 1, 4, none⟩, .int .i64 0), (⟨w.heap.size + 1, 5, none⟩, .int .i64 0), (⟨w.heap.size + 1, 6, none⟩, .slice none 0 0), (⟨w.heap.size, 0, none⟩, .int .i64 id), (⟨w.heap.size, 1, none⟩, .slice (some ⟨gg, 0, none⟩) n cap)] by
                rw [NXX.out]
                simp only
                rw [show ((k + 1 : Nat) : Int) - (c + 1) = u by have := HU.out; omega]
                exact KS3.sub (by intro p9 hp9; simp only [List.mem_cons, List.not_mem_nil, or_false] at hp9; rcases hp9 with rfl | rfl | rfl | rfl | rfl | rfl | rfl | rfl | rfl | rfl | rfl | rfl | rfl | rfl | rfl | rfl <;> simp))
              have HFV := Lib.hid (show Value.bool false = .bool (decide ((spL (l.take (k + 1))).c = 0)) from ret_b (by rw [NXX.out]; exact decide_eq_false (by simp only; omega)))
              clear z3 z4
              try clear KS3
              go_wp2
              go_roundw
              case rel => exact ⟨k + 1, by omega, by go_num, HFV.out, HKE.out, HS3.out⟩
              case measure => simp [intOf]; omega
          · skip
            have hc9 := BD'.out
            have NXX := Lib.hid (show spL (l.take (k + 1)) = ⟨c, m, x, s⟩ from NX.out.trans (sp_null rfl))
            have hw9 : IntKind.i64.wrap (u + 1) = u + 1 := by rw [IntKind.wrap_i64]; omega
            clear hc9
            have q0 := K5.get 7 rfl
            have KS1 : Kept w (ws0.setCell ⟨nbs1, 2, none⟩ (.int .i64 (u + 1))) [(⟨rb, 0, none⟩, .int .i64 ri), (⟨rb, 1, none⟩, .int .i64 rg), (⟨rb, 2, none⟩, .int .i64 ry), (⟨rb, 3, none⟩, .int .i64 rx), (⟨rb, 4, none⟩, .bool true), (⟨nbs1, 0, none⟩, .int .i64 id), (⟨nbs1, 1, none⟩, .int .i64 ((n : Int))), (⟨nbs1, 2, none⟩, .int .i64 (u + 1)), (⟨nbs1, 3, none⟩, .int .i64 m), (⟨nbs1, 4, none⟩, .int .i64 x), (⟨nbs1, 5, none⟩, .int .i64 s), (⟨nbs1, 6, none⟩, .slice aoh HH.length ch), (⟨w.heap.size + 1, 0, none⟩, .int .i64 0), (⟨w.heap.size + 1, 1, none⟩, .int .i64 0), (⟨w.heap.size + 1, 2, none⟩, .int .i64 0), (⟨w.heap.size + 1, 3, none⟩, .int .i64 0), (⟨w.heap.size + 1, 4, none⟩, .int .i64 0), (⟨w.heap.size + 1, 5, none⟩, .int .i64 0), (⟨w.heap.size + 1, 6, none⟩, .slice none 0 0), (⟨w.heap.size, 0, none⟩, .int .i64 id), (⟨w.heap.size, 1, none⟩, .slice (some ⟨gg, 0, none⟩) n cap)] := Kept.set (p := [(⟨rb, 0, none⟩, .int .i64 ri), (⟨rb, 1, none⟩, .int .i64 rg), (⟨rb, 2, none⟩, .int .i64 ry), (⟨rb, 3, none⟩, .int .i64 rx), (⟨rb, 4, none⟩, .bool true), (⟨nbs1, 0, none⟩, .int .i64 id), (⟨nbs1, 1, none⟩, .int .i64 ((n : Int)))]) K5 (.int .i64 (u + 1)) (by simp only; omega) (by simp only [List.cons_append, List.nil_append, List.mem_cons, List.not_mem_nil, or_false]; rintro c9 (rfl | rfl | rfl | rfl | rfl | rfl | rfl | rfl | rfl | rfl | rfl | rfl | rfl | rfl | rfl | rfl | rfl | rfl | rfl | rfl) <;> (intro e9; simp only [Addr.mk.injEq] at e9; omega))
            have x1 := K5.get 7 rfl
            have y1 := K5.fz 7 rfl
            go_upto_region 7 with fail
            obtain ⟨ws1, hx9⟩ : ∃ xq, xq = ws0.setCell ⟨nbs1, 2, none⟩ (.int .i64 (u + 1)) := ⟨_, rfl⟩
            have HS1 := Lib.hid (HS5.out.set ⟨nbs1, 2, none⟩ (.int .i64 (u + 1)) HNE.out)
            rw [← hx9] at KS1 HS1 ⊢
            clear hx9 x1 y1
            clear q0
            have HKE := Lib.hid (show Kept w ws1 [(⟨nbs1, 0, none⟩, .int .i64 id), (⟨nbs1, 1, none⟩, .int .i64 ((n : Int))), (⟨nbs1, 2, none⟩, .int .i64 (((k + 1 : Nat) : Int) - (spL (l.take (k + 1))).c)), (⟨nbs1, 3, none⟩, .int .i64 ((spL (l.take (k + 1))).mn)), (⟨nbs1, 4, none⟩, .int .i64 ((spL (l.take (k + 1))).mx)), (⟨nbs1, 5, none⟩, .int .i64 ((spL (l.take (k + 1))).s)), (⟨nbs1, 6, none⟩, .slice aoh HH.length ch), (⟨w.heap.size + 1, 0, none⟩, .int .i64 0), (⟨w.heap.size + 1, 1, none⟩, .int .i64 0), (⟨w.heap.size + 1, 2, none⟩, .int .i64 0), (⟨w.heap.size + 1, 3, none⟩, .int .i64 0), (⟨w.heap.size + 1, 4, none⟩, .int .i64 0), (⟨w.heap.size + 1, 5, none⟩, .int .i64 0), (⟨w.heap.size + 1, 6, none⟩, .slice none 0 0), (⟨w.heap.size, 0, none⟩, .int .i64 id), (⟨w.heap.size, 1, none⟩, .slice (some ⟨gg, 0, none⟩) n cap)] by
              rw [NXX.out]
              simp only
              rw [show ((k + 1 : Nat) : Int) - c = u + 1 by have := HU.out; omega]
              exact KS1.sub (by intro p9 hp9; simp only [List.mem_cons, List.not_mem_nil, or_false] at hp9; rcases hp9 with rfl | rfl | rfl | rfl | rfl | rfl | rfl | rfl | rfl | rfl | rfl | rfl | rfl | rfl | rfl | rfl <;> simp))
            have HFV := Lib.hid (show Value.bool (decide (c = 0)) = .bool (decide ((spL (l.take (k + 1))).c = 0)) from ret_b (by rw [NXX.out]))
            clear z3 z4
            try clear KS1
            go_wp2
            go_roundw
            case rel => exact ⟨k + 1, by omega, by go_num, HFV.out, HKE.out, HS1.out⟩
            case measure => simp [intOf]; omega
        · obtain rfl : k = n := by omega
          have hsd : decide ((k : Int) < (k : Int)) = false := decide_eq_false (by omega)
          have AN2 := Lib.hid (show sumB id l = ⟨id, k, u, m, x, s, HH⟩ by rw [AN.out, HU.out, show spL l = ⟨c, m, x, s⟩ from by rw [HAC.out, show l.take k = l from by rw [← HL.out, List.take_length]]])
          have hNN := HKK.lt 0 rfl
          have K7 := (HKK.sub (l' := [(⟨w.heap.size + 1, 0, none⟩, .int .i64 0), (⟨w.heap.size + 1, 1, none⟩, .int .i64 0), (⟨w.heap.size + 1, 2, none⟩, .int .i64 0), (⟨w.heap.size + 1, 3, none⟩, .int .i64 0), (⟨w.heap.size + 1, 4, none⟩, .int .i64 0), (⟨w.heap.size + 1, 5, none⟩, .int .i64 0), (⟨w.heap.size + 1, 6, none⟩, .slice none 0 0), (⟨nbs1, 0, none⟩, .int .i64 id), (⟨nbs1, 1, none⟩, .int .i64 ((k : Int))), (⟨nbs1, 2, none⟩, .int .i64 u), (⟨nbs1, 3, none⟩, .int .i64 m), (⟨nbs1, 4, none⟩, .int .i64 x), (⟨nbs1, 5, none⟩, .int .i64 s), (⟨nbs1, 6, none⟩, .slice aoh HH.length ch)]) (by intro p9 hp9; simp only [List.mem_cons, List.not_mem_nil, or_false] at hp9; rcases hp9 with rfl | rfl | rfl | rfl | rfl | rfl | rfl | rfl | rfl | rfl | rfl | rfl | rfl | rfl <;> simp)).setB7 (.int .i64 id) (.int .i64 ((k : Int))) (.int .i64 u) (.int .i64 m) (.int .i64 x) (.int .i64 s) (.slice aoh HH.length ch) (by omega) (by simp only [List.mem_cons, List.not_mem_nil, or_false]; rintro c9 (rfl | rfl | rfl | rfl | rfl | rfl | rfl) <;> (dsimp only; omega))
          have HK7 := Lib.hid K7.1
          have HS9 := Lib.hid (HS0.out.setB7 (w.heap.size + 1) (.int .i64 id) (.int .i64 ((k : Int))) (.int .i64 u) (.int .i64 m) (.int .i64 x) (.int .i64 s) (.slice aoh HH.length ch) (fun j hj => by have := HFW.out j hj; omega))
          have HF9 := Lib.hid (show ∀ j ∈ fph, w.heap.size ≤ j from fun j hj => by have := HFW.out j hj; omega)
          have k0 := HKK.get 7 rfl
          have f0 := HKK.fz 7 rfl
          have e0 := HKK.get 0 rfl
          have k1 := HKK.get 8 rfl
          have f1 := HKK.fz 8 rfl
          have e1 := HKK.get 1 rfl
          have k2 := HKK.get 9 rfl
          have f2 := HKK.fz 9 rfl
          have e2 := HKK.get 2 rfl
          have k3 := HKK.get 10 rfl
          have f3 := HKK.fz 10 rfl
          have e3 := HKK.get 3 rfl
          have k4 := HKK.get 11 rfl
          have f4 := HKK.fz 11 rfl
          have e4 := HKK.get 4 rfl
          have k5 := HKK.get 12 rfl
          have f5 := HKK.fz 12 rfl
          have e5 := HKK.get 5 rfl
          have k6 := HKK.get 13 rfl
          have f6 := HKK.fz 13 rfl
          have e6 := HKK.get 6 rfl
          have z := HKK.lt 7 rfl
          clear K7 HKK b0 b1 b8 b9 hu0 hu1 hNN
          go_wp2
          exact bodyPost_ret (v := .agg #[.int .i64 id, .int .i64 (k : Int), .int .i64 u, .int .i64 m, .int .i64 x, .int .i64 s, .slice aoh HH.length ch]) (by simp [results, Try.results49, go_sem, k0, k1, k2, k3, k4, k5, k6, z]) rfl ⟨_, fph, by rw [AN2.out], by rw [AN2.out]; exact HS9.out, hndh, HF9.out, HK7.out⟩
end Go.Proofs.Ytcfcohnkkgickaa
