/-
  The walk over the model's ParseFrac.
-/
import Derived.Test.YtdfmidihghoilaaDoorRows
import Derived.Test.YtdfmidihghoilaaDoorPfPlain
import Derived.Test.YtdfmidihghoilaaDoorPiSpec
import Derived.Test.YtdfmidihghoilaaDoorCutSpec
import Derived.Test.YtdfmidihghoilaaDoorFfWalk
import Derived.Test.YtdfmidihghoilaaDoorKeep
import Derived.WalkKit
import Derived.WalkSpells
import Derived.WalkLawsBesides
import Derived.IntWalk
import Derived.Lib.Hide
namespace Go.Proofs.YtdfmidihghoilaaDoor
open Go.RowKit Num

set_option maxRecDepth 8000 in
set_option maxHeartbeats 3200000 in
/-- Three pieces or more: none. -/
theorem spec_pf3 (s : ByteArray) (w : World) (hs : s.size ≤ 1048576) (h3 : 2 < (pieces 47 s.data.toList).length) (ha : PFans s.data.toList 0 0 false) :
    Calls Tryd.prog 32 #[.string s] w (PfPost s w) := by
  have C := Lib.hid (fun w => spec_cut s 47 w hs)
  have HA := Lib.hid ha
  obtain ⟨l, hl⟩ : ∃ l, l = pieces 47 s.data.toList := ⟨_, rfl⟩
  rw [← hl] at h3
  have HL := Lib.hid hl
  have h3I : (2 : Int) < (l.length : Int) := by omega
  clear ha hl
  go_enter Tryd.func32, Tryd.ntmps32
  go_wp2_with fail
  have K0 := (Kept.start w).alloc2 (.int .i64 0) (.int .i64 0) 27 _ rfl
  refine (C.out _).mono ?_
  rintro e w1 ⟨v, rfl, hown, hb⟩
  rw [← HL.out] at hown
  obtain ⟨g, cap, rfl, _, _, _, _⟩ := hown.form (by omega)
  have K1 := K0.step hb
  have f0 := (K0.step hb).fz 0 rfl
  have f1 := (K0.step hb).fz 1 rfl
  have c0 := (K0.step hb).get 0 rfl
  have c1 := (K0.step hb).get 1 rfl
  have z0 := (K0.step hb).lt 0 rfl
  clear hb K0 hown
  go_wp2
  exact bodyPost_ret (v := .tuple #[.agg #[.int .i64 0, .int .i64 0], .bool false]) (by simp [results, Tryd.results32, go_sem, c0, c1, z0]) rfl (PfPost.mk HA.out (((K1.1.setCell (Nat.le_refl _) _).setCell (Nat.le_refl _) _).alloc (by have := z0; simp; omega) _))

/-- The end of the model's ParseFrac, from the test of the format on. -/
def Pf2 (s : ByteArray) (n d : Int) : Prop := (s.data.toList = [] → PFans s.data.toList 0 0 false) ∧ (s.data.toList ≠ [] → s.data.toList = fmtF n d → PFans s.data.toList n d true) ∧ (s.data.toList ≠ fmtF n d → PFans s.data.toList 0 0 false)

set_option maxRecDepth 8000 in
set_option maxHeartbeats 3200000 in
/-- One piece. -/
theorem spec_pf1 (s : ByteArray) (w : World) (hs : s.size ≤ 1048576) (h1 : pieces 47 s.data.toList = [s.data.toList]) (HP : ∀ n k, PIans s.data.toList n k → Pf2 s n 1) :
    Calls Tryd.prog 32 #[.string s] w (PfPost s w) := by
  have C := Lib.hid (fun w => spec_cut s 47 w hs)
  have HL := Lib.hid h1
  have PI := Lib.hid (fun w => spec_pi s w hs)
  have HH := Lib.hid HP
  clear h1 HP
  go_enter Tryd.func32, Tryd.ntmps32
  go_wp2_with fail
  have K0 := (Kept.start w).alloc2 (.int .i64 0) (.int .i64 0) 27 _ rfl
  refine (C.out _).mono ?_
  rintro e w1 ⟨v, rfl, hown, hb⟩
  rw [HL.out] at hown
  obtain ⟨g, cap, rfl, _, hg, hcap, hcell⟩ := hown.form (by simp)
  obtain ⟨hc0, _⟩ := hcell 0 (by simp)
  have hc1 : w1.cell? ⟨g, 0, none⟩ = some (.string s) := hc0
  have hzz : w.heap.size < w1.heap.size := (K0.step hb).lt 0 rfl
  have K1 := (K0.step hb).alloc2 (.int .i64 0) (.int .i64 1) 27 _ rfl
  clear hb K0 hown hcell hc0
  go_wp2_with fail
  refine (PI.out _).mono ?_
  rintro e w2 ⟨⟨n, k, hn, rfl⟩, hb⟩
  have HN := Lib.hid (HH.out n k hn)
  have NR := PIans_rng hn
  have K2 := K1.step hb
  have K3 := Kept.set (p := []) K2 (.int .i64 n) (Nat.le_of_lt hzz) (by simp only [List.nil_append, List.mem_cons, List.not_mem_nil, or_false]; rintro c (rfl | rfl | rfl) <;> simp <;> omega)
  clear hb K1 hn
  have k0 := K2.get 0 rfl
  have f0 := K2.fz 0 rfl
  have d0 := K3.get 0 rfl
  have d1 := K3.get 1 rfl
  have d2 := K3.get 2 rfl
  have d3 := K3.get 3 rfl
  have e2 := K3.fz 2 rfl
  have e3 := K3.fz 3 rfl
  have y2 := K3.lt 2 rfl
  by_cases hS : s.data.toList = []
  · have t1 : s.toList = [] := by rw [Lib.toList_data]; exact hS
    have AN := Lib.hid (HN.out.1 hS)
    have HS2 := Lib.hid hS
    clear hS
    go_wp2
    exact bodyPost_ret (v := .tuple #[.agg #[.int .i64 0, .int .i64 0], .bool false]) (by simp [results, Tryd.results32, go_sem, d2, d3, y2]) rfl (PfPost.mk AN.out ((K3.1.setCell (Nat.le_refl _) _).setCell (Nat.le_refl _) _))
  · have t1 : ¬ s.toList = [] := by rw [Lib.toList_data]; exact hS
    have t2 : s.toList.isEmpty = false := by rw [Lib.toList_data]; cases h : s.data.toList with | nil => exact absurd h hS | cons _ _ => rfl
    have t3 : (s.toList == []) = false := by rw [beq_eq_false_iff_ne]; exact t1
    have FF := Lib.hid (fun w => spec_ff n 1 w ⟨by omega, by omega⟩)
    have HE := Lib.hid (HN.out.2.1 hS)
    have HF := Lib.hid HN.out.2.2
    have HS2 := Lib.hid hS
    clear hS
    obtain ⟨fl, hfl⟩ : ∃ fl, fl = fmtF n 1 := ⟨_, rfl⟩
    rw [← hfl] at FF HE HF
    clear hfl
    go_wp2_with fail
    refine (FF.out _).mono ?_
    rintro e w3 ⟨rfl, hb⟩
    have K4 := K3.step hb
    clear hb K3 K2 k0 f0 d0 d1 d2 d3 e2 e3 y2
    have d0 := K4.get 0 rfl
    have d1 := K4.get 1 rfl
    have d2 := K4.get 2 rfl
    have d3 := K4.get 3 rfl
    have e2 := K4.fz 2 rfl
    have e3 := K4.fz 3 rfl
    have y2 := K4.lt 2 rfl
    by_cases hq : s.data.toList = fl
    · have q : (fl == s.toList) = true := by rw [eq_bytes]; exact decide_eq_true hq
      have AN := Lib.hid (HE.out hq)
      clear hq
      go_wp2
      exact bodyPost_ret (v := .tuple #[.agg #[.int .i64 n, .int .i64 1], .bool true]) (by simp [results, Tryd.results32, go_sem, d2, d3, y2]) rfl (PfPost.mk AN.out ((K4.1.setCell (Nat.le_refl _) _).setCell (Nat.le_refl _) _))
    · have q : (fl == s.toList) = false := by rw [eq_bytes]; exact decide_eq_false hq
      have AN := Lib.hid (HF.out hq)
      clear hq
      go_wp2
      exact bodyPost_ret (v := .tuple #[.agg #[.int .i64 0, .int .i64 0], .bool false]) (by simp [results, Tryd.results32, go_sem, d2, d3, y2]) rfl (PfPost.mk AN.out ((K4.1.setCell (Nat.le_refl _) _).setCell (Nat.le_refl _) _))

set_option maxRecDepth 8000 in
set_option maxHeartbeats 3200000 in
/-- Two pieces. -/
theorem spec_pf2 (s : ByteArray) (a b : List UInt8) (w : World) (hs : s.size ≤ 1048576) (ha : a.length ≤ 1048576) (hb : b.length ≤ 1048576) (hS : s.data.toList ≠ []) (h1 : pieces 47 s.data.toList = [a, b]) (HP : ∀ n k d j, PIans a n k → PIans b d j → Pf2 s n d) :
    Calls Tryd.prog 32 #[.string s] w (PfPost s w) := by
  have C := Lib.hid (fun w => spec_cut s 47 w hs)
  have HL := Lib.hid h1
  have PA := Lib.hid (fun w => spec_pi ⟨a.toArray⟩ w (by show a.toArray.size ≤ _; simpa using ha))
  have PB := Lib.hid (fun w => spec_pi ⟨b.toArray⟩ w (by show b.toArray.size ≤ _; simpa using hb))
  have HH := Lib.hid HP
  have t1 : ¬ s.toList = [] := by rw [Lib.toList_data]; exact hS
  have t2 : s.toList.isEmpty = false := by rw [Lib.toList_data]; cases h : s.data.toList with | nil => exact absurd h hS | cons _ _ => rfl
  have t3 : (s.toList == []) = false := by rw [beq_eq_false_iff_ne]; exact t1
  have HS2 := Lib.hid hS
  clear h1 HP hS
  go_enter Tryd.func32, Tryd.ntmps32
  go_wp2_with fail
  have K0 := (Kept.start w).alloc2 (.int .i64 0) (.int .i64 0) 27 _ rfl
  refine (C.out _).mono ?_
  rintro e w1 ⟨v, rfl, hown, hb⟩
  rw [HL.out] at hown
  obtain ⟨g, cap, rfl, hgl, hg, hcap, hcell⟩ := hown.form (by simp)
  obtain ⟨hc0, hf0⟩ := hcell 0 (by simp)
  obtain ⟨hc1, hf1⟩ := hcell 1 (by simp)
  have hzz : w.heap.size < w1.heap.size := (K0.step hb).lt 0 rfl
  have hgw : w.heap.size < g := by simp at hgl; omega
  have hcap2 : (2 : Nat) ≤ cap := hcap
  have K1 := (((K0.step hb).cons (a := ⟨g, 1, none⟩) hg hc1 hf1).cons (a := ⟨g, 0, none⟩) hg hc0 hf0).alloc2 (.int .i64 0) (.int .i64 1) 27 _ rfl
  have hc2 : w1.cell? ⟨g, 0, none⟩ = some (.string ⟨a.toArray⟩) := hc0
  clear hb K0 hown hcell hc0 hc1 hf0 hf1 hgl hcap
  go_wp2_with fail
  refine (PA.out _).mono ?_
  rintro e w2 ⟨⟨n, k, hn, rfl⟩, hb⟩
  have NR := PIans_rng hn
  have K2 := K1.step hb
  have K3 := Kept.set (p := []) K2 (.int .i64 n) (Nat.le_of_lt hzz) (by simp only [List.nil_append, List.mem_cons, List.not_mem_nil, or_false]; rintro c (rfl | rfl | rfl | rfl | rfl) <;> simp <;> omega)
  clear hb K1 hc2
  have k0 := K2.get 0 rfl
  have f0 := K2.fz 0 rfl
  have d3 := K3.get 3 rfl
  have HN0 := Lib.hid hn
  clear hn
  go_wp2_with fail
  refine (PB.out _).mono ?_
  rintro e w3 ⟨⟨d, j, hd, rfl⟩, hb⟩
  have NR2 := PIans_rng hd
  have HN := Lib.hid (HH.out n k d j HN0.out hd)
  have K4 := K3.step hb
  have K5 := Kept.set (p := [(⟨w1.heap.size, 0, none⟩, .int .i64 n)]) K4 (.int .i64 d) (Nat.le_of_lt hzz) (by simp only [List.cons_append, List.nil_append, List.mem_cons, List.not_mem_nil, or_false]; rintro c (rfl | rfl | rfl | rfl | rfl) <;> simp <;> omega)
  clear hb K2 K3 k0 f0 d3 hd
  have k1 := K4.get 1 rfl
  have f1 := K4.fz 1 rfl
  have d0 := K5.get 0 rfl
  have d1 := K5.get 1 rfl
  have FF := Lib.hid (fun w => spec_ff n d w ⟨by omega, by omega⟩)
  have HE := Lib.hid (HN.out.2.1 HS2.out)
  have HF := Lib.hid HN.out.2.2
  obtain ⟨fl, hfl⟩ : ∃ fl, fl = fmtF n d := ⟨_, rfl⟩
  rw [← hfl] at FF HE HF
  clear hfl
  go_wp2_with fail
  refine (FF.out _).mono ?_
  rintro e w4 ⟨rfl, hb⟩
  have K6 := K5.step hb
  clear hb K5 K4 k1 f1 d0 d1
  have d0 := K6.get 0 rfl
  have d1 := K6.get 1 rfl
  have d2 := K6.get 4 rfl
  have d3 := K6.get 5 rfl
  have e2 := K6.fz 4 rfl
  have e3 := K6.fz 5 rfl
  have y2 := K6.lt 4 rfl
  by_cases hq : s.data.toList = fl
  · have q : (fl == s.toList) = true := by rw [eq_bytes]; exact decide_eq_true hq
    have AN := Lib.hid (HE.out hq)
    clear hq
    go_wp2
    exact bodyPost_ret (v := .tuple #[.agg #[.int .i64 n, .int .i64 d], .bool true]) (by simp [results, Tryd.results32, go_sem, d2, d3, y2]) rfl (PfPost.mk AN.out ((K6.1.setCell (Nat.le_refl _) _).setCell (Nat.le_refl _) _))
  · have q : (fl == s.toList) = false := by rw [eq_bytes]; exact decide_eq_false hq
    have AN := Lib.hid (HF.out hq)
    clear hq
    go_wp2
    exact bodyPost_ret (v := .tuple #[.agg #[.int .i64 0, .int .i64 0], .bool false]) (by simp [results, Tryd.results32, go_sem, d2, d3, y2]) rfl (PfPost.mk AN.out ((K6.1.setCell (Nat.le_refl _) _).setCell (Nat.le_refl _) _))

theorem spec_pf (s : ByteArray) (w : World) (hs : s.size ≤ 1048576) :
    Calls Tryd.prog 32 #[.string s] w (PfPost s w) := by
  have hl : s.data.toList.length = s.size := by simp
  obtain ⟨a, b, has, hc⟩ := cut_any 47 s.data.toList
  have hc0 := hc
  obtain ⟨hm, ⟨rfl, he⟩ | ⟨rfl, he, hb0⟩⟩ := hc
  · obtain ⟨a', b', has', hc'⟩ := cut_any 47 b
    have hc0' := hc'
    obtain ⟨hm', ⟨rfl, he'⟩ | ⟨rfl, he', _⟩⟩ := hc'
    · refine spec_pf3 s w hs ?_ (pf_three hc0 hc0')
      rw [he, pieces_cut 47 a b hm, he', pieces_cut 47 a' b' hm']
      have := (pieces_len 47 b').1
      simp only [List.length_cons]
      omega
    · have hlen : a.length + (b.length + 1) = s.size := by rw [← hl, he]; simp
      refine spec_pf2 s a b w hs (by omega) (by omega) (by rw [he]; simp) (by rw [he, pieces_cut 47 a b hm, pieces_none 47 b (by rw [he']; exact hm')]) ?_
      intro n k d j hn hd
      refine ⟨fun h => absurd h (by rw [he]; simp), fun h h2 => pf_yes h h2, fun h => pf_no hc0 hn (.inr ⟨rfl, j, hd⟩) h⟩
  · subst he
    refine spec_pf1 s w hs (pieces_none 47 _ hm) ?_
    intro n k hn
    refine ⟨fun h => by rw [h]; exact pf_nil, fun h h2 => pf_yes h h2, fun h => pf_no hc0 hn (.inl ⟨rfl, rfl⟩) h⟩
end Go.Proofs.YtdfmidihghoilaaDoor
