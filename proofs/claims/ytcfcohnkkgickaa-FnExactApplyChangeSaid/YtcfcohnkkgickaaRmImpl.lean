/-
  The walk over the project's RemoveRow.
-/
import Derived.Test.YtcfcohnkkgickaaRows
import Derived.Test.YtcfcohnkkgickaaBvImpl
import Derived.Test.YtcfcohnkkgickaaWoImpl
import Derived.Test.YtcfcohnkkgickaaFdImpl
import Derived.Test.YtcfcohnkkgickaaRmSpec
import Derived.Test.YtcfcohnkkgickaaBkCon
import Derived.Deep.CutBlock
namespace Go.Proofs.Ytcfcohnkkgickaa
open Go.RowKit Num

set_option maxRecDepth 8000 in
set_option maxHeartbeats 12800000 in
theorem impl_rem (id : Int) (h cap : Nat) (l : List Rw) (x : Int) (w : World) (hn : l.length ≤ 1048576) (hcap : l.length ≤ cap) (hV : RowsVal w (some ⟨h, 0, none⟩) l.length (Rn l)) :
    Calls Try.prog 176 #[.agg #[.int .i64 id, .slice (some ⟨h, 0, none⟩) l.length cap], .int .i64 x] w (RemPost id l x w) := by
  have HV := Lib.hid hV
  have SC := Lib.hid (RowsVal.src (c := cap) (o := 0) (m := l.length) hV (by omega))
  rw [List.drop_zero, List.take_length, Nat.zero_mul] at SC
  clear hV
  have hnI : (l.length : Int) ≤ 1048576 := by omega
  have D1 := fun w hV => impl_bvV id (some ⟨h, 0, none⟩) l.length cap (Rn l) w hn hV
  obtain ⟨q1, hq1⟩ : ∃ q, q = blkB id l.length (Rn l) := ⟨_, rfl⟩
  rw [← hq1] at D1
  have HQ1 := Lib.hid (show q1 = blkL id l from hq1)
  have DD1 := Lib.hid D1
  clear D1 hq1
  go_enter Try.func176, Try.ntmps176
  go_wp2_with fail
  have K0 := ((Kept.start w).alloc2 (.int .i64 id) (.slice (some ⟨h, 0, none⟩) l.length cap) 80 _ rfl).alloc2 (.int .i64 0) (.slice none 0 0) 80 (w.heap.size + 1) (by simp)
  refine (impl_fdV (some ⟨h, 0, none⟩) l.length cap x (Rn l) _ hn (HV.out.below K0.1)).mono ?_
  rintro e w1 ⟨v, hv, rfl, hb⟩
  have K1 := K0.step hb
  have HA := Lib.hid hv
  have hvr : -1 ≤ v ∧ v < 1048576 := by rcases hv with ⟨k, hk, _, _, rfl⟩ | ⟨_, rfl⟩ <;> omega
  obtain ⟨v1, v2⟩ := hvr
  clear hb K0 hv
  have b0 := K1.get 2 rfl
  have b1 := K1.get 3 rfl
  by_cases hv0 : v < 0
  · have hv0d : decide (v < 0) = true := decide_eq_true hv0
    have AN := Lib.hid (show RemAns id l x l false from .inr ⟨rfl, rfl, .inr (by have h := HA.out; rcases h with ⟨k, hk, _, _, rfl⟩ | ⟨h1, rfl⟩; (· omega); exact .inr ⟨h1, rfl⟩)⟩)
    have SC4 := Lib.hid (SC.out.keep K1.1)
    go_wp2_with fail
    refine (impl_bc id _ cap l _ hn SC4.out).mono ?_
    rintro e w8 ⟨v8, fp8, rfl, hs8, hf8, hn8, hb⟩
    obtain ⟨ao8, cap8, rfl⟩ := hs8.val
    have K8 := K1.step hb
    have HB8 : Hid (w.heap.size + 1 < w1.heap.size) := (show _ < _ from K1.lt 0 rfl)
    clear hb K1 b0 b1
    have c0 := K8.get 0 rfl
    have c1 := K8.get 1 rfl
    have e0 := K8.fz 0 rfl
    have e1 := K8.fz 1 rfl
    have K6 := K8.set2 (.int .i64 id) (.slice ao8 l.length cap8) (by omega) (by simp only [List.mem_cons, List.not_mem_nil, or_false]; rintro c9 (rfl | rfl) <;> simp)
    have R6 := Lib.hid ((hs8.set ⟨w.heap.size + 1, 0, none⟩ (.int .i64 id) (fun k hk => by have := hf8 k hk; have := HB8.out; simp only; omega)).set ⟨w.heap.size + 1, 1, none⟩ (.slice ao8 l.length cap8) (fun k hk => by have := hf8 k hk; have := HB8.out; simp only; omega))
    have HF8 := Lib.hid hf8
    have r0 := K6.get 0 rfl
    have r1 := K6.get 1 rfl
    have yy := K6.lt 0 rfl
    clear K8 hs8 hf8
    go_wp2
    exact bodyPost_ret (v := .tuple #[.agg #[.int .i64 id, .slice ao8 l.length cap8], .bool false]) (by simp [results, Try.results176, go_sem, r0, r1, yy]) rfl ⟨l, false, AN.out, _, fp8, rfl, R6.out, fun k hk => by have := HF8.out k hk; have := HB8.out; omega, hn8, K6.1⟩
  · have hv0d : decide (v < 0) = false := decide_eq_false hv0
    go_wp2_with fail
    refine (DD1.out _ (HV.out.below K1.1)).mono ?_
    rintro e w4 ⟨rfl, hb⟩
    have K4 := K1.step hb
    clear hb K1 b0 b1
    have b0 := K4.get 2 rfl
    have b1 := K4.get 3 rfl
    cases q1
    · have AN := Lib.hid (show RemAns id l x l false from .inr ⟨rfl, rfl, .inl HQ1.out.symm⟩)
      have SC4 := Lib.hid (SC.out.keep K4.1)
      go_wp2_with fail
      refine (impl_bc id _ cap l _ hn SC4.out).mono ?_
      rintro e w8 ⟨v8, fp8, rfl, hs8, hf8, hn8, hb⟩
      obtain ⟨ao8, cap8, rfl⟩ := hs8.val
      have K8 := K4.step hb
      have HB8 : Hid (w.heap.size + 1 < w4.heap.size) := (show _ < _ from K4.lt 0 rfl)
      clear hb K4 b0 b1
      have c0 := K8.get 0 rfl
      have c1 := K8.get 1 rfl
      have e0 := K8.fz 0 rfl
      have e1 := K8.fz 1 rfl
      have K6 := K8.set2 (.int .i64 id) (.slice ao8 l.length cap8) (by omega) (by simp only [List.mem_cons, List.not_mem_nil, or_false]; rintro c9 (rfl | rfl) <;> simp)
      have R6 := Lib.hid ((hs8.set ⟨w.heap.size + 1, 0, none⟩ (.int .i64 id) (fun k hk => by have := hf8 k hk; have := HB8.out; simp only; omega)).set ⟨w.heap.size + 1, 1, none⟩ (.slice ao8 l.length cap8) (fun k hk => by have := hf8 k hk; have := HB8.out; simp only; omega))
      have HF8 := Lib.hid hf8
      have r0 := K6.get 0 rfl
      have r1 := K6.get 1 rfl
      have yy := K6.lt 0 rfl
      clear K8 hs8 hf8
      go_wp2
      exact bodyPost_ret (v := .tuple #[.agg #[.int .i64 id, .slice ao8 l.length cap8], .bool false]) (by simp [results, Try.results176, go_sem, r0, r1, yy]) rfl ⟨l, false, AN.out, _, fp8, rfl, R6.out, fun k hk => by have := HF8.out k hk; have := HB8.out; omega, hn8, K6.1⟩
    · obtain ⟨k, hk, rfl⟩ : ∃ k : Nat, k < l.length ∧ v = (k : Int) := by
        rcases HA.out with ⟨k, hk, _, _, e⟩ | ⟨_, e⟩
        · exact ⟨k, hk, e⟩
        · omega
      have AN := Lib.hid (show RemAns id l x (l.take k ++ l.drop (k + 1)) true from .inl ⟨rfl, HQ1.out.symm, k, HA.out, rfl⟩)
      have HV4 := Lib.hid (HV.out.below K4.1)
      have KC := K4.sub (l' := [(⟨w.heap.size, 0, none⟩, .int .i64 id), (⟨w.heap.size, 1, none⟩, .slice (some ⟨h, 0, none⟩) l.length cap)]) (by intro p9 hp9; simp only [List.mem_cons, List.not_mem_nil, or_false] at hp9; rcases hp9 with rfl | rfl <;> simp)
      obtain ⟨m, hm⟩ : ∃ m, m = l.take k ++ l.drop (k + 1) := ⟨_, rfl⟩
      rw [← hm] at AN
      have HM := Lib.hid hm
      clear hm
      go_wp2_with fail
      go_region_held3 (fun w' => w'.cell? ⟨w.heap.size, 0, none⟩ = some (.int .i64 id) ∧ w'.cell? ⟨w.heap.size, 1, none⟩ = some (.slice (some ⟨h, 0, none⟩) l.length cap)) (first | assumption | exact c2c KC (Below.refl _ _).drew | exact c2c KC hbel1 | exact c2c_set2 (c2c KC hbel1) (by simp) (by simp)) (first | (go_simp; go_at_call 177; (with_reducible refine (impl_without h cap l k _ hn hk hcap ?_).mono ?_); (exact HV4.out.below (Below.refl _ _).drew); rintro e9 w3 ⟨v1, rfl, hown1, hb⟩; have hbel1 := below_via hb (Below.refl w4.heap.size w4).drew; rw [← HM.out] at hown1; obtain ⟨ao', cap', hv'⟩ := hown1.shape; subst hv'; have K9 := K4.step hbel1; have r0 := K9.get 0 rfl; have r1 := K9.get 1 rfl; have q0 := K9.fz 0 rfl; have q1 := K9.fz 1 rfl))
      all_goals
        obtain ⟨fp, hs8, hf8, hn8⟩ := OwnR.rep (hown1.mono (show w4.heap.size ≤ _ by simp))
        have HB8 : w.heap.size + 1 < w4.heap.size := K4.lt 0 rfl
        have K6 := K9.set2 (.int .i64 id) (.slice ao' m.length cap') (by omega) (by simp only [List.mem_cons, List.not_mem_nil, or_false]; rintro c9 (rfl | rfl) <;> simp)
        have R6 := Lib.hid ((hs8.set ⟨w.heap.size + 1, 0, none⟩ (.int .i64 id) (fun k hk => by have := hf8 k hk; simp only; omega)).set ⟨w.heap.size + 1, 1, none⟩ (.slice ao' m.length cap') (fun k hk => by have := hf8 k hk; simp only; omega))
        have HHF := Lib.hid (show ∀ k ∈ fp, w.heap.size ≤ k from fun k hk => by have := hf8 k hk; omega)
        have r0' := K6.get 0 rfl
        have r1' := K6.get 1 rfl
        have yy := K6.lt 0 rfl
        clear K9 K4 KC r0 r1 q0 q1 hown1 hbel1 hs8 hf8 HB8 hb
        go_wp2
        exact bodyPost_ret (v := .tuple #[.agg #[.int .i64 id, .slice ao' m.length cap'], .bool true]) (by simp [results, Try.results176, go_sem, r0', r1', yy]) rfl ⟨_, true, AN.out, _, fp, rfl, R6.out, HHF.out, hn8, K6.1⟩

theorem impl_remO (id : Int) (g n c : Nat) (l : List Rw) (fp : List Nat) (x : Int) (w : World) (hn : l.length ≤ 1048576) (h : SliceRep rowTy w (.slice (some ⟨g, 0, none⟩) n c) l fp) :
    Calls Try.prog 176 #[.agg #[.int .i64 id, .slice (some ⟨g, 0, none⟩) n c], .int .i64 x] w (RemPost id l x w) := by
  obtain ⟨rfl, hc, hV⟩ := rows_headV h
  exact impl_rem id g c l x w hn hc hV
end Go.Proofs.Ytcfcohnkkgickaa
