/-
  The walk over the model's RemoveRow.
-/
import Derived.Test.YtcfcohnkkgickaaRows
import Derived.Test.YtcfcohnkkgickaaAdrSpec
import Derived.Deep.CutBlock
namespace Go.Proofs.Ytcfcohnkkgickaa
open Go.RowKit Num

/-- What RemoveRow leaves. -/
def RemPost (id : Int) (l : List Rw) (x : Int) (w : World) (e : Ending) (w' : World) : Prop := ∃ l' ok, RemAns id l x l' ok ∧ BlkRes id l' ok w e w'

set_option maxRecDepth 8000 in
set_option maxHeartbeats 12800000 in
theorem spec_rem (id : Int) (h cap : Nat) (l : List Rw) (x : Int) (w : World) (hn : l.length ≤ 1048576) (hcap : l.length ≤ cap) (hV : RowsVal w (some ⟨h, 0, none⟩) l.length (Rn l)) :
    Calls Try.prog 81 #[.agg #[.int .i64 id, .slice (some ⟨h, 0, none⟩) l.length cap], .int .i64 x] w (RemPost id l x w) := by
  have HV := Lib.hid hV
  have SC := Lib.hid (RowsVal.src (c := cap) (o := 0) (m := l.length) hV (by omega))
  rw [List.drop_zero, List.take_length, Nat.zero_mul] at SC
  clear hV
  have hnI : (l.length : Int) ≤ 1048576 := by omega
  have D1 := fun w hV => spec_bvV id (some ⟨h, 0, none⟩) l.length cap (Rn l) w hn hV
  obtain ⟨q1, hq1⟩ : ∃ q, q = blkB id l.length (Rn l) := ⟨_, rfl⟩
  rw [← hq1] at D1
  have HQ1 := Lib.hid (show q1 = blkL id l from hq1)
  have DD1 := Lib.hid D1
  clear D1 hq1
  go_enter Try.func81, Try.ntmps81
  go_wp2_with fail
  have K0 := ((Kept.start w).alloc2 (.int .i64 id) (.slice (some ⟨h, 0, none⟩) l.length cap) 80 _ rfl).alloc2 (.int .i64 0) (.slice none 0 0) 80 (w.heap.size + 1) (by simp)
  refine (spec_fd h l.length cap x (Rn l) _ hn (fun k hk => (rows_head (HV.out.below K0.1) (by omega)).2 k hk)).mono ?_
  rintro e w1 ⟨v, hv, rfl, hb⟩
  have K1 := K0.step hb
  have HA := Lib.hid hv
  have hvr : -1 ≤ v ∧ v < 1048576 := by rcases hv with ⟨k, hk, _, _, rfl⟩ | ⟨_, rfl⟩ <;> omega
  obtain ⟨v1, v2⟩ := hvr
  clear hb K0 hv
  have b0 := K1.get 2 rfl
  have b1 := K1.get 3 rfl
  go_wp2_with fail
  refine (DD1.out _ (HV.out.below K1.1)).mono ?_
  rintro e w4 ⟨rfl, hb⟩
  have K4 := K1.step hb
  clear hb K1 b0 b1
  have b0 := K4.get 2 rfl
  have b1 := K4.get 3 rfl
  cases q1
  · have AN := Lib.hid (show RemAns id l x l false from .inr ⟨rfl, rfl, .inl HQ1.out.symm⟩)
    have SC4 := Lib.hid (SC.out.keep K4.1)
    go_wp2_with fail
    refine (spec_copy id _ cap l _ hn SC4.out).mono ?_
    rintro e w8 ⟨v8, fp8, rfl, hs8, hf8, hn8, hb⟩
    obtain ⟨ao8, cap8, rfl⟩ := hs8.val
    have K8 := K4.step hb
    have HB8 : Hid (w.heap.size + 1 < w4.heap.size) := (show _ < _ from K4.lt 0 rfl)
    clear hb K4 b0 b1
    have c0 := K8.get 0 rfl
    have c1 := K8.get 1 rfl
    have e0 := K8.fz 0 rfl
    have e1 := K8.fz 1 rfl
    have K6 := K8.set2 (.int .i64 id) (.slice ao8 l.length cap8) (by omega) (by simp only [List.mem_cons, List.not_mem_nil, or_false]; rintro c9 (rfl | rfl) <;> simp)
    have R6 := Lib.hid ((hs8.set ⟨w.heap.size + 1, 0, none⟩ (.int .i64 id) (fun k hk => by have := hf8 k hk; have := HB8.out; simp only; omega)).set ⟨w.heap.size + 1, 1, none⟩ (.slice ao8 l.length cap8) (fun k hk => by have := hf8 k hk; have := HB8.out; simp only; omega))
    have HF8 := Lib.hid hf8
    have r0 := K6.get 0 rfl
    have r1 := K6.get 1 rfl
    have yy := K6.lt 0 rfl
    clear K8 hs8 hf8
    go_wp2
    exact bodyPost_ret (v := .tuple #[.agg #[.int .i64 id, .slice ao8 l.length cap8], .bool false]) (by simp [results, Try.results81, go_sem, r0, r1, yy]) rfl ⟨l, false, AN.out, _, fp8, rfl, R6.out, fun k hk => by have := HF8.out k hk; have := HB8.out; omega, hn8, K6.1⟩
  · by_cases hv0 : v < 0
    · have hv0d : decide (v < 0) = true := decide_eq_true hv0
      have AN := Lib.hid (show RemAns id l x l false from .inr ⟨rfl, rfl, .inr (by have h := HA.out; rcases h with ⟨k, hk, _, _, rfl⟩ | ⟨h1, rfl⟩; (· omega); exact .inr ⟨h1, rfl⟩)⟩)
      have SC4 := Lib.hid (SC.out.keep K4.1)
      go_wp2_with fail
      refine (spec_copy id _ cap l _ hn SC4.out).mono ?_
      rintro e w8 ⟨v8, fp8, rfl, hs8, hf8, hn8, hb⟩
      obtain ⟨ao8, cap8, rfl⟩ := hs8.val
      have K8 := K4.step hb
      have HB8 : Hid (w.heap.size + 1 < w4.heap.size) := (show _ < _ from K4.lt 0 rfl)
      clear hb K4 b0 b1
      have c0 := K8.get 0 rfl
      have c1 := K8.get 1 rfl
      have e0 := K8.fz 0 rfl
      have e1 := K8.fz 1 rfl
      have K6 := K8.set2 (.int .i64 id) (.slice ao8 l.length cap8) (by omega) (by simp only [List.mem_cons, List.not_mem_nil, or_false]; rintro c9 (rfl | rfl) <;> simp)
      have R6 := Lib.hid ((hs8.set ⟨w.heap.size + 1, 0, none⟩ (.int .i64 id) (fun k hk => by have := hf8 k hk; have := HB8.out; simp only; omega)).set ⟨w.heap.size + 1, 1, none⟩ (.slice ao8 l.length cap8) (fun k hk => by have := hf8 k hk; have := HB8.out; simp only; omega))
      have HF8 := Lib.hid hf8
      have r0 := K6.get 0 rfl
      have r1 := K6.get 1 rfl
      have yy := K6.lt 0 rfl
      clear K8 hs8 hf8
      go_wp2
      exact bodyPost_ret (v := .tuple #[.agg #[.int .i64 id, .slice ao8 l.length cap8], .bool false]) (by simp [results, Try.results81, go_sem, r0, r1, yy]) rfl ⟨l, false, AN.out, _, fp8, rfl, R6.out, fun k hk => by have := HF8.out k hk; have := HB8.out; omega, hn8, K6.1⟩
    · have hv0d : decide (v < 0) = false := decide_eq_false hv0
      obtain ⟨k, hk, rfl⟩ : ∃ k : Nat, k < l.length ∧ v = (k : Int) := by
        rcases HA.out with ⟨k, hk, _, _, e⟩ | ⟨_, e⟩
        · exact ⟨k, hk, e⟩
        · omega
      have AN := Lib.hid (show RemAns id l x (l.take k ++ l.drop (k + 1)) true from .inl ⟨rfl, HQ1.out.symm, k, HA.out, rfl⟩)
      have SA := Lib.hid ((RowsVal.src (c := cap) (o := 0) (m := k) HV.out (by omega)).keep K4.1)
      obtain ⟨p, hpk⟩ : ∃ p, p = k + 1 := ⟨_, rfl⟩
      have SB := Lib.hid ((RowsVal.tail (c := cap - p) (p := p) (cap := cap) HV.out (by omega) hcap).keep K4.1)
      have hw9 : IntKind.i64.wrap ((k : Int) + 1) = (p : Int) := by rw [IntWalk.i64_in _ (by omega)]; omega
      rw [List.drop_zero, Nat.zero_mul] at SA
      have HLA := Lib.hid (show (l.take k).length = k by rw [List.length_take]; omega)
      have HLB := Lib.hid (show (l.drop p).length = l.length - p from List.length_drop ..)
      have i1 : (k : Int) < (l.length : Int) := by omega
      have i2 : (k : Int) ≤ (cap : Int) := by omega
      have i3 : (l.length : Int) ≤ (cap : Int) := by omega
      have i4 : (0 : Int) ≤ (k : Int) := by omega
      have i5 : (p : Int) ≤ (l.length : Int) := by omega
      have i6 : (p : Int) ≤ (cap : Int) := by omega
      have i7 : (0 : Int) ≤ (p : Int) := by omega
      have hkp : k ≤ l.length := by omega
      rw [← hpk] at AN
      clear hpk
      have z2 : w.heap.size + 1 < w4.heap.size := K4.lt 0 rfl
      have KB := Lib.hid K4.base
      have KC := K4.sub (l' := [(⟨w.heap.size, 0, none⟩, .int .i64 id), (⟨w.heap.size, 1, none⟩, .slice (some ⟨h, 0, none⟩) l.length cap)]) (by intro p9 hp9; simp only [List.mem_cons, List.not_mem_nil, or_false] at hp9; rcases hp9 with rfl | rfl <;> simp)
      go_upto_region 4 with fail
      go_cut [5] (fun s5 wx => s5 = .bool true ∧ ∃ (ao3 : Option Addr) (n3 cap3 : Nat) (fp : List Nat), Kept w wx [(⟨w.heap.size + 1, 0, none⟩, .int .i64 id), (⟨w.heap.size + 1, 1, none⟩, .slice ao3 n3 cap3)] ∧ SliceRep rowTy wx (.slice ao3 n3 cap3) (l.take k ++ l.drop p) fp ∧ (∀ k ∈ fp, w4.heap.size ≤ k) ∧ fp.Nodup)
      case first =>
        go_region_held3 (fun w' => w'.cell? ⟨w.heap.size, 0, none⟩ = some (.int .i64 id) ∧ w'.cell? ⟨w.heap.size, 1, none⟩ = some (.slice (some ⟨h, 0, none⟩) l.length cap)) (first | assumption | exact c2c KC (Below.refl _ _).drew | exact c2c_alloc (by assumption) | exact c2c KC KO1.1.1 | exact c2c KC KO2.1.1 | exact c2c_set2 (c2c KC KO2.1.1) (by simp) (by simp)) (first | (apply step_append_ko (W := w4) (s := Operand.tmp 22) (x := Operand.tmp 26) rfl rfl (B := w4.heap.size) (rows := []) (news := l.take k) rfl rfl; (· repeat' (first | (with_reducible apply KO.drew) | (with_reducible apply KO.alloc2 (hN := rfl)) | (apply KO.lit <;> first | omega | (simp; done) | skip) | with_reducible exact KB.out | (with_reducible apply Kept.drew) | (with_reducible apply Kept.alloc2 (hB := rfl)))); (· exact SA.out.keep (by repeat' (first | (with_reducible exact (Below.refl _ _)) | (with_reducible refine Below.drew ?_) | (refine Below.alloc ?_ (by (try simp only [World.size_alloc, World.size_drew]); omega) _)))); (· simp [HLA.out, HLB.out]; omega); (· exact Nat.le_refl _); (· (try simp only [World.size_alloc, World.size_drew]); omega); intro v1 w11 KO1; (try simp only [World.size_alloc, World.size_drew, List.nil_append] at KO1); (try have y0 := KO1.1.get 0 rfl); (try have y1 := KO1.1.get 1 rfl); (try have y2 := KO1.1.get 2 rfl); (try have y3 := KO1.1.get 3 rfl); have zz1 := KO1.1.1.size) | (apply step_append_ko (W := w4) (s := Operand.tmp 27) (x := Operand.tmp 32) rfl rfl (B := w4.heap.size) (rows := (l.take k)) (news := (l.drop p)) rfl rfl; (· repeat' (first | (with_reducible apply KO.drew) | (with_reducible apply KO.alloc2 (hN := rfl)) | exact KO1)); (· exact SB.out.keep (by repeat' (first | (exact KO1.1.1) | (with_reducible exact (Below.refl _ _)) | (with_reducible refine Below.drew ?_) | (refine Below.alloc ?_ (by (try simp only [World.size_alloc, World.size_drew]); omega) _)))); (· simp [HLA.out, HLB.out]; omega); (· exact Nat.le_refl _); (· (try simp only [World.size_alloc, World.size_drew]); omega); intro v2 w12 KO2; (try simp only [World.size_alloc, World.size_drew, List.nil_append] at KO2); (try have y0 := KO2.1.get 0 rfl); (try have y1 := KO2.1.get 1 rfl); (try have y2 := KO2.1.get 2 rfl); (try have y3 := KO2.1.get 3 rfl); have zz2 := KO2.1.1.size; obtain ⟨ao3, cap3, hv3⟩ := KO2.2.1.shape; subst hv3; (try have f0 := KO2.1.fz 0 rfl); (try have f1 := KO2.1.fz 1 rfl); (try have f2 := KO2.1.fz 2 rfl); (try have f3 := KO2.1.fz 3 rfl)))
        all_goals
          have e1 : (l.take k ++ l.drop p).length = k + (l.length - p) := by simp only [List.length_append, HLA.out, HLB.out]
          rw [e1] at KO2
          clear e1
          obtain ⟨fp, hs8, hf8, hn8⟩ := KO2.2.1.rep
          have K8 := K4.step KO2.1.1
          have c0 := K8.get 0 rfl
          have c1 := K8.get 1 rfl
          have e0 := K8.fz 0 rfl
          have e1 := K8.fz 1 rfl
          have K6 := K8.set2 (.int .i64 id) (.slice ao3 (k + (l.length - p)) cap3) (by omega) (by simp only [List.mem_cons, List.not_mem_nil, or_false]; rintro c9 (rfl | rfl) <;> simp)
          have R6 := Lib.hid ((hs8.set ⟨w.heap.size + 1, 0, none⟩ (.int .i64 id) (fun k hk => by have := hf8 k hk; simp only; omega)).set ⟨w.heap.size + 1, 1, none⟩ (.slice ao3 (k + (l.length - p)) cap3) (fun k hk => by have := hf8 k hk; simp only; omega))
          have HF8 := Lib.hid hf8
          dsimp only [Exit.then]
          go_step
          go_meet
          exact ⟨rfl, _, _, _, fp, K6.sub (by intro p9 hp9; simp only [List.mem_cons, List.not_mem_nil, or_false] at hp9; rcases hp9 with rfl | rfl <;> simp), R6.out, HF8.out, hn8⟩
      case rest =>
        obtain ⟨rfl, ao3, n3, cap3, fp, K6, R6, HF8, hn8⟩ := hcut
        have HR6 := Lib.hid R6
        have HHF := Lib.hid HF8
        have r0 := K6.get 0 rfl
        have r1 := K6.get 1 rfl
        have yy := K6.lt 0 rfl
        clear R6 HF8
        go_wp2
        exact bodyPost_ret (v := .tuple #[.agg #[.int .i64 id, .slice ao3 n3 cap3], .bool true]) (by simp [results, Try.results81, go_sem, r0, r1, yy]) rfl ⟨_, true, AN.out, _, fp, rfl, HR6.out, fun k hk => by have := HHF.out k hk; omega, hn8, K6.1⟩
end Go.Proofs.Ytcfcohnkkgickaa
