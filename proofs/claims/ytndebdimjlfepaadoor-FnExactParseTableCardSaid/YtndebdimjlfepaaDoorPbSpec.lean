/-
  The walk over the model's ParseBlock.
-/
import Derived.Test.YtndebdimjlfepaaDoorRows
import Derived.Test.YtndebdimjlfepaaDoorPbPlain
import Derived.Test.YtndebdimjlfepaaDoorBfSpec
import Derived.Test.YtndebdimjlfepaaDoorRwRep
import Derived.Test.YtndebdimjlfepaaDoorKo
namespace Go.Proofs.YtndebdimjlfepaaDoor
open Go.RowKit Num

/-- What ParseBlock leaves. -/
def PBPost (s : ByteArray) (w : World) (e : Ending) (w' : World) : Prop :=
  ∃ (id : Int) (l : List Rw) (ok : Bool) (v : Value) (fp : List Nat), PBlk s.data.toList id l.length (Rn l) ok ∧ e = .returned (.tuple #[.agg #[.int .i64 id, v], .bool ok]) ∧ SliceRep rowTy w' v l fp ∧ (∀ k ∈ fp, w.heap.size ≤ k) ∧ fp.Nodup ∧ Below w.heap.size w w'

theorem pbl_unique {t : List UInt8} {id id' : Int} {l l' : List Rw} {ok ok' : Bool} (h : PBlk t id l.length (Rn l) ok) (h' : PBlk t id' l'.length (Rn l') ok') : id = id' ∧ l = l' ∧ ok = ok' := by
  obtain ⟨e1, e2, e3, e4⟩ := PBlk_unique h h'
  refine ⟨e1, List.ext_getElem e2 fun k h1 h2 => ?_, e3⟩
  rw [← Rn_at h1, ← Rn_at h2]
  exact e4 k h1
theorem pbl_len {t : List UInt8} {id : Int} {l : List Rw} {ok : Bool} (h : PBlk t id l.length (Rn l) ok) : l.length ≤ 6 := by
  rcases h with ⟨_, h, _⟩ | ⟨_, _, h, _⟩
  · exact (blkB_of h).2.2
  · omega

/-- No block is read. -/
theorem PBPost.no {s : ByteArray} {w w' : World} (h : ∀ id n R, blkB id n R = true → s.data.toList ≠ fmtB id n R) (hb : Below w.heap.size w w') : PBPost s w (.returned (.tuple #[.agg #[.int .i64 0, .slice none 0 0], .bool false])) w' :=
  ⟨0, [], false, .slice none 0 0, [], .inr ⟨rfl, rfl, rfl, h⟩, rfl, .inl ⟨rfl, rfl, .inl rfl⟩, (fun k hk => by cases hk), List.nodup_nil, hb⟩

set_option maxRecDepth 8000 in
set_option maxHeartbeats 6400000 in
theorem spec_pb_ab (s : ByteArray) (w : World) (hs : s.size ≤ 1048576) (p0 : List UInt8) (ps : List (List UInt8)) (hp : pieces 32 s.data.toList = p0 :: ps) (h : p0.length < 2 ∨ 6 < ps.length) :
    Calls Tryd.prog 21 #[.string s] w (PBPost s w) := by
  have AN : Hid (∀ id n R, blkB id n R = true → s.data.toList ≠ fmtB id n R) := (show ∀ id n R, blkB id n R = true → s.data.toList ≠ fmtB id n R from by
    rcases h with h | h
    · exact pb_short hp h
    · exact pb_many hp h)
  have hl : s.data.toList.length = s.size := by simp
  have hpl := pieces_mem_len 32 s.data.toList p0 (by rw [hp]; simp)
  have hlen := pieces_len 32 s.data.toList
  rw [hp, List.length_cons] at hlen
  have C1 := Lib.hid (fun w => spec_cut s 32 w hs)
  have HP := Lib.hid hp
  have hpI : (p0.length : Int) ≤ 1048576 := by omega
  have hmI : (ps.length : Int) ≤ 1048576 := by omega
  by_cases h2 : p0.length < 2
  · have h2d : decide ((p0.length : Int) < 2) = true := decide_eq_true (by omega)
    clear hp hl hpl hlen h
    go_enter Tryd.func21, Tryd.ntmps21
    go_wp2_with fail
    have K0 := (Kept.start w).alloc2 (.int .i64 0) (.slice none 0 0) 39 _ rfl
    refine (C1.out _).mono ?_
    rintro e w1 ⟨v1, rfl, hS, hb⟩
    rw [HP.out] at hS
    obtain ⟨g1, cap1, hv, hg1, hlt1, hcap1, hcell⟩ := hS.form (by simp)
    have K1 := K0.step hb
    have c0 := (hcell 0 (by simp)).1
    simp only [List.getElem_cons_zero, List.length_cons] at c0 hv hcap1
    subst hv
    clear hS hcell hb K0
    have r0 := K1.get 0 rfl
    have r1 := K1.get 1 rfl
    have q0 := K1.fz 0 rfl
    have q1 := K1.fz 1 rfl
    have yy := K1.lt 0 rfl
    go_wp2
    exact bodyPost_ret (v := .tuple #[.agg #[.int .i64 0, .slice none 0 0], .bool false]) (by simp [results, Tryd.results21, go_sem, r0, r1, yy]) rfl (PBPost.no AN.out ((K1.1.setCell (Nat.le_refl _) _).setCell (Nat.le_refl _) _))
  · have h2d : decide ((p0.length : Int) < 2) = false := decide_eq_false (by omega)
    have h6 : 6 < ps.length := h.resolve_left h2
    have h6d : decide ((7 : Int) < (ps.length : Int) + 1) = true := decide_eq_true (by omega)
    clear hp hl hpl hlen h
    go_enter Tryd.func21, Tryd.ntmps21
    go_wp2_with fail
    have K0 := (Kept.start w).alloc2 (.int .i64 0) (.slice none 0 0) 39 _ rfl
    refine (C1.out _).mono ?_
    rintro e w1 ⟨v1, rfl, hS, hb⟩
    rw [HP.out] at hS
    obtain ⟨g1, cap1, hv, hg1, hlt1, hcap1, hcell⟩ := hS.form (by simp)
    have K1 := K0.step hb
    have c0 := (hcell 0 (by simp)).1
    simp only [List.getElem_cons_zero, List.length_cons] at c0 hv hcap1
    subst hv
    clear hS hcell hb K0
    have r0 := K1.get 0 rfl
    have r1 := K1.get 1 rfl
    have q0 := K1.fz 0 rfl
    have q1 := K1.fz 1 rfl
    have yy := K1.lt 0 rfl
    go_wp2
    exact bodyPost_ret (v := .tuple #[.agg #[.int .i64 0, .slice none 0 0], .bool false]) (by simp [results, Tryd.results21, go_sem, r0, r1, yy]) rfl (PBPost.no AN.out ((K1.1.setCell (Nat.le_refl _) _).setCell (Nat.le_refl _) _))

set_option maxRecDepth 8000 in
set_option maxHeartbeats 6400000 in
theorem spec_pb_c (s : ByteArray) (w : World) (hs : s.size ≤ 1048576) (p0 : List UInt8) (ps : List (List UInt8)) (hp : pieces 32 s.data.toList = p0 :: ps) (h2 : 2 ≤ p0.length) (h6 : ps.length ≤ 6) :
    Calls Tryd.prog 21 #[.string s] w (PBPost s w) := by
  have hl : s.data.toList.length = s.size := by simp
  have hpl := pieces_mem_len 32 s.data.toList p0 (by rw [hp]; simp)
  have hps : Hid (∀ k (hk : k < ps.length), (ps[k]).length ≤ 1048576) := (show ∀ k (hk : k < ps.length), (ps[k]).length ≤ 1048576 from fun k hk => by
    have := pieces_mem_len 32 s.data.toList ps[k] (by rw [hp]; simp)
    omega)
  have C1 := Lib.hid (fun w => spec_cut s 32 w hs)
  have ex : ((⟨p0.toArray⟩ : ByteArray).extract 1 p0.length).data.toList = p0.drop 1 := by
    rw [ByteArray.data_extract]
    simp [List.extract, List.take_of_length_le]
  have N1 := Lib.hid (fun w => spec_num ((⟨p0.toArray⟩ : ByteArray).extract 1 p0.length) w (by
    have h1 : ((⟨p0.toArray⟩ : ByteArray).extract 1 p0.length).data.toList.length ≤ 1048576 := by rw [ex, List.length_drop]; omega
    simpa [ByteArray.size] using h1))
  have EX := Lib.hid ex
  have sne : s.data.toList ≠ [] := fun h => by
    rw [h] at hp
    simp [pieces] at hp
    rw [hp.1] at h2
    simp at h2
  have HBAD : Hid (∀ k (hk : k < ps.length), PRow ps[k] 0 0 0 0 false false → ∀ id n R, blkB id n R = true → s.data.toList ≠ fmtB id n R) := (show ∀ k (hk : k < ps.length), PRow ps[k] 0 0 0 0 false false → ∀ id n R, blkB id n R = true → s.data.toList ≠ fmtB id n R from fun k hk h => pb_bad hp hk h)
  clear ex
  have HP := Lib.hid hp
  have hpI : (p0.length : Int) ≤ 1048576 := by omega
  have hp2 : (2 : Int) ≤ (p0.length : Int) := by omega
  have h2d : decide ((p0.length : Int) < 2) = false := decide_eq_false (by omega)
  have hmI : (ps.length : Int) ≤ 6 := by omega
  have h6d : decide ((7 : Int) < (ps.length : Int) + 1) = false := decide_eq_false (by omega)
  clear hp hl hpl
  go_enter Tryd.func21, Tryd.ntmps21
  go_wp2_with fail
  have K0 := (Kept.start w).alloc2 (.int .i64 0) (.slice none 0 0) 39 _ rfl
  refine (C1.out _).mono ?_
  rintro e w1 ⟨v1, rfl, hS, hb⟩
  rw [HP.out] at hS
  obtain ⟨g1, cap1, hv, hg1, hlt1, hcap1, hcell⟩ := hS.form (by simp)
  have K1 := K0.step hb
  have c0 := (hcell 0 (by simp)).1
  have HC := Lib.hid (show ∀ k (hk : k < ps.length), w1.cell? ⟨g1, k + 1, none⟩ = some (.string ⟨(ps[k]).toArray⟩) from fun k hk => by
    have := (hcell (k + 1) (by simp; omega)).1
    simpa using this)
  simp only [List.getElem_cons_zero, List.length_cons] at c0 hv hcap1
  subst hv
  clear hS hcell hb K0
  go_wp2_with fail
  refine (N1.out _).mono ?_
  rintro e w2 ⟨⟨d, hd, rfl⟩, hb⟩
  rw [EX.out] at hd
  have HD := Lib.hid (show NumAns (p0.drop 1) d from hd)
  have hdr := numAns_rng HD.out
  have K2 := K1.step hb
  have HC2 := Lib.hid (show g1 < w2.heap.size ∧ ∀ k (hk : k < ps.length), w2.cell? ⟨g1, k + 1, none⟩ = some (.string ⟨(ps[k]).toArray⟩) from ⟨Nat.lt_of_lt_of_le hlt1 hb.size, fun k hk => by rw [hb.cell (p := ⟨g1, k + 1, none⟩) hlt1]; exact HC.out k hk⟩)
  clear hd hb K1 c0 HC
  have HN : Hid (w.heap.size < w2.heap.size) := (show _ < _ from K2.lt 0 rfl)
  have KS : KO w2 (w2.alloc (.cells #[.int .i64 d, .slice none 0 0] 39)) (w2.heap.size + 1) [(⟨w2.heap.size, 0, none⟩, .int .i64 d), (⟨w2.heap.size, 1, none⟩, .slice none 0 0), (⟨w.heap.size, 0, none⟩, .int .i64 0), (⟨w.heap.size, 1, none⟩, .slice none 0 0)] (.slice none 0 0) [] := KO.start0 (K2.base.alloc2 _ _ _ _ rfl)
  have HKS := Lib.hid KS
  have HBW := Lib.hid K2.1
  clear KS K2
  go_wp2_with fail
  go_loopw [6] (fun iv wr => ∃ (L : List Rw) (n : Nat) (ao : Option Addr) (c : Nat), n = L.length ∧ iv = .int .i64 ((n : Int) + 1) ∧ n ≤ ps.length ∧ Hid (∀ j (hj : j < ps.length) (hj' : j < L.length), RdRow ps[j] L[j]) ∧ Hid (KO w2 wr (w2.heap.size + 1) [(⟨w2.heap.size, 0, none⟩, .int .i64 d), (⟨w2.heap.size, 1, none⟩, .slice ao n c), (⟨w.heap.size, 0, none⟩, .int .i64 0), (⟨w.heap.size, 1, none⟩, .slice none 0 0)] (.slice ao n c) L)) (fun iv _ => ps.length + 1 - (intOf iv).toNat)
  case atStart => exact ⟨[], 0, none, 0, rfl, rfl, Nat.zero_le _, (fun j hj hj' => by simp at hj'), HKS.out⟩
  case round =>
    obtain ⟨L, n, ao, c, rfl, rfl, hL, HA, HK⟩ := hrel
    obtain ⟨k, hk0⟩ : ∃ k, k = L.length := ⟨_, rfl⟩
    have hLI : (L.length : Int) ≤ 6 := by omega
    by_cases hlt : L.length < ps.length
    · have hltI : (L.length : Int) < (ps.length : Int) := by omega
      have hsd : decide ((L.length : Int) + 1 < (ps.length : Int) + 1) = true := decide_eq_true (by omega)
      have cS : wr.cell? ⟨g1, L.length + 1, none⟩ = some (.string ⟨(ps[L.length]).toArray⟩) := by
        rw [HK.out.1.1.cell (p := ⟨g1, L.length + 1, none⟩) HC2.out.1]; exact HC2.out.2 _ hlt
      have PR := Lib.hid (fun w => spec_pr ⟨(ps[L.length]).toArray⟩ w (by have := hps.out L.length hlt; show (ps[L.length]).toArray.size ≤ _; simp; omega))
      have HAB := Lib.hid (HBAD.out L.length hlt)
      have HRD := Lib.hid (fun (r : Rw) (h : RdRow ps[L.length] r) => (fun j (hj : j < ps.length) (hj' : j < (L ++ [r]).length) => by
        by_cases e : j < L.length
        · rw [List.getElem_append_left e]; exact HA.out j hj e
        · obtain rfl : j = L.length := by simp at hj'; omega
          simpa using h : ∀ j (hj : j < ps.length) (hj' : j < (L ++ [r]).length), RdRow ps[j] (L ++ [r])[j]))
      obtain ⟨pc, hpc⟩ : ∃ pc, pc = ps[L.length] := ⟨_, rfl⟩
      rw [← hpc] at cS PR HAB
      have HPC := Lib.hid hpc
      clear hpc
      go_wp2_with fail
      refine (PR.out _).mono ?_
      rintro e w5 ⟨⟨ri, rg, ry, rx, rnl, ok, hr, rfl⟩, hb⟩
      have K5 := Lib.hid (HK.out.step hb)
      cases ok
      · have AN := Lib.hid (HAB.out (by
          rcases hr with ⟨h, _⟩ | ⟨_, rfl, rfl, rfl, rfl, rfl, h⟩
          · cases h
          · exact .inr ⟨rfl, rfl, rfl, rfl, rfl, rfl, h⟩))
        have KX := (K5.out.1.from HBW.out).alloc5 (.int .i64 ri) (.int .i64 rg) (.int .i64 ry) (.int .i64 rx) (.bool rnl) 25 w5.heap.size rfl
        clear hb hr cS
        have r0 := KX.get 7 rfl
        have r1 := KX.get 8 rfl
        have q0 := KX.fz 7 rfl
        have q1 := KX.fz 8 rfl
        have yy := KX.lt 7 rfl
        go_wp2
        exact bodyPost_ret (v := .tuple #[.agg #[.int .i64 0, .slice none 0 0], .bool false]) (by simp [results, Tryd.results21, go_sem, r0, r1, yy]) rfl (PBPost.no AN.out ((KX.1.setCell (Nat.le_refl _) _).setCell (Nat.le_refl _) _))
      · have HR := Lib.hid (HRD.out ⟨ri, rg, ry, rx, rnl⟩ (by rw [← HPC.out]; exact hr))
        have KA := K5.out.alloc5 (.int .i64 ri) (.int .i64 rg) (.int .i64 ry) (.int .i64 rx) (.bool rnl) 25 w5.heap.size rfl
        have KB := Lib.hid (KA.alloc5 (.int .i64 ri) (.int .i64 rg) (.int .i64 ry) (.int .i64 rx) (.bool rnl) 25 (w5.heap.size + 1) (by simp))
        have b1 := KA.1.get 6 rfl
        have x0 := KA.1.get 0 rfl
        have x1 := KA.1.get 1 rfl
        have x2 := KA.1.get 2 rfl
        have x3 := KA.1.get 3 rfl
        have x4 := KA.1.get 4 rfl
        have SR := Lib.hid (SrcR.cells (r := ⟨ri, rg, ry, rx, rnl⟩) (c := 1) (KB.out.1.get 0 rfl) (KB.out.1.get 1 rfl) (KB.out.1.get 2 rfl) (KB.out.1.get 3 rfl) (KB.out.1.get 4 rfl))
        have hz5 : w2.heap.size < w5.heap.size := K5.out.1.lt 0 rfl
        clear hb hr cS KA
        go_wp2_with (first | (at_builtin; refine wpList_append_ko (W := w2) rfl _ _ rfl (w2.heap.size + 1) (.slice ao L.length c) (.slice (some ⟨w5.heap.size + 1, 0, none⟩) 1 1) _ L [⟨ri, rg, ry, rx, rnl⟩] rfl rfl KB.out SR.out ?_ ?_ ?_ ?_; (· simp only [List.length_cons, List.length_nil]; omega); (· omega); (· simp only [World.size_alloc]; omega); intro v' w6 KO6; obtain ⟨ao', c', hv'⟩ := KO6.2.1.shape; subst hv'; rw [show (L ++ [(⟨ri, rg, ry, rx, rnl⟩ : Rw)]).length = L.length + 1 by simp] at KO6; have y1 := KO6.1.get 11 rfl; have f1 := KO6.1.fz 11 rfl))
        have KO7 := KO.set (p := [(⟨w2.heap.size, 0, none⟩, .int .i64 d)]) (KO6.sub (l' := [(⟨w2.heap.size, 0, none⟩, .int .i64 d), (⟨w2.heap.size, 1, none⟩, .slice ao L.length c), (⟨w.heap.size, 0, none⟩, .int .i64 0), (⟨w.heap.size, 1, none⟩, .slice none 0 0)]) (by intro p9 hp9; simp only [List.mem_cons, List.not_mem_nil, or_false] at hp9; rcases hp9 with rfl | rfl | rfl | rfl <;> simp)) (.slice ao' (L.length + 1) c') (Nat.le_refl _) (Nat.lt_succ_self _) (by have := HN.out; simp only [List.cons_append, List.nil_append, List.mem_cons, List.not_mem_nil, or_false]; rintro c9 (rfl | rfl | rfl) <;> simp <;> omega)
        have HK7 := Lib.hid KO7
        clear KO7 KO6 b1 x0 x1 x2 x3 x4 y1 f1
        go_wp2
        go_roundw
        case rel => exact ⟨L ++ [(⟨ri, rg, ry, rx, rnl⟩ : Rw)], L.length + 1, ao', c', by simp, int_eq (by omega), by omega, HR, HK7⟩
        case measure => simp [intOf]; omega
    · have hsd : decide ((L.length : Int) + 1 < (ps.length : Int) + 1) = false := decide_eq_false (by omega)
      have hLe := Lib.hid (show L.length = ps.length by omega)
      obtain ⟨fp, hrep, hfp, hnd⟩ := HK.out.2.1.rep
      obtain ⟨ao1, c1, e1, _, hV⟩ := rows_open hrep
      simp only [Value.slice.injEq, true_and] at e1
      obtain ⟨rfl, rfl⟩ := e1
      have HV := Lib.hid hV
      have FF := Lib.hid (fun w hV => spec_fbV d ao L.length c (Rn L) w (by omega) hV)
      have HF := Lib.hid (fun hne => pb_no HP.out HD.out hLe.out HA.out (R := Rn L) (fun k hk => Rn_at hk) hne)
      have HY : Hid (s.data.toList = fmtB d L.length (Rn L) → PBlk s.data.toList d L.length (Rn L) true) := (show _ → _ from fun h => .inl ⟨rfl, by
        cases hbk : blkB d L.length (Rn L)
        · rw [fmtB_no hbk] at h; exact absurd h sne
        · rfl, h⟩)
      obtain ⟨fl, hfl⟩ : ∃ fl, fl = fmtB d L.length (Rn L) := ⟨_, rfl⟩
      rw [← hfl] at FF HF HY
      clear hfl hV
      have b0 := HK.out.1.get 0 rfl
      have b1 := HK.out.1.get 1 rfl
      have HREP := Lib.hid hrep
      clear hrep
      go_wp2_with fail
      refine (FF.out _ HV.out).mono ?_
      rintro e w5 ⟨rfl, hb⟩
      have K5 := (HK.out.1.step hb).from HBW.out
      have R5 := Lib.hid (HREP.out.step hb)
      have HFP := Lib.hid hfp
      clear hb b0 b1 hfp
      have b0 := K5.get 0 rfl
      have b1 := K5.get 1 rfl
      have r0 := K5.get 2 rfl
      have r1 := K5.get 3 rfl
      have q0 := K5.fz 2 rfl
      have q1 := K5.fz 3 rfl
      have yy := K5.lt 2 rfl
      by_cases hq : s.data.toList = fl
      · have q : (fl == s.toList) = true := by rw [eq_bytes]; exact decide_eq_true hq
        have AN := Lib.hid (HY.out hq)
        clear hq
        have K6 := (K5.sub (l' := [(⟨w.heap.size, 0, none⟩, .int .i64 0), (⟨w.heap.size, 1, none⟩, .slice none 0 0)]) (by intro p9 hp9; simp only [List.mem_cons, List.not_mem_nil, or_false] at hp9; rcases hp9 with rfl | rfl <;> simp)).set2 (.int .i64 d) (.slice ao L.length c) (Nat.le_refl _) (by simp)
        have R6 := Lib.hid ((R5.out.set ⟨w.heap.size, 0, none⟩ (.int .i64 d) (fun k hk => by have := HFP.out k hk; have := HN.out; simp only; omega)).set ⟨w.heap.size, 1, none⟩ (.slice ao L.length c) (fun k hk => by have := HFP.out k hk; have := HN.out; simp only; omega))
        have HFW := Lib.hid (show ∀ k ∈ fp, w.heap.size ≤ k from fun k hk => by have := HFP.out k hk; have := HN.out; omega)
        have m0 := K6.get 0 rfl
        have m1 := K6.get 1 rfl
        have HK6 := Lib.hid K6.1
        clear K6
        go_wp2
        exact bodyPost_ret (v := .tuple #[.agg #[.int .i64 d, .slice ao L.length c], .bool true]) (by simp [results, Tryd.results21, go_sem, m0, m1, yy]) rfl ⟨d, L, true, _, fp, AN.out, rfl, R6.out, HFW.out, hnd, HK6.out⟩
      · have q : (fl == s.toList) = false := by rw [eq_bytes]; exact decide_eq_false hq
        have AN := Lib.hid (HF.out hq)
        clear hq
        go_wp2
        exact bodyPost_ret (v := .tuple #[.agg #[.int .i64 0, .slice none 0 0], .bool false]) (by simp [results, Tryd.results21, go_sem, r0, r1, yy]) rfl (PBPost.no AN.out ((K5.1.setCell (Nat.le_refl _) _).setCell (Nat.le_refl _) _))

theorem spec_pb (s : ByteArray) (w : World) (hs : s.size ≤ 1048576) :
    Calls Tryd.prog 21 #[.string s] w (PBPost s w) := by
  obtain ⟨p0, ps, hp⟩ : ∃ p0 ps, pieces 32 s.data.toList = p0 :: ps := by
    cases h : pieces 32 s.data.toList with
    | nil => have := (pieces_len 32 s.data.toList).1; rw [h] at this; simp at this
    | cons p0 ps => exact ⟨p0, ps, rfl⟩
  by_cases h2 : p0.length < 2
  · exact spec_pb_ab s w hs p0 ps hp (.inl h2)
  · by_cases h6 : 6 < ps.length
    · exact spec_pb_ab s w hs p0 ps hp (.inr h6)
    · exact spec_pb_c s w hs p0 ps hp (by omega) (by omega)
end Go.Proofs.YtndebdimjlfepaaDoor
