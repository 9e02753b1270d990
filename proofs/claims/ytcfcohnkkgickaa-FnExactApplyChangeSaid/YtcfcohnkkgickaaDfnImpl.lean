/-
  The walks over the project's performing of a retention (slices.DeleteFunc with a function literal).
-/
import Derived.Test.YtcfcohnkkgickaaRows
import Derived.Test.YtcfcohnkkgickaaDlPlain
import Derived.Test.YtcfcohnkkgickaaMgB
import Derived.Test.YtcfcohnkkgickaaIvcImpl
namespace Go.Proofs.Ytcfcohnkkgickaa
open Go.RowKit Num

set_option maxRecDepth 8000 in
theorem del_lit (bid : Int) (ro : Option Addr) (rn rc gc : Nat) (b : Int) (w : World) (hc : w.cell? ⟨gc, 1, none⟩ = some (.int .i64 b)) :
    Calls Try.prog 182 #[.agg #[.int .i64 bid, .slice ro rn rc], .pointer (some ⟨gc, 0, none⟩)] w fun e w' => e = .returned (.bool (decide (bid < b))) ∧ Below w.heap.size w w' := by
  have b1 := (Below.refl w.heap.size w).alloc (Nat.le_refl _) (.cells #[.int .i64 bid, .slice ro rn rc] 80)
  have c1 := (b1.cell (p := ⟨gc, 1, none⟩) (World.block_lt_of_cell? w _ hc)).trans hc
  go_enter Try.func182, Try.ntmps182
  go_wp2
  go_ret
  exact ⟨rfl, b1⟩

/-- None of the first k blocks has a lower ID. -/
def NoLow (b : Int) (l : List Blk) (k : Nat) : Prop := ∀ j, j < k → ¬ (Bn l j).id < b
set_option maxRecDepth 8000 in
set_option maxHeartbeats 3200000 in
theorem idx_del (b : Int) (gc : Nat) (ao : Option Addr) (n cap : Nat) (l : List Blk) (w : World) (hl : l.length = n) (hn : n ≤ 1048576) (hV : BlksVal w ao l) (hc : w.cell? ⟨gc, 1, none⟩ = some (.int .i64 b)) :
    Calls Try.prog 167 #[.slice ao n cap, .func (.func 182) #[] #[.pointer (some ⟨gc, 0, none⟩)]] w (FirstPost (fun k => (Bn l k).id < b) n w) := by
  have HV := Lib.hid hV
  have HL := Lib.hid hl
  have HC := Lib.hid hc
  clear hV hl
  have hnI : (n : Int) ≤ 1048576 := by omega
  have hgc : gc < w.heap.size := World.block_lt_of_cell? w _ hc
  clear hc
  go_enter Try.func167, Try.ntmps167
  go_wp2_with fail
  go_loopw [8] (fun iv wr => ∃ k : Nat, k ≤ n ∧ iv = .int .i64 k ∧ Hid (NoLow b l k) ∧ Hid (Below w.heap.size w wr)) (fun iv _ => n - (intOf iv).toNat)
  case atStart => exact ⟨0, Nat.zero_le _, rfl, (fun j hj => by omega), Below.refl _ _⟩
  case round =>
    obtain ⟨k, hk, rfl, HA, HB⟩ := hrel
    by_cases hlt : k < n
    · have hkI : (k : Int) < (n : Int) := by omega
      obtain ⟨g, rfl, hg, hBk⟩ := (HV.out.below HB.out).head HL.out (by omega)
      obtain ⟨rao, rcap, c0, c1, _⟩ := hBk k hlt
      have cc := Lib.hid ((HB.out.cell (p := ⟨gc, 1, none⟩) hgc).trans HC.out)
      obtain ⟨bid, hbid⟩ : ∃ b, b = (Bn l k).id := ⟨_, rfl⟩
      rw [← hbid] at c0
      have HI := Lib.hid hbid
      clear hBk hbid
      go_wp2_with fail
      refine (del_lit bid _ _ _ gc b _ cc.out).mono ?_
      rintro e w1 ⟨rfl, hb⟩
      have HB1 := Lib.hid (HB.out.trans (hb.mono HB.out.size))
      clear hb c0 c1
      by_cases he : bid < b
      · have q : decide (bid < b) = true := decide_eq_true he
        have AN := Lib.hid (show FirstAns (fun k => (Bn l k).id < b) n (k : Int) from .inl ⟨k, hlt, by show (Bn l k).id < b; rw [← HI.out]; exact he, HA.out, rfl⟩)
        clear he
        go_wp2
        go_ret
        exact ⟨⟨_, AN.out, rfl⟩, HB1.out⟩
      · have q : decide (bid < b) = false := decide_eq_false he
        have HN := Lib.hid (show NoLow b l (k + 1) from fun j hj => by
          by_cases h : j < k
          · exact HA.out j h
          · obtain rfl : j = k := by omega
            rw [← HI.out]; exact he)
        clear he
        go_wp2
        go_roundw
        case rel => exact ⟨k + 1, by omega, by go_num, HN, HB1⟩
        case measure => simp [intOf]; omega
    · obtain rfl : k = n := by omega
      have hsd : decide ((k : Int) < (k : Int)) = false := decide_eq_false (by omega)
      go_wp2
      go_ret
      exact ⟨⟨-1, .inr ⟨HA.out, rfl⟩, rfl⟩, HB.out⟩

/-- The blocks that stay. -/
def stay (b : Int) (l : List Blk) : List Blk := l.filter fun x => decide (b ≤ x.id)
theorem stay_all {b : Int} {l : List Blk} (h : ∀ j, j < l.length → ¬ (Bn l j).id < b) : stay b l = l := by
  unfold stay
  rw [List.filter_eq_self]
  intro x hx
  obtain ⟨j, hj, rfl⟩ := List.mem_iff_getElem.1 hx
  have := h j hj
  rw [Bn_at hj] at this
  exact decide_eq_true (by omega)
theorem stay_take_yes {b : Int} {l : List Blk} {k : Nat} (hk : k < l.length) (h : ¬ (Bn l k).id < b) : stay b (l.take (k + 1)) = stay b (l.take k) ++ [⟨(Bn l k).id, (Bn l k).rows⟩] := by
  unfold stay
  rw [← List.take_append_getElem hk, List.filter_append]
  rw [Bn_at hk] at h ⊢
  simp only [List.filter_cons, List.filter_nil]
  rw [if_pos (decide_eq_true (by omega))]
theorem stay_take_no {b : Int} {l : List Blk} {k : Nat} (hk : k < l.length) (h : (Bn l k).id < b) : stay b (l.take (k + 1)) = stay b (l.take k) := by
  unfold stay
  rw [← List.take_append_getElem hk, List.filter_append]
  rw [Bn_at hk] at h
  simp only [List.filter_cons, List.filter_nil]
  rw [if_neg (by simp; omega), List.append_nil]

/-- What stands in block g while blocks are deleted: those that stay among the first j, then those from number j on. -/
def DfInv (W w : World) (g n : Nat) (l : List Blk) (j : Nat) (A : List Blk) (f : List Nat) : Prop :=
  Chg (g :: f) W w ∧ OwnBlk w g (n * 2) ∧ ∃ fa fb, Elems blkTy w g 0 A fa ∧ Elems blkTy w g j (l.drop j) fb ∧ (g :: (fa ++ fb)).Nodup ∧ ∀ x ∈ fa ++ fb, x ∈ f
theorem DfInv.step {W w w' : World} {g n : Nat} {l : List Blk} {j : Nat} {A : List Blk} {f : List Nat} (h : DfInv W w g n l j A f) (hb : Below w.heap.size w w') : DfInv W w' g n l j A f := by
  obtain ⟨h1, h2, fa, fb, h3, h4, h5, h6⟩ := h
  exact ⟨h1.step hb, h2.keep (hb.block g h2.1), fa, fb, h3.step h2.1 hb, h4.step h2.1 hb, h5, h6⟩
theorem drop_cons {l : List Blk} {j : Nat} (hj : j < l.length) : l.drop j = Bn l j :: l.drop (j + 1) := by
  rw [Bn_at hj]; exact List.drop_eq_getElem_cons hj
/-- The next block, to be read. -/
theorem DfInv.next {W w : World} {g n : Nat} {l : List Blk} {j : Nat} {A : List Blk} {f : List Nat} (h : DfInv W w g n l j A f) (hj : j < l.length) : ∃ ro rc, w.cell? ⟨g, j * 2, none⟩ = some (.int .i64 (Bn l j).id) ∧ w.cell? ⟨g, j * 2 + 1, none⟩ = some (.slice ro (Bn l j).rows.length rc) := by
  obtain ⟨h1, h2, fa, fb, h3, h4, h5, h6⟩ := h
  rw [drop_cons hj] at h4
  obtain ⟨cs, f1, f2, rfl, hc, ⟨v, rfl, hs⟩, _⟩ := h4
  obtain ⟨ro, rc, rfl⟩ := hs.val
  exact ⟨ro, rc, hc 0 (by simp), hc 1 (by simp)⟩
/-- It is deleted. -/
theorem DfInv.drop {W w : World} {g n : Nat} {l : List Blk} {j : Nat} {A : List Blk} {f : List Nat} (h : DfInv W w g n l j A f) (hj : j < l.length) : DfInv W w g n l (j + 1) A f := by
  obtain ⟨h1, h2, fa, fb, h3, h4, h5, h6⟩ := h
  rw [drop_cons hj] at h4
  obtain ⟨cs, f1, f2, rfl, hc, ⟨v, rfl, hs⟩, h4⟩ := h4
  refine ⟨h1, h2, fa, f2, h3, h4, ?_, fun x hx => h6 x (by simp only [List.mem_append] at hx ⊢; rcases hx with hx | hx; exact .inl hx; exact .inr (.inr hx))⟩
  refine h5.sublist ?_
  exact List.Sublist.cons_cons _ (List.Sublist.append (List.Sublist.refl _) (List.sublist_append_right _ _))
/-- It stays: it is written behind those that stay. -/
theorem DfInv.put {W w : World} {g n : Nat} {l : List Blk} {j : Nat} {A : List Blk} {f : List Nat} (h : DfInv W w g n l j A f) (hj : j < l.length) (hn : l.length = n) (hA : A.length < j) {v : Value} (hv : w.cell? ⟨g, j * 2 + 1, none⟩ = some v) :
    DfInv W ((w.setCell ⟨g, A.length * 2, none⟩ (.int .i64 (Bn l j).id)).setCell ⟨g, A.length * 2 + 1, none⟩ v) g n l (j + 1) (A ++ [⟨(Bn l j).id, (Bn l j).rows⟩]) f := by
  obtain ⟨h1, h2, fa, fb, h3, h4, h5, h6⟩ := h
  rw [drop_cons hj] at h4
  obtain ⟨cs, f1, f2, rfl, hc, ⟨v', rfl, hs⟩, h4⟩ := h4
  have e1 : w.cell? ⟨g, j * 2 + 1, none⟩ = some v' := hc 1 (by simp)
  rw [hv] at e1
  obtain rfl := Option.some.inj e1
  have hnd := List.nodup_cons.1 h5
  have ga : g ∉ fa := fun e => hnd.1 (by simp [e])
  have g1 : g ∉ f1 := fun e => hnd.1 (by simp [e])
  have g2 : g ∉ f2 := fun e => hnd.1 (by simp [e])
  have o1 := h2.2 (A.length * 2) (by have : A.length < n := by omega
                                     omega)
  have h2' := h2.set ⟨g, A.length * 2, none⟩ (.int .i64 (Bn l j).id)
  have o2 := h2'.2 (A.length * 2 + 1) (by have : A.length < n := by omega
                                          omega)
  refine ⟨(h1.set (by simp) _).set (by simp) _, h2'.set _ _, fa ++ f1, f2, ?_, ?_, by rw [List.append_assoc]; exact h5, fun x hx => h6 x (by rw [List.append_assoc] at hx; exact hx)⟩
  · refine Elems.snoc (x := ⟨(Bn l j).id, (Bn l j).rows⟩) (cs := [.int .i64 (Bn l j).id, v]) ((h3.set (by rw [Nat.zero_add]; exact Nat.le_refl _) ga).set (by rw [Nat.zero_add]; show A.length * 2 ≤ _; omega) ga) (fun q hq => ?_) ⟨v, rfl, (hs.set ⟨g, A.length * 2, none⟩ _ (fun k hk e => g1 (by have e' : k = g := e; rw [← e']; exact hk))).set ⟨g, A.length * 2 + 1, none⟩ _ (fun k hk e => g1 (by have e' : k = g := e; rw [← e']; exact hk))⟩
    rw [Nat.zero_add]
    match q, hq with
    | 0, _ =>
      show ((w.setCell ⟨g, A.length * 2, none⟩ (.int .i64 (Bn l j).id)).setCell ⟨g, A.length * 2 + 1, none⟩ v).cell? ⟨g, A.length * 2 + 0, none⟩ = _
      rw [set_other (by omega)]
      exact set_same o1.1
    | 1, _ => exact set_same o2.1
    | q + 2, hq => exact absurd (show q + 2 < 2 from hq) (by omega)
  · exact (h4.set_fore (by show A.length * 2 < (j + 1) * 2; omega) g2).set_fore (by show A.length * 2 + 1 < (j + 1) * 2; omega) g2
/-- At the end the rest is cleared. -/
theorem DfInv.done {W w : World} {g n cap : Nat} {l : List Blk} {A : List Blk} {f : List Nat} (h : DfInv W w g n l n A f) (hA : A.length ≤ n) (hc : n ≤ cap) (vs : List Value) :
    ∃ fp', SliceRep blkTy (w.setCells g (A.length * 2) vs) (.slice (some ⟨g, 0, none⟩) A.length cap) A fp' ∧ fp'.Nodup ∧ (∀ x ∈ fp', x ∈ g :: f) ∧ Chg (g :: f) W (w.setCells g (A.length * 2) vs) := by
  obtain ⟨h1, h2, fa, fb, h3, h4, h5, h6⟩ := h
  have hnd := List.nodup_cons.1 h5
  have ga : g ∉ fa := fun e => hnd.1 (by simp [e])
  have hch := Chg.setCells (fp := g :: f) (g := g) (by simp) vs (A.length * 2) w h1
  by_cases h0 : A.length = 0
  · have hA0 := List.eq_nil_of_length_eq_zero h0
    subst hA0
    exact ⟨[], .inl ⟨rfl, rfl, .inr ⟨g, cap, rfl⟩⟩, List.nodup_nil, (fun x hx => by cases hx), hch⟩
  · have h3' := Elems.setCells vs (A.length * 2) w h3 (by rw [Nat.zero_add]; exact Nat.le_refl _) ga
    have h2' := OwnBlk.setCells vs (A.length * 2) w h2
    refine ⟨g :: fa, .inr ⟨g, cap, fa, rfl, by omega, ⟨h2'.1, fun q hq => h2'.2 q (by have : q < A.length * 2 := hq; omega)⟩, h3', rfl⟩, List.nodup_cons.2 ⟨ga, (List.nodup_append.1 hnd.2).1⟩, fun x hx => ?_, hch⟩
    rcases List.mem_cons.1 hx with rfl | hx
    · simp
    · exact List.mem_cons_of_mem _ (h6 x (by simp [hx]))

/-- What deleting leaves. -/
def DfPost (b : Int) (l : List Blk) (fp : List Nat) (w : World) (e : Ending) (w' : World) : Prop := ∃ v' fp', e = .returned v' ∧ SliceRep blkTy w' v' (stay b l) fp' ∧ fp'.Nodup ∧ (∀ x ∈ fp', x ∈ fp) ∧ Chg fp w w'
theorem take_none {l : List Blk} {k : Nat} {b : Int} (h : NoLow b l k) (hk : k ≤ l.length) : stay b (l.take k) = l.take k := by
  refine stay_all fun j hj => ?_
  rw [List.length_take] at hj
  have := h j (by omega)
  rw [Bn_at (by omega)] at this
  rw [Bn_at (by rw [List.length_take]; omega), List.getElem_take]
  exact this

set_option maxRecDepth 8000 in
set_option maxHeartbeats 6400000 in
theorem impl_df (b : Int) (gc : Nat) (v : Value) (l : List Blk) (fp : List Nat) (w : World) (hn : l.length ≤ 1048576) (hS : SliceRep blkTy w v l fp) (hnd : fp.Nodup) (hc : w.cell? ⟨gc, 1, none⟩ = some (.int .i64 b)) (hgc : gc ∉ fp) :
    Calls Try.prog 181 #[v, .func (.func 182) #[] #[.pointer (some ⟨gc, 0, none⟩)]] w (DfPost b l fp w) := by
  obtain ⟨ao, cap, rfl, hcap, hV⟩ := blks_open hS
  have HS := Lib.hid hS
  have HC := Lib.hid hc
  have ID := Lib.hid (fun w hV hc => idx_del b gc ao l.length cap l w rfl hn hV hc)
  have HV := Lib.hid hV
  have hgl : gc < w.heap.size := World.block_lt_of_cell? w _ hc
  obtain ⟨n, hn'⟩ : ∃ n, n = l.length := ⟨_, rfl⟩
  have HN := Lib.hid hn'
  rw [← hn'] at ID hn hcap HS ⊢
  have hnI : (n : Int) ≤ 1048576 := by omega
  have hcI : (n : Int) ≤ (cap : Int) := by omega
  have hzv : ∀ w, (zeroValue 80).run Try.prog w = .ok (.agg #[.int .i64 0, .slice none 0 0]) w := fun w => by kernel_rfl
  have HZ := Lib.hid hzv
  clear hS hc hV hn' hzv
  go_enter Try.func181, Try.ntmps181
  go_wp2_with fail
  refine (ID.out _ HV.out HC.out).mono ?_
  rintro e w1 ⟨⟨i0, hi0, rfl⟩, hb⟩
  have HI := Lib.hid hi0
  have HB1 := Lib.hid hb
  have hr0 := hi0.rng
  obtain ⟨hr1, hr2⟩ := hr0
  clear hi0 hb
  by_cases h0 : i0 = -1
  · have q : (i0 == -1) = true := by rw [h0]; rfl
    have AN := Lib.hid (show stay b l = l from by
      refine stay_all ?_
      rcases HI.out with ⟨k, hk, _, _, e⟩ | ⟨h, _⟩
      · omega
      · intro j hj; exact h j (by rw [HN.out]; exact hj))
    have H0 := Lib.hid h0
    clear h0
    go_wp2
    go_ret
    exact ⟨_, fp, rfl, by rw [AN.out]; exact HS.out.step HB1.out, hnd, fun x hx => hx, Chg.of HB1.out⟩
  · have q : (i0 == -1) = false := beq_eq_false_iff_ne.2 h0
    obtain ⟨k0, hk0⟩ : ∃ k0 : Nat, i0 = (k0 : Int) := ⟨i0.toNat, by omega⟩
    subst hk0
    have hk0n : k0 < n := by omega
    have hnl : n = l.length := HN.out
    rcases HS.out.step HB1.out with ⟨hl0, _, _⟩ | ⟨g, cap', f, e9, hc9, ho9, he9, hf9⟩
    · rw [hl0] at hnl; simp at hnl; omega
    simp only [Value.slice.injEq] at e9
    obtain ⟨rfl, hz1, rfl⟩ := e9
    subst hf9
    rw [← hnl] at ho9
    have hnl0 : NoLow b l k0 ∧ (Bn l k0).id < b := by
      rcases HI.out with ⟨k, hk, h1, h2, e⟩ | ⟨_, h⟩
      · have : k = k0 := by omega
        subst this
        exact ⟨h2, h1⟩
      · omega
    have hst : stay b (l.take (k0 + 1)) = l.take k0 := by rw [stay_take_no (by omega) hnl0.2, take_none hnl0.1 (by omega)]
    have hD : DfInv w w1 g n l (k0 + 1) (stay b (l.take (k0 + 1))) f := by
      rw [hst]
      obtain ⟨cs, fa, fk, fb, e, _, _, ha, hb⟩ := he9.split k0 (by omega)
      rw [Nat.zero_add] at hb
      refine ⟨Chg.of HB1.out, ho9, fa, fb, ha, hb, ?_, fun x hx => by rw [e]; simp only [List.mem_append] at hx ⊢; rcases hx with h | h; exact .inl h; exact .inr (.inr h)⟩
      rw [e] at hnd
      exact hnd.sublist (List.Sublist.cons_cons _ (List.Sublist.append (List.Sublist.refl _) (List.sublist_append_right _ _)))
    have HD := Lib.hid hD
    have HM0 := Lib.hid (show k0 = (stay b (l.take (k0 + 1))).length by rw [hst, List.length_take]; omega)
    clear hD hst hnl0 hnl hz1 ho9 he9 hc9 h0
    have hkI0 : (k0 : Int) ≤ 1048576 := by omega
    go_wp2_with fail
    go_loopw [5, 6] (fun iv jv wr => ∃ (m j : Nat), iv = .int .i64 (m : Int) ∧ jv = .int .i64 (j : Int) ∧ m < j ∧ j ≤ n ∧ Hid (m = (stay b (l.take j)).length) ∧ Hid (DfInv w wr g n l j (stay b (l.take j)) f)) (fun _ jv _ => n - (intOf jv).toNat)
    case atStart => exact ⟨k0, k0 + 1, rfl, by go_num, by omega, by omega, HM0, HD⟩
    case round =>
      obtain ⟨m, j, rfl, rfl, hmj, hj, HM, HI2⟩ := hrel
      clear HD HM0
      have hjI : (j : Int) ≤ 1048576 := by omega
      by_cases hlt : j < n
      · have hltI : (j : Int) < (n : Int) := by omega
        have hmI : (m : Int) < (n : Int) := by omega
        obtain ⟨ro, rc, c0, c1⟩ := HI2.out.next (j := j) (by rw [← HN.out]; exact hlt)
        have cc := Lib.hid ((World.cell?_of_block (a := ⟨gc, 1, none⟩) (HI2.out.1.block gc hgl hgc)).trans HC.out)
        obtain ⟨bid, hbid⟩ : ∃ bid, bid = (Bn l j).id := ⟨_, rfl⟩
        obtain ⟨rm, hrm⟩ : ∃ rm, rm = (Bn l j).rows.length := ⟨_, rfl⟩
        rw [← hbid] at c0
        rw [← hrm] at c1
        have HID := Lib.hid hbid
        have HRM := Lib.hid hrm
        have C1 := Lib.hid c1
        have bz := (Below.refl wr.heap.size wr).alloc (Nat.le_refl _) (.cells #[.int .i64 bid, .slice ro rm rc] 80)
        have cc2 := Lib.hid ((bz.cell (p := ⟨gc, 1, none⟩) (World.block_lt_of_cell? wr _ cc.out)).trans cc.out)
        have HBZ := Lib.hid bz
        clear hbid hrm bz
        go_wp2_with fail
        refine (del_lit bid _ _ _ gc b _ cc2.out).mono ?_
        rintro e w5 ⟨rfl, hb⟩
        have HB5 := Lib.hid (below_via hb HBZ.out)
        have x0 := (hb.cell (p := ⟨wr.heap.size, 0, none⟩) (by simp)).trans (show (wr.alloc (.cells #[.int .i64 bid, .slice ro rm rc] 80)).cell? ⟨wr.heap.size, 0, none⟩ = some (.int .i64 bid) by go_simp)
        have x1 := (hb.cell (p := ⟨wr.heap.size, 1, none⟩) (by simp)).trans (show (wr.alloc (.cells #[.int .i64 bid, .slice ro rm rc] 80)).cell? ⟨wr.heap.size, 1, none⟩ = some (.slice ro rm rc) by go_simp)
        have HI5 := Lib.hid (HI2.out.step HB5.out)
        clear hb c0 c1
        by_cases he : bid < b
        · have q9 : decide (bid < b) = true := decide_eq_true he
          have NX := Lib.hid (stay_take_no (l := l) (k := j) (b := b) (by rw [← HN.out]; exact hlt) (by rw [← HID.out]; exact he))
          clear he x0 x1
          go_wp2
          go_roundw
          case rel => exact ⟨m, j + 1, rfl, by go_num, by omega, by omega, by rw [NX.out]; exact HM, by rw [NX.out]; exact HI5.out.drop (by rw [← HN.out]; exact hlt)⟩
          case measure => simp [intOf]; omega
        · have q9 : decide (bid < b) = false := decide_eq_false he
          have NX := Lib.hid (stay_take_yes (l := l) (k := j) (b := b) (by rw [← HN.out]; exact hlt) (by rw [← HID.out]; exact he))
          have hcell := HI5.out.2.1.2
          obtain ⟨⟨u0, p0⟩, z0⟩ := hcell (m * 2) (by omega)
          obtain ⟨⟨u1, p1⟩, z1⟩ := hcell (m * 2 + 1) (by omega)
          have hP := HI5.out.put (j := j) (v := .slice ro rm rc) (by rw [← HN.out]; exact hlt) HN.out.symm (by rw [← HM.out]; exact hmj) ((HB5.out.cell (p := ⟨g, j * 2 + 1, none⟩) HI2.out.2.1.1).trans C1.out)
          rw [← HM.out, ← HID.out] at hP
          have HP := Lib.hid hP
          clear he hcell hP
          go_wp2
          go_roundw
          case rel => exact ⟨m + 1, j + 1, by go_num, by go_num, by omega, by omega, by rw [NX.out, List.length_append, ← HM.out]; rfl, by rw [NX.out, ← HID.out]; exact HP.out⟩
          case measure => simp [intOf]; omega
      · obtain rfl : j = n := by omega
        have hsd : decide ((j : Int) < (j : Int)) = false := decide_eq_false (by omega)
        have hcm : ¬ cap = m := by omega
        have i1 : (m : Int) ≤ (j : Int) := by omega
        have i2 : (m : Int) ≤ (cap : Int) := by omega
        have i3 : (0 : Int) ≤ (m : Int) := by omega
        have hcell := HI2.out.2.1.2
        have HT := Lib.hid (show ∀ q, q < (j - m) * 2 → (wr.cell? ⟨g, m * 2 + q, none⟩).isSome = true ∧ wr.frozen? ⟨g, m * 2 + q, none⟩ = false from fun q hq => by
          obtain ⟨⟨u, hu⟩, hz⟩ := hcell (m * 2 + q) (by omega)
          exact ⟨by rw [hu]; rfl, hz⟩)
        have hFin := HI2.out.done (cap := cap) (by rw [← HM.out]; omega) hcap (zBlks (j - m))
        rw [← HM.out] at hFin
        have ES := Lib.hid (show stay b (l.take j) = stay b l by rw [HN.out, List.take_length])
        have HF := Lib.hid hFin
        clear hcell hFin
        go_wp2_with (first | (refine wpList_clear_blks rfl (.tmp 38) rfl g (m * 2) (j - m) (cap - m) rfl (by omega) HZ.out HT.out ?_))
        go_ret
        obtain ⟨fp', r1, r2, r3, r4⟩ := HF.out
        exact ⟨_, fp', rfl, by rw [← ES.out]; exact r1, r2, r3, r4⟩
end Go.Proofs.Ytcfcohnkkgickaa
