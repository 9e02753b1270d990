/-
  The walks over the laws' own slices of blocks (toBlockS, eqBlockS).
-/
import Derived.Test.YtcfcohnkkgickaaRows
import Derived.Test.YtcfcohnkkgickaaTbRep
import Derived.Test.YtcfcohnkkgickaaBkOwn
import Derived.WalkKit
import Derived.WalkSpells
import Derived.WalkLawsBesides
import Derived.IntWalk
import Derived.OwnWalk
import Derived.Lib.Hide
import Derived.Deep.RegionHeld3
namespace Go.Proofs.Ytcfcohnkkgickaa
open Go.RowKit Num

theorem Try.infoBlk : (Try.prog.info? 80).map (fun i => (i.zero, i.size, i.bytes)) = some (some (.agg #[.int .i64 0, .slice none 0 0]), 2, 32) := by kernel_rfl

/-- Block number k of an argument. -/
def BlkAt (w : World) (a : Addr) (k : Nat) (b : Blk) : Prop :=
  ∃ (rao : Option Addr) (rn rcap : Nat) (R : Nat → Rw), w.cell? (a.add (k * 2)) = some (.int .i64 b.id) ∧ w.cell? ⟨(a.add (k * 2)).block, (a.add (k * 2)).off + 1, none⟩ = some (.slice rao rn rcap) ∧ RowsArg w rao rn R ∧ rn ≤ maxLen ∧ b.rows = lst rn R
/-- A slice of blocks that came in. -/
def BlksArg (w : World) (ao : Option Addr) (n : Nat) (B : Nat → Blk) : Prop := n = 0 ∨ ∃ x, ao = some x ∧ x.block < w.heap.size ∧ ∀ k, k < n → BlkAt w x k (B k)
theorem BlksArg.below {w w' : World} {ao : Option Addr} {n : Nat} {B : Nat → Blk} (h : BlksArg w ao n B) (hb : Below w.heap.size w w') : BlksArg w' ao n B := by
  rcases h with h | ⟨x, e, hx, h⟩
  · exact .inl h
  · refine .inr ⟨x, e, Nat.lt_of_lt_of_le hx hb.size, fun k hk => ?_⟩
    obtain ⟨rao, rn, rcap, R, h0, h1, h2, h3, h4⟩ := h k hk
    have hg : (x.add (k * 2)).block < w.heap.size := by rw [addr_block]; exact hx
    exact ⟨rao, rn, rcap, R, by rw [hb.cell hg]; exact h0, by rw [hb.cell (p := ⟨(x.add (k * 2)).block, (x.add (k * 2)).off + 1, none⟩) hg]; exact h1, h2.below hb, h3, h4⟩

/-- The first n blocks as a list. -/
def lstB (n : Nat) (B : Nat → Blk) : List Blk := (List.range n).map B
theorem lstB_len (n : Nat) (B : Nat → Blk) : (lstB n B).length = n := by unfold lstB; simp
theorem lstB_at (n : Nat) (B : Nat → Blk) (k : Nat) (hk : k < (lstB n B).length) : (lstB n B)[k] = B k := by
  have h : ∀ hk' : k < ((List.range n).map B).length, ((List.range n).map B)[k] = B k := fun hk' => by rw [List.getElem_map, List.getElem_range]
  exact h hk
theorem lstB_rows {n : Nat} {B : Nat → Blk} (h : ∀ k, k < n → (B k).rows.length ≤ 1048576) : ∀ k (hk : k < (lstB n B).length), (lstB n B)[k].rows.length ≤ 1048576 := fun k hk => by
  rw [lstB_at]; exact h k (by rwa [lstB_len] at hk)
theorem lstB_succ (n : Nat) (B : Nat → Blk) : lstB (n + 1) B = lstB n B ++ [B n] := by unfold lstB; rw [List.range_succ]; simp

theorem elemsTo_made {w w' : World} {n : Nat} {xs : List Value} (h : w'.ownsRow w.heap.size 80 2 (.slice (some ⟨w.heap.size, 0, none⟩) n n) n xs) (hg : w.grownBy w' none) : ElemsTo blkTy w w' w.heap.size n [] [] := by
  have h0 := h
  obtain ⟨hxs, ⟨hno, _⟩ | ⟨g, cap, cur, hv, _, hblk, hn, hcap, hsz, _⟩⟩ := h
  · cases hno
  · obtain ⟨rfl, rfl⟩ : w.heap.size = g ∧ n = cap := by simpa using hv
    have hlt : w.heap.size < w'.heap.size := (Array.getElem?_eq_some_iff.1 hblk).1
    refine ⟨⟨hg.os, hg.tape, hg.output, hg.size, fun j hj => hg.block j hj (by simp)⟩, Nat.le_refl _, ⟨hlt, fun j hj => ⟨?_, World.ownsRow.frozenAt h0 j⟩⟩, rfl, by simp, fun k hk => by cases hk⟩
    have hj' : j < n * 2 := hj
    rw [World.ownsRow.cellAt h0 j hj']
    exact ⟨_, List.getElem?_eq_getElem (by rw [hxs]; exact hj')⟩

theorem ElemsTo.put {W w : World} {g n : Nat} {l : List Blk} {f f' : List Nat} (h : ElemsTo blkTy W w g n l f) (hl : l.length < n) (id : Int) (v : Value) (rows : List Rw) (hs : SliceRep rowTy w v rows f') (hn : f'.Nodup) (hd : ∀ k ∈ f', k ∉ g :: f) (hW : ∀ k ∈ f', W.heap.size ≤ k) :
    ElemsTo blkTy W ((w.setCell ⟨g, l.length * 2, none⟩ (.int .i64 id)).setCell ⟨g, l.length * 2 + 1, none⟩ v) g n (l ++ [⟨id, rows⟩]) (f ++ f') := by
  have h1 := h.set (l.length * 2) (.int .i64 id) (Nat.le_refl _)
  have h2 := h1.set (l.length * 2 + 1) v (by show l.length * 2 ≤ _; omega)
  have hg : ∀ k ∈ f', k ≠ g := fun k hk e => hd k hk (by simp [e])
  refine h2.snoc (x := ⟨id, rows⟩) (cs := [.int .i64 id, v]) (fun j hj => ?_) ⟨v, rfl, (hs.set ⟨g, l.length * 2, none⟩ _ hg).set ⟨g, l.length * 2 + 1, none⟩ _ hg⟩ hn hd hW
  match j, hj with
  | 0, _ =>
    show ((w.setCell ⟨g, l.length * 2, none⟩ (.int .i64 id)).setCell ⟨g, l.length * 2 + 1, none⟩ v).cell? ⟨g, l.length * 2 + 0, none⟩ = _
    rw [set_other (by omega)]
    exact set_same (h.2.2.1.2 (l.length * 2) (by show l.length * 2 < n * 2; omega)).1
  | 1, _ =>
    exact set_same (h1.2.2.1.2 (l.length * 2 + 1) (by show l.length * 2 + 1 < n * 2; omega)).1
  | j + 2, hj => exact absurd (show j + 2 < 2 from hj) (by omega)

/-- What toBlockS leaves. -/
def ToBlks (n : Nat) (l : List Blk) (w : World) (e : Ending) (w' : World) : Prop :=
  ∃ f, e = .returned (.slice (some ⟨w.heap.size, 0, none⟩) n n) ∧ ElemsTo blkTy w w' w.heap.size n l f

set_option maxRecDepth 8000 in
set_option maxHeartbeats 3200000 in
theorem law_toBlks (ao : Option Addr) (n cap : Nat) (B : Nat → Blk) (w : World) (hn : n ≤ 1048576) (hrl : ∀ k, k < n → (B k).rows.length ≤ 1048576) (hA : BlksArg w ao n B) :
    Calls Try.prog 82 #[.slice ao n cap] w (ToBlks n (lstB n B) w) := by
  have HA : Hid (BlksArg w ao n B) := hA
  have HRL := Lib.hid hrl
  clear hA hrl
  have hnI : (n : Int) ≤ 1048576 := by omega
  obtain ⟨i0, hi, hx⟩ := Option.map_eq_some_iff.1 Try.infoBlk
  simp only [Prod.mk.injEq] at hx
  obtain ⟨hz0, hz1, hz2⟩ := hx
  go_enter Try.func82, Try.ntmps82
  go_wp2_with (first | (at_make; refine wpList_make_full _ rfl _ _ _ rfl w.heap.size 80 i0 _ 2 (by kernel_rfl) hi hz0 hz1 .i64 .i64 _ _ n rfl rfl (by simp) (by simp) (by rw [hz2]; omega) (by unfold maxLen; omega) (Nat.le_refl _) ?_; intro w1 hown hgr))
  have HM := Lib.hid (elemsTo_made hown hgr)
  clear hown hgr hi hz0 hz1 hz2
  go_loopw [4] (fun iv wr => ∃ (k : Nat) (f : List Nat), k ≤ n ∧ iv = .int .i64 k ∧ Hid (ElemsTo blkTy w wr w.heap.size n (lstB k B) f)) (fun iv _ => n - (intOf iv).toNat)
  case atStart => exact ⟨0, [], Nat.zero_le _, rfl, HM.out⟩
  case round =>
    obtain ⟨k, f, hk, rfl, HR⟩ := hrel
    by_cases hlt : k < n
    · have hkI : (k : Int) < (n : Int) := by omega
      rcases HA.out.below HR.out.1 with h0 | ⟨x, rfl, hxb, hrow⟩
      · omega
      · obtain ⟨rao, rn, rcap, R, c0, c1, hra, hrn, hbr⟩ := hrow k hlt
        have hrn' : rn ≤ 1048576 := by have := HRL.out k hlt; rw [hbr, lst_len] at this; exact this
        have HRA := Lib.hid hra
        have HBR := Lib.hid hbr
        clear hrow hra hbr
        go_wp2_with fail
        refine (law_toBlkO _ _ _ _ R _ hrn' HRA.out).mono ?_
        rintro e w2 ⟨g2, rfl, hs, hg2, hb⟩
        have H2 := HR.out.step hb
        have hcell := H2.2.2.1.2
        have hkk : (lstB k B).length = k := lstB_len k B
        obtain ⟨⟨v0, e0⟩, f0⟩ := hcell (k * 2) (by show k * 2 < n * 2; omega)
        obtain ⟨⟨v1, e1⟩, f1⟩ := hcell (k * 2 + 1) (by show k * 2 + 1 < n * 2; omega)
        have HP0 := H2.put (by rw [hkk]; exact hlt) (B k).id _ _ hs (by simp) (fun j hj e => by
          obtain rfl : j = g2 := List.mem_singleton.1 hj
          rcases List.mem_cons.1 e with e | e
          · have := HR.out.2.2.1.1; omega
          · have := HR.out.2.2.2.1.lt _ e; omega) (fun j hj => by
          obtain rfl : j = g2 := List.mem_singleton.1 hj
          exact Nat.le_trans HR.out.1.size hg2)
        rw [hkk, ← HBR.out] at HP0
        have HP := Lib.hid HP0
        clear HP0 hkk hcell H2 hs hb c0 c1
        go_wp2
        go_roundw
        case rel => exact ⟨k + 1, _, by omega, by go_num, by rw [lstB_succ]; exact HP.out⟩
        case measure => simp [intOf]; omega
    · obtain rfl : k = n := by omega
      have hsd : decide ((k : Int) < (k : Int)) = false := decide_eq_false (by omega)
      go_wp2
      go_ret
      exact ⟨f, rfl, HR.out⟩

theorem t4_keep {w w' : World} {a0 a1 a2 a3 : Addr} {v0 v1 v2 v3 : Value} (q : w.cell? a0 = some v0 ∧ w.cell? a1 = some v1 ∧ w.cell? a2 = some v2 ∧ w.cell? a3 = some v3) (hb : Below w.heap.size w w') : w'.cell? a0 = some v0 ∧ w'.cell? a1 = some v1 ∧ w'.cell? a2 = some v2 ∧ w'.cell? a3 = some v3 :=
  have k := fun (a : Addr) (v : Value) (h : w.cell? a = some v) => (hb.cell (World.block_lt_of_cell? w _ h)).trans h
  ⟨k _ _ q.1, k _ _ q.2.1, k _ _ q.2.2.1, k _ _ q.2.2.2⟩

set_option maxRecDepth 8000 in
set_option maxHeartbeats 6400000 in
theorem law_eqBlks (ao bo : Option Addr) (n c c' : Nat) (l : List Blk) (w : World) (hl : l.length = n) (hn : n ≤ 1048576) (hr : ∀ k (hk : k < l.length), l[k].rows.length ≤ 1048576) (hG : BlksVal w ao l) (hH : BlksVal w bo l) :
    Calls Try.prog 88 #[.slice ao n c, .slice bo n c'] w fun e w' => e = .returned (.bool true) ∧ Below w.heap.size w w' := by
  have HO := Lib.hid hG
  have HP := Lib.hid hH
  have HR := Lib.hid hr
  have HL := Lib.hid hl
  have hnI : (n : Int) ≤ 1048576 := by omega
  clear hG hH hr hl
  go_enter Try.func88, Try.ntmps88
  go_wp2_with fail
  go_loopw [5] (fun iv wr => ∃ k : Nat, k ≤ n ∧ iv = .int .i64 k ∧ Hid (Below w.heap.size w wr)) (fun iv _ => n - (intOf iv).toNat)
  case atStart => exact ⟨0, Nat.zero_le _, rfl, Below.refl _ _⟩
  case round =>
    obtain ⟨k, hk, rfl, HZ⟩ := hrel
    by_cases hlt : k < n
    · have hkI : (k : Int) < (n : Int) := by omega
      have hk' : k < l.length := by rw [HL.out]; exact hlt
      obtain ⟨g, rfl, hg, hA⟩ : ∃ g, ao = some ⟨g, 0, none⟩ ∧ g < wr.heap.size ∧ ∀ k (hk : k < l.length), BlkVal wr g k l[k] := (HO.out.below HZ.out).resolve_left (by omega)
      obtain ⟨h, rfl, hh, hB⟩ : ∃ h, bo = some ⟨h, 0, none⟩ ∧ h < wr.heap.size ∧ ∀ k (hk : k < l.length), BlkVal wr h k l[k] := (HP.out.below HZ.out).resolve_left (by omega)
      obtain ⟨ra, ca, a0, a1, a2⟩ := hA k hk'
      obtain ⟨rb, cb, b0, b1, b2⟩ := hB k hk'
      have A2 := Lib.hid a2
      have B2 := Lib.hid b2
      have hrl := HR.out k hk'
      obtain ⟨bk, hbk⟩ : ∃ bk, bk = l[k] := ⟨_, rfl⟩
      rw [← hbk] at a0 a1 A2 b0 b1 B2 hrl
      clear hA hB a2 b2 hbk
      go_wp2_with fail
      go_region_held3 (fun w' => w'.cell? ⟨g, k * 2, none⟩ = some (.int .i64 bk.id) ∧ w'.cell? ⟨g, k * 2 + 1, none⟩ = some (.slice ra bk.rows.length ca) ∧ w'.cell? ⟨h, k * 2, none⟩ = some (.int .i64 bk.id) ∧ w'.cell? ⟨h, k * 2 + 1, none⟩ = some (.slice rb bk.rows.length cb)) (first | assumption | exact ⟨a0, a1, b0, b1⟩ | exact t4_keep (by assumption) (by assumption)) (first | (go_simp; go_at_call 53; (with_reducible refine (law_eqBlkV bk.id ra rb bk.rows.length ca cb (Rn bk.rows) _ hrl ?_ ?_).mono ?_); (exact A2.out.below (Below.refl _ _).drew); (exact B2.out.below (Below.refl _ _).drew); rintro e9 w9 ⟨rfl, hb⟩))
      all_goals
        have HB := Lib.hid (HZ.out.trans (((Below.refl _ _).drew.trans hb).mono HZ.out.size))
        go_wp2
        go_roundw
        case rel => exact ⟨k + 1, by omega, by go_num, HB.out⟩
        case measure => simp [intOf]; omega
    · obtain rfl : k = n := by omega
      have hsd : decide ((k : Int) < (k : Int)) = false := decide_eq_false (by omega)
      go_wp2
      go_ret
      exact ⟨rfl, HZ.out⟩

/-- What toTable leaves. -/
def ToTbl (ver : Int) (n : Nat) (l : List Blk) (w : World) (e : Ending) (w' : World) : Prop :=
  ∃ (g : Nat) (fp : List Nat), e = .returned (.agg #[.int .i64 ver, .slice (some ⟨g, 0, none⟩) n n]) ∧ SliceRep blkTy w' (.slice (some ⟨g, 0, none⟩) n n) l fp ∧ (∀ k ∈ fp, w.heap.size ≤ k) ∧ fp.Nodup ∧ Below w.heap.size w w'

theorem law_toBlks_at (ao : Option Addr) (n cap : Nat) (B : Nat → Blk) (w : World) (N : Nat) (hN : w.heap.size = N) (hn : n ≤ 1048576) (hrl : ∀ k, k < n → (B k).rows.length ≤ 1048576) (hA : BlksArg w ao n B) :
    Calls Try.prog 82 #[.slice ao n cap] w fun e w' => ∃ f, e = .returned (.slice (some ⟨N, 0, none⟩) n n) ∧ ElemsTo blkTy w w' N n (lstB n B) f := by
  subst hN; exact law_toBlks ao n cap B w hn hrl hA

set_option maxRecDepth 8000 in
set_option maxHeartbeats 3200000 in
theorem law_toTbl (ver : Int) (ao : Option Addr) (n cap : Nat) (B : Nat → Blk) (w : World) (hn : n ≤ 1048576) (hrl : ∀ k, k < n → (B k).rows.length ≤ 1048576) (hA : BlksArg w ao n B) :
    Calls Try.prog 15 #[.agg #[.int .i64 ver, .slice ao n cap]] w (ToTbl ver n (lstB n B) w) := by
  have HA := Lib.hid hA
  have HRL := Lib.hid hrl
  clear hA hrl
  go_enter Try.func15, Try.ntmps15
  go_wp2_with fail
  have K0 := (((Kept.start w).alloc2 (.int .i64 ver) (.slice ao n cap) 24 _ rfl).alloc2 (.int .i64 0) (.slice none 0 0) 32 (w.heap.size + 1) (by simp)).alloc2 (.int .i64 ver) (.slice none 0 0) 32 (w.heap.size + 1 + 1) (by simp)
  refine (law_toBlks_at ao n cap B _ (w.heap.size + 1 + 1 + 1) (by simp) hn HRL.out (HA.out.below K0.1)).mono ?_
  rintro e w1 ⟨f, rfl, H1⟩
  have K1 := K0.step H1.1
  have K2 := Kept.set (p := [(⟨w.heap.size + 1 + 1, 0, none⟩, .int .i64 ver)]) K1 (.slice (some ⟨w.heap.size + 1 + 1 + 1, 0, none⟩) n n) (by simp only; omega) (by simp only [List.cons_append, List.nil_append, List.mem_cons, List.not_mem_nil, or_false]; rintro c9 (rfl | rfl | rfl | rfl | rfl) <;> simp)
  have hge : ∀ k ∈ (w.heap.size + 1 + 1 + 1) :: f, w.heap.size + 1 + 1 + 1 ≤ k := fun k hk => by
    rcases List.mem_cons.1 hk with rfl | hk
    · omega
    · have := H1.2.2.2.2.2 k hk
      simpa using this
  have hnd := H1.2.2.2.2.1
  have H2 := Lib.hid (H1.rep (cap := n) (lstB_len n B) (Nat.le_refl _))
  clear H1 K0
  have k1 := K1.get 1 rfl
  have f1 := K1.fz 1 rfl
  have m0 := K2.get 0 rfl
  have m1 := K2.get 1 rfl
  have m2 := K2.get 2 rfl
  have m3 := K2.get 3 rfl
  have f2 := K2.fz 2 rfl
  have f3 := K2.fz 3 rfl
  have z := K2.lt 2 rfl
  have hz : ∀ (b : Nat), b < w.heap.size + 1 + 1 + 1 → ∀ k ∈ (w.heap.size + 1 + 1 + 1) :: f, k ≠ b := fun b hb k hk e => by have := hge k hk; omega
  have HH := Lib.hid (((H2.out.set ⟨w.heap.size + 1 + 1, 1, none⟩ (.slice (some ⟨w.heap.size + 1 + 1 + 1, 0, none⟩) n n) (hz _ (by simp only; omega))).set ⟨w.heap.size + 1, 0, none⟩ (.int .i64 ver) (hz _ (by simp only; omega))).set ⟨w.heap.size + 1, 1, none⟩ (.slice (some ⟨w.heap.size + 1 + 1 + 1, 0, none⟩) n n) (hz _ (by simp only; omega)))
  have HG := Lib.hid hge
  have HK := Lib.hid K2.1
  clear hge hz
  go_wp2
  exact bodyPost_ret (v := .agg #[.int .i64 ver, .slice (some ⟨w.heap.size + 1 + 1 + 1, 0, none⟩) n n]) (by simp [results, Try.results15, go_sem, m2, m3, z]) rfl
    ⟨_, _, rfl, HH.out, fun k hk => by have := HG.out k hk; omega, hnd, (HK.out.setCell (by simp only; omega) _).setCell (by simp only; omega) _⟩

set_option maxRecDepth 8000 in
theorem law_eqTbl (ver : Int) (ao bo : Option Addr) (n c c' : Nat) (l : List Blk) (w : World) (hl : l.length = n) (hn : n ≤ 1048576) (hr : ∀ k (hk : k < l.length), l[k].rows.length ≤ 1048576) (hG : BlksVal w ao l) (hH : BlksVal w bo l) :
    Calls Try.prog 18 #[.agg #[.int .i64 ver, .slice ao n c], .agg #[.int .i64 ver, .slice bo n c']] w fun e w' => e = .returned (.bool true) ∧ Below w.heap.size w w' := by
  have HG := Lib.hid hG
  have HH := Lib.hid hH
  have HR := Lib.hid hr
  have HL := Lib.hid hl
  clear hG hH hr hl
  go_enter Try.func18, Try.ntmps18
  go_wp2_with fail
  have K0 := ((Kept.start w).alloc2 (.int .i64 ver) (.slice ao n c) 32 _ rfl).alloc2 (.int .i64 ver) (.slice bo n c') 32 (w.heap.size + 1) (by simp)
  refine (law_eqBlks ao bo n c c' l _ HL.out hn HR.out (HG.out.below K0.1) (HH.out.below K0.1)).mono ?_
  rintro e w1 ⟨rfl, hb⟩
  have K1 := K0.step hb
  clear hb K0
  go_wp2
  go_ret
  exact ⟨rfl, K1.1⟩

theorem blks_at {w : World} {g n c : Nat} {l : List Blk} {fp : List Nat} (h : SliceRep blkTy w (.slice (some ⟨g, 0, none⟩) n c) l fp) : BlksVal w (some ⟨g, 0, none⟩) l := by
  obtain ⟨ao, c', e, _, hV⟩ := blks_open h
  simp only [Value.slice.injEq] at e
  obtain ⟨rfl, _, _⟩ := e
  exact hV
end Go.Proofs.Ytcfcohnkkgickaa
