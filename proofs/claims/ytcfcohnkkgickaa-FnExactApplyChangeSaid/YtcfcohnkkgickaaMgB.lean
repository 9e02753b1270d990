/-
  Texts of one base, merged: TbLaw, TmMark, TbSz2, TbFind, Limbs, TtPlain, ChPlain, ChVal, IvcSpec, ChLaw, AdPlain, ApPlain, TbUpd, RwSrc, RwTail, PfmPlain, ApcBnd, StMid, MpPlain, RpImpl, BorImpl, TbFbk, FbkImpl.
-/
import Derived.Test.YtcfcohnkkgickaaRows
import Derived.Test.YtcfcohnkkgickaaMgA
import Derived.WalkKit
import Derived.WalkSpells
import Derived.WalkLawsBesides
import Derived.IntWalk
import Derived.OwnWalk
import Derived.Lib.Hide
import Derived.Deep.RegionHeld3
import Derived.Laws.AppendOwnNone
import Derived.Deep.MidRow
import Derived.Maps.OwnRows
import Derived.Maps.RangeWalk
import Derived.Maps.GroupsBeside
import Derived.Deep.AppendLies
namespace Go.Proofs.Ytcfcohnkkgickaa
open Go.RowKit Num

theorem Try.infoBlk : (Try.prog.info? 80).map (fun i => (i.zero, i.size, i.bytes)) = some (some (.agg #[.int .i64 0, .slice none 0 0]), 2, 32) := by kernel_rfl

/-- Block number k of an argument. -/
def BlkAt (w : World) (a : Addr) (k : Nat) (b : Blk) : Prop :=
  ∃ (rao : Option Addr) (rn rcap : Nat) (R : Nat → Rw), w.cell? (a.add (k * 2)) = some (.int .i64 b.id) ∧ w.cell? ⟨(a.add (k * 2)).block, (a.add (k * 2)).off + 1, none⟩ = some (.slice rao rn rcap) ∧ RowsArg w rao rn R ∧ rn ≤ maxLen ∧ b.rows = lst rn R
/-- A slice of blocks that came in. -/
def BlksArg (w : World) (ao : Option Addr) (n : Nat) (B : Nat → Blk) : Prop := n = 0 ∨ ∃ x, ao = some x ∧ x.block < w.heap.size ∧ ∀ k, k < n → BlkAt w x k (B k)
theorem BlksArg.below {w w' : World} {ao : Option Addr} {n : Nat} {B : Nat → Blk} (h : BlksArg w ao n B) (hb : Below w.heap.size w w') : BlksArg w' ao n B := by
  rcases h with h | ⟨x, e, hx, h⟩
  · exact .inl h
  · refine .inr ⟨x, e, Nat.lt_of_lt_of_le hx hb.size, fun k hk => ?_⟩
    obtain ⟨rao, rn, rcap, R, h0, h1, h2, h3, h4⟩ := h k hk
    have hg : (x.add (k * 2)).block < w.heap.size := by rw [addr_block]; exact hx
    exact ⟨rao, rn, rcap, R, by rw [hb.cell hg]; exact h0, by rw [hb.cell (p := ⟨(x.add (k * 2)).block, (x.add (k * 2)).off + 1, none⟩) hg]; exact h1, h2.below hb, h3, h4⟩

/-- The first n blocks as a list. -/
def lstB (n : Nat) (B : Nat → Blk) : List Blk := (List.range n).map B
theorem lstB_len (n : Nat) (B : Nat → Blk) : (lstB n B).length = n := by unfold lstB; simp
theorem lstB_at (n : Nat) (B : Nat → Blk) (k : Nat) (hk : k < (lstB n B).length) : (lstB n B)[k] = B k := by
  have h : ∀ hk' : k < ((List.range n).map B).length, ((List.range n).map B)[k] = B k := fun hk' => by rw [List.getElem_map, List.getElem_range]
  exact h hk
theorem lstB_rows {n : Nat} {B : Nat → Blk} (h : ∀ k, k < n → (B k).rows.length ≤ 1048576) : ∀ k (hk : k < (lstB n B).length), (lstB n B)[k].rows.length ≤ 1048576 := fun k hk => by
  rw [lstB_at]; exact h k (by rwa [lstB_len] at hk)
theorem lstB_succ (n : Nat) (B : Nat → Blk) : lstB (n + 1) B = lstB n B ++ [B n] := by unfold lstB; rw [List.range_succ]; simp

theorem elemsTo_made {w w' : World} {n : Nat} {xs : List Value} (h : w'.ownsRow w.heap.size 80 2 (.slice (some ⟨w.heap.size, 0, none⟩) n n) n xs) (hg : w.grownBy w' none) : ElemsTo blkTy w w' w.heap.size n [] [] := by
  have h0 := h
  obtain ⟨hxs, ⟨hno, _⟩ | ⟨g, cap, cur, hv, _, hblk, hn, hcap, hsz, _⟩⟩ := h
  · cases hno
  · obtain ⟨rfl, rfl⟩ : w.heap.size = g ∧ n = cap := by simpa using hv
    have hlt : w.heap.size < w'.heap.size := (Array.getElem?_eq_some_iff.1 hblk).1
    refine ⟨⟨hg.os, hg.tape, hg.output, hg.size, fun j hj => hg.block j hj (by simp)⟩, Nat.le_refl _, ⟨hlt, fun j hj => ⟨?_, World.ownsRow.frozenAt h0 j⟩⟩, rfl, by simp, fun k hk => by cases hk⟩
    have hj' : j < n * 2 := hj
    rw [World.ownsRow.cellAt h0 j hj']
    exact ⟨_, List.getElem?_eq_getElem (by rw [hxs]; exact hj')⟩

theorem ElemsTo.put {W w : World} {g n : Nat} {l : List Blk} {f f' : List Nat} (h : ElemsTo blkTy W w g n l f) (hl : l.length < n) (id : Int) (v : Value) (rows : List Rw) (hs : SliceRep rowTy w v rows f') (hn : f'.Nodup) (hd : ∀ k ∈ f', k ∉ g :: f) (hW : ∀ k ∈ f', W.heap.size ≤ k) :
    ElemsTo blkTy W ((w.setCell ⟨g, l.length * 2, none⟩ (.int .i64 id)).setCell ⟨g, l.length * 2 + 1, none⟩ v) g n (l ++ [⟨id, rows⟩]) (f ++ f') := by
  have h1 := h.set (l.length * 2) (.int .i64 id) (Nat.le_refl _)
  have h2 := h1.set (l.length * 2 + 1) v (by show l.length * 2 ≤ _; omega)
  have hg : ∀ k ∈ f', k ≠ g := fun k hk e => hd k hk (by simp [e])
  refine h2.snoc (x := ⟨id, rows⟩) (cs := [.int .i64 id, v]) (fun j hj => ?_) ⟨v, rfl, (hs.set ⟨g, l.length * 2, none⟩ _ hg).set ⟨g, l.length * 2 + 1, none⟩ _ hg⟩ hn hd hW
  match j, hj with
  | 0, _ =>
    show ((w.setCell ⟨g, l.length * 2, none⟩ (.int .i64 id)).setCell ⟨g, l.length * 2 + 1, none⟩ v).cell? ⟨g, l.length * 2 + 0, none⟩ = _
    rw [set_other (by omega)]
    exact set_same (h.2.2.1.2 (l.length * 2) (by show l.length * 2 < n * 2; omega)).1
  | 1, _ =>
    exact set_same (h1.2.2.1.2 (l.length * 2 + 1) (by show l.length * 2 + 1 < n * 2; omega)).1
  | j + 2, hj => exact absurd (show j + 2 < 2 from hj) (by omega)

/-- What toBlockS leaves. -/
def ToBlks (n : Nat) (l : List Blk) (w : World) (e : Ending) (w' : World) : Prop :=
  ∃ f, e = .returned (.slice (some ⟨w.heap.size, 0, none⟩) n n) ∧ ElemsTo blkTy w w' w.heap.size n l f

set_option maxRecDepth 8000 in
set_option maxHeartbeats 3200000 in
theorem law_toBlks (ao : Option Addr) (n cap : Nat) (B : Nat → Blk) (w : World) (hn : n ≤ 1048576) (hrl : ∀ k, k < n → (B k).rows.length ≤ 1048576) (hA : BlksArg w ao n B) :
    Calls Try.prog 82 #[.slice ao n cap] w (ToBlks n (lstB n B) w) := by
  have HA : Hid (BlksArg w ao n B) := hA
  have HRL := Lib.hid hrl
  clear hA hrl
  have hnI : (n : Int) ≤ 1048576 := by omega
  obtain ⟨i0, hi, hx⟩ := Option.map_eq_some_iff.1 Try.infoBlk
  simp only [Prod.mk.injEq] at hx
  obtain ⟨hz0, hz1, hz2⟩ := hx
  go_enter Try.func82, Try.ntmps82
  go_wp2_with (first | (at_make; refine wpList_make_full _ rfl _ _ _ rfl w.heap.size 80 i0 _ 2 (by kernel_rfl) hi hz0 hz1 .i64 .i64 _ _ n rfl rfl (by simp) (by simp) (by rw [hz2]; omega) (by unfold maxLen; omega) (Nat.le_refl _) ?_; intro w1 hown hgr))
  have HM := Lib.hid (elemsTo_made hown hgr)
  clear hown hgr hi hz0 hz1 hz2
  go_loopw [4] (fun iv wr => ∃ (k : Nat) (f : List Nat), k ≤ n ∧ iv = .int .i64 k ∧ Hid (ElemsTo blkTy w wr w.heap.size n (lstB k B) f)) (fun iv _ => n - (intOf iv).toNat)
  case atStart => exact ⟨0, [], Nat.zero_le _, rfl, HM.out⟩
  case round =>
    obtain ⟨k, f, hk, rfl, HR⟩ := hrel
    by_cases hlt : k < n
    · have hkI : (k : Int) < (n : Int) := by omega
      rcases HA.out.below HR.out.1 with h0 | ⟨x, rfl, hxb, hrow⟩
      · omega
      · obtain ⟨rao, rn, rcap, R, c0, c1, hra, hrn, hbr⟩ := hrow k hlt
        have hrn' : rn ≤ 1048576 := by have := HRL.out k hlt; rw [hbr, lst_len] at this; exact this
        have HRA := Lib.hid hra
        have HBR := Lib.hid hbr
        clear hrow hra hbr
        go_wp2_with fail
        refine (law_toBlkO _ _ _ _ R _ hrn' HRA.out).mono ?_
        rintro e w2 ⟨g2, rfl, hs, hg2, hb⟩
        have H2 := HR.out.step hb
        have hcell := H2.2.2.1.2
        have hkk : (lstB k B).length = k := lstB_len k B
        obtain ⟨⟨v0, e0⟩, f0⟩ := hcell (k * 2) (by show k * 2 < n * 2; omega)
        obtain ⟨⟨v1, e1⟩, f1⟩ := hcell (k * 2 + 1) (by show k * 2 + 1 < n * 2; omega)
        have HP0 := H2.put (by rw [hkk]; exact hlt) (B k).id _ _ hs (by simp) (fun j hj e => by
          obtain rfl : j = g2 := List.mem_singleton.1 hj
          rcases List.mem_cons.1 e with e | e
          · have := HR.out.2.2.1.1; omega
          · have := HR.out.2.2.2.1.lt _ e; omega) (fun j hj => by
          obtain rfl : j = g2 := List.mem_singleton.1 hj
          exact Nat.le_trans HR.out.1.size hg2)
        rw [hkk, ← HBR.out] at HP0
        have HP := Lib.hid HP0
        clear HP0 hkk hcell H2 hs hb c0 c1
        go_wp2
        go_roundw
        case rel => exact ⟨k + 1, _, by omega, by go_num, by rw [lstB_succ]; exact HP.out⟩
        case measure => simp [intOf]; omega
    · obtain rfl : k = n := by omega
      have hsd : decide ((k : Int) < (k : Int)) = false := decide_eq_false (by omega)
      go_wp2
      go_ret
      exact ⟨f, rfl, HR.out⟩

theorem t4_keep {w w' : World} {a0 a1 a2 a3 : Addr} {v0 v1 v2 v3 : Value} (q : w.cell? a0 = some v0 ∧ w.cell? a1 = some v1 ∧ w.cell? a2 = some v2 ∧ w.cell? a3 = some v3) (hb : Below w.heap.size w w') : w'.cell? a0 = some v0 ∧ w'.cell? a1 = some v1 ∧ w'.cell? a2 = some v2 ∧ w'.cell? a3 = some v3 :=
  have k := fun (a : Addr) (v : Value) (h : w.cell? a = some v) => (hb.cell (World.block_lt_of_cell? w _ h)).trans h
  ⟨k _ _ q.1, k _ _ q.2.1, k _ _ q.2.2.1, k _ _ q.2.2.2⟩

set_option maxRecDepth 8000 in
set_option maxHeartbeats 6400000 in
theorem law_eqBlks (ao bo : Option Addr) (n c c' : Nat) (l : List Blk) (w : World) (hl : l.length = n) (hn : n ≤ 1048576) (hr : ∀ k (hk : k < l.length), l[k].rows.length ≤ 1048576) (hG : BlksVal w ao l) (hH : BlksVal w bo l) :
    Calls Try.prog 88 #[.slice ao n c, .slice bo n c'] w fun e w' => e = .returned (.bool true) ∧ Below w.heap.size w w' := by
  have HO := Lib.hid hG
  have HP := Lib.hid hH
  have HR := Lib.hid hr
  have HL := Lib.hid hl
  have hnI : (n : Int) ≤ 1048576 := by omega
  clear hG hH hr hl
  go_enter Try.func88, Try.ntmps88
  go_wp2_with fail
  go_loopw [5] (fun iv wr => ∃ k : Nat, k ≤ n ∧ iv = .int .i64 k ∧ Hid (Below w.heap.size w wr)) (fun iv _ => n - (intOf iv).toNat)
  case atStart => exact ⟨0, Nat.zero_le _, rfl, Below.refl _ _⟩
  case round =>
    obtain ⟨k, hk, rfl, HZ⟩ := hrel
    by_cases hlt : k < n
    · have hkI : (k : Int) < (n : Int) := by omega
      have hk' : k < l.length := by rw [HL.out]; exact hlt
      obtain ⟨g, rfl, hg, hA⟩ : ∃ g, ao = some ⟨g, 0, none⟩ ∧ g < wr.heap.size ∧ ∀ k (hk : k < l.length), BlkVal wr g k l[k] := (HO.out.below HZ.out).resolve_left (by omega)
      obtain ⟨h, rfl, hh, hB⟩ : ∃ h, bo = some ⟨h, 0, none⟩ ∧ h < wr.heap.size ∧ ∀ k (hk : k < l.length), BlkVal wr h k l[k] := (HP.out.below HZ.out).resolve_left (by omega)
      obtain ⟨ra, ca, a0, a1, a2⟩ := hA k hk'
      obtain ⟨rb, cb, b0, b1, b2⟩ := hB k hk'
      have A2 := Lib.hid a2
      have B2 := Lib.hid b2
      have hrl := HR.out k hk'
      obtain ⟨bk, hbk⟩ : ∃ bk, bk = l[k] := ⟨_, rfl⟩
      rw [← hbk] at a0 a1 A2 b0 b1 B2 hrl
      clear hA hB a2 b2 hbk
      go_wp2_with fail
      go_region_held3 (fun w' => w'.cell? ⟨g, k * 2, none⟩ = some (.int .i64 bk.id) ∧ w'.cell? ⟨g, k * 2 + 1, none⟩ = some (.slice ra bk.rows.length ca) ∧ w'.cell? ⟨h, k * 2, none⟩ = some (.int .i64 bk.id) ∧ w'.cell? ⟨h, k * 2 + 1, none⟩ = some (.slice rb bk.rows.length cb)) (first | assumption | exact ⟨a0, a1, b0, b1⟩ | exact t4_keep (by assumption) (by assumption)) (first | (go_simp; go_at_call 53; (with_reducible refine (law_eqBlkV bk.id ra rb bk.rows.length ca cb (Rn bk.rows) _ hrl ?_ ?_).mono ?_); (exact A2.out.below (Below.refl _ _).drew); (exact B2.out.below (Below.refl _ _).drew); rintro e9 w9 ⟨rfl, hb⟩))
      all_goals
        have HB := Lib.hid (HZ.out.trans (((Below.refl _ _).drew.trans hb).mono HZ.out.size))
        go_wp2
        go_roundw
        case rel => exact ⟨k + 1, by omega, by go_num, HB.out⟩
        case measure => simp [intOf]; omega
    · obtain rfl : k = n := by omega
      have hsd : decide ((k : Int) < (k : Int)) = false := decide_eq_false (by omega)
      go_wp2
      go_ret
      exact ⟨rfl, HZ.out⟩

/-- What toTable leaves. -/
def ToTbl (ver : Int) (n : Nat) (l : List Blk) (w : World) (e : Ending) (w' : World) : Prop :=
  ∃ (g : Nat) (fp : List Nat), e = .returned (.agg #[.int .i64 ver, .slice (some ⟨g, 0, none⟩) n n]) ∧ SliceRep blkTy w' (.slice (some ⟨g, 0, none⟩) n n) l fp ∧ (∀ k ∈ fp, w.heap.size ≤ k) ∧ fp.Nodup ∧ Below w.heap.size w w'

theorem law_toBlks_at (ao : Option Addr) (n cap : Nat) (B : Nat → Blk) (w : World) (N : Nat) (hN : w.heap.size = N) (hn : n ≤ 1048576) (hrl : ∀ k, k < n → (B k).rows.length ≤ 1048576) (hA : BlksArg w ao n B) :
    Calls Try.prog 82 #[.slice ao n cap] w fun e w' => ∃ f, e = .returned (.slice (some ⟨N, 0, none⟩) n n) ∧ ElemsTo blkTy w w' N n (lstB n B) f := by
  subst hN; exact law_toBlks ao n cap B w hn hrl hA

set_option maxRecDepth 8000 in
set_option maxHeartbeats 3200000 in
theorem law_toTbl (ver : Int) (ao : Option Addr) (n cap : Nat) (B : Nat → Blk) (w : World) (hn : n ≤ 1048576) (hrl : ∀ k, k < n → (B k).rows.length ≤ 1048576) (hA : BlksArg w ao n B) :
    Calls Try.prog 15 #[.agg #[.int .i64 ver, .slice ao n cap]] w (ToTbl ver n (lstB n B) w) := by
  have HA := Lib.hid hA
  have HRL := Lib.hid hrl
  clear hA hrl
  go_enter Try.func15, Try.ntmps15
  go_wp2_with fail
  have K0 := (((Kept.start w).alloc2 (.int .i64 ver) (.slice ao n cap) 24 _ rfl).alloc2 (.int .i64 0) (.slice none 0 0) 32 (w.heap.size + 1) (by simp)).alloc2 (.int .i64 ver) (.slice none 0 0) 32 (w.heap.size + 1 + 1) (by simp)
  refine (law_toBlks_at ao n cap B _ (w.heap.size + 1 + 1 + 1) (by simp) hn HRL.out (HA.out.below K0.1)).mono ?_
  rintro e w1 ⟨f, rfl, H1⟩
  have K1 := K0.step H1.1
  have K2 := Kept.set (p := [(⟨w.heap.size + 1 + 1, 0, none⟩, .int .i64 ver)]) K1 (.slice (some ⟨w.heap.size + 1 + 1 + 1, 0, none⟩) n n) (by simp only; omega) (by simp only [List.cons_append, List.nil_append, List.mem_cons, List.not_mem_nil, or_false]; rintro c9 (rfl | rfl | rfl | rfl | rfl) <;> simp)
  have hge : ∀ k ∈ (w.heap.size + 1 + 1 + 1) :: f, w.heap.size + 1 + 1 + 1 ≤ k := fun k hk => by
    rcases List.mem_cons.1 hk with rfl | hk
    · omega
    · have := H1.2.2.2.2.2 k hk
      simpa using this
  have hnd := H1.2.2.2.2.1
  have H2 := Lib.hid (H1.rep (cap := n) (lstB_len n B) (Nat.le_refl _))
  clear H1 K0
  have k1 := K1.get 1 rfl
  have f1 := K1.fz 1 rfl
  have m0 := K2.get 0 rfl
  have m1 := K2.get 1 rfl
  have m2 := K2.get 2 rfl
  have m3 := K2.get 3 rfl
  have f2 := K2.fz 2 rfl
  have f3 := K2.fz 3 rfl
  have z := K2.lt 2 rfl
  have hz : ∀ (b : Nat), b < w.heap.size + 1 + 1 + 1 → ∀ k ∈ (w.heap.size + 1 + 1 + 1) :: f, k ≠ b := fun b hb k hk e => by have := hge k hk; omega
  have HH := Lib.hid (((H2.out.set ⟨w.heap.size + 1 + 1, 1, none⟩ (.slice (some ⟨w.heap.size + 1 + 1 + 1, 0, none⟩) n n) (hz _ (by simp only; omega))).set ⟨w.heap.size + 1, 0, none⟩ (.int .i64 ver) (hz _ (by simp only; omega))).set ⟨w.heap.size + 1, 1, none⟩ (.slice (some ⟨w.heap.size + 1 + 1 + 1, 0, none⟩) n n) (hz _ (by simp only; omega)))
  have HG := Lib.hid hge
  have HK := Lib.hid K2.1
  clear hge hz
  go_wp2
  exact bodyPost_ret (v := .agg #[.int .i64 ver, .slice (some ⟨w.heap.size + 1 + 1 + 1, 0, none⟩) n n]) (by simp [results, Try.results15, go_sem, m2, m3, z]) rfl
    ⟨_, _, rfl, HH.out, fun k hk => by have := HG.out k hk; omega, hnd, (HK.out.setCell (by simp only; omega) _).setCell (by simp only; omega) _⟩

set_option maxRecDepth 8000 in
theorem law_eqTbl (ver : Int) (ao bo : Option Addr) (n c c' : Nat) (l : List Blk) (w : World) (hl : l.length = n) (hn : n ≤ 1048576) (hr : ∀ k (hk : k < l.length), l[k].rows.length ≤ 1048576) (hG : BlksVal w ao l) (hH : BlksVal w bo l) :
    Calls Try.prog 18 #[.agg #[.int .i64 ver, .slice ao n c], .agg #[.int .i64 ver, .slice bo n c']] w fun e w' => e = .returned (.bool true) ∧ Below w.heap.size w w' := by
  have HG := Lib.hid hG
  have HH := Lib.hid hH
  have HR := Lib.hid hr
  have HL := Lib.hid hl
  clear hG hH hr hl
  go_enter Try.func18, Try.ntmps18
  go_wp2_with fail
  have K0 := ((Kept.start w).alloc2 (.int .i64 ver) (.slice ao n c) 32 _ rfl).alloc2 (.int .i64 ver) (.slice bo n c') 32 (w.heap.size + 1) (by simp)
  refine (law_eqBlks ao bo n c c' l _ HL.out hn HR.out (HG.out.below K0.1) (HH.out.below K0.1)).mono ?_
  rintro e w1 ⟨rfl, hb⟩
  have K1 := K0.step hb
  clear hb K0
  go_wp2
  go_ret
  exact ⟨rfl, K1.1⟩

theorem blks_at {w : World} {g n c : Nat} {l : List Blk} {fp : List Nat} (h : SliceRep blkTy w (.slice (some ⟨g, 0, none⟩) n c) l fp) : BlksVal w (some ⟨g, 0, none⟩) l := by
  obtain ⟨ao, c', e, _, hV⟩ := blks_open h
  simp only [Value.slice.injEq] at e
  obtain ⟨rfl, _, _⟩ := e
  exact hV
end Go.Proofs.Ytcfcohnkkgickaa

namespace Go.Proofs.Ytcfcohnkkgickaa
open Go.RowKit Num

theorem law_eqTblO (ver : Int) (ao bo : Option Addr) (n m c c' : Nat) (l : List Blk) (fp fp' : List Nat) (w : World) (hn : l.length ≤ 1048576) (hr : ∀ k (hk : k < l.length), l[k].rows.length ≤ 1048576) (h : SliceRep blkTy w (.slice ao n c) l fp) (h' : SliceRep blkTy w (.slice bo m c') l fp') :
    Calls Try.prog 18 #[.agg #[.int .i64 ver, .slice ao n c], .agg #[.int .i64 ver, .slice bo m c']] w fun e w' => e = .returned (.bool true) ∧ Below w.heap.size w w' := by
  obtain ⟨ao1, c1, e1, _, hV⟩ := blks_open h
  obtain ⟨bo1, c2, e2, _, hV'⟩ := blks_open h'
  simp only [Value.slice.injEq] at e1 e2
  obtain ⟨rfl, rfl, rfl⟩ := e1
  obtain ⟨rfl, rfl, rfl⟩ := e2
  exact law_eqTbl ver _ _ _ _ _ l w rfl hn hr hV hV'

/-- The blocks that the laws write from k on, and the number behind them. -/
def markBlks : Int → List Blk → List Blk
  | _, [] => []
  | k, b :: l => ⟨k, marks (k + 1) b.rows.length⟩ :: markBlks (k + 1 + 5 * (b.rows.length : Int)) l
def markEnd : Int → List Blk → Int
  | k, [] => k
  | k, b :: l => markEnd (k + 1 + 5 * (b.rows.length : Int)) l
theorem markBlks_len : ∀ (l : List Blk) (k : Int), (markBlks k l).length = l.length
  | [], _ => rfl
  | b :: l, k => by rw [markBlks, List.length_cons, markBlks_len l, List.length_cons]
theorem markEnd_app : ∀ (p q : List Blk) (k : Int), markEnd k (p ++ q) = markEnd (markEnd k p) q
  | [], _, _ => rfl
  | b :: p, q, k => by rw [List.cons_append, markEnd, markEnd, markEnd_app p q]
theorem markBlks_app : ∀ (p q : List Blk) (k : Int), markBlks k (p ++ q) = markBlks k p ++ markBlks (markEnd k p) q
  | [], _, _ => rfl
  | b :: p, q, k => by rw [List.cons_append, markBlks, markBlks, markEnd, markBlks_app p q, List.cons_append]
theorem markEnd_ge : ∀ (l : List Blk) (k : Int), k ≤ markEnd k l
  | [], _ => Int.le_refl _
  | b :: l, k => by
    have h2 := markEnd_ge l (k + 1 + 5 * (b.rows.length : Int))
    rw [markEnd]
    omega
theorem markEnd_le : ∀ (l : List Blk) (k : Int), (∀ b ∈ l, b.rows.length ≤ 1048576) → markEnd k l ≤ k + (l.length : Int) * 5242881
  | [], k, _ => by simp [markEnd]
  | b :: l, k, h => by
    have h1 := h b (by simp)
    have h2 := markEnd_le l (k + 1 + 5 * (b.rows.length : Int)) (fun x hx => h x (by simp [hx]))
    rw [markEnd, List.length_cons]
    have e : ((l.length + 1 : Nat) : Int) * 5242881 = (l.length : Int) * 5242881 + 5242881 := by omega
    omega
theorem markBlks_at (p : List Blk) (b : Blk) (q : List Blk) (k : Int) (h : p.length < (markBlks k (p ++ b :: q)).length) : (markBlks k (p ++ b :: q))[p.length] = ⟨markEnd k p, marks (markEnd k p + 1) b.rows.length⟩ := by
  have e : markBlks k (p ++ b :: q) = markBlks k p ++ (⟨markEnd k p, marks (markEnd k p + 1) b.rows.length⟩ :: markBlks (markEnd k p + 1 + 5 * (b.rows.length : Int)) q) := by rw [markBlks_app, markBlks]
  have : ∀ (X : List Blk) (hx : p.length < X.length), X = markBlks k p ++ (⟨markEnd k p, marks (markEnd k p + 1) b.rows.length⟩ :: markBlks (markEnd k p + 1 + 5 * (b.rows.length : Int)) q) → X[p.length] = ⟨markEnd k p, marks (markEnd k p + 1) b.rows.length⟩ := fun X hx eX => by
    subst eX
    rw [List.getElem_append_right (by rw [markBlks_len]; exact Nat.le_refl _)]
    simp [markBlks_len]
  exact this _ h e

/-- A store ahead of the elements. -/
theorem Elems.set_front {α : Type} {E : Ty α} {w : World} {g : Nat} {u : Value} {o : Nat} : ∀ {l : List α} {k : Nat} {f : List Nat}, Elems E w g k l f → o < k * E.size → g ∉ f → Elems E (w.setCell ⟨g, o, none⟩ u) g k l f
  | [], _, _, h, _, _ => h
  | x :: l, k, f, ⟨cs, f1, f2, e, hc, h1, h2⟩, ho, hg => by
    subst e
    refine ⟨cs, f1, f2, rfl, fun j hj => ?_, E.keep h1 (fun b hb => Below.heap_setCell _ _ _ _ (fun e => hg (by have e' : b = g := e; rw [← e']; simp [hb]))), Elems.set_front h2 (by rw [Nat.add_mul, Nat.one_mul]; omega) (fun h => hg (by simp [h]))⟩
    rw [World.cell?_setCell_other (w := w) (a := ⟨g, o, none⟩) (b := ⟨g, k * E.size + j, none⟩) (v := u) (fun e => ?_)]
    · exact hc j hj
    · simp only [Addr.mk.injEq, true_and, and_true] at e
      omega

/-- Blocks half marked: p is, q is not. -/
def MkInv (W w : World) (g N : Nat) (k0 : Int) (p q : List Blk) (f1 f2 : List Nat) : Prop :=
  Chg (g :: (f1 ++ f2)) W w ∧ OwnBlk w g (N * 2) ∧ Elems blkTy w g 0 (markBlks k0 p) f1 ∧ Elems blkTy w g p.length q f2 ∧ (g :: (f1 ++ f2)).Nodup
theorem MkInv.step {W w w1 : World} {g N : Nat} {k0 : Int} {p q : List Blk} {b : Blk} {f1 fa fb : List Nat} {v : Value} (h : MkInv W w g N k0 p (b :: q) f1 (fa ++ fb)) (hc1 : w.cell? ⟨g, p.length * 2 + 1, none⟩ = some v) (hlt : p.length < N) (hq : Elems blkTy w g (p.length + 1) q fb)
    (hc : Chg fa (w.setCell ⟨g, p.length * 2, none⟩ (.int .i64 (markEnd k0 p))) w1) (hs : SliceRep rowTy w1 v (marks (markEnd k0 p + 1) b.rows.length) fa) : MkInv W w1 g N k0 (p ++ [b]) q (f1 ++ fa) fb := by
  obtain ⟨h1, h2, h3, h4, h5⟩ := h
  have hnd := List.nodup_cons.1 h5
  have hga : g ∉ fa := fun e => hnd.1 (by simp [e])
  have hg1 : g ∉ f1 := fun e => hnd.1 (by simp [e])
  have hgb : g ∉ fb := fun e => hnd.1 (by simp [e])
  have hn2 := List.nodup_append.1 hnd.2
  have hd1 : ∀ k ∈ f1, k ∉ fa := fun k hk hka => hn2.2.2 k hk k (by simp [hka]) rfl
  have hn3 := List.nodup_append.1 hn2.2.1
  have hdb : ∀ k ∈ fb, k ∉ fa := fun k hk hka => hn3.2.2 k hka k hk rfl
  have hgs : g < (w.setCell ⟨g, p.length * 2, none⟩ (.int .i64 (markEnd k0 p))).heap.size := by simpa using h2.1
  have hgk := hc.block g hgs hga
  have hlen : (markBlks k0 p).length = p.length := markBlks_len p k0
  have pre := (h3.set (u := .int .i64 (markEnd k0 p)) (o := p.length * 2) (by rw [Nat.zero_add, hlen]; exact Nat.le_refl _) hg1)
  have pre1 := Elems.keep hgk pre (fun k hk => hc.block k (pre.lt k hk) (hd1 k hk))
  have post := (hq.set_front (u := .int .i64 (markEnd k0 p)) (o := p.length * 2) (by show p.length * 2 < (p.length + 1) * 2; omega) hgb)
  have post1 := Elems.keep hgk post (fun k hk => hc.block k (post.lt k hk) (hdb k hk))
  refine ⟨?_, (h2.set _ _).keep hgk, ?_, by rw [List.length_append]; exact post1, by rw [List.append_assoc]; exact h5⟩
  · rw [List.append_assoc]
    exact (h1.set (by simp) _).trans (hc.mono (fun k hk => by simp [hk]))
  · rw [markBlks_app]
    refine pre1.snoc (x := ⟨markEnd k0 p, marks (markEnd k0 p + 1) b.rows.length⟩) (cs := [.int .i64 (markEnd k0 p), v]) (fun j hj => ?_) ⟨v, rfl, hs⟩
    rw [Nat.zero_add, hlen]
    have hk2 := fun (a : Addr) (ha : a.block = g) => World.cell?_of_block (w := w1) (w' := w.setCell ⟨g, p.length * 2, none⟩ (.int .i64 (markEnd k0 p))) (a := a) (by rw [ha]; exact hgk.symm)
    match j, hj with
    | 0, _ =>
      show w1.cell? ⟨g, p.length * 2 + 0, none⟩ = _
      rw [← hk2 _ rfl]
      exact set_same (h2.2 (p.length * 2) (by omega)).1
    | 1, _ =>
      show w1.cell? ⟨g, p.length * 2 + 1, none⟩ = _
      rw [← hk2 _ rfl, set_other (by omega)]
      exact hc1
    | j + 2, hj => exact absurd (show j + 2 < 2 from hj) (by omega)

set_option maxRecDepth 8000 in
set_option maxHeartbeats 3200000 in
theorem law_markBlksO (v : Value) (l : List Blk) (fp : List Nat) (k0 : Int) (w : World) (hn : l.length ≤ 1048576) (hE : markEnd k0 l ≤ 1099511627776) (hk0 : 0 ≤ k0) (hv : SliceRep blkTy w v l fp) (hnd : fp.Nodup) :
    Calls Try.prog 89 #[v, .int .i64 k0] w fun e w' => e = .returned (.int .i64 (markEnd k0 l)) ∧ Chg fp w w' ∧ SliceRep blkTy w' v (markBlks k0 l) fp := by
  have hnI : (l.length : Int) ≤ 1048576 := by omega
  rcases hv with ⟨rfl, rfl, hv⟩ | ⟨g, cap, f, rfl, hc, ho, he, rfl⟩
  · have hv' := hv
    obtain ⟨ao, cap, rfl⟩ : ∃ ao cap, v = .slice ao 0 cap := by rcases hv with rfl | ⟨ad, cap, rfl⟩ <;> exact ⟨_, _, rfl⟩
    have HV := Lib.hid hv'
    clear hv hv' hnd hE
    go_enter Try.func89, Try.ntmps89
    go_wp2
    refine wp_loop_rounds 1 ?_
    rw [rounds_succ]
    go_wp2
    go_ret
    exact ⟨rfl, Chg.refl _ _, .inl ⟨rfl, rfl, HV.out⟩⟩
  · obtain ⟨N, hN⟩ : ∃ N, N = l.length := ⟨_, rfl⟩
    have HR := Lib.hid hE
    have HN := Lib.hid hN
    have HC := Lib.hid (show N ≤ cap by omega)
    have H0 := Lib.hid (show MkInv w w g N k0 [] l [] f from ⟨Chg.refl _ _, by rw [hN]; exact ho, rfl, he, hnd⟩)
    rw [← hN] at hnI ⊢
    clear ho he hnd hE hn hN hc
    go_enter Try.func89, Try.ntmps89
    go_wp2_with fail
    go_loopw [1, 5] (fun kv iv wr => ∃ (p q : List Blk) (f1 f2 : List Nat) (P : Nat) (K : Int), Hid (P = p.length) ∧ P ≤ N ∧ iv = .int .i64 P ∧ kv = .int .i64 K ∧ 0 ≤ K ∧ Hid (K = markEnd k0 p) ∧ Hid (l = p ++ q) ∧ Hid (f = f1 ++ f2) ∧ Hid (MkInv w wr g N k0 p q f1 f2)) (fun _ iv _ => N - (intOf iv).toNat)
    case atStart => exact ⟨[], l, [], f, 0, k0, Lib.hid rfl, Nat.zero_le _, rfl, rfl, hk0, Lib.hid rfl, Lib.hid rfl, Lib.hid rfl, H0⟩
    case round =>
      clear H0
      obtain ⟨p, q, f1, f2, P, K, HP, hPN, rfl, rfl, hK0, HK, HL, HF, HM⟩ := hrel
      by_cases hlt : P < N
      · have hltI : (P : Int) < (N : Int) := by omega
        have hq : q ≠ [] := fun e => by have h1 := HN.out; have h2 := HP.out; rw [HL.out, e, List.append_nil] at h1; omega
        obtain ⟨b, q', rfl⟩ := List.exists_cons_of_ne_nil hq
        obtain ⟨h1, h2, h3, h4, h5⟩ := HM.out
        obtain ⟨cs, fa, fb, hf2, hcs, ⟨vb, rfl, hsl⟩, hrest⟩ := h4
        subst hf2
        have hrl : K + 1 + 5 * (b.rows.length : Int) ≤ 1099511627776 := by
          have h1 := HR.out
          rw [HL.out, markEnd_app, ← HK.out, markEnd] at h1
          have h2 := markEnd_ge q' (K + 1 + 5 * (b.rows.length : Int))
          omega
        have hcs0 := hcs 0 (by simp)
        have hcs1 := hcs 1 (by simp)
        have c0 : wr.cell? ⟨g, P * 2, none⟩ = some (.int .i64 b.id) := by rw [HP.out]; exact hcs0
        have c1 : wr.cell? ⟨g, P * 2 + 1, none⟩ = some vb := by rw [HP.out]; exact hcs1
        have fz := (h2.2 (P * 2) (by omega)).2
        have hgl := h2.1
        have hga : ∀ k ∈ fa, k ≠ g := fun k hk e => (List.nodup_cons.1 h5).1 (by rw [← e]; simp [hk])
        have SL := Lib.hid (hsl.set ⟨g, P * 2, none⟩ (.int .i64 K) hga)
        have ST := Lib.hid (fun w1 (hc : Chg fa (wr.setCell ⟨g, P * 2, none⟩ (.int .i64 K)) w1) (hs : SliceRep rowTy w1 vb (marks (K + 1) b.rows.length) fa) => MkInv.step (N := N) HM.out (by rw [← HP.out]; exact c1) (by have := HP.out; omega) hrest (by rw [← HP.out, ← HK.out]; exact hc) (by rw [← HK.out]; exact hs))
        have HK2 := Lib.hid (show K + 1 + 5 * (b.rows.length : Int) = markEnd k0 (p ++ [b]) by rw [markEnd_app, ← HK.out]; rfl)
        have HL2 := Lib.hid (show l = (p ++ [b]) ++ q' by rw [HL.out, List.append_assoc]; rfl)
        have HF2 := Lib.hid (show f = (f1 ++ fa) ++ fb by rw [HF.out, List.append_assoc])
        obtain ⟨m, hm⟩ : ∃ m, m = b.rows.length := ⟨_, rfl⟩
        obtain ⟨vo, vc, rfl⟩ := hsl.val
        rw [← hm] at hrl HK2 c1 SL ST
        have HM2 := Lib.hid hm
        have hwK : IntKind.i64.wrap (K + 1) = K + 1 := IntWalk.i64_in _ (by omega)
        clear h1 h2 h3 h5 hcs hsl hrest hcs0 hcs1 hq hga hm
        go_wp2_with fail
        refine (law_markRsV _ b.rows fa (K + 1) _ (by have := HM2.out; omega) (by omega) (by omega) SL.out).mono ?_
        rintro e w1 ⟨rfl, hcg, hs⟩
        have HI := Lib.hid (ST.out w1 hcg (by rw [← HM2.out] at hs; exact hs))
        rw [← HM2.out]
        clear hcg hs c0 c1 fz hgl SL ST
        go_wp2
        go_roundw
        case rel => exact ⟨p ++ [b], q', f1 ++ fa, fb, P + 1, K + 1 + 5 * (m : Int), Lib.hid (by rw [List.length_append, HP.out]; rfl), by omega, by go_num, rfl, by omega, HK2, HL2, HF2, HI⟩
        case measure => simp [intOf]; omega
      · obtain rfl : P = N := by omega
        have hsd : decide ((P : Int) < (P : Int)) = false := decide_eq_false (by omega)
        have hq : q = [] := by
          have := HN.out
          have h2 := HP.out
          rw [HL.out, List.length_append] at this
          exact List.eq_nil_of_length_eq_zero (by omega)
        subst hq
        have AN := Lib.hid (show K = markEnd k0 l by rw [HL.out, List.append_nil]; exact HK.out)
        have RP := Lib.hid (show Chg (g :: f) w wr ∧ SliceRep blkTy wr (.slice (some ⟨g, 0, none⟩) P cap) (markBlks k0 l) (g :: f) from by
          obtain ⟨h1, h2, h3, h4, h5⟩ := HM.out
          have h4' : f2 = [] := h4
          have e1 : f = f1 := by rw [HF.out, h4', List.append_nil]
          have e2 : p = l := by rw [HL.out, List.append_nil]
          rw [h4', List.append_nil, ← e1] at h1
          rw [e2, ← e1] at h3
          have hlen : (markBlks k0 l).length = P := by rw [markBlks_len]; exact HN.out.symm
          exact ⟨h1, .inr ⟨g, cap, f, by rw [hlen], by rw [hlen]; exact HC.out, by rw [hlen]; exact h2, h3, rfl⟩⟩)
        go_wp2
        go_ret
        exact ⟨by rw [← AN.out]; rfl, RP.out⟩
set_option maxRecDepth 8000 in
set_option maxHeartbeats 3200000 in
theorem law_heldBlksO (v : Value) (l : List Blk) (fp : List Nat) (k0 : Int) (w : World) (hn : l.length ≤ 1048576) (hE : markEnd k0 l ≤ 1099511627776) (hk0 : 0 ≤ k0) (hv : SliceRep blkTy w v (markBlks k0 l) fp) :
    Calls Try.prog 90 #[v, .int .i64 k0] w fun e w' => e = .returned (.int .i64 (markEnd k0 l)) ∧ w = w' := by
  have hnI : (l.length : Int) ≤ 1048576 := by omega
  rcases hv with ⟨hl0, rfl, hv⟩ | ⟨g, cap, f, rfl, hc, ho, he, rfl⟩
  · have hv' := hv
    obtain ⟨ao, cap, rfl⟩ : ∃ ao cap, v = .slice ao 0 cap := by rcases hv with rfl | ⟨ad, cap, rfl⟩ <;> exact ⟨_, _, rfl⟩
    obtain rfl : l = [] := by
      have := congrArg List.length hl0
      rw [markBlks_len] at this
      exact List.eq_nil_of_length_eq_zero this
    clear hv hv' hE
    go_enter Try.func90, Try.ntmps90
    go_wp2
    refine wp_loop_rounds 1 ?_
    rw [rounds_succ]
    go_wp2
    go_ret
    exact ⟨rfl, rfl⟩
  · rw [markBlks_len] at ho hc ⊢
    obtain ⟨N, hN⟩ : ∃ N, N = l.length := ⟨_, rfl⟩
    have HR := Lib.hid hE
    have HN := Lib.hid hN
    have HE := Lib.hid he
    rw [← hN] at hnI ho hc ⊢
    clear he hE hn hN ho hc
    go_enter Try.func90, Try.ntmps90
    go_wp2_with fail
    go_loop [1, 5] (fun kv iv => ∃ (p q : List Blk) (P : Nat) (K : Int), Hid (P = p.length) ∧ P ≤ N ∧ iv = .int .i64 P ∧ kv = .int .i64 K ∧ 0 ≤ K ∧ Hid (K = markEnd k0 p) ∧ Hid (l = p ++ q)) (fun _ iv => N - (intOf iv).toNat)
    case atStart => exact ⟨[], l, 0, k0, Lib.hid rfl, Nat.zero_le _, rfl, rfl, hk0, Lib.hid rfl, Lib.hid rfl⟩
    case round =>
      obtain ⟨p, q, P, K, HP, hPN, rfl, rfl, hK0, HK, HL⟩ := hrel
      by_cases hlt : P < N
      · have hltI : (P : Int) < (N : Int) := by omega
        have hq : q ≠ [] := fun e => by have h1 := HN.out; have h2 := HP.out; rw [HL.out, e, List.append_nil] at h1; omega
        obtain ⟨b, q', rfl⟩ := List.exists_cons_of_ne_nil hq
        have hPl : p.length < (markBlks k0 l).length := by rw [markBlks_len]; have := HN.out; have := HP.out; omega
        obtain ⟨cs, f', hcs, hx, _⟩ := HE.out.get p.length hPl
        have hat : (markBlks k0 l)[p.length] = ⟨markEnd k0 p, marks (markEnd k0 p + 1) b.rows.length⟩ := by
          have := HL.out
          subst this
          exact markBlks_at p b q' k0 hPl
        rw [hat, ← HK.out] at hx
        obtain ⟨vb, rfl, hsl⟩ := hx
        rw [Nat.zero_add, ← HP.out] at hcs
        have c0 : w.cell? ⟨g, P * 2, none⟩ = some (.int .i64 K) := hcs 0 (by simp)
        have c1 : w.cell? ⟨g, P * 2 + 1, none⟩ = some vb := hcs 1 (by simp)
        have hrl : K + 1 + 5 * (b.rows.length : Int) ≤ 1099511627776 := by
          have h1 := HR.out
          rw [HL.out, markEnd_app, ← HK.out, markEnd] at h1
          have h2 := markEnd_ge q' (K + 1 + 5 * (b.rows.length : Int))
          omega
        have SL := Lib.hid hsl
        have HK2 := Lib.hid (show K + 1 + 5 * (b.rows.length : Int) = markEnd k0 (p ++ [b]) by rw [markEnd_app, ← HK.out]; rfl)
        have HL2 := Lib.hid (show l = (p ++ [b]) ++ q' by rw [HL.out, List.append_assoc]; rfl)
        obtain ⟨vo, vc, rfl⟩ := hsl.val
        rw [marks_len] at c1 SL
        obtain ⟨m, hm⟩ : ∃ m, m = b.rows.length := ⟨_, rfl⟩
        rw [← hm] at hrl HK2 c1 SL
        have hwK : IntKind.i64.wrap (K + 1) = K + 1 := IntWalk.i64_in _ (by omega)
        have q0 : (K != K) = false := bne_self_eq_false _
        have z0 : ¬ K + 1 + 5 * (m : Int) < 0 := by omega
        have z1 : decide (K + 1 + 5 * (m : Int) < 0) = false := decide_eq_false z0
        clear hcs hsl hq hm hat hPl
        go_wp2_with fail
        refine (law_heldRsV _ m f' (K + 1) _ (by omega) (by omega) (by omega) SL.out).mono ?_
        rintro e w1 ⟨rfl, rfl⟩
        clear c0 c1 SL
        go_wp2
        go_round
        case rel => exact ⟨p ++ [b], q', P + 1, K + 1 + 5 * (m : Int), Lib.hid (by rw [List.length_append, HP.out]; rfl), by omega, by go_num, rfl, by omega, HK2, HL2⟩
        case measure => simp [intOf]; omega
      · obtain rfl : P = N := by omega
        have hsd : decide ((P : Int) < (P : Int)) = false := decide_eq_false (by omega)
        have hq : q = [] := by
          have := HN.out
          have h2 := HP.out
          rw [HL.out, List.length_append] at this
          exact List.eq_nil_of_length_eq_zero (by omega)
        subst hq
        have AN := Lib.hid (show K = markEnd k0 l by rw [HL.out, List.append_nil]; exact HK.out)
        go_wp2
        go_ret
        exact ⟨by rw [← AN.out]; rfl, rfl⟩

set_option maxRecDepth 8000 in
theorem law_markTblO (ver : Int) (v : Value) (l : List Blk) (fp : List Nat) (k0 : Int) (w : World) (hn : l.length ≤ 1048576) (hE : markEnd k0 l ≤ 1099511627776) (hk0 : 0 ≤ k0) (hv : SliceRep blkTy w v l fp) (hnd : fp.Nodup) :
    Calls Try.prog 19 #[.agg #[.int .i64 ver, v], .int .i64 k0] w fun e w' => e = .returned (.int .i64 (markEnd k0 l)) ∧ Chg fp w w' ∧ SliceRep blkTy w' v (markBlks k0 l) fp := by
  obtain ⟨ao, cap, rfl⟩ := hv.val
  have HV := Lib.hid hv
  have HD := Lib.hid hnd
  have HE := Lib.hid hE
  clear hv hnd hE
  obtain ⟨n, hn'⟩ : ∃ n, n = l.length := ⟨_, rfl⟩
  have HN := Lib.hid hn'
  rw [← hn'] at HV ⊢
  clear hn'
  go_enter Try.func19, Try.ntmps19
  go_wp2_with fail
  have K0 := (Kept.start w).alloc2 (.int .i64 ver) (.slice ao n cap) 32 _ rfl
  refine (law_markBlksO _ l fp k0 _ hn HE.out hk0 (HV.out.step K0.1) HD.out).mono ?_
  rintro e w1 ⟨rfl, hc, hs⟩
  have AN := Lib.hid (show Chg fp w w1 ∧ SliceRep blkTy w1 (.slice ao n cap) (markBlks k0 l) fp from ⟨(Chg.of K0.1).trans hc, hs⟩)
  clear hc hs K0
  go_wp2
  go_ret
  exact ⟨rfl, AN.out⟩

set_option maxRecDepth 8000 in
theorem law_heldTblO (ver : Int) (v : Value) (l : List Blk) (fp : List Nat) (k0 : Int) (w : World) (hn : l.length ≤ 1048576) (hE : markEnd k0 l ≤ 1099511627776) (hk0 : 0 ≤ k0) (hv : SliceRep blkTy w v (markBlks k0 l) fp) :
    Calls Try.prog 20 #[.agg #[.int .i64 ver, v], .int .i64 k0] w fun e w' => e = .returned (.int .i64 (markEnd k0 l)) ∧ Below w.heap.size w w' := by
  obtain ⟨ao, cap, rfl⟩ := hv.val
  have HV := Lib.hid hv
  have HE := Lib.hid hE
  have z := markEnd_ge l k0
  clear hv hE
  obtain ⟨q, hq⟩ : ∃ q, q = markEnd k0 l := ⟨_, rfl⟩
  rw [← hq] at z ⊢
  have z0 : ¬ q < 0 := by omega
  have zd : decide (q < 0) = false := decide_eq_false z0
  have HQ := Lib.hid hq
  obtain ⟨n, hn'⟩ : ∃ n, n = (markBlks k0 l).length := ⟨_, rfl⟩
  rw [← hn'] at HV ⊢
  clear hq hn'
  go_enter Try.func20, Try.ntmps20
  go_wp2_with fail
  have K0 := (Kept.start w).alloc2 (.int .i64 ver) (.slice ao n cap) 32 _ rfl
  refine (law_heldBlksO _ l fp k0 _ hn HE.out hk0 (HV.out.step K0.1)).mono ?_
  rintro e w1 ⟨rfl, rfl⟩
  rw [← HQ.out]
  go_wp2
  go_ret
  exact ⟨rfl, K0.1⟩
end Go.Proofs.Ytcfcohnkkgickaa

namespace Go.Proofs.Ytcfcohnkkgickaa
open Go.RowKit Num

/-- How many rows the first blocks have. -/
def rowsN (B : Nat → Blk) : Nat → Nat
  | 0 => 0
  | n + 1 => rowsN B n + (B n).rows.length
theorem markEnd_lst (B : Nat → Blk) (k : Int) : ∀ n, markEnd k (lstB n B) = k + (n : Int) + 5 * (rowsN B n : Int)
  | 0 => by simp [lstB, markEnd, rowsN]
  | n + 1 => by
    rw [lstB_succ, markEnd_app, markEnd_lst B k n, rowsN]
    simp only [markEnd]
    omega

/-- What szBlockS answers: -1, or what is left; then every slice is short, and so are all the rows. -/
def SzPost2 (L : Int) (n : Nat) (B : Nat → Blk) (w : World) (e : Ending) (w' : World) : Prop :=
  (∃ r : Int, e = .returned (.int .i64 r) ∧ (r = -1 ∨ (0 ≤ r ∧ r ≤ L ∧ n ≤ 1048576 ∧ rowsN B n ≤ 1048576 ∧ ∀ k, k < n → (B k).rows.length ≤ 1048576))) ∧ Below w.heap.size w w'

set_option maxRecDepth 8000 in
set_option maxHeartbeats 3200000 in
theorem law_szBlks2 (L : Int) (ao : Option Addr) (n cap : Nat) (B : Nat → Blk) (w : World) (h0 : 0 ≤ L) (hL : L ≤ 1048576) (hm : n ≤ maxLen) (hA : BlksArg w ao n B) :
    Calls Try.prog 74 #[.slice ao n cap, .int .i64 L] w (SzPost2 L n B w) := by
  have hmI : (n : Int) ≤ 9223372036854775807 := by unfold maxLen at hm; omega
  have HA := Lib.hid hA
  clear hA
  by_cases hbig : L < (n : Int)
  · have h2 : (L - (n : Int)) < 0 := by omega
    have h3 : decide ((L - (n : Int)) < 0) = true := decide_eq_true h2
    go_enter Try.func74, Try.ntmps74
    go_wp2
    go_ret
    exact ⟨⟨-1, rfl, .inl rfl⟩, Below.refl _ _⟩
  · have hn : n ≤ 1048576 := by omega
    have hnI : (n : Int) ≤ 1048576 := by omega
    have h2 : ¬ (L - (n : Int)) < 0 := by omega
    have h3 : decide ((L - (n : Int)) < 0) = false := decide_eq_false h2
    go_enter Try.func74, Try.ntmps74
    go_wp2_with fail
    go_loopw [1, 5] (fun lv iv wr => ∃ (k : Nat) (r : Int), k ≤ n ∧ iv = .int .i64 k ∧ lv = .int .i64 r ∧ 0 ≤ r ∧ r + (rowsN B k : Int) ≤ L ∧ Hid (∀ j, j < k → (B j).rows.length ≤ 1048576) ∧ Hid (Below w.heap.size w wr)) (fun _ iv _ => n - (intOf iv).toNat)
    case atStart => exact ⟨0, L - (n : Int), Nat.zero_le _, rfl, rfl, by omega, by simp only [rowsN]; omega, (fun j hj => by omega), Below.refl _ _⟩
    case round =>
      obtain ⟨k, r, hk, rfl, rfl, hr0, hr1, HS, HZ⟩ := hrel
      by_cases hlt : k < n
      · have hkI : (k : Int) < (n : Int) := by omega
        rcases HA.out.below HZ.out with h9 | ⟨x, rfl, hxb, hrow⟩
        · omega
        · obtain ⟨rao, rn, rcap, R, c0, c1, _, hrm, hbr⟩ := hrow k hlt
          have hrl : (B k).rows.length = rn := by rw [hbr, lst_len]
          have hrm2 : rn ≤ 9223372036854775807 := by unfold maxLen at hrm; omega
          have hrI : (rn : Int) ≤ 9223372036854775807 := by omega
          have hrL : r ≤ L := by omega
          by_cases hb1 : r < (rn : Int)
          · clear hrow hbr hrl
            go_wp2_with fail
            refine (law_szbL_big r _ rao rn rcap _ hr0 (by omega) hb1 hrm2).mono ?_
            rintro e w1 ⟨rfl, hb⟩
            have HB := Lib.hid (HZ.out.trans (hb.mono HZ.out.size))
            clear hb c0 c1
            go_wp2
            go_ret
            exact ⟨⟨-1, rfl, .inl rfl⟩, HB.out⟩
          · have HS2 := Lib.hid (show ∀ j, j < k + 1 → (B j).rows.length ≤ 1048576 from fun j hj => by
              by_cases e : j < k
              · exact HS.out j e
              · obtain rfl : j = k := by omega
                rw [hrl]; omega)
            have z1 : ¬ (r - (rn : Int)) < 0 := by omega
            have z2 : decide ((r - (rn : Int)) < 0) = false := decide_eq_false z1
            have z3 : 0 ≤ r - (rn : Int) := by omega
            have z4 := Lib.hid (show (r - (rn : Int)) + (rowsN B (k + 1) : Int) ≤ L from by simp only [rowsN, hrl]; omega)
            clear hrow hbr hrl hr1
            go_wp2_with fail
            refine (law_szbL r _ rao rn rcap _ hr0 (by omega) (by omega)).mono ?_
            rintro e w1 ⟨rfl, hb⟩
            have HB := Lib.hid (HZ.out.trans (hb.mono HZ.out.size))
            clear hb c0 c1
            go_wp2
            go_roundw
            case rel => exact ⟨k + 1, r - (rn : Int), by omega, by go_num, rfl, z3, z4.out, HS2, HB⟩
            case measure => simp [intOf]; omega
      · obtain rfl : k = n := by omega
        have hsd : decide ((k : Int) < (k : Int)) = false := decide_eq_false (by omega)
        go_wp2
        go_ret
        exact ⟨⟨r, rfl, .inr ⟨hr0, by omega, hn, by omega, HS.out⟩⟩, HZ.out⟩

set_option maxRecDepth 8000 in
theorem law_szTbl2 (L : Int) (ver : Int) (ao : Option Addr) (n cap : Nat) (B : Nat → Blk) (w : World) (h0 : 0 ≤ L) (hL : L ≤ 1048576) (hm : n ≤ maxLen) (hA : BlksArg w ao n B) :
    Calls Try.prog 13 #[.agg #[.int .i64 ver, .slice ao n cap], .int .i64 L] w (SzPost2 L n B w) := by
  have HA := Lib.hid hA
  clear hA
  go_enter Try.func13, Try.ntmps13
  go_wp2_with fail
  have K0 := (Kept.start w).alloc2 (.int .i64 ver) (.slice ao n cap) 24 _ rfl
  refine (law_szBlks2 L ao n cap B _ h0 hL hm (HA.out.below K0.1)).mono ?_
  rintro e w1 ⟨⟨r, rfl, hr⟩, hb⟩
  have K1 := K0.step hb
  clear hb K0
  rcases hr with rfl | ⟨hr0, hr1, hr2⟩
  · go_wp2
    go_ret
    exact ⟨⟨-1, rfl, .inl rfl⟩, K1.1⟩
  · have z1 : ¬ r < 0 := by omega
    have z2 : decide (r < 0) = false := decide_eq_false z1
    have H2 := Lib.hid hr2
    clear hr2
    go_wp2
    go_ret
    exact ⟨⟨r, rfl, .inr ⟨hr0, hr1, H2.out⟩⟩, K1.1⟩
end Go.Proofs.Ytcfcohnkkgickaa

namespace Go.Proofs.Ytcfcohnkkgickaa
open Go.RowKit Num

/-- The first index for which p holds, or -1. -/
def FirstAns (p : Nat → Prop) (n : Nat) (v : Int) : Prop := (∃ k : Nat, k < n ∧ p k ∧ (∀ j, j < k → ¬ p j) ∧ v = (k : Int)) ∨ ((∀ j, j < n → ¬ p j) ∧ v = -1)
theorem FirstAns_unique {p : Nat → Prop} {n : Nat} {v v' : Int} (h : FirstAns p n v) (h' : FirstAns p n v') : v = v' := by
  rcases h with ⟨k, hk, he, hl, rfl⟩ | ⟨hl, rfl⟩ <;> rcases h' with ⟨k', hk', he', hl', rfl⟩ | ⟨hl', rfl⟩
  · have h1 : ¬ k < k' := fun h => hl' k h he
    have h2 : ¬ k' < k := fun h => hl k' h he'
    omega
  · exact absurd he (hl' k hk)
  · exact absurd he' (hl k' hk')
  · rfl
theorem FirstAns.rng {p : Nat → Prop} {n : Nat} {v : Int} (h : FirstAns p n v) : -1 ≤ v ∧ v < n := by
  rcases h with ⟨k, hk, _, _, rfl⟩ | ⟨_, rfl⟩ <;> omega
def FirstPost (p : Nat → Prop) (n : Nat) (w : World) (e : Ending) (w' : World) : Prop := (∃ v : Int, FirstAns p n v ∧ e = .returned (.int .i64 v)) ∧ Below w.heap.size w w'

/-- Blocks as a function. -/
def Bn (l : List Blk) : Nat → Blk := fun k => l.getD k ⟨0, []⟩
theorem Bn_at {l : List Blk} {k : Nat} (hk : k < l.length) : Bn l k = l[k] := by unfold Bn; rw [List.getD_eq_getElem?_getD, List.getElem?_eq_getElem hk]; rfl
theorem BlksVal.head {w : World} {ao : Option Addr} {l : List Blk} {n : Nat} (h : BlksVal w ao l) (hl : l.length = n) (hn : 0 < n) : ∃ g, ao = some ⟨g, 0, none⟩ ∧ g < w.heap.size ∧ ∀ k, k < n → BlkVal w g k (Bn l k) := by
  rcases h with h | ⟨g, e, hg, h⟩
  · omega
  · exact ⟨g, e, hg, fun k hk => by rw [Bn_at (by omega)]; exact h k (by omega)⟩

/-- A row with this ID is among the rows. -/
def HasRow (l : List Rw) (x : Int) : Prop := ∃ j, j < l.length ∧ (Rn l j).i = x
theorem hasRow_fd {l : List Rw} {x v : Int} (h : FdAns (Rn l) x l.length v) : 0 ≤ v ↔ HasRow l x := by
  rcases h with ⟨k, hk, he, _, rfl⟩ | ⟨hl, rfl⟩
  · exact ⟨fun _ => ⟨k, hk, he⟩, fun _ => by omega⟩
  · exact ⟨fun h => by omega, fun ⟨j, hj, he⟩ => absurd he (hl j hj)⟩

set_option maxRecDepth 8000 in
set_option maxHeartbeats 3200000 in
theorem spec_bor (ver id : Int) (ao : Option Addr) (n cap : Nat) (l : List Blk) (w : World) (hl : l.length = n) (hn : n ≤ 1048576) (hr : ∀ k, k < n → (Bn l k).rows.length ≤ 1048576) (hV : BlksVal w ao l) :
    Calls Try.prog 78 #[.agg #[.int .i64 ver, .slice ao n cap], .int .i64 id] w (FirstPost (fun k => HasRow (Bn l k).rows id) n w) := by
  have HV := Lib.hid hV
  have HL := Lib.hid hl
  have HR := Lib.hid hr
  clear hV hl hr
  have hnI : (n : Int) ≤ 1048576 := by omega
  go_enter Try.func78, Try.ntmps78
  go_wp2_with fail
  have K0 := (Kept.start w).alloc2 (.int .i64 ver) (.slice ao n cap) 32 _ rfl
  go_loopw [5] (fun iv wr => ∃ k : Nat, k ≤ n ∧ iv = .int .i64 k ∧ Hid (∀ j, j < k → ¬ HasRow (Bn l j).rows id) ∧ Hid (Kept w wr [(⟨w.heap.size, 0, none⟩, .int .i64 ver), (⟨w.heap.size, 1, none⟩, .slice ao n cap)])) (fun iv _ => n - (intOf iv).toNat)
  case atStart => exact ⟨0, Nat.zero_le _, rfl, (fun j hj => by omega), K0⟩
  case round =>
    obtain ⟨k, hk, rfl, HA, HK⟩ := hrel
    have b1 := HK.out.get 1 rfl
    by_cases hlt : k < n
    · have hkI : (k : Int) < (n : Int) := by omega
      obtain ⟨g, rfl, hg, hB⟩ := (HV.out.below HK.out.1).head HL.out (by omega)
      obtain ⟨rao, rcap, c0, c1, hRV⟩ := hB k hlt
      have hrl := HR.out k hlt
      obtain ⟨bk, hbk⟩ : ∃ bk, bk = Bn l k := ⟨_, rfl⟩
      rw [← hbk] at c0 c1 hRV hrl
      have FD := Lib.hid (spec_fdV rao bk.rows.length rcap id (Rn bk.rows) wr hrl (by
        rcases hRV with h | ⟨g, e, _, h⟩
        · exact .inl h
        · exact .inr ⟨g, e, h⟩))
      have HBK := Lib.hid hbk
      clear hB hRV hbk
      go_wp2_with fail
      refine FD.out.mono ?_
      rintro e w1 ⟨v, hv, rfl, hb⟩
      have K1 := Lib.hid (HK.out.step hb)
      have HI := hasRow_fd hv
      by_cases h0 : 0 ≤ v
      · have hd : decide (0 ≤ v) = true := decide_eq_true h0
        have AN := Lib.hid (show FirstAns (fun k => HasRow (Bn l k).rows id) n (k : Int) from .inl ⟨k, hlt, (by show HasRow (Bn l k).rows id; rw [← HBK.out]; exact HI.1 h0), HA.out, rfl⟩)
        clear hv HI hb b1 c0 c1
        go_wp2
        go_ret
        exact ⟨⟨_, AN.out, rfl⟩, K1.out.1⟩
      · have hd : decide (0 ≤ v) = false := decide_eq_false h0
        have HN := Lib.hid (show ∀ j, j < k + 1 → ¬ HasRow (Bn l j).rows id from fun j hj => by
          by_cases h : j < k
          · exact HA.out j h
          · obtain rfl : j = k := by omega
            rw [← HBK.out]; exact fun h => h0 (HI.2 h))
        clear hv HI hb b1 c0 c1
        go_wp2
        go_roundw
        case rel => exact ⟨k + 1, by omega, by go_num, HN, K1⟩
        case measure => simp [intOf]; omega
    · obtain rfl : k = n := by omega
      have hsd : decide ((k : Int) < (k : Int)) = false := decide_eq_false (by omega)
      go_wp2
      go_ret
      exact ⟨⟨-1, .inr ⟨HA.out, rfl⟩, rfl⟩, HK.out.1⟩
end Go.Proofs.Ytcfcohnkkgickaa

namespace Go.Proofs.Ytcfcohnkkgickaa
open Go.RowKit
theorem kn2_at {W w w' : World} {a0 a1 : Addr} {v0 v1 : Value} {l : List (Addr × Value)} (h : Kept W w ((a0, v0) :: (a1, v1) :: l)) (hb : Below w.heap.size w w') :
    w'.cell? a0 = some v0 ∧ w'.cell? a1 = some v1 ∧ Below w.heap.size w w' :=
  have k := h.step hb
  ⟨k.get 0 rfl, k.get 1 rfl, hb⟩
theorem kn2_b {w w' : World} {p0 p1 : Prop} (q : p0 ∧ p1 ∧ Below w.heap.size w w') : Below w.heap.size w w' := q.2.2
theorem kn2_keep {W w w' w1 : World} {a0 a1 : Addr} {v0 v1 : Value} {l : List (Addr × Value)} (h : Kept W w ((a0, v0) :: (a1, v1) :: l)) (q : w'.cell? a0 = some v0 ∧ w'.cell? a1 = some v1 ∧ Below w.heap.size w w') (hb : Below w'.heap.size w' w1) :
    w1.cell? a0 = some v0 ∧ w1.cell? a1 = some v1 ∧ Below w.heap.size w w1 := kn2_at h ((kn2_b q).trans (hb.mono (kn2_b q).size))
theorem kn3_at {W w w' : World} {a0 a1 a2 : Addr} {v0 v1 v2 : Value} {l : List (Addr × Value)} (h : Kept W w ((a0, v0) :: (a1, v1) :: (a2, v2) :: l)) (hb : Below w.heap.size w w') :
    w'.cell? a0 = some v0 ∧ w'.cell? a1 = some v1 ∧ w'.cell? a2 = some v2 ∧ Below w.heap.size w w' :=
  have k := h.step hb
  ⟨k.get 0 rfl, k.get 1 rfl, k.get 2 rfl, hb⟩
theorem kn3_b {w w' : World} {p0 p1 p2 : Prop} (q : p0 ∧ p1 ∧ p2 ∧ Below w.heap.size w w') : Below w.heap.size w w' := q.2.2.2
theorem kn3_keep {W w w' w1 : World} {a0 a1 a2 : Addr} {v0 v1 v2 : Value} {l : List (Addr × Value)} (h : Kept W w ((a0, v0) :: (a1, v1) :: (a2, v2) :: l)) (q : w'.cell? a0 = some v0 ∧ w'.cell? a1 = some v1 ∧ w'.cell? a2 = some v2 ∧ Below w.heap.size w w') (hb : Below w'.heap.size w' w1) :
    w1.cell? a0 = some v0 ∧ w1.cell? a1 = some v1 ∧ w1.cell? a2 = some v2 ∧ Below w.heap.size w w1 := kn3_at h ((kn3_b q).trans (hb.mono (kn3_b q).size))
theorem kn4_at {W w w' : World} {a0 a1 a2 a3 : Addr} {v0 v1 v2 v3 : Value} {l : List (Addr × Value)} (h : Kept W w ((a0, v0) :: (a1, v1) :: (a2, v2) :: (a3, v3) :: l)) (hb : Below w.heap.size w w') :
    w'.cell? a0 = some v0 ∧ w'.cell? a1 = some v1 ∧ w'.cell? a2 = some v2 ∧ w'.cell? a3 = some v3 ∧ Below w.heap.size w w' :=
  have k := h.step hb
  ⟨k.get 0 rfl, k.get 1 rfl, k.get 2 rfl, k.get 3 rfl, hb⟩
theorem kn4_b {w w' : World} {p0 p1 p2 p3 : Prop} (q : p0 ∧ p1 ∧ p2 ∧ p3 ∧ Below w.heap.size w w') : Below w.heap.size w w' := q.2.2.2.2
theorem kn4_keep {W w w' w1 : World} {a0 a1 a2 a3 : Addr} {v0 v1 v2 v3 : Value} {l : List (Addr × Value)} (h : Kept W w ((a0, v0) :: (a1, v1) :: (a2, v2) :: (a3, v3) :: l)) (q : w'.cell? a0 = some v0 ∧ w'.cell? a1 = some v1 ∧ w'.cell? a2 = some v2 ∧ w'.cell? a3 = some v3 ∧ Below w.heap.size w w') (hb : Below w'.heap.size w' w1) :
    w1.cell? a0 = some v0 ∧ w1.cell? a1 = some v1 ∧ w1.cell? a2 = some v2 ∧ w1.cell? a3 = some v3 ∧ Below w.heap.size w w1 := kn4_at h ((kn4_b q).trans (hb.mono (kn4_b q).size))
theorem kn5_at {W w w' : World} {a0 a1 a2 a3 a4 : Addr} {v0 v1 v2 v3 v4 : Value} {l : List (Addr × Value)} (h : Kept W w ((a0, v0) :: (a1, v1) :: (a2, v2) :: (a3, v3) :: (a4, v4) :: l)) (hb : Below w.heap.size w w') :
    w'.cell? a0 = some v0 ∧ w'.cell? a1 = some v1 ∧ w'.cell? a2 = some v2 ∧ w'.cell? a3 = some v3 ∧ w'.cell? a4 = some v4 ∧ Below w.heap.size w w' :=
  have k := h.step hb
  ⟨k.get 0 rfl, k.get 1 rfl, k.get 2 rfl, k.get 3 rfl, k.get 4 rfl, hb⟩
theorem kn5_b {w w' : World} {p0 p1 p2 p3 p4 : Prop} (q : p0 ∧ p1 ∧ p2 ∧ p3 ∧ p4 ∧ Below w.heap.size w w') : Below w.heap.size w w' := q.2.2.2.2.2
theorem kn5_keep {W w w' w1 : World} {a0 a1 a2 a3 a4 : Addr} {v0 v1 v2 v3 v4 : Value} {l : List (Addr × Value)} (h : Kept W w ((a0, v0) :: (a1, v1) :: (a2, v2) :: (a3, v3) :: (a4, v4) :: l)) (q : w'.cell? a0 = some v0 ∧ w'.cell? a1 = some v1 ∧ w'.cell? a2 = some v2 ∧ w'.cell? a3 = some v3 ∧ w'.cell? a4 = some v4 ∧ Below w.heap.size w w') (hb : Below w'.heap.size w' w1) :
    w1.cell? a0 = some v0 ∧ w1.cell? a1 = some v1 ∧ w1.cell? a2 = some v2 ∧ w1.cell? a3 = some v3 ∧ w1.cell? a4 = some v4 ∧ Below w.heap.size w w1 := kn5_at h ((kn5_b q).trans (hb.mono (kn5_b q).size))
theorem kn6_at {W w w' : World} {a0 a1 a2 a3 a4 a5 : Addr} {v0 v1 v2 v3 v4 v5 : Value} {l : List (Addr × Value)} (h : Kept W w ((a0, v0) :: (a1, v1) :: (a2, v2) :: (a3, v3) :: (a4, v4) :: (a5, v5) :: l)) (hb : Below w.heap.size w w') :
    w'.cell? a0 = some v0 ∧ w'.cell? a1 = some v1 ∧ w'.cell? a2 = some v2 ∧ w'.cell? a3 = some v3 ∧ w'.cell? a4 = some v4 ∧ w'.cell? a5 = some v5 ∧ Below w.heap.size w w' :=
  have k := h.step hb
  ⟨k.get 0 rfl, k.get 1 rfl, k.get 2 rfl, k.get 3 rfl, k.get 4 rfl, k.get 5 rfl, hb⟩
theorem kn6_b {w w' : World} {p0 p1 p2 p3 p4 p5 : Prop} (q : p0 ∧ p1 ∧ p2 ∧ p3 ∧ p4 ∧ p5 ∧ Below w.heap.size w w') : Below w.heap.size w w' := q.2.2.2.2.2.2
theorem kn6_keep {W w w' w1 : World} {a0 a1 a2 a3 a4 a5 : Addr} {v0 v1 v2 v3 v4 v5 : Value} {l : List (Addr × Value)} (h : Kept W w ((a0, v0) :: (a1, v1) :: (a2, v2) :: (a3, v3) :: (a4, v4) :: (a5, v5) :: l)) (q : w'.cell? a0 = some v0 ∧ w'.cell? a1 = some v1 ∧ w'.cell? a2 = some v2 ∧ w'.cell? a3 = some v3 ∧ w'.cell? a4 = some v4 ∧ w'.cell? a5 = some v5 ∧ Below w.heap.size w w') (hb : Below w'.heap.size w' w1) :
    w1.cell? a0 = some v0 ∧ w1.cell? a1 = some v1 ∧ w1.cell? a2 = some v2 ∧ w1.cell? a3 = some v3 ∧ w1.cell? a4 = some v4 ∧ w1.cell? a5 = some v5 ∧ Below w.heap.size w w1 := kn6_at h ((kn6_b q).trans (hb.mono (kn6_b q).size))
theorem kn7_at {W w w' : World} {a0 a1 a2 a3 a4 a5 a6 : Addr} {v0 v1 v2 v3 v4 v5 v6 : Value} {l : List (Addr × Value)} (h : Kept W w ((a0, v0) :: (a1, v1) :: (a2, v2) :: (a3, v3) :: (a4, v4) :: (a5, v5) :: (a6, v6) :: l)) (hb : Below w.heap.size w w') :
    w'.cell? a0 = some v0 ∧ w'.cell? a1 = some v1 ∧ w'.cell? a2 = some v2 ∧ w'.cell? a3 = some v3 ∧ w'.cell? a4 = some v4 ∧ w'.cell? a5 = some v5 ∧ w'.cell? a6 = some v6 ∧ Below w.heap.size w w' :=
  have k := h.step hb
  ⟨k.get 0 rfl, k.get 1 rfl, k.get 2 rfl, k.get 3 rfl, k.get 4 rfl, k.get 5 rfl, k.get 6 rfl, hb⟩
theorem kn7_b {w w' : World} {p0 p1 p2 p3 p4 p5 p6 : Prop} (q : p0 ∧ p1 ∧ p2 ∧ p3 ∧ p4 ∧ p5 ∧ p6 ∧ Below w.heap.size w w') : Below w.heap.size w w' := q.2.2.2.2.2.2.2
theorem kn7_keep {W w w' w1 : World} {a0 a1 a2 a3 a4 a5 a6 : Addr} {v0 v1 v2 v3 v4 v5 v6 : Value} {l : List (Addr × Value)} (h : Kept W w ((a0, v0) :: (a1, v1) :: (a2, v2) :: (a3, v3) :: (a4, v4) :: (a5, v5) :: (a6, v6) :: l)) (q : w'.cell? a0 = some v0 ∧ w'.cell? a1 = some v1 ∧ w'.cell? a2 = some v2 ∧ w'.cell? a3 = some v3 ∧ w'.cell? a4 = some v4 ∧ w'.cell? a5 = some v5 ∧ w'.cell? a6 = some v6 ∧ Below w.heap.size w w') (hb : Below w'.heap.size w' w1) :
    w1.cell? a0 = some v0 ∧ w1.cell? a1 = some v1 ∧ w1.cell? a2 = some v2 ∧ w1.cell? a3 = some v3 ∧ w1.cell? a4 = some v4 ∧ w1.cell? a5 = some v5 ∧ w1.cell? a6 = some v6 ∧ Below w.heap.size w w1 := kn7_at h ((kn7_b q).trans (hb.mono (kn7_b q).size))
theorem kn8_at {W w w' : World} {a0 a1 a2 a3 a4 a5 a6 a7 : Addr} {v0 v1 v2 v3 v4 v5 v6 v7 : Value} {l : List (Addr × Value)} (h : Kept W w ((a0, v0) :: (a1, v1) :: (a2, v2) :: (a3, v3) :: (a4, v4) :: (a5, v5) :: (a6, v6) :: (a7, v7) :: l)) (hb : Below w.heap.size w w') :
    w'.cell? a0 = some v0 ∧ w'.cell? a1 = some v1 ∧ w'.cell? a2 = some v2 ∧ w'.cell? a3 = some v3 ∧ w'.cell? a4 = some v4 ∧ w'.cell? a5 = some v5 ∧ w'.cell? a6 = some v6 ∧ w'.cell? a7 = some v7 ∧ Below w.heap.size w w' :=
  have k := h.step hb
  ⟨k.get 0 rfl, k.get 1 rfl, k.get 2 rfl, k.get 3 rfl, k.get 4 rfl, k.get 5 rfl, k.get 6 rfl, k.get 7 rfl, hb⟩
theorem kn8_b {w w' : World} {p0 p1 p2 p3 p4 p5 p6 p7 : Prop} (q : p0 ∧ p1 ∧ p2 ∧ p3 ∧ p4 ∧ p5 ∧ p6 ∧ p7 ∧ Below w.heap.size w w') : Below w.heap.size w w' := q.2.2.2.2.2.2.2.2
theorem kn8_keep {W w w' w1 : World} {a0 a1 a2 a3 a4 a5 a6 a7 : Addr} {v0 v1 v2 v3 v4 v5 v6 v7 : Value} {l : List (Addr × Value)} (h : Kept W w ((a0, v0) :: (a1, v1) :: (a2, v2) :: (a3, v3) :: (a4, v4) :: (a5, v5) :: (a6, v6) :: (a7, v7) :: l)) (q : w'.cell? a0 = some v0 ∧ w'.cell? a1 = some v1 ∧ w'.cell? a2 = some v2 ∧ w'.cell? a3 = some v3 ∧ w'.cell? a4 = some v4 ∧ w'.cell? a5 = some v5 ∧ w'.cell? a6 = some v6 ∧ w'.cell? a7 = some v7 ∧ Below w.heap.size w w') (hb : Below w'.heap.size w' w1) :
    w1.cell? a0 = some v0 ∧ w1.cell? a1 = some v1 ∧ w1.cell? a2 = some v2 ∧ w1.cell? a3 = some v3 ∧ w1.cell? a4 = some v4 ∧ w1.cell? a5 = some v5 ∧ w1.cell? a6 = some v6 ∧ w1.cell? a7 = some v7 ∧ Below w.heap.size w w1 := kn8_at h ((kn8_b q).trans (hb.mono (kn8_b q).size))
theorem kn9_at {W w w' : World} {a0 a1 a2 a3 a4 a5 a6 a7 a8 : Addr} {v0 v1 v2 v3 v4 v5 v6 v7 v8 : Value} {l : List (Addr × Value)} (h : Kept W w ((a0, v0) :: (a1, v1) :: (a2, v2) :: (a3, v3) :: (a4, v4) :: (a5, v5) :: (a6, v6) :: (a7, v7) :: (a8, v8) :: l)) (hb : Below w.heap.size w w') :
    w'.cell? a0 = some v0 ∧ w'.cell? a1 = some v1 ∧ w'.cell? a2 = some v2 ∧ w'.cell? a3 = some v3 ∧ w'.cell? a4 = some v4 ∧ w'.cell? a5 = some v5 ∧ w'.cell? a6 = some v6 ∧ w'.cell? a7 = some v7 ∧ w'.cell? a8 = some v8 ∧ Below w.heap.size w w' :=
  have k := h.step hb
  ⟨k.get 0 rfl, k.get 1 rfl, k.get 2 rfl, k.get 3 rfl, k.get 4 rfl, k.get 5 rfl, k.get 6 rfl, k.get 7 rfl, k.get 8 rfl, hb⟩
theorem kn9_b {w w' : World} {p0 p1 p2 p3 p4 p5 p6 p7 p8 : Prop} (q : p0 ∧ p1 ∧ p2 ∧ p3 ∧ p4 ∧ p5 ∧ p6 ∧ p7 ∧ p8 ∧ Below w.heap.size w w') : Below w.heap.size w w' := q.2.2.2.2.2.2.2.2.2
theorem kn9_keep {W w w' w1 : World} {a0 a1 a2 a3 a4 a5 a6 a7 a8 : Addr} {v0 v1 v2 v3 v4 v5 v6 v7 v8 : Value} {l : List (Addr × Value)} (h : Kept W w ((a0, v0) :: (a1, v1) :: (a2, v2) :: (a3, v3) :: (a4, v4) :: (a5, v5) :: (a6, v6) :: (a7, v7) :: (a8, v8) :: l)) (q : w'.cell? a0 = some v0 ∧ w'.cell? a1 = some v1 ∧ w'.cell? a2 = some v2 ∧ w'.cell? a3 = some v3 ∧ w'.cell? a4 = some v4 ∧ w'.cell? a5 = some v5 ∧ w'.cell? a6 = some v6 ∧ w'.cell? a7 = some v7 ∧ w'.cell? a8 = some v8 ∧ Below w.heap.size w w') (hb : Below w'.heap.size w' w1) :
    w1.cell? a0 = some v0 ∧ w1.cell? a1 = some v1 ∧ w1.cell? a2 = some v2 ∧ w1.cell? a3 = some v3 ∧ w1.cell? a4 = some v4 ∧ w1.cell? a5 = some v5 ∧ w1.cell? a6 = some v6 ∧ w1.cell? a7 = some v7 ∧ w1.cell? a8 = some v8 ∧ Below w.heap.size w w1 := kn9_at h ((kn9_b q).trans (hb.mono (kn9_b q).size))
theorem kn10_at {W w w' : World} {a0 a1 a2 a3 a4 a5 a6 a7 a8 a9 : Addr} {v0 v1 v2 v3 v4 v5 v6 v7 v8 v9 : Value} {l : List (Addr × Value)} (h : Kept W w ((a0, v0) :: (a1, v1) :: (a2, v2) :: (a3, v3) :: (a4, v4) :: (a5, v5) :: (a6, v6) :: (a7, v7) :: (a8, v8) :: (a9, v9) :: l)) (hb : Below w.heap.size w w') :
    w'.cell? a0 = some v0 ∧ w'.cell? a1 = some v1 ∧ w'.cell? a2 = some v2 ∧ w'.cell? a3 = some v3 ∧ w'.cell? a4 = some v4 ∧ w'.cell? a5 = some v5 ∧ w'.cell? a6 = some v6 ∧ w'.cell? a7 = some v7 ∧ w'.cell? a8 = some v8 ∧ w'.cell? a9 = some v9 ∧ Below w.heap.size w w' :=
  have k := h.step hb
  ⟨k.get 0 rfl, k.get 1 rfl, k.get 2 rfl, k.get 3 rfl, k.get 4 rfl, k.get 5 rfl, k.get 6 rfl, k.get 7 rfl, k.get 8 rfl, k.get 9 rfl, hb⟩
theorem kn10_b {w w' : World} {p0 p1 p2 p3 p4 p5 p6 p7 p8 p9 : Prop} (q : p0 ∧ p1 ∧ p2 ∧ p3 ∧ p4 ∧ p5 ∧ p6 ∧ p7 ∧ p8 ∧ p9 ∧ Below w.heap.size w w') : Below w.heap.size w w' := q.2.2.2.2.2.2.2.2.2.2
theorem kn10_keep {W w w' w1 : World} {a0 a1 a2 a3 a4 a5 a6 a7 a8 a9 : Addr} {v0 v1 v2 v3 v4 v5 v6 v7 v8 v9 : Value} {l : List (Addr × Value)} (h : Kept W w ((a0, v0) :: (a1, v1) :: (a2, v2) :: (a3, v3) :: (a4, v4) :: (a5, v5) :: (a6, v6) :: (a7, v7) :: (a8, v8) :: (a9, v9) :: l)) (q : w'.cell? a0 = some v0 ∧ w'.cell? a1 = some v1 ∧ w'.cell? a2 = some v2 ∧ w'.cell? a3 = some v3 ∧ w'.cell? a4 = some v4 ∧ w'.cell? a5 = some v5 ∧ w'.cell? a6 = some v6 ∧ w'.cell? a7 = some v7 ∧ w'.cell? a8 = some v8 ∧ w'.cell? a9 = some v9 ∧ Below w.heap.size w w') (hb : Below w'.heap.size w' w1) :
    w1.cell? a0 = some v0 ∧ w1.cell? a1 = some v1 ∧ w1.cell? a2 = some v2 ∧ w1.cell? a3 = some v3 ∧ w1.cell? a4 = some v4 ∧ w1.cell? a5 = some v5 ∧ w1.cell? a6 = some v6 ∧ w1.cell? a7 = some v7 ∧ w1.cell? a8 = some v8 ∧ w1.cell? a9 = some v9 ∧ Below w.heap.size w w1 := kn10_at h ((kn10_b q).trans (hb.mono (kn10_b q).size))
theorem kn11_at {W w w' : World} {a0 a1 a2 a3 a4 a5 a6 a7 a8 a9 a10 : Addr} {v0 v1 v2 v3 v4 v5 v6 v7 v8 v9 v10 : Value} {l : List (Addr × Value)} (h : Kept W w ((a0, v0) :: (a1, v1) :: (a2, v2) :: (a3, v3) :: (a4, v4) :: (a5, v5) :: (a6, v6) :: (a7, v7) :: (a8, v8) :: (a9, v9) :: (a10, v10) :: l)) (hb : Below w.heap.size w w') :
    w'.cell? a0 = some v0 ∧ w'.cell? a1 = some v1 ∧ w'.cell? a2 = some v2 ∧ w'.cell? a3 = some v3 ∧ w'.cell? a4 = some v4 ∧ w'.cell? a5 = some v5 ∧ w'.cell? a6 = some v6 ∧ w'.cell? a7 = some v7 ∧ w'.cell? a8 = some v8 ∧ w'.cell? a9 = some v9 ∧ w'.cell? a10 = some v10 ∧ Below w.heap.size w w' :=
  have k := h.step hb
  ⟨k.get 0 rfl, k.get 1 rfl, k.get 2 rfl, k.get 3 rfl, k.get 4 rfl, k.get 5 rfl, k.get 6 rfl, k.get 7 rfl, k.get 8 rfl, k.get 9 rfl, k.get 10 rfl, hb⟩
theorem kn11_b {w w' : World} {p0 p1 p2 p3 p4 p5 p6 p7 p8 p9 p10 : Prop} (q : p0 ∧ p1 ∧ p2 ∧ p3 ∧ p4 ∧ p5 ∧ p6 ∧ p7 ∧ p8 ∧ p9 ∧ p10 ∧ Below w.heap.size w w') : Below w.heap.size w w' := q.2.2.2.2.2.2.2.2.2.2.2
theorem kn11_keep {W w w' w1 : World} {a0 a1 a2 a3 a4 a5 a6 a7 a8 a9 a10 : Addr} {v0 v1 v2 v3 v4 v5 v6 v7 v8 v9 v10 : Value} {l : List (Addr × Value)} (h : Kept W w ((a0, v0) :: (a1, v1) :: (a2, v2) :: (a3, v3) :: (a4, v4) :: (a5, v5) :: (a6, v6) :: (a7, v7) :: (a8, v8) :: (a9, v9) :: (a10, v10) :: l)) (q : w'.cell? a0 = some v0 ∧ w'.cell? a1 = some v1 ∧ w'.cell? a2 = some v2 ∧ w'.cell? a3 = some v3 ∧ w'.cell? a4 = some v4 ∧ w'.cell? a5 = some v5 ∧ w'.cell? a6 = some v6 ∧ w'.cell? a7 = some v7 ∧ w'.cell? a8 = some v8 ∧ w'.cell? a9 = some v9 ∧ w'.cell? a10 = some v10 ∧ Below w.heap.size w w') (hb : Below w'.heap.size w' w1) :
    w1.cell? a0 = some v0 ∧ w1.cell? a1 = some v1 ∧ w1.cell? a2 = some v2 ∧ w1.cell? a3 = some v3 ∧ w1.cell? a4 = some v4 ∧ w1.cell? a5 = some v5 ∧ w1.cell? a6 = some v6 ∧ w1.cell? a7 = some v7 ∧ w1.cell? a8 = some v8 ∧ w1.cell? a9 = some v9 ∧ w1.cell? a10 = some v10 ∧ Below w.heap.size w w1 := kn11_at h ((kn11_b q).trans (hb.mono (kn11_b q).size))
theorem kn12_at {W w w' : World} {a0 a1 a2 a3 a4 a5 a6 a7 a8 a9 a10 a11 : Addr} {v0 v1 v2 v3 v4 v5 v6 v7 v8 v9 v10 v11 : Value} {l : List (Addr × Value)} (h : Kept W w ((a0, v0) :: (a1, v1) :: (a2, v2) :: (a3, v3) :: (a4, v4) :: (a5, v5) :: (a6, v6) :: (a7, v7) :: (a8, v8) :: (a9, v9) :: (a10, v10) :: (a11, v11) :: l)) (hb : Below w.heap.size w w') :
    w'.cell? a0 = some v0 ∧ w'.cell? a1 = some v1 ∧ w'.cell? a2 = some v2 ∧ w'.cell? a3 = some v3 ∧ w'.cell? a4 = some v4 ∧ w'.cell? a5 = some v5 ∧ w'.cell? a6 = some v6 ∧ w'.cell? a7 = some v7 ∧ w'.cell? a8 = some v8 ∧ w'.cell? a9 = some v9 ∧ w'.cell? a10 = some v10 ∧ w'.cell? a11 = some v11 ∧ Below w.heap.size w w' :=
  have k := h.step hb
  ⟨k.get 0 rfl, k.get 1 rfl, k.get 2 rfl, k.get 3 rfl, k.get 4 rfl, k.get 5 rfl, k.get 6 rfl, k.get 7 rfl, k.get 8 rfl, k.get 9 rfl, k.get 10 rfl, k.get 11 rfl, hb⟩
theorem kn12_b {w w' : World} {p0 p1 p2 p3 p4 p5 p6 p7 p8 p9 p10 p11 : Prop} (q : p0 ∧ p1 ∧ p2 ∧ p3 ∧ p4 ∧ p5 ∧ p6 ∧ p7 ∧ p8 ∧ p9 ∧ p10 ∧ p11 ∧ Below w.heap.size w w') : Below w.heap.size w w' := q.2.2.2.2.2.2.2.2.2.2.2.2
theorem kn12_keep {W w w' w1 : World} {a0 a1 a2 a3 a4 a5 a6 a7 a8 a9 a10 a11 : Addr} {v0 v1 v2 v3 v4 v5 v6 v7 v8 v9 v10 v11 : Value} {l : List (Addr × Value)} (h : Kept W w ((a0, v0) :: (a1, v1) :: (a2, v2) :: (a3, v3) :: (a4, v4) :: (a5, v5) :: (a6, v6) :: (a7, v7) :: (a8, v8) :: (a9, v9) :: (a10, v10) :: (a11, v11) :: l)) (q : w'.cell? a0 = some v0 ∧ w'.cell? a1 = some v1 ∧ w'.cell? a2 = some v2 ∧ w'.cell? a3 = some v3 ∧ w'.cell? a4 = some v4 ∧ w'.cell? a5 = some v5 ∧ w'.cell? a6 = some v6 ∧ w'.cell? a7 = some v7 ∧ w'.cell? a8 = some v8 ∧ w'.cell? a9 = some v9 ∧ w'.cell? a10 = some v10 ∧ w'.cell? a11 = some v11 ∧ Below w.heap.size w w') (hb : Below w'.heap.size w' w1) :
    w1.cell? a0 = some v0 ∧ w1.cell? a1 = some v1 ∧ w1.cell? a2 = some v2 ∧ w1.cell? a3 = some v3 ∧ w1.cell? a4 = some v4 ∧ w1.cell? a5 = some v5 ∧ w1.cell? a6 = some v6 ∧ w1.cell? a7 = some v7 ∧ w1.cell? a8 = some v8 ∧ w1.cell? a9 = some v9 ∧ w1.cell? a10 = some v10 ∧ w1.cell? a11 = some v11 ∧ Below w.heap.size w w1 := kn12_at h ((kn12_b q).trans (hb.mono (kn12_b q).size))
theorem kn14_at {W w w' : World} {a0 a1 a2 a3 a4 a5 a6 a7 a8 a9 a10 a11 a12 a13 : Addr} {v0 v1 v2 v3 v4 v5 v6 v7 v8 v9 v10 v11 v12 v13 : Value} {l : List (Addr × Value)} (h : Kept W w ((a0, v0) :: (a1, v1) :: (a2, v2) :: (a3, v3) :: (a4, v4) :: (a5, v5) :: (a6, v6) :: (a7, v7) :: (a8, v8) :: (a9, v9) :: (a10, v10) :: (a11, v11) :: (a12, v12) :: (a13, v13) :: l)) (hb : Below w.heap.size w w') :
    w'.cell? a0 = some v0 ∧ w'.cell? a1 = some v1 ∧ w'.cell? a2 = some v2 ∧ w'.cell? a3 = some v3 ∧ w'.cell? a4 = some v4 ∧ w'.cell? a5 = some v5 ∧ w'.cell? a6 = some v6 ∧ w'.cell? a7 = some v7 ∧ w'.cell? a8 = some v8 ∧ w'.cell? a9 = some v9 ∧ w'.cell? a10 = some v10 ∧ w'.cell? a11 = some v11 ∧ w'.cell? a12 = some v12 ∧ w'.cell? a13 = some v13 ∧ Below w.heap.size w w' :=
  have k := h.step hb
  ⟨k.get 0 rfl, k.get 1 rfl, k.get 2 rfl, k.get 3 rfl, k.get 4 rfl, k.get 5 rfl, k.get 6 rfl, k.get 7 rfl, k.get 8 rfl, k.get 9 rfl, k.get 10 rfl, k.get 11 rfl, k.get 12 rfl, k.get 13 rfl, hb⟩
theorem kn14_b {w w' : World} {p0 p1 p2 p3 p4 p5 p6 p7 p8 p9 p10 p11 p12 p13 : Prop} (q : p0 ∧ p1 ∧ p2 ∧ p3 ∧ p4 ∧ p5 ∧ p6 ∧ p7 ∧ p8 ∧ p9 ∧ p10 ∧ p11 ∧ p12 ∧ p13 ∧ Below w.heap.size w w') : Below w.heap.size w w' := q.2.2.2.2.2.2.2.2.2.2.2.2.2.2
theorem kn14_keep {W w w' w1 : World} {a0 a1 a2 a3 a4 a5 a6 a7 a8 a9 a10 a11 a12 a13 : Addr} {v0 v1 v2 v3 v4 v5 v6 v7 v8 v9 v10 v11 v12 v13 : Value} {l : List (Addr × Value)} (h : Kept W w ((a0, v0) :: (a1, v1) :: (a2, v2) :: (a3, v3) :: (a4, v4) :: (a5, v5) :: (a6, v6) :: (a7, v7) :: (a8, v8) :: (a9, v9) :: (a10, v10) :: (a11, v11) :: (a12, v12) :: (a13, v13) :: l)) (q : w'.cell? a0 = some v0 ∧ w'.cell? a1 = some v1 ∧ w'.cell? a2 = some v2 ∧ w'.cell? a3 = some v3 ∧ w'.cell? a4 = some v4 ∧ w'.cell? a5 = some v5 ∧ w'.cell? a6 = some v6 ∧ w'.cell? a7 = some v7 ∧ w'.cell? a8 = some v8 ∧ w'.cell? a9 = some v9 ∧ w'.cell? a10 = some v10 ∧ w'.cell? a11 = some v11 ∧ w'.cell? a12 = some v12 ∧ w'.cell? a13 = some v13 ∧ Below w.heap.size w w') (hb : Below w'.heap.size w' w1) :
    w1.cell? a0 = some v0 ∧ w1.cell? a1 = some v1 ∧ w1.cell? a2 = some v2 ∧ w1.cell? a3 = some v3 ∧ w1.cell? a4 = some v4 ∧ w1.cell? a5 = some v5 ∧ w1.cell? a6 = some v6 ∧ w1.cell? a7 = some v7 ∧ w1.cell? a8 = some v8 ∧ w1.cell? a9 = some v9 ∧ w1.cell? a10 = some v10 ∧ w1.cell? a11 = some v11 ∧ w1.cell? a12 = some v12 ∧ w1.cell? a13 = some v13 ∧ Below w.heap.size w w1 := kn14_at h ((kn14_b q).trans (hb.mono (kn14_b q).size))
theorem kn2_alloc {W w w' : World} {a0 a1 : Addr} {v0 v1 : Value} {l : List (Addr × Value)} {o : Obj} (h : Kept W w ((a0, v0) :: (a1, v1) :: l)) (q : w'.cell? a0 = some v0 ∧ w'.cell? a1 = some v1 ∧ Below w.heap.size w w') :
    (w'.alloc o).cell? a0 = some v0 ∧ (w'.alloc o).cell? a1 = some v1 ∧ Below w.heap.size w (w'.alloc o) := kn2_at h ((kn2_b q).alloc (kn2_b q).size o)
theorem kn2_set {W w w' : World} {x y : Value} {g : Nat} {a0 a1 : Addr} {v0 v1 : Value} {l : List (Addr × Value)} (h : Kept W w ((a0, v0) :: (a1, v1) :: l)) (q : w'.cell? a0 = some v0 ∧ w'.cell? a1 = some v1 ∧ Below w.heap.size w w') (hg : w.heap.size ≤ g) :
    ((w'.setCell ⟨g, 0, none⟩ x).setCell ⟨g, 1, none⟩ y).cell? a0 = some v0 ∧ ((w'.setCell ⟨g, 0, none⟩ x).setCell ⟨g, 1, none⟩ y).cell? a1 = some v1 ∧ Below w.heap.size w ((w'.setCell ⟨g, 0, none⟩ x).setCell ⟨g, 1, none⟩ y) := kn2_at h (((kn2_b q).setCell hg x).setCell hg y)
theorem kn4_alloc {W w w' : World} {a0 a1 a2 a3 : Addr} {v0 v1 v2 v3 : Value} {l : List (Addr × Value)} {o : Obj} (h : Kept W w ((a0, v0) :: (a1, v1) :: (a2, v2) :: (a3, v3) :: l)) (q : w'.cell? a0 = some v0 ∧ w'.cell? a1 = some v1 ∧ w'.cell? a2 = some v2 ∧ w'.cell? a3 = some v3 ∧ Below w.heap.size w w') :
    (w'.alloc o).cell? a0 = some v0 ∧ (w'.alloc o).cell? a1 = some v1 ∧ (w'.alloc o).cell? a2 = some v2 ∧ (w'.alloc o).cell? a3 = some v3 ∧ Below w.heap.size w (w'.alloc o) := kn4_at h ((kn4_b q).alloc (kn4_b q).size o)
theorem kn4_set {W w w' : World} {x y : Value} {g : Nat} {a0 a1 a2 a3 : Addr} {v0 v1 v2 v3 : Value} {l : List (Addr × Value)} (h : Kept W w ((a0, v0) :: (a1, v1) :: (a2, v2) :: (a3, v3) :: l)) (q : w'.cell? a0 = some v0 ∧ w'.cell? a1 = some v1 ∧ w'.cell? a2 = some v2 ∧ w'.cell? a3 = some v3 ∧ Below w.heap.size w w') (hg : w.heap.size ≤ g) :
    ((w'.setCell ⟨g, 0, none⟩ x).setCell ⟨g, 1, none⟩ y).cell? a0 = some v0 ∧ ((w'.setCell ⟨g, 0, none⟩ x).setCell ⟨g, 1, none⟩ y).cell? a1 = some v1 ∧ ((w'.setCell ⟨g, 0, none⟩ x).setCell ⟨g, 1, none⟩ y).cell? a2 = some v2 ∧ ((w'.setCell ⟨g, 0, none⟩ x).setCell ⟨g, 1, none⟩ y).cell? a3 = some v3 ∧ Below w.heap.size w ((w'.setCell ⟨g, 0, none⟩ x).setCell ⟨g, 1, none⟩ y) := kn4_at h (((kn4_b q).setCell hg x).setCell hg y)
theorem kn9_alloc {W w w' : World} {a0 a1 a2 a3 a4 a5 a6 a7 a8 : Addr} {v0 v1 v2 v3 v4 v5 v6 v7 v8 : Value} {l : List (Addr × Value)} {o : Obj} (h : Kept W w ((a0, v0) :: (a1, v1) :: (a2, v2) :: (a3, v3) :: (a4, v4) :: (a5, v5) :: (a6, v6) :: (a7, v7) :: (a8, v8) :: l)) (q : w'.cell? a0 = some v0 ∧ w'.cell? a1 = some v1 ∧ w'.cell? a2 = some v2 ∧ w'.cell? a3 = some v3 ∧ w'.cell? a4 = some v4 ∧ w'.cell? a5 = some v5 ∧ w'.cell? a6 = some v6 ∧ w'.cell? a7 = some v7 ∧ w'.cell? a8 = some v8 ∧ Below w.heap.size w w') :
    (w'.alloc o).cell? a0 = some v0 ∧ (w'.alloc o).cell? a1 = some v1 ∧ (w'.alloc o).cell? a2 = some v2 ∧ (w'.alloc o).cell? a3 = some v3 ∧ (w'.alloc o).cell? a4 = some v4 ∧ (w'.alloc o).cell? a5 = some v5 ∧ (w'.alloc o).cell? a6 = some v6 ∧ (w'.alloc o).cell? a7 = some v7 ∧ (w'.alloc o).cell? a8 = some v8 ∧ Below w.heap.size w (w'.alloc o) := kn9_at h ((kn9_b q).alloc (kn9_b q).size o)
theorem kn9_set {W w w' : World} {x y : Value} {g : Nat} {a0 a1 a2 a3 a4 a5 a6 a7 a8 : Addr} {v0 v1 v2 v3 v4 v5 v6 v7 v8 : Value} {l : List (Addr × Value)} (h : Kept W w ((a0, v0) :: (a1, v1) :: (a2, v2) :: (a3, v3) :: (a4, v4) :: (a5, v5) :: (a6, v6) :: (a7, v7) :: (a8, v8) :: l)) (q : w'.cell? a0 = some v0 ∧ w'.cell? a1 = some v1 ∧ w'.cell? a2 = some v2 ∧ w'.cell? a3 = some v3 ∧ w'.cell? a4 = some v4 ∧ w'.cell? a5 = some v5 ∧ w'.cell? a6 = some v6 ∧ w'.cell? a7 = some v7 ∧ w'.cell? a8 = some v8 ∧ Below w.heap.size w w') (hg : w.heap.size ≤ g) :
    ((w'.setCell ⟨g, 0, none⟩ x).setCell ⟨g, 1, none⟩ y).cell? a0 = some v0 ∧ ((w'.setCell ⟨g, 0, none⟩ x).setCell ⟨g, 1, none⟩ y).cell? a1 = some v1 ∧ ((w'.setCell ⟨g, 0, none⟩ x).setCell ⟨g, 1, none⟩ y).cell? a2 = some v2 ∧ ((w'.setCell ⟨g, 0, none⟩ x).setCell ⟨g, 1, none⟩ y).cell? a3 = some v3 ∧ ((w'.setCell ⟨g, 0, none⟩ x).setCell ⟨g, 1, none⟩ y).cell? a4 = some v4 ∧ ((w'.setCell ⟨g, 0, none⟩ x).setCell ⟨g, 1, none⟩ y).cell? a5 = some v5 ∧ ((w'.setCell ⟨g, 0, none⟩ x).setCell ⟨g, 1, none⟩ y).cell? a6 = some v6 ∧ ((w'.setCell ⟨g, 0, none⟩ x).setCell ⟨g, 1, none⟩ y).cell? a7 = some v7 ∧ ((w'.setCell ⟨g, 0, none⟩ x).setCell ⟨g, 1, none⟩ y).cell? a8 = some v8 ∧ Below w.heap.size w ((w'.setCell ⟨g, 0, none⟩ x).setCell ⟨g, 1, none⟩ y) := kn9_at h (((kn9_b q).setCell hg x).setCell hg y)
theorem kn11_alloc {W w w' : World} {a0 a1 a2 a3 a4 a5 a6 a7 a8 a9 a10 : Addr} {v0 v1 v2 v3 v4 v5 v6 v7 v8 v9 v10 : Value} {l : List (Addr × Value)} {o : Obj} (h : Kept W w ((a0, v0) :: (a1, v1) :: (a2, v2) :: (a3, v3) :: (a4, v4) :: (a5, v5) :: (a6, v6) :: (a7, v7) :: (a8, v8) :: (a9, v9) :: (a10, v10) :: l)) (q : w'.cell? a0 = some v0 ∧ w'.cell? a1 = some v1 ∧ w'.cell? a2 = some v2 ∧ w'.cell? a3 = some v3 ∧ w'.cell? a4 = some v4 ∧ w'.cell? a5 = some v5 ∧ w'.cell? a6 = some v6 ∧ w'.cell? a7 = some v7 ∧ w'.cell? a8 = some v8 ∧ w'.cell? a9 = some v9 ∧ w'.cell? a10 = some v10 ∧ Below w.heap.size w w') :
    (w'.alloc o).cell? a0 = some v0 ∧ (w'.alloc o).cell? a1 = some v1 ∧ (w'.alloc o).cell? a2 = some v2 ∧ (w'.alloc o).cell? a3 = some v3 ∧ (w'.alloc o).cell? a4 = some v4 ∧ (w'.alloc o).cell? a5 = some v5 ∧ (w'.alloc o).cell? a6 = some v6 ∧ (w'.alloc o).cell? a7 = some v7 ∧ (w'.alloc o).cell? a8 = some v8 ∧ (w'.alloc o).cell? a9 = some v9 ∧ (w'.alloc o).cell? a10 = some v10 ∧ Below w.heap.size w (w'.alloc o) := kn11_at h ((kn11_b q).alloc (kn11_b q).size o)
theorem kn11_set {W w w' : World} {x y : Value} {g : Nat} {a0 a1 a2 a3 a4 a5 a6 a7 a8 a9 a10 : Addr} {v0 v1 v2 v3 v4 v5 v6 v7 v8 v9 v10 : Value} {l : List (Addr × Value)} (h : Kept W w ((a0, v0) :: (a1, v1) :: (a2, v2) :: (a3, v3) :: (a4, v4) :: (a5, v5) :: (a6, v6) :: (a7, v7) :: (a8, v8) :: (a9, v9) :: (a10, v10) :: l)) (q : w'.cell? a0 = some v0 ∧ w'.cell? a1 = some v1 ∧ w'.cell? a2 = some v2 ∧ w'.cell? a3 = some v3 ∧ w'.cell? a4 = some v4 ∧ w'.cell? a5 = some v5 ∧ w'.cell? a6 = some v6 ∧ w'.cell? a7 = some v7 ∧ w'.cell? a8 = some v8 ∧ w'.cell? a9 = some v9 ∧ w'.cell? a10 = some v10 ∧ Below w.heap.size w w') (hg : w.heap.size ≤ g) :
    ((w'.setCell ⟨g, 0, none⟩ x).setCell ⟨g, 1, none⟩ y).cell? a0 = some v0 ∧ ((w'.setCell ⟨g, 0, none⟩ x).setCell ⟨g, 1, none⟩ y).cell? a1 = some v1 ∧ ((w'.setCell ⟨g, 0, none⟩ x).setCell ⟨g, 1, none⟩ y).cell? a2 = some v2 ∧ ((w'.setCell ⟨g, 0, none⟩ x).setCell ⟨g, 1, none⟩ y).cell? a3 = some v3 ∧ ((w'.setCell ⟨g, 0, none⟩ x).setCell ⟨g, 1, none⟩ y).cell? a4 = some v4 ∧ ((w'.setCell ⟨g, 0, none⟩ x).setCell ⟨g, 1, none⟩ y).cell? a5 = some v5 ∧ ((w'.setCell ⟨g, 0, none⟩ x).setCell ⟨g, 1, none⟩ y).cell? a6 = some v6 ∧ ((w'.setCell ⟨g, 0, none⟩ x).setCell ⟨g, 1, none⟩ y).cell? a7 = some v7 ∧ ((w'.setCell ⟨g, 0, none⟩ x).setCell ⟨g, 1, none⟩ y).cell? a8 = some v8 ∧ ((w'.setCell ⟨g, 0, none⟩ x).setCell ⟨g, 1, none⟩ y).cell? a9 = some v9 ∧ ((w'.setCell ⟨g, 0, none⟩ x).setCell ⟨g, 1, none⟩ y).cell? a10 = some v10 ∧ Below w.heap.size w ((w'.setCell ⟨g, 0, none⟩ x).setCell ⟨g, 1, none⟩ y) := kn11_at h (((kn11_b q).setCell hg x).setCell hg y)
theorem kc2_at {W w w' : World} {a0 a1 : Addr} {v0 v1 : Value} {l : List (Addr × Value)} (h : Kept W w ((a0, v0) :: (a1, v1) :: l)) (hb : Below w.heap.size w w') : w'.cell? a0 = some v0 ∧ w'.cell? a1 = some v1 :=
  have k := h.step hb
  ⟨k.get 0 rfl, k.get 1 rfl⟩
theorem kc2_eq {w w' : World} {a0 a1 : Addr} {v0 v1 : Value} (q : w.cell? a0 = some v0 ∧ w.cell? a1 = some v1) (h : ∀ a : Addr, a = a0 ∨ a = a1 → w'.cell? a = w.cell? a) : w'.cell? a0 = some v0 ∧ w'.cell? a1 = some v1 := by
  obtain ⟨q0, q1⟩ := q
  exact ⟨(h a0 (by simp)).trans q0, (h a1 (by simp)).trans q1⟩
theorem kc3_at {W w w' : World} {a0 a1 a2 : Addr} {v0 v1 v2 : Value} {l : List (Addr × Value)} (h : Kept W w ((a0, v0) :: (a1, v1) :: (a2, v2) :: l)) (hb : Below w.heap.size w w') : w'.cell? a0 = some v0 ∧ w'.cell? a1 = some v1 ∧ w'.cell? a2 = some v2 :=
  have k := h.step hb
  ⟨k.get 0 rfl, k.get 1 rfl, k.get 2 rfl⟩
theorem kc3_eq {w w' : World} {a0 a1 a2 : Addr} {v0 v1 v2 : Value} (q : w.cell? a0 = some v0 ∧ w.cell? a1 = some v1 ∧ w.cell? a2 = some v2) (h : ∀ a : Addr, a = a0 ∨ a = a1 ∨ a = a2 → w'.cell? a = w.cell? a) : w'.cell? a0 = some v0 ∧ w'.cell? a1 = some v1 ∧ w'.cell? a2 = some v2 := by
  obtain ⟨q0, q1, q2⟩ := q
  exact ⟨(h a0 (by simp)).trans q0, (h a1 (by simp)).trans q1, (h a2 (by simp)).trans q2⟩
theorem kc4_at {W w w' : World} {a0 a1 a2 a3 : Addr} {v0 v1 v2 v3 : Value} {l : List (Addr × Value)} (h : Kept W w ((a0, v0) :: (a1, v1) :: (a2, v2) :: (a3, v3) :: l)) (hb : Below w.heap.size w w') : w'.cell? a0 = some v0 ∧ w'.cell? a1 = some v1 ∧ w'.cell? a2 = some v2 ∧ w'.cell? a3 = some v3 :=
  have k := h.step hb
  ⟨k.get 0 rfl, k.get 1 rfl, k.get 2 rfl, k.get 3 rfl⟩
theorem kc4_eq {w w' : World} {a0 a1 a2 a3 : Addr} {v0 v1 v2 v3 : Value} (q : w.cell? a0 = some v0 ∧ w.cell? a1 = some v1 ∧ w.cell? a2 = some v2 ∧ w.cell? a3 = some v3) (h : ∀ a : Addr, a = a0 ∨ a = a1 ∨ a = a2 ∨ a = a3 → w'.cell? a = w.cell? a) : w'.cell? a0 = some v0 ∧ w'.cell? a1 = some v1 ∧ w'.cell? a2 = some v2 ∧ w'.cell? a3 = some v3 := by
  obtain ⟨q0, q1, q2, q3⟩ := q
  exact ⟨(h a0 (by simp)).trans q0, (h a1 (by simp)).trans q1, (h a2 (by simp)).trans q2, (h a3 (by simp)).trans q3⟩
theorem kc5_at {W w w' : World} {a0 a1 a2 a3 a4 : Addr} {v0 v1 v2 v3 v4 : Value} {l : List (Addr × Value)} (h : Kept W w ((a0, v0) :: (a1, v1) :: (a2, v2) :: (a3, v3) :: (a4, v4) :: l)) (hb : Below w.heap.size w w') : w'.cell? a0 = some v0 ∧ w'.cell? a1 = some v1 ∧ w'.cell? a2 = some v2 ∧ w'.cell? a3 = some v3 ∧ w'.cell? a4 = some v4 :=
  have k := h.step hb
  ⟨k.get 0 rfl, k.get 1 rfl, k.get 2 rfl, k.get 3 rfl, k.get 4 rfl⟩
theorem kc5_eq {w w' : World} {a0 a1 a2 a3 a4 : Addr} {v0 v1 v2 v3 v4 : Value} (q : w.cell? a0 = some v0 ∧ w.cell? a1 = some v1 ∧ w.cell? a2 = some v2 ∧ w.cell? a3 = some v3 ∧ w.cell? a4 = some v4) (h : ∀ a : Addr, a = a0 ∨ a = a1 ∨ a = a2 ∨ a = a3 ∨ a = a4 → w'.cell? a = w.cell? a) : w'.cell? a0 = some v0 ∧ w'.cell? a1 = some v1 ∧ w'.cell? a2 = some v2 ∧ w'.cell? a3 = some v3 ∧ w'.cell? a4 = some v4 := by
  obtain ⟨q0, q1, q2, q3, q4⟩ := q
  exact ⟨(h a0 (by simp)).trans q0, (h a1 (by simp)).trans q1, (h a2 (by simp)).trans q2, (h a3 (by simp)).trans q3, (h a4 (by simp)).trans q4⟩
theorem kc6_at {W w w' : World} {a0 a1 a2 a3 a4 a5 : Addr} {v0 v1 v2 v3 v4 v5 : Value} {l : List (Addr × Value)} (h : Kept W w ((a0, v0) :: (a1, v1) :: (a2, v2) :: (a3, v3) :: (a4, v4) :: (a5, v5) :: l)) (hb : Below w.heap.size w w') : w'.cell? a0 = some v0 ∧ w'.cell? a1 = some v1 ∧ w'.cell? a2 = some v2 ∧ w'.cell? a3 = some v3 ∧ w'.cell? a4 = some v4 ∧ w'.cell? a5 = some v5 :=
  have k := h.step hb
  ⟨k.get 0 rfl, k.get 1 rfl, k.get 2 rfl, k.get 3 rfl, k.get 4 rfl, k.get 5 rfl⟩
theorem kc6_eq {w w' : World} {a0 a1 a2 a3 a4 a5 : Addr} {v0 v1 v2 v3 v4 v5 : Value} (q : w.cell? a0 = some v0 ∧ w.cell? a1 = some v1 ∧ w.cell? a2 = some v2 ∧ w.cell? a3 = some v3 ∧ w.cell? a4 = some v4 ∧ w.cell? a5 = some v5) (h : ∀ a : Addr, a = a0 ∨ a = a1 ∨ a = a2 ∨ a = a3 ∨ a = a4 ∨ a = a5 → w'.cell? a = w.cell? a) : w'.cell? a0 = some v0 ∧ w'.cell? a1 = some v1 ∧ w'.cell? a2 = some v2 ∧ w'.cell? a3 = some v3 ∧ w'.cell? a4 = some v4 ∧ w'.cell? a5 = some v5 := by
  obtain ⟨q0, q1, q2, q3, q4, q5⟩ := q
  exact ⟨(h a0 (by simp)).trans q0, (h a1 (by simp)).trans q1, (h a2 (by simp)).trans q2, (h a3 (by simp)).trans q3, (h a4 (by simp)).trans q4, (h a5 (by simp)).trans q5⟩
theorem kc7_at {W w w' : World} {a0 a1 a2 a3 a4 a5 a6 : Addr} {v0 v1 v2 v3 v4 v5 v6 : Value} {l : List (Addr × Value)} (h : Kept W w ((a0, v0) :: (a1, v1) :: (a2, v2) :: (a3, v3) :: (a4, v4) :: (a5, v5) :: (a6, v6) :: l)) (hb : Below w.heap.size w w') : w'.cell? a0 = some v0 ∧ w'.cell? a1 = some v1 ∧ w'.cell? a2 = some v2 ∧ w'.cell? a3 = some v3 ∧ w'.cell? a4 = some v4 ∧ w'.cell? a5 = some v5 ∧ w'.cell? a6 = some v6 :=
  have k := h.step hb
  ⟨k.get 0 rfl, k.get 1 rfl, k.get 2 rfl, k.get 3 rfl, k.get 4 rfl, k.get 5 rfl, k.get 6 rfl⟩
theorem kc7_eq {w w' : World} {a0 a1 a2 a3 a4 a5 a6 : Addr} {v0 v1 v2 v3 v4 v5 v6 : Value} (q : w.cell? a0 = some v0 ∧ w.cell? a1 = some v1 ∧ w.cell? a2 = some v2 ∧ w.cell? a3 = some v3 ∧ w.cell? a4 = some v4 ∧ w.cell? a5 = some v5 ∧ w.cell? a6 = some v6) (h : ∀ a : Addr, a = a0 ∨ a = a1 ∨ a = a2 ∨ a = a3 ∨ a = a4 ∨ a = a5 ∨ a = a6 → w'.cell? a = w.cell? a) : w'.cell? a0 = some v0 ∧ w'.cell? a1 = some v1 ∧ w'.cell? a2 = some v2 ∧ w'.cell? a3 = some v3 ∧ w'.cell? a4 = some v4 ∧ w'.cell? a5 = some v5 ∧ w'.cell? a6 = some v6 := by
  obtain ⟨q0, q1, q2, q3, q4, q5, q6⟩ := q
  exact ⟨(h a0 (by simp)).trans q0, (h a1 (by simp)).trans q1, (h a2 (by simp)).trans q2, (h a3 (by simp)).trans q3, (h a4 (by simp)).trans q4, (h a5 (by simp)).trans q5, (h a6 (by simp)).trans q6⟩
theorem kc8_at {W w w' : World} {a0 a1 a2 a3 a4 a5 a6 a7 : Addr} {v0 v1 v2 v3 v4 v5 v6 v7 : Value} {l : List (Addr × Value)} (h : Kept W w ((a0, v0) :: (a1, v1) :: (a2, v2) :: (a3, v3) :: (a4, v4) :: (a5, v5) :: (a6, v6) :: (a7, v7) :: l)) (hb : Below w.heap.size w w') : w'.cell? a0 = some v0 ∧ w'.cell? a1 = some v1 ∧ w'.cell? a2 = some v2 ∧ w'.cell? a3 = some v3 ∧ w'.cell? a4 = some v4 ∧ w'.cell? a5 = some v5 ∧ w'.cell? a6 = some v6 ∧ w'.cell? a7 = some v7 :=
  have k := h.step hb
  ⟨k.get 0 rfl, k.get 1 rfl, k.get 2 rfl, k.get 3 rfl, k.get 4 rfl, k.get 5 rfl, k.get 6 rfl, k.get 7 rfl⟩
theorem kc8_eq {w w' : World} {a0 a1 a2 a3 a4 a5 a6 a7 : Addr} {v0 v1 v2 v3 v4 v5 v6 v7 : Value} (q : w.cell? a0 = some v0 ∧ w.cell? a1 = some v1 ∧ w.cell? a2 = some v2 ∧ w.cell? a3 = some v3 ∧ w.cell? a4 = some v4 ∧ w.cell? a5 = some v5 ∧ w.cell? a6 = some v6 ∧ w.cell? a7 = some v7) (h : ∀ a : Addr, a = a0 ∨ a = a1 ∨ a = a2 ∨ a = a3 ∨ a = a4 ∨ a = a5 ∨ a = a6 ∨ a = a7 → w'.cell? a = w.cell? a) : w'.cell? a0 = some v0 ∧ w'.cell? a1 = some v1 ∧ w'.cell? a2 = some v2 ∧ w'.cell? a3 = some v3 ∧ w'.cell? a4 = some v4 ∧ w'.cell? a5 = some v5 ∧ w'.cell? a6 = some v6 ∧ w'.cell? a7 = some v7 := by
  obtain ⟨q0, q1, q2, q3, q4, q5, q6, q7⟩ := q
  exact ⟨(h a0 (by simp)).trans q0, (h a1 (by simp)).trans q1, (h a2 (by simp)).trans q2, (h a3 (by simp)).trans q3, (h a4 (by simp)).trans q4, (h a5 (by simp)).trans q5, (h a6 (by simp)).trans q6, (h a7 (by simp)).trans q7⟩
theorem kc9_at {W w w' : World} {a0 a1 a2 a3 a4 a5 a6 a7 a8 : Addr} {v0 v1 v2 v3 v4 v5 v6 v7 v8 : Value} {l : List (Addr × Value)} (h : Kept W w ((a0, v0) :: (a1, v1) :: (a2, v2) :: (a3, v3) :: (a4, v4) :: (a5, v5) :: (a6, v6) :: (a7, v7) :: (a8, v8) :: l)) (hb : Below w.heap.size w w') : w'.cell? a0 = some v0 ∧ w'.cell? a1 = some v1 ∧ w'.cell? a2 = some v2 ∧ w'.cell? a3 = some v3 ∧ w'.cell? a4 = some v4 ∧ w'.cell? a5 = some v5 ∧ w'.cell? a6 = some v6 ∧ w'.cell? a7 = some v7 ∧ w'.cell? a8 = some v8 :=
  have k := h.step hb
  ⟨k.get 0 rfl, k.get 1 rfl, k.get 2 rfl, k.get 3 rfl, k.get 4 rfl, k.get 5 rfl, k.get 6 rfl, k.get 7 rfl, k.get 8 rfl⟩
theorem kc9_eq {w w' : World} {a0 a1 a2 a3 a4 a5 a6 a7 a8 : Addr} {v0 v1 v2 v3 v4 v5 v6 v7 v8 : Value} (q : w.cell? a0 = some v0 ∧ w.cell? a1 = some v1 ∧ w.cell? a2 = some v2 ∧ w.cell? a3 = some v3 ∧ w.cell? a4 = some v4 ∧ w.cell? a5 = some v5 ∧ w.cell? a6 = some v6 ∧ w.cell? a7 = some v7 ∧ w.cell? a8 = some v8) (h : ∀ a : Addr, a = a0 ∨ a = a1 ∨ a = a2 ∨ a = a3 ∨ a = a4 ∨ a = a5 ∨ a = a6 ∨ a = a7 ∨ a = a8 → w'.cell? a = w.cell? a) : w'.cell? a0 = some v0 ∧ w'.cell? a1 = some v1 ∧ w'.cell? a2 = some v2 ∧ w'.cell? a3 = some v3 ∧ w'.cell? a4 = some v4 ∧ w'.cell? a5 = some v5 ∧ w'.cell? a6 = some v6 ∧ w'.cell? a7 = some v7 ∧ w'.cell? a8 = some v8 := by
  obtain ⟨q0, q1, q2, q3, q4, q5, q6, q7, q8⟩ := q
  exact ⟨(h a0 (by simp)).trans q0, (h a1 (by simp)).trans q1, (h a2 (by simp)).trans q2, (h a3 (by simp)).trans q3, (h a4 (by simp)).trans q4, (h a5 (by simp)).trans q5, (h a6 (by simp)).trans q6, (h a7 (by simp)).trans q7, (h a8 (by simp)).trans q8⟩
theorem kc10_at {W w w' : World} {a0 a1 a2 a3 a4 a5 a6 a7 a8 a9 : Addr} {v0 v1 v2 v3 v4 v5 v6 v7 v8 v9 : Value} {l : List (Addr × Value)} (h : Kept W w ((a0, v0) :: (a1, v1) :: (a2, v2) :: (a3, v3) :: (a4, v4) :: (a5, v5) :: (a6, v6) :: (a7, v7) :: (a8, v8) :: (a9, v9) :: l)) (hb : Below w.heap.size w w') : w'.cell? a0 = some v0 ∧ w'.cell? a1 = some v1 ∧ w'.cell? a2 = some v2 ∧ w'.cell? a3 = some v3 ∧ w'.cell? a4 = some v4 ∧ w'.cell? a5 = some v5 ∧ w'.cell? a6 = some v6 ∧ w'.cell? a7 = some v7 ∧ w'.cell? a8 = some v8 ∧ w'.cell? a9 = some v9 :=
  have k := h.step hb
  ⟨k.get 0 rfl, k.get 1 rfl, k.get 2 rfl, k.get 3 rfl, k.get 4 rfl, k.get 5 rfl, k.get 6 rfl, k.get 7 rfl, k.get 8 rfl, k.get 9 rfl⟩
theorem kc10_eq {w w' : World} {a0 a1 a2 a3 a4 a5 a6 a7 a8 a9 : Addr} {v0 v1 v2 v3 v4 v5 v6 v7 v8 v9 : Value} (q : w.cell? a0 = some v0 ∧ w.cell? a1 = some v1 ∧ w.cell? a2 = some v2 ∧ w.cell? a3 = some v3 ∧ w.cell? a4 = some v4 ∧ w.cell? a5 = some v5 ∧ w.cell? a6 = some v6 ∧ w.cell? a7 = some v7 ∧ w.cell? a8 = some v8 ∧ w.cell? a9 = some v9) (h : ∀ a : Addr, a = a0 ∨ a = a1 ∨ a = a2 ∨ a = a3 ∨ a = a4 ∨ a = a5 ∨ a = a6 ∨ a = a7 ∨ a = a8 ∨ a = a9 → w'.cell? a = w.cell? a) : w'.cell? a0 = some v0 ∧ w'.cell? a1 = some v1 ∧ w'.cell? a2 = some v2 ∧ w'.cell? a3 = some v3 ∧ w'.cell? a4 = some v4 ∧ w'.cell? a5 = some v5 ∧ w'.cell? a6 = some v6 ∧ w'.cell? a7 = some v7 ∧ w'.cell? a8 = some v8 ∧ w'.cell? a9 = some v9 := by
  obtain ⟨q0, q1, q2, q3, q4, q5, q6, q7, q8, q9⟩ := q
  exact ⟨(h a0 (by simp)).trans q0, (h a1 (by simp)).trans q1, (h a2 (by simp)).trans q2, (h a3 (by simp)).trans q3, (h a4 (by simp)).trans q4, (h a5 (by simp)).trans q5, (h a6 (by simp)).trans q6, (h a7 (by simp)).trans q7, (h a8 (by simp)).trans q8, (h a9 (by simp)).trans q9⟩
theorem kc11_at {W w w' : World} {a0 a1 a2 a3 a4 a5 a6 a7 a8 a9 a10 : Addr} {v0 v1 v2 v3 v4 v5 v6 v7 v8 v9 v10 : Value} {l : List (Addr × Value)} (h : Kept W w ((a0, v0) :: (a1, v1) :: (a2, v2) :: (a3, v3) :: (a4, v4) :: (a5, v5) :: (a6, v6) :: (a7, v7) :: (a8, v8) :: (a9, v9) :: (a10, v10) :: l)) (hb : Below w.heap.size w w') : w'.cell? a0 = some v0 ∧ w'.cell? a1 = some v1 ∧ w'.cell? a2 = some v2 ∧ w'.cell? a3 = some v3 ∧ w'.cell? a4 = some v4 ∧ w'.cell? a5 = some v5 ∧ w'.cell? a6 = some v6 ∧ w'.cell? a7 = some v7 ∧ w'.cell? a8 = some v8 ∧ w'.cell? a9 = some v9 ∧ w'.cell? a10 = some v10 :=
  have k := h.step hb
  ⟨k.get 0 rfl, k.get 1 rfl, k.get 2 rfl, k.get 3 rfl, k.get 4 rfl, k.get 5 rfl, k.get 6 rfl, k.get 7 rfl, k.get 8 rfl, k.get 9 rfl, k.get 10 rfl⟩
theorem kc11_eq {w w' : World} {a0 a1 a2 a3 a4 a5 a6 a7 a8 a9 a10 : Addr} {v0 v1 v2 v3 v4 v5 v6 v7 v8 v9 v10 : Value} (q : w.cell? a0 = some v0 ∧ w.cell? a1 = some v1 ∧ w.cell? a2 = some v2 ∧ w.cell? a3 = some v3 ∧ w.cell? a4 = some v4 ∧ w.cell? a5 = some v5 ∧ w.cell? a6 = some v6 ∧ w.cell? a7 = some v7 ∧ w.cell? a8 = some v8 ∧ w.cell? a9 = some v9 ∧ w.cell? a10 = some v10) (h : ∀ a : Addr, a = a0 ∨ a = a1 ∨ a = a2 ∨ a = a3 ∨ a = a4 ∨ a = a5 ∨ a = a6 ∨ a = a7 ∨ a = a8 ∨ a = a9 ∨ a = a10 → w'.cell? a = w.cell? a) : w'.cell? a0 = some v0 ∧ w'.cell? a1 = some v1 ∧ w'.cell? a2 = some v2 ∧ w'.cell? a3 = some v3 ∧ w'.cell? a4 = some v4 ∧ w'.cell? a5 = some v5 ∧ w'.cell? a6 = some v6 ∧ w'.cell? a7 = some v7 ∧ w'.cell? a8 = some v8 ∧ w'.cell? a9 = some v9 ∧ w'.cell? a10 = some v10 := by
  obtain ⟨q0, q1, q2, q3, q4, q5, q6, q7, q8, q9, q10⟩ := q
  exact ⟨(h a0 (by simp)).trans q0, (h a1 (by simp)).trans q1, (h a2 (by simp)).trans q2, (h a3 (by simp)).trans q3, (h a4 (by simp)).trans q4, (h a5 (by simp)).trans q5, (h a6 (by simp)).trans q6, (h a7 (by simp)).trans q7, (h a8 (by simp)).trans q8, (h a9 (by simp)).trans q9, (h a10 (by simp)).trans q10⟩
theorem kc12_at {W w w' : World} {a0 a1 a2 a3 a4 a5 a6 a7 a8 a9 a10 a11 : Addr} {v0 v1 v2 v3 v4 v5 v6 v7 v8 v9 v10 v11 : Value} {l : List (Addr × Value)} (h : Kept W w ((a0, v0) :: (a1, v1) :: (a2, v2) :: (a3, v3) :: (a4, v4) :: (a5, v5) :: (a6, v6) :: (a7, v7) :: (a8, v8) :: (a9, v9) :: (a10, v10) :: (a11, v11) :: l)) (hb : Below w.heap.size w w') : w'.cell? a0 = some v0 ∧ w'.cell? a1 = some v1 ∧ w'.cell? a2 = some v2 ∧ w'.cell? a3 = some v3 ∧ w'.cell? a4 = some v4 ∧ w'.cell? a5 = some v5 ∧ w'.cell? a6 = some v6 ∧ w'.cell? a7 = some v7 ∧ w'.cell? a8 = some v8 ∧ w'.cell? a9 = some v9 ∧ w'.cell? a10 = some v10 ∧ w'.cell? a11 = some v11 :=
  have k := h.step hb
  ⟨k.get 0 rfl, k.get 1 rfl, k.get 2 rfl, k.get 3 rfl, k.get 4 rfl, k.get 5 rfl, k.get 6 rfl, k.get 7 rfl, k.get 8 rfl, k.get 9 rfl, k.get 10 rfl, k.get 11 rfl⟩
theorem kc12_eq {w w' : World} {a0 a1 a2 a3 a4 a5 a6 a7 a8 a9 a10 a11 : Addr} {v0 v1 v2 v3 v4 v5 v6 v7 v8 v9 v10 v11 : Value} (q : w.cell? a0 = some v0 ∧ w.cell? a1 = some v1 ∧ w.cell? a2 = some v2 ∧ w.cell? a3 = some v3 ∧ w.cell? a4 = some v4 ∧ w.cell? a5 = some v5 ∧ w.cell? a6 = some v6 ∧ w.cell? a7 = some v7 ∧ w.cell? a8 = some v8 ∧ w.cell? a9 = some v9 ∧ w.cell? a10 = some v10 ∧ w.cell? a11 = some v11) (h : ∀ a : Addr, a = a0 ∨ a = a1 ∨ a = a2 ∨ a = a3 ∨ a = a4 ∨ a = a5 ∨ a = a6 ∨ a = a7 ∨ a = a8 ∨ a = a9 ∨ a = a10 ∨ a = a11 → w'.cell? a = w.cell? a) : w'.cell? a0 = some v0 ∧ w'.cell? a1 = some v1 ∧ w'.cell? a2 = some v2 ∧ w'.cell? a3 = some v3 ∧ w'.cell? a4 = some v4 ∧ w'.cell? a5 = some v5 ∧ w'.cell? a6 = some v6 ∧ w'.cell? a7 = some v7 ∧ w'.cell? a8 = some v8 ∧ w'.cell? a9 = some v9 ∧ w'.cell? a10 = some v10 ∧ w'.cell? a11 = some v11 := by
  obtain ⟨q0, q1, q2, q3, q4, q5, q6, q7, q8, q9, q10, q11⟩ := q
  exact ⟨(h a0 (by simp)).trans q0, (h a1 (by simp)).trans q1, (h a2 (by simp)).trans q2, (h a3 (by simp)).trans q3, (h a4 (by simp)).trans q4, (h a5 (by simp)).trans q5, (h a6 (by simp)).trans q6, (h a7 (by simp)).trans q7, (h a8 (by simp)).trans q8, (h a9 (by simp)).trans q9, (h a10 (by simp)).trans q10, (h a11 (by simp)).trans q11⟩
theorem kc14_at {W w w' : World} {a0 a1 a2 a3 a4 a5 a6 a7 a8 a9 a10 a11 a12 a13 : Addr} {v0 v1 v2 v3 v4 v5 v6 v7 v8 v9 v10 v11 v12 v13 : Value} {l : List (Addr × Value)} (h : Kept W w ((a0, v0) :: (a1, v1) :: (a2, v2) :: (a3, v3) :: (a4, v4) :: (a5, v5) :: (a6, v6) :: (a7, v7) :: (a8, v8) :: (a9, v9) :: (a10, v10) :: (a11, v11) :: (a12, v12) :: (a13, v13) :: l)) (hb : Below w.heap.size w w') : w'.cell? a0 = some v0 ∧ w'.cell? a1 = some v1 ∧ w'.cell? a2 = some v2 ∧ w'.cell? a3 = some v3 ∧ w'.cell? a4 = some v4 ∧ w'.cell? a5 = some v5 ∧ w'.cell? a6 = some v6 ∧ w'.cell? a7 = some v7 ∧ w'.cell? a8 = some v8 ∧ w'.cell? a9 = some v9 ∧ w'.cell? a10 = some v10 ∧ w'.cell? a11 = some v11 ∧ w'.cell? a12 = some v12 ∧ w'.cell? a13 = some v13 :=
  have k := h.step hb
  ⟨k.get 0 rfl, k.get 1 rfl, k.get 2 rfl, k.get 3 rfl, k.get 4 rfl, k.get 5 rfl, k.get 6 rfl, k.get 7 rfl, k.get 8 rfl, k.get 9 rfl, k.get 10 rfl, k.get 11 rfl, k.get 12 rfl, k.get 13 rfl⟩
theorem kc14_eq {w w' : World} {a0 a1 a2 a3 a4 a5 a6 a7 a8 a9 a10 a11 a12 a13 : Addr} {v0 v1 v2 v3 v4 v5 v6 v7 v8 v9 v10 v11 v12 v13 : Value} (q : w.cell? a0 = some v0 ∧ w.cell? a1 = some v1 ∧ w.cell? a2 = some v2 ∧ w.cell? a3 = some v3 ∧ w.cell? a4 = some v4 ∧ w.cell? a5 = some v5 ∧ w.cell? a6 = some v6 ∧ w.cell? a7 = some v7 ∧ w.cell? a8 = some v8 ∧ w.cell? a9 = some v9 ∧ w.cell? a10 = some v10 ∧ w.cell? a11 = some v11 ∧ w.cell? a12 = some v12 ∧ w.cell? a13 = some v13) (h : ∀ a : Addr, a = a0 ∨ a = a1 ∨ a = a2 ∨ a = a3 ∨ a = a4 ∨ a = a5 ∨ a = a6 ∨ a = a7 ∨ a = a8 ∨ a = a9 ∨ a = a10 ∨ a = a11 ∨ a = a12 ∨ a = a13 → w'.cell? a = w.cell? a) : w'.cell? a0 = some v0 ∧ w'.cell? a1 = some v1 ∧ w'.cell? a2 = some v2 ∧ w'.cell? a3 = some v3 ∧ w'.cell? a4 = some v4 ∧ w'.cell? a5 = some v5 ∧ w'.cell? a6 = some v6 ∧ w'.cell? a7 = some v7 ∧ w'.cell? a8 = some v8 ∧ w'.cell? a9 = some v9 ∧ w'.cell? a10 = some v10 ∧ w'.cell? a11 = some v11 ∧ w'.cell? a12 = some v12 ∧ w'.cell? a13 = some v13 := by
  obtain ⟨q0, q1, q2, q3, q4, q5, q6, q7, q8, q9, q10, q11, q12, q13⟩ := q
  exact ⟨(h a0 (by simp)).trans q0, (h a1 (by simp)).trans q1, (h a2 (by simp)).trans q2, (h a3 (by simp)).trans q3, (h a4 (by simp)).trans q4, (h a5 (by simp)).trans q5, (h a6 (by simp)).trans q6, (h a7 (by simp)).trans q7, (h a8 (by simp)).trans q8, (h a9 (by simp)).trans q9, (h a10 (by simp)).trans q10, (h a11 (by simp)).trans q11, (h a12 (by simp)).trans q12, (h a13 (by simp)).trans q13⟩
end Go.Proofs.Ytcfcohnkkgickaa

namespace Go.Proofs.Ytcfcohnkkgickaa
open Go Num

/-- No row ID stands in two blocks. -/
def UniqR (l : List Blk) (n : Nat) : Prop := ∀ k, k < n → ∀ i, i < k → ∀ x, HasRow (Bn l k).rows x → ¬ HasRow (Bn l i).rows x
/-- Block number k is valid. -/
def bkB (l : List Blk) (k : Nat) : Bool := blkB (Bn l k).id (Bn l k).rows.length (Rn (Bn l k).rows)
/-- The first n blocks are valid and their IDs ascend. -/
def BlksOk (l : List Blk) (n : Nat) : Prop := (∀ k, k < n → bkB l k = true) ∧ ∀ k, k + 1 < n → (Bn l k).id < (Bn l (k + 1)).id
/-- When a table is valid. -/
def TblOk (ver : Int) (l : List Blk) (n : Nat) : Prop := (0 ≤ ver ∧ ver ≤ 99) ∧ n ≤ 6 ∧ BlksOk l n ∧ UniqR l n

theorem BlksOk.zero (l : List Blk) : BlksOk l 0 := ⟨fun k hk => by omega, fun k hk => by omega⟩
theorem BlksOk.succ {l : List Blk} {k : Nat} (h : BlksOk l k) (hv : bkB l k = true) (ho : ∀ j, j + 1 = k → (Bn l j).id < (Bn l (j + 1)).id) : BlksOk l (k + 1) :=
  ⟨fun j hj => by
    by_cases e : j < k
    · exact h.1 j e
    · obtain rfl : j = k := by omega
      exact hv, fun j hj => by
    by_cases e : j + 1 < k
    · exact h.2 j e
    · exact ho j (by omega)⟩
theorem BlksOk.low {l : List Blk} {n k : Nat} (h : BlksOk l n) (hk : k ≤ n) : BlksOk l k := ⟨fun j hj => h.1 j (by omega), fun j hj => h.2 j (by omega)⟩
theorem UniqR.zero (l : List Blk) : UniqR l 0 := fun k hk => by omega
theorem UniqR.succ {l : List Blk} {k : Nat} (h : UniqR l k) (hn : ∀ i, i < k → ∀ x, HasRow (Bn l k).rows x → ¬ HasRow (Bn l i).rows x) : UniqR l (k + 1) := fun j hj => by
  by_cases e : j < k
  · exact h j e
  · obtain rfl : j = k := by omega
    exact hn

/-- A block's format. -/
def Blk.fmt (b : Blk) : List UInt8 := fmtB b.id b.rows.length (Rn b.rows)
/-- The blocks' formats, each behind a semicolon. -/
def fmtBlks (l : List Blk) : Nat → List UInt8
  | 0 => []
  | k + 1 => fmtBlks l k ++ 59 :: (Bn l k).fmt
open Classical in
/-- The format of a table. -/
noncomputable def fmtT (ver : Int) (l : List Blk) : List UInt8 := if TblOk ver l l.length then 118 :: (Lib.itoa ver ++ fmtBlks l l.length) else []
theorem fmtT_no {ver : Int} {l : List Blk} (h : ¬ TblOk ver l l.length) : fmtT ver l = [] := by unfold fmtT; rw [if_neg h]
theorem fmtT_yes {ver : Int} {l : List Blk} (h : TblOk ver l l.length) : fmtT ver l = 118 :: (Lib.itoa ver ++ fmtBlks l l.length) := by unfold fmtT; rw [if_pos h]

theorem fmtB_len {id : Int} {n : Nat} {R : Nat → Rw} : (fmtB id n R).length ≤ 1000 := by
  cases h : blkB id n R
  · rw [fmtB_no h]; simp
  · obtain ⟨⟨i1, i2⟩, _, h6⟩ := blkB_of h
    have li := Lib.itoa_length_le id (by omega) (by omega)
    have lr : ∀ n, (fmtRows R n).length ≤ n * 131 := fun n => by
      induction n with
      | zero => exact Nat.le_refl _
      | succ k ih =>
        have := fmtR_len (i := (R k).i) (g := (R k).g) (y := (R k).y) (x := (R k).x) (nl := (R k).nl)
        show (fmtRows R k ++ 32 :: (R k).fmt).length ≤ _
        unfold Rw.fmt
        simp only [List.length_append, List.length_cons]
        omega
    have := lr n
    rw [fmtB_yes h]
    simp only [List.length_append, List.length_cons]
    omega

theorem itoa_semi (n : Int) : (59 : UInt8) ∉ Lib.itoa n := itoa_not (by decide) (by unfold isD; decide) n
theorem fmtR_semi (r : Rw) : (59 : UInt8) ∉ r.fmt := by
  unfold Rw.fmt
  cases h : rowB r.i r.g r.y r.x r.nl
  · rw [fmtR_no h]; simp
  · rw [fmtR_yes h]
    simp only [List.mem_append, List.mem_cons, not_or]
    refine ⟨itoa_semi _, by decide, itoa_semi _, by decide, itoa_semi _, by decide, ?_⟩
    unfold xT nullW
    split
    · decide
    · exact itoa_semi _
theorem fmtRows_semi (R : Nat → Rw) : ∀ n : Nat, (59 : UInt8) ∉ fmtRows R n
  | 0 => by show _ ∉ []; simp
  | n + 1 => by
    show _ ∉ fmtRows R n ++ 32 :: (R n).fmt
    simp only [List.mem_append, List.mem_cons, not_or]
    exact ⟨fmtRows_semi R n, by decide, fmtR_semi _⟩
theorem fmtB_semi (b : Blk) : (59 : UInt8) ∉ b.fmt := by
  unfold Blk.fmt
  cases h : blkB b.id b.rows.length (Rn b.rows)
  · rw [fmtB_no h]; simp
  · rw [fmtB_yes h]
    simp only [List.mem_append, List.mem_cons, not_or]
    exact ⟨by decide, itoa_semi _, fmtRows_semi _ _⟩

theorem fmtBlks_flat (l : List Blk) : ∀ n, n ≤ l.length → fmtBlks l n = ((l.take n).map fun b => 59 :: b.fmt).flatten
  | 0, _ => rfl
  | n + 1, h => by
    rw [List.take_add_one, List.getElem?_eq_getElem (by omega), List.map_append, List.flatten_append, ← fmtBlks_flat l n (by omega)]
    show fmtBlks l n ++ 59 :: (Bn l n).fmt = _
    rw [Bn_at (by omega)]
    simp
theorem pieces_all (c : UInt8) : ∀ (ps : List (List UInt8)) (h : List UInt8), c ∉ h → (∀ p ∈ ps, c ∉ p) → pieces c (h ++ (ps.map fun p => c :: p).flatten) = h :: ps
  | [], h, hh, _ => by simp only [List.map_nil, List.flatten_nil, List.append_nil]; exact pieces_none c h hh
  | p :: ps, h, hh, hp => by
    simp only [List.map_cons, List.flatten_cons, List.cons_append]
    rw [pieces_cut c h _ hh, pieces_all c ps p (hp p (by simp)) (fun q hq => hp q (by simp [hq]))]

theorem pieces_fmtT {ver : Int} {l : List Blk} (h : TblOk ver l l.length) : pieces 59 (fmtT ver l) = (118 :: Lib.itoa ver) :: l.map Blk.fmt := by
  rw [fmtT_yes h, fmtBlks_flat l _ (Nat.le_refl _), List.take_length]
  have := pieces_all 59 (l.map Blk.fmt) (118 :: Lib.itoa ver) (by simp only [List.mem_cons, not_or]; exact ⟨by decide, itoa_semi _⟩) (fun p hp => by
    obtain ⟨b, _, rfl⟩ := List.mem_map.1 hp
    exact fmtB_semi b)
  rw [List.map_map] at this
  exact this
theorem blkFmt_unique {b b' : Blk} (h : blkB b.id b.rows.length (Rn b.rows) = true) (h' : blkB b'.id b'.rows.length (Rn b'.rows) = true) (e : b.fmt = b'.fmt) : b = b' := by
  obtain ⟨e1, e2, e3⟩ := fmtB_unique h h' e
  cases b with | mk i r => cases b' with | mk i' r' =>
  simp only at e1 e2 e3
  subst e1
  congr 1
  refine List.ext_getElem e2 fun k h1 h2 => ?_
  rw [← Rn_at h1, ← Rn_at h2]
  exact e3 k h1
theorem TblOk.blk {ver : Int} {l : List Blk} (h : TblOk ver l l.length) {k : Nat} (hk : k < l.length) : blkB l[k].id l[k].rows.length (Rn l[k].rows) = true := by
  have := h.2.2.1.1 k hk
  unfold bkB at this
  rwa [Bn_at hk] at this

/-- Two valid tables of one format are one. -/
theorem fmtT_unique {ver ver' : Int} {l l' : List Blk} (h : TblOk ver l l.length) (h' : TblOk ver' l' l'.length) (he : fmtT ver l = fmtT ver' l') : ver = ver' ∧ l = l' := by
  have p := pieces_fmtT h
  rw [he, pieces_fmtT h'] at p
  simp only [List.cons.injEq, true_and] at p
  obtain ⟨p1, p2⟩ := p
  refine ⟨PIok_unique (PIok_small (by have := h.1; omega) (by have := h.1; omega)) (by rw [← p1]; exact PIok_small (by have := h'.1; omega) (by have := h'.1; omega)), ?_⟩
  have e2 : l'.length = l.length := by have := congrArg List.length p2; simpa using this
  refine List.ext_getElem e2.symm fun k h1 h2 => ?_
  have q := congrArg (fun l => l[k]?) p2
  simp only [List.getElem?_map, List.getElem?_eq_getElem h1, List.getElem?_eq_getElem h2, Option.map_some, Option.some.injEq] at q
  exact (blkFmt_unique (h'.blk h2) (h.blk h1) q).symm

/-- What ParseTable answers. -/
def PTbl (t : List UInt8) (ver : Int) (l : List Blk) (ok : Bool) : Prop := (ok = true ∧ TblOk ver l l.length ∧ t = fmtT ver l) ∨ (ok = false ∧ ver = 0 ∧ l = [] ∧ ∀ ver' l', TblOk ver' l' l'.length → t ≠ fmtT ver' l')
theorem PTbl_unique {t : List UInt8} {ver ver' : Int} {l l' : List Blk} {ok ok' : Bool} (h : PTbl t ver l ok) (h' : PTbl t ver' l' ok') : ver = ver' ∧ l = l' ∧ ok = ok' := by
  rcases h with ⟨rfl, h, e⟩ | ⟨rfl, rfl, rfl, h⟩ <;> rcases h' with ⟨rfl, h', e'⟩ | ⟨rfl, rfl, rfl, h'⟩
  · obtain ⟨r1, r2⟩ := fmtT_unique h h' (by rw [← e, ← e'])
    exact ⟨r1, r2, rfl⟩
  · exact absurd e (h' _ _ h)
  · exact absurd e' (h _ _ h')
  · exact ⟨rfl, rfl, rfl⟩
theorem PTbl.len {t : List UInt8} {ver : Int} {l : List Blk} {ok : Bool} (h : PTbl t ver l ok) : l.length ≤ 6 := by
  rcases h with ⟨_, h, _⟩ | ⟨_, _, rfl, _⟩
  · exact h.2.1
  · simp
theorem PTbl.rows {t : List UInt8} {ver : Int} {l : List Blk} {ok : Bool} (h : PTbl t ver l ok) : ∀ k (hk : k < l.length), l[k].rows.length ≤ 6 := fun k hk => by
  rcases h with ⟨_, h, _⟩ | ⟨_, _, rfl, _⟩
  · exact (blkB_of (h.blk hk)).2.2
  · simp at hk
end Go.Proofs.Ytcfcohnkkgickaa

namespace Go.Proofs.Ytcfcohnkkgickaa
open Go Num

/-- A change. -/
structure Cg where
  k : Int
  b : Int
  r : Rw
def rw0 : Rw := ⟨0, 0, 0, 0, false⟩
def cg0 : Cg := ⟨0, 0, rw0⟩
theorem Cg.ext' {c d : Cg} (h1 : c.k = d.k) (h2 : c.b = d.b) (h3 : c.r = d.r) : c = d := by cases c; cases d; simp only at h1 h2 h3; subst h1 h2 h3; rfl
/-- A row with its ID alone. -/
def Bare (r : Rw) : Prop := r.g = 0 ∧ r.y = 0 ∧ r.x = 0 ∧ r.nl = false
/-- When a change is valid. -/
def ChOk (c : Cg) : Prop :=
  (c.k = 1 ∧ (1 ≤ c.b ∧ c.b ≤ 20) ∧ c.r.ok = true) ∨ (c.k = 2 ∧ c.b = 0 ∧ c.r.ok = true) ∨ (c.k = 3 ∧ c.b = 0 ∧ (1 ≤ c.r.i ∧ c.r.i ≤ 99) ∧ Bare c.r) ∨ (c.k = 4 ∧ (1 ≤ c.b ∧ c.b ≤ 20) ∧ c.r.i = 0 ∧ Bare c.r)
theorem ChOk.kind {c : Cg} (h : ChOk c) : c.k = 1 ∨ c.k = 2 ∨ c.k = 3 ∨ c.k = 4 := by
  rcases h with h | h | h | h
  · exact .inl h.1
  · exact .inr (.inl h.1)
  · exact .inr (.inr (.inl h.1))
  · exact .inr (.inr (.inr h.1))
theorem ChOk.one {c : Cg} (h : ChOk c) (hk : c.k = 1) : (1 ≤ c.b ∧ c.b ≤ 20) ∧ c.r.ok = true := by
  rcases h with h | h | h | h
  · exact h.2
  · omega
  · omega
  · omega
theorem ChOk.two {c : Cg} (h : ChOk c) (hk : c.k = 2) : c.b = 0 ∧ c.r.ok = true := by
  rcases h with h | h | h | h
  · omega
  · exact h.2
  · omega
  · omega
theorem ChOk.three {c : Cg} (h : ChOk c) (hk : c.k = 3) : c.b = 0 ∧ (1 ≤ c.r.i ∧ c.r.i ≤ 99) ∧ Bare c.r := by
  rcases h with h | h | h | h
  · omega
  · omega
  · exact h.2
  · omega
theorem ChOk.four {c : Cg} (h : ChOk c) (hk : c.k = 4) : (1 ≤ c.b ∧ c.b ≤ 20) ∧ c.r.i = 0 ∧ Bare c.r := by
  rcases h with h | h | h | h
  · omega
  · omega
  · omega
  · exact h.2

def wAppend : List UInt8 := [97, 112, 112, 101, 110, 100]
def wCorrect : List UInt8 := [99, 111, 114, 114, 101, 99, 116]
def wDelete : List UInt8 := [100, 101, 108, 101, 116, 101]
def wRetain : List UInt8 := [114, 101, 116, 97, 105, 110]
/-- The words of a change's format. -/
def wordsC (c : Cg) : List (List UInt8) :=
  if c.k = 1 then [wAppend, Lib.itoa c.b, c.r.fmt] else if c.k = 2 then [wCorrect, c.r.fmt] else if c.k = 3 then [wDelete, Lib.itoa c.r.i] else [wRetain, Lib.itoa c.b]
/-- Words, a space between each two. -/
def joinW : List (List UInt8) → List UInt8
  | [] => []
  | w :: ws => w ++ (ws.map fun t => 32 :: t).flatten
open Classical in
/-- The format of a change. -/
noncomputable def fmtC (c : Cg) : List UInt8 := if ChOk c then joinW (wordsC c) else []
theorem fmtC_no {c : Cg} (h : ¬ ChOk c) : fmtC c = [] := by unfold fmtC; rw [if_neg h]
theorem fmtC_yes {c : Cg} (h : ChOk c) : fmtC c = joinW (wordsC c) := by unfold fmtC; rw [if_pos h]
theorem words_space (c : Cg) : ∀ w ∈ wordsC c, (32 : UInt8) ∉ w := fun w hw => by
  unfold wordsC at hw
  split at hw
  · simp only [List.mem_cons, List.not_mem_nil, or_false] at hw
    rcases hw with rfl | rfl | rfl
    · unfold wAppend; decide
    · exact itoa_space _
    · exact fmtR_space _
  · split at hw
    · simp only [List.mem_cons, List.not_mem_nil, or_false] at hw
      rcases hw with rfl | rfl
      · unfold wCorrect; decide
      · exact fmtR_space _
    · split at hw
      · simp only [List.mem_cons, List.not_mem_nil, or_false] at hw
        rcases hw with rfl | rfl
        · unfold wDelete; decide
        · exact itoa_space _
      · simp only [List.mem_cons, List.not_mem_nil, or_false] at hw
        rcases hw with rfl | rfl
        · unfold wRetain; decide
        · exact itoa_space _
theorem words_cons (c : Cg) : ∃ w ws, wordsC c = w :: ws := by
  unfold wordsC
  split
  · exact ⟨_, _, rfl⟩
  · split
    · exact ⟨_, _, rfl⟩
    · split
      · exact ⟨_, _, rfl⟩
      · exact ⟨_, _, rfl⟩
theorem pieces_fmtC {c : Cg} (h : ChOk c) : pieces 32 (fmtC c) = wordsC c := by
  rw [fmtC_yes h]
  obtain ⟨w, ws, e⟩ := words_cons c
  have hs := words_space c
  rw [e] at hs ⊢
  exact pieces_all 32 ws w (hs w (by simp)) (fun p hp => hs p (by simp [hp]))

/-- Two valid changes of one format are one. -/
theorem wordsC_unique {c d : Cg} (h : ChOk c) (h' : ChOk d) (e : wordsC c = wordsC d) : c = d := by
  have it : ∀ {x y : Int}, -99 ≤ x → x ≤ 99 → -99 ≤ y → y ≤ 99 → Lib.itoa x = Lib.itoa y → x = y := fun h1 h2 h3 h4 e => PIok_unique (PIok_small h1 h2) (by rw [e]; exact PIok_small h3 h4)
  have fr : ∀ {r s : Rw}, r.ok = true → s.ok = true → r.fmt = s.fmt → r = s := fun h1 h2 e => by
    obtain ⟨r1, r2, r3, r4, r5⟩ := fmtR_unique (show rowB _ _ _ _ _ = true from h1) (show rowB _ _ _ _ _ = true from h2) e
    exact Rw.ext' r1 r2 r3 r4 r5
  rcases h.kind with hk | hk | hk | hk <;> rcases h'.kind with hk' | hk' | hk' | hk' <;> simp only [wordsC, hk, hk'] at e
  · simp at e
    obtain ⟨a1, a2⟩ := h.one hk
    obtain ⟨b1, b2⟩ := h'.one hk'
    exact Cg.ext' (hk.trans hk'.symm) (it (by omega) (by omega) (by omega) (by omega) e.1) (fr a2 b2 e.2)
  · simp at e
  · simp at e
  · simp at e
  · simp at e
  · simp at e
    obtain ⟨a1, a2⟩ := h.two hk
    obtain ⟨b1, b2⟩ := h'.two hk'
    exact Cg.ext' (hk.trans hk'.symm) (a1.trans b1.symm) (fr a2 b2 e)
  · simp [wCorrect, wDelete] at e
  · simp [wCorrect, wRetain] at e
  · simp at e
  · simp [wCorrect, wDelete] at e
  · simp at e
    obtain ⟨a1, a2, a3, a4, a5, a6⟩ := h.three hk
    obtain ⟨b1, b2, b3, b4, b5, b6⟩ := h'.three hk'
    exact Cg.ext' (hk.trans hk'.symm) (a1.trans b1.symm) (Rw.ext' (it (by omega) (by omega) (by omega) (by omega) e) (a3.trans b3.symm) (a4.trans b4.symm) (a5.trans b5.symm) (a6.trans b6.symm))
  · simp [wDelete, wRetain] at e
  · simp at e
  · simp [wCorrect, wRetain] at e
  · simp [wDelete, wRetain] at e
  · simp at e
    obtain ⟨a1, a2, a3, a4, a5, a6⟩ := h.four hk
    obtain ⟨b1, b2, b3, b4, b5, b6⟩ := h'.four hk'
    exact Cg.ext' (hk.trans hk'.symm) (it (by omega) (by omega) (by omega) (by omega) e) (Rw.ext' (a2.trans b2.symm) (a3.trans b3.symm) (a4.trans b4.symm) (a5.trans b5.symm) (a6.trans b6.symm))
theorem fmtC_unique {c d : Cg} (h : ChOk c) (h' : ChOk d) (e : fmtC c = fmtC d) : c = d := wordsC_unique h h' (by rw [← pieces_fmtC h, ← pieces_fmtC h', e])
theorem fmtC_ne {c : Cg} (h : ChOk c) : fmtC c ≠ [] := fun e => by
  have := pieces_fmtC h
  rw [e] at this
  have h1 : pieces 32 ([] : List UInt8) = [[]] := rfl
  rw [h1] at this
  rcases h.kind with hk | hk | hk | hk <;> simp [wordsC, hk] at this

/-- What ParseChange answers. -/
def PCh (t : List UInt8) (c : Cg) (ok : Bool) : Prop := (ok = true ∧ ChOk c ∧ t = fmtC c) ∨ (ok = false ∧ c = cg0 ∧ ∀ d, ChOk d → t ≠ fmtC d)
theorem PCh_unique {t : List UInt8} {c d : Cg} {ok ok' : Bool} (h : PCh t c ok) (h' : PCh t d ok') : c = d ∧ ok = ok' := by
  rcases h with ⟨rfl, h, e⟩ | ⟨rfl, rfl, h⟩ <;> rcases h' with ⟨rfl, h', e'⟩ | ⟨rfl, rfl, h'⟩
  · exact ⟨fmtC_unique h h' (by rw [← e, ← e']), rfl⟩
  · exact absurd e (h' _ h)
  · exact absurd e' (h _ h')
  · exact ⟨rfl, rfl⟩
def NoCh (t : List UInt8) : Prop := ∀ d, ChOk d → t ≠ fmtC d
theorem PCh.of {t : List UInt8} {c : Cg} (hne : t ≠ []) (h : t = fmtC c) : PCh t c true := .inl ⟨rfl, by
  by_cases hc : ChOk c
  · exact hc
  · rw [fmtC_no hc] at h; exact absurd h hne, h⟩
theorem noCh_count {t : List UInt8} (h : (pieces 32 t).length < 2 ∨ 3 < (pieces 32 t).length) : NoCh t := fun d hd e => by
  rw [e, pieces_fmtC hd] at h
  rcases hd.kind with hk | hk | hk | hk <;> simp [wordsC, hk] at h
/-- What is made of the words is the change, or there is none: ks: the word's number (0: none of the four). -/
theorem noCh_words {t : List UInt8} {c : Cg} (h : ∀ d, ChOk d → pieces 32 t = wordsC d → c = d) (hne : t ≠ fmtC c) : NoCh t := fun d hd e => hne (by
  have := h d hd (by rw [e, pieces_fmtC hd])
  rw [this]; exact e)
end Go.Proofs.Ytcfcohnkkgickaa

namespace Go.Proofs.Ytcfcohnkkgickaa
open Go.RowKit Num

/-- A change as a value. -/
def Cg.val (c : Cg) : Value := .agg #[.int .i64 c.k, .int .i64 c.b, .int .i64 c.r.i, .int .i64 c.r.g, .int .i64 c.r.y, .int .i64 c.r.x, .bool c.r.nl]

theorem iv_iff {c : Cg} {v u : Bool} (h : v = true ↔ ChOk c) (h' : u = true ↔ ChOk c) : v = u := by
  cases v <;> cases u <;> simp_all
end Go.Proofs.Ytcfcohnkkgickaa

namespace Go.Proofs.Ytcfcohnkkgickaa
open Go.RowKit Num

set_option maxRecDepth 8000 in
set_option maxHeartbeats 3200000 in
theorem spec_none (i g y x : Int) (nl : Bool) (w : World) :
    Calls Try.prog 127 #[.agg #[.int .i64 i, .int .i64 g, .int .i64 y, .int .i64 x, .bool nl]] w fun r9 w' => r9 = .returned (.bool ((i == 0) && ((g == 0) && ((y == 0) && ((x == 0) && (nl == false)))))) ∧ Below w.heap.size w w' := by
  go_enter Try.func127, Try.ntmps127
  have K0 := ((Kept.start w).alloc5 (.int .i64 i) (.int .i64 g) (.int .i64 y) (.int .i64 x) (.bool nl) 36 _ rfl).alloc5 (.int .i64 0) (.int .i64 0) (.int .i64 0) (.int .i64 0) (.bool false) 36 (w.heap.size + 1) (by simp)
  go_wp2_with fail
  all_goals
    try have hnl : nl = false := by simpa using ‹¬ nl = true›
    try subst hnl
    subst_vars
    go_ret
    exact ⟨by simp_all, K0.1⟩

theorem Kept.alloc7 {W w : World} {l : List (Addr × Value)} (h : Kept W w l) (x y u v z p q : Value) (t : TypeId) (B : Nat) (hB : w.heap.size = B) :
    Kept W (w.alloc (.cells #[x, y, u, v, z, p, q] t)) ((⟨B, 0, none⟩, x) :: (⟨B, 1, none⟩, y) :: (⟨B, 2, none⟩, u) :: (⟨B, 3, none⟩, v) :: (⟨B, 4, none⟩, z) :: (⟨B, 5, none⟩, p) :: (⟨B, 6, none⟩, q) :: l) := by
  subst hB
  have h1 := h.step ((Below.refl w.heap.size w).alloc (Nat.le_refl _) (.cells #[x, y, u, v, z, p, q] t))
  refine ⟨h1.1, fun p hp => ?_⟩
  simp only [List.mem_cons] at hp
  rcases hp with rfl | rfl | rfl | rfl | rfl | rfl | rfl | hp
  · exact ⟨by simp, by go_simp, by go_simp⟩
  · exact ⟨by simp, by go_simp, by go_simp⟩
  · exact ⟨by simp, by go_simp, by go_simp⟩
  · exact ⟨by simp, by go_simp, by go_simp⟩
  · exact ⟨by simp, by go_simp, by go_simp⟩
  · exact ⟨by simp, by go_simp, by go_simp⟩
  · exact ⟨by simp, by go_simp, by go_simp⟩
  · exact h1.2 p hp

theorem ivc1 {b : Int} {r : Rw} {v : Bool} (h : v = true ↔ (1 ≤ b ∧ b ≤ 20) ∧ r.ok = true) : v = true ↔ ChOk ⟨1, b, r⟩ := by
  rw [h]
  constructor
  · intro h1; exact .inl ⟨rfl, h1⟩
  · intro h1; exact h1.one rfl
theorem ivc2 {b : Int} {r : Rw} {v : Bool} (h : v = true ↔ b = 0 ∧ r.ok = true) : v = true ↔ ChOk ⟨2, b, r⟩ := by
  rw [h]
  constructor
  · intro h1; exact .inr (.inl ⟨rfl, h1⟩)
  · intro h1; exact h1.two rfl
theorem ivc3 {b : Int} {r : Rw} {v : Bool} (h : v = true ↔ b = 0 ∧ (1 ≤ r.i ∧ r.i ≤ 99) ∧ Bare r) : v = true ↔ ChOk ⟨3, b, r⟩ := by
  rw [h]
  constructor
  · intro h1; exact .inr (.inr (.inl ⟨rfl, h1⟩))
  · intro h1; exact h1.three rfl
theorem ivc4 {b : Int} {r : Rw} {v : Bool} (h : v = true ↔ (1 ≤ b ∧ b ≤ 20) ∧ r.i = 0 ∧ Bare r) : v = true ↔ ChOk ⟨4, b, r⟩ := by
  rw [h]
  constructor
  · intro h1; exact .inr (.inr (.inr ⟨rfl, h1⟩))
  · intro h1; exact h1.four rfl
theorem ivc0 {k b : Int} {r : Rw} (h1 : k ≠ 1) (h2 : k ≠ 2) (h3 : k ≠ 3) (h4 : k ≠ 4) : false = true ↔ ChOk ⟨k, b, r⟩ := by
  constructor
  · intro h; cases h
  · intro h
    rcases h.kind with h | h | h | h
    · exact (h1 h).elim
    · exact (h2 h).elim
    · exact (h3 h).elim
    · exact (h4 h).elim

def IvPost (c : Cg) (w : World) (r : Ending) (w' : World) : Prop := (∃ v : Bool, (v = true ↔ ChOk c) ∧ r = .returned (.bool v)) ∧ Below w.heap.size w w'

set_option maxRecDepth 8000 in
set_option maxHeartbeats 3200000 in
theorem spec_ivc1 (b i g y x : Int) (nl : Bool) (w : World) :
    Calls Try.prog 77 #[.agg #[.int .i64 1, .int .i64 b, .int .i64 i, .int .i64 g, .int .i64 y, .int .i64 x, .bool nl]] w (IvPost ⟨1, b, ⟨i, g, y, x, nl⟩⟩ w) := by
  have D0 := fun w => l1In_b b 1 20 w
  have R0 := fun w => spec_rv i g y x nl w
  obtain ⟨q1, hq1⟩ : ∃ q, q = decide (1 ≤ b ∧ b ≤ 20) := ⟨_, rfl⟩
  obtain ⟨q2, hq2⟩ : ∃ q, q = rowB i g y x nl := ⟨_, rfl⟩
  rw [← hq1] at D0
  rw [← hq2] at R0
  have D := Lib.hid D0
  have R := Lib.hid R0
  have E := Lib.hid (show (q1 && q2) = true ↔ ChOk ⟨1, b, ⟨i, g, y, x, nl⟩⟩ from ivc1 (by rw [hq1, hq2]; unfold Rw.ok; simp))
  clear D0 R0 hq1 hq2
  go_enter Try.func77, Try.ntmps77
  have K0 := (Kept.start w).alloc7 (.int .i64 1) (.int .i64 b) (.int .i64 i) (.int .i64 g) (.int .i64 y) (.int .i64 x) (.bool nl) 38 _ rfl
  have k0 := K0.get 0 rfl
  have k1 := K0.get 1 rfl
  have k2 := K0.get 2 rfl
  have k3 := K0.get 3 rfl
  have k4 := K0.get 4 rfl
  have k5 := K0.get 5 rfl
  have k6 := K0.get 6 rfl
  cases q1
  · go_wp2_with fail
    refine (D.out _).mono ?_
    rintro r9 w1 ⟨rfl, rfl⟩
    go_wp2
    go_ret
    exact ⟨⟨_, E.out, rfl⟩, K0.1⟩
  · go_wp2_with fail
    refine (D.out _).mono ?_
    rintro r9 w1 ⟨rfl, rfl⟩
    go_wp2_with fail
    refine (R.out _).mono ?_
    rintro r9 w2 ⟨rfl, hb⟩
    have K1 := K0.step hb
    clear hb
    go_wp2
    go_ret
    exact ⟨⟨_, E.out, by simp⟩, K1.1⟩
set_option maxRecDepth 8000 in
set_option maxHeartbeats 3200000 in
theorem spec_ivc2 (b i g y x : Int) (nl : Bool) (w : World) :
    Calls Try.prog 77 #[.agg #[.int .i64 2, .int .i64 b, .int .i64 i, .int .i64 g, .int .i64 y, .int .i64 x, .bool nl]] w (IvPost ⟨2, b, ⟨i, g, y, x, nl⟩⟩ w) := by
  have R0 := fun w => spec_rv i g y x nl w
  obtain ⟨q2, hq2⟩ : ∃ q, q = rowB i g y x nl := ⟨_, rfl⟩
  rw [← hq2] at R0
  have R := Lib.hid R0
  by_cases hb0 : b = 0
  · subst hb0
    have E := Lib.hid (show q2 = true ↔ ChOk ⟨2, 0, ⟨i, g, y, x, nl⟩⟩ from ivc2 (by rw [hq2]; unfold Rw.ok; simp))
    clear R0 hq2
    go_enter Try.func77, Try.ntmps77
    have K0 := (Kept.start w).alloc7 (.int .i64 2) (.int .i64 0) (.int .i64 i) (.int .i64 g) (.int .i64 y) (.int .i64 x) (.bool nl) 38 _ rfl
    have k0 := K0.get 0 rfl
    have k1 := K0.get 1 rfl
    have k2 := K0.get 2 rfl
    have k3 := K0.get 3 rfl
    have k4 := K0.get 4 rfl
    have k5 := K0.get 5 rfl
    have k6 := K0.get 6 rfl
    go_wp2_with fail
    refine (R.out _).mono ?_
    rintro r9 w2 ⟨rfl, hb⟩
    have K1 := K0.step hb
    clear hb
    go_wp2
    go_ret
    exact ⟨⟨_, E.out, rfl⟩, K1.1⟩
  · have E := Lib.hid (show false = true ↔ ChOk ⟨2, b, ⟨i, g, y, x, nl⟩⟩ from ivc2 (by simp [hb0]))
    have qb : (b == 0) = false := beq_eq_false_iff_ne.2 hb0
    have HB := Lib.hid hb0
    clear R0 hq2 hb0
    go_enter Try.func77, Try.ntmps77
    have K0 := (Kept.start w).alloc7 (.int .i64 2) (.int .i64 b) (.int .i64 i) (.int .i64 g) (.int .i64 y) (.int .i64 x) (.bool nl) 38 _ rfl
    have k0 := K0.get 0 rfl
    have k1 := K0.get 1 rfl
    have k2 := K0.get 2 rfl
    have k3 := K0.get 3 rfl
    have k4 := K0.get 4 rfl
    have k5 := K0.get 5 rfl
    have k6 := K0.get 6 rfl
    go_wp2
    go_ret
    exact ⟨⟨_, E.out, by simp⟩, K0.1⟩

set_option maxRecDepth 8000 in
set_option maxHeartbeats 3200000 in
theorem spec_ivc3 (b i g y x : Int) (nl : Bool) (w : World) :
    Calls Try.prog 77 #[.agg #[.int .i64 3, .int .i64 b, .int .i64 i, .int .i64 g, .int .i64 y, .int .i64 x, .bool nl]] w (IvPost ⟨3, b, ⟨i, g, y, x, nl⟩⟩ w) := by
  have D0 := fun w => l1In_b i 1 99 w
  obtain ⟨q1, hq1⟩ : ∃ q, q = decide (1 ≤ i ∧ i ≤ 99) := ⟨_, rfl⟩
  rw [← hq1] at D0
  have D := Lib.hid D0
  by_cases hb0 : b = 0
  · subst hb0
    have E := Lib.hid (show (q1 && ((g == 0) && ((y == 0) && ((x == 0) && (nl == false))))) = true ↔ ChOk ⟨3, 0, ⟨i, g, y, x, nl⟩⟩ from ivc3 (by rw [hq1]; unfold Bare; simp))
    clear D0 hq1
    go_enter Try.func77, Try.ntmps77
    have K0 := (Kept.start w).alloc7 (.int .i64 3) (.int .i64 0) (.int .i64 i) (.int .i64 g) (.int .i64 y) (.int .i64 x) (.bool nl) 38 _ rfl
    have k0 := K0.get 0 rfl
    have k1 := K0.get 1 rfl
    have k2 := K0.get 2 rfl
    have k3 := K0.get 3 rfl
    have k4 := K0.get 4 rfl
    have k5 := K0.get 5 rfl
    have k6 := K0.get 6 rfl
    cases q1
    · go_wp2_with fail
      refine (D.out _).mono ?_
      rintro r9 w1 ⟨rfl, rfl⟩
      go_wp2
      go_ret
      exact ⟨⟨_, E.out, rfl⟩, (K0.alloc5 (.int .i64 i) (.int .i64 0) (.int .i64 0) (.int .i64 0) (.bool false) 36 _ rfl).1⟩
    · go_wp2_with fail
      have K1 := K0.alloc5 (.int .i64 i) (.int .i64 0) (.int .i64 0) (.int .i64 0) (.bool false) 36 (w.heap.size + 1) (by simp)
      refine (D.out _).mono ?_
      rintro r9 w1 ⟨rfl, rfl⟩
      go_wp2_with fail
      all_goals
        try have hnl : nl = false := by simpa using ‹¬ nl = true›
        try subst hnl
        subst_vars
        go_ret
        exact ⟨⟨_, E.out, by simp_all⟩, K1.1⟩
  · have E := Lib.hid (show false = true ↔ ChOk ⟨3, b, ⟨i, g, y, x, nl⟩⟩ from ivc3 (by simp [hb0]))
    have qb : (b == 0) = false := beq_eq_false_iff_ne.2 hb0
    have HB := Lib.hid hb0
    clear D0 hq1 hb0
    go_enter Try.func77, Try.ntmps77
    have K0 := (Kept.start w).alloc7 (.int .i64 3) (.int .i64 b) (.int .i64 i) (.int .i64 g) (.int .i64 y) (.int .i64 x) (.bool nl) 38 _ rfl
    have k0 := K0.get 0 rfl
    have k1 := K0.get 1 rfl
    have k2 := K0.get 2 rfl
    have k3 := K0.get 3 rfl
    have k4 := K0.get 4 rfl
    have k5 := K0.get 5 rfl
    have k6 := K0.get 6 rfl
    go_wp2
    go_ret
    exact ⟨⟨_, E.out, by simp⟩, (K0.alloc5 (.int .i64 i) (.int .i64 0) (.int .i64 0) (.int .i64 0) (.bool false) 36 _ rfl).1⟩

set_option maxRecDepth 8000 in
set_option maxHeartbeats 3200000 in
theorem spec_ivc4 (b i g y x : Int) (nl : Bool) (w : World) :
    Calls Try.prog 77 #[.agg #[.int .i64 4, .int .i64 b, .int .i64 i, .int .i64 g, .int .i64 y, .int .i64 x, .bool nl]] w (IvPost ⟨4, b, ⟨i, g, y, x, nl⟩⟩ w) := by
  have D0 := fun w => l1In_b b 1 20 w
  have R0 := fun w => spec_none i g y x nl w
  obtain ⟨q1, hq1⟩ : ∃ q, q = decide (1 ≤ b ∧ b ≤ 20) := ⟨_, rfl⟩
  obtain ⟨q2, hq2⟩ : ∃ q, q = ((i == 0) && ((g == 0) && ((y == 0) && ((x == 0) && (nl == false))))) := ⟨_, rfl⟩
  rw [← hq1] at D0
  rw [← hq2] at R0
  have D := Lib.hid D0
  have R := Lib.hid R0
  have E := Lib.hid (show (q1 && q2) = true ↔ ChOk ⟨4, b, ⟨i, g, y, x, nl⟩⟩ from ivc4 (by rw [hq1, hq2]; unfold Bare; simp))
  clear D0 R0 hq1 hq2
  go_enter Try.func77, Try.ntmps77
  have K0 := (Kept.start w).alloc7 (.int .i64 4) (.int .i64 b) (.int .i64 i) (.int .i64 g) (.int .i64 y) (.int .i64 x) (.bool nl) 38 _ rfl
  have k0 := K0.get 0 rfl
  have k1 := K0.get 1 rfl
  have k2 := K0.get 2 rfl
  have k3 := K0.get 3 rfl
  have k4 := K0.get 4 rfl
  have k5 := K0.get 5 rfl
  have k6 := K0.get 6 rfl
  cases q1
  · go_wp2_with fail
    refine (D.out _).mono ?_
    rintro r9 w1 ⟨rfl, rfl⟩
    go_wp2
    go_ret
    exact ⟨⟨_, E.out, rfl⟩, K0.1⟩
  · go_wp2_with fail
    refine (D.out _).mono ?_
    rintro r9 w1 ⟨rfl, rfl⟩
    go_wp2_with fail
    refine (R.out _).mono ?_
    rintro r9 w2 ⟨rfl, hb⟩
    have K1 := K0.step hb
    clear hb
    go_wp2
    go_ret
    exact ⟨⟨_, E.out, by simp⟩, K1.1⟩

set_option maxRecDepth 8000 in
set_option maxHeartbeats 3200000 in
theorem spec_ivc0 (k : Int) (b i g y x : Int) (nl : Bool) (w : World) (h1 : k ≠ 1) (h2 : k ≠ 2) (h3 : k ≠ 3) (h4 : k ≠ 4) :
    Calls Try.prog 77 #[.agg #[.int .i64 k, .int .i64 b, .int .i64 i, .int .i64 g, .int .i64 y, .int .i64 x, .bool nl]] w (IvPost ⟨k, b, ⟨i, g, y, x, nl⟩⟩ w) := by
  have E := Lib.hid (ivc0 (k := k) (b := b) (r := ⟨i, g, y, x, nl⟩) h1 h2 h3 h4)
  have e1 : (k == 1) = false := beq_eq_false_iff_ne.2 h1
  have e2 : (k == 2) = false := beq_eq_false_iff_ne.2 h2
  have e3 : (k == 3) = false := beq_eq_false_iff_ne.2 h3
  have e4 : (k == 4) = false := beq_eq_false_iff_ne.2 h4
  clear h1 h2 h3 h4
  go_enter Try.func77, Try.ntmps77
  have K0 := (Kept.start w).alloc7 (.int .i64 k) (.int .i64 b) (.int .i64 i) (.int .i64 g) (.int .i64 y) (.int .i64 x) (.bool nl) 38 _ rfl
  have k0 := K0.get 0 rfl
  have k1 := K0.get 1 rfl
  have k2 := K0.get 2 rfl
  have k3 := K0.get 3 rfl
  have k4 := K0.get 4 rfl
  have k5 := K0.get 5 rfl
  have k6 := K0.get 6 rfl
  go_wp2
  go_ret
  exact ⟨⟨_, E.out, by simp⟩, K0.1⟩

/-- The model's IsValidChange. -/
theorem spec_ivc (c : Cg) (w : World) :
    Calls Try.prog 77 #[.agg #[.int .i64 c.k, .int .i64 c.b, .int .i64 c.r.i, .int .i64 c.r.g, .int .i64 c.r.y, .int .i64 c.r.x, .bool c.r.nl]] w (IvPost c w) := by
  obtain ⟨k, b, i, g, y, x, nl⟩ := c
  by_cases h1 : k = 1
  · subst h1; exact spec_ivc1 b i g y x nl w
  by_cases h2 : k = 2
  · subst h2; exact spec_ivc2 b i g y x nl w
  by_cases h3 : k = 3
  · subst h3; exact spec_ivc3 b i g y x nl w
  by_cases h4 : k = 4
  · subst h4; exact spec_ivc4 b i g y x nl w
  exact spec_ivc0 k b i g y x nl w h1 h2 h3 h4
end Go.Proofs.Ytcfcohnkkgickaa

namespace Go.Proofs.Ytcfcohnkkgickaa
open Go.RowKit Num

set_option maxRecDepth 8000 in
set_option maxHeartbeats 3200000 in
theorem law_toC (k b i g y x : Int) (nl : Bool) (w : World) :
    Calls Try.prog 16 #[.agg #[.int .i64 k, .int .i64 b, .int .i64 i, .int .i64 g, .int .i64 y, .int .i64 x, .bool nl]] w fun e w' => e = .returned (.agg #[.int .i64 k, .int .i64 b, .int .i64 i, .int .i64 g, .int .i64 y, .int .i64 x, .bool nl]) ∧ Below w.heap.size w w' := by
  go_enter Try.func16, Try.ntmps16
  go_wp2_with fail
  have K0 := (((Kept.start w).alloc7 (.int .i64 k) (.int .i64 b) (.int .i64 i) (.int .i64 g) (.int .i64 y) (.int .i64 x) (.bool nl) 28 _ rfl).alloc7 (.int .i64 0) (.int .i64 0) (.int .i64 0) (.int .i64 0) (.int .i64 0) (.int .i64 0) (.bool false) 38 (w.heap.size + 1) (by simp)).alloc7 (.int .i64 k) (.int .i64 b) (.int .i64 0) (.int .i64 0) (.int .i64 0) (.int .i64 0) (.bool false) 38 (w.heap.size + 1 + 1) (by simp)
  refine (law_toR _ _ _ _ _ _).mono ?_
  rintro e w1 ⟨rfl, hb⟩
  have K1 := K0.step hb
  clear hb K0
  have Q0 := K1.sub (l' := [(⟨w.heap.size + 1 + 1, 0, none⟩, .int .i64 k), (⟨w.heap.size + 1 + 1, 1, none⟩, .int .i64 b), (⟨w.heap.size + 1 + 1, 2, none⟩, .int .i64 0), (⟨w.heap.size + 1 + 1, 3, none⟩, .int .i64 0), (⟨w.heap.size + 1 + 1, 4, none⟩, .int .i64 0), (⟨w.heap.size + 1 + 1, 5, none⟩, .int .i64 0), (⟨w.heap.size + 1 + 1, 6, none⟩, .bool false), (⟨w.heap.size + 1, 0, none⟩, .int .i64 0), (⟨w.heap.size + 1, 1, none⟩, .int .i64 0), (⟨w.heap.size + 1, 2, none⟩, .int .i64 0), (⟨w.heap.size + 1, 3, none⟩, .int .i64 0), (⟨w.heap.size + 1, 4, none⟩, .int .i64 0), (⟨w.heap.size + 1, 5, none⟩, .int .i64 0), (⟨w.heap.size + 1, 6, none⟩, .bool false)]) (by intro p9 hp9; simp only [List.mem_cons, List.not_mem_nil, or_false] at hp9; rcases hp9 with rfl | rfl | rfl | rfl | rfl | rfl | rfl | rfl | rfl | rfl | rfl | rfl | rfl | rfl <;> simp)
  have Q1 := Kept.set (p := [(⟨w.heap.size + 1 + 1, 0, none⟩, .int .i64 k), (⟨w.heap.size + 1 + 1, 1, none⟩, .int .i64 b)]) Q0 (.int .i64 i) (by simp only; omega) (by simp only [List.cons_append, List.nil_append, List.mem_cons, List.not_mem_nil, or_false]; rintro c (rfl | rfl | rfl | rfl | rfl | rfl | rfl | rfl | rfl | rfl | rfl | rfl | rfl) <;> simp)
  have Q2 := Kept.set (p := [(⟨w.heap.size + 1 + 1, 0, none⟩, .int .i64 k), (⟨w.heap.size + 1 + 1, 1, none⟩, .int .i64 b), (⟨w.heap.size + 1 + 1, 2, none⟩, .int .i64 i)]) Q1 (.int .i64 g) (by simp only; omega) (by simp only [List.cons_append, List.nil_append, List.mem_cons, List.not_mem_nil, or_false]; rintro c (rfl | rfl | rfl | rfl | rfl | rfl | rfl | rfl | rfl | rfl | rfl | rfl | rfl) <;> simp)
  have Q3 := Kept.set (p := [(⟨w.heap.size + 1 + 1, 0, none⟩, .int .i64 k), (⟨w.heap.size + 1 + 1, 1, none⟩, .int .i64 b), (⟨w.heap.size + 1 + 1, 2, none⟩, .int .i64 i), (⟨w.heap.size + 1 + 1, 3, none⟩, .int .i64 g)]) Q2 (.int .i64 y) (by simp only; omega) (by simp only [List.cons_append, List.nil_append, List.mem_cons, List.not_mem_nil, or_false]; rintro c (rfl | rfl | rfl | rfl | rfl | rfl | rfl | rfl | rfl | rfl | rfl | rfl | rfl) <;> simp)
  have Q4 := Kept.set (p := [(⟨w.heap.size + 1 + 1, 0, none⟩, .int .i64 k), (⟨w.heap.size + 1 + 1, 1, none⟩, .int .i64 b), (⟨w.heap.size + 1 + 1, 2, none⟩, .int .i64 i), (⟨w.heap.size + 1 + 1, 3, none⟩, .int .i64 g), (⟨w.heap.size + 1 + 1, 4, none⟩, .int .i64 y)]) Q3 (.int .i64 x) (by simp only; omega) (by simp only [List.cons_append, List.nil_append, List.mem_cons, List.not_mem_nil, or_false]; rintro c (rfl | rfl | rfl | rfl | rfl | rfl | rfl | rfl | rfl | rfl | rfl | rfl | rfl) <;> simp)
  have Q5 := Kept.set (p := [(⟨w.heap.size + 1 + 1, 0, none⟩, .int .i64 k), (⟨w.heap.size + 1 + 1, 1, none⟩, .int .i64 b), (⟨w.heap.size + 1 + 1, 2, none⟩, .int .i64 i), (⟨w.heap.size + 1 + 1, 3, none⟩, .int .i64 g), (⟨w.heap.size + 1 + 1, 4, none⟩, .int .i64 y), (⟨w.heap.size + 1 + 1, 5, none⟩, .int .i64 x)]) Q4 (.bool nl) (by simp only; omega) (by simp only [List.cons_append, List.nil_append, List.mem_cons, List.not_mem_nil, or_false]; rintro c (rfl | rfl | rfl | rfl | rfl | rfl | rfl | rfl | rfl | rfl | rfl | rfl | rfl) <;> simp)
  have f2 := Q0.fz 2 rfl
  have f3 := Q0.fz 3 rfl
  have f4 := Q0.fz 4 rfl
  have f5 := Q0.fz 5 rfl
  have f6 := Q0.fz 6 rfl
  have z2 := Q0.get 2 rfl
  have z3 := Q0.get 3 rfl
  have z4 := Q0.get 4 rfl
  have z5 := Q0.get 5 rfl
  have z6 := Q0.get 6 rfl
  have c0 := Q5.get 0 rfl
  have c1 := Q5.get 1 rfl
  have c2 := Q5.get 2 rfl
  have c3 := Q5.get 3 rfl
  have c4 := Q5.get 4 rfl
  have c5 := Q5.get 5 rfl
  have c6 := Q5.get 6 rfl
  have g0 := Q5.fz 7 rfl
  have g1 := Q5.fz 8 rfl
  have g2 := Q5.fz 9 rfl
  have g3 := Q5.fz 10 rfl
  have g4 := Q5.fz 11 rfl
  have g5 := Q5.fz 12 rfl
  have g6 := Q5.fz 13 rfl
  have r0 := Q5.get 7 rfl
  have r1 := Q5.get 8 rfl
  have r2 := Q5.get 9 rfl
  have r3 := Q5.get 10 rfl
  have r4 := Q5.get 11 rfl
  have r5 := Q5.get 12 rfl
  have r6 := Q5.get 13 rfl
  have p0 := Q0.get 0 rfl
  have p1 := Q0.get 1 rfl
  have p2 := Q0.get 2 rfl
  have p3 := Q0.get 3 rfl
  have p4 := Q0.get 4 rfl
  have p5 := Q0.get 5 rfl
  have p6 := Q0.get 6 rfl
  have p7 := Q0.get 7 rfl
  have p8 := Q0.get 8 rfl
  have p9 := Q0.get 9 rfl
  have p10 := Q0.get 10 rfl
  have p11 := Q0.get 11 rfl
  have p12 := Q0.get 12 rfl
  have p13 := Q0.get 13 rfl
  have y0 := Q0.lt 0 rfl
  have y1 := Q0.lt 7 rfl
  go_wp2
  clear c0 g0 r0 c1 g1 r1 c2 g2 r2 c3 g3 r3 c4 g4 r4 c5 g5 r5 c6 g6 r6
  exact bodyPost_ret (v := .agg #[.int .i64 k, .int .i64 b, .int .i64 i, .int .i64 g, .int .i64 y, .int .i64 x, .bool nl]) (by simp [results, Try.results16, go_sem, p0, p1, p2, p3, p4, p5, p6, p7, p8, p9, p10, p11, p12, p13, y0, y1]) rfl
    ⟨rfl, (((((((Q5.1.setCell (p := ⟨w.heap.size + 1, 0, none⟩) (Nat.le_succ _) _).setCell (p := ⟨w.heap.size + 1, 1, none⟩) (Nat.le_succ _) _).setCell (p := ⟨w.heap.size + 1, 2, none⟩) (Nat.le_succ _) _).setCell (p := ⟨w.heap.size + 1, 3, none⟩) (Nat.le_succ _) _).setCell (p := ⟨w.heap.size + 1, 4, none⟩) (Nat.le_succ _) _).setCell (p := ⟨w.heap.size + 1, 5, none⟩) (Nat.le_succ _) _).setCell (p := ⟨w.heap.size + 1, 6, none⟩) (Nat.le_succ _) _)⟩
end Go.Proofs.Ytcfcohnkkgickaa

namespace Go.Proofs.Ytcfcohnkkgickaa
open Go Num

theorem areB_iff (R : Nat → Rw) : ∀ n : Nat, areB R n = true ↔ (∀ k, k < n → (R k).ok = true) ∧ ∀ j k, j < k → k < n → (R j).i < (R k).i
  | 0 => ⟨fun _ => ⟨fun k hk => by omega, fun j k _ hk => by omega⟩, fun _ => rfl⟩
  | n + 1 => by
    have e : areB R (n + 1) = (areB R n && ((R n).ok && (decide (n = 0) || decide ((R (n - 1)).i < (R n).i)))) := rfl
    rw [e, Bool.and_eq_true, Bool.and_eq_true, areB_iff R n, Bool.or_eq_true, decide_eq_true_iff, decide_eq_true_iff]
    constructor
    · rintro ⟨⟨h1, h2⟩, h3, h4⟩
      refine ⟨fun k hk => ?_, fun j k hj hk => ?_⟩
      · by_cases hk' : k < n
        · exact h1 k hk'
        · obtain rfl : k = n := by omega
          exact h3
      · by_cases hk' : k < n
        · exact h2 j k hj hk'
        · obtain rfl : k = n := by omega
          have h5 : (R (k - 1)).i < (R k).i := h4.resolve_left (by omega)
          by_cases hj' : j = k - 1
          · rw [hj']; exact h5
          · exact Int.lt_trans (h2 j (k - 1) (by omega) (by omega)) h5
    · rintro ⟨h1, h2⟩
      refine ⟨⟨fun k hk => h1 k (by omega), fun j k hj hk => h2 j k hj (by omega)⟩, h1 n (by omega), ?_⟩
      by_cases h0 : n = 0
      · exact .inl h0
      · exact .inr (h2 (n - 1) n (by omega) (by omega))

/-- Whether ID and rows are a valid block. -/
def blkL (id : Int) (l : List Rw) : Bool := blkB id l.length (Rn l)
theorem blkL_lst (id : Int) (n : Nat) (R : Nat → Rw) : blkL id (lst n R) = blkB id n R := by
  unfold blkL blkB
  rw [lst_len, areB_congr n (fun k hk => Rn_lst hk)]

/-- How many rows at the head have a lower ID. -/
def posL (x : Int) : List Rw → Nat
  | [] => 0
  | r :: l => if r.i < x then posL x l + 1 else 0
theorem posL_le (x : Int) : ∀ l : List Rw, posL x l ≤ l.length
  | [] => Nat.le_refl _
  | r :: l => by
    unfold posL
    split
    · have := posL_le x l; simp only [List.length_cons]; omega
    · omega
theorem posL_low (x : Int) : ∀ (l : List Rw) (k : Nat), k < posL x l → (Rn l k).i < x
  | [], k, h => by simp [posL] at h
  | r :: l, k, h => by
    unfold posL at h
    split at h
    · next hr =>
      match k with
      | 0 => exact hr
      | k + 1 => exact posL_low x l k (by omega)
    · omega
theorem posL_high (x : Int) : ∀ (l : List Rw), posL x l < l.length → ¬ (Rn l (posL x l)).i < x
  | [], h => by simp at h
  | r :: l, h => by
    unfold posL at h ⊢
    split
    · next hr =>
      rw [if_pos hr] at h
      exact posL_high x l (by simpa using h)
    · next hr => exact hr
/-- What marks the place. -/
theorem posL_unique {x : Int} {l : List Rw} {k : Nat} (hk : k ≤ l.length) (h1 : ∀ j, j < k → (Rn l j).i < x) (h2 : k < l.length → ¬ (Rn l k).i < x) : k = posL x l := by
  rcases Nat.lt_trichotomy k (posL x l) with h | h | h
  · exact absurd (posL_low x l k h) (h2 (Nat.lt_of_lt_of_le h (posL_le x l)))
  · exact h
  · exact absurd (h1 _ h) (posL_high x l (by omega))

/-- The rows with r in its place. -/
def addL (l : List Rw) (r : Rw) : List Rw := l.take (posL r.i l) ++ ([r] ++ l.drop (posL r.i l))
theorem addL_len (l : List Rw) (r : Rw) : (addL l r).length = l.length + 1 := by
  have := posL_le r.i l
  unfold addL
  simp only [List.length_append, List.length_take, List.length_drop, List.length_cons, List.length_nil]
  omega
theorem addL_at (l : List Rw) (r : Rw) (k : Nat) : Rn (addL l r) k = if k < posL r.i l then Rn l k else if k = posL r.i l then r else Rn l (k - 1) := by
  have hp := posL_le r.i l
  have hlen : (l.take (posL r.i l)).length = posL r.i l := by rw [List.length_take]; omega
  unfold Rn addL
  rw [List.getD_eq_getElem?_getD, List.getD_eq_getElem?_getD, List.getD_eq_getElem?_getD]
  split
  · next h => rw [List.getElem?_append_left (by rw [hlen]; exact h), List.getElem?_take_of_lt h]
  · next h =>
    rw [List.getElem?_append_right (by rw [hlen]; omega), hlen]
    split
    · next h2 => rw [h2, Nat.sub_self]; rfl
    · next h2 =>
      rw [List.getElem?_append_right (by simp; omega), List.getElem?_drop]
      congr 2
      simp only [List.length_cons, List.length_nil]
      omega

/-- What AddRow answers. -/
def addOk (id : Int) (l : List Rw) (r : Rw) : Bool := blkL id l && blkL id (addL l r)
def addAns (id : Int) (l : List Rw) (r : Rw) : List Rw := if addOk id l r = true then addL l r else l

theorem blkL_of {id : Int} {l : List Rw} (h : blkL id l = true) : (1 ≤ id ∧ id ≤ 20) ∧ areB (Rn l) l.length = true ∧ l.length ≤ 6 := blkB_of h
theorem blkL_mk {id : Int} {l : List Rw} (h1 : 1 ≤ id ∧ id ≤ 20) (h2 : areB (Rn l) l.length = true) (h3 : l.length ≤ 6) : blkL id l = true := by
  unfold blkL blkB
  rw [decide_eq_true h1, h2, decide_eq_true h3]; rfl

/-- A row can be added where it is valid, there is room, and no row has its ID. -/
theorem addOk_iff {id : Int} {l : List Rw} {r : Rw} (hb : blkL id l = true) : addOk id l r = true ↔ r.ok = true ∧ l.length < 6 ∧ ∀ k, k < l.length → (Rn l k).i ≠ r.i := by
  obtain ⟨h1, h2, h3⟩ := blkL_of hb
  obtain ⟨a1, a2⟩ := (areB_iff (Rn l) l.length).1 h2
  have hp := posL_le r.i l
  have hlow := posL_low r.i l
  have hhigh := posL_high r.i l
  have hat := addL_at l r
  have hlen := addL_len l r
  unfold addOk
  rw [hb, Bool.true_and]
  generalize posL r.i l = p at hp hlow hhigh hat
  constructor
  · intro h
    obtain ⟨_, g2, g3⟩ := blkL_of h
    obtain ⟨c1, c2⟩ := (areB_iff (Rn (addL l r)) (addL l r).length).1 g2
    rw [hlen] at c1 c2 g3
    have er : Rn (addL l r) p = r := by rw [hat, if_neg (by omega), if_pos rfl]
    refine ⟨by rw [← er]; exact c1 p (by omega), by omega, fun k hk => ?_⟩
    by_cases h5 : k < p
    · have := hlow k h5; omega
    · have := c2 p (k + 1) (by omega) (by omega)
      rw [er, hat (k + 1), if_neg (by omega), if_neg (by omega)] at this
      simp only [Nat.add_sub_cancel] at this
      omega
  · rintro ⟨g1, g2, g3⟩
    refine blkL_mk h1 ?_ (by omega)
    rw [areB_iff, hlen]
    refine ⟨fun k hk => ?_, fun j k hj hk => ?_⟩
    · rw [hat]
      split
      · exact a1 k (by omega)
      · split
        · exact g1
        · exact a1 (k - 1) (by omega)
    · rw [hat, hat]
      by_cases hjp : j < p
      · rw [if_pos hjp]
        by_cases hkp : k < p
        · rw [if_pos hkp]; exact a2 j k hj (by omega)
        · rw [if_neg hkp]
          by_cases hke : k = p
          · rw [if_pos hke]; exact hlow j hjp
          · rw [if_neg hke]; exact a2 j (k - 1) (by omega) (by omega)
      · rw [if_neg hjp, if_neg (show ¬ k < p by omega), if_neg (show ¬ k = p by omega)]
        by_cases hje : j = p
        · rw [if_pos hje]
          have hpl : p < l.length := by omega
          have hp2 : r.i < (Rn l p).i := by have := hhigh hpl; have := g3 p hpl; omega
          by_cases hkk : k - 1 = p
          · rw [hkk]; exact hp2
          · exact Int.lt_trans hp2 (a2 p (k - 1) (by omega) (by omega))
        · rw [if_neg hje]; exact a2 (j - 1) (k - 1) (by omega) (by omega)

/-- What RemoveRow answers. -/
def RemAns (id : Int) (l : List Rw) (x : Int) (l' : List Rw) (ok : Bool) : Prop :=
  (ok = true ∧ blkL id l = true ∧ ∃ k : Nat, FdAns (Rn l) x l.length (k : Int) ∧ l' = l.take k ++ l.drop (k + 1)) ∨ (ok = false ∧ l' = l ∧ (blkL id l = false ∨ FdAns (Rn l) x l.length (-1)))
theorem RemAns_unique {id x : Int} {l l1 l2 : List Rw} {a b : Bool} (h : RemAns id l x l1 a) (h' : RemAns id l x l2 b) : l1 = l2 ∧ a = b := by
  rcases h with ⟨rfl, h, k, hk, rfl⟩ | ⟨rfl, rfl, h⟩ <;> rcases h' with ⟨rfl, h', k', hk', rfl⟩ | ⟨rfl, rfl, h'⟩
  · have := FdAns_unique hk hk'
    obtain rfl : k = k' := by omega
    exact ⟨rfl, rfl⟩
  · rcases h' with h' | h'
    · rw [h] at h'; cases h'
    · have := FdAns_unique hk h'; omega
  · rcases h with h | h
    · rw [h'] at h; cases h
    · have := FdAns_unique hk' h; omega
  · exact ⟨rfl, rfl⟩
end Go.Proofs.Ytcfcohnkkgickaa

namespace Go.Proofs.Ytcfcohnkkgickaa
open Go Num

open Classical in
/-- The index of the first element for which p holds, or the length. -/
noncomputable def fIdx {α : Type} (p : α → Prop) (l : List α) : Nat := l.findIdx fun x => decide (p x)
theorem fIdx_le {α : Type} (p : α → Prop) (l : List α) : fIdx p l ≤ l.length := List.findIdx_le_length
open Classical in
theorem fIdx_eq {α : Type} {p : α → Prop} {l : List α} {k : Nat} (hk : k < l.length) (hp : p l[k]) (h : ∀ j (hj : j < k), ¬ p (l[j]'(by omega))) : fIdx p l = k := by
  unfold fIdx
  rw [List.findIdx_eq hk]
  exact ⟨decide_eq_true hp, fun j hj => decide_eq_false (h j hj)⟩
open Classical in
theorem fIdx_none {α : Type} {p : α → Prop} {l : List α} (h : ∀ j (hj : j < l.length), ¬ p l[j]) : fIdx p l = l.length := by
  unfold fIdx
  rw [List.findIdx_eq_length]
  intro x hx
  obtain ⟨j, hj, rfl⟩ := List.mem_iff_getElem.1 hx
  exact decide_eq_false (h j hj)
open Classical in
theorem fIdx_at {α : Type} {p : α → Prop} {l : List α} (h : fIdx p l < l.length) : p l[fIdx p l] := by
  have := List.findIdx_getElem (p := fun x => decide (p x)) (xs := l) (w := h)
  exact of_decide_eq_true this
open Classical in
theorem fIdx_low {α : Type} {p : α → Prop} {l : List α} {j : Nat} (h : j < fIdx p l) (hj : j < l.length) : ¬ p l[j] := by
  have := List.not_of_lt_findIdx (p := fun x => decide (p x)) (xs := l) h
  exact of_decide_eq_false (by simpa using this)
/-- An index that is told as a number, -1 for none. -/
noncomputable def idxI {α : Type} (p : α → Prop) (l : List α) : Int := if fIdx p l < l.length then (fIdx p l : Int) else -1
theorem firstAns_idx {p : Blk → Prop} {l : List Blk} {v : Int} (h : FirstAns (fun k => p (Bn l k)) l.length v) : v = idxI p l := by
  unfold idxI
  rcases h with ⟨k, hk, hp, hl, rfl⟩ | ⟨hl, rfl⟩
  · have e : fIdx p l = k := fIdx_eq hk (by have h9 : p (Bn l k) := hp; rwa [Bn_at hk] at h9) (fun j hj => by have h9 : ¬ p (Bn l j) := hl j hj; rwa [Bn_at (by omega)] at h9)
    rw [e, if_pos hk]
  · have e : fIdx p l = l.length := fIdx_none (fun j hj => by have h9 : ¬ p (Bn l j) := hl j hj; rwa [Bn_at hj] at h9)
    rw [e, if_neg (by omega)]
theorem fdAns_idx {l : List Rw} {x v : Int} (h : FdAns (Rn l) x l.length v) : v = idxI (fun r : Rw => r.i = x) l := by
  unfold idxI
  rcases h with ⟨k, hk, hp, hl, rfl⟩ | ⟨hl, rfl⟩
  · have e : fIdx (fun r : Rw => r.i = x) l = k := fIdx_eq hk (by rw [← Rn_at hk]; exact hp) (fun j hj => by have := hl j hj; rwa [Rn_at (by omega)] at this)
    rw [e, if_pos hk]
  · have e : fIdx (fun r : Rw => r.i = x) l = l.length := fIdx_none (fun j hj => by have := hl j hj; rwa [Rn_at hj] at this)
    rw [e, if_neg (by omega)]

/-- The block in which a row ID stands, the block with an ID, the row with an ID. -/
noncomputable def iRow (l : List Blk) (x : Int) : Nat := fIdx (fun b : Blk => HasRow b.rows x) l
noncomputable def iBlk (l : List Blk) (x : Int) : Nat := fIdx (fun b : Blk => b.id = x) l
noncomputable def iIn (l : List Rw) (x : Int) : Nat := fIdx (fun r : Rw => r.i = x) l

open Classical in
/-- What ApplyChange answers: the version, the blocks, the code. -/
noncomputable def applyC (ver : Int) (l : List Blk) (c : Cg) : Int × List Blk × Int :=
  if ¬ (TblOk ver l l.length ∧ ChOk c ∧ ver ≠ 99) then (ver, l, 1)
  else if c.k = 1 then
    if iRow l c.r.i < l.length then (ver, l, 2)
    else if iBlk l c.b < l.length then
      if (Bn l (iBlk l c.b)).rows.length < 6 then (ver + 1, l.set (iBlk l c.b) ⟨c.b, addL (Bn l (iBlk l c.b)).rows c.r⟩, 0) else (ver, l, 4)
    else if 0 < l.length ∧ c.b < (Bn l (l.length - 1)).id then (ver, l, 3)
    else if l.length = 6 then (ver, l, 4)
    else (ver + 1, l ++ [⟨c.b, [c.r]⟩], 0)
  else if c.k = 2 then
    if iRow l c.r.i < l.length then (ver + 1, l.set (iRow l c.r.i) ⟨(Bn l (iRow l c.r.i)).id, (Bn l (iRow l c.r.i)).rows.set (iIn (Bn l (iRow l c.r.i)).rows c.r.i) c.r⟩, 0) else (ver, l, 3)
  else if c.k = 3 then
    if iRow l c.r.i < l.length then (ver + 1, l.set (iRow l c.r.i) ⟨(Bn l (iRow l c.r.i)).id, (Bn l (iRow l c.r.i)).rows.eraseIdx (iIn (Bn l (iRow l c.r.i)).rows c.r.i)⟩, 0) else (ver, l, 3)
  else (ver + 1, l.filter fun b => decide (c.b ≤ b.id), 0)

/-- What ApplyChanges answers: the version, the blocks, the codes. -/
noncomputable def applyCs : Int → List Blk → List Cg → Int × List Blk × List Int
  | ver, l, [] => (ver, l, [])
  | ver, l, c :: cs => ((applyCs (applyC ver l c).1 (applyC ver l c).2.1 cs).1, (applyCs (applyC ver l c).1 (applyC ver l c).2.1 cs).2.1, (applyC ver l c).2.2 :: (applyCs (applyC ver l c).1 (applyC ver l c).2.1 cs).2.2)

theorem applyC_bad {ver : Int} {l : List Blk} {c : Cg} (h : ¬ (TblOk ver l l.length ∧ ChOk c ∧ ver ≠ 99)) : applyC ver l c = (ver, l, 1) := by unfold applyC; rw [if_pos h]
theorem applyC_good {ver : Int} {l : List Blk} {c : Cg} (h : TblOk ver l l.length ∧ ChOk c ∧ ver ≠ 99) : applyC ver l c = (if c.k = 1 then
    (if iRow l c.r.i < l.length then (ver, l, 2)
    else if iBlk l c.b < l.length then
      if (Bn l (iBlk l c.b)).rows.length < 6 then (ver + 1, l.set (iBlk l c.b) ⟨c.b, addL (Bn l (iBlk l c.b)).rows c.r⟩, 0) else (ver, l, 4)
    else if 0 < l.length ∧ c.b < (Bn l (l.length - 1)).id then (ver, l, 3)
    else if l.length = 6 then (ver, l, 4)
    else (ver + 1, l ++ [⟨c.b, [c.r]⟩], 0))
  else if c.k = 2 then
    if iRow l c.r.i < l.length then (ver + 1, l.set (iRow l c.r.i) ⟨(Bn l (iRow l c.r.i)).id, (Bn l (iRow l c.r.i)).rows.set (iIn (Bn l (iRow l c.r.i)).rows c.r.i) c.r⟩, 0) else (ver, l, 3)
  else if c.k = 3 then
    if iRow l c.r.i < l.length then (ver + 1, l.set (iRow l c.r.i) ⟨(Bn l (iRow l c.r.i)).id, (Bn l (iRow l c.r.i)).rows.eraseIdx (iIn (Bn l (iRow l c.r.i)).rows c.r.i)⟩, 0) else (ver, l, 3)
  else (ver + 1, l.filter fun b => decide (c.b ≤ b.id), 0)) := by unfold applyC; rw [if_neg (by simpa using h)]
theorem eraseIdx_cut (l : List Rw) (k : Nat) : l.take k ++ l.drop (k + 1) = l.eraseIdx k := (List.eraseIdx_eq_take_drop_succ l k).symm
end Go.Proofs.Ytcfcohnkkgickaa

namespace Go.Proofs.Ytcfcohnkkgickaa
open Go.RowKit Num

theorem Elems.split {α : Type} {E : Ty α} {w : World} {g : Nat} : ∀ {l : List α} {k0 : Nat} {f : List Nat}, Elems E w g k0 l f → ∀ k (hk : k < l.length), ∃ cs fa fk fb, f = fa ++ (fk ++ fb) ∧ CellsAt w g ((k0 + k) * E.size) cs ∧ E.rep w cs l[k] fk ∧ Elems E w g k0 (l.take k) fa ∧ Elems E w g (k0 + k + 1) (l.drop (k + 1)) fb
  | x :: l, k0, f, ⟨cs, f1, f2, e, hc, h1, h2⟩, 0, _ => ⟨cs, [], f1, f2, by simpa using e, hc, h1, rfl, h2⟩
  | x :: l, k0, f, ⟨cs, f1, f2, e, hc, h1, h2⟩, k + 1, hk => by
    obtain ⟨cs', fa, fk, fb, e', hc', hx, ha, hb⟩ := Elems.split h2 k (by simpa using hk)
    refine ⟨cs', f1 ++ fa, fk, fb, by rw [e, e']; simp, ?_, hx, ⟨cs, f1, fa, rfl, hc, h1, ha⟩, ?_⟩
    · rw [show k0 + (k + 1) = k0 + 1 + k by omega]; exact hc'
    · rw [show k0 + (k + 1) + 1 = k0 + 1 + k + 1 by omega]; exact hb
theorem Elems.join {α : Type} {E : Ty α} {w : World} {g : Nat} {x : α} {cs : List Value} {fk fb : List Nat} {l2 : List α} : ∀ {l1 : List α} {k0 : Nat} {fa : List Nat}, Elems E w g k0 l1 fa → CellsAt w g ((k0 + l1.length) * E.size) cs → E.rep w cs x fk → Elems E w g (k0 + l1.length + 1) l2 fb → Elems E w g k0 (l1 ++ x :: l2) (fa ++ (fk ++ fb))
  | [], k0, fa, h, hc, hx, hb => by
    have e : fa = [] := h
    subst e
    exact ⟨cs, fk, fb, by simp, by simpa using hc, hx, by simpa using hb⟩
  | y :: l1, k0, fa, ⟨cs0, f1, f2, e, h0, h1, h2⟩, hc, hx, hb => by
    subst e
    refine ⟨cs0, f1, f2 ++ (fk ++ fb), by simp, h0, h1, Elems.join h2 ?_ hx ?_⟩
    · rw [show k0 + 1 + l1.length = k0 + (y :: l1).length by simp only [List.length_cons]; omega]; exact hc
    · rw [show k0 + 1 + l1.length + 1 = k0 + (y :: l1).length + 1 by simp only [List.length_cons]; omega]; exact hb
theorem set_cut {α : Type} (l : List α) (k : Nat) (x : α) (hk : k < l.length) : l.set k x = l.take k ++ x :: l.drop (k + 1) := by
  rw [List.set_eq_take_append_cons_drop, if_pos hk]

/-- A store ahead of the elements. -/
theorem Elems.set_fore {α : Type} {E : Ty α} {w : World} {g : Nat} {u : Value} {o : Nat} : ∀ {l : List α} {k : Nat} {f : List Nat}, Elems E w g k l f → o < k * E.size → g ∉ f → Elems E (w.setCell ⟨g, o, none⟩ u) g k l f
  | [], _, _, h, _, _ => h
  | x :: l, k, f, ⟨cs, f1, f2, e, hc, h1, h2⟩, ho, hg => by
    subst e
    refine ⟨cs, f1, f2, rfl, fun j hj => ?_, E.keep h1 (fun b hb => Below.heap_setCell _ _ _ _ (fun e => hg (by have e' : b = g := e; rw [← e']; simp [hb]))), Elems.set_fore h2 (by rw [Nat.add_mul, Nat.one_mul]; omega) (fun h => hg (by simp [h]))⟩
    rw [World.cell?_setCell_other (w := w) (a := ⟨g, o, none⟩) (b := ⟨g, k * E.size + j, none⟩) (v := u) (fun e => ?_)]
    · exact hc j hj
    · simp only [Addr.mk.injEq, true_and, and_true] at e
      omega

/-- Block number k of a slice of blocks, opened. -/
theorem blk_open {w : World} {v : Value} {l : List Blk} {fp : List Nat} (h : SliceRep blkTy w v l fp) (hnd : fp.Nodup) {k : Nat} (hk : k < l.length) :
    ∃ g cap vb fa fk fb, v = .slice (some ⟨g, 0, none⟩) l.length cap ∧ fp = g :: (fa ++ (fk ++ fb)) ∧ l.length ≤ cap ∧ OwnBlk w g (l.length * 2) ∧ w.cell? ⟨g, k * 2, none⟩ = some (.int .i64 l[k].id) ∧ w.cell? ⟨g, k * 2 + 1, none⟩ = some vb ∧ SliceRep rowTy w vb l[k].rows fk ∧ Elems blkTy w g 0 (l.take k) fa ∧ Elems blkTy w g (k + 1) (l.drop (k + 1)) fb := by
  rcases h with ⟨rfl, _⟩ | ⟨g, cap, f, rfl, hc, ho, he, rfl⟩
  · simp at hk
  · obtain ⟨cs, fa, fk, fb, rfl, hcs, ⟨vb, rfl, hs⟩, ha, hb⟩ := he.split k hk
    rw [Nat.zero_add] at hcs hb
    exact ⟨g, cap, vb, fa, fk, fb, rfl, rfl, hc, ho, hcs 0 (by simp), hcs 1 (by simp), hs, ha, hb⟩

/-- Block number k replaced. -/
theorem blk_store {w : World} {g cap : Nat} {l : List Blk} {fa fk fb : List Nat} {k : Nat} (hk : k < l.length) (hc : l.length ≤ cap) (ho : OwnBlk w g (l.length * 2)) (ha : Elems blkTy w g 0 (l.take k) fa) (hb : Elems blkTy w g (k + 1) (l.drop (k + 1)) fb) (hnd : (g :: (fa ++ (fk ++ fb))).Nodup)
    {id : Int} {vb : Value} {rows : List Rw} {fn : List Nat} (hs : SliceRep rowTy w vb rows fn) (hn : fn.Nodup) (hd : ∀ j ∈ fn, j ∉ g :: (fa ++ (fk ++ fb))) :
    SliceRep blkTy ((w.setCell ⟨g, k * 2, none⟩ (.int .i64 id)).setCell ⟨g, k * 2 + 1, none⟩ vb) (.slice (some ⟨g, 0, none⟩) l.length cap) (l.set k ⟨id, rows⟩) (g :: (fa ++ (fn ++ fb))) ∧ (g :: (fa ++ (fn ++ fb))).Nodup := by
  have h1 := List.nodup_cons.1 hnd
  have hga : g ∉ fa := fun e => h1.1 (by simp [e])
  have hgb : g ∉ fb := fun e => h1.1 (by simp [e])
  have hgn : ∀ j ∈ fn, j ≠ g := fun j hj e => hd j hj (by simp [e])
  have h2 := List.nodup_append.1 h1.2
  have h3 := List.nodup_append.1 h2.2.1
  refine ⟨.inr ⟨g, cap, fa ++ (fn ++ fb), by rw [List.length_set], by rw [List.length_set]; exact hc, by rw [List.length_set]; exact (ho.set _ _).set _ _, ?_, rfl⟩, ?_⟩
  · rw [set_cut l k _ hk]
    have hlen : (l.take k).length = k := by rw [List.length_take]; omega
    refine Elems.join (x := ⟨id, rows⟩) (cs := [.int .i64 id, vb]) ((ha.set (by show (0 + (l.take k).length) * 2 ≤ k * 2; omega) hga).set (by show (0 + (l.take k).length) * 2 ≤ k * 2 + 1; omega) hga) (fun j hj => ?_) ⟨vb, rfl, (hs.set _ _ hgn).set _ _ hgn⟩ ?_
    · rw [Nat.zero_add, hlen]
      match j, hj with
      | 0, _ =>
        show ((w.setCell ⟨g, k * 2, none⟩ (.int .i64 id)).setCell ⟨g, k * 2 + 1, none⟩ vb).cell? ⟨g, k * 2 + 0, none⟩ = _
        rw [set_other (by omega)]
        exact set_same (ho.2 (k * 2) (by omega)).1
      | 1, _ => exact set_same ((ho.set _ _).2 (k * 2 + 1) (by omega)).1
      | j + 2, hj => exact absurd (show j + 2 < 2 from hj) (by omega)
    · rw [Nat.zero_add, hlen]
      exact (hb.set_fore (by show k * 2 < (k + 1) * 2; omega) hgb).set_fore (by show k * 2 + 1 < (k + 1) * 2; omega) hgb
  · refine List.nodup_cons.2 ⟨fun e => ?_, List.nodup_append.2 ⟨h2.1, List.nodup_append.2 ⟨hn, h3.2.1, fun x hx y hy e => hd x hx (by simp [e, hy])⟩, fun x hx y hy e => ?_⟩⟩
    · rcases List.mem_append.1 e with e | e
      · exact hga e
      · rcases List.mem_append.1 e with e | e
        · exact hgn g e rfl
        · exact hgb e
    · rcases List.mem_append.1 hy with hy | hy
      · exact hd y hy (by simp [← e, hx])
      · exact h2.2.2 x hx y (by simp [hy]) e

/-- The rows of block number k changed, in their own place. -/
theorem blk_rows {w w' : World} {g cap : Nat} {l : List Blk} {fa fk fb : List Nat} {k : Nat} (hk : k < l.length) (hc : l.length ≤ cap) (ho : OwnBlk w g (l.length * 2)) (ha : Elems blkTy w g 0 (l.take k) fa) (hb : Elems blkTy w g (k + 1) (l.drop (k + 1)) fb) (hnd : (g :: (fa ++ (fk ++ fb))).Nodup)
    {vb : Value} {rows : List Rw} (h0 : w.cell? ⟨g, k * 2, none⟩ = some (.int .i64 l[k].id)) (h1 : w.cell? ⟨g, k * 2 + 1, none⟩ = some vb) (hch : Chg fk w w') (hs : SliceRep rowTy w' vb rows fk) :
    SliceRep blkTy w' (.slice (some ⟨g, 0, none⟩) l.length cap) (l.set k ⟨l[k].id, rows⟩) (g :: (fa ++ (fk ++ fb))) := by
  have hn := List.nodup_cons.1 hnd
  have hgk : g ∉ fk := fun e => hn.1 (by simp [e])
  have h2 := List.nodup_append.1 hn.2
  have h3 := List.nodup_append.1 h2.2.1
  have hg := hch.block g ho.1 hgk
  refine .inr ⟨g, cap, fa ++ (fk ++ fb), by rw [List.length_set], by rw [List.length_set]; exact hc, by rw [List.length_set]; exact ho.keep hg, ?_, rfl⟩
  rw [set_cut l k _ hk]
  have hlen : (l.take k).length = k := by rw [List.length_take]; omega
  refine Elems.join (x := ⟨l[k].id, rows⟩) (cs := [.int .i64 l[k].id, vb]) (Elems.keep hg ha fun j hj => hch.block j (ha.lt j hj) (fun e => h2.2.2 j hj j (by simp [e]) rfl)) (fun j hj => ?_) ⟨vb, rfl, hs⟩ (by
    rw [Nat.zero_add, hlen]
    exact Elems.keep hg hb fun j hj => hch.block j (hb.lt j hj) (fun e => h3.2.2 j e j hj rfl))
  rw [Nat.zero_add, hlen]
  match j, hj with
  | 0, _ => exact (World.cell?_of_block (a := ⟨g, k * 2 + 0, none⟩) hg).trans h0
  | 1, _ => exact (World.cell?_of_block (a := ⟨g, k * 2 + 1, none⟩) hg).trans h1
  | j + 2, hj => exact absurd (show j + 2 < 2 from hj) (by omega)

/-- A row replaced in its place. -/
def put5 (w : World) (h j : Nat) (r : Rw) : World := ((((w.setCell ⟨h, j * 5, none⟩ (.int .i64 r.i)).setCell ⟨h, j * 5 + 1, none⟩ (.int .i64 r.g)).setCell ⟨h, j * 5 + 2, none⟩ (.int .i64 r.y)).setCell ⟨h, j * 5 + 3, none⟩ (.int .i64 r.x)).setCell ⟨h, j * 5 + 4, none⟩ (.bool r.nl)
theorem row_store {w : World} {v : Value} {l : List Rw} {fp : List Nat} (h : SliceRep rowTy w v l fp) {j : Nat} (hj : j < l.length) (r : Rw) :
    ∃ g cap, v = .slice (some ⟨g, 0, none⟩) l.length cap ∧ fp = [g] ∧ g < w.heap.size ∧ (∀ o, o < l.length * 5 → (∃ u, w.cell? ⟨g, o, none⟩ = some u) ∧ w.frozen? ⟨g, o, none⟩ = false) ∧ Chg [g] w (put5 w g j r) ∧ SliceRep rowTy (put5 w g j r) v (l.set j r) [g] := by
  rcases h with ⟨rfl, _⟩ | ⟨g, cap, f, rfl, hc, ho, he, rfl⟩
  · simp at hj
  · have hf : f = [] := by
      have : ∀ {l : List Rw} {k : Nat} {f : List Nat}, Elems rowTy w g k l f → f = [] := fun {l} => by
        induction l with
        | nil => intro k f h; exact h
        | cons x l ih =>
          intro k f ⟨cs, f1, f2, e, _, h1, h2⟩
          rw [e, h1.2, ih h2]; rfl
      exact this he
    subst hf
    have rows : ∀ k (hk : k < l.length), RowIn w g k l[k] := fun k hk => by
      obtain ⟨cs, f', hcs, ⟨rfl, _⟩, _⟩ := he.get k hk
      rw [Nat.zero_add] at hcs
      exact rowIn_of_cells hcs
    have ho' : OwnBlk w g (l.length * 5) := ho
    have hC : Chg [g] w (put5 w g j r) := ((((((Chg.refl [g] w).set (by simp) _).set (by simp) _).set (by simp) _).set (by simp) _).set (by simp) _)
    have a1 := ho'.set ⟨g, j * 5, none⟩ (.int .i64 r.i)
    have a2 := a1.set ⟨g, j * 5 + 1, none⟩ (.int .i64 r.g)
    have a3 := a2.set ⟨g, j * 5 + 2, none⟩ (.int .i64 r.y)
    have a4 := a3.set ⟨g, j * 5 + 3, none⟩ (.int .i64 r.x)
    have a5 := a4.set ⟨g, j * 5 + 4, none⟩ (.bool r.nl)
    refine ⟨g, cap, rfl, rfl, ho.1, ho.2, hC, ?_⟩
    have := rows_shut (w := put5 w g j r) (g := g) (cap := cap) (l := l.set j r) (by rw [List.length_set]; exact hc) (by rw [List.length_set]; exact a5) (fun k hk => by
      rw [List.length_set] at hk
      by_cases e : k = j
      · subst e
        rw [List.getElem_set_self]
        unfold put5
        refine ⟨?_, ?_, ?_, ?_, ?_⟩
        · rw [set_other (by omega), set_other (by omega), set_other (by omega), set_other (by omega)]
          exact set_same (ho'.2 _ (by omega)).1
        · rw [set_other (by omega), set_other (by omega), set_other (by omega)]
          exact set_same (a1.2 _ (by omega)).1
        · rw [set_other (by omega), set_other (by omega)]
          exact set_same (a2.2 _ (by omega)).1
        · rw [set_other (by omega)]
          exact set_same (a3.2 _ (by omega)).1
        · exact set_same (a4.2 _ (by omega)).1
      · rw [List.getElem_set_ne (by omega)]
        obtain ⟨r0, r1, r2, r3, r4⟩ := rows k hk
        have oth : ∀ o, (o < j * 5 ∨ j * 5 + 5 ≤ o) → (put5 w g j r).cell? ⟨g, o, none⟩ = w.cell? ⟨g, o, none⟩ := fun o ho => by
          unfold put5
          rw [set_other (by omega), set_other (by omega), set_other (by omega), set_other (by omega), set_other (by omega)]
        exact ⟨by rw [oth _ (by omega)]; exact r0, by rw [oth _ (by omega)]; exact r1, by rw [oth _ (by omega)]; exact r2, by rw [oth _ (by omega)]; exact r3, by rw [oth _ (by omega)]; exact r4⟩)
    rwa [List.length_set] at this
end Go.Proofs.Ytcfcohnkkgickaa

namespace Go.Proofs.Ytcfcohnkkgickaa
open Go.RowKit Num

/-- The value x is a slice that reads as the rows l. -/
def SrcR (w : World) (x : Value) (l : List Rw) : Prop := (l = [] ∧ x = .slice none 0 0) ∨ ∃ ad c, x = .slice (some ad) l.length c ∧ ∀ j u, (rcells l)[j]? = some u → w.cell? (ad.add j) = some u

theorem addr_own (g o j : Nat) : (⟨g, o, none⟩ : Addr).add j = ⟨g, o + j, none⟩ := by unfold Addr.add; simp

theorem SrcR.part {w : World} {g c : Nat} {l : List Rw} {o m : Nat} (h : ∀ i, i < l.length → RowIn w g i (Rn l i)) (hm : o + m ≤ l.length) : SrcR w (.slice (some ⟨g, o * 5, none⟩) m c) ((l.drop o).take m) := by
  have hlen : ((l.drop o).take m).length = m := by rw [List.length_take, List.length_drop]; omega
  refine .inr ⟨⟨g, o * 5, none⟩, c, by rw [hlen], fun j u hu => ?_⟩
  rw [addr_own]
  refine cells_of_rows ((l.drop o).take m) o (fun i hi => ?_) j u hu
  rw [hlen] at hi
  have := h (o + i) (by omega)
  rw [Rn_at (by omega)] at this
  simpa using this
theorem SrcR.rep {w : World} {v : Value} {l : List Rw} {fp : List Nat} (h : SliceRep rowTy w v l fp) : SrcR w v l := by
  have h0 := h
  rcases h with ⟨rfl, _, rfl | ⟨ad, cap, rfl⟩⟩ | ⟨g, cap, f, rfl, _⟩
  · exact .inl ⟨rfl, rfl⟩
  · exact .inr ⟨⟨ad, 0, none⟩, cap, rfl, fun j u hu => by simp [rcells] at hu⟩
  · obtain ⟨ao, cap', e, _, hV⟩ := rows_open h0
    rcases hV with h | ⟨g', rfl, _, hR⟩
    · obtain rfl := List.eq_nil_of_length_eq_zero h
      exact .inr ⟨_, _, rfl, fun j u hu => by simp [rcells] at hu⟩
    · simp only [Value.slice.injEq, Option.some.injEq, Addr.mk.injEq, and_true, true_and] at e
      obtain ⟨rfl, rfl⟩ := e
      have := SrcR.part (c := cap) (o := 0) (m := l.length) hR (by omega)
      rwa [List.drop_zero, List.take_length, Nat.zero_mul] at this
theorem SrcR.keep {w w' : World} {x : Value} {l : List Rw} (h : SrcR w x l) (hb : Below w.heap.size w w') : SrcR w' x l := by
  rcases h with h | ⟨ad, c, hx, hr⟩
  · exact .inl h
  · exact .inr ⟨ad, c, hx, fun j u hu => by rw [hb.cell (World.block_lt_of_cell? w _ (hr j u hu))]; exact hr j u hu⟩

/-- One row in a new block. -/
theorem SrcR.one {w : World} {g c : Nat} {r : Rw} (h : RowIn w g 0 r) : SrcR w (.slice (some ⟨g, 0, none⟩) 1 c) [r] := by
  have := SrcR.part (w := w) (g := g) (c := c) (l := [r]) (o := 0) (m := 1) (fun i hi => by
    obtain rfl : i = 0 := by simpa using hi
    exact h) (by simp)
  simpa using this

theorem SrcR.cells {w : World} {g c : Nat} {r : Rw} (h0 : w.cell? ⟨g, 0, none⟩ = some (.int .i64 r.i)) (h1 : w.cell? ⟨g, 1, none⟩ = some (.int .i64 r.g)) (h2 : w.cell? ⟨g, 2, none⟩ = some (.int .i64 r.y)) (h3 : w.cell? ⟨g, 3, none⟩ = some (.int .i64 r.x)) (h4 : w.cell? ⟨g, 4, none⟩ = some (.bool r.nl)) : SrcR w (.slice (some ⟨g, 0, none⟩) 1 c) [r] :=
  SrcR.one ⟨by simpa using h0, by simpa using h1, by simpa using h2, by simpa using h3, by simpa using h4⟩

/-- 'append(out, x...)' as a step of a region that draws its order. -/
theorem step_append_rows {ops : Array Oper} {o : Oper} {a : Act} {K : Act → World → Prop} {Q : Exit → Act → World → Prop} {E : Prop} {W w : World} (hgd : o.guard = none) (s x : Operand)
    (ho : o.op = .call { callee := .builtin .append, args := #[s, x], argTypes := #[57, 57] })
    (B : Nat) (v xv : Value) (l news : List Rw) (hs : a.eval s = v) (hx : a.eval x = xv) (hown : OwnR w B v l) (hsrc : SrcR w xv news) (hlen : (l.length + news.length) * 40 ≤ 140737488355328) (hB : B ≤ w.heap.size) (hbel : Below B W w)
    (h : ∀ v' w', OwnR w' B v' (l ++ news) → Below B W w' → K (a.put o.dst v') w') :
    if Region.wanted o (yielded ops a.tmps) = true then Oper.wp Try.prog o a w K Q else E := by
  have hw : Region.wanted o (yielded ops a.tmps) = true := by simp [Region.wanted, hgd]
  rw [if_pos hw]
  obtain ⟨i0, hi, hx0⟩ := Option.map_eq_some_iff.1 Try.infoRow
  simp only [Prod.mk.injEq] at hx0
  obtain ⟨hz0, hz1, hz2⟩ := hx0
  have hlt : ∀ k, v.ownBlock = some k → B ≤ k := fun k hk => (World.ownsRow.lt hown k hk).1
  rcases hsrc with ⟨rfl, rfl⟩ | ⟨ad, c, rfl, hnews⟩
  · have hrun := run_append_owned_none (P := Try.prog) (w := w) B 57 o.type 36 i0 5 Try.underlying57 hi v l.length (rcells l) hown
    unfold Oper.wp
    simp [execOp, ho, resolve, invoke, builtin, hs, hx, hrun, Result.andThen]
    exact h v w (by rw [List.append_nil]; exact hown) hbel
  · refine wp_append_own w s x 57 ho B 36 i0 _ 5 40 Try.underlying57 hi hz0 hz1 hz2 rfl (by decide) v l.length (rcells l) hs hown
      ad news.length c (rcells news) hx (rcells_len news) hnews (rcells_one news) (by unfold maxLen; omega) (by omega) hB ?_
    intro v' w' h1 h2 _
    refine h v' w' ?_ (hbel.grown h2 hB hlt)
    unfold OwnR
    rw [List.length_append, rcells_append]
    exact h1

theorem OwnR.shape {w : World} {B : Nat} {v : Value} {l : List Rw} (h : OwnR w B v l) : ∃ ao cap, v = .slice ao l.length cap := by
  rcases h.2 with ⟨rfl, h0⟩ | ⟨g, cap, cur, rfl, _⟩
  · exact ⟨_, _, by rw [h0]⟩
  · exact ⟨_, _, rfl⟩
theorem OwnR.lit_at {w : World} {B N : Nat} (hN : w.heap.size = N) (hB : B ≤ N) : OwnR (w.alloc (.cells #[] 36)) B (.slice (some ⟨N, 0, none⟩) 0 0) [] := by
  subst hN; exact OwnR.lit w B hB

theorem OwnR.setb {w : World} {B : Nat} {v : Value} {l : List Rw} (h : OwnR w B v l) {a : Addr} (ha : a.block < B) (u : Value) : OwnR (w.setCell a u) B v l := ownsRow_setCell_below h ha u

/-! What a region keeps: two loaded cells. -/
theorem c2c {W w w' : World} {a0 a1 : Addr} {v0 v1 : Value} {l : List (Addr × Value)} (h : Kept W w ((a0, v0) :: (a1, v1) :: l)) (hb : Below w.heap.size w w') : w'.cell? a0 = some v0 ∧ w'.cell? a1 = some v1 :=
  have k := h.step hb
  ⟨k.get 0 rfl, k.get 1 rfl⟩
theorem c2c_alloc {w : World} {a0 a1 : Addr} {v0 v1 : Value} {o : Obj} (q : w.cell? a0 = some v0 ∧ w.cell? a1 = some v1) : (w.alloc o).cell? a0 = some v0 ∧ (w.alloc o).cell? a1 = some v1 :=
  ⟨cell_alloc_some o q.1, cell_alloc_some o q.2⟩
theorem c2c_set2 {w : World} {a0 a1 : Addr} {v0 v1 x y : Value} {g : Nat} (q : w.cell? a0 = some v0 ∧ w.cell? a1 = some v1) (h0 : a0.block ≠ g) (h1 : a1.block ≠ g) : ((w.setCell ⟨g, 0, none⟩ x).setCell ⟨g, 1, none⟩ y).cell? a0 = some v0 ∧ ((w.setCell ⟨g, 0, none⟩ x).setCell ⟨g, 1, none⟩ y).cell? a1 = some v1 :=
  ⟨cell_set2_some x y q.1 h0, cell_set2_some x y q.2 h1⟩

/-- What AddRow, RemoveRow and the like leave: a block with rows of its own. -/
def BlkRes (id : Int) (l : List Rw) (ok : Bool) (w : World) (e : Ending) (w' : World) : Prop :=
  ∃ v fp, e = .returned (.tuple #[.agg #[.int .i64 id, v], .bool ok]) ∧ SliceRep rowTy w' v l fp ∧ (∀ k ∈ fp, w.heap.size ≤ k) ∧ fp.Nodup ∧ Below w.heap.size w w'
end Go.Proofs.Ytcfcohnkkgickaa

namespace Go.Proofs.Ytcfcohnkkgickaa
open Go.RowKit Num

theorem rows_head {w : World} {h n : Nat} {R : Nat → Rw} (hV : RowsVal w (some ⟨h, 0, none⟩) n R) (hn : 0 < n) : h < w.heap.size ∧ ∀ k, k < n → RowIn w h k (R k) := by
  rcases hV with h0 | ⟨g, e, hg, hR⟩
  · omega
  · simp only [Option.some.injEq, Addr.mk.injEq, and_true] at e
    subst e
    exact ⟨hg, hR⟩
theorem RowsVal.src {w : World} {h c o m : Nat} {l : List Rw} (hV : RowsVal w (some ⟨h, 0, none⟩) l.length (Rn l)) (hm : o + m ≤ l.length) : SrcR w (.slice (some ⟨h, o * 5, none⟩) m c) ((l.drop o).take m) := by
  by_cases hz : 0 < l.length
  · exact SrcR.part (rows_head hV hz).2 hm
  · obtain rfl := List.eq_nil_of_length_eq_zero (show l.length = 0 by omega)
    obtain rfl : m = 0 := by simp at hm; omega
    exact .inr ⟨⟨h, o * 5, none⟩, c, by simp, fun j u hu => by simp [rcells] at hu⟩
theorem RowsVal.tail {w : World} {h c p cap : Nat} {l : List Rw} (hV : RowsVal w (some ⟨h, 0, none⟩) l.length (Rn l)) (hp : p ≤ l.length) (hc : l.length ≤ cap) : SrcR w (.slice (if cap = p then some ⟨h, 0, none⟩ else some ⟨h, p * 5, none⟩) (l.length - p) c) (l.drop p) := by
  have e : (l.drop p).take (l.length - p) = l.drop p := List.take_of_length_le (by rw [List.length_drop]; omega)
  split
  · next he =>
    obtain rfl : p = l.length := by omega
    rw [List.drop_length, Nat.sub_self]
    exact .inr ⟨⟨h, 0, none⟩, c, rfl, fun j u hu => by simp [rcells] at hu⟩
  · have := RowsVal.src (c := c) (o := p) (m := l.length - p) hV (by omega)
    rwa [e] at this
end Go.Proofs.Ytcfcohnkkgickaa

namespace Go.Proofs.Ytcfcohnkkgickaa
open Go.RowKit Num

theorem idx_at {α : Type} {p : α → Prop} {l : List α} {k : Nat} (h : (k : Int) = idxI p l) : fIdx p l = k ∧ k < l.length := by
  unfold idxI at h
  by_cases hl : fIdx p l < l.length
  · rw [if_pos hl] at h
    have : k = fIdx p l := by omega
    subst this
    exact ⟨rfl, hl⟩
  · rw [if_neg hl] at h; omega
theorem idx_no {α : Type} {p : α → Prop} {l : List α} {v : Int} (h : v = idxI p l) (hv : v < 0) : ¬ fIdx p l < l.length := by
  unfold idxI at h
  intro hl
  rw [if_pos hl] at h; omega
theorem tbl_blk {ver : Int} {l : List Blk} (h : TblOk ver l l.length) {k : Nat} (hk : k < l.length) : blkL (Bn l k).id (Bn l k).rows = true := h.2.2.1.1 k hk
theorem tbl_rows {ver : Int} {l : List Blk} (h : TblOk ver l l.length) : ∀ k, k < l.length → (Bn l k).rows.length ≤ 6 := fun k hk => (blkL_of (tbl_blk h hk)).2.2
theorem tbl_wf {ver : Int} {l : List Blk} (h : TblOk ver l l.length) : WfB l.length (Bn l) := fun k hk j hj => by
  have h1 := (areB_iff (Rn (Bn l k).rows) (Bn l k).rows.length).1 (blkL_of (tbl_blk h hk)).2.1
  have h3 : rowB (Rn (Bn l k).rows j).i (Rn (Bn l k).rows j).g (Rn (Bn l k).rows j).y (Rn (Bn l k).rows j).x (Rn (Bn l k).rows j).nl = true := h1.1 j hj
  have h4 := (rowB_of h3).1
  simp only [Lit.wf, Bool.and_eq_true, decide_eq_true_eq]
  have e1 : IntKind.i64.min = -9223372036854775808 := by decide
  have e2 : IntKind.i64.max = 9223372036854775807 := by decide
  omega
theorem id_wf {i : Int} (h : -1000 ≤ i ∧ i ≤ 1000) : (Lit.int .i64 i).wf = true := by
  simp only [Lit.wf, Bool.and_eq_true, decide_eq_true_eq]
  have e1 : IntKind.i64.min = -9223372036854775808 := by decide
  have e2 : IntKind.i64.max = 9223372036854775807 := by decide
  omega

theorem applyC_2y {ver : Int} {l : List Blk} {c : Cg} (h : TblOk ver l l.length ∧ ChOk c ∧ ver ≠ 99) (hk : c.k = 2) {k j : Nat} (e : iRow l c.r.i = k) (hl : k < l.length) (ej : iIn (Bn l k).rows c.r.i = j) : applyC ver l c = (ver + 1, l.set k ⟨(Bn l k).id, (Bn l k).rows.set j c.r⟩, 0) := by
  rw [applyC_good h, if_neg (by omega), if_pos hk, e, if_pos hl, ej]
theorem applyC_2n {ver : Int} {l : List Blk} {c : Cg} (h : TblOk ver l l.length ∧ ChOk c ∧ ver ≠ 99) (hk : c.k = 2) (hl : ¬ iRow l c.r.i < l.length) : applyC ver l c = (ver, l, 3) := by
  rw [applyC_good h, if_neg (by omega), if_pos hk, if_neg hl]
theorem applyC_3y {ver : Int} {l : List Blk} {c : Cg} (h : TblOk ver l l.length ∧ ChOk c ∧ ver ≠ 99) (hk : c.k = 3) {k j : Nat} (e : iRow l c.r.i = k) (hl : k < l.length) (ej : iIn (Bn l k).rows c.r.i = j) : applyC ver l c = (ver + 1, l.set k ⟨(Bn l k).id, (Bn l k).rows.eraseIdx j⟩, 0) := by
  rw [applyC_good h, if_neg (by omega), if_neg (by omega), if_pos hk, e, if_pos hl, ej]
theorem applyC_3n {ver : Int} {l : List Blk} {c : Cg} (h : TblOk ver l l.length ∧ ChOk c ∧ ver ≠ 99) (hk : c.k = 3) (hl : ¬ iRow l c.r.i < l.length) : applyC ver l c = (ver, l, 3) := by
  rw [applyC_good h, if_neg (by omega), if_neg (by omega), if_pos hk, if_neg hl]
theorem applyC_4 {ver : Int} {l : List Blk} {c : Cg} (h : TblOk ver l l.length ∧ ChOk c ∧ ver ≠ 99) (hk : c.k = 4) : applyC ver l c = (ver + 1, l.filter (fun b => decide (c.b ≤ b.id)), 0) := by
  rw [applyC_good h, if_neg (by omega), if_neg (by omega), if_neg (by omega)]
theorem applyC_1t {ver : Int} {l : List Blk} {c : Cg} (h : TblOk ver l l.length ∧ ChOk c ∧ ver ≠ 99) (hk : c.k = 1) (h1 : iRow l c.r.i < l.length) : applyC ver l c = (ver, l, 2) := by
  rw [applyC_good h, if_pos hk, if_pos h1]
theorem applyC_1y {ver : Int} {l : List Blk} {c : Cg} (h : TblOk ver l l.length ∧ ChOk c ∧ ver ≠ 99) (hk : c.k = 1) (h1 : ¬ iRow l c.r.i < l.length) {k : Nat} (e : iBlk l c.b = k) (hl : k < l.length) (h6 : (Bn l k).rows.length < 6) : applyC ver l c = (ver + 1, l.set k ⟨c.b, addL (Bn l k).rows c.r⟩, 0) := by
  rw [applyC_good h, if_pos hk, if_neg h1, e, if_pos hl, if_pos h6]
theorem applyC_1f {ver : Int} {l : List Blk} {c : Cg} (h : TblOk ver l l.length ∧ ChOk c ∧ ver ≠ 99) (hk : c.k = 1) (h1 : ¬ iRow l c.r.i < l.length) {k : Nat} (e : iBlk l c.b = k) (hl : k < l.length) (h6 : ¬ (Bn l k).rows.length < 6) : applyC ver l c = (ver, l, 4) := by
  rw [applyC_good h, if_pos hk, if_neg h1, e, if_pos hl, if_neg h6]
theorem applyC_1m {ver : Int} {l : List Blk} {c : Cg} (h : TblOk ver l l.length ∧ ChOk c ∧ ver ≠ 99) (hk : c.k = 1) (h1 : ¬ iRow l c.r.i < l.length) (hl : ¬ iBlk l c.b < l.length) (hm : 0 < l.length ∧ c.b < (Bn l (l.length - 1)).id) : applyC ver l c = (ver, l, 3) := by
  rw [applyC_good h, if_pos hk, if_neg h1, if_neg hl, if_pos hm]
theorem applyC_1g {ver : Int} {l : List Blk} {c : Cg} (h : TblOk ver l l.length ∧ ChOk c ∧ ver ≠ 99) (hk : c.k = 1) (h1 : ¬ iRow l c.r.i < l.length) (hl : ¬ iBlk l c.b < l.length) (hm : ¬ (0 < l.length ∧ c.b < (Bn l (l.length - 1)).id)) (h6 : l.length = 6) : applyC ver l c = (ver, l, 4) := by
  rw [applyC_good h, if_pos hk, if_neg h1, if_neg hl, if_neg hm, if_pos h6]
theorem applyC_1n {ver : Int} {l : List Blk} {c : Cg} (h : TblOk ver l l.length ∧ ChOk c ∧ ver ≠ 99) (hk : c.k = 1) (h1 : ¬ iRow l c.r.i < l.length) (hl : ¬ iBlk l c.b < l.length) (hm : ¬ (0 < l.length ∧ c.b < (Bn l (l.length - 1)).id)) (h6 : ¬ l.length = 6) : applyC ver l c = (ver + 1, l ++ [⟨c.b, [c.r]⟩], 0) := by
  rw [applyC_good h, if_pos hk, if_neg h1, if_neg hl, if_neg hm, if_neg h6]

/-- A table of one's own behind a pointer: its box bp, its blocks. -/
def TblBox (w : World) (bp : Nat) (ver : Int) (v : Value) (l : List Blk) (fp : List Nat) : Prop :=
  bp < w.heap.size ∧ w.cell? ⟨bp, 0, none⟩ = some (.int .i64 ver) ∧ w.frozen? ⟨bp, 0, none⟩ = false ∧ w.cell? ⟨bp, 1, none⟩ = some v ∧ w.frozen? ⟨bp, 1, none⟩ = false ∧ SliceRep blkTy w v l fp ∧ fp.Nodup ∧ bp ∉ fp
theorem TblBox.step {w w' : World} {bp : Nat} {ver : Int} {v : Value} {l : List Blk} {fp : List Nat} (h : TblBox w bp ver v l fp) (hb : Below w.heap.size w w') : TblBox w' bp ver v l fp :=
  ⟨Nat.lt_of_lt_of_le h.1 hb.size, by rw [hb.cell (p := ⟨bp, 0, none⟩) h.1]; exact h.2.1, by rw [hb.frozen (p := ⟨bp, 0, none⟩) h.1]; exact h.2.2.1, by rw [hb.cell (p := ⟨bp, 1, none⟩) h.1]; exact h.2.2.2.1, by rw [hb.frozen (p := ⟨bp, 1, none⟩) h.1]; exact h.2.2.2.2.1, h.2.2.2.2.2.1.step hb, h.2.2.2.2.2.2⟩
theorem TblBox.kept {W w : World} {bp : Nat} {ver : Int} {v : Value} {l : List Blk} {fp : List Nat} {L : List (Addr × Value)} (h : TblBox w bp ver v l fp) (hk : Kept W w L) : Kept W w ((⟨bp, 0, none⟩, .int .i64 ver) :: (⟨bp, 1, none⟩, v) :: L) :=
  (hk.cons (a := ⟨bp, 1, none⟩) h.1 h.2.2.2.1 h.2.2.2.2.1).cons (a := ⟨bp, 0, none⟩) h.1 h.2.1 h.2.2.1

/-- A row of a table behind a pointer, to be replaced in its place. -/
theorem TblBox.put {w : World} {bp : Nat} {ver : Int} {v : Value} {l : List Blk} {fp : List Nat} (h : TblBox w bp ver v l fp) {k : Nat} (hk : k < l.length) {j : Nat} (hj : j < (Bn l k).rows.length) (r : Rw) :
    ∃ g cap q rcap, v = .slice (some ⟨g, 0, none⟩) l.length cap ∧ w.cell? ⟨g, k * 2, none⟩ = some (.int .i64 (Bn l k).id) ∧ w.cell? ⟨g, k * 2 + 1, none⟩ = some (.slice (some ⟨q, 0, none⟩) (Bn l k).rows.length rcap) ∧ RowsVal w (some ⟨q, 0, none⟩) (Bn l k).rows.length (Rn (Bn l k).rows) ∧ (g < w.heap.size ∧ q < w.heap.size) ∧ (∀ o, o < (Bn l k).rows.length * 5 → (∃ u, w.cell? ⟨q, o, none⟩ = some u) ∧ w.frozen? ⟨q, o, none⟩ = false) ∧ TblBox (put5 w q j r) bp ver v (l.set k ⟨(Bn l k).id, (Bn l k).rows.set j r⟩) fp ∧ Chg fp w (put5 w q j r) := by
  obtain ⟨h1, h2, h3, h4, h5, h6, h7, h8⟩ := h
  obtain ⟨g, cap, vb, fa, fk, fb, rfl, rfl, hc, ho, c0, c1, hs, ha, hb⟩ := blk_open h6 h7 hk
  rw [← Bn_at hk] at c0 hs
  obtain ⟨q, rcap, rfl, rfl, hq, hcells, hch, hs'⟩ := row_store hs hj r
  obtain ⟨ao', cap', e, _, hV⟩ := rows_open hs
  simp only [Value.slice.injEq] at e
  obtain ⟨rfl, _, rfl⟩ := e
  have hbq : bp ≠ q := fun e => h8 (by rw [e]; simp)
  have oth : ∀ o, (put5 w q j r).cell? ⟨bp, o, none⟩ = w.cell? ⟨bp, o, none⟩ ∧ (put5 w q j r).frozen? ⟨bp, o, none⟩ = w.frozen? ⟨bp, o, none⟩ := fun o => by
    have hh := hch.block bp h1 (by simpa using hbq)
    exact ⟨World.cell?_of_block (a := ⟨bp, o, none⟩) hh, World.frozen?_of_block (a := ⟨bp, o, none⟩) hh⟩
  have hsl := blk_rows (w' := put5 w q j r) hk hc ho ha hb h7 (by rw [← Bn_at hk]; exact c0) c1 hch hs'
  rw [← Bn_at hk] at hsl
  refine ⟨g, cap, q, rcap, rfl, c0, c1, hV, ⟨ho.1, hq⟩, hcells, ⟨Nat.lt_of_lt_of_le h1 hch.size, by rw [(oth 0).1]; exact h2, by rw [(oth 0).2]; exact h3, by rw [(oth 1).1]; exact h4, by rw [(oth 1).2]; exact h5, hsl, h7, h8⟩, hch.mono (fun x hx => by simp at hx; subst hx; simp)⟩
/-- A block of a table behind a pointer, to be replaced. -/
theorem TblBox.putB {w : World} {bp : Nat} {ver : Int} {v : Value} {l : List Blk} {fp : List Nat} (h : TblBox w bp ver v l fp) {k : Nat} (hk : k < l.length) (id : Int) {vb : Value} {rows : List Rw} {fn : List Nat} (hs : SliceRep rowTy w vb rows fn) (hn : fn.Nodup) (hd : ∀ j ∈ fn, j ∉ bp :: fp) :
    ∃ g cap fp', v = .slice (some ⟨g, 0, none⟩) l.length cap ∧ ((∃ u, w.cell? ⟨g, k * 2, none⟩ = some u) ∧ w.frozen? ⟨g, k * 2, none⟩ = false ∧ (∃ u, w.cell? ⟨g, k * 2 + 1, none⟩ = some u) ∧ w.frozen? ⟨g, k * 2 + 1, none⟩ = false) ∧ TblBox ((w.setCell ⟨g, k * 2, none⟩ (.int .i64 id)).setCell ⟨g, k * 2 + 1, none⟩ vb) bp ver v (l.set k ⟨id, rows⟩) fp' ∧ (∀ x ∈ fp', x ∈ fp ∨ x ∈ fn) ∧ Chg fp w ((w.setCell ⟨g, k * 2, none⟩ (.int .i64 id)).setCell ⟨g, k * 2 + 1, none⟩ vb) := by
  obtain ⟨h1, h2, h3, h4, h5, h6, h7, h8⟩ := h
  obtain ⟨g, cap, vb', fa, fk, fb, rfl, rfl, hc, ho, c0, c1, hs', ha, hb⟩ := blk_open h6 h7 hk
  obtain ⟨r1, r2⟩ := blk_store hk hc ho ha hb h7 (id := id) hs hn (fun j hj e => hd j hj (by simp only [List.mem_cons]; exact .inr (by simpa using e)))
  have hbg : bp ≠ g := fun e => h8 (by rw [e]; simp)
  have hch : Chg (g :: (fa ++ (fk ++ fb))) w ((w.setCell ⟨g, k * 2, none⟩ (.int .i64 id)).setCell ⟨g, k * 2 + 1, none⟩ vb) := ((Chg.refl _ w).set (by simp) _).set (by simp) _
  have oth : ∀ o, ((w.setCell ⟨g, k * 2, none⟩ (.int .i64 id)).setCell ⟨g, k * 2 + 1, none⟩ vb).cell? ⟨bp, o, none⟩ = w.cell? ⟨bp, o, none⟩ ∧ ((w.setCell ⟨g, k * 2, none⟩ (.int .i64 id)).setCell ⟨g, k * 2 + 1, none⟩ vb).frozen? ⟨bp, o, none⟩ = w.frozen? ⟨bp, o, none⟩ := fun o => by
    have hh := hch.block bp h1 h8
    exact ⟨World.cell?_of_block (a := ⟨bp, o, none⟩) hh, World.frozen?_of_block (a := ⟨bp, o, none⟩) hh⟩
  have k2 := ho.2 (k * 2) (by show k * 2 < l.length * 2; omega)
  have k3 := ho.2 (k * 2 + 1) (by show k * 2 + 1 < l.length * 2; omega)
  refine ⟨g, cap, _, rfl, ⟨k2.1, k2.2, k3.1, k3.2⟩, ⟨Nat.lt_of_lt_of_le h1 hch.size, by rw [(oth 0).1]; exact h2, by rw [(oth 0).2]; exact h3, by rw [(oth 1).1]; exact h4, by rw [(oth 1).2]; exact h5, r1, r2, fun e => ?_⟩, fun x hx => ?_, hch⟩
  · simp only [List.mem_cons, List.mem_append] at e
    rcases e with e | e | e | e
    · exact hbg e
    · exact h8 (by simp [e])
    · exact hd bp e (by simp)
    · exact h8 (by simp [e])
  · simp only [List.mem_cons, List.mem_append] at hx ⊢
    rcases hx with e | e | e | e
    · exact .inl (.inl e)
    · exact .inl (.inr (.inl e))
    · exact .inr e
    · exact .inl (.inr (.inr (.inr e)))
theorem rem_at {id x : Int} {l l' : List Rw} {ok : Bool} (h : RemAns id l x l' ok) (hb : blkL id l = true) (hh : HasRow l x) : ok = true ∧ ∃ j, iIn l x = j ∧ l' = l.eraseIdx j := by
  rcases h with ⟨rfl, _, j, hf, rfl⟩ | ⟨rfl, rfl, h | h⟩
  · exact ⟨rfl, j, (idx_at (fdAns_idx hf)).1, eraseIdx_cut l j⟩
  · rw [hb] at h; cases h
  · have := (hasRow_fd h).2 hh
    omega
theorem put5_cell {w : World} {q j : Nat} {r : Rw} {a : Addr} (h : a.block ≠ q) : (put5 w q j r).cell? a = w.cell? a := by
  have e : ∀ (w : World) (o : Nat) (u : Value), (w.setCell ⟨q, o, none⟩ u).cell? a = w.cell? a := fun w o u => World.cell?_setCell_other (w := w) (a := ⟨q, o, none⟩) (b := a) (v := u) (fun e => h (by rw [← e]))
  unfold put5
  rw [e, e, e, e, e]
theorem hasRow_at {l : List Blk} {x : Int} {k : Nat} (e : iRow l x = k) (hk : k < l.length) : HasRow (Bn l k).rows x := by
  subst e
  have := fIdx_at (p := fun b : Blk => HasRow b.rows x) (l := l) hk
  rw [Bn_at hk]
  exact this
theorem fd_at {l : List Rw} {x v : Int} (h : FdAns (Rn l) x l.length v) (hh : HasRow l x) : ∃ j : Nat, j < l.length ∧ v = (j : Int) ∧ iIn l x = j := by
  have e := fdAns_idx h
  have h0 := (hasRow_fd h).2 hh
  obtain ⟨j, rfl⟩ := Int.eq_ofNat_of_zero_le h0
  obtain ⟨e1, e2⟩ := idx_at e
  exact ⟨j, e2, rfl, e1⟩

/-- What performOn leaves: the code; the table behind the pointer, with its version as it was. -/
def PfPost (ver : Int) (l : List Blk) (c : Cg) (bp : Nat) (fp : List Nat) (w : World) (e : Ending) (w' : World) : Prop :=
  ∃ v' fp', e = .returned (.int .i64 (applyC ver l c).2.2) ∧ TblBox w' bp ver v' (applyC ver l c).2.1 fp' ∧ (∀ k ∈ fp', k ∈ fp ∨ w.heap.size ≤ k) ∧ Chg (bp :: fp) w w'
theorem PfPost.same {ver : Int} {l : List Blk} {c : Cg} {bp : Nat} {v : Value} {fp : List Nat} {w w' : World} {q : Int} (h : TblBox w bp ver v l fp) (hb : Below w.heap.size w w') (ha : (applyC ver l c).2 = (l, q)) : PfPost ver l c bp fp w (.returned (.int .i64 q)) w' :=
  ⟨v, fp, by rw [ha], by rw [ha]; exact h.step hb, fun k hk => .inl hk, Chg.of hb⟩
/-- A table behind a pointer: its slice is opened. -/
theorem TblBox.open {w : World} {bp : Nat} {ver : Int} {v : Value} {l : List Blk} {fp : List Nat} (h : TblBox w bp ver v l fp) : ∃ ao cap, v = .slice ao l.length cap ∧ l.length ≤ cap ∧ BlksVal w ao l := blks_open h.2.2.2.2.2.1
end Go.Proofs.Ytcfcohnkkgickaa

namespace Go.Proofs.Ytcfcohnkkgickaa
open Go Num

/-- Few blocks with few rows. -/
def SmallB (l : List Blk) : Prop := l.length ≤ 7 ∧ ∀ b ∈ l, b.rows.length ≤ 7
theorem tbl_small {ver : Int} {l : List Blk} (h : TblOk ver l l.length) : l.length ≤ 6 ∧ ∀ b ∈ l, b.rows.length ≤ 6 :=
  ⟨h.2.1, fun b hb => by
    obtain ⟨k, hk, rfl⟩ := List.mem_iff_getElem.1 hb
    have := tbl_rows h k hk
    rwa [Bn_at hk] at this⟩
theorem applyC_small {ver : Int} {l : List Blk} {c : Cg} (h : TblOk ver l l.length ∧ ChOk c ∧ ver ≠ 99) : SmallB (applyC ver l c).2.1 := by
  obtain ⟨h1, h2⟩ := tbl_small h.1
  have hl : SmallB l := ⟨by omega, fun b hb => by have := h2 b hb; omega⟩
  have hset : ∀ (k : Nat) (b : Blk), b.rows.length ≤ 7 → SmallB (l.set k b) := fun k b hb => ⟨by rw [List.length_set]; omega, fun x hx => by
    rcases List.mem_or_eq_of_mem_set hx with hx | rfl
    · have := h2 x hx; omega
    · exact hb⟩
  have hB : ∀ k, k < l.length → (Bn l k).rows.length ≤ 6 := tbl_rows h.1
  rw [applyC_good h]
  split
  · split
    · exact hl
    · split
      · next hk =>
        split
        · exact hset _ _ (by show (addL _ _).length ≤ 7; rw [addL_len]; have := hB _ hk; omega)
        · exact hl
      · split
        · exact hl
        · split
          · exact hl
          · refine ⟨by simp only [List.length_append, List.length_cons, List.length_nil]; omega, fun b hb => ?_⟩
            rcases List.mem_append.1 hb with hb | hb
            · have := h2 b hb; omega
            · simp only [List.mem_singleton] at hb; subst hb; simp
  · split
    · split
      · next hk => exact hset _ _ (by show (List.set _ _ _).length ≤ 7; rw [List.length_set]; have := hB _ hk; omega)
      · exact hl
    · split
      · split
        · next hk => exact hset _ _ (by show (List.eraseIdx _ _).length ≤ 7; have := hB _ hk; have h9 := List.length_eraseIdx_le (Bn l (iRow l c.r.i)).rows (iIn (Bn l (iRow l c.r.i)).rows c.r.i); omega)
        · exact hl
      · exact ⟨Nat.le_trans (List.length_filter_le _ _) (by omega), fun b hb => by have := h2 b (List.mem_filter.1 hb).1; omega⟩
/-- As it was, or small. -/
theorem applyC_or (ver : Int) (l : List Blk) (c : Cg) : (applyC ver l c).2.1 = l ∨ SmallB (applyC ver l c).2.1 := by
  by_cases h : TblOk ver l l.length ∧ ChOk c ∧ ver ≠ 99
  · exact .inr (applyC_small h)
  · rw [applyC_bad h]; exact .inl rfl
theorem applyCs_or : ∀ (cs : List Cg) (ver : Int) (l : List Blk), (applyCs ver l cs).2.1 = l ∨ SmallB (applyCs ver l cs).2.1
  | [], _, _ => .inl rfl
  | c :: cs, ver, l => by
    show (applyCs (applyC ver l c).1 (applyC ver l c).2.1 cs).2.1 = l ∨ _
    rcases applyCs_or cs (applyC ver l c).1 (applyC ver l c).2.1 with h | h
    · rcases applyC_or ver l c with h' | h'
      · exact .inl (h.trans h')
      · exact .inr (by show SmallB (applyCs _ _ cs).2.1; rw [h]; exact h')
    · exact .inr h
/-- What the laws ask of a table that they compare and mark. -/
def EndOk (l : List Blk) : Prop := l.length ≤ 1048576 ∧ (∀ k (hk : k < l.length), l[k].rows.length ≤ 1048576) ∧ markEnd 1 l ≤ 40000000
theorem SmallB.ends {l : List Blk} (h : SmallB l) : EndOk l := by
  have h1 := h.1
  refine ⟨by omega, fun k hk => by have := h.2 _ (List.getElem_mem hk); omega, ?_⟩
  have := markEnd_le l 1 (fun b hb => by have := h.2 b hb; omega)
  omega
theorem lst_ends {n : Nat} {B : Nat → Blk} (hn : n ≤ 1048576) (hs : (rowsN B n : Int) ≤ 1048576) (hr : ∀ k, k < n → (B k).rows.length ≤ 1048576) : EndOk (lstB n B) :=
  ⟨by rw [lstB_len]; exact hn, fun k hk => by rw [lstB_at]; exact hr k (by rwa [lstB_len] at hk), by rw [markEnd_lst]; omega⟩
theorem or_ends {l l' : List Blk} (h : EndOk l) (h' : l' = l ∨ SmallB l') : EndOk l' := by
  rcases h' with rfl | h'
  · exact h
  · exact h'.ends
open Go.RowKit in
/-- What ApplyChange leaves: the version, the blocks, the code. -/
def ApcP (V : Int) (L : List Blk) (Q : Int) (w : World) (e : Ending) (w' : World) : Prop :=
  ∃ v fp, e = .returned (.tuple #[.agg #[.int .i64 V, v], .int .i64 Q]) ∧ SliceRep blkTy w' v L fp ∧ fp.Nodup ∧ (∀ k ∈ fp, w.heap.size ≤ k) ∧ Below w.heap.size w w'
end Go.Proofs.Ytcfcohnkkgickaa

namespace Go.Proofs.Ytcfcohnkkgickaa
open Go.RowKit Num

theorem step_store_mid {P : Program} {ops : Array Oper} {op : Oper} {a : Act} {w : World} {K : Act → World → Prop} {Q : Exit → Act → World → Prop} {E : Prop} (hg : op.guard = none) (ty : TypeId) (x y : Operand) (ho : op.op = .store ty x y)
    (b o : Nat) (cells : Array Value) (hx : a.eval x = .pointer (some ⟨b, o, none⟩)) (hy : a.eval y = .agg cells)
    (ht : w.there b o cells.size) (hi : (P.info? ty).map (·.size) = some cells.size) (h1 : cells.all (·.oneCell') = true)
    (h : K (a.put op.dst undef) (w.setCells b o cells.toList)) : if Region.wanted op (yielded ops a.tmps) = true then Oper.wp P op a w K Q else E := by
  have hw : Region.wanted op (yielded ops a.tmps) = true := by simp [Region.wanted, hg]
  rw [if_pos hw]
  exact wp_store_mid ty x y ho b o cells hx hy ht hi h1 h
theorem step_store5 {ops : Array Oper} {op : Oper} {a : Act} {w : World} {K : Act → World → Prop} {Q : Exit → Act → World → Prop} {E : Prop} (hg : op.guard = none) (x y : Operand) (ho : op.op = .store 36 x y)
    (q j : Nat) (r : Rw) (hx : a.eval x = .pointer (some ⟨q, j * 5, none⟩)) (hy : a.eval y = .agg #[.int .i64 r.i, .int .i64 r.g, .int .i64 r.y, .int .i64 r.x, .bool r.nl])
    (ht : ∀ o, o < 5 → (∃ u, w.cell? ⟨q, j * 5 + o, none⟩ = some u) ∧ w.frozen? ⟨q, j * 5 + o, none⟩ = false)
    (h : K (a.put op.dst undef) (put5 w q j r)) : if Region.wanted op (yielded ops a.tmps) = true then Oper.wp Try.prog op a w K Q else E :=
  step_store_mid hg 36 x y ho q (j * 5) _ hx hy (fun o ho => by
    obtain ⟨⟨u, hu⟩, hf⟩ := ht o ho
    exact ⟨by rw [hu]; rfl, hf⟩) (by kernel_rfl) (by simp [Value.oneCell']) h
theorem step_store2 {ops : Array Oper} {op : Oper} {a : Act} {w : World} {K : Act → World → Prop} {Q : Exit → Act → World → Prop} {E : Prop} (hg : op.guard = none) (x y : Operand) (ho : op.op = .store 80 x y)
    (g k : Nat) (u v : Value) (hx : a.eval x = .pointer (some ⟨g, k * 2, none⟩)) (hy : a.eval y = .agg #[u, v]) (hu : u.oneCell' = true) (hv : v.oneCell' = true)
    (ht : ∀ o, o < 2 → (∃ u, w.cell? ⟨g, k * 2 + o, none⟩ = some u) ∧ w.frozen? ⟨g, k * 2 + o, none⟩ = false)
    (h : K (a.put op.dst undef) ((w.setCell ⟨g, k * 2, none⟩ u).setCell ⟨g, k * 2 + 1, none⟩ v)) : if Region.wanted op (yielded ops a.tmps) = true then Oper.wp Try.prog op a w K Q else E :=
  step_store_mid hg 80 x y ho g (k * 2) _ hx hy (fun o ho => by
    obtain ⟨⟨u, hu⟩, hf⟩ := ht o ho
    exact ⟨by rw [hu]; rfl, hf⟩) (by kernel_rfl) (by simp [hu, hv]) h
end Go.Proofs.Ytcfcohnkkgickaa

namespace Go.Proofs.Ytcfcohnkkgickaa
open Go Num Go.Maps Go.ChangeShapes

/-- The second parts of the pairs whose first is x, in their order. -/
def sel : List (Int × Int) → Int → List Int
  | [], _ => []
  | p :: ps, x => if p.1 = x then p.2 :: sel ps x else sel ps x
theorem sel_app (x : Int) : ∀ ps qs, sel (ps ++ qs) x = sel ps x ++ sel qs x
  | [], _ => rfl
  | p :: ps, qs => by
    rw [List.cons_append, sel, sel, sel_app x ps qs]
    split <;> rfl
theorem sel_one (a b x : Int) : sel [(a, b)] x = if a = x then [b] else [] := rfl
theorem sel_len (x : Int) : ∀ ps, (sel ps x).length ≤ ps.length
  | [] => Nat.le_refl _
  | p :: ps => by
    have := sel_len x ps
    rw [sel]
    split <;> simp only [List.length_cons] <;> omega

/-- What a map of slices reads as that holds the pairs. -/
def GrpAt {H : Type} (D : DataW H) (ps : List (Int × Int)) : Prop :=
  IsMap D ∧ ∀ x, (sel ps x = [] → has D (.int .i64 x) = false) ∧ (sel ps x ≠ [] → ∀ zd, D.atKey (.int .i64 x) zd = .slice (lits .i64 (sel ps x)) [])
theorem GrpAt.start {H : Type} : GrpAt (.map [] : DataW H) [] := ⟨isMap_empty, fun x => ⟨fun _ => rfl, fun h => absurd rfl h⟩⟩
theorem lits_inj {H : Type} {a b : List Int} (h : lits (H := H) .i64 a = lits .i64 b) : a = b :=
  (List.map_inj_right (fun x y hxy => by simpa using hxy)).1 h
/-- What is read at a key. -/
theorem GrpAt.read {H : Type} {D : DataW H} {ps : List (Int × Int)} (h : GrpAt D ps) {w : World} {base : Nat} {e : TypeId} {v : Value} {zs : List Int} {x : Int} (ho : w.ownsInts base e .i64 v zs) (hat : D.atKey (.int .i64 x) .nil = rowDatum .i64 v zs) : zs = sel ps x := by
  obtain ⟨h1, h2⟩ := h.2 x
  by_cases hs : sel ps x = []
  · rw [hs]
    rw [atKey_of_not_has (h1 hs)] at hat
    rcases ho.datum (H := H) with ⟨_, hz⟩ | hd
    · exact hz
    · rw [hd] at hat; cases hat
  · rw [h2 hs] at hat
    rcases ho.datum (H := H) with ⟨hd, _⟩ | hd
    · rw [hd] at hat; cases hat
    · rw [hd] at hat
      exact (lits_inj (by simpa using hat)).symm
theorem GrpAt.put {H : Type} {D : DataW H} {ps : List (Int × Int)} (h : GrpAt D ps) {w' : World} {base : Nat} {e : TypeId} {v' : Value} {zs : List Int} {x a : Int} (hz : zs = sel ps x) (ho : w'.ownsInts base e .i64 v' (zs ++ [a])) : GrpAt (D.put (.int .i64 x) (rowDatum .i64 v' (zs ++ [a]))) (ps ++ [(x, a)]) := by
  subst hz
  rw [ho.datum_pos (by simp)]
  refine ⟨h.1.put _ _, fun y => ?_⟩
  rw [sel_app, sel_one]
  by_cases e : x = y
  · subst e
    rw [if_pos rfl]
    exact ⟨fun hn => by simp at hn, fun _ zd => atKey_put_same h.1 (show WideAt.IsKeyLit (.int .i64 x) from trivial) _ _⟩
  · rw [if_neg e, List.append_nil]
    have hne : (Lit.int .i64 y) ≠ .int .i64 x := fun h => e (by cases h; rfl)
    exact ⟨fun hn => by rw [has_put_other hne]; exact (h.2 y).1 hn, fun hn zd => by rw [atKey_put_other hne]; exact (h.2 y).2 hn zd⟩

/-- The pairs of the first j rows of block k. -/
def rowPairs (rs : List Rw) (k : Int) : Nat → List (Int × Int)
  | 0 => []
  | j + 1 => rowPairs rs k j ++ [((Rn rs j).i, k)]
/-- The pairs of the first k blocks. -/
def blkPairs (l : List Blk) : Nat → List (Int × Int)
  | 0 => []
  | k + 1 => blkPairs l k ++ rowPairs (Bn l k).rows k (Bn l k).rows.length
theorem rowPairs_len (rs : List Rw) (k : Int) : ∀ j, (rowPairs rs k j).length = j
  | 0 => rfl
  | j + 1 => by rw [rowPairs, List.length_append, rowPairs_len rs k j]; rfl
theorem blkPairs_len (l : List Blk) {n : Nat} (hr : ∀ k, k < n → (Bn l k).rows.length ≤ 1048576) : ∀ k, k ≤ n → (blkPairs l k).length ≤ k * 1048576
  | 0, _ => Nat.le_refl _
  | k + 1, h => by
    have := blkPairs_len l hr k (by omega)
    have := hr k (by omega)
    rw [blkPairs, List.length_append, rowPairs_len]
    omega

/-- The block's own share at x. -/
theorem sel_rows (rs : List Rw) (k x : Int) : ∀ j, ∀ a ∈ sel (rowPairs rs k j) x, a = k
  | 0, a, h => by cases h
  | j + 1, a, h => by
    rw [rowPairs, sel_app, sel_one] at h
    rcases List.mem_append.1 h with h | h
    · exact sel_rows rs k x j a h
    · split at h
      · simpa using h
      · cases h
theorem sel_rows_nil (rs : List Rw) (k x : Int) : ∀ j, sel (rowPairs rs k j) x = [] ↔ ∀ i, i < j → (Rn rs i).i ≠ x
  | 0 => ⟨fun _ i hi => by omega, fun _ => rfl⟩
  | j + 1 => by
    rw [rowPairs, sel_app, sel_one, List.append_eq_nil_iff, sel_rows_nil rs k x j]
    constructor
    · rintro ⟨h1, h2⟩ i hi
      by_cases e : i < j
      · exact h1 i e
      · obtain rfl : i = j := by omega
        intro e2
        rw [if_pos e2] at h2
        cases h2
    · intro h
      exact ⟨fun i hi => h i (by omega), by rw [if_neg (h j (by omega))]⟩
theorem sel_rows_has (rs : List Rw) (k x : Int) : sel (rowPairs rs k rs.length) x = [] ↔ ¬ HasRow rs x := by
  rw [sel_rows_nil]
  exact ⟨fun h ⟨j, hj, e⟩ => h j hj e, fun h i hi e => h ⟨i, hi, e⟩⟩
theorem sel_blks_nil (l : List Blk) (x : Int) : ∀ n, sel (blkPairs l n) x = [] ↔ ∀ i, i < n → ¬ HasRow (Bn l i).rows x
  | 0 => ⟨fun _ i hi => by omega, fun _ => rfl⟩
  | n + 1 => by
    rw [blkPairs, sel_app, List.append_eq_nil_iff, sel_blks_nil l x n, sel_rows_has]
    constructor
    · rintro ⟨h1, h2⟩ i hi
      by_cases e : i < n
      · exact h1 i e
      · obtain rfl : i = n := by omega
        exact h2
    · intro h
      exact ⟨fun i hi => h i (by omega), h n (by omega)⟩

/-- The first block in which x stands. -/
theorem sel_first (l : List Blk) (x : Int) : ∀ n, FirstAns (fun k => HasRow (Bn l k).rows x) n (match sel (blkPairs l n) x with | [] => -1 | a :: _ => a)
  | 0 => .inr ⟨fun j hj => by omega, rfl⟩
  | n + 1 => by
    have ih := sel_first l x n
    rw [blkPairs, sel_app]
    cases hs : sel (blkPairs l n) x with
    | nil =>
      have hn := (sel_blks_nil l x n).1 hs
      rw [List.nil_append]
      cases hr : sel (rowPairs (Bn l n).rows (n : Int) (Bn l n).rows.length) x with
      | nil =>
        have h2 := (sel_rows_has _ _ _).1 hr
        refine .inr ⟨fun j hj => ?_, rfl⟩
        by_cases e : j < n
        · exact hn j e
        · obtain rfl : j = n := by omega
          exact h2
      | cons a r =>
        have ha : a = (n : Int) := sel_rows _ _ _ _ a (by rw [hr]; simp)
        subst ha
        refine .inl ⟨n, by omega, ?_, hn, rfl⟩
        exact Classical.byContradiction fun hc => by
          have := (sel_rows_has _ (n : Int) _).2 hc
          rw [hr] at this; cases this
    | cons a r =>
      rw [hs] at ih
      rcases ih with ⟨k, hk, hp, hl, e⟩ | ⟨_, e⟩
      · exact .inl ⟨k, by omega, hp, hl, e⟩
      · have h2 := (sel_blks_nil l x n).2
        rcases sel_first l x n with ⟨k, hk, hp, hl, e2⟩ | ⟨hn, _⟩
        · rw [hs] at e2
          exact .inl ⟨k, by omega, hp, hl, e2⟩
        · rw [h2 hn] at hs; cases hs

theorem areB_lt {R : Nat → Rw} : ∀ n : Nat, areB R n = true → ∀ j, j < n → ∀ i, i < j → (R i).i < (R j).i
  | 0, _, j, hj, _, _ => by omega
  | n + 1, h, j, hj, i, hi => by
    have h' : (areB R n && ((R n).ok && (decide (n = 0) || decide ((R (n - 1)).i < (R n).i)))) = true := h
    rw [Bool.and_eq_true, Bool.and_eq_true, Bool.or_eq_true] at h'
    by_cases e : j < n
    · exact areB_lt n h'.1 j e i hi
    · obtain rfl : j = n := by omega
      have hl : (R (j - 1)).i < (R j).i := by
        rcases h'.2.2 with h2 | h2
        · have := of_decide_eq_true h2; omega
        · exact of_decide_eq_true h2
      by_cases e2 : i = j - 1
      · rw [e2]; exact hl
      · have := areB_lt j h'.1 (j - 1) (by omega) i (by omega)
        omega
/-- In a valid block an ID stands once. -/
theorem sel_once (rs : List Rw) (k x : Int) : ∀ j, (∀ a, a < j → ∀ b, b < a → (Rn rs b).i < (Rn rs a).i) → (sel (rowPairs rs k j) x).length ≤ 1
  | 0, _ => Nat.zero_le _
  | j + 1, h => by
    rw [rowPairs, sel_app, sel_one, List.length_append]
    split
    · next e =>
      have hz : sel (rowPairs rs k j) x = [] := (sel_rows_nil rs k x j).2 fun i hi e2 => by
        have := h j (by omega) i hi
        rw [e, e2] at this; omega
      rw [hz]; simp
    · have := sel_once rs k x j (fun a ha => h a (by omega))
      simpa using this

/-- Each ID stands once just if no two blocks share one. -/
theorem uniq_iff (l : List Blk) : ∀ n, BlksOk l n → ((∀ x, (sel (blkPairs l n) x).length ≤ 1) ↔ UniqR l n)
  | 0, _ => ⟨fun _ => UniqR.zero l, fun _ x => Nat.zero_le _⟩
  | n + 1, hb => by
    have ih := uniq_iff l n (hb.low (by omega))
    have hon : ∀ x, (sel (rowPairs (Bn l n).rows (n : Int) (Bn l n).rows.length) x).length ≤ 1 := fun x => sel_once _ _ _ _ (areB_lt _ (blkB_of (hb.1 n (by omega))).2.1)
    constructor
    · intro h
      refine (ih.1 fun x => ?_).succ fun i hi x h1 h2 => ?_
      · have := h x
        rw [blkPairs, sel_app, List.length_append] at this
        omega
      · have h3 := h x
        rw [blkPairs, sel_app, List.length_append] at h3
        have a1 : sel (blkPairs l n) x ≠ [] := fun e => (sel_blks_nil l x n).1 e i hi h2
        have a2 : sel (rowPairs (Bn l n).rows (n : Int) (Bn l n).rows.length) x ≠ [] := fun e => (sel_rows_has _ _ _).1 e h1
        have b1 := List.length_pos_iff.2 a1
        have b2 := List.length_pos_iff.2 a2
        omega
    · intro h x
      rw [blkPairs, sel_app, List.length_append]
      by_cases hx : HasRow (Bn l n).rows x
      · have : sel (blkPairs l n) x = [] := (sel_blks_nil l x n).2 fun i hi h2 => h n (by omega) i hi x hx h2
        rw [this]
        have := hon x
        simpa using this
      · rw [(sel_rows_has _ _ _).2 hx]
        have := ih.2 (fun k hk => h k (by omega)) x
        simpa using this
end Go.Proofs.Ytcfcohnkkgickaa

namespace Go.Proofs.Ytcfcohnkkgickaa
open Go.RowKit Num Go.Maps

theorem infoInt : (Try.prog.info? 3).map (fun i => (i.zero, i.size, i.bytes)) = some (some (.int .i64 0), 1, 8) := by kernel_rfl
theorem zeroInts (w : World) : (zeroValue 45).run Try.prog w = .ok (.slice none 0 0) w := by kernel_rfl
theorem mapLaw : Keyed Try.prog 3 := int_keyed Try.underlying3
theorem mapT : Try.prog.underlying 158 = some (.map 3 45) := by kernel_rfl

/-- A block of another type is no row that is owned. -/
theorem row_apart {w : World} {base : Nat} {e t : TypeId} {size n rb : Nat} {v : Value} {xs : List Value} {cs : Array Value} {fz : Nat × Nat} (ho : w.ownsRow base e size v n xs) (hb : w.heap[rb]? = some (.cells cs t fz)) (hne : t ≠ e) : some rb ≠ v.ownBlock := by
  rcases ho.2 with ⟨rfl, _⟩ | ⟨g, cap, cur, rfl, _, hh, _⟩
  · intro h; cases h
  · intro h
    obtain rfl : rb = g := by simpa [Value.ownBlock] using h
    rw [hb] at hh
    simp only [Option.some.injEq, Obj.cells.injEq] at hh
    exact hne hh.2.1
theorem grown_drew (w : World) (row : Option Nat) : w.grownBy w.drew row := ⟨rfl, rfl, rfl, Nat.le_refl _, fun _ _ _ => rfl⟩
theorem groups_alloc {H : Type} {w : World} {P : Program} {k e : TypeId} {base b n : Nat} {q : IntKind} {D : DataW H} (h : w.ownsGroups P k base e q b n D) (o : Obj) : (w.alloc o).ownsGroups P k base e q b n D :=
  h.kept (row := none) (World.grownBy_alloc w o none) (by simp) (h.rowsAbove (fun j hj => by cases hj))
theorem groups_drew {H : Type} {w : World} {P : Program} {k e : TypeId} {base b n : Nat} {q : IntKind} {D : DataW H} (h : w.ownsGroups P k base e q b n D) : w.drew.ownsGroups P k base e q b n D :=
  h.kept (row := none) (grown_drew w none) (by simp) (h.rowsAbove (fun j hj => by cases hj))

/-- What rowPlaces leaves. -/
def RpPost (l : List Blk) (n : Nat) (w : World) (e : Ending) (w' : World) : Prop :=
  ∃ (b m : Nat) (D : DataW Unit), e = .returned (.map (some b)) ∧ m < maxLen ∧ w'.ownsGroups Try.prog 3 (b + 1) 3 .i64 b m D ∧ GrpAt D (blkPairs l n) ∧ w.heap.size ≤ b ∧ Below w.heap.size w w'

set_option maxRecDepth 8000 in
set_option maxHeartbeats 12800000 in
theorem impl_rp (ver : Int) (ao : Option Addr) (n cap : Nat) (l : List Blk) (w : World) (hl : l.length = n) (hn : n ≤ 1048576) (hr : ∀ k, k < n → (Bn l k).rows.length ≤ 1048576) (hw : WfB n (Bn l)) (hV : BlksVal w ao l) :
    Calls Try.prog 132 #[.agg #[.int .i64 ver, .slice ao n cap]] w (RpPost l n w) := by
  have HV := Lib.hid hV
  have HL := Lib.hid hl
  have HR := Lib.hid hr
  have HW := Lib.hid hw
  clear hV hl hr hw
  have hnI : (n : Int) ≤ 1048576 := by omega
  have hmm := @run_makeMap Try.prog
  obtain ⟨i0, hi, hz0, hz1, hz2⟩ := info_parts infoInt
  go_enter Try.func132, Try.ntmps132
  go_wp2_with fail
  have K0 := (Kept.start w).alloc2 (.int .i64 ver) (.slice ao n cap) 32 _ rfl
  have G0 := Lib.hid (World.ownsGroups_made (H := Unit) (w.alloc (.cells #[.int .i64 ver, .slice ao n cap] 32)) Try.prog 3 3 .i64)
  have B0 := Lib.hid (K0.1.alloc K0.1.size (.map #[] 0))
  go_loopw [12] (fun iv wr => ∃ (k : Nat) (D : DataW Unit), k ≤ n ∧ iv = .int .i64 k ∧ Hid (wr.ownsGroups Try.prog 3 (w.heap.size + 1 + 1) 3 .i64 (w.heap.size + 1) (blkPairs l k).length D) ∧ Hid (GrpAt D (blkPairs l k)) ∧ Hid (Below w.heap.size w wr) ∧ w.heap.size + 1 + 1 ≤ wr.heap.size) (fun iv _ => n - (intOf iv).toNat)
  case atStart => exact ⟨0, _, Nat.zero_le _, rfl, Lib.hid (by simpa [blkPairs] using G0.out), Lib.hid GrpAt.start, B0, by simp⟩
  case round =>
    obtain ⟨k, D, hk, rfl, HG, HD, HB, hsz⟩ := hrel
    clear K0 G0 B0
    by_cases hlt : k < n
    · have hkI : (k : Int) < (n : Int) := by omega
      have hwk : (Lit.int .i64 (k : Int)).wf = true := WalkArith.wf_i64 (by omega)
      obtain ⟨g, rfl, hg, hBk⟩ := HV.out.head HL.out (by omega)
      obtain ⟨rao, rcap, c0, c1, hRV⟩ := hBk k hlt
      have HRV := Lib.hid hRV
      have c0 := (HB.out.cell (p := ⟨g, k * 2, none⟩) hg).trans c0
      have c1 := (HB.out.cell (p := ⟨g, k * 2 + 1, none⟩) hg).trans c1
      have hrl := HR.out k hlt
      have HLN := Lib.hid (blkPairs_len l HR.out k hk)
      have HWK := Lib.hid (HW.out k hlt)
      have HEND := Lib.hid (show blkPairs l (k + 1) = blkPairs l k ++ rowPairs (Bn l k).rows k (Bn l k).rows.length from rfl)
      obtain ⟨bk, hbk⟩ : ∃ bk, bk = Bn l k := ⟨_, rfl⟩
      rw [← hbk] at c0 c1 HRV hrl HWK HEND
      obtain ⟨rs, hrs⟩ : ∃ rs, rs = bk.rows := ⟨_, rfl⟩
      rw [← hrs] at c1 HRV hrl HWK HEND
      obtain ⟨m, hm⟩ : ∃ m, m = rs.length := ⟨_, rfl⟩
      rw [← hm] at c1 HRV hrl HWK HEND
      have hmI : (m : Int) ≤ 1048576 := by omega
      obtain ⟨ps, hps⟩ : ∃ ps, ps = blkPairs l k := ⟨_, rfl⟩
      rw [← hps] at HG HD HLN HEND
      have hgl := HLN.out
      have hB0 := HB.out.alloc HB.out.size (.cells #[.int .i64 bk.id, .slice rao m rcap] 80)
      have HB1 := Lib.hid hB0
      have HG1 := Lib.hid (groups_alloc HG.out (.cells #[.int .i64 bk.id, .slice rao m rcap] 80))
      clear hBk hRV hbk hrs hm hps hB0
      go_wp2_with fail
      go_loopw [20] (fun jv wr => ∃ (j : Nat) (D : DataW Unit), j ≤ m ∧ jv = .int .i64 j ∧ Hid (wr.ownsGroups Try.prog 3 (w.heap.size + 1 + 1) 3 .i64 (w.heap.size + 1) (ps.length + j) D) ∧ Hid (GrpAt D (ps ++ rowPairs rs k j)) ∧ Hid (Below w.heap.size w wr) ∧ w.heap.size + 1 + 1 ≤ wr.heap.size) (fun jv _ => m - (intOf jv).toNat)
      case atStart => exact ⟨0, D, Nat.zero_le _, rfl, HG1, by simpa [rowPairs] using HD, HB1, by simp; omega⟩
      case round =>
        clear HG HD HB HG1 HB1 c0 c1 hsz D
        obtain ⟨j, D, hj, rfl, HG, HD, HB, hsz⟩ := hrel
        by_cases hjt : j < m
        · have hjI : (j : Int) < (m : Int) := by omega
          obtain ⟨h, rfl, hh, hRows⟩ : ∃ h, rao = some ⟨h, 0, none⟩ ∧ h < w.heap.size ∧ ∀ k, k < m → RowIn w h k (Rn rs k) := HRV.out.resolve_left (by omega)
          obtain ⟨d0, d1, d2, d3, d4⟩ := (hRows j hjt).below HB.out hh
          have hwi := HWK.out j hjt
          obtain ⟨r, hr⟩ : ∃ r, r = Rn rs j := ⟨_, rfl⟩
          have HPS := Lib.hid (show ps ++ rowPairs rs k (j + 1) = ps ++ rowPairs rs k j ++ [(r.i, (k : Int))] from by rw [hr, List.append_assoc]; rfl)
          rw [← hr] at d0 d1 d2 d3 d4 hwi
          obtain ⟨rb, hrb⟩ : ∃ rb, rb = wr.heap.size := ⟨_, rfl⟩
          have HH := Lib.hid hh
          clear hRows hr hh
          have hkey := keyOf_int_mk Try.underlying3 hwi
          have h5 := groups_alloc HG.out (.cells #[.int .i64 r.i, .int .i64 r.g, .int .i64 r.y, .int .i64 r.x, .bool r.nl] 36)
          have blk5 := heap_alloc_new wr (.cells #[.int .i64 r.i, .int .i64 r.g, .int .i64 r.y, .int .i64 r.x, .bool r.nl] 36)
          have b5 := Lib.hid (HB.out.alloc HB.out.size (.cells #[.int .i64 r.i, .int .i64 r.g, .int .i64 r.y, .int .i64 r.x, .bool r.nl] 36))
          have s5 : (wr.alloc (.cells #[.int .i64 r.i, .int .i64 r.g, .int .i64 r.y, .int .i64 r.x, .bool r.nl] 36)).heap.size = wr.heap.size + 1 := by simp
          have hA := groups_drew h5
          have hB := groups_drew (groups_alloc h5 (.cells #[.int .i64 (k : Int)] 3))
          go_wp2_with fail
          generalize (wr.alloc (.cells #[.int .i64 r.i, .int .i64 r.g, .int .i64 r.y, .int .i64 r.x, .bool r.nl] 36)) = w5 at *
          have c5 : w5.cell? ⟨wr.heap.size, 0, none⟩ = some (.int .i64 r.i) := by rw [cell_of_row w5 wr.heap.size 0 _ _ (0, 0) blk5]; rfl
          have hnl : ps.length + j < maxLen := by unfold maxLen; omega
          obtain ⟨vA, zA, runA, hatA, hoiA, hzlA, backA⟩ := hA.at mapLaw mapT (zeroInts _) hnl hkey
          obtain ⟨vB, zB, runB, hatB, hoiB, hzlB, backB⟩ := hB.at mapLaw mapT (zeroInts _) hnl hkey
          have neA : some wr.heap.size ≠ vA.ownBlock := row_apart hoiA.1 (show w5.drew.heap[wr.heap.size]? = _ from blk5) (by decide)
          have blkB : ((w5.alloc (.cells #[.int .i64 (k : Int)] 3)).drew).heap[wr.heap.size]? = some (.cells #[.int .i64 r.i, .int .i64 r.g, .int .i64 r.y, .int .i64 r.x, .bool r.nl] 36) := ((World.grownBy_alloc w5.drew _ none).block _ (show wr.heap.size < w5.heap.size by omega) (by simp)).trans blk5
          have neB : some wr.heap.size ≠ vB.ownBlock := row_apart hoiB.1 blkB (by decide)
          have neM : some wr.heap.size ≠ some (w.heap.size + 1) := by simp; omega
          have ZA : zA = sel (ps ++ rowPairs rs k j) r.i := HD.out.read hoiA hatA
          have ZB : zB = sel (ps ++ rowPairs rs k j) r.i := HD.out.read hoiB hatB
          have BA := Lib.hid backA
          have BB := Lib.hid backB
          have OA := Lib.hid hoiA
          have OB := Lib.hid hoiB
          have PA := Lib.hid ZA
          have PB := Lib.hid ZB
          have sB : ((w5.alloc (.cells #[.int .i64 (k : Int)] 3)).drew).heap.size = w5.heap.size + 1 := by show (w5.alloc (.cells #[.int .i64 (k : Int)] 3)).heap.size = _; rw [World.size_alloc]
          have lB : wr.heap.size < ((w5.alloc (.cells #[.int .i64 (k : Int)] 3)).drew).heap.size := by omega
          have bB : w.heap.size + 1 + 1 ≤ ((w5.alloc (.cells #[.int .i64 (k : Int)] 3)).drew).heap.size := by omega
          have lC : w5.heap.size ≤ ((w5.alloc (.cells #[.int .i64 (k : Int)] 3)).drew).heap.size := by omega
          have l5 : w5.heap.size < ((w5.alloc (.cells #[.int .i64 (k : Int)] 3)).drew).heap.size := by omega
          have oA2 : ((w5.alloc (.cells #[.int .i64 (k : Int)] 3)).drew).ownsRow (w.heap.size + 1 + 1) 3 1 vA zA.length (zA.map (Value.int .i64)) := hoiA.1.alloc _
          have gA2 : ∀ row, w5.drew.grownBy ((w5.alloc (.cells #[.int .i64 (k : Int)] 3)).drew) row := fun row => World.grownBy_alloc w5.drew _ row
          have cN : ∀ j9 u9, ([.int .i64 (k : Int)] : List Value)[j9]? = some u9 → ((w5.alloc (.cells #[.int .i64 (k : Int)] 3)).drew).cell? ((⟨w5.heap.size, 0, none⟩ : Addr).add j9) = some u9 := cell_one_new w5 _ _
          have OA2 := Lib.hid oA2
          have GA2 := Lib.hid gA2
          have CN := Lib.hid cN
          have S5 := Lib.hid s5
          clear oA2 gA2 cN s5 sB hA hB h5 hatA hatB backA backB hoiA hoiB blk5 blkB ZA ZB hrb hkey hwi d0 d1 d2 d3 d4
          (first | go_region_held3 (fun w' => w'.cell? ⟨wr.heap.size, 0, none⟩ = some (.int .i64 r.i)) (first | assumption | exact c5 | exact cell_alloc_some _ (by assumption) | exact (grow2.cell_far ⟨wr.heap.size, 0, none⟩ (Nat.lt_of_lt_of_le lB hsz1) neM).trans (by assumption) | exact (hgrow.cell_far ⟨wr.heap.size, 0, none⟩ lB neA).trans (by assumption) | exact (hgrow.cell_far ⟨wr.heap.size, 0, none⟩ lB neB).trans (by assumption)) (first
            | (refine step_append_lies ((w5.alloc (.cells #[.int .i64 (k : Int)] 3)).drew) (by rfl) _ _ 45 (by rfl) (w.heap.size + 1 + 1) 3 i0 (.int .i64 0) 1 8 Try.underlying45 hi hz0 hz1 hz2 rfl (by decide) vA zA.length (zA.map (Value.int .i64)) (by rfl) OA2.out ⟨w5.heap.size, 0, none⟩ 1 1 [.int .i64 k] (by rfl) rfl CN.out (ints_oneCell .i64 [(k : Int)]) (by decide) (by unfold maxLen; omega) (by omega) bB _ rfl ?_; intro g9 cap9 w1 hown1 hgrow hat hlt1; obtain ⟨w2, run2, own2, grow2⟩ := BA.out w1 (.slice (some ⟨g9, 0, none⟩) (zA.length + 1) cap9) (zA ++ [(k : Int)]) ((GA2.out _).trans hgrow) (OA.out.appended hown1 hwk) (by simp; omega) (hat.imp (fun h => h.symm) (fun h => ⟨g9, rfl, by rw [h]; exact lC⟩)); have hsz1 := hgrow.size)
            | (refine step_append_lies ((w5.alloc (.cells #[.int .i64 (k : Int)] 3)).drew) (by rfl) _ _ 45 (by rfl) (w.heap.size + 1 + 1) 3 i0 (.int .i64 0) 1 8 Try.underlying45 hi hz0 hz1 hz2 rfl (by decide) vB zB.length (zB.map (Value.int .i64)) (by rfl) OB.out.1 ⟨w5.heap.size, 0, none⟩ 1 1 [.int .i64 k] (by rfl) rfl CN.out (ints_oneCell .i64 [(k : Int)]) (by decide) (by unfold maxLen; omega) (by omega) bB _ rfl ?_; intro g9 cap9 w1 hown1 hgrow hat hlt1; obtain ⟨w2, run2, own2, grow2⟩ := BB.out w1 (.slice (some ⟨g9, 0, none⟩) (zB.length + 1) cap9) (zB ++ [(k : Int)]) hgrow (OB.out.appended hown1 hwk) (by simp; omega) (hat.imp (fun h => h.symm) (fun h => ⟨g9, rfl, by rw [h]; exact Nat.le_refl _⟩)); have hsz1 := hgrow.size)) | fail)
          all_goals
            have HG2 := Lib.hid own2
            have sz2 : w.heap.size + 1 + 1 ≤ w2.heap.size := by
              have h1 := grow2.size
              have h2 := S5.out
              omega
            first
              | (have HD2 := Lib.hid (HD.out.put PA.out (OA.out.appended hown1 hwk)); have HB2 := Lib.hid (Below.groups b5.out.drew OA.out ((GA2.out _).trans hgrow) grow2 b5.out.size (by omega) (by omega)))
              | (have HD2 := Lib.hid (HD.out.put PB.out (OB.out.appended hown1 hwk)); have HB2 := Lib.hid (Below.groups (b5.out.alloc b5.out.size _).drew OB.out hgrow grow2 (Nat.le_trans b5.out.size (by assumption)) (by omega) (by omega)))
            rw [← HPS.out] at HD2
            obtain ⟨w7, hw7⟩ : ∃ w7, w7 = w2 := ⟨_, rfl⟩
            clear own2 grow2 run2 hgrow hown1 OA OB BA BB PA PB OA2 GA2 CN runA runB
            subst hw7
            go_wp2
            go_roundw
            case rel => exact ⟨j + 1, _, by omega, by go_num, HG2, HD2, HB2, sz2⟩
            case measure => simp [intOf]; omega
        · obtain rfl : j = m := by omega
          have hsd : decide ((j : Int) < (j : Int)) = false := decide_eq_false (by omega)
          go_wp2
          go_roundw
          case rel => exact ⟨k + 1, D, by omega, by go_num, Lib.hid (by rw [HEND.out, List.length_append, rowPairs_len]; exact HG.out), Lib.hid (by rw [HEND.out]; exact HD.out), HB, hsz⟩
          case measure => simp [intOf]; omega
    · obtain rfl : k = n := by omega
      have hsd : decide ((k : Int) < (k : Int)) = false := decide_eq_false (by omega)
      have hm := blkPairs_len l HR.out k (Nat.le_refl _)
      have hm2 : (blkPairs l k).length < maxLen := by unfold maxLen; omega
      clear hm
      go_wp2
      go_ret
      exact ⟨w.heap.size + 1, _, D, rfl, hm2, HG.out, HD.out, by omega, HB.out⟩
end Go.Proofs.Ytcfcohnkkgickaa

namespace Go.Proofs.Ytcfcohnkkgickaa
open Go.RowKit Num Go.Maps

set_option maxRecDepth 8000 in
set_option maxHeartbeats 3200000 in
theorem impl_bor (ver id : Int) (ao : Option Addr) (n cap : Nat) (l : List Blk) (w : World) (hl : l.length = n) (hn : n ≤ 1048576) (hr : ∀ k, k < n → (Bn l k).rows.length ≤ 1048576) (hw : WfB n (Bn l)) (hid : (Lit.int .i64 id).wf = true) (hV : BlksVal w ao l) :
    Calls Try.prog 165 #[.agg #[.int .i64 ver, .slice ao n cap], .int .i64 id] w (FirstPost (fun k => HasRow (Bn l k).rows id) n w) := by
  have HV := Lib.hid hV
  have HL := Lib.hid hl
  have HR := Lib.hid hr
  have HW := Lib.hid hw
  have hkey := keyOf_int_mk Try.underlying3 hid
  clear hV hl hr hw hid
  go_enter Try.func165, Try.ntmps165
  go_wp2_with fail
  have K0 := (Kept.start w).alloc2 (.int .i64 ver) (.slice ao n cap) 32 _ rfl
  refine (impl_rp ver ao n cap l _ HL.out hn HR.out HW.out (HV.out.below K0.1)).mono ?_
  rintro e w1 ⟨b, m, D, rfl, hm, hown, hD, _, hb⟩
  have K1 := Lib.hid (K0.step hb).1
  obtain ⟨v, zs, run1, hat, hoi, hzl, _⟩ := hown.at mapLaw mapT (zeroInts _) hm hkey
  have hz := hD.read hoi hat
  have hF := sel_first l id n
  rw [← hz] at hF
  clear hown hD hat hz hkey hb K0
  rcases hoi.1.2 with ⟨rfl, h0⟩ | ⟨g, c9, cur, rfl, _⟩
  · obtain rfl := List.eq_nil_of_length_eq_zero h0
    have AN := Lib.hid hF
    clear hF hoi
    go_wp2
    go_ret
    exact ⟨⟨_, AN.out, rfl⟩, K1.out⟩
  · cases zs with
    | nil =>
      have AN := Lib.hid hF
      clear hF hoi
      go_wp2
      go_ret
      exact ⟨⟨_, AN.out, rfl⟩, K1.out⟩
    | cons a r =>
      have hc := hoi.1.cellAt 0 (by simp)
      have c1 : w1.cell? ⟨g, 0, none⟩ = some (.int .i64 a) := by rw [hc]; rfl
      have hlen : (r.length : Int) + 1 ≤ 9223372036854775807 := by
        have : (a :: r).length ≤ m := hzl
        unfold maxLen at hm
        simp only [List.length_cons] at this
        omega
      have AN := Lib.hid hF
      have q : ((((a :: r).length : Nat) : Int) == 0) = false := beq_eq_false_iff_ne.2 (by simp only [List.length_cons]; omega)
      have q2 : (0 : Int) < (((a :: r).length : Nat) : Int) := by simp only [List.length_cons]; omega
      generalize (a :: r).length = z9 at *
      clear hF hoi hc
      go_wp2
      go_ret
      exact ⟨⟨_, AN.out, rfl⟩, K1.out⟩
end Go.Proofs.Ytcfcohnkkgickaa

namespace Go.Proofs.Ytcfcohnkkgickaa
open Go.RowKit Num

set_option maxRecDepth 8000 in
set_option maxHeartbeats 3200000 in
theorem spec_findB (ver id : Int) (ao : Option Addr) (n cap : Nat) (l : List Blk) (w : World) (hl : l.length = n) (hn : n ≤ 1048576) (hV : BlksVal w ao l) :
    Calls Try.prog 128 #[.agg #[.int .i64 ver, .slice ao n cap], .int .i64 id] w (FirstPost (fun k => (Bn l k).id = id) n w) := by
  have HV := Lib.hid hV
  have HL := Lib.hid hl
  clear hV hl
  have hnI : (n : Int) ≤ 1048576 := by omega
  go_enter Try.func128, Try.ntmps128
  go_wp2_with fail
  have K0 := (Kept.start w).alloc2 (.int .i64 ver) (.slice ao n cap) 32 _ rfl
  have H1 := Lib.hid (HV.out.below K0.1)
  generalize (w.alloc (.cells #[.int .i64 ver, .slice ao n cap] 32)) = w1 at K0 H1 ⊢
  have b1 := K0.get 1 rfl
  go_loop [5] (fun iv => ∃ k : Nat, k ≤ n ∧ iv = .int .i64 k ∧ Hid (∀ j, j < k → ¬ (Bn l j).id = id)) (fun iv => n - (intOf iv).toNat)
  case atStart => exact ⟨0, Nat.zero_le _, rfl, (fun j hj => by omega)⟩
  case round =>
    obtain ⟨k, hk, rfl, HA⟩ := hrel
    by_cases hlt : k < n
    · have hkI : (k : Int) < (n : Int) := by omega
      obtain ⟨g, rfl, hg, hB⟩ := H1.out.head HL.out (by omega)
      obtain ⟨rao, rcap, c0, c1, _⟩ := hB k hlt
      by_cases he : (Bn l k).id = id
      · have q : ((Bn l k).id == id) = true := by rw [he]; exact beq_self_eq_true id
        have AN := Lib.hid (show FirstAns (fun k => (Bn l k).id = id) n (k : Int) from .inl ⟨k, hlt, he, HA.out, rfl⟩)
        clear he hB
        go_wp2
        go_ret
        exact ⟨⟨_, AN.out, rfl⟩, K0.1⟩
      · have q : ((Bn l k).id == id) = false := beq_eq_false_iff_ne.2 he
        have HN := Lib.hid (show ∀ j, j < k + 1 → ¬ (Bn l j).id = id from fun j hj => by
          by_cases h : j < k
          · exact HA.out j h
          · obtain rfl : j = k := by omega
            exact he)
        clear he hB
        go_wp2
        go_round
        case rel => exact ⟨k + 1, by omega, by go_num, HN⟩
        case measure => simp [intOf]; omega
    · obtain rfl : k = n := by omega
      have hsd : decide ((k : Int) < (k : Int)) = false := decide_eq_false (by omega)
      go_wp2
      go_ret
      exact ⟨⟨-1, .inr ⟨HA.out, rfl⟩, rfl⟩, K0.1⟩
end Go.Proofs.Ytcfcohnkkgickaa

namespace Go.Proofs.Ytcfcohnkkgickaa
open Go.RowKit Num

set_option maxRecDepth 8000 in
theorem find_lit (bid : Int) (ro : Option Addr) (rn rc gc : Nat) (id : Int) (w : World) (hc : w.cell? ⟨gc, 0, none⟩ = some (.int .i64 id)) :
    Calls Try.prog 168 #[.agg #[.int .i64 bid, .slice ro rn rc], .pointer (some ⟨gc, 0, none⟩)] w fun e w' => e = .returned (.bool (bid == id)) ∧ Below w.heap.size w w' := by
  have b1 := (Below.refl w.heap.size w).alloc (Nat.le_refl _) (.cells #[.int .i64 bid, .slice ro rn rc] 80)
  have c1 := (b1.cell (p := ⟨gc, 0, none⟩) (World.block_lt_of_cell? w _ hc)).trans hc
  go_enter Try.func168, Try.ntmps168
  go_wp2
  go_ret
  exact ⟨rfl, b1⟩

set_option maxRecDepth 8000 in
set_option maxHeartbeats 3200000 in
theorem idx_fn (id : Int) (gc : Nat) (ao : Option Addr) (n cap : Nat) (l : List Blk) (w : World) (hl : l.length = n) (hn : n ≤ 1048576) (hV : BlksVal w ao l) (hc : w.cell? ⟨gc, 0, none⟩ = some (.int .i64 id)) :
    Calls Try.prog 167 #[.slice ao n cap, .func (.func 168) #[] #[.pointer (some ⟨gc, 0, none⟩)]] w (FirstPost (fun k => (Bn l k).id = id) n w) := by
  have HV := Lib.hid hV
  have HL := Lib.hid hl
  have HC := Lib.hid hc
  clear hV hl
  have hnI : (n : Int) ≤ 1048576 := by omega
  have hgc : gc < w.heap.size := World.block_lt_of_cell? w _ hc
  clear hc
  go_enter Try.func167, Try.ntmps167
  go_wp2_with fail
  go_loopw [8] (fun iv wr => ∃ k : Nat, k ≤ n ∧ iv = .int .i64 k ∧ Hid (∀ j, j < k → ¬ (Bn l j).id = id) ∧ Hid (Below w.heap.size w wr)) (fun iv _ => n - (intOf iv).toNat)
  case atStart => exact ⟨0, Nat.zero_le _, rfl, (fun j hj => by omega), Below.refl _ _⟩
  case round =>
    obtain ⟨k, hk, rfl, HA, HB⟩ := hrel
    by_cases hlt : k < n
    · have hkI : (k : Int) < (n : Int) := by omega
      obtain ⟨g, rfl, hg, hBk⟩ := (HV.out.below HB.out).head HL.out (by omega)
      obtain ⟨rao, rcap, c0, c1, _⟩ := hBk k hlt
      have cc := Lib.hid ((HB.out.cell (p := ⟨gc, 0, none⟩) hgc).trans HC.out)
      obtain ⟨bid, hbid⟩ : ∃ b, b = (Bn l k).id := ⟨_, rfl⟩
      rw [← hbid] at c0
      have HI := Lib.hid hbid
      clear hBk hbid
      go_wp2_with fail
      refine (find_lit bid _ _ _ gc id _ cc.out).mono ?_
      rintro e w1 ⟨rfl, hb⟩
      have HB1 := Lib.hid (HB.out.trans (hb.mono HB.out.size))
      clear hb c0 c1
      by_cases he : bid = id
      · have q : (bid == id) = true := by rw [he]; exact beq_self_eq_true id
        have AN := Lib.hid (show FirstAns (fun k => (Bn l k).id = id) n (k : Int) from .inl ⟨k, hlt, by show (Bn l k).id = id; rw [← HI.out]; exact he, HA.out, rfl⟩)
        clear he
        go_wp2
        go_ret
        exact ⟨⟨_, AN.out, rfl⟩, HB1.out⟩
      · have q : (bid == id) = false := beq_eq_false_iff_ne.2 he
        have HN := Lib.hid (show ∀ j, j < k + 1 → ¬ (Bn l j).id = id from fun j hj => by
          by_cases h : j < k
          · exact HA.out j h
          · obtain rfl : j = k := by omega
            rw [← HI.out]; exact he)
        clear he
        go_wp2
        go_roundw
        case rel => exact ⟨k + 1, by omega, by go_num, HN, HB1⟩
        case measure => simp [intOf]; omega
    · obtain rfl : k = n := by omega
      have hsd : decide ((k : Int) < (k : Int)) = false := decide_eq_false (by omega)
      go_wp2
      go_ret
      exact ⟨⟨-1, .inr ⟨HA.out, rfl⟩, rfl⟩, HB.out⟩

set_option maxRecDepth 8000 in
set_option maxHeartbeats 3200000 in
theorem impl_findB (ver id : Int) (ao : Option Addr) (n cap : Nat) (l : List Blk) (w : World) (hl : l.length = n) (hn : n ≤ 1048576) (hV : BlksVal w ao l) :
    Calls Try.prog 164 #[.agg #[.int .i64 ver, .slice ao n cap], .int .i64 id] w (FirstPost (fun k => (Bn l k).id = id) n w) := by
  have HV := Lib.hid hV
  have HL := Lib.hid hl
  clear hV hl
  go_enter Try.func164, Try.ntmps164
  go_wp2_with fail
  have K0 := (Kept.start w).alloc2 (.int .i64 ver) (.slice ao n cap) 32 _ rfl
  have b1 := (Below.refl w.heap.size w).alloc (Nat.le_refl _) (.cells #[.int .i64 ver, .slice ao n cap] 32)
  have b2 := b1.alloc b1.size (.cells #[.int .i64 id] 3)
  refine (idx_fn id (w.heap.size + 1) ao n cap l _ HL.out hn (HV.out.below b2) (by simp [World.cell?_alloc_at])).mono ?_
  rintro e w1 ⟨⟨v, hv, rfl⟩, hb⟩
  have AN := Lib.hid hv
  have HB := Lib.hid (b2.trans (hb.mono b2.size))
  clear hv hb
  go_wp2
  go_ret
  exact ⟨⟨_, AN.out, rfl⟩, HB.out⟩
end Go.Proofs.Ytcfcohnkkgickaa
