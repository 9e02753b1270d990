/-
  The walk over the model's l7Append.
-/
import Derived.Test.YtcfcohnkkgickaaRows
import Derived.Test.YtcfcohnkkgickaaCpSpec
import Derived.Test.YtcfcohnkkgickaaAdrNil
import Derived.Test.YtcfcohnkkgickaaMgB
import Derived.Deep.QuietTactic
namespace Go.Proofs.Ytcfcohnkkgickaa
open Go.RowKit Num

/-- AddRow over rows as a call owns them: nil, or a head. -/
theorem spec_addV (id : Int) (v : Value) (l : List Rw) (fp : List Nat) (r : Rw) (w : World) (hn : l.length ≤ 1048576) (hs : SliceRep rowTy w v l fp) :
    Calls Try.prog 129 #[.agg #[.int .i64 id, v], .agg #[.int .i64 r.i, .int .i64 r.g, .int .i64 r.y, .int .i64 r.x, .bool r.nl]] w (BlkRes id (addAns id l r) (addOk id l r) w) := by
  have h0 := hs
  rcases hs with ⟨rfl, _, rfl | ⟨g, cap, rfl⟩⟩ | ⟨g, cap, f, rfl, hc, ho, he, _⟩
  · exact spec_add0 id r w
  · exact spec_add id g cap [] r w hn (Nat.zero_le _) (.inl rfl)
  · obtain ⟨ao, cap', e, _, hV⟩ := rows_open h0
    simp only [Value.slice.injEq, true_and] at e
    obtain ⟨rfl, rfl⟩ := e
    exact spec_add id g cap l r w hn hc hV

/-- What appending a row leaves: the blocks, the code. -/
noncomputable def appC (l : List Blk) (b : Int) (r : Rw) : List Blk × Int :=
  open Classical in
  if iRow l r.i < l.length then (l, 2)
  else if iBlk l b < l.length then
    if (Bn l (iBlk l b)).rows.length < 6 then (l.set (iBlk l b) ⟨b, addL (Bn l (iBlk l b)).rows r⟩, 0) else (l, 4)
  else if 0 < l.length ∧ b < (Bn l (l.length - 1)).id then (l, 3)
  else if l.length = 6 then (l, 4)
  else (l ++ [⟨b, [r]⟩], 0)

/-- The blocks of memory of an own slice of blocks. -/
def ownF (v : Value) (f : List Nat) : List Nat := match v.ownBlock with | some g => g :: f | none => f

/-- What l7Append leaves. -/
def AppPost (ver : Int) (l : List Blk) (b : Int) (r : Rw) (F : List Nat) (w : World) (e : Ending) (w' : World) : Prop :=
  ∃ v fp, e = .returned (.tuple #[.agg #[.int .i64 ver, v], .int .i64 (appC l b r).2]) ∧ SliceRep blkTy w' v (appC l b r).1 fp ∧ fp.Nodup ∧ (∀ k ∈ fp, k ∈ F ∨ w.heap.size ≤ k) ∧ Chg F w w'

theorem ownB_F {w : World} {B : Nat} {v : Value} {l : List Blk} {f : List Nat} (h : OwnB w B v l f) : ∃ fp, SliceRep blkTy w v l fp ∧ fp.Nodup ∧ ∀ k ∈ fp, k ∈ ownF v f := by
  obtain ⟨vs, h1, h2, h3, h4, h5⟩ := h
  by_cases hn : l.length = 0
  · have hl := List.eq_nil_of_length_eq_zero hn
    subst hl
    rcases h1.2 with ⟨rfl, _⟩ | ⟨g, cap, cur, rfl, _⟩
    · exact ⟨[], .inl ⟨rfl, rfl, .inl rfl⟩, List.nodup_nil, fun k hk => by cases hk⟩
    · exact ⟨[], .inl ⟨rfl, rfl, .inr ⟨_, cap, rfl⟩⟩, List.nodup_nil, fun k hk => by cases hk⟩
  · have h0 := h1
    rcases h1.2 with ⟨_, h9⟩ | ⟨g, cap, cur, rfl, hb, hg, hc, _, _, _⟩
    · exact absurd h9 hn
    · have hgl := (World.ownsRow.lt h0 g rfl).2
      refine ⟨g :: f, .inr ⟨g, cap, f, rfl, hc, ⟨hgl, fun j hj => ⟨?_, World.ownsRow.frozenAt h0 j⟩⟩, elems_of h2 (fun j hj => ?_), rfl⟩, List.nodup_cons.2 ⟨fun e => h5 g e rfl, h4⟩, fun k hk => hk⟩
      · rw [World.ownsRow.cellAt h0 j hj]
        exact ⟨_, List.getElem?_eq_getElem (by rw [kcells_len h2.len]; exact hj)⟩
      · rw [Nat.zero_mul, Nat.zero_add]
        exact World.ownsRow.cellAt h0 j hj
theorem ownF_lt {w : World} {B : Nat} {v : Value} {l : List Blk} {f : List Nat} (h : OwnB w B v l f) : ∀ k ∈ ownF v f, B ≤ k ∧ k < w.heap.size := by
  have h1 := h.lt
  obtain ⟨vs, _, _, h3, _⟩ := h
  intro k hk
  unfold ownF at hk
  cases hv : v.ownBlock with
  | none => rw [hv] at hk; exact ⟨h3 k hk, h1.2 k hk⟩
  | some g =>
    rw [hv] at hk
    rcases List.mem_cons.1 hk with rfl | hk
    · exact h1.1 k hv
    · exact ⟨h3 k hk, h1.2 k hk⟩

theorem bn_rows {ver : Int} {l : List Blk} (h : TblOk ver l l.length) : ∀ k, k < l.length → (Bn l k).rows.length ≤ 6 := fun k hk => (blkL_of (show blkL (Bn l k).id (Bn l k).rows = true from h.2.2.1.1 k hk)).2.2

set_option maxRecDepth 8000 in
set_option maxHeartbeats 6400000 in
/-- The row's ID stands in the table. -/
theorem spec_app_taken (ver : Int) (ao : Option Addr) (n cap : Nat) (l : List Blk) (b i g y x : Int) (nl : Bool) (B : Nat) (f : List Nat) (w : World) (hn : l.length = n) (hT : TblOk ver l l.length) (hC : ChOk ⟨1, b, ⟨i, g, y, x, nl⟩⟩) (hO : OwnB w B (.slice ao n cap) l f) (hA : iRow l i < l.length) :
    Calls Try.prog 79 #[.agg #[.int .i64 ver, .slice ao n cap], .agg #[.int .i64 1, .int .i64 b, .int .i64 i, .int .i64 g, .int .i64 y, .int .i64 x, .bool nl]] w (AppPost ver l b ⟨i, g, y, x, nl⟩ (ownF (.slice ao n cap) f) w) := by
  have hn6 : l.length ≤ 6 := hT.2.1
  obtain ⟨fp, hS, hnd, hF⟩ := ownB_F hO
  obtain ⟨ao', cap', e9, hcap, hV⟩ := blks_open hS
  simp only [Value.slice.injEq] at e9
  obtain ⟨rfl, h9, rfl⟩ := e9
  clear h9
  have hr := bn_rows hT
  have HV := Lib.hid hV
  have HO := Lib.hid hO
  have HT := Lib.hid hT
  have HC := Lib.hid (hC.one rfl)
  have HS := Lib.hid hS
  have HF := Lib.hid hF
  have BR := Lib.hid (fun w hV => spec_bor ver i ao n cap l w hn (by omega) (fun k hk => by have := hr k (by omega); omega) hV)
  have FB := Lib.hid (fun w hV => spec_findB ver b ao n cap l w hn (by omega) hV)
  have hnI : (n : Int) ≤ 6 := by omega
  have HN := Lib.hid hn
  have HA := Lib.hid hA
  clear hV hO hT hC hS hF hr hn hA
  go_enter Try.func79, Try.ntmps79
  have K0 := (((Kept.start w).alloc2 (.int .i64 ver) (.slice ao n cap) 32 _ rfl).alloc7 (.int .i64 1) (.int .i64 b) (.int .i64 i) (.int .i64 g) (.int .i64 y) (.int .i64 x) (.bool nl) 38 (w.heap.size + 1) (by simp)).alloc2 (.int .i64 0) (.slice none 0 0) 32 (w.heap.size + 1 + 1) (by simp)
  go_wp2_with fail
  refine (BR.out _ (HV.out.below K0.1)).mono ?_
  rintro e w1 ⟨⟨vb, hvb, rfl⟩, hb⟩
  have K1 := K0.step hb
  have EB := Lib.hid (firstAns_idx (p := fun b : Blk => HasRow b.rows i) (l := l) (by rw [HN.out]; exact hvb))
  have hv1 : -1 ≤ vb ∧ vb < 6 := by rcases hvb with ⟨k, hk, _, _, rfl⟩ | ⟨_, rfl⟩ <;> omega
  obtain ⟨hv1, hv2⟩ := hv1
  clear hb hvb K0
  have t0 := K1.get 9 rfl
  have t1 := K1.get 10 rfl
  have q0 := K1.fz 0 rfl
  have q1 := K1.fz 1 rfl
  have r0 := K1.get 0 rfl
  have r1 := K1.get 1 rfl
  by_cases hb0 : 0 ≤ vb
  · have hd : decide (0 ≤ vb) = true := decide_eq_true hb0
    have AN := Lib.hid (show appC l b ⟨i, g, y, x, nl⟩ = (l, 2) by
      unfold appC
      rw [if_pos]
      have h := EB.out
      unfold idxI at h
      by_cases hlt : fIdx (fun b : Blk => HasRow b.rows i) l < l.length
      · exact hlt
      · rw [if_neg hlt] at h; omega)
    have yy := K1.lt 0 rfl
    have K2 := (K1.sub (l' := [(⟨w.heap.size + 1 + 1, 0, none⟩, .int .i64 0), (⟨w.heap.size + 1 + 1, 1, none⟩, .slice none 0 0)]) (by intro p9 hp9; simp only [List.mem_cons, List.not_mem_nil, or_false] at hp9; rcases hp9 with rfl | rfl <;> simp)).set2 (.int .i64 ver) (.slice ao n cap) (by omega) (by simp)
    have m0 := K2.get 0 rfl
    have m1 := K2.get 1 rfl
    have HB := Lib.hid K2.1
    have HS2 := Lib.hid (HS.out.step K2.1)
    clear K2
    go_wp2
    exact bodyPost_ret (v := .tuple #[.agg #[.int .i64 ver, .slice ao n cap], .int .i64 2]) (by simp [results, Try.results79, go_sem, m0, m1, yy]) rfl ⟨_, fp, by rw [AN.out], by rw [AN.out]; exact HS2.out, hnd, fun k hk => .inl (HF.out k hk), Chg.of HB.out⟩
  · exfalso
    have h := EB.out
    unfold idxI at h
    rw [if_pos (show fIdx (fun b : Blk => HasRow b.rows i) l < l.length from HA.out)] at h
    omega
end Go.Proofs.Ytcfcohnkkgickaa
