/-
  The walk over the model's l6Copy: a table of its own with the same blocks.
-/
import Derived.Test.YtcfcohnkkgickaaRows
import Derived.Test.YtcfcohnkkgickaaBkApp
import Derived.Test.YtcfcohnkkgickaaMgB
import Derived.Test.YtcfcohnkkgickaaAdSpec
namespace Go.Proofs.Ytcfcohnkkgickaa
open Go.RowKit Num

/-- The rows of block number k in block g, to be copied. -/
def BlkSrc (w : World) (g k : Nat) (b : Blk) : Prop :=
  ∃ rao rcap, w.cell? ⟨g, k * 2, none⟩ = some (.int .i64 b.id) ∧ w.cell? ⟨g, k * 2 + 1, none⟩ = some (.slice rao b.rows.length rcap) ∧ SrcR w (.slice rao b.rows.length rcap) b.rows
/-- A slice of blocks, to be copied. -/
def BlksSrc (w : World) (ao : Option Addr) (l : List Blk) : Prop := l.length = 0 ∨ ∃ g, ao = some ⟨g, 0, none⟩ ∧ g < w.heap.size ∧ ∀ k, k < l.length → BlkSrc w g k (Bn l k)
theorem BlkSrc.keep {w w' : World} {g k : Nat} {b : Blk} (h : BlkSrc w g k b) (hb : Below w.heap.size w w') (hg : g < w.heap.size) : BlkSrc w' g k b := by
  obtain ⟨rao, rcap, h0, h1, h2⟩ := h
  exact ⟨rao, rcap, by rw [hb.cell (p := ⟨g, k * 2, none⟩) hg]; exact h0, by rw [hb.cell (p := ⟨g, k * 2 + 1, none⟩) hg]; exact h1, h2.keep hb⟩
theorem BlksSrc.keep {w w' : World} {ao : Option Addr} {l : List Blk} (h : BlksSrc w ao l) (hb : Below w.heap.size w w') : BlksSrc w' ao l := by
  rcases h with h | ⟨g, e, hg, h⟩
  · exact .inl h
  · exact .inr ⟨g, e, Nat.lt_of_lt_of_le hg hb.size, fun k hk => (h k hk).keep hb hg⟩
theorem BlksSrc.rep {w : World} {ao : Option Addr} {n cap : Nat} {l : List Blk} {fp : List Nat} (h : SliceRep blkTy w (.slice ao n cap) l fp) : BlksSrc w ao l := by
  rcases h with ⟨rfl, _, _⟩ | ⟨g, cap, f, e, hc, ho, he, _⟩
  · exact .inl rfl
  · simp only [Value.slice.injEq] at e
    refine .inr ⟨g, e.1, ho.1, fun k hk => ?_⟩
    rw [Bn_at hk]
    obtain ⟨cs, f', hcs, ⟨v, rfl, hr⟩, _⟩ := he.get k hk
    have hs := SrcR.rep hr
    obtain ⟨rao, rcap, rfl⟩ := hr.val
    rw [Nat.zero_add] at hcs
    exact ⟨rao, rcap, hcs 0 (by simp), hcs 1 (by simp), hs⟩

/-- What a copy of a table leaves. -/
def TblCopy (ver : Int) (l : List Blk) (w : World) (e : Ending) (w' : World) : Prop :=
  ∃ v f, e = .returned (.agg #[.int .i64 ver, v]) ∧ OwnB w' w.heap.size v l f ∧ Below w.heap.size w w'
theorem OwnB.mono {w : World} {B B' : Nat} {v : Value} {l : List Blk} {f : List Nat} (h : OwnB w B v l f) (hb : B' ≤ B) : OwnB w B' v l f := by
  obtain ⟨vs, h1, h2, h3, h4⟩ := h
  exact ⟨vs, World.ownsRow.mono h1 hb, h2, fun k hk => Nat.le_trans hb (h3 k hk), h4⟩

theorem take_bn {l : List Blk} {k : Nat} (hk : k < l.length) : l.take k ++ [(⟨(Bn l k).id, (Bn l k).rows⟩ : Blk)] = l.take (k + 1) := by
  rw [show (⟨(Bn l k).id, (Bn l k).rows⟩ : Blk) = Bn l k from rfl, Bn_at hk, List.take_append_getElem hk]

set_option maxRecDepth 8000 in
set_option maxHeartbeats 6400000 in
theorem spec_tcopy (ver : Int) (ao0 : Option Addr) (n0 cap0 : Nat) (l : List Blk) (w : World) (hl : l.length = n0) (hn : n0 ≤ 1048576) (hr : ∀ k, k < n0 → (Bn l k).rows.length ≤ 1048576) (hS : BlksSrc w ao0 l) :
    Calls Try.prog 75 #[.agg #[.int .i64 ver, .slice ao0 n0 cap0]] w (TblCopy ver l w) := by
  have HS := Lib.hid hS
  have HR := Lib.hid hr
  have HL := Lib.hid hl
  have hnI : (n0 : Int) ≤ 1048576 := by omega
  clear hS hr hl
  go_enter Try.func75, Try.ntmps75
  have K0 := (((Kept.start w).alloc2 (.int .i64 ver) (.slice ao0 n0 cap0) 32 _ rfl).alloc2 (.int .i64 0) (.slice none 0 0) 32 (w.heap.size + 1) (by simp)).alloc2 (.int .i64 ver) (.slice none 0 0) 32 (w.heap.size + 1 + 1) (by simp)
  have HKS := Lib.hid (KB.start0 (B := w.heap.size + 1 + 1 + 1) K0)
  have a0 := K0.get 4 rfl
  go_wp2_with fail
  go_loopw [4] (fun iv wr => ∃ (k : Nat) (ao : Option Addr) (c : Nat) (f : List Nat), iv = .int .i64 (k : Int) ∧ k ≤ n0 ∧ Hid (KB w wr (w.heap.size + 1 + 1 + 1) [(⟨w.heap.size + 1 + 1, 0, none⟩, .int .i64 ver), (⟨w.heap.size + 1 + 1, 1, none⟩, .slice ao k c), (⟨w.heap.size + 1, 0, none⟩, .int .i64 0), (⟨w.heap.size + 1, 1, none⟩, .slice none 0 0), (⟨w.heap.size, 0, none⟩, .int .i64 ver), (⟨w.heap.size, 1, none⟩, .slice ao0 n0 cap0)] (.slice ao k c) (l.take k) f)) (fun iv _ => n0 - (intOf iv).toNat)
  case atStart => exact ⟨0, none, 0, [], rfl, Nat.zero_le _, HKS.out⟩
  case round =>
    obtain ⟨k, ao, c, f, rfl, hk, HK⟩ := hrel
    have a0 := HK.out.1.get 4 rfl
    have a1 := HK.out.1.get 5 rfl
    have hkI : (k : Int) ≤ 1048576 := by omega
    by_cases hlt : k < n0
    · have hltI : (k : Int) < (n0 : Int) := by omega
      have hS2 := HS.out.keep HK.out.1.1
      have hne : l.length ≠ 0 := by rw [HL.out]; omega
      obtain ⟨g, rfl, hg, hb9⟩ := hS2.resolve_left hne
      obtain ⟨rao, rcap, c0, c1, hsr⟩ := hb9 k (by rw [HL.out]; exact hlt)
      have hrk := HR.out k hlt
      obtain ⟨id, hid⟩ : ∃ id, id = (Bn l k).id := ⟨_, rfl⟩
      obtain ⟨rl, hrl⟩ : ∃ rl, rl = (Bn l k).rows := ⟨_, rfl⟩
      obtain ⟨m, hm⟩ : ∃ m, m = rl.length := ⟨_, rfl⟩
      rw [← hid] at c0
      rw [← hrl] at c1 hsr hrk
      rw [← hm] at c1
      have PR := Lib.hid (fun w hs => spec_copy id rao rcap rl w hrk hs)
      have HSR := Lib.hid hsr
      rw [← hm] at PR HSR
      have HID := Lib.hid hid
      have HRL := Lib.hid hrl
      have HM := Lib.hid hm
      clear hS2 hne hb9 hsr hrk hid hrl hm
      go_wp2_with fail
      refine (PR.out _ HSR.out).mono ?_
      rintro e w5 ⟨vv, fb, rfl, hs, hf, hnd, hb⟩
      have K5 := Lib.hid (HK.out.step hb)
      have hOl := HK.out.2.1.lt
      have hBw : w.heap.size + 1 + 1 + 1 ≤ wr.heap.size := by have := HK.out.1.lt 0 rfl; have h9 : w.heap.size + 1 + 1 < wr.heap.size := this; omega
      have HD1 := Lib.hid (show ∀ j ∈ fb, j ∉ f from fun j hj e => by have h1 := hf j hj; have h2 := hOl.2 j e; omega)
      have HD2 := Lib.hid (show ∀ j ∈ fb, (Value.slice ao k c).ownBlock ≠ some j from fun j hj e => by have h1 := hf j hj; have h2 := (hOl.1 j e).2; omega)
      have HD3 := Lib.hid (show ∀ j ∈ fb, w.heap.size + 1 + 1 + 1 ≤ j from fun j hj => Nat.le_trans hBw (hf j hj))
      have HD4 := Lib.hid (show ∀ p ∈ [((⟨w.heap.size + 1 + 1, 0, none⟩ : Addr), Value.int .i64 ver), (⟨w.heap.size + 1 + 1, 1, none⟩, .slice ao k c), (⟨w.heap.size + 1, 0, none⟩, .int .i64 0), (⟨w.heap.size + 1, 1, none⟩, .slice none 0 0), (⟨w.heap.size, 0, none⟩, .int .i64 ver), (⟨w.heap.size, 1, none⟩, .slice (some ⟨g, 0, none⟩) n0 cap0)], p.1.block ∉ fb from fun p hp e => by
        have h1 := hf _ e
        have h2 := (HK.out.1.2 p hp).1
        omega)
      obtain ⟨ro, rc, rfl⟩ := hs.val
      have HS5 := Lib.hid hs
      rw [← HM.out] at HS5
      rw [← HM.out]
      have KA := K5.out.alloc2 (.int .i64 id) (.slice ro m rc) 80 w5.heap.size rfl
      have KBB := Lib.hid (KA.alloc2 (.int .i64 id) (.slice ro m rc) 80 (w5.heap.size + 1) (by simp))
      have hw5 : ∀ j ∈ fb, j < w5.heap.size := hs.lt
      have HD5 := Lib.hid (show ∀ p ∈ (⟨w5.heap.size + 1, 0, none⟩, Value.int .i64 id) :: (⟨w5.heap.size + 1, 1, none⟩, Value.slice ro m rc) :: (⟨w5.heap.size, 0, none⟩, Value.int .i64 id) :: (⟨w5.heap.size, 1, none⟩, Value.slice ro m rc) :: [((⟨w.heap.size + 1 + 1, 0, none⟩ : Addr), Value.int .i64 ver), (⟨w.heap.size + 1 + 1, 1, none⟩, .slice ao k c), (⟨w.heap.size + 1, 0, none⟩, .int .i64 0), (⟨w.heap.size + 1, 1, none⟩, .slice none 0 0), (⟨w.heap.size, 0, none⟩, .int .i64 ver), (⟨w.heap.size, 1, none⟩, .slice (some ⟨g, 0, none⟩) n0 cap0)], p.1.block ∉ fb from fun p hp e => by
        have h1 := hw5 _ e
        simp only [List.mem_cons] at hp
        rcases hp with rfl | rfl | rfl | rfl | hp
        · simp only at h1; omega
        · simp only at h1; omega
        · simp only at h1; omega
        · simp only at h1; omega
        · exact HD4.out p (by simpa only [List.mem_cons] using hp) e)
      have HS2 := Lib.hid (HS5.out.step (((Below.refl w5.heap.size w5).alloc (Nat.le_refl _) (.cells #[.int .i64 id, .slice ro m rc] 80)).alloc (by simp) (.cells #[.int .i64 id, .slice ro m rc] 80)))
      have N0 := Lib.hid (KBB.out.1.get 0 rfl)
      have N1 := Lib.hid (KBB.out.1.get 1 rfl)
      have b1 := KA.1.get 3 rfl
      have x0 := KA.1.get 0 rfl
      have x1 := KA.1.get 1 rfl
      have hlk : Hid ((l.take k).length = k) := (show (l.take k).length = k from by rw [List.length_take, HL.out]; omega)
      clear hb KA hs hf hOl hw5 HS5 c0 c1 a0 a1
      go_wp2_with (first | (at_builtin; refine wpList_append_kb (W := w) rfl _ _ rfl (w.heap.size + 1 + 1 + 1) (.slice ao k c) _ (l.take k) f ⟨id, rl⟩ ro m rc fb (w5.heap.size + 1) 1 rfl rfl KBB.out N0.out N1.out HS2.out HD3.out hnd HD1.out HD2.out HD5.out ?_ ?_ ?_ ?_; (· rw [hlk.out]; omega); (· omega); (· simp only [World.size_alloc]; have := K5.out.1.lt 0 rfl; have h9 : w.heap.size + 1 + 1 < w5.heap.size := this; omega); intro v' w6 KB6; obtain ⟨ao', c', hv'⟩ := KB6.2.1.shape; rw [List.length_append, hlk.out, List.length_singleton] at hv'; subst hv'; have y1 := KB6.1.get 5 rfl; have f1 := KB6.1.fz 5 rfl))
      have KO7 := KB.set (p := [(⟨w.heap.size + 1 + 1, 0, none⟩, .int .i64 ver)]) (KB6.sub (L' := [(⟨w.heap.size + 1 + 1, 0, none⟩, .int .i64 ver), (⟨w.heap.size + 1 + 1, 1, none⟩, .slice ao k c), (⟨w.heap.size + 1, 0, none⟩, .int .i64 0), (⟨w.heap.size + 1, 1, none⟩, .slice none 0 0), (⟨w.heap.size, 0, none⟩, .int .i64 ver), (⟨w.heap.size, 1, none⟩, .slice (some ⟨g, 0, none⟩) n0 cap0)]) (by intro p9 hp9; simp only [List.mem_cons, List.not_mem_nil, or_false] at hp9; rcases hp9 with rfl | rfl | rfl | rfl | rfl | rfl <;> simp)) (.slice ao' (k + 1) c') (by simp only; omega) (Nat.lt_succ_self _) (by simp only [List.cons_append, List.nil_append, List.mem_cons, List.not_mem_nil, or_false]; rintro c9 (rfl | rfl | rfl | rfl | rfl) <;> simp)
      rw [HID.out, HRL.out, take_bn (by rw [HL.out]; exact hlt)] at KO7
      have HK7 := Lib.hid KO7
      clear KO7 KB6 b1 x0 x1 y1 f1
      go_wp2
      go_roundw
      case rel => exact ⟨k + 1, ao', c', f ++ fb, int_eq (by omega), by omega, HK7⟩
      case measure => simp [intOf]; omega
    · obtain rfl : k = n0 := by omega
      have hown := HK.out.2.1
      rw [show l.take k = l from by rw [← HL.out, List.take_length]] at hown
      have b0 := HK.out.1.get 0 rfl
      have b1 := HK.out.1.get 1 rfl
      have K6 := HK.out.1
      have r0 := K6.get 2 rfl
      have r1 := K6.get 3 rfl
      have q0 := K6.fz 2 rfl
      have q1 := K6.fz 3 rfl
      have K7 := (K6.sub (l' := [(⟨w.heap.size + 1, 0, none⟩, .int .i64 0), (⟨w.heap.size + 1, 1, none⟩, .slice none 0 0)]) (by intro p9 hp9; simp only [List.mem_cons, List.not_mem_nil, or_false] at hp9; rcases hp9 with rfl | rfl <;> simp)).set2 (.int .i64 ver) (.slice ao k c) (Nat.le_succ _) (by simp)
      have R6 := Lib.hid (((hown.setb (a := ⟨w.heap.size + 1, 0, none⟩) (by simp only; omega) (.int .i64 ver)).setb (a := ⟨w.heap.size + 1, 1, none⟩) (by simp only; omega) (.slice ao k c)).mono (B' := w.heap.size) (by omega))
      have m0 := K7.get 0 rfl
      have m1 := K7.get 1 rfl
      have yy := K7.lt 0 rfl
      have HK7 := Lib.hid K7.1
      clear K7 K6 hown
      go_wp2
      exact bodyPost_ret (v := .agg #[.int .i64 ver, .slice ao k c]) (by simp [results, Try.results75, go_sem, m0, m1, yy]) rfl ⟨_, f, rfl, R6.out, HK7.out⟩
end Go.Proofs.Ytcfcohnkkgickaa
