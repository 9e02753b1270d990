/-
  The walk over the project's copy of a table.
-/
import Derived.Test.YtcfcohnkkgickaaRows
import Derived.Test.YtcfcohnkkgickaaCpSpec
import Derived.Test.YtcfcohnkkgickaaWoImpl
namespace Go.Proofs.Ytcfcohnkkgickaa
open Go.RowKit Num

theorem ownB_made {w w1 : World} {n : Nat} (hown : w1.ownsRow w.heap.size 80 2 (.slice (some ⟨w.heap.size, 0, none⟩) 0 n) 0 []) : OwnB w1 w.heap.size (.slice (some ⟨w.heap.size, 0, none⟩) 0 n) [] [] :=
  ⟨[], hown, rfl, (fun k hk => by cases hk), List.nodup_nil, fun k hk => by cases hk⟩

set_option maxRecDepth 8000 in
set_option maxHeartbeats 6400000 in
theorem impl_tcopy (ver : Int) (ao0 : Option Addr) (n0 cap0 : Nat) (l : List Blk) (w : World) (hl : l.length = n0) (hn : n0 ≤ 1048576) (hr : ∀ k, k < n0 → (Bn l k).rows.length ≤ 1048576) (hS : BlksSrc w ao0 l) :
    Calls Try.prog 84 #[.agg #[.int .i64 ver, .slice ao0 n0 cap0]] w (TblCopy ver l w) := by
  have HS := Lib.hid hS
  have HR := Lib.hid hr
  have HL := Lib.hid hl
  have hnI : (n0 : Int) ≤ 1048576 := by omega
  obtain ⟨i0, hi, hx⟩ := Option.map_eq_some_iff.1 Try.infoBlk
  simp only [Prod.mk.injEq] at hx
  obtain ⟨hz0, hz1, hz2⟩ := hx
  clear hS hr hl
  go_enter Try.func84, Try.ntmps84
  go_upto_region 1 with fail
  have K0 := ((Kept.start w).alloc2 (.int .i64 ver) (.slice ao0 n0 cap0) 32 _ rfl).alloc2 (.int .i64 0) (.slice none 0 0) 32 (w.heap.size + 1) (by simp)
  generalize ((w.alloc (.cells #[.int .i64 ver, .slice ao0 n0 cap0] 32)).alloc (.cells #[.int .i64 0, .slice none 0 0] 32)) = W2 at K0 ⊢
  have z2 : w.heap.size + 1 < W2.heap.size := K0.lt 0 rfl
  have a3 := K0.get 3 rfl
  go_wp2_with (first | (at_make; refine wpList_make_own _ rfl _ _ _ rfl W2.heap.size 80 i0 _ 2 (by kernel_rfl) hi hz0 hz1 .i64 .i64 _ n0 rfl rfl rfl (by rw [hz2]; omega) (by unfold maxLen; omega) (Nat.le_refl _) ?_; intro w1 hown hgr; have K1 := K0.step ((Below.refl W2.heap.size W2).grown hgr (Nat.le_refl _) (by intro k hk; cases hk)); have b3 := K1.get 3 rfl; have HO1 := Lib.hid (ownB_made (n := n0) hown); have HK1 := Lib.hid K1; have zz1 : W2.heap.size ≤ w1.heap.size := hgr.size; clear hown hgr K1))
  have HKB := Lib.hid (show KB w w1 W2.heap.size _ (.slice (some ⟨W2.heap.size, 0, none⟩) 0 n0) [] [] from ⟨HK1.out, HO1.out, fun p hp => ⟨fun e => by have h1 := (K0.2 p hp).1; simp only [Value.ownBlock, Option.some.injEq] at e; omega, fun e => by cases e⟩⟩)
  clear hi hz0 hz1 hz2 a3 b3 K0
  go_loopw [3, 13] (fun sv iv wr => ∃ (k : Nat) (ao : Option Addr) (c : Nat) (f : List Nat), sv = .slice ao k c ∧ iv = .int .i64 (k : Int) ∧ k ≤ n0 ∧ W2.heap.size ≤ wr.heap.size ∧ Hid (KB w wr W2.heap.size [(⟨w.heap.size + 1, 0, none⟩, .int .i64 0), (⟨w.heap.size + 1, 1, none⟩, .slice none 0 0), (⟨w.heap.size, 0, none⟩, .int .i64 ver), (⟨w.heap.size, 1, none⟩, .slice ao0 n0 cap0)] (.slice ao k c) (l.take k) f)) (fun _ iv _ => n0 - (intOf iv).toNat)
  case atStart => exact ⟨0, _, _, [], rfl, rfl, Nat.zero_le _, zz1, HKB.out⟩
  case round =>
    obtain ⟨k, ao, c, f, rfl, rfl, hk, zw, HK⟩ := hrel
    clear HKB HK1 HO1
    have hkI : (k : Int) ≤ 1048576 := by omega
    by_cases hlt : k < n0
    · have hltI : (k : Int) < (n0 : Int) := by omega
      have hS2 := HS.out.keep HK.out.1.1
      have hne : l.length ≠ 0 := by rw [HL.out]; omega
      obtain ⟨g, rfl, hg, hb9⟩ := hS2.resolve_left hne
      obtain ⟨rao, rcap, c0, c1, hsr⟩ := hb9 k (by rw [HL.out]; exact hlt)
      have hrk := HR.out k hlt
      obtain ⟨id, hid⟩ : ∃ id, id = (Bn l k).id := ⟨_, rfl⟩
      obtain ⟨rl, hrl⟩ : ∃ rl, rl = (Bn l k).rows := ⟨_, rfl⟩
      obtain ⟨m, hm⟩ : ∃ m, m = rl.length := ⟨_, rfl⟩
      rw [← hid] at c0
      rw [← hrl] at c1 hsr hrk
      rw [← hm] at c1
      have PR := Lib.hid (fun w hs => impl_bc id rao rcap rl w hrk hs)
      have KX := Lib.hid (HK.out.alloc2 (.int .i64 id) (.slice rao m rcap) 80 wr.heap.size rfl)
      have HSR := Lib.hid (hsr.keep ((Below.refl wr.heap.size wr).alloc (Nat.le_refl _) (.cells #[.int .i64 id, .slice rao m rcap] 80)))
      rw [← hm] at PR HSR
      have HID := Lib.hid hid
      have HRL := Lib.hid hrl
      have HM := Lib.hid hm
      clear hS2 hne hb9 hsr hrk hid hrl hm
      go_wp2_with fail
      refine (PR.out _ HSR.out).mono ?_
      rintro e w5 ⟨vv, fb, rfl, hs, hf, hnd, hb⟩
      have K5 := Lib.hid (KX.out.step hb)
      have hOl := KX.out.2.1.lt
      have zb := hb.size
      have HD1 := Lib.hid (show ∀ j ∈ fb, j ∉ f from fun j hj e => by have h1 := hf j hj; have h2 := hOl.2 j e; omega)
      have HD2 := Lib.hid (show ∀ j ∈ fb, (Value.slice ao k c).ownBlock ≠ some j from fun j hj e => by have h1 := hf j hj; have h2 := (hOl.1 j e).2; omega)
      have HD3 := Lib.hid (show ∀ j ∈ fb, W2.heap.size ≤ j from fun j hj => by have h1 := hf j hj; simp only [World.size_alloc] at h1; omega)
      have HD4 := Lib.hid (show ∀ p ∈ [((⟨wr.heap.size, 0, none⟩ : Addr), Value.int .i64 id), (⟨wr.heap.size, 1, none⟩, .slice rao m rcap), (⟨w.heap.size + 1, 0, none⟩, .int .i64 0), (⟨w.heap.size + 1, 1, none⟩, .slice none 0 0), (⟨w.heap.size, 0, none⟩, .int .i64 ver), (⟨w.heap.size, 1, none⟩, .slice (some ⟨g, 0, none⟩) n0 cap0)], p.1.block ∉ fb from fun p hp e => by
        have h1 := hf _ e
        have h2 := (KX.out.1.2 p hp).1
        omega)
      obtain ⟨ro, rc, rfl⟩ := hs.val
      have HS5 := Lib.hid hs
      rw [← HM.out] at HS5
      rw [← HM.out]
      have KBB := Lib.hid (K5.out.alloc2 (.int .i64 id) (.slice ro m rc) 80 w5.heap.size rfl)
      have hw5 : ∀ j ∈ fb, j < w5.heap.size := hs.lt
      have HD5 := Lib.hid (show ∀ p ∈ (⟨w5.heap.size, 0, none⟩, Value.int .i64 id) :: (⟨w5.heap.size, 1, none⟩, Value.slice ro m rc) :: [((⟨wr.heap.size, 0, none⟩ : Addr), Value.int .i64 id), (⟨wr.heap.size, 1, none⟩, .slice rao m rcap), (⟨w.heap.size + 1, 0, none⟩, .int .i64 0), (⟨w.heap.size + 1, 1, none⟩, .slice none 0 0), (⟨w.heap.size, 0, none⟩, .int .i64 ver), (⟨w.heap.size, 1, none⟩, .slice (some ⟨g, 0, none⟩) n0 cap0)], p.1.block ∉ fb from fun p hp e => by
        have h1 := hw5 _ e
        simp only [List.mem_cons] at hp
        rcases hp with rfl | rfl | hp
        · simp only at h1; omega
        · simp only at h1; omega
        · exact HD4.out p (by simpa only [List.mem_cons] using hp) e)
      have HS2 := Lib.hid (HS5.out.step ((Below.refl w5.heap.size w5).alloc (Nat.le_refl _) (.cells #[.int .i64 id, .slice ro m rc] 80)))
      have N0 := Lib.hid (KBB.out.1.get 0 rfl)
      have N1 := Lib.hid (KBB.out.1.get 1 rfl)
      have hlk : Hid ((l.take k).length = k) := (show (l.take k).length = k from by rw [List.length_take, HL.out]; omega)
      have zw5 : W2.heap.size ≤ w5.heap.size := by simp only [World.size_alloc] at zb; omega
      clear hb hs hf hOl hw5 HS5 c0 c1 zb
      go_wp2_with (first | (at_builtin; refine wpList_append_kb (W := w) rfl _ _ rfl W2.heap.size (.slice ao k c) _ (l.take k) f ⟨id, rl⟩ ro m rc fb w5.heap.size 1 rfl rfl KBB.out N0.out N1.out HS2.out HD3.out hnd HD1.out HD2.out HD5.out ?_ ?_ ?_ ?_; (· rw [hlk.out]; omega); (· omega); (· simp only [World.size_alloc]; omega); intro v' w6 KB6; obtain ⟨ao', c', hv'⟩ := KB6.2.1.shape; rw [List.length_append, hlk.out, List.length_singleton] at hv'; subst hv'))
      have zw6 : W2.heap.size ≤ w6.heap.size := by
        have h1 := KB6.1.lt 0 rfl
        have h9 : w5.heap.size < w6.heap.size := h1
        omega
      have KO7 := KB6.sub (L' := [(⟨w.heap.size + 1, 0, none⟩, .int .i64 0), (⟨w.heap.size + 1, 1, none⟩, .slice none 0 0), (⟨w.heap.size, 0, none⟩, .int .i64 ver), (⟨w.heap.size, 1, none⟩, .slice (some ⟨g, 0, none⟩) n0 cap0)]) (by intro p9 hp9; simp only [List.mem_cons, List.not_mem_nil, or_false] at hp9; rcases hp9 with rfl | rfl | rfl | rfl <;> simp)
      rw [HID.out, HRL.out, take_bn (by rw [HL.out]; exact hlt)] at KO7
      have HK7 := Lib.hid KO7
      clear KO7 KB6
      go_wp2
      go_roundw
      case rel => exact ⟨k + 1, ao', c', f ++ fb, by simp, int_eq (by omega), by omega, zw6, HK7⟩
      case measure => simp [intOf]; omega
    · obtain rfl : k = n0 := by omega
      have hsd : decide ((k : Int) < (k : Int)) = false := decide_eq_false (by omega)
      have hown := HK.out.2.1
      rw [show l.take k = l from by rw [← HL.out, List.take_length]] at hown
      have K6 := HK.out.1
      have b0 := K6.get 2 rfl
      have b1 := K6.get 3 rfl
      have r0 := K6.get 0 rfl
      have r1 := K6.get 1 rfl
      have q0 := K6.fz 0 rfl
      have q1 := K6.fz 1 rfl
      have K7 := (K6.sub (l' := [(⟨w.heap.size + 1, 0, none⟩, .int .i64 0), (⟨w.heap.size + 1, 1, none⟩, .slice none 0 0)]) (by intro p9 hp9; simp only [List.mem_cons, List.not_mem_nil, or_false] at hp9; rcases hp9 with rfl | rfl <;> simp)).set2 (.int .i64 ver) (.slice ao k c) (Nat.le_succ _) (by simp)
      have R6 := Lib.hid (((hown.setb (a := ⟨w.heap.size + 1, 0, none⟩) (by simp only; omega) (.int .i64 ver)).setb (a := ⟨w.heap.size + 1, 1, none⟩) (by simp only; omega) (.slice ao k c)).mono (B' := w.heap.size) (by omega))
      have m0 := K7.get 0 rfl
      have m1 := K7.get 1 rfl
      have yy := K7.lt 0 rfl
      have HK7 := Lib.hid K7.1
      clear K7 K6 hown
      go_wp2
      exact bodyPost_ret (v := .agg #[.int .i64 ver, .slice ao k c]) (by simp [results, Try.results84, go_sem, m0, m1, yy]) rfl ⟨_, f, rfl, R6.out, HK7.out⟩
end Go.Proofs.Ytcfcohnkkgickaa
