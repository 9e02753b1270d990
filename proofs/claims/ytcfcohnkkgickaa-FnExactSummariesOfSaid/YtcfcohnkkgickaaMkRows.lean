/-
  The walks over the laws' marking and reading of rows.
-/
import Derived.Test.YtcfcohnkkgickaaRows
import Derived.Test.YtcfcohnkkgickaaRwRep
namespace Go.Proofs.Ytcfcohnkkgickaa
open Go.RowKit Num

set_option maxRecDepth 8000 in
set_option maxHeartbeats 3200000 in
theorem law_markRs (g n cap : Nat) (k0 : Int) (w : World) (hn : n ≤ 1099511627776) (hk0 : 0 ≤ k0) (hk1 : k0 ≤ 1099511627776) (ho : OwnBlk w g (n * 5)) :
    Calls Try.prog 115 #[.slice (some ⟨g, 0, none⟩) n cap, .int .i64 k0] w fun e w' => e = .returned (.int .i64 (k0 + 5 * (n : Int))) ∧ MarkTo w w' g n n (markAt k0) := by
  have HM : Hid (MarkTo w w g n 0 (markAt k0)) := (⟨Chg.refl _ _, ho, fun m hm => by omega⟩ : MarkTo w w g n 0 (markAt k0))
  clear ho
  have hnI : (n : Int) ≤ 1099511627776 := by omega
  go_enter Try.func115, Try.ntmps115
  go_wp2_with fail
  go_loopw [1, 5] (fun kv iv wr => ∃ i : Nat, i ≤ n ∧ iv = .int .i64 i ∧ kv = .int .i64 (k0 + 5 * (i : Int)) ∧ Hid (MarkTo w wr g n i (markAt k0))) (fun _ iv _ => n - (intOf iv).toNat)
  case atStart => exact ⟨0, Nat.zero_le _, rfl, by simp, HM.out⟩
  case round =>
    obtain ⟨i, hi, rfl, rfl, HR⟩ := hrel
    obtain ⟨kk, hkk⟩ : ∃ kk, kk = k0 + 5 * (i : Int) := ⟨_, rfl⟩
    have b0 : 0 ≤ kk := by omega
    have b1 : kk ≤ 6597069766656 := by omega
    by_cases hlt : i < n
    · have hkI : (i : Int) < (n : Int) := by omega
      have hcell := HR.out.2.1.2
      obtain ⟨⟨v0, e0⟩, f0⟩ := hcell (i * 5) (by omega)
      obtain ⟨⟨v1, e1⟩, f1⟩ := hcell (i * 5 + 1) (by omega)
      obtain ⟨⟨v2, e2⟩, f2⟩ := hcell (i * 5 + 2) (by omega)
      obtain ⟨⟨v3, e3⟩, f3⟩ := hcell (i * 5 + 3) (by omega)
      obtain ⟨⟨v4, e4⟩, f4⟩ := hcell (i * 5 + 4) (by omega)
      clear hcell
      have HP := Lib.hid (HR.out.put hlt)
      have hR : markAt k0 i = markRw kk := by rw [hkk]; rfl
      rw [hR] at HP
      have HK := Lib.hid hkk
      rw [← hkk]
      clear hkk hR
      go_wp2
      go_roundw
      case rel => exact ⟨i + 1, by omega, by go_num, int_eq (by have := HK.out; omega), HP.out⟩
      case measure => simp [intOf]; omega
    · obtain rfl : i = n := by omega
      have hsd : decide ((i : Int) < (i : Int)) = false := decide_eq_false (by omega)
      rw [← hkk]
      have HK := Lib.hid hkk
      clear hkk
      go_wp2
      go_ret
      exact ⟨ret_int HK.out, HR.out⟩

theorem law_markRs0 (ao : Option Addr) (cap : Nat) (k0 : Int) (w : World) :
    Calls Try.prog 115 #[.slice ao 0 cap, .int .i64 k0] w fun e w' => e = .returned (.int .i64 k0) ∧ w = w' := by
  go_enter Try.func115, Try.ntmps115
  go_wp2_with fail
  go_loop [1, 5] (fun kv iv => kv = .int .i64 k0 ∧ iv = .int .i64 0) (fun _ _ => 0)
  case atStart => exact ⟨rfl, rfl⟩
  case round =>
    obtain ⟨rfl, rfl⟩ := hrel
    go_wp2
    go_ret
    exact ⟨rfl, rfl⟩

/-- Rows marked from k on. -/
def marks (k : Int) (n : Nat) : List Rw := lst n (markAt k)
theorem marks_len (k : Int) (n : Nat) : (marks k n).length = n := lst_len n _

/-- Marking rows: whatever slice they lie in. -/
theorem law_markRsV (v : Value) (l : List Rw) (fp : List Nat) (k0 : Int) (w : World) (hn : l.length ≤ 1099511627776) (hk0 : 0 ≤ k0) (hk1 : k0 ≤ 1099511627776) (hv : SliceRep rowTy w v l fp) :
    Calls Try.prog 115 #[v, .int .i64 k0] w fun e w' => e = .returned (.int .i64 (k0 + 5 * (l.length : Int))) ∧ Chg fp w w' ∧ SliceRep rowTy w' v (marks k0 l.length) fp := by
  rcases hv with ⟨rfl, rfl, hv⟩ | ⟨g, cap, f, rfl, hc, ho, he, rfl⟩
  · have hv' := hv
    obtain ⟨ao, cap, rfl⟩ : ∃ ao cap, v = .slice ao 0 cap := by rcases hv with rfl | ⟨ad, cap, rfl⟩ <;> exact ⟨_, _, rfl⟩
    refine (law_markRs0 ao cap k0 w).mono ?_
    rintro e w' ⟨rfl, rfl⟩
    exact ⟨ret_int (by simp), Chg.refl _ _, .inl ⟨rfl, rfl, hv'⟩⟩
  · refine (law_markRs g l.length cap k0 w hn hk0 hk1 ho).mono ?_
    rintro e w' ⟨rfl, h1, h2, h3⟩
    have hf : f = [] := by
      have : ∀ (l : List Rw) (k : Nat) (f : List Nat), Elems rowTy w g k l f → f = [] := fun l => by
        induction l with
        | nil => intro k f h; exact h
        | cons x l ih =>
          rintro k f ⟨cs, f1, f2, rfl, _, ⟨_, rfl⟩, h2⟩
          rw [ih _ _ h2]; rfl
      exact this l 0 f he
    subst hf
    refine ⟨rfl, h1, ?_⟩
    have hs := rows_shut (w := w') (g := g) (cap := cap) (l := marks k0 l.length) (by rw [marks_len]; exact hc) (by rw [marks_len]; exact h2) (fun i hi => by rw [show (marks k0 l.length)[i] = markAt k0 i from lst_at _ _ i hi]; exact h3 i (by rwa [marks_len] at hi))
    rwa [marks_len] at hs

set_option maxRecDepth 8000 in
set_option maxHeartbeats 3200000 in
theorem law_heldRs (ao : Option Addr) (n cap : Nat) (k0 : Int) (w : World) (hn : n ≤ 1099511627776) (hk0 : 0 ≤ k0) (hk1 : k0 ≤ 1099511627776) (hV : RowsVal w ao n (markAt k0)) :
    Calls Try.prog 134 #[.slice ao n cap, .int .i64 k0] w fun e w' => e = .returned (.int .i64 (k0 + 5 * (n : Int))) ∧ w = w' := by
  have HO := Lib.hid hV
  clear hV
  have hnI : (n : Int) ≤ 1099511627776 := by omega
  go_enter Try.func134, Try.ntmps134
  go_wp2_with fail
  go_loop [1, 5] (fun kv iv => ∃ i : Nat, i ≤ n ∧ iv = .int .i64 i ∧ kv = .int .i64 (k0 + 5 * (i : Int))) (fun _ iv => n - (intOf iv).toNat)
  case atStart => exact ⟨0, Nat.zero_le _, rfl, by simp⟩
  case round =>
    obtain ⟨i, hi, rfl, rfl⟩ := hrel
    obtain ⟨kk, hkk⟩ : ∃ kk, kk = k0 + 5 * (i : Int) := ⟨_, rfl⟩
    have b0 : 0 ≤ kk := by omega
    have b1 : kk ≤ 6597069766656 := by omega
    by_cases hlt : i < n
    · have hkI : (i : Int) < (n : Int) := by omega
      obtain ⟨g, rfl, hg, hR⟩ : ∃ g, ao = some ⟨g, 0, none⟩ ∧ g < w.heap.size ∧ ∀ k, k < n → RowIn w g k (markAt k0 k) := HO.out.resolve_left (by omega)
      have hr := hR i hlt
      rw [show markAt k0 i = markRw kk by rw [hkk]; rfl] at hr
      obtain ⟨c0, c1, c2, c3, c4⟩ : w.cell? ⟨g, i * 5, none⟩ = some (.int .i64 kk) ∧ w.cell? ⟨g, i * 5 + 1, none⟩ = some (.int .i64 (kk + 1)) ∧ w.cell? ⟨g, i * 5 + 2, none⟩ = some (.int .i64 (kk + 1 + 1)) ∧ w.cell? ⟨g, i * 5 + 3, none⟩ = some (.int .i64 (kk + 1 + 1 + 1)) ∧ w.cell? ⟨g, i * 5 + 4, none⟩ = some (.bool ((kk + 1 + 1 + 1 + 1) % 3 == 0)) := hr
      have HK := Lib.hid hkk
      rw [← hkk]
      clear hkk hR
      go_wp2
      go_round
      case rel => exact ⟨i + 1, by omega, by go_num, int_eq (by have := HK.out; omega)⟩
      case measure => simp [intOf]; omega
    · obtain rfl : i = n := by omega
      have hsd : decide ((i : Int) < (i : Int)) = false := decide_eq_false (by omega)
      rw [← hkk]
      have HK := Lib.hid hkk
      clear hkk
      go_wp2
      go_ret
      exact ⟨ret_int HK.out, rfl⟩

theorem law_heldRsV (v : Value) (n : Nat) (fp : List Nat) (k0 : Int) (w : World) (hn : n ≤ 1099511627776) (hk0 : 0 ≤ k0) (hk1 : k0 ≤ 1099511627776) (hv : SliceRep rowTy w v (marks k0 n) fp) :
    Calls Try.prog 134 #[v, .int .i64 k0] w fun e w' => e = .returned (.int .i64 (k0 + 5 * (n : Int))) ∧ w = w' := by
  obtain ⟨ao, cap, rfl, _, h⟩ := rows_open hv
  rw [marks_len] at h ⊢
  refine law_heldRs ao n cap k0 w hn hk0 hk1 ?_
  rcases h with h | ⟨g, e, hg, h⟩
  · exact .inl h
  · exact .inr ⟨g, e, hg, fun k hk => by rw [← Rn_lst (R := markAt k0) hk]; exact h k hk⟩
end Go.Proofs.Ytcfcohnkkgickaa
