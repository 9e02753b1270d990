/-
  The walks over the project's format of a decimal.
-/
import Derived.Test.YtphndncamgbonaaDoorRows
import Derived.Test.YtphndncamgbonaaDoorDcPlain
import Derived.Test.YtphndncamgbonaaDoorHelp
import Derived.Test.YtphndncamgbonaaDoorItoaKit
import Derived.Test.YtphndncamgbonaaDoorShelf
import Derived.Test.YtphndncamgbonaaDoorDcSpec
import Derived.WalkKit
import Derived.WalkSpells
import Derived.WalkLawsBesides
import Derived.IntWalk
import Derived.Lib.Hide
import Derived.Lib.Strings
import Derived.Lib.Repeat
import Derived.Deep.QuietTactic
import Derived.BigQuiet
namespace Go.Proofs.YtphndncamgbonaaDoor
open Go.RowKit Num

theorem rep_zero : ∀ c, Lib.repeatL [48] c = List.replicate c 48
  | 0 => rfl
  | c + 1 => by rw [List.replicate_succ, ← rep_zero c]; rfl

theorem rep_any (c : Nat) (w : World) (h : c ≤ 30) :
    Calls Tryd.prog 61 #[.string ⟨#[48]⟩, .int .i64 (c : Int)] w fun e w' => e = .returned (.string ⟨(List.replicate c 48).toArray⟩) ∧ Below w.heap.size w w' := by
  have := Tryd.strings_Repeat ⟨#[48]⟩ c w (by omega) (by show 1 * c ≤ _; omega)
  rw [show (⟨#[48]⟩ : ByteArray).data.toList = [48] from rfl, rep_zero] at this
  exact this

set_option maxRecDepth 8000 in
set_option maxHeartbeats 1600000 in
theorem impl_dec_neg (u p : Nat) (w : World) (hu1 : 1 ≤ u) (hu : (u : Int) ≤ 1000000000000000000) (hp : p ≤ 6) (ht : PowTab w) :
    Calls Tryd.prog 43 #[.int .i64 (-(u : Int)), .int .i64 (p : Int)] w fun e w' => e = .returned (.string ⟨(decF (-(u : Int)) p).toArray⟩) ∧ Below w.heap.size w w' := by
  rw [decF_neg (by omega), Int.natAbs_neg, Int.natAbs_natCast]
  have HT : Hid (PowTab w) := ht
  obtain ⟨L1, L2⟩ := dig_len u (by omega)
  have F0 := impl_fi (u : Int) w (by omega) (by omega) ht
  clear ht
  rw [Lib.itoa_nonneg] at F0
  obtain ⟨D, hD⟩ : ∃ D, D = Lib.decDigits u := ⟨_, rfl⟩
  rw [← hD] at F0 L1 L2
  rw [← hD]
  have F := Lib.hid F0
  have t : -(u : Int) < 0 := by omega
  have hpI : (p : Int) ≤ 6 := by omega
  clear F0 hD
  by_cases h0 : p = 0
  · have q : ((p : Int) == 0) = true := by rw [h0]; rfl
    have E : Hid (body p D = D) := (show _ = _ by rw [h0, body_zero, padZ_one L1])
    have HP := Lib.hid h0
    clear h0
    go_enter Tryd.func43, Tryd.ntmps43
    go_wp2_with fail
    refine F.out.mono ?_
    rintro e w1 ⟨rfl, hb⟩
    go_wp2
    go_ret
    exact ⟨by rw [E.out]; exact congrArg (fun b => Ending.returned (Value.string b)) (catN [45] D), hb⟩
  · have q : ((p : Int) == 0) = false := beq_eq_false_iff_ne.2 (by omega)
    have h1 : (1 : Int) ≤ (p : Int) := by omega
    have HP := Lib.hid h0
    clear h0
    go_enter Tryd.func43, Tryd.ntmps43
    go_wp2_with fail
    refine F.out.mono ?_
    rintro e w1 ⟨rfl, hb⟩
    go_wp2_with fail
    rw [show max 0 ((p : Int) + 1 - (D.length : Int)) = ((p + 1 - D.length : Nat) : Int) by omega]
    have R0 := rep_any (p + 1 - D.length) w1 (by omega)
    have hX : (⟨(List.replicate (p + 1 - D.length) 48).toArray⟩ : ByteArray) ++ (⟨D.toArray⟩ : ByteArray) = ⟨(padZ (p + 1) D).toArray⟩ := catN _ D
    have B := body_pos HP.out D
    have hN := padZ_len (p + 1) D
    obtain ⟨L, hL⟩ : ∃ L, L = padZ (p + 1) D := ⟨_, rfl⟩
    obtain ⟨Z, hZ⟩ : ∃ Z : List UInt8, Z = List.replicate (p + 1 - D.length) 48 := ⟨_, rfl⟩
    rw [← hL] at hN B hX
    rw [← hZ] at hX R0
    have hZL : Z.length = p + 1 - D.length := by rw [hZ]; simp
    have z1 : Z.length + D.length ≤ 60 := by omega
    have l1 : p < L.length := by omega
    have l2 : L.length ≤ 30 := by omega
    have l3 : (p : Int) < (L.length : Int) := by omega
    have E := Lib.hid B
    have HZ := Lib.hid hZL
    clear B hN hL hZ hZL
    refine R0.mono ?_
    rintro e w2 ⟨rfl, hb2⟩
    have hb3 := hb.trans (hb2.mono hb.size)
    clear R0 hb hb2
    go_wp2_with fail
    go_quiet (fail)
    go_wp2
    go_ret
    exact ⟨by rw [E.out]; exact congrArg (fun b => Ending.returned (Value.string b)) (dot_cat [45] L _), below_drewN hb3 _⟩

set_option maxRecDepth 8000 in
set_option maxHeartbeats 1600000 in
theorem impl_dec_pos (u p : Nat) (w : World) (hu : (u : Int) ≤ 1000000000000000000) (hp : p ≤ 6) (ht : PowTab w) :
    Calls Tryd.prog 43 #[.int .i64 (u : Int), .int .i64 (p : Int)] w fun e w' => e = .returned (.string ⟨(decF (u : Int) p).toArray⟩) ∧ Below w.heap.size w w' := by
  rw [decF_pos (by omega), Int.natAbs_natCast]
  have HT : Hid (PowTab w) := ht
  obtain ⟨L1, L2⟩ := dig_len u (by omega)
  have F0 := impl_fi (u : Int) w (by omega) (by omega) ht
  clear ht
  rw [Lib.itoa_nonneg] at F0
  obtain ⟨D, hD⟩ : ∃ D, D = Lib.decDigits u := ⟨_, rfl⟩
  rw [← hD] at F0 L1 L2
  rw [← hD]
  have F := Lib.hid F0
  have t : decide ((u : Int) < 0) = false := decide_eq_false (by omega)
  have hpI : (p : Int) ≤ 6 := by omega
  clear F0 hD
  by_cases h0 : p = 0
  · have q : ((p : Int) == 0) = true := by rw [h0]; rfl
    have E : Hid (body p D = D) := (show _ = _ by rw [h0, body_zero, padZ_one L1])
    have HP := Lib.hid h0
    clear h0
    go_enter Tryd.func43, Tryd.ntmps43
    go_wp2_with fail
    refine F.out.mono ?_
    rintro e w1 ⟨rfl, hb⟩
    go_wp2
    go_ret
    exact ⟨by rw [E.out]; exact congrArg (fun b => Ending.returned (Value.string b)) (catN [] D), hb⟩
  · have q : ((p : Int) == 0) = false := beq_eq_false_iff_ne.2 (by omega)
    have h1 : (1 : Int) ≤ (p : Int) := by omega
    have HP := Lib.hid h0
    clear h0
    go_enter Tryd.func43, Tryd.ntmps43
    go_wp2_with fail
    refine F.out.mono ?_
    rintro e w1 ⟨rfl, hb⟩
    go_wp2_with fail
    rw [show max 0 ((p : Int) + 1 - (D.length : Int)) = ((p + 1 - D.length : Nat) : Int) by omega]
    have R0 := rep_any (p + 1 - D.length) w1 (by omega)
    have hX : (⟨(List.replicate (p + 1 - D.length) 48).toArray⟩ : ByteArray) ++ (⟨D.toArray⟩ : ByteArray) = ⟨(padZ (p + 1) D).toArray⟩ := catN _ D
    have B := body_pos HP.out D
    have hN := padZ_len (p + 1) D
    obtain ⟨L, hL⟩ : ∃ L, L = padZ (p + 1) D := ⟨_, rfl⟩
    obtain ⟨Z, hZ⟩ : ∃ Z : List UInt8, Z = List.replicate (p + 1 - D.length) 48 := ⟨_, rfl⟩
    rw [← hL] at hN B hX
    rw [← hZ] at hX R0
    have hZL : Z.length = p + 1 - D.length := by rw [hZ]; simp
    have z1 : Z.length + D.length ≤ 60 := by omega
    have l1 : p < L.length := by omega
    have l2 : L.length ≤ 30 := by omega
    have l3 : (p : Int) < (L.length : Int) := by omega
    have E := Lib.hid B
    have HZ := Lib.hid hZL
    clear B hN hL hZ hZL
    refine R0.mono ?_
    rintro e w2 ⟨rfl, hb2⟩
    have hb3 := hb.trans (hb2.mono hb.size)
    clear R0 hb hb2
    go_wp2_with fail
    go_quiet (fail)
    go_wp2
    go_ret
    exact ⟨by rw [E.out]; exact congrArg (fun b => Ending.returned (Value.string b)) (dot_cat [] L _), below_drewN hb3 _⟩

theorem impl_dec (n : Int) (p : Nat) (w : World) (h1 : -1000000000000000000 ≤ n) (h2 : n ≤ 1000000000000000000) (hp : p ≤ 6) (ht : PowTab w) :
    Calls Tryd.prog 43 #[.int .i64 n, .int .i64 (p : Int)] w fun e w' => e = .returned (.string ⟨(decF n p).toArray⟩) ∧ Below w.heap.size w w' := by
  by_cases h : n < 0
  · obtain ⟨u, rfl⟩ : ∃ u : Nat, n = -(u : Int) := ⟨n.natAbs, by omega⟩
    exact impl_dec_neg u p w (by omega) (by omega) hp ht
  · obtain ⟨u, rfl⟩ := Int.eq_ofNat_of_zero_le (show 0 ≤ n by omega)
    exact impl_dec_pos u p w (by omega) hp ht
end Go.Proofs.YtphndncamgbonaaDoor
