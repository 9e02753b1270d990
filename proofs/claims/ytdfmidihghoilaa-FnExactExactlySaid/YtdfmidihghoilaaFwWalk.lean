/-
  The walks over Whole, the model's and the project's.
-/
import Derived.Test.YtdfmidihghoilaaRows
import Derived.Test.YtdfmidihghoilaaFcPlain
import Derived.Test.YtdfmidihghoilaaL1In
import Derived.Test.YtdfmidihghoilaaHelp
import Derived.Test.YtdfmidihghoilaaFrImpl
import Derived.WalkKit
import Derived.WalkSpells
import Derived.WalkLawsBesides
import Derived.IntWalk
import Derived.Lib.Hide
namespace Go.Proofs.Ytdfmidihghoilaa
open Go.RowKit Num

theorem calls_flop {P : Program} {f : FuncId} {args : Array Value} {w : World} {v : Value} (h : Calls P f args w fun e w' => e = .returned v ∧ w' = w) : Calls P f args w fun e w' => e = .returned v ∧ w = w' :=
  h.mono fun _ _ ⟨a, b⟩ => ⟨a, b.symm⟩

theorem spec_wh (n : Int) (w : World) :
    Calls Try.prog 35 #[.int .i64 n] w fun e w' => e = .returned (.agg #[.int .i64 (whN n), .int .i64 1]) ∧ Below w.heap.size w w' := by
  by_cases h : n < -999999999 ∨ 999999999 < n
  · rw [whN_no h]
    have H := Lib.hid h
    clear h
    go_enter Try.func35, Try.ntmps35
    go_wp2_with (go_at_call 43; refine (l1In_no _ _ _ _ H.out).mono ?_; rintro e w1 ⟨rfl, rfl⟩)
    exact bodyPost_ret (v := .agg #[.int .i64 0, .int .i64 1]) (by simp [results, Try.results35, go_sem]) rfl ⟨rfl, (Below.refl _ _).alloc (Nat.le_refl _) _⟩
  · have h1 : -999999999 ≤ n := by omega
    have h2 : n ≤ 999999999 := by omega
    rw [whN_yes h1 h2]
    clear h
    go_enter Try.func35, Try.ntmps35
    go_wp2_with (go_at_call 43; refine (l1In_yes _ _ _ _ h1 h2).mono ?_; rintro e w1 ⟨rfl, rfl⟩)
    exact bodyPost_ret (v := .agg #[.int .i64 n, .int .i64 1]) (by simp [results, Try.results35, go_sem]) rfl ⟨rfl, (Below.refl _ _).alloc (Nat.le_refl _) _⟩

theorem impl_wh (n : Int) (w : World) :
    Calls Try.prog 36 #[.int .i64 n] w fun e w' => e = .returned (.agg #[.int .i64 (whN n), .int .i64 1]) ∧ Below w.heap.size w w' := by
  by_cases h : n < -999999999 ∨ 999999999 < n
  · rw [whN_no h]
    have H := Lib.hid h
    clear h
    go_enter Try.func36, Try.ntmps36
    go_wp2_with (go_at_call 49; refine (calls_flop (impl_num_no _ _ H.out)).mono ?_; rintro e w1 ⟨rfl, rfl⟩)
    exact bodyPost_ret (v := .agg #[.int .i64 0, .int .i64 1]) (by simp [results, Try.results36, go_sem]) rfl ⟨rfl, (Below.refl _ _).alloc (Nat.le_refl _) _⟩
  · have h1 : -999999999 ≤ n := by omega
    have h2 : n ≤ 999999999 := by omega
    rw [whN_yes h1 h2]
    clear h
    go_enter Try.func36, Try.ntmps36
    go_wp2_with (go_at_call 49; refine (calls_flop (impl_num_yes _ _ h1 h2)).mono ?_; rintro e w1 ⟨rfl, rfl⟩)
    exact bodyPost_ret (v := .agg #[.int .i64 n, .int .i64 1]) (by simp [results, Try.results36, go_sem]) rfl ⟨rfl, (Below.refl _ _).alloc (Nat.le_refl _) _⟩
end Go.Proofs.Ytdfmidihghoilaa
