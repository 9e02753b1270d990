/-
  The walk over the project's BlockOfRow.
-/
import Derived.Test.YtbaoipbfpjgglaaRows
import Derived.Test.YtbaoipbfpjgglaaRpImpl
namespace Go.Proofs.Ytbaoipbfpjgglaa
open Go.RowKit Num Go.Maps

set_option maxRecDepth 8000 in
set_option maxHeartbeats 3200000 in
theorem impl_bor (ver id : Int) (ao : Option Addr) (n cap : Nat) (l : List Blk) (w : World) (hl : l.length = n) (hn : n ≤ 1048576) (hr : ∀ k, k < n → (Bn l k).rows.length ≤ 1048576) (hw : WfB n (Bn l)) (hid : (Lit.int .i64 id).wf = true) (hV : BlksVal w ao l) :
    Calls Try.prog 18 #[.agg #[.int .i64 ver, .slice ao n cap], .int .i64 id] w (FirstPost (fun k => HasRow (Bn l k).rows id) n w) := by
  have HV := Lib.hid hV
  have HL := Lib.hid hl
  have HR := Lib.hid hr
  have HW := Lib.hid hw
  have hkey := keyOf_int_mk Try.underlying3 hid
  clear hV hl hr hw hid
  go_enter Try.func18, Try.ntmps18
  go_wp2_with fail
  have K0 := (Kept.start w).alloc2 (.int .i64 ver) (.slice ao n cap) 29 _ rfl
  refine (impl_rp ver ao n cap l _ HL.out hn HR.out HW.out (HV.out.below K0.1)).mono ?_
  rintro e w1 ⟨b, m, D, rfl, hm, hown, hD, _, hb⟩
  have K1 := Lib.hid (K0.step hb).1
  obtain ⟨v, zs, run1, hat, hoi, hzl, _⟩ := hown.at mapLaw mapT (zeroInts _) hm hkey
  have hz := hD.read hoi hat
  have hF := sel_first l id n
  rw [← hz] at hF
  clear hown hD hat hz hkey hb K0
  rcases hoi.1.2 with ⟨rfl, h0⟩ | ⟨g, c9, cur, rfl, _⟩
  · obtain rfl := List.eq_nil_of_length_eq_zero h0
    have AN := Lib.hid hF
    clear hF hoi
    go_wp2
    go_ret
    exact ⟨⟨_, AN.out, rfl⟩, K1.out⟩
  · cases zs with
    | nil =>
      have AN := Lib.hid hF
      clear hF hoi
      go_wp2
      go_ret
      exact ⟨⟨_, AN.out, rfl⟩, K1.out⟩
    | cons a r =>
      have hc := hoi.1.cellAt 0 (by simp)
      have c1 : w1.cell? ⟨g, 0, none⟩ = some (.int .i64 a) := by rw [hc]; rfl
      have hlen : (r.length : Int) + 1 ≤ 9223372036854775807 := by
        have : (a :: r).length ≤ m := hzl
        unfold maxLen at hm
        simp only [List.length_cons] at this
        omega
      have AN := Lib.hid hF
      have q : ((((a :: r).length : Nat) : Int) == 0) = false := beq_eq_false_iff_ne.2 (by simp only [List.length_cons]; omega)
      have q2 : (0 : Int) < (((a :: r).length : Nat) : Int) := by simp only [List.length_cons]; omega
      generalize (a :: r).length = z9 at *
      clear hF hoi hc
      go_wp2
      go_ret
      exact ⟨⟨_, AN.out, rfl⟩, K1.out⟩
end Go.Proofs.Ytbaoipbfpjgglaa
