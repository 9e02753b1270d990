/-
  The walk over the project's FormatTable.
-/
import Derived.Test.YtcfcohnkkgickaaDoorRows
import Derived.Test.YtcfcohnkkgickaaDoorTvImpl
import Derived.Test.YtcfcohnkkgickaaDoorFaBlk
namespace Go.Proofs.YtcfcohnkkgickaaDoor
open Go.RowKit Num

set_option maxRecDepth 8000 in
set_option maxHeartbeats 6400000 in
theorem impl_ft (ver : Int) (ao : Option Addr) (n cap : Nat) (l : List Blk) (w : World) (hl : l.length = n) (hn : n ≤ 1048576) (hr : ∀ k, k < n → (Bn l k).rows.length ≤ 1048576) (hw : WfB n (Bn l)) (hV : BlksVal w ao l) (ht : PowTab w) :
    Calls Tryd.prog 14 #[.agg #[.int .i64 ver, .slice ao n cap]] w fun e w' => e = .returned (.string ⟨(fmtT ver l).toArray⟩) ∧ Below w.heap.size w w' := by
  have HV := Lib.hid hV
  have HL := Lib.hid hl
  have HR := Lib.hid hr
  have HW := Lib.hid hw
  have HT : Hid (PowTab w) := ht
  have hln := hl
  clear hV hl hr hw ht
  go_enter Tryd.func14, Tryd.ntmps14
  go_wp2_with fail
  have K0 := (Kept.start w).alloc2 (.int .i64 ver) (.slice ao n cap) 40 _ rfl
  refine (impl_tv ver ao n cap l _ HL.out hn HR.out HW.out (HV.out.below K0.1)).mono ?_
  rintro e w1 ⟨v, hv, rfl, hb⟩
  have K1 := K0.step hb
  have HTV := Lib.hid hv
  clear hv hb K0
  cases v
  · have NO := Lib.hid (fmtT_no (ver := ver) (l := l) (fun h => absurd (HTV.out.2 (by rw [← hln]; exact h)) (by simp)))
    clear HTV
    go_wp2
    go_ret
    exact ⟨by rw [NO.out]; rfl, K1.1⟩
  · have hTO := HTV.out.1 rfl
    have hv1 := hTO.1
    have YE := Lib.hid (show fmtT ver l = [118] ++ (Lib.itoa ver ++ joinT [59] (blkTexts l n) n) from by rw [fmtT_yes (by rw [hln]; exact hTO), hln, blkTexts_join l n n (Nat.le_refl _)]; rfl)
    have V1 := Lib.hid (show -9223372036854775808 ≤ ver by omega)
    have V2 := Lib.hid (show ver ≤ 9223372036854775807 by omega)
    have HTL := Lib.hid (show ∀ x ∈ blkTexts l n, x.length ≤ 1048576 from fun x hx => by
      unfold blkTexts at hx
      obtain ⟨k, _, rfl⟩ := List.mem_map.1 hx
      have := fmtB_len (id := (Bn l k).id) (n := (Bn l k).rows.length) (R := Rn (Bn l k).rows)
      unfold Blk.fmt
      omega)
    clear HTV hTO hv1
    go_wp2_with fail
    go_region_held3 (fun w' => w'.cell? ⟨w.heap.size, 0, none⟩ = some (.int .i64 ver) ∧ w'.cell? ⟨w.heap.size, 1, none⟩ = some (.slice ao n cap) ∧ Below w1.heap.size w1 w') (first | assumption | exact fb2_at K1 (Below.refl _ _).drew | exact fb2_keep K1 (by assumption) (by assumption)) (first | (go_simp; go_at_call 35; (with_reducible refine (impl_faB ao n cap l _ hn HL.out HR.out ?_ ?_).mono ?_); (exact (HV.out.below K1.1).below (fb2_b (by assumption))); (exact HT.out.below (K1.1.trans ((fb2_b (by assumption)).mono K1.1.size)) (Nat.le_refl _)); rintro e9 w9 ⟨ao9, c9, rfl, hTX, hb⟩) | (go_simp; go_at_call 27; (with_reducible refine (impl_jl [118] [59] ver ao9 (blkTexts l n) n c9 _ ?_ ?_ ?_ ?_ ?_ ?_ ?_ ?_ ?_).mono ?_); (exact (blkTexts_len l n).symm); (exact Nat.le_refl 1); (exact Nat.le_refl 1); (exact hn); (exact V1.out); (exact V2.out); (exact HTL.out); (exact hTX); (exact HT.out.below (K1.1.trans ((fb2_b (by assumption)).mono K1.1.size)) (Nat.le_refl _)); rintro e9 w10 ⟨rfl, hb2⟩))
    all_goals
      have K3 := Lib.hid (K1.1.trans ((‹_ ∧ _ ∧ Below w1.heap.size w1 w10›).2.2.mono K1.1.size))
      clear hTX hb hb2 K1
      go_wp2
      go_ret
      exact ⟨by rw [YE.out]; rfl, K3.out⟩
end Go.Proofs.YtcfcohnkkgickaaDoor
