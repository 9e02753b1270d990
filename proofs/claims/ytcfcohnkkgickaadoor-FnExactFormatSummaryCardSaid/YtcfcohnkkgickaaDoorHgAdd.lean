/-
  The walk over the model's AddHistograms.
-/
import Derived.Test.YtcfcohnkkgickaaDoorRows
import Derived.Test.YtcfcohnkkgickaaDoorHgSpec2
import Derived.Test.YtcfcohnkkgickaaDoorIntStep
import Derived.Deep.RegionLaw
import Derived.Deep.RegionWith
namespace Go.Proofs.YtcfcohnkkgickaaDoor
open Go.RowKit Num

theorem addOkH_t {a b : List Int} (h : HgOk a ∧ HgOk b ∧ HgOk (addC a b)) : addOkH a b = true := @decide_eq_true _ (Classical.propDecidable _) h
theorem addOkH_f {a b : List Int} (h : ¬ (HgOk a ∧ HgOk b ∧ HgOk (addC a b))) : addOkH a b = false := @decide_eq_false _ (Classical.propDecidable _) h
theorem addH_f {a b : List Int} (h : addOkH a b = false) : addH a b = [] := by unfold addH; rw [h]; rfl
theorem addH_t {a b : List Int} (h : addOkH a b = true) : addH a b = addC a b := by unfold addH; rw [h]; rfl
theorem hgB_not {h : List Int} (hh : hgB h = false) : ¬ HgOk h := @of_decide_eq_false _ (Classical.propDecidable _) hh

end Go.Proofs.YtcfcohnkkgickaaDoor
