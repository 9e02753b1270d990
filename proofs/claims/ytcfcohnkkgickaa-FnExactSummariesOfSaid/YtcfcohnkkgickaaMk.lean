/-
  What the row of every law asks of the program's first words, reckoned once; the row's closed facts out of their parts.
-/
import Derived.Test.YtcfcohnkkgickaaRows
import Derived.WalkKit
import Derived.ProofKit
namespace Go.Proofs.Ytcfcohnkkgickaa.MkF
open Go.ChangeShapes Go.WideShapes Go.ChangeAt Go.RowKit

def chars (l : List Nat) : List Char := l.map Char.ofNat
theorem words_cons (rest : List Char) : ∀ w : List Char, (∀ c ∈ w, c ≠ Char.ofNat 32) → wordsSigns (w ++ Char.ofNat 32 :: rest) = w :: wordsSigns rest
  | [], _ => rfl
  | c :: w, h => by
    have ih := words_cons rest w (fun x hx => h x (by simp [hx]))
    have hc : c ≠ Char.ofNat 32 := h c (by simp)
    rw [List.cons_append, wordsSigns, ih]
    exact hc
def wordA : List Nat := [104, 97, 114, 110, 101, 115, 115]
def wordB : List Nat := [99, 54, 98, 55, 99, 100, 53, 98, 56, 48, 53, 102, 97, 52, 49, 101, 55, 55, 100, 97, 49, 97, 54, 98, 97, 98, 57, 52, 50, 50, 51, 97, 52, 101, 52, 57, 56, 49, 57, 97, 99, 57, 48, 101, 48, 102, 50, 52, 57, 49, 50, 53, 52, 52, 100, 48, 49, 49, 102, 101, 102, 57, 56, 57]
def wordC : List Nat := [99, 117, 116]
set_option maxRecDepth 100000 in
set_option maxHeartbeats 4000000 in
def wordR : List Nat := [97, 116, 32, 108, 111, 111, 112, 46, 101, 120, 97, 109, 112, 108, 101, 47, 103, 48, 49, 57, 50, 55, 47, 108, 97, 119, 115, 46, 70, 110, 69, 120, 97, 99, 116, 65, 112, 112, 108, 121, 67, 104, 97, 110, 103, 101, 32, 108, 111, 111, 112, 46, 101, 120, 97, 109, 112, 108, 101, 47, 103, 48, 49, 57, 50, 55, 47, 108, 97, 119, 115, 46, 70, 110, 69, 120, 97, 99, 116, 65, 112, 112, 108, 121, 67, 104, 97, 110, 103, 101, 115, 32, 108, 111, 111, 112, 46, 101, 120, 97, 109, 112, 108, 101, 47, 103, 48, 49, 57, 50, 55, 47, 108, 97, 119, 115, 46, 70, 110, 72, 105, 115, 116, 111, 103, 114, 97, 109, 115, 32, 108, 111, 111, 112, 46, 101, 120, 97, 109, 112, 108, 101, 47, 103, 48, 49, 57, 50, 55, 47, 108, 97, 119, 115, 46, 70, 110, 69, 120, 97, 99, 116, 83, 117, 109, 109, 97, 114, 105, 122, 101, 32, 108, 111, 111, 112, 46, 101, 120, 97, 109, 112, 108, 101, 47, 103, 48, 49, 57, 50, 55, 47, 108, 97, 119, 115, 46, 70, 110, 69, 120, 97, 99, 116, 73, 115, 83, 117, 109, 109, 97, 114, 121, 32, 108, 111, 111, 112, 46, 101, 120, 97, 109, 112, 108, 101, 47, 103, 48, 49, 57, 50, 55, 47, 108, 97, 119, 115, 46, 70, 110, 69, 120, 97, 99, 116, 86, 97, 108, 117, 101, 115, 73, 110, 32, 108, 111, 111, 112, 46, 101, 120, 97, 109, 112, 108, 101, 47, 103, 48, 49, 57, 50, 55, 47, 108, 97, 119, 115, 46, 70, 110, 69, 120, 97, 99, 116, 77, 101, 114, 103, 101, 83, 117, 109, 109, 97, 114, 105, 101, 115, 32, 108, 111, 111, 112, 46, 101, 120, 97, 109, 112, 108, 101, 47, 103, 48, 49, 57, 50, 55, 47, 108, 97, 119, 115, 46, 70, 110, 69, 120, 97, 99, 116, 83, 117, 109, 109, 97, 114, 105, 101, 115, 79, 102, 32, 108, 111, 111, 112, 46, 101, 120, 97, 109, 112, 108, 101, 47, 103, 48, 49, 57, 50, 55, 47, 108, 97, 119, 115, 46, 70, 110, 69, 120, 97, 99, 116, 84, 111, 116, 97, 108, 83, 117, 109, 109, 97, 114, 121, 32, 108, 111, 111, 112, 46, 101, 120, 97, 109, 112, 108, 101, 47, 103, 48, 49, 57, 50, 55, 47, 108, 97, 119, 115, 46, 70, 110, 69, 120, 97, 99, 116, 69, 113, 117, 97, 108, 83, 117, 109, 109, 97, 114, 105, 101, 115]
theorem init_ofList : Try.prog.initOrder = String.ofList (chars wordA ++ Char.ofNat 32 :: (chars wordB ++ Char.ofNat 32 :: (chars wordC ++ Char.ofNat 32 :: chars wordR))) := by kernel_rfl
theorem init_words : ∃ R, wordsSigns Try.prog.initOrder.toList = chars wordA :: chars wordB :: chars wordC :: R := by
  refine ⟨wordsSigns (chars wordR), ?_⟩
  rw [init_ofList, String.toList_ofList, words_cons _ _ (of_decide_eq_true (by kernel_rfl)), words_cons _ _ (of_decide_eq_true (by kernel_rfl)), words_cons _ _ (of_decide_eq_true (by kernel_rfl))]
theorem bm (R : List (List Char)) : behindMainWord (chars wordA :: chars wordB :: chars wordC :: R) = chars wordC :: R := by
  unfold behindMainWord
  kernel_rfl
theorem w_gc : (chars wordC == "gc".toList) = false := by kernel_rfl
theorem w_spec : (chars wordC == "spec".toList) = false := by kernel_rfl
theorem w_cut : (chars wordC == "cut".toList) = true := by kernel_rfl
theorem w_car : (chars wordC == "carried".toList) = false := by kernel_rfl
theorem w_some : (some (chars wordC) == some "cut".toList) = true := by kernel_rfl
theorem w_scar : (some (chars wordC) == some "carried".toList) = false := by kernel_rfl
theorem w_lifts (R : List (List Char)) : stripLifts liftWords (chars wordC :: R) = ([], chars wordC :: R) := by kernel_rfl
theorem gen_head {P : Program} {R : List (List Char)} (hR : wordsSigns P.initOrder.toList = chars wordA :: chars wordB :: chars wordC :: R) : P.headLifts = [] := by
  unfold Program.headLifts
  rw [hR, bm, w_lifts]
  simp only [List.head?_cons, w_some, if_true]
theorem gen_make {P : Program} {R : List (List Char)} (hR : wordsSigns P.initOrder.toList = chars wordA :: chars wordB :: chars wordC :: R) : P.make = some .cut := by
  unfold Program.make
  rw [hR, bm]
  simp only [w_gc, w_spec, w_cut, Bool.false_or, Bool.true_or, if_true, Bool.false_eq_true, if_false]
theorem gen_enter {P : Program} {R : List (List Char)} (hR : wordsSigns P.initOrder.toList = chars wordA :: chars wordB :: chars wordC :: R) (hl : P.laysLater = false) (hb : P.bearsReflect = false) (hd : P.doorFits [] = true) : P.mayEnter = true := by
  unfold Program.mayEnter
  rw [hR, bm]
  simp only [w_gc, w_spec, w_car, w_lifts, hl, hb, hd, w_some, List.head?_cons, Bool.false_or, Bool.false_and, Bool.true_and, Bool.not_false, Bool.or_true, Bool.and_true]
  rfl
theorem gen_lifts {P : Program} {R : List (List Char)} (hR : wordsSigns P.initOrder.toList = chars wordA :: chars wordB :: chars wordC :: R) : P.liftsFinal = false := by
  unfold Program.liftsFinal
  rw [hR, bm, gen_head hR]
  simp only [List.head?_cons, w_scar, Bool.false_and, Bool.false_or]
  rfl
theorem mk_make : Try.prog.make = some .cut := by
  obtain ⟨R, hR⟩ := init_words
  exact gen_make hR
theorem mk_lifts : Try.prog.liftsFinal = false := by
  obtain ⟨R, hR⟩ := init_words
  exact gen_lifts hR
theorem mk_enter : Try.prog.mayEnter = true := by
  obtain ⟨R, hR⟩ := init_words
  exact gen_enter hR (by kernel_rfl) (by kernel_rfl) (by kernel_rfl)
theorem and_b {a b : Bool} (h : a = true) (h' : b = true) : (a && b) = true := by rw [h, h']; rfl
theorem make_eq {P : Program} {c : OpenClaim} (h : P.make = some .cut) (hc : c.make = .cut) : (P.make == some c.make) = true := by rw [h, hc]; rfl
theorem lifts_eq {P : Program} {c : OpenClaim} (h : P.liftsFinal = false) (hc : c.lifted = false) : (c.lifted == P.liftsFinal) = true := by rw [h, hc]; rfl
theorem closed_of {P : Program} {f : FuncId} {fn : Func} {s : ChangeSpec} {c : OpenClaim}
    (h0 : c.wf (OpenSpec.ofChange s) = true)
    (h1 : laidOutB P = true)
    (h2 : mapsRowed P = true)
    (h3 : fn.params.all (P.readableRec ·) = true)
    (h4 : namedTie P c.named s.vars = true)
    (h5 : (c.stops == []) = true)
    (h6 : (P.stops == []) = true)
    (h7 : (c.knobs == []) = true)
    (h8 : (P.stopKnobs == []) = true)
    (h9 : (c.inPlace == P.inPlace f) = true)
    (h10 : (c.unfollowed == P.unfollowed f) = true)
    (h11 : (c.recurses == P.recurses f) = true)
    (h12 : (c.named == P.varsNamed f) = true)
    (h13 : (c.maps == (fn.params.toList ++ s.plain.varTypes P).any (P.mapsRec ·)) = true)
    (h14 : (c.ifaces == (fn.params.toList ++ s.plain.varTypes P).any (P.ifacesRec ·)) = true)
    (h15 : (c.mapsOut == P.mapsAmong fn.resultTypes.toList) = true)
    (h16 : (c.loops == (fn.params.toList ++ s.plain.varTypes P).any (P.loopsFrom ·)) = true)
    (h17 : (c.wideKeys == (fn.params.toList ++ s.plain.varTypes P ++ fn.resultTypes.toList).any (P.wideKeysFrom ·)) = true)
    (h18 : s.vars.all (P.varReadable ·) = true)
    (h19 : fn.resultTypes.all (fun t => P.readableRec t && decide (t < P.types.size)) = true)
    (h20 : (c.ifacesOut == fn.resultTypes.toList.any (P.ifacesRec ·)) = true)
    (h21 : (c.loopsOut == fn.resultTypes.toList.any (P.loopsFrom ·)) = true)
    (h22 : (c.plainKeys == P.plainKeys) = true)
    (h23 : c.shortTexts.isNone = true)
    (h24 : P.stopsHeard = true)
    (h25 : P.mayEnter = true)
    (h26 : (c.lifted == P.liftsFinal) = true)
    (h27 : (P.make == some c.make) = true)
    (h28 : (c.kinds == (if c.domain.isEmpty then [] else fn.params.toList.map fun t => match P.underlying t with | some (.int k) => some k | _ => none)) = true)
    (h29 : (c.pinned == c.pinnedBy) = true)
    (h30 : (c.veiled == (fn.params.toList ++ s.plain.varTypes P ++ fn.resultTypes.toList).any (P.veiledRec ·)) = true)
    (h31 : c.veiledFits P fn.params.toList (fn.params.toList ++ s.plain.varTypes P ++ fn.resultTypes.toList) = true) : joinedFacts P f fn s c = true := by
  unfold joinedFacts
  exact (and_b (and_b (and_b (and_b (and_b (and_b (and_b (and_b (and_b (and_b (and_b (and_b (and_b (and_b (and_b (and_b (and_b (and_b (and_b (and_b (and_b (and_b (and_b (and_b (and_b (and_b (and_b (and_b (and_b (and_b (and_b h0 h1) h2) h3) h4) h5) h6) h7) h8) h9) h10) h11) h12) h13) h14) h15) h16) h17) h18) h19) h20) h21) h22) h23) h24) h25) h26) h27) h28) h29) h30) h31)
end Go.Proofs.Ytcfcohnkkgickaa.MkF
